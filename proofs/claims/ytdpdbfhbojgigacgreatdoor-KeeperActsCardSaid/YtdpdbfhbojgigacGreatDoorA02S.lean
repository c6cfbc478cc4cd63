/-
  Several texts as one: KaWalk.
-/
import Derived.Test.YtdpdbfhbojgigacGreatDoorA01S
import Derived.Deep.CutBlock
namespace Go.Proofs.YtdpdbfhbojgigacGreatDoor
open Go.RowKit Go.Extern.Stop Go.Stop Go.Extern
theorem ofText_size (b:ByteArray):(CSt.ofText b.data.toList).size=b.size:=by show b.data.toList.length=b.size;simp
theorem ofText_big (b:ByteArray)(h1:153<=b.size)(h2:b.size<=300):Big (CSt.ofText b.data.toList):=by
 have e:=ofText_size b
 refine⟨?_,by omega,by omega⟩;show (b.data.toList++zeros (4096 - b.data.toList.length)).length=4096
 have:b.data.toList.length=b.size:=by simp
 rw[List.length_append,zeros_length];omega
structure KaL (w0 wr:World)(c:CfgD)(ev:Value)(kb bc mb bm k:Nat)(K:KSt):Prop where
 i:KaI w0 wr c ev kb bc mb bm K K (fun _=>False)
 fit:KFit c K k (144*K.d.now)
 now:K.d.now<=10000*k
theorem KaL.as {A:Nat->Addr}{w0 wr:World}{c:CfgD}{ev:Value}{kb bc mb bm k:Nat}{K:KSt}(h:KaL w0 wr c ev kb bc mb bm k K)(hs:Senv A w0)(hr:KRt c) :
  Calls Tryz.prog 42 #[.pointer (some ⟨kb,0,none⟩),.pointer (some ⟨bc,0,none⟩),.pointer (some ⟨mb,0,none⟩)] wr fun u w'=>u=.returned (.bool true)/\Below wr.heap.size wr w':=by
 obtain⟨F,G,h1,h2,-⟩:=h.i.ex;exact asKeeper_at h1 h2 hs h.fit.llen hr.nn
theorem KaL.below {w0 wr wr':World}{c:CfgD}{ev:Value}{kb bc mb bm k:Nat}{K:KSt}(h:KaL w0 wr c ev kb bc mb bm k K)(hb:Below wr.heap.size wr wr'):KaL w0 wr' c ev kb bc mb bm k K:=⟨h.i.add hb (fun _ h=>h.elim),h.fit,h.now⟩
theorem tmod8 (n:Nat):Int.tmod (n:Int) 8=((n % 8:Nat):Int):=by
 rw[Int.tmod_eq_emod_of_nonneg (by omega)];exact(Int.natCast_emod n 8).symm
theorem errAt_bound {A:Nat->Addr}{w:World}:ErrAt A w (.iface 298 (.pointer (some (A 1)))) (2,-1):=⟨by decide,Or.inl ⟨rfl,rfl⟩⟩
set_option maxRecDepth 100000 in
set_option maxHeartbeats 8000000 in
theorem ka_in (A:Nat->Addr)(c:CfgD)(sa:Option Addr)(sc:Nat)(b:ByteArray)(acts:List ActK)(sl:Option Addr)(slc:Nat)(w:World)(hs:Senv A w)(hE:EntsAt w (.slice sa c.ents.length sc) c.ents)(hAct:SlAt encK 4 w (.slice sl acts.length slc) acts)(hlen:acts.length<=9223372036854775807) :
  Calls Tryz.prog 7 #[.agg #[.int .i64 c.closed,.int .i64 c.opn,.int .i64 c.cycle,.int .i64 c.delay,.slice sa c.ents.length sc],.string b,.slice sl acts.length slc] w fun v w'=>v=.returned (.bool true)/\Below w.heap.size w w':=by
 obtain⟨W0,hW0⟩:∃ X,X=w.alloc (.cells #[.int .i64 c.closed,.int .i64 c.opn,.int .i64 c.cycle,.int .i64 c.delay,.slice sa c.ents.length sc] 24):=⟨_,rfl⟩;have b0:Below w.heap.size w W0:=by rw[hW0];exact Below.one _ _
 have r0:W0.heap[w.heap.size]?=some (.cells #[.int .i64 c.closed,.int .i64 c.opn,.int .i64 c.cycle,.int .i64 c.delay,.slice sa c.ents.length sc] 24 (0,0)):=by rw[hW0];exact heap_alloc_new w _
 have y:∀ V,Below W0.heap.size W0 V->(V.cell? ⟨w.heap.size,0,none⟩=some (.int .i64 c.closed)/\V.cell? ⟨w.heap.size,1,none⟩=some (.int .i64 c.opn)/\V.cell? ⟨w.heap.size,2,none⟩=some (.int .i64 c.cycle)/\V.cell? ⟨w.heap.size,3,none⟩=some (.int .i64 c.delay)/\V.cell? ⟨w.heap.size,4,none⟩=some (.slice sa c.ents.length sc)):=fun V hV=>by
  have:=row_below hV r0
  refine⟨?_,?_,?_,?_,?_⟩ <;> simp[World.cell?,this]
 have HY:Hid _:=y;have HB0:Hid _:=b0;have HWa:Hid _:=watched_at A W0 (hs.below b0).ten;have HE:Hid (∀ V,Below w.heap.size w V->EntsAt V (.slice sa c.ents.length sc) c.ents):=fun V hV=>hE.below hV
 have HSv:Hid (∀ V,Below w.heap.size w V->Senv A V):=fun V hV=>hs.below hV
 have HAc:Hid (∀ V,Below w.heap.size w V->SlAt encK 4 V (.slice sl acts.length slc) acts):=fun V hV=>hAct.below hV
 have HLn:Hid (acts.length<=9223372036854775807):=hlen;clear hs hE hAct hlen b0 r0 y;go_enter Tryz.func7,Tryz.ntmps7
 go_upto_region 1 with fail
 rw[<- hW0];clear hW0;go_wp2_with fail
 refine Calls.mono HWa.out ?_;rintro u w1 ⟨rfl,hb1⟩;have HBb1:Hid (Below W0.heap.size W0 w1):=hb1;have HB1:Hid (Below w.heap.size w w1):=HB0.out.trans (hb1.mono HB0.out.size);clear hb1 HWa;obtain⟨y0,y1,y2,y3,y4⟩:=HY.out w1 HBb1.out;go_wp2_with fail
 clear y0 y1 y2 y3 y4
 refine Calls.mono (heavyC_at c sa sc w1 (HE.out w1 HB1.out)) ?_;rintro u w2 ⟨rfl,hb2⟩;have HBb2:Hid (Below W0.heap.size W0 w2):=HBb1.out.trans (hb2.mono HBb1.out.size);have HB2:Hid (Below w.heap.size w w2):=HB1.out.trans (hb2.mono HB1.out.size);clear hb2
 cases hh:heavyC c
 ·rw[show one01 false=0 from rfl];have HSm:Hid (SmallC c):=heavyC_small hh;clear hh
  by_cases hb3:300 < b.size
  ·have g1:(300:Int) < (b.size:Int):=by omega
   clear hb3;go_wp2;go_ret;exact⟨rfl,HB2.out⟩
  have HBz:∀ _:Unit,b.size<=300:=fun _=>by omega
  have g1:¬(300:Int) < (b.size:Int):=by omega
  clear hb3;have HFi:Hid _:=fit_at acts sl slc 80 w2 (HAc.out w2 HB2.out) HLn.out;go_wp2_with fail
  refine Calls.mono HFi.out ?_;rintro u w2 ⟨fb,rfl,rfl,hfit⟩;clear HFi
  cases fb
  ·go_wp2;go_ret;exact⟨rfl,HB2.out⟩
  have HFt:Hid (Fits1 acts 80):=hfit rfl;have HFm:Hid _:=from_in b w2 (by have:=HBz ();omega);clear hfit;go_wp2_with fail
  clear g1
  refine Calls.mono HFm.out ?_;rintro u w3 ⟨rfl,hb3,hc3⟩;have HBb3:Hid (Below W0.heap.size W0 w3):=HBb2.out.trans (hb3.mono HBb2.out.size);have HB3:Hid (Below w.heap.size w w3):=HB2.out.trans (hb3.mono HB2.out.size);have HB23:Hid (Below w2.heap.size w2 w3):=hb3;have HC3:Hid _:=hc3;have HOw:Hid _:=ownConfig_at c sa sc w3 (HE.out w3 HB3.out) HSm.out;clear hb3 hc3 HFm;generalize hbc:w2.heap.size=bc at HC3 ⊢;have HBc:Hid (w2.heap.size=bc):=hbc;clear hbc;obtain⟨y0,y1,y2,y3,y4⟩:=HY.out w3 HBb3.out;go_wp2_with fail
  clear y0 y1 y2 y3 y4
  refine Calls.mono HOw.out ?_;rintro u w4 ⟨⟨sa',sc',rfl,hown⟩,hb4⟩;have HBb4:Hid (Below W0.heap.size W0 w4):=HBb3.out.trans (hb4.mono HBb3.out.size);have HB4:Hid (Below w.heap.size w w4):=HB3.out.trans (hb4.mono HB3.out.size);have HB24:Hid (Below w2.heap.size w2 w4):=HB23.out.trans (hb4.mono HB23.out.size);have HC4:Hid _:=CellsAt.below HC3.out hb4;have HE4:Hid _:=hown.ents;clear hown hb4 HOw HC3;obtain⟨code,hcode⟩:∃ x,x=(cfgErr c).1:=⟨_,rfl⟩;have HCo:Hid (code=(cfgErr c).1):=hcode
  by_cases hc0:code=0
  ·have h0:(cfgErr c).1=0:=by rw[<- hcode];exact hc0
   have HR:Hid (KRt c):=krt_of h0;have HNw:Hid _:=ke_new_all (A:=A) (w0:=w2) sa' sc' (HSv.out w2 HB2.out).ten HR.out h0 HE4.out HSm.out HC4.out (by rw[HBc.out];exact Nat.le_refl _) HB24.out rfl;have HCf:Hid (∀ V,Below w.heap.size w V->Calls Tryz.prog 12 #[.agg #[.int .i64 c.closed,.int .i64 c.opn,.int .i64 c.cycle,.int .i64 c.delay,.slice sa c.ents.length sc]] V fun v w'=>v=.returned (.agg #[.int .i64 0,.int .i64 (cfgErr c).2])/\Below V.heap.size V w'):=fun V hV=>by
    have:=cfault_at c sa sc V (HE.out V hV) HSm.out;rw[h0] at this;exact this
   clear h0 hcode hc0 HCo;go_wp2_with fail
   refine Calls.mono HNw.out ?_;rintro u w5 hnw;unfold KeNwA at hnw;rw[ofText_size] at hnw
   by_cases hbig:153<=b.size
   ·rw[if_pos hbig] at hnw;obtain⟨kb,F,rfl,hat,hb5,hF5⟩:=hnw;have HBg:∀ _:Unit,153<=b.size/\b.size<=300:=fun _=>⟨hbig,HBz ()⟩
    have g1:¬(b.size:Int) < 153:=by omega
    have HG1:∀ _:Unit,¬(b.size:Int) < 153:=fun _=>g1
    clear hbig g1;have HBb5:Hid (Below W0.heap.size W0 w5):=HBb4.out.trans (hb5.mono HBb4.out.size);have HB5:Hid (Below w.heap.size w w5):=HB4.out.trans (hb5.mono HB4.out.size);have HAt:Hid _:=hat;have HF5:Hid (∀ k,F k->w2.heap.size<=k/\k < w5.heap.size):=fun k hk=>⟨by
     rcases(hF5 k hk).1 with e | e
     ·rw[e,<- HBc.out];exact Nat.le_refl _
     ·exact Nat.le_trans HB24.out.size e,(hF5 k hk).2⟩
    clear hat hb5 hF5 HNw HC4 HE4;obtain⟨y0,y1,y2,y3,y4⟩:=HY.out w5 HBb5.out;go_wp2_with fail
    clear y0 y1 y2 y3 y4
    refine Calls.mono (HCf.out w5 HB5.out) ?_;rintro u w6 ⟨rfl,hb6⟩;have HBb6:Hid (Below W0.heap.size W0 w6):=HBb5.out.trans (hb6.mono HBb5.out.size);have HB6:Hid (Below w.heap.size w w6):=HB5.out.trans (hb6.mono HB5.out.size);have HB56:Hid (Below w5.heap.size w5 w6):=hb6;clear hb6 HCf;obtain⟨W7,hW7⟩:∃ X,X=w6.alloc (.cells #[.int .i64 0,.int .i64 (cfgErr c).2] 29):=⟨_,rfl⟩;have HB67:Hid (Below w6.heap.size w6 W7):=by rw[hW7];exact Below.one _ _
    have f0:W7.cell? ⟨w6.heap.size,0,none⟩=some (.int .i64 0):=by rw[hW7];simp
    go_upto_region 9 with fail
    rw[<- hW7];clear hW7;have HBb7:Hid (Below W0.heap.size W0 W7):=HBb6.out.trans (HB67.out.mono HBb6.out.size);have HB7:Hid (Below w.heap.size w W7):=HB6.out.trans (HB67.out.mono HB6.out.size);have HB57:Hid (Below w5.heap.size w5 W7):=HB56.out.trans (HB67.out.mono HB56.out.size);generalize w6.heap.size=fb at f0 ⊢;have g1:=HG1 ();go_upto_region 15 with fail
    clear g1 f0 HB67 HB56;obtain⟨W8,hW8⟩:∃ X,X=W7.alloc (.cells #[.string b,.bool false,.int .i64 0,.bool false,.int .i64 0] 78):=⟨_,rfl⟩;have HB78:Hid (Below W7.heap.size W7 W8):=by rw[hW8];exact Below.one _ _
    have HM8:Hid (ModAt W8 W7.heap.size ⟨b,false,0,false,0⟩):=⟨by rw[hW8];exact heap_alloc_new W7 _⟩;have HB58:Hid (Below w5.heap.size w5 W8):=HB57.out.trans (HB78.out.mono HB57.out.size);have HB28:Hid (Below w2.heap.size w2 W8):=(KeAt.bel HAt.out).trans (HB58.out.mono (KeAt.bel HAt.out).size);have HZ7:Hid (w5.heap.size<=W7.heap.size):=HB57.out.size;have HZ2:Hid (w2.heap.size<=W7.heap.size):=Nat.le_trans (KeAt.bel HAt.out).size HB57.out.size;have HKm:Hid _:=km_new (w0:=w2) (s:=CSt.ofText b.data.toList) HR.out HM8.out (Sim.text b (by have:=HBz ();omega)) (by rw[ofText_size];exact(HBg ()).1) HZ2.out (HE.out w2 HB2.out) HB28.out;obtain⟨y0,y1,y2,y3,y4⟩:=HY.out W7 HBb7.out;go_wp2_with (go_at_call 40;rw[<- hW8];clear hW8;refine Calls.mono HKm.out ?_)
    clear y0 y1 y2 y3 y4;rintro u w9 ⟨mb,G,rfl,hmt,hb9,hG9⟩;generalize hbm:W7.heap.size=bm at HZ7 HZ2 hmt hG9;have HI:Hid (KaL w2 w9 c (.slice sa c.ents.length sc) kb bc mb bm 0 (KSt.new c (CSt.ofText b.data.toList))):=by
     have hb59:Below w5.heap.size w5 w9:=HB58.out.trans (hb9.mono HB58.out.size);have hgl:∀ k,G k->w5.heap.size<=k/\k < w9.heap.size:=fun k hk=>⟨by
      rcases(hG9 k hk).1 with e | e
      ·rw[e];exact HZ7.out
      ·exact Nat.le_trans HB58.out.size e,(hG9 k hk).2⟩
     refine⟨⟨⟨F,G,KeAt.below HAt.out hb59,hmt,fun k h1 h2=>by have a1:=(HF5.out k h1).2;have a2:=(hgl k h2).1;omega,fun k hk=>⟨(HF5.out k hk).1,Nat.lt_of_lt_of_le (HF5.out k hk).2 hb59.size⟩,fun k hk=>⟨Nat.le_trans (KeAt.bel HAt.out).size (hgl k hk).1,(hgl k hk).2⟩,fun k hk=>hk.elim⟩⟩,?_,Nat.zero_le _⟩;show KFit c _ 0 0
     exact KFit.new HR.out (ofText_big b (HBg ()).1 (HBg ()).2) (Nat.zero_le _) rfl
    clear hbm hmt hb9 hG9 HKm HM8 HB78 HB58 HB28 HZ7 HZ2 HAt HF5 HB57 HBb7 HB7 HBb6 HB6 HBb5 HB5 HBb4 HB4 HB24 HB23 HBb3 HB3 HBb2 HBb1 HB1 HY HB0 HBg HG1 HSm;have HS2:Hid (Senv A w2):=HSv.out w2 HB2.out;have HBl:Hid (∀ V,Below w2.heap.size w2 V->Below w.heap.size w V):=fun V hV=>HB2.out.trans (hV.mono HB2.out.size)
    clear HSv HE;go_upto_region 16 with fail
    go_cut [13] (fun i wx=>i=.int .i64 0/\wx=w9)
    case first=>
     go_wp2_with fail
     go_meet
     case rel=>exact⟨rfl,rfl⟩
    obtain⟨rfl,rfl⟩:=hcut;rename World=>w9
    go_wp2_with fail
    go_loopw [13,14] (fun i _ wr=>∃ (k:Nat) (K:KSt),k<=acts.length/\i=.int .i64 k/\Hid (KaL w2 wr c (.slice sa c.ents.length sc) kb bc mb bm k K)) (fun i _ _=>acts.length - (intOf i).toNat)
    case atStart=>exact⟨0,_,Nat.zero_le _,rfl,HI.out⟩
    case round=>
     clear HI;obtain⟨k,K,hk,rfl,HI⟩:=hrel;have HBf:Hid (Below w2.heap.size w2 wr):=HI.out.i.bel;have hl80:acts.length<=80:=by have:=HFt.out.len;omega
     by_cases hlt:k < acts.length
     ·obtain⟨a,ha⟩:∃ a,acts[k]?=some a:=⟨_,List.getElem?_eq_getElem hlt⟩;obtain⟨ab,ao,rfl,c0,c1,c2,c3⟩:=act_cells (HAc.out wr (HBl.out wr HBf.out)) ha;have k1:(k:Int) < (acts.length:Int):=by omega
      have hn10:a.n<=10000:=HFt.out.each a (List.mem_of_getElem? ha);have hnw:=HI.out.now;have HX:Hid _:=act_at (A:=A) (a:=a) K HI.out.i HS2.out HR.out HI.out.fit (by omega) (by omega) hn10;have hfin:=actK_fit (a:=a) HR.out HI.out.fit (by omega) hn10;have HFn:Hid (∀ V,KaI w2 V c (.slice sa c.ents.length sc) kb bc mb bm (K.actK c a).1 (K.actK c a).1 (fun _=>False)->KaL w2 V c (.slice sa c.ents.length sc) kb bc mb bm (k+1) (K.actK c a).1):=fun V hV=>⟨hV,hfin.1,by have:=hfin.2.1;omega⟩
      have e8:=tmod8 k;generalize (K.actK c a).1=K' at HX HFn;clear hn10 hnw hfin ha HI;go_wp2_with fail
      refine Calls.mono HX.out ?_;rintro u w10 ⟨rfl,hi10⟩;have HL10:Hid _:=HFn.out w10 hi10;clear hi10 HX HFn c0 c1 c2 c3
      by_cases h8:k % 8=0
      ·rw[h8] at e8;have e8':Int.tmod (k:Int) 8=0:=e8;clear e8 h8;have HX2:Hid _:=HL10.out.as HS2.out HR.out;go_wp2_with fail
       refine Calls.mono HX2.out ?_;rintro u w11 ⟨rfl,hb11⟩;have HL11:Hid _:=HL10.out.below hb11;clear hb11 HX2 HL10;go_wp2_with fail
       go_roundw
       case rel=>exact⟨k+1,K',by omega,by go_num,HL11.out⟩
       case measure=>simp[intOf];omega
      ·have e9:¬Int.tmod (k:Int) 8=0:=by rw[e8];omega
       clear e8 h8;go_wp2_with fail
       go_roundw
       case rel=>exact⟨k+1,K',by omega,by go_num,HL10.out⟩
       case measure=>simp[intOf];omega
     ·obtain rfl:k=acts.length:=by omega
      have k1:¬(acts.length:Int) < (acts.length:Int):=by omega
      have HX:Hid _:=HI.out.as HS2.out HR.out;have HBw:Hid _:=HBl.out wr HBf.out;go_wp2_with fail
      refine Calls.mono HX.out ?_;rintro u w10 ⟨rfl,hb10⟩;have HBz2:Hid (Below w.heap.size w w10):=HBw.out.trans (hb10.mono HBw.out.size);clear hb10;go_wp2;go_ret;exact⟨rfl,HBz2.out⟩
   ·rw[if_neg hbig] at hnw;obtain⟨rfl,hb5⟩:=hnw;have g1:(b.size:Int) < 153:=by omega
    have HG1:∀ _:Unit,(b.size:Int) < 153:=fun _=>g1
    clear hbig g1;have HBb5:Hid (Below W0.heap.size W0 w5):=HBb4.out.trans (hb5.mono HBb4.out.size);have HB5:Hid (Below w.heap.size w w5):=HB4.out.trans (hb5.mono HB4.out.size);rw[show errVal A 2=.iface 298 (.pointer (some (A 1))) from rfl];clear hb5 HNw HC4 HE4;obtain⟨y0,y1,y2,y3,y4⟩:=HY.out w5 HBb5.out;go_wp2_with fail
    clear y0 y1 y2 y3 y4
    refine Calls.mono (HCf.out w5 HB5.out) ?_;rintro u w6 ⟨rfl,hb6⟩;have HB6:Hid (Below w.heap.size w w6):=HB5.out.trans (hb6.mono HB5.out.size);clear hb6 HCf;obtain⟨W7,hW7⟩:∃ X,X=w6.alloc (.cells #[.int .i64 0,.int .i64 (cfgErr c).2] 29):=⟨_,rfl⟩;have HR7:Hid (W7.heap[w6.heap.size]?=some (.cells #[.int .i64 0,.int .i64 (cfgErr c).2] 29 (0,0))):=by rw[hW7];exact heap_alloc_new w6 _
    have HB67:Hid (Below w6.heap.size w6 W7):=by rw[hW7];exact Below.one _ _
    have f0:W7.cell? ⟨w6.heap.size,0,none⟩=some (.int .i64 0):=by rw[hW7];simp
    go_upto_region 9 with fail
    rw[<- hW7];clear hW7;have HB7:Hid (Below w.heap.size w W7):=HB6.out.trans (HB67.out.mono HB6.out.size);have HLo:Hid (w.heap.size<=w6.heap.size):=HB6.out.size;generalize w6.heap.size=fb at f0 HR7 HLo ⊢;have g1:=HG1 ();go_wp2_with fail
    clear g1 f0
    refine Calls.mono (bare_at 2 W7) ?_;rintro u w8 ⟨rfl,hb8⟩;have HR8:Hid _:=row_below hb8 HR7.out;have HB8:Hid (Below w.heap.size w w8):=HB7.out.trans (hb8.mono HB7.out.size);have f0:w8.cell? ⟨fb,0,none⟩=some (.int .i64 0):=by simp[World.cell?,HR8.out]
    have f1:w8.cell? ⟨fb,1,none⟩=some (.int .i64 (cfgErr c).2):=by simp[World.cell?,HR8.out]
    have q0:w8.frozen? ⟨fb,0,none⟩=false:=by simp[World.frozen?,HR8.out]
    have q1:w8.frozen? ⟨fb,1,none⟩=false:=by simp[World.frozen?,HR8.out]
    clear hb8 HB67;obtain⟨W9,hW9⟩:∃ X,X=(w8.setCell ⟨fb,0,none⟩ (.int .i64 2)).setCell ⟨fb,1,none⟩ (.int .i64 (-1)):=⟨_,rfl⟩;have f1':(w8.setCell ⟨fb,0,none⟩ (.int .i64 2)).cell? ⟨fb,1,none⟩=some (.int .i64 (cfgErr c).2):=by
     have:=row_put (j:=0) HR8.out (.int .i64 2);simp[World.cell?,this]
    have q1':(w8.setCell ⟨fb,0,none⟩ (.int .i64 2)).frozen? ⟨fb,1,none⟩=false:=by
     have:=row_put (j:=0) HR8.out (.int .i64 2);simp[World.frozen?,this]
    have HR9:Hid (W9.heap[fb]?=some (.cells #[.int .i64 2,.int .i64 (-1)] 29 (0,0))):=by
     have h1:=row_put (j:=0) HR8.out (.int .i64 2);have h2:=row_put (j:=1) h1 (.int .i64 (-1));rw[hW9];exact h2
    have HB9:Hid (Below w.heap.size w W9):=by
     rw[hW9];have h1:=Off.below HB8.out (Off.of_grown (grown_setCell w8 fb 0 (.int .i64 2))) HB8.out.size (fun k hk=>by rw[hk];exact HLo.out);exact Off.below h1 (Off.of_grown (grown_setCell _ fb 1 (.int .i64 (-1)))) h1.size (fun k hk=>by rw[hk];exact HLo.out)
    go_upto_region 11 with fail
    rw[<- hW9];clear hW9 f0 f1 q0 q1 f1' q1';have f0:W9.cell? ⟨fb,0,none⟩=some (.int .i64 2):=by simp[World.cell?,HR9.out]
    have f1:W9.cell? ⟨fb,1,none⟩=some (.int .i64 (-1)):=by simp[World.cell?,HR9.out]
    have HFa:Hid (Calls Tryz.prog 39 #[.iface 298 (.pointer (some (A 1))),.agg #[.int .i64 2,.int .i64 (-1)]] W9 fun e w'=>e=.returned (.bool true)/\Below W9.heap.size W9 w'):=faulted_at A _ (2,-1) 2 (-1) W9 (HSv.out W9 HB9.out) errAt_bound;go_wp2_with fail
    refine Calls.mono HFa.out ?_;rintro u w10 ⟨rfl,hb10⟩;have HB10:Hid (Below w.heap.size w w10):=HB9.out.trans (hb10.mono HB9.out.size);clear hb10 HFa f0 f1;go_wp2;go_ret;exact⟨rfl,HB10.out⟩
  ·have h0:(cfgErr c).1≠0:=by rw[<- hcode];exact hc0
   have HNw:Hid _:=ke_new_bad (A:=A) sa' sc' (.pointer (some ⟨bc,0,none⟩)) (HSv.out w4 HB4.out).ten h0 HE4.out HSm.out;have HCf:Hid (∀ V,Below w.heap.size w V->Calls Tryz.prog 12 #[.agg #[.int .i64 c.closed,.int .i64 c.opn,.int .i64 c.cycle,.int .i64 c.delay,.slice sa c.ents.length sc]] V fun v w'=>v=.returned (.agg #[.int .i64 (code:Int),.int .i64 (cfgErr c).2])/\Below V.heap.size V w'):=fun V hV=>by
    have:=cfault_at c sa sc V (HE.out V hV) HSm.out;rw[<- hcode] at this;exact this
   clear h0 hcode;go_wp2_with fail
   refine Calls.mono HNw.out ?_;rintro u w5 ⟨r,rfl,hr5,hb5⟩;have HBb5:Hid (Below W0.heap.size W0 w5):=HBb4.out.trans (hb5.mono HBb4.out.size);have HB5:Hid (Below w.heap.size w w5):=HB4.out.trans (hb5.mono HB4.out.size);have HR5:Hid _:=hr5;clear hr5 hb5 HNw HC4 HE4;obtain⟨y0,y1,y2,y3,y4⟩:=HY.out w5 HBb5.out;go_wp2_with fail
   clear y0 y1 y2 y3 y4
   refine Calls.mono (HCf.out w5 HB5.out) ?_;rintro u w6 ⟨rfl,hb6⟩;have HB6:Hid (Below w.heap.size w w6):=HB5.out.trans (hb6.mono HB5.out.size);have HR6:Hid _:=ErrAt.below HR5.out hb6;clear hb6 HCf HR5;obtain⟨at',hat'⟩:∃ x,x=(cfgErr c).2:=⟨_,rfl⟩;rw[<- hat'];have HAt:Hid (at'=(cfgErr c).2):=hat';clear hat';obtain⟨W7,hW7⟩:∃ X,X=w6.alloc (.cells #[.int .i64 (code:Int),.int .i64 at'] 29):=⟨_,rfl⟩;have HB67:Hid (Below w6.heap.size w6 W7):=by rw[hW7];exact Below.one _ _
   have f0:W7.cell? ⟨w6.heap.size,0,none⟩=some (.int .i64 (code:Int)):=by rw[hW7];simp
   have f1:W7.cell? ⟨w6.heap.size,1,none⟩=some (.int .i64 at'):=by rw[hW7];simp
   go_upto_region 9 with fail
   rw[<- hW7];clear hW7;have HB7:Hid (Below w.heap.size w W7):=HB6.out.trans (HB67.out.mono HB6.out.size);have HFa:Hid (Calls Tryz.prog 39 #[r,.agg #[.int .i64 (code:Int),.int .i64 at']] W7 fun e w'=>e=.returned (.bool true)/\Below W7.heap.size W7 w'):=by
    have:=faulted_at A r (cfgErr c) (code:Int) at' W7 (HSv.out W7 HB7.out) (ErrAt.below HR6.out HB67.out);rw[<- HAt.out,<- HCo.out,show decide ((code:Int)=(code:Int)/\(code=0\/at'=at'))=true by simp] at this;exact this
   generalize w6.heap.size=fb at f0 f1 ⊢;have g1:¬(code:Int)=0:=by omega
   have g2:0 < (code:Int):=by omega
   go_wp2_with fail
   refine Calls.mono HFa.out ?_;rintro u w10 ⟨rfl,hb10⟩;have HB10:Hid (Below w.heap.size w w10):=HB7.out.trans (hb10.mono HB7.out.size);clear hb10 HFa f0 f1;go_wp2;go_ret;exact⟨rfl,HB10.out⟩
 ·rw[show one01 true=1 from rfl];go_wp2;go_ret;exact⟨rfl,HB2.out⟩
end Go.Proofs.YtdpdbfhbojgigacGreatDoor
