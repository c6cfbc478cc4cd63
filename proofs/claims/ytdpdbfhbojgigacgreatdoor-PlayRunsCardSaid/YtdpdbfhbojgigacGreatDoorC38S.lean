/-
  Several texts as one: KmBoot, KmCut, Both, KeSee, RingSm, AsKeep, CfHeavy.
-/
import Derived.Test.YtdpdbfhbojgigacGreatDoorC37S
import Derived.Deep.RegionHeld3
import Derived.Laws.StructEq
import Derived.Deep.CutBlock
import Derived.Deep.QuietTactic
import Derived.BigQuiet
namespace Go.Proofs.YtdpdbfhbojgigacGreatDoor
open Go.RowKit Go.Extern.Stop Go.Stop Go.Extern
section
variable {F:Nat->Prop}{w0 w w':World}{c:CfgD}{ev:Value}{kb bm:Nat}{K:KSt}{k W:Nat}
theorem opened_d (c:CfgD)(s:CSt)(d d' d'':DSt)(L:List Rec)(sp:Bool)(ls:List LSt)(t:TSt):KSt.opened c ⟨s,d'',L,sp,ls,t⟩={ ({ KSt.opened c ⟨s,d,[],false,[],TSt.new 0⟩ with d:=d' }:KSt) with d:=d'' }:=by
 unfold KSt.opened;generalize openL (s.bytes.take s.size)=X;rfl
def KmNew (w0 w:World)(c:CfgD)(ev:Value)(bm:Nat)(s:CSt)(u:Ending)(w':World):Prop:=∃ kb F,u=.returned (.pointer (some ⟨kb,0,none⟩))/\KmAt F w0 w' c ev kb bm (KSt.new c s)/\Below w.heap.size w w'/\(∀ k,F k->(k=bm\/w.heap.size<=k)/\k < w'.heap.size)
set_option maxHeartbeats 2000000 in
set_option maxRecDepth 100000 in
theorem km_new {m:MSt}{s:CSt}(hr:KRt c)(hm:ModAt w bm m)(hs:Sim s m)(hb:153<=s.size)(hlo:w0.heap.size<=bm)(he:EntsAt w0 ev c.ents)(hbel:Below w0.heap.size w0 w) :
  Calls Tryz.prog 40 #[.agg #[.int .i64 c.closed,.int .i64 c.opn,.int .i64 c.cycle,.int .i64 c.delay,ev],.pointer (some ⟨bm,0,none⟩)] w fun e w'=>KmNew w0 w c ev bm s e w':=by
 obtain⟨ea,ec,rfl,-⟩:=id he;have b1:Below w.heap.size w (w.alloc (.cells #[.int .i64 c.closed,.int .i64 c.opn,.int .i64 c.cycle,.int .i64 c.delay,.slice ea c.ents.length ec] 24)):=Below.one _ _;have b2:Below w.heap.size w ((w.alloc (.cells #[.int .i64 c.closed,.int .i64 c.opn,.int .i64 c.cycle,.int .i64 c.delay,.slice ea c.ents.length ec] 24)).alloc (.cells #[.int .i64 c.closed,.int .i64 c.opn,.int .i64 0,.int .i64 0,.int .i64 0,.bool false] 125)):=b1.alloc b1.size _;have b3:Below w.heap.size w (((w.alloc (.cells #[.int .i64 c.closed,.int .i64 c.opn,.int .i64 c.cycle,.int .i64 c.delay,.slice ea c.ents.length ec] 24)).alloc (.cells #[.int .i64 c.closed,.int .i64 c.opn,.int .i64 0,.int .i64 0,.int .i64 0,.bool false] 125)).alloc (.cells #[.int .i64 c.closed,.int .i64 c.opn,.int .i64 c.cycle,.int .i64 c.delay,.slice ea c.ents.length ec,.pointer (some ⟨bm,0,none⟩),.pointer (some ⟨w.heap.size+1,0,none⟩),.pointer none,.slice none 0 0,.pointer none] 130)):=b2.alloc b2.size _;have hdr:(((w.alloc (.cells #[.int .i64 c.closed,.int .i64 c.opn,.int .i64 c.cycle,.int .i64 c.delay,.slice ea c.ents.length ec] 24)).alloc (.cells #[.int .i64 c.closed,.int .i64 c.opn,.int .i64 0,.int .i64 0,.int .i64 0,.bool false] 125)).alloc (.cells #[.int .i64 c.closed,.int .i64 c.opn,.int .i64 c.cycle,.int .i64 c.delay,.slice ea c.ents.length ec,.pointer (some ⟨bm,0,none⟩),.pointer (some ⟨w.heap.size+1,0,none⟩),.pointer none,.slice none 0 0,.pointer none] 130)).heap[w.heap.size+1]?=some (.cells (DSt.new c.closed.toNat c.opn.toNat).row 125 (0,0)):=by
  have e:(DSt.new c.closed.toNat c.opn.toNat).row=#[.int .i64 c.closed,.int .i64 c.opn,.int .i64 0,.int .i64 0,.int .i64 0,.bool false]:=by
   show #[Value.int .i64 ((c.closed.toNat:Nat):Int),Value.int .i64 ((c.opn.toNat:Nat):Int),_,_,_,_]=_
   rw[show ((c.closed.toNat:Nat):Int)=c.closed by have:=hr.cl;omega,show ((c.opn.toNat:Nat):Int)=c.opn by have:=hr.op;omega];rfl
  rw[e]
  refine row_below (Below.one _ _) ?_;have:=heap_alloc_new (w.alloc (.cells #[.int .i64 c.closed,.int .i64 c.opn,.int .i64 c.cycle,.int .i64 c.delay,.slice ea c.ents.length ec] 24)) (.cells #[.int .i64 c.closed,.int .i64 c.opn,.int .i64 0,.int .i64 0,.int .i64 0,.bool false] 125);simpa using this
 have hkr:(((w.alloc (.cells #[.int .i64 c.closed,.int .i64 c.opn,.int .i64 c.cycle,.int .i64 c.delay,.slice ea c.ents.length ec] 24)).alloc (.cells #[.int .i64 c.closed,.int .i64 c.opn,.int .i64 0,.int .i64 0,.int .i64 0,.bool false] 125)).alloc (.cells #[.int .i64 c.closed,.int .i64 c.opn,.int .i64 c.cycle,.int .i64 c.delay,.slice ea c.ents.length ec,.pointer (some ⟨bm,0,none⟩),.pointer (some ⟨w.heap.size+1,0,none⟩),.pointer none,.slice none 0 0,.pointer none] 130)).heap[w.heap.size+1+1]?=some (.cells (kmRowV c (.slice ea c.ents.length ec) bm (w.heap.size+1) (.pointer none) (.slice none 0 0) (.pointer none)) 130 (0,0)):=by
  have hs2:((w.alloc (.cells #[.int .i64 c.closed,.int .i64 c.opn,.int .i64 c.cycle,.int .i64 c.delay,.slice ea c.ents.length ec] 24)).alloc (.cells #[.int .i64 c.closed,.int .i64 c.opn,.int .i64 0,.int .i64 0,.int .i64 0,.bool false] 125)).heap.size=w.heap.size+1+1:=by simp
  rw[<- hs2];exact heap_alloc_new _ _
 have hw0:=hbel.size;have hd:KmHd w0 (((w.alloc (.cells #[.int .i64 c.closed,.int .i64 c.opn,.int .i64 c.cycle,.int .i64 c.delay,.slice ea c.ents.length ec] 24)).alloc (.cells #[.int .i64 c.closed,.int .i64 c.opn,.int .i64 0,.int .i64 0,.int .i64 0,.bool false] 125)).alloc (.cells #[.int .i64 c.closed,.int .i64 c.opn,.int .i64 c.cycle,.int .i64 c.delay,.slice ea c.ents.length ec,.pointer (some ⟨bm,0,none⟩),.pointer (some ⟨w.heap.size+1,0,none⟩),.pointer none,.slice none 0 0,.pointer none] 130)) c (.slice ea c.ents.length ec) (w.heap.size+1+1) bm (w.heap.size+1) (.pointer none) (.slice none 0 0) (.pointer none) m s (DSt.new c.closed.toNat c.opn.toNat):=
  ⟨hkr,hm.below b3,hs,hb,⟨hdr,by have:=hr.cl;show c.closed.toNat<=1000;omega,by have:=hr.op;show c.opn.toNat<=1000;omega,Nat.le_refl _,Nat.le_refl _,Nat.zero_le _⟩,⟨by omega,hlo,by omega⟩,he,hbel.trans (b3.mono hw0)⟩
 have HX:Hid _:=km_open hd hr.nn hr.de.1;have HB3:Hid _:=b3;have hs3:(((w.alloc (.cells #[.int .i64 c.closed,.int .i64 c.opn,.int .i64 c.cycle,.int .i64 c.delay,.slice ea c.ents.length ec] 24)).alloc (.cells #[.int .i64 c.closed,.int .i64 c.opn,.int .i64 0,.int .i64 0,.int .i64 0,.bool false] 125)).alloc (.cells #[.int .i64 c.closed,.int .i64 c.opn,.int .i64 c.cycle,.int .i64 c.delay,.slice ea c.ents.length ec,.pointer (some ⟨bm,0,none⟩),.pointer (some ⟨w.heap.size+1,0,none⟩),.pointer none,.slice none 0 0,.pointer none] 130)).heap.size=w.heap.size+3:=by simp
 have HS3:Hid _:=hs3;have hbm:=hm.lt;have HBm:Hid (bm < w.heap.size):=hbm;clear hd hdr hkr b1 b2 b3 hs3 hm hs he hbel hbm;go_enter Tryz.func40,Tryz.ntmps40
 go_wp2_with fail
 refine Calls.mono HX.out ?_;rintro u w4 ⟨rfl,hopd⟩;have HO:Hid _:=hopd;clear hopd;go_wp2;go_ret;obtain⟨H,rm,bt,v,lx,bs,h1,h2,h3⟩:=HO.out;have hlt:=h1.fam.lt;have hsz:=h3.size;have h33:(((w.alloc (.cells #[.int .i64 c.closed,.int .i64 c.opn,.int .i64 c.cycle,.int .i64 c.delay,.slice ea c.ents.length ec] 24)).alloc (.cells #[.int .i64 c.closed,.int .i64 c.opn,.int .i64 0,.int .i64 0,.int .i64 0,.bool false] 125)).alloc (.cells #[.int .i64 c.closed,.int .i64 c.opn,.int .i64 c.cycle,.int .i64 c.delay,.slice ea c.ents.length ec,.pointer (some ⟨bm,0,none⟩),.pointer (some ⟨w.heap.size+1,0,none⟩),.pointer none,.slice none 0 0,.pointer none] 130)).heap.size=w.heap.size+3:=HS3.out
 refine⟨w.heap.size+1+1,fun k=>∃ i,H i k,rfl,⟨H,_,rm,bt,v,lx,m,bs,h1,fun i k hk=>⟨i,hk⟩⟩,?_,fun k ⟨i,hk⟩=>⟨?_,hlt i k hk⟩⟩
 ·have hb3:Below w.heap.size w (((w.alloc (.cells #[.int .i64 c.closed,.int .i64 c.opn,.int .i64 c.cycle,.int .i64 c.delay,.slice ea c.ents.length ec] 24)).alloc (.cells #[.int .i64 c.closed,.int .i64 c.opn,.int .i64 0,.int .i64 0,.int .i64 0,.bool false] 125)).alloc (.cells #[.int .i64 c.closed,.int .i64 c.opn,.int .i64 c.cycle,.int .i64 c.delay,.slice ea c.ents.length ec,.pointer (some ⟨bm,0,none⟩),.pointer (some ⟨w.heap.size+1,0,none⟩),.pointer none,.slice none 0 0,.pointer none] 130)):=HB3.out;exact Off.below hb3 h3 hb3.size (fun k hk=>by omega)
 ·rcases h2 i k hk with e | e | e | e
  ·exact Or.inr (by omega)
  ·exact Or.inl e
  ·exact Or.inr (by omega)
  ·exact Or.inr (by omega)
set_option maxHeartbeats 2000000 in
set_option maxRecDepth 100000 in
theorem km_boot (h:KmAt F w0 w c ev kb bm K)(hr:KRt c)(hf:KFit c K k W) :
  Calls Tryz.prog 77 #[.pointer (some ⟨kb,0,none⟩)] w fun e w'=>e=.returned (.int .i64 ((K.boot c).2:Int))/\KmPost F w0 w c ev kb bm (K.boot c).1 w':=by
 have HS:Hid (KmPost F w0 w c ev kb bm K w):=KmPost.same h;obtain⟨H,bd,rm,bt,v,lv,m,bs,h1,hF⟩:=h;have HC:Hid (Calls Tryz.prog 111 #[.pointer (some ⟨kb,0,none⟩)] w fun e w'=>e=.returned (.int .i64 (K.on:Int))/\w'=w):=km_on h1;have c5:w.cell? ⟨kb,5,none⟩=some (.pointer (some ⟨bm,0,none⟩)):=h1.cell 5 _ rfl
 by_cases ho:K.on=0
 ·have HB:Hid (K.boot c=(K,10)):=by show _=_;unfold KSt.boot;rw[if_pos ho]
  rw[ho] at HC;clear h1 hF hf hr;go_enter Tryz.func77,Tryz.ntmps77
  go_wp2_with fail
  refine HC.out.mono ?_;rintro e w' ⟨rfl,rfl⟩;go_wp2;go_ret;rw[HB.out];exact⟨rfl,HS.out⟩
 ·have HB:Hid (K.boot c=(KSt.opened c { K with c:={ K.c with off:=false,cut:=false,left:=0 },d:=K.d.start },0)):=by show _=_;unfold KSt.boot;rw[if_neg ho]
  have g0:¬(K.on:Int)=0:=by omega
  have HOn:Hid _:=mon_any bm m w h1.mod;have H1:Hid _:=h1;have HF:Hid _:=hF;have HBig:Hid (153<=K.c.size):=hf.big.size;have HR:Hid _:=hr;clear h1 hF hf hr HS;go_enter Tryz.func77,Tryz.ntmps77
  go_wp2_with fail
  refine HC.out.mono ?_;rintro e w' ⟨rfl,rfl⟩;go_wp2_with fail
  refine Calls.mono HOn.out ?_;rintro e w2 ⟨rfl,hm2,hg2,-⟩;have hof2:Off (H 2) w' w2:=(Off.of_grown hg2).mono (fun k _ e=>by rw[e];exact H1.out.hm);have K2:=H1.out.toRing hof2 hm2 H1.out.sim.on (H1.out.ring.off (Off.of_grown hg2) H1.out.ring.ne (fun g hg e=>H1.out.ring.sep.2 (by rw[hg,e]))) (fun k hk=>Or.inl hk);have hd2:KmHd w0 w2 c ev kb bm bd (.pointer (some ⟨rm,0,none⟩)) lv (.pointer (some ⟨bt,0,none⟩)) _ { K.c with off:=false,cut:=false,left:=0 } K.d:=⟨K2.row,K2.mod,K2.sim,HBig.out,K2.dog,⟨K2.fam.lo 0 kb K2.hk,K2.fam.lo 2 bm K2.hm,K2.fam.lo 3 bd K2.hd⟩,K2.ents,K2.bel⟩;have HX:Hid _:=km_open hd2 HR.out.nn HR.out.de.1;have HK2:Hid _:=K2;have HO2:Hid _:=hof2;clear K2 hd2 hof2 hg2 hm2 HOn HC c5 g0;go_wp2_with fail
  refine Calls.mono HX.out ?_;rintro u w4 ⟨rfl,hopd⟩;obtain⟨H',rm',bt',v',lx',bs',h3,h4,h5⟩:=hopd;have c6:w4.cell? ⟨kb,6,none⟩=some (.pointer (some ⟨bd,0,none⟩)):=h3.cell 6 _ rfl;have d5:w4.cell? ⟨bd,5,none⟩=some (.bool K.d.reset):=h3.dog.c5;have q5:=h3.dog.frozen 5;have hd5:MDogAt (w4.setCell ⟨bd,5,none⟩ (.bool false)) bd ⟨K.d.closed,K.d.opn,K.d.now,K.d.begun,K.d.kicks,false⟩:=h3.dog.set 5 _ rfl h3.dog.hc h3.dog.ho h3.dog.hk h3.dog.hb h3.dog.hn;have hof5:Off (H' 3) w4 (w4.setCell ⟨bd,5,none⟩ (.bool false)):=(Off.of_grown (grown_setCell _ _ _ _)).mono (fun k _ e=>by rw[e];exact h3.hd);have K5:=h3.toDog hof5 hd5;have HK3:Hid _:=h3;have HH4:Hid _:=h4;have HH5:Hid _:=h5;have HO5:Hid _:=hof5;clear h3 h4 h5 hd5 hof5 HX;go_upto_region 6 with fail
  obtain⟨W5,hW5⟩:∃ X,X=w4.setCell ⟨bd,5,none⟩ (.bool false):=⟨_,rfl⟩;rw[<- hW5] at K5 HO5 ⊢;have e6:W5.cell? ⟨kb,6,none⟩=some (.pointer (some ⟨bd,0,none⟩)):=K5.cell 6 _ rfl;have d2:W5.cell? ⟨bd,2,none⟩=some (.int .i64 (K.d.now:Int)):=K5.dog.c2;have d3:W5.cell? ⟨bd,3,none⟩=some (.int .i64 (K.d.begun:Int)):=K5.dog.c3;have q3:=K5.dog.frozen 3;have HK5:Hid _:=K5;clear K5 hW5 c6 d5 q5;go_region
  go_wp2;go_ret;rw[HB.out]
  refine⟨rfl,?_⟩;have h3:=HK3.out;have k5:=HK5.out;have p1:KmPost F w0 w' c ev kb bm _ w2:=KmIn.post HF.out HO2.out HK2.out;have hF3:∀ i k,H' i k->gr F w' w4 k:=fun i k hk=>by
   rcases HH4.out i k hk with e | e | e | e
   ·rw[e];exact Or.inl (HF.out 0 kb H1.out.hk)
   ·rw[e];exact Or.inl (HF.out 2 bm H1.out.hm)
   ·rw[e];exact Or.inl (HF.out 3 bd H1.out.hd)
   ·exact Or.inr ⟨Nat.le_trans HO2.out.size e,h3.fam.lt i k hk⟩
  have p2:KmPost F w0 w' c ev kb bm _ w4:=⟨⟨H',_,_,_,_,_,_,_,h3,hF3⟩,p1.2.trans HH5.out (fun k _ e=>by rw[e];exact HF.out 0 kb H1.out.hk)⟩;have p3:KmPost (gr F w' w4) w0 w4 c ev kb bm _ W5:=KmIn.post hF3 HO5.out k5;have hd6:MDogAt (W5.setCell ⟨bd,3,none⟩ (.int .i64 (K.d.now:Int))) bd K.d.start:=k5.dog.set 3 _ rfl k5.dog.hc k5.dog.ho (Nat.le_trans k5.dog.hk k5.dog.hb) (Nat.le_refl _) k5.dog.hn;have hof6:Off (updH H' 3 w4 W5 3) W5 (W5.setCell ⟨bd,3,none⟩ (.int .i64 (K.d.now:Int))):=(Off.of_grown (grown_setCell _ _ _ _)).mono (fun k _ e=>by rw[e];exact k5.hd);have p4:=KmIn.post (F:=gr F w' W5) (fun i k hk=>gr_gr p2.2.size HO5.out.size (updH_all hF3 3 i k hk)) hof6 (k5.toDog hof6 hd6);have p5:=((p2.trans p3).trans p4).below (below_drewN (Below.refl _ _) 1);rw[opened_d c { K.c with off:=false,cut:=false,left:=0 } K.d ⟨K.d.closed,K.d.opn,K.d.now,K.d.begun,K.d.kicks,false⟩ K.d.start K.L K.sp K.ls K.t];exact p5
end
section
variable {F F':Nat->Prop}{w0 w w':World}{c:CfgD}{ev:Value}{kb bm:Nat}{K:KSt}
theorem km_cut (n:Int)(h:KmAt F w0 w c ev kb bm K)(hn:n<=9223372036854775807) :
  Calls Tryz.prog 76 #[.pointer (some ⟨bm,0,none⟩),.int .i64 n] w fun e w'=>e=.returned (.int .i64 ((K.cut n).2:Int))/\KmPost F w0 w c ev kb bm (K.cut n).1 w':=by
 have hsame:=KmPost.same h;obtain⟨H,bd,rm,bt,v,lv,m,bs,h1,hF⟩:=h
 by_cases h0:n < 0
 ·have hB:K.cut n=(K,2):=by unfold KSt.cut;rw[if_pos h0]
  rw[hB]
  refine(mcut_low bm n w h0).mono ?_;rintro e w' ⟨rfl,rfl⟩;exact⟨rfl,hsame⟩
 ·cases ho:K.c.off
  ·obtain⟨q,rfl⟩:=Int.eq_ofNat_of_zero_le (show 0<=n by omega);have hB:K.cut (q:Int)=({ K with c:={ K.c with cut:=true,left:=q } },0):=by
    unfold KSt.cut;rw[if_neg h0,if_neg (by rw[ho];decide)];rfl
   rw[hB]
   refine(mcut_on bm m q w h1.mod (by rw[h1.sim.off];exact ho)).mono ?_;rintro e w' ⟨rfl,h2,h3,-⟩;have hof:Off (H 2) w w':=(Off.of_grown h3).mono (fun k _ e=>by rw[e];exact h1.hm);have h4:=h1.toRing (L:=K.L) (sp:=K.sp) (v':=v) hof h2 (h1.sim.cutAt q (by omega)) (h1.ring.off (Off.of_grown h3) (fun e=>h1.ring.ne e) (fun g hg e=>h1.ring.sep.2 (by rw[hg,e]))) (fun k hk=>Or.inl hk);exact⟨rfl,KmIn.post hF hof h4⟩
  ·have hB:K.cut n=(K,8):=by unfold KSt.cut;rw[if_neg h0,if_pos ho]
   rw[hB]
   refine(mcut_off bm m n w h1.mod h0 (by rw[h1.sim.off];exact ho)).mono ?_;rintro e w' ⟨rfl,rfl⟩;exact⟨rfl,hsame⟩
theorem KmAt.below (h:KmAt F w0 w c ev kb bm K)(hb:Below w.heap.size w w'):KmAt F w0 w' c ev kb bm K:=by
 obtain⟨H,bd,rm,bt,v,lv,m,bs,h1,h2⟩:=h;exact⟨H,bd,rm,bt,v,lv,m,bs,h1.below hb,h2⟩
theorem KmAt.off {S:Nat->Prop}(h:KmAt F w0 w c ev kb bm K)(ho:Off S w w')(hS:∀ k,F k->¬S k)(hB:∀ k,S k->w0.heap.size<=k):KmAt F w0 w' c ev kb bm K:=by
 obtain⟨H,bd,rm,bt,v,lv,m,bs,h1,h2⟩:=h;exact⟨H,bd,rm,bt,v,lv,m,bs,h1.off ho (fun i k hk=>hS k (h2 i k hk)) hB,h2⟩
end
theorem coded_same (A:Nat->Addr)(j:Nat)(w:World)(hs:Senv A w)(hj:j<=11) :
  Calls Tryz.prog 26 #[errVal A j,.int .i64 (j:Int)] w fun e w'=>e=.returned (.bool true)/\Below w.heap.size w w':=by
 cases j with
 | zero=>exact(coded_nil 0 w).mono fun e w' ⟨he,hw⟩=>by subst hw;exact⟨he,Below.refl _ _⟩
 | succ i=>exact(coded_sent A i ((i+1:Nat):Int) w hs (by omega)).mono fun e w' ⟨he,hb⟩=>⟨by rw[he];simp,hb⟩
section
variable {A:Nat->Addr}{H:Nat->Nat->Prop}{F:Nat->Prop}{w0 w w':World}{c:CfgD}{kb bc bd rb bt:Nat}{lv:Value}{bs:List Nat}{K:KSt}{k W:Nat}
theorem ke_log (h:KeAt F w0 w c kb bc K)(hl:K.L.length<=8) :
  Calls Tryz.prog 24 #[.pointer (some ⟨kb,0,none⟩)] w fun e w'=>∃ v',e=.returned v'/\Recs w' w.heap.size v' K.L/\Below w.heap.size w w':=by
 obtain⟨H,bd,rb,bt,lv,bs,h1,-⟩:=h;have c4:w.cell? ⟨kb,4,none⟩=some (.pointer (some ⟨rb,0,none⟩)):=h1.cell 4 _ rfl;obtain⟨v,hv,-⟩:=h1.ring.ring;have HX:Hid _:=records_any _ rb bc v K.L K.sp w hv (by omega);clear h1 hv;go_enter Tryz.func24,Tryz.ntmps24
 go_wp2_with fail
 refine Calls.mono HX.out ?_;rintro e w1 ⟨v1,rfl,hr,hb⟩;go_wp2;go_ret;exact⟨_,rfl,hr,hb⟩
set_option maxRecDepth 100000 in
set_option maxHeartbeats 1000000 in
theorem ke_cause (h:KeAt F w0 w c kb bc K)(hl:K.L.length<=8) :
  Calls Tryz.prog 29 #[.pointer (some ⟨kb,0,none⟩)] w fun e w'=>e=.returned (.tuple #[(lastR K.L).val,.bool (decide (0 < K.L.length))])/\Below w.heap.size w w':=by
 obtain⟨H,bd,rb,bt,lv,bs,h1,-⟩:=h;have B1:=Below.one w (.cells #[.int .i64 ((Rec.none.seq:Nat):Int),.int .i64 ((Rec.none.ent:Nat):Int),.int .i64 ((Rec.none.kind:Nat):Int),.int .i64 ((Rec.none.tick:Nat):Int)] 57);have Z1:=RecRow.new w .none;have h2:=h1.below B1;obtain⟨W,hW⟩:∃ W,w.alloc (.cells #[.int .i64 ((Rec.none.seq:Nat):Int),.int .i64 ((Rec.none.ent:Nat):Int),.int .i64 ((Rec.none.kind:Nat):Int),.int .i64 ((Rec.none.tick:Nat):Int)] 57)=W:=⟨_,rfl⟩;rw[hW] at B1 Z1 h2;have HW:Hid (w.alloc (.cells #[.int .i64 0,.int .i64 0,.int .i64 0,.int .i64 0] 57)=W):=hW;clear hW;have c4:W.cell? ⟨kb,4,none⟩=some (.pointer (some ⟨rb,0,none⟩)):=h2.cell 4 _ rfl;obtain⟨v,hv,-⟩:=h2.ring.ring;have HX:Hid _:=last_any _ rb bc v K.L K.sp W hv (by omega);have HB1:Hid _:=B1;have HZ1:Hid _:=Z1;generalize lastR K.L=x at HX ⊢;clear h1 hv h2 B1 Z1;go_enter Tryz.func29,Tryz.ntmps29
 go_upto_region 1 with fail
 rw[HW.out];go_wp2_with fail
 refine Calls.mono HX.out ?_;rintro e w1 ⟨rfl,hb⟩;have Z2:RecRow w1 w.heap.size .none:=HZ1.out.below hb HZ1.out.lt;obtain⟨z0,z1,z2,z3⟩:=Z2.at;have f0:=Z2.frozen 0;have f1:=Z2.frozen 1;have f2:=Z2.frozen 2;have f3:=Z2.frozen 3;have HB2:Hid (Below w.heap.size w w1):=HB1.out.trans (hb.mono HB1.out.size);have HZ2:Hid _:=Z2;clear hb Z2 HX c4;unfold Rec.val;go_wp2_with fail
 refine bodyPost_ret (res_rec rfl _ _ w.heap.size x rfl (HZ2.out.set4 x).at) rfl ?_;exact⟨rfl,below_grown HB2.out (grown_set4 _ _ _ _ _ _) HB2.out.size (Nat.le_refl _)⟩
theorem ke_status_no (i:Int)(h:KeAt F w0 w c kb bc K)(hs:SenK A w0)(hi:i < 0\/(K.ls.length:Int)<=i) :
  Calls Tryz.prog 80 #[.pointer (some ⟨kb,0,none⟩),.int .i64 i] w fun e w'=>e=.returned (.tuple #[.string ⟨#[]⟩,errVal A 5])/\Below w.heap.size w w':=by
 obtain⟨H,bd,rb,bt,lv,bs,h1,-⟩:=h;have HX:Hid _:=ke_find_no i h1 hs hi;rw[show errVal A 5=.iface 298 (.pointer (some (A 4))) from rfl] at HX;clear h1 hs hi;go_enter Tryz.func80,Tryz.ntmps80
 go_wp2_with fail
 refine Calls.mono HX.out ?_;rintro e w1 ⟨rfl,hb⟩;go_wp2;go_ret2
 exact⟨rfl,hb⟩
theorem ke_status (n:Nat){s:LSt}(h:KeAt F w0 w c kb bc K)(hsn:K.ls[n]?=some s) :
  Calls Tryz.prog 80 #[.pointer (some ⟨kb,0,none⟩),.int .i64 (n:Int)] w fun e w'=>e=.returned (.tuple #[.string (statB s.status),.nilIface])/\w'=w:=by
 obtain⟨H,bd,rb,bt,lv,bs,h1,-⟩:=h;obtain⟨b,e,g,cap,hb,he,hlv,cp,h4⟩:=h1.locAt hsn;have HX:Hid _:=ke_find n h1 (List.getElem?_eq_some_iff.1 hsn).1 hlv cp;have HL:Hid _:=los_status h4;clear h1 hb he hlv cp h4;generalize statB s.status=y at HL ⊢;go_enter Tryz.func80,Tryz.ntmps80
 go_wp2_with fail
 refine Calls.mono HX.out ?_;rintro e w1 ⟨rfl,rfl⟩;go_wp2_with fail
 refine Calls.mono HL.out ?_;rintro e w1 ⟨rfl,rfl⟩;go_wp2;go_ret2
 exact⟨rfl,rfl⟩
end
structure Reads (w:World)(sa:Option Addr)(L:List Rec):Prop where
 at':L≠[]->∃ g o,sa=some ⟨g,o,.none⟩/\∀ i (h:i < L.length),w.cell? ⟨g,o+i*4,.none⟩=some (.int .i64 (L[i].seq:Int))/\w.cell? ⟨g,o+i*4+1,.none⟩=some (.int .i64 (L[i].ent:Int))/\w.cell? ⟨g,o+i*4+2,.none⟩=some (.int .i64 (L[i].kind:Int))/\w.cell? ⟨g,o+i*4+3,.none⟩=some (.int .i64 (L[i].tick:Int))
theorem Recs.reads {w:World}{B:Nat}{sa:Option Addr}{n c:Nat}{L:List Rec}(h:Recs w B (.slice sa n c) L):Reads w sa L/\n=L.length:=by
 rcases h.row_form with ⟨e,rfl⟩ | ⟨g,cap,e,-,hrow,-,-⟩
 ·cases e;exact⟨⟨fun h=>absurd rfl h⟩,rfl⟩
 ·simp only[Value.slice.injEq] at e;obtain⟨rfl,rfl,rfl⟩:=e
  refine⟨⟨fun _=>⟨g,0,rfl,fun i hi=>?_⟩⟩,rfl⟩;simp only[Nat.zero_add];exact(hrow.cells i hi).1
theorem Reads.below {w w':World}{sa:Option Addr}{L:List Rec}(h:Reads w sa L)(hb:Below w.heap.size w w'):Reads w' sa L:=
 ⟨fun hn=>by
  obtain⟨g,o,e,hc⟩:=h.at' hn;exact⟨g,o,e,fun i hi=>⟨cell_below hb (hc i hi).1,cell_below hb (hc i hi).2.1,cell_below hb (hc i hi).2.2.1,cell_below hb (hc i hi).2.2.2⟩⟩⟩
set_option maxRecDepth 100000 in
set_option maxHeartbeats 1000000 in
theorem same_any (sa sb:Option Addr)(ca cb:Nat)(L:List Rec)(w:World)(ha:Reads w sa L)(hb:Reads w sb L)(hl:L.length<=100) :
  Calls Tryz.prog 47 #[.slice sa L.length ca,.slice sb L.length cb] w fun e w'=>e=.returned (.bool true)/\Below w.heap.size w w':=by
 go_enter Tryz.func47,Tryz.ntmps47
 go_wp2_with fail
 go_loopw [5] (fun i wr=>∃ k:Nat,k<=L.length/\i=.int .i64 k/\Below w.heap.size w wr) (fun i _=>L.length - (intOf i).toNat)
 case atStart=>exact⟨0,Nat.zero_le _,rfl,Below.refl _ _⟩
 case round=>
  obtain⟨k,hk,rfl,hbl⟩:=hrel
  by_cases hlt:k < L.length
  ·obtain⟨ga,oa,rfl,hca⟩:=(ha.below hbl).at' (by intro e;rw[e] at hlt;simp at hlt);obtain⟨gb,ob,rfl,hcb⟩:=(hb.below hbl).at' (by intro e;rw[e] at hlt;simp at hlt);obtain⟨a0,a1,a2,a3⟩:=hca k hlt;obtain⟨b0,b1,b2,b3⟩:=hcb k hlt;have k0:(0:Int)<=(k:Int):=by omega
   have k1:(k:Int) < (L.length:Int):=by omega
   clear hca hcb;generalize L[k]=x at *;go_wp2_with fail
   go_quiet (fail)
   go_wp2_with fail
   exact⟨⟨k+1,by omega,by go_num,below_drewN hbl _⟩,by simp[intOf];omega⟩
  ·go_wp2;go_ret;exact⟨rfl,hbl⟩
section
variable {A:Nat->Addr}{F G:Nat->Prop}{w0 w1 w w':World}{c:CfgD}{kb bc mb bm:Nat}{ev:Value}{K:KSt}
theorem last_rec {L:List Rec}(h:0 < L.length):lastR L=L[L.length - 1]'(by omega):=by
 unfold lastR;rw[List.getLast?_eq_getElem?,List.getElem?_eq_getElem (by omega)];rfl
set_option maxRecDepth 100000 in
set_option maxHeartbeats 8000000 in
theorem asKeeper_at (hK:KeAt F w0 w c kb bc K)(hM:KmAt G w1 w c ev mb bm K)(hs:Senv A w0)(hL:K.L.length<=8)(hn8:c.ents.length<=8) :
  Calls Tryz.prog 42 #[.pointer (some ⟨kb,0,none⟩),.pointer (some ⟨bc,0,none⟩),.pointer (some ⟨mb,0,none⟩)] w fun u w'=>u=.returned (.bool true)/\Below w.heap.size w w':=by
 obtain⟨H,bd,rm,bt,v,lv,m,bs,h1,-⟩:=hM;have HK:Hid (∀ V,Below w.heap.size w V->KeAt F w0 V c kb bc K):=fun V hV=>hK.below hV
 have HM:Hid (∀ V,Below w.heap.size w V->KmIn H w1 V c ev mb bm bd rm bt v lv m bs K):=fun V hV=>h1.below hV
 have HSv:Hid (∀ V,Below w.heap.size w V->Senv A V):=fun V hV=>hs.below (hK.bel.trans (hV.mono hK.bel.size))
 have HS0:Hid (SenK A w0):=hs.ten;have HL8:Hid (K.L.length<=8):=hL;obtain⟨la,lc,hlv⟩:=ow_form h1.own;have hlen:bs.length=K.ls.length:=by rw[h1.blen,h1.llen]
 rw[hlen] at hlv;have hll:K.ls.length<=8:=by rw[h1.llen];exact hn8
 have c5:w.cell? ⟨mb,5,none⟩=some (.pointer (some ⟨bm,0,none⟩)):=h1.cell 5 _ rfl;have c6:w.cell? ⟨mb,6,none⟩=some (.pointer (some ⟨bd,0,none⟩)):=h1.cell 6 _ rfl;have c9:w.cell? ⟨mb,9,none⟩=some (.pointer (some ⟨bt,0,none⟩)):=h1.cell 9 _ rfl;have d2:w.cell? ⟨bd,2,none⟩=some (.int .i64 (K.d.now:Int)):=h1.dog.cell 2;have d4:w.cell? ⟨bd,4,none⟩=some (.int .i64 (K.d.kicks:Int)):=h1.dog.cell 4;have t2:w.cell? ⟨bt,2,none⟩=some (.string (totB K.t.st)):=by simp[World.cell?,h1.tot,tmRow]
 have b0:w.cell? ⟨bm,0,none⟩=some (.string m.B):=h1.mod.c0;have HNo:Hid (∀ q,Calls Tryz.prog 22 #[.pointer (some ⟨kb,0,none⟩)] (w.drewN q) fun e w'=>e=.returned (.int .i64 (K.d.now:Int))/\w'=w.drewN q):=fun q=>kat_now (hK.below (below_drewN (Below.refl _ _) q))
 have HKi:Hid (∀ q,Calls Tryz.prog 23 #[.pointer (some ⟨kb,0,none⟩)] (w.drewN q) fun e w'=>e=.returned (.int .i64 (K.d.kicks:Int))/\w'=w.drewN q):=fun q=>kat_kicks (hK.below (below_drewN (Below.refl _ _) q))
 have HTo:Hid (∀ q,Calls Tryz.prog 21 #[.pointer (some ⟨kb,0,none⟩)] (w.drewN q) fun e w'=>e=.returned (.string (totB K.t.st))/\w'=w.drewN q):=fun q=>kat_total (hK.below (below_drewN (Below.refl _ _) q))
 have HSt:Hid (∀ q,Calls Tryz.prog 20 #[.pointer (some ⟨kb,0,none⟩)] (w.drewN q) fun e w'=>e=.returned (.string (stateB K.on))/\w'=w.drewN q):=fun q=>kat_state (hK.below (below_drewN (Below.refl _ _) q))
 have HMs:Hid (∀ q,Calls Tryz.prog 79 #[.pointer (some ⟨mb,0,none⟩)] (w.drewN q) fun e w'=>e=.returned (.string (stateB K.on))/\w'=w.drewN q):=fun q=>km_state (h1.below (below_drewN (Below.refl _ _) q))
 have HBy:Hid (∀ q,Calls Tryz.prog 46 #[.pointer (some ⟨bc,0,none⟩)] (w.drewN q) fun e w'=>e=.returned (.string m.B)/\∃ n,w'=w.drewN n):=fun q=>by
  have h2:=bytes_any bc K.c (w.drewN q) ((hK.cellsAt).below (below_drewN (Below.refl _ _) q));rw[h1.sim.bytes] at h2;exact Calls.quiet_of (v:=.string m.B) (h2.mono fun _ _ ⟨a,b⟩=>⟨a,b⟩)
 clear hK hs hL h1 hlen hn8;generalize hX:totB K.t.st=X at t2 HTo;generalize hY:stateB K.on=Y at HSt HMs;generalize hN:(K.d.now:Int)=N at d2 HNo;generalize hKk:(K.d.kicks:Int)=Q at d4 HKi;generalize hB:m.B=B at b0 HBy;clear hX hY hN hKk hB;go_enter Tryz.func42,Tryz.ntmps42
 go_upto_region 1 with fail
 go_cut [67] (fun b wx=>b=.bool false/\Below w.heap.size w wx)
 case first=>
  go_quiet (first | (go_at_call 22;exact Calls.quiet_of_same (HNo.out _)) | (go_at_call 23;exact Calls.quiet_of_same (HKi.out _)) | (go_at_call 21;exact Calls.quiet_of_same (HTo.out _)) | (go_at_call 20;exact Calls.quiet_of_same (HSt.out _)) | (go_at_call 79;exact Calls.quiet_of_same (HMs.out _)) | (go_at_call 46;exact HBy.out _))
  go_wp2_with fail
  go_meet
  case rel=>exact⟨rfl,below_drewN (Below.refl _ _) _⟩
 obtain⟨rfl,hbV⟩:=hcut;rename World=>V
 have HBV:Hid (Below w.heap.size w V):=hbV;clear hbV c5 c6 c9 d2 d4 t2 b0 HNo HKi HTo HSt HMs HBy;go_upto_region 3 with fail
 go_cut [7] (fun i wx=>i=.int .i64 0/\wx=V)
 case first=>
  go_wp2_with fail
  go_meet
  case rel=>exact⟨rfl,rfl⟩
 obtain⟨rfl,rfl⟩:=hcut;rename World=>V
 go_wp2_with fail
 go_loopw [7,8,9] (fun i _ _ wr=>∃ k:Nat,k<=K.ls.length/\i=.int .i64 k/\Below w.heap.size w wr) (fun i _ _ _=>K.ls.length - (intOf i).toNat)
 case atStart=>exact⟨0,Nat.zero_le _,rfl,HBV.out⟩
 case round=>
  clear HBV;obtain⟨k,hk,rfl,hbr⟩:=hrel;have HBr:Hid (Below w.heap.size w wr):=hbr;have hIn:=HM.out wr hbr;have c8:wr.cell? ⟨mb,8,none⟩=some (.slice la K.ls.length lc):=by rw[<- hlv];exact hIn.cell 8 _ rfl
  by_cases hlt:k < K.ls.length
  ·have k1:(k:Int) < (K.ls.length:Int):=by omega
   obtain⟨s,hs⟩:∃ s,K.ls[k]?=some s:=⟨_,List.getElem?_eq_getElem hlt⟩;obtain⟨b,e,E,g,cap,hb,he,hlv2,cp,h4,-⟩:=hIn.locAt hs;rw[hlv2] at hlv;simp only[Value.slice.injEq,true_and] at hlv;obtain⟨rfl,rfl⟩:=hlv;have HX:Hid _:=ke_status k (HK.out wr hbr) hs;have HX2:Hid _:=lmF_status h4 hIn.bel;generalize statB s.status=y at HX HX2;clear hIn h4 hlv2 hb he hs hbr;go_wp2_with fail
   refine Calls.mono HX.out ?_;rintro u w3 ⟨rfl,rfl⟩;go_wp2_with fail
   refine Calls.mono HX2.out ?_;rintro u w4 ⟨rfl,rfl⟩;go_wp2_with fail
   go_roundw
   case rel=>exact⟨k+1,by omega,by go_num,HBr.out⟩
   case measure=>simp[intOf];omega
  ·obtain rfl:k=K.ls.length:=by omega
   have k1:¬(K.ls.length:Int) < (K.ls.length:Int):=by omega
   have HX:Hid _:=ke_status_no (A:=A) (K.ls.length:Int) (HK.out wr hbr) HS0.out (Or.inr (Int.le_refl _));clear hIn hbr;go_wp2_with fail
   refine Calls.mono HX.out ?_;rintro u w3 ⟨rfl,hb3⟩;have HB3:Hid (Below w.heap.size w w3):=HBr.out.trans (hb3.mono HBr.out.size);have HX2:Hid _:=ke_cause (HK.out w3 HB3.out) HL8.out;clear hb3 HX c8 HBr;go_wp2_with fail
   refine Calls.mono HX2.out ?_;rintro u w4 ⟨rfl,hb4⟩;have HB4:Hid (Below w.heap.size w w4):=HB3.out.trans (hb4.mono HB3.out.size);clear hb4 HX2 HB3;unfold Rec.val;obtain⟨W5,hW5⟩:∃ X,X=w4.alloc (.cells #[.int .i64 ((lastR K.L).seq:Int),.int .i64 ((lastR K.L).ent:Int),.int .i64 ((lastR K.L).kind:Int),.int .i64 ((lastR K.L).tick:Int)] 57):=⟨_,rfl⟩;have HR5:Hid (RecRow W5 w4.heap.size (lastR K.L)):=by rw[hW5];exact RecRow.new w4 (lastR K.L)
   have HB5:Hid (Below w.heap.size w W5):=by rw[hW5];exact HB4.out.trans ((Below.one _ _).mono HB4.out.size)
   go_upto_region 11 with fail
   rw[<- hW5];clear hW5 HB4;generalize w4.heap.size=xb at HR5 ⊢;have hIn:=HM.out W5 HB5.out;obtain⟨sm,cm,rfl⟩:=hIn.ring.sl.len;have c7:W5.cell? ⟨mb,7,none⟩=some (.pointer (some ⟨rm,0,none⟩)):=hIn.cell 7 _ rfl;have r1:W5.cell? ⟨rm,1,none⟩=some (.slice sm K.L.length cm):=hIn.ring.c1;have HCo:Hid _:=coded_same A 5 W5 (HSv.out W5 HB5.out) (by decide);have HRd:Hid (∀ V,Below w.heap.size w V->Reads V sm K.L):=fun V hV=>⟨(HM.out V hV).ring.sl.reads.2⟩
   clear hIn;go_wp2_with fail
   refine Calls.mono HCo.out ?_;rintro u w6 ⟨rfl,hb6⟩;have HB6:Hid (Below w.heap.size w w6):=HB5.out.trans (hb6.mono HB5.out.size);have HR6:Hid (RecRow w6 xb (lastR K.L)):=HR5.out.below hb6 HR5.out.lt;have HX3:Hid _:=ke_log (HK.out w6 HB6.out) HL8.out;clear hb6 HB5 HR5 HCo c7 r1;go_wp2_with fail
   refine Calls.mono HX3.out ?_;rintro u w7 ⟨v7,rfl,hrec7,hb7⟩;have HB7:Hid (Below w.heap.size w w7):=HB6.out.trans (hb7.mono HB6.out.size);have HR7:Hid (RecRow w7 xb (lastR K.L)):=HR6.out.below hb7 HR6.out.lt;obtain⟨s7,c7,rfl⟩:=hrec7.len;have HX4:Hid _:=same_any s7 sm c7 cm K.L w7 hrec7.reads.1 (HRd.out w7 HB7.out) (by have:=HL8.out;omega);clear hb7 HB6 HR6 HX3 hrec7;go_wp2_with fail
   refine Calls.mono HX4.out ?_;rintro u w8 ⟨rfl,hb8⟩;have HB8:Hid (Below w.heap.size w w8):=HB7.out.trans (hb8.mono HB7.out.size);have HR8:Hid (RecRow w8 xb (lastR K.L)):=HR7.out.below hb8 HR7.out.lt;have hRd8:=HRd.out w8 HB8.out;clear hb8 HB7 HR7 HX4 HRd;have hl8:=HL8.out
   by_cases h0:K.L.length=0
   ·have hf:decide (0 < K.L.length)=false:=decide_eq_false (by omega);have g0:¬(0:Int) < (K.L.length:Int):=by omega
    rw[hf];clear hRd8;go_wp2_with fail
    go_quiet (fail)
    go_wp2;go_ret;exact⟨rfl,below_drewN HB8.out _⟩
   ·have hf:decide (0 < K.L.length)=true:=decide_eq_true (by omega);have g0:(0:Int) < (K.L.length:Int):=by omega
    rw[hf];obtain⟨g,o,rfl,hcs⟩:=hRd8.at' (fun e=>h0 (by rw[e];rfl));obtain⟨y0,y1,y2,y3⟩:=hcs (K.L.length - 1) (by omega);rw[<- last_rec (by omega)] at y0 y1 y2 y3;obtain⟨x0,x1,x2,x3⟩:=HR8.out.at;have i1:((K.L.length:Int) - 1)=((K.L.length - 1:Nat):Int):=by omega
    generalize lastR K.L=r at *;clear hcs hRd8;go_wp2_with fail
    go_quiet (fail)
    go_wp2;go_ret;exact⟨rfl,below_drewN HB8.out _⟩
end
def heavyC (c:CfgD):Bool:=decide (12 < c.ents.length) || c.ents.any heavyE
theorem heavyC_small {c:CfgD}(h:heavyC c=false):SmallC c:=by
 unfold heavyC at h;simp only[Bool.or_eq_false_iff,decide_eq_false_iff_not] at h;exact⟨by omega,fun e he=>heavyE_small (by simpa using List.any_eq_false.1 h.2 e he)⟩
set_option maxHeartbeats 2000000 in
set_option maxRecDepth 100000 in
theorem heavyC_at (c:CfgD)(sa:Option Addr)(sc:Nat)(w:World)(hE:EntsAt w (.slice sa c.ents.length sc) c.ents) :
  Calls Tryz.prog 11 #[.agg #[.int .i64 c.closed,.int .i64 c.opn,.int .i64 c.cycle,.int .i64 c.delay,.slice sa c.ents.length sc]] w fun v w'=>v=.returned (.int .i64 (one01 (heavyC c)))/\Below w.heap.size w w':=by
 have HE:Hid (EntsAt w (.slice sa c.ents.length sc) c.ents):=hE;clear hE
 by_cases h0:12 < c.ents.length
 ·have HV:Hid (heavyC c=true):=by show _=_;unfold heavyC;simp[h0]
  have g0:(12:Int) < (c.ents.length:Int):=by omega
  clear h0;go_enter Tryz.func11,Tryz.ntmps11
  go_wp2;go_ret;exact⟨by first | rfl | (rw[HV.out];rfl),Below.one _ _⟩
 have g0:¬(12:Int) < (c.ents.length:Int):=by omega
 have HV0:Hid (heavyC c=c.ents.any heavyE):=by show _=_;unfold heavyC;simp[h0]
 have HLn:Hid (c.ents.length<=12):=by show _<=_;omega
 clear h0;go_enter Tryz.func11,Tryz.ntmps11
 go_upto_region 3 with fail
 obtain⟨W0,hW0⟩:∃ V,V=w.alloc (.cells #[.int .i64 c.closed,.int .i64 c.opn,.int .i64 c.cycle,.int .i64 c.delay,.slice sa c.ents.length sc] 24):=⟨_,rfl⟩;rw[<- hW0];have HX:Hid (W0.heap[w.heap.size]?=some (.cells #[.int .i64 c.closed,.int .i64 c.opn,.int .i64 c.cycle,.int .i64 c.delay,.slice sa c.ents.length sc] 24 (0,0))):=by show _=_;rw[hW0];exact heap_alloc_new w _
 have HBl0:Hid (Below w.heap.size w W0):=by show Below _ _ _;rw[hW0];exact Below.one _ _
 clear hW0 g0;go_wp2_with fail
 go_loopw [3] (fun i wr=>∃ k:Nat,k<=c.ents.length/\i=.int .i64 k/\Below W0.heap.size W0 wr/\Hid (∀ (j:Nat) q,j < k->c.ents[j]?=some q->heavyE q=false)) (fun i _=>c.ents.length - (intOf i).toNat)
 case atStart=>exact⟨0,Nat.zero_le _,rfl,Below.refl _ _,fun j q hj=>absurd hj (Nat.not_lt_zero _)⟩
 case round=>
  obtain⟨k,hk,rfl,hb0,hall⟩:=hrel;have hbl:Below w.heap.size w wr:=HBl0.out.trans (hb0.mono HBl0.out.size);have s4:wr.cell? ⟨w.heap.size,4,none⟩=some (.slice sa c.ents.length sc):=by have:=row_below hb0 HX.out;simp[World.cell?,this]
  have HB:Hid (Below W0.heap.size W0 wr):=hb0
  by_cases hlt:k < c.ents.length
  ·obtain⟨e,hq⟩:∃ e,c.ents[k]?=some e:=⟨_,List.getElem?_eq_getElem hlt⟩;obtain⟨sa2,cap2,hsl,hcc⟩:=HE.out
   cases hsl
   obtain⟨b,o,rfl,hc0⟩:=hcc (fun h=>by rw[h] at hq;simp at hq);obtain⟨pv,gv,ev,fv,lv,hparts,hcell⟩:=hc0 k e hq;obtain⟨pa,pc,rfl,-,-⟩:=id hparts.hp;obtain⟨ga,gc,rfl,-,-⟩:=id hparts.hg;obtain⟨ea,ec,rfl,-,-⟩:=id hparts.he;obtain⟨fa,fc,rfl,-,-⟩:=id hparts.hf;obtain⟨la,lc,rfl,-,-⟩:=id hparts.hl;have c0:wr.cell? ⟨b,o+k*10,none⟩=some (.string e.name):=cell_below hbl (hcell 0 _ rfl);have c1:wr.cell? ⟨b,o+k*10+1,none⟩=some (.int .i64 e.tol):=cell_below hbl (hcell 1 _ rfl);have c2:wr.cell? ⟨b,o+k*10+2,none⟩=some (.slice pa e.pts.length pc):=cell_below hbl (hcell 2 _ rfl);have c3:wr.cell? ⟨b,o+k*10+3,none⟩=some (.int .i64 e.cnt):=cell_below hbl (hcell 3 _ rfl);have c4:wr.cell? ⟨b,o+k*10+4,none⟩=some (.int .i64 e.mn):=cell_below hbl (hcell 4 _ rfl);have c5:wr.cell? ⟨b,o+k*10+5,none⟩=some (.int .i64 e.mx):=cell_below hbl (hcell 5 _ rfl);have c6:wr.cell? ⟨b,o+k*10+6,none⟩=some (.slice ga e.gaps.length gc):=cell_below hbl (hcell 6 _ rfl);have c7:wr.cell? ⟨b,o+k*10+7,none⟩=some (.slice ea e.edges.length ec):=cell_below hbl (hcell 7 _ rfl);have c8:wr.cell? ⟨b,o+k*10+8,none⟩=some (.slice fa e.first.length fc):=cell_below hbl (hcell 8 _ rfl);have c9:wr.cell? ⟨b,o+k*10+9,none⟩=some (.slice la e.last.length lc):=cell_below hbl (hcell 9 _ rfl);have HQ:Hid (c.ents[k]?=some e):=hq;have HC0:=heavyE_at e pa ga ea fa la pc gc ec fc lc wr (hparts.hp.below hbl);have k1:(k:Int) < (c.ents.length:Int):=by omega
   have k2:(0:Int)<=(k:Int):=by omega
   have k0:k < 12:=by have:=HLn.out;omega
   cases hh:heavyE e with
   | true=>
    rw[hh,show one01 true=1 from rfl] at HC0;have HC:Hid _:=HC0;have HM:Hid (heavyC c=true):=by show _=_;rw[HV0.out];exact List.any_eq_true.2 ⟨e,List.mem_of_getElem? hq,hh⟩
    have HBl:Hid (Below w.heap.size w wr):=hbl;clear HC0 hh hq hcell hparts hcc hc0 hb0 hbl;go_wp2_with fail
    refine Calls.mono HC.out ?_;rintro v W1 ⟨rfl,hb1⟩;go_wp2;go_ret;exact⟨by first | rfl | (rw[HM.out];rfl),HBl.out.trans (hb1.mono HBl.out.size)⟩
   | false=>
    rw[hh,show one01 false=0 from rfl] at HC0;have HC:Hid _:=HC0;have HH:Hid (heavyE e=false):=hh;clear HC0 hh hq hcell hparts hcc hc0 hb0 hbl;go_wp2_with fail
    refine Calls.mono HC.out ?_;rintro v W1 ⟨rfl,hb1⟩;have HB1:Hid (Below W0.heap.size W0 W1):=HB.out.trans (hb1.mono HB.out.size);clear hb1;go_wp2;go_roundw
    case rel=>
     refine⟨k+1,by omega,by go_num,HB1.out,fun j q' hj he=>?_⟩
     by_cases hjk:j=k
     ·subst hjk;have h2:=HQ.out;rw[h2] at he
      cases he
      exact HH.out
     ·exact hall.out j q' (by omega) he
    case measure=>simp[intOf];omega
  ·have k1:¬(k:Int) < (c.ents.length:Int):=by omega
   have HN:Hid (heavyC c=false):=by
    show _=_
    rw[HV0.out,List.any_eq_false];intro q hq;obtain⟨j,hj,rfl⟩:=List.getElem_of_mem hq;have:=hall.out j _ (by omega) (List.getElem?_eq_getElem hj);simpa using this
   have HBl:Hid (Below w.heap.size w wr):=hbl;clear hb0 hbl;go_wp2;go_ret;exact⟨by first | rfl | (rw[HN.out];rfl),HBl.out⟩
end Go.Proofs.YtdpdbfhbojgigacGreatDoor
