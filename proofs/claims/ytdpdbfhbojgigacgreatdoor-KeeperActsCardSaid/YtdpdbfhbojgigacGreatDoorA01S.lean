/-
  Several texts as one: KaAct, CfHeavy.
-/
import Derived.Test.YtdpdbfhbojgigacGreatDoorA00S
import Derived.Test.YtdpdbfhbojgigacGreatDoorC38S
import Derived.Deep.DeepCutAuto
import Derived.Deep.RegionLaw
import Derived.Laws.Concat
import Derived.BigRegion
import Derived.Deep.RegionHeld3
import Derived.BigQuiet
import Derived.Deep.QuietTactic
import Derived.WalkSmall
import Derived.Deep.AppendLies
import Derived.Laws.StructEq
import Derived.Deep.CutBlock
namespace Go.Proofs.YtdpdbfhbojgigacGreatDoor
open Go.RowKit Go.Extern.Stop Go.Stop Go.Extern
def KSt.actK (c:CfgD)(K:KSt)(a:ActK):KSt × Nat:=
 if (a.kind.toList == [98,101,103,105,110])=true then K.begin a.e
 else if (a.kind.toList == [115,116,111,112])=true then K.stop a.e
 else if (a.kind.toList == [114,101,112,111,114,116])=true then K.report c a.e a.p
 else if (a.kind.toList == [99,117,116])=true then K.cut a.n
 else if (a.kind.toList == [98,111,111,116])=true then K.boot c
 else K.ticks c a.n.toNat
section
variable {c:CfgD}{K:KSt}{k:Nat}{a:ActK}
theorem actK_fit (hr:KRt c)(h:KFit c K k (144*K.d.now))(hn:K.d.now+10000<=1099511627776)(ha:a.n<=10000):KFit c (K.actK c a).1 (k+1) (144*(K.actK c a).1.d.now)/\(K.actK c a).1.d.now<=K.d.now+10000/\(K.actK c a).2<=11:=by
 unfold KSt.actK
 split
 ·rw[begin_now];exact⟨h.begin _,by omega,begin_le K _⟩
 split
 ·rw[stop_now];exact⟨h.stop _,by omega,stop_le K _⟩
 split
 ·rw[report_now];exact⟨h.report _ _,by omega,report_le K _ _⟩
 split
 ·rw[cut_now];exact⟨(h.cut _ (by omega)).mono (by omega) (Nat.le_refl _),by omega,cut_le K _⟩
 split
 ·rw[boot_now];exact⟨(h.boot hr).mono (by omega) (Nat.le_refl _),by omega,boot_le c K⟩
 ·obtain⟨x,y⟩:=KFit.ticks hr a.n.toNat K h (by omega);exact⟨x.mono (by omega) (Nat.le_refl _),by omega,ticks_le hr _ K h (by omega)⟩
end
structure KaI (w0 V:World)(c:CfgD)(ev:Value)(kb bc mb bm:Nat)(Ke Km:KSt)(P:Nat->Prop):Prop where
 ex:∃ F G:Nat->Prop,KeAt F w0 V c kb bc Ke/\KmAt G w0 V c ev mb bm Km/\(∀ k,F k->¬G k)/\(∀ k,F k->w0.heap.size<=k/\k < V.heap.size)/\(∀ k,G k->w0.heap.size<=k/\k < V.heap.size)/\∀ k,P k->k < V.heap.size/\¬F k/\¬G k
section
variable {A:Nat->Addr}{w0 V V':World}{c:CfgD}{ev:Value}{kb bc mb bm:Nat}{Ke Km K':KSt}{P P':Nat->Prop}{F G:Nat->Prop}{a:ActK}{k:Nat}
theorem KaI.bel (h:KaI w0 V c ev kb bc mb bm Ke Km P):Below w0.heap.size w0 V:=by
 obtain⟨F,G,h1,-⟩:=h.ex;exact h1.bel
theorem KaI.mono (h:KaI w0 V c ev kb bc mb bm Ke Km P)(hP:∀ k,P' k->P k):KaI w0 V c ev kb bc mb bm Ke Km P':=by
 obtain⟨F,G,h1,h2,h3,h4,h5,h6⟩:=h.ex;exact⟨⟨F,G,h1,h2,h3,h4,h5,fun k hk=>h6 k (hP k hk)⟩⟩
theorem KaI.add (h:KaI w0 V c ev kb bc mb bm Ke Km P)(hb:Below V.heap.size V V')(hP:∀ k,P' k->P k\/(V.heap.size<=k/\k < V'.heap.size)):KaI w0 V' c ev kb bc mb bm Ke Km P':=by
 obtain⟨Fa,Fb,h1,h2,h3,h4,h5,h6⟩:=h.ex
 refine⟨⟨Fa,Fb,h1.below hb,h2.below hb,h3,fun k hk=>⟨(h4 k hk).1,Nat.lt_of_lt_of_le (h4 k hk).2 hb.size⟩,fun k hk=>⟨(h5 k hk).1,Nat.lt_of_lt_of_le (h5 k hk).2 hb.size⟩,fun k hk=>?_⟩⟩
 rcases hP k hk with h7 | ⟨h7,h8⟩
 ·exact⟨Nat.lt_of_lt_of_le (h6 k h7).1 hb.size,(h6 k h7).2⟩
 ·exact⟨h8,fun e=>by have:=(h4 k e).2;omega,fun e=>by have:=(h5 k e).2;omega⟩
theorem ka_grow {F G:Nat->Prop}(hz:w0.heap.size<=V.heap.size)(ho:Off F V V')(h3:∀ k,F k->¬G k)(h4:∀ k,F k->w0.heap.size<=k/\k < V.heap.size)(h5:∀ k,G k->w0.heap.size<=k/\k < V.heap.size)(h6:∀ k,P k->k < V.heap.size/\¬F k/\¬G k) :
  (∀ k,gr F V V' k->¬G k)/\(∀ k,gr F V V' k->w0.heap.size<=k/\k < V'.heap.size)/\(∀ k,G k->w0.heap.size<=k/\k < V'.heap.size)/\(∀ k,P k->k < V'.heap.size/\¬gr F V V' k/\¬G k)/\∀ k,P k->V'.heap[k]?=V.heap[k]?:=by
 refine⟨fun k hk hg=>?_,fun k hk=>?_,fun k hk=>⟨(h5 k hk).1,Nat.lt_of_lt_of_le (h5 k hk).2 ho.size⟩,fun k hk=>⟨Nat.lt_of_lt_of_le (h6 k hk).1 ho.size,fun hg=>?_,(h6 k hk).2.2⟩,fun k hk=>ho.block k (h6 k hk).1 (h6 k hk).2.1⟩
 ·rcases hk with hk | ⟨hk,_⟩
  ·exact h3 k hk hg
  ·have:=(h5 k hg).2;omega
 ·rcases hk with hk | ⟨hk,h7⟩
  ·exact⟨(h4 k hk).1,Nat.lt_of_lt_of_le (h4 k hk).2 ho.size⟩
  ·exact⟨Nat.le_trans hz hk,h7⟩
 ·rcases hg with hg | ⟨hg,_⟩
  ·exact(h6 k hk).2.1 hg
  ·have:=(h6 k hk).1;omega
theorem KaI.ke {f:FuncId}{args:Array Value}{v:Value}(h:KaI w0 V c ev kb bc mb bm Ke Km P)(hc:∀ F,KeAt F w0 V c kb bc Ke->Calls Tryz.prog f args V fun e w'=>e=.returned v/\KePost F w0 V c kb bc K' w') :
  Calls Tryz.prog f args V fun e w'=>e=.returned v/\KaI w0 w' c ev kb bc mb bm K' Km P/\∀ k,P k->w'.heap[k]?=V.heap[k]?:=by
 obtain⟨F,G,h1,h2,h3,h4,h5,h6⟩:=h.ex
 refine(hc F h1).mono ?_;rintro e w' ⟨rfl,hp⟩;obtain⟨a1,a2,a3,a4,a5⟩:=ka_grow h1.bel.size hp.2 h3 h4 h5 h6;exact⟨rfl,⟨⟨_,G,hp.1,h2.off hp.2 (fun k hg hf=>h3 k hf hg) (fun k hk=>(h4 k hk).1),a1,a2,a3,a4⟩⟩,a5⟩
theorem KaI.km {f:FuncId}{args:Array Value}{v:Value}(h:KaI w0 V c ev kb bc mb bm Ke Km P)(hc:∀ G,KmAt G w0 V c ev mb bm Km->Calls Tryz.prog f args V fun e w'=>e=.returned v/\KmPost G w0 V c ev mb bm K' w') :
  Calls Tryz.prog f args V fun e w'=>e=.returned v/\KaI w0 w' c ev kb bc mb bm Ke K' P/\∀ k,P k->w'.heap[k]?=V.heap[k]?:=by
 obtain⟨F,G,h1,h2,h3,h4,h5,h6⟩:=h.ex
 refine(hc G h2).mono ?_;rintro e w' ⟨rfl,hp⟩;obtain⟨a1,a2,a3,a4,a5⟩:=ka_grow h1.bel.size hp.2 (fun k hg hf=>h3 k hf hg) h5 h4 (fun k hk=>⟨(h6 k hk).1,(h6 k hk).2.2,(h6 k hk).2.1⟩);exact⟨rfl,⟨⟨F,_,h1.off hp.2 (fun k hf hg=>h3 k hf hg) (fun k hk=>(h5 k hk).1),hp.1,fun k hf hg=>a1 k hg hf,a3,a2,fun k hk=>⟨(a4 k hk).1,(a4 k hk).2.2,(a4 k hk).2.1⟩⟩⟩,a5⟩
structure KaB (w0 V:World)(c:CfgD)(ev:Value)(kb bc mb bm:Nat)(Ke Km:KSt)(ab:Nat)(a:ActK):Prop where
 i:KaI w0 V c ev kb bc mb bm Ke Km (fun k=>k=ab)
 row:V.heap[ab]?=some (.cells #[.string a.kind,.int .i64 a.e,.int .i64 a.p,.int .i64 a.n] 44 (0,0))
theorem KaB.below {ab:Nat}(h:KaB w0 V c ev kb bc mb bm Ke Km ab a)(hb:Below V.heap.size V V'):KaB w0 V' c ev kb bc mb bm Ke Km ab a:=⟨h.i.add hb (fun _ hk=>Or.inl hk),row_below hb h.row⟩
theorem KaB.cc {ab:Nat}(h:KaB w0 V c ev kb bc mb bm Ke Km ab a):V.cell? ⟨ab,0,none⟩=some (.string a.kind)/\V.cell? ⟨ab,1,none⟩=some (.int .i64 a.e)/\V.cell? ⟨ab,2,none⟩=some (.int .i64 a.p)/\V.cell? ⟨ab,3,none⟩=some (.int .i64 a.n):=by
 refine⟨?_,?_,?_,?_⟩ <;> simp[World.cell?,h.row]
theorem KaB.m {ab:Nat}(h:KaB w0 V c ev kb bc mb bm Ke Km ab a):V.cell? ⟨mb,5,none⟩=some (.pointer (some ⟨bm,0,none⟩)):=by
 obtain⟨F,G,-,⟨H,bd,rm,bt,v,lv,m,bs,h1,-⟩,-⟩:=h.i.ex;exact h1.cell 5 _ rfl
theorem KaB.ke {ab:Nat}{f:FuncId}{args:Array Value}{v:Value}(h:KaB w0 V c ev kb bc mb bm Ke Km ab a)(hc:∀ F,KeAt F w0 V c kb bc Ke->Calls Tryz.prog f args V fun e w'=>e=.returned v/\KePost F w0 V c kb bc K' w') :
  Calls Tryz.prog f args V fun e w'=>e=.returned v/\KaB w0 w' c ev kb bc mb bm K' Km ab a:=by
 refine(h.i.ke hc).mono ?_;rintro e w' ⟨rfl,h1,h2⟩;exact⟨rfl,h1,(h2 ab rfl).trans h.row⟩
theorem KaB.km {ab:Nat}{f:FuncId}{args:Array Value}{v:Value}(h:KaB w0 V c ev kb bc mb bm Ke Km ab a)(hc:∀ G,KmAt G w0 V c ev mb bm Km->Calls Tryz.prog f args V fun e w'=>e=.returned v/\KmPost G w0 V c ev mb bm K' w') :
  Calls Tryz.prog f args V fun e w'=>e=.returned v/\KaB w0 w' c ev kb bc mb bm Ke K' ab a:=by
 refine(h.i.km hc).mono ?_;rintro e w' ⟨rfl,h1,h2⟩;exact⟨rfl,h1,(h2 ab rfl).trans h.row⟩
set_option maxRecDepth 100000 in
set_option maxHeartbeats 8000000 in
theorem act_at (K:KSt)(h:KaI w0 V c ev kb bc mb bm K K (fun _=>False))(hs:Senv A w0)(hr:KRt c)(hf:KFit c K k (144*K.d.now))(hk:k < 1000)(hn:k+K.d.now+10001<=900000)(ha:a.n<=10000) :
  Calls Tryz.prog 41 #[.pointer (some ⟨kb,0,none⟩),.pointer (some ⟨bc,0,none⟩),.pointer (some ⟨mb,0,none⟩),.agg #[.string a.kind,.int .i64 a.e,.int .i64 a.p,.int .i64 a.n]] V fun u V'=>u=.returned (.bool true)/\KaI w0 V' c ev kb bc mb bm (K.actK c a).1 (K.actK c a).1 (fun _=>False):=by
 obtain⟨W,hW⟩:∃ X,X=V.alloc (.cells #[.string a.kind,.int .i64 a.e,.int .i64 a.p,.int .i64 a.n] 44):=⟨_,rfl⟩;have HB0:Hid (KaB w0 W c ev kb bc mb bm K K V.heap.size a):=by
  rw[hW];exact⟨h.add (Below.one _ _) (fun k hk=>Or.inr ⟨by rw[hk];exact Nat.le_refl _,by rw[hk];simp⟩),heap_alloc_new V _⟩
 have HS:Hid (∀ V',Below w0.heap.size w0 V'->Senv A V'):=fun V' hV=>hs.below hV
 have HS0:Hid (SenK A w0):=hs.ten;have HR:Hid (KRt c):=hr;have HF:Hid _:=hf;have HLe:Hid ((K.actK c a).2<=11):=(actK_fit hr hf (by omega) ha).2.2;have HNk:Hid (k < 1000/\k+K.d.now+10001<=900000/\a.n<=10000):=⟨hk,hn,ha⟩;obtain⟨x0,x1,x2,x3⟩:=HB0.out.cc;have HX0:Hid _:=x0;clear h hs hr hf hk hn ha;go_enter Tryz.func41,Tryz.ntmps41
 go_upto_region 1 with fail
 rw[<- hW];clear hW;generalize V.heap.size=ab at HB0 x0 x1 x2 x3 HX0 ⊢
 cases p1:(a.kind.toList == [98,101,103,105,110])
 ·cases p2:(a.kind.toList == [115,116,111,112])
  ·cases p3:(a.kind.toList == [114,101,112,111,114,116])
   ·cases p4:(a.kind.toList == [99,117,116])
    ·cases p5:(a.kind.toList == [98,111,111,116])
     ·have HE:Hid (K.actK c a=K.ticks c a.n.toNat):=by show _=_;unfold KSt.actK;rw[if_neg (by rw[p1];decide)];rw[if_neg (by rw[p2];decide)];rw[if_neg (by rw[p3];decide)];rw[if_neg (by rw[p4];decide)];rw[if_neg (by rw[p5];decide)]
      rw[HE.out] at HLe;have HX1:Hid (∀ U,KaB w0 U c ev kb bc mb bm K K ab a->Calls Tryz.prog 19 #[.pointer (some ⟨kb,0,none⟩),.int .i64 a.n] U fun e w'=>e=.returned (errVal A (K.ticks c a.n.toNat).2)/\KaB w0 w' c ev kb bc mb bm (K.ticks c a.n.toNat).1 K ab a):=fun U hU=>hU.ke (fun F hF=>ke_ticks a.n hF HS0.out HR.out HF.out (by have:=HNk.out;omega) (by have:=HNk.out;omega))
      have HX2:Hid (∀ U,KaB w0 U c ev kb bc mb bm (K.ticks c a.n.toNat).1 K ab a->Calls Tryz.prog 78 #[.pointer (some ⟨mb,0,none⟩),.int .i64 a.n] U fun e w'=>e=.returned (.int .i64 ((K.ticks c a.n.toNat).2:Int))/\KaB w0 w' c ev kb bc mb bm (K.ticks c a.n.toNat).1 (K.ticks c a.n.toNat).1 ab a):=fun U hU=>hU.km (fun G hG=>km_ticks a.n hG HR.out HF.out (by have:=HNk.out;omega) (by have:=HNk.out;omega) (by have:=HNk.out;omega))
      have HX3:Hid (∀ U,Below w0.heap.size w0 U->Calls Tryz.prog 26 #[errVal A (K.ticks c a.n.toNat).2,.int .i64 ((K.ticks c a.n.toNat).2:Int)] U fun e w'=>e=.returned (.bool true)/\Below U.heap.size U w'):=fun U hU=>coded_same A _ U (HS.out U hU) HLe.out
      clear HLe;generalize K.ticks c a.n.toNat=R at HE HX1 HX2 HX3;obtain⟨K',j⟩:=R;clear HS HS0 HR HF HNk;go_upto_region 12 with fail
      clear x0 x1 x2 p1 p2 p3 p4 p5;have HBd:Hid (KaB w0 (W.drewN 1) c ev kb bc mb bm K K ab a):=HB0.out.below (below_drewN (Below.refl _ _) 1);clear HB0 HX0;go_region_held3 (fun w'=>w'.cell? ⟨ab,3,none⟩=some (.int .i64 a.n)) (first | exact x3 | exact p3 | exact q3 | exact r3) (first | (go_at_call 19;refine Calls.mono (HX1.out _ HBd.out) ?_;rintro e w6 ⟨rfl,h6⟩;have HB6:Hid _:=h6;clear h6;have p3:=HB6.out.cc.2.2.2) | (go_at_call 78;refine Calls.mono (HX2.out _ HB6.out) ?_;rintro e w7 ⟨rfl,h7⟩;have HB7:Hid _:=h7;clear h7;have q3:=HB7.out.cc.2.2.2) | (go_at_call 26;refine Calls.mono (HX3.out _ HB7.out.i.bel) ?_;rintro e w8 ⟨rfl,hb8⟩;have HB8:Hid _:=KaB.below HB7.out hb8;clear hb8;have r3:=HB8.out.cc.2.2.2))
      go_wp2;go_ret;rw[HE.out];exact⟨rfl,HB8.out.i.mono (fun _ h=>h.elim)⟩
     ·have HE:Hid (K.actK c a=K.boot c):=by show _=_;unfold KSt.actK;rw[if_neg (by rw[p1];decide)];rw[if_neg (by rw[p2];decide)];rw[if_neg (by rw[p3];decide)];rw[if_neg (by rw[p4];decide)];rw[if_pos p5]
      rw[HE.out] at HLe;have HX1:Hid (∀ U,KaB w0 U c ev kb bc mb bm K K ab a->Calls Tryz.prog 27 #[.pointer (some ⟨kb,0,none⟩)] U fun e w'=>e=.returned (errVal A (K.boot c).2)/\KaB w0 w' c ev kb bc mb bm (K.boot c).1 K ab a):=fun U hU=>hU.ke (fun F hF=>ke_boot hF HS0.out HR.out HF.out)
      have HX2:Hid (∀ U,KaB w0 U c ev kb bc mb bm (K.boot c).1 K ab a->Calls Tryz.prog 77 #[.pointer (some ⟨mb,0,none⟩)] U fun e w'=>e=.returned (.int .i64 ((K.boot c).2:Int))/\KaB w0 w' c ev kb bc mb bm (K.boot c).1 (K.boot c).1 ab a):=fun U hU=>hU.km (fun G hG=>km_boot hG HR.out HF.out)
      have HX3:Hid (∀ U,Below w0.heap.size w0 U->Calls Tryz.prog 26 #[errVal A (K.boot c).2,.int .i64 ((K.boot c).2:Int)] U fun e w'=>e=.returned (.bool true)/\Below U.heap.size U w'):=fun U hU=>coded_same A _ U (HS.out U hU) HLe.out
      clear HLe;generalize K.boot c=R at HE HX1 HX2 HX3;obtain⟨K',j⟩:=R;clear HS HS0 HR HF HNk;clear x1 x2 x3;go_wp2_with fail
      refine Calls.mono (HX1.out W HB0.out) ?_;rintro e w6 ⟨rfl,h6⟩;have HB6:Hid _:=h6;clear h6 x0 HX0;go_wp2_with fail
      refine Calls.mono (HX2.out w6 HB6.out) ?_;rintro e w7 ⟨rfl,h7⟩;have HB7:Hid _:=h7;clear h7;go_wp2_with fail
      refine Calls.mono (HX3.out w7 HB7.out.i.bel) ?_;rintro e w8 ⟨rfl,hb8⟩;have HB8:Hid _:=KaB.below HB7.out hb8;clear hb8;go_wp2;go_ret;rw[HE.out];exact⟨rfl,HB8.out.i.mono (fun _ h=>h.elim)⟩
    ·have HE:Hid (K.actK c a=K.cut a.n):=by show _=_;unfold KSt.actK;rw[if_neg (by rw[p1];decide)];rw[if_neg (by rw[p2];decide)];rw[if_neg (by rw[p3];decide)];rw[if_pos p4]
     rw[HE.out] at HLe;have HX1:Hid (∀ U,KaB w0 U c ev kb bc mb bm K K ab a->Calls Tryz.prog 30 #[.pointer (some ⟨bc,0,none⟩),.int .i64 a.n] U fun e w'=>e=.returned (errVal A (K.cut a.n).2)/\KaB w0 w' c ev kb bc mb bm (K.cut a.n).1 K ab a):=fun U hU=>hU.ke (fun F hF=>ke_cut a.n hF HS0.out)
     have HX2:Hid (∀ U,KaB w0 U c ev kb bc mb bm (K.cut a.n).1 K ab a->Calls Tryz.prog 76 #[.pointer (some ⟨bm,0,none⟩),.int .i64 a.n] U fun e w'=>e=.returned (.int .i64 ((K.cut a.n).2:Int))/\KaB w0 w' c ev kb bc mb bm (K.cut a.n).1 (K.cut a.n).1 ab a):=fun U hU=>hU.km (fun G hG=>km_cut a.n hG (by have:=HNk.out.2.2;omega))
     have HX3:Hid (∀ U,Below w0.heap.size w0 U->Calls Tryz.prog 26 #[errVal A (K.cut a.n).2,.int .i64 ((K.cut a.n).2:Int)] U fun e w'=>e=.returned (.bool true)/\Below U.heap.size U w'):=fun U hU=>coded_same A _ U (HS.out U hU) HLe.out
     clear HLe;generalize K.cut a.n=R at HE HX1 HX2 HX3;obtain⟨K',j⟩:=R;clear HS HS0 HR HF HNk;have xm:=HB0.out.m;go_upto_region 9 with fail
     clear x0 x1 x2 p1 p2 p3 p4;have HBd:Hid (KaB w0 (W.drewN 1) c ev kb bc mb bm K K ab a):=HB0.out.below (below_drewN (Below.refl _ _) 1);clear HB0 HX0;go_region_held3 (fun w'=>w'.cell? ⟨ab,3,none⟩=some (.int .i64 a.n)/\w'.cell? ⟨mb,5,none⟩=some (.pointer (some ⟨bm,0,none⟩))) (first | exact⟨x3,xm⟩ | exact⟨p3,pm⟩ | exact⟨q3,qm⟩ | exact⟨r3,rm⟩) (first | (go_at_call 30;refine Calls.mono (HX1.out _ HBd.out) ?_;rintro e w6 ⟨rfl,h6⟩;have HB6:Hid _:=h6;clear h6;have p3:=HB6.out.cc.2.2.2;have pm:=HB6.out.m) | (go_at_call 76;refine Calls.mono (HX2.out _ HB6.out) ?_;rintro e w7 ⟨rfl,h7⟩;have HB7:Hid _:=h7;clear h7;have q3:=HB7.out.cc.2.2.2;have qm:=HB7.out.m) | (go_at_call 26;refine Calls.mono (HX3.out _ HB7.out.i.bel) ?_;rintro e w8 ⟨rfl,hb8⟩;have HB8:Hid _:=KaB.below HB7.out hb8;clear hb8;have r3:=HB8.out.cc.2.2.2;have rm:=HB8.out.m))
     go_wp2;go_ret;rw[HE.out];exact⟨rfl,HB8.out.i.mono (fun _ h=>h.elim)⟩
   ·have HE:Hid (K.actK c a=K.report c a.e a.p):=by show _=_;unfold KSt.actK;rw[if_neg (by rw[p1];decide)];rw[if_neg (by rw[p2];decide)];rw[if_pos p3]
    rw[HE.out] at HLe;have HX1:Hid (∀ U,KaB w0 U c ev kb bc mb bm K K ab a->Calls Tryz.prog 18 #[.pointer (some ⟨kb,0,none⟩),.int .i64 a.e,.int .i64 a.p] U fun e w'=>e=.returned (errVal A (K.report c a.e a.p).2)/\KaB w0 w' c ev kb bc mb bm (K.report c a.e a.p).1 K ab a):=fun U hU=>hU.ke (fun F hF=>ke_report a.e a.p hF HS0.out HR.out HF.out HNk.out.1)
    have HX2:Hid (∀ U,KaB w0 U c ev kb bc mb bm (K.report c a.e a.p).1 K ab a->Calls Tryz.prog 75 #[.pointer (some ⟨mb,0,none⟩),.string ⟨#[114,101,112,111,114,116]⟩,.int .i64 a.e,.int .i64 a.p] U fun e w'=>e=.returned (.int .i64 ((K.report c a.e a.p).2:Int))/\KaB w0 w' c ev kb bc mb bm (K.report c a.e a.p).1 (K.report c a.e a.p).1 ab a):=fun U hU=>hU.km (fun G hG=>km_report a.e a.p hG HF.out HNk.out.1)
    have HX3:Hid (∀ U,Below w0.heap.size w0 U->Calls Tryz.prog 26 #[errVal A (K.report c a.e a.p).2,.int .i64 ((K.report c a.e a.p).2:Int)] U fun e w'=>e=.returned (.bool true)/\Below U.heap.size U w'):=fun U hU=>coded_same A _ U (HS.out U hU) HLe.out
    clear HLe;generalize K.report c a.e a.p=R at HE HX1 HX2 HX3;obtain⟨K',j⟩:=R;clear HS HS0 HR HF HNk;go_upto_region 7 with fail
    clear x0 x3 p1 p2 p3;have HBd:Hid (KaB w0 (W.drewN 1) c ev kb bc mb bm K K ab a):=HB0.out.below (below_drewN (Below.refl _ _) 1);clear HB0 HX0;go_region_held3 (fun w'=>w'.cell? ⟨ab,1,none⟩=some (.int .i64 a.e)/\w'.cell? ⟨ab,2,none⟩=some (.int .i64 a.p)) (first | exact⟨x1,x2⟩ | exact⟨p1,p2⟩ | exact⟨q1,q2⟩ | exact⟨r1,r2⟩) (first | (go_at_call 18;refine Calls.mono (HX1.out _ HBd.out) ?_;rintro e w6 ⟨rfl,h6⟩;have HB6:Hid _:=h6;clear h6;have p1:=HB6.out.cc.2.1;have p2:=HB6.out.cc.2.2.1) | (go_at_call 75;refine Calls.mono (HX2.out _ HB6.out) ?_;rintro e w7 ⟨rfl,h7⟩;have HB7:Hid _:=h7;clear h7;have q1:=HB7.out.cc.2.1;have q2:=HB7.out.cc.2.2.1) | (go_at_call 26;refine Calls.mono (HX3.out _ HB7.out.i.bel) ?_;rintro e w8 ⟨rfl,hb8⟩;have HB8:Hid _:=KaB.below HB7.out hb8;clear hb8;have r1:=HB8.out.cc.2.1;have r2:=HB8.out.cc.2.2.1))
    go_wp2;go_ret;rw[HE.out];exact⟨rfl,HB8.out.i.mono (fun _ h=>h.elim)⟩
  ·have HE:Hid (K.actK c a=K.stop a.e):=by show _=_;unfold KSt.actK;rw[if_neg (by rw[p1];decide)];rw[if_pos p2]
   rw[HE.out] at HLe;have HX1:Hid (∀ U,KaB w0 U c ev kb bc mb bm K K ab a->Calls Tryz.prog 17 #[.pointer (some ⟨kb,0,none⟩),.int .i64 a.e] U fun e w'=>e=.returned (errVal A (K.stop a.e).2)/\KaB w0 w' c ev kb bc mb bm (K.stop a.e).1 K ab a):=fun U hU=>hU.ke (fun F hF=>ke_stop a.e hF HS0.out HR.out)
   have HX2:Hid (∀ U,KaB w0 U c ev kb bc mb bm (K.stop a.e).1 K ab a->Calls Tryz.prog 75 #[.pointer (some ⟨mb,0,none⟩),.string ⟨#[115,116,111,112]⟩,.int .i64 a.e,.int .i64 0] U fun e w'=>e=.returned (.int .i64 ((K.stop a.e).2:Int))/\KaB w0 w' c ev kb bc mb bm (K.stop a.e).1 (K.stop a.e).1 ab a):=fun U hU=>hU.km (fun G hG=>km_stop a.e 0 hG)
   have HX3:Hid (∀ U,Below w0.heap.size w0 U->Calls Tryz.prog 26 #[errVal A (K.stop a.e).2,.int .i64 ((K.stop a.e).2:Int)] U fun e w'=>e=.returned (.bool true)/\Below U.heap.size U w'):=fun U hU=>coded_same A _ U (HS.out U hU) HLe.out
   clear HLe;generalize K.stop a.e=R at HE HX1 HX2 HX3;obtain⟨K',j⟩:=R;clear HS HS0 HR HF HNk;go_upto_region 5 with fail
   clear x0 x2 x3 p1 p2;have HBd:Hid (KaB w0 (W.drewN 1) c ev kb bc mb bm K K ab a):=HB0.out.below (below_drewN (Below.refl _ _) 1);clear HB0 HX0;go_region_held3 (fun w'=>w'.cell? ⟨ab,1,none⟩=some (.int .i64 a.e)) (first | exact x1 | exact p1 | exact q1 | exact r1) (first | (go_at_call 17;refine Calls.mono (HX1.out _ HBd.out) ?_;rintro e w6 ⟨rfl,h6⟩;have HB6:Hid _:=h6;clear h6;have p1:=HB6.out.cc.2.1) | (go_at_call 75;refine Calls.mono (HX2.out _ HB6.out) ?_;rintro e w7 ⟨rfl,h7⟩;have HB7:Hid _:=h7;clear h7;have q1:=HB7.out.cc.2.1) | (go_at_call 26;refine Calls.mono (HX3.out _ HB7.out.i.bel) ?_;rintro e w8 ⟨rfl,hb8⟩;have HB8:Hid _:=KaB.below HB7.out hb8;clear hb8;have r1:=HB8.out.cc.2.1))
   go_wp2;go_ret;rw[HE.out];exact⟨rfl,HB8.out.i.mono (fun _ h=>h.elim)⟩
 ·have HE:Hid (K.actK c a=K.begin a.e):=by show _=_;unfold KSt.actK;rw[if_pos p1]
  rw[HE.out] at HLe;have HX1:Hid (∀ U,KaB w0 U c ev kb bc mb bm K K ab a->Calls Tryz.prog 16 #[.pointer (some ⟨kb,0,none⟩),.int .i64 a.e] U fun e w'=>e=.returned (errVal A (K.begin a.e).2)/\KaB w0 w' c ev kb bc mb bm (K.begin a.e).1 K ab a):=fun U hU=>hU.ke (fun F hF=>ke_begin a.e hF HS0.out HR.out)
  have HX2:Hid (∀ U,KaB w0 U c ev kb bc mb bm (K.begin a.e).1 K ab a->Calls Tryz.prog 75 #[.pointer (some ⟨mb,0,none⟩),.string ⟨#[98,101,103,105,110]⟩,.int .i64 a.e,.int .i64 0] U fun e w'=>e=.returned (.int .i64 ((K.begin a.e).2:Int))/\KaB w0 w' c ev kb bc mb bm (K.begin a.e).1 (K.begin a.e).1 ab a):=fun U hU=>hU.km (fun G hG=>km_begin a.e 0 hG)
  have HX3:Hid (∀ U,Below w0.heap.size w0 U->Calls Tryz.prog 26 #[errVal A (K.begin a.e).2,.int .i64 ((K.begin a.e).2:Int)] U fun e w'=>e=.returned (.bool true)/\Below U.heap.size U w'):=fun U hU=>coded_same A _ U (HS.out U hU) HLe.out
  clear HLe;generalize K.begin a.e=R at HE HX1 HX2 HX3;obtain⟨K',j⟩:=R;clear HS HS0 HR HF HNk;go_upto_region 3 with fail
  clear x0 x2 x3 p1;have HBd:Hid (KaB w0 (W.drewN 1) c ev kb bc mb bm K K ab a):=HB0.out.below (below_drewN (Below.refl _ _) 1);clear HB0 HX0;go_region_held3 (fun w'=>w'.cell? ⟨ab,1,none⟩=some (.int .i64 a.e)) (first | exact x1 | exact p1 | exact q1 | exact r1) (first | (go_at_call 16;refine Calls.mono (HX1.out _ HBd.out) ?_;rintro e w6 ⟨rfl,h6⟩;have HB6:Hid _:=h6;clear h6;have p1:=HB6.out.cc.2.1) | (go_at_call 75;refine Calls.mono (HX2.out _ HB6.out) ?_;rintro e w7 ⟨rfl,h7⟩;have HB7:Hid _:=h7;clear h7;have q1:=HB7.out.cc.2.1) | (go_at_call 26;refine Calls.mono (HX3.out _ HB7.out.i.bel) ?_;rintro e w8 ⟨rfl,hb8⟩;have HB8:Hid _:=KaB.below HB7.out hb8;clear hb8;have r1:=HB8.out.cc.2.1))
  go_wp2;go_ret;rw[HE.out];exact⟨rfl,HB8.out.i.mono (fun _ h=>h.elim)⟩
end
theorem code_at (A:Nat->Addr)(r:Value)(f:Nat × Int)(w:World)(hs:Senv A w)(h:ErrAt A w r f):Calls Tryz.prog 65 #[r] w fun e w'=>e=.returned (.tuple #[.int .i64 (f.1:Int),.int .i64 (if f.1=0 then -1 else f.2)])/\Below w.heap.size w w':=by
 obtain⟨h11,⟨h2,rfl⟩ | ⟨hp,b,rfl,h3,h4⟩⟩:=h
 ·cases hf:f.1 with
  | zero=>
   refine(code_nil w).mono ?_;rintro e w' ⟨rfl,rfl⟩;exact⟨by simp,Below.refl _ _⟩
  | succ j=>
   obtain⟨c,t,hr⟩:=hs.row j (by omega)
   refine(code_errs A (A j) j c t w hs (by omega) (fun i hi=>hs.ne j i (by omega) (by omega) (by omega)) (fun _=>rfl) hr).mono ?_;rintro e w' ⟨rfl,hb⟩
   refine⟨?_,hb⟩;rw[if_pos (show j < 11 by omega),if_neg (by omega),h2];rfl
 ·obtain⟨j,hj⟩:∃ j,f.1=j+1:=⟨f.1 - 1,by omega⟩;rw[hj] at h4 ⊢
  refine(code_faults A b 0 f.2 j w hs (by omega) h3 (by simpa[errV] using h4)).mono ?_;rintro e w' ⟨rfl,hb⟩;exact⟨by rw[if_neg (by omega)];rfl,hb⟩
set_option maxHeartbeats 1000000 in
theorem faulted_at (A:Nat->Addr)(r:Value)(f:Nat × Int)(code at':Int)(w:World)(hs:Senv A w)(h:ErrAt A w r f):Calls Tryz.prog 39 #[r,.agg #[.int .i64 code,.int .i64 at']] w fun e w'=>e=.returned (.bool (decide ((f.1:Int)=code/\(f.1=0\/f.2=at'))))/\Below w.heap.size w w':=by
 have H:Hid _:=code_at A r f _ (hs.alloc (.cells #[.int .i64 code,.int .i64 at'] 29)) (h.below (Below.one _ _));have hir:(∃ t x,r=.iface t x)\/r=.nilIface:=by
  obtain⟨-,⟨-,rfl⟩ | ⟨-,b,rfl,-⟩⟩:=h
  ·cases f.1 with
   | zero=>exact Or.inr rfl
   | succ j=>exact Or.inl ⟨_,_,rfl⟩
  ·exact Or.inl ⟨_,_,rfl⟩
 clear h hs;obtain⟨n,m⟩:=f;simp only at H
 by_cases h1:(n:Int)=code
 ·by_cases h2:n=0
  ·subst h2;subst h1;rw[show decide (((0:Nat):Int)=((0:Nat):Int)/\((0:Nat)=0\/m=at'))=true by simp];go_enter Tryz.func39,Tryz.ntmps39
   go_wp2_with fail
   refine Calls.mono H.out ?_;rintro e w' ⟨rfl,hb⟩;have d0:w'.cell? ⟨w.heap.size,0,none⟩=some (.int .i64 0):=cell_below hb (by simp);clear H;go_wp2;go_ret;exact⟨rfl,(Below.one _ _).trans (hb.mono (by simp))⟩
  ·by_cases h3:m=at'
   ·subst h1;subst h3;rw[show decide ((n:Int)=(n:Int)/\(n=0\/m=m))=true by simp];rw[if_neg h2] at H;have e0:((n:Int) == 0)=false:=by rw[beq_eq_false_iff_ne];omega
    clear h2;go_enter Tryz.func39,Tryz.ntmps39
    go_wp2_with fail
    refine Calls.mono H.out ?_;rintro e w' ⟨rfl,hb⟩;have d0:w'.cell? ⟨w.heap.size,0,none⟩=some (.int .i64 (n:Int)):=cell_below hb (by simp);have d1:w'.cell? ⟨w.heap.size,1,none⟩=some (.int .i64 m):=cell_below hb (by simp);clear H;go_wp2;go_ret;exact⟨by first | rfl | simp,(Below.one _ _).trans (hb.mono (by simp))⟩
   ·subst h1;rw[show decide ((n:Int)=(n:Int)/\(n=0\/m=at'))=false by simp[h2,h3]];rw[if_neg h2] at H;have e0:((n:Int) == 0)=false:=by rw[beq_eq_false_iff_ne];omega
    have e1:(m == at')=false:=by simpa using h3
    clear h2 h3;go_enter Tryz.func39,Tryz.ntmps39
    go_wp2_with fail
    refine Calls.mono H.out ?_;rintro e w' ⟨rfl,hb⟩;have d0:w'.cell? ⟨w.heap.size,0,none⟩=some (.int .i64 (n:Int)):=cell_below hb (by simp);have d1:w'.cell? ⟨w.heap.size,1,none⟩=some (.int .i64 at'):=cell_below hb (by simp);clear H;go_wp2;go_ret;exact⟨by first | rfl | simp,(Below.one _ _).trans (hb.mono (by simp))⟩
 ·rw[show decide ((n:Int)=code/\(n=0\/m=at'))=false by simp[h1]];generalize (if n=0 then (-1:Int) else m)=q at H;have e0:((n:Int) == code)=false:=by simpa using h1
  clear h1;go_enter Tryz.func39,Tryz.ntmps39
  go_wp2_with fail
  refine Calls.mono H.out ?_;rintro e w' ⟨rfl,hb⟩;have d0:w'.cell? ⟨w.heap.size,0,none⟩=some (.int .i64 code):=cell_below hb (by simp);clear H;go_wp2;go_ret;exact⟨by first | rfl | simp,(Below.one _ _).trans (hb.mono (by simp))⟩
end Go.Proofs.YtdpdbfhbojgigacGreatDoor
