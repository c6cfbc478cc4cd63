/-
  Several texts as one: GaOps, Offs, GaOff, FlOff, LoMem, GaNew.
-/
import Derived.Test.YtdpdbfhbojgigacGreatDoorC05S
namespace Go.Proofs.YtdpdbfhbojgigacGreatDoor
open Go.RowKit Go.Extern.Stop Go.Stop Go.Extern
variable {B b cap:Nat}{w0 w w':World}{sa:Option Addr}{s:GSt}{xs:List WG}
set_option maxHeartbeats 1000000 in
set_option maxRecDepth 100000 in
theorem gap_report {g o:Nat}{x:WG}{p tick:Int}(h:OneW w g o x)(hf:w.frozen? ⟨g,o+4,none⟩=false)(hx:-1<=x.t/\x.t<=1099511627776)(ht:0<=tick/\tick<=1099511627776) :
  Calls Tryz.prog 167 #[.pointer (some ⟨g,o,none⟩),.int .i64 p,.int .i64 tick] w fun e w'=>e=.returned (.bool (x.bad p tick))/\w'=if p=x.g.fr then w.setCell ⟨g,o+4,none⟩ (.int .i64 tick) else w:=by
 have HO:Hid (OneW w g o x):=h;have HX:Hid (-1<=x.t/\x.t<=1099511627776):=hx;have HT:Hid (0<=tick/\tick<=1099511627776):=ht;have c0:=h 0 _ rfl;have c1:=h 1 _ rfl;have c4:=h 4 _ rfl;simp only[Nat.add_zero] at c0;clear h hx ht
 by_cases g1:p=x.g.to
 ·by_cases g0:p=x.g.fr
  ·rw[if_pos g0];have HR:Hid (x.bad p tick=!x.bears tick):=by show _=_;unfold WG.bad;rw[decide_eq_true g1];rfl
   rw[<- g1] at c1;rw[<- g0] at c0;clear g0 g1;go_enter Tryz.func167,Tryz.ntmps167
   go_wp2_with fail
   refine(bears_at HO.out HX.out HT.out).mono ?_;rintro v w1 ⟨rfl,rfl⟩;go_wp2;go_ret;exact⟨by rw[HR.out];rfl,rfl⟩
  ·rw[if_neg g0];have HR:Hid (x.bad p tick=!x.bears tick):=by show _=_;unfold WG.bad;rw[decide_eq_true g1];rfl
   rw[<- g1] at c1;clear g1;go_enter Tryz.func167,Tryz.ntmps167
   go_wp2_with fail
   refine(bears_at HO.out HX.out HT.out).mono ?_;rintro v w1 ⟨rfl,rfl⟩;go_wp2;go_ret;exact⟨by rw[HR.out];rfl,rfl⟩
 ·have HR:Hid (x.bad p tick=false):=by show _=_;unfold WG.bad;rw[decide_eq_false g1];rfl
  by_cases g0:p=x.g.fr
  ·rw[if_pos g0];rw[<- g0] at c0;clear g0;go_enter Tryz.func167,Tryz.ntmps167
   go_wp2;go_ret;exact⟨by rw[HR.out];rfl,rfl⟩
  ·rw[if_neg g0];go_enter Tryz.func167,Tryz.ntmps167
   go_wp2;go_ret;exact⟨by rw[HR.out];rfl,rfl⟩
theorem set_same {α:Type}{l:List α}{k:Nat}{x:α}(h:l[k]?=some x):l.set k x=l:=by
 apply List.ext_getElem?
 intro i;rw[List.getElem?_set]
 split
 ·rename_i e;subst e
  split
  ·exact h.symm
  ·rename_i hk;rw[List.getElem?_eq_none (by omega)] at h
   cases h
 ·rfl
theorem GpAt.round {g o k:Nat}{x:WG}{p tick:Int}(h:GpAt B w b (some ⟨g,o,none⟩) cap s)(hx:s.xs[k]?=some x)(ht:0<=tick/\tick<=1099511627776) :
  GpAt B (if p=x.g.fr then w.setCell ⟨g,o+k*5+4,none⟩ (.int .i64 tick) else w) b (some ⟨g,o,none⟩) cap ⟨s.xs.set k (x.rep p tick),s.bad⟩:=by
 unfold WG.rep
 split
 ·exact h.setTick hx ⟨by omega,ht.2⟩
 ·rw[set_same hx];exact h
end Go.Proofs.YtdpdbfhbojgigacGreatDoor
namespace Go.Proofs.YtdpdbfhbojgigacGreatDoor
open Go.RowKit Go.Extern.Stop Go.Stop Go.Extern
structure Off (S:Nat->Prop)(w w':World):Prop where
 os:w'.os=w.os
 tape:w'.tape=w.tape
 output:w'.output=w.output
 size:w.heap.size<=w'.heap.size
 block:∀ k,k < w.heap.size->¬S k->w'.heap[k]?=w.heap[k]?
theorem Off.refl (S:Nat->Prop)(w:World):Off S w w:=⟨rfl,rfl,rfl,Nat.le_refl _,fun _ _ _=>rfl⟩
theorem Off.trans {S T:Nat->Prop}{a b c:World}(h:Off S a b)(k:Off T b c)(hT:∀ i,i < a.heap.size->T i->S i):Off S a c:=
 ⟨k.os.trans h.os,k.tape.trans h.tape,k.output.trans h.output,Nat.le_trans h.size k.size,fun i hi hn=>(k.block i (Nat.lt_of_lt_of_le hi h.size) (fun ht=>hn (hT i hi ht))).trans (h.block i hi hn)⟩
theorem Off.of_grown {w w':World}{b:Nat}(h:w.grownBy w' (some b)):Off (fun k=>k=b) w w':=
 ⟨h.os,h.tape,h.output,h.size,fun k hk hn=>h.block k hk (by simpa using hn)⟩
theorem Off.of_below {w w':World}(h:Below w.heap.size w w')(S:Nat->Prop):Off S w w':=⟨h.os,h.tape,h.output,h.size,fun k hk _=>h.block k hk⟩
theorem Off.mono {S T:Nat->Prop}{w w':World}(h:Off S w w')(hT:∀ i,i < w.heap.size->S i->T i):Off T w w':=⟨h.os,h.tape,h.output,h.size,fun k hk hn=>h.block k hk (fun hs=>hn (hT k hk hs))⟩
theorem Off.below {S:Nat->Prop}{B:Nat}{a w w':World}(h:Below B a w)(k:Off S w w')(hB:B<=w.heap.size)(hS:∀ i,S i->B<=i):Below B a w':=
 ⟨k.os.trans h.os,k.tape.trans h.tape,k.output.trans h.output,Nat.le_trans h.size k.size,fun i hi=>(k.block i (by omega) (fun hs=>by have:=hS i hs;omega)).trans (h.block i hi)⟩
end Go.Proofs.YtdpdbfhbojgigacGreatDoor
namespace Go.Proofs.YtdpdbfhbojgigacGreatDoor
open Go.RowKit Go.Extern.Stop Go.Stop Go.Extern
def GS (b:Nat)(sa:Option Addr)(n k:Nat):Prop:=k=b\/(0 < n/\∃ o,sa=some ⟨k,o,none⟩)
theorem offG_set {w:World}{b:Nat}{sa:Option Addr}{n k:Nat}(hk:GS b sa n k)(j:Nat)(v:Value):Off (GS b sa n) w (w.setCell ⟨k,j,none⟩ v):=
 (Off.of_grown (grown_setCell w k j v)).mono (fun i _ e=>by subst e;exact hk)
variable {B b cap:Nat}{w0 w w':World}{sa:Option Addr}{s:GSt}{xs:List WG}
set_option maxHeartbeats 1000000 in
set_option maxRecDepth 100000 in
theorem gp_end2 (h:GpAt B w b sa cap s) :
  Calls Tryz.prog 218 #[.pointer (some ⟨b,0,none⟩)] w fun e w'=>e=.returned (.bool (!s.bad))/\GpAt B w' b sa cap s.zero/\Off (GS b sa s.xs.length) w w':=by
 have c1:=h.c1;have f1:=h.f1;have H:Hid (GpAt B (w.setCell ⟨b,1,none⟩ (.bool false)) b sa cap s.zero):=h.setBad false;have HF:Hid (Off (GS b sa s.xs.length) w (w.setCell ⟨b,1,none⟩ (.bool false))):=offG_set (Or.inl rfl) _ _;clear h;go_enter Tryz.func218,Tryz.ntmps218
 go_wp2;go_ret;exact⟨rfl,H.out,HF.out⟩
set_option maxHeartbeats 2000000 in
set_option maxRecDepth 100000 in
theorem gp_report2 (p tick:Int)(h:GpAt B w b sa cap s)(hlen:s.xs.length<=1000000) :
  Calls Tryz.prog 123 #[.pointer (some ⟨b,0,none⟩),.int .i64 p,.int .i64 tick] w fun e w'=>e=.returned (.tuple #[])/\GpAt B w' b sa cap (s.rep p tick)/\Off (GS b sa s.xs.length) w w':=by
 have HH:Hid (GpAt B w b sa cap s):=h;have HL:Hid (s.xs.length<=1000000):=hlen
 by_cases t0:tick < 0
 ·have HR:Hid (s.rep p tick=s):=rep_off (by unfold tickOk;rw[decide_eq_false (by omega)];rfl);clear h;go_enter Tryz.func123,Tryz.ntmps123
  go_wp2;(try simp only[Exit.inBlock,Exit.then]);refine bodyPost_ret (results_none rfl _ _ _) rfl ?_
  exact⟨rfl,by rw[HR.out];exact HH.out,Off.refl _ _⟩
 by_cases t1:1099511627776 < tick
 ·have HR:Hid (s.rep p tick=s):=rep_off (by unfold tickOk;rw[decide_eq_false (p:=tick<=1099511627776) (by omega),Bool.and_false]);clear h;go_enter Tryz.func123,Tryz.ntmps123
  go_wp2;(try simp only[Exit.inBlock,Exit.then]);refine bodyPost_ret (results_none rfl _ _ _) rfl ?_
  exact⟨rfl,by rw[HR.out];exact HH.out,Off.refl _ _⟩
 have HT:Hid (0<=tick/\tick<=1099511627776):=⟨by omega,by omega⟩;have HTk:Hid (tickOk tick=true):=by show _=_;unfold tickOk;rw[decide_eq_true (by omega),decide_eq_true (by omega)];rfl
 have HG:Hid (GpAt B w b sa cap s):=h;have c0:=h.c0;clear h hlen HH;go_enter Tryz.func123,Tryz.ntmps123
 go_wp2_with fail
 go_loopw [18] (fun i wr=>∃ k:Nat,k<=s.xs.length/\i=.int .i64 k/\Off (GS b sa s.xs.length) w wr/\GpAt B wr b sa cap (s.upto p tick k)) (fun i _=>s.xs.length - (intOf i).toNat)
 case atStart=>exact⟨0,Nat.zero_le _,rfl,Off.refl _ _,by rw[GSt.upto_zero];exact HG.out⟩
 case round=>
  clear c0 HG;obtain⟨k,hk,rfl,hfk,hgk⟩:=hrel;have HFr:Hid (Off (GS b sa s.xs.length) w wr):=hfk;have HG:Hid (GpAt B wr b sa cap (s.upto p tick k)):=hgk;have c0:=hgk.c0;rw[GSt.upto_len] at c0;clear hgk hfk
  by_cases hlt:k < s.xs.length
  ·have k1:(k:Int) < (s.xs.length:Int):=by omega
   have k2:k < 1000000:=by have:=HL.out;omega
   obtain⟨x,hx⟩:∃ x,s.xs[k]?=some x:=⟨_,List.getElem?_eq_getElem hlt⟩;have HX:Hid (s.xs[k]?=some x):=hx;have hxu:=GSt.upto_at (p:=p) (tick:=tick) hx;obtain⟨g,o,hsa,hgb,hlo,hcc,cur,hff⟩:=HG.out.sl (fun e=>by rw[e] at hxu;simp at hxu);subst hsa;have HOne:Hid (OneW wr g (o+k*5) x):=fun j u hu=>hcc k x hxu j u hu
   have HF:Hid (wr.frozen? ⟨g,o+k*5+4,none⟩=false):=by show _=_;simp[World.frozen?,hff]
   have HFw:Hid (∀ v,Off (GS b (some ⟨g,o,none⟩) s.xs.length) w (wr.setCell ⟨g,o+k*5+4,none⟩ v)):=fun v=>HFr.out.trans (offG_set (Or.inr ⟨by omega,o,rfl⟩) _ v) (fun _ _ x=>x)
   have HXt:Hid (-1<=x.t/\x.t<=1099511627776):=HG.out.fit x (List.mem_of_getElem? hxu);have HN:Hid (∀ v,(s.upto p tick k).xs.set k (x.rep p tick)=(s.upto p tick (k+1)).xs/\(v=(x.bad p tick || (s.upto p tick k).bad)->v=(s.upto p tick (k+1)).bad)):=fun v=>by rw[GSt.upto_succ HX.out];exact⟨rfl,fun h=>h⟩
   clear hx hxu hgb hlo hcc hff;go_wp2_with fail
   refine(gap_report HOne.out HF.out HXt.out HT.out).mono ?_;rintro v w1 ⟨rfl,hw1⟩;have HG1:Hid (GpAt B w1 b (some ⟨g,o,none⟩) cap ⟨(s.upto p tick k).xs.set k (x.rep p tick),(s.upto p tick k).bad⟩):=by show GpAt _ _ _ _ _ _;rw[hw1];exact HG.out.round (GSt.upto_at HX.out) HT.out
   have HF1:Hid (Off (GS b (some ⟨g,o,none⟩) s.xs.length) w w1):=by
    show Off _ _ _
    rw[hw1]
    split
    ·exact HFw.out _
    ·exact HFr.out
   clear hw1 HG c0 HOne HF HFw HFr;have d1:w1.cell? ⟨b,1,none⟩=some (.bool (s.upto p tick k).bad):=HG1.out.c1;have f1:=HG1.out.f1;have HZ:Hid (∀ v:Bool,v=(x.bad p tick || (s.upto p tick k).bad)->Off (GS b (some ⟨g,o,none⟩) s.xs.length) w (w1.setCell ⟨b,1,none⟩ (.bool v))/\GpAt B (w1.setCell ⟨b,1,none⟩ (.bool v)) b (some ⟨g,o,none⟩) cap (s.upto p tick (k+1))):=fun v hv=>by
    refine⟨HF1.out.trans (offG_set (Or.inl rfl) _ _) (fun _ _ x=>x),?_⟩;have h1:=HG1.out.setBad v;have h2:=HN.out v;have:(⟨(s.upto p tick k).xs.set k (x.rep p tick),v⟩:GSt)=s.upto p tick (k+1):=by rw[h2.1,h2.2 hv]
    rw[<- this];exact h1
   clear HG1 HN HF1;obtain⟨ub,hub⟩:∃ ub,ub=(s.upto p tick k).bad:=⟨_,rfl⟩;rw[<- hub] at HZ d1;clear hub
   cases hb:x.bad p tick
   all_goals
    rw[hb] at HZ;go_wp2_with fail
    go_roundw
    case rel=>exact⟨k+1,by omega,by go_num,HZ.out _ rfl⟩
    case measure=>simp[intOf];omega
  ·have k1:¬(k:Int) < (s.xs.length:Int):=by omega
   have HE:Hid (s.upto p tick k=s.rep p tick):=GSt.upto_all hlt HTk.out;go_wp2;go_end0
   refine⟨rfl,?_,HFr.out⟩;rw[<- HE.out];exact HG.out
end Go.Proofs.YtdpdbfhbojgigacGreatDoor
namespace Go.Proofs.YtdpdbfhbojgigacGreatDoor
open Go.RowKit Go.Extern.Stop Go.Stop Go.Extern
variable {B b m n:Nat}{w0 w w':World}{e:EntD}{s:FSt}{D:DataW Unit}{fv lv:Value}
set_option maxHeartbeats 1000000 in
theorem fl_end2 (h:FlAt B w b e s m n D fv lv) :
  Calls Tryz.prog 219 #[.pointer (some ⟨b,0,none⟩)] w fun z w'=>z=.returned (.bool (!s.bad))/\FlAt B w' b e s.zero m n D fv lv/\w.grownBy w' (some b):=by
 have c5:=h.cell 5 _ rfl;have f5:=h.frozen 5;have HF:Hid (FlAt B (w.setCell ⟨b,5,none⟩ (.bool false)) b e s.zero m n D fv lv):=h.setBad false;clear h;go_enter Tryz.func219,Tryz.ntmps219
 go_wp2;go_ret;exact⟨rfl,HF.out,grown_setCell _ _ _ _⟩
set_option maxHeartbeats 2000000 in
set_option maxRecDepth 100000 in
theorem fl_report2 (p:Int)(h:FlAt B w b e s m n D fv lv) :
  Calls Tryz.prog 124 #[.pointer (some ⟨b,0,none⟩),.int .i64 p] w fun v w'=>v=.returned (.tuple #[])/\FlAt B w' b e (s.rep e p) m n D fv lv/\w.grownBy w' (some b):=by
 have H:Hid (FlAt B w b e s m n D fv lv):=h;have c5:=h.cell 5 _ rfl;have c4:=h.cell 4 _ rfl;have fin:∀ (V:World) (z:Bool),w.grownBy V none->z=(s.bad || !bearsE e s.ah p)->FlAt B (V.setCell ⟨b,5,none⟩ (.bool z)) b e ⟨s.ah,z⟩ m n D fv lv/\FlAt B ((V.setCell ⟨b,5,none⟩ (.bool z)).setCell ⟨b,4,none⟩ (.int .i64 (behindE e p))) b e (s.rep e p) m n D fv lv/\w.grownBy ((V.setCell ⟨b,5,none⟩ (.bool z)).setCell ⟨b,4,none⟩ (.int .i64 (behindE e p))) (some b):=fun V z hV hz=>by
  have hb:=below_of_grown hV;have h1:FlAt B V b e s m n D fv lv:=h.below hb;have h2:=h1.setBad z;have h3:=h2.setAh (behind_fit e p)
  refine⟨h2,?_,?_⟩
  ·unfold FSt.rep;rw[<- hz];exact h3
  ·exact((hV.but (some b)).trans (grown_setCell V b 5 _)).trans (grown_setCell _ b 4 _)
 have HFin:Hid _:=fin;clear h fin
 cases hb:s.bad
 ·rw[hb] at c5 HFin;go_enter Tryz.func124,Tryz.ntmps124
  go_wp2_with fail
  refine(fl_bears s.ah p H.out H.out.fit).mono ?_;rintro v V ⟨rfl,hV⟩;obtain⟨h2,h3⟩:=HFin.out V (!bearsE e s.ah p) hV rfl;have HA:Hid (FlAt B (V.setCell ⟨b,5,none⟩ (.bool (!bearsE e s.ah p))) b e ⟨s.ah,!bearsE e s.ah p⟩ m n D fv lv):=h2;have HZ:Hid _:=h3;have f5:V.frozen? ⟨b,5,none⟩=false:=(H.out.below (below_of_grown hV)).frozen 5;have d5:V.cell? ⟨b,5,none⟩=some (.bool s.bad):=(H.out.below (below_of_grown hV)).cell 5 _ rfl;have d4:=h2.cell 4 _ rfl;have f4:=h2.frozen 4;clear h2 h3 HFin hV c4 c5 H;go_wp2_with (go_at_call 169;refine(fl_behind p HA.out).mono ?_;rintro v w' ⟨rfl,rfl⟩)
  go_end0
  exact⟨rfl,HZ.out⟩
 ·rw[hb] at c5 HFin;obtain⟨h2,h3⟩:=HFin.out w true (gr_refl _ _) rfl;have HA:Hid (FlAt B (w.setCell ⟨b,5,none⟩ (.bool true)) b e ⟨s.ah,true⟩ m n D fv lv):=h2;have HZ:Hid _:=h3;have f5:w.frozen? ⟨b,5,none⟩=false:=H.out.frozen 5;have d4:=h2.cell 4 _ rfl;have f4:=h2.frozen 4;clear h2 h3 HFin H;go_enter Tryz.func124,Tryz.ntmps124
  go_wp2_with (go_at_call 169;refine(fl_behind p HA.out).mono ?_;rintro v w' ⟨rfl,rfl⟩)
  go_end0
  exact⟨rfl,HZ.out⟩
end Go.Proofs.YtdpdbfhbojgigacGreatDoor
namespace Go.Proofs.YtdpdbfhbojgigacGreatDoor
open Go.RowKit Go.Extern.Stop Go.Stop Go.Extern
structure EA where
 pa:Option Addr
 ga:Option Addr
 ea:Option Addr
 fa:Option Addr
 la:Option Addr
 pc:Nat
 gc:Nat
 ec:Nat
 fc:Nat
 lc:Nat
section
variable {F F':Nat->Prop}{w w' w'':World}{b ba bg bf:Nat}{e:EntD}{E:EA}
def OwnF {α:Type}(enc:α->List Value)(k:Nat)(T:TypeId)(F:Nat->Prop)(w:World)(v:Value)(xs:List α):Prop:=SlOwn enc k T 0 w v xs/\∀ g,v.ownBlock=some g->F g
theorem SlOwn.same {α:Type}{enc:α->List Value}{k B:Nat}{T:TypeId}{v:Value}{xs:List α}(h:SlOwn enc k T B w v xs)(hs:∀ g,v.ownBlock=some g->w'.heap[g]?=w.heap[g]?):SlOwn enc k T B w' v xs:=by
 refine⟨h.1,?_⟩
 rcases h.2 with hn | ⟨g,cap,cur,rfl,hb,hgg,rest⟩
 ·exact .inl hn
 ·exact .inr ⟨g,cap,cur,rfl,hb,(hs g rfl).trans hgg,rest⟩
theorem OwnF.same {α:Type}{enc:α->List Value}{k:Nat}{T:TypeId}{v:Value}{xs:List α}(h:OwnF enc k T F w v xs)(hs:∀ k,F k->w'.heap[k]?=w.heap[k]?):OwnF enc k T F w' v xs:=⟨h.1.same (fun g hg=>hs g (h.2 g hg)),h.2⟩
theorem OwnF.mono {α:Type}{enc:α->List Value}{k:Nat}{T:TypeId}{v:Value}{xs:List α}(h:OwnF enc k T F w v xs)(hF:∀ k,k < w.heap.size->F k->F' k):OwnF enc k T F' w v xs:=⟨h.1,fun g hg=>hF g (h.1.lt g hg).2 (h.2 g hg)⟩
theorem OwnF.of {α:Type}{enc:α->List Value}{k B:Nat}{T:TypeId}{v:Value}{xs:List α}(h:SlOwn enc k T B w v xs)(hF:∀ k,B<=k->F k):OwnF enc k T F w v xs:=
 ⟨⟨h.1,h.2.imp id fun ⟨g,cap,cur,h1,_,h3⟩=>⟨g,cap,cur,h1,Nat.zero_le _,h3⟩⟩,fun g hg=>hF g (h.lt g hg).1⟩
structure PartsF (F:Nat->Prop)(w:World)(e:EntD)(E:EA):Prop where
 hp:OwnF encS 1 9 F w (.slice E.pa e.pts.length E.pc) e.pts
 hg:OwnF encG 4 145 F w (.slice E.ga e.gaps.length E.gc) e.gaps
 he:OwnF encP 2 146 F w (.slice E.ea e.edges.length E.ec) e.edges
 hf:OwnF encI 1 3 F w (.slice E.fa e.first.length E.fc) e.first
 hl:OwnF encI 1 3 F w (.slice E.la e.last.length E.lc) e.last
theorem PartsF.parts (h:PartsF F w e E):EntParts w e (.slice E.pa e.pts.length E.pc) (.slice E.ga e.gaps.length E.gc) (.slice E.ea e.edges.length E.ec) (.slice E.fa e.first.length E.fc) (.slice E.la e.last.length E.lc):=
 ⟨h.hp.1.slat (fun _=>rfl),h.hg.1.slat (fun _=>rfl),h.he.1.slat (fun _=>rfl),h.hf.1.slat (fun _=>rfl),h.hl.1.slat (fun _=>rfl)⟩
theorem PartsF.same (h:PartsF F w e E)(hs:∀ k,F k->w'.heap[k]?=w.heap[k]?):PartsF F w' e E:=⟨h.hp.same hs,h.hg.same hs,h.he.same hs,h.hf.same hs,h.hl.same hs⟩
theorem PartsF.mono (h:PartsF F w e E)(hF:∀ k,k < w.heap.size->F k->F' k):PartsF F' w e E:=⟨h.hp.mono hF,h.hg.mono hF,h.he.mono hF,h.hf.mono hF,h.hl.mono hF⟩
def TyL (T:TypeId):Prop:=T=154\/T=237\/T=240\/T=242\/T=245
structure FrL (F:Nat->Prop)(w w':World):Prop where
 off:Off F w w'
 ty:∀ (k:Nat) (c:Array Value) (T:TypeId) (fr:Nat × Nat),w.heap[k]?=some (.cells c T fr)->¬TyL T->w'.heap[k]?=some (.cells c T fr)
 mp:∀ (k:Nat) (o:Obj),w.heap[k]?=some o->(∀ c T fr,o≠.cells c T fr)->w'.heap[k]?=some o
theorem FrL.refl (F:Nat->Prop)(w:World):FrL F w w:=⟨Off.refl _ _,fun _ _ _ _ h _=>h,fun _ _ h _=>h⟩
theorem FrL.trans (h:FrL F w w')(h':FrL F' w' w'')(hF:∀ k,k < w.heap.size->F' k->F k):FrL F w w'':=⟨h.off.trans h'.off hF,fun k c T fr a d=>h'.ty k c T fr (h.ty k c T fr a d) d,fun k o a d=>h'.mp k o (h.mp k o a d) d⟩
theorem FrL.below (hb:Below w.heap.size w w'):FrL F w w':=⟨Off.of_below hb F,fun _ _ _ _ hk _=>row_below hb hk,fun _ _ hk _=>row_below hb hk⟩
theorem FrL.of (S:Nat->Prop)(h:Off S w w')(hS:∀ k,k < w.heap.size->S k->F k/\∃ c T fr,w.heap[k]?=some (.cells c T fr)/\TyL T):FrL F w w':=by
 refine⟨h.mono (fun i hi hs=>(hS i hi hs).1),fun k c T fr hk hT=>?_,fun k o hk ho=>?_⟩
 ·refine(h.block k (lt_of_row hk) (fun hs=>?_)).trans hk;obtain⟨-,c',T',fr',h1,h2⟩:=hS k (lt_of_row hk) hs;rw[hk] at h1;simp only[Option.some.injEq,Obj.cells.injEq] at h1;obtain⟨-,rfl,-⟩:=h1;exact hT h2
 ·refine(h.block k (lt_of_row hk) (fun hs=>?_)).trans hk;obtain⟨-,c',T',fr',h1,h2⟩:=hS k (lt_of_row hk) hs;rw[hk] at h1;exact ho _ _ _ (Option.some.inj h1)
theorem FrL.put {c:Array Value}{T:TypeId}{fr:Nat × Nat}(hg:w.grownBy w' (some b))(hb:w.heap[b]?=some (.cells c T fr))(hT:TyL T)(hF:F b):FrL F w w':=
 FrL.of _ (Off.of_grown hg) (fun k _ e=>by subst e;exact⟨hF,c,T,fr,hb,hT⟩)
theorem PartsF.fr (h:PartsF F w e E)(hf:FrL F' w w'):PartsF F w' e E:=by
 have g:∀ {α:Type} {enc:α->List Value} {k:Nat} {T:TypeId} {v:Value} {xs:List α},¬TyL T->OwnF enc k T F w v xs->OwnF enc k T F w' v xs:=fun {α} {enc} {k} {T} {v} {xs} hT h=>by
  refine⟨h.1.same (fun g hg=>?_),h.2⟩
  rcases h.1.2 with ⟨rfl,-⟩ | ⟨g',cap,cur,rfl,hb,hgg,rest⟩
  ·simp[Value.ownBlock] at hg
  ·simp only[Value.ownBlock,Option.some.injEq] at hg;subst hg;rw[hgg];exact hf.ty _ _ _ _ hgg hT
 exact⟨g (by unfold TyL;decide) h.hp,g (by unfold TyL;decide) h.hg,g (by unfold TyL;decide) h.he,g (by unfold TyL;decide) h.hf,g (by unfold TyL;decide) h.hl⟩
structure WatAt (F:Nat->Prop)(w:World)(ba bg bf:Nat)(e:EntD)(s:WSt):Prop where
 al:AlAt w ba s.a
 fa:F ba
 ga:∃ sa cap,GpAt 0 w bg sa cap s.g/\∀ k,GS bg sa s.g.xs.length k->F k
 fl:∃ m n D fv lv,FlAt 0 w bf e s.f m n D fv lv/\F bf/\F m/\(∀ g,fv.ownBlock=some g->F g)/\∀ g,lv.ownBlock=some g->F g
 gl:s.g.xs.length=e.gaps.length
theorem GpAt.same {B cap:Nat}{sa:Option Addr}{s:GSt}(h:GpAt B w b sa cap s)(hs:∀ k,GS b sa s.xs.length k->w'.heap[k]?=w.heap[k]?):GpAt B w' b sa cap s:=by
 refine⟨(hs b (Or.inl rfl)).trans h.heap,fun hne=>?_,h.lo,h.fit⟩;obtain⟨g,o,e1,h1,h2,hc,cur,hf⟩:=h.sl hne;have hg:=hs g (Or.inr ⟨List.length_pos_iff.2 hne,o,e1⟩);exact⟨g,o,e1,h1,h2,fun i x hx j u hu=>(World.cell?_of_block (a:=⟨g,o+i*5+j,none⟩) hg).trans (hc i x hx j u hu),cur,hg.trans hf⟩
theorem FlAt.same {B m n:Nat}{s:FSt}{D:DataW Unit}{fv lv:Value}(h:FlAt B w b e s m n D fv lv)(hb:w'.heap[b]?=w.heap[b]?)(hm:w'.heap[m]?=w.heap[m]?)(hf:∀ g,fv.ownBlock=some g->w'.heap[g]?=w.heap[g]?)(hl:∀ g,lv.ownBlock=some g->w'.heap[g]?=w.heap[g]?):FlAt B w' b e s m n D fv lv:=by
 refine⟨hb.trans h.heap,h.lo,?_,h.edg,h.hf.same hf,h.hl.same hl,h.fit,h.sm,h.wf⟩;obtain⟨es,c,hm0,rest⟩:=h.own;exact⟨es,c,hm.trans hm0,rest⟩
theorem AlAt.same {a:ASt}(h:AlAt w b a)(hs:w'.heap[b]?=w.heap[b]?):AlAt w' b a:=⟨hs.trans h.heap,h.hn⟩
theorem WatAt.same {s:WSt}(h:WatAt F w ba bg bf e s)(hs:∀ k,F k->w'.heap[k]?=w.heap[k]?):WatAt F w' ba bg bf e s:=by
 obtain⟨sa,cap,h1,h2⟩:=h.ga;obtain⟨m,n,D,fv,lv,h3,h4,h5,h6,h7⟩:=h.fl;exact⟨h.al.same (hs _ h.fa),h.fa,⟨sa,cap,h1.same (fun k hk=>hs k (h2 k hk)),h2⟩,⟨m,n,D,fv,lv,h3.same (hs _ h4) (hs _ h5) (fun g hg=>hs g (h6 g hg)) (fun g hg=>hs g (h7 g hg)),h4,h5,h6,h7⟩,h.gl⟩
end
end Go.Proofs.YtdpdbfhbojgigacGreatDoor
namespace Go.Proofs.YtdpdbfhbojgigacGreatDoor
open Go.RowKit Go.Extern.Stop Go.Stop Go.Extern
theorem Tryz.infoGap:(Tryz.prog.info? 242).map (fun i=>(i.zero,i.size,i.bytes))=some (some (.agg #[.int .i64 0,.int .i64 0,.int .i64 0,.int .i64 0,.int .i64 0]),5,40):=by kernel_rfl
theorem wpList_make0 {w:World}{ops:Array Oper}{rest:List Oper}{o:Oper}{a:Act}{Q:Exit->Act->World->Prop}(hgd:o.guard=none)(l c:Operand)(t:TypeId)
  (ho:o.op=Op.makeSlice t l c) (B:Nat) (e:TypeId) (i:TypeInfo) (z:Value) (size bytes:Nat) (ht:Tryz.prog.underlying t=some (.slice e)) (hi:Tryz.prog.info? e=some i) (hz:i.zero=some z) (hsize:i.size=size) (hby:i.bytes=bytes) (n:Nat)
  (hl:a.eval l=.int .i64 0) (hc:a.eval c=.int .i64 (n:Int)) (hn:n<=1000000) (hbb:bytes<=1000) (hB:B<=w.heap.size)
  (h:∀ w',w'.ownsRow B e size (.slice (some ⟨w.heap.size,0,none⟩) 0 n) 0 []->Below w.heap.size w w'->w'.heap.size=w.heap.size+1->wpList Tryz.prog ops Q rest (a.put o.dst (.slice (some ⟨w.heap.size,0,none⟩) 0 n)) w'):wpList Tryz.prog ops Q (o :: rest) a w:=by
 refine wpList_plain hgd fun K hK=>?_
 have hm:i.bytes*n<=1000*1000000:=Nat.mul_le_mul (by omega) hn;have hr:=run_make (P:=Tryz.prog) w t e i z ht hi hz .i64 .i64 0 n (Int.le_refl _) (by omega) (by have:((i.bytes*n:Nat):Int)<=281474976710656:=(by omega);rwa [Int.natCast_mul] at this) (by omega);simp only[Int.toNat_zero,Int.toNat_natCast] at hr;unfold Oper.wp execOp;simp only[ho,hl,hc,Sem.run_bind,Sem.run_pure,Result.andThen_ok,hr]
 refine hK _ _ (h _ ?_ (Below.one _ _) (by simp));have:=World.ownsRow_made (e:=e) (size:=size) w (madeCells z.cells (n*i.size)) n hB (by unfold maxLen;omega) (by rw[size_madeCells,hsize]);exact this
variable {B b cap:Nat}{w0 w w':World}{sa:Option Addr}{s:GSt}{xs:List WG}
theorem gp_of_own {v:Value}{xs:List WG}{bad:Bool}(hb:w.heap[b]?=some (.cells #[v,.bool bad] 240 (0,0)))(ho:SlOwn encW 5 242 B w v xs)(hlo:B<=b)(hf:GSt.fit ⟨xs,bad⟩):∃ sa cap,GpAt B w b sa cap ⟨xs,bad⟩:=by
 rcases ho.2 with ⟨rfl,h0⟩ | ⟨g,cap,cur,rfl,hB,hg,hle,-⟩
 ·have:xs=[]:=List.eq_nil_of_length_eq_zero h0;subst this;exact⟨none,0,hb,fun e=>absurd rfl e,hlo,hf⟩
 ·refine⟨_,cap,hb,fun hne=>⟨g,0,rfl,fun e=>?_,hB,fun i x hx j u hu=>?_,cur,hg⟩,hlo,hf⟩
  ·subst e;rw[hg] at hb;simp only[Option.some.injEq,Obj.cells.injEq] at hb;exact absurd hb.2.1 (by decide)
  ·have:=ho.cells (g:=g) rfl (i*5+j) u (flat_at encW_len xs i j x u hx hu);rw[addC_plain] at this;rw[Nat.add_assoc];exact this
set_option maxHeartbeats 2000000 in
set_option maxRecDepth 100000 in
theorem gp_new (name:ByteArray)(tol cnt mn mx:Int)(pv ev fv lv:Value)(ga:Option Addr)(gc:Nat)(gs:List GapD)(w:World)(hg:SlAt encG 4 w (.slice ga gs.length gc) gs)(hlen:gs.length<=1000000) :
  Calls Tryz.prog 120 #[.agg #[.string name,.int .i64 tol,pv,.int .i64 cnt,.int .i64 mn,.int .i64 mx,.slice ga gs.length gc,ev,fv,lv]] w fun v w'=>∃ b,v=.returned (.pointer (some ⟨b,0,none⟩))/\GpIn w w' b (GSt.new gs):=by
 obtain⟨i0,hi,hz0,hz1,hz2⟩:=info_parts Tryz.infoGap;have HG:Hid (SlAt encG 4 w (.slice ga gs.length gc) gs):=hg;have HL:Hid (gs.length<=1000000):=hlen;clear hg hlen;go_enter Tryz.func120,Tryz.ntmps120
 go_upto_region 2 with (refine wpList_make0 rfl _ _ 238 rfl w.heap.size 242 i0 (.agg #[.int .i64 0,.int .i64 0,.int .i64 0,.int .i64 0,.int .i64 0]) 5 40 Tryz.underlying238 hi hz0 hz1 hz2 gs.length rfl rfl HL.out (by decide) (by simp) ?_;intro w1 hown1 hb1 hs1)
 obtain⟨W,hW⟩:∃ V,V=w1.alloc (.cells #[.slice (some ⟨w.heap.size+1,0,none⟩) 0 gs.length,.bool false] 240):=⟨_,rfl⟩;have hs1':w1.heap.size=w.heap.size+2:=by rw[hs1];simp
 clear hs1;have hBl:Below w.heap.size w W:=by rw[hW];exact(((Below.refl _ _).alloc (Nat.le_refl _) _).trans (hb1.mono (by simp))).alloc (by omega) _
 have HBW:Hid (Below w.heap.size w W):=hBl;have HG0:Hid (W.heap[w.heap.size+2]?=some (.cells #[.slice (some ⟨w.heap.size+1,0,none⟩) 0 gs.length,.bool false] 240 (0,0))):=by
  show _=_
  rw[hW,<- hs1'];exact heap_alloc_new w1 _
 have e6:W.cell? ⟨w.heap.size,6,none⟩=some (.slice ga gs.length gc):=by
  have h1:=row_below hb1 (heap_alloc_new w (.cells #[.string name,.int .i64 tol,pv,.int .i64 cnt,.int .i64 mn,.int .i64 mx,.slice ga gs.length gc,ev,fv,lv] 38));have h2:=row_below (Below.one w1 (.cells #[.slice (some ⟨w.heap.size+1,0,none⟩) 0 gs.length,.bool false] 240)) h1;rw[hW];simp[World.cell?,h2]
 have HOw:Hid (W.ownsRow w.heap.size 242 5 (.slice (some ⟨w.heap.size+1,0,none⟩) 0 gs.length) 0 []):=by
  show World.ownsRow _ _ _ _ _ _ _
  have h3:=hown1;simp only[World.size_alloc] at h3;rw[hW];exact h3.alloc _
 have HSW:Hid (W.heap.size=w.heap.size+3):=by show _=_;rw[hW,World.size_alloc];omega
 rw[<- hW,show w.heap.size+1+1=w.heap.size+2 from rfl];clear hW hown1 hb1 hs1' hBl;go_wp2_with fail
 go_loopw [15,5] (fun i _ wr=>∃ k:Nat,k<=gs.length/\i=.int .i64 k/\Below w.heap.size w wr/\∃ va vc,wr.heap[w.heap.size+2]?=some (.cells #[.slice va k vc,.bool false] 240 (0,0))/\wr.ownsRow w.heap.size 242 5 (.slice va k vc) k (((gs.take k).map WG.new).flatMap encW)) (fun i _ _=>gs.length - (intOf i).toNat)
 case atStart=>exact⟨0,Nat.zero_le _,rfl,HBW.out,_,_,HG0.out,by simpa using HOw.out⟩
 case round=>
  clear e6 HG0 HOw HBW HSW;obtain⟨k,hk,rfl,hbk,va,vc,hgk,hok⟩:=hrel;have HB:Hid (Below w.heap.size w wr):=hbk;have HGk:Hid (wr.heap[w.heap.size+2]?=some (.cells #[.slice va k vc,.bool false] 240 (0,0))):=hgk;have HOk:Hid (wr.ownsRow w.heap.size 242 5 (.slice va k vc) k (((gs.take k).map WG.new).flatMap encW)):=hok;clear hbk hgk hok
  by_cases hlt:k < gs.length
  ·have k1:(k:Int) < (gs.length:Int):=by omega
   have k2:k < 1000000:=by have:=HL.out;omega
   obtain⟨x,hx⟩:∃ x,gs[k]?=some x:=⟨_,List.getElem?_eq_getElem hlt⟩;have HX:Hid (((gs.take (k+1)).map WG.new).flatMap encW=((gs.take k).map WG.new).flatMap encW++[.int .i64 x.fr,.int .i64 x.to,.int .i64 x.mn,.int .i64 x.mx,.int .i64 (-1)]):=by
    show _=_
    rw[List.take_add_one,hx];simp[encW,WG.new]
   obtain⟨sa',cap',hsl,-,hcc⟩:=id HG.out
   cases hsl
   obtain⟨g,o,rfl,hc0⟩:=hcc (fun h=>by rw[h] at hx;simp at hx);have c0:wr.cell? ⟨g,o+k*4,none⟩=some (.int .i64 x.fr):=cell_below HB.out (hc0 k _ hx 0 _ rfl);have c1:wr.cell? ⟨g,o+k*4+1,none⟩=some (.int .i64 x.to):=cell_below HB.out (hc0 k _ hx 1 _ rfl);have c2:wr.cell? ⟨g,o+k*4+2,none⟩=some (.int .i64 x.mn):=cell_below HB.out (hc0 k _ hx 2 _ rfl);have c3:wr.cell? ⟨g,o+k*4+3,none⟩=some (.int .i64 x.mx):=cell_below HB.out (hc0 k _ hx 3 _ rfl);clear hcc hc0 hx;go_upto_region 5 with fail
   obtain⟨V,hV⟩:∃ V,V=wr.alloc (.cells #[.int .i64 x.fr,.int .i64 x.to,.int .i64 x.mn,.int .i64 x.mx] 145):=⟨_,rfl⟩;rw[<- hV];have HBV:Hid (Below wr.heap.size wr V):=by show Below _ _ _;rw[hV];exact Below.one _ _
   have HSV:Hid (V.heap.size=wr.heap.size+1):=by show _=_;rw[hV,World.size_alloc]
   have dd:∀ (j:Nat) u,([.int .i64 x.fr,.int .i64 x.to,.int .i64 x.mn,.int .i64 x.mx]:List Value)[j]?=some u->V.cell? ⟨wr.heap.size,0+j,none⟩=some u:=fun j u hu=>by
    rw[hV];have:=ce_at wr [.int .i64 x.fr,.int .i64 x.to,.int .i64 x.mn,.int .i64 x.mx] 145 j u hu;rwa [addC_plain] at this
   have d0:=dd 0 _ rfl;have d1:=dd 1 _ rfl;have d2:=dd 2 _ rfl;have d3:=dd 3 _ rfl;simp only[Nat.zero_add] at d0 d1 d2 d3;clear hV c0 c1 c2 c3 dd;have HGv:Hid (V.heap[w.heap.size+2]?=some (.cells #[.slice va k vc,.bool false] 240 (0,0))):=row_below HBV.out HGk.out;have HOv:Hid (V.ownsRow w.heap.size 242 5 (.slice va k vc) k (((gs.take k).map WG.new).flatMap encW)):=SlOwnR.below HOk.out HBV.out;have hown:V.drew.ownsRow w.heap.size 242 5 (.slice va k vc) k (((gs.take k).map WG.new).flatMap encW):=HOv.out;have hLz:w.heap.size<=V.heap.size:=Nat.le_trans HB.out.size (by have:=HSV.out;omega);have c8:V.cell? ⟨w.heap.size+2,0,none⟩=some (.slice va k vc):=by simp[World.cell?,HGv.out]
   have c8':∀ ob,(V.alloc ob).cell? ⟨w.heap.size+2,0,none⟩=some (.slice va k vc):=fun ob=>cell_below (Below.one _ _) c8
   have d0':∀ ob,(V.alloc ob).cell? ⟨wr.heap.size,0,none⟩=some (.int .i64 x.fr):=fun ob=>cell_below (Below.one _ _) d0
   have KB:Hid (∀ (ob:Obj) (w8:World),(V.drew.alloc ob).grownBy w8 (Value.slice va k vc).ownBlock->w8.heap[w.heap.size+2]?=some (.cells #[.slice va k vc,.bool false] 240 (0,0))):=fun ob w8 hg=>by
    have h1:(V.drew.alloc ob).heap[w.heap.size+2]?=some (.cells #[.slice va k vc,.bool false] 240 (0,0)):=row_below (w:=V.drew) (Below.one _ _) HGv.out;exact(hg.block _ (lt_of_row h1) (fun e2=>ow_ne (w:=V.drew) hown HGv.out (by decide) e2.symm)).trans h1
   have KL:Hid (∀ (ob:Obj) (w8:World),(V.drew.alloc ob).grownBy w8 (Value.slice va k vc).ownBlock->Below w.heap.size w w8):=fun ob w8 hg=>by
    have h1:Below w.heap.size w (V.drew.alloc ob):=(HB.out.trans (HBV.out.mono HB.out.size)).drew.alloc (by simp;omega) _;exact h1.grown hg h1.size (fun i hi=>(hown.lt i hi).1)
   go_wp2_with fail
   go_region_law (refine step_append_lies _ rfl (.tmp 23) (.tmp 26) 238 rfl w.heap.size 242 i0 (.agg #[.int .i64 0,.int .i64 0,.int .i64 0,.int .i64 0,.int .i64 0]) 5 40 Tryz.underlying238 hi hz0 hz1 hz2 rfl (by decide) (.slice va k vc) k (((gs.take k).map WG.new).flatMap encW) (by simp[Act.eval]) (hown.alloc _) ⟨V.heap.size,0,.none⟩ 1 1 [.int .i64 x.fr,.int .i64 x.to,.int .i64 x.mn,.int .i64 x.mx,.int .i64 (-1)] (by simp[Act.eval]) rfl (ce_at V.drew [.int .i64 x.fr,.int .i64 x.to,.int .i64 x.mn,.int .i64 x.mx,.int .i64 (-1)] 242) (encW_one ⟨x,-1⟩) (by decide) (by unfold maxLen;omega) (by omega) (by simp;omega) (V.heap.size+1) (by simp) ?_;intro g' cap' w8 hown8 hgrow8 hor hlt8;have r8:=KB.out _ _ hgrow8;have d8:w8.cell? ⟨w.heap.size+2,0,none⟩=some (.slice va k vc):=(by simp[World.cell?,r8]);have d9:w8.frozen? ⟨w.heap.size+2,0,none⟩=false:=(by simp[World.frozen?,r8]))
   all_goals
    go_wp2_with fail
    go_roundw
    case rel=>
     refine⟨k+1,by omega,by go_num,?_,some ⟨g',0,none⟩,cap',?_,?_⟩
     ·exact(KL.out _ _ hgrow8).setCell (p:=⟨w.heap.size+2,0,none⟩) (by simp) _
     ·simp[World.setCell,Array.getElem?_modify,r8]
     ·rw[HX.out];exact hown8.kept (grown_setCell w8 _ _ _) (Or.inr (fun e2=>ow_ne hown8 r8 (by decide) e2))
    case measure=>simp[intOf];omega
  ·have k1:¬(k:Int) < (gs.length:Int):=by omega
   have hkk:k=gs.length:=by omega
   have HF:Hid (∃ sa cap,GpAt w.heap.size wr (w.heap.size+2) sa cap ⟨(gs.take k).map WG.new,false⟩):=gp_of_own HGk.out (by
    have:=HOk.out;show World.ownsRow _ _ _ _ _ _ _
    rw[show ((gs.take k).map WG.new).length=k by simp;omega];exact this) (by omega) (by rw[hkk,List.take_length];exact GSt.fit_new gs)
   have HE:Hid (GSt.new gs=⟨(gs.take k).map WG.new,false⟩):=by show _=_;rw[hkk,List.take_length];rfl
   go_wp2;go_ret
   refine⟨_,rfl,HB.out,?_⟩;rw[HE.out];exact HF.out
end Go.Proofs.YtdpdbfhbojgigacGreatDoor
