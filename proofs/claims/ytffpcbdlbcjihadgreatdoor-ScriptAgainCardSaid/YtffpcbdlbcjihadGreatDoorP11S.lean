/-
  Several texts as one: LoPure, FlSt, FlOps, Orders2.
-/
import Derived.Test.YtffpcbdlbcjihadGreatDoorP09S
import Derived.BigQuiet
import Derived.Deep.QuietTactic
import Derived.Deep.DeepCutAuto
import Derived.Maps.RangeWalk
import Derived.WalkSmall
import Derived.Maps.AppendAt
namespace Go.Proofs.YtffpcbdlbcjihadGreatDoor
open Go
structure WSt where
 a:ASt
 g:GSt
 f:FSt
def WSt.new (e:EntD):WSt:=⟨⟨ptOf e.cnt e.pts.length,e.mn,e.mx,0⟩,GSt.new e.gaps,⟨-1,false⟩⟩
def WSt.rep (e:EntD)(s:WSt)(p t:Int):WSt:=⟨s.a.rep p,s.g.rep p t,s.f.rep e p⟩
def WSt.zero (s:WSt):WSt:=⟨s.a.zero,s.g.zero,s.f.zero⟩
def WSt.kind (s:WSt)(whole:Bool):Int:=kindW s.a s.g s.f whole
structure NSt where
 w:WSt
 whole:Bool
 run:Nat
 ex:Bool
def NSt.new (e:EntD):NSt:=⟨WSt.new e,false,0,false⟩
def NSt.kind (s:NSt):Int:=s.w.kind s.whole
def NSt.rep (e:EntD)(s:NSt)(p t:Int):NSt:=if hasP e p=true then { s with w:=s.w.rep e p t } else s
def NSt.run1 (s:NSt):Nat:=if s.kind=0 then 0 else s.run+1
def NSt.turns (e:EntD)(s:NSt):Bool:=decide (s.kind≠0) && (!s.ex && decide (e.tol < (s.run+1:Int)))
def NSt.fin (e:EntD)(s:NSt):NSt:=⟨s.w.zero,true,s.run1,s.ex || s.turns e⟩
def NSt.status (s:NSt):Nat:=if s.ex then 3 else if s.run=0 then 1 else 2
theorem rep_len (s:GSt)(p t:Int):(s.rep p t).xs.length=s.xs.length:=by unfold GSt.rep;split <;> simp
structure NSim (e:EntD)(n:NSt)(s:LSt):Prop where
 act:s.act=true
 a:n.w.a=simA e s.ms s.since
 g:n.w.g=simG e.gaps s.ms s.since
 f:n.w.f=simF e s.ms s.since
 whole:n.whole=decide (0 < s.since)
 run:s.run=(n.run:Int)
 ex:n.ex=s.ex
theorem NSim.new (e:EntD)(s:LSt)(h:s.act=false):NSim e (NSt.new e) s.begin:=by
 have hb:s.begin=⟨true,0,[],0,false⟩:=by unfold LSt.begin;rw[h];rfl
 rw[hb];exact⟨rfl,(simA_new e).symm,sim_new e.gaps,(simF_new e).symm,by simp[NSt.new],rfl,rfl⟩
theorem NSim.rep {e:EntD}{n:NSt}{s:LSt}(h:NSim e n s)(p t:Int)(hl:s.ms.length < 1000)(ht:tickOk t=true):NSim e (n.rep e p t) (s.rep e p t):=by
 unfold NSt.rep LSt.rep
 by_cases hp:hasP e p=true
 ·rw[if_pos hp,if_pos ⟨h.act,hp⟩]
  refine⟨h.act,?_,?_,?_,h.whole,h.run,h.ex⟩
  ·show n.w.a.rep p=_
   rw[h.a];exact simA_rep e s.ms s.since p t hl
  ·show n.w.g.rep p t=_
   rw[h.g];exact sim_rep e.gaps s.ms s.since p t ht
  ·show n.w.f.rep e p=_
   rw[h.f];exact simF_rep e s.ms s.since p t
 ·rw[if_neg hp,if_neg (fun x=>hp x.2)];exact h
theorem NSim.kind {e:EntD}{n:NSt}{s:LSt}(h:NSim e n s)(hc:e.cnt < (e.pts.length:Int)):n.kind=s.kind e:=by
 unfold NSt.kind WSt.kind LSt.kind;rw[h.a,h.g,h.f,h.whole,kind_sim hc,if_pos h.act]
theorem NSim.turns {e:EntD}{n:NSt}{s:LSt}(h:NSim e n s)(hc:e.cnt < (e.pts.length:Int))(ht:0<=e.tol):n.turns e=s.turns e:=by
 have hk:=h.kind hc;unfold LSt.kind at hk;rw[if_pos h.act] at hk;unfold NSt.turns LSt.turns LSt.run1;rw[hk,h.act,h.ex,h.run]
 by_cases h0:kindL e s.ms s.since=0
 ·simp[h0];omega
 ·simp[h0]
theorem NSim.fin {e:EntD}{n:NSt}{s:LSt}(h:NSim e n s)(hc:e.cnt < (e.pts.length:Int))(ht:0<=e.tol)(hm:∀ m∈s.ms,m.cyc<=s.since)(h0:0<=s.since):NSim e (n.fin e) (s.fin e):=by
 have hk:=h.kind hc;have htu:=h.turns hc ht;unfold LSt.kind at hk;rw[if_pos h.act] at hk;unfold NSt.fin LSt.fin;rw[if_pos h.act]
 refine⟨rfl,?_,?_,?_,?_,?_,?_⟩
 ·show n.w.a.zero=_
  rw[h.a];exact simA_end hm
 ·show n.w.g.zero=_
  rw[h.g];exact sim_end hm
 ·show n.w.f.zero=_
  rw[h.f];exact simF_end hm
 ·show true=decide (0 < s.since+1)
  rw[decide_eq_true (by omega)]
 ·show s.run1 e=((n.run1:Nat):Int)
  unfold LSt.run1 NSt.run1;rw[hk,h.run]
  split <;> simp
 ·show (n.ex || n.turns e)=(s.ex || decide (e.tol < s.run1 e))
  rw[htu,h.ex];unfold LSt.turns;rw[h.act]
  cases s.ex <;> simp
theorem NSim.status {e:EntD}{n:NSt}{s:LSt}(h:NSim e n s):n.status=s.status:=by
 unfold NSt.status LSt.status;rw[h.act,h.ex,h.run]
 cases s.ex
 ·by_cases hr:n.run=0
  ·simp[hr]
  ·simp[hr,Nat.pos_of_ne_zero hr]
 ·rfl
end Go.Proofs.YtffpcbdlbcjihadGreatDoor
namespace Go.Proofs.YtffpcbdlbcjihadGreatDoor
open Go.RowKit Go.Extern.Stop Go.Stop Go.Extern
structure FlAt (B:Nat)(w:World)(b:Nat)(e:EntD)(s:FSt)(m n:Nat)(D:DataW Unit)(fv lv:Value):Prop where
 heap:w.heap[b]?=some (.cells #[.int .i64 (e.pts.length:Int),.map (some m),fv,lv,.int .i64 s.ah,.bool s.bad] 350 (0,0))
 lo:B<=b
 own:w.ownsMap Tryz.prog 97 unitElem m n D
 edg:EdgeMap D e.edges
 hf:SlOwn encI 1 3 B w fv e.first
 hl:SlOwn encI 1 3 B w lv e.last
 fit:s.ah=-1\/(0<=s.ah/\s.ah < (e.pts.length:Int))
 sm:SmallE e
 wf:WfE e.edges
variable {B b m n:Nat}{w0 w w':World}{e:EntD}{s:FSt}{D:DataW Unit}{fv lv:Value}
theorem FlAt.mne (h:FlAt B w b e s m n D fv lv):m≠b:=by
 obtain⟨es,c,hm,-⟩:=h.own;intro e;subst e;rw[h.heap] at hm
 cases hm
theorem ownsMap_below {k:TypeId}{R:Value->Option (DataW Unit × List MemPlace)}(h:w.ownsMap Tryz.prog k R m n D)(hb:Below w.heap.size w w'):w'.ownsMap Tryz.prog k R m n D:=
 h.kept (row:=none) ⟨hb.os,hb.tape,hb.output,hb.size,fun k hk _=>hb.block k hk⟩ (by simp)
theorem FlAt.below (h:FlAt B w b e s m n D fv lv)(hb:Below w.heap.size w w'):FlAt B w' b e s m n D fv lv:=
 ⟨row_below hb h.heap,h.lo,ownsMap_below h.own hb,h.edg,h.hf.below hb,h.hl.below hb,h.fit,h.sm,h.wf⟩
theorem FlAt.setCell (h:FlAt B w b e s m n D fv lv)(i:Nat)(u:Value){s':FSt}(hr:(#[.int .i64 (e.pts.length:Int),.map (some m),fv,lv,.int .i64 s.ah,.bool s.bad]:Array Value).setIfInBounds i u=#[.int .i64 (e.pts.length:Int),.map (some m),fv,lv,.int .i64 s'.ah,.bool s'.bad])(hf:s'.ah=-1\/(0<=s'.ah/\s'.ah < (e.pts.length:Int))):FlAt B (w.setCell ⟨b,i,none⟩ u) b e s' m n D fv lv:=by
 refine⟨?_,h.lo,h.own.setCell (a:=⟨b,i,none⟩) h.mne u,h.edg,h.hf.other (grown_setCell w b i u) h.heap (by decide),h.hl.other (grown_setCell w b i u) h.heap (by decide),hf,h.sm,h.wf⟩;simp only[World.setCell,Array.getElem?_modify,h.heap];simp[<- hr]
theorem FlAt.setAh (h:FlAt B w b e s m n D fv lv){a:Int}(hf:a=-1\/(0<=a/\a < (e.pts.length:Int))):FlAt B (w.setCell ⟨b,4,none⟩ (.int .i64 a)) b e ⟨a,s.bad⟩ m n D fv lv:=h.setCell 4 _ (by simp) hf
theorem FlAt.setBad (h:FlAt B w b e s m n D fv lv)(v:Bool):FlAt B (w.setCell ⟨b,5,none⟩ (.bool v)) b e ⟨s.ah,v⟩ m n D fv lv:=h.setCell 5 _ (by simp) h.fit
theorem FlAt.cell (h:FlAt B w b e s m n D fv lv)(i:Nat)(u:Value)(hu:(#[.int .i64 (e.pts.length:Int),.map (some m),fv,lv,.int .i64 s.ah,.bool s.bad]:Array Value)[i]?=some u):w.cell? ⟨b,i,none⟩=some u:=by simp[World.cell?,h.heap,hu]
theorem FlAt.frozen (h:FlAt B w b e s m n D fv lv)(i:Nat):w.frozen? ⟨b,i,none⟩=false:=by simp[World.frozen?,h.heap]
set_option maxHeartbeats 1000000 in
theorem sidx_at (l:List Int)(x:Int)(sa:Option Addr)(cap:Nat)(w:World)(hl:SlAt encI 1 w (.slice sa l.length cap) l)(hn:l.length<=1000000) :
  Calls Tryz.prog 293 #[.slice sa l.length cap,.int .i64 x] w fun v w'=>(∃ i:Int,v=.returned (.int .i64 i)/\(0<=i ↔ x∈l))/\w'=w:=by
 have HL:Hid (SlAt encI 1 w (.slice sa l.length cap) l):=hl;have HN:Hid (l.length<=1000000):=hn;clear hl hn;go_enter Tryz.func293,Tryz.ntmps293
 go_wp2;go_loop [5,8] (fun _ i=>∃ k:Nat,k<=l.length/\i=.int .i64 k/\∀ j,j < k->l[j]?≠some x) (fun _ i=>l.length - (intOf i).toNat)
 case atStart=>exact⟨0,Nat.zero_le _,rfl,fun j hj=>absurd hj (by omega)⟩
 case round=>
  obtain⟨k,hk,rfl,hno⟩:=hrel;have HNo:Hid (∀ j,j < k->l[j]?≠some x):=hno;clear hno
  by_cases hlt:k < l.length
  ·have k1:(k:Int) < (l.length:Int):=by omega
   have k2:k < 1000000:=by have:=HN.out;omega
   obtain⟨y,hy⟩:∃ y,l[k]?=some y:=⟨_,List.getElem?_eq_getElem hlt⟩;have HY:Hid (l[k]?=some y):=hy;obtain⟨sa',cap',hsl,-,hcc⟩:=id HL.out
   cases hsl
   obtain⟨g,o,rfl,hc0⟩:=hcc (fun h=>by rw[h] at hy;simp at hy);have c0:=hc0 k _ hy 0 _ rfl;simp only[Nat.mul_one,Nat.add_zero] at c0;clear hcc hc0 hy
   by_cases hxy:x=y
   ·have HX:Hid (x∈l):=by show _∈_;rw[hxy];exact List.mem_of_getElem? HY.out
    subst hxy;go_wp2;go_ret;exact⟨⟨_,rfl,⟨fun _=>HX.out,fun _=>by omega⟩⟩,rfl⟩
   ·have HX:Hid (∀ j,j < k+1->l[j]?≠some x):=fun j hj=>by
     rcases Nat.lt_or_ge j k with h1 | h1
     ·exact HNo.out j h1
     ·rw[show j=k by omega,HY.out];intro h;exact hxy (by simpa using h.symm)
    go_wp2;go_round
    case rel=>exact⟨k+1,by omega,by go_num,HX.out⟩
    case measure=>simp[intOf];omega
  ·have k1:¬(k:Int) < (l.length:Int):=by omega
   have HX:Hid (x ∉ l):=by
    show _ ∉ _
    intro h;obtain⟨i,hi⟩:=List.getElem?_of_mem h;have:i < l.length:=(List.getElem?_eq_some_iff.1 hi).1;exact HNo.out i (by omega) hi
   go_wp2;go_ret;exact⟨⟨_,rfl,⟨fun h=>absurd h (by omega),fun h=>absurd h HX.out⟩⟩,rfl⟩
set_option maxHeartbeats 1000000 in
theorem scontains_at (l:List Int)(x:Int)(sa:Option Addr)(cap:Nat)(w:World)(hl:SlAt encI 1 w (.slice sa l.length cap) l)(hn:l.length<=1000000) :
  Calls Tryz.prog 255 #[.slice sa l.length cap,.int .i64 x] w fun v w'=>v=.returned (.bool (decide (x∈l)))/\w'=w:=by
 have HC:Hid _:=sidx_at l x sa cap w hl hn;clear hl hn;go_enter Tryz.func255,Tryz.ntmps255
 go_wp2_with fail
 refine Calls.mono HC.out ?_;rintro v w' ⟨⟨i,rfl,hi⟩,rfl⟩;have HI:Hid (decide (0<=i)=decide (x∈l)):=decide_eq_decide.2 hi;clear hi HC;go_wp2;go_ret;exact⟨by rw[<- HI.out];first | rfl | simp,rfl⟩
set_option maxHeartbeats 1000000 in
theorem fl_has (p:Int)(h:FlAt B w b e s m n D fv lv) :
  Calls Tryz.prog 306 #[.pointer (some ⟨b,0,none⟩),.int .i64 p] w fun v w'=>v=.returned (.bool (hasP e p))/\w'=w:=by
 have c0:=h.cell 0 _ rfl;clear h
 by_cases g0:0<=p
 ·have HR:Hid (hasP e p=decide (p < (e.pts.length:Int))):=by show _=_;unfold hasP;rw[decide_eq_true g0];rfl
  go_enter Tryz.func306,Tryz.ntmps306
  go_wp2;go_ret;exact⟨by rw[HR.out];first | rfl | simp,rfl⟩
 ·have HR:Hid (hasP e p=false):=by show _=_;unfold hasP;rw[decide_eq_false g0];rfl
  go_enter Tryz.func306,Tryz.ntmps306
  go_wp2;go_ret;exact⟨by rw[HR.out];first | rfl | simp,rfl⟩
end Go.Proofs.YtffpcbdlbcjihadGreatDoor
namespace Go.Proofs.YtffpcbdlbcjihadGreatDoor
open Go.RowKit Go.Extern.Stop Go.Stop Go.Extern
variable {B b m n:Nat}{w0 w w':World}{e:EntD}{s:FSt}{D:DataW Unit}{fv lv:Value}
theorem gr_refl (w:World)(r:Option Nat):w.grownBy w r:=⟨rfl,rfl,rfl,Nat.le_refl _,fun _ _ _=>rfl⟩
theorem Tryz.zeroUnitF (w:World):(zeroValue 214).run Tryz.prog w=.ok (.agg #[]) w:=by kernel_rfl
theorem FlAt.pts (h:FlAt B w b e s m n D fv lv):e.pts.length<=1000000:=h.sm.hp
theorem hasP_wf {p:Int}(h:hasP e p=true)(hp:e.pts.length<=1000000):wf64 p:=by
 unfold hasP at h;simp at h
 exact wf64_of (by omega) (by omega)
theorem ah_wf {a:Int}(h:a=-1\/(0<=a/\a < (e.pts.length:Int)))(hp:e.pts.length<=1000000):wf64 a:=by
 rcases h with rfl | h
 ·exact wf64_of (by omega) (by omega)
 ·exact wf64_of (by omega) (by omega)
set_option maxHeartbeats 2000000 in
set_option maxRecDepth 100000 in
theorem fl_bears (ah p:Int)(h:FlAt B w b e s m n D fv lv)(hah:ah=-1\/(0<=ah/\ah < (e.pts.length:Int))) :
  Calls Tryz.prog 273 #[.pointer (some ⟨b,0,none⟩),.int .i64 ah,.int .i64 p] w fun v w'=>v=.returned (.bool (bearsE e ah p))/\w.grownBy w' none:=by
 have H:Hid (FlAt B w b e s m n D fv lv):=h;have c1:=h.cell 1 _ rfl;have HS:=edgeMap_size h.edg h.wf;have HAw:Hid (wf64 ah):=ah_wf hah h.pts;clear h hah
 by_cases h0:e.edges=[]
 ·have hz:Maps.size D=0:=HS.2 h0;have HR:Hid (bearsE e ah p=true):=by show _=_;unfold bearsE;rw[decide_eq_true h0];rfl
  clear HS h0;go_enter Tryz.func273,Tryz.ntmps273
  go_wp2_with (at_len;refine wpList_len_own _ rfl _ 348 rfl 97 214 Tryz.underlying348 unitElem m n D rfl H.out.own ?_)
  go_ret;exact⟨by rw[HR.out];rfl,gr_refl _ _⟩
 have hz:¬((Maps.size D:Nat):Int)=0:=fun h=>h0 (HS.1 (by omega))
 have HD:Hid (bearsE e ah p=(hasP e p && (if ah=-1 then decide (p∈e.first) else decide ((ah,p)∈e.edges)))):=by show _=_;unfold bearsE;rw[decide_eq_false h0];rfl
 clear HS h0
 cases hp:hasP e p
 ·have HR:Hid (bearsE e ah p=false):=by show _=_;rw[HD.out,hp];rfl
  go_enter Tryz.func273,Tryz.ntmps273
  go_wp2_with (first | (at_len;refine wpList_len_own _ rfl _ 348 rfl 97 214 Tryz.underlying348 unitElem m n D rfl H.out.own ?_) | (go_at_call 306;refine(fl_has p H.out).mono ?_;rw[hp];rintro v w' ⟨rfl,rfl⟩))
  go_ret;exact⟨by rw[HR.out];rfl,gr_refl _ _⟩
 have HPw:Hid (wf64 p):=hasP_wf hp H.out.pts
 by_cases ha:ah=-1
 ·have HR:Hid (bearsE e ah p=decide (p∈e.first)):=by show _=_;rw[HD.out,hp,if_pos ha];rfl
  have c2:=H.out.cell 2 _ rfl;obtain⟨sa,c,rfl⟩:=ow_form H.out.hf;subst ha;go_enter Tryz.func273,Tryz.ntmps273
  go_wp2_with (first | (at_len;refine wpList_len_own _ rfl _ 348 rfl 97 214 Tryz.underlying348 unitElem m n D rfl H.out.own ?_) | (go_at_call 306;refine(fl_has p H.out).mono ?_;rw[hp];rintro v w' ⟨rfl,rfl⟩) | (go_at_call 255;refine(scontains_at e.first p _ _ _ (H.out.hf.slat (fun _=>rfl)) H.out.sm.hf).mono ?_;rintro v w' ⟨rfl,rfl⟩))
  go_ret;exact⟨by rw[HR.out];rfl,gr_refl _ _⟩
 ·have HR:Hid (bearsE e ah p=decide ((ah,p)∈e.edges)):=by show _=_;rw[HD.out,hp,if_neg ha];rfl
  have HM:Hid (Maps.has D (ekey (ah,p))=decide ((ah,p)∈e.edges)):=H.out.edg.2.2 (ah,p) HAw.out HPw.out;go_enter Tryz.func273,Tryz.ntmps273
  go_wp2_with (first | (at_len;refine wpList_len_own _ rfl _ 348 rfl 97 214 Tryz.underlying348 unitElem m n D rfl H.out.own ?_) | (go_at_call 306;refine(fl_has p H.out).mono ?_;rw[hp];rintro v w' ⟨rfl,rfl⟩) | (at_lookup;refine wpList_lookup_own_unit _ rfl _ _ 348 rfl 97 214 Tryz.lawTwo Tryz.underlying348 (Tryz.zeroUnitF _) m n D rfl H.out.own _ _ rfl (keyOf_two HAw.out HPw.out) ?_))
  go_ret;exact⟨by rw[HR.out,<- HM.out];rfl,World.grownBy_alloc _ _ _⟩
set_option maxHeartbeats 1000000 in
set_option maxRecDepth 100000 in
theorem fl_behind (p:Int)(h:FlAt B w b e s m n D fv lv) :
  Calls Tryz.prog 274 #[.pointer (some ⟨b,0,none⟩),.int .i64 p] w fun v w'=>v=.returned (.int .i64 (behindE e p))/\w'=w:=by
 have H:Hid (FlAt B w b e s m n D fv lv):=h;clear h
 cases hp:hasP e p
 ·have HR:Hid (behindE e p=-1):=by show _=_;unfold behindE;rw[if_neg (by rw[hp];simp)]
  go_enter Tryz.func274,Tryz.ntmps274
  go_wp2_with (go_at_call 306;refine(fl_has p H.out).mono ?_;rw[hp];rintro v w' ⟨rfl,rfl⟩)
  go_ret;exact⟨by rw[HR.out];rfl,rfl⟩
 have c3:=H.out.cell 3 _ rfl;obtain⟨sa,c,rfl⟩:=ow_form H.out.hl
 by_cases hl:p∈e.last
 ·have HR:Hid (behindE e p=-1):=by show _=_;unfold behindE;rw[if_neg (fun h=>h.2 hl)]
  have hd:decide (p∈e.last)=true:=decide_eq_true hl;clear hl;go_enter Tryz.func274,Tryz.ntmps274
  go_wp2_with (first | (go_at_call 306;refine(fl_has p H.out).mono ?_;rw[hp];rintro v w' ⟨rfl,rfl⟩) | (go_at_call 255;refine(scontains_at e.last p _ _ _ (H.out.hl.slat (fun _=>rfl)) H.out.sm.hl).mono ?_;rw[hd];rintro v w' ⟨rfl,rfl⟩))
  go_ret;exact⟨by rw[HR.out];rfl,rfl⟩
 ·have HR:Hid (behindE e p=p):=by show _=_;unfold behindE;rw[if_pos ⟨hp,hl⟩]
  have hd:decide (p∈e.last)=false:=decide_eq_false hl;clear hl;go_enter Tryz.func274,Tryz.ntmps274
  go_wp2_with (first | (go_at_call 306;refine(fl_has p H.out).mono ?_;rw[hp];rintro v w' ⟨rfl,rfl⟩) | (go_at_call 255;refine(scontains_at e.last p _ _ _ (H.out.hl.slat (fun _=>rfl)) H.out.sm.hl).mono ?_;rw[hd];rintro v w' ⟨rfl,rfl⟩))
  go_ret;exact⟨by rw[HR.out];rfl,rfl⟩
theorem below_of_grown (h:w.grownBy w' none):Below w.heap.size w w':=⟨h.os,h.tape,h.output,h.size,fun k hk=>h.block k hk (by simp)⟩
end Go.Proofs.YtffpcbdlbcjihadGreatDoor
namespace Go.Proofs.YtffpcbdlbcjihadGreatDoor
open Go
def mark (done:Nat->Bool)(i:Nat):Nat->Bool:=fun j=>decide (j=i) || done j
theorem mark_upd (vals:Nat->Option Value)(i:Nat)(v:Value):(fun j=>(upd vals i v j).isSome)=mark (fun j=>(vals j).isSome) i:=by
 funext j
 unfold mark upd
 by_cases h:j=i
 ·simp[h]
 ·simp[h]
theorem mark_other (done:Nat->Bool){i j:Nat}(h:j≠i):mark done i j=done j:=by simp[mark,h]
theorem mark_same (done:Nat->Bool)(i:Nat):mark done i i=true:=by simp[mark]
def goodRun2 (P:Program)(S:Nat->Value->World->Prop)(C:(Nat->Bool)->World->Prop)(done:Nat->Bool)(i:Nat)(w:World):Result Next->Prop
 | .ok (.value u) w'=>C (mark done i) w'/\(∀ j v,done j=true->S j v w->S j v w')/\S i u w'
 | .ok .skip w'=>C (mark done i) w'/\(∀ j v,done j=true->S j v w->S j v w')/\S i undef w'
 | .ok (.enter f args) w'=>Calls P f args w' fun e w''=>∃ v,e=.returned v/\C (mark done i) w''/\(∀ j v,done j=true->S j v w->S j v w'')/\S i v w''
 | _=>False
section
variable {P:Program}{ops:Array Oper}{Q:Exit->Act->World->Prop}{md:Region.Mode}{S:Nat->Value->World->Prop}{C:(Nat->Bool)->World->Prop}{a0:Act}
def StepOk2 (P:Program)(md:Region.Mode)(ops:Array Oper)(S:Nat->Value->World->Prop)(C:(Nat->Bool)->World->Prop)(a0:Act)(i:Nat)(o:Oper):Prop:=
 ∀ (done:Nat->Bool) (a:Act) (w:World),C done w->done i=false->a.tmps.size=a0.tmps.size->(∀ e,e∈o.after->Region.binds md e=true->done e.on=true)->(∀ e d,e∈o.after->Region.binds md e=true->dstOf ops e.on=some d->S e.on (a.eval (.tmp d)) w) ->
  (∀ d,(∀ j,dstOf ops j≠some d)->a.eval (.tmp d)=a0.eval (.tmp d)) ->
  if Region.wanted o (yielded ops a.tmps)=true then goodRun2 P S C done i w ((execOp a.eval o).run P w) else C (mark done i) w/\S i undef w
theorem wpAny_spec2 (hd:Distinct ops)(hin:∀ j d,dstOf ops j=some d->d < a0.tmps.size)
  (hback:∀ i o,ops[i]?=some o->∀ e,e∈o.after->Region.binds md e=true->e.on < i)
  (step:∀ i o,ops[i]?=some o->StepOk2 P md ops S C a0 i o)
  (fin:∀ (vals:Nat->Value) (w:World),C (fun j=>decide (j < ops.size)) w->(∀ j,j < ops.size->S j (vals j) w)->Q .normal (fill ops a0 (fun j=>some (vals j)) ops.size) w) :
  ∀ (fuel:Nat) (listed:Array Bool) (vals:Nat->Option Value) (w:World),listed.size=ops.size->(∀ j,j < ops.size->listed.getD j true=(vals j).isSome)->(∀ j,ops.size<=j->vals j=none)->C (fun j=>(vals j).isSome) w ->
   (∀ j v,vals j=some v->S j v w)->cnt vals ops.size<=fuel->wpAny P md ops Q fuel listed (fill ops a0 vals ops.size) w:=by
 have hfin:∀ (vals:Nat->Option Value) (w:World),C (fun j=>(vals j).isSome) w->(∀ j,ops.size<=j->vals j=none)->(∀ j v,vals j=some v->S j v w)->(∀ j,j < ops.size->(vals j).isSome=true)->Q .normal (fill ops a0 vals ops.size) w:=by
  intro vals w hC hout hS hall;have hd:(fun j=>(vals j).isSome)=fun j=>decide (j < ops.size):=by
   funext j
   by_cases hj:j < ops.size
   ·simp[hall j hj,hj]
   ·simp[hout j (by omega),hj]
  rw[hd] at hC;have e:fill ops a0 vals ops.size=fill ops a0 (fun j=>some ((vals j).getD undef)) ops.size:=by
   have:∀ k,k<=ops.size->fill ops a0 vals k=fill ops a0 (fun j=>some ((vals j).getD undef)) k:=by
    intro k
    induction k with
    | zero=>intro _;rfl
    | succ k ih=>
     intro hk;have hs:=hall k (by omega)
     cases hv:vals k with
     | none=>rw[hv] at hs;cases hs
     | some v=>simp only[fill,hv,Option.getD_some,ih (by omega)]
   exact this _ (Nat.le_refl _)
  rw[e]
  refine fin (fun j=>(vals j).getD undef) w hC (fun j hj=>?_);have hs:=hall j hj
  cases hv:vals j with
  | none=>rw[hv] at hs;cases hs
  | some v=>exact hS j v hv
 have hready:∀ (listed:Array Bool) (vals:Nat->Option Value),listed.size=ops.size->(∀ j,j < ops.size->listed.getD j true=(vals j).isSome)->Region.ready md ops listed=[]->∀ j,j < ops.size->(vals j).isSome=true:=by
  intro listed vals hsz hl hr j
  induction j using Nat.strongRecOn with
  | ind j ih=>
   intro hj
   cases hv:(vals j).isSome with
   | true=>rfl
   | false=>
    exfalso
    have hm:j∈Region.ready md ops listed:=by
     rw[mem_ready]
     refine⟨by rw[hl j hj,hv],ops[j],Array.getElem?_eq_getElem hj,fun e he hb=>?_⟩;have hlt:=hback j _ (Array.getElem?_eq_getElem hj) e he hb;have h1:=ih e.on hlt (by omega);have h2:=hl e.on (by omega);rw[h1] at h2;have h3:e.on < listed.size:=by omega
     simp only[Array.getD_eq_getD_getElem?,Array.getElem?_eq_getElem h3,Option.getD_some] at h2 ⊢;exact h2
    rw[hr] at hm
    cases hm
 intro fuel
 induction fuel with
 | zero=>
  intro listed vals w hsz hl hout hC hS hc;have hall:=cnt_zero vals ops.size (by omega)
  refine⟨?_,hfin vals w hC hout hS hall⟩
  cases hr:Region.ready md ops listed with
  | nil=>rfl
  | cons i r=>
   have hm:i∈Region.ready md ops listed:=by rw[hr];exact List.mem_cons_self ..
   rw[mem_ready] at hm;obtain⟨h0,o,ho,-⟩:=hm;have hi:i < ops.size:=(Array.getElem?_eq_some_iff.1 ho).1;rw[hl i hi,hall i hi] at h0
   cases h0
 | succ fuel ih=>
  intro listed vals w hsz hl hout hC hS hc
  refine⟨fun hr=>hfin vals w hC hout hS (hready listed vals hsz hl hr),fun i hm=>?_⟩;rw[mem_ready] at hm;obtain⟨h0,o,ho,hdeps⟩:=hm;have hi:i < ops.size:=(Array.getElem?_eq_some_iff.1 ho).1;have hnone:vals i=none:=by
   rw[hl i hi] at h0
   cases hv:vals i with
   | none=>rfl
   | some v=>rw[hv] at h0;cases h0
  have hdo:dstOf ops i=o.dst:=by simp[dstOf,ho]
  have hdone:∀ e,e∈o.after->Region.binds md e=true->(vals e.on).isSome=true:=fun e he hb=>by
   have h1:=hdeps e he hb;have hlt:=hback i o ho e he hb;have h2:=hl e.on (by omega);have h3:e.on < listed.size:=by omega
   rw[<- h2];simp only[Array.getD_eq_getD_getElem?,Array.getElem?_eq_getElem h3,Option.getD_some] at h1 ⊢;exact h1
  have hst:=step i o ho (fun j=>(vals j).isSome) (fill ops a0 vals ops.size) w hC (by simp[hnone]) (fill_size _ _ _ _) hdone (fun e d he hb hde=>by
    have h1:=hdeps e he hb;have hlt:=hback i o ho e he hb;have h2:=hl e.on (by omega);have h3:e.on < listed.size:=by omega
    have h4:(vals e.on).isSome=true:=by
     rw[<- h2];simp only[Array.getD_eq_getD_getElem?,Array.getElem?_eq_getElem h3,Option.getD_some] at h1 ⊢;exact h1
    cases hv:vals e.on with
    | none=>rw[hv] at h4;cases h4
    | some v=>
     rw[fill_at ops a0 vals hd e.on d v hv hde (hin _ _ hde) ops.size (by omega)];exact hS _ _ hv)
   (fun d hnd=>fill_other ops a0 vals d ops.size (fun j _=>hnd j))
  have hnext:∀ (v:Value) (w':World),C (mark (fun j=>(vals j).isSome) i) w'->(∀ j v,(vals j).isSome=true->S j v w->S j v w')->S i v w'->wpAny P md ops Q fuel (listed.setIfInBounds i true) ((fill ops a0 vals ops.size).put o.dst v) w':=by
   intro v w' hC' hK hSi;rw[<- hdo,<- fill_upd ops a0 vals hd i v hnone ops.size hi]
   refine ih _ (upd vals i v) w' (by simp[hsz]) (fun j hj=>?_) (fun j hj=>?_) (by rw[mark_upd];exact hC') (fun j u hu=>?_) (by have:=cnt_upd vals i v hnone ops.size hi;omega)
   ·by_cases e:j=i
    ·subst e;simp[upd,hsz,hi]
    ·rw[getD_set_ne true (Ne.symm e),hl j hj];simp[upd,e]
   ·have e:j≠i:=by omega
    simp[upd,e,hout j hj]
   ·by_cases e:j=i
    ·subst e;simp[upd] at hu
     subst hu;exact hSi
    ·simp[upd,e] at hu
     exact hK _ _ (by rw[hu];rfl) (hS _ _ hu)
  unfold wpOp;simp only[ho]
  split
  ·rename_i hw;rw[if_pos hw] at hst
   refine .inl ?_;unfold Oper.wp;generalize (execOp (fill ops a0 vals ops.size).eval o).run P w=r at hst
   cases r with
   | ok n w'=>
    cases n <;> simp only[goodRun2] at hst <;> simp only[Oper.upon]
    case value u=>exact hnext _ _ hst.1 hst.2.1 hst.2.2
    case skip=>exact hnext _ _ hst.1 hst.2.1 hst.2.2
    case enter f args=>exact hst.mono fun e w'' ⟨v,he,h1,h2,h3⟩=>by subst he;exact hnext _ _ h1 h2 h3
   | halt x w'=>simp only[goodRun2] at hst
  ·rename_i hw;rw[if_neg hw] at hst;exact hnext _ _ hst.1 (fun _ _ _ h=>h) hst.2
theorem region_spec2 {id:Nat}{w:World}(n:Nat)(hn:ops.size=n)(S:Nat->Value->World->Prop)(C:(Nat->Bool)->World->Prop)(hm:P.follows .mixedOrders=true)(hB:regionB ops a0.tmps.size=true)(hC:C (fun _=>false) w.drew)
  (step:∀ i o,ops[i]?=some o->StepOk2 P .any ops S C a0 i o)
  (fin:∀ (vals:Nat->Value) (w:World),C (fun j=>decide (j < n)) w->(∀ j,j < n->S j (vals j) w)->Q .normal (fill ops a0 (fun j=>some (vals j)) n) w) :
  (Code.region id ops true).wp P Q a0 w:=by
 subst hn;unfold regionB at hB;simp only[Bool.and_eq_true,List.all_eq_true,List.mem_range] at hB;obtain⟨⟨h1,h2⟩,h3⟩:=hB
 refine wp_region_any hm ?_;have hnone:fill ops a0 (fun _=>none) ops.size=a0:=by
  have:∀ k,fill ops a0 (fun _=>none) k=a0:=by
   intro k
   induction k with
   | zero=>rfl
   | succ k ih=>simp only[fill,ih]
  exact this _
 have key:=wpAny_spec2 (P:=P) (ops:=ops) (Q:=Q) (md:=.any) (S:=S) (C:=C) (a0:=a0)
  (fun i j d hne hi hj=>by
   have h:=h1 i (dstOf_lt hi) j (dstOf_lt hj);simp[hne,hi,hj] at h)
  (fun j d hj=>by
   have h:=h2 j (dstOf_lt hj);rw[hj] at h;simpa using h)
  (fun i o ho e he hb=>by
   have h:=h3 i (Array.getElem?_eq_some_iff.1 ho).1;rw[ho] at h;have:=List.all_eq_true.1 h e (by simpa using he);simpa[hb] using this)
  step fin ops.size (Array.replicate ops.size false) (fun _=>none) w.drew (by simp) (fun j hj=>by simp[hj]) (fun _ _=>rfl) hC (fun j v h=>by cases h) (by
   have:∀ k,cnt (fun _=>none) k<=k:=by
    intro k
    induction k with
    | zero=>exact Nat.le_refl _
    | succ k ih=>simp only[cnt];split <;> omega
   exact this _)
 rw[hnone] at key;exact key
theorem StepOk2.free {i:Nat}{o:Oper}(hg:o.guard=none)
  (hrun:∀ (done:Nat->Bool) (a:Act) (w:World),C done w->done i=false->(∀ e,e∈o.after->Region.binds md e=true->done e.on=true)->(∀ e d,e∈o.after->Region.binds md e=true->dstOf ops e.on=some d->S e.on (a.eval (.tmp d)) w)->(∀ d,(∀ j,dstOf ops j≠some d)->a.eval (.tmp d)=a0.eval (.tmp d))->goodRun2 P S C done i w ((execOp a.eval o).run P w)) :
  StepOk2 P md ops S C a0 i o:=by
 intro done a w hC hi _ hdo hdep hoth;rw[if_pos (by unfold Region.wanted;rw[hg])];exact hrun done a w hC hi hdo hdep hoth
theorem goodRun2.val {i:Nat}{done:Nat->Bool}{w:World}{c:Value}{r:Result Next}(hr:r=.ok (.value c) w)(hC:C (mark done i) w)(hS:S i c w):goodRun2 P S C done i w r:=by
 subst hr;exact⟨hC,fun _ _ _ h=>h,hS⟩
theorem goodRun2.skipped {i:Nat}{done:Nat->Bool}{w w':World}{r:Result Next}(hr:r=.ok .skip w')(hC:C (mark done i) w')(hK:∀ j v,done j=true->S j v w->S j v w')(hS:S i undef w'):goodRun2 P S C done i w r:=by
 subst hr;exact⟨hC,hK,hS⟩
theorem goodRun2.call {i:Nat}{done:Nat->Bool}{w:World}{f:FuncId}{args:Array Value}{r:Result Next}(hr:r=.ok (.enter f args) w)
  (hc:Calls P f args w fun e w''=>∃ v,e=.returned v/\C (mark done i) w''/\(∀ j v,done j=true->S j v w->S j v w'')/\S i v w''):goodRun2 P S C done i w r:=by
 subst hr;exact hc
end
end Go.Proofs.YtffpcbdlbcjihadGreatDoor
