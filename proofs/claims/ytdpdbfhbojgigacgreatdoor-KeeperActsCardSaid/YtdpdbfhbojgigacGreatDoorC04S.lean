/-
  Several texts as one: Orders, Orders2.
-/
import Derived.Orders
import Derived.Outline
namespace Go.Proofs.YtdpdbfhbojgigacGreatDoor
open Go
def dstOf (ops:Array Oper)(j:Nat):Option Tmp:=(ops[j]?).bind (·.dst)
def fill (ops:Array Oper)(a0:Act)(vals:Nat->Option Value):Nat->Act
 | 0=>a0
 | k+1=>match vals k with
  | none=>fill ops a0 vals k
  | some v=>(fill ops a0 vals k).put (dstOf ops k) v
def upd (vals:Nat->Option Value)(i:Nat)(v:Value):Nat->Option Value:=fun j=>if j=i then some v else vals j
def Distinct (ops:Array Oper):Prop:=∀ i j d,i≠j->dstOf ops i=some d->dstOf ops j≠some d
theorem fill_size (ops:Array Oper)(a0:Act)(vals:Nat->Option Value):∀ k,(fill ops a0 vals k).tmps.size=a0.tmps.size:=by
 intro k
 induction k with
 | zero=>rfl
 | succ k ih=>
  unfold fill
  split
  ·exact ih
  ·cases dstOf ops k <;> simp[Act.put,ih]
theorem fill_other (ops:Array Oper)(a0:Act)(vals:Nat->Option Value)(d:Tmp):∀ k,(∀ j,j < k->dstOf ops j≠some d)->(fill ops a0 vals k).eval (.tmp d)=a0.eval (.tmp d):=by
 intro k
 induction k with
 | zero=>intro _;rfl
 | succ k ih=>
  intro h;unfold fill
  split
  ·exact ih (fun j hj=>h j (by omega))
  ·rw[Act.eval_put (fun e he hx=>h k (by omega) (by rw[he];cases hx;rfl))];exact ih (fun j hj=>h j (by omega))
theorem fill_at (ops:Array Oper)(a0:Act)(vals:Nat->Option Value)(hd:Distinct ops)(j:Nat)(d:Tmp)(v:Value)(hj:vals j=some v)(hdst:dstOf ops j=some d)(hlt:d < a0.tmps.size):∀ k,j < k->(fill ops a0 vals k).eval (.tmp d)=v:=by
 intro k
 induction k with
 | zero=>intro h;omega
 | succ k ih=>
  intro h;unfold fill
  by_cases e:j=k
  ·subst e;rw[hj];have hs:=fill_size ops a0 vals j;simp only[hdst,Act.put,Act.eval];simp[hs,hlt]
  ·have hk:=ih (by omega)
   split
   ·exact hk
   ·rw[Act.eval_put (fun e2 he hx=>hd j k d e hdst (by rw[he];cases hx;rfl))];exact hk
theorem fill_upd_out (ops:Array Oper)(a0:Act)(vals:Nat->Option Value)(i:Nat)(v:Value):∀ k,k<=i->fill ops a0 (upd vals i v) k=fill ops a0 vals k:=by
 intro k
 induction k with
 | zero=>intro _;rfl
 | succ k ih=>
  intro h;have e:upd vals i v k=vals k:=by simp[upd];omega
  unfold fill;rw[e,ih (by omega)]
theorem fill_upd (ops:Array Oper)(a0:Act)(vals:Nat->Option Value)(hd:Distinct ops)(i:Nat)(v:Value)(hi:vals i=none):∀ k,i < k->fill ops a0 (upd vals i v) k=(fill ops a0 vals k).put (dstOf ops i) v:=by
 intro k
 induction k with
 | zero=>intro h;omega
 | succ k ih=>
  intro h
  by_cases e:i=k
  ·subst e;have e1:upd vals i v i=some v:=by simp[upd]
   have e2:=fill_upd_out ops a0 vals i v i (Nat.le_refl _);simp only[fill,e1,hi,e2]
  ·have e1:upd vals i v k=vals k:=by simp[upd,Ne.symm e]
   have hk:=ih (by omega);simp only[fill,e1,hk]
   cases hv:vals k with
   | none=>rfl
   | some u=>exact(Act.put_comm _ v u (fun d hdi=>hd i k d e hdi))
def cnt (vals:Nat->Option Value):Nat->Nat
 | 0=>0
 | k+1=>cnt vals k+(if (vals k).isNone then 1 else 0)
theorem cnt_upd_out (vals:Nat->Option Value)(i:Nat)(v:Value):∀ k,k<=i->cnt (upd vals i v) k=cnt vals k:=by
 intro k
 induction k with
 | zero=>intro _;rfl
 | succ k ih=>
  intro h;have e:upd vals i v k=vals k:=by simp[upd];omega
  simp only[cnt,e,ih (by omega)]
theorem cnt_upd (vals:Nat->Option Value)(i:Nat)(v:Value)(hi:vals i=none):∀ k,i < k->cnt (upd vals i v) k+1=cnt vals k:=by
 intro k
 induction k with
 | zero=>intro h;omega
 | succ k ih=>
  intro h
  by_cases e:i=k
  ·subst e;have e1:upd vals i v i=some v:=by simp[upd]
   simp only[cnt,e1,hi,cnt_upd_out vals i v i (Nat.le_refl _)];simp
  ·have e1:upd vals i v k=vals k:=by simp[upd,Ne.symm e]
   have:=ih (by omega);simp only[cnt,e1];omega
theorem cnt_zero (vals:Nat->Option Value):∀ k,cnt vals k=0->∀ j,j < k->(vals j).isSome=true:=by
 intro k
 induction k with
 | zero=>intro _ j h;omega
 | succ k ih=>
  intro h j hj;simp only[cnt] at h
  by_cases e:j=k
  ·subst e
   cases hv:vals j with
   | none=>simp[hv] at h
   | some v=>rfl
  ·exact ih (by omega) j (by omega)
def goodRun (P:Program)(S:Nat->Value->World->Prop)(C:World->Prop)(i:Nat)(w:World):Result Next->Prop
 | .ok (.value u) w'=>C w'/\(∀ j v,S j v w->S j v w')/\S i u w'
 | .ok .skip w'=>C w'/\(∀ j v,S j v w->S j v w')/\S i undef w'
 | .ok (.enter f args) w'=>Calls P f args w' fun e w''=>∃ v,e=.returned v/\C w''/\(∀ j v,S j v w->S j v w'')/\S i v w''
 | _=>False
section
variable {P:Program}{ops:Array Oper}{Q:Exit->Act->World->Prop}{md:Region.Mode}{S:Nat->Value->World->Prop}{C:World->Prop}{a0:Act}
def StepOk (P:Program)(md:Region.Mode)(ops:Array Oper)(S:Nat->Value->World->Prop)(C:World->Prop)(a0:Act)(i:Nat)(o:Oper):Prop:=
 ∀ (a:Act) (w:World),C w->a.tmps.size=a0.tmps.size->(∀ e d,e∈o.after->Region.binds md e=true->dstOf ops e.on=some d->S e.on (a.eval (.tmp d)) w) ->
  (∀ d,(∀ j,dstOf ops j≠some d)->a.eval (.tmp d)=a0.eval (.tmp d)) ->
  if Region.wanted o (yielded ops a.tmps)=true then goodRun P S C i w ((execOp a.eval o).run P w) else S i undef w
theorem wpAny_spec (hd:Distinct ops)(hin:∀ j d,dstOf ops j=some d->d < a0.tmps.size)
  (hback:∀ i o,ops[i]?=some o->∀ e,e∈o.after->Region.binds md e=true->e.on < i)
  (step:∀ i o,ops[i]?=some o->StepOk P md ops S C a0 i o)
  (fin:∀ (vals:Nat->Value) (w:World),C w->(∀ j,j < ops.size->S j (vals j) w)->Q .normal (fill ops a0 (fun j=>some (vals j)) ops.size) w) :
  ∀ (fuel:Nat) (listed:Array Bool) (vals:Nat->Option Value) (w:World),listed.size=ops.size->(∀ j,j < ops.size->listed.getD j true=(vals j).isSome)->C w ->
   (∀ j v,vals j=some v->S j v w)->cnt vals ops.size<=fuel->wpAny P md ops Q fuel listed (fill ops a0 vals ops.size) w:=by
 have hfin:∀ (vals:Nat->Option Value) (w:World),C w->(∀ j v,vals j=some v->S j v w)->(∀ j,j < ops.size->(vals j).isSome=true)->Q .normal (fill ops a0 vals ops.size) w:=by
  intro vals w hC hS hall;have e:fill ops a0 vals ops.size=fill ops a0 (fun j=>some ((vals j).getD undef)) ops.size:=by
   have:∀ k,k<=ops.size->fill ops a0 vals k=fill ops a0 (fun j=>some ((vals j).getD undef)) k:=by
    intro k
    induction k with
    | zero=>intro _;rfl
    | succ k ih=>
     intro hk;have hs:=hall k (by omega)
     cases hv:vals k with
     | none=>rw[hv] at hs;cases hs
     | some v=>simp only[fill,hv,Option.getD_some,ih (by omega)]
   exact this _ (Nat.le_refl _)
  rw[e]
  refine fin (fun j=>(vals j).getD undef) w hC (fun j hj=>?_);have hs:=hall j hj
  cases hv:vals j with
  | none=>rw[hv] at hs;cases hs
  | some v=>exact hS j v hv
 have hready:∀ (listed:Array Bool) (vals:Nat->Option Value),listed.size=ops.size->(∀ j,j < ops.size->listed.getD j true=(vals j).isSome)->Region.ready md ops listed=[]->∀ j,j < ops.size->(vals j).isSome=true:=by
  intro listed vals hsz hl hr j
  induction j using Nat.strongRecOn with
  | ind j ih=>
   intro hj
   cases hv:(vals j).isSome with
   | true=>rfl
   | false=>
    exfalso
    have hm:j∈Region.ready md ops listed:=by
     rw[mem_ready]
     refine⟨by rw[hl j hj,hv],ops[j],Array.getElem?_eq_getElem hj,fun e he hb=>?_⟩;have hlt:=hback j _ (Array.getElem?_eq_getElem hj) e he hb;have h1:=ih e.on hlt (by omega);have h2:=hl e.on (by omega);rw[h1] at h2;have h3:e.on < listed.size:=by omega
     simp only[Array.getD_eq_getD_getElem?,Array.getElem?_eq_getElem h3,Option.getD_some] at h2 ⊢;exact h2
    rw[hr] at hm
    cases hm
 intro fuel
 induction fuel with
 | zero=>
  intro listed vals w hsz hl hC hS hc;have hall:=cnt_zero vals ops.size (by omega)
  refine⟨?_,hfin vals w hC hS hall⟩
  cases hr:Region.ready md ops listed with
  | nil=>rfl
  | cons i r=>
   have hm:i∈Region.ready md ops listed:=by rw[hr];exact List.mem_cons_self ..
   rw[mem_ready] at hm;obtain⟨h0,o,ho,-⟩:=hm;have hi:i < ops.size:=(Array.getElem?_eq_some_iff.1 ho).1;rw[hl i hi,hall i hi] at h0
   cases h0
 | succ fuel ih=>
  intro listed vals w hsz hl hC hS hc
  refine⟨fun hr=>hfin vals w hC hS (hready listed vals hsz hl hr),fun i hm=>?_⟩;rw[mem_ready] at hm;obtain⟨h0,o,ho,hdeps⟩:=hm;have hi:i < ops.size:=(Array.getElem?_eq_some_iff.1 ho).1;have hnone:vals i=none:=by
   rw[hl i hi] at h0
   cases hv:vals i with
   | none=>rfl
   | some v=>rw[hv] at h0;cases h0
  have hdo:dstOf ops i=o.dst:=by simp[dstOf,ho]
  have hst:=step i o ho (fill ops a0 vals ops.size) w hC (fill_size _ _ _ _) (fun e d he hb hde=>by
    have h1:=hdeps e he hb;have hlt:=hback i o ho e he hb;have h2:=hl e.on (by omega);have h3:e.on < listed.size:=by omega
    have h4:(vals e.on).isSome=true:=by
     rw[<- h2];simp only[Array.getD_eq_getD_getElem?,Array.getElem?_eq_getElem h3,Option.getD_some] at h1 ⊢;exact h1
    cases hv:vals e.on with
    | none=>rw[hv] at h4;cases h4
    | some v=>
     rw[fill_at ops a0 vals hd e.on d v hv hde (hin _ _ hde) ops.size (by omega)];exact hS _ _ hv)
   (fun d hnd=>fill_other ops a0 vals d ops.size (fun j _=>hnd j))
  have hnext:∀ (v:Value) (w':World),C w'->(∀ j v,S j v w->S j v w')->S i v w'->wpAny P md ops Q fuel (listed.setIfInBounds i true) ((fill ops a0 vals ops.size).put o.dst v) w':=by
   intro v w' hC' hK hSi;rw[<- hdo,<- fill_upd ops a0 vals hd i v hnone ops.size hi]
   refine ih _ (upd vals i v) w' (by simp[hsz]) (fun j hj=>?_) hC' (fun j u hu=>?_) (by have:=cnt_upd vals i v hnone ops.size hi;omega)
   ·by_cases e:j=i
    ·subst e;simp[upd,hsz,hi]
    ·rw[getD_set_ne true (Ne.symm e),hl j hj];simp[upd,e]
   ·by_cases e:j=i
    ·subst e;simp[upd] at hu
     subst hu;exact hSi
    ·simp[upd,e] at hu
     exact hK _ _ (hS _ _ hu)
  unfold wpOp;simp only[ho]
  split
  ·rename_i hw;rw[if_pos hw] at hst
   refine .inl ?_;unfold Oper.wp;generalize (execOp (fill ops a0 vals ops.size).eval o).run P w=r at hst
   cases r with
   | ok n w'=>
    cases n <;> simp only[goodRun] at hst <;> simp only[Oper.upon]
    case value u=>exact hnext _ _ hst.1 hst.2.1 hst.2.2
    case skip=>exact hnext _ _ hst.1 hst.2.1 hst.2.2
    case enter f args=>exact hst.mono fun e w'' ⟨v,he,h1,h2,h3⟩=>by subst he;exact hnext _ _ h1 h2 h3
   | halt x w'=>simp only[goodRun] at hst
  ·rename_i hw;rw[if_neg hw] at hst;exact hnext _ _ hC (fun _ _ h=>h) hst
def regionB (ops:Array Oper)(n:Nat):Bool:=
 ((List.range ops.size).all fun i=>(List.range ops.size).all fun j=>i == j || (match dstOf ops i,dstOf ops j with | some d,some e=>d != e | _,_=>true)) &&
 ((List.range ops.size).all fun i=>match dstOf ops i with | some d=>decide (d < n) | none=>true) &&
 ((List.range ops.size).all fun i=>match ops[i]? with | some o=>o.after.toList.all fun e=>!Region.binds .any e || decide (e.on < i) | none=>true)
theorem dstOf_lt {ops:Array Oper}{j:Nat}{d:Tmp}(h:dstOf ops j=some d):j < ops.size:=by
 rcases Nat.lt_or_ge j ops.size with h' | h'
 ·exact h'
 ·simp[dstOf,Array.getElem?_eq_none h'] at h
theorem region_spec {id:Nat}{w:World}(n:Nat)(hn:ops.size=n)(S:Nat->Value->World->Prop)(C:World->Prop)(hm:P.follows .mixedOrders=true)(hB:regionB ops a0.tmps.size=true)(hC:C w.drew)
  (step:∀ i o,ops[i]?=some o->StepOk P .any ops S C a0 i o)
  (fin:∀ (vals:Nat->Value) (w:World),C w->(∀ j,j < n->S j (vals j) w)->Q .normal (fill ops a0 (fun j=>some (vals j)) n) w) :
  (Code.region id ops true).wp P Q a0 w:=by
 subst hn;unfold regionB at hB;simp only[Bool.and_eq_true,List.all_eq_true,List.mem_range] at hB;obtain⟨⟨h1,h2⟩,h3⟩:=hB
 refine wp_region_any hm ?_;have hnone:fill ops a0 (fun _=>none) ops.size=a0:=by
  have:∀ k,fill ops a0 (fun _=>none) k=a0:=by
   intro k
   induction k with
   | zero=>rfl
   | succ k ih=>simp only[fill,ih]
  exact this _
 have key:=wpAny_spec (P:=P) (ops:=ops) (Q:=Q) (md:=.any) (S:=S) (C:=C) (a0:=a0)
  (fun i j d hne hi hj=>by
   have h:=h1 i (dstOf_lt hi) j (dstOf_lt hj);simp[hne,hi,hj] at h)
  (fun j d hj=>by
   have h:=h2 j (dstOf_lt hj);rw[hj] at h;simpa using h)
  (fun i o ho e he hb=>by
   have h:=h3 i (Array.getElem?_eq_some_iff.1 ho).1;rw[ho] at h;have:=List.all_eq_true.1 h e (by simpa using he);simpa[hb] using this)
  step fin ops.size (Array.replicate ops.size false) (fun _=>none) w.drew (by simp) (fun j hj=>by simp[hj]) hC (fun j v h=>by cases h) (by
   have:∀ k,cnt (fun _=>none) k<=k:=by
    intro k
    induction k with
    | zero=>exact Nat.le_refl _
    | succ k ih=>simp only[cnt];split <;> omega
   exact this _)
 rw[hnone] at key;exact key
theorem notDst {ops:Array Oper}{d:Tmp}(h:((List.range ops.size).all fun j=>!(dstOf ops j == some d))=true):∀ j,dstOf ops j≠some d:=fun j e=>by
 have:=List.all_eq_true.1 h j (List.mem_range.2 (dstOf_lt e));simp[e] at this
theorem slot_of {a:Act}{d:Tmp}{c:Value}(h:a.eval (.tmp d)=c):a.tmps[d]?.getD undef=c:=by
 rw[<- Array.getD_eq_getD_getElem?];exact h
theorem StepOk.free {i:Nat}{o:Oper}(hg:o.guard=none)
  (hrun:∀ (a:Act) (w:World),C w->(∀ e d,e∈o.after->Region.binds md e=true->dstOf ops e.on=some d->S e.on (a.eval (.tmp d)) w)->(∀ d,(∀ j,dstOf ops j≠some d)->a.eval (.tmp d)=a0.eval (.tmp d))->goodRun P S C i w ((execOp a.eval o).run P w)) :
  StepOk P md ops S C a0 i o:=by
 intro a w hC _ hdep hoth;rw[if_pos (by unfold Region.wanted;rw[hg])];exact hrun a w hC hdep hoth
theorem goodRun.made {i:Nat}{w w':World}{c:Value}{r:Result Next}(hr:r=.ok (.value c) w')(hC:C w')(hK:∀ j v,S j v w->S j v w')(hS:S i c w'):goodRun P S C i w r:=by
 subst hr;exact⟨hC,hK,hS⟩
theorem goodRun.call {i:Nat}{w:World}{f:FuncId}{args:Array Value}{r:Result Next}(hr:r=.ok (.enter f args) w)
  (hc:Calls P f args w fun e w''=>∃ v,e=.returned v/\C w''/\(∀ j v,S j v w->S j v w'')/\S i v w''):goodRun P S C i w r:=by
 subst hr;exact hc
theorem goodRun.val {i:Nat}{w:World}{c:Value}{r:Result Next}(hr:r=.ok (.value c) w)(hC:C w)(hS:S i c w):goodRun P S C i w r:=by
 subst hr;exact⟨hC,fun _ _ h=>h,hS⟩
end
def mark (done:Nat->Bool)(i:Nat):Nat->Bool:=fun j=>decide (j=i) || done j
theorem mark_upd (vals:Nat->Option Value)(i:Nat)(v:Value):(fun j=>(upd vals i v j).isSome)=mark (fun j=>(vals j).isSome) i:=by
 funext j
 unfold mark upd
 by_cases h:j=i
 ·simp[h]
 ·simp[h]
theorem mark_other (done:Nat->Bool){i j:Nat}(h:j≠i):mark done i j=done j:=by simp[mark,h]
theorem mark_same (done:Nat->Bool)(i:Nat):mark done i i=true:=by simp[mark]
def goodRun2 (P:Program)(S:Nat->Value->World->Prop)(C:(Nat->Bool)->World->Prop)(done:Nat->Bool)(i:Nat)(w:World):Result Next->Prop
 | .ok (.value u) w'=>C (mark done i) w'/\(∀ j v,done j=true->S j v w->S j v w')/\S i u w'
 | .ok .skip w'=>C (mark done i) w'/\(∀ j v,done j=true->S j v w->S j v w')/\S i undef w'
 | .ok (.enter f args) w'=>Calls P f args w' fun e w''=>∃ v,e=.returned v/\C (mark done i) w''/\(∀ j v,done j=true->S j v w->S j v w'')/\S i v w''
 | _=>False
section
variable {P:Program}{ops:Array Oper}{Q:Exit->Act->World->Prop}{md:Region.Mode}{S:Nat->Value->World->Prop}{C:(Nat->Bool)->World->Prop}{a0:Act}
def StepOk2 (P:Program)(md:Region.Mode)(ops:Array Oper)(S:Nat->Value->World->Prop)(C:(Nat->Bool)->World->Prop)(a0:Act)(i:Nat)(o:Oper):Prop:=
 ∀ (done:Nat->Bool) (a:Act) (w:World),C done w->done i=false->a.tmps.size=a0.tmps.size->(∀ e,e∈o.after->Region.binds md e=true->done e.on=true)->(∀ e d,e∈o.after->Region.binds md e=true->dstOf ops e.on=some d->S e.on (a.eval (.tmp d)) w) ->
  (∀ d,(∀ j,dstOf ops j≠some d)->a.eval (.tmp d)=a0.eval (.tmp d)) ->
  if Region.wanted o (yielded ops a.tmps)=true then goodRun2 P S C done i w ((execOp a.eval o).run P w) else C (mark done i) w/\S i undef w
theorem wpAny_spec2 (hd:Distinct ops)(hin:∀ j d,dstOf ops j=some d->d < a0.tmps.size)
  (hback:∀ i o,ops[i]?=some o->∀ e,e∈o.after->Region.binds md e=true->e.on < i)
  (step:∀ i o,ops[i]?=some o->StepOk2 P md ops S C a0 i o)
  (fin:∀ (vals:Nat->Value) (w:World),C (fun j=>decide (j < ops.size)) w->(∀ j,j < ops.size->S j (vals j) w)->Q .normal (fill ops a0 (fun j=>some (vals j)) ops.size) w) :
  ∀ (fuel:Nat) (listed:Array Bool) (vals:Nat->Option Value) (w:World),listed.size=ops.size->(∀ j,j < ops.size->listed.getD j true=(vals j).isSome)->(∀ j,ops.size<=j->vals j=none)->C (fun j=>(vals j).isSome) w ->
   (∀ j v,vals j=some v->S j v w)->cnt vals ops.size<=fuel->wpAny P md ops Q fuel listed (fill ops a0 vals ops.size) w:=by
 have hfin:∀ (vals:Nat->Option Value) (w:World),C (fun j=>(vals j).isSome) w->(∀ j,ops.size<=j->vals j=none)->(∀ j v,vals j=some v->S j v w)->(∀ j,j < ops.size->(vals j).isSome=true)->Q .normal (fill ops a0 vals ops.size) w:=by
  intro vals w hC hout hS hall;have hd:(fun j=>(vals j).isSome)=fun j=>decide (j < ops.size):=by
   funext j
   by_cases hj:j < ops.size
   ·simp[hall j hj,hj]
   ·simp[hout j (by omega),hj]
  rw[hd] at hC;have e:fill ops a0 vals ops.size=fill ops a0 (fun j=>some ((vals j).getD undef)) ops.size:=by
   have:∀ k,k<=ops.size->fill ops a0 vals k=fill ops a0 (fun j=>some ((vals j).getD undef)) k:=by
    intro k
    induction k with
    | zero=>intro _;rfl
    | succ k ih=>
     intro hk;have hs:=hall k (by omega)
     cases hv:vals k with
     | none=>rw[hv] at hs;cases hs
     | some v=>simp only[fill,hv,Option.getD_some,ih (by omega)]
   exact this _ (Nat.le_refl _)
  rw[e]
  refine fin (fun j=>(vals j).getD undef) w hC (fun j hj=>?_);have hs:=hall j hj
  cases hv:vals j with
  | none=>rw[hv] at hs;cases hs
  | some v=>exact hS j v hv
 have hready:∀ (listed:Array Bool) (vals:Nat->Option Value),listed.size=ops.size->(∀ j,j < ops.size->listed.getD j true=(vals j).isSome)->Region.ready md ops listed=[]->∀ j,j < ops.size->(vals j).isSome=true:=by
  intro listed vals hsz hl hr j
  induction j using Nat.strongRecOn with
  | ind j ih=>
   intro hj
   cases hv:(vals j).isSome with
   | true=>rfl
   | false=>
    exfalso
    have hm:j∈Region.ready md ops listed:=by
     rw[mem_ready]
     refine⟨by rw[hl j hj,hv],ops[j],Array.getElem?_eq_getElem hj,fun e he hb=>?_⟩;have hlt:=hback j _ (Array.getElem?_eq_getElem hj) e he hb;have h1:=ih e.on hlt (by omega);have h2:=hl e.on (by omega);rw[h1] at h2;have h3:e.on < listed.size:=by omega
     simp only[Array.getD_eq_getD_getElem?,Array.getElem?_eq_getElem h3,Option.getD_some] at h2 ⊢;exact h2
    rw[hr] at hm
    cases hm
 intro fuel
 induction fuel with
 | zero=>
  intro listed vals w hsz hl hout hC hS hc;have hall:=cnt_zero vals ops.size (by omega)
  refine⟨?_,hfin vals w hC hout hS hall⟩
  cases hr:Region.ready md ops listed with
  | nil=>rfl
  | cons i r=>
   have hm:i∈Region.ready md ops listed:=by rw[hr];exact List.mem_cons_self ..
   rw[mem_ready] at hm;obtain⟨h0,o,ho,-⟩:=hm;have hi:i < ops.size:=(Array.getElem?_eq_some_iff.1 ho).1;rw[hl i hi,hall i hi] at h0
   cases h0
 | succ fuel ih=>
  intro listed vals w hsz hl hout hC hS hc
  refine⟨fun hr=>hfin vals w hC hout hS (hready listed vals hsz hl hr),fun i hm=>?_⟩;rw[mem_ready] at hm;obtain⟨h0,o,ho,hdeps⟩:=hm;have hi:i < ops.size:=(Array.getElem?_eq_some_iff.1 ho).1;have hnone:vals i=none:=by
   rw[hl i hi] at h0
   cases hv:vals i with
   | none=>rfl
   | some v=>rw[hv] at h0;cases h0
  have hdo:dstOf ops i=o.dst:=by simp[dstOf,ho]
  have hdone:∀ e,e∈o.after->Region.binds md e=true->(vals e.on).isSome=true:=fun e he hb=>by
   have h1:=hdeps e he hb;have hlt:=hback i o ho e he hb;have h2:=hl e.on (by omega);have h3:e.on < listed.size:=by omega
   rw[<- h2];simp only[Array.getD_eq_getD_getElem?,Array.getElem?_eq_getElem h3,Option.getD_some] at h1 ⊢;exact h1
  have hst:=step i o ho (fun j=>(vals j).isSome) (fill ops a0 vals ops.size) w hC (by simp[hnone]) (fill_size _ _ _ _) hdone (fun e d he hb hde=>by
    have h1:=hdeps e he hb;have hlt:=hback i o ho e he hb;have h2:=hl e.on (by omega);have h3:e.on < listed.size:=by omega
    have h4:(vals e.on).isSome=true:=by
     rw[<- h2];simp only[Array.getD_eq_getD_getElem?,Array.getElem?_eq_getElem h3,Option.getD_some] at h1 ⊢;exact h1
    cases hv:vals e.on with
    | none=>rw[hv] at h4;cases h4
    | some v=>
     rw[fill_at ops a0 vals hd e.on d v hv hde (hin _ _ hde) ops.size (by omega)];exact hS _ _ hv)
   (fun d hnd=>fill_other ops a0 vals d ops.size (fun j _=>hnd j))
  have hnext:∀ (v:Value) (w':World),C (mark (fun j=>(vals j).isSome) i) w'->(∀ j v,(vals j).isSome=true->S j v w->S j v w')->S i v w'->wpAny P md ops Q fuel (listed.setIfInBounds i true) ((fill ops a0 vals ops.size).put o.dst v) w':=by
   intro v w' hC' hK hSi;rw[<- hdo,<- fill_upd ops a0 vals hd i v hnone ops.size hi]
   refine ih _ (upd vals i v) w' (by simp[hsz]) (fun j hj=>?_) (fun j hj=>?_) (by rw[mark_upd];exact hC') (fun j u hu=>?_) (by have:=cnt_upd vals i v hnone ops.size hi;omega)
   ·by_cases e:j=i
    ·subst e;simp[upd,hsz,hi]
    ·rw[getD_set_ne true (Ne.symm e),hl j hj];simp[upd,e]
   ·have e:j≠i:=by omega
    simp[upd,e,hout j hj]
   ·by_cases e:j=i
    ·subst e;simp[upd] at hu
     subst hu;exact hSi
    ·simp[upd,e] at hu
     exact hK _ _ (by rw[hu];rfl) (hS _ _ hu)
  unfold wpOp;simp only[ho]
  split
  ·rename_i hw;rw[if_pos hw] at hst
   refine .inl ?_;unfold Oper.wp;generalize (execOp (fill ops a0 vals ops.size).eval o).run P w=r at hst
   cases r with
   | ok n w'=>
    cases n <;> simp only[goodRun2] at hst <;> simp only[Oper.upon]
    case value u=>exact hnext _ _ hst.1 hst.2.1 hst.2.2
    case skip=>exact hnext _ _ hst.1 hst.2.1 hst.2.2
    case enter f args=>exact hst.mono fun e w'' ⟨v,he,h1,h2,h3⟩=>by subst he;exact hnext _ _ h1 h2 h3
   | halt x w'=>simp only[goodRun2] at hst
  ·rename_i hw;rw[if_neg hw] at hst;exact hnext _ _ hst.1 (fun _ _ _ h=>h) hst.2
theorem region_spec2 {id:Nat}{w:World}(n:Nat)(hn:ops.size=n)(S:Nat->Value->World->Prop)(C:(Nat->Bool)->World->Prop)(hm:P.follows .mixedOrders=true)(hB:regionB ops a0.tmps.size=true)(hC:C (fun _=>false) w.drew)
  (step:∀ i o,ops[i]?=some o->StepOk2 P .any ops S C a0 i o)
  (fin:∀ (vals:Nat->Value) (w:World),C (fun j=>decide (j < n)) w->(∀ j,j < n->S j (vals j) w)->Q .normal (fill ops a0 (fun j=>some (vals j)) n) w) :
  (Code.region id ops true).wp P Q a0 w:=by
 subst hn;unfold regionB at hB;simp only[Bool.and_eq_true,List.all_eq_true,List.mem_range] at hB;obtain⟨⟨h1,h2⟩,h3⟩:=hB
 refine wp_region_any hm ?_;have hnone:fill ops a0 (fun _=>none) ops.size=a0:=by
  have:∀ k,fill ops a0 (fun _=>none) k=a0:=by
   intro k
   induction k with
   | zero=>rfl
   | succ k ih=>simp only[fill,ih]
  exact this _
 have key:=wpAny_spec2 (P:=P) (ops:=ops) (Q:=Q) (md:=.any) (S:=S) (C:=C) (a0:=a0)
  (fun i j d hne hi hj=>by
   have h:=h1 i (dstOf_lt hi) j (dstOf_lt hj);simp[hne,hi,hj] at h)
  (fun j d hj=>by
   have h:=h2 j (dstOf_lt hj);rw[hj] at h;simpa using h)
  (fun i o ho e he hb=>by
   have h:=h3 i (Array.getElem?_eq_some_iff.1 ho).1;rw[ho] at h;have:=List.all_eq_true.1 h e (by simpa using he);simpa[hb] using this)
  step fin ops.size (Array.replicate ops.size false) (fun _=>none) w.drew (by simp) (fun j hj=>by simp[hj]) (fun _ _=>rfl) hC (fun j v h=>by cases h) (by
   have:∀ k,cnt (fun _=>none) k<=k:=by
    intro k
    induction k with
    | zero=>exact Nat.le_refl _
    | succ k ih=>simp only[cnt];split <;> omega
   exact this _)
 rw[hnone] at key;exact key
theorem StepOk2.free {i:Nat}{o:Oper}(hg:o.guard=none)
  (hrun:∀ (done:Nat->Bool) (a:Act) (w:World),C done w->done i=false->(∀ e,e∈o.after->Region.binds md e=true->done e.on=true)->(∀ e d,e∈o.after->Region.binds md e=true->dstOf ops e.on=some d->S e.on (a.eval (.tmp d)) w)->(∀ d,(∀ j,dstOf ops j≠some d)->a.eval (.tmp d)=a0.eval (.tmp d))->goodRun2 P S C done i w ((execOp a.eval o).run P w)) :
  StepOk2 P md ops S C a0 i o:=by
 intro done a w hC hi _ hdo hdep hoth;rw[if_pos (by unfold Region.wanted;rw[hg])];exact hrun done a w hC hi hdo hdep hoth
theorem goodRun2.val {i:Nat}{done:Nat->Bool}{w:World}{c:Value}{r:Result Next}(hr:r=.ok (.value c) w)(hC:C (mark done i) w)(hS:S i c w):goodRun2 P S C done i w r:=by
 subst hr;exact⟨hC,fun _ _ _ h=>h,hS⟩
theorem goodRun2.skipped {i:Nat}{done:Nat->Bool}{w w':World}{r:Result Next}(hr:r=.ok .skip w')(hC:C (mark done i) w')(hK:∀ j v,done j=true->S j v w->S j v w')(hS:S i undef w'):goodRun2 P S C done i w r:=by
 subst hr;exact⟨hC,hK,hS⟩
theorem goodRun2.call {i:Nat}{done:Nat->Bool}{w:World}{f:FuncId}{args:Array Value}{r:Result Next}(hr:r=.ok (.enter f args) w)
  (hc:Calls P f args w fun e w''=>∃ v,e=.returned v/\C (mark done i) w''/\(∀ j v,done j=true->S j v w->S j v w'')/\S i v w''):goodRun2 P S C done i w r:=by
 subst hr;exact hc
end
end Go.Proofs.YtdpdbfhbojgigacGreatDoor
