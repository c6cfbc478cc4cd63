/-
  Several texts as one: GeRef, DcHas, EqPair, FlStep, FlRef.
-/
import Derived.Test.YtdpdbfhbojgigacGreatDoorC14S
import Derived.Deep.RegionHeld3
import Derived.Laws.StructEq
import Derived.BigQuiet
import Derived.Deep.QuietTactic
import Derived.Deep.DeepCutAuto
import Derived.WalkSmall
namespace Go.Proofs.YtdpdbfhbojgigacGreatDoor
open Go.RowKit Go.Extern.Stop Go.Stop Go.Extern
theorem badI_pt {g:GapD}{l:List MkD}{cyc:Int}{k:Nat}{m:MkD}(hm:l[k]?=some m)(h:m.cyc≠cyc\/m.pt≠g.to):badI g l cyc k=false:=by
 unfold badI;rw[hm];simp only
 rcases h with h | h
 ·rw[decide_eq_false h];rfl
 ·unfold badM WG.bad;rw[decide_eq_false h];simp
theorem badI_in {g:GapD}{l:List MkD}{cyc:Int}{k:Nat}{m:MkD}(hm:l[k]?=some m)(h1:m.cyc=cyc)(h2:m.pt=g.to):badI g l cyc k=!(WG.mk g (lat g.fr (l.take k))).bears m.tick:=by
 unfold badI;rw[hm];simp only;rw[decide_eq_true h1];unfold badM WG.bad;rw[decide_eq_true h2];rfl
theorem bears_none {g:GapD}{t:Int}:(WG.mk g (-1)).bears t=false:=rfl
theorem bears_some {g:GapD}{t u d:Int}(hu:0<=u)(hd:d=t - u):(WG.mk g u).bears t=(decide (g.mn<=d) && decide (d<=g.mx)):=by
 subst hd;unfold WG.bears;simp only;rw[decide_eq_true (p:=u≠-1) (by omega)];rfl
set_option maxHeartbeats 4000000 in
set_option maxRecDepth 100000 in
theorem gapBad_at (g:GapD)(l:List MkD)(cyc:Int)(sa:Option Addr)(cap:Nat)(w:World)(hl:SlAt encM 3 w (.slice sa l.length cap) l)(hn:l.length<=1000)(ht:∀ m∈l,0<=m.tick/\m.tick<=1099511627776) :
  Calls Tryz.prog 233 #[.agg #[.int .i64 g.fr,.int .i64 g.to,.int .i64 g.mn,.int .i64 g.mx],.slice sa l.length cap,.int .i64 cyc] w fun e w'=>e=.returned (.bool (gapBad g l cyc))/\Below w.heap.size w w':=by
 have HL:Hid (SlAt encM 3 w (.slice sa l.length cap) l):=hl;have HN:Hid (l.length<=1000):=hn;have HT:Hid (∀ m∈l,0<=m.tick/\m.tick<=1099511627776):=ht;clear hl hn ht;go_enter Tryz.func233,Tryz.ntmps233
 go_upto_region 1 with fail
 obtain⟨W,hW⟩:∃ V,V=w.alloc (.cells #[.int .i64 g.fr,.int .i64 g.to,.int .i64 g.mn,.int .i64 g.mx] 145):=⟨_,rfl⟩;rw[<- hW];have HBW:Hid (Below w.heap.size w W):=by show Below _ _ _;rw[hW];exact Below.one _ _
 have HGc:Hid (∀ V,Below W.heap.size W V->∀ (j:Nat) u,([.int .i64 g.fr,.int .i64 g.to,.int .i64 g.mn,.int .i64 g.mx]:List Value)[j]?=some u->V.cell? ⟨w.heap.size,j,none⟩=some u):=fun V hV j u hu=>by
  refine cell_below hV ?_;rw[hW];have:=ce_at w [.int .i64 g.fr,.int .i64 g.to,.int .i64 g.mn,.int .i64 g.mx] 145 j u hu;rw[addC_plain] at this;simpa using this
 have HLc:Hid (∀ V,Below W.heap.size W V->SlAt encM 3 V (.slice sa l.length cap) l):=fun V hV=>HL.out.below (HBW.out.trans (hV.mono HBW.out.size))
 clear hW HL
 go_cut [7] (fun i wx=>i=.int .i64 0/\wx=W)
 case first=>
  go_wp2_with fail
  go_meet
  case rel=>exact⟨rfl,rfl⟩
 obtain⟨rfl,rfl⟩:=hcut;rename World=>W
 go_wp2_with fail
 go_loopw [7,8,9] (fun i _ _ wr=>∃ k:Nat,k<=l.length/\i=.int .i64 k/\Below W.heap.size W wr/\∀ j,j < k->badI g l cyc j=false) (fun i _ _ _=>l.length - (intOf i).toNat)
 case atStart=>exact⟨0,Nat.zero_le _,rfl,Below.refl _ _,fun j hj=>absurd hj (by omega)⟩
 case round=>
  obtain⟨k,hk,rfl,hbk,hbad⟩:=hrel;have HB:Hid (Below W.heap.size W wr):=hbk;have HBad:Hid (∀ j,j < k->badI g l cyc j=false):=hbad;clear hbk hbad
  by_cases hlt:k < l.length
  ·have k1:(k:Int) < (l.length:Int):=by omega
   have k2:k < 1000:=by have:=HN.out;omega
   obtain⟨m,hm⟩:∃ m,l[k]?=some m:=⟨_,List.getElem?_eq_getElem hlt⟩;have HM:Hid (l[k]?=some m):=hm;obtain⟨sa',cap',hsl,-,hcc⟩:=HLc.out W (Below.refl _ _)
   cases hsl
   obtain⟨gb,o,rfl,hc0⟩:=hcc (fun h=>by rw[h] at hm;simp at hm);have HC:Hid (∀ V,Below W.heap.size W V->MksAt V gb o l):=fun V hV i m hm j u hu=>cell_below hV (hc0 i m hm j u hu)
   clear hcc hc0 hm;have c0:=HC.out wr HB.out k m HM.out 0 _ rfl;have c2:=HC.out wr HB.out k m HM.out 2 _ rfl;have p1:=HGc.out wr HB.out 1 _ rfl;simp only[Nat.add_zero] at c0;have HNext:Hid (badI g l cyc k=false->∀ j,j < k+1->badI g l cyc j=false):=fun h j hj=>by
    rcases Nat.lt_or_ge j k with h1 | h1
    ·exact HBad.out j h1
    ·rw[show j=k by omega];exact h
   by_cases g1:m.cyc=cyc
   ·by_cases g2:m.pt=g.to
    ·have HI:Hid (badI g l cyc k=!(WG.mk g (lat g.fr (l.take k))).bears m.tick):=badI_in HM.out g1 g2;have t0:=(HT.out m (List.mem_of_getElem? HM.out)).1;have t1:=(HT.out m (List.mem_of_getElem? HM.out)).2;have k3:-9<=(k:Int) - 1:=by omega
     go_wp2_with fail
     go_quiet (fail)
     go_upto_region 5 with fail
     go_cut [8] (fun j wx=>j=.int .i64 ((k:Int) - 1)/\Below W.heap.size W wx)
     case first=>
      go_wp2_with fail
      go_meet
      case rel=>exact⟨rfl,below_drewN HB.out _⟩
     clear HB c0 c2 p1;obtain⟨rfl,hbc⟩:=hcut;rename World=>W2
     have HB2:Hid (Below W.heap.size W W2):=hbc;clear hbc;go_wp2_with fail
     go_loopw [8] (fun j wx=>∃ kk:Nat,kk<=k/\j=.int .i64 ((kk:Int) - 1)/\Below W.heap.size W wx/\∀ jj m,kk<=jj->jj < k->l[jj]?=some m->m.pt≠g.fr) (fun j _=>(intOf j+1).toNat)
     case atStart=>exact⟨k,Nat.le_refl _,rfl,HB2.out,fun jj m h1 h2=>absurd h2 (by omega)⟩
     case round=>
      clear HB2;obtain⟨kk,hkk,rfl,hbx,hno⟩:=hrel;rename World=>W3
      have HB3:Hid (Below W.heap.size W W3):=hbx;have HNo:Hid (∀ jj m,kk<=jj->jj < k->l[jj]?=some m->m.pt≠g.fr):=hno;clear hbx hno
      match kk,hkk,HNo with
      | 0,hkk,HNo=>
       have HE:Hid (gapBad g l cyc=true):=gapBad_of hlt (by rw[HI.out,lat_none (by omega) HNo.out,bears_none];rfl);rw[show (((0:Nat):Int) - 1)=-1 from rfl];go_wp2_with fail
       go_quiet (fail)
       go_wp2;go_ret;exact⟨by rw[HE.out];rfl,HBW.out.trans ((below_drewN HB3.out _).mono HBW.out.size)⟩
      | n+1,hkk,HNo=>
       rw[show (((n+1:Nat):Int) - 1)=(n:Int) by omega];obtain⟨m2,hm2⟩:∃ m,l[n]?=some m:=⟨_,List.getElem?_eq_getElem (by omega)⟩;have HM2:Hid (l[n]?=some m2):=hm2;have e0:=HC.out W3 HB3.out n m2 hm2 0 _ rfl;have e1:=HC.out W3 HB3.out n m2 hm2 1 _ rfl;have c1:=HC.out W3 HB3.out k m HM.out 1 _ rfl;have u0:=(HT.out m2 (List.mem_of_getElem? hm2)).1;have u1:=(HT.out m2 (List.mem_of_getElem? hm2)).2;have p0:=HGc.out W3 HB3.out 0 _ rfl;have p2:=HGc.out W3 HB3.out 2 _ rfl;have p3:=HGc.out W3 HB3.out 3 _ rfl;simp only[Nat.add_zero] at e0;have n1:n < l.length:=by omega
       have n2:(n:Int) < (l.length:Int):=by omega
       have n3:n < 1000:=by omega
       clear hm2
       by_cases q0:m2.pt=g.fr
       ·have HLat:Hid (badI g l cyc k=!(decide (g.mn<=m.tick - m2.tick) && decide (m.tick - m2.tick<=g.mx))):=by
         show _=_
         rw[HI.out,lat_here (by omega) (by omega) HNo.out HM2.out q0,bears_some u0 rfl]
        rw[<- q0] at p0;clear q0;go_wp2_with fail
        go_quiet (fail)
        go_wp2_with fail
        go_quiet (fail)
        by_cases d1:m.tick - m2.tick < g.mn
        ·have HE:Hid (gapBad g l cyc=true):=gapBad_of hlt (by rw[HLat.out,decide_eq_false (p:=g.mn<=_) (by omega)];rfl);go_wp2;go_ret;exact⟨by rw[HE.out];rfl,HBW.out.trans ((below_drewN HB3.out _).mono HBW.out.size)⟩
        ·by_cases d2:g.mx < m.tick - m2.tick
         ·have HE:Hid (gapBad g l cyc=true):=gapBad_of hlt (by rw[HLat.out,decide_eq_false (p:=_<=g.mx) (by omega),Bool.and_false];rfl);go_wp2;go_ret;exact⟨by rw[HE.out];rfl,HBW.out.trans ((below_drewN HB3.out _).mono HBW.out.size)⟩
         ·have HF:Hid (badI g l cyc k=false):=by show _=_;rw[HLat.out,decide_eq_true (p:=g.mn<=_) (by omega),decide_eq_true (p:=_<=g.mx) (by omega)];rfl
          go_wp2_with fail
          go_roundw
          case rel=>exact⟨k+1,by omega,by go_num,below_drewN HB3.out _,HNext.out HF.out⟩
          case measure=>simp[intOf];omega
       ·go_wp2_with fail
        go_quiet (fail)
        go_wp2_with fail
        go_roundw
        case rel=>
         refine⟨n,by omega,by go_num,below_drewN HB3.out _,fun jj y h1 h2 h3=>?_⟩
         rcases Nat.lt_or_ge n jj with h4 | h4
         ·exact HNo.out jj y h4 h2 h3
         ·obtain rfl:jj=n:=by omega
          rw[HM2.out] at h3
          cases h3
          exact q0
        case measure=>simp[intOf]
    ·have HF:Hid (badI g l cyc k=false):=badI_pt HM.out (Or.inr g2);go_wp2_with fail
     go_quiet (fail)
     go_wp2_with fail
     go_roundw
     case rel=>exact⟨k+1,by omega,by go_num,below_drewN HB.out _,HNext.out HF.out⟩
     case measure=>simp[intOf];omega
   ·have HF:Hid (badI g l cyc k=false):=badI_pt HM.out (Or.inl g1);go_wp2_with fail
    go_quiet (fail)
    go_wp2_with fail
    go_roundw
    case rel=>exact⟨k+1,by omega,by go_num,below_drewN HB.out _,HNext.out HF.out⟩
    case measure=>simp[intOf];omega
  ·have k1:¬(k:Int) < (l.length:Int):=by omega
   have HE:Hid (gapBad g l cyc=false):=gapBad_no (fun j hj=>HBad.out j (by omega));go_wp2;go_ret;exact⟨by rw[HE.out];rfl,HBW.out.trans (HB.out.mono HBW.out.size)⟩
theorem slatI_cell {w:World}{sa:Option Addr}{cap:Nat}{l:List Int}(h:SlAt encI 1 w (.slice sa l.length cap) l){k:Nat}{x:Int}(hx:l[k]?=some x):∃ g o,sa=some ⟨g,o,none⟩/\∀ i x,l[i]?=some x->w.cell? ⟨g,o+i,none⟩=some (.int .i64 x):=by
 obtain⟨sa',cap',hsl,-,hcc⟩:=h
 cases hsl
 obtain⟨g,o,rfl,hc0⟩:=hcc (fun h=>by rw[h] at hx;simp at hx);exact⟨g,o,rfl,fun i x hx=>by have:=hc0 i x hx 0 _ rfl;simpa using this⟩
set_option maxRecDepth 100000 in
theorem has_at (l:List Int)(n:Int)(sa:Option Addr)(cap:Nat)(w:World)(h:SlAt encI 1 w (.slice sa l.length cap) l)(hn:l.length<=1000000) :
  Calls Tryz.prog 118 #[.slice sa l.length cap,.int .i64 n] w fun e w'=>e=.returned (.bool (l.any fun y=>decide (n=y)))/\w'=w:=by
 have HL:Hid (SlAt encI 1 w (.slice sa l.length cap) l):=h;clear h;go_enter Tryz.func118,Tryz.ntmps118
 go_wp2_with fail
 go_loopw [5] (fun i wr=>wr=w/\∃ k:Nat,k<=l.length/\i=.int .i64 k/\∀ j x,j < k->l[j]?=some x->n≠x) (fun i _=>l.length - (intOf i).toNat)
 case atStart=>exact⟨rfl,0,Nat.zero_le _,rfl,fun j x hj=>absurd hj (by omega)⟩
 case round=>
  obtain⟨rfl,k,hk,rfl,hno⟩:=hrel;have HN:Hid (∀ j x,j < k->l[j]?=some x->n≠x):=hno;clear hno
  by_cases hlt:k < l.length
  ·have k1:(k:Int) < (l.length:Int):=by omega
   obtain⟨x,hx⟩:∃ x,l[k]?=some x:=⟨_,List.getElem?_eq_getElem hlt⟩;have HX:Hid (l[k]?=some x):=hx;obtain⟨g,o,rfl,hc⟩:=slatI_cell HL.out hx;have c0:=hc k x hx;clear hc hx
   by_cases e:x=n
   ·subst e;have HE:Hid ((l.any fun y=>decide (x=y))=true):=by show _=_;rw[List.any_eq_true];exact⟨x,List.mem_of_getElem? HX.out,by simp⟩
    go_wp2;go_ret;exact⟨by rw[HE.out];rfl,rfl⟩
   ·go_wp2_with fail
    go_roundw
    case rel=>
     refine⟨trivial,k+1,by omega,by go_num,fun j y hj hy=>?_⟩
     rcases Nat.lt_or_ge j k with h1 | h1
     ·exact HN.out j y h1 hy
     ·obtain rfl:j=k:=by omega
      rw[HX.out] at hy
      cases hy
      exact fun e2=>e e2.symm
    case measure=>simp[intOf];omega
  ·have k1:¬(k:Int) < (l.length:Int):=by omega
   have HE:Hid ((l.any fun y=>decide (n=y))=false):=by
    show _=_
    rw[List.any_eq_false];intro y hy;obtain⟨j,hj⟩:=List.getElem?_of_mem hy;have hjl:j < l.length:=by
     rcases Nat.lt_or_ge j l.length with h' | h'
     ·exact h'
     ·rw[List.getElem?_eq_none h'] at hj;cases hj
    simpa using HN.out j y (by omega) hj
   go_wp2;go_ret;exact⟨by rw[HE.out];rfl,rfl⟩
theorem eqlIn_pair (a b c d:Int)(w:World):(Op.equalIn 10000 146 (.agg #[.int .i64 a,.int .i64 b]) (.agg #[.int .i64 c,.int .i64 d])).run Tryz.prog w=.ok ((a == c) && (b == d)) w:=by
 rw[show (10000:Nat)=9998+2 from rfl,Op.equalIn];simp only[Sem.run_bind,run_underlying Tryz.underlying146,Result.andThen_ok,Tryz.sizeOf3,Std.Legacy.Range.forIn_eq_forIn_range',Std.Legacy.Range.size,Nat.sub_zero,Nat.add_sub_cancel,Nat.div_one];have p0:∀ x y:Int,(part 3 #[.int .i64 x,.int .i64 y] (0*1)).run Tryz.prog w=.ok (.int .i64 x) w:=fun x y=>by simp[part,isAgg,run_underlying Tryz.underlying3]
 have p1:∀ x y:Int,(part 3 #[.int .i64 x,.int .i64 y] (1*1)).run Tryz.prog w=.ok (.int .i64 y) w:=fun x y=>by simp[part,isAgg,run_underlying Tryz.underlying3]
 have pe:∀ x y:Int,(Op.equalIn (9998+1) 3 (.int .i64 x) (.int .i64 y)).run Tryz.prog w=.ok (x == y) w:=fun x y=>run_equalIn_int w 9998 3 .i64 .i64 _ _ Tryz.underlying3
 have hr:List.range' 0 2 1=[0,1]:=by decide
 rw[hr];simp only[List.forIn_cons,List.forIn_nil,Sem.run_bind,p0,pe,Result.andThen_ok]
 cases h1:(a == c)
 ·simp
 ·simp only[Bool.not_true,Bool.false_eq_true,if_false,Sem.run_pure,Result.andThen_ok,Bool.true_and,Sem.run_bind,p1,pe]
  cases h2:(b == d) <;> simp
theorem eql_pair (a b c d:Int)(w:World):(binOp .eql 146 (.agg #[.int .i64 a,.int .i64 b]) (.agg #[.int .i64 c,.int .i64 d])).run Tryz.prog w=.ok (.bool ((a == c) && (b == d))) w:=by
 rw[run_eql_struct,eqlIn_pair];rfl
theorem Tryz.guardPair:Tryz.prog.eqGuardType Tryz.prog.depth 146=false:=by kernel_rfl
theorem any_mem (l:List Int)(p:Int):(l.any fun y=>decide (p=y))=decide (p∈l):=by
 rw[Bool.eq_iff_iff];simp
set_option maxHeartbeats 4000000 in
set_option maxRecDepth 100000 in
theorem step_at (e:EntD)(pa ga ea fa la:Option Addr)(pc gc ec fc lc:Nat)(ah p:Int)(w:World)(hP:EntParts w e (.slice pa e.pts.length pc) (.slice ga e.gaps.length gc) (.slice ea e.edges.length ec) (.slice fa e.first.length fc) (.slice la e.last.length lc))(hS:SmallE e)(hah:ah=-1\/0<=ah) :
  Calls Tryz.prog 240 #[.agg #[.string e.name,.int .i64 e.tol,.slice pa e.pts.length pc,.int .i64 e.cnt,.int .i64 e.mn,.int .i64 e.mx,.slice ga e.gaps.length gc,.slice ea e.edges.length ec,.slice fa e.first.length fc,.slice la e.last.length lc],.int .i64 ah,.int .i64 p] w fun v w'=>v=.returned (.bool (bearsE e ah p))/\Below w.heap.size w w':=by
 have HP:Hid (∀ V,Below w.heap.size w V->EntParts V e (.slice pa e.pts.length pc) (.slice ga e.gaps.length gc) (.slice ea e.edges.length ec) (.slice fa e.first.length fc) (.slice la e.last.length lc)):=fun V hV=>hP.below hV
 have HSm:Hid (SmallE e):=hS;have HA:Hid (ah=-1\/0<=ah):=hah;clear hP hS hah;go_enter Tryz.func240,Tryz.ntmps240
 go_upto_region 1 with fail
 obtain⟨W,hW⟩:∃ V,V=w.alloc (.cells #[.string e.name,.int .i64 e.tol,.slice pa e.pts.length pc,.int .i64 e.cnt,.int .i64 e.mn,.int .i64 e.mx,.slice ga e.gaps.length gc,.slice ea e.edges.length ec,.slice fa e.first.length fc,.slice la e.last.length lc] 38):=⟨_,rfl⟩;rw[<- hW];have HBW:Hid (Below w.heap.size w W):=by show Below _ _ _;rw[hW];exact Below.one _ _
 have HX:Hid (∀ V,Below W.heap.size W V->∀ (j:Nat) u,(#[.string e.name,.int .i64 e.tol,.slice pa e.pts.length pc,.int .i64 e.cnt,.int .i64 e.mn,.int .i64 e.mx,.slice ga e.gaps.length gc,.slice ea e.edges.length ec,.slice fa e.first.length fc,.slice la e.last.length lc]:Array Value)[j]?=some u->V.cell? ⟨w.heap.size,j,none⟩=some u):=fun V hV j u hu=>by
  refine cell_below hV ?_;rw[hW];have:=ce_at w [.string e.name,.int .i64 e.tol,.slice pa e.pts.length pc,.int .i64 e.cnt,.int .i64 e.mn,.int .i64 e.mx,.slice ga e.gaps.length gc,.slice ea e.edges.length ec,.slice fa e.first.length fc,.slice la e.last.length lc] 38 j u (by simpa using hu);rw[addC_plain] at this;simpa using this
 clear hW;have p7:=HX.out W (Below.refl _ _) 7 _ rfl
 by_cases h0:e.edges=[]
 ·have hz:e.edges.length=0:=by rw[h0];rfl
  have HR:Hid (bearsE e ah p=true):=by show _=_;unfold bearsE;rw[decide_eq_true h0];rfl
  clear h0;go_wp2;go_ret;exact⟨by rw[HR.out];rfl,HBW.out⟩
 have hz:¬(e.edges.length:Int)=0:=by
  have:e.edges.length≠0:=fun h=>h0 (List.eq_nil_of_length_eq_zero h)
  omega
 have HD:Hid (bearsE e ah p=(hasP e p && (if ah=-1 then decide (p∈e.first) else decide ((ah,p)∈e.edges)))):=by show _=_;unfold bearsE;rw[decide_eq_false h0];rfl
 clear h0;have p2:=HX.out W (Below.refl _ _) 2 _ rfl
 by_cases q0:p < 0
 ·have HR:Hid (bearsE e ah p=false):=by show _=_;rw[HD.out];unfold hasP;rw[decide_eq_false (by omega)];rfl
  go_wp2;go_ret;exact⟨by rw[HR.out];rfl,HBW.out⟩
 by_cases q1:(e.pts.length:Int)<=p
 ·have HR:Hid (bearsE e ah p=false):=by show _=_;rw[HD.out];unfold hasP;rw[decide_eq_false (p:=p < _) (by omega),Bool.and_false];rfl
  go_wp2;go_ret;exact⟨by rw[HR.out];rfl,HBW.out⟩
 have HH:Hid (hasP e p=true):=by show _=_;unfold hasP;rw[decide_eq_true (by omega),decide_eq_true (by omega)];rfl
 by_cases q2:ah=-1
 ·have HR:Hid (bearsE e ah p=(e.first.any fun y=>decide (p=y))):=by show _=_;rw[HD.out,HH.out,if_pos q2,any_mem];rfl
  have p8:=HX.out W (Below.refl _ _) 8 _ rfl;subst q2;go_wp2_with (go_at_call 118;refine(has_at e.first p _ _ _ (HP.out _ HBW.out).hf HSm.out.hf).mono ?_;rintro v w' ⟨rfl,rfl⟩)
  go_ret;exact⟨by rw[HR.out];rfl,HBW.out⟩
 ·have HR:Hid (bearsE e ah p=decide ((ah,p)∈e.edges)):=by show _=_;rw[HD.out,HH.out,if_neg q2];rfl
  have q3:¬ah < 0:=by rcases HA.out with h | h;exact absurd h q2;omega
  clear HD HH q2 HA;go_upto_region 7 with fail
  go_cut [7] (fun i wx=>i=.int .i64 0/\wx=W)
  case first=>
   go_wp2_with fail
   go_meet
   case rel=>exact⟨rfl,rfl⟩
  obtain⟨rfl,rfl⟩:=hcut;rename World=>W
  clear p2 p7 hz q0 q1 q3;go_wp2_with fail
  go_loopw [7] (fun i wr=>∃ k:Nat,k<=e.edges.length/\i=.int .i64 k/\wr=W/\∀ j,j < k->e.edges[j]?≠some (ah,p)) (fun i _=>e.edges.length - (intOf i).toNat)
  case atStart=>exact⟨0,Nat.zero_le _,rfl,rfl,fun j hj=>absurd hj (by omega)⟩
  case round=>
   obtain⟨k,hk,rfl,rfl,hno⟩:=hrel;have HNo:Hid (∀ j,j < k->e.edges[j]?≠some (ah,p)):=hno;clear hno;have p7:=HX.out _ (Below.refl _ _) 7 _ rfl
   by_cases hlt:k < e.edges.length
   ·have k1:(k:Int) < (e.edges.length:Int):=by omega
    have k2:k < 1000000:=by have:=HSm.out.he;omega
    obtain⟨x,hx⟩:∃ x,e.edges[k]?=some x:=⟨_,List.getElem?_eq_getElem hlt⟩;have HXk:Hid (e.edges[k]?=some x):=hx;obtain⟨sa',cap',hsl,-,hcc⟩:=(HP.out _ HBW.out).he
    cases hsl
    obtain⟨g,o,rfl,hc0⟩:=hcc (fun h=>by rw[h] at hx;simp at hx);have c0:=hc0 k _ hx 0 _ rfl;have c1:=hc0 k _ hx 1 _ rfl;simp only[Nat.add_zero] at c0;clear hcc hc0 hx;have gpf:=Tryz.guardPair
    by_cases hxy:x=(ah,p)
    ·have eqf:∀ w,(binOp .eql 146 (.agg #[.int .i64 x.1,.int .i64 x.2]) (.agg #[.int .i64 ah,.int .i64 p])).run Tryz.prog w=.ok (.bool true) w:=fun w=>by rw[eql_pair,hxy];simp
     have HE:Hid ((ah,p)∈e.edges):=by show _∈_;rw[<- hxy];exact List.mem_of_getElem? HXk.out
     clear hxy;go_wp2;go_ret;exact⟨by rw[HR.out,decide_eq_true HE.out];rfl,HBW.out⟩
    ·have eqf:∀ w,(binOp .eql 146 (.agg #[.int .i64 x.1,.int .i64 x.2]) (.agg #[.int .i64 ah,.int .i64 p])).run Tryz.prog w=.ok (.bool false) w:=fun w=>by
      rw[eql_pair];have:((x.1 == ah) && (x.2 == p))=false:=by
       rw[Bool.eq_false_iff];intro h;simp at h
       exact hxy (Prod.ext h.1 h.2)
      rw[this]
     have HE:Hid (∀ j,j < k+1->e.edges[j]?≠some (ah,p)):=fun j hj=>by
      rcases Nat.lt_or_ge j k with h1 | h1
      ·exact HNo.out j h1
      ·rw[show j=k by omega,HXk.out];intro h;exact hxy (by simpa using h)
     clear hxy;go_wp2_with fail
     go_roundw
     case rel=>exact⟨k+1,by omega,by go_num,trivial,HE.out⟩
     case measure=>simp[intOf];omega
   ·have k1:¬(k:Int) < (e.edges.length:Int):=by omega
    have HE:Hid ((ah,p) ∉ e.edges):=by
     show _ ∉ _
     intro h;obtain⟨i,hi⟩:=List.getElem?_of_mem h;have:i < e.edges.length:=(List.getElem?_eq_some_iff.1 hi).1;exact HNo.out i (by omega) hi
    go_wp2;go_ret;exact⟨by rw[HR.out,decide_eq_false HE.out];rfl,HBW.out⟩
set_option maxHeartbeats 2000000 in
set_option maxRecDepth 100000 in
theorem ahead_at (e:EntD)(pa ga ea fa la:Option Addr)(pc gc ec fc lc:Nat)(l:List MkD)(k:Nat)(sa:Option Addr)(cap:Nat)(w:World)(hP:EntParts w e (.slice pa e.pts.length pc) (.slice ga e.gaps.length gc) (.slice ea e.edges.length ec) (.slice fa e.first.length fc) (.slice la e.last.length lc))(hS:SmallE e)(hl:SlAt encM 3 w (.slice sa l.length cap) l)(hn:l.length<=1000)(hk:k<=l.length) :
  Calls Tryz.prog 241 #[.agg #[.string e.name,.int .i64 e.tol,.slice pa e.pts.length pc,.int .i64 e.cnt,.int .i64 e.mn,.int .i64 e.mx,.slice ga e.gaps.length gc,.slice ea e.edges.length ec,.slice fa e.first.length fc,.slice la e.last.length lc],.slice sa l.length cap,.int .i64 (k:Int)] w fun v w'=>v=.returned (.int .i64 (aheadOf e (l.take k)))/\Below w.heap.size w w':=by
 have HP:Hid (∀ V,Below w.heap.size w V->EntParts V e (.slice pa e.pts.length pc) (.slice ga e.gaps.length gc) (.slice ea e.edges.length ec) (.slice fa e.first.length fc) (.slice la e.last.length lc)):=fun V hV=>hP.below hV
 have HSm:Hid (SmallE e):=hS;have HL:Hid (SlAt encM 3 w (.slice sa l.length cap) l):=hl;clear hP hS hl
 cases k with
 | zero=>
  have HR:Hid (aheadOf e (l.take 0)=-1):=rfl;go_enter Tryz.func241,Tryz.ntmps241
  go_wp2;go_ret;exact⟨by rw[HR.out];rfl,Below.one _ _⟩
 | succ k=>
  obtain⟨m,hm⟩:∃ m,l[k]?=some m:=⟨_,List.getElem?_eq_getElem (by omega)⟩;have HR:Hid (aheadOf e (l.take (k+1))=behindE e m.pt):=aheadOf_take hm;obtain⟨sa',cap',hsl,-,hcc⟩:=id HL.out
  cases hsl
  obtain⟨gb,o,rfl,hc0⟩:=hcc (fun h=>by rw[h] at hm;simp at hm);have HC0:Hid (w.cell? ⟨gb,o+k*3,none⟩=some (.int .i64 m.pt)):=hc0 k m hm 0 _ rfl;have k1:k < 1000:=by omega
  have k2:(k:Int) < (l.length:Int):=by omega
  have e1:((k+1:Nat):Int)=(k:Int)+1:=by omega
  rw[e1];clear hcc hc0 hm e1 hk hn HL;go_enter Tryz.func241,Tryz.ntmps241
  go_upto_region 3 with fail
  all_goals (try (exfalso;omega))
  obtain⟨W,hW⟩:∃ V,V=w.alloc (.cells #[.string e.name,.int .i64 e.tol,.slice pa e.pts.length pc,.int .i64 e.cnt,.int .i64 e.mn,.int .i64 e.mx,.slice ga e.gaps.length gc,.slice ea e.edges.length ec,.slice fa e.first.length fc,.slice la e.last.length lc] 38):=⟨_,rfl⟩;rw[<- hW];have HBW:Hid (Below w.heap.size w W):=by show Below _ _ _;rw[hW];exact Below.one _ _
  have HX:Hid (∀ V,Below W.heap.size W V->∀ (j:Nat) u,(#[.string e.name,.int .i64 e.tol,.slice pa e.pts.length pc,.int .i64 e.cnt,.int .i64 e.mn,.int .i64 e.mx,.slice ga e.gaps.length gc,.slice ea e.edges.length ec,.slice fa e.first.length fc,.slice la e.last.length lc]:Array Value)[j]?=some u->V.cell? ⟨w.heap.size,j,none⟩=some u):=fun V hV j u hu=>by
   refine cell_below hV ?_;rw[hW];have:=ce_at w [.string e.name,.int .i64 e.tol,.slice pa e.pts.length pc,.int .i64 e.cnt,.int .i64 e.mn,.int .i64 e.mx,.slice ga e.gaps.length gc,.slice ea e.edges.length ec,.slice fa e.first.length fc,.slice la e.last.length lc] 38 j u (by simpa using hu);rw[addC_plain] at this;simpa using this
  clear hW;have c0:W.cell? ⟨gb,o+k*3,none⟩=some (.int .i64 m.pt):=cell_below HBW.out HC0.out;have p2:=HX.out W (Below.refl _ _) 2 _ rfl;have p9:=HX.out W (Below.refl _ _) 9 _ rfl
  by_cases q0:m.pt < 0
  ·have HQ:Hid (behindE e m.pt=-1):=by show _=_;unfold behindE hasP;rw[if_neg (by rw[decide_eq_false (by omega)];simp)]
   go_wp2;go_ret;exact⟨by rw[HR.out,HQ.out];rfl,HBW.out⟩
  by_cases q1:(e.pts.length:Int)<=m.pt
  ·have HQ:Hid (behindE e m.pt=-1):=by show _=_;unfold behindE hasP;rw[if_neg (by rw[decide_eq_false (p:=m.pt < _) (by omega)];simp)]
   go_wp2;go_ret;exact⟨by rw[HR.out,HQ.out];rfl,HBW.out⟩
  have HH:Hid (hasP e m.pt=true):=by show _=_;unfold hasP;rw[decide_eq_true (by omega),decide_eq_true (by omega)];rfl
  by_cases q2:m.pt∈e.last
  ·have HQ:Hid (behindE e m.pt=-1):=by show _=_;unfold behindE;rw[if_neg (fun h=>h.2 q2)]
   have hd:(e.last.any fun y=>decide (m.pt=y))=true:=by rw[any_mem];exact decide_eq_true q2
   clear q2;go_wp2_with (go_at_call 118;refine(has_at e.last m.pt _ _ _ (HP.out _ HBW.out).hl HSm.out.hl).mono ?_;rw[hd];rintro v w' ⟨rfl,rfl⟩)
   go_ret;exact⟨by rw[HR.out,HQ.out];rfl,HBW.out⟩
  ·have HQ:Hid (behindE e m.pt=m.pt):=by show _=_;unfold behindE;rw[if_pos ⟨HH.out,q2⟩]
   have hd:(e.last.any fun y=>decide (m.pt=y))=false:=by rw[any_mem];exact decide_eq_false q2
   clear q2;go_wp2_with (go_at_call 118;refine(has_at e.last m.pt _ _ _ (HP.out _ HBW.out).hl HSm.out.hl).mono ?_;rw[hd];rintro v w' ⟨rfl,rfl⟩)
   go_ret;exact⟨by rw[HR.out,HQ.out];rfl,HBW.out⟩
def fbS (e:EntD)(pa ga ea fa la:Option Addr)(pc gc ec fc lc:Nat)(gb o cap k:Nat)(l:List MkD)(m:MkD):Nat->Value->World->Prop
 | 0=>fun v _=>v=.agg #[.string e.name,.int .i64 e.tol,.slice pa e.pts.length pc,.int .i64 e.cnt,.int .i64 e.mn,.int .i64 e.mx,.slice ga e.gaps.length gc,.slice ea e.edges.length ec,.slice fa e.first.length fc,.slice la e.last.length lc]
 | 1=>fun v _=>v=.agg #[.string e.name,.int .i64 e.tol,.slice pa e.pts.length pc,.int .i64 e.cnt,.int .i64 e.mn,.int .i64 e.mx,.slice ga e.gaps.length gc,.slice ea e.edges.length ec,.slice fa e.first.length fc,.slice la e.last.length lc]
 | 2=>fun v _=>v=.slice (some ⟨gb,o,none⟩) l.length cap
 | 3=>fun v _=>v=.int .i64 (k:Int)
 | 4=>fun v _=>v=.int .i64 (aheadOf e (l.take k))
 | 5=>fun v _=>v=.slice (some ⟨gb,o,none⟩) l.length cap
 | 6=>fun v _=>v=.int .i64 (k:Int)
 | 7=>fun v _=>v=.pointer (some ⟨gb,o+k*3,none⟩)
 | 8=>fun v _=>v=.pointer (some ⟨gb,o+k*3,none⟩)
 | 9=>fun v _=>v=.int .i64 m.pt
 | 10=>fun v _=>v=.bool (bearsE e (aheadOf e (l.take k)) m.pt)
 | 11=>fun v _=>v=.bool (bearsE e (aheadOf e (l.take k)) m.pt)
 | _=>fun _ _=>True
theorem fbS_keeps {e:EntD}{pa ga ea fa la:Option Addr}{pc gc ec fc lc:Nat}{gb o cap k:Nat}{l:List MkD}{m:MkD}{w w':World}:∀ j v,fbS e pa ga ea fa la pc gc ec fc lc gb o cap k l m j v w->fbS e pa ga ea fa la pc gc ec fc lc gb o cap k l m j v w':=by
 intro j v h
 match j,h with
 | 0,h=>exact h
 | 1,h=>exact h
 | 2,h=>exact h
 | 3,h=>exact h
 | 4,h=>exact h
 | 5,h=>exact h
 | 6,h=>exact h
 | 7,h=>exact h
 | 8,h=>exact h
 | 9,h=>exact h
 | 10,h=>exact h
 | 11,h=>exact h
 | n+12,h=>exact h
set_option maxHeartbeats 4000000 in
set_option maxRecDepth 100000 in
theorem flowBad_at (e:EntD)(pa ga ea fa la:Option Addr)(pc gc ec fc lc:Nat)(l:List MkD)(cyc:Int)(sa:Option Addr)(cap:Nat)(w:World)(hP:EntParts w e (.slice pa e.pts.length pc) (.slice ga e.gaps.length gc) (.slice ea e.edges.length ec) (.slice fa e.first.length fc) (.slice la e.last.length lc))(hS:SmallE e)(hl:SlAt encM 3 w (.slice sa l.length cap) l)(hn:l.length<=1000) :
  Calls Tryz.prog 234 #[.agg #[.string e.name,.int .i64 e.tol,.slice pa e.pts.length pc,.int .i64 e.cnt,.int .i64 e.mn,.int .i64 e.mx,.slice ga e.gaps.length gc,.slice ea e.edges.length ec,.slice fa e.first.length fc,.slice la e.last.length lc],.slice sa l.length cap,.int .i64 cyc] w fun v w'=>v=.returned (.bool (flowBad e l cyc))/\Below w.heap.size w w':=by
 have HP:Hid (∀ V,Below w.heap.size w V->EntParts V e (.slice pa e.pts.length pc) (.slice ga e.gaps.length gc) (.slice ea e.edges.length ec) (.slice fa e.first.length fc) (.slice la e.last.length lc)):=fun V hV=>hP.below hV
 have HSm:Hid (SmallE e):=hS;have HL:Hid (∀ V,Below w.heap.size w V->SlAt encM 3 V (.slice sa l.length cap) l):=fun V hV=>hl.below hV
 have HN:Hid (l.length<=1000):=hn;clear hP hS hl hn;go_enter Tryz.func234,Tryz.ntmps234
 go_upto_region 1 with fail
 obtain⟨W,hW⟩:∃ V,V=w.alloc (.cells #[.string e.name,.int .i64 e.tol,.slice pa e.pts.length pc,.int .i64 e.cnt,.int .i64 e.mn,.int .i64 e.mx,.slice ga e.gaps.length gc,.slice ea e.edges.length ec,.slice fa e.first.length fc,.slice la e.last.length lc] 38):=⟨_,rfl⟩;rw[<- hW];have HBW:Hid (Below w.heap.size w W):=by show Below _ _ _;rw[hW];exact Below.one _ _
 have HX:Hid (∀ V,Below W.heap.size W V->∀ (j:Nat) u,(#[.string e.name,.int .i64 e.tol,.slice pa e.pts.length pc,.int .i64 e.cnt,.int .i64 e.mn,.int .i64 e.mx,.slice ga e.gaps.length gc,.slice ea e.edges.length ec,.slice fa e.first.length fc,.slice la e.last.length lc]:Array Value)[j]?=some u->V.cell? ⟨w.heap.size,j,none⟩=some u):=fun V hV j u hu=>by
  refine cell_below hV ?_;rw[hW];have:=ce_at w [.string e.name,.int .i64 e.tol,.slice pa e.pts.length pc,.int .i64 e.cnt,.int .i64 e.mn,.int .i64 e.mx,.slice ga e.gaps.length gc,.slice ea e.edges.length ec,.slice fa e.first.length fc,.slice la e.last.length lc] 38 j u (by simpa using hu);rw[addC_plain] at this;simpa using this
 clear hW
 go_cut [7] (fun i wx=>i=.int .i64 0/\wx=W)
 case first=>
  go_wp2_with fail
  go_meet
  case rel=>exact⟨rfl,rfl⟩
 obtain⟨rfl,rfl⟩:=hcut;rename World=>W
 go_wp2_with fail
 go_loopw [7,8] (fun i _ wr=>∃ k:Nat,k<=l.length/\i=.int .i64 k/\Below W.heap.size W wr/\∀ j,j < k->fbadI e l cyc j=false) (fun i _ _=>l.length - (intOf i).toNat)
 case atStart=>exact⟨0,Nat.zero_le _,rfl,Below.refl _ _,fun j hj=>absurd hj (by omega)⟩
 case round=>
  obtain⟨k,hk,rfl,hbk,hbad⟩:=hrel;have HB:Hid (Below W.heap.size W wr):=hbk;have HBw:Hid (Below w.heap.size w wr):=HBW.out.trans (hbk.mono HBW.out.size);have HBad:Hid (∀ j,j < k->fbadI e l cyc j=false):=hbad;clear hbk hbad
  by_cases hlt:k < l.length
  ·have k1:(k:Int) < (l.length:Int):=by omega
   have k2:k < 1000:=by have:=HN.out;omega
   obtain⟨m,hm⟩:∃ m,l[k]?=some m:=⟨_,List.getElem?_eq_getElem hlt⟩;have HM:Hid (l[k]?=some m):=hm;obtain⟨sa',cap',hsl,-,hcc⟩:=HL.out wr HBw.out
   cases hsl
   obtain⟨gb,o,rfl,hc0⟩:=hcc (fun h=>by rw[h] at hm;simp at hm);have HC0:Hid (wr.cell? ⟨gb,o+k*3,none⟩=some (.int .i64 m.pt)):=hc0 k m hm 0 _ rfl;have HC2:Hid (wr.cell? ⟨gb,o+k*3+2,none⟩=some (.int .i64 m.cyc)):=hc0 k m hm 2 _ rfl;have HXr:Hid (∀ (j:Nat) u,(#[.string e.name,.int .i64 e.tol,.slice pa e.pts.length pc,.int .i64 e.cnt,.int .i64 e.mn,.int .i64 e.mx,.slice ga e.gaps.length gc,.slice ea e.edges.length ec,.slice fa e.first.length fc,.slice la e.last.length lc]:Array Value)[j]?=some u->wr.cell? ⟨w.heap.size,j,none⟩=some u):=HX.out wr HB.out;have HPr:Hid (∀ V,Below wr.heap.size wr V->EntParts V e (.slice pa e.pts.length pc) (.slice ga e.gaps.length gc) (.slice ea e.edges.length ec) (.slice fa e.first.length fc) (.slice la e.last.length lc)):=fun V hV=>HP.out V (HBw.out.trans (hV.mono HBw.out.size))
   have HLr:Hid (∀ V,Below wr.heap.size wr V->SlAt encM 3 V (.slice (some ⟨gb,o,none⟩) l.length cap) l):=fun V hV=>HL.out V (HBw.out.trans (hV.mono HBw.out.size))
   clear hcc hc0 hm;go_upto_region 4 with fail
   go_cut [8,15,16,17,18,19,20,21,22,23,24,25] (fun v _ _ _ _ _ _ _ _ _ _ _ wx=>v=.bool (bearsE e (aheadOf e (l.take k)) m.pt)/\Below wr.heap.size wr wx)
   case first=>
    refine region_spec 12 rfl (fbS e pa ga ea fa la pc gc ec fc lc gb o cap k l m) (fun V=>Below wr.heap.size wr V) (by kernel_rfl) (by kernel_rfl) (Below.refl _ _).drew ?_ ?_
    ·intro i o ho
     match i,ho with
     | 0,ho=>
      obtain rfl:=Option.some.inj ho
      refine StepOk.free rfl ?_;intro a V hC hdep hoth;have x3:a.tmps[3]?.getD undef=.pointer (some ⟨w.heap.size,0,none⟩):=slot_of (hoth 3 (notDst (by kernel_rfl)));have b0:V.cell? ⟨w.heap.size,0,none⟩=some (_):=cell_below hC (HXr.out 0 _ rfl);have b1:V.cell? ⟨w.heap.size,1,none⟩=some (_):=cell_below hC (HXr.out 1 _ rfl);have b2:V.cell? ⟨w.heap.size,2,none⟩=some (_):=cell_below hC (HXr.out 2 _ rfl);have b3:V.cell? ⟨w.heap.size,3,none⟩=some (_):=cell_below hC (HXr.out 3 _ rfl);have b4:V.cell? ⟨w.heap.size,4,none⟩=some (_):=cell_below hC (HXr.out 4 _ rfl);have b5:V.cell? ⟨w.heap.size,5,none⟩=some (_):=cell_below hC (HXr.out 5 _ rfl);have b6:V.cell? ⟨w.heap.size,6,none⟩=some (_):=cell_below hC (HXr.out 6 _ rfl);have b7:V.cell? ⟨w.heap.size,7,none⟩=some (_):=cell_below hC (HXr.out 7 _ rfl);have b8:V.cell? ⟨w.heap.size,8,none⟩=some (_):=cell_below hC (HXr.out 8 _ rfl);have b9:V.cell? ⟨w.heap.size,9,none⟩=some (_):=cell_below hC (HXr.out 9 _ rfl);exact goodRun.val (c:=.agg #[.string e.name,.int .i64 e.tol,.slice pa e.pts.length pc,.int .i64 e.cnt,.int .i64 e.mn,.int .i64 e.mx,.slice ga e.gaps.length gc,.slice ea e.edges.length ec,.slice fa e.first.length fc,.slice la e.last.length lc]) (by clear hdep hoth;go_simp) hC rfl
     | 1,ho=>
      obtain rfl:=Option.some.inj ho
      refine StepOk.free rfl ?_;intro a V hC hdep hoth;have x3:a.tmps[3]?.getD undef=.pointer (some ⟨w.heap.size,0,none⟩):=slot_of (hoth 3 (notDst (by kernel_rfl)));have b0:V.cell? ⟨w.heap.size,0,none⟩=some (_):=cell_below hC (HXr.out 0 _ rfl);have b1:V.cell? ⟨w.heap.size,1,none⟩=some (_):=cell_below hC (HXr.out 1 _ rfl);have b2:V.cell? ⟨w.heap.size,2,none⟩=some (_):=cell_below hC (HXr.out 2 _ rfl);have b3:V.cell? ⟨w.heap.size,3,none⟩=some (_):=cell_below hC (HXr.out 3 _ rfl);have b4:V.cell? ⟨w.heap.size,4,none⟩=some (_):=cell_below hC (HXr.out 4 _ rfl);have b5:V.cell? ⟨w.heap.size,5,none⟩=some (_):=cell_below hC (HXr.out 5 _ rfl);have b6:V.cell? ⟨w.heap.size,6,none⟩=some (_):=cell_below hC (HXr.out 6 _ rfl);have b7:V.cell? ⟨w.heap.size,7,none⟩=some (_):=cell_below hC (HXr.out 7 _ rfl);have b8:V.cell? ⟨w.heap.size,8,none⟩=some (_):=cell_below hC (HXr.out 8 _ rfl);have b9:V.cell? ⟨w.heap.size,9,none⟩=some (_):=cell_below hC (HXr.out 9 _ rfl);exact goodRun.val (c:=.agg #[.string e.name,.int .i64 e.tol,.slice pa e.pts.length pc,.int .i64 e.cnt,.int .i64 e.mn,.int .i64 e.mx,.slice ga e.gaps.length gc,.slice ea e.edges.length ec,.slice fa e.first.length fc,.slice la e.last.length lc]) (by clear hdep hoth;go_simp) hC rfl
     | 2,ho=>
      obtain rfl:=Option.some.inj ho
      refine StepOk.free rfl ?_;intro a V hC hdep hoth;have x1:a.tmps[1]?.getD undef=.slice (some ⟨gb,o,none⟩) l.length cap:=slot_of (hoth 1 (notDst (by kernel_rfl)));exact goodRun.val (c:=.slice (some ⟨gb,o,none⟩) l.length cap) (by clear hdep hoth;go_simp) hC rfl
     | 3,ho=>
      obtain rfl:=Option.some.inj ho
      refine StepOk.free rfl ?_;intro a V hC hdep hoth;have x7:a.tmps[7]?.getD undef=.int .i64 (k:Int):=slot_of (hoth 7 (notDst (by kernel_rfl)));exact goodRun.val (c:=.int .i64 (k:Int)) (by clear hdep hoth;go_simp) hC rfl
     | 4,ho=>
      obtain rfl:=Option.some.inj ho
      refine StepOk.free rfl ?_;intro a V hC hdep hoth;have x16:a.tmps[16]?.getD undef=.agg #[.string e.name,.int .i64 e.tol,.slice pa e.pts.length pc,.int .i64 e.cnt,.int .i64 e.mn,.int .i64 e.mx,.slice ga e.gaps.length gc,.slice ea e.edges.length ec,.slice fa e.first.length fc,.slice la e.last.length lc]:=slot_of (hdep _ 16 (Array.mem_of_getElem? (i:=0) rfl) rfl rfl);have x17:a.tmps[17]?.getD undef=.slice (some ⟨gb,o,none⟩) l.length cap:=slot_of (hdep _ 17 (Array.mem_of_getElem? (i:=1) rfl) rfl rfl);have x18:a.tmps[18]?.getD undef=.int .i64 (k:Int):=slot_of (hdep _ 18 (Array.mem_of_getElem? (i:=2) rfl) rfl rfl)
      refine goodRun.call (f:=241) (args:=#[.agg #[.string e.name,.int .i64 e.tol,.slice pa e.pts.length pc,.int .i64 e.cnt,.int .i64 e.mn,.int .i64 e.mx,.slice ga e.gaps.length gc,.slice ea e.edges.length ec,.slice fa e.first.length fc,.slice la e.last.length lc],.slice (some ⟨gb,o,none⟩) l.length cap,.int .i64 (k:Int)]) (by clear hdep hoth;go_simp) ?_
      refine(ahead_at e pa ga ea fa la pc gc ec fc lc l k _ _ V (HPr.out V hC) HSm.out (HLr.out V hC) HN.out (by omega)).mono ?_;rintro v V' ⟨rfl,hb⟩;exact⟨_,rfl,hC.trans (hb.mono hC.size),fbS_keeps,rfl⟩
     | 5,ho=>
      obtain rfl:=Option.some.inj ho
      refine StepOk.free rfl ?_;intro a V hC hdep hoth;have x1:a.tmps[1]?.getD undef=.slice (some ⟨gb,o,none⟩) l.length cap:=slot_of (hoth 1 (notDst (by kernel_rfl)));exact goodRun.val (c:=.slice (some ⟨gb,o,none⟩) l.length cap) (by clear hdep hoth;go_simp) hC rfl
     | 6,ho=>
      obtain rfl:=Option.some.inj ho
      refine StepOk.free rfl ?_;intro a V hC hdep hoth;have x7:a.tmps[7]?.getD undef=.int .i64 (k:Int):=slot_of (hoth 7 (notDst (by kernel_rfl)));exact goodRun.val (c:=.int .i64 (k:Int)) (by clear hdep hoth;go_simp) hC rfl
     | 7,ho=>
      obtain rfl:=Option.some.inj ho
      refine StepOk.free rfl ?_;intro a V hC hdep hoth;have x20:a.tmps[20]?.getD undef=.slice (some ⟨gb,o,none⟩) l.length cap:=slot_of (hdep _ 20 (Array.mem_of_getElem? (i:=0) rfl) rfl rfl);have x21:a.tmps[21]?.getD undef=.int .i64 (k:Int):=slot_of (hdep _ 21 (Array.mem_of_getElem? (i:=1) rfl) rfl rfl);exact goodRun.val (c:=.pointer (some ⟨gb,o+k*3,none⟩)) (by clear hdep hoth;go_simp) hC rfl
     | 8,ho=>
      obtain rfl:=Option.some.inj ho
      refine StepOk.free rfl ?_;intro a V hC hdep hoth;have x22:a.tmps[22]?.getD undef=.pointer (some ⟨gb,o+k*3,none⟩):=slot_of (hdep _ 22 (Array.mem_of_getElem? (i:=0) rfl) rfl rfl);exact goodRun.val (c:=.pointer (some ⟨gb,o+k*3,none⟩)) (by clear hdep hoth;go_simp) hC rfl
     | 9,ho=>
      obtain rfl:=Option.some.inj ho
      refine StepOk.free rfl ?_;intro a V hC hdep hoth;have x23:a.tmps[23]?.getD undef=.pointer (some ⟨gb,o+k*3,none⟩):=slot_of (hdep _ 23 (Array.mem_of_getElem? (i:=0) rfl) rfl rfl);have c0:V.cell? ⟨gb,o+k*3,none⟩=some (.int .i64 m.pt):=cell_below hC HC0.out;exact goodRun.val (c:=.int .i64 m.pt) (by clear hdep hoth;go_simp) hC rfl
     | 10,ho=>
      obtain rfl:=Option.some.inj ho
      refine StepOk.free rfl ?_;intro a V hC hdep hoth;have x15:a.tmps[15]?.getD undef=.agg #[.string e.name,.int .i64 e.tol,.slice pa e.pts.length pc,.int .i64 e.cnt,.int .i64 e.mn,.int .i64 e.mx,.slice ga e.gaps.length gc,.slice ea e.edges.length ec,.slice fa e.first.length fc,.slice la e.last.length lc]:=slot_of (hdep _ 15 (Array.mem_of_getElem? (i:=0) rfl) rfl rfl);have x19:a.tmps[19]?.getD undef=.int .i64 (aheadOf e (l.take k)):=slot_of (hdep _ 19 (Array.mem_of_getElem? (i:=1) rfl) rfl rfl);have x24:a.tmps[24]?.getD undef=.int .i64 m.pt:=slot_of (hdep _ 24 (Array.mem_of_getElem? (i:=2) rfl) rfl rfl)
      refine goodRun.call (f:=240) (args:=#[.agg #[.string e.name,.int .i64 e.tol,.slice pa e.pts.length pc,.int .i64 e.cnt,.int .i64 e.mn,.int .i64 e.mx,.slice ga e.gaps.length gc,.slice ea e.edges.length ec,.slice fa e.first.length fc,.slice la e.last.length lc],.int .i64 (aheadOf e (l.take k)),.int .i64 m.pt]) (by clear hdep hoth;go_simp) ?_
      refine(step_at e pa ga ea fa la pc gc ec fc lc (aheadOf e (l.take k)) m.pt V (HPr.out V hC) HSm.out (by rcases aheadOf_fit e (l.take k) with h | h;exact Or.inl h;exact Or.inr h.1)).mono ?_;rintro v V' ⟨rfl,hb⟩;exact⟨_,rfl,hC.trans (hb.mono hC.size),fbS_keeps,rfl⟩
     | 11,ho=>
      obtain rfl:=Option.some.inj ho
      refine StepOk.free rfl ?_;intro a V hC hdep hoth;have x25:a.tmps[25]?.getD undef=.bool (bearsE e (aheadOf e (l.take k)) m.pt):=slot_of (hdep _ 25 (Array.mem_of_getElem? (i:=0) rfl) rfl rfl);exact goodRun.val (c:=.bool (bearsE e (aheadOf e (l.take k)) m.pt)) (by clear hdep hoth;go_simp) hC rfl
     | n+12,ho=>simp at ho
    ·intro vals V hC hS;have v11:vals 11=.bool (bearsE e (aheadOf e (l.take k)) m.pt):=hS 11 (by decide);have HCC:Hid (Below wr.heap.size wr V):=hC;clear hS hC;simp only[fill,dstOf];go_simp
     go_wp2_with fail
     go_meet
     case rel=>exact⟨rfl,HCC.out⟩
   obtain⟨rfl,hb2⟩:=hcut;rename World=>W2
   have HB2:Hid (Below wr.heap.size wr W2):=hb2;have c2:W2.cell? ⟨gb,o+k*3+2,none⟩=some (.int .i64 m.cyc):=cell_below hb2 HC2.out;clear hb2 HXr HPr HLr;have HI:Hid (fbadI e l cyc k=(decide (m.cyc=cyc) && !bearsE e (aheadOf e (l.take k)) m.pt)):=by show _=_;unfold fbadI;rw[HM.out];rfl
   have HNext:Hid (fbadI e l cyc k=false->∀ j,j < k+1->fbadI e l cyc j=false):=fun h j hj=>by
    rcases Nat.lt_or_ge j k with h1 | h1
    ·exact HBad.out j h1
    ·rw[show j=k by omega];exact h
   by_cases g1:m.cyc=cyc
   ·cases g2:bearsE e (aheadOf e (l.take k)) m.pt
    ·have HT:Hid (flowBad e l cyc=true):=flowBad_of hlt (by rw[HI.out,decide_eq_true g1,g2];rfl);go_wp2;go_ret;exact⟨by rw[HT.out];rfl,HBw.out.trans (HB2.out.mono HBw.out.size)⟩
    ·have HF:Hid (fbadI e l cyc k=false):=by show _=_;rw[HI.out,g2,Bool.not_true,Bool.and_false]
     go_wp2_with fail
     go_roundw
     case rel=>exact⟨k+1,by omega,by go_num,HB.out.trans (HB2.out.mono HB.out.size),HNext.out HF.out⟩
     case measure=>simp[intOf];omega
   ·have HF:Hid (fbadI e l cyc k=false):=by show _=_;rw[HI.out,decide_eq_false g1];rfl
    go_wp2_with fail
    go_roundw
    case rel=>exact⟨k+1,by omega,by go_num,HB.out.trans (HB2.out.mono HB.out.size),HNext.out HF.out⟩
    case measure=>simp[intOf];omega
  ·have k1:¬(k:Int) < (l.length:Int):=by omega
   have HF:Hid (flowBad e l cyc=false):=flowBad_no fun j hj=>HBad.out j (by omega)
   go_wp2;go_ret;exact⟨by rw[HF.out];rfl,HBw.out⟩
end Go.Proofs.YtdpdbfhbojgigacGreatDoor
