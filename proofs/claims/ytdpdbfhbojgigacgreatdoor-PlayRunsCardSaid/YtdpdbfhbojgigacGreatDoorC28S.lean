/-
  Several texts as one: DcStr, DcErrP, CfRName, CfHeavyE.
-/
import Derived.Test.YtdpdbfhbojgigacGreatDoorC27S
import Derived.Test.YtdpdbfhbojgigacGreatDoorC19S
import Derived.Deep.AppendLies
import Derived.Deep.RegionLaw
namespace Go.Proofs.YtdpdbfhbojgigacGreatDoor
open Go.RowKit Go.Extern.Stop Go.Stop Go.Extern
theorem wpList_appends {α:Type}{w:World}{ops:Array Oper}{rest:List Oper}{o:Oper}{a:Act}{Q:Exit->Act->World->Prop}(hgd:o.guard=none)(s x:Operand)(t:TypeId)
  (ho:o.op=.call { callee:=.builtin .append,args:=#[s,x],argTypes:=#[t,t] })
  (B:Nat) (e:TypeId) (i:TypeInfo) (z:Value) (size bytes:Nat) (ht:Tryz.prog.underlying t=some (.slice e)) (hi:Tryz.prog.info? e=some i) (hz:i.zero=some z) (hsize:i.size=size) (hby:i.bytes=bytes) (hzs:z.cells.size=size) (hsz:0 < size)
  (enc:α->List Value) (henc:∀ x,(enc x).length=size) (h1:∀ x,∀ u∈enc x,u.oneCell'=true) (va:Option Addr) (vc:Nat) (ys:List α) (hs:a.eval s=.slice va ys.length vc) (hown:SlOwn enc size e B w (.slice va ys.length vc) ys)
  (v:Value) (xs:List α) (hx:a.eval x=v) (hv:SlAt enc size w v xs) (hm:xs.length<=1000000) (hn:ys.length<=10000000) (hbb:bytes<=1000) (hB:B<=w.heap.size)
  (h:∀ sa' cap' w',SlOwn enc size e B w' (.slice sa' (ys++xs).length cap') (ys++xs)->w.grownBy w' (Value.slice va ys.length vc).ownBlock->wpList Tryz.prog ops Q rest (a.put o.dst (.slice sa' (ys++xs).length cap')) w'):wpList Tryz.prog ops Q (o :: rest) a w:=by
 obtain⟨sa,cap,rfl,hle,hcell⟩:=hv;have hvc:ys.length<=vc:=by
  rcases hown.2 with ⟨h1,h2⟩ | ⟨g,cap2,cur,h1,_,_,h2,_⟩
  ·omega
  ·simp only[Value.slice.injEq] at h1;omega
 by_cases hne:xs=[]
 ·subst hne
  refine wpList_plain hgd fun K hK=>?_
  have hsrc:Src Tryz.prog i.size t (.slice sa 0 cap) 0 [] w:=by
   cases sa with
   | none=>exact Src.ofNil w ht cap
   | some ad=>exact Src.ofSlice w ht ad 0 cap [] (by simp) (fun j u hu=>by simp at hu) (fun u hu=>by simp at hu)
  have hr:=run_append_nothing (P:=Tryz.prog) w t t o.type e i ht hi va ys.length vc hvc (.slice sa 0 cap) hsrc;unfold Oper.wp execOp;simp only[List.length_nil] at hx;simp only[ho,resolve,invoke,builtin,Sem.run_bind,Sem.run_pure,Result.andThen_ok,List.map_toArray,List.map_cons,List.map_nil,hs,hx,hr];have:=h va vc w (by rw[List.append_nil];exact hown) ⟨rfl,rfl,rfl,Nat.le_refl _,fun _ _ _=>rfl⟩;rw[List.append_nil] at this;exact hK _ _ this
 ·obtain⟨b,of,rfl,hc⟩:=hcell hne
  refine wpList_append_own w hgd s x t ho B e i z size bytes ht hi hz hsize hby hzs hsz (.slice va ys.length vc) ys.length (ys.flatMap enc) hs hown ⟨b,of,none⟩ xs.length cap (xs.flatMap enc) hx (flat_len henc xs) (fun j u hu=>?_) (fun u hu=>?_) (by unfold maxLen;omega) ?_ hB (fun v' w' hown' hg hn'=>?_)
  ·obtain⟨i',j',y,e1,h2,h3⟩:=flat_of henc xs j u hu;have:=hc i' y h2 j' u h3;rw[e1,addC_plain,<- Nat.add_assoc];exact this
  ·simp only[List.mem_flatMap] at hu;obtain⟨y,-,hy⟩:=hu;exact h1 y u hy
  ·have:(ys.length+xs.length)*bytes<=11000000*1000:=Nat.mul_le_mul (by omega) hbb;omega
  ·have hl:(ys++xs).length=ys.length+xs.length:=by simp
   have hown2:w'.ownsRow B e size v' (ys++xs).length ((ys++xs).flatMap enc):=by rw[hl,List.flatMap_append];exact hown'
   rcases hown2.2 with ⟨rfl,h0⟩ | ⟨g,cap2,cur,rfl,hB2,r⟩
   ·exact absurd (List.eq_nil_of_length_eq_zero h0) (by simp[hne])
   ·exact h _ _ w' hown2 hg
def gapPts (l:List GapD):List Int:=l.flatMap fun g=>[g.fr,g.to]
def edgePts (l:List (Int × Int)):List Int:=l.flatMap fun d=>[d.1,d.2]
def strL (e:EntD):List Int:=e.first++e.last++gapPts e.gaps++edgePts e.edges
theorem strL_any (e:EntD)(f:Int->Bool):(strL e).any f=(e.first.any f || e.last.any f || (e.gaps.any fun g=>f g.fr || f g.to) || (e.edges.any fun d=>f d.1 || f d.2)):=by
 unfold strL gapPts edgePts;rw[List.any_append,List.any_append,List.any_append,List.any_flatMap,List.any_flatMap];congr 1
 ·congr 1
  congr 1
  funext g
  simp
 ·congr 1
  funext d
  simp
theorem gapPts_len (l:List GapD):(gapPts l).length=2*l.length:=by
 induction l with
 | nil=>rfl
 | cons g t ih=>simp only[gapPts,List.flatMap_cons,List.length_append,List.length_cons,List.length_nil] at ih ⊢;omega
theorem edgePts_len (l:List (Int × Int)):(edgePts l).length=2*l.length:=by
 induction l with
 | nil=>rfl
 | cons g t ih=>simp only[edgePts,List.flatMap_cons,List.length_append,List.length_cons,List.length_nil] at ih ⊢;omega
theorem ceA (w:World)(cs:List Value)(T:TypeId):∀ (j:Nat) u,cs[j]?=some u->(w.alloc (.cells cs.toArray T)).cell? ((⟨w.heap.size,0,none⟩:Addr).add j)=some u:=by
 intro j u hu;rw[addC_plain,World.cell?_alloc_at _ _ _ _ rfl];simpa using hu
theorem two_one (a b:Int):∀ u∈([.int .i64 a,.int .i64 b]:List Value),u.oneCell'=true:=by intro u hu;simp at hu;rcases hu with rfl | rfl <;> rfl
set_option maxHeartbeats 4000000 in
set_option maxRecDepth 100000 in
theorem strang_at (e:EntD)(pa ga ea fa la:Option Addr)(pc gc ec fc lc:Nat)(w:World)(hP:EntParts w e (.slice pa e.pts.length pc) (.slice ga e.gaps.length gc) (.slice ea e.edges.length ec) (.slice fa e.first.length fc) (.slice la e.last.length lc))(hS:SmallE e) :
  Calls Tryz.prog 86 #[.agg #[.string e.name,.int .i64 e.tol,.slice pa e.pts.length pc,.int .i64 e.cnt,.int .i64 e.mn,.int .i64 e.mx,.slice ga e.gaps.length gc,.slice ea e.edges.length ec,.slice fa e.first.length fc,.slice la e.last.length lc]] w fun v w'=>v=.returned (.bool ((strL e).any fun x=>lacks e.pts.length x))/\Below w.heap.size w w':=by
 obtain⟨i0,hi,hz0,hz1,hz2⟩:=info_parts Tryz.infoOwnf;obtain⟨W,hW⟩:∃ V,V=w.alloc (.cells #[.string e.name,.int .i64 e.tol,.slice pa e.pts.length pc,.int .i64 e.cnt,.int .i64 e.mn,.int .i64 e.mx,.slice ga e.gaps.length gc,.slice ea e.edges.length ec,.slice fa e.first.length fc,.slice la e.last.length lc] 38):=⟨_,rfl⟩;have HBW:Hid (Below w.heap.size w W):=by show Below _ _ _;rw[hW];exact Below.one _ _
 have HX:Hid (∀ V,Below W.heap.size W V->∀ (j:Nat) u,(#[.string e.name,.int .i64 e.tol,.slice pa e.pts.length pc,.int .i64 e.cnt,.int .i64 e.mn,.int .i64 e.mx,.slice ga e.gaps.length gc,.slice ea e.edges.length ec,.slice fa e.first.length fc,.slice la e.last.length lc]:Array Value)[j]?=some u->V.cell? ⟨w.heap.size,j,none⟩=some u):=fun V hV j u hu=>by
  have:=row_below hV (show W.heap[w.heap.size]?=_ by rw[hW];exact heap_alloc_new w _);simp[World.cell?,this,hu]
 have HP:Hid (∀ V,Below W.heap.size W V->EntParts V e (.slice pa e.pts.length pc) (.slice ga e.gaps.length gc) (.slice ea e.edges.length ec) (.slice fa e.first.length fc) (.slice la e.last.length lc)):=fun V hV=>hP.below (HBW.out.trans (hV.mono HBW.out.size))
 have HS:Hid (SmallE e):=hS;clear hP hS;go_enter Tryz.func86,Tryz.ntmps86
 go_upto_region 2 with fail
 rw[<- hW];clear hW;have s8:=HX.out W (Below.refl _ _) 8 _ rfl;go_upto_region 3 with (at_builtin;refine wpList_copy (w:=W) rfl _ _ 36 rfl W.heap.size 3 i0 (.int .i64 0) 1 8 Tryz.underlying36 hi hz0 hz1 hz2 rfl (by decide) rfl encI (fun _=>rfl) encI_one _ e.first rfl (HP.out W (Below.refl _ _)).hf HS.out.hf (by decide) (Nat.le_refl _) ?_;intro va1 vc1 W1 ho1 hb1)
 clear s8;have HB1:Hid (Below W.heap.size W W1):=hb1;have HO1:Hid (SlOwn encI 1 3 W.heap.size W1 (.slice va1 e.first.length vc1) e.first):=ho1;have s9:=HX.out W1 hb1 9 _ rfl;clear hb1 ho1;go_upto_region 4 with (at_builtin;refine wpList_appends (w:=W1) rfl _ _ 36 rfl W.heap.size 3 i0 (.int .i64 0) 1 8 Tryz.underlying36 hi hz0 hz1 hz2 rfl (by decide) encI (fun _=>rfl) encI_one va1 vc1 e.first rfl HO1.out _ e.last rfl (HP.out W1 HB1.out).hl HS.out.hl (by have:=HS.out.hf;omega) (by decide) HB1.out.size ?_;intro va2 vc2 W2 ho2 hg2)
 have HB2:Hid (Below W.heap.size W W2):=HB1.out.grown hg2 HB1.out.size (fun j hj=>(HO1.out.lt j hj).1);have HO2:Hid (W2.ownsRow W.heap.size 3 1 (.slice va2 (e.first++e.last).length vc2) (e.first++e.last).length ((e.first++e.last).flatMap encI)):=ho2;clear s9 hg2 ho2 HO1 HB1
 go_cut [4] (fun i wx=>i=.int .i64 0/\wx=W2)
 case first=>
  go_wp2_with fail
  go_meet
  case rel=>exact⟨rfl,rfl⟩
 obtain⟨rfl,rfl⟩:=hcut;rename World=>W2
 go_wp2_with fail
 go_loopw [3,4] (fun lv iv wx=>∃ (k:Nat) (va:Option Addr) (vc:Nat) (L:List Int),k<=e.gaps.length/\iv=.int .i64 k/\L=e.first++e.last++gapPts (e.gaps.take k)/\lv=.slice va L.length vc/\Below W.heap.size W wx/\wx.ownsRow W.heap.size 3 1 (.slice va L.length vc) L.length (L.flatMap encI)) (fun _ i _=>e.gaps.length - (intOf i).toNat)
 case atStart=>exact⟨0,va2,vc2,e.first++e.last,Nat.zero_le _,rfl,by simp[gapPts],by simp,HB2.out,HO2.out⟩
 case round=>
  clear HB2 HO2;obtain⟨k,va,vc,L,hk,rfl,hL,rfl,hbx,hox⟩:=hrel;rename World=>wx
  have HB:Hid (Below W.heap.size W wx):=hbx;have HO:Hid (wx.ownsRow W.heap.size 3 1 (.slice va L.length vc) L.length (L.flatMap encI)):=hox;have HL:Hid (L=e.first++e.last++gapPts (e.gaps.take k)):=hL;have HLn:Hid (L.length<=4000000):=by
   show _<=_
   rw[hL];have h1:=HS.out.hf;have h2:=HS.out.hl;have h3:=HS.out.hg;have h4:=gapPts_len (e.gaps.take k);simp at h4 ⊢
   omega
  clear hbx hox hL;have x6:=HX.out wx HB.out 6 _ rfl
  by_cases hlt:k < e.gaps.length
  ·have k1:(k:Int) < (e.gaps.length:Int):=by omega
   have k2:k < 1000000:=by have:=HS.out.hg;omega
   obtain⟨q,hq⟩:∃ q,e.gaps[k]?=some q:=⟨_,List.getElem?_eq_getElem hlt⟩;obtain⟨sa',cap',hsl,-,hcc⟩:=(HP.out wx HB.out).hg
   cases hsl
   obtain⟨g,o,rfl,hc0⟩:=hcc (fun h=>by rw[h] at hq;simp at hq);have c0:wx.cell? ⟨g,o+k*4,none⟩=some (.int .i64 q.fr):=hc0 k _ hq 0 _ rfl;have c1:wx.cell? ⟨g,o+k*4+1,none⟩=some (.int .i64 q.to):=hc0 k _ hq 1 _ rfl;have HN:Hid (L++[q.fr,q.to]=e.first++e.last++gapPts (e.gaps.take (k+1))):=by
    show _=_
    rw[HL.out,List.take_add_one,hq];simp[gapPts]
   have hown:wx.drew.ownsRow W.heap.size 3 1 (.slice va L.length vc) L.length (L.flatMap encI):=HO.out;have hLz:W.heap.size<=wx.heap.size:=HB.out.size;have hLn:=HLn.out;have KL:Hid (∀ (ob:Obj) (w8:World),(wx.drew.alloc ob).grownBy w8 (Value.slice va L.length vc).ownBlock->Below W.heap.size W w8):=fun ob w8 hg=>by
    have h1:Below W.heap.size W (wx.drew.alloc ob):=HB.out.drew.alloc (by simp;omega) _;exact h1.grown hg h1.size (fun i hi=>(HO.out.lt i hi).1)
   clear hcc hc0 hq;go_wp2_with fail
   go_region_law (refine step_append_lies _ rfl (.tmp 22) (.tmp 35) 36 rfl W.heap.size 3 i0 (.int .i64 0) 1 8 Tryz.underlying36 hi hz0 hz1 hz2 rfl (by decide) (.slice va L.length vc) L.length (L.flatMap encI) (by simp[Act.eval]) (hown.alloc _) ⟨wx.heap.size,0,.none⟩ 2 2 [.int .i64 q.fr,.int .i64 q.to] (by simp[Act.eval]) rfl (ceA wx.drew [.int .i64 q.fr,.int .i64 q.to] 3) (two_one q.fr q.to) (by decide) (by unfold maxLen;omega) (by omega) (by simp;omega) (wx.heap.size+1) (by simp) ?_;intro g' cap' w8 hown8 hgrow8 hor hlt8)
   all_goals
    have H8:Hid (Below W.heap.size W w8):=KL.out _ _ hgrow8;have Ho8:Hid (w8.ownsRow W.heap.size 3 1 (.slice (some ⟨g',0,none⟩) (L++[q.fr,q.to]).length cap') (L++[q.fr,q.to]).length ((L++[q.fr,q.to]).flatMap encI)):=by
     show World.ownsRow _ _ _ _ _ _ _
     rw[List.length_append,List.flatMap_append];exact hown8
    clear hgrow8 hown8 hor hlt8 KL;go_wp2_with fail
    go_roundw
    case rel=>exact⟨k+1,some ⟨g',0,none⟩,cap',L++[q.fr,q.to],by omega,by go_num,HN.out,by simp,H8.out,Ho8.out⟩
    case measure=>simp[intOf];omega
  ·have k1:¬(k:Int) < (e.gaps.length:Int):=by omega
   have HL2:Hid (L=e.first++e.last++gapPts e.gaps):=by show _=_;rw[HL.out,List.take_of_length_le (by omega)]
   clear HL;go_upto_region 8 with fail
   go_cut [5] (fun i wv=>i=.int .i64 0/\wv=wx)
   case first=>
    go_wp2_with fail
    go_meet
    case rel=>exact⟨rfl,rfl⟩
   obtain⟨rfl,rfl⟩:=hcut;rename World=>wx
   clear x6 hlt k1;go_wp2_with fail
   go_loopw [3,5] (fun lv iv wy=>∃ (k:Nat) (va:Option Addr) (vc:Nat) (M:List Int),k<=e.edges.length/\iv=.int .i64 k/\M=e.first++e.last++gapPts e.gaps++edgePts (e.edges.take k)/\lv=.slice va M.length vc/\Below W.heap.size W wy/\wy.ownsRow W.heap.size 3 1 (.slice va M.length vc) M.length (M.flatMap encI)) (fun _ i _=>e.edges.length - (intOf i).toNat)
   case atStart=>exact⟨0,va,vc,L,Nat.zero_le _,rfl,by rw[HL2.out];simp[edgePts],rfl,HB.out,HO.out⟩
   case round=>
    clear HB HO HLn HL2;clear hk;obtain⟨k,va,vc,L,hk,rfl,hL,rfl,hbx,hox⟩:=hrel;rename World=>wx
    have HB:Hid (Below W.heap.size W wx):=hbx;have HO:Hid (wx.ownsRow W.heap.size 3 1 (.slice va L.length vc) L.length (L.flatMap encI)):=hox;have HL:Hid (L=e.first++e.last++gapPts e.gaps++edgePts (e.edges.take k)):=hL;have HLn:Hid (L.length<=7000000):=by
     show _<=_
     rw[hL];have h1:=HS.out.hf;have h2:=HS.out.hl;have h3:=HS.out.hg;have h4:=gapPts_len e.gaps;have h5:=HS.out.he;have h6:=edgePts_len (e.edges.take k);simp at h4 h6 ⊢
     omega
    clear hbx hox hL;have x7:=HX.out wx HB.out 7 _ rfl
    by_cases hlt:k < e.edges.length
    ·have k1:(k:Int) < (e.edges.length:Int):=by omega
     have k2:k < 1000000:=by have:=HS.out.he;omega
     obtain⟨q,hq⟩:∃ q,e.edges[k]?=some q:=⟨_,List.getElem?_eq_getElem hlt⟩;obtain⟨sa',cap',hsl,-,hcc⟩:=(HP.out wx HB.out).he
     cases hsl
     obtain⟨g,o,rfl,hc0⟩:=hcc (fun h=>by rw[h] at hq;simp at hq);have c0:wx.cell? ⟨g,o+k*2,none⟩=some (.int .i64 q.1):=hc0 k _ hq 0 _ rfl;have c1:wx.cell? ⟨g,o+k*2+1,none⟩=some (.int .i64 q.2):=hc0 k _ hq 1 _ rfl;have HN:Hid (L++[q.1,q.2]=e.first++e.last++gapPts e.gaps++edgePts (e.edges.take (k+1))):=by
      show _=_
      rw[HL.out,List.take_add_one,hq];simp[edgePts]
     have hown:wx.drew.ownsRow W.heap.size 3 1 (.slice va L.length vc) L.length (L.flatMap encI):=HO.out;have hLz:W.heap.size<=wx.heap.size:=HB.out.size;have hLn:=HLn.out;have KL:Hid (∀ (ob:Obj) (w8:World),(wx.drew.alloc ob).grownBy w8 (Value.slice va L.length vc).ownBlock->Below W.heap.size W w8):=fun ob w8 hg=>by
      have h1:Below W.heap.size W (wx.drew.alloc ob):=HB.out.drew.alloc (by simp;omega) _;exact h1.grown hg h1.size (fun i hi=>(HO.out.lt i hi).1)
     clear hcc hc0 hq;go_wp2_with fail
     go_region_law (refine step_append_lies _ rfl (.tmp 44) (.tmp 57) 36 rfl W.heap.size 3 i0 (.int .i64 0) 1 8 Tryz.underlying36 hi hz0 hz1 hz2 rfl (by decide) (.slice va L.length vc) L.length (L.flatMap encI) (by simp[Act.eval]) (hown.alloc _) ⟨wx.heap.size,0,.none⟩ 2 2 [.int .i64 q.1,.int .i64 q.2] (by simp[Act.eval]) rfl (ceA wx.drew [.int .i64 q.1,.int .i64 q.2] 3) (two_one q.1 q.2) (by decide) (by unfold maxLen;omega) (by omega) (by simp;omega) (wx.heap.size+1) (by simp) ?_;intro g' cap' w8 hown8 hgrow8 hor hlt8)
     all_goals
      have H8:Hid (Below W.heap.size W w8):=KL.out _ _ hgrow8;have Ho8:Hid (w8.ownsRow W.heap.size 3 1 (.slice (some ⟨g',0,none⟩) (L++[q.1,q.2]).length cap') (L++[q.1,q.2]).length ((L++[q.1,q.2]).flatMap encI)):=by
       show World.ownsRow _ _ _ _ _ _ _
       rw[List.length_append,List.flatMap_append];exact hown8
      clear hgrow8 hown8 hor hlt8 KL;go_wp2_with fail
      go_roundw
      case rel=>exact⟨k+1,some ⟨g',0,none⟩,cap',L++[q.1,q.2],by omega,by go_num,HN.out,by simp,H8.out,Ho8.out⟩
      case measure=>simp[intOf];omega
    ·have k1:¬(k:Int) < (e.edges.length:Int):=by omega
     have HL2:Hid (L=strL e):=by show _=_;rw[HL.out,List.take_of_length_le (by omega)];rfl
     clear HL;go_upto_region 12 with fail
     go_cut [6] (fun i wv=>i=.int .i64 0/\wv=wx)
     case first=>
      go_wp2_with fail
      go_meet
      case rel=>exact⟨rfl,rfl⟩
     obtain⟨rfl,rfl⟩:=hcut;rename World=>wx
     clear x7 hlt k1 hk;go_wp2_with fail
     go_loopw [6] (fun iv wy=>∃ (k:Nat),k<=L.length/\iv=.int .i64 k/\Below wx.heap.size wx wy/\∀ j x,j < k->L[j]?=some x->lacks e.pts.length x=false) (fun i _=>L.length - (intOf i).toNat)
     case atStart=>exact⟨0,Nat.zero_le _,rfl,Below.refl _ _,fun j x hj=>absurd hj (by omega)⟩
     case round=>
      obtain⟨k,hk,rfl,hby,hno⟩:=hrel;rename World=>wy
      have HBy:Hid (Below wx.heap.size wx wy):=hby;have HNo:Hid (∀ j x,j < k->L[j]?=some x->lacks e.pts.length x=false):=hno;have HBf:Hid (Below w.heap.size w wy):=(HBW.out.trans (HB.out.mono HBW.out.size)).trans (hby.mono (Nat.le_trans HBW.out.size HB.out.size));have x2:=HX.out wy (HB.out.trans (hby.mono HB.out.size)) 2 _ rfl;clear hby hno
      by_cases hlt:k < L.length
      ·have k1:(k:Int) < (L.length:Int):=by omega
       have k2:k < 7000000:=by have:=HLn.out;omega
       obtain⟨x,hx⟩:∃ x,L[k]?=some x:=⟨_,List.getElem?_eq_getElem hlt⟩;have HXk:Hid (L[k]?=some x):=hx;obtain⟨g,o,rfl,hcc⟩:∃ g o,va=some ⟨g,o,none⟩/\wy.cell? ⟨g,o+k,none⟩=some (.int .i64 x):=by
        obtain⟨g,o,e1,e2⟩:=slatI_cell (SlOwn.slat (enc:=encI) (show SlOwn encI 1 3 W.heap.size wx (.slice va L.length vc) L from HO.out) (fun _=>rfl)) hx;exact⟨g,o,e1,cell_below HBy.out (e2 k x hx)⟩
       clear hx
       by_cases g1:x < 0
       ·have HE:Hid (((strL e).any fun x=>lacks e.pts.length x)=true):=by
         show _=_
         rw[<- HL2.out,List.any_eq_true];exact⟨x,List.mem_of_getElem? HXk.out,by unfold lacks;rw[decide_eq_true g1];rfl⟩
        go_wp2_with fail
        go_quiet (fail)
        go_wp2;go_ret;exact⟨by rw[HE.out];rfl,below_drewN HBf.out _⟩
       ·by_cases g2:(e.pts.length:Int)<=x
        ·have HE:Hid (((strL e).any fun x=>lacks e.pts.length x)=true):=by
          show _=_
          rw[<- HL2.out,List.any_eq_true];exact⟨x,List.mem_of_getElem? HXk.out,by unfold lacks;rw[decide_eq_true g2,Bool.or_true]⟩
         go_wp2_with fail
         go_quiet (fail)
         go_wp2;go_ret;exact⟨by rw[HE.out];rfl,below_drewN HBf.out _⟩
        ·go_wp2_with fail
         go_quiet (fail)
         go_wp2_with fail
         go_roundw
         case rel=>
          refine⟨k+1,by omega,by go_num,below_drewN HBy.out _,fun j y hj hy=>?_⟩
          rcases Nat.lt_or_ge j k with h1 | h1
          ·exact HNo.out j y h1 hy
          ·obtain rfl:j=k:=by omega
           rw[HXk.out] at hy
           cases hy
           unfold lacks;rw[decide_eq_false (p:=x < 0) (by omega),decide_eq_false (p:=(e.pts.length:Int)<=x) (by omega)];rfl
         case measure=>simp[intOf];omega
      ·have k1:¬(k:Int) < (L.length:Int):=by omega
       have HE:Hid (((strL e).any fun x=>lacks e.pts.length x)=false):=by
        show _=_
        rw[<- HL2.out,List.any_eq_false];intro y hy;obtain⟨j,hj⟩:=List.getElem?_of_mem hy;have hjl:j < L.length:=by
         rcases Nat.lt_or_ge j L.length with h' | h'
         ·exact h'
         ·rw[List.getElem?_eq_none h'] at hj;cases hj
        rw[HNo.out j y (by omega) hj];simp
       go_wp2;go_ret;exact⟨by rw[HE.out];rfl,HBf.out⟩
end Go.Proofs.YtdpdbfhbojgigacGreatDoor
namespace Go.Proofs.YtdpdbfhbojgigacGreatDoor
open Go.RowKit Go.Extern.Stop Go.Stop Go.Extern
theorem pts_split:∀ (l1 a l2:List ByteArray),ptsErr a (l1++l2)=if ptsErr a l1=0 then ptsErr (a++l1) l2 else ptsErr a l1
 | [],a,l2=>by simp[ptsErr]
 | p :: t,a,l2=>by
  rw[List.cons_append,show ptsErr a (p :: (t++l2))=if nameErr a p=0 then ptsErr (a++[p]) (t++l2) else nameErr a p from rfl,show ptsErr a (p :: t)=if nameErr a p=0 then ptsErr (a++[p]) t else nameErr a p from rfl]
  by_cases h:nameErr a p=0
  ·rw[if_pos h,if_pos h,pts_split t (a++[p]) l2,List.append_assoc];rfl
  ·rw[if_neg h,if_neg h,if_neg h]
theorem take_drop_at {α:Type}{l:List α}{k:Nat}{x:α}(h:l[k]?=some x):l=l.take k++x :: l.drop (k+1):=by
 have hk:k < l.length:=by
  rcases Nat.lt_or_ge k l.length with h' | h'
  ·exact h'
  ·rw[List.getElem?_eq_none h'] at h;cases h
 have e2:l.drop k=x :: l.drop (k+1):=by
  rw[List.drop_eq_getElem_cons hk];rw[List.getElem?_eq_getElem hk] at h
  cases h;rfl
 rw[<- e2,List.take_append_drop]
theorem pts_bad {pts:List ByteArray}{k:Nat}{p:ByteArray}(hk:pts[k]?=some p)(h0:ptsErr [] (pts.take k)=0)(hb:nameErr (pts.take k) p≠0):ptsErr [] pts=nameErr (pts.take k) p:=by
 have e:=pts_split (pts.take k) [] (p :: pts.drop (k+1));rw[<- take_drop_at hk,if_pos h0,List.nil_append] at e;rw[e];unfold ptsErr;rw[if_neg hb]
theorem pts_next {pts:List ByteArray}{k:Nat}{p:ByteArray}(hk:pts[k]?=some p)(h0:ptsErr [] (pts.take k)=0)(hb:nameErr (pts.take k) p=0):ptsErr [] (pts.take (k+1))=0:=by
 rw[List.take_add_one,hk];show ptsErr [] (pts.take k++[p])=0
 rw[pts_split,if_pos h0,List.nil_append];simp[ptsErr,hb]
theorem nameErr_4 {a:List ByteArray}{s:ByteArray}(h:isName s=false):nameErr a s=4:=by unfold nameErr;rw[if_neg (by rw[h];simp)]
theorem nameErr_6 {a:List ByteArray}{s:ByteArray}(h:isName s=true)(h2:(a.any fun x=>decide (x=s))=true):nameErr a s=6:=by unfold nameErr;rw[if_pos h,if_pos h2]
theorem nameErr_0 {a:List ByteArray}{s:ByteArray}(h:isName s=true)(h2:(a.any fun x=>decide (x=s))=false):nameErr a s=0:=by unfold nameErr;rw[if_pos h,if_neg (by rw[h2];simp)]
theorem idx_lt {pts:List ByteArray}{k:Nat}{p:ByteArray}(hk:pts[k]?=some p):(idxOf pts p < (k:Int)) ↔ ((pts.take k).any fun x=>decide (x=p))=true:=by
 have hkl:k < pts.length:=by
  rcases Nat.lt_or_ge k pts.length with h' | h'
  ·exact h'
  ·rw[List.getElem?_eq_none h'] at hk;cases hk
 rw[List.any_eq_true];unfold idxOf
 cases hf:pts.findIdx? (fun y=>decide (y=p)) with
 | none=>
  rw[List.findIdx?_eq_none_iff] at hf;have:=hf p (List.mem_of_getElem? hk);simp at this
 | some i=>
  rw[List.findIdx?_eq_some_iff_getElem] at hf;obtain⟨hi,h1,h2⟩:=hf
  constructor
  ·intro hlt;have hlt':i < k:=by simpa using hlt
   refine⟨pts[i],?_,h1⟩;have:(pts.take k)[i]?=some pts[i]:=by rw[List.getElem?_take,if_pos hlt',List.getElem?_eq_getElem hi]
   exact List.mem_of_getElem? this
  ·rintro⟨x,hx,e⟩;obtain⟨j,hj⟩:=List.getElem?_of_mem hx;rw[List.getElem?_take] at hj
   split at hj
   ·rename_i hjk
    rcases Nat.lt_or_ge i k with h' | h'
    ·simpa using h'
    ·exfalso
     have h3:=h2 j (by omega);obtain⟨hjl,e2⟩:=List.getElem?_eq_some_iff.1 hj;rw[e2] at h3;exact absurd e (by simpa using h3)
   ·cases hj
variable {na:List ByteArray}{e:EntD}
theorem ent_name (h:nameErr na e.name≠0):entErr na e=nameErr na e.name:=by unfold entErr;rw[if_pos h]
theorem ent_size (h:nameErr na e.name=0)(h2:sizeErr e≠0):entErr na e=sizeErr e:=by unfold entErr;rw[if_neg (by simp[h]),if_pos h2]
theorem ent_pts (h:nameErr na e.name=0)(h2:sizeErr e=0)(h3:ptsErr [] e.pts≠0):entErr na e=ptsErr [] e.pts:=by unfold entErr;rw[if_neg (by simp[h]),if_neg (by simp[h2]),if_pos h3]
theorem ent_part (h:nameErr na e.name=0)(h2:sizeErr e=0)(h3:ptsErr [] e.pts=0):entErr na e=partErr e:=by unfold entErr;rw[if_neg (by simp[h]),if_neg (by simp[h2]),if_neg (by simp[h3])]
theorem size_bad (h:(!within e.tol 0 20 || decide (16 < e.pts.length) || decide (8 < e.gaps.length) || decide (64 < e.edges.length) || decide (16 < e.first.length) || decide (16 < e.last.length))=true):sizeErr e=2:=by
 unfold sizeErr;simp only[firstOf]
 repeat' split
 all_goals first | rfl | simp_all
theorem size_ok (h1:within e.tol 0 20=true)(h2:¬16 < e.pts.length)(h3:¬8 < e.gaps.length)(h4:¬64 < e.edges.length)(h5:¬16 < e.first.length)(h6:¬16 < e.last.length):sizeErr e=0:=by
 unfold sizeErr;simp only[firstOf,h1,decide_eq_false h2,decide_eq_false h3,decide_eq_false h4,decide_eq_false h5,decide_eq_false h6];rfl
def pc1 (e:EntD):Bool:=decide (e.cnt≠-1) && lacks e.pts.length e.cnt
def pcS (e:EntD):Bool:=(strL e).any fun x=>lacks e.pts.length x
def pc6 (e:EntD):Bool:=decide (e.cnt=-1) && (decide (e.mn≠0) || decide (e.mx≠0))
def pc7 (e:EntD):Bool:=!rise 0 e.mn e.mx 999
def pc8 (e:EntD):Bool:=e.gaps.any fun g=>!rise 0 g.mn g.mx 1099511627776
def pc12 (e:EntD):Bool:=decide (0 < e.edges.length) && decide (e.first.length=0)
def pc13 (e:EntD):Bool:=decide (e.edges.length=0) && decide (0 < e.first.length+e.last.length)
theorem part_is (e:EntD):partErr e=firstOf [(pc1 e,5),(pcS e,5),(pc6 e,3),(pc7 e,2),(pc8 e,2),(twice e.edges,6),(twice e.first,6),(twice e.last,6),(pc12 e,3),(pc13 e,3)]:=by
 have hs:pcS e=(e.first.any (fun x=>lacks e.pts.length x) || e.last.any (fun x=>lacks e.pts.length x) || (e.gaps.any fun g=>lacks e.pts.length g.fr || lacks e.pts.length g.to) || (e.edges.any fun d=>lacks e.pts.length d.1 || lacks e.pts.length d.2)):=strL_any e _;unfold partErr;rw[hs];show firstOf ((pc1 e,5) :: _)=firstOf ((pc1 e,5) :: _)
 unfold firstOf
 split
 ·rfl
 ·show firstOf _=firstOf _
  generalize (e.gaps.any fun g=>lacks e.pts.length g.fr || lacks e.pts.length g.to)=a;generalize (e.edges.any fun d=>lacks e.pts.length d.1 || lacks e.pts.length d.2)=b;generalize (e.first.any fun x=>lacks e.pts.length x)=c;generalize (e.last.any fun x=>lacks e.pts.length x)=d
  cases a <;> cases b <;> cases c <;> cases d <;> rfl
end Go.Proofs.YtdpdbfhbojgigacGreatDoor
namespace Go.Proofs.YtdpdbfhbojgigacGreatDoor
open Go.RowKit Go.Extern.Stop Go.Stop Go.Extern
set_option maxHeartbeats 2000000 in
set_option maxRecDepth 100000 in
theorem rName_at (s:ByteArray)(w:World)(hs:s.size<=1000000):Calls Tryz.prog 84 #[.string s] w fun e w'=>e=.returned (.bool (isName s))/\w'=w:=by
 by_cases h1:s.size < 1
 ·have HY:Hid (isName s=false):=isName_no (Or.inl h1);have g1:(s.size:Int) < 1:=by omega
  clear h1;go_enter Tryz.func84,Tryz.ntmps84
  go_wp2;go_ret;exact⟨by first | rfl | (rw[HY.out];rfl),rfl⟩
 have g1:¬(s.size:Int) < 1:=by omega
 by_cases h2:12 < s.size
 ·have HY:Hid (isName s=false):=isName_no (Or.inr h2);have g2:(12:Int) < (s.size:Int):=by omega
  clear h1 h2;go_enter Tryz.func84,Tryz.ntmps84
  go_wp2;go_ret;exact⟨by first | rfl | (rw[HY.out];rfl),rfl⟩
 have g2:¬(12:Int) < (s.size:Int):=by omega
 have HZ:Hid (1<=s.size/\s.size<=12):=⟨by omega,by omega⟩;clear h1 h2 hs;go_enter Tryz.func84,Tryz.ntmps84
 go_wp2_with fail
 clear g1 g2
 go_loopw [3,4,5] (fun i _ _ wr=>∃ k:Nat,k<=s.size/\i=.int .i64 k/\wr=w/\Hid ((∀ j,j < k->nameByte (s.data.toList.getD j 0)=true)/\(0 < k->isLetter (s.data.toList.getD 0 0)=true))) (fun i _ _ _=>s.size - (intOf i).toNat)
 case atStart=>exact⟨0,Nat.zero_le _,rfl,rfl,⟨fun j hj=>absurd hj (Nat.not_lt_zero _),fun h=>absurd h (Nat.lt_irrefl _)⟩⟩
 case round=>
  obtain⟨k,hk,rfl,rfl,HA⟩:=hrel
  by_cases hlt:k < s.size
  ·have k1:(k:Int) < (s.size:Int):=by omega
   have k2:(0:Int)<=(k:Int):=by omega
   have k12:k < 12:=by have:=HZ.out.2;omega
   have HB:Hid (s[k]=s.data.toList.getD k 0):=byte_at s k hlt;have HY:Hid (nameByte (s.data.toList.getD k 0)=false->isName s=false):=fun h=>isName_bad hlt h
   have HY0:Hid (isLetter (s.data.toList.getD 0 0)=false->isName s=false):=fun h=>isName_first h
   have hstep:∀ (hb:nameByte (s.data.toList.getD k 0)=true) (hl:k=0->isLetter (s.data.toList.getD 0 0)=true),(∀ j,j < k+1->nameByte (s.data.toList.getD j 0)=true)/\(0 < k+1->isLetter (s.data.toList.getD 0 0)=true):=fun hb hl=>by
    refine⟨fun j hj=>?_,fun _=>?_⟩
    ·by_cases e:j=k
     ·rw[e];exact hb
     ·exact HA.out.1 j (by omega)
    ·by_cases e:k=0
     ·exact hl e
     ·exact HA.out.2 (by omega)
   have HST:Hid (∀ (hb:nameByte (s.data.toList.getD k 0)=true) (hl:k=0->isLetter (s.data.toList.getD 0 0)=true),(∀ j,j < k+1->nameByte (s.data.toList.getD j 0)=true)/\(0 < k+1->isLetter (s.data.toList.getD 0 0)=true)):=hstep;clear hstep;generalize hcc:s[k]=c at *;have HC:Hid (c=s.data.toList.getD k 0):=HB.out;have hv:=c.toNat_lt
   by_cases b1:97<=c.toNat/\c.toNat<=122
   ·have n1:(97:Int)<=(c.toNat:Int):=by omega
    have n2:(c.toNat:Int)<=122:=by omega
    have HL:Hid (isLetter c=true):=by show _=_;simp[isLetter];omega
    clear b1 hv;go_wp2;go_roundw
    case rel=>
     refine⟨k+1,by omega,by go_num,by first | trivial | rfl,HST.out ?_ ?_⟩
     ·rw[<- HC.out];have:=HL.out;simp[nameByte,this]
     ·rintro rfl;rw[<- HC.out];exact HL.out
    case measure=>simp[intOf];omega
   ·have HL:Hid (isLetter c=false):=by show _=_;simp[isLetter];omega
    by_cases q0:c.toNat < 45
    ·have n0:¬(97:Int)<=(c.toNat:Int):=by omega
     have n1:¬(48:Int)<=(c.toNat:Int):=by omega
     have n9:((c.toNat:Int) == 45)=false:=by rw[beq_eq_false_iff_ne];omega
     have HO:Hid (nameByte c=false):=by show _=_;have:=HL.out;simp[nameByte,this,isDig];omega
     clear b1 hv q0
     by_cases hk0:k=0
     ·have HF:Hid (isName s=false):=HY0.out (by have h2:=HC.out;rw[hk0] at h2;rw[<- h2];exact HL.out);have kz:((k:Int) == 0)=true:=by rw[beq_iff_eq];omega
      clear hk0;go_wp2;go_ret;exact⟨by first | rfl | (rw[HF.out];rfl),by first | trivial | rfl⟩
     ·have kz:((k:Int) == 0)=false:=by rw[beq_eq_false_iff_ne];omega
      have HK0:Hid (¬k=0):=hk0;clear hk0;have HF:Hid (isName s=false):=HY.out (by rw[<- HC.out];exact HO.out);go_wp2;go_ret;exact⟨by first | rfl | (rw[HF.out];rfl),by first | trivial | rfl⟩
    by_cases q1:c.toNat=45
    ·have n0:¬(97:Int)<=(c.toNat:Int):=by omega
     have n1:¬(48:Int)<=(c.toNat:Int):=by omega
     have n9:((c.toNat:Int) == 45)=true:=by rw[beq_iff_eq];omega
     have HO:Hid (nameByte c=true):=by show _=_;have:=HL.out;simp[nameByte,this,isDig];omega
     clear b1 hv q0 q1
     by_cases hk0:k=0
     ·have HF:Hid (isName s=false):=HY0.out (by have h2:=HC.out;rw[hk0] at h2;rw[<- h2];exact HL.out);have kz:((k:Int) == 0)=true:=by rw[beq_iff_eq];omega
      clear hk0;go_wp2;go_ret;exact⟨by first | rfl | (rw[HF.out];rfl),by first | trivial | rfl⟩
     ·have kz:((k:Int) == 0)=false:=by rw[beq_eq_false_iff_ne];omega
      have HK0:Hid (¬k=0):=hk0;clear hk0;go_wp2;go_roundw
      case rel=>exact⟨k+1,by omega,by go_num,by first | trivial | rfl,HST.out (by rw[<- HC.out];exact HO.out) (fun h=>absurd h HK0.out)⟩
      case measure=>simp[intOf];omega
    by_cases q2:c.toNat < 48
    ·have n0:¬(97:Int)<=(c.toNat:Int):=by omega
     have n1:¬(48:Int)<=(c.toNat:Int):=by omega
     have n9:((c.toNat:Int) == 45)=false:=by rw[beq_eq_false_iff_ne];omega
     have HO:Hid (nameByte c=false):=by show _=_;have:=HL.out;simp[nameByte,this,isDig];omega
     clear b1 hv q0 q1 q2
     by_cases hk0:k=0
     ·have HF:Hid (isName s=false):=HY0.out (by have h2:=HC.out;rw[hk0] at h2;rw[<- h2];exact HL.out);have kz:((k:Int) == 0)=true:=by rw[beq_iff_eq];omega
      clear hk0;go_wp2;go_ret;exact⟨by first | rfl | (rw[HF.out];rfl),by first | trivial | rfl⟩
     ·have kz:((k:Int) == 0)=false:=by rw[beq_eq_false_iff_ne];omega
      have HK0:Hid (¬k=0):=hk0;clear hk0;have HF:Hid (isName s=false):=HY.out (by rw[<- HC.out];exact HO.out);go_wp2;go_ret;exact⟨by first | rfl | (rw[HF.out];rfl),by first | trivial | rfl⟩
    by_cases q3:c.toNat<=57
    ·have n0:¬(97:Int)<=(c.toNat:Int):=by omega
     have n1:(48:Int)<=(c.toNat:Int):=by omega
     have n2:(c.toNat:Int)<=57:=by omega
     have HO:Hid (nameByte c=true):=by show _=_;have:=HL.out;simp[nameByte,this,isDig];omega
     clear b1 hv q0 q1 q2 q3
     by_cases hk0:k=0
     ·have HF:Hid (isName s=false):=HY0.out (by have h2:=HC.out;rw[hk0] at h2;rw[<- h2];exact HL.out);have kz:((k:Int) == 0)=true:=by rw[beq_iff_eq];omega
      clear hk0;go_wp2;go_ret;exact⟨by first | rfl | (rw[HF.out];rfl),by first | trivial | rfl⟩
     ·have kz:((k:Int) == 0)=false:=by rw[beq_eq_false_iff_ne];omega
      have HK0:Hid (¬k=0):=hk0;clear hk0;go_wp2;go_roundw
      case rel=>exact⟨k+1,by omega,by go_num,by first | trivial | rfl,HST.out (by rw[<- HC.out];exact HO.out) (fun h=>absurd h HK0.out)⟩
      case measure=>simp[intOf];omega
    by_cases q4:c.toNat < 97
    ·have n0:¬(97:Int)<=(c.toNat:Int):=by omega
     have n1:(48:Int)<=(c.toNat:Int):=by omega
     have n2:¬(c.toNat:Int)<=57:=by omega
     have n9:((c.toNat:Int) == 45)=false:=by rw[beq_eq_false_iff_ne];omega
     have HO:Hid (nameByte c=false):=by show _=_;have:=HL.out;simp[nameByte,this,isDig];omega
     clear b1 hv q0 q1 q2 q3 q4
     by_cases hk0:k=0
     ·have HF:Hid (isName s=false):=HY0.out (by have h2:=HC.out;rw[hk0] at h2;rw[<- h2];exact HL.out);have kz:((k:Int) == 0)=true:=by rw[beq_iff_eq];omega
      clear hk0;go_wp2;go_ret;exact⟨by first | rfl | (rw[HF.out];rfl),by first | trivial | rfl⟩
     ·have kz:((k:Int) == 0)=false:=by rw[beq_eq_false_iff_ne];omega
      have HK0:Hid (¬k=0):=hk0;clear hk0;have HF:Hid (isName s=false):=HY.out (by rw[<- HC.out];exact HO.out);go_wp2;go_ret;exact⟨by first | rfl | (rw[HF.out];rfl),by first | trivial | rfl⟩
    ·have n0:(97:Int)<=(c.toNat:Int):=by omega
     have n1:¬(c.toNat:Int)<=122:=by omega
     have n2:(48:Int)<=(c.toNat:Int):=by omega
     have n3:¬(c.toNat:Int)<=57:=by omega
     have n9:((c.toNat:Int) == 45)=false:=by rw[beq_eq_false_iff_ne];omega
     have HO:Hid (nameByte c=false):=by show _=_;have:=HL.out;simp[nameByte,this,isDig];omega
     clear b1 hv q0 q1 q2 q3 q4
     by_cases hk0:k=0
     ·have HF:Hid (isName s=false):=HY0.out (by have h2:=HC.out;rw[hk0] at h2;rw[<- h2];exact HL.out);have kz:((k:Int) == 0)=true:=by rw[beq_iff_eq];omega
      clear hk0;go_wp2;go_ret;exact⟨by first | rfl | (rw[HF.out];rfl),by first | trivial | rfl⟩
     ·have kz:((k:Int) == 0)=false:=by rw[beq_eq_false_iff_ne];omega
      have HK0:Hid (¬k=0):=hk0;clear hk0;have HF:Hid (isName s=false):=HY.out (by rw[<- HC.out];exact HO.out);go_wp2;go_ret;exact⟨by first | rfl | (rw[HF.out];rfl),by first | trivial | rfl⟩
  ·have k1:¬(k:Int) < (s.size:Int):=by omega
   have HY:Hid (isName s=true):=isName_yes HZ.out.1 HZ.out.2 (HA.out.2 (by have:=HZ.out.1;omega)) (fun j hj=>HA.out.1 j (by omega));go_wp2;go_ret;exact⟨by first | rfl | (rw[HY.out];rfl),by first | trivial | rfl⟩
def heavyE (e:EntD):Bool:=decide (60 < e.name.size) || decide (30 < e.pts.length) || decide (30 < e.gaps.length) || decide (80 < e.edges.length) || decide (30 < e.first.length) || decide (30 < e.last.length) || e.pts.any (fun p=>decide (60 < p.size))
def one01 (b:Bool):Int:=if b then 1 else 0
theorem heavyE_small {e:EntD}(h:heavyE e=false):SmallE e:=by
 unfold heavyE at h;simp only[Bool.or_eq_false_iff,decide_eq_false_iff_not] at h;obtain⟨⟨⟨⟨⟨⟨h1,h2⟩,h3⟩,h4⟩,h5⟩,h6⟩,h7⟩:=h
 refine⟨by omega,by omega,fun p hp=>?_,by omega,by omega,by omega,by omega⟩;have:=List.any_eq_false.1 h7 p hp;simp only[decide_eq_true_eq] at this;omega
set_option maxHeartbeats 2000000 in
set_option maxRecDepth 100000 in
theorem heavyE_at (e:EntD)(pa ga ea fa la:Option Addr)(pc gc ec fc lc:Nat)(w:World)(hp:SlAt encS 1 w (.slice pa e.pts.length pc) e.pts) :
  Calls Tryz.prog 50 #[.agg #[.string e.name,.int .i64 e.tol,.slice pa e.pts.length pc,.int .i64 e.cnt,.int .i64 e.mn,.int .i64 e.mx,.slice ga e.gaps.length gc,.slice ea e.edges.length ec,.slice fa e.first.length fc,.slice la e.last.length lc]] w fun v w'=>v=.returned (.int .i64 (one01 (heavyE e)))/\Below w.heap.size w w':=by
 have HPt:Hid (SlAt encS 1 w (.slice pa e.pts.length pc) e.pts):=hp;clear hp
 by_cases h0:60 < e.name.size
 ·have HV:Hid (heavyE e=true):=by show _=_;unfold heavyE;simp[h0]
  have g0:(60:Int) < (e.name.size:Int):=by omega
  clear h0;go_enter Tryz.func50,Tryz.ntmps50
  go_wp2;go_ret;exact⟨by first | rfl | (rw[HV.out];rfl),Below.one _ _⟩
 have g0:¬(60:Int) < (e.name.size:Int):=by omega
 by_cases h1:30 < e.pts.length
 ·have HV:Hid (heavyE e=true):=by show _=_;unfold heavyE;simp[h1]
  have g1:(30:Int) < (e.pts.length:Int):=by omega
  clear h0 h1;go_enter Tryz.func50,Tryz.ntmps50
  go_wp2;go_ret;exact⟨by first | rfl | (rw[HV.out];rfl),Below.one _ _⟩
 have g1:¬(30:Int) < (e.pts.length:Int):=by omega
 by_cases h2:30 < e.gaps.length
 ·have HV:Hid (heavyE e=true):=by show _=_;unfold heavyE;simp[h2]
  have g2:(30:Int) < (e.gaps.length:Int):=by omega
  clear h0 h1 h2;go_enter Tryz.func50,Tryz.ntmps50
  go_wp2;go_ret;exact⟨by first | rfl | (rw[HV.out];rfl),Below.one _ _⟩
 have g2:¬(30:Int) < (e.gaps.length:Int):=by omega
 by_cases h3:80 < e.edges.length
 ·have HV:Hid (heavyE e=true):=by show _=_;unfold heavyE;simp[h3]
  have g3:(80:Int) < (e.edges.length:Int):=by omega
  clear h0 h1 h2 h3;go_enter Tryz.func50,Tryz.ntmps50
  go_wp2;go_ret;exact⟨by first | rfl | (rw[HV.out];rfl),Below.one _ _⟩
 have g3:¬(80:Int) < (e.edges.length:Int):=by omega
 by_cases h4:30 < e.first.length
 ·have HV:Hid (heavyE e=true):=by show _=_;unfold heavyE;simp[h4]
  have g4:(30:Int) < (e.first.length:Int):=by omega
  clear h0 h1 h2 h3 h4;go_enter Tryz.func50,Tryz.ntmps50
  go_wp2;go_ret;exact⟨by first | rfl | (rw[HV.out];rfl),Below.one _ _⟩
 have g4:¬(30:Int) < (e.first.length:Int):=by omega
 by_cases h5:30 < e.last.length
 ·have HV:Hid (heavyE e=true):=by show _=_;unfold heavyE;simp[h5]
  have g5:(30:Int) < (e.last.length:Int):=by omega
  clear h0 h1 h2 h3 h4 h5;go_enter Tryz.func50,Tryz.ntmps50
  go_wp2;go_ret;exact⟨by first | rfl | (rw[HV.out];rfl),Below.one _ _⟩
 have g5:¬(30:Int) < (e.last.length:Int):=by omega
 have HV0:Hid (heavyE e=e.pts.any (fun p=>decide (60 < p.size))):=by show _=_;unfold heavyE;simp[h0,h1,h2,h3,h4,h5]
 have HLn:Hid (e.pts.length<=30):=by show _<=_;omega
 clear h0 h1 h2 h3 h4 h5;go_enter Tryz.func50,Tryz.ntmps50
 go_upto_region 3 with fail
 obtain⟨W0,hW0⟩:∃ V,V=w.alloc (.cells #[.string e.name,.int .i64 e.tol,.slice pa e.pts.length pc,.int .i64 e.cnt,.int .i64 e.mn,.int .i64 e.mx,.slice ga e.gaps.length gc,.slice ea e.edges.length ec,.slice fa e.first.length fc,.slice la e.last.length lc] 38):=⟨_,rfl⟩;rw[<- hW0];have p2:W0.cell? ⟨w.heap.size,2,none⟩=some (.slice pa e.pts.length pc):=by rw[hW0,World.cell?_alloc_at _ _ _ _ rfl];rfl
 have HBl:Hid (Below w.heap.size w W0):=by show Below _ _ _;rw[hW0];exact Below.one _ _
 clear hW0 g0 g1 g2 g3 g4 g5;go_wp2_with fail
 go_loopw [3] (fun i wr=>∃ k:Nat,k<=e.pts.length/\i=.int .i64 k/\wr=W0/\Hid (∀ (j:Nat) q,j < k->e.pts[j]?=some q->¬60 < q.size)) (fun i _=>e.pts.length - (intOf i).toNat)
 case atStart=>exact⟨0,Nat.zero_le _,rfl,rfl,fun j q hj=>absurd hj (Nat.not_lt_zero _)⟩
 case round=>
  obtain⟨k,hk,rfl,rfl,hall⟩:=hrel
  by_cases hlt:k < e.pts.length
  ·obtain⟨q,hq⟩:∃ q,e.pts[k]?=some q:=⟨_,List.getElem?_eq_getElem hlt⟩;obtain⟨sa',cap',hsl,-,hcc⟩:=HPt.out.below HBl.out
   cases hsl
   obtain⟨b,o,rfl,hc0⟩:=hcc (fun h=>by rw[h] at hq;simp at hq);have c0:=hc0 k q hq 0 _ rfl;simp only[Nat.mul_one,Nat.add_zero] at c0;have HQ:Hid (e.pts[k]?=some q):=hq;have k1:(k:Int) < (e.pts.length:Int):=by omega
   have k2:(0:Int)<=(k:Int):=by omega
   have k0:k < 30:=by have:=HLn.out;omega
   have HM:Hid (60 < q.size->heavyE e=true):=fun h=>by rw[HV0.out];exact List.any_eq_true.2 ⟨q,List.mem_of_getElem? hq,by simpa using h⟩
   clear hq hc0 hcc
   by_cases hs:60 < q.size
   ·have g:(60:Int) < (q.size:Int):=by omega
    have HS:Hid (60 < q.size):=hs;clear hs;go_wp2;go_ret;exact⟨by first | rfl | (rw[HM.out HS.out];rfl),HBl.out⟩
   ·have g:¬(60:Int) < (q.size:Int):=by omega
    have HS:Hid (¬60 < q.size):=hs;clear hs;go_wp2;go_roundw
    case rel=>
     refine⟨k+1,by omega,by go_num,by first | trivial | rfl,fun j q' hj he=>?_⟩
     by_cases hjk:j=k
     ·subst hjk;have h2:=HQ.out;rw[h2] at he
      cases he
      exact HS.out
     ·exact hall.out j q' (by omega) he
    case measure=>simp[intOf];omega
  ·have k1:¬(k:Int) < (e.pts.length:Int):=by omega
   have HN:Hid (heavyE e=false):=by
    show _=_
    rw[HV0.out,List.any_eq_false];intro q hq;obtain⟨j,hj,rfl⟩:=List.getElem_of_mem hq;have:=hall.out j _ (by omega) (List.getElem?_eq_getElem hj);simpa using this
   go_wp2;go_ret;exact⟨by first | rfl | (rw[HN.out];rfl),HBl.out⟩
end Go.Proofs.YtdpdbfhbojgigacGreatDoor
