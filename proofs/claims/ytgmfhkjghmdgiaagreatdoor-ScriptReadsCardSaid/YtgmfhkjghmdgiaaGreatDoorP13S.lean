/-
  Several texts as one: DcStr, DcErrP, CfRName, DcErr, DcFault, KlBase.
-/
import Derived.Test.YtgmfhkjghmdgiaaGreatDoorP12S
import Derived.OwnWalk
set_option linter.all false
set_option maxHeartbeats 40000000
set_option maxRecDepth 100000
open Go renaming Addr→az,Value→ar,World→ai
open Go.Ending renaming returned→ax
open Go.IntKind renaming i64→R
open Go.Obj renaming cells→au
open Go.RowKit renaming Hid→aa
open Go.Value renaming agg→aU,bool→aI,int→U,pointer→aj,slice→af,string→aq
open Option renaming none→I,some→J
open Go.Proofs.Tryz
namespace Go.Proofs.YtgmfhkjghmdgiaaGreatDoor
open Go.Extern Go.Extern.Stop Go.RowKit Go.Stop
theorem afl{α:Type}{w:ai}{ops:Array Oper}{rest:List Oper}{o:Oper}{a:Act}{Q:Exit->Act->ai->Prop}(hgd:o.guard=I)(s x:Operand)(t:TypeId)
  (ho:o.op=.call { callee:=.builtin .append,args:=#[s,x],argTypes:=#[t,t] })
  (B:Nat) (e:TypeId) (i:TypeInfo) (z:ar) (size bytes:Nat) (ht:prog.underlying t=J (.slice e)) (hi:prog.info? e=J i) (hz:i.zero=J z) (hsize:i.size=size) (hby:i.bytes=bytes) (hzs:z.cells.size=size) (hsz:0<size)
  (enc:α->List ar) (lG:∀x,(enc x).length=size) (h1:∀x,∀u∈enc x,u.oneCell'=true) (va:Option az) (vc:Nat) (ys:List α) (hs:a.eval s=af va ys.length vc) (hown:bU enc size e B w (af va ys.length vc) ys)
  (v:ar) (xs:List α) (hx:a.eval x=v) (hv:bN enc size w v xs) (hm:xs.length<=1000000) (hn:ys.length<=10000000) (qY:bytes<=1000) (hB:B<=w.heap.size)
  (h:∀dI cap' w',bU enc size e B w' (af dI (ys++xs).length cap') (ys++xs)->w.grownBy w' (Value.slice va ys.length vc).ownBlock->wpList prog ops Q rest (a.put o.dst (af dI (ys++xs).length cap')) w'):wpList prog ops Q (o::rest) a w:=by
 obtain⟨sa,cap,rfl,hle,hcell⟩:=hv;have afm:ys.length<=vc:=by
  rcases hown.2 with⟨h1,h2⟩|⟨g,vB,cur,h1,_,_,h2,_⟩
  ·omega
  simp only[tU]at h1;omega
 by_cases hne:xs=[]
 ·subst hne
  refine wpList_plain hgd λK hK=>?_
  have Ib:Src prog i.size t (af sa 0 cap) 0 [] w:=by
   cases sa with
   |none=>exact Src.ofNil w ht cap
   |some ad=>exact Src.ofSlice w ht ad 0 cap [] (by simp) (λj u hu=>by simp at hu) (λu hu=>by simp at hu)
  have hr:=run_append_nothing (P:=prog) w t t o.type e i ht hi va _ vc afm _ Ib;unfold Oper.wp execOp;simp only[qo]at hx;simp only[ho,resolve,invoke,builtin,rZ,Sem.run_pure,vH,List.map_toArray,pA,List.map_nil,hs,hx,hr];have:=h va vc w (by rw[qd];exact hown) ⟨rfl,rfl,rfl,aQ _,λ_ _ _=>rfl⟩;rw[qd]at this;exact hK _ _ this
 obtain⟨b,of,rfl,hc⟩:=hcell hne
 refine fw w hgd s x t ho B e i z _ _ ht hi hz hsize hby hzs hsz _ _ _ hs hown _ _ cap _ hx (xz lG xs) (λj u hu=>?_) (λu hu=>?_) (by unfold maxLen;omega) ?_ hB (λv' w' hown' hg ajz=>?_)
 ·obtain⟨i',j',y,e1,h2,h3⟩:=xA lG xs j u hu;have:=hc i' y h2 j' u h3;rw[e1,kP,<- qX];exact this
 ·simp only[rT]at hu;obtain⟨y,-,hy⟩:=hu;exact h1 y u hy
 ·have:(ys.length+xs.length)*bytes<=11000000*1000:=Nat.mul_le_mul (by omega) qY;omega
 have hl:(ys++xs).length=ys.length+xs.length:=by simp
 have hown2:w'.ownsRow B e size v' (ys++xs).length ((ys++xs).flatMap enc):=by rw[hl,dP];exact hown'
 rcases hown2.2 with⟨rfl,h0⟩|⟨g,vB,cur,rfl,zt,r⟩
 ·exact absurd (qI h0) (by simp[hne])
 exact h _ _ w' hown2 hg
def rE(l:List fM):List Int:=l.flatMap λg=>[g.fr,g.to]
def wS(l:List (Int×Int)):List Int:=l.flatMap λd=>[d.1,d.2]
def uP(e:aF):List Int:=e.first++e.last++rE e.aB++wS e.aA
theorem afn(e:aF)(f:Int->Bool):(uP e).any f=(e.first.any f||e.last.any f||(e.aB.any λg=>f g.fr||f g.to)||(e.aA.any λd=>f d.1||f d.2)):=by
 unfold uP rE wS;rw[yR,yR,yR,List.any_flatMap,List.any_flatMap];congr 1
 ·congr 1
  congr 1
  funext g
  simp
 congr 1
 funext d
 simp
theorem R9(l:List fM):(rE l).length=2*l.length:=by
 induction l with
 |nil=>rfl
 |cons g t ih=>simp only[rE,lV,dm,kr,qo]at ih⊢;omega
theorem afo(l:List (Int×Int)):(wS l).length=2*l.length:=by
 induction l with
 |nil=>rfl
 |cons g t ih=>simp only[wS,lV,dm,kr,qo]at ih⊢;omega
theorem R_(w:ai)(cs:List ar)(T:TypeId):∀(j:Nat) u,cs[j]?=J u->(w.alloc (au cs.toArray T)).cell? ((⟨w.heap.size,0,I⟩:az).add j)=J u:=by
 intro j u hu;rw[kP,dK _ _ _ _ rfl];simpa using hu
theorem Sa(a b:Int):∀u∈([U R a,U R b]:List ar),u.oneCell'=true:=by intro u hu;simp at hu;rcases hu with rfl|rfl<;>rfl
theorem afp(e:aF)(pa ga ea fa la:Option az)(pc gc ec fc lc:Nat)(w:ai)(hP:mB w e (af pa e.ak.length pc) (af ga e.aB.length gc) (af ea e.aA.length ec) (af fa e.first.length fc) (af la e.last.length lc))(hS:k7 e):Calls prog 91 #[aU #[aq e.name,U R e.aJ,af pa e.ak.length pc,U R e.cnt,U R e.mn,U R e.mx,af ga e.aB.length gc,af ea e.aA.length ec,af fa e.first.length fc,af la e.last.length lc]] w λv w'=>v=ax (aI ((uP e).any λx=>lacks e.ak.length x))/\Below w.heap.size w w':=by
 obtain⟨i0,hi,hz0,hz1,hz2⟩:=fj ny;obtain⟨W,hW⟩:∃V,V=w.alloc (au #[aq e.name,U R e.aJ,af pa e.ak.length pc,U R e.cnt,U R e.mn,U R e.mx,af ga e.aB.length gc,af ea e.aA.length ec,af fa e.first.length fc,af la e.last.length lc] 84):=⟨_,rfl⟩;have gK:aa (Below w.heap.size w W):=by show Below _ _ _;rw[hW];exact aN _ _
 have HX:aa (∀V,Below W.heap.size W V->∀(j:Nat) u,(#[aq e.name,U R e.aJ,af pa e.ak.length pc,U R e.cnt,U R e.mn,U R e.mx,af ga e.aB.length gc,af ea e.aA.length ec,af fa e.first.length fc,af la e.last.length lc]:Array _)[j]?=J u->V.cell? ⟨w.heap.size,j,I⟩=J u):=λV hV j u hu=>by
  have:=bG hV (show W.heap[w.heap.size]?=_ by rw[hW];exact cR w _);simp[World.cell?,this,hu]
 have HP:aa (∀V,Below _ W V->mB V e _ _ _ _ _):=λV hV=>hP.below (gK.o.trans (hV.mono gK.o.size))
 have HS:aa _:=hS;clear hP hS;go_enter func91,ntmps91
 go_upto_region 2 with fail
 rw[<- hW];clear hW;have s8:=HX.o W (aC _ _) 8 _ rfl;go_upto_region 3 with(at_builtin;refine YK (w:=W) rfl _ _ 65 rfl _ 3 i0 _ 1 8 underlying65 hi hz0 hz1 hz2 rfl (by decide) rfl _ (λ_=>rfl) xB _ _ rfl (HP.o W (aC _ _)).hf HS.o.hf (by decide) (aQ _) ?_;intro afq afr W1 Sb hb1)
 clear s8;have aO:aa _:=hb1;have oX:aa (bU _ 1 3 _ W1 _ _):=Sb;have s9:=HX.o W1 hb1 9 _ rfl;clear hb1 Sb;go_upto_region 4 with(at_builtin;refine afl (w:=W1) rfl _ _ 65 rfl _ 3 i0 _ 1 8 underlying65 hi hz0 hz1 hz2 rfl (by decide) _ (λ_=>rfl) xB afq afr _ rfl oX.o _ _ rfl (HP.o W1 aO.o).hl HS.o.hl (by have:=HS.o.hf;omega) (by decide) aO.o.size ?_;intro afs aft W2 uy hg2)
 have aW:aa _:=aO.o.grown hg2 aO.o.size (λj hj=>(oX.o.lt j hj).1);have rp:aa _:=uy;clear s9 hg2 uy oX aO
 go_cut [4] (λi wx=>i=U R 0/\wx=W2)
 case first=>
  go_wp2_with fail
  go_meet
  case rel=>exact⟨rfl,rfl⟩
 obtain⟨rfl,rfl⟩:=hcut;rename ai=>W2
 go_wp2_with fail
 go_loopw [3,4] (λlv iv wx=>∃(k:Nat) (va:Option az) (vc:Nat) (L:List Int),k<=e.aB.length/\iv=U R k/\L=e.first++e.last++rE (e.aB.take k)/\lv=af va L.length vc/\Below W.heap.size W wx/\wx.ownsRow W.heap.size 3 1 (af va L.length vc) L.length (L.flatMap bm)) (λ_ i _=>e.aB.length-(intOf i).toNat)
 case atStart=>exact⟨0,afs,aft,_,bI _,rfl,by simp[rE],by simp,aW.o,rp.o⟩
 case round=>
  clear aW rp;obtain⟨k,va,vc,L,hk,rfl,hL,rfl,kh,Dg⟩:=hrel;rename ai=>wx
  have HB:aa _:=kh;have HO:aa (wx.ownsRow _ 3 1 _ _ _):=Dg;have HL:aa _:=hL;have fe:aa (L.length<=4000000):=by
   show _<=_
   rw[hL];have h1:=HS.o.hf;have h2:=HS.o.hl;have h3:=HS.o.hg;have h4:=R9 (e.aB.take k);simp at h4⊢
   omega
  clear kh Dg hL;have x6:=HX.o wx HB.o 6 _ rfl
  by_cases hlt:k<e.aB.length
  ·have k1:(k:Int)<(e.aB.length:Int):=by omega
   have k2:k<1000000:=by have:=HS.o.hg;omega
   obtain⟨q,hq⟩:∃q,e.aB[k]?=J q:=⟨_,bH hlt⟩;obtain⟨dI,cap',ck,-,hcc⟩:=(HP.o wx HB.o).hg
   cases ck
   obtain⟨g,o,rfl,hc0⟩:=hcc (λh=>by rw[h]at hq;simp at hq);have c0:wx.cell? ⟨g,o+k*4,_⟩=J _:=hc0 k _ hq 0 _ rfl;have c1:=hc0 k _ hq 1 _ rfl;have HN:aa (L++[q.fr,q.to]=e.first++e.last++rE (e.aB.take (k+1))):=by
    show _=_
    rw[HL.o,fW,hq];simp[rE]
   have hown:wx.drew.ownsRow _ 3 1 _ _ _:=HO.o;have lH:=HB.o.size;have afu:=fe.o;have KL:aa (∀(ob:Obj) (w8:ai),(wx.drew.alloc ob).grownBy w8 (Value.slice va L.length vc).ownBlock->Below W.heap.size W w8):=λob w8 hg=>by
    have h1:Below _ W (wx.drew.alloc ob):=HB.o.drew.alloc (by simp;omega) _;exact h1.grown hg h1.size (λi hi=>(HO.o.lt i hi).1)
   clear hcc hc0 hq;go_wp2_with fail
   go_region_law (refine ni _ rfl _ _ 65 rfl _ 3 i0 _ 1 8 underlying65 hi hz0 hz1 hz2 rfl (by decide) (af va L.length vc) L.length (L.flatMap bm) (by simp[Act.eval]) (hown.alloc _) ⟨wx.heap.size,0,.none⟩ 2 2 [U R q.fr,U R q.to] (by simp[Act.eval]) rfl (R_ wx.drew [U R q.fr,U R q.to] 3) (Sa q.fr q.to) (by decide) (by unfold maxLen;omega) (by omega) (by simp;omega) (wx.heap.size+1) (by simp) ?_;intro g' cap' w8 dy bZ cH ld)
   all_goals
    have H8:aa _:=KL.o _ _ bZ;have yw:aa (w8.ownsRow W.heap.size 3 1 (af (J ⟨g',0,I⟩) (L++[q.fr,q.to]).length cap') (L++[q.fr,q.to]).length ((L++[q.fr,q.to]).flatMap bm)):=by
     show World.ownsRow _ _ _ _ _ _ _
     rw[dm,dP];exact dy
    clear bZ dy cH ld KL;go_wp2_with fail
    go_roundw
    case rel=>exact⟨_,_,_,_,by omega,by go_num,HN.o,by simp,H8.o,yw.o⟩
    case measure=>simp[intOf];omega
  have k1:¬(k:Int)<(e.aB.length:Int):=by omega
  have Az:aa (L=e.first++e.last++rE e.aB):=by show _=_;rw[HL.o,nQ (by omega)]
  clear HL;go_upto_region 8 with fail
  go_cut [5] (λi wv=>i=U R 0/\wv=wx)
  case first=>
   go_wp2_with fail
   go_meet
   case rel=>exact⟨rfl,rfl⟩
  obtain⟨rfl,rfl⟩:=hcut;rename ai=>wx
  clear x6 hlt k1;go_wp2_with fail
  go_loopw [3,5] (λlv iv wy=>∃(k:Nat) (va:Option az) (vc:Nat) (M:List Int),k<=e.aA.length/\iv=U R k/\M=e.first++e.last++rE e.aB++wS (e.aA.take k)/\lv=af va M.length vc/\Below W.heap.size W wy/\wy.ownsRow W.heap.size 3 1 (af va M.length vc) M.length (M.flatMap bm)) (λ_ i _=>e.aA.length-(intOf i).toNat)
  case atStart=>exact⟨0,va,vc,L,bI _,rfl,by rw[Az.o];simp[wS],rfl,HB.o,HO.o⟩
  case round=>
   clear HB HO fe Az;clear hk;obtain⟨k,va,vc,L,hk,rfl,hL,rfl,kh,Dg⟩:=hrel;rename ai=>wx
   have HB:aa _:=kh;have HO:aa (wx.ownsRow _ 3 1 _ _ _):=Dg;have HL:aa _:=hL;have fe:aa (L.length<=7000000):=by
    show _<=_
    rw[hL];have h1:=HS.o.hf;have h2:=HS.o.hl;have h3:=HS.o.hg;have h4:=R9 e.aB;have h5:=HS.o.he;have h6:=afo (e.aA.take k);simp at h4 h6⊢
    omega
   clear kh Dg hL;have x7:=HX.o wx HB.o 7 _ rfl
   by_cases hlt:k<e.aA.length
   ·have k1:(k:Int)<(e.aA.length:Int):=by omega
    have k2:k<1000000:=by have:=HS.o.he;omega
    obtain⟨q,hq⟩:∃q,e.aA[k]?=J q:=⟨_,bH hlt⟩;obtain⟨dI,cap',ck,-,hcc⟩:=(HP.o wx HB.o).he
    cases ck
    obtain⟨g,o,rfl,hc0⟩:=hcc (λh=>by rw[h]at hq;simp at hq);have c0:wx.cell? ⟨g,o+k*2,_⟩=J _:=hc0 k _ hq 0 _ rfl;have c1:=hc0 k _ hq 1 _ rfl;have HN:aa (L++[q.1,q.2]=e.first++e.last++rE e.aB++wS (e.aA.take (k+1))):=by
     show _=_
     rw[HL.o,fW,hq];simp[wS]
    have hown:wx.drew.ownsRow _ 3 1 _ _ _:=HO.o;have lH:=HB.o.size;have afu:=fe.o;have KL:aa (∀(ob:Obj) (w8:ai),(wx.drew.alloc ob).grownBy w8 (Value.slice va L.length vc).ownBlock->Below W.heap.size W w8):=λob w8 hg=>by
     have h1:Below W.heap.size W (wx.drew.alloc ob):=HB.o.drew.alloc (by simp;omega) _;exact h1.grown hg h1.size (λi hi=>(HO.o.lt i hi).1)
    clear hcc hc0 hq;go_wp2_with fail
    go_region_law (refine ni _ rfl _ _ 65 rfl _ 3 i0 _ 1 8 underlying65 hi hz0 hz1 hz2 rfl (by decide) (af va L.length vc) L.length (L.flatMap bm) (by simp[Act.eval]) (hown.alloc _) ⟨wx.heap.size,0,.none⟩ 2 2 [U R q.1,U R q.2] (by simp[Act.eval]) rfl (R_ wx.drew [U R q.1,U R q.2] 3) (Sa q.1 q.2) (by decide) (by unfold maxLen;omega) (by omega) (by simp;omega) (wx.heap.size+1) (by simp) ?_;intro g' cap' w8 dy bZ cH ld)
    all_goals
     have H8:aa _:=KL.o _ _ bZ;have yw:aa (w8.ownsRow W.heap.size 3 1 (af (J ⟨g',0,I⟩) (L++[q.1,q.2]).length cap') (L++[q.1,q.2]).length ((L++[q.1,q.2]).flatMap bm)):=by
      show World.ownsRow _ _ _ _ _ _ _
      rw[dm,dP];exact dy
     clear bZ dy cH ld KL;go_wp2_with fail
     go_roundw
     case rel=>exact⟨_,_,_,_,by omega,by go_num,HN.o,by simp,H8.o,yw.o⟩
     case measure=>simp[intOf];omega
   have k1:¬(k:Int)<(e.aA.length:Int):=by omega
   have Az:aa (L=uP e):=by show _=_;rw[HL.o,nQ (by omega)];rfl
   clear HL;go_upto_region 12 with fail
   go_cut [6] (λi wv=>i=U R 0/\wv=wx)
   case first=>
    go_wp2_with fail
    go_meet
    case rel=>exact⟨rfl,rfl⟩
   obtain⟨rfl,rfl⟩:=hcut;rename ai=>wx
   clear x7 hlt k1 hk;go_wp2_with fail
   go_loopw [6] (λiv wy=>∃(k:Nat),k<=L.length/\iv=U R k/\Below wx.heap.size wx wy/\∀j x,j<k->L[j]?=J x->lacks e.ak.length x=false) (λi _=>L.length-(intOf i).toNat)
   case atStart=>exact⟨0,bI _,rfl,aC _ _,λj x hj=>absurd hj (by omega)⟩
   case round=>
    obtain⟨k,hk,rfl,hby,hno⟩:=hrel;rename ai=>wy
    have iA:aa _:=hby;have gj:aa _:=hno;have ey:aa _:=(gK.o.trans (HB.o.mono gK.o.size)).trans (hby.mono (bw gK.o.size HB.o.size));have x2:=HX.o wy (HB.o.trans (hby.mono HB.o.size)) 2 _ rfl;clear hby hno
    by_cases hlt:k<L.length
    ·have k1:(k:Int)<(L.length:Int):=by omega
     have k2:k<7000000:=by have:=fe.o;omega
     obtain⟨x,hx⟩:∃x,L[k]?=J x:=⟨_,bH hlt⟩;have Ch:aa _:=hx;obtain⟨g,o,rfl,hcc⟩:∃g o,va=J ⟨g,o,I⟩/\wy.cell? ⟨g,o+k,I⟩=J (U R x):=by
      obtain⟨g,o,e1,e2⟩:=BW (bU.jc (enc:=bm) (show bU _ 1 3 _ wx _ L from HO.o) (λ_=>rfl)) hx;exact⟨g,o,e1,aG iA.o (e2 k x hx)⟩
     clear hx
     by_cases g1:x<0
     ·have HE:aa (((uP e).any λx=>lacks e.ak.length x)=true):=by
       show _=_
       rw[<- Az.o,nR];exact⟨x,cM Ch.o,by unfold lacks;rw[bM g1];rfl⟩
      go_wp2_with fail
      go_quiet (fail)
      go_wp2;go_ret;exact⟨by rw[HE.o];rfl,cg ey.o _⟩
     by_cases g2:(e.ak.length:Int)<=x
     ·have HE:aa (((uP e).any λx=>lacks e.ak.length x)=true):=by
       show _=_
       rw[<- Az.o,nR];exact⟨x,cM Ch.o,by unfold lacks;rw[bM g2,Bool.or_true]⟩
      go_wp2_with fail
      go_quiet (fail)
      go_wp2;go_ret;exact⟨by rw[HE.o];rfl,cg ey.o _⟩
     go_wp2_with fail
     go_quiet (fail)
     go_wp2_with fail
     go_roundw
     case rel=>
      refine⟨k+1,by omega,by go_num,cg iA.o _,λj y hj hy=>?_⟩
      rcases fR j k with h1|h1
      ·exact gj.o j y h1 hy
      obtain rfl:j=k:=by omega
      rw[Ch.o]at hy
      cases hy
      unfold lacks;rw[cw (p:=x<0) (by omega),cw (p:=(e.ak.length:Int)<=x) (by omega)];rfl
     case measure=>simp[intOf];omega
    have k1:¬(k:Int)<(L.length:Int):=by omega
    have HE:aa (((uP e).any λx=>lacks e.ak.length x)=false):=by
     show _=_
     rw[<- Az.o,lW];intro y hy;obtain⟨j,hj⟩:=vS hy;have zj:j<L.length:=by
      rcases fR j L.length with h'|h'
      ·exact h'
      rw[iI h']at hj;cases hj
     rw[gj.o j y (by omega) hj];simp
    go_wp2;go_ret;exact⟨by rw[HE.o];rfl,ey.o⟩
section
theorem Kz:∀(l1 a l2:List ByteArray),dO a (l1++l2)=if dO a l1=0 then dO (a++l1) l2 else dO a l1
 |[],a,l2=>by simp[dO]
 |p::t,a,l2=>by
  rw[px,show dO a _=if dM a p=0 then dO _ _ else dM a p from rfl,show dO a _=if dM a p=0 then dO _ t else dM a p from rfl]
  by_cases h:dM a p=0
  ·rw[aR h,aR h,Kz t _ l2,iV];rfl
  rw[aK h,aK h,aK h]
theorem afv{α:Type}{l:List α}{k:Nat}{x:α}(h:l[k]?=J x):l=l.take k++x::l.drop (k+1):=by
 have hk:k<l.length:=by
  rcases fR k l.length with h'|h'
  ·exact h'
  rw[iI h']at h;cases h
 have e2:l.drop k=x::l.drop (k+1):=by
  rw[kq hk];rw[bH hk]at h
  cases h;rfl
 rw[<- e2,qq]
theorem Sc{ak:List ByteArray}{k:Nat}{p:ByteArray}(hk:ak[k]?=J p)(h0:dO [] (ak.take k)=0)(hb:dM (ak.take k) p≠0):dO [] ak=dM (ak.take k) p:=by
 have e:=Kz (ak.take k) [] (p::ak.drop (k+1));rw[<- afv hk,aR h0,tF]at e;rw[e];unfold dO;rw[aK hb]
theorem afw{ak:List ByteArray}{k:Nat}{p:ByteArray}(hk:ak[k]?=J p)(h0:dO [] (ak.take k)=0)(hb:dM (ak.take k) p=0):dO [] (ak.take (k+1))=0:=by
 rw[fW,hk];show dO [] (ak.take k++[p])=0
 rw[Kz,aR h0,tF];simp[dO,hb]
theorem Fz{a:List ByteArray}{s:ByteArray}(h:isName s=false):dM a s=4:=by unfold dM;rw[aK (by rw[h];simp)]
theorem Sd{a:List ByteArray}{s:ByteArray}(h:isName s=true)(h2:(a.any λx=>decide (x=s))=true):dM a s=6:=by unfold dM;rw[aR h,aR h2]
theorem Sg{a:List ByteArray}{s:ByteArray}(h:isName s=true)(h2:(a.any λx=>decide (x=s))=false):dM a s=0:=by unfold dM;rw[aR h,aK (by rw[h2];simp)]
theorem Sh{ak:List ByteArray}{k:Nat}{p:ByteArray}(hk:ak[k]?=J p):(idxOf ak p<(k:Int))↔((ak.take k).any λx=>decide (x=p))=true:=by
 have Mo:k<ak.length:=by
  rcases fR k ak.length with h'|h'
  ·exact h'
  rw[iI h']at hk;cases hk
 rw[nR];unfold idxOf
 cases hf:ak.findIdx? (λy=>decide (y=p))with
 |none=>
  rw[EJ]at hf;have:=hf p (cM hk);simp at this
 |some i=>
  rw[List.findIdx?_eq_some_iff_getElem]at hf;obtain⟨hi,h1,h2⟩:=hf
  constructor
  ·intro hlt;have IV:i<k:=by simpa using hlt
   refine⟨_,?_,h1⟩;have:(ak.take k)[i]?=J ak[i]:=by rw[oG,aR IV,bH hi]
   exact cM this
  rintro⟨x,hx,e⟩;obtain⟨j,hj⟩:=vS hx;rw[oG]at hj
  split at hj
  ·rename_i hjk
   rcases fR i k with h'|h'
   ·simpa using h'
   exfalso
   have h3:=h2 j (by omega);obtain⟨zj,e2⟩:=dT.1 hj;rw[e2]at h3;exact absurd e (by simpa using h3)
  cases hj
variable {na:List ByteArray}{e:aF}
theorem Si(h:dM na e.name≠0):cx na e=dM na e.name:=by unfold cx;rw[aR h]
theorem afx(h:dM na e.name=0)(h2:iW e≠0):cx na e=iW e:=by unfold cx;rw[aK (by simp[h]),aR h2]
theorem Sj(h:dM na e.name=0)(h2:iW e=0)(h3:dO [] e.ak≠0):cx na e=dO [] e.ak:=by unfold cx;rw[aK (by simp[h]),aK (by simp[h2]),aR h3]
theorem afy(h:dM na e.name=0)(h2:iW e=0)(h3:dO [] e.ak=0):cx na e=pB e:=by unfold cx;rw[aK (by simp[h]),aK (by simp[h2]),aK (by simp[h3])]
theorem Sk(h:(!within e.aJ 0 20||decide (16<e.ak.length)||decide (8<e.aB.length)||decide (64<e.aA.length)||decide (16<e.first.length)||decide (16<e.last.length))=true):iW e=2:=by
 unfold iW;simp only[dH]
 repeat' split
 all_goals first|rfl|simp_all
theorem afz(h1:within e.aJ 0 20=true)(h2:¬16<e.ak.length)(h3:¬8<e.aB.length)(h4:¬64<e.aA.length)(h5:¬16<e.first.length)(h6:¬16<e.last.length):iW e=0:=by
 unfold iW;simp only[dH,h1,cw h2,cw h3,cw h4,cw h5,cw h6];rfl
def wT(e:aF):Bool:=decide (e.cnt≠-1)&&lacks e.ak.length e.cnt
def FA(e:aF):Bool:=(uP e).any λx=>lacks e.ak.length x
def AA(e:aF):Bool:=decide (e.cnt=-1)&&(decide (e.mn≠0)||decide (e.mx≠0))
def uQ(e:aF):Bool:=!ia 0 e.mn e.mx 999
def Dh(e:aF):Bool:=e.aB.any λg=>!ia 0 g.mn g.mx 1099511627776
def sY(e:aF):Bool:=decide (0<e.aA.length)&&decide (e.first.length=0)
def wU(e:aF):Bool:=decide (e.aA.length=0)&&decide (0<e.first.length+e.last.length)
theorem qC(e:aF):pB e=dH [(wT e,5),(FA e,5),(AA e,3),(uQ e,2),(Dh e,2),(twice e.aA,6),(twice e.first,6),(twice e.last,6),(sY e,3),(wU e,3)]:=by
 have hs:FA e=(e.first.any _||e.last.any _||(e.aB.any λg=>lacks _ _||lacks _ _)||(e.aA.any λd=>lacks _ d.1||lacks _ d.2)):=afn e _;unfold pB;rw[hs];show dH ((wT e,5)::_)=dH _
 unfold dH
 split
 ·rfl
 show dH _=dH _
 generalize (e.aB.any λg=>lacks e.ak.length g.fr||lacks e.ak.length g.to)=a;generalize (e.aA.any λd=>lacks e.ak.length d.1||lacks e.ak.length d.2)=b;generalize (e.first.any λx=>lacks e.ak.length x)=c;generalize (e.last.any λx=>lacks e.ak.length x)=d
 cases a<;>cases b<;>cases c<;>cases d<;>rfl
end
theorem Sl(s:ByteArray)(w:ai)(hs:s.size<=1000000):Calls prog 90 #[aq s] w λe w'=>e=ax (aI (isName s))/\w'=w:=by
 by_cases h1:s.size<1
 ·have HY:aa _:=I3 (a_ h1);have g1:(s.size:Int)<1:=by omega
  clear h1;go_enter func90,ntmps90
  go_wp2;go_ret;exact⟨by first|rfl|(rw[HY.o];rfl),rfl⟩
 have g1:¬(s.size:Int)<1:=by omega
 by_cases h2:12<s.size
 ·have HY:aa _:=I3 (aP h2);have g2:(12:Int)<(s.size:Int):=by omega
  clear h1 h2;go_enter func90,ntmps90
  go_wp2;go_ret;exact⟨by first|rfl|(rw[HY.o];rfl),rfl⟩
 have g2:¬(12:Int)<(s.size:Int):=by omega
 have HZ:aa (1<=s.size/\s.size<=12):=⟨by omega,by omega⟩;clear h1 h2 hs;go_enter func90,ntmps90
 go_wp2_with fail
 clear g1 g2
 go_loopw [3,4,5] (λi _ _ wr=>∃k:Nat,k<=s.size/\i=U R k/\wr=w/\aa ((∀j,j<k->gG (s.data.toList.getD j 0)=true)/\(0<k->lY (s.data.toList.getD 0 0)=true))) (λi _ _ _=>s.size-(intOf i).toNat)
 case atStart=>exact⟨0,bI _,rfl,rfl,⟨λj hj=>absurd hj (om _),λh=>absurd h (Nat.lt_irrefl _)⟩⟩
 case round=>
  obtain⟨k,hk,rfl,rfl,HA⟩:=hrel
  by_cases hlt:k<s.size
  ·have k1:(k:Int)<(s.size:Int):=by omega
   have k2:(0:Int)<=(k:Int):=by omega
   have I5:k<12:=by have:=HZ.o.2;omega
   have HB:aa _:=byte_at s k hlt;have HY:aa _:=λh=>PB hlt h
   have AB:aa (lY _=false->isName s=false):=λh=>PA h
   have hstep:∀(hb:gG (s.data.toList.getD k 0)=true) (hl:k=0->lY (s.data.toList.getD 0 0)=true),(∀j,j<k+1->gG (s.data.toList.getD j 0)=true)/\(0<k+1->lY (s.data.toList.getD 0 0)=true):=λhb hl=>by
    refine⟨λj hj=>?_,λ_=>?_⟩
    ·by_cases e:j=k
     ·rw[e];exact hb
     exact HA.o.1 j (by omega)
    by_cases e:k=0
    ·exact hl e
    exact HA.o.2 (by omega)
   have HST:aa _:=hstep;clear hstep;generalize hcc:s[k]=c at *;have HC:aa _:=HB.o;have hv:=c.toNat_lt
   by_cases b1:97<=c.toNat/\c.toNat<=122
   ·have n1:(97:Int)<=(c.toNat:Int):=by omega
    have n2:(c.toNat:Int)<=122:=by omega
    have HL:aa (lY c=true):=by show _=_;simp[lY];omega
    clear b1 hv;go_wp2;go_roundw
    case rel=>
     refine⟨_,by omega,by go_num,by first|trivial|rfl,HST.o ?_ ?_⟩
     ·rw[<- HC.o];have:=HL.o;simp[gG,this]
     rintro rfl;rw[<- HC.o];exact HL.o
    case measure=>simp[intOf];omega
   have HL:aa (lY c=false):=by show _=_;simp[lY];omega
   by_cases q0:c.toNat<45
   ·have n0:¬(97:Int)<=(c.toNat:Int):=by omega
    have n1:¬(48:Int)<=(c.toNat:Int):=by omega
    have n9:((c.toNat:Int)==45)=false:=by rw[iZ];omega
    have HO:aa (gG c=false):=by show _=_;have:=HL.o;simp[gG,this,fX];omega
    clear b1 hv q0
    by_cases eY:k=0
    ·have HF:aa _:=AB.o (by have h2:=HC.o;rw[eY]at h2;rw[<- h2];exact HL.o);have kz:((k:Int)==0)=true:=by rw[sD];omega
     clear eY;go_wp2;go_ret;exact⟨by first|rfl|(rw[HF.o];rfl),by first|trivial|rfl⟩
    have kz:((k:Int)==0)=false:=by rw[iZ];omega
    have rz:aa (¬k=0):=eY;clear eY;have HF:aa _:=HY.o (by rw[<- HC.o];exact HO.o);go_wp2;go_ret;exact⟨by first|rfl|(rw[HF.o];rfl),by first|trivial|rfl⟩
   by_cases q1:c.toNat=45
   ·have n0:¬(97:Int)<=(c.toNat:Int):=by omega
    have n1:¬(48:Int)<=(c.toNat:Int):=by omega
    have n9:((c.toNat:Int)==45)=true:=by rw[sD];omega
    have HO:aa (gG c=true):=by show _=_;have:=HL.o;simp[gG,this,fX];omega
    clear b1 hv q0 q1
    by_cases eY:k=0
    ·have HF:aa _:=AB.o (by have h2:=HC.o;rw[eY]at h2;rw[<- h2];exact HL.o);have kz:((k:Int)==0)=true:=by rw[sD];omega
     clear eY;go_wp2;go_ret;exact⟨by first|rfl|(rw[HF.o];rfl),by first|trivial|rfl⟩
    have kz:((k:Int)==0)=false:=by rw[iZ];omega
    have rz:aa (¬k=0):=eY;clear eY;go_wp2;go_roundw
    case rel=>exact⟨_,by omega,by go_num,by first|trivial|rfl,HST.o (by rw[<- HC.o];exact HO.o) (λh=>absurd h rz.o)⟩
    case measure=>simp[intOf];omega
   by_cases q2:c.toNat<48
   ·have n0:¬(97:Int)<=(c.toNat:Int):=by omega
    have n1:¬(48:Int)<=(c.toNat:Int):=by omega
    have n9:((c.toNat:Int)==45)=false:=by rw[iZ];omega
    have HO:aa (gG c=false):=by show _=_;have:=HL.o;simp[gG,this,fX];omega
    clear b1 hv q0 q1 q2
    by_cases eY:k=0
    ·have HF:aa _:=AB.o (by have h2:=HC.o;rw[eY]at h2;rw[<- h2];exact HL.o);have kz:((k:Int)==0)=true:=by rw[sD];omega
     clear eY;go_wp2;go_ret;exact⟨by first|rfl|(rw[HF.o];rfl),by first|trivial|rfl⟩
    have kz:((k:Int)==0)=false:=by rw[iZ];omega
    have rz:aa (¬k=0):=eY;clear eY;have HF:aa _:=HY.o (by rw[<- HC.o];exact HO.o);go_wp2;go_ret;exact⟨by first|rfl|(rw[HF.o];rfl),by first|trivial|rfl⟩
   by_cases q3:c.toNat<=57
   ·have n0:¬(97:Int)<=(c.toNat:Int):=by omega
    have n1:(48:Int)<=(c.toNat:Int):=by omega
    have n2:(c.toNat:Int)<=57:=by omega
    have HO:aa (gG c=true):=by show _=_;have:=HL.o;simp[gG,this,fX];omega
    clear b1 hv q0 q1 q2 q3
    by_cases eY:k=0
    ·have HF:aa _:=AB.o (by have h2:=HC.o;rw[eY]at h2;rw[<- h2];exact HL.o);have kz:((k:Int)==0)=true:=by rw[sD];omega
     clear eY;go_wp2;go_ret;exact⟨by first|rfl|(rw[HF.o];rfl),by first|trivial|rfl⟩
    have kz:((k:Int)==0)=false:=by rw[iZ];omega
    have rz:aa (¬k=0):=eY;clear eY;go_wp2;go_roundw
    case rel=>exact⟨_,by omega,by go_num,by first|trivial|rfl,HST.o (by rw[<- HC.o];exact HO.o) (λh=>absurd h rz.o)⟩
    case measure=>simp[intOf];omega
   by_cases q4:c.toNat<97
   ·have n0:¬(97:Int)<=(c.toNat:Int):=by omega
    have n1:(48:Int)<=(c.toNat:Int):=by omega
    have n2:¬(c.toNat:Int)<=57:=by omega
    have n9:((c.toNat:Int)==45)=false:=by rw[iZ];omega
    have HO:aa (gG c=false):=by show _=_;have:=HL.o;simp[gG,this,fX];omega
    clear b1 hv q0 q1 q2 q3 q4
    by_cases eY:k=0
    ·have HF:aa _:=AB.o (by have h2:=HC.o;rw[eY]at h2;rw[<- h2];exact HL.o);have kz:((k:Int)==0)=true:=by rw[sD];omega
     clear eY;go_wp2;go_ret;exact⟨by first|rfl|(rw[HF.o];rfl),by first|trivial|rfl⟩
    have kz:((k:Int)==0)=false:=by rw[iZ];omega
    have rz:aa (¬k=0):=eY;clear eY;have HF:aa _:=HY.o (by rw[<- HC.o];exact HO.o);go_wp2;go_ret;exact⟨by first|rfl|(rw[HF.o];rfl),by first|trivial|rfl⟩
   have n0:(97:Int)<=(c.toNat:Int):=by omega
   have n1:¬(c.toNat:Int)<=122:=by omega
   have n2:(48:Int)<=(c.toNat:Int):=by omega
   have n3:¬(c.toNat:Int)<=57:=by omega
   have n9:((c.toNat:Int)==45)=false:=by rw[iZ];omega
   have HO:aa (gG c=false):=by show _=_;have:=HL.o;simp[gG,this,fX];omega
   clear b1 hv q0 q1 q2 q3 q4
   by_cases eY:k=0
   ·have HF:aa _:=AB.o (by have h2:=HC.o;rw[eY]at h2;rw[<- h2];exact HL.o);have kz:((k:Int)==0)=true:=by rw[sD];omega
    clear eY;go_wp2;go_ret;exact⟨by first|rfl|(rw[HF.o];rfl),by first|trivial|rfl⟩
   have kz:((k:Int)==0)=false:=by rw[iZ];omega
   have rz:aa (¬k=0):=eY;clear eY;have HF:aa _:=HY.o (by rw[<- HC.o];exact HO.o);go_wp2;go_ret;exact⟨by first|rfl|(rw[HF.o];rfl),by first|trivial|rfl⟩
  have k1:¬(k:Int)<(s.size:Int):=by omega
  have HY:aa _:=PC HZ.o.1 HZ.o.2 (HA.o.2 (by have:=HZ.o.1;omega)) (λj hj=>HA.o.1 j (by omega));go_wp2;go_ret;exact⟨by first|rfl|(rw[HY.o];rfl),by first|trivial|rfl⟩
theorem yA{na:List ByteArray}{e:aF}(h0:dM na e.name=0)(h:(!within e.aJ 0 20||decide (16<e.ak.length)||decide (8<e.aB.length)||decide (64<e.aA.length)||decide (16<e.first.length)||decide (16<e.last.length))=true):cx na e=2:=by
 rw[afx h0 (by rw[Sk h];decide),Sk h]
theorem afA(es:List aF)(sa:Option az)(sc i:Nat)(e:aF)(w:ai)(hE:jR w (af sa es.length sc) es)(he:es[i]?=J e)(hS:∀e∈es,k7 e)(hn:es.length<=1000000):Calls prog 56 #[af sa es.length sc,U R (i:Int)] w λv w'=>v=ax (U R (cx ((es.take i).map (·.name)) e))/\Below w.heap.size w w':=by
 have Er:i<es.length:=by
  rcases fR i es.length with h'|h'
  ·exact h'
  rw[iI h']at he;cases he
 obtain⟨na,ki⟩:∃na,na=(es.take i).map (·.name):=⟨_,rfl⟩;obtain⟨dI,cap',ck,hcc⟩:=id hE
 cases ck
 obtain⟨b,o,rfl,hc⟩:=hcc (λh=>by rw[h]at he;simp at he);obtain⟨pv,gv,ev,fv,lv,hP,hcell⟩:=hc i e he;obtain⟨pa,pc,rfl,-⟩:=id hP.hp;obtain⟨ga,gc,rfl,-⟩:=id hP.hg;obtain⟨ea,ec,rfl,-⟩:=id hP.he;obtain⟨fa,fc,rfl,-⟩:=id hP.hf;obtain⟨la,lc,rfl,-⟩:=id hP.hl;have iw:aa (k7 e/\∀e∈es,k7 e):=⟨hS e (cM he),hS⟩;have Sm:aa (na=(es.take i).map (·.name)):=ki;have afB:aa (∀k e',es[k]?=J e'->w.cell? ⟨b,o+k*10,I⟩=J (aq e'.name)):=λk e' yz=>by
  obtain⟨pv,gv,ev,fv,lv,-,hc2⟩:=hc k e' yz;have:=hc2 0 (aq e'.name) rfl;simpa using this
 rw[<- ki];have z0:=hcell 0 (aq e.name) rfl;have z1:=hcell 1 (U R e.aJ) rfl;have z2:=hcell 2 (af pa e.ak.length pc) rfl;have z3:=hcell 3 (U R e.cnt) rfl;have z4:=hcell 4 (U R e.mn) rfl;have z5:=hcell 5 (U R e.mx) rfl;have z6:=hcell 6 (af ga e.aB.length gc) rfl;have z7:=hcell 7 (af ea e.aA.length ec) rfl;have z8:=hcell 8 (af fa e.first.length fc) rfl;have z9:=hcell 9 (af la e.last.length lc) rfl;simp only[oH]at z0;have i1:(i:Int)<(es.length:Int):=by omega
 obtain⟨W,hW⟩:∃V,V=w.alloc (au #[aq e.name,U R e.aJ,af pa e.ak.length pc,U R e.cnt,U R e.mn,U R e.mx,af ga e.aB.length gc,af ea e.aA.length ec,af fa e.first.length fc,af la e.last.length lc] 84):=⟨_,rfl⟩;have gK:aa (Below w.heap.size w W):=by show Below _ _ _;rw[hW];exact aN _ _
 have ey:aa (∀V,Below W.heap.size W V->Below w.heap.size w V):=λV hV=>gK.o.trans (hV.mono gK.o.size)
 have HX:aa (∀V,Below W.heap.size W V->∀(j:Nat) u,(#[aq e.name,U R e.aJ,af pa e.ak.length pc,U R e.cnt,U R e.mn,U R e.mx,af ga e.aB.length gc,af ea e.aA.length ec,af fa e.first.length fc,af la e.last.length lc]:Array ar)[j]?=J u->V.cell? ⟨w.heap.size,j,I⟩=J u):=λV hV j u hu=>by
  have:=bG hV (show W.heap[w.heap.size]?=_ by rw[hW];exact cR w _);simp[World.cell?,this,hu]
 have aT:aa (∀V,Below W.heap.size W V->V.heap[w.heap.size]?=J (au #[aq e.name,U R e.aJ,af pa e.ak.length pc,U R e.cnt,U R e.mn,U R e.mx,af ga e.aB.length gc,af ea e.aA.length ec,af fa e.first.length fc,af la e.last.length lc] 84 (0,0))):=λV hV=>bG hV (by rw[hW];exact cR w _)
 have HP:aa (∀V,Below W.heap.size W V->mB V e (af pa e.ak.length pc) (af ga e.aB.length gc) (af ea e.aA.length ec) (af fa e.first.length fc) (af la e.last.length lc)):=λV hV=>hP.below (ey.o V hV)
 clear hP hS hcell hc hcc hE ki;go_enter func56,ntmps56
 go_upto_region 2 with fail
 rw[<- hW];clear hW z0 z1 z2 z3 z4 z5 z6 z7 z8 z9;have y0:=HX.o W (aC _ _) 0 _ rfl;go_wp2_with fail
 refine(Sl e.name W iw.o.1.hn).mono ?_;rintro v w1 ⟨rfl,js⟩
 cases js
 cases FB:isName e.name
 ·have HE:aa (cx na e=4):=by show _=_;rw[Si (by rw[Fz FB];decide),Fz FB]
  go_wp2;go_ret;exact⟨by rw[HE.o];rfl,gK.o⟩
 have AD:aa (isName e.name=true):=FB;clear FB;go_upto_region 5 with fail
 go_cut [7] (λi wx=>i=U R 0/\wx=W)
 case first=>
  go_wp2_with fail
  go_meet
  case rel=>exact⟨rfl,rfl⟩
 obtain⟨rfl,rfl⟩:=hcut;rename ai=>W
 clear y0;go_wp2_with fail
 go_loopw [7] (λiv wx=>∃(k:Nat),k<=i/\iv=U R k/\Below W.heap.size W wx/\∀j e',j<k->es[j]?=J e'->e'.name≠e.name) (λiv _=>i-(intOf iv).toNat)
 case atStart=>exact⟨0,bI _,rfl,aC _ _,λj e' hj=>absurd hj (by omega)⟩
 case round=>
  obtain⟨k,hk,rfl,kh,hno⟩:=hrel;rename ai=>wx
  have HB:aa (Below W.heap.size W wx):=kh;have gj:aa (∀j e',j<k->es[j]?=J e'->e'.name≠e.name):=hno;clear kh hno
  by_cases hlt:k<i
  ·have k1:(k:Int)<(i:Int):=by omega
   have k2:(k:Int)<(es.length:Int):=by omega
   obtain⟨q,hq⟩:∃q,es[k]?=J q:=⟨_,bH (by omega)⟩;have HQ:aa (es[k]?=J q):=hq;have c0:=aG (ey.o wx HB.o) (afB.o k q hq);have y0:=HX.o wx HB.o 0 _ rfl;clear hq
   by_cases pF:q.name=e.name
   ·have HE:aa (cx na e=6):=by
     have h6:dM na e.name=6:=Sd AD.o (by
      rw[Sm.o,nR]
      refine⟨q.name,lX.2 ⟨q,?_,rfl⟩,by simp[pF]⟩;have:(es.take i)[k]?=J q:=by rw[oG,aR hlt];exact HQ.o
      exact cM this)
     show _=_
     rw[Si (by rw[h6];decide),h6]
    rw[pF]at c0;clear pF;go_wp2_with fail
    go_quiet (fail)
    go_wp2;go_ret;exact⟨by rw[HE.o];rfl,ey.o _ (cg HB.o _)⟩
   have n1:=(wj pF).1;have n2:=(wj pF).2;go_wp2_with fail
   go_quiet (fail)
   go_wp2_with fail
   go_roundw
   case rel=>
    refine⟨k+1,by omega,by go_num,cg HB.o _,λj y hj hy=>?_⟩
    rcases fR j k with h1|h1
    ·exact gj.o j y h1 hy
    obtain rfl:j=k:=by omega
    rw[HQ.o]at hy
    cases hy
    exact pF
   case measure=>simp[intOf];omega
  have k1:¬(k:Int)<(i:Int):=by omega
  obtain rfl:k=i:=by omega
  have rF:aa (dM na e.name=0):=Sg AD.o (by
   rw[Sm.o,lW];intro x hx;obtain⟨q,hq,rfl⟩:=lX.1 hx;obtain⟨j,hj⟩:=vS hq;rw[oG]at hj
   split at hj
   ·rename_i hjk;simpa using gj.o j q hjk hj
   cases hj)
  clear gj hlt hk;have y1:=HX.o wx HB.o 1 _ rfl;have y2:=HX.o wx HB.o 2 _ rfl;have y6:=HX.o wx HB.o 6 _ rfl;have y7:=HX.o wx HB.o 7 _ rfl;have y8:=HX.o wx HB.o 8 _ rfl;have y9:=HX.o wx HB.o 9 _ rfl;go_upto_region 10 with fail
  by_cases t1:e.aJ<0
  ·have HE:aa (cx na e=2):=yA rF.o (by unfold within;rw[cw (p:=0<=e.aJ) (by omega)];simp);go_wp2;go_ret;exact⟨by rw[HE.o];rfl,ey.o _ HB.o⟩
  by_cases t2:20<e.aJ
  ·have HE:aa (cx na e=2):=yA rF.o (by unfold within;rw[cw (p:=e.aJ<=20) (by omega)];simp);go_wp2;go_ret;exact⟨by rw[HE.o];rfl,ey.o _ HB.o⟩
  by_cases t3:16<(e.ak.length:Int)
  ·have HE:aa (cx na e=2):=yA rF.o (by rw[bM (p:=16<e.ak.length) (by omega)];simp);go_wp2;go_ret;exact⟨by rw[HE.o];rfl,ey.o _ HB.o⟩
  by_cases t4:8<(e.aB.length:Int)
  ·have HE:aa (cx na e=2):=yA rF.o (by rw[bM (p:=8<e.aB.length) (by omega)];simp);go_wp2;go_ret;exact⟨by rw[HE.o];rfl,ey.o _ HB.o⟩
  by_cases t5:64<(e.aA.length:Int)
  ·have HE:aa (cx na e=2):=yA rF.o (by rw[bM (p:=64<e.aA.length) (by omega)];simp);go_wp2;go_ret;exact⟨by rw[HE.o];rfl,ey.o _ HB.o⟩
  by_cases t6:16<(e.first.length:Int)
  ·have HE:aa (cx na e=2):=yA rF.o (by rw[bM (p:=16<e.first.length) (by omega)];simp);go_wp2;go_ret;exact⟨by rw[HE.o];rfl,ey.o _ HB.o⟩
  by_cases t7:16<(e.last.length:Int)
  ·have HE:aa (cx na e=2):=yA rF.o (by rw[bM (p:=16<e.last.length) (by omega)];simp);go_wp2;go_ret;exact⟨by rw[HE.o];rfl,ey.o _ HB.o⟩
  have HZ:aa (iW e=0):=afz (by unfold within;rw[bM (by omega),bM (by omega)];rfl) (by omega) (by omega) (by omega) (by omega) (by omega);go_upto_region 14 with fail
  clear y1 y6 y7 y8 y9
  go_cut [8] (λi wv=>i=U R 0/\wv=wx)
  case first=>
   go_wp2_with fail
   go_meet
   case rel=>exact⟨rfl,rfl⟩
  obtain⟨rfl,rfl⟩:=hcut;rename ai=>wx
  clear y2 k1;go_wp2_with fail
  go_loopw [8,9] (λiv _ wy=>∃(k:Nat),k<=e.ak.length/\iv=U R k/\Below W.heap.size W wy/\dO [] (e.ak.take k)=0) (λiv _ _=>e.ak.length-(intOf iv).toNat)
  case atStart=>exact⟨0,bI _,rfl,HB.o,rfl⟩
  case round=>
   clear HB;obtain⟨k,hk,rfl,kh,hno⟩:=hrel;rename ai=>wx
   have HB:aa (Below W.heap.size W wx):=kh;have gj:aa (dO [] (e.ak.take k)=0):=hno;clear kh hno;have y2:=HX.o wx HB.o 2 _ rfl
   by_cases hlt:k<e.ak.length
   ·have k1:(k:Int)<(e.ak.length:Int):=by omega
    as_aux_lemma=>
     obtain⟨q,hq⟩:∃q,e.ak[k]?=J q:=⟨_,bH hlt⟩;have HQ:aa (e.ak[k]?=J q):=hq;obtain⟨g,o2,rfl,hcs⟩:=sK (HP.o wx HB.o).hp hq;have Sn:aa (∀n,Calls prog 55 #[af (J ⟨g,o2,I⟩) e.ak.length pc,aq q] (wx.drewN n) _):=λn=>wk e.ak q (J ⟨g,o2,I⟩) pc (wx.drewN n) (HP.o _ (cg HB.o n)).hp iw.o.1.hp
     have c0:=hcs k q hq;clear hcs hq;go_wp2_with fail
     refine(Sl q wx (iw.o.1.hs q (cM HQ.o))).mono ?_;rintro v w2 ⟨rfl,hw2⟩
     cases hw2
     cases FC:isName q
     ·have HE:aa (cx na e=4):=by
       have h4:=Sc HQ.o gj.o (by rw[Fz FC];decide);rw[Fz FC]at h4;show _=_
       rw[Sj rF.o HZ.o (by rw[h4];decide),h4]
      go_wp2;go_ret;exact⟨by rw[HE.o];rfl,ey.o _ HB.o⟩
     by_cases KA:idxOf e.ak q<(k:Int)
     ·have HE:aa (cx na e=6):=by
       have h6:=Sd FC ((Sh HQ.o).1 KA);have h4:=Sc HQ.o gj.o (by rw[h6];decide);rw[h6]at h4;show _=_
       rw[Sj rF.o HZ.o (by rw[h4];decide),h4]
      go_upto_region 20 with fail
      go_region_held3 (λw'=>w'.cell? ⟨w.heap.size,2,I⟩=J (af (J ⟨g,o2,I⟩) e.ak.length pc)/\w'.cell? ⟨g,o2+k,I⟩=J (aq q)) (first|exact⟨y2,c0⟩) (first|(go_at_call 55;refine aL (Sn.o _) ?_;rintro v w3 ⟨rfl,rfl⟩))
      all_goals
       go_wp2;go_ret;exact⟨by rw[HE.o];rfl,ey.o _ (cg HB.o _)⟩
     have Fb:aa (dO [] (e.ak.take (k+1))=0):=afw HQ.o gj.o (Sg FC (by
      cases ha:(e.ak.take k).any λx=>decide (x=q)
      ·rfl
      exact absurd ((Sh HQ.o).2 ha) KA))
     go_upto_region 20 with fail
     go_region_held3 (λw'=>w'.cell? ⟨w.heap.size,2,I⟩=J (af (J ⟨g,o2,I⟩) e.ak.length pc)/\w'.cell? ⟨g,o2+k,I⟩=J (aq q)) (first|exact⟨y2,c0⟩) (first|(go_at_call 55;refine aL (Sn.o _) ?_;rintro v w3 ⟨rfl,rfl⟩))
     all_goals
      go_wp2_with fail
      go_roundw
      case rel=>exact⟨k+1,by omega,by go_num,cg HB.o _,Fb.o⟩
      case measure=>simp[intOf];omega
   have k1:¬(k:Int)<(e.ak.length:Int):=by omega
   have wL:aa (dO [] e.ak=0):=by show _=_;have:=gj.o;rwa [nQ (by omega)]at this
   have jt:aa (cx na e=pB e):=afy rF.o HZ.o wL.o;clear gj hlt hk rF HZ wL;as_aux_lemma=>
    have y3:=HX.o wx HB.o 3 _ rfl;go_upto_region 22 with fail
    by_cases t1:e.cnt < -1
    ·have HE:aa (cx na e=5):=by show _=_;rw[jt.o,qC];have:wT e=true:=(by unfold wT lacks;rw[bM (p:=e.cnt≠-1) (by omega),bM (p:=e.cnt<0) (by omega)];rfl);simp[dH,this]
     go_wp2;go_ret;exact⟨by rw[HE.o];rfl,ey.o _ HB.o⟩
    by_cases t2:(e.ak.length:Int)<=e.cnt
    ·have HE:aa (cx na e=5):=by show _=_;rw[jt.o,qC];have:wT e=true:=(by unfold wT lacks;rw[bM (p:=e.cnt≠-1) (by omega),bM t2,Bool.or_true];rfl);simp[dH,this]
     go_wp2;go_ret;exact⟨by rw[HE.o];rfl,ey.o _ HB.o⟩
    have dp:aa (wT e=false):=by
     show _=_
     unfold wT lacks
     by_cases h:e.cnt=-1
     ·rw[cw (p:=e.cnt≠-1) (by omega)];rfl
     rw[cw (p:=e.cnt<0) (by omega),cw t2,vp,Bool.and_false]
    go_upto_region 24 with fail
    clear y3 y2;go_wp2_with (refine sf rfl 84 _ rfl w.heap.size rfl _ _ _ _ (aT.o wx HB.o) underlying84 rfl El ?_)
    refine(afp e pa ga ea fa la pc gc ec fc lc wx (HP.o wx HB.o) iw.o.1).mono ?_;rintro v w4 ⟨rfl,hb4⟩;have kR:aa (Below W.heap.size W w4):=HB.o.trans (hb4.mono HB.o.size);clear hb4 HB t1 t2
    cases hst:(uP e).any λx=>lacks e.ak.length x
    case true=>
     have HE:aa (cx na e=5):=by show _=_;rw[jt.o,qC];have h2:FA e=true:=hst;simp[dH,dp.o,h2]
     go_wp2;go_ret;exact⟨by rw[HE.o];rfl,ey.o _ kR.o⟩
    have uR:aa (FA e=false):=hst;clear hst;as_aux_lemma=>
     have y3:=HX.o w4 kR.o 3 _ rfl;have y4:=HX.o w4 kR.o 4 _ rfl;have y5:=HX.o w4 kR.o 5 _ rfl;go_upto_region 27 with fail
     by_cases iB:AA e=true
     ·have HE:aa (cx na e=3):=by show _=_;rw[jt.o,qC];simp[dH,dp.o,uR.o,iB]
      have yB:e.cnt=-1:=by unfold AA at iB;simp at iB;exact iB.1
      rw[yB]at y3
      by_cases KC:e.mn=0
      ·have hmx:¬e.mx=0:=by unfold AA at iB;simp[KC]at iB;exact iB.2
       rw[KC]at y4;clear iB yB KC;go_wp2;go_ret;exact⟨by rw[HE.o];rfl,ey.o _ kR.o⟩
      clear iB yB;go_wp2;go_ret;exact⟨by rw[HE.o];rfl,ey.o _ kR.o⟩
     have wV:aa (AA e=false):=by rw[rR]at iB;exact iB
     go_cut [112,113,114,115,116,117,118,119,120,121,122,123,124] (λ_ _ _ _ _ _ _ _ _ _ _ _ v wv=>v=aI false/\wv=w4)
     case first=>
      by_cases yB:e.cnt=-1
      ·have hz:e.mn=0/\e.mx=0:=by unfold AA at iB;simp[yB]at iB;exact iB
       rw[yB]at y3;rw[hz.1]at y4;rw[hz.2]at y5;clear iB yB hz;go_wp2_with fail
       go_meet
       case rel=>exact⟨rfl,rfl⟩
      clear iB;go_wp2_with fail
      go_meet
      case rel=>exact⟨rfl,rfl⟩
     obtain⟨rfl,rfl⟩:=hcut;rename ai=>w4
     clear iB y3;go_upto_region 29 with fail
     by_cases t1:e.mn<0
     ·have HE:aa (cx na e=2):=by show _=_;rw[jt.o,qC];have:uQ e=true:=(by unfold uQ ia;rw[cw (p:=0<=e.mn) (by omega)];rfl);simp[dH,dp.o,uR.o,wV.o,this]
      go_wp2;go_ret;exact⟨by rw[HE.o];rfl,ey.o _ kR.o⟩
     by_cases t2:e.mx<e.mn
     ·have HE:aa (cx na e=2):=by show _=_;rw[jt.o,qC];have:uQ e=true:=(by unfold uQ ia;rw[cw (p:=e.mn<=e.mx) (by omega)];simp);simp[dH,dp.o,uR.o,wV.o,this]
      go_wp2;go_ret;exact⟨by rw[HE.o];rfl,ey.o _ kR.o⟩
     by_cases t3:1000<=e.mx
     ·have HE:aa (cx na e=2):=by show _=_;rw[jt.o,qC];have:uQ e=true:=(by unfold uQ ia;rw[cw (p:=e.mx<=999) (by omega)];simp);simp[dH,dp.o,uR.o,wV.o,this]
      go_wp2;go_ret;exact⟨by rw[HE.o];rfl,ey.o _ kR.o⟩
     have Di:aa (uQ e=false):=by show _=_;unfold uQ ia;rw[bM (p:=0<=e.mn) (by omega),bM (p:=e.mn<=e.mx) (by omega),bM (p:=e.mx<=999) (by omega)];rfl
     go_upto_region 31 with fail
     clear y4 y5 t1 t2 t3
     go_cut [11] (λi wv=>i=U R 0/\wv=w4)
     case first=>
      go_wp2_with fail
      go_meet
      case rel=>exact⟨rfl,rfl⟩
     obtain⟨rfl,rfl⟩:=hcut;rename ai=>w4
     go_wp2_with fail
     go_loopw [11,12] (λiv _ wy=>∃(k:Nat),k<=e.aB.length/\iv=U R k/\Below W.heap.size W wy/\∀j g,j<k->e.aB[j]?=J g->ia 0 g.mn g.mx 1099511627776=true) (λiv _ _=>e.aB.length-(intOf iv).toNat)
     case atStart=>exact⟨0,bI _,rfl,kR.o,λj g hj=>absurd hj (by omega)⟩
     case round=>
      clear kR;clear k1;obtain⟨k,hk,rfl,kh,hno⟩:=hrel;rename ai=>wx
      have HB:aa (Below W.heap.size W wx):=kh;have gj:aa (∀j g,j<k->e.aB[j]?=J g->ia 0 g.mn g.mx 1099511627776=true):=hno;clear kh hno;have y6:=HX.o wx HB.o 6 _ rfl
      by_cases hlt:k<e.aB.length
      ·have k1:(k:Int)<(e.aB.length:Int):=by omega
       have k2:k<1000000:=by have:=iw.o.1.hg;omega
       as_aux_lemma=>
        obtain⟨q,hq⟩:∃q,e.aB[k]?=J q:=⟨_,bH hlt⟩;have HQ:aa (e.aB[k]?=J q):=hq;obtain⟨dI,cap',ck,-,hcc⟩:=(HP.o wx HB.o).hg
        cases ck
        obtain⟨g,o2,rfl,hc0⟩:=hcc (λh=>by rw[h]at hq;simp at hq);have c0:wx.cell? ⟨g,o2+k*4,I⟩=J (U R q.fr):=hc0 k _ hq 0 _ rfl;have c1:wx.cell? ⟨g,o2+k*4+1,I⟩=J (U R q.to):=hc0 k _ hq 1 _ rfl;have c2:wx.cell? ⟨g,o2+k*4+2,I⟩=J (U R q.mn):=hc0 k _ hq 2 _ rfl;have c3:wx.cell? ⟨g,o2+k*4+3,I⟩=J (U R q.mx):=hc0 k _ hq 3 _ rfl;have KD:aa (ia 0 q.mn q.mx 1099511627776=false->cx na e=2):=λh=>by
         have h8:Dh e=true:=by unfold Dh;rw[nR];exact⟨q,cM HQ.o,by rw[h];rfl⟩
         rw[jt.o,qC];simp[dH,dp.o,uR.o,wV.o,Di.o,h8]
        have AE:aa (∀ob,Below W.heap.size W (wx.alloc ob)):=λob=>HB.o.alloc HB.o.size _
        clear hcc hc0 hq
        by_cases t1:q.mn<0
        ·have HE:aa (cx na e=2):=KD.o (by unfold ia;rw[cw (p:=0<=q.mn) (by omega)];rfl);go_wp2;go_ret;exact⟨by rw[HE.o];rfl,ey.o _ (AE.o _)⟩
        by_cases t2:q.mx<q.mn
        ·have HE:aa (cx na e=2):=KD.o (by unfold ia;rw[cw (p:=q.mn<=q.mx) (by omega)];simp);go_wp2;go_ret;exact⟨by rw[HE.o];rfl,ey.o _ (AE.o _)⟩
        by_cases t3:1099511627776<q.mx
        ·have HE:aa (cx na e=2):=KD.o (by unfold ia;rw[cw (p:=q.mx<=1099511627776) (by omega)];simp);go_wp2;go_ret;exact⟨by rw[HE.o];rfl,ey.o _ (AE.o _)⟩
        have rf:aa (ia 0 q.mn q.mx 1099511627776=true):=by show _=_;unfold ia;rw[bM (p:=0<=q.mn) (by omega),bM (p:=q.mn<=q.mx) (by omega),bM (p:=q.mx<=1099511627776) (by omega)];rfl
        go_wp2_with fail
        go_roundw
        case rel=>
         refine⟨k+1,by omega,by go_num,AE.o _,λj y hj hy=>?_⟩
         rcases fR j k with h1|h1
         ·exact gj.o j y h1 hy
         obtain rfl:j=k:=by omega
         rw[HQ.o]at hy
         cases hy
         exact rf.o
        case measure=>simp[intOf];omega
      have k1:¬(k:Int)<(e.aB.length:Int):=by omega
      have FD:aa (Dh e=false):=by
       show _=_
       unfold Dh;rw[lW];intro g hg;obtain⟨j,hj⟩:=vS hg;have zj:j<e.aB.length:=by
        rcases fR j e.aB.length with h'|h'
        ·exact h'
        rw[iI h']at hj;cases hj
       rw[gj.o j g (by omega) hj];simp
      clear gj hlt hk;go_upto_region 37 with fail
      clear y6 k1
      go_cut [13] (λi wv=>i=U R 0/\wv=wx)
      case first=>
       go_wp2_with fail
       go_meet
       case rel=>exact⟨rfl,rfl⟩
      obtain⟨rfl,rfl⟩:=hcut;rename ai=>wx
      go_wp2_with fail
      go_loopw [13,14] (λiv _ wy=>∃(k:Nat),k<=e.aA.length/\iv=U R k/\Below W.heap.size W wy/\∀j x,j<k->e.aA[j]?=J x->((e.aA.take j).any λy=>decide (x=y))=false) (λiv _ _=>e.aA.length-(intOf iv).toNat)
      case atStart=>exact⟨0,bI _,rfl,HB.o,λj g hj=>absurd hj (by omega)⟩
      case round=>
       clear HB;obtain⟨k,hk,rfl,kh,hno⟩:=hrel;rename ai=>wx
       have HB:aa (Below W.heap.size W wx):=kh;have gj:aa (∀j x,j<k->e.aA[j]?=J x->((e.aA.take j).any λy=>decide (x=y))=false):=hno;clear kh hno;have y7:=HX.o wx HB.o 7 _ rfl
       by_cases hlt:k<e.aA.length
       ·have k1:(k:Int)<(e.aA.length:Int):=by omega
        have k2:k<1000000:=by have:=iw.o.1.he;omega
        as_aux_lemma=>
         obtain⟨q,hq⟩:∃q,e.aA[k]?=J q:=⟨_,bH hlt⟩;have HQ:aa (e.aA[k]?=J q):=hq;obtain⟨dI,cap',ck,-,hcc⟩:=(HP.o wx HB.o).he
         cases ck
         obtain⟨g,o2,rfl,hc0⟩:=hcc (λh=>by rw[h]at hq;simp at hq);have pj:aa (∀V,Below wx.heap.size wx V->∀j x,e.aA[j]?=J x->V.cell? ⟨g,o2+j*2,I⟩=J (U R x.1)/\V.cell? ⟨g,o2+j*2+1,I⟩=J (U R x.2)):=λV hV j x hx=>⟨aG hV (hc0 j x hx 0 _ rfl),aG hV (hc0 j x hx 1 _ rfl)⟩
         clear hcc hc0 hq;go_upto_region 40 with fail
         clear y7
         go_cut [14] (λi wv=>i=U R 0/\wv=wx)
         case first=>
          go_wp2_with fail
          go_meet
          case rel=>exact⟨rfl,rfl⟩
         obtain⟨rfl,rfl⟩:=hcut;rename ai=>wx
         go_wp2_with fail
         go_loopw [14] (λiv wy=>∃(j:Nat),j<=k/\iv=U R j/\Below wx.heap.size wx wy/\∀m x,m<j->e.aA[m]?=J x->q≠x) (λiv _=>k-(intOf iv).toNat)
         case atStart=>exact⟨0,bI _,rfl,aC _ _,λj g hj=>absurd hj (by omega)⟩
         case round=>
          obtain⟨j,hj,rfl,hby,hno⟩:=hrel;rename ai=>wy
          have iA:aa (Below wx.heap.size wx wy):=hby;have KF:aa (Below W.heap.size W wy):=HB.o.trans (hby.mono HB.o.size);have xY:aa (∀m x,m<j->e.aA[m]?=J x->q≠x):=hno;clear hby hno;have y7:=HX.o wy KF.o 7 _ rfl
          by_cases hjk:j<k
          ·have j1:(j:Int)<(k:Int):=by omega
           have j2:(j:Int)<(e.aA.length:Int):=by omega
           have j3:j<1000000:=by omega
           obtain⟨x,hx⟩:∃x,e.aA[j]?=J x:=⟨_,bH (by omega)⟩;have KG:aa (e.aA[j]?=J x):=hx;obtain⟨a0,a1⟩:=pj.o wy iA.o j x hx;obtain⟨b0,b1⟩:=pj.o wy iA.o k q HQ.o;clear hx;obtain⟨x1,x2⟩:=x;obtain⟨q1,q2⟩:=q;simp only at a0 a1 b0 b1
           by_cases e1:x1=q1
           ·by_cases e2:x2=q2
            ·subst e1 e2;have Sp:∀w,(binOp .eql 87 (aU #[U R x1,U R x2]) (aU #[U R x1,U R x2])).run prog w=.ok (aI true) w:=λw=>by rw[Eo];simp
             have Sq:=Ep;have HE:aa (cx na e=6):=by
              have h9:twice e.aA=true:=by
               unfold twice;rw[nR]
               refine⟨k,by simpa using hlt,?_⟩;rw[HQ.o];show ((e.aA.take k).any λy=>decide ((x1,x2)=y))=true
               rw[nR];have hm:(e.aA.take k)[j]?=J (x1,x2):=by rw[oG,aR hjk];exact KG.o
               exact⟨(x1,x2),cM hm,by simp⟩
              show _=_
              rw[jt.o,qC];simp[dH,dp.o,uR.o,wV.o,Di.o,FD.o,h9]
             go_wp2_with fail
             go_quiet (fail)
             go_wp2;go_ret;exact⟨by rw[HE.o];rfl,ey.o _ (cg KF.o _)⟩
            subst e1;have Dj:aa ((x1,q2)≠(x1,x2)):=λh=>e2 (rB h).2.symm
            have Sp:∀w,(binOp .eql 87 (aU #[U R x1,U R x2]) (aU #[U R x1,U R q2])).run prog w=.ok (aI false) w:=λw=>by rw[Eo];simp[e2]
            have Sq:=Ep;go_wp2_with fail
            go_quiet (fail)
            go_wp2_with fail
            go_roundw
            case rel=>
             refine⟨j+1,by omega,by go_num,cg iA.o _,λm y hm hy=>?_⟩
             rcases fR m j with h1|h1
             ·exact xY.o m y h1 hy
             obtain rfl:m=j:=by omega
             rw[KG.o]at hy
             cases hy
             exact Dj.o
            case measure=>simp[intOf];omega
           have Dj:aa ((q1,q2)≠(x1,x2)):=λh=>e1 (rB h).1.symm
           have Sp:∀w,(binOp .eql 87 (aU #[U R x1,U R x2]) (aU #[U R q1,U R q2])).run prog w=.ok (aI false) w:=λw=>by rw[Eo];simp[e1]
           have Sq:=Ep;go_wp2_with fail
           go_quiet (fail)
           go_wp2_with fail
           go_roundw
           case rel=>
            refine⟨j+1,by omega,by go_num,cg iA.o _,λm y hm hy=>?_⟩
            rcases fR m j with h1|h1
            ·exact xY.o m y h1 hy
            obtain rfl:m=j:=by omega
            rw[KG.o]at hy
            cases hy
            exact Dj.o
           case measure=>simp[intOf];omega
          have j1:¬(j:Int)<(k:Int):=by omega
          obtain rfl:j=k:=by omega
          have afC:aa (((e.aA.take j).any λy=>decide (q=y))=false):=by
           show _=_
           rw[lW];intro y hy;obtain⟨m,hm⟩:=vS hy;rw[oG]at hm
           split at hm
           ·rename_i afD;simpa using xY.o m y afD hm
           cases hm
          go_wp2_with fail
          go_roundw
          case rel=>
           refine⟨j+1,by omega,by go_num,KF.o,λm y hm hy=>?_⟩
           rcases fR m j with h1|h1
           ·exact gj.o m y h1 hy
           obtain rfl:m=j:=by omega
           rw[HQ.o]at hy
           cases hy
           exact afC.o
          case measure=>simp[intOf];omega
       have k1:¬(k:Int)<(e.aA.length:Int):=by omega
       have uS:aa (twice e.aA=false):=by
        show _=_
        unfold twice;rw[lW];intro i hi;simp only[mr]at hi;rw[bH hi];show ¬((e.aA.take i).any λy=>decide (e.aA[i]=y))=true
        rw[gj.o i _ (by omega) (bH hi)];simp
       clear gj hlt hk;go_upto_region 45 with fail
       clear y7 k1;as_aux_lemma=>
        have y8:=HX.o wx HB.o 8 _ rfl;go_wp2_with fail
        refine(RZ e.first fa fc wx (HP.o wx HB.o).hf iw.o.1.hf).mono ?_;rintro v w5 ⟨rfl,jG⟩;have kU:aa (Below W.heap.size W w5):=HB.o.trans (jG.mono HB.o.size);clear jG y8
        cases KH:twice e.first
        case true=>
         have HE:aa (cx na e=6):=by show _=_;rw[jt.o,qC];simp[dH,dp.o,uR.o,wV.o,Di.o,FD.o,uS.o,KH]
         go_wp2;go_ret;exact⟨by rw[HE.o];rfl,ey.o _ kU.o⟩
        have Sr:aa (twice e.first=false):=KH;clear KH;have y9:=HX.o w5 kU.o 9 _ rfl;go_wp2_with fail
        refine(RZ e.last la lc w5 (HP.o w5 kU.o).hl iw.o.1.hl).mono ?_;rintro v w6 ⟨rfl,iB⟩;have pV:aa (Below W.heap.size W w6):=kU.o.trans (iB.mono kU.o.size);clear iB y9
        cases oF:twice e.last
        case true=>
         have HE:aa (cx na e=6):=by show _=_;rw[jt.o,qC];simp[dH,dp.o,uR.o,wV.o,Di.o,FD.o,uS.o,Sr.o,oF]
         go_wp2;go_ret;exact⟨by rw[HE.o];rfl,ey.o _ pV.o⟩
        have afE:aa (twice e.last=false):=oF;clear oF;have FE:aa (∀c,dH [(sY e,3),(wU e,3)]=c->cx na e=c):=λc h=>by rw[jt.o,qC];simp only[dH,dp.o,uR.o,wV.o,Di.o,FD.o,uS.o,Sr.o,afE.o];exact h
        have y7:=HX.o w6 pV.o 7 _ rfl;have y8:=HX.o w6 pV.o 8 _ rfl;have y9:=HX.o w6 pV.o 9 _ rfl;have s1:=iw.o.1.hf;have s2:=iw.o.1.hl
        by_cases u1:e.aA.length=0
        ·have v1:(e.aA.length:Int)=0:=by omega
         by_cases u2:0<e.first.length+e.last.length
         ·have v2:(0:Int)<(e.first.length:Int)+(e.last.length:Int):=by omega
          have HE:aa (cx na e=3):=FE.o 3 (by have a1:sY e=false:=(by unfold sY;rw[cw (p:=0<e.aA.length) (by omega)];rfl);have a2:wU e=true:=(by unfold wU;rw[bM u1,bM u2];rfl);simp[dH,a1,a2]);rw[u1]at y7;go_wp2;go_ret;exact⟨by rw[HE.o];rfl,ey.o _ pV.o⟩
         have v2:¬(0:Int)<(e.first.length:Int)+(e.last.length:Int):=by omega
         have HE:aa (cx na e=0):=FE.o 0 (by have a1:sY e=false:=(by unfold sY;rw[cw (p:=0<e.aA.length) (by omega)];rfl);have a2:wU e=false:=(by unfold wU;rw[bM u1,cw u2];rfl);simp[dH,a1,a2]);rw[u1]at y7;go_wp2;go_ret;exact⟨by rw[HE.o];rfl,ey.o _ pV.o⟩
        have v1:(0:Int)<(e.aA.length:Int):=by omega
        have v0:¬(e.aA.length:Int)=0:=by omega
        by_cases u2:e.first.length=0
        ·have HE:aa (cx na e=3):=FE.o 3 (by have a1:sY e=true:=(by unfold sY;rw[bM (p:=0<e.aA.length) (by omega),bM u2];rfl);simp[dH,a1]);rw[u2]at y8;go_wp2;go_ret;exact⟨by rw[HE.o];rfl,ey.o _ pV.o⟩
        have v2:¬(e.first.length:Int)=0:=by omega
        have HE:aa (cx na e=0):=FE.o 0 (by have a1:sY e=false:=(by unfold sY;rw[cw (p:=e.first.length=0) u2,Bool.and_false]);have a2:wU e=false:=(by unfold wU;rw[cw u1];rfl);simp[dH,a1,a2]);go_wp2;go_ret;exact⟨by rw[HE.o];rfl,ey.o _ pV.o⟩
theorem gN:(prog.info? 32).map (·.size)=J 2:=by kernel_rfl
theorem rG(n:Int)(w:ai):Calls prog 7 #[U R n] w λv w'=>v=ax (aU #[U R n,U R (-1)])/\Below w.heap.size w w':=by
 go_enter func7,ntmps7
 go_wp2_with fail
 refine er (nC rfl _ _ _ _ _ _ _ rfl (cR w _) underlying32 rfl gN) rfl ?_;exact⟨rfl,aN _ _⟩
theorem afF(w:ai):Calls prog 57 #[] w λv w'=>v=ax (aU #[U R 0,U R (-1)])/\Below w.heap.size w w':=by
 go_enter func57,ntmps57
 go_wp2_with fail
 refine er (nC rfl _ _ _ _ _ _ _ rfl (cR w _) underlying32 rfl gN) rfl ?_;exact⟨rfl,aN _ _⟩
theorem sZ{c:aS}{n:Nat}(hn:n≠0)(h:gQ c=n):cG c=(n,-1):=by unfold cG;rw[aK (by rw[h];exact hn),h]
theorem afG{c:aS}(h:gQ c=0):cG c=iX [] 0 c.aw:=by unfold cG;rw[aR h]
theorem afH{a:List ByteArray}{k:Nat}{e:aF}{t:List aF}(h:cx a e≠0):iX a k (e::t)=(cx a e,(k:Int)):=by rw[iX,aK h]
theorem afI{a:List ByteArray}{k:Nat}{e:aF}{t:List aF}(h:cx a e=0):iX a k (e::t)=iX (a++[e.name]) (k+1) t:=by rw[iX,aR h]
theorem afJ(c:aS)(sa:Option az)(sc:Nat)(w:ai)(hE:jR w (af sa c.aw.length sc) c.aw)(hS:nh c):Calls prog 17 #[aU #[U R c.closed,U R c.opn,U R c.cycle,U R c.bC,af sa c.aw.length sc]] w λv w'=>v=ax (aU #[U R ((cG c).1:Int),U R (cG c).2])/\Below w.heap.size w w':=by
 obtain⟨W,hW⟩:∃V,V=(w.alloc (au #[U R c.closed,U R c.opn,U R c.cycle,U R c.bC,af sa c.aw.length sc] 30)).alloc (au #[U R 0,U R 0] 32):=⟨_,rfl⟩;have gK:aa (Below w.heap.size w W):=by show Below _ _ _;rw[hW];exact(aN _ _).alloc (by simp) _
 have HX:aa (∀V,Below W.heap.size W V->∀(j:Nat) u,(#[U R c.closed,U R c.opn,U R c.cycle,U R c.bC,af sa c.aw.length sc]:Array _)[j]?=J u->V.cell? ⟨w.heap.size,j,I⟩=J u):=λV hV j u hu=>by
  have:=bG hV (show W.heap[w.heap.size]?=_ by rw[hW];exact bG (aN _ _) (cR w _));simp[World.cell?,this,hu]
 have gu:aa (∀V,Below _ W V->V.heap[w.heap.size+1]?=J (au #[U R 0,U R 0] 32 (0,0))):=λV hV=>bG hV (by rw[hW];have:=cR (w.alloc (au #[U R c.closed,U R c.opn,U R c.cycle,U R c.bC,af sa c.aw.length sc] 30)) (au #[U R 0,U R 0] 32);simpa using this)
 have eP:aa (∀V cs,Below W.heap.size W V->Below w.heap.size w (V.setRow (w.heap.size+1) cs)):=λV cs hV=>by
  have b1:=gK.o.trans (hV.mono gK.o.size);exact b1.grown (oO _ _ _) b1.size (λj hj=>by cases hj;omega)
 have Ku:aa (∀V,Below _ W V->jR V _ _):=λV hV=>hE.below (gK.o.trans (hV.mono gK.o.size))
 have iw:aa _:=hS;have HB:aa (Below W.heap.size W W):=aC _ _;have y0:=HX.o W (aC _ _) 0 _ rfl;have y1:=HX.o W (aC _ _) 1 _ rfl;have y2:=HX.o W (aC _ _) 2 _ rfl;have y3:=HX.o W (aC _ _) 3 _ rfl;have y4:=HX.o W (aC _ _) 4 _ rfl;clear hE hS;go_enter func17,ntmps17
 go_upto_region 1 with fail
 rw[<- hW];clear hW
 by_cases t1:c.closed<0
 ·have HE:aa (cG c=(2,-1)):=sZ (by decide) (by unfold gQ;have q0:(!(within _ 0 1000&&within c.opn 1 1000))=true:=(by unfold within;rw[cw (p:=0<=c.closed) (by omega)];rfl);simp only[dH,q0];rfl);go_wp2_with fail
  refine(rG 2 _).mono ?_;rintro v w1 ⟨rfl,hb1⟩;have aO:aa _:=HB.o.trans (hb1.mono HB.o.size);clear hb1;go_wp2_with (refine f_ rfl 32 _ _ rfl _ _ rfl rfl 32 _ (gu.o _ aO.o) gN rfl (by simp[Value.oneCell']) ?_)
  refine er (nC rfl _ _ _ _ _ _ _ rfl (jY _ (gu.o _ aO.o)) underlying32 rfl gN) rfl ?_;exact⟨by rw[HE.o];rfl,eP.o _ _ aO.o⟩
 by_cases t2:1000<c.closed
 ·have HE:aa (cG c=(2,-1)):=sZ (by decide) (by unfold gQ;have q0:(!(within _ 0 1000&&within c.opn 1 1000))=true:=(by unfold within;rw[cw (p:=c.closed<=1000) (by omega)];simp);simp only[dH,q0];rfl);go_wp2_with fail
  refine(rG 2 _).mono ?_;rintro v w1 ⟨rfl,hb1⟩;have aO:aa _:=HB.o.trans (hb1.mono HB.o.size);clear hb1;go_wp2_with (refine f_ rfl 32 _ _ rfl _ _ rfl rfl 32 _ (gu.o _ aO.o) gN rfl (by simp[Value.oneCell']) ?_)
  refine er (nC rfl _ _ _ _ _ _ _ rfl (jY _ (gu.o _ aO.o)) underlying32 rfl gN) rfl ?_;exact⟨by rw[HE.o];rfl,eP.o _ _ aO.o⟩
 by_cases t3:c.opn<1
 ·have HE:aa (cG c=(2,-1)):=sZ (by decide) (by unfold gQ;have q0:(!(within c.closed 0 1000&&within _ 1 1000))=true:=(by unfold within;rw[cw (p:=1<=c.opn) (by omega)];simp);simp only[dH,q0];rfl);go_wp2_with fail
  refine(rG 2 _).mono ?_;rintro v w1 ⟨rfl,hb1⟩;have aO:aa _:=HB.o.trans (hb1.mono HB.o.size);clear hb1;go_wp2_with (refine f_ rfl 32 _ _ rfl _ _ rfl rfl 32 _ (gu.o _ aO.o) gN rfl (by simp[Value.oneCell']) ?_)
  refine er (nC rfl _ _ _ _ _ _ _ rfl (jY _ (gu.o _ aO.o)) underlying32 rfl gN) rfl ?_;exact⟨by rw[HE.o];rfl,eP.o _ _ aO.o⟩
 by_cases t4:1000<c.opn
 ·have HE:aa (cG c=(2,-1)):=sZ (by decide) (by unfold gQ;have q0:(!(within c.closed 0 1000&&within _ 1 1000))=true:=(by unfold within;rw[cw (p:=c.opn<=1000) (by omega)];simp);simp only[dH,q0];rfl);go_wp2_with fail
  refine(rG 2 _).mono ?_;rintro v w1 ⟨rfl,hb1⟩;have aO:aa _:=HB.o.trans (hb1.mono HB.o.size);clear hb1;go_wp2_with (refine f_ rfl 32 _ _ rfl _ _ rfl rfl 32 _ (gu.o _ aO.o) gN rfl (by simp[Value.oneCell']) ?_)
  refine er (nC rfl _ _ _ _ _ _ _ rfl (jY _ (gu.o _ aO.o)) underlying32 rfl gN) rfl ?_;exact⟨by rw[HE.o];rfl,eP.o _ _ aO.o⟩
 by_cases t5:c.cycle<1
 ·have HE:aa (cG c=(2,-1)):=sZ (by decide) (by unfold gQ;have q0:(!(within c.closed 0 1000&&within c.opn 1 1000))=false:=(by unfold within;rw[bM (p:=0<=c.closed) (by omega),bM (p:=c.closed<=1000) (by omega),bM (p:=1<=c.opn) (by omega),bM (p:=c.opn<=1000) (by omega)];rfl);have q1:(!within c.cycle 1 100)=true:=(by unfold within;first|(rw[cw (p:=1<=c.cycle) (by omega)];rfl)|(rw[cw (p:=c.cycle<=100) (by omega)];simp));simp only[dH,q0,q1];rfl);go_wp2_with fail
  refine(rG 2 _).mono ?_;rintro v w1 ⟨rfl,hb1⟩;have aO:aa _:=HB.o.trans (hb1.mono HB.o.size);clear hb1;go_wp2_with (refine f_ rfl 32 _ _ rfl _ _ rfl rfl 32 _ (gu.o _ aO.o) gN rfl (by simp[Value.oneCell']) ?_)
  refine er (nC rfl _ _ _ _ _ _ _ rfl (jY _ (gu.o _ aO.o)) underlying32 rfl gN) rfl ?_;exact⟨by rw[HE.o];rfl,eP.o _ _ aO.o⟩
 by_cases t6:100<c.cycle
 ·have HE:aa (cG c=(2,-1)):=sZ (by decide) (by unfold gQ;have q0:(!(within c.closed 0 1000&&within c.opn 1 1000))=false:=(by unfold within;rw[bM (p:=0<=c.closed) (by omega),bM (p:=c.closed<=1000) (by omega),bM (p:=1<=c.opn) (by omega),bM (p:=c.opn<=1000) (by omega)];rfl);have q1:(!within c.cycle 1 100)=true:=(by unfold within;first|(rw[cw (p:=1<=c.cycle) (by omega)];rfl)|(rw[cw (p:=c.cycle<=100) (by omega)];simp));simp only[dH,q0,q1];rfl);go_wp2_with fail
  refine(rG 2 _).mono ?_;rintro v w1 ⟨rfl,hb1⟩;have aO:aa _:=HB.o.trans (hb1.mono HB.o.size);clear hb1;go_wp2_with (refine f_ rfl 32 _ _ rfl _ _ rfl rfl 32 _ (gu.o _ aO.o) gN rfl (by simp[Value.oneCell']) ?_)
  refine er (nC rfl _ _ _ _ _ _ _ rfl (jY _ (gu.o _ aO.o)) underlying32 rfl gN) rfl ?_;exact⟨by rw[HE.o];rfl,eP.o _ _ aO.o⟩
 by_cases t7:c.bC<0
 ·have HE:aa (cG c=(2,-1)):=sZ (by decide) (by unfold gQ;have q0:(!(within c.closed 0 1000&&within c.opn 1 1000))=false:=(by unfold within;rw[bM (p:=0<=c.closed) (by omega),bM (p:=c.closed<=1000) (by omega),bM (p:=1<=c.opn) (by omega),bM (p:=c.opn<=1000) (by omega)];rfl);have q1:(!within c.cycle 1 100)=false:=(by unfold within;rw[bM (p:=1<=c.cycle) (by omega),bM (p:=c.cycle<=100) (by omega)];rfl);have q2:(!within c.bC 0 20)=true:=(by unfold within;first|(rw[cw (p:=0<=c.bC) (by omega)];rfl)|(rw[cw (p:=c.bC<=20) (by omega)];simp));simp only[dH,q0,q1,q2];rfl);go_wp2_with fail
  refine(rG 2 _).mono ?_;rintro v w1 ⟨rfl,hb1⟩;have aO:aa _:=HB.o.trans (hb1.mono HB.o.size);clear hb1;go_wp2_with (refine f_ rfl 32 _ _ rfl _ _ rfl rfl 32 _ (gu.o _ aO.o) gN rfl (by simp[Value.oneCell']) ?_)
  refine er (nC rfl _ _ _ _ _ _ _ rfl (jY _ (gu.o _ aO.o)) underlying32 rfl gN) rfl ?_;exact⟨by rw[HE.o];rfl,eP.o _ _ aO.o⟩
 by_cases t8:20<c.bC
 ·have HE:aa (cG c=(2,-1)):=sZ (by decide) (by unfold gQ;have q0:(!(within c.closed 0 1000&&within c.opn 1 1000))=false:=(by unfold within;rw[bM (p:=0<=c.closed) (by omega),bM (p:=c.closed<=1000) (by omega),bM (p:=1<=c.opn) (by omega),bM (p:=c.opn<=1000) (by omega)];rfl);have q1:(!within c.cycle 1 100)=false:=(by unfold within;rw[bM (p:=1<=c.cycle) (by omega),bM (p:=c.cycle<=100) (by omega)];rfl);have q2:(!within c.bC 0 20)=true:=(by unfold within;first|(rw[cw (p:=0<=c.bC) (by omega)];rfl)|(rw[cw (p:=c.bC<=20) (by omega)];simp));simp only[dH,q0,q1,q2];rfl);go_wp2_with fail
  refine(rG 2 _).mono ?_;rintro v w1 ⟨rfl,hb1⟩;have aO:aa _:=HB.o.trans (hb1.mono HB.o.size);clear hb1;go_wp2_with (refine f_ rfl 32 _ _ rfl _ _ rfl rfl 32 _ (gu.o _ aO.o) gN rfl (by simp[Value.oneCell']) ?_)
  refine er (nC rfl _ _ _ _ _ _ _ rfl (jY _ (gu.o _ aO.o)) underlying32 rfl gN) rfl ?_;exact⟨by rw[HE.o];rfl,eP.o _ _ aO.o⟩
 by_cases t9:8<(c.aw.length:Int)
 ·have HE:aa (cG c=(2,-1)):=sZ (by decide) (by unfold gQ;have q0:(!(within c.closed 0 1000&&within c.opn 1 1000))=false:=(by unfold within;rw[bM (p:=0<=c.closed) (by omega),bM (p:=c.closed<=1000) (by omega),bM (p:=1<=c.opn) (by omega),bM (p:=c.opn<=1000) (by omega)];rfl);have q1:(!within c.cycle 1 100)=false:=(by unfold within;rw[bM (p:=1<=c.cycle) (by omega),bM (p:=c.cycle<=100) (by omega)];rfl);have q2:(!within c.bC 0 20)=false:=(by unfold within;rw[bM (p:=0<=c.bC) (by omega),bM (p:=c.bC<=20) (by omega)];rfl);have q3:decide (8<c.aw.length)=true:=bM (by omega);simp only[dH,q0,q1,q2,q3];rfl);go_wp2_with fail
  refine(rG 2 _).mono ?_;rintro v w1 ⟨rfl,hb1⟩;have aO:aa _:=HB.o.trans (hb1.mono HB.o.size);clear hb1;go_wp2_with (refine f_ rfl 32 _ _ rfl _ _ rfl rfl 32 _ (gu.o _ aO.o) gN rfl (by simp[Value.oneCell']) ?_)
  refine er (nC rfl _ _ _ _ _ _ _ rfl (jY _ (gu.o _ aO.o)) underlying32 rfl gN) rfl ?_;exact⟨by rw[HE.o];rfl,eP.o _ _ aO.o⟩
 by_cases t10:c.opn<c.cycle
 ·have HE:aa (cG c=(3,-1)):=sZ (by decide) (by unfold gQ;have q0:(!(within c.closed 0 1000&&within c.opn 1 1000))=false:=(by unfold within;rw[bM (p:=0<=c.closed) (by omega),bM (p:=c.closed<=1000) (by omega),bM (p:=1<=c.opn) (by omega),bM (p:=c.opn<=1000) (by omega)];rfl);have q1:(!within c.cycle 1 100)=false:=(by unfold within;rw[bM (p:=1<=c.cycle) (by omega),bM (p:=c.cycle<=100) (by omega)];rfl);have q2:(!within c.bC 0 20)=false:=(by unfold within;rw[bM (p:=0<=c.bC) (by omega),bM (p:=c.bC<=20) (by omega)];rfl);have q3:decide (8<c.aw.length)=false:=cw (by omega);have q4:decide (c.opn<c.cycle)=true:=bM (by omega);simp only[dH,q0,q1,q2,q3,q4];rfl);go_wp2_with fail
  refine(rG 3 _).mono ?_;rintro v w1 ⟨rfl,hb1⟩;have aO:aa _:=HB.o.trans (hb1.mono HB.o.size);clear hb1;go_wp2_with (refine f_ rfl 32 _ _ rfl _ _ rfl rfl 32 _ (gu.o _ aO.o) gN rfl (by simp[Value.oneCell']) ?_)
  refine er (nC rfl _ _ _ _ _ _ _ rfl (jY _ (gu.o _ aO.o)) underlying32 rfl gN) rfl ?_;exact⟨by rw[HE.o];rfl,eP.o _ _ aO.o⟩
 have zY:aa (cG c=iX [] 0 _):=afG (by
  unfold gQ;have q0:(!(within c.closed 0 1000&&within c.opn 1 1000))=false:=(by unfold within;rw[bM (p:=0<=c.closed) (by omega),bM (p:=c.closed<=1000) (by omega),bM (p:=1<=c.opn) (by omega),bM (p:=c.opn<=1000) (by omega)];rfl);have q1:(!within c.cycle 1 100)=false:=(by unfold within;rw[bM (p:=1<=c.cycle) (by omega),bM (p:=c.cycle<=100) (by omega)];rfl);have q2:(!within c.bC 0 20)=false:=(by unfold within;rw[bM (p:=0<=c.bC) (by omega),bM (p:=c.bC<=20) (by omega)];rfl);have q3:decide (8<c.aw.length)=false:=cw (by omega);have q4:=cw (by omega);simp only[dH,q0,q1,q2,q3,q4];rfl)
 go_upto_region 7 with fail
 clear y0 y1 y2 y3 y4 t1 t2 t3 t4 t5 t6 t7 t8 t9 t10
 go_cut [3] (λi wv=>i=U R 0/\wv=W)
 case first=>
  go_wp2_with fail
  go_meet
  case rel=>exact⟨rfl,rfl⟩
 obtain⟨rfl,rfl⟩:=hcut;rename ai=>W
 go_wp2_with fail
 go_loopw [3,4] (λiv _ wx=>∃(k:Nat),k<=c.aw.length/\iv=U R k/\Below W.heap.size W wx/\cG c=iX ((c.aw.take k).map (·.name)) k (c.aw.drop k)) (λiv _ _=>c.aw.length-(intOf iv).toNat)
 case atStart=>exact⟨0,bI _,rfl,HB.o,by rw[zY.o];rfl⟩
 case round=>
  clear HB zY;obtain⟨k,hk,rfl,kh,hno⟩:=hrel;rename ai=>wx
  have HB:aa _:=kh;have gj:aa _:=hno;clear kh hno;have y4:=HX.o wx HB.o 4 _ rfl
  by_cases hlt:k<c.aw.length
  ·have k1:(k:Int)<(c.aw.length:Int):=by omega
   have k2:k<1000000:=by have:=iw.o.hn;omega
   obtain⟨e,he⟩:∃e,c.aw[k]?=J e:=⟨_,bH hlt⟩;have lN:aa (c.aw.drop k=e::c.aw.drop (k+1)):=by
    show _=_
    rw[kq hlt];rw[bH hlt]at he
    cases he;rfl
   have ma:aa ((c.aw.take (k+1)).map (·.name)=(c.aw.take k).map (·.name)++[e.name]):=by show _=_;rw[fW,he];simp
   have HC:aa _:=afA _ sa sc k e wx (Ku.o wx HB.o) he iw.o.he iw.o.hn;clear he;go_wp2_with fail
   refine aL HC.o ?_;rintro v w2 ⟨rfl,hb2⟩;have aW:aa _:=HB.o.trans (hb2.mono HB.o.size);clear hb2 HC y4;obtain⟨n,hn⟩:∃n,n=cx ((c.aw.take k).map (·.name)) e:=⟨_,rfl⟩;rw[<- hn]
   by_cases n0:n=0
   ·have HE:aa (cG c=iX ((c.aw.take (k+1)).map (·.name)) (k+1) (c.aw.drop (k+1))):=by
     show _=_
     rw[gj.o,lN.o,afI (by rw[<- hn];exact n0),ma.o]
    subst n0;clear hn;go_wp2_with fail
    go_roundw
    case rel=>exact⟨_,by omega,by go_num,aW.o,HE.o⟩
    case measure=>simp[intOf];omega
   have HE:aa (cG c=(n,(k:Int))):=by
    show _=_
    rw[gj.o,lN.o,afH (by rw[<- hn];exact n0),<- hn]
   have n1:(0:Int)<(n:Int):=by omega
   clear hn n0;go_wp2_with (refine f_ rfl 32 _ _ rfl _ _ rfl rfl 32 _ (gu.o _ aW.o) gN rfl (by simp[Value.oneCell']) ?_)
   refine er (nC rfl _ _ (w.heap.size+1) _ _ _ _ rfl (jY _ (gu.o _ aW.o)) underlying32 rfl gN) rfl ?_;exact⟨by rw[HE.o],eP.o _ _ aW.o⟩
  have k1:¬(k:Int)<(c.aw.length:Int):=by omega
  have HE:aa (cG c=(0,-1)):=by show _=_;rw[gj.o,List.drop_of_length_le (by omega)];rfl
  go_wp2_with fail
  refine(afF _).mono ?_;rintro v w1 ⟨rfl,hb1⟩;have aO:aa _:=HB.o.trans (hb1.mono HB.o.size);clear hb1;go_wp2_with (refine f_ rfl 32 _ _ rfl _ _ rfl rfl 32 _ (gu.o _ aO.o) gN rfl (by simp[Value.oneCell']) ?_)
  refine er (nC rfl _ _ _ _ _ _ _ rfl (jY _ (gu.o _ aO.o)) underlying32 rfl gN) rfl ?_;exact⟨by rw[HE.o];rfl,eP.o _ _ aO.o⟩
theorem afK(n:Nat)(h:n<=4096)(h2:153<=n):kK ((aM.new n).bytes.take (aM.new n).size)=[]:=by
 rw[Nu _ (aM.new n).size h2,(Inv.new n h2 h).opens];rfl
section
variable {A:Nat->az}{F:Nat->Prop}{w0 w w':ai}{c:aS}{kb bc:Nat}{K:aH}{k W:Nat}
theorem afL(h:eV F w0 w c kb bc K):Calls prog 45 #[aj (J ⟨kb,0,I⟩)] w λe w'=>e=ax (aq (oQ K.on))/\w'=w:=by
 obtain⟨H,bd,rb,bt,lv,bs,h1,-⟩:=h;exact Ja h1
theorem afM(h:eV F w0 w c kb bc K):Calls prog 37 #[aj (J ⟨kb,0,I⟩)] w λe w'=>e=ax (U R (K.d.now:Int))/\w'=w:=by
 obtain⟨H,bd,rb,bt,lv,bs,h1,-⟩:=h;exact Je h1
theorem afN(h:eV F w0 w c kb bc K):Calls prog 39 #[aj (J ⟨kb,0,I⟩)] w λe w'=>e=ax (U R (K.d.jX:Int))/\w'=w:=by
 obtain⟨H,bd,rb,bt,lv,bs,h1,-⟩:=h;exact abK h1
theorem afO(h:eV F w0 w c kb bc K):Calls prog 43 #[aj (J ⟨kb,0,I⟩)] w λe w'=>e=ax (aq (kI K.t.st))/\w'=w:=by
 obtain⟨H,bd,rb,bt,lv,bs,h1,-⟩:=h;exact abL h1
theorem Ss(hr:gi c):bQ c (aH.new c (aM.new 4096)) 0 (144*(aH.new c (aM.new 4096)).d.now):=by
 show bQ c _ 0 0
 exact bQ.new hr (Inv.new 4096 (by decide) (by decide)).big (bI _) rfl
end
end Go.Proofs.YtgmfhkjghmdgiaaGreatDoor
