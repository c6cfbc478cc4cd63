/-
  Several texts as one: DcBase, DcStr, DcErrP, CfRName, DcErr, DcFault, SdWf, DrRight, DrSt, DrNum, DrCut, DrLook, DrNew, DrParts, DrTen, DrLine0, DrLine1, DrLine2, DrLine3, DrLine4, DrLine5, DrGap, DrLine6.
-/
import Derived.Test.YtjjodkjbmgnbeaaGreatDoorP05S
import Derived.Laws.Concat
set_option linter.all false
set_option maxHeartbeats 40000000
set_option maxRecDepth 100000
abbrev mq:=@Go.results_cell_row
open Go renaming Addr→av,Value→aj,World→ah
open Go.Addr renaming mk→ar
open Go.Ending renaming returned→aH
open Go.IntKind renaming i64→I
open Go.Obj renaming cells→ay
open Go.RowKit renaming Hid→ag
open Go.Value renaming agg→a_,bool→aJ,int→af,ownBlock→mC,pointer→ax,slice→ak,string→aB
open Go.World renaming cell?→aL,frozen?→bE,setCell→cZ
open Option renaming none→J,some→U
open Go.Proofs.Tryz
namespace Go.Proofs.YtjjodkjbmgnbeaaGreatDoor
open Go.Extern Go.Extern.Stop Go.RowKit Go.Stop
variable{L b cap cap' f g g' i j k m n nc rb:Nat}{T:TypeId}{V W' w w':ah}{a au:List ByteArray}{c c':aV}{cells old xs:List aj}{cs:Array aj}{e:aG}{es t:List aG}{ev u:aj}{h lw lw' p s:ByteArray}{l:List UInt8}{look:Bs->Option Nat}{vs:List Int}{ws:List Bs}{x:bJ}
def Rj(l:List Int)(sa:Option av)(cap:Nat)(w:ah)(h:bY bc 1 w (ak sa l.length cap) l)(hn:l.length<=1000000):Calls prog 69 #[ak sa l.length cap] w λe w'=>e=aH (aJ (twice l))/\Below w.heap.size w w':=by
 have HL:ag (∀V,Below _ w V->bY _ 1 V _ l):=λV hV=>h.below hV
 have HC:ag (l.length<=cap):=by obtain⟨fw,cap',fL,hle,-⟩:=h;cases fL;exact hle
 go_enter func69,ntmps69
 go_wp2_with fail
 go_loopw [3] (λi wr=>∃k:Nat,k<=l.length/\i=af I k/\Below w.heap.size w wr/\∀j x,j<k->l[j]?=U x->((l.take j).any λy=>decide (x=y))=false) (λi _=>l.length-(intOf i).toNat)
 case atStart=>exact⟨0,cG _,rfl,aC _ _,λj x hj=>absurd hj (by omega)⟩
 case round=>
  obtain⟨k,hk,rfl,hb,hno⟩:=hrel;have HB:ag _:=hb;change ag _ at hno
  by_cases hlt:k<l.length
  ·have k1:(k:Int)<(l.length:Int):=by omega
   have k3:(k:Int)<=(cap:Int):=by have:=HC.o;omega
   have k4:(0:Int)<=(k:Int):=by omega
   have k5:¬(k:Int)<0:=by omega
   obtain⟨x,hx⟩:∃x,l[k]?=U x:=⟨_,bL hlt⟩;obtain⟨g,o,rfl,hc⟩:=Dh (HL wr HB) hx;have c0:=hc k x hx;have HS:ag (∀q,Calls prog 102 #[ak (U (ar g o J)) k cap,af I x] (wr.drewN q) λe w'=>e=aH (aJ ((l.take k).any λy=>decide (x=y)))/\w'=wr.drewN q):=λq=>by
    have hl:(l.take k).length=k:=by simp;omega
    have:=adS (l.take k) x _ cap (wr.drewN q) ⟨_,cap,rfl,by have:=HC.o;omega,λ_=>⟨g,o,rfl,λi y hy j u hu=>by
     match j,hu with
     |0,hu=>
      simp[bc]at hu
      subst hu;have Iy:l[i]?=U y:=by
       rw[ru]at hy
       split at hy
       ·exact hy
       cases hy
      have:=hc i y Iy;simpa using this
     |j+1,hu=>simp[bc]at hu⟩⟩ (by omega)
    rw[hl]at this;exact this
   clear hc;change ag _ at hx
   cases hb:(l.take k).any λy=>decide (x=y)
   ·rw[hb]at HS;go_wp2_with fail
    go_region_held3 (λw'=>w'.cell? ⟨g,o+k,J⟩=U (af I x)) (first|exact c0) (first|(go_at_call 102;refine bw (HS.o _) ?_;rintro e w2 ⟨rfl,rfl⟩))
    all_goals
     go_wp2
     go_roundw
     case rel=>
      refine⟨k+1,by omega,by go_num,cB HB _,λj y hj hy=>?_⟩
      rcases eC j k with h1|h1
      ·exact hno j y h1 hy
      obtain rfl:j=k:=by omega
      rw[hx.o]at hy
      cases hy
      exact hb
     case measure=>simp[intOf];omega
   rw[hb]at HS;have HE:ag (twice l=true):=by
    show _=_
    unfold twice;rw[pC];exact⟨k,by simpa using hlt,by rw[hx.o];exact hb⟩
   go_wp2_with fail
   go_region_held3 (λw'=>w'.cell? ⟨g,o+k,J⟩=U (af I x)) (first|exact c0) (first|(go_at_call 102;refine bw (HS.o _) ?_;rintro e w2 ⟨rfl,rfl⟩))
   all_goals
    go_wp2;go_ret;exact⟨by rw[HE.o];rfl,cB HB _⟩
  have k1:¬(k:Int)<(l.length:Int):=by omega
  have HE:ag (twice l=false):=by
   show _=_
   unfold twice;rw[wq];intro i hi;simp only[pG]at hi;rw[bL hi];show ¬((l.take i).any λy=>decide _)=true
   rw[hno.o i _ (by omega) (bL hi)];simp
  go_wp2;go_ret;exact⟨by rw[HE.o];rfl,HB⟩
def adT{α:Type}{w:ah}{ops:Array Oper}{rest:List Oper}{o:Oper}{a:Act}{Q:Exit->Act->ah->Prop}(hgd:o.guard=J)(s x:Operand)(t:TypeId)
  (ho:o.op=.call { callee:=.builtin .append,args:=#[s,x],argTypes:=#[t,t] })
  (B:Nat) (e:TypeId) (i:TypeInfo) (z:aj) (size bytes:Nat) (ht:prog.underlying t=U (.slice e)) (hi:prog.info? e=U i) (hz:i.zero=U z) (hsize:i.size=size) (hby:i.bytes=bytes) (hzs:z.cells.size=size) (hsz:0<size)
  (enc:α->List aj) (kF:∀x,(enc x).length=size) (h1:∀x,∀u∈enc x,u.oneCell'=true) (va:Option av) (vc:Nat) (ys:List α) (hs:a.eval s=.slice va ys.length vc) (hown:kV enc size e B w (.slice va ys.length vc) ys)
  (v:aj) (xs:List α) (hx:a.eval x=v) (hv:bY enc size w v xs) (hm:xs.length<=1000000) (hn:ys.length<=10000000) (D_:bytes<=1000) (hB:B<=w.heap.size)
  (h:∀fw cap' w',kV enc size e B w' (.slice fw (ys++xs).length cap') (ys++xs)->w.grownBy w' (Value.slice va ys.length vc).ownBlock->wpList prog ops Q rest (a.put o.dst (.slice fw (ys++xs).length cap')) w'):wpList prog ops Q (o::rest) a w:=by
 obtain⟨sa,cap,rfl,hle,hcell⟩:=hv;have adU:ys.length<=vc:=by
  rcases hown.2 with⟨h1,h2⟩|⟨g,Ea,cur,h1,_,_,h2,_⟩
  ·omega
  simp only[Value.slice.injEq]at h1;omega
 by_cases hne:xs=[]
 ·subst hne
  refine wpList_plain hgd λK hK=>?_
  have G9:Src prog i.size t (.slice sa 0 cap) 0 [] w:=by
   cases sa with
   |none=>exact Src.ofNil w ht cap
   |some ad=>exact Src.ofSlice w ht ad 0 cap [] (by simp) (λj u hu=>by simp at hu) (λu hu=>by simp at hu)
  have hr:=run_append_nothing (P:=prog) w t t o.type e i ht hi va _ vc adU _ G9;unfold Oper.wp execOp;simp only[sR]at hx;simp only[ho,resolve,invoke,builtin,kT,uF,sQ,List.map_toArray,wz,List.map_nil,hs,hx,hr];have:=h va vc w (by rw[List.append_nil];exact hown) ⟨rfl,rfl,rfl,aR _,λ_ _ _=>rfl⟩;rw[List.append_nil]at this;exact hK _ _ this
 obtain⟨b,of,rfl,hc⟩:=hcell hne
 refine wpList_append_own w hgd s x t ho B e i z _ _ ht hi hz hsize hby hzs hsz _ _ _ hs hown _ _ cap _ hx (G7 kF xs) (λj u hu=>?_) (λu hu=>?_) (by unfold maxLen;omega) ?_ hB (λv' w' hown' hg sX=>?_)
 ·obtain⟨i',j',y,e1,h2,h3⟩:=G8 kF xs j u hu;have:=hc i' y h2 j' u h3;rw[e1,oM,<- xK];exact this
 ·simp only[List.mem_flatMap]at hu;obtain⟨y,-,hy⟩:=hu;exact h1 y u hy
 ·have:(ys.length+xs.length)*bytes<=11000000*1000:=Nat.mul_le_mul (by omega) D_;omega
 have hl:(ys++xs).length=ys.length+xs.length:=by simp
 have hown2:w'.ownsRow B e size v' (ys++xs).length ((ys++xs).flatMap enc):=by rw[hl,fj];exact hown'
 rcases hown2.2 with⟨rfl,h0⟩|⟨g,Ea,cur,rfl,gT,r⟩
 ·exact absurd (sN h0) (by simp[hne])
 exact h _ _ w' hown2 hg
def sr(l:List lx):List Int:=l.flatMap λg=>[g.fr,g.to]
def xu(l:List (Int×Int)):List Int:=l.flatMap λd=>[d.1,d.2]
def vF(e:aG):List Int:=e.first++e.last++sr e.aP++xu e.aN
def adV(e:aG)(f:Int->Bool):(vF e).any f=(e.first.any f||e.last.any f||(e.aP.any λg=>f g.fr||f g.to)||(e.aN.any λd=>f d.1||f d.2)):=by
 unfold vF sr xu;rw[List.any_append,List.any_append,List.any_append,List.any_flatMap,List.any_flatMap];congr 1
 ·congr 1
  congr 1
  funext g
  simp
 congr 1
 funext d
 simp
def Rk(l:List lx):(sr l).length=2*l.length:=by
 induction l with
 |nil=>rfl
 |cons g t ih=>simp only[sr,wj,sP,wu,sR]at ih⊢;omega
def adW(l:List (Int×Int)):(xu l).length=2*l.length:=by
 induction l with
 |nil=>rfl
 |cons g t ih=>simp only[xu,wj,sP,wu,sR]at ih⊢;omega
def Rm(w:ah)(cs:List aj)(T:TypeId):∀(j:Nat) u,cs[j]?=U u->(w.alloc (ay cs.toArray T)).cell? ((⟨w.heap.size,0,J⟩:av).add j)=U u:=by
 intro j u hu;rw[oM,fE _ _ _ _ rfl];simpa using hu
def Rn(a b:Int):∀u∈([af I a,af I b]:List aj),u.oneCell'=true:=by intro u hu;simp at hu;rcases hu with rfl|rfl<;>rfl
def adX(e:aG)(pa ga ea fa la:Option av)(pc gc ec fc lc:Nat)(w:ah)(hP:lO w e (ak pa e.au.length pc) (ak ga e.aP.length gc) (ak ea e.aN.length ec) (ak fa e.first.length fc) (ak la e.last.length lc))(hS:rB e):Calls prog 68 #[.agg (eR e pa pc ga gc ea ec fa fc la lc)] w λv w'=>v=aH (aJ ((vF e).any λx=>lacks e.au.length x))/\Below w.heap.size w w':=by
 unfold eR;obtain⟨i0,hi,hz0,hz1,hz2⟩:=ma zP;obtain⟨W,hW⟩:∃V,V=w.alloc (ay (eR e pa pc ga gc ea ec fa fc la lc) 60):=⟨_,rfl⟩;have ju:ag (Below w.heap.size w W):=by show Below _ _ _;rw[hW];exact bt _ _
 have HX:ag (∀V,Below W.heap.size W V->∀(j:Nat) u,((eR e pa pc ga gc ea ec fa fc la lc):Array _)[j]?=U u->V.cell? (ar w.heap.size j J)=U u):=λV hV j u hu=>by
  have:=cX hV (show W.heap[w.heap.size]?=_ by rw[hW];exact dT w _);simp[aL,this,hu]
 have HP:ag (∀V,Below _ W V->lO V e _ _ _ _ _):=λV hV=>hP.below (ju.trans (hV.mono ju.size))
 change ag _ at hS
 clear hP;go_enter func68,ntmps68
 go_upto_region 2 with fail
 rw[<- hW];clear hW;have s8:=HX W (aC _ _) 8 _ rfl;go_upto_region 3 with(at_builtin;refine Uv (w:=W) rfl _ _ 58 rfl _ 3 i0 _ 1 8 underlying58 hi hz0 hz1 hz2 rfl (aD rfl) rfl _ (λ_=>rfl) zQ _ _ rfl (HP W (aC _ _)).hf hS.hf (aD rfl) (aR _) ?_;intro adY adZ W1 Ro hb1)
 clear s8;have KO:ag (kV _ 1 3 _ W1 _ _):=Ro;have s9:=HX W1 hb1 9 _ rfl;clear Ro;change ag _ at hb1;go_upto_region 4 with(at_builtin;refine adT (w:=W1) rfl _ _ 58 rfl _ 3 i0 _ 1 8 underlying58 hi hz0 hz1 hz2 rfl (aD rfl) _ (λ_=>rfl) zQ adY adZ _ rfl KO _ _ rfl (HP W1 hb1).hl hS.hl (by have:=hS.hf;omega) (aD rfl) hb1.size ?_;intro ad0 ad1 W2 yR hg2)
 have aO:ag _:=hb1.grown hg2 hb1.size (λj hj=>(KO.lt j hj).1);change ag _ at yR
 clear s9 hg2 KO hb1
 go_cut [4] (λi wx=>i=af I 0/\wx=W2)
 case first=>
  go_wp2
  go_meet
  case rel=>exact⟨rfl,rfl⟩
 obtain⟨rfl,rfl⟩:=hcut;rename ah=>W2
 go_wp2_with fail
 go_loopw [3,4] (λlv iv wx=>∃(k:Nat) (va:Option av) (vc:Nat) (L:List Int),k<=e.aP.length/\iv=af I k/\L=e.first++e.last++sr (e.aP.take k)/\lv=ak va L.length vc/\Below W.heap.size W wx/\wx.ownsRow W.heap.size 3 1 (ak va L.length vc) L.length (L.flatMap bc)) (λ_ i _=>e.aP.length-(intOf i).toNat)
 case atStart=>exact⟨0,ad0,ad1,_,cG _,rfl,by simp[sr],by simp,aO,yR⟩
 case round=>
  clear aO yR;obtain⟨k,va,vc,L,hk,rfl,hL,rfl,gA,wV⟩:=hrel;rename ah=>wx
  have HB:ag _:=gA;have HO:ag (wx.ownsRow _ 3 1 _ _ _):=wV;have HL:ag _:=hL;have uf:ag (L.length<=4000000):=by
   show _<=_
   rw[hL];have h1:=hS.hf;have h2:=hS.hl;have h3:=hS.hg;have h4:=Rk (e.aP.take k);simp at h4⊢
   omega
  clear gA wV hL;have x6:=HX wx HB 6 _ rfl
  by_cases hlt:k<e.aP.length
  ·have k1:(k:Int)<(e.aP.length:Int):=by omega
   have k2:k<1000000:=by have:=hS.hg;omega
   obtain⟨q,hq⟩:∃q,e.aP[k]?=U q:=⟨_,bL hlt⟩;obtain⟨fw,cap',fL,-,hcc⟩:=(HP wx HB).hg
   cases fL
   obtain⟨g,o,rfl,hc0⟩:=hcc (λh=>by rw[h]at hq;simp at hq);have c0:wx.cell? ⟨g,o+k*4,_⟩=U _:=hc0 k _ hq 0 _ rfl;have c1:=hc0 k _ hq 1 _ rfl;have HN:ag (L++[q.fr,q.to]=e.first++e.last++sr (e.aP.take (k+1))):=by
    show _=_
    rw[HL.o,qE,hq];simp[sr]
   have hown:wx.drew.ownsRow _ 3 1 _ _ _:=HO.o;have mf:=HB.size;have ad2:=uf.o;have KL:ag (∀(ob:Obj) (w8:ah),(wx.drew.alloc ob).grownBy w8 (Value.slice va L.length vc).ownBlock->Below W.heap.size W w8):=λob w8 hg=>by
    have h1:Below _ W (wx.drew.alloc ob):=HB.drew.alloc (by simp;omega) _;exact h1.grown hg h1.size (λi hi=>(HO.lt i hi).1)
   clear hcc hc0 hq;go_wp2_with fail
   go_region_law (refine qa _ rfl _ _ 58 rfl _ 3 i0 _ 1 8 underlying58 hi hz0 hz1 hz2 rfl (aD rfl) (ak va L.length vc) L.length (L.flatMap bc) (by simp[Act.eval]) (hown.alloc _) ⟨wx.heap.size,0,.none⟩ 2 2 [af I q.fr,af I q.to] (by simp[Act.eval]) rfl (Rm wx.drew [af I q.fr,af I q.to] 3) (Rn q.fr q.to) (aD rfl) (by unfold maxLen;omega) (by omega) (by simp;omega) (wx.heap.size+1) (by simp) ?_;intro g' cap' w8 fG cv iD o9)
   all_goals
    have H8:ag _:=KL _ _ cv;have Di:ag (w8.ownsRow W.heap.size 3 1 (ak (U (ar g' 0 J)) (L++[q.fr,q.to]).length cap') (L++[q.fr,q.to]).length ((L++[q.fr,q.to]).flatMap bc)):=by
     show World.ownsRow _ _ _ _ _ _ _
     rw[sP,fj];exact fG
    clear cv fG iD o9 KL;go_wp2
    go_roundw
    case rel=>exact⟨_,_,_,_,by omega,by go_num,HN,by simp,H8,Di⟩
    case measure=>simp[intOf];omega
  have k1:¬(k:Int)<(e.aP.length:Int):=by omega
  have A6:ag (L=e.first++e.last++sr e.aP):=by show _=_;rw[HL.o,List.take_of_length_le (by omega)]
  clear HL;go_upto_region 8 with fail
  go_cut [5] (λi wv=>i=af I 0/\wv=wx)
  case first=>
   go_wp2
   go_meet
   case rel=>exact⟨rfl,rfl⟩
  obtain⟨rfl,rfl⟩:=hcut;rename ah=>wx
  clear x6 hlt k1;go_wp2_with fail
  go_loopw [3,5] (λlv iv wy=>∃(k:Nat) (va:Option av) (vc:Nat) (M:List Int),k<=e.aN.length/\iv=af I k/\M=e.first++e.last++sr e.aP++xu (e.aN.take k)/\lv=ak va M.length vc/\Below W.heap.size W wy/\wy.ownsRow W.heap.size 3 1 (ak va M.length vc) M.length (M.flatMap bc)) (λ_ i _=>e.aN.length-(intOf i).toNat)
  case atStart=>exact⟨0,va,vc,L,cG _,rfl,by rw[A6.o];simp[xu],rfl,HB,HO⟩
  case round=>
   clear HB HO uf A6;clear hk;obtain⟨k,va,vc,L,hk,rfl,hL,rfl,gA,wV⟩:=hrel;rename ah=>wx
   change ag _ at gA
   have HO:ag (wx.ownsRow _ 3 1 _ _ _):=wV;have uf:ag (L.length<=7000000):=by
    show _<=_
    rw[hL];have h1:=hS.hf;have h2:=hS.hl;have h3:=hS.hg;have h4:=Rk e.aP;have h5:=hS.he;have h6:=adW (e.aN.take k);simp at h4 h6⊢
    omega
   clear wV;change ag _ at hL;have x7:=HX wx gA 7 _ rfl
   by_cases hlt:k<e.aN.length
   ·have k1:(k:Int)<(e.aN.length:Int):=by omega
    have k2:k<1000000:=by have:=hS.he;omega
    obtain⟨q,hq⟩:∃q,e.aN[k]?=U q:=⟨_,bL hlt⟩;obtain⟨fw,cap',fL,-,hcc⟩:=(HP wx gA).he
    cases fL
    obtain⟨g,o,rfl,hc0⟩:=hcc (λh=>by rw[h]at hq;simp at hq);have c0:wx.cell? ⟨g,o+k*2,_⟩=U _:=hc0 k _ hq 0 _ rfl;have c1:=hc0 k _ hq 1 _ rfl;have HN:ag (L++[q.1,q.2]=e.first++e.last++sr e.aP++xu (e.aN.take (k+1))):=by
     show _=_
     rw[hL.o,qE,hq];simp[xu]
    have hown:wx.drew.ownsRow _ 3 1 _ _ _:=HO.o;have mf:=gA.size;have ad2:=uf.o;have KL:ag (∀(ob:Obj) (w8:ah),(wx.drew.alloc ob).grownBy w8 (Value.slice va L.length vc).ownBlock->Below W.heap.size W w8):=λob w8 hg=>by
     have h1:Below W.heap.size W (wx.drew.alloc ob):=gA.drew.alloc (by simp;omega) _;exact h1.grown hg h1.size (λi hi=>(HO.lt i hi).1)
    clear hcc hc0 hq;go_wp2_with fail
    go_region_law (refine qa _ rfl _ _ 58 rfl _ 3 i0 _ 1 8 underlying58 hi hz0 hz1 hz2 rfl (aD rfl) (ak va L.length vc) L.length (L.flatMap bc) (by simp[Act.eval]) (hown.alloc _) ⟨wx.heap.size,0,.none⟩ 2 2 [af I q.1,af I q.2] (by simp[Act.eval]) rfl (Rm wx.drew [af I q.1,af I q.2] 3) (Rn q.1 q.2) (aD rfl) (by unfold maxLen;omega) (by omega) (by simp;omega) (wx.heap.size+1) (by simp) ?_;intro g' cap' w8 fG cv iD o9)
    all_goals
     have H8:ag _:=KL _ _ cv;have Di:ag (w8.ownsRow W.heap.size 3 1 (ak (U (ar g' 0 J)) (L++[q.1,q.2]).length cap') (L++[q.1,q.2]).length ((L++[q.1,q.2]).flatMap bc)):=by
      show World.ownsRow _ _ _ _ _ _ _
      rw[sP,fj];exact fG
     clear cv fG iD o9 KL;go_wp2
     go_roundw
     case rel=>exact⟨_,_,_,_,by omega,by go_num,HN,by simp,H8,Di⟩
     case measure=>simp[intOf];omega
   have k1:¬(k:Int)<(e.aN.length:Int):=by omega
   have A6:ag (L=vF e):=by show _=_;rw[hL.o,List.take_of_length_le (by omega)];rfl
   clear hL;go_upto_region 12 with fail
   go_cut [6] (λi wv=>i=af I 0/\wv=wx)
   case first=>
    go_wp2
    go_meet
    case rel=>exact⟨rfl,rfl⟩
   obtain⟨rfl,rfl⟩:=hcut;rename ah=>wx
   clear x7 hlt k1 hk;go_wp2_with fail
   go_loopw [6] (λiv wy=>∃(k:Nat),k<=L.length/\iv=af I k/\Below wx.heap.size wx wy/\∀j x,j<k->L[j]?=U x->lacks e.au.length x=false) (λi _=>L.length-(intOf i).toNat)
   case atStart=>exact⟨0,cG _,rfl,aC _ _,λj x hj=>absurd hj (by omega)⟩
   case round=>
    obtain⟨k,hk,rfl,hby,hno⟩:=hrel;rename ah=>wy
    change ag _ at hno
    have dW:ag _:=(ju.trans (gA.mono ju.size)).trans (hby.mono (bH ju.size gA.size));have x2:=HX wy (gA.trans (hby.mono gA.size)) 2 _ rfl;change ag _ at hby
    by_cases hlt:k<L.length
    ·have k1:(k:Int)<(L.length:Int):=by omega
     have k2:k<7000000:=by have:=uf.o;omega
     obtain⟨x,hx⟩:∃x,L[k]?=U x:=⟨_,bL hlt⟩;obtain⟨g,o,rfl,hcc⟩:∃g o,va=U ⟨g,o,J⟩/\wy.cell? ⟨g,o+k,J⟩=U (af I x):=by
      obtain⟨g,o,e1,e2⟩:=Dh (kV.xM (enc:=bc) (show kV _ 1 3 _ wx _ L from HO.o) (λ_=>rfl)) hx;exact⟨g,o,e1,aA hby (e2 k x hx)⟩
     change ag _ at hx
     by_cases g1:x<0
     ·have HE:ag (((vF e).any λx=>lacks e.au.length x)=true):=by
       show _=_
       rw[<- A6.o,pC];exact⟨x,fQ hx.o,by unfold lacks;rw[bz g1];rfl⟩
      go_wp2_with fail
      go_quiet (fail)
      go_wp2;go_ret;exact⟨by rw[HE.o];rfl,cB dW _⟩
     by_cases g2:(e.au.length:Int)<=x
     ·have HE:ag (((vF e).any λx=>lacks e.au.length x)=true):=by
       show _=_
       rw[<- A6.o,pC];exact⟨x,fQ hx.o,by unfold lacks;rw[bz g2,Bool.or_true]⟩
      go_wp2_with fail
      go_quiet (fail)
      go_wp2;go_ret;exact⟨by rw[HE.o];rfl,cB dW _⟩
     go_wp2_with fail
     go_quiet (fail)
     go_wp2
     go_roundw
     case rel=>
      refine⟨k+1,by omega,by go_num,cB hby _,λj y hj hy=>?_⟩
      rcases eC j k with h1|h1
      ·exact hno j y h1 hy
      obtain rfl:j=k:=by omega
      rw[hx.o]at hy
      cases hy
      unfold lacks;rw[bX (p:=x<0) (by omega),bX (p:=(e.au.length:Int)<=x) (by omega)];rfl
     case measure=>simp[intOf];omega
    have k1:¬(k:Int)<(L.length:Int):=by omega
    have HE:ag (((vF e).any λx=>lacks e.au.length x)=false):=by
     show _=_
     rw[<- A6.o,wq];intro y hy;obtain⟨j,hj⟩:=zf hy;have wW:j<L.length:=by
      rcases eC j L.length with h'|h'
      ·exact h'
      rw[ny h']at hj;cases hj
     rw[hno.o j y (by omega) hj];simp
    go_wp2;go_ret;exact⟨by rw[HE.o];rfl,dW⟩
section
def KP:∀(l1 a l2:List ByteArray),dI a (l1++l2)=if dI a l1=0 then dI (a++l1) l2 else dI a l1
 |[],a,l2=>by simp[dI]
 |p::t,a,l2=>by
  rw[rp,show dI a _=if dC a p=0 then dI _ _ else dC a p from rfl,show dI a _=if dC a p=0 then dI _ t else dC a p from rfl]
  by_cases h:dC a p=0
  ·rw[aU h,aU h,KP t _ l2,List.append_assoc];rfl
  rw[aF h,aF h,aF h]
def ad3{α:Type}{l:List α}{x:α}(h:l[k]?=U x):l=l.take k++x::l.drop (k+1):=by
 have hk:k<l.length:=by
  rcases eC k l.length with h'|h'
  ·exact h'
  rw[ny h']at h;cases h
 have e2:l.drop k=x::l.drop (k+1):=by
  rw[lM hk];rw[bL hk]at h
  cases h;rfl
 rw[<- e2,List.take_append_drop]
def Rp(hk:au[k]?=U p)(h0:dI [] (au.take k)=0)(hb:dC (au.take k) p≠0):dI [] au=dC (au.take k) p:=by
 have e:=KP (au.take k) [] (p::au.drop (k+1));rw[<- ad3 hk,aU h0,Ax]at e;rw[e];unfold dI;rw[aF hb]
def ad4(hk:au[k]?=U p)(h0:dI [] (au.take k)=0)(hb:dC (au.take k) p=0):dI [] (au.take (k+1))=0:=by
 rw[qE,hk];show dI [] (au.take k++[p])=0
 rw[KP,aU h0,Ax];simp[dI,hb]
def Ga(h:isName s=false):dC a s=4:=by unfold dC;rw[aF (by rw[h];simp)]
def Rq(h:isName s=true)(h2:(a.any λx=>decide (x=s))=true):dC a s=6:=by unfold dC;rw[aU h,aU h2]
def Rs(h:isName s=true)(h2:(a.any λx=>decide (x=s))=false):dC a s=0:=by unfold dC;rw[aU h,aF (by rw[h2];simp)]
def Rt(hk:au[k]?=U p):(idxOf au p<(k:Int))↔((au.take k).any λx=>decide (x=p))=true:=by
 have ahl:k<au.length:=by
  rcases eC k au.length with h'|h'
  ·exact h'
  rw[ny h']at hk;cases hk
 rw[pC];unfold idxOf
 cases hf:au.findIdx? (λy=>decide (y=p))with
 |none=>
  rw[List.findIdx?_eq_none_iff]at hf;have:=hf p (fQ hk);simp at this
 |some i=>
  rw[List.findIdx?_eq_some_iff_getElem]at hf;obtain⟨hi,h1,h2⟩:=hf
  constructor
  ·intro hlt;have ad5:i<k:=by simpa using hlt
   refine⟨_,?_,h1⟩;have:(au.take k)[i]?=U au[i]:=by rw[ru,aU ad5,bL hi]
   exact fQ this
  rintro⟨x,hx,e⟩;obtain⟨j,hj⟩:=zf hx;rw[ru]at hj
  split at hj
  ·rename_i hjk
   rcases eC i k with h'|h'
   ·simpa using h'
   exfalso
   have h3:=h2 j (by omega);obtain⟨wW,e2⟩:=eK.1 hj;rw[e2]at h3;exact absurd e (by simpa using h3)
  cases hj
variable {na:List ByteArray}{e:aG}
def Ru(h:dC na e.name≠0):bR na e=dC na e.name:=by unfold bR;rw[aU h]
def ad6(h:dC na e.name=0)(h2:jK e≠0):bR na e=jK e:=by unfold bR;rw[aF (by simp[h]),aU h2]
def Rv(h:dC na e.name=0)(h2:jK e=0)(h3:dI [] e.au≠0):bR na e=dI [] e.au:=by unfold bR;rw[aF (by simp[h]),aF (by simp[h2]),aU h3]
def ad7(h:dC na e.name=0)(h2:jK e=0)(h3:dI [] e.au=0):bR na e=qB e:=by unfold bR;rw[aF (by simp[h]),aF (by simp[h2]),aF (by simp[h3])]
def Rw(h:(!within e.aW 0 20||decide (16<e.au.length)||decide (8<e.aP.length)||decide (64<e.aN.length)||decide (16<e.first.length)||decide (16<e.last.length))=true):jK e=2:=by
 unfold jK;simp only[dH]
 repeat' split
 all_goals first|rfl|simp_all
def ad8(h1:within e.aW 0 20=true)(h2:¬16<e.au.length)(h3:¬8<e.aP.length)(h4:¬64<e.aN.length)(h5:¬16<e.first.length)(h6:¬16<e.last.length):jK e=0:=by
 unfold jK;simp only[dH,h1,bX h2,bX h3,bX h4,bX h5,bX h6];rfl
def xw(e:aG):Bool:=decide (e.cnt≠-1)&&lacks e.au.length e.cnt
def Gb(e:aG):Bool:=(vF e).any λx=>lacks e.au.length x
def A7(e:aG):Bool:=decide (e.cnt=-1)&&(decide (e.mn≠0)||decide (e.mx≠0))
def vG(e:aG):Bool:=!iH 0 e.mn e.mx 999
def Dj(e:aG):Bool:=e.aP.any λg=>!iH 0 g.mn g.mx 1099511627776
def ug(e:aG):Bool:=decide (0<e.aN.length)&&decide (e.first.length=0)
def xx(e:aG):Bool:=decide (e.aN.length=0)&&decide (0<e.first.length+e.last.length)
def ra(e:aG):qB e=dH [(xw e,5),(Gb e,5),(A7 e,3),(vG e,2),(Dj e,2),(twice e.aN,6),(twice e.first,6),(twice e.last,6),(ug e,3),(xx e,3)]:=by
 have hs:Gb e=(e.first.any _||e.last.any _||(e.aP.any λg=>lacks _ _||lacks _ _)||(e.aN.any λd=>lacks _ d.1||lacks _ d.2)):=adV e _;unfold qB;rw[hs];show dH ((xw e,5)::_)=dH _
 unfold dH
 split
 ·rfl
 show dH _=dH _
 generalize (e.aP.any λg=>lacks e.au.length g.fr||lacks e.au.length g.to)=a;generalize (e.aN.any λd=>lacks e.au.length d.1||lacks e.au.length d.2)=b;generalize (e.first.any λx=>lacks e.au.length x)=c;generalize (e.last.any λx=>lacks e.au.length x)=d
 cases a<;>cases b<;>cases c<;>cases d<;>rfl
end
def Rx(s:ByteArray)(w:ah)(hs:s.size<=1000000):Calls prog 67 #[aB s] w λe w'=>e=aH (aJ (isName s))/\w'=w:=by
 by_cases h1:s.size<1
 ·have HY:ag _:=Ha (cF h1);have g1:(s.size:Int)<1:=by omega
  clear h1;go_enter func67,ntmps67
  go_wp2;go_ret;exact⟨by first|rfl|(rw[HY.o];rfl),rfl⟩
 have g1:¬(s.size:Int)<1:=by omega
 by_cases h2:12<s.size
 ·have HY:ag _:=Ha (bk h2);have g2:(12:Int)<(s.size:Int):=by omega
  clear h1 h2;go_enter func67,ntmps67
  go_wp2;go_ret;exact⟨by first|rfl|(rw[HY.o];rfl),rfl⟩
 have g2:¬(12:Int)<(s.size:Int):=by omega
 have HZ:ag (1<=s.size/\s.size<=12):=⟨by omega,by omega⟩;clear h1 h2 hs;go_enter func67,ntmps67
 go_wp2_with fail
 clear g1 g2
 go_loopw [3,4,5] (λi _ _ wr=>∃k:Nat,k<=s.size/\i=af I k/\wr=w/\ag ((∀j,j<k->gP (s.data.toList.getD j 0)=true)/\(0<k->lL (s.data.toList.getD 0 0)=true))) (λi _ _ _=>s.size-(intOf i).toNat)
 case atStart=>exact⟨0,cG _,rfl,rfl,⟨λj hj=>absurd hj (im _),λh=>absurd h (rL _)⟩⟩
 case round=>
  obtain⟨k,hk,rfl,rfl,HA⟩:=hrel
  by_cases hlt:k<s.size
  ·have k1:(k:Int)<(s.size:Int):=by omega
   have k2:(0:Int)<=(k:Int):=by omega
   have Hb:k<12:=by have:=HZ.2;omega
   have HB:ag _:=byte_at s k hlt;have HY:ag _:=λh=>Mf hlt h
   have A8:ag (lL _=false->isName s=false):=λh=>Me h
   have hstep:∀(hb:gP (s.data.toList.getD k 0)=true) (hl:k=0->lL (s.data.toList.getD 0 0)=true),(∀j,j<k+1->gP (s.data.toList.getD j 0)=true)/\(0<k+1->lL (s.data.toList.getD 0 0)=true):=λhb hl=>by
    refine⟨λj hj=>?_,λ_=>?_⟩
    ·by_cases e:j=k
     ·rw[e];exact hb
     exact HA.1 j (by omega)
    by_cases e:k=0
    ·exact hl e
    exact HA.2 (by omega)
   change ag _ at hstep
   generalize hcc:s[k]=c at *;have HC:ag _:=HB.o;have hv:=c.toNat_lt
   by_cases b1:97<=c.toNat/\c.toNat<=122
   ·have n1:(97:Int)<=(c.toNat:Int):=by omega
    have n2:(c.toNat:Int)<=122:=by omega
    have HL:ag (lL c=true):=by show _=_;simp[lL];omega
    clear b1 hv;go_wp2;go_roundw
    case rel=>
     refine⟨_,by omega,by go_num,by first|trivial|rfl,hstep ?_ ?_⟩
     ·rw[<- HC.o];have:=HL.o;simp[gP,this]
     rintro rfl;rw[<- HC.o];exact HL
    case measure=>simp[intOf];omega
   have HL:ag (lL c=false):=by show _=_;simp[lL];omega
   by_cases q0:c.toNat<45
   ·have n0:¬(97:Int)<=(c.toNat:Int):=by omega
    have n1:¬(48:Int)<=(c.toNat:Int):=by omega
    have n9:((c.toNat:Int)==45)=false:=by rw[lN];omega
    have HO:ag (gP c=false):=by show _=_;have:=HL.o;simp[gP,this,gO];omega
    clear b1 hv q0
    by_cases df:k=0
    ·have HF:ag _:=A8 (by have h2:=HC.o;rw[df]at h2;rw[<- h2];exact HL);have kz:((k:Int)==0)=true:=by rw[og];omega
     clear df;go_wp2;go_ret;exact⟨by first|rfl|(rw[HF.o];rfl),by first|trivial|rfl⟩
    have kz:((k:Int)==0)=false:=by rw[lN];omega
    have zx:ag (¬k=0):=df;clear df;have HF:ag _:=HY (by rw[<- HC.o];exact HO);go_wp2;go_ret;exact⟨by first|rfl|(rw[HF.o];rfl),by first|trivial|rfl⟩
   by_cases q1:c.toNat=45
   ·have n0:¬(97:Int)<=(c.toNat:Int):=by omega
    have n1:¬(48:Int)<=(c.toNat:Int):=by omega
    have n9:((c.toNat:Int)==45)=true:=by rw[og];omega
    have HO:ag (gP c=true):=by show _=_;have:=HL.o;simp[gP,this,gO];omega
    clear b1 hv q0 q1
    by_cases df:k=0
    ·have HF:ag _:=A8 (by have h2:=HC.o;rw[df]at h2;rw[<- h2];exact HL);have kz:((k:Int)==0)=true:=by rw[og];omega
     clear df;go_wp2;go_ret;exact⟨by first|rfl|(rw[HF.o];rfl),by first|trivial|rfl⟩
    have kz:((k:Int)==0)=false:=by rw[lN];omega
    have zx:ag (¬k=0):=df;clear df;go_wp2;go_roundw
    case rel=>exact⟨_,by omega,by go_num,by first|trivial|rfl,hstep (by rw[<- HC.o];exact HO) (λh=>absurd h zx)⟩
    case measure=>simp[intOf];omega
   by_cases q2:c.toNat<48
   ·have n0:¬(97:Int)<=(c.toNat:Int):=by omega
    have n1:¬(48:Int)<=(c.toNat:Int):=by omega
    have n9:((c.toNat:Int)==45)=false:=by rw[lN];omega
    have HO:ag (gP c=false):=by show _=_;have:=HL.o;simp[gP,this,gO];omega
    clear b1 hv q0 q1 q2
    by_cases df:k=0
    ·have HF:ag _:=A8 (by have h2:=HC.o;rw[df]at h2;rw[<- h2];exact HL);have kz:((k:Int)==0)=true:=by rw[og];omega
     clear df;go_wp2;go_ret;exact⟨by first|rfl|(rw[HF.o];rfl),by first|trivial|rfl⟩
    have kz:((k:Int)==0)=false:=by rw[lN];omega
    have zx:ag (¬k=0):=df;clear df;have HF:ag _:=HY (by rw[<- HC.o];exact HO);go_wp2;go_ret;exact⟨by first|rfl|(rw[HF.o];rfl),by first|trivial|rfl⟩
   by_cases q3:c.toNat<=57
   ·have n0:¬(97:Int)<=(c.toNat:Int):=by omega
    have n1:(48:Int)<=(c.toNat:Int):=by omega
    have n2:(c.toNat:Int)<=57:=by omega
    have HO:ag (gP c=true):=by show _=_;have:=HL.o;simp[gP,this,gO];omega
    clear b1 hv q0 q1 q2 q3
    by_cases df:k=0
    ·have HF:ag _:=A8 (by have h2:=HC.o;rw[df]at h2;rw[<- h2];exact HL);have kz:((k:Int)==0)=true:=by rw[og];omega
     clear df;go_wp2;go_ret;exact⟨by first|rfl|(rw[HF.o];rfl),by first|trivial|rfl⟩
    have kz:((k:Int)==0)=false:=by rw[lN];omega
    have zx:ag (¬k=0):=df;clear df;go_wp2;go_roundw
    case rel=>exact⟨_,by omega,by go_num,by first|trivial|rfl,hstep (by rw[<- HC.o];exact HO) (λh=>absurd h zx)⟩
    case measure=>simp[intOf];omega
   by_cases q4:c.toNat<97
   ·have n0:¬(97:Int)<=(c.toNat:Int):=by omega
    have n1:(48:Int)<=(c.toNat:Int):=by omega
    have n2:¬(c.toNat:Int)<=57:=by omega
    have n9:((c.toNat:Int)==45)=false:=by rw[lN];omega
    have HO:ag (gP c=false):=by show _=_;have:=HL.o;simp[gP,this,gO];omega
    clear b1 hv q0 q1 q2 q3 q4
    by_cases df:k=0
    ·have HF:ag _:=A8 (by have h2:=HC.o;rw[df]at h2;rw[<- h2];exact HL);have kz:((k:Int)==0)=true:=by rw[og];omega
     clear df;go_wp2;go_ret;exact⟨by first|rfl|(rw[HF.o];rfl),by first|trivial|rfl⟩
    have kz:((k:Int)==0)=false:=by rw[lN];omega
    have zx:ag (¬k=0):=df;clear df;have HF:ag _:=HY (by rw[<- HC.o];exact HO);go_wp2;go_ret;exact⟨by first|rfl|(rw[HF.o];rfl),by first|trivial|rfl⟩
   have n0:(97:Int)<=(c.toNat:Int):=by omega
   have n1:¬(c.toNat:Int)<=122:=by omega
   have n2:(48:Int)<=(c.toNat:Int):=by omega
   have n3:¬(c.toNat:Int)<=57:=by omega
   have n9:((c.toNat:Int)==45)=false:=by rw[lN];omega
   have HO:ag (gP c=false):=by show _=_;have:=HL.o;simp[gP,this,gO];omega
   clear b1 hv q0 q1 q2 q3 q4
   by_cases df:k=0
   ·have HF:ag _:=A8 (by have h2:=HC.o;rw[df]at h2;rw[<- h2];exact HL);have kz:((k:Int)==0)=true:=by rw[og];omega
    clear df;go_wp2;go_ret;exact⟨by first|rfl|(rw[HF.o];rfl),by first|trivial|rfl⟩
   have kz:((k:Int)==0)=false:=by rw[lN];omega
   have zx:ag (¬k=0):=df;clear df;have HF:ag _:=HY (by rw[<- HC.o];exact HO);go_wp2;go_ret;exact⟨by first|rfl|(rw[HF.o];rfl),by first|trivial|rfl⟩
  have k1:¬(k:Int)<(s.size:Int):=by omega
  have HY:ag _:=Mg HZ.1 HZ.2 (HA.2 (by have:=HZ.1;omega)) (λj hj=>HA.1 j (by omega));go_wp2;go_ret;exact⟨by first|rfl|(rw[HY.o];rfl),by first|trivial|rfl⟩
def zy{na:List ByteArray}(h0:dC na e.name=0)(h:(!within e.aW 0 20||decide (16<e.au.length)||decide (8<e.aP.length)||decide (64<e.aN.length)||decide (16<e.first.length)||decide (16<e.last.length))=true):bR na e=2:=by
 rw[ad6 h0 (by rw[Rw h];decide),Rw h]
def ad9(es:List aG)(sa:Option av)(sc i:Nat)(e:aG)(w:ah)(hE:iJ w (ak sa es.length sc) es)(he:es[i]?=U e)(hS:∀e∈es,rB e)(hn:es.length<=1000000):Calls prog 35 #[ak sa es.length sc,af I (i:Int)] w λv w'=>v=aH (af I (bR ((es.take i).map (·.name)) e))/\Below w.heap.size w w':=by
 have yE:i<es.length:=by
  rcases eC i es.length with h'|h'
  ·exact h'
  rw[ny h']at he;cases he
 obtain⟨na,g_⟩:∃na,na=(es.take i).map (·.name):=⟨_,rfl⟩;obtain⟨fw,cap',fL,hcc⟩:=id hE
 cases fL
 obtain⟨b,o,rfl,hc⟩:=hcc (λh=>by rw[h]at he;simp at he);obtain⟨pv,gv,ev,fv,lv,hP,hcell⟩:=hc i e he;obtain⟨pa,pc,rfl,-⟩:=id hP.hp;obtain⟨ga,gc,rfl,-⟩:=id hP.hg;obtain⟨ea,ec,rfl,-⟩:=id hP.he;obtain⟨fa,fc,rfl,-⟩:=id hP.hf;obtain⟨la,lc,rfl,-⟩:=id hP.hl;have su:ag (rB e/\∀e∈es,rB e):=⟨hS e (fQ he),hS⟩;have Ry:ag (na=(es.take i).map (·.name)):=g_;have ad_:ag (∀k e',es[k]?=U e'->w.cell? ⟨b,o+k*10,J⟩=U (aB e'.name)):=λk e' vg=>by
  obtain⟨pv,gv,ev,fv,lv,-,hc2⟩:=hc k e' vg;have:=hc2 0 (aB e'.name) rfl;simpa using this
 rw[<- g_];have z0:=hcell 0 (aB e.name) rfl;have z1:=hcell 1 (af I e.aW) rfl;have z2:=hcell 2 (ak pa e.au.length pc) rfl;have z3:=hcell 3 (af I e.cnt) rfl;have z4:=hcell 4 (af I e.mn) rfl;have z5:=hcell 5 (af I e.mx) rfl;have z6:=hcell 6 (ak ga e.aP.length gc) rfl;have z7:=hcell 7 (ak ea e.aN.length ec) rfl;have z8:=hcell 8 (ak fa e.first.length fc) rfl;have z9:=hcell 9 (ak la e.last.length lc) rfl;simp only[qF]at z0;have i1:(i:Int)<(es.length:Int):=by omega
 obtain⟨W,hW⟩:∃V,V=w.alloc (ay #[aB e.name,af I e.aW,ak pa e.au.length pc,af I e.cnt,af I e.mn,af I e.mx,ak ga e.aP.length gc,ak ea e.aN.length ec,ak fa e.first.length fc,ak la e.last.length lc] 60):=⟨_,rfl⟩;have ju:ag (Below w.heap.size w W):=by show Below _ _ _;rw[hW];exact bt _ _
 have dW:ag (∀V,Below W.heap.size W V->Below w.heap.size w V):=λV hV=>ju.trans (hV.mono ju.size)
 have HX:ag (∀V,Below W.heap.size W V->∀(j:Nat) u,(#[aB e.name,af I e.aW,ak pa e.au.length pc,af I e.cnt,af I e.mn,af I e.mx,ak ga e.aP.length gc,ak ea e.aN.length ec,ak fa e.first.length fc,ak la e.last.length lc]:Array aj)[j]?=U u->V.cell? (ar w.heap.size j J)=U u):=λV hV j u hu=>by
  have:=cX hV (show W.heap[w.heap.size]?=_ by rw[hW];exact dT w _);simp[aL,this,hu]
 have eF:ag (∀V,Below W.heap.size W V->V.heap[w.heap.size]?=U (ay #[aB e.name,af I e.aW,ak pa e.au.length pc,af I e.cnt,af I e.mn,af I e.mx,ak ga e.aP.length gc,ak ea e.aN.length ec,ak fa e.first.length fc,ak la e.last.length lc] 60 (0,0))):=λV hV=>cX hV (by rw[hW];exact dT w _)
 have HP:ag (∀V,Below W.heap.size W V->lO V e (ak pa e.au.length pc) (ak ga e.aP.length gc) (ak ea e.aN.length ec) (ak fa e.first.length fc) (ak la e.last.length lc)):=λV hV=>hP.below (dW V hV)
 clear hP hS hcell hc hcc hE g_;go_enter func35,ntmps35
 go_upto_region 2 with fail
 rw[<- hW];clear hW z0 z1 z2 z3 z4 z5 z6 z7 z8 z9;have y0:=HX W (aC _ _) 0 _ rfl;go_wp2_with fail
 apply(Rx e.name W su.1.hn).mono;rintro v w1 ⟨rfl,nQ⟩
 cases nQ
 cases Gc:isName e.name
 ·have HE:ag (bR na e=4):=by show _=_;rw[Ru (by rw[Ga Gc];decide),Ga Gc]
  go_wp2;go_ret;exact⟨by rw[HE.o];rfl,ju⟩
 have Rz:ag (isName e.name=true):=Gc;clear Gc;go_upto_region 5 with fail
 go_cut [7] (λi wx=>i=af I 0/\wx=W)
 case first=>
  go_wp2
  go_meet
  case rel=>exact⟨rfl,rfl⟩
 obtain⟨rfl,rfl⟩:=hcut;rename ah=>W
 clear y0;go_wp2_with fail
 go_loopw [7] (λiv wx=>∃(k:Nat),k<=i/\iv=af I k/\Below W.heap.size W wx/\∀j e',j<k->es[j]?=U e'->e'.name≠e.name) (λiv _=>i-(intOf iv).toNat)
 case atStart=>exact⟨0,cG _,rfl,aC _ _,λj e' hj=>absurd hj (by omega)⟩
 case round=>
  obtain⟨k,hk,rfl,gA,hno⟩:=hrel;rename ah=>wx
  have HB:ag (Below W.heap.size W wx):=gA;have mZ:ag (∀j e',j<k->es[j]?=U e'->e'.name≠e.name):=hno;clear gA hno
  by_cases hlt:k<i
  ·have k1:(k:Int)<(i:Int):=by omega
   have k2:(k:Int)<(es.length:Int):=by omega
   obtain⟨q,hq⟩:∃q,es[k]?=U q:=⟨_,bL (by omega)⟩;have HQ:ag (es[k]?=U q):=hq;have c0:=aA (dW wx HB) (ad_ k q hq);have y0:=HX wx HB 0 _ rfl;clear hq
   by_cases A9:q.name=e.name
   ·have HE:ag (bR na e=6):=by
     have h6:dC na e.name=6:=Rq Rz (by
      rw[Ry.o,pC]
      refine⟨q.name,pJ.2 ⟨q,?_,rfl⟩,by simp[A9]⟩;have:(es.take i)[k]?=U q:=by rw[ru,aU hlt];exact HQ
      exact fQ this)
     show _=_
     rw[Ru (by rw[h6];decide),h6]
    rw[A9]at c0;clear A9;go_wp2_with fail
    go_quiet (fail)
    go_wp2;go_ret;exact⟨by rw[HE.o];rfl,dW _ (cB HB _)⟩
   have n1:=(F_ A9).1;have n2:=(F_ A9).2;go_wp2_with fail
   go_quiet (fail)
   go_wp2
   go_roundw
   case rel=>
    refine⟨k+1,by omega,by go_num,cB HB _,λj y hj hy=>?_⟩
    rcases eC j k with h1|h1
    ·exact mZ j y h1 hy
    obtain rfl:j=k:=by omega
    rw[HQ.o]at hy
    cases hy
    exact A9
   case measure=>simp[intOf];omega
  have k1:¬(k:Int)<(i:Int):=by omega
  obtain rfl:k=i:=by omega
  have sw:ag (dC na e.name=0):=Rs Rz (by
   rw[Ry.o,wq];intro x hx;obtain⟨q,hq,rfl⟩:=pJ.1 hx;obtain⟨j,hj⟩:=zf hq;rw[ru]at hj
   split at hj
   ·rename_i hjk;simpa using mZ.o j q hjk hj
   cases hj)
  clear mZ hlt hk;have y1:=HX wx HB 1 _ rfl;have y2:=HX wx HB 2 _ rfl;have y6:=HX wx HB 6 _ rfl;have y7:=HX wx HB 7 _ rfl;have y8:=HX wx HB 8 _ rfl;have y9:=HX wx HB 9 _ rfl;go_upto_region 10 with fail
  by_cases t1:e.aW<0
  ·have HE:ag (bR na e=2):=zy sw (by unfold within;rw[bX (p:=0<=e.aW) (by omega)];simp);go_wp2;go_ret;exact⟨by rw[HE.o];rfl,dW _ HB⟩
  by_cases t2:20<e.aW
  ·have HE:ag (bR na e=2):=zy sw (by unfold within;rw[bX (p:=e.aW<=20) (by omega)];simp);go_wp2;go_ret;exact⟨by rw[HE.o];rfl,dW _ HB⟩
  by_cases t3:16<(e.au.length:Int)
  ·have HE:ag (bR na e=2):=zy sw (by rw[bz (p:=16<e.au.length) (by omega)];simp);go_wp2;go_ret;exact⟨by rw[HE.o];rfl,dW _ HB⟩
  by_cases t4:8<(e.aP.length:Int)
  ·have HE:ag (bR na e=2):=zy sw (by rw[bz (p:=8<e.aP.length) (by omega)];simp);go_wp2;go_ret;exact⟨by rw[HE.o];rfl,dW _ HB⟩
  by_cases t5:64<(e.aN.length:Int)
  ·have HE:ag (bR na e=2):=zy sw (by rw[bz (p:=64<e.aN.length) (by omega)];simp);go_wp2;go_ret;exact⟨by rw[HE.o];rfl,dW _ HB⟩
  by_cases t6:16<(e.first.length:Int)
  ·have HE:ag (bR na e=2):=zy sw (by rw[bz (p:=16<e.first.length) (by omega)];simp);go_wp2;go_ret;exact⟨by rw[HE.o];rfl,dW _ HB⟩
  by_cases t7:16<(e.last.length:Int)
  ·have HE:ag (bR na e=2):=zy sw (by rw[bz (p:=16<e.last.length) (by omega)];simp);go_wp2;go_ret;exact⟨by rw[HE.o];rfl,dW _ HB⟩
  have HZ:ag (jK e=0):=ad8 (by unfold within;rw[bz (by omega),bz (by omega)];rfl) (by omega) (by omega) (by omega) (by omega) (by omega);go_upto_region 14 with fail
  clear y1 y6 y7 y8 y9
  go_cut [8] (λi wv=>i=af I 0/\wv=wx)
  case first=>
   go_wp2
   go_meet
   case rel=>exact⟨rfl,rfl⟩
  obtain⟨rfl,rfl⟩:=hcut;rename ah=>wx
  clear y2 k1;go_wp2_with fail
  go_loopw [8,9] (λiv _ wy=>∃(k:Nat),k<=e.au.length/\iv=af I k/\Below W.heap.size W wy/\dI [] (e.au.take k)=0) (λiv _ _=>e.au.length-(intOf iv).toNat)
  case atStart=>exact⟨0,cG _,rfl,HB,rfl⟩
  case round=>
   clear HB;obtain⟨k,hk,rfl,gA,hno⟩:=hrel;rename ah=>wx
   have HB:ag (Below W.heap.size W wx):=gA;have mZ:ag (dI [] (e.au.take k)=0):=hno;clear gA hno;have y2:=HX wx HB 2 _ rfl
   by_cases hlt:k<e.au.length
   ·have k1:(k:Int)<(e.au.length:Int):=by omega
    as_aux_lemma=>
     obtain⟨q,hq⟩:∃q,e.au[k]?=U q:=⟨_,bL hlt⟩;have HQ:ag (e.au[k]?=U q):=hq;obtain⟨g,o2,rfl,hcs⟩:=F9 (HP wx HB).hp hq;have RB:ag (∀n,Calls prog 34 #[ak (U (ar g o2 J)) e.au.length pc,aB q] (wx.drewN n) _):=λn=>KN e.au q (U (ar g o2 J)) pc (wx.drewN n) (HP _ (cB HB n)).hp su.1.hp
     have c0:=hcs k q hq;clear hcs hq;go_wp2_with fail
     apply(Rx q wx (su.1.hs q (fQ HQ.o))).mono;rintro v w2 ⟨rfl,hw2⟩
     cases hw2
     cases Gd:isName q
     ·have HE:ag (bR na e=4):=by
       have h4:=Rp HQ mZ (by rw[Ga Gd];decide);rw[Ga Gd]at h4;show _=_
       rw[Rv sw.o HZ.o (by rw[h4];decide),h4]
      go_wp2;go_ret;exact⟨by rw[HE.o];rfl,dW _ HB⟩
     by_cases KS:idxOf e.au q<(k:Int)
     ·have HE:ag (bR na e=6):=by
       have h6:=Rq Gd ((Rt HQ).1 KS);have h4:=Rp HQ mZ (by rw[h6];decide);rw[h6]at h4;show _=_
       rw[Rv sw.o HZ.o (by rw[h4];decide),h4]
      go_upto_region 20 with fail
      go_region_held3 (λw'=>w'.cell? (ar w.heap.size 2 J)=U (ak (U (ar g o2 J)) e.au.length pc)/\w'.cell? ⟨g,o2+k,J⟩=U (aB q)) (first|exact⟨y2,c0⟩) (first|(go_at_call 34;refine bw (RB.o _) ?_;rintro v w3 ⟨rfl,rfl⟩))
      all_goals
       go_wp2;go_ret;exact⟨by rw[HE.o];rfl,dW _ (cB HB _)⟩
     have ad':ag (dI [] (e.au.take (k+1))=0):=ad4 HQ mZ (Rs Gd (by
      cases ha:(e.au.take k).any λx=>decide (x=q)
      ·rfl
      exact absurd ((Rt HQ).2 ha) KS))
     go_upto_region 20 with fail
     go_region_held3 (λw'=>w'.cell? (ar w.heap.size 2 J)=U (ak (U (ar g o2 J)) e.au.length pc)/\w'.cell? ⟨g,o2+k,J⟩=U (aB q)) (first|exact⟨y2,c0⟩) (first|(go_at_call 34;refine bw (RB.o _) ?_;rintro v w3 ⟨rfl,rfl⟩))
     all_goals
      go_wp2
      go_roundw
      case rel=>exact⟨k+1,by omega,by go_num,cB HB _,ad'⟩
      case measure=>simp[intOf];omega
   have k1:¬(k:Int)<(e.au.length:Int):=by omega
   have RD:ag (dI [] e.au=0):=by show _=_;have:=mZ.o;rwa [List.take_of_length_le (by omega)]at this
   have kX:ag (bR na e=qB e):=ad7 sw HZ RD;clear mZ hlt hk sw HZ RD;as_aux_lemma=>
    have y3:=HX wx HB 3 _ rfl;go_upto_region 22 with fail
    by_cases t1:e.cnt < -1
    ·have HE:ag (bR na e=5):=by show _=_;rw[kX.o,ra];have:xw e=true:=(by unfold xw lacks;rw[bz (p:=e.cnt≠-1) (by omega),bz (p:=e.cnt<0) (by omega)];rfl);simp[dH,this]
     go_wp2;go_ret;exact⟨by rw[HE.o];rfl,dW _ HB⟩
    by_cases t2:(e.au.length:Int)<=e.cnt
    ·have HE:ag (bR na e=5):=by show _=_;rw[kX.o,ra];have:xw e=true:=(by unfold xw lacks;rw[bz (p:=e.cnt≠-1) (by omega),bz t2,Bool.or_true];rfl);simp[dH,this]
     go_wp2;go_ret;exact⟨by rw[HE.o];rfl,dW _ HB⟩
    have dA:ag (xw e=false):=by
     show _=_
     unfold xw lacks
     by_cases h:e.cnt=-1
     ·rw[bX (p:=e.cnt≠-1) (by omega)];rfl
     rw[bX (p:=e.cnt<0) (by omega),bX t2,Bool.or_false,Bool.and_false]
    go_upto_region 24 with fail
    clear y3 y2;go_wp2_with (refine wpList_load_row rfl 60 _ rfl w.heap.size rfl _ _ _ _ (eF wx HB) underlying60 rfl Ux ?_)
    apply(adX e pa ga ea fa la pc gc ec fc lc wx (HP wx HB) su.1).mono;rintro v w4 ⟨rfl,hb4⟩;have nV:ag (Below W.heap.size W w4):=HB.trans (hb4.mono HB.size);clear hb4 HB t1 t2
    cases hst:(vF e).any λx=>lacks e.au.length x
    case true=>
     have HE:ag (bR na e=5):=by show _=_;rw[kX.o,ra];have h2:Gb e=true:=hst;simp[dH,dA.o,h2]
     go_wp2;go_ret;exact⟨by rw[HE.o];rfl,dW _ nV⟩
    have vH:ag (Gb e=false):=hst;clear hst;as_aux_lemma=>
     have y3:=HX w4 nV 3 _ rfl;have y4:=HX w4 nV 4 _ rfl;have y5:=HX w4 nV 5 _ rfl;go_upto_region 27 with fail
     by_cases jX:A7 e=true
     ·have HE:ag (bR na e=3):=by show _=_;rw[kX.o,ra];simp[dH,dA.o,vH.o,jX]
      have tK:e.cnt=-1:=by unfold A7 at jX;simp at jX;exact jX.1
      rw[tK]at y3
      by_cases KT:e.mn=0
      ·have hmx:¬e.mx=0:=by unfold A7 at jX;simp[KT]at jX;exact jX.2
       rw[KT]at y4;clear jX tK KT;go_wp2;go_ret;exact⟨by rw[HE.o];rfl,dW _ nV⟩
      clear jX tK;go_wp2;go_ret;exact⟨by rw[HE.o];rfl,dW _ nV⟩
     have xy:ag (A7 e=false):=by rw[xI]at jX;exact jX
     go_cut [112,113,114,115,116,117,118,119,120,121,122,123,124] (λ_ _ _ _ _ _ _ _ _ _ _ _ v wv=>v=aJ false/\wv=w4)
     case first=>
      by_cases tK:e.cnt=-1
      ·have hz:e.mn=0/\e.mx=0:=by unfold A7 at jX;simp[tK]at jX;exact jX
       rw[tK]at y3;rw[hz.1]at y4;rw[hz.2]at y5;clear jX tK hz;go_wp2
       go_meet
       case rel=>exact⟨rfl,rfl⟩
      clear jX;go_wp2
      go_meet
      case rel=>exact⟨rfl,rfl⟩
     obtain⟨rfl,rfl⟩:=hcut;rename ah=>w4
     clear jX y3;go_upto_region 29 with fail
     by_cases t1:e.mn<0
     ·have HE:ag (bR na e=2):=by show _=_;rw[kX.o,ra];have:vG e=true:=(by unfold vG iH;rw[bX (p:=0<=e.mn) (by omega)];rfl);simp[dH,dA.o,vH.o,xy.o,this]
      go_wp2;go_ret;exact⟨by rw[HE.o];rfl,dW _ nV⟩
     by_cases t2:e.mx<e.mn
     ·have HE:ag (bR na e=2):=by show _=_;rw[kX.o,ra];have:vG e=true:=(by unfold vG iH;rw[bX (p:=e.mn<=e.mx) (by omega)];simp);simp[dH,dA.o,vH.o,xy.o,this]
      go_wp2;go_ret;exact⟨by rw[HE.o];rfl,dW _ nV⟩
     by_cases t3:1000<=e.mx
     ·have HE:ag (bR na e=2):=by show _=_;rw[kX.o,ra];have:vG e=true:=(by unfold vG iH;rw[bX (p:=e.mx<=999) (by omega)];simp);simp[dH,dA.o,vH.o,xy.o,this]
      go_wp2;go_ret;exact⟨by rw[HE.o];rfl,dW _ nV⟩
     have Dk:ag (vG e=false):=by show _=_;unfold vG iH;rw[bz (p:=0<=e.mn) (by omega),bz (p:=e.mn<=e.mx) (by omega),bz (p:=e.mx<=999) (by omega)];rfl
     go_upto_region 31 with fail
     clear y4 y5 t1 t2 t3
     go_cut [11] (λi wv=>i=af I 0/\wv=w4)
     case first=>
      go_wp2
      go_meet
      case rel=>exact⟨rfl,rfl⟩
     obtain⟨rfl,rfl⟩:=hcut;rename ah=>w4
     go_wp2_with fail
     go_loopw [11,12] (λiv _ wy=>∃(k:Nat),k<=e.aP.length/\iv=af I k/\Below W.heap.size W wy/\∀j g,j<k->e.aP[j]?=U g->iH 0 g.mn g.mx 1099511627776=true) (λiv _ _=>e.aP.length-(intOf iv).toNat)
     case atStart=>exact⟨0,cG _,rfl,nV,λj g hj=>absurd hj (by omega)⟩
     case round=>
      clear nV;clear k1;obtain⟨k,hk,rfl,gA,hno⟩:=hrel;rename ah=>wx
      have HB:ag (Below W.heap.size W wx):=gA;have mZ:ag (∀j g,j<k->e.aP[j]?=U g->iH 0 g.mn g.mx 1099511627776=true):=hno;clear gA hno;have y6:=HX wx HB 6 _ rfl
      by_cases hlt:k<e.aP.length
      ·have k1:(k:Int)<(e.aP.length:Int):=by omega
       have k2:k<1000000:=by have:=su.1.hg;omega
       as_aux_lemma=>
        obtain⟨q,hq⟩:∃q,e.aP[k]?=U q:=⟨_,bL hlt⟩;have HQ:ag (e.aP[k]?=U q):=hq;obtain⟨fw,cap',fL,-,hcc⟩:=(HP wx HB).hg
        cases fL
        obtain⟨g,o2,rfl,hc0⟩:=hcc (λh=>by rw[h]at hq;simp at hq);have c0:wx.cell? ⟨g,o2+k*4,J⟩=U (af I q.fr):=hc0 k _ hq 0 _ rfl;have c1:wx.cell? ⟨g,o2+k*4+1,J⟩=U (af I q.to):=hc0 k _ hq 1 _ rfl;have c2:wx.cell? ⟨g,o2+k*4+2,J⟩=U (af I q.mn):=hc0 k _ hq 2 _ rfl;have c3:wx.cell? ⟨g,o2+k*4+3,J⟩=U (af I q.mx):=hc0 k _ hq 3 _ rfl;have KU:ag (iH 0 q.mn q.mx 1099511627776=false->bR na e=2):=λh=>by
         have h8:Dj e=true:=by unfold Dj;rw[pC];exact⟨q,fQ HQ.o,by rw[h];rfl⟩
         rw[kX.o,ra];simp[dH,dA.o,vH.o,xy.o,Dk.o,h8]
        have Ge:ag (∀ob,Below W.heap.size W (wx.alloc ob)):=λob=>HB.alloc HB.size _
        clear hcc hc0 hq
        by_cases t1:q.mn<0
        ·have HE:ag (bR na e=2):=KU (by unfold iH;rw[bX (p:=0<=q.mn) (by omega)];rfl);go_wp2;go_ret;exact⟨by rw[HE.o];rfl,dW _ (Ge _)⟩
        by_cases t2:q.mx<q.mn
        ·have HE:ag (bR na e=2):=KU (by unfold iH;rw[bX (p:=q.mn<=q.mx) (by omega)];simp);go_wp2;go_ret;exact⟨by rw[HE.o];rfl,dW _ (Ge _)⟩
        by_cases t3:1099511627776<q.mx
        ·have HE:ag (bR na e=2):=KU (by unfold iH;rw[bX (p:=q.mx<=1099511627776) (by omega)];simp);go_wp2;go_ret;exact⟨by rw[HE.o];rfl,dW _ (Ge _)⟩
        have aea:ag (iH 0 q.mn q.mx 1099511627776=true):=by show _=_;unfold iH;rw[bz (p:=0<=q.mn) (by omega),bz (p:=q.mn<=q.mx) (by omega),bz (p:=q.mx<=1099511627776) (by omega)];rfl
        go_wp2
        go_roundw
        case rel=>
         refine⟨k+1,by omega,by go_num,Ge _,λj y hj hy=>?_⟩
         rcases eC j k with h1|h1
         ·exact mZ j y h1 hy
         obtain rfl:j=k:=by omega
         rw[HQ.o]at hy
         cases hy
         exact aea
        case measure=>simp[intOf];omega
      have k1:¬(k:Int)<(e.aP.length:Int):=by omega
      have Gf:ag (Dj e=false):=by
       show _=_
       unfold Dj;rw[wq];intro g hg;obtain⟨j,hj⟩:=zf hg;have wW:j<e.aP.length:=by
        rcases eC j e.aP.length with h'|h'
        ·exact h'
        rw[ny h']at hj;cases hj
       rw[mZ.o j g (by omega) hj];simp
      clear mZ hlt hk;go_upto_region 37 with fail
      clear y6 k1
      go_cut [13] (λi wv=>i=af I 0/\wv=wx)
      case first=>
       go_wp2
       go_meet
       case rel=>exact⟨rfl,rfl⟩
      obtain⟨rfl,rfl⟩:=hcut;rename ah=>wx
      go_wp2_with fail
      go_loopw [13,14] (λiv _ wy=>∃(k:Nat),k<=e.aN.length/\iv=af I k/\Below W.heap.size W wy/\∀j x,j<k->e.aN[j]?=U x->((e.aN.take j).any λy=>decide (x=y))=false) (λiv _ _=>e.aN.length-(intOf iv).toNat)
      case atStart=>exact⟨0,cG _,rfl,HB,λj g hj=>absurd hj (by omega)⟩
      case round=>
       clear HB;obtain⟨k,hk,rfl,gA,hno⟩:=hrel;rename ah=>wx
       have HB:ag (Below W.heap.size W wx):=gA;have mZ:ag (∀j x,j<k->e.aN[j]?=U x->((e.aN.take j).any λy=>decide (x=y))=false):=hno;clear gA hno;have y7:=HX wx HB 7 _ rfl
       by_cases hlt:k<e.aN.length
       ·have k1:(k:Int)<(e.aN.length:Int):=by omega
        have k2:k<1000000:=by have:=su.1.he;omega
        as_aux_lemma=>
         obtain⟨q,hq⟩:∃q,e.aN[k]?=U q:=⟨_,bL hlt⟩;have HQ:ag (e.aN[k]?=U q):=hq;obtain⟨fw,cap',fL,-,hcc⟩:=(HP wx HB).he
         cases fL
         obtain⟨g,o2,rfl,hc0⟩:=hcc (λh=>by rw[h]at hq;simp at hq);have py:ag (∀V,Below wx.heap.size wx V->∀j x,e.aN[j]?=U x->V.cell? ⟨g,o2+j*2,J⟩=U (af I x.1)/\V.cell? ⟨g,o2+j*2+1,J⟩=U (af I x.2)):=λV hV j x hx=>⟨aA hV (hc0 j x hx 0 _ rfl),aA hV (hc0 j x hx 1 _ rfl)⟩
         clear hcc hc0 hq;go_upto_region 40 with fail
         clear y7
         go_cut [14] (λi wv=>i=af I 0/\wv=wx)
         case first=>
          go_wp2
          go_meet
          case rel=>exact⟨rfl,rfl⟩
         obtain⟨rfl,rfl⟩:=hcut;rename ah=>wx
         go_wp2_with fail
         go_loopw [14] (λiv wy=>∃(j:Nat),j<=k/\iv=af I j/\Below wx.heap.size wx wy/\∀m x,m<j->e.aN[m]?=U x->q≠x) (λiv _=>k-(intOf iv).toNat)
         case atStart=>exact⟨0,cG _,rfl,aC _ _,λj g hj=>absurd hj (by omega)⟩
         case round=>
          obtain⟨j,hj,rfl,hby,hno⟩:=hrel;rename ah=>wy
          have jH:ag (Below wx.heap.size wx wy):=hby;have KV:ag (Below W.heap.size W wy):=HB.trans (hby.mono HB.size);have KW:ag (∀m x,m<j->e.aN[m]?=U x->q≠x):=hno;clear hby hno;have y7:=HX wy KV 7 _ rfl
          by_cases hjk:j<k
          ·have j1:(j:Int)<(k:Int):=by omega
           have j2:(j:Int)<(e.aN.length:Int):=by omega
           have j3:j<1000000:=by omega
           obtain⟨x,hx⟩:∃x,e.aN[j]?=U x:=⟨_,bL (by omega)⟩;have KX:ag (e.aN[j]?=U x):=hx;obtain⟨a0,a1⟩:=py wy jH j x hx;obtain⟨b0,b1⟩:=py wy jH k q HQ;clear hx;obtain⟨x1,x2⟩:=x;obtain⟨q1,q2⟩:=q;simp only at a0 a1 b0 b1
           by_cases e1:x1=q1
           ·by_cases e2:x2=q2
            ·subst e1 e2;have KY:∀w,(binOp .eql 86 (a_ #[af I x1,af I x2]) (a_ #[af I x1,af I x2])).run prog w=.ok (aJ true) w:=λw=>by rw[Ee];simp
             have KZ:=BN;have HE:ag (bR na e=6):=by
              have h9:twice e.aN=true:=by
               unfold twice;rw[pC]
               refine⟨k,by simpa using hlt,?_⟩;rw[HQ.o];show ((e.aN.take k).any λy=>decide ((x1,x2)=y))=true
               rw[pC];have hm:(e.aN.take k)[j]?=U (x1,x2):=by rw[ru,aU hjk];exact KX
               exact⟨(x1,x2),fQ hm,by simp⟩
              show _=_
              rw[kX.o,ra];simp[dH,dA.o,vH.o,xy.o,Dk.o,Gf.o,h9]
             go_wp2_with fail
             go_quiet (fail)
             go_wp2;go_ret;exact⟨by rw[HE.o];rfl,dW _ (cB KV _)⟩
            subst e1;have Dl:ag ((x1,q2)≠(x1,x2)):=λh=>e2 (o6 h).2.symm
            have KY:∀w,(binOp .eql 86 (a_ #[af I x1,af I x2]) (a_ #[af I x1,af I q2])).run prog w=.ok (aJ false) w:=λw=>by rw[Ee];simp[e2]
            have KZ:=BN;go_wp2_with fail
            go_quiet (fail)
            go_wp2
            go_roundw
            case rel=>
             refine⟨j+1,by omega,by go_num,cB jH _,λm y hm hy=>?_⟩
             rcases eC m j with h1|h1
             ·exact KW m y h1 hy
             obtain rfl:m=j:=by omega
             rw[KX.o]at hy
             cases hy
             exact Dl
            case measure=>simp[intOf];omega
           have Dl:ag ((q1,q2)≠(x1,x2)):=λh=>e1 (o6 h).1.symm
           have KY:∀w,(binOp .eql 86 (a_ #[af I x1,af I x2]) (a_ #[af I q1,af I q2])).run prog w=.ok (aJ false) w:=λw=>by rw[Ee];simp[e1]
           have KZ:=BN;go_wp2_with fail
           go_quiet (fail)
           go_wp2
           go_roundw
           case rel=>
            refine⟨j+1,by omega,by go_num,cB jH _,λm y hm hy=>?_⟩
            rcases eC m j with h1|h1
            ·exact KW m y h1 hy
            obtain rfl:m=j:=by omega
            rw[KX.o]at hy
            cases hy
            exact Dl
           case measure=>simp[intOf];omega
          have j1:¬(j:Int)<(k:Int):=by omega
          obtain rfl:j=k:=by omega
          have aeb:ag (((e.aN.take j).any λy=>decide (q=y))=false):=by
           show _=_
           rw[wq];intro y hy;obtain⟨m,hm⟩:=zf hy;rw[ru]at hm
           split at hm
           ·rename_i aec;simpa using KW.o m y aec hm
           cases hm
          go_wp2
          go_roundw
          case rel=>
           refine⟨j+1,by omega,by go_num,KV,λm y hm hy=>?_⟩
           rcases eC m j with h1|h1
           ·exact mZ m y h1 hy
           obtain rfl:m=j:=by omega
           rw[HQ.o]at hy
           cases hy
           exact aeb
          case measure=>simp[intOf];omega
       have k1:¬(k:Int)<(e.aN.length:Int):=by omega
       have K0:ag (twice e.aN=false):=by
        show _=_
        unfold twice;rw[wq];intro i hi;simp only[pG]at hi;rw[bL hi];show ¬((e.aN.take i).any λy=>decide (e.aN[i]=y))=true
        rw[mZ.o i _ (by omega) (bL hi)];simp
       clear mZ hlt hk;go_upto_region 45 with fail
       clear y7 k1;as_aux_lemma=>
        have y8:=HX wx HB 8 _ rfl;go_wp2_with fail
        apply(Rj e.first fa fc wx (HP wx HB).hf su.1.hf).mono;rintro v w5 ⟨rfl,tR⟩;have lq:ag (Below W.heap.size W w5):=HB.trans (tR.mono HB.size);clear tR y8
        cases K1:twice e.first
        case true=>
         have HE:ag (bR na e=6):=by show _=_;rw[kX.o,ra];simp[dH,dA.o,vH.o,xy.o,Dk.o,Gf.o,K0.o,K1]
         go_wp2;go_ret;exact⟨by rw[HE.o];rfl,dW _ lq⟩
        have RF:ag (twice e.first=false):=K1;clear K1;have y9:=HX w5 lq 9 _ rfl;go_wp2_with fail
        apply(Rj e.last la lc w5 (HP w5 lq).hl su.1.hl).mono;rintro v w6 ⟨rfl,jX⟩;have qp:ag (Below W.heap.size W w6):=lq.trans (jX.mono lq.size);clear jX y9
        cases rz:twice e.last
        case true=>
         have HE:ag (bR na e=6):=by show _=_;rw[kX.o,ra];simp[dH,dA.o,vH.o,xy.o,Dk.o,Gf.o,K0.o,RF.o,rz]
         go_wp2;go_ret;exact⟨by rw[HE.o];rfl,dW _ qp⟩
        have aed:ag (twice e.last=false):=rz;clear rz;have Gg:ag (∀c,dH [(ug e,3),(xx e,3)]=c->bR na e=c):=λc h=>by rw[kX.o,ra];simp only[dH,dA.o,vH.o,xy.o,Dk.o,Gf.o,K0.o,RF.o,aed.o];exact h
        have y7:=HX w6 qp 7 _ rfl;have y8:=HX w6 qp 8 _ rfl;have y9:=HX w6 qp 9 _ rfl;have s1:=su.1.hf;have s2:=su.1.hl
        by_cases u1:e.aN.length=0
        ·have v1:(e.aN.length:Int)=0:=by omega
         by_cases u2:0<e.first.length+e.last.length
         ·have v2:(0:Int)<(e.first.length:Int)+(e.last.length:Int):=by omega
          have HE:ag (bR na e=3):=Gg 3 (by have a1:ug e=false:=(by unfold ug;rw[bX (p:=0<e.aN.length) (by omega)];rfl);have a2:xx e=true:=(by unfold xx;rw[bz u1,bz u2];rfl);simp[dH,a1,a2]);rw[u1]at y7;go_wp2;go_ret;exact⟨by rw[HE.o];rfl,dW _ qp⟩
         have v2:¬(0:Int)<(e.first.length:Int)+(e.last.length:Int):=by omega
         have HE:ag (bR na e=0):=Gg 0 (by have a1:ug e=false:=(by unfold ug;rw[bX (p:=0<e.aN.length) (by omega)];rfl);have a2:xx e=false:=(by unfold xx;rw[bz u1,bX u2];rfl);simp[dH,a1,a2]);rw[u1]at y7;go_wp2;go_ret;exact⟨by rw[HE.o];rfl,dW _ qp⟩
        have v1:(0:Int)<(e.aN.length:Int):=by omega
        have v0:¬(e.aN.length:Int)=0:=by omega
        by_cases u2:e.first.length=0
        ·have HE:ag (bR na e=3):=Gg 3 (by have a1:ug e=true:=(by unfold ug;rw[bz (p:=0<e.aN.length) (by omega),bz u2];rfl);simp[dH,a1]);rw[u2]at y8;go_wp2;go_ret;exact⟨by rw[HE.o];rfl,dW _ qp⟩
        have v2:¬(e.first.length:Int)=0:=by omega
        have HE:ag (bR na e=0):=Gg 0 (by have a1:ug e=false:=(by unfold ug;rw[bX (p:=e.first.length=0) u2,Bool.and_false]);have a2:xx e=false:=(by unfold xx;rw[bX u1];rfl);simp[dH,a1,a2]);go_wp2;go_ret;exact⟨by rw[HE.o];rfl,dW _ qp⟩
def eZ:(prog.info? 30).map (·.size)=U 2:=by kernel_rfl
def sx(n:Int)(w:ah):Calls prog 14 #[af I n] w λv w'=>v=aH (a_ #[af I n,af I (-1)])/\Below w.heap.size w w':=by
 go_enter func14,ntmps14
 go_wp2_with fail
 refine gp (mq rfl _ _ _ _ _ _ _ rfl (dT w _) underlying30 rfl eZ) rfl ?_;exact⟨rfl,bt _ _⟩
def RH(w:ah):Calls prog 15 #[] w λv w'=>v=aH (a_ #[af I 0,af I (-1)])/\Below w.heap.size w w':=by
 go_enter func15,ntmps15
 go_wp2_with fail
 refine gp (mq rfl _ _ _ _ _ _ _ rfl (dT w _) underlying30 rfl eZ) rfl ?_;exact⟨rfl,bt _ _⟩
def uh(hn:n≠0)(h:il c=n):dJ c=(n,-1):=by unfold dJ;rw[aF (by rw[h];exact hn),h]
def aee(h:il c=0):dJ c=jZ [] 0 c.az:=by unfold dJ;rw[aU h]
def aef(h:bR a e≠0):jZ a k (e::t)=(bR a e,(k:Int)):=by rw[jZ,aF h]
def aeg(h:bR a e=0):jZ a k (e::t)=jZ (a++[e.name]) (k+1) t:=by rw[jZ,aU h]
def aeh(c:aV)(sa:Option av)(sc:Nat)(w:ah)(hE:iJ w (ak sa c.az.length sc) c.az)(hS:jB c):Calls prog 18 #[.agg (cR c sa sc)] w λv w'=>v=aH (a_ #[af I ((dJ c).1:Int),af I (dJ c).2])/\Below w.heap.size w w':=by
 unfold cR;obtain⟨W,hW⟩:∃V,V=(w.alloc (ay (cR c sa sc) 34)).alloc (ay #[af I 0,af I 0] 30):=⟨_,rfl⟩;have ju:ag (Below w.heap.size w W):=by show Below _ _ _;rw[hW];exact(bt _ _).alloc (by simp) _
 have HX:ag (∀V,Below W.heap.size W V->∀(j:Nat) u,((cR c sa sc):Array _)[j]?=U u->V.cell? (ar w.heap.size j J)=U u):=λV hV j u hu=>by
  have:=cX hV (show W.heap[w.heap.size]?=_ by rw[hW];exact cX (bt _ _) (dT w _));simp[aL,this,hu]
 have gK:ag (∀V,Below _ W V->V.heap[w.heap.size+1]?=U (ay #[af I 0,af I 0] 30 (0,0))):=λV hV=>cX hV (by rw[hW];have:=dT (w.alloc (ay (cR c sa sc) 34)) (ay #[af I 0,af I 0] 30);simpa using this)
 have iO:ag (∀V cs,Below W.heap.size W V->Below w.heap.size w (V.setRow (w.heap.size+1) cs)):=λV cs hV=>by
  have b1:=ju.trans (hV.mono ju.size);exact b1.grown (pL ..) b1.size (λj hj=>by cases hj;omega)
 have aei:ag (∀V,Below _ W V->iJ V _ _):=λV hV=>hE.below (ju.trans (hV.mono ju.size))
 change ag _ at hS
 have HB:ag (Below W.heap.size W W):=aC _ _;have y0:=HX W (aC _ _) 0 _ rfl;have y1:=HX W (aC _ _) 1 _ rfl;have y2:=HX W (aC _ _) 2 _ rfl;have y3:=HX W (aC _ _) 3 _ rfl;have y4:=HX W (aC _ _) 4 _ rfl;clear hE;go_enter func18,ntmps18
 go_upto_region 1 with fail
 rw[<- hW];clear hW
 by_cases t1:c.closed<0
 ·have HE:ag (dJ c=(2,-1)):=uh (aD rfl) (by unfold il;have q0:(!(within _ 0 1000&&within c.opn 1 1000))=true:=(by unfold within;rw[bX (p:=0<=c.closed) (by omega)];rfl);simp only[dH,q0];rfl);go_wp2_with fail
  apply(sx 2 _).mono;rintro v w1 ⟨rfl,hb1⟩;have aS:ag _:=HB.trans (hb1.mono HB.size);clear hb1;go_wp2_with (refine gm rfl 30 _ _ rfl _ _ rfl rfl 30 _ (gK _ aS) eZ rfl (by simp[Value.oneCell']) ?_)
  refine gp (mq rfl _ _ _ _ _ _ _ rfl (jf _ (gK _ aS)) underlying30 rfl eZ) rfl ?_;exact⟨by rw[HE.o];rfl,iO _ _ aS⟩
 by_cases t2:1000<c.closed
 ·have HE:ag (dJ c=(2,-1)):=uh (aD rfl) (by unfold il;have q0:(!(within _ 0 1000&&within c.opn 1 1000))=true:=(by unfold within;rw[bX (p:=c.closed<=1000) (by omega)];simp);simp only[dH,q0];rfl);go_wp2_with fail
  apply(sx 2 _).mono;rintro v w1 ⟨rfl,hb1⟩;have aS:ag _:=HB.trans (hb1.mono HB.size);clear hb1;go_wp2_with (refine gm rfl 30 _ _ rfl _ _ rfl rfl 30 _ (gK _ aS) eZ rfl (by simp[Value.oneCell']) ?_)
  refine gp (mq rfl _ _ _ _ _ _ _ rfl (jf _ (gK _ aS)) underlying30 rfl eZ) rfl ?_;exact⟨by rw[HE.o];rfl,iO _ _ aS⟩
 by_cases t3:c.opn<1
 ·have HE:ag (dJ c=(2,-1)):=uh (aD rfl) (by unfold il;have q0:(!(within c.closed 0 1000&&within _ 1 1000))=true:=(by unfold within;rw[bX (p:=1<=c.opn) (by omega)];simp);simp only[dH,q0];rfl);go_wp2_with fail
  apply(sx 2 _).mono;rintro v w1 ⟨rfl,hb1⟩;have aS:ag _:=HB.trans (hb1.mono HB.size);clear hb1;go_wp2_with (refine gm rfl 30 _ _ rfl _ _ rfl rfl 30 _ (gK _ aS) eZ rfl (by simp[Value.oneCell']) ?_)
  refine gp (mq rfl _ _ _ _ _ _ _ rfl (jf _ (gK _ aS)) underlying30 rfl eZ) rfl ?_;exact⟨by rw[HE.o];rfl,iO _ _ aS⟩
 by_cases t4:1000<c.opn
 ·have HE:ag (dJ c=(2,-1)):=uh (aD rfl) (by unfold il;have q0:(!(within c.closed 0 1000&&within _ 1 1000))=true:=(by unfold within;rw[bX (p:=c.opn<=1000) (by omega)];simp);simp only[dH,q0];rfl);go_wp2_with fail
  apply(sx 2 _).mono;rintro v w1 ⟨rfl,hb1⟩;have aS:ag _:=HB.trans (hb1.mono HB.size);clear hb1;go_wp2_with (refine gm rfl 30 _ _ rfl _ _ rfl rfl 30 _ (gK _ aS) eZ rfl (by simp[Value.oneCell']) ?_)
  refine gp (mq rfl _ _ _ _ _ _ _ rfl (jf _ (gK _ aS)) underlying30 rfl eZ) rfl ?_;exact⟨by rw[HE.o];rfl,iO _ _ aS⟩
 by_cases t5:c.cycle<1
 ·have HE:ag (dJ c=(2,-1)):=uh (aD rfl) (by unfold il;have q0:(!(within c.closed 0 1000&&within c.opn 1 1000))=false:=(by unfold within;rw[bz (p:=0<=c.closed) (by omega),bz (p:=c.closed<=1000) (by omega),bz (p:=1<=c.opn) (by omega),bz (p:=c.opn<=1000) (by omega)];rfl);have q1:(!within c.cycle 1 100)=true:=(by unfold within;first|(rw[bX (p:=1<=c.cycle) (by omega)];rfl)|(rw[bX (p:=c.cycle<=100) (by omega)];simp));simp only[dH,q0,q1];rfl);go_wp2_with fail
  apply(sx 2 _).mono;rintro v w1 ⟨rfl,hb1⟩;have aS:ag _:=HB.trans (hb1.mono HB.size);clear hb1;go_wp2_with (refine gm rfl 30 _ _ rfl _ _ rfl rfl 30 _ (gK _ aS) eZ rfl (by simp[Value.oneCell']) ?_)
  refine gp (mq rfl _ _ _ _ _ _ _ rfl (jf _ (gK _ aS)) underlying30 rfl eZ) rfl ?_;exact⟨by rw[HE.o];rfl,iO _ _ aS⟩
 by_cases t6:100<c.cycle
 ·have HE:ag (dJ c=(2,-1)):=uh (aD rfl) (by unfold il;have q0:(!(within c.closed 0 1000&&within c.opn 1 1000))=false:=(by unfold within;rw[bz (p:=0<=c.closed) (by omega),bz (p:=c.closed<=1000) (by omega),bz (p:=1<=c.opn) (by omega),bz (p:=c.opn<=1000) (by omega)];rfl);have q1:(!within c.cycle 1 100)=true:=(by unfold within;first|(rw[bX (p:=1<=c.cycle) (by omega)];rfl)|(rw[bX (p:=c.cycle<=100) (by omega)];simp));simp only[dH,q0,q1];rfl);go_wp2_with fail
  apply(sx 2 _).mono;rintro v w1 ⟨rfl,hb1⟩;have aS:ag _:=HB.trans (hb1.mono HB.size);clear hb1;go_wp2_with (refine gm rfl 30 _ _ rfl _ _ rfl rfl 30 _ (gK _ aS) eZ rfl (by simp[Value.oneCell']) ?_)
  refine gp (mq rfl _ _ _ _ _ _ _ rfl (jf _ (gK _ aS)) underlying30 rfl eZ) rfl ?_;exact⟨by rw[HE.o];rfl,iO _ _ aS⟩
 by_cases t7:c.bO<0
 ·have HE:ag (dJ c=(2,-1)):=uh (aD rfl) (by unfold il;have q0:(!(within c.closed 0 1000&&within c.opn 1 1000))=false:=(by unfold within;rw[bz (p:=0<=c.closed) (by omega),bz (p:=c.closed<=1000) (by omega),bz (p:=1<=c.opn) (by omega),bz (p:=c.opn<=1000) (by omega)];rfl);have q1:(!within c.cycle 1 100)=false:=(by unfold within;rw[bz (p:=1<=c.cycle) (by omega),bz (p:=c.cycle<=100) (by omega)];rfl);have q2:(!within c.bO 0 20)=true:=(by unfold within;first|(rw[bX (p:=0<=c.bO) (by omega)];rfl)|(rw[bX (p:=c.bO<=20) (by omega)];simp));simp only[dH,q0,q1,q2];rfl);go_wp2_with fail
  apply(sx 2 _).mono;rintro v w1 ⟨rfl,hb1⟩;have aS:ag _:=HB.trans (hb1.mono HB.size);clear hb1;go_wp2_with (refine gm rfl 30 _ _ rfl _ _ rfl rfl 30 _ (gK _ aS) eZ rfl (by simp[Value.oneCell']) ?_)
  refine gp (mq rfl _ _ _ _ _ _ _ rfl (jf _ (gK _ aS)) underlying30 rfl eZ) rfl ?_;exact⟨by rw[HE.o];rfl,iO _ _ aS⟩
 by_cases t8:20<c.bO
 ·have HE:ag (dJ c=(2,-1)):=uh (aD rfl) (by unfold il;have q0:(!(within c.closed 0 1000&&within c.opn 1 1000))=false:=(by unfold within;rw[bz (p:=0<=c.closed) (by omega),bz (p:=c.closed<=1000) (by omega),bz (p:=1<=c.opn) (by omega),bz (p:=c.opn<=1000) (by omega)];rfl);have q1:(!within c.cycle 1 100)=false:=(by unfold within;rw[bz (p:=1<=c.cycle) (by omega),bz (p:=c.cycle<=100) (by omega)];rfl);have q2:(!within c.bO 0 20)=true:=(by unfold within;first|(rw[bX (p:=0<=c.bO) (by omega)];rfl)|(rw[bX (p:=c.bO<=20) (by omega)];simp));simp only[dH,q0,q1,q2];rfl);go_wp2_with fail
  apply(sx 2 _).mono;rintro v w1 ⟨rfl,hb1⟩;have aS:ag _:=HB.trans (hb1.mono HB.size);clear hb1;go_wp2_with (refine gm rfl 30 _ _ rfl _ _ rfl rfl 30 _ (gK _ aS) eZ rfl (by simp[Value.oneCell']) ?_)
  refine gp (mq rfl _ _ _ _ _ _ _ rfl (jf _ (gK _ aS)) underlying30 rfl eZ) rfl ?_;exact⟨by rw[HE.o];rfl,iO _ _ aS⟩
 by_cases t9:8<(c.az.length:Int)
 ·have HE:ag (dJ c=(2,-1)):=uh (aD rfl) (by unfold il;have q0:(!(within c.closed 0 1000&&within c.opn 1 1000))=false:=(by unfold within;rw[bz (p:=0<=c.closed) (by omega),bz (p:=c.closed<=1000) (by omega),bz (p:=1<=c.opn) (by omega),bz (p:=c.opn<=1000) (by omega)];rfl);have q1:(!within c.cycle 1 100)=false:=(by unfold within;rw[bz (p:=1<=c.cycle) (by omega),bz (p:=c.cycle<=100) (by omega)];rfl);have q2:(!within c.bO 0 20)=false:=(by unfold within;rw[bz (p:=0<=c.bO) (by omega),bz (p:=c.bO<=20) (by omega)];rfl);have q3:decide (8<c.az.length)=true:=bz (by omega);simp only[dH,q0,q1,q2,q3];rfl);go_wp2_with fail
  apply(sx 2 _).mono;rintro v w1 ⟨rfl,hb1⟩;have aS:ag _:=HB.trans (hb1.mono HB.size);clear hb1;go_wp2_with (refine gm rfl 30 _ _ rfl _ _ rfl rfl 30 _ (gK _ aS) eZ rfl (by simp[Value.oneCell']) ?_)
  refine gp (mq rfl _ _ _ _ _ _ _ rfl (jf _ (gK _ aS)) underlying30 rfl eZ) rfl ?_;exact⟨by rw[HE.o];rfl,iO _ _ aS⟩
 by_cases t10:c.opn<c.cycle
 ·have HE:ag (dJ c=(3,-1)):=uh (aD rfl) (by unfold il;have q0:(!(within c.closed 0 1000&&within c.opn 1 1000))=false:=(by unfold within;rw[bz (p:=0<=c.closed) (by omega),bz (p:=c.closed<=1000) (by omega),bz (p:=1<=c.opn) (by omega),bz (p:=c.opn<=1000) (by omega)];rfl);have q1:(!within c.cycle 1 100)=false:=(by unfold within;rw[bz (p:=1<=c.cycle) (by omega),bz (p:=c.cycle<=100) (by omega)];rfl);have q2:(!within c.bO 0 20)=false:=(by unfold within;rw[bz (p:=0<=c.bO) (by omega),bz (p:=c.bO<=20) (by omega)];rfl);have q3:decide (8<c.az.length)=false:=bX (by omega);have q4:decide (c.opn<c.cycle)=true:=bz (by omega);simp only[dH,q0,q1,q2,q3,q4];rfl);go_wp2_with fail
  apply(sx 3 _).mono;rintro v w1 ⟨rfl,hb1⟩;have aS:ag _:=HB.trans (hb1.mono HB.size);clear hb1;go_wp2_with (refine gm rfl 30 _ _ rfl _ _ rfl rfl 30 _ (gK _ aS) eZ rfl (by simp[Value.oneCell']) ?_)
  refine gp (mq rfl _ _ _ _ _ _ _ rfl (jf _ (gK _ aS)) underlying30 rfl eZ) rfl ?_;exact⟨by rw[HE.o];rfl,iO _ _ aS⟩
 have RI:ag (dJ c=jZ [] 0 _):=aee (by
  unfold il;have q0:(!(within c.closed 0 1000&&within c.opn 1 1000))=false:=(by unfold within;rw[bz (p:=0<=c.closed) (by omega),bz (p:=c.closed<=1000) (by omega),bz (p:=1<=c.opn) (by omega),bz (p:=c.opn<=1000) (by omega)];rfl);have q1:(!within c.cycle 1 100)=false:=(by unfold within;rw[bz (p:=1<=c.cycle) (by omega),bz (p:=c.cycle<=100) (by omega)];rfl);have q2:(!within c.bO 0 20)=false:=(by unfold within;rw[bz (p:=0<=c.bO) (by omega),bz (p:=c.bO<=20) (by omega)];rfl);have q3:decide (8<c.az.length)=false:=bX (by omega);have q4:=bX (by omega);simp only[dH,q0,q1,q2,q3,q4];rfl)
 go_upto_region 7 with fail
 clear y0 y1 y2 y3 y4 t1 t2 t3 t4 t5 t6 t7 t8 t9 t10
 go_cut [3] (λi wv=>i=af I 0/\wv=W)
 case first=>
  go_wp2
  go_meet
  case rel=>exact⟨rfl,rfl⟩
 obtain⟨rfl,rfl⟩:=hcut;rename ah=>W
 go_wp2_with fail
 go_loopw [3,4] (λiv _ wx=>∃(k:Nat),k<=c.az.length/\iv=af I k/\Below W.heap.size W wx/\dJ c=jZ ((c.az.take k).map (·.name)) k (c.az.drop k)) (λiv _ _=>c.az.length-(intOf iv).toNat)
 case atStart=>exact⟨0,cG _,rfl,HB,by rw[RI.o];rfl⟩
 case round=>
  clear HB RI;obtain⟨k,hk,rfl,gA,hno⟩:=hrel;rename ah=>wx
  change ag _ at gA hno
  have y4:=HX wx gA 4 _ rfl
  by_cases hlt:k<c.az.length
  ·have k1:(k:Int)<(c.az.length:Int):=by omega
   have k2:k<1000000:=by have:=hS.hn;omega
   obtain⟨e,he⟩:∃e,c.az[k]?=U e:=⟨_,bL hlt⟩;have sf:ag (c.az.drop k=e::c.az.drop (k+1)):=by
    show _=_
    rw[lM hlt];rw[bL hlt]at he
    cases he;rfl
   have AK:ag ((c.az.take (k+1)).map (·.name)=(c.az.take k).map (·.name)++[e.name]):=by show _=_;rw[qE,he];simp
   have HC:ag _:=ad9 _ sa sc k e wx (aei wx gA) he hS.he hS.hn;clear he;go_wp2_with fail
   refine bw HC.o ?_;rintro v w2 ⟨rfl,hb2⟩;have aO:ag _:=gA.trans (hb2.mono gA.size);clear hb2 HC y4;obtain⟨n,hn⟩:∃n,n=bR ((c.az.take k).map (·.name)) e:=⟨_,rfl⟩;rw[<- hn]
   by_cases n0:n=0
   ·have HE:ag (dJ c=jZ ((c.az.take (k+1)).map (·.name)) (k+1) (c.az.drop (k+1))):=by
     show _=_
     rw[hno.o,sf.o,aeg (by rw[<- hn];exact n0),AK.o]
    subst n0;clear hn;go_wp2
    go_roundw
    case rel=>exact⟨_,by omega,by go_num,aO,HE⟩
    case measure=>simp[intOf];omega
   have HE:ag (dJ c=(n,(k:Int))):=by
    show _=_
    rw[hno.o,sf.o,aef (by rw[<- hn];exact n0),<- hn]
   have n1:(0:Int)<(n:Int):=by omega
   clear hn n0;go_wp2_with (refine gm rfl 30 _ _ rfl _ _ rfl rfl 30 _ (gK _ aO) eZ rfl (by simp[Value.oneCell']) ?_)
   refine gp (mq rfl _ _ (w.heap.size+1) _ _ _ _ rfl (jf _ (gK _ aO)) underlying30 rfl eZ) rfl ?_;exact⟨by rw[HE.o],iO _ _ aO⟩
  have k1:¬(k:Int)<(c.az.length:Int):=by omega
  have HE:ag (dJ c=(0,-1)):=by show _=_;rw[hno.o,List.drop_of_length_le (by omega)];rfl
  go_wp2_with fail
  apply(RH _).mono;rintro v w1 ⟨rfl,hb1⟩;have aS:ag _:=gA.trans (hb1.mono gA.size);clear hb1;go_wp2_with (refine gm rfl 30 _ _ rfl _ _ rfl rfl 30 _ (gK _ aS) eZ rfl (by simp[Value.oneCell']) ?_)
  refine gp (mq rfl _ _ _ _ _ _ _ rfl (jf _ (gK _ aS)) underlying30 rfl eZ) rfl ?_;exact⟨by rw[HE.o];rfl,iO _ _ aS⟩
def fe(m:Int)(n:Nat):Nat:=if m<1\/16<m then 3 else if 100<n then 2 else 0
def aej(m:Int)(n:Nat)(w:ah):Calls prog 6 #[af I m,af I n] w λe w'=>e=aH (a_ #[af I (fe m n),af I (-1)])/\Below w.heap.size w w':=by
 obtain⟨W,hW⟩:∃V,V=w.alloc (ay #[af I 0,af I 0] 30):=⟨_,rfl⟩;obtain⟨xb,xn⟩:∃b,b=w.heap.size:=⟨_,rfl⟩;have ju:ag (Below w.heap.size w W):=by show Below _ _ _;rw[hW];exact bt _ _
 have HX:ag (W.heap[xb]?=U (ay #[af I 0,af I 0] 30 (0,0))):=by show _=_;rw[hW,xn];exact dT w _
 have HF:ag (xb=w.heap.size):=xn;have fin:∀(k:Int) (w2:ah),Below W.heap.size W w2->Below w.heap.size w (w2.setRow xb #[af I k,af I (-1)]):=λk w2 hb=>(ju.o.trans (hb.mono ju.o.size)).grown (pL ..) (by have:=ju.o.size;have:=hb.size;omega) (λj hj=>by cases hj;have:=HF.o;omega)
 have hB:ag (∀k w,Calls prog 14 #[af I k] w _):=λk w=>sx k w
 have hN:ag (∀w,Calls prog 15 #[] w _):=λw=>RH w
 have HN:ag _:=fin;obtain⟨c,hc⟩:∃c,c=fe m n:=⟨_,rfl⟩;rw[<- hc];have HC:ag (c=fe m n):=hc;clear hc;go_enter func6,ntmps6
 go_upto_region 1 with fail
 rw[<- hW,<- xn];clear hW xn HF ju fin
 by_cases h1:m<1
 ·obtain rfl:c=3:=HC.o.trans (aU (.inl h1));clear HC;go_wp2_with fail
  refine bw (hB.o 3 _) ?_;rintro e w2 ⟨rfl,hb⟩;have X2:=cX hb HX.o;go_wp2_with (refine gm rfl 30 _ _ rfl _ _ rfl rfl 30 _ X2 eZ rfl (by simp[Value.oneCell']) ?_)
  refine gp (mq rfl _ _ _ _ _ _ _ rfl (jf _ X2) underlying30 rfl eZ) rfl ?_;exact⟨rfl,HN.o _ _ hb⟩
 by_cases h2:16<m
 ·obtain rfl:c=3:=HC.o.trans (aU (.inr h2));clear HC;go_wp2_with fail
  refine bw (hB.o 3 _) ?_;rintro e w2 ⟨rfl,hb⟩;have X2:=cX hb HX.o;go_wp2_with (refine gm rfl 30 _ _ rfl _ _ rfl rfl 30 _ X2 eZ rfl (by simp[Value.oneCell']) ?_)
  refine gp (mq rfl _ _ _ _ _ _ _ rfl (jf _ X2) underlying30 rfl eZ) rfl ?_;exact⟨rfl,HN.o _ _ hb⟩
 by_cases h3:100<n
 ·obtain rfl:c=2:=HC.o.trans ((aF (by omega)).trans (aU h3));clear HC;have h4:(100:Int)<(n:Int):=by omega
  go_wp2_with fail
  refine bw (hB.o 2 _) ?_;rintro e w2 ⟨rfl,hb⟩;have X2:=cX hb HX.o;go_wp2_with (refine gm rfl 30 _ _ rfl _ _ rfl rfl 30 _ X2 eZ rfl (by simp[Value.oneCell']) ?_)
  refine gp (mq rfl _ _ _ _ _ _ _ rfl (jf _ X2) underlying30 rfl eZ) rfl ?_;exact⟨rfl,HN.o _ _ hb⟩
 obtain rfl:c=0:=HC.o.trans ((aF (by omega)).trans (aF h3));clear HC;have h4:¬(100:Int)<(n:Int):=by omega
 go_wp2_with fail
 refine bw (hN.o _) ?_;rintro e w2 ⟨rfl,hb⟩;have X2:=cX hb HX.o;go_wp2_with (refine gm rfl 30 _ _ rfl _ _ rfl rfl 30 _ X2 eZ rfl (by simp[Value.oneCell']) ?_)
 refine gp (mq rfl _ _ _ _ _ _ _ rfl (jf _ X2) underlying30 rfl eZ) rfl ?_;exact⟨rfl,HN.o _ _ hb⟩
def eG(n:¬h=⟨l.toArray⟩):(h.toList==l)=false/\¬h.toList=l:=by
 have h2:¬h.toList=l:=λe=>by
  rw[iA]at e;exact n (oG (by rw[uA];exact e))
 exact⟨by simpa using h2,h2⟩
def nX(n:h=⟨l.toArray⟩):(h.toList==l)=true/\h.toList=l:=by
 have h2:h.toList=l:=by rw[iA,n]
 exact⟨by simpa using h2,h2⟩
def gY(k:Nat):ByteArray:=⟨(kw k).toArray⟩
def rh:List ByteArray:=[⟨#[101,110,116,105,116,121]⟩,⟨#[112,111,105,110,116]⟩,⟨#[99,111,117,110,116]⟩,⟨#[103,97,112]⟩,⟨#[101,100,103,101]⟩,⟨#[102,105,114,115,116]⟩,⟨#[108,97,115,116]⟩]
def aek(w:ah):Calls prog 66 #[] w λe w'=>e=aH (ak (U (ar w.heap.size 0 J)) 7 7)/\w'=w.alloc (ay #[aB ⟨#[101,110,116,105,116,121]⟩,aB ⟨#[112,111,105,110,116]⟩,aB ⟨#[99,111,117,110,116]⟩,aB ⟨#[103,97,112]⟩,aB ⟨#[101,100,103,101]⟩,aB ⟨#[102,105,114,115,116]⟩,aB ⟨#[108,97,115,116]⟩] 9):=by
 go_enter func66,ntmps66
 go_wp2;go_ret;exact⟨rfl,rfl⟩
def ael{V':ah}(h:V=V'.alloc (ay #[aB ⟨#[101,110,116,105,116,121]⟩,aB ⟨#[112,111,105,110,116]⟩,aB ⟨#[99,111,117,110,116]⟩,aB ⟨#[103,97,112]⟩,aB ⟨#[101,100,103,101]⟩,aB ⟨#[102,105,114,115,116]⟩,aB ⟨#[108,97,115,116]⟩] 9)):bY gg 1 V (ak (U (ar V'.heap.size 0 J)) rh.length 7) rh:=by
 refine⟨_,_,rfl,by decide,λ_=>⟨_,_,rfl,λi x hx j u hu=>?_⟩⟩
 match j,hu with
 |0,hu=>
  simp[gg]at hu
  subst hu;rw[h,fE _ _ _ _ rfl]
  match i,hx with
  |0,hx=>cases hx;rfl
  |1,hx=>cases hx;rfl
  |2,hx=>cases hx;rfl
  |3,hx=>cases hx;rfl
  |4,hx=>cases hx;rfl
  |5,hx=>cases hx;rfl
  |6,hx=>cases hx;rfl
  |i+7,hx=>simp[rh]at hx
 |j+1,hu=>simp[gg]at hu
def cL(last:Int):ByteArray:=if last<0 then ⟨#[]⟩else gY last.toNat
def RJ:∀k,k<10->idxOf rh (gY k)=if k<3 then -1 else (k:Int)-3:=by decide
def aem(last:Int)(h0:-1<=last)(h9:last<=9):idxOf rh (cL last)=if last<3 then -1 else last-3:=by
 unfold cL
 split
 ·rw[aU (by omega)];decide
 obtain⟨n,rfl⟩:=Int.eq_ofNat_of_zero_le (show 0<=last by omega);rw[zh,RJ n (by omega)]
 by_cases h:n<3
 ·rw[aU h,aU (by omega)]
 rw[aF h,aF (by omega)]
def A_:∀j,j<10->∀k,k<10->gY j=gY k->j=k:=by decide
def RP:∀k,k<10->gY k≠⟨#[]⟩:=by decide
def RQ{last:Int}(h9:last<=9):cL last=⟨#[]⟩↔last<0:=by
 unfold cL
 split
 ·rename_i h;exact⟨λ_=>h,λ_=>rfl⟩
 rename_i h;exact⟨λe=>absurd e (RP _ (by omega)),λh2=>absurd h2 h⟩
def K2{last:Int}(h9:last<=9){k:Nat}(hk:k<10):cL last=gY k↔last=k:=by
 unfold cL
 split
 ·rename_i h;exact⟨λe=>absurd e.symm (RP _ hk),λh2=>by omega⟩
 rename_i h;exact⟨λe=>by have:=A_ _ (by omega) _ hk e;omega,λh2=>by rw[h2,zh]⟩
def aen(hn:kindOf (bl h)=J):idxOf rh h=-1:=by
 apply Ri
 intro j x hj hx e;subst e;have hx2:=fQ hx;have:∀x∈rh,kindOf (bl x)≠J:=by decide
 exact this x hx2 hn
def oz(a b:Int)(c:Bool):Bool:=if a<0\/b<0 then false else decide (a<b)||(decide (a=b)&&c)
def RR(rb:Nat)(lw h:ByteArray)(w:ah)(hc:w.cell? (ar rb 5 J)=U (aB lw))(n0:¬h=⟨#[119,105,110,100,111,119]⟩)(n1:¬h=⟨#[99,121,99,108,101]⟩)(n2:¬h=⟨#[100,101,108,97,121]⟩)(n3:¬h=⟨#[101,110,116,105,116,121]⟩):Calls prog 32 #[ax (U (ar rb 0 J)),aB h] w λe w'=>e=aH (aJ (oz (idxOf rh lw) (idxOf rh h) (!decide (h=⟨#[99,111,117,110,116]⟩))))/\Below w.heap.size w w':=by
 have m0:=eG n0;have m1:=eG n1;have m2:=eG n2;have m3:=eG n3;obtain⟨p0,q0⟩:=m0;obtain⟨p1,q1⟩:=m1;obtain⟨p2,q2⟩:=m2;obtain⟨p3,q3⟩:=m3;have HC:ag (∀V,Below _ w V->V.cell? _=U _):=λV hV=>aA hV hc
 have HK:ag (∀V,Below _ w V->Calls _ 66 #[] V λe w'=>∃g,e=aH (ak (U ⟨g,0,_⟩) 7 7)/\bY _ 1 w' (ak (U ⟨g,0,_⟩) 7 7) _/\Below _ w w'):=λV hV=>(aek V).mono (by rintro e w' ⟨rfl,rfl⟩;exact⟨_,rfl,ael rfl,hV.alloc hV.size _⟩)
 have HI:ag (∀s (V:ah) g,bY _ 1 V (ak _ 7 7) _->Calls _ 34 #[ak (U (ar g 0 J)) 7 7,aB s] V λe w'=>e=aH _/\w'=V):=λs V g hV=>KN rh s _ 7 V hV (by decide)
 clear n0 n1 n2 n3;obtain⟨a,ha⟩:∃a,a=idxOf rh lw:=⟨_,rfl⟩;obtain⟨b,hb⟩:∃b,b=idxOf rh h:=⟨_,rfl⟩;rw[<- ha,<- hb];have HA:ag _:=ha.symm;have aeo:ag _:=hb.symm;have aep:ag (∀(V:ah) g,Below _ w V->bY _ 1 V _ _->Calls _ 34 _ V λe w'=>e=aH _/\Below w.heap.size w w'):=λV g hb hV=>(HI lw V g hV).mono (by rw[<- ha];rintro e w' ⟨rfl,rfl⟩;exact⟨rfl,hb⟩)
 clear ha hb;go_enter func32,ntmps32
 go_wp2_with fail
 go_region_held3 (λw'=>w'.cell? (ar rb 5 J)=U (aB lw)) (first|exact hc|exact HC _ (cB (aC _ _) _)|exact HC _ hb1|exact HC _ (cB hb1 _)|exact HC _ hb2|exact HC _ (cB hb2 _)) (first|(go_at_call 66;refine bw (HK.o _ ?_) ?_;(first|exact aC _ _|exact cB (aC _ _) _);rintro e w1 ⟨g1,rfl,hs1,hb1⟩)|(go_at_call 34;refine bw (aep.o _ _ ?_ ?_) ?_;(first|exact hb1|exact cB hb1 _);(first|exact hs1|exact hs1.below (cB (aC _ _) _));rintro e w2 ⟨rfl,hb2⟩))
 all_goals
  change ag _ at hb2
  clear hb1 hs1 hc HC HA;go_wp2_with fail
  refine bw (HK.o _ hb2) ?_;rintro e w3 ⟨g3,rfl,hs3,(hb3:ag _)⟩;have jv:=HI h w3 g3 hs3;rw[aeo.o]at jv;change ag _ at jv
  clear hs3 HK HI;go_wp2_with fail
  refine bw jv.o ?_;rintro e w4 ⟨rfl,rfl⟩;clear jv
  by_cases a0:a<0
  ·have HE:ag (oz a b (!decide (h=⟨#[99,111,117,110,116]⟩))=false):=by show _=_;unfold oz;rw[aU (cF a0)]
   go_wp2;go_ret;exact⟨by rw[HE.o];rfl,hb3⟩
  by_cases b0:b<0
  ·have HE:ag (oz a b (!decide (h=⟨#[99,111,117,110,116]⟩))=false):=by show _=_;unfold oz;rw[aU (bk b0)]
   go_wp2;go_ret;exact⟨by rw[HE.o];rfl,hb3⟩
  by_cases ab:a<b
  ·have HE:ag (oz a b (!decide (h=⟨#[99,111,117,110,116]⟩))=true):=by show _=_;unfold oz;rw[aF (by omega),bz ab];rfl
   go_wp2;go_ret;exact⟨by rw[HE.o];rfl,hb3⟩
  by_cases ae:a=b
  ·by_cases h5:h=⟨#[99,111,117,110,116]⟩
   ·have HE:ag (oz a b (!decide (h=⟨#[99,111,117,110,116]⟩))=false):=by show _=_;unfold oz;rw[aF (by omega),bX ab,bz h5];simp
    subst ae;obtain⟨e5,e6⟩:=nX h5;change ag _ at h5
    go_wp2;go_ret;exact⟨by rw[HE.o];rfl,hb3⟩
   have HE:ag (oz a b (!decide (h=⟨#[99,111,117,110,116]⟩))=true):=by show _=_;unfold oz;rw[aF (by omega),bz ae,bX h5];simp
   obtain⟨p5,q5⟩:=eG h5;subst ae;clear h5;go_wp2;go_ret;exact⟨by rw[HE.o];rfl,hb3⟩
  have HE:ag (oz a b (!decide (h=⟨#[99,111,117,110,116]⟩))=decide (a<b)):=by show _=_;unfold oz;rw[aF (by omega),bX ab,bX ae];rfl
  go_wp2;go_ret;exact⟨by rw[HE.o];rfl,hb3⟩
def aeq(rb:Nat)(lw:ByteArray)(w:ah)(hc:w.cell? (ar rb 5 J)=U (aB lw)):Calls prog 32 #[ax (U (ar rb 0 J)),aB ⟨#[119,105,110,100,111,119]⟩] w λe w'=>e=aH (aJ (decide (lw=⟨#[]⟩)))/\w'=w:=by
 by_cases e:lw=⟨#[]⟩
 ·have HV:ag (decide (lw=⟨#[]⟩)=true):=by show _=_;simp[e]
  obtain⟨e1,e2⟩:=nX e;clear e;go_enter func32,ntmps32
  go_wp2;go_ret;exact⟨by rw[HV.o];rfl,rfl⟩
 have HV:ag (decide (lw=⟨#[]⟩)=false):=by show _=_;simp[e]
 obtain⟨e1,e2⟩:=eG e;clear e;go_enter func32,ntmps32
 go_wp2;go_ret;exact⟨by rw[HV.o];rfl,rfl⟩
def aer(rb:Nat)(lw:ByteArray)(w:ah)(hc:w.cell? (ar rb 5 J)=U (aB lw)):Calls prog 32 #[ax (U (ar rb 0 J)),aB ⟨#[99,121,99,108,101]⟩] w λe w'=>e=aH (aJ (decide (lw=⟨#[119,105,110,100,111,119]⟩)))/\w'=w:=by
 by_cases e:lw=⟨#[119,105,110,100,111,119]⟩
 ·have HV:ag (decide (lw=⟨#[119,105,110,100,111,119]⟩)=true):=by show _=_;simp[e]
  obtain⟨e1,e2⟩:=nX e;clear e;go_enter func32,ntmps32
  go_wp2;go_ret;exact⟨by rw[HV.o];rfl,rfl⟩
 have HV:ag (decide (lw=⟨#[119,105,110,100,111,119]⟩)=false):=by show _=_;simp[e]
 obtain⟨e1,e2⟩:=eG e;clear e;go_enter func32,ntmps32
 go_wp2;go_ret;exact⟨by rw[HV.o];rfl,rfl⟩
def aes(rb:Nat)(lw:ByteArray)(w:ah)(hc:w.cell? (ar rb 5 J)=U (aB lw)):Calls prog 32 #[ax (U (ar rb 0 J)),aB ⟨#[100,101,108,97,121]⟩] w λe w'=>e=aH (aJ (decide (lw=⟨#[99,121,99,108,101]⟩)))/\w'=w:=by
 by_cases e:lw=⟨#[99,121,99,108,101]⟩
 ·have HV:ag (decide (lw=⟨#[99,121,99,108,101]⟩)=true):=by show _=_;simp[e]
  obtain⟨e1,e2⟩:=nX e;clear e;go_enter func32,ntmps32
  go_wp2;go_ret;exact⟨by rw[HV.o];rfl,rfl⟩
 have HV:ag (decide (lw=⟨#[99,121,99,108,101]⟩)=false):=by show _=_;simp[e]
 obtain⟨e1,e2⟩:=eG e;clear e;go_enter func32,ntmps32
 go_wp2;go_ret;exact⟨by rw[HV.o];rfl,rfl⟩
def ui(lw:ByteArray):Bool:=!(decide (lw=⟨#[]⟩)||decide (lw=⟨#[119,105,110,100,111,119]⟩)||decide (lw=⟨#[99,121,99,108,101]⟩))
def aet(rb:Nat)(lw:ByteArray)(w:ah)(hc:w.cell? (ar rb 5 J)=U (aB lw)):Calls prog 32 #[ax (U (ar rb 0 J)),aB ⟨#[101,110,116,105,116,121]⟩] w λe w'=>e=aH (aJ (ui lw))/\w'=w:=by
 by_cases a:lw=⟨#[]⟩
 ·have HV:ag (ui lw=false):=by show _=_;simp[ui,a]
  obtain⟨e1,e2⟩:=nX a;clear a;go_enter func32,ntmps32
  go_wp2;go_ret;exact⟨by rw[HV.o];rfl,rfl⟩
 obtain⟨a1,a2⟩:=eG a
 by_cases b:lw=⟨#[119,105,110,100,111,119]⟩
 ·have HV:ag (ui lw=false):=by show _=_;simp[ui,b]
  obtain⟨e1,e2⟩:=nX b;clear a b;go_enter func32,ntmps32
  go_wp2;go_ret;exact⟨by rw[HV.o];rfl,rfl⟩
 obtain⟨b1,b2⟩:=eG b
 by_cases c:lw=⟨#[99,121,99,108,101]⟩
 ·have HV:ag (ui lw=false):=by show _=_;simp[ui,c]
  obtain⟨e1,e2⟩:=nX c;clear a b c;go_enter func32,ntmps32
  go_wp2;go_ret;exact⟨by rw[HV.o];rfl,rfl⟩
 have HV:ag (ui lw=true):=by show _=_;simp[ui,a,b,c]
 obtain⟨c1,c2⟩:=eG c;clear a b c;go_enter func32,ntmps32
 go_wp2;go_ret;exact⟨by rw[HV.o];rfl,rfl⟩
def aeu(hk:kindOf (bl h)=U k):h=gY k/\k<10:=by
 obtain⟨h1,h2⟩:=Bo hk;exact⟨oG (by rw[h1,gY,uA]),h2⟩
def xA(last:Int)(h:ByteArray):Bool:=match kindOf (bl h)with
 |some k=>may last k
 |none=>false
def RU(rb:Nat)(last:Int)(h:ByteArray)(w:ah)(l0:-1<=last)(l9:last<=9)(hc:w.cell? (ar rb 5 J)=U (aB (cL last))):Calls prog 32 #[ax (U (ar rb 0 J)),aB h] w λe w'=>e=aH (aJ (xA last h))/\Below w.heap.size w w':=by
 cases hk:kindOf (bl h)with
 |none=>
  have hne:∀k,k<10->¬h=gY k:=λk h10 e=>by rw[e,gY,uA,GJ k h10]at hk;cases hk
  refine(RR rb _ h w hc (hne 0 (by decide)) (hne 1 (by decide)) (hne 2 (by decide)) (hne 3 (by decide))).mono ?_;rw[aen hk,show xA _ h=false by unfold xA;rw[hk]];rintro e w' ⟨rfl,hb⟩;exact⟨by unfold oz;rw[aU (bk (by decide))],hb⟩
 |some k=>
  obtain⟨rfl,kR⟩:=aeu hk;have hR:xA last (gY k)=may last k:=by unfold xA;rw[hk]
  have hw:=@K2 _ l9;have he:=@RQ _ l9;rw[hR];clear hR
  rcases eC k 4 with h4|h4
  ·match k,h4 with
   |0,_=>
    apply(aeq rb _ w hc).mono;rintro e w' ⟨rfl,rfl⟩;exact⟨by rw[show may _ 0=decide (cL _=⟨#[]⟩)from by rw[show decide _=decide _ from jd.2 he];unfold may;rw[aU (by decide)];apply jd.2;omega],aC _ _⟩
   |1,_=>
    apply(aer rb _ w hc).mono;rintro e w' ⟨rfl,rfl⟩;exact⟨by rw[show may _ 1=decide (cL last=gY 0)from by rw[show decide _=decide _ from jd.2 (hw (by decide))];unfold may;rw[aU (by decide)];apply jd.2;omega];rfl,aC _ _⟩
   |2,_=>
    apply(aes rb _ w hc).mono;rintro e w' ⟨rfl,rfl⟩;exact⟨by rw[show may _ 2=decide (cL last=gY 1)from by rw[show decide _=decide _ from jd.2 (hw (by decide))];unfold may;rw[aU (by decide)];apply jd.2;omega];rfl,aC _ _⟩
   |3,_=>
    apply(aet rb _ w hc).mono;rintro e w' ⟨rfl,rfl⟩
    refine⟨?_,aC _ _⟩;have e0:decide _=decide _:=jd.2 he;have e1:decide _=decide (last=(0:Nat)):=jd.2 (hw (by decide));have e2:decide _=decide (last=(1:Nat)):=jd.2 (hw (by decide));have e3:ui _=!(decide _||decide (cL _=gY 0)||decide (cL last=gY 1)):=rfl;rw[e3,e0,e1,e2];have e4:may _ 3=decide (2<=last):=rfl;rw[e4];congr 2
    by_cases q:2<=last
    ·rw[bz q,bX (show ¬last<0 by omega),bX (show ¬last=(0:Nat) by omega),bX (show ¬last=(1:Nat) by omega)];rfl
    rw[bX q]
    rcases(show last<0\/last=(0:Nat)\/last=(1:Nat) by omega)with h|h|h
    ·rw[bz h];rfl
    ·rw[bz h];simp
    rw[bz h];simp
  apply(RR rb _ _ w hc (λe=>by have:=A_ k kR 0 (by decide) e;omega) (λe=>by have:=A_ k kR 1 (by decide) e;omega) (λe=>by have:=A_ k kR 2 (by decide) e;omega) (λe=>by have:=A_ k kR 3 (by decide) e;omega)).mono;rintro e w' ⟨rfl,hb⟩
  refine⟨?_,hb⟩;have e5:(!decide (gY k=⟨#[99,111,117,110,116]⟩))=!decide (k=5):=by
   congr 1
   exact jd.2 ⟨λh=>A_ k kR 5 (by decide) h,λh=>by rw[h];rfl⟩
  rw[e5,RJ k kR,aF (by omega),aem _ l0 l9];congr 2
  have hm:may last k=if k=5 then decide (3<=last)&&decide (last<5)else decide (3<=last)&&decide (last<=(k:Int)):=by
   unfold may;rw[aF (by omega),aF (by omega)]
  rw[hm];unfold oz
  by_cases q:last<3
  ·rw[aU q,aU (cF (by decide)),bX (show ¬3<=last by omega)];simp
  rw[aF q,aF (by omega),bz (show 3<=last by omega)]
  by_cases q5:k=5
  ·subst q5;rw[aU rfl];simp
   omega
  rw[aF q5,bX q5];simp
  by_cases q6:last<k
  ·rw[bz (show last<=(k:Int) by omega),bz q6];rfl
  rw[bX q6,Bool.false_or];exact jd.2 (by omega)
open Go.Maps
def bp(rb:Nat)(a b:ah):Prop:=a.grownBy b (U rb)
section
variable {rb:Nat}{a b c:ah}
def bp.size(h:bp rb a b):a.heap.size<=b.heap.size:=World.grownBy.size h
def bp.refl(rb:Nat)(a:ah):bp rb a a:=⟨rfl,rfl,rfl,aR _,λ_ _ _=>rfl⟩
def bp.trans(h:bp rb a b)(h':Below a.heap.size b c):bp rb a c:=
 ⟨h'.os.trans h.os,h'.tape.trans h.tape,h'.output.trans h.output,bH h.size h'.size,λk hk hne=>(h'.block k hk).trans (h.block k hk hne)⟩
def bp.setCell{p:av}(h:bp rb a b)(hp:p.block=rb\/a.heap.size<=p.block)(v:aj):bp rb a (b.setCell p v):=
 ⟨h.os,h.tape,h.output,by simpa[cZ]using h.size,λk hk hne=>(Below.heap_setCell _ _ _ _ (λe=>hp.elim (λh1=>hne (by rw[e,h1])) (λh1=>by omega))).trans (h.block k hk hne)⟩
def bp.grown(h:bp rb a b){row:Option Nat}(k:b.grownBy c row)(_:a.heap.size<=b.heap.size)(hr:∀i,row=U i->a.heap.size<=i):bp rb a c:=
 ⟨k.os.trans h.os,k.tape.trans h.tape,k.output.trans h.output,bH h.size k.size,λj hj hne=>(k.block j (dK hj h.size) (λe=>by have:=hr j e.symm;omega)).trans (h.block j hj hne)⟩
def bp.drew(h:bp rb a b):bp rb a b.drew:=⟨h.os,h.tape,h.output,h.size,h.block⟩
end
def dG(c:aV)(ev:aj)(lw:ByteArray):Array aj:=#[af I c.closed,af I c.opn,af I c.cycle,af I c.bO,ev,aB lw]
structure uj(B rb:Nat)(w:ah)(c:aV)(lw:ByteArray):Prop where
 lo:rb=rb\/B<=rb
 nil:c.az=[]
 row:w.heap[rb]?=U (ay (dG c (ak J 0 0) lw) 49 (0,0))
structure bB(B rb L g cap:Nat)(w:ah)(c:aV)(lw:ByteArray)(es:List aG)(old:List aj)(e:aG)(x:bJ)(cells:List aj):Prop where
 lo:rb=rb\/B<=rb
 ll:B<=L
 row:w.heap[rb]?=U (ay (dG c (ak (U (ar g 0 J)) (es.length+1) cap) lw) 49 (0,0))
 az:w.ownsRow B 60 10 (ak (U (ar g 0 J)) (es.length+1) cap) (es.length+1) (cells++old)
 xB:old.length=10
 ic:cells.length=es.length*10
 olds:∀(i:Nat) e',es[i]?=U e'->∃x',dU B w e' x'/\vr L x'/\∀(j:Nat) u,(x'.row e')[j]?=U u->cells[i*10+j]?=U u
 new:dU L w e x
 fl:x.f.ownBlock=J\/x.f.ownBlock≠x.l.ownBlock
def nY(B rb L g cap:Nat)(w:ah)(c:aV)(lw:ByteArray)(es:List aG)(e:aG)(x:bJ)(cells:List aj):Prop:=bB B rb L g cap w c lw es (x.row e).toList e x cells
def dX(B rb:Nat)(w:ah)(c:aV)(lw:ByteArray):Prop:=uj B rb w c lw\/∃L g cap es e x cells,c.az=es++[e]/\L<=w.heap.size/\nY B rb L g cap w c lw es e x cells
def uj.below{B:Nat}(h:uj B rb w c lw)(hb:Below w.heap.size w w'):uj B rb w' c lw:=⟨h.lo,h.nil,cX hb h.row⟩
def bB.below{B:Nat}(h:bB B rb L g cap w c lw es old e x cells)(hb:Below w.heap.size w w'):bB B rb L g cap w' c lw es old e x cells:=by
 have hg:w.grownBy w' J:=⟨hb.os,hb.tape,hb.output,hb.size,λk hk _=>hb.block k hk⟩;have k:∀v:aj,v.ownBlock=J\/v.ownBlock≠J:=λv=>by by_cases e:v.ownBlock=J;exact cF e;exact bk e
 have kx:∀{B:Nat} {e:aG} {x:bJ},dU B w e x->dU B w' e x:=λhx=>hx.kept hg (k _) (k _) (k _) (k _) (k _)
 refine⟨h.lo,h.ll,cX hb h.row,h.az.kept hg (k _),h.xB,h.ic,λi e' he=>?_,kx h.new,h.fl⟩;obtain⟨x',a,b,d⟩:=h.olds i e' he;exact⟨x',kx a,b,d⟩
def dX.below{B:Nat}(h:dX B rb w c lw)(hb:Below w.heap.size w w'):dX B rb w' c lw:=by
 rcases h with h|⟨L,g,cap,es,e,x,cells,h1,h2,h3⟩
 ·exact cF (h.below hb)
 exact bk ⟨L,g,cap,es,e,x,_,h1,bH h2 hb.size,bB.below h3 hb⟩
def bB.grow{B:Nat}(h:bB B rb L g cap w c lw es old e x cells):∃cur,w.heap[g]?=U (ay cur 60 (0,0))/\B<=g:=by
 rcases h.az.2 with⟨h1,_⟩|⟨g',cap',cur,a,b,c',_⟩
 ·cases h1
 simp only[Value.slice.injEq,gQ,Addr.mk.injEq,and_true,true_and]at a;obtain⟨rfl,rfl⟩:=a;exact⟨cur,c',b⟩
def bB.iY{B:Nat}(h:bB B rb L g cap w c lw es old e x cells)(hu:old[j]?=U u):w.cell? ⟨g,es.length*10+j,J⟩=U u/\w.frozen? ⟨g,es.length*10+j,J⟩=false:=by
 obtain⟨cur,hc,-⟩:=h.grow
 refine⟨?_,by simp[bE,hc]⟩;have:=h.az.cells (g:=g) rfl (es.length*10+j) u (by rw[pE (by rw[h.ic];omega),h.ic,yK];exact hu);rw[oM]at this;simpa using this
def bB.vI{B:Nat}(h:bB B rb L g cap w c lw es old e x cells)(j:Nat)(u:aj)(hr:(dG c (ak (U (ar g 0 J)) (es.length+1) cap) lw).setIfInBounds j u=dG c' (ak (U (ar g 0 J)) (es.length+1) cap) lw'):bB B rb L g cap (w.setCell (ar rb j J) u) c' lw' es old e x cells:=by
 have hg:=o8 w rb j u
 refine⟨h.lo,h.ll,?_,h.az.kept hg (bk (eu h.az h.row (by decide))),h.xB,h.ic,λi e' he=>?_,h.new.other hg h.row (by decide) (by decide) (by decide) (by decide),h.fl⟩
 ·simp only[cZ,fR,h.row];simp[hr]
 obtain⟨x',a,b,d⟩:=h.olds i e' he;exact⟨x',a.other hg h.row (by decide) (by decide) (by decide) (by decide),b,d⟩
def uj.vI{B:Nat}(h:uj B rb w c lw)(hn:c'.az=[])(j:Nat)(u:aj)(hr:(dG c (ak J 0 0) lw).setIfInBounds j u=dG c' (ak J 0 0) lw'):uj B rb (w.setCell (ar rb j J) u) c' lw':=by
 refine⟨h.lo,hn,?_⟩;simp only[cZ,fR,h.row];simp[hr]
def bB.Gh{B:Nat}(h:bB B rb L g cap w c lw es old e x cells)(b j:Nat)(u:aj)(hb:w.heap[b]?=U (ay cs 60 (0,0)))(hg:b≠g):bB B rb L g cap (w.setCell (ar b j J) u) c lw es old e x cells:=by
 have hg1:=o8 w b j u;have hne:rb≠b:=λe2=>by rw[<- e2,h.row]at hb;simp at hb
 refine⟨h.lo,h.ll,(hg1.block rb (cU h.row) (by simpa using hne)).trans h.row,h.az.kept hg1 (bk (by simp[mC];exact λe2=>hg e2.symm)),h.xB,h.ic,λi e' he=>?_,h.new.other hg1 hb (by decide) (by decide) (by decide) (by decide),h.fl⟩;obtain⟨x',a,b',d⟩:=h.olds i e' he;exact⟨x',a.other hg1 hb (by decide) (by decide) (by decide) (by decide),b',d⟩
def bB.grown{B:Nat}{e':aG}{x':bJ}{r:Option Nat}(h:bB B rb L g cap w c lw es old e x cells)(hgr:w.grownBy w' r)(hL:∀b,r=U b->L<=b)(iZ:r≠U rb)(hrg:r≠U g)(hx:dU L w' e' x')(vu:x'.f.ownBlock=J\/x'.f.ownBlock≠x'.l.ownBlock):bB B rb L g cap w' c lw es old e' x' cells:=by
 refine⟨h.lo,h.ll,(hgr.block rb (cU h.row) (λe2=>iZ e2.symm)).trans h.row,h.az.kept hgr (bk (λe2=>hrg e2.symm)),h.xB,h.ic,λi e2 he=>?_,hx,vu⟩;obtain⟨y,a,b,d⟩:=h.olds i e2 he;exact⟨y,a.far b hL hgr,b,d⟩
def bB.put{B:Nat}(h:bB B rb L g cap w c lw es old e x cells)(j:Nat)(u:aj):bB B rb L g cap (w.setCell ⟨g,es.length*10+j,J⟩ u) c lw es (old.set j u) e x cells:=by
 obtain⟨cur,hc,hB⟩:=h.grow;have hg:=o8 w g (es.length*10+j) u;have hne:rb≠g:=λe2=>by rw[<- e2,h.row]at hc;simp at hc
 refine⟨h.lo,h.ll,(hg.block rb (cU h.row) (by simpa using hne)).trans h.row,?_,by rw[List.length_set];exact h.xB,h.ic,λi e2 he=>?_,h.new.other hg hc (by decide) (by decide) (by decide) (by decide),h.fl⟩
 ·have:=JN (i:=es.length*10+j) h.az u;rw[List.set_append_right _ _ (by rw[h.ic];omega),h.ic,yK]at this;exact this
 obtain⟨y,a,b,d⟩:=h.olds i e2 he;exact⟨y,a.other hg hc (by decide) (by decide) (by decide) (by decide),b,d⟩
def bB.toE{B:Nat}(h:bB B rb L g cap w c lw es old e x cells)(ho:old=(x.row e).toList):nY B rb L g cap w c lw es e x cells:=by subst ho;exact h
def bB.aev{B:Nat}(h:bB B rb L g cap w c lw es old e x cells){o:Nat}(ho:o=es.length*10){u0 u1 u2 u3 u4 u5 u6 u7 u8 u9:aj}(hu:[u0,u1,u2,u3,u4,u5,u6,u7,u8,u9]=(x.row e).toList):nY B rb L g cap ((((((((((w.setCell (ar g o J) u0).setCell ⟨g,o+1,J⟩ u1).setCell ⟨g,o+2,J⟩ u2).setCell ⟨g,o+3,J⟩ u3).setCell ⟨g,o+4,J⟩ u4).setCell ⟨g,o+5,J⟩ u5).setCell ⟨g,o+6,J⟩ u6).setCell ⟨g,o+7,J⟩ u7).setCell ⟨g,o+8,J⟩ u8).setCell ⟨g,o+9,J⟩ u9) c lw es e x cells:=by
 subst ho;have h1:=(((((((((h.put 0 u0).put 1 u1).put 2 u2).put 3 u3).put 4 u4).put 5 u5).put 6 u6).put 7 u7).put 8 u8).put 9 u9
 refine h1.toE ?_;have hl:=h.xB;obtain⟨a0,a1,a2,a3,a4,a5,a6,a7,a8,a9,rfl⟩:∃a0 a1 a2 a3 a4 a5 a6 a7 a8 a9,old=[a0,a1,a2,a3,a4,a5,a6,a7,a8,a9]:=by
  match old,hl with
  |[a0,a1,a2,a3,a4,a5,a6,a7,a8,a9],_=>exact⟨a0,a1,a2,a3,a4,a5,a6,a7,a8,a9,rfl⟩
 rw[<- hu];rfl
def kN(x:Bs):Int:=match numOf x with
 |some n=>(n:Int)
 |none=>-1
def Dm{x:Bs}(h:numOf x=J):kN x=-1:=by unfold kN;rw[h]
def RX{x:Bs}(h:numOf x=U n):kN x=n:=by unfold kN;rw[h]
def aew{w:Bs}(h:w.length=0):numOf w=J:=by unfold numOf;rw[aU (cF h)]
def vJ(s:ByteArray)(w:ah):Calls prog 33 #[aB s] w λe w'=>e=aH (af I (kN (bl s)))/\w'=w:=by
 by_cases h1:s.size<1
 ·have HN:ag (kN (bl s)=-1):=Dm (aew (by rw[jU];omega));have g1:(s.size:Int)<1:=by omega
  clear h1;go_enter func33,ntmps33
  go_wp2;go_ret;exact⟨by rw[HN.o];rfl,rfl⟩
 have g0:¬(s.size:Int)<1:=by omega
 by_cases rY:13<s.size
 ·have HN:ag _:=Dm (Pt (by rw[jU];exact rY));have g1:13<(s.size:Int):=by omega
  clear h1 rY;go_enter func33,ntmps33
  go_wp2;go_ret;exact⟨by rw[HN.o];rfl,rfl⟩
 have g1:¬13<(s.size:Int):=by omega
 have k0:(0:Int)<(s.size:Int):=by omega
 have hp:0<s.size:=by omega
 have hgd:(bl s).getD 0 0=s[0]:=(byte_at s 0 hp).symm
 by_cases hz:1<s.size/\s[0]=48
 ·have HN:ag _:=Dm (Pu (by rw[jU];exact hz.1) (by rw[hgd];exact hz.2));have g2:1<(s.size:Int):=by omega
  have g3:=hz.2;clear hz hgd h1 rY;go_enter func33,ntmps33
  go_wp2;go_ret;exact⟨by rw[HN.o];rfl,rfl⟩
 have HZ:ag (1<=s.size/\s.size<=13):=⟨by omega,by omega⟩;have HE:ag (∀k,k<s.size->gO _=false->kN _=-1):=λk h2 h3=>Dm (Pv (by rw[jU];exact h2) h3)
 have HY:ag ((∀j,j<s.size->gO _=true)->kN _=(j4 _:Nat)):=λh=>RX (Pw (by rw[jU];omega) (by rw[jU];omega) (by rw[jU,hgd];exact hz) (by rw[jU];exact h))
 have HV:ag (∀k,k<s.size->(∀j,j<k->gO _=true)->j4 ((bl s).take k)<1000000000000/\j4 _=j4 _*10+(((bl s).getD k 0).toNat-48)):=λk hk hd=>⟨dK (JA k (by rw[jU];omega) hd) (Nat.pow_le_pow_right (by decide) (show k<=12 by omega)),Jz (by rw[jU];exact hk)⟩
 have hq:¬1<(s.size:Int)\/(1<(s.size:Int)/\¬s[0]=48):=by
  by_cases q:1<(s.size:Int)
  ·exact bk ⟨q,λh=>hz ⟨by omega,h⟩⟩
  exact cF q
 clear hz hgd h1 rY;have qH:¬1<(s.size:Int)\/(1<(s.size:Int)/\((s[0].toNat:Int)==48)=false):=hq.imp id (λh=>⟨h.1,by rw[lN];intro h2;exact h.2 (UInt8.toNat_inj.1 (by show _=48;omega))⟩);clear hq
 rcases qH with q1|⟨q1,q2⟩
 all_goals
  go_enter func33,ntmps33
  go_wp2_with fail
  go_loopw [3,4] (λm i wr=>∃k:Nat,k<=s.size/\i=af I k/\m=af I (j4 ((bl s).take k):Nat)/\wr=w/\∀j,j<k->gO ((bl s).getD j 0)=true) (λ_ i _=>s.size-(intOf i).toNat)
  case atStart=>exact⟨0,cG _,rfl,rfl,rfl,λj hj=>absurd hj (im _)⟩
  case round=>
   obtain⟨k,hk,rfl,rfl,rfl,hall⟩:=hrel
   by_cases hlt:k<s.size
   ·obtain⟨bK,hv2⟩:=HV.o k hlt hall;have HB:ag _:=hall;have K3:ag _:=hv2;have CL:ag _:=HE.o k hlt;have jH:ag (s[k]=(bl s).getD k 0):=byte_at s k hlt;have k1:(k:Int)<(s.size:Int):=by omega
    have k2:(0:Int)<=(k:Int):=by omega
    have Hb:k<13:=by have:=HZ.o.2;omega
    clear hall hv2
    try clear q2
    clear q1;generalize hcc:s[k]=b at *;rw[<- jH.o]at K3 CL;have HC:ag _:=jH.o.symm;have kO:=b.toNat_lt;clear jH;generalize j4 ((bl s).take k)=m at bK K3⊢
    by_cases hd:gO b=true
    ·have hb:=Jy hd;have n1:¬(b.toNat:Int)<48:=by omega
     have n2:¬(57:Int)<(b.toNat:Int):=by omega
     go_wp2
     go_roundw
     case rel=>
      refine⟨k+1,by omega,by go_num,by rw[K3.o];go_num,by first|trivial|rfl,λj hj=>?_⟩
      by_cases e:j=k
      ·rw[e,HC.o];exact hd
      exact HB.o j (by omega)
     case measure=>simp[intOf];omega
    simp only[xI]at hd;have HN:ag _:=CL.o hd
    by_cases n1:(b.toNat:Int)<48
    ·clear hd;go_wp2;go_ret;exact⟨by rw[HN.o];rfl,by first|trivial|rfl⟩
    have n2:(57:Int)<(b.toNat:Int):=by
     unfold gO at hd
     rcases eC 57 b.toNat with h|h
     ·omega
     exfalso
     rw[bz (show 48<=b.toNat by omega),bz h]at hd
     cases hd
    clear hd;go_wp2;go_ret;exact⟨by rw[HN.o];rfl,by first|trivial|rfl⟩
   have k1:¬(k:Int)<(s.size:Int):=by omega
   obtain rfl:k=s.size:=by omega
   have HR:ag (kN (bl s)=(j4 ((bl s).take s.size):Nat)):=by
    show _=_
    rw[HY.o hall,<- jU,List.take_length]
   clear hall;go_wp2;go_ret;exact⟨by rw[HR.o];rfl,by first|trivial|rfl⟩
def Ba(w:ah)(u:aj)(T:TypeId):∀(j:Nat) x,([u]:List aj)[j]?=U x->(w.alloc (ay #[u] T)).cell? ((⟨w.heap.size,0,J⟩:av).add j)=U x:=by
 intro j x hx
 match j,hx with
 |0,hx=>
  simp at hx
  subst hx;rw[oM,fE _ _ _ _ rfl];rfl
 |j+1,hx=>simp at hx
def aex{B:Nat}{v:aj}(h:w.ownsRow B T k v n xs):∃a c,v=ak a n c:=by
 rcases h.2 with⟨h1,h2⟩|⟨g,cap,cur,h1,_⟩
 ·exact⟨_,0,by rw[h1,h2]⟩
 exact⟨_,cap,h1⟩
def sA{B:Nat}{v:aj}(h:w.ownsRow B T k v (n+1) xs):∃g c,v=ak (U (ar g 0 J)) (n+1) c:=by
 rcases h.2 with⟨h1,h2⟩|⟨g,cap,cur,h1,_⟩
 ·simp at h2
 exact⟨g,cap,h1⟩
def qq(c:UInt8)(acc:Bs)(t:Bs):List Bs:=match bS c t with
 |[]=>[acc]
 |h::r=>(acc++h)::r
def RY(c:UInt8)(t:Bs):qq c [] t=bS c t:=by
 unfold qq;have:=Tn c t
 cases h:bS c t with
 |nil=>exact absurd h this
 |cons a r=>simp
def aey(c:UInt8)(acc:Bs):qq c acc []=[acc]:=by simp[qq,bS]
def aez(c:UInt8)(acc t:Bs):qq c acc (c::t)=acc::qq c [] t:=by
 rw[RY];unfold qq;rw[bS,aU rfl];simp
def aeA{c b:UInt8}(h:b≠c)(acc t:Bs):qq c acc (b::t)=qq c (acc++[b]) t:=by
 unfold qq;rw[bS,aF h]
 cases bS c t with
 |nil=>simp
 |cons a r=>simp
def drop_at{l:Bs}(h:k<l.length):l.drop k=l.getD k 0::l.drop (k+1):=by
 rw[lM h,nu,bL h];rfl
def one_byte(s:ByteArray)(k:Nat)(h:k<s.size):bl (s.extract k (k+1))=[(bl s).getD k 0]:=by
 have hl:k<s.data.toList.length:=by rw[qD];exact h
 unfold bl;rw[Lib.extract_data];rw[nu,bL hl];rw[show k+1-k=1 by omega,lM hl];rfl
def aeB(s:ByteArray)(k:Nat)(h:k<s.size)(W:ah):(Instr.slice 9 (aB s) (U (af I (k:Int))) (U (af I ((k:Int)+1))) J).run prog W=.ok (aB (s.extract k (k+1))) W:=by
 rw[run_slice_string W 9 s I I _ _ underlying9 (by omega) (by omega) (by omega)];rw[show ((k:Int)+1).toNat=k+1 by omega,zh]
def Gi(s:ByteArray)(c:UInt8)(w:ah)(hs:s.size<=1000000):Calls prog 16 #[aB s,af .u8 (c.toNat:Int)] w λe w'=>∃(ws:List ByteArray) (g cap:Nat),e=aH (ak (U (ar g 0 J)) ws.length cap)/\ws.map bl=bS c (bl s)/\w'.ownsRow w.heap.size 9 1 (ak (U (ar g 0 J)) ws.length cap) ws.length (ws.flatMap gg)/\Below w.heap.size w w':=by
 obtain⟨i0,hi,hz0,hz1,hz2⟩:=ma G_;change ag _ at hs
 go_enter func16,ntmps16
 go_wp2_with fail
 go_loopw [5,6,7] (λov wv iv wr=>∃(k:Nat) (os:List ByteArray) (wd:ByteArray) (va:Option av) (vc:Nat),k<=s.size/\iv=af I k/\wv=aB wd/\ov=ak va os.length vc/\os.length<=k/\wd.size<=k/\wr.ownsRow w.heap.size 9 1 (ak va os.length vc) os.length (os.flatMap gg)/\Below w.heap.size w wr/\bS c (bl s)=os.map bl++qq c (bl wd) ((bl s).drop k)) (λ_ _ iv _=>s.size-(intOf iv).toNat)
 case atStart=>exact⟨0,[],_,_,0,cG _,rfl,rfl,rfl,aR _,aR _,kE _ _ _ _,aC _ _,by simp[bl,RY]⟩
 case round=>
  obtain⟨k,os,wd,va,vc,hk,rfl,rfl,rfl,aeC,Q0,hown,(hb:ag _),heq⟩:=hrel;have aZ:ag (wr.ownsRow _ 9 1 _ _ _):=hown;change ag _ at heq
  have HL:ag (os.length<=k/\wd.size<=k/\k<=s.size):=⟨aeC,Q0,hk⟩
  by_cases hlt:k<s.size
  ·have k1:(k:Int)<(s.size:Int):=by omega
   have k2:(0:Int)<=(k:Int):=by omega
   have k3:k<1000000:=by have:=hs.o;omega
   have jH:ag (s[k]=(bl s).getD k 0):=byte_at s k hlt;have sf:ag ((bl s).drop k=(bl s).getD k 0::(bl s).drop _):=drop_at (by unfold bl;rw[qD];exact hlt);have RZ:ag _:=one_byte s k hlt;have fL:=aeB s k hlt;generalize D_:s[k]=b at *
   by_cases e:b=c
   ·subst e;have Dp:ag (bS b (bl s)=(os++[wd]).map bl++qq b [] ((bl s).drop (k+1))):=by
     show _=_
     rw[heq.o,sf.o,<- jH.o,aez,List.map_append,List.append_assoc];rfl
    go_wp2_with (at_builtin;refine wpList_append_own _ rfl _ _ 22 rfl _ 9 i0 _ 1 16 underlying22 hi hz0 hz1 hz2 rfl (aD rfl) (ak va _ vc) _ _ rfl (aZ.alloc _) _ 1 1 _ rfl rfl (Ba _ _ _) (by intro u hu;simp at hu;subst hu;rfl) (by have:=HL.o;unfold maxLen;omega) (by have:=HL.o;omega) (by have:=hb.size;simp;omega) ?_;intro v1 w1 hown1 cY aeD)
    obtain⟨ga,gc,rfl⟩:=aex hown1;go_roundw
    case rel=>exact⟨_,_,_,ga,gc,by omega,by go_num,rfl,by simp,by have:=HL.o;simp;omega,cG _,by simpa[gg]using hown1,(hb.alloc hb.size _).grown cY (by have:=hb.size;simp;omega) (λq hq=>(aZ.lt q hq).1),Dp⟩
    case measure=>simp[intOf];omega
   have Dp:ag (bS c (bl s)=os.map bl++qq c (bl (wd++s.extract k (k+1))) ((bl s).drop (k+1))):=by
    show _=_
    rw[heq.o,sf.o,<- jH.o,aeA e,show bl (wd++s.extract k _)=bl wd++bl (s.extract k (k+1)) by simp[bl],RZ.o,<- jH.o]
   have lH:ag ((s.extract k (k+1)).size=1):=by
    show _=_
    have h2:(bl (s.extract k (k+1))).length=1:=by rw[RZ.o];rfl
    unfold bl at h2;rw[qD]at h2;exact h2
   have ha:=run_string_add_sum (P:=prog) wr wd (s.extract k (k+1)) (by have:=HL.o;have:=lH.o;omega);have e1:((b.toNat:Int)==(c.toNat:Int))=false:=by
    rw[lN];intro h;exact e (UInt8.toNat_inj.1 (by omega))
   have e2:¬(b.toNat:Int)=(c.toNat:Int):=λh=>e (UInt8.toNat_inj.1 (by omega))
   go_wp2
   go_roundw
   case rel=>exact⟨_,os,_,va,vc,by omega,by go_num,rfl,rfl,by have:=HL.o;omega,by have:=HL.o;have:=lH.o;rw[ByteArray.size_append];omega,aZ,hb,Dp⟩
   case measure=>simp[intOf];omega
  have k1:¬(k:Int)<(s.size:Int):=by omega
  have Dp:ag ((os++[wd]).map bl=bS c (bl s)):=by
   show _=_
   rw[heq.o,List.drop_eq_nil_of_le (by unfold bl;rw[qD];exact Nat.le_of_not_lt hlt),aey,List.map_append];rfl
  have k3:os.length<=1000000:=by have:=HL.o;have:=hs.o;omega
  go_wp2_with (at_builtin;refine wpList_append_own _ rfl _ _ 22 rfl _ 9 i0 _ 1 16 underlying22 hi hz0 hz1 hz2 rfl (aD rfl) (ak va _ vc) _ _ rfl (aZ.alloc _) _ 1 1 _ rfl rfl (Ba _ _ _) (by intro u hu;simp at hu;subst hu;rfl) (by unfold maxLen;omega) (by omega) (by have:=hb.size;simp;omega) ?_;intro v1 w1 hown1 cY aeD)
  obtain⟨g,cap,hv⟩:=sA hown1;subst hv;go_ret;exact⟨_,g,cap,by simp,Dp,by simpa[gg]using hown1,(hb.alloc hb.size _).grown cY (by have:=hb.size;simp;omega) (λq hq=>(aZ.lt q hq).1)⟩
def aT:kQ:=λau w=>au.findIdx? (λp=>decide (bl p=w))
def aeE:oF aT:=by
 refine⟨λau w i h=>?_,λau w h p hp=>?_⟩
 ·unfold aT at h;rw[List.findIdx?_eq_some_iff_getElem]at h;obtain⟨hlt,h1,-⟩:=h;exact⟨_,bL hlt,by simpa using h1⟩
 unfold aT at h;rw[List.findIdx?_eq_none_iff]at h;simpa using h p hp
def aeF{a b:ByteArray}:a=b↔bl a=bl b:=⟨λh=>by rw[h],λh=>oG h⟩
def aeG(au:List ByteArray)(s:ByteArray):idxOf au s=match aT au (bl s)with
 |some i=>(i:Int)
 |none=>-1:=by
 unfold idxOf aT;rw[show (λy:ByteArray=>decide _)=(λp=>decide _)from funext λy=>jd.2 aeF]
 cases List.findIdx? (λp=>decide (bl p=bl s)) au<;>rfl
def K4:bl s=[]↔s=⟨#[]⟩:=⟨λh=>oG (by rw[h];rfl),λh=>by rw[h];rfl⟩
def vK{look:Bs->Option Nat}{s:ByteArray}:(bg look 1 (bl s)).1=(if kN (bl s)<0 then 1 else 0)/\(0<=kN (bl s)->(bg look 1 (bl s)).2=kN (bl s)/\¬s=⟨#[]⟩):=by
 cases h:numOf (bl s)with
 |none=>
  rw[Dm h]
  refine⟨?_,λh2=>by omega⟩;unfold bg
  split
  ·simp
  rw[h];simp
 |some n=>
  have h0:=Ts h;rw[RX h];unfold bg;rw[aF h0];simp only[h];exact⟨by rw[aF (by omega)],λ_=>⟨trivial,λe=>h0 (K4.2 e)⟩⟩
def zA{au:List ByteArray}{s:ByteArray}(hs:¬s=⟨#[]⟩):(bg (aT au) 2 (bl s)).1=(if idxOf au s<0 then 5 else 0)/\(0<=idxOf au s->(bg (aT au) 2 (bl s)).2=idxOf au s):=by
 rw[aeG];unfold bg;rw[aF (λh=>hs (K4.1 h))]
 cases aT au (bl s)with
 |none=>simp
 |some i=>simp only;exact⟨by rw[aF (by omega)],λ_=>trivial⟩
def R1{look:Bs->Option Nat}{s:ByteArray}(hs:¬s=⟨#[]⟩):bg look 0 (bl s)=(0,0):=by
 unfold bg;rw[aF (λh=>hs (K4.1 h))];rfl
def vL:(bg look f []).1=1:=by unfold bg;rw[aU rfl]
def sB:∀(fs:List Nat) (ws:List Bs) (nn:Bool),ws.length≠fs.length->(aI look nn fs ws).1=1
 |[],[],_,h=>by simp at h
 |[],_::_,_,_=>by simp[aI]
 |_::_,[],_,_=>by simp[aI]
 |f::fs,w::ws,nn,h=>by
  rw[aI]
  split
  ·rfl
  exact sB fs ws _ (by simpa using h)
structure dL(look:Bs->Option Nat)(fs:List Nat)(ws:List Bs)(j:Nat)(nn:Bool)(vs:List Int):Prop where
 code:(aI look false fs ws).1=(aI look nn (fs.drop j) (ws.drop j)).1
 len:vs.length=j
 vals:nn=false->(aI look false fs ws).2=vs++(aI look nn (fs.drop j) (ws.drop j)).2
def dL.start(look:Bs->Option Nat)(fs:List Nat)(ws:List Bs):dL look fs ws 0 false []:=⟨rfl,rfl,λ_=>rfl⟩
def dL.bad{fs:List Nat}{nn:Bool}(h:dL look fs ws j nn vs){w:Bs}(hf:fs[j]?=U f)(hw:ws[j]?=U w)(h1:(bg look f w).1=1):(aI look false fs ws).1=1:=by
 rw[h.code];obtain⟨lf,ef⟩:=eK.1 hf;obtain⟨lw,ew⟩:=eK.1 hw;rw[lM lf,lM lw,ef,ew,aI,aU h1]
def dL.next{fs:List Nat}{nn:Bool}(h:dL look fs ws j nn vs){w:Bs}(hf:fs[j]?=U f)(hw:ws[j]?=U w)(Dq:Bool)(v:Int)(h1:(bg look f w).1≠1)(hn:Dq=(nn||decide ((bg look f w).1=5)))(hv:Dq=false->v=(bg look f w).2):dL look fs ws (j+1) Dq (vs++[v]):=by
 obtain⟨lf,ef⟩:=eK.1 hf;obtain⟨lw,ew⟩:=eK.1 hw;have hd:aI look nn (fs.drop j) (ws.drop j)=((aI look Dq (fs.drop (j+1)) (ws.drop (j+1))).1,(bg look f w).2::(aI look Dq (fs.drop (j+1)) (ws.drop (j+1))).2):=by
  rw[lM lf,lM lw,ef,ew,aI,aF h1,<- hn]
 refine⟨by rw[h.code,hd],by rw[sP,h.len];rfl,λh0=>?_⟩;have F7:nn=false:=by
  rw[h0]at hn
  cases nn with
  |false=>rfl
  |true=>simp at hn
 rw[h.vals F7,hd,hv h0];simp
def dL.done{fs:List Nat}{nn:Bool}(h:dL look fs ws fs.length nn vs)(hl:ws.length=fs.length):(aI look false fs ws).1=(if nn then 5 else 0)/\(nn=false->(aI look false fs ws).2=vs):=by
 have h1:=h.code;have h2:=h.vals;rw[List.drop_eq_nil_of_le (aR _),List.drop_eq_nil_of_le (by omega)]at h1 h2;rw[h1]
 refine⟨by simp[aI],λh0=>?_⟩;rw[h2 h0];simp[aI]
def bq(last:Int)(c:aV)(k:Nat)(ws:List Bs):Nat:=if may last k=false then 1 else (aI (aT (bu c.az)) false (form k) ws).1
def uk{last:Int}(h:may last k=false):bq last c k ws=1:=by unfold bq;rw[aU h]
def um{last:Int}(h:may last k=true):bq last c k ws=(aI (aT (bu c.az)) false (form k) ws).1:=by unfold bq;rw[aF (by rw[h];simp)]
def aeH{last:Int}(hk:k<10)(ws:List Bs):(jy aT ⟨last,c⟩ (kw k) ws).1=bq last c k ws/\(bq last c k ws=0->(jy aT ⟨last,c⟩ (kw k) ws).2=⟨k,eV c k ws (aI (aT (bu c.az)) false (form k) ws).2⟩):=by
 unfold jy bq;rw[GJ k hk];simp only
 split
 ·exact⟨rfl,λh=>by simp at h⟩
 split
 ·rename_i h0;exact⟨h0.symm,λ_=>rfl⟩
 rename_i h0;exact⟨rfl,λh=>absurd h h0⟩
def aeI(ws:List ByteArray):ws.flatMap gg=ws.map Value.string:=by
 induction ws with
 |nil=>rfl
 |cons a t ih=>rw[wj,wz,ih];rfl
def aeJ(vs:List Int):vs.flatMap bc=vs.map (Value.int I):=by
 induction vs with
 |nil=>rfl
 |cons a t ih=>rw[wj,wz,ih];rfl
def ri{B:Nat}{ws:List ByteArray}(h:w.ownsRow B 9 1 (ak (U (ar g 0 J)) n cap) n (ws.flatMap gg))(j:Nat)(s:ByteArray)(hj:ws[j]?=U s):w.cell? (ar g j J)=U (aB s):=by
 have:=h.cells (g:=g) rfl j (aB s) (by
  rw[aeI];simp[hj])
 rw[oM]at this;simpa using this
def mr{B:Nat}(h:w.ownsRow B 3 1 (ak (U (ar g 0 J)) n cap) n (vs.flatMap bc))(j:Nat)(s:Int)(hj:vs[j]?=U s):w.cell? (ar g j J)=U (af I s):=by
 have:=h.cells (g:=g) rfl j (af I s) (by
  rw[aeJ];simp[hj])
 rw[oM]at this;simpa using this
structure rj(B rb:Nat)(w:ah)(c:aV)(lw:ByteArray)(ev:aj)(cells:List aj):Prop where
 lo:rb=rb\/B<=rb
 row:w.heap[rb]?=U (ay (dG c ev lw) 49 (0,0))
 az:w.ownsRow B 60 10 ev c.az.length cells
 olds:∀(i:Nat) e',c.az[i]?=U e'->∃x',dU B w e' x'/\vr w.heap.size x'/\∀(j:Nat) u,(x'.row e')[j]?=U u->cells[i*10+j]?=U u
def dX.view{B:Nat}(h:dX B rb w c lw):∃ev cells,rj B rb w c lw ev cells:=by
 rcases h with h|⟨L,g,cap,es,e,x,cells,h1,h2,h3⟩
 ·exact⟨_,[],h.lo,h.row,by rw[h.nil];exact kE _ _ _ _,λi e' he=>by rw[h.nil]at he;simp at he⟩
 refine⟨_,_,h3.lo,h3.row,by rw[h1,sP];exact h3.az,λi e' he=>?_⟩;rw[h1]at he
 rcases eC i es.length with hi|hi
 ·rw[qC hi]at he;obtain⟨x',a,b,d⟩:=h3.olds i e' he
  refine⟨x',a,b.mono h2,λj u hu=>?_⟩;have:=d j u hu;have hlt:i*10+j<cells.length:=by
   rcases eC (i*10+j) cells.length with h'|h'
   ·exact h'
   rw[ny h']at this;cases this
  rw[qC hlt];exact this
 rw[pE hi]at he;have h0:i=es.length:=by
  rcases kG (i-es.length)with h'|h'
  ·omega
  rw[ny (by simp;omega)]at he;cases he
 subst h0;simp at he
 subst he
 refine⟨x,h3.new.weak h3.ll,h3.new.PO,λj u hu=>?_⟩;rw[pE (by rw[h3.ic];omega),h3.ic,yK,oI];exact hu
def rj.below{B:Nat}(h:rj B rb w c lw ev cells)(hb:Below w.heap.size w w'):rj B rb w' c lw ev cells:=
 ⟨h.lo,cX hb h.row,h.az.kept (row:=J) ⟨hb.os,hb.tape,hb.output,hb.size,λk hk _=>hb.block k hk⟩ (by by_cases e:ev.ownBlock=J;exact cF e;exact bk e),λi e' he=>by
  obtain⟨x',a,b,d⟩:=h.olds i e' he;exact⟨x',rD.below a hb,b.mono hb.size,d⟩⟩
def rj.aeK{B:Nat}(h:rj B rb w c lw ev cells)(lw':ByteArray):rj B rb (w.setCell (ar rb 5 J) (aB lw')) c lw' ev cells:=by
 have hg:=o8 w rb 5 (aB lw')
 refine⟨h.lo,?_,h.az.kept hg (bk (eu h.az h.row (by decide))),λi e' he=>?_⟩
 ·simp only[cZ,fR,h.row];simp[dG]
 obtain⟨x',a,b,d⟩:=h.olds i e' he;exact⟨x',a.other hg h.row (by decide) (by decide) (by decide) (by decide),b.mono hg.size,d⟩
def aeL{B g cap:Nat}{w8:ah}{nm:ByteArray}{z:Int}(h:rj B rb V c lw ev cells)(hB:B<=V.heap.size)(hg:V.grownBy w8 ev.ownBlock)
  (ho:w8.ownsRow B 60 10 (ak (U (ar g 0 J)) (c.az.length+1) cap) (c.az.length+1) (cells++(qf.row (pg nm z)).toList)):nY B rb V.heap.size g cap (w8.setCell (ar rb 4 J) (ak (U (ar g 0 J)) (c.az.length+1) cap)) c lw c.az (pg nm z) qf cells:=by
 have xj:=(hg.block rb (cU h.row) (λe2=>eu h.az h.row (by decide) e2.symm)).trans h.row;have g1:=o8 w8 rb 4 (ak (U (ar g 0 J)) (c.az.length+1) cap)
 refine⟨h.lo,hB,?_,ho.kept g1 (bk (eu ho xj (by decide))),rfl,h.az.1,λi e' he=>?_,P1 _ _ _ _,cF rfl⟩
 ·simp only[cZ,fR,xj];simp[dG]
 obtain⟨x',a,b,d⟩:=h.olds i e' he;exact⟨x',(dU.grown a h.az hg).other g1 xj (by decide) (by decide) (by decide) (by decide),b,d⟩
def bB.cfg{B:Nat}(h:bB B rb L g cap w c lw es old e x cells)(hr:∀ev lw,dG c ev lw=dG c' ev lw):bB B rb L g cap w c' lw es old e x cells:=
 ⟨h.lo,h.ll,by rw[<- hr];exact h.row,h.az,h.xB,h.ic,h.olds,h.new,h.fl⟩
def nY.cfg{B:Nat}(h:nY B rb L g cap w c lw es e x cells)(hr:∀ev lw,dG c ev lw=dG c' ev lw):nY B rb L g cap w c' lw es e x cells:=bB.cfg h hr
def bB.JP{B:Nat}(h:bB B rb L g cap w c lw es old e x cells)(q:ByteArray)(hgr:w.grownBy w' x.p.ownBlock)(hown:w'.ownsRow L 9 1 (ak (U (ar g' 0 J)) (e.au.length+1) cap') (e.au.length+1) (e.au.flatMap gg++gg q)):bB B rb L g cap w' c lw es old { e with au:=e.au++[q] } { x with p:=(ak (U (ar g' 0 J)) (e.au.length+1) cap') } cells:=by
 obtain⟨cur,hc,-⟩:=h.grow;exact h.grown hgr (λb hb=>(h.new.hp.lt b hb).1) (eu h.new.hp h.row (by decide)) (eu h.new.hp hc (by decide)) ⟨(by show w'.ownsRow _ _ _ _ _ _;simpa[fj]using hown),(d_ h.new.hg hgr (fC h.new.hg h.new.hp (by decide))),(d_ h.new.he hgr (fC h.new.he h.new.hp (by decide))),(d_ h.new.hf hgr (fC h.new.hf h.new.hp (by decide))),(d_ h.new.hl hgr (fC h.new.hl h.new.hp (by decide)))⟩ (h.fl)
def bB.JQ{B:Nat}(h:bB B rb L g cap w c lw es old e x cells)(q:lx)(hgr:w.grownBy w' x.g.ownBlock)(hown:w'.ownsRow L 85 4 (ak (U (ar g' 0 J)) (e.aP.length+1) cap') (e.aP.length+1) (e.aP.flatMap j7++j7 q)):bB B rb L g cap w' c lw es old { e with aP:=e.aP++[q] } { x with g:=(ak (U (ar g' 0 J)) (e.aP.length+1) cap') } cells:=by
 obtain⟨cur,hc,-⟩:=h.grow;exact h.grown hgr (λb hb=>(h.new.hg.lt b hb).1) (eu h.new.hg h.row (by decide)) (eu h.new.hg hc (by decide)) ⟨(d_ h.new.hp hgr (fC h.new.hp h.new.hg (by decide))),(by show w'.ownsRow _ _ _ _ _ _;simpa[fj]using hown),(d_ h.new.he hgr (fC h.new.he h.new.hg (by decide))),(d_ h.new.hf hgr (fC h.new.hf h.new.hg (by decide))),(d_ h.new.hl hgr (fC h.new.hl h.new.hg (by decide)))⟩ (h.fl)
def bB.JR{B:Nat}(h:bB B rb L g cap w c lw es old e x cells)(q:(Int×Int))(hgr:w.grownBy w' x.e.ownBlock)(hown:w'.ownsRow L 86 2 (ak (U (ar g' 0 J)) (e.aN.length+1) cap') (e.aN.length+1) (e.aN.flatMap kU++kU q)):bB B rb L g cap w' c lw es old { e with aN:=e.aN++[q] } { x with e:=(ak (U (ar g' 0 J)) (e.aN.length+1) cap') } cells:=by
 obtain⟨cur,hc,-⟩:=h.grow;exact h.grown hgr (λb hb=>(h.new.he.lt b hb).1) (eu h.new.he h.row (by decide)) (eu h.new.he hc (by decide)) ⟨(d_ h.new.hp hgr (fC h.new.hp h.new.he (by decide))),(d_ h.new.hg hgr (fC h.new.hg h.new.he (by decide))),(by show w'.ownsRow _ _ _ _ _ _;simpa[fj]using hown),(d_ h.new.hf hgr (fC h.new.hf h.new.he (by decide))),(d_ h.new.hl hgr (fC h.new.hl h.new.he (by decide)))⟩ (h.fl)
def bB.JS{B:Nat}(h:bB B rb L g cap w c lw es old e x cells)(q:Int)(hgr:w.grownBy w' x.f.ownBlock)(hown:w'.ownsRow L 3 1 (ak (U (ar g' 0 J)) (e.first.length+1) cap') (e.first.length+1) (e.first.flatMap bc++bc q))(hne:∀b,x.l.ownBlock=U b->b≠g'):bB B rb L g cap w' c lw es old { e with first:=e.first++[q] } { x with f:=(ak (U (ar g' 0 J)) (e.first.length+1) cap') } cells:=by
 obtain⟨cur,hc,-⟩:=h.grow;exact h.grown hgr (λb hb=>(h.new.hf.lt b hb).1) (eu h.new.hf h.row (by decide)) (eu h.new.hf hc (by decide)) ⟨(d_ h.new.hp hgr (fC h.new.hp h.new.hf (by decide))),(d_ h.new.hg hgr (fC h.new.hg h.new.hf (by decide))),(d_ h.new.he hgr (fC h.new.he h.new.hf (by decide))),(by show w'.ownsRow _ _ _ _ _ _;simpa[fj]using hown),(d_ h.new.hl hgr (PQ h.fl))⟩ (bk (λe1=>hne g' e1.symm rfl))
def bB.JU{B:Nat}(h:bB B rb L g cap w c lw es old e x cells)(q:Int)(hgr:w.grownBy w' x.l.ownBlock)(hown:w'.ownsRow L 3 1 (ak (U (ar g' 0 J)) (e.last.length+1) cap') (e.last.length+1) (e.last.flatMap bc++bc q))(hne:∀b,x.f.ownBlock=U b->b≠g'):bB B rb L g cap w' c lw es old { e with last:=e.last++[q] } { x with l:=(ak (U (ar g' 0 J)) (e.last.length+1) cap') } cells:=by
 obtain⟨cur,hc,-⟩:=h.grow;exact h.grown hgr (λb hb=>(h.new.hl.lt b hb).1) (eu h.new.hl h.row (by decide)) (eu h.new.hl hc (by decide)) ⟨(d_ h.new.hp hgr (fC h.new.hp h.new.hl (by decide))),(d_ h.new.hg hgr (fC h.new.hg h.new.hl (by decide))),(d_ h.new.he hgr (fC h.new.he h.new.hl (by decide))),(d_ h.new.hf hgr h.fl),(by show w'.ownsRow _ _ _ _ _ _;simpa[fj]using hown)⟩ ((by cases e1:x.f.ownBlock with|none=>exact cF rfl|some b=>exact bk (λe2=>hne b e1 (b_ e2))))
def aeM{H:Nat}(hX:dU L w e x)(iD:x.f.ownBlock=U g'\/g'=H)(vu:x.f.ownBlock=J\/x.f.ownBlock≠x.l.ownBlock)(hH:w.heap.size<=H):∀b,x.l.ownBlock=U b->b≠g':=by
 intro b hb e2;subst e2
 rcases iD with h1|h1
 ·rcases vu with h3|h3
  ·rw[h3]at h1;cases h1
  exact h3 (h1.trans hb.symm)
 have:=vt hX.hl b hb;omega
def aeN{H:Nat}(hX:dU L w e x)(iD:x.l.ownBlock=U g'\/g'=H)(vu:x.f.ownBlock=J\/x.f.ownBlock≠x.l.ownBlock)(hH:w.heap.size<=H):∀b,x.f.ownBlock=U b->b≠g':=by
 intro b hb e2;subst e2
 rcases iD with h1|h1
 ·rcases vu with h3|h3
  ·rw[h3]at hb;cases hb
  exact h3 (hb.trans h1.symm)
 have:=vt hX.hf b hb;omega
def vM(h:w.heap[b]?=U (ay cs T (0,0)))(u:aj):(w.setCell (ar b j J) u).heap[b]?=U (ay (cs.setIfInBounds j u) T (0,0)):=by
 simp only[cZ,fR,h];simp
section
variable {rb L g cap n S:Nat}{w0 w V:ah}{c:aV}{lw:ByteArray}{es:List aG}{old:List aj}{e e':aG}{x y:bJ}{cells:List aj}{u0 u1 u2 u3 u4 u5 u6 u7 u8 u9:aj}{cs:Array aj}
def Bb{r:Array aj}(h:ag (V.heap[b]?=U (ay cs T (0,0))))(_:r=#[u0,u1,u2,u3,u4,u5,u6,u7,u8,u9])(hc:cs=#[u0,u1,u2,u3,u4,u5,u6,u7,u8,u9]):V.cell? (ar b 0 J)=U u0/\V.cell? (ar b 1 J)=U u1/\V.cell? (ar b 2 J)=U u2/\V.cell? (ar b 3 J)=U u3/\V.cell? (ar b 4 J)=U u4/\V.cell? (ar b 5 J)=U u5/\V.cell? (ar b 6 J)=U u6/\V.cell? (ar b 7 J)=U u7/\V.cell? (ar b 8 J)=U u8/\V.cell? (ar b 9 J)=U u9:=by
 subst hc;simp[aL,h.o]
def gC{a:Nat}{Z:ah}{v:aj}(hZ:Z=V.setCell (ar a k J) u)(hn:¬a=b)(h:V.cell? (ar b j J)=U v):Z.cell? (ar b j J)=U v:=by
 rw[hZ,qR (cF hn) rfl rfl];exact h
def bB.ten{B:Nat}(h:bB B rb L g cap V c lw es (y.row e').toList e x cells)(hr:y.row e'=#[u0,u1,u2,u3,u4,u5,u6,u7,u8,u9])(hn:n=es.length):(V.cell? ⟨g,n*10,J⟩=U u0/\V.frozen? ⟨g,n*10,J⟩=false)/\(V.cell? ⟨g,n*10+1,J⟩=U u1/\V.frozen? ⟨g,n*10+1,J⟩=false)/\(V.cell? ⟨g,n*10+2,J⟩=U u2/\V.frozen? ⟨g,n*10+2,J⟩=false)/\(V.cell? ⟨g,n*10+3,J⟩=U u3/\V.frozen? ⟨g,n*10+3,J⟩=false)/\(V.cell? ⟨g,n*10+4,J⟩=U u4/\V.frozen? ⟨g,n*10+4,J⟩=false)/\(V.cell? ⟨g,n*10+5,J⟩=U u5/\V.frozen? ⟨g,n*10+5,J⟩=false)/\(V.cell? ⟨g,n*10+6,J⟩=U u6/\V.frozen? ⟨g,n*10+6,J⟩=false)/\(V.cell? ⟨g,n*10+7,J⟩=U u7/\V.frozen? ⟨g,n*10+7,J⟩=false)/\(V.cell? ⟨g,n*10+8,J⟩=U u8/\V.frozen? ⟨g,n*10+8,J⟩=false)/\(V.cell? ⟨g,n*10+9,J⟩=U u9/\V.frozen? ⟨g,n*10+9,J⟩=false):=by
 rw[hr]at h;subst hn;exact⟨h.iY (j:=0) rfl,h.iY (j:=1) rfl,h.iY (j:=2) rfl,h.iY (j:=3) rfl,h.iY (j:=4) rfl,h.iY (j:=5) rfl,h.iY (j:=6) rfl,h.iY (j:=7) rfl,h.iY (j:=8) rfl,h.iY (j:=9) rfl⟩
def bB.r4{B:Nat}(h:bB B rb L g cap V c lw es old e x cells)(hn:n=es.length):V.cell? (ar rb 4 J)=U (ak (U (ar g 0 J)) (n+1) cap):=by
 subst hn;simp[aL,h.row,dG]
def bB.r5{B:Nat}(h:bB B rb L g cap V c lw es old e x cells):V.cell? (ar rb 5 J)=U (aB lw)/\V.frozen? (ar rb 5 J)=false:=by
 simp[aL,bE,h.row,dG]
def bB.back(h:bB w0.heap.size rb L g cap V c lw es old e x cells)(hr:x.row e=#[u0,u1,u2,u3,u4,u5,u6,u7,u8,u9])(hn:n=es.length)(hb:bp rb w0 V)(hl:L<=V.heap.size):∃Z,Z=(((((((((V.setCell ⟨g,n*10,J⟩ u0).setCell ⟨g,n*10+1,J⟩ u1).setCell ⟨g,n*10+2,J⟩ u2).setCell ⟨g,n*10+3,J⟩ u3).setCell ⟨g,n*10+4,J⟩ u4).setCell ⟨g,n*10+5,J⟩ u5).setCell ⟨g,n*10+6,J⟩ u6).setCell ⟨g,n*10+7,J⟩ u7).setCell ⟨g,n*10+8,J⟩ u8).setCell ⟨g,n*10+9,J⟩ u9/\ag (nY w0.heap.size rb L g cap Z c lw es e x cells)/\ag (bp rb w0 Z)/\ag (L<=Z.heap.size):=by
 refine⟨_,rfl,h.aev (by rw[hn]) (by rw[hr]),?_,?_⟩
 ·obtain⟨cur,-,aeO⟩:=h.grow;have hle:g=rb\/w0.heap.size<=g:=bk aeO;show bp _ _ _
  iterate 10 refine bp.setCell ?_ hle _
  exact hb
 show _<=_
 simpa[cZ]using hl
def dU.Bc{B:Nat}{pa:Option av}{pc:Nat}(h:dU B w e x)(hp:x.p=ak pa e.au.length pc):∃ga gc ea ec fa fc la lc,ag (x.row e=#[aB e.name,af I e.aW,ak pa e.au.length pc,af I e.cnt,af I e.mn,af I e.mx,ak ga e.aP.length gc,ak ea e.aN.length ec,ak fa e.first.length fc,ak la e.last.length lc]/\x=⟨ak pa e.au.length pc,ak ga e.aP.length gc,ak ea e.aN.length ec,ak fa e.first.length fc,ak la e.last.length lc⟩):=by
 obtain⟨ga,gc,EI⟩:=eO h.hg;obtain⟨ea,ec,R2⟩:=eO h.he;obtain⟨fa,fc,eP⟩:=eO h.hf;obtain⟨la,lc,G5⟩:=eO h.hl;clear h;obtain⟨xp,xg,xe,xf,xl⟩:=x;simp only at hp EI R2 eP G5;subst hp EI R2 eP G5;exact⟨ga,gc,ea,ec,fa,fc,la,lc,rfl,rfl⟩
def bB.word(h:bB w0.heap.size rb L g cap V c lw es old e x cells)(hb:bp rb w0 V)(hs:S<=V.heap.size)(W:ByteArray):∃Z,Z=V.setCell (ar rb 5 J) (aB W)/\ag (bB w0.heap.size rb L g cap Z c W es old e x cells)/\ag (bp rb w0 Z)/\ag (S<=Z.heap.size):=
 ⟨_,rfl,h.vI 5 (aB W) rfl,bp.setCell (p:=⟨rb,5,J⟩) hb h.lo _,by show _<=_;simpa[cZ]using hs⟩
def bB.copy(h:bB w0.heap.size rb L g cap V c lw es old e x cells)(hb:bp rb w0 V)(hs:S<=V.heap.size)(hl:L<=S)(hg:g<S)(hr:rb<S)(_:y.row e'=cs):∃b,b=V.heap.size/\∃Z,Z=V.alloc (ay cs 60)/\ag (Below V.heap.size V Z)/\ag (bB w0.heap.size rb L g cap Z c lw es old e x cells)/\ag (bp rb w0 Z)/\ag (Z.heap[b]?=U (ay cs 60 (0,0)))/\ag (b≠g/\b≠rb/\S<=b)/\ag (L<=Z.heap.size):=
 have h1:=bt V (ay cs 60);⟨_,rfl,_,rfl,h1,h.below h1,hb.trans (h1.mono hb.size),dT V _,⟨by omega,by omega,hs⟩,bH hl (bH hs h1.size)⟩
def bB.keep{v:aj}(h:bB w0.heap.size rb L g cap V c lw es old e x cells)(hb:bp rb w0 V)(he:V.heap[b]?=U (ay cs 60 (0,0)))(hT:60≠T)(ho:V.drew.ownsRow L T k v m xs):ag (∀(ob:Obj) (w8:ah),(V.drew.alloc ob).grownBy w8 v.ownBlock->w8.heap[b]?=U (ay cs 60 (0,0))/\bp rb w0 w8):=λob w8 hg=>by
 have bb:Below V.heap.size V (V.drew.alloc ob):=(aC V.heap.size V).drew.alloc (by simp) ob;have b3:bp rb w0 (V.drew.alloc ob):=hb.trans (bb.mono hb.size);have k3:=cX bb he;have R3:=ho.alloc ob;exact⟨(hg.block b (cU k3) (λe2=>eu R3 k3 hT e2.symm)).trans k3,b3.grown hg b3.size (λb hb=>bH h.ll (R3.lt b hb).1)⟩
def bB.part(h:bB w0.heap.size rb L g cap V c lw es old e x cells)(h8:V.heap[b]?=U (ay cs 60 (0,0))/\bp rb w0 V)(hg:b≠g/\b≠rb/\S<=b)(hs:w0.heap.size<=S)(hl:L<=V.heap.size)(j:Nat)(u:aj):∃Y,Y=V.setCell (ar b j J) u/\ag (bB w0.heap.size rb L g cap Y c lw es old e x cells)/\ag (Y.heap[b]?=U (ay (cs.setIfInBounds j u) 60 (0,0)))/\ag (bp rb w0 Y)/\ag (L<=Y.heap.size):=
 ⟨_,rfl,h.Gh b j u h8.1 hg.1,vM h8.1 u,bp.setCell (p:=⟨b,j,J⟩) h8.2 (bk (bH hs hg.2.2)) u,by show _<=_;simpa[cZ]using hl⟩
def dX.last{last:Int}(k:Nat)(h:dX w0.heap.size rb w c (cL last))(hO:gJ 1000000 c last)(k4:4<=k)(hm:may last k=true):∃L g cap es e x cells n pa pc,ag (c.az=es++[e])/\ag (L<=w.heap.size)/\ag (bu c.az=e.au)/\ag (∀V,Below w.heap.size w V->nY w0.heap.size rb L g cap V c (cL last) es e x cells)/\ag (x.p=ak pa e.au.length pc)/\ag (es.length<1000000/\qU 1000000 e)/\ag (n=es.length)/\n<1000000/\(n:Int)<(n:Int)+1/\¬(n:Int)<0/\ag (∀V,Below w.heap.size w V->V.cell? (ar rb 4 J)=U (ak (U (ar g 0 J)) (n+1) cap))/\ag (∀V,Below w.heap.size w V->V.cell? ⟨g,n*10+2,J⟩=U (ak pa e.au.length pc))/\ag (∀s V,Below w.heap.size w V->Calls prog 34 #[ak pa e.au.length pc,aB s] V λe' w'=>e'=aH (af I (idxOf e.au s))/\w'=V)/\ag (rb<w.heap.size/\g<w.heap.size):=by
 rcases h with h1|⟨L,g,cap,es,e,x,cells,hce,iC,hD⟩
 ·exact absurd h1.nil (hO.e3 (Qe k4 hm))
 have H1:∀V,Below w.heap.size w V->nY w0.heap.size rb L g cap V c (cL last) es e x cells:=λV hV=>bB.below hD hV
 obtain⟨pa,pc,K5⟩:=eO hD.new.hp;have h5:es.length<1000000:=by have:=hO.len;rw[hce,sP]at this;simp at this;omega
 have hsz:qU 1000000 e:=hO.sz e (by rw[hce];simp);obtain⟨cur,aeP,-⟩:=bB.grow hD;exact⟨L,g,cap,es,e,x,cells,es.length,pa,pc,hce,iC,by show _=_;rw[hce];exact P_ _ _,H1,K5,⟨h5,hsz⟩,rfl,h5,by omega,by omega,λV hV=>by have:=(H1 V hV).row;simp[aL,this,dG],λV hV=>by rw[<- K5];exact((H1 V hV).iY (j:=2) rfl).1,λs V hV=>KN e.au s pa pc V (by rw[<- K5];exact kV.xM (enc:=gg) (H1 V hV).new.hp (λ_=>rfl)) hsz.p,⟨cU hD.row,cU aeP⟩⟩
end
def aeQ{wl:List ByteArray}{W:ByteArray}(h:wl.map bl=bl W::ws):∃wt,wl=W::wt/\wt.map bl=ws:=by
 cases wl with
 |nil=>cases h
 |cons a t=>
  simp only[wz,List.cons.injEq]at h;exact⟨t,by rw[oG h.1],h.2⟩
def jw{ops:Array Oper}{rest:List Oper}{o:Oper}{a:Act}{Q:Exit->Act->ah->Prop}{s x:Operand}{N:Nat}{na:Option av}{z:Int}(hb:N<=V.heap.size)(hw:V.ownsRow N 3 1 (ak na j nc) j (vs.flatMap bc))(hg:o.guard=J)(ho:o.op=.call { callee:=.builtin .append,args:=#[s,x],argTypes:=#[58,58] })(hs:a.eval s=ak na j nc)(hx:a.eval x=ak (U (ar V.heap.size 0 J)) 1 1)(j9:j<=9)(h:∀v w,w.ownsRow N 3 1 v (j+1) (vs.flatMap bc++[af I z])->(V.alloc (ay #[af I z] 3)).grownBy w (Value.slice na j nc).ownBlock->wpList prog ops Q rest (a.put o.dst v) w):wpList prog ops Q (o::rest) a (V.alloc (ay #[af I z] 3)):=by
 obtain⟨i0,hi,hz0,hz1,hz2⟩:=ma zP;exact wpList_append_own _ hg s x _ ho N _ i0 (af I 0) 1 8 underlying58 hi hz0 hz1 hz2 rfl (by decide) (ak na j nc) j _ hs (hw.alloc _) ⟨V.heap.size,0,.none⟩ 1 1 [af I z] hx rfl (Ba _ _ _) (by intro u hu;simp at hu;subst hu;rfl) (by unfold maxLen;omega) (by omega) (by simp;omega) (λv w h1 h2 _=>h v w h1 h2)
def di{i:Int}{X P:Prop}(h:n=m+1)(hi:i=((m+1:Nat):Int))(hb:X):Ending.returned (af I i)=aH (af I (n:Nat))/\X/\(n=0->P):=by
 subst h hi;exact⟨rfl,hb,λh0=>by cases h0⟩
def uo{l:ByteArray}(w:ah)(W:ByteArray)(hl:l.size<=1000000)(hcut:bS 32 (bl l)=bl W::ws):ag (Calls prog 16 #[aB l,af .u8 32] w λe w'=>∃(wt:List ByteArray) (g cap m:Nat),e=aH (ak (U (ar g 0 J)) m cap)/\m=wt.length+1/\wt.map bl=ws/\w'.ownsRow w.heap.size 9 1 (ak (U (ar g 0 J)) m cap) m ((W::wt).flatMap gg)/\Below w.heap.size w w'):=by
 apply(Gi l 32 w hl).mono;rintro e w' ⟨wl,g,cap,rfl,h1,h2,h3⟩;rw[hcut]at h1;obtain⟨wt,rfl,h4⟩:=aeQ h1;exact⟨wt,g,cap,_,rfl,rfl,h4,h2,h3⟩
def uq{last:Int}{b:Bool}{B:Nat}(W:ByteArray)(h:dX B rb w c (cL last))(l0:-1<=last)(l9:last<=9)(hb:xA last W=b):ag (∀V,Below w.heap.size w V->Calls prog 32 #[ax (U (ar rb 0 J)),aB W] V λe w'=>e=aH (aJ b)/\Below V.heap.size V w'):=λV hV=>by
 subst hb;have hc:V.cell? (ar rb 5 J)=U (aB (cL last)):=by
  rcases h.below hV with h1|⟨_,_,_,_,_,_,_,_,_,h1⟩
  ·have:=h1.row;simp[aL,this,dG]
  have:=h1.row;simp[aL,this,dG]
 exact RU rb last W V l0 l9 hc
def aeR(w0 w:ah)(rb:Nat)(c:aV)(last:Int)(l:ByteArray)(ws:List Bs)(hb0:bp rb w0 w)(h:dX w0.heap.size rb w c (cL last))(hl:l.size<=1000000)(l0:-1<=last)(l9:last<=9)(hO:gJ 1000000 c last)(hcut:bS 32 (bl l)=kw 0::ws):Calls prog 17 #[ax (U (ar rb 0 J)),aB l] w λv w'=>v=aH (af I (bq last c 0 ws:Nat))/\bp rb w0 w'/\(bq last c 0 ws=0->dX w0.heap.size rb w' (eV c 0 ws (aI (aT (bu c.az)) false (form 0) ws).2) (gY 0)):=by
 have HS:ag (bp rb w0 w/\dX w0.heap.size rb w c (cL last)):=⟨hb0,h⟩;have HO:ag (gJ 1000000 c last):=hO;have gD:=uo w ⟨#[119,105,110,100,111,119]⟩ hl hcut;have gN:=uq (b:=may last 0) ⟨#[119,105,110,100,111,119]⟩ h l0 l9 rfl;clear hb0 h hl l0 l9 hO hcut;go_enter func17,ntmps17
 go_wp2_with fail
 refine bw gD.o ?_;rintro v w1 ⟨wt,wg,wc,m,rfl,hm,fV,hown,hb1⟩;have aS:ag (Below w.heap.size w w1):=hb1;have lI:ag (w.heap.size<=wg):=(hown.lt wg rfl).1;have HW:ag (∀V,Below w1.heap.size w1 V->∀j s,(⟨#[119,105,110,100,111,119]⟩::wt)[j]?=U s->V.cell? (ar wg j J)=U (aB s)):=λV hV j s hj=>aA hV (ri hown j s hj)
 have HM:ag (m=wt.length+1/\wt.map bl=ws):=⟨hm,fV⟩;have c0:=HW.o w1 (aC _ _) 0 _ rfl;have m0:(0:Int)<(m:Int):=by omega
 clear hm fV hown hb1 gD;go_wp2_with fail
 refine bw (gN.o w1 aS.o) ?_;rintro v w2 ⟨rfl,hb2⟩;have aO:ag (Below w.heap.size w w2):=aS.o.trans (hb2.mono aS.o.size);have bf:ag (Below w1.heap.size w1 w2):=hb2;have bI:ag (∀V,Below w2.heap.size w2 V->bp rb w0 V):=λV hV=>HS.o.1.trans ((aO.o.trans (hV.mono aO.o.size)).mono HS.o.1.size)
 clear hb2 gN c0
 cases cM:may last 0 with
 |false=>
  have HE:ag (bq last c 0 ws=1):=uk cM;clear cM;go_wp2;go_ret;exact di HE.o rfl (bI.o _ (aC _ _))
 |true=>
  have HY:ag (may last 0=true):=cM;have HK:ag (bq last c 0 ws=(aI (aT (bu c.az)) false (form 0) ws).1):=um cM;clear cM
  by_cases hN:wt.length=2
  ·obtain⟨s0,s1,rfl⟩:∃s0 s1,wt=[s0,s1]:=by
    match wt,hN with
    |[s0,s1],_=>exact⟨s0,s1,rfl⟩
   obtain rfl:ws=[bl s0,bl s1]:=HM.o.2.symm.trans rfl;obtain rfl:m=2+1:=HM.o.1;clear HM hN;have H1:ag (∀V,Below w.heap.size w V->uj w0.heap.size rb V c (cL last)):=λV hV=>by
    rcases HS.o.2.below hV with h1|⟨_,_,_,es,e,_,_,h1,_,_⟩
    ·exact h1
    have h2:=HO.o.e0 (by have:=HY.o;unfold may at this;rw[aU (by decide)]at this;simp at this;omega);rw[h2]at h1;simp at h1
   have e4:w2.cell? (ar rb 4 J)=U (ak J 0 0):=by have:=(H1.o w2 aO.o).row;simp[aL,this,dG]
   go_wp2_with fail
   go_loopw [9,10,11,12] (λnv ov iv _ wr=>∃(j:Nat) (nn:Bool) (vs:List Int) (na:Option av) (nc:Nat),j<=2/\iv=af I j/\ov=aJ nn/\nv=ak na j nc/\wr.ownsRow w2.heap.size 3 1 (ak na j nc) j (vs.flatMap bc)/\Below w2.heap.size w2 wr/\dL (aT (bu c.az)) [1,1] [bl s0,bl s1] j nn vs) (λ_ _ iv _ _=>2-(intOf iv).toNat)
   case atStart=>exact⟨0,false,[],J,0,cG _,rfl,rfl,rfl,kE _ _ _ _,aC _ _,dL.start _ _ _⟩
   case round=>
    obtain⟨j,nn,vs,na,nc,hj,rfl,rfl,rfl,hown,hb,hf⟩:=hrel;have HB:ag (Below w2.heap.size w2 wr):=hb;have aZ:ag (wr.ownsRow w2.heap.size 3 1 (ak na j nc) j (vs.flatMap bc)):=hown;have HF:ag (dL (aT (bu c.az)) [1,1] [bl s0,bl s1] j nn vs):=hf;clear hb hown hf e4
    by_cases hlt:j<2
    ·clear hj
     rcases(show j=0\/j=1 by omega)with rfl|rfl
     clear hlt
     ·have d0:=HW.o wr (bf.o.trans (HB.o.mono bf.o.size)) 1 s0 rfl;have i7:ag _:=vJ s0 wr;go_wp2_with fail
      refine bw i7.o ?_;rintro v w3 ⟨rfl,hw3⟩;rw[hw3];clear hw3 w3;have dw:ag _:=@vK (aT (bu c.az)) s0;clear i7;generalize kN (bl s0)=z at *
      by_cases z0:z<0
      ·have HE:ag (bq last c 0 [bl s0,bl s1]=1):=HK.o.trans (HF.o.bad rfl rfl (by rw[dw.o.1,aU z0]));go_wp2;go_ret;exact di HE.o rfl (bI.o _ HB.o)
      have z1:0<=z:=by omega
      obtain⟨n1,n2⟩:=eG (dw.o.2 z1).2;go_wp2_with (at_builtin;refine jw HB.o.size aZ.o rfl rfl rfl rfl (by omega) ?_;intro v1 w4 hown1 cY)
      obtain⟨dM,cN,bK⟩:=eO hown1;subst bK;go_roundw
      case rel=>exact⟨0+1,nn,vs++[z],dM,cN,by omega,rfl,rfl,rfl,by simpa[fj,bc]using hown1,(HB.o.alloc HB.o.size _).grown cY (by have:=HB.o.size;simp;omega) (λq hq=>(aZ.o.lt q hq).1),HF.o.next rfl rfl nn z (by rw[dw.o.1,aF (by omega)];decide) (by rw[dw.o.1,aF (by omega)];simp) (λ_=>(dw.o.2 z1).1.symm)⟩
      case measure=>simp[intOf]
     have d1:=HW.o wr (bf.o.trans (HB.o.mono bf.o.size)) 2 s1 rfl;have i7:ag _:=vJ s1 wr;go_wp2_with fail
     refine bw i7.o ?_;rintro v w3 ⟨rfl,hw3⟩;rw[hw3];clear hw3 w3;have dw:ag _:=@vK (aT (bu c.az)) s1;clear i7;generalize kN (bl s1)=z at *
     by_cases z0:z<0
     ·have HE:ag (bq last c 0 [bl s0,bl s1]=1):=HK.o.trans (HF.o.bad rfl rfl (by rw[dw.o.1,aU z0]));go_wp2;go_ret;exact di HE.o rfl (bI.o _ HB.o)
     have z1:0<=z:=by omega
     obtain⟨n1,n2⟩:=eG (dw.o.2 z1).2;go_wp2_with (at_builtin;refine jw HB.o.size aZ.o rfl rfl rfl rfl (by omega) ?_;intro v1 w4 hown1 cY)
     obtain⟨dM,cN,bK⟩:=eO hown1;subst bK;go_roundw
     case rel=>exact⟨1+1,nn,vs++[z],dM,cN,by omega,rfl,rfl,rfl,by simpa[fj,bc]using hown1,(HB.o.alloc HB.o.size _).grown cY (by have:=HB.o.size;simp;omega) (λq hq=>(aZ.o.lt q hq).1),HF.o.next rfl rfl nn z (by rw[dw.o.1,aF (by omega)];decide) (by rw[dw.o.1,aF (by omega)];simp) (λ_=>(dw.o.2 z1).1.symm)⟩
     case measure=>simp[intOf]
    obtain rfl:j=2:=by omega
    clear hlt hj;obtain⟨bM,fg⟩:=(show dL (aT (bu c.az)) [1,1] [bl s0,bl s1] ([1,1]:List Nat).length nn vs from HF.o).done rfl
    cases nn with
    |true=>
     have HE:ag (bq last c 0 [bl s0,bl s1]=5):=HK.o.trans (bM);clear bM fg;go_wp2;go_ret;exact di HE.o rfl (bI.o _ HB.o)
    |false=>
     have fO:ag (bq last c 0 [bl s0,bl s1]=0):=by show _=_;rw[HK.o];exact bM
     have lJ:ag ((aI (aT (bu c.az)) false [1,1] [bl s0,bl s1]).2=vs):=fg rfl;have hlen:=HF.o.len;clear bM fg;obtain⟨v0,v1,rfl⟩:∃v0 v1,vs=[v0,v1]:=by
      match vs,hlen with
      |[v0,v1],_=>exact⟨v0,v1,rfl⟩
     obtain⟨ng,cN,g_⟩:=sA aZ.o
     cases g_
     have lK:ag (w2.heap.size<=ng):=(aZ.o.lt ng rfl).1;have x0:=mr aZ.o 0 v0 rfl;have x1:=mr aZ.o 1 v1 rfl;have fh:ag (Below w.heap.size w wr):=aO.o.trans (HB.o.mono aO.o.size);have d0:=HW.o wr (bf.o.trans (HB.o.mono bf.o.size)) 0 _ rfl;have d1:=HW.o wr (bf.o.trans (HB.o.mono bf.o.size)) 1 _ rfl;have d2:=HW.o wr (bf.o.trans (HB.o.mono bf.o.size)) 2 _ rfl;clear hlen HF;have hrow:=(H1.o wr fh.o).row;have fq:¬rb=wg:=by have:=cU ((H1.o w (aC _ _)).row);have:=lI.o;omega
     have vN:¬wg=rb:=λe2=>fq e2.symm
     have gF:¬rb=ng:=by have:=cU ((H1.o w (aC _ _)).row);have:=aO.o.size;have:=lK.o;omega
     have vO:¬ng=rb:=λe2=>gF e2.symm
     have r0:wr.cell? (ar rb 0 J)=U (af I c.closed):=by simp[aL,hrow,dG]
     have f0:wr.frozen? (ar rb 0 J)=false:=by simp[bE,hrow]
     have r1:wr.cell? (ar rb 1 J)=U (af I c.opn):=by simp[aL,hrow,dG]
     have f1:wr.frozen? (ar rb 1 J)=false:=by simp[bE,hrow]
     have r2:wr.cell? (ar rb 2 J)=U (af I c.cycle):=by simp[aL,hrow,dG]
     have f2:wr.frozen? (ar rb 2 J)=false:=by simp[bE,hrow]
     have r3:wr.cell? (ar rb 3 J)=U (af I c.bO):=by simp[aL,hrow,dG]
     have f3:wr.frozen? (ar rb 3 J)=false:=by simp[bE,hrow]
     have r5:wr.cell? (ar rb 5 J)=U (aB (cL last)):=by simp[aL,hrow,dG]
     have f5:wr.frozen? (ar rb 5 J)=false:=by simp[bE,hrow]
     clear hrow;go_wp2;go_ret
     refine⟨by rw[fO.o];rfl,?_,λ_=>cF ?_⟩
     ·exact(((bI.o _ HB.o).setCell (p:=⟨rb,5,J⟩) (H1.o w (aC _ _)).lo _).setCell (p:=⟨rb,0,J⟩) (H1.o w (aC _ _)).lo _).setCell (p:=⟨rb,1,J⟩) (H1.o w (aC _ _)).lo _
     rw[show (aI (aT (bu c.az)) false (form 0) [bl s0,bl s1]).2=_ from lJ.o];exact((((H1.o wr fh.o).vI (c':=c) (lw':=⟨#[119,105,110,100,111,119]⟩) (H1.o wr fh.o).nil 5 (aB ⟨#[119,105,110,100,111,119]⟩) rfl).vI (c':=⟨v0,c.opn,c.cycle,c.bO,c.az⟩) (lw':=⟨#[119,105,110,100,111,119]⟩) (H1.o wr fh.o).nil 0 (af I v0) rfl).vI (c':=⟨v0,v1,c.cycle,c.bO,c.az⟩) (lw':=⟨#[119,105,110,100,111,119]⟩) (H1.o wr fh.o).nil 1 (af I v1) rfl)
  have HE:ag (bq last c 0 ws=1):=HK.o.trans (sB _ _ _ (by rw[<- HM.o.2,qb];exact hN));have mN:¬(m:Int)=2+1:=by have:=HM.o.1;omega
  clear hN;go_wp2;go_ret;exact di HE.o rfl (bI.o _ (aC _ _))
def aeS(w0 w:ah)(rb:Nat)(c:aV)(last:Int)(l:ByteArray)(ws:List Bs)(hb0:bp rb w0 w)(h:dX w0.heap.size rb w c (cL last))(hl:l.size<=1000000)(l0:-1<=last)(l9:last<=9)(hO:gJ 1000000 c last)(hcut:bS 32 (bl l)=kw 1::ws):Calls prog 17 #[ax (U (ar rb 0 J)),aB l] w λv w'=>v=aH (af I (bq last c 1 ws:Nat))/\bp rb w0 w'/\(bq last c 1 ws=0->dX w0.heap.size rb w' (eV c 1 ws (aI (aT (bu c.az)) false (form 1) ws).2) (gY 1)):=by
 have HS:ag (bp rb w0 w/\dX w0.heap.size rb w c (cL last)):=⟨hb0,h⟩;have HO:ag (gJ 1000000 c last):=hO;have gD:=uo w ⟨#[99,121,99,108,101]⟩ hl hcut;have gN:=uq (b:=may last 1) ⟨#[99,121,99,108,101]⟩ h l0 l9 rfl;clear hb0 h hl l0 l9 hO hcut;go_enter func17,ntmps17
 go_wp2_with fail
 refine bw gD.o ?_;rintro v w1 ⟨wt,wg,wc,m,rfl,hm,fV,hown,hb1⟩;have aS:ag (Below w.heap.size w w1):=hb1;have lI:ag (w.heap.size<=wg):=(hown.lt wg rfl).1;have HW:ag (∀V,Below w1.heap.size w1 V->∀j s,(⟨#[99,121,99,108,101]⟩::wt)[j]?=U s->V.cell? (ar wg j J)=U (aB s)):=λV hV j s hj=>aA hV (ri hown j s hj)
 have HM:ag (m=wt.length+1/\wt.map bl=ws):=⟨hm,fV⟩;have c0:=HW.o w1 (aC _ _) 0 _ rfl;have m0:(0:Int)<(m:Int):=by omega
 clear hm fV hown hb1 gD;go_wp2_with fail
 refine bw (gN.o w1 aS.o) ?_;rintro v w2 ⟨rfl,hb2⟩;have aO:ag (Below w.heap.size w w2):=aS.o.trans (hb2.mono aS.o.size);have bf:ag (Below w1.heap.size w1 w2):=hb2;have bI:ag (∀V,Below w2.heap.size w2 V->bp rb w0 V):=λV hV=>HS.o.1.trans ((aO.o.trans (hV.mono aO.o.size)).mono HS.o.1.size)
 clear hb2 gN c0
 cases cM:may last 1 with
 |false=>
  have HE:ag (bq last c 1 ws=1):=uk cM;clear cM;go_wp2;go_ret;exact di HE.o rfl (bI.o _ (aC _ _))
 |true=>
  have HY:ag (may last 1=true):=cM;have HK:ag (bq last c 1 ws=(aI (aT (bu c.az)) false (form 1) ws).1):=um cM;clear cM
  by_cases hN:wt.length=1
  ·obtain⟨s0,rfl⟩:∃s0,wt=[s0]:=by
    match wt,hN with
    |[s0],_=>exact⟨s0,rfl⟩
   obtain rfl:ws=[bl s0]:=HM.o.2.symm.trans rfl;obtain rfl:m=1+1:=HM.o.1;clear HM hN;have H1:ag (∀V,Below w.heap.size w V->uj w0.heap.size rb V c (cL last)):=λV hV=>by
    rcases HS.o.2.below hV with h1|⟨_,_,_,es,e,_,_,h1,_,_⟩
    ·exact h1
    have h2:=HO.o.e0 (by have:=HY.o;unfold may at this;rw[aU (by decide)]at this;simp at this;omega);rw[h2]at h1;simp at h1
   have e4:w2.cell? (ar rb 4 J)=U (ak J 0 0):=by have:=(H1.o w2 aO.o).row;simp[aL,this,dG]
   go_wp2_with fail
   go_loopw [9,10,11,12] (λnv ov iv _ wr=>∃(j:Nat) (nn:Bool) (vs:List Int) (na:Option av) (nc:Nat),j<=1/\iv=af I j/\ov=aJ nn/\nv=ak na j nc/\wr.ownsRow w2.heap.size 3 1 (ak na j nc) j (vs.flatMap bc)/\Below w2.heap.size w2 wr/\dL (aT (bu c.az)) [1] [bl s0] j nn vs) (λ_ _ iv _ _=>1-(intOf iv).toNat)
   case atStart=>exact⟨0,false,[],J,0,cG _,rfl,rfl,rfl,kE _ _ _ _,aC _ _,dL.start _ _ _⟩
   case round=>
    obtain⟨j,nn,vs,na,nc,hj,rfl,rfl,rfl,hown,hb,hf⟩:=hrel;have HB:ag (Below w2.heap.size w2 wr):=hb;have aZ:ag (wr.ownsRow w2.heap.size 3 1 (ak na j nc) j (vs.flatMap bc)):=hown;have HF:ag (dL (aT (bu c.az)) [1] [bl s0] j nn vs):=hf;clear hb hown hf e4
    by_cases hlt:j<1
    ·clear hj;obtain rfl:j=0:=by omega
     clear hlt;have d0:=HW.o wr (bf.o.trans (HB.o.mono bf.o.size)) 1 s0 rfl;have i7:ag _:=vJ s0 wr;go_wp2_with fail
     refine bw i7.o ?_;rintro v w3 ⟨rfl,hw3⟩;rw[hw3];clear hw3 w3;have dw:ag _:=@vK (aT (bu c.az)) s0;clear i7;generalize kN (bl s0)=z at *
     by_cases z0:z<0
     ·have HE:ag (bq last c 1 [bl s0]=1):=HK.o.trans (HF.o.bad rfl rfl (by rw[dw.o.1,aU z0]));go_wp2;go_ret;exact di HE.o rfl (bI.o _ HB.o)
     have z1:0<=z:=by omega
     obtain⟨n1,n2⟩:=eG (dw.o.2 z1).2;go_wp2_with (at_builtin;refine jw HB.o.size aZ.o rfl rfl rfl rfl (by omega) ?_;intro v1 w4 hown1 cY)
     obtain⟨dM,cN,bK⟩:=eO hown1;subst bK;go_roundw
     case rel=>exact⟨0+1,nn,vs++[z],dM,cN,by omega,rfl,rfl,rfl,by simpa[fj,bc]using hown1,(HB.o.alloc HB.o.size _).grown cY (by have:=HB.o.size;simp;omega) (λq hq=>(aZ.o.lt q hq).1),HF.o.next rfl rfl nn z (by rw[dw.o.1,aF (by omega)];decide) (by rw[dw.o.1,aF (by omega)];simp) (λ_=>(dw.o.2 z1).1.symm)⟩
     case measure=>simp[intOf]
    obtain rfl:j=1:=by omega
    clear hlt hj;obtain⟨bM,fg⟩:=(show dL (aT (bu c.az)) [1] [bl s0] ([1]:List Nat).length nn vs from HF.o).done rfl
    cases nn with
    |true=>
     have HE:ag (bq last c 1 [bl s0]=5):=HK.o.trans (bM);clear bM fg;go_wp2;go_ret;exact di HE.o rfl (bI.o _ HB.o)
    |false=>
     have fO:ag (bq last c 1 [bl s0]=0):=by show _=_;rw[HK.o];exact bM
     have lJ:ag ((aI (aT (bu c.az)) false [1] [bl s0]).2=vs):=fg rfl;have hlen:=HF.o.len;clear bM fg;obtain⟨v0,rfl⟩:∃v0,vs=[v0]:=by
      match vs,hlen with
      |[v0],_=>exact⟨v0,rfl⟩
     obtain⟨ng,cN,g_⟩:=sA aZ.o
     cases g_
     have lK:ag (w2.heap.size<=ng):=(aZ.o.lt ng rfl).1;have x0:=mr aZ.o 0 v0 rfl;have fh:ag (Below w.heap.size w wr):=aO.o.trans (HB.o.mono aO.o.size);have d0:=HW.o wr (bf.o.trans (HB.o.mono bf.o.size)) 0 _ rfl;have d1:=HW.o wr (bf.o.trans (HB.o.mono bf.o.size)) 1 _ rfl;clear hlen HF;have hrow:=(H1.o wr fh.o).row;have fq:¬rb=wg:=by have:=cU ((H1.o w (aC _ _)).row);have:=lI.o;omega
     have vN:¬wg=rb:=λe2=>fq e2.symm
     have gF:¬rb=ng:=by have:=cU ((H1.o w (aC _ _)).row);have:=aO.o.size;have:=lK.o;omega
     have vO:¬ng=rb:=λe2=>gF e2.symm
     have r0:wr.cell? (ar rb 0 J)=U (af I c.closed):=by simp[aL,hrow,dG]
     have f0:wr.frozen? (ar rb 0 J)=false:=by simp[bE,hrow]
     have r1:wr.cell? (ar rb 1 J)=U (af I c.opn):=by simp[aL,hrow,dG]
     have f1:wr.frozen? (ar rb 1 J)=false:=by simp[bE,hrow]
     have r2:wr.cell? (ar rb 2 J)=U (af I c.cycle):=by simp[aL,hrow,dG]
     have f2:wr.frozen? (ar rb 2 J)=false:=by simp[bE,hrow]
     have r3:wr.cell? (ar rb 3 J)=U (af I c.bO):=by simp[aL,hrow,dG]
     have f3:wr.frozen? (ar rb 3 J)=false:=by simp[bE,hrow]
     have r5:wr.cell? (ar rb 5 J)=U (aB (cL last)):=by simp[aL,hrow,dG]
     have f5:wr.frozen? (ar rb 5 J)=false:=by simp[bE,hrow]
     clear hrow;go_wp2;go_ret
     refine⟨by rw[fO.o];rfl,?_,λ_=>cF ?_⟩
     ·exact((bI.o _ HB.o).setCell (p:=⟨rb,5,J⟩) (H1.o w (aC _ _)).lo _).setCell (p:=⟨rb,2,J⟩) (H1.o w (aC _ _)).lo _
     rw[show (aI (aT (bu c.az)) false (form 1) [bl s0]).2=_ from lJ.o];exact(((H1.o wr fh.o).vI (c':=c) (lw':=⟨#[99,121,99,108,101]⟩) (H1.o wr fh.o).nil 5 (aB ⟨#[99,121,99,108,101]⟩) rfl).vI (c':=⟨c.closed,c.opn,v0,c.bO,c.az⟩) (lw':=⟨#[99,121,99,108,101]⟩) (H1.o wr fh.o).nil 2 (af I v0) rfl)
  have HE:ag (bq last c 1 ws=1):=HK.o.trans (sB _ _ _ (by rw[<- HM.o.2,qb];exact hN));have mN:¬(m:Int)=1+1:=by have:=HM.o.1;omega
  clear hN;go_wp2;go_ret;exact di HE.o rfl (bI.o _ (aC _ _))
def aeT(w0 w:ah)(rb:Nat)(c:aV)(last:Int)(l:ByteArray)(ws:List Bs)(hb0:bp rb w0 w)(h:dX w0.heap.size rb w c (cL last))(hl:l.size<=1000000)(l0:-1<=last)(l9:last<=9)(hO:gJ 1000000 c last)(hcut:bS 32 (bl l)=kw 2::ws):Calls prog 17 #[ax (U (ar rb 0 J)),aB l] w λv w'=>v=aH (af I (bq last c 2 ws:Nat))/\bp rb w0 w'/\(bq last c 2 ws=0->dX w0.heap.size rb w' (eV c 2 ws (aI (aT (bu c.az)) false (form 2) ws).2) (gY 2)):=by
 have HS:ag (bp rb w0 w/\dX w0.heap.size rb w c (cL last)):=⟨hb0,h⟩;have HO:ag (gJ 1000000 c last):=hO;have gD:=uo w ⟨#[100,101,108,97,121]⟩ hl hcut;have gN:=uq (b:=may last 2) ⟨#[100,101,108,97,121]⟩ h l0 l9 rfl;clear hb0 h hl l0 l9 hO hcut;go_enter func17,ntmps17
 go_wp2_with fail
 refine bw gD.o ?_;rintro v w1 ⟨wt,wg,wc,m,rfl,hm,fV,hown,hb1⟩;have aS:ag (Below w.heap.size w w1):=hb1;have lI:ag (w.heap.size<=wg):=(hown.lt wg rfl).1;have HW:ag (∀V,Below w1.heap.size w1 V->∀j s,(⟨#[100,101,108,97,121]⟩::wt)[j]?=U s->V.cell? (ar wg j J)=U (aB s)):=λV hV j s hj=>aA hV (ri hown j s hj)
 have HM:ag (m=wt.length+1/\wt.map bl=ws):=⟨hm,fV⟩;have c0:=HW.o w1 (aC _ _) 0 _ rfl;have m0:(0:Int)<(m:Int):=by omega
 clear hm fV hown hb1 gD;go_wp2_with fail
 refine bw (gN.o w1 aS.o) ?_;rintro v w2 ⟨rfl,hb2⟩;have aO:ag (Below w.heap.size w w2):=aS.o.trans (hb2.mono aS.o.size);have bf:ag (Below w1.heap.size w1 w2):=hb2;have bI:ag (∀V,Below w2.heap.size w2 V->bp rb w0 V):=λV hV=>HS.o.1.trans ((aO.o.trans (hV.mono aO.o.size)).mono HS.o.1.size)
 clear hb2 gN c0
 cases cM:may last 2 with
 |false=>
  have HE:ag (bq last c 2 ws=1):=uk cM;clear cM;go_wp2;go_ret;exact di HE.o rfl (bI.o _ (aC _ _))
 |true=>
  have HY:ag (may last 2=true):=cM;have HK:ag (bq last c 2 ws=(aI (aT (bu c.az)) false (form 2) ws).1):=um cM;clear cM
  by_cases hN:wt.length=1
  ·obtain⟨s0,rfl⟩:∃s0,wt=[s0]:=by
    match wt,hN with
    |[s0],_=>exact⟨s0,rfl⟩
   obtain rfl:ws=[bl s0]:=HM.o.2.symm.trans rfl;obtain rfl:m=1+1:=HM.o.1;clear HM hN;have H1:ag (∀V,Below w.heap.size w V->uj w0.heap.size rb V c (cL last)):=λV hV=>by
    rcases HS.o.2.below hV with h1|⟨_,_,_,es,e,_,_,h1,_,_⟩
    ·exact h1
    have h2:=HO.o.e0 (by have:=HY.o;unfold may at this;rw[aU (by decide)]at this;simp at this;omega);rw[h2]at h1;simp at h1
   have e4:w2.cell? (ar rb 4 J)=U (ak J 0 0):=by have:=(H1.o w2 aO.o).row;simp[aL,this,dG]
   go_wp2_with fail
   go_loopw [9,10,11,12] (λnv ov iv _ wr=>∃(j:Nat) (nn:Bool) (vs:List Int) (na:Option av) (nc:Nat),j<=1/\iv=af I j/\ov=aJ nn/\nv=ak na j nc/\wr.ownsRow w2.heap.size 3 1 (ak na j nc) j (vs.flatMap bc)/\Below w2.heap.size w2 wr/\dL (aT (bu c.az)) [1] [bl s0] j nn vs) (λ_ _ iv _ _=>1-(intOf iv).toNat)
   case atStart=>exact⟨0,false,[],J,0,cG _,rfl,rfl,rfl,kE _ _ _ _,aC _ _,dL.start _ _ _⟩
   case round=>
    obtain⟨j,nn,vs,na,nc,hj,rfl,rfl,rfl,hown,hb,hf⟩:=hrel;have HB:ag (Below w2.heap.size w2 wr):=hb;have aZ:ag (wr.ownsRow w2.heap.size 3 1 (ak na j nc) j (vs.flatMap bc)):=hown;have HF:ag (dL (aT (bu c.az)) [1] [bl s0] j nn vs):=hf;clear hb hown hf e4
    by_cases hlt:j<1
    ·clear hj;obtain rfl:j=0:=by omega
     clear hlt;have d0:=HW.o wr (bf.o.trans (HB.o.mono bf.o.size)) 1 s0 rfl;have i7:ag _:=vJ s0 wr;go_wp2_with fail
     refine bw i7.o ?_;rintro v w3 ⟨rfl,hw3⟩;rw[hw3];clear hw3 w3;have dw:ag _:=@vK (aT (bu c.az)) s0;clear i7;generalize kN (bl s0)=z at *
     by_cases z0:z<0
     ·have HE:ag (bq last c 2 [bl s0]=1):=HK.o.trans (HF.o.bad rfl rfl (by rw[dw.o.1,aU z0]));go_wp2;go_ret;exact di HE.o rfl (bI.o _ HB.o)
     have z1:0<=z:=by omega
     obtain⟨n1,n2⟩:=eG (dw.o.2 z1).2;go_wp2_with (at_builtin;refine jw HB.o.size aZ.o rfl rfl rfl rfl (by omega) ?_;intro v1 w4 hown1 cY)
     obtain⟨dM,cN,bK⟩:=eO hown1;subst bK;go_roundw
     case rel=>exact⟨0+1,nn,vs++[z],dM,cN,by omega,rfl,rfl,rfl,by simpa[fj,bc]using hown1,(HB.o.alloc HB.o.size _).grown cY (by have:=HB.o.size;simp;omega) (λq hq=>(aZ.o.lt q hq).1),HF.o.next rfl rfl nn z (by rw[dw.o.1,aF (by omega)];decide) (by rw[dw.o.1,aF (by omega)];simp) (λ_=>(dw.o.2 z1).1.symm)⟩
     case measure=>simp[intOf]
    obtain rfl:j=1:=by omega
    clear hlt hj;obtain⟨bM,fg⟩:=(show dL (aT (bu c.az)) [1] [bl s0] ([1]:List Nat).length nn vs from HF.o).done rfl
    cases nn with
    |true=>
     have HE:ag (bq last c 2 [bl s0]=5):=HK.o.trans (bM);clear bM fg;go_wp2;go_ret;exact di HE.o rfl (bI.o _ HB.o)
    |false=>
     have fO:ag (bq last c 2 [bl s0]=0):=by show _=_;rw[HK.o];exact bM
     have lJ:ag ((aI (aT (bu c.az)) false [1] [bl s0]).2=vs):=fg rfl;have hlen:=HF.o.len;clear bM fg;obtain⟨v0,rfl⟩:∃v0,vs=[v0]:=by
      match vs,hlen with
      |[v0],_=>exact⟨v0,rfl⟩
     obtain⟨ng,cN,g_⟩:=sA aZ.o
     cases g_
     have lK:ag (w2.heap.size<=ng):=(aZ.o.lt ng rfl).1;have x0:=mr aZ.o 0 v0 rfl;have fh:ag (Below w.heap.size w wr):=aO.o.trans (HB.o.mono aO.o.size);have d0:=HW.o wr (bf.o.trans (HB.o.mono bf.o.size)) 0 _ rfl;have d1:=HW.o wr (bf.o.trans (HB.o.mono bf.o.size)) 1 _ rfl;clear hlen HF;have hrow:=(H1.o wr fh.o).row;have fq:¬rb=wg:=by have:=cU ((H1.o w (aC _ _)).row);have:=lI.o;omega
     have vN:¬wg=rb:=λe2=>fq e2.symm
     have gF:¬rb=ng:=by have:=cU ((H1.o w (aC _ _)).row);have:=aO.o.size;have:=lK.o;omega
     have vO:¬ng=rb:=λe2=>gF e2.symm
     have r0:wr.cell? (ar rb 0 J)=U (af I c.closed):=by simp[aL,hrow,dG]
     have f0:wr.frozen? (ar rb 0 J)=false:=by simp[bE,hrow]
     have r1:wr.cell? (ar rb 1 J)=U (af I c.opn):=by simp[aL,hrow,dG]
     have f1:wr.frozen? (ar rb 1 J)=false:=by simp[bE,hrow]
     have r2:wr.cell? (ar rb 2 J)=U (af I c.cycle):=by simp[aL,hrow,dG]
     have f2:wr.frozen? (ar rb 2 J)=false:=by simp[bE,hrow]
     have r3:wr.cell? (ar rb 3 J)=U (af I c.bO):=by simp[aL,hrow,dG]
     have f3:wr.frozen? (ar rb 3 J)=false:=by simp[bE,hrow]
     have r5:wr.cell? (ar rb 5 J)=U (aB (cL last)):=by simp[aL,hrow,dG]
     have f5:wr.frozen? (ar rb 5 J)=false:=by simp[bE,hrow]
     clear hrow;go_wp2;go_ret
     refine⟨by rw[fO.o];rfl,?_,λ_=>cF ?_⟩
     ·exact((bI.o _ HB.o).setCell (p:=⟨rb,5,J⟩) (H1.o w (aC _ _)).lo _).setCell (p:=⟨rb,3,J⟩) (H1.o w (aC _ _)).lo _
     rw[show (aI (aT (bu c.az)) false (form 2) [bl s0]).2=_ from lJ.o];exact(((H1.o wr fh.o).vI (c':=c) (lw':=⟨#[100,101,108,97,121]⟩) (H1.o wr fh.o).nil 5 (aB ⟨#[100,101,108,97,121]⟩) rfl).vI (c':=⟨c.closed,c.opn,c.cycle,v0,c.az⟩) (lw':=⟨#[100,101,108,97,121]⟩) (H1.o wr fh.o).nil 3 (af I v0) rfl)
  have HE:ag (bq last c 2 ws=1):=HK.o.trans (sB _ _ _ (by rw[<- HM.o.2,qb];exact hN));have mN:¬(m:Int)=1+1:=by have:=HM.o.1;omega
  clear hN;go_wp2;go_ret;exact di HE.o rfl (bI.o _ (aC _ _))
def aeU(w0 w:ah)(rb:Nat)(c:aV)(last:Int)(l:ByteArray)(ws:List Bs)(hb0:bp rb w0 w)(h:dX w0.heap.size rb w c (cL last))(hl:l.size<=1000000)(l0:-1<=last)(l9:last<=9)(hO:gJ 1000000 c last)(hcut:bS 32 (bl l)=kw 3::ws):Calls prog 17 #[ax (U (ar rb 0 J)),aB l] w λv w'=>v=aH (af I (bq last c 3 ws:Nat))/\bp rb w0 w'/\(bq last c 3 ws=0->dX w0.heap.size rb w' (eV c 3 ws (aI (aT (bu c.az)) false (form 3) ws).2) (gY 3)):=by
 have HS:ag (bp rb w0 w/\dX w0.heap.size rb w c (cL last)):=⟨hb0,h⟩;have HO:ag (gJ 1000000 c last):=hO;have gD:=uo w ⟨#[101,110,116,105,116,121]⟩ hl hcut;have gN:=uq (b:=may last 3) ⟨#[101,110,116,105,116,121]⟩ h l0 l9 rfl;clear hb0 h hl l0 l9 hO hcut;go_enter func17,ntmps17
 go_wp2_with fail
 refine bw gD.o ?_;rintro v w1 ⟨wt,wg,wc,m,rfl,hm,fV,hown,hb1⟩;have aS:ag (Below w.heap.size w w1):=hb1;have lI:ag (w.heap.size<=wg):=(hown.lt wg rfl).1;have HW:ag (∀V,Below w1.heap.size w1 V->∀j s,(⟨#[101,110,116,105,116,121]⟩::wt)[j]?=U s->V.cell? (ar wg j J)=U (aB s)):=λV hV j s hj=>aA hV (ri hown j s hj)
 have HM:ag (m=wt.length+1/\wt.map bl=ws):=⟨hm,fV⟩;have c0:=HW.o w1 (aC _ _) 0 _ rfl;have m0:(0:Int)<(m:Int):=by omega
 clear hm fV hown hb1 gD;go_wp2_with fail
 refine bw (gN.o w1 aS.o) ?_;rintro v w2 ⟨rfl,hb2⟩;have aO:ag (Below w.heap.size w w2):=aS.o.trans (hb2.mono aS.o.size);have bf:ag (Below w1.heap.size w1 w2):=hb2;have bI:ag (∀V,Below w2.heap.size w2 V->bp rb w0 V):=λV hV=>HS.o.1.trans ((aO.o.trans (hV.mono aO.o.size)).mono HS.o.1.size)
 clear hb2 gN c0
 cases cM:may last 3 with
 |false=>
  have HE:ag (bq last c 3 ws=1):=uk cM;clear cM;go_wp2;go_ret;exact di HE.o rfl (bI.o _ (aC _ _))
 |true=>
  have HY:ag (may last 3=true):=cM;have HK:ag (bq last c 3 ws=(aI (aT (bu c.az)) false (form 3) ws).1):=um cM;clear cM
  by_cases hN:wt.length=2
  ·obtain⟨s0,s1,rfl⟩:∃s0 s1,wt=[s0,s1]:=by
    match wt,hN with
    |[s0,s1],_=>exact⟨s0,s1,rfl⟩
   obtain rfl:ws=[bl s0,bl s1]:=HM.o.2.symm.trans rfl;obtain rfl:m=2+1:=HM.o.1;clear HM hN;obtain⟨ahm,ahn,aho,e4⟩:∃va vn vc,w2.cell? (ar rb 4 J)=U (ak va vn vc):=by
    obtain⟨ev,cells,Bd⟩:=(HS.o.2.below aO.o).view;obtain⟨va,vc,rfl⟩:=eO Bd.az
    refine⟨va,c.az.length,vc,?_⟩;have:=Bd.row;simp[aL,this,dG]
   go_wp2_with fail
   go_loopw [9,10,11,12] (λnv ov iv _ wr=>∃(j:Nat) (nn:Bool) (vs:List Int) (na:Option av) (nc:Nat),j<=2/\iv=af I j/\ov=aJ nn/\nv=ak na j nc/\wr.ownsRow w2.heap.size 3 1 (ak na j nc) j (vs.flatMap bc)/\Below w2.heap.size w2 wr/\dL (aT (bu c.az)) [0,1] [bl s0,bl s1] j nn vs) (λ_ _ iv _ _=>2-(intOf iv).toNat)
   case atStart=>exact⟨0,false,[],J,0,cG _,rfl,rfl,rfl,kE _ _ _ _,aC _ _,dL.start _ _ _⟩
   case round=>
    obtain⟨j,nn,vs,na,nc,hj,rfl,rfl,rfl,hown,hb,hf⟩:=hrel;have HB:ag (Below w2.heap.size w2 wr):=hb;have aZ:ag (wr.ownsRow w2.heap.size 3 1 (ak na j nc) j (vs.flatMap bc)):=hown;have HF:ag (dL (aT (bu c.az)) [0,1] [bl s0,bl s1] j nn vs):=hf;clear hb hown hf e4
    by_cases hlt:j<2
    ·clear hj
     rcases(show j=0\/j=1 by omega)with rfl|rfl
     clear hlt
     ·have d0:=HW.o wr (bf.o.trans (HB.o.mono bf.o.size)) 1 s0 rfl
      by_cases es:s0=⟨#[]⟩
      ·have HE:ag (bq last c 3 [bl s0,bl s1]=1):=HK.o.trans (HF.o.bad rfl rfl (by rw[es];exact vL));obtain⟨n1,n2⟩:=nX es;clear es;go_wp2;go_ret;exact di HE.o rfl (bI.o _ HB.o)
      have zB:ag _:=@R1 (aT (bu c.az)) s0 es;obtain⟨n1,n2⟩:=eG es;clear es;go_wp2_with (at_builtin;refine jw HB.o.size aZ.o rfl rfl rfl rfl (by omega) ?_;intro v1 w4 hown1 cY)
      obtain⟨dM,cN,bK⟩:=eO hown1;subst bK;go_roundw
      case rel=>exact⟨0+1,nn,vs++[0],dM,cN,by omega,rfl,rfl,rfl,by simpa[fj,bc]using hown1,(HB.o.alloc HB.o.size _).grown cY (by have:=HB.o.size;simp;omega) (λq hq=>(aZ.o.lt q hq).1),HF.o.next rfl rfl nn 0 (by rw[zB.o];decide) (by rw[zB.o];simp) (λ_=>by rw[zB.o])⟩
      case measure=>simp[intOf]
     have d1:=HW.o wr (bf.o.trans (HB.o.mono bf.o.size)) 2 s1 rfl;have i7:ag _:=vJ s1 wr;go_wp2_with fail
     refine bw i7.o ?_;rintro v w3 ⟨rfl,hw3⟩;rw[hw3];clear hw3 w3;have dw:ag _:=@vK (aT (bu c.az)) s1;clear i7;generalize kN (bl s1)=z at *
     by_cases z0:z<0
     ·have HE:ag (bq last c 3 [bl s0,bl s1]=1):=HK.o.trans (HF.o.bad rfl rfl (by rw[dw.o.1,aU z0]));go_wp2;go_ret;exact di HE.o rfl (bI.o _ HB.o)
     have z1:0<=z:=by omega
     obtain⟨n1,n2⟩:=eG (dw.o.2 z1).2;go_wp2_with (at_builtin;refine jw HB.o.size aZ.o rfl rfl rfl rfl (by omega) ?_;intro v1 w4 hown1 cY)
     obtain⟨dM,cN,bK⟩:=eO hown1;subst bK;go_roundw
     case rel=>exact⟨1+1,nn,vs++[z],dM,cN,by omega,rfl,rfl,rfl,by simpa[fj,bc]using hown1,(HB.o.alloc HB.o.size _).grown cY (by have:=HB.o.size;simp;omega) (λq hq=>(aZ.o.lt q hq).1),HF.o.next rfl rfl nn z (by rw[dw.o.1,aF (by omega)];decide) (by rw[dw.o.1,aF (by omega)];simp) (λ_=>(dw.o.2 z1).1.symm)⟩
     case measure=>simp[intOf]
    obtain rfl:j=2:=by omega
    clear hlt hj;obtain⟨bM,fg⟩:=(show dL (aT (bu c.az)) [0,1] [bl s0,bl s1] ([0,1]:List Nat).length nn vs from HF.o).done rfl
    cases nn with
    |true=>
     have HE:ag (bq last c 3 [bl s0,bl s1]=5):=HK.o.trans (bM);clear bM fg;go_wp2;go_ret;exact di HE.o rfl (bI.o _ HB.o)
    |false=>
     have fO:ag (bq last c 3 [bl s0,bl s1]=0):=by show _=_;rw[HK.o];exact bM
     have lJ:ag ((aI (aT (bu c.az)) false [0,1] [bl s0,bl s1]).2=vs):=fg rfl;have hlen:=HF.o.len;clear bM fg;obtain⟨v0,v1,rfl⟩:∃v0 v1,vs=[v0,v1]:=by
      match vs,hlen with
      |[v0,v1],_=>exact⟨v0,v1,rfl⟩
     obtain⟨ng,cN,g_⟩:=sA aZ.o
     cases g_
     have lK:ag (w2.heap.size<=ng):=(aZ.o.lt ng rfl).1;have x0:=mr aZ.o 0 v0 rfl;have x1:=mr aZ.o 1 v1 rfl;have fh:ag (Below w.heap.size w wr):=aO.o.trans (HB.o.mono aO.o.size);have d0:=HW.o wr (bf.o.trans (HB.o.mono bf.o.size)) 0 _ rfl;have d1:=HW.o wr (bf.o.trans (HB.o.mono bf.o.size)) 1 _ rfl;have d2:=HW.o wr (bf.o.trans (HB.o.mono bf.o.size)) 2 _ rfl;clear hlen HF;obtain⟨ev,cells,Bd⟩:=(HS.o.2.below fh.o).view;obtain⟨va,vc,rfl⟩:=eO Bd.az;have Gj:ag (rj w0.heap.size rb wr c (cL last) (ak va c.az.length vc) cells):=Bd;clear Bd;have hrow:=Gj.o.row;have eI:rb<w.heap.size:=by rcases HS.o.2 with h1|⟨_,_,_,_,_,_,_,_,_,h1⟩<;>exact cU h1.row
     have fq:¬rb=wg:=by have:=lI.o;omega
     have vN:¬wg=rb:=λe2=>fq e2.symm
     have gF:¬rb=ng:=by have:=aO.o.size;have:=lK.o;omega
     have vO:¬ng=rb:=λe2=>gF e2.symm
     have r5:wr.cell? (ar rb 5 J)=U (aB (cL last)):=by simp[aL,hrow,dG]
     have f5:wr.frozen? (ar rb 5 J)=false:=by simp[bE,hrow]
     have r4:wr.cell? (ar rb 4 J)=U (ak va c.az.length vc):=by simp[aL,hrow,dG]
     clear hrow;go_upto_region 59 with fail
     obtain⟨Wz,dp⟩:∃V,V=wr.setCell (ar rb 5 J) (aB ⟨#[101,110,116,105,116,121]⟩):=⟨_,rfl⟩;rw[<- dp];have Gk:ag (rj w0.heap.size rb Wz c ⟨#[101,110,116,105,116,121]⟩ (ak va c.az.length vc) cells):=by rw[dp];exact Gj.o.aeK ⟨#[101,110,116,105,116,121]⟩
     have kY:ag (bp rb w0 Wz):=by rw[dp];exact(bI.o _ HB.o).setCell (p:=⟨rb,5,J⟩) Gj.o.lo _
     have c4:Wz.cell? (ar rb 4 J)=U (ak va c.az.length vc):=by have:=Gk.o.row;simp[aL,this,dG]
     have y1:=gC dp fq d1;have y2:=gC dp gF x1;clear dp r4 r5 f5 d0 d1 d2 x0 x1;have JY:∀ob,(Wz.alloc ob).cell? ⟨rb,4,J⟩=U (ak va c.az.length vc):=λob=>aA (bt _ _) c4
     obtain⟨j0,hj,oX,qo,mV⟩:=ma Md;have hown:Wz.drew.ownsRow w0.heap.size 60 10 (ak va c.az.length vc) c.az.length cells:=Gk.o.az;have mf:w0.heap.size<=Wz.heap.size:=kY.o.size;have kh:c.az.length<=1000000:=HO.o.len;have KB:ag (∀(ob:Obj) (w8:ah),(Wz.drew.alloc ob).grownBy w8 (Value.slice va c.az.length vc).ownBlock->w8.heap[rb]?=U (ay (dG c (ak va c.az.length vc) ⟨#[101,110,116,105,116,121]⟩) 49 (0,0))/\bp rb w0 w8):=λob w8 hg=>by
      have iM:=Gk.o.below (w':=Wz.drew.alloc ob) ((aC Wz.heap.size Wz).drew.alloc (by simp) ob);have b3:bp rb w0 (Wz.drew.alloc ob):=kY.o.trans (((aC Wz.heap.size Wz).drew.alloc (by simp) ob).mono kY.o.size);exact⟨(hg.block rb (cU iM.row) (λe2=>eu iM.az iM.row (by decide) e2.symm)).trans iM.row,b3.grown hg b3.size (λk hk=>(iM.az.lt k hk).1)⟩
     go_wp2_with fail
     go_region_law (refine qa _ rfl (.tmp 162) (.tmp 170) 32 rfl w0.heap.size 60 j0 (a_ #[aB ⟨#[]⟩,af I 0,ak J 0 0,af I 0,af I 0,af I 0,ak J 0 0,ak J 0 0,ak J 0 0,ak J 0 0]) 10 168 underlying32 hj oX qo mV rfl (by decide) (ak va c.az.length vc) c.az.length cells (by simp[Act.eval]) (hown.alloc _) ⟨Wz.heap.size,0,.none⟩ 1 1 (qf.row (pg s0 v1)).toList (by simp[Act.eval]) rfl (AH Wz.drew (qf.row (pg s0 v1)).toList 60) (P2 s0 v1) (by decide) (by unfold maxLen;omega) (by omega) (by simp;omega) (Wz.heap.size+1) (by simp) ?_;intro g' cap' w8 fG cv iD o9;have r8:=KB.o _ _ cv;have d8:w8.cell? (ar rb 4 J)=U (ak va c.az.length vc):=(by simp[aL,r8.1,dG]);have d9:w8.frozen? (ar rb 4 J)=false:=(by simp[bE,r8.1]))
     all_goals
      have H8:ag (bp rb w0 w8):=r8.2;have R4:ag _:=cv;have Di:ag _:=fG;clear cv fG r8 iD JY c4 y1 y2;go_wp2;go_ret
      refine⟨by rw[fO.o];rfl,H8.o.setCell (p:=⟨rb,4,J⟩) Gj.o.lo _,λ_=>bk ?_⟩;rw[show (aI (aT (bu c.az)) false (form 3) [bl s0,bl s1]).2=_ from lJ.o];have hD:=aeL (Gk.o.below (w':=Wz.drew.alloc _) ((aC Wz.heap.size Wz).drew.alloc (by simp) _)) (by simp;omega) R4.o Di.o;exact⟨_,g',cap',c.az,pg s0 v1,qf,cells,by simp only[eV,sM,pg];rw[show (⟨(([bl s0,bl s1]:List Bs).getD 0 []).toArray⟩:ByteArray)=s0 from oG (by rw[uA];rfl)];rfl,by have:=R4.o.size;simp[cZ]at this⊢;omega,hD.cfg (λ_ _=>rfl)⟩
  have HE:ag (bq last c 3 ws=1):=HK.o.trans (sB _ _ _ (by rw[<- HM.o.2,qb];exact hN));have mN:¬(m:Int)=2+1:=by have:=HM.o.1;omega
  clear hN;go_wp2;go_ret;exact di HE.o rfl (bI.o _ (aC _ _))
def aeV(w0 w:ah)(rb:Nat)(c:aV)(last:Int)(l:ByteArray)(ws:List Bs)(hb0:bp rb w0 w)(h:dX w0.heap.size rb w c (cL last))(hl:l.size<=1000000)(l0:-1<=last)(l9:last<=9)(hO:gJ 1000000 c last)(hcut:bS 32 (bl l)=kw 4::ws):Calls prog 17 #[ax (U (ar rb 0 J)),aB l] w λv w'=>v=aH (af I (bq last c 4 ws:Nat))/\bp rb w0 w'/\(bq last c 4 ws=0->dX w0.heap.size rb w' (eV c 4 ws (aI (aT (bu c.az)) false (form 4) ws).2) (gY 4)):=by
 have HS:ag (bp rb w0 w/\dX w0.heap.size rb w c (cL last)):=⟨hb0,h⟩;have HO:ag (gJ 1000000 c last):=hO;have gD:=uo w ⟨#[112,111,105,110,116]⟩ hl hcut;have gN:=uq (b:=may last 4) ⟨#[112,111,105,110,116]⟩ h l0 l9 rfl;clear hb0 h hl l0 l9 hO hcut;go_enter func17,ntmps17
 go_wp2_with fail
 refine bw gD.o ?_;rintro v w1 ⟨wt,wg,wc,m,rfl,hm,fV,hown,hb1⟩;have aS:ag (Below w.heap.size w w1):=hb1;have lI:ag (w.heap.size<=wg):=(hown.lt wg rfl).1;have HW:ag (∀V,Below w1.heap.size w1 V->∀j s,(⟨#[112,111,105,110,116]⟩::wt)[j]?=U s->V.cell? (ar wg j J)=U (aB s)):=λV hV j s hj=>aA hV (ri hown j s hj)
 have HM:ag (m=wt.length+1/\wt.map bl=ws):=⟨hm,fV⟩;have c0:=HW.o w1 (aC _ _) 0 _ rfl;have m0:(0:Int)<(m:Int):=by omega
 clear hm fV hown hb1 gD;go_wp2_with fail
 refine bw (gN.o w1 aS.o) ?_;rintro v w2 ⟨rfl,hb2⟩;have aO:ag (Below w.heap.size w w2):=aS.o.trans (hb2.mono aS.o.size);have bf:ag (Below w1.heap.size w1 w2):=hb2;have bI:ag (∀V,Below w2.heap.size w2 V->bp rb w0 V):=λV hV=>HS.o.1.trans ((aO.o.trans (hV.mono aO.o.size)).mono HS.o.1.size)
 clear hb2 gN c0
 cases cM:may last 4 with
 |false=>
  have HE:ag (bq last c 4 ws=1):=uk cM;clear cM;go_wp2;go_ret;exact di HE.o rfl (bI.o _ (aC _ _))
 |true=>
  have HY:ag (may last 4=true):=cM;have HK:ag (bq last c 4 ws=(aI (aT (bu c.az)) false (form 4) ws).1):=um cM;clear cM
  by_cases hN:wt.length=1
  ·obtain⟨s0,rfl⟩:∃s0,wt=[s0]:=by
    match wt,hN with
    |[s0],_=>exact⟨s0,rfl⟩
   obtain rfl:ws=[bl s0]:=HM.o.2.symm.trans rfl;obtain rfl:m=1+1:=HM.o.1;clear HM hN;obtain⟨L,g,cap,es,e,x,cells,n,pa,pc,py,sD,m_,H1,sF,lH,fJ,Ds,Dt,Du,my,jC,rk,ox⟩:=HS.o.2.last 4 HO.o (by decide) HY.o;rw[m_.o]at HK;have e4:=my.o w2 aO.o;go_wp2_with fail
   go_loopw [9,10,11,12] (λnv ov iv _ wr=>∃(j:Nat) (nn:Bool) (vs:List Int) (na:Option av) (nc:Nat),j<=1/\iv=af I j/\ov=aJ nn/\nv=ak na j nc/\wr.ownsRow w2.heap.size 3 1 (ak na j nc) j (vs.flatMap bc)/\Below w2.heap.size w2 wr/\dL (aT e.au) [0] [bl s0] j nn vs) (λ_ _ iv _ _=>1-(intOf iv).toNat)
   case atStart=>exact⟨0,false,[],J,0,cG _,rfl,rfl,rfl,kE _ _ _ _,aC _ _,dL.start _ _ _⟩
   case round=>
    obtain⟨j,nn,vs,na,nc,hj,rfl,rfl,rfl,hown,hb,hf⟩:=hrel;have HB:ag (Below w2.heap.size w2 wr):=hb;have aZ:ag (wr.ownsRow w2.heap.size 3 1 (ak na j nc) j (vs.flatMap bc)):=hown;have HF:ag (dL (aT e.au) [0] [bl s0] j nn vs):=hf;clear hb hown hf e4
    by_cases hlt:j<1
    ·clear hj;obtain rfl:j=0:=by omega
     clear hlt;have d0:=HW.o wr (bf.o.trans (HB.o.mono bf.o.size)) 1 s0 rfl
     by_cases es:s0=⟨#[]⟩
     ·have HE:ag (bq last c 4 [bl s0]=1):=HK.o.trans (HF.o.bad rfl rfl (by rw[es];exact vL));obtain⟨n1,n2⟩:=nX es;clear es;go_wp2;go_ret;exact di HE.o rfl (bI.o _ HB.o)
     have zB:ag _:=@R1 (aT e.au) s0 es;obtain⟨n1,n2⟩:=eG es;clear es;go_wp2_with (at_builtin;refine jw HB.o.size aZ.o rfl rfl rfl rfl (by omega) ?_;intro v1 w4 hown1 cY)
     obtain⟨dM,cN,bK⟩:=eO hown1;subst bK;go_roundw
     case rel=>exact⟨0+1,nn,vs++[0],dM,cN,by omega,rfl,rfl,rfl,by simpa[fj,bc]using hown1,(HB.o.alloc HB.o.size _).grown cY (by have:=HB.o.size;simp;omega) (λq hq=>(aZ.o.lt q hq).1),HF.o.next rfl rfl nn 0 (by rw[zB.o];decide) (by rw[zB.o];simp) (λ_=>by rw[zB.o])⟩
     case measure=>simp[intOf]
    obtain rfl:j=1:=by omega
    clear hlt hj;obtain⟨bM,fg⟩:=(show dL (aT e.au) [0] [bl s0] ([0]:List Nat).length nn vs from HF.o).done rfl
    cases nn with
    |true=>
     have HE:ag (bq last c 4 [bl s0]=5):=HK.o.trans (bM);clear bM fg;go_wp2;go_ret;exact di HE.o rfl (bI.o _ HB.o)
    |false=>
     have fO:ag (bq last c 4 [bl s0]=0):=by show _=_;rw[HK.o];exact bM
     have lJ:ag ((aI (aT e.au) false [0] [bl s0]).2=vs):=fg rfl;have hlen:=HF.o.len;clear bM fg;obtain⟨v0,rfl⟩:∃v0,vs=[v0]:=by
      match vs,hlen with
      |[v0],_=>exact⟨v0,rfl⟩
     obtain⟨ng,cN,g_⟩:=sA aZ.o
     cases g_
     have lK:ag (w2.heap.size<=ng):=(aZ.o.lt ng rfl).1;have x0:=mr aZ.o 0 v0 rfl;have fh:ag (Below w.heap.size w wr):=aO.o.trans (HB.o.mono aO.o.size);have d0:=HW.o wr (bf.o.trans (HB.o.mono bf.o.size)) 0 _ rfl;have d1:=HW.o wr (bf.o.trans (HB.o.mono bf.o.size)) 1 _ rfl;clear hlen HF;have hbase:=H1.o wr fh.o;obtain⟨eI,o_⟩:=ox.o;have fq:¬rb=wg:=by have:=lI.o;omega
     have vN:¬wg=rb:=λe2=>fq e2.symm
     have gF:¬rb=ng:=by have:=aO.o.size;have:=lK.o;omega
     have vO:¬ng=rb:=λe2=>gF e2.symm
     obtain⟨r5,f5⟩:=bB.r5 hbase;go_upto_region 62 with fail
     obtain⟨Wz,dp,ij,kY,sG⟩:=bB.word hbase (bI.o _ HB.o) fh.o.size ⟨#[112,111,105,110,116]⟩;rw[<- dp];have y0:=gC dp fq d0;have y1:=gC dp fq d1;have u0:=gC dp gF x0;clear dp r5 f5 hbase d0 d1 x0;obtain⟨ga,gc,ea,ec,fa,fc,la,lc,eF⟩:=ij.o.new.Bc sF.o;have e4:=ij.o.r4 fJ.o;obtain⟨⟨q0,-⟩,⟨q1,-⟩,⟨q2,-⟩,⟨q3,-⟩,⟨q4,-⟩,⟨q5,-⟩,⟨q6,-⟩,⟨q7,-⟩,⟨q8,-⟩,⟨q9,-⟩⟩:=ij.o.ten eF.o.1 fJ.o;go_upto_region 63 with fail
     obtain⟨eb,nh,V,hV,fK,jx,ni,jI,pA,nZ⟩:=ij.o.copy kY.o sG.o sD.o o_ eI eF.o.1;rw[<- hV,<- nh];have y0:=aA fK.o y0;have y1:=aA fK.o y1;have u0:=aA fK.o u0;clear hV nh e4 q0 q1 q2 q3 q4 q5 q6 q7 q8 q9;obtain⟨j0,hj,oX,qo,mV⟩:=ma G_;have q2:V.cell? (ar eb 2 J)=U (ak pa e.au.length pc):=by simp[aL,jI.o]
     have vP:∀ob,(V.alloc ob).cell? ⟨eb,2,J⟩=U (ak pa e.au.length pc):=λob=>aA (bt _ _) q2
     have hown:V.drew.ownsRow L 9 1 (ak pa e.au.length pc) e.au.length (e.au.flatMap gg):=by have:=jx.o.new.hp;rw[eF.o.2]at this;exact this
     have mf:=nZ.o;have kh:e.au.length<=1000000:=lH.o.2.p;have KB:=jx.o.keep ni.o jI.o (by decide) hown;go_wp2_with fail
     go_region_law (refine qa _ rfl (.tmp 191) (.tmp 195) 22 rfl L 9 j0 (aB ⟨#[]⟩) 1 16 underlying22 hj oX qo mV rfl (by decide) (ak pa e.au.length pc) e.au.length (e.au.flatMap gg) (by simp[Act.eval]) (hown.alloc _) ⟨V.heap.size,0,.none⟩ 1 1 [aB s0] (by simp[Act.eval]) rfl (Ba V.drew (aB s0) 9) (by intro u hu;simp at hu;subst hu;rfl) (by decide) (by unfold maxLen;omega) (by omega) (by simp;omega) (V.heap.size+1) (by simp) ?_;intro g' cap' w8 fG cv iD o9;have r8:=KB.o _ _ cv;have d8:w8.cell? (ar eb 2 J)=U (ak pa e.au.length pc):=(by simp[aL,r8.1]);have d9:w8.frozen? (ar eb 2 J)=false:=(by simp[bE,r8.1]))
     all_goals
      have H8:ag (_/\_):=r8;have vQ:ag (bB w0.heap.size rb L g cap w8 c ⟨#[112,111,105,110,116]⟩ es (x.row e).toList { e with au:=e.au++[s0] } ({ x with p:=ak (U (ar g' 0 J)) (e.au.length+1) cap' }) cells):=(jx.o.below (w':=V.drew.alloc _) ((aC V.heap.size V).drew.alloc (by simp) _)).JP s0 (by rw[eF.o.2];exact cv) fG;have vR:ag (L<=w8.heap.size):=by have h1:=cv.size;have h2:=nZ.o;show _<=_;simp at h1;omega
      clear cv fG r8 iD q2 vP hown;go_upto_region 78 with fail
      obtain⟨Y,hY,jY,sH,jH,sI⟩:=vQ.o.part H8.o pA.o HS.o.1.size vR.o 2 (ak (U (ar g' 0 J)) (e.au.length+1) cap');rw[<- hY];have nj:ag (({ x with p:=ak (U (ar g' 0 J)) (e.au.length+1) cap' }:bJ).row { e with au:=e.au++[s0] }=#[aB e.name,af I e.aW,ak (U (ar g' 0 J)) (e.au.length+1) cap',af I e.cnt,af I e.mn,af I e.mx,ak ga e.aP.length gc,ak ea e.aN.length ec,ak fa e.first.length fc,ak la e.last.length lc]):=by show _=_;rw[eF.o.2];rfl
      clear hY d8 d9 mf kh y0 y1 u0;have e4:=jY.o.r4 fJ.o;obtain⟨q0,q1,q2,q3,q4,q5,q6,q7,q8,q9⟩:=Bb sH nj.o rfl;obtain⟨⟨p0,f0⟩,⟨p1,f1⟩,⟨p2,f2⟩,⟨p3,f3⟩,⟨p4,f4⟩,⟨p5,f5⟩,⟨p6,f6⟩,⟨p7,f7⟩,⟨p8,f8⟩,⟨p9,f9⟩⟩:=jY.o.ten eF.o.1 fJ.o;go_wp2_with fail
      go_region
      all_goals
       obtain⟨Z,hZ,iO,dW,sJ⟩:=jY.o.back nj.o fJ.o jH.o sI.o;rw[<- hZ];clear hZ e4 q0 p0 f0 q1 p1 f1 q2 p2 f2 q3 p3 f3 q4 p4 f4 q5 p5 f5 q6 p6 f6 q7 p7 f7 q8 p8 f8 q9 p9 f9;go_wp2;go_ret
       refine⟨by rw[fO.o];rfl,dW.o.drew,λ_=>bk ⟨L,g,cap,es,{ e with au:=e.au++[s0] },({ x with p:=ak (U (ar g' 0 J)) (e.au.length+1) cap' }),cells,?_,sJ.o,?_⟩⟩
       ·rw[m_.o,show (aI (aT e.au) false (form 4) [bl s0]).2=_ from lJ.o];exact(by simp only[eV];rw[py.o,rq];rw[show np 4 [bl s0] [v0] e={ e with au:=e.au++[s0] }from by simp only[np];rw[show (⟨(([bl s0]:List Bs).getD 0 []).toArray⟩:ByteArray)=s0 from oG (by rw[uA];rfl)]])
       exact nY.cfg (bB.below iO.o (aC _ _).drew) (λ_ _=>rfl)
  have HE:ag (bq last c 4 ws=1):=HK.o.trans (sB _ _ _ (by rw[<- HM.o.2,qb];exact hN));have mN:¬(m:Int)=1+1:=by have:=HM.o.1;omega
  clear hN;go_wp2;go_ret;exact di HE.o rfl (bI.o _ (aC _ _))
def aeW(w0 w:ah)(rb:Nat)(c:aV)(last:Int)(l:ByteArray)(ws:List Bs)(hb0:bp rb w0 w)(h:dX w0.heap.size rb w c (cL last))(hl:l.size<=1000000)(l0:-1<=last)(l9:last<=9)(hO:gJ 1000000 c last)(hcut:bS 32 (bl l)=kw 5::ws):Calls prog 17 #[ax (U (ar rb 0 J)),aB l] w λv w'=>v=aH (af I (bq last c 5 ws:Nat))/\bp rb w0 w'/\(bq last c 5 ws=0->dX w0.heap.size rb w' (eV c 5 ws (aI (aT (bu c.az)) false (form 5) ws).2) (gY 5)):=by
 have HS:ag (bp rb w0 w/\dX w0.heap.size rb w c (cL last)):=⟨hb0,h⟩;have HO:ag (gJ 1000000 c last):=hO;have gD:=uo w ⟨#[99,111,117,110,116]⟩ hl hcut;have gN:=uq (b:=may last 5) ⟨#[99,111,117,110,116]⟩ h l0 l9 rfl;clear hb0 h hl l0 l9 hO hcut;go_enter func17,ntmps17
 go_wp2_with fail
 refine bw gD.o ?_;rintro v w1 ⟨wt,wg,wc,m,rfl,hm,fV,hown,hb1⟩;have aS:ag (Below w.heap.size w w1):=hb1;have lI:ag (w.heap.size<=wg):=(hown.lt wg rfl).1;have HW:ag (∀V,Below w1.heap.size w1 V->∀j s,(⟨#[99,111,117,110,116]⟩::wt)[j]?=U s->V.cell? (ar wg j J)=U (aB s)):=λV hV j s hj=>aA hV (ri hown j s hj)
 have HM:ag (m=wt.length+1/\wt.map bl=ws):=⟨hm,fV⟩;have c0:=HW.o w1 (aC _ _) 0 _ rfl;have m0:(0:Int)<(m:Int):=by omega
 clear hm fV hown hb1 gD;go_wp2_with fail
 refine bw (gN.o w1 aS.o) ?_;rintro v w2 ⟨rfl,hb2⟩;have aO:ag (Below w.heap.size w w2):=aS.o.trans (hb2.mono aS.o.size);have bf:ag (Below w1.heap.size w1 w2):=hb2;have bI:ag (∀V,Below w2.heap.size w2 V->bp rb w0 V):=λV hV=>HS.o.1.trans ((aO.o.trans (hV.mono aO.o.size)).mono HS.o.1.size)
 clear hb2 gN c0
 cases cM:may last 5 with
 |false=>
  have HE:ag (bq last c 5 ws=1):=uk cM;clear cM;go_wp2;go_ret;exact di HE.o rfl (bI.o _ (aC _ _))
 |true=>
  have HY:ag (may last 5=true):=cM;have HK:ag (bq last c 5 ws=(aI (aT (bu c.az)) false (form 5) ws).1):=um cM;clear cM
  by_cases hN:wt.length=3
  ·obtain⟨s0,s1,s2,rfl⟩:∃s0 s1 s2,wt=[s0,s1,s2]:=by
    match wt,hN with
    |[s0,s1,s2],_=>exact⟨s0,s1,s2,rfl⟩
   obtain rfl:ws=[bl s0,bl s1,bl s2]:=HM.o.2.symm.trans rfl;obtain rfl:m=3+1:=HM.o.1;clear HM hN;obtain⟨L,g,cap,es,e,x,cells,n,pa,pc,py,sD,m_,H1,sF,lH,fJ,Ds,Dt,Du,my,jC,rk,ox⟩:=HS.o.2.last 5 HO.o (by decide) HY.o;rw[m_.o]at HK;have e4:=my.o w2 aO.o;go_wp2_with fail
   go_loopw [9,10,11,12] (λnv ov iv _ wr=>∃(j:Nat) (nn:Bool) (vs:List Int) (na:Option av) (nc:Nat),j<=3/\iv=af I j/\ov=aJ nn/\nv=ak na j nc/\wr.ownsRow w2.heap.size 3 1 (ak na j nc) j (vs.flatMap bc)/\Below w2.heap.size w2 wr/\dL (aT e.au) [2,1,1] [bl s0,bl s1,bl s2] j nn vs) (λ_ _ iv _ _=>3-(intOf iv).toNat)
   case atStart=>exact⟨0,false,[],J,0,cG _,rfl,rfl,rfl,kE _ _ _ _,aC _ _,dL.start _ _ _⟩
   case round=>
    obtain⟨j,nn,vs,na,nc,hj,rfl,rfl,rfl,hown,hb,hf⟩:=hrel;have HB:ag (Below w2.heap.size w2 wr):=hb;have aZ:ag (wr.ownsRow w2.heap.size 3 1 (ak na j nc) j (vs.flatMap bc)):=hown;have HF:ag (dL (aT e.au) [2,1,1] [bl s0,bl s1,bl s2] j nn vs):=hf;clear hb hown hf e4
    by_cases hlt:j<3
    ·clear hj
     rcases(show j=0\/j=1\/j=2 by omega)with rfl|rfl|rfl
     clear hlt
     ·have e5:=my.o wr (aO.o.trans (HB.o.mono aO.o.size));have e6:=jC.o wr (aO.o.trans (HB.o.mono aO.o.size));have d0:=HW.o wr (bf.o.trans (HB.o.mono bf.o.size)) 1 s0 rfl;have jv:ag (∀q,Calls prog 34 #[ak pa e.au.length pc,aB s0] (wr.drewN q) λe' w'=>e'=aH (af I (idxOf e.au s0))/\w'=wr.drewN q):=λq=>rk.o s0 _ (aO.o.trans ((cB HB.o q).mono aO.o.size))
      have qu:ag (¬s0=⟨#[]⟩->_):=@zA e.au s0;generalize idxOf e.au s0=z at *;go_upto_region 38 with fail
      go_cut [12] (λxv wv=>xv=af I z/\Below w2.heap.size w2 wv/\wv.ownsRow w2.heap.size 3 1 (ak na 0 nc) 0 (vs.flatMap bc))
      case first=>
       go_wp2_with fail
       go_quiet (first|(go_at_call 34;exact pF (jv.o _)))
       go_wp2
       go_meet
       case rel=>exact⟨rfl,cB HB.o _,aZ.o⟩
      obtain⟨rfl,kO,iy⟩:=hcut;clear HB aZ jv e5 e6 d0;rename ah=>wr
      have HB:ag (Below w2.heap.size w2 wr):=kO;have aZ:ag (wr.ownsRow w2.heap.size 3 1 (ak na 0 nc) 0 (vs.flatMap bc)):=iy;clear kO iy;have d0:=HW.o wr (bf.o.trans (HB.o.mono bf.o.size)) 1 s0 rfl
      by_cases bW:s0=⟨#[]⟩
      ·have HE:ag (bq last c 5 [bl s0,bl s1,bl s2]=1):=HK.o.trans (HF.o.bad rfl rfl (by rw[bW];exact vL));obtain⟨n1,n2⟩:=nX bW;clear bW
       by_cases z0:z<0
       ·go_wp2;go_ret;exact di HE.o rfl (bI.o _ HB.o)
       go_wp2;go_ret;exact di HE.o rfl (bI.o _ HB.o)
      have iQ:ag _:=qu.o bW;obtain⟨n1,n2⟩:=eG bW;clear bW
      by_cases z0:z<0
      ·have HZ:ag ((bg (aT e.au) 2 (bl s0)).1=5):=by show _=_;rw[iQ.o.1,aU z0]
       go_wp2_with (at_builtin;refine jw HB.o.size aZ.o rfl rfl rfl rfl (by omega) ?_;intro v1 w4 hown1 cY)
       obtain⟨dM,cN,bK⟩:=eO hown1;subst bK;go_roundw
       case rel=>exact⟨0+1,true,vs++[z],dM,cN,by omega,rfl,rfl,rfl,by simpa[fj,bc]using hown1,(HB.o.alloc HB.o.size _).grown cY (by have:=HB.o.size;simp;omega) (λq hq=>(aZ.o.lt q hq).1),HF.o.next rfl rfl true z (by rw[HZ.o];decide) (by rw[HZ.o];simp) (λh0=>by cases h0)⟩
       case measure=>simp[intOf]
      have HZ:ag ((bg (aT e.au) 2 (bl s0)).1=0/\(bg (aT e.au) 2 (bl s0)).2=z):=⟨by rw[iQ.o.1,aF z0],iQ.o.2 (by omega)⟩;go_wp2_with (at_builtin;refine jw HB.o.size aZ.o rfl rfl rfl rfl (by omega) ?_;intro v1 w4 hown1 cY)
      obtain⟨dM,cN,bK⟩:=eO hown1;subst bK;go_roundw
      case rel=>exact⟨0+1,nn,vs++[z],dM,cN,by omega,rfl,rfl,rfl,by simpa[fj,bc]using hown1,(HB.o.alloc HB.o.size _).grown cY (by have:=HB.o.size;simp;omega) (λq hq=>(aZ.o.lt q hq).1),HF.o.next rfl rfl nn z (by rw[HZ.o.1];decide) (by rw[HZ.o.1];simp) (λ_=>HZ.o.2.symm)⟩
      case measure=>simp[intOf]
     ·have d1:=HW.o wr (bf.o.trans (HB.o.mono bf.o.size)) 2 s1 rfl;have i7:ag _:=vJ s1 wr;go_wp2_with fail
      refine bw i7.o ?_;rintro v w3 ⟨rfl,hw3⟩;rw[hw3];clear hw3 w3;have dw:ag _:=@vK (aT e.au) s1;clear i7;generalize kN (bl s1)=z at *
      by_cases z0:z<0
      ·have HE:ag (bq last c 5 [bl s0,bl s1,bl s2]=1):=HK.o.trans (HF.o.bad rfl rfl (by rw[dw.o.1,aU z0]));go_wp2;go_ret;exact di HE.o rfl (bI.o _ HB.o)
      have z1:0<=z:=by omega
      obtain⟨n1,n2⟩:=eG (dw.o.2 z1).2;go_wp2_with (at_builtin;refine jw HB.o.size aZ.o rfl rfl rfl rfl (by omega) ?_;intro v1 w4 hown1 cY)
      obtain⟨dM,cN,bK⟩:=eO hown1;subst bK;go_roundw
      case rel=>exact⟨1+1,nn,vs++[z],dM,cN,by omega,rfl,rfl,rfl,by simpa[fj,bc]using hown1,(HB.o.alloc HB.o.size _).grown cY (by have:=HB.o.size;simp;omega) (λq hq=>(aZ.o.lt q hq).1),HF.o.next rfl rfl nn z (by rw[dw.o.1,aF (by omega)];decide) (by rw[dw.o.1,aF (by omega)];simp) (λ_=>(dw.o.2 z1).1.symm)⟩
      case measure=>simp[intOf]
     have d2:=HW.o wr (bf.o.trans (HB.o.mono bf.o.size)) 3 s2 rfl;have i7:ag _:=vJ s2 wr;go_wp2_with fail
     refine bw i7.o ?_;rintro v w3 ⟨rfl,hw3⟩;rw[hw3];clear hw3 w3;have dw:ag _:=@vK (aT e.au) s2;clear i7;generalize kN (bl s2)=z at *
     by_cases z0:z<0
     ·have HE:ag (bq last c 5 [bl s0,bl s1,bl s2]=1):=HK.o.trans (HF.o.bad rfl rfl (by rw[dw.o.1,aU z0]));go_wp2;go_ret;exact di HE.o rfl (bI.o _ HB.o)
     have z1:0<=z:=by omega
     obtain⟨n1,n2⟩:=eG (dw.o.2 z1).2;go_wp2_with (at_builtin;refine jw HB.o.size aZ.o rfl rfl rfl rfl (by omega) ?_;intro v1 w4 hown1 cY)
     obtain⟨dM,cN,bK⟩:=eO hown1;subst bK;go_roundw
     case rel=>exact⟨2+1,nn,vs++[z],dM,cN,by omega,rfl,rfl,rfl,by simpa[fj,bc]using hown1,(HB.o.alloc HB.o.size _).grown cY (by have:=HB.o.size;simp;omega) (λq hq=>(aZ.o.lt q hq).1),HF.o.next rfl rfl nn z (by rw[dw.o.1,aF (by omega)];decide) (by rw[dw.o.1,aF (by omega)];simp) (λ_=>(dw.o.2 z1).1.symm)⟩
     case measure=>simp[intOf]
    obtain rfl:j=3:=by omega
    clear hlt hj;obtain⟨bM,fg⟩:=(show dL (aT e.au) [2,1,1] [bl s0,bl s1,bl s2] ([2,1,1]:List Nat).length nn vs from HF.o).done rfl
    cases nn with
    |true=>
     have HE:ag (bq last c 5 [bl s0,bl s1,bl s2]=5):=HK.o.trans (bM);clear bM fg;go_wp2;go_ret;exact di HE.o rfl (bI.o _ HB.o)
    |false=>
     have fO:ag (bq last c 5 [bl s0,bl s1,bl s2]=0):=by show _=_;rw[HK.o];exact bM
     have lJ:ag ((aI (aT e.au) false [2,1,1] [bl s0,bl s1,bl s2]).2=vs):=fg rfl;have hlen:=HF.o.len;clear bM fg;obtain⟨v0,v1,v2,rfl⟩:∃v0 v1 v2,vs=[v0,v1,v2]:=by
      match vs,hlen with
      |[v0,v1,v2],_=>exact⟨v0,v1,v2,rfl⟩
     obtain⟨ng,cN,g_⟩:=sA aZ.o
     cases g_
     have lK:ag (w2.heap.size<=ng):=(aZ.o.lt ng rfl).1;have x0:=mr aZ.o 0 v0 rfl;have x1:=mr aZ.o 1 v1 rfl;have x2:=mr aZ.o 2 v2 rfl;have fh:ag (Below w.heap.size w wr):=aO.o.trans (HB.o.mono aO.o.size);have d0:=HW.o wr (bf.o.trans (HB.o.mono bf.o.size)) 0 _ rfl;have d1:=HW.o wr (bf.o.trans (HB.o.mono bf.o.size)) 1 _ rfl;have d2:=HW.o wr (bf.o.trans (HB.o.mono bf.o.size)) 2 _ rfl;have d3:=HW.o wr (bf.o.trans (HB.o.mono bf.o.size)) 3 _ rfl;clear hlen HF;have hbase:=H1.o wr fh.o;obtain⟨eI,o_⟩:=ox.o;have fq:¬rb=wg:=by have:=lI.o;omega
     have vN:¬wg=rb:=λe2=>fq e2.symm
     have gF:¬rb=ng:=by have:=aO.o.size;have:=lK.o;omega
     have vO:¬ng=rb:=λe2=>gF e2.symm
     obtain⟨r5,f5⟩:=bB.r5 hbase;go_upto_region 62 with fail
     obtain⟨Wz,dp,ij,kY,sG⟩:=bB.word hbase (bI.o _ HB.o) fh.o.size ⟨#[99,111,117,110,116]⟩;rw[<- dp];have y0:=gC dp fq d0;have y1:=gC dp fq d1;have y2:=gC dp fq d2;have y3:=gC dp fq d3;have u0:=gC dp gF x0;have u1:=gC dp gF x1;have u2:=gC dp gF x2;clear dp r5 f5 hbase d0 d1 d2 d3 x0 x1 x2;obtain⟨ga,gc,ea,ec,fa,fc,la,lc,eF⟩:=ij.o.new.Bc sF.o;have e4:=ij.o.r4 fJ.o;obtain⟨⟨q0,-⟩,⟨q1,-⟩,⟨q2,-⟩,⟨q3,-⟩,⟨q4,-⟩,⟨q5,-⟩,⟨q6,-⟩,⟨q7,-⟩,⟨q8,-⟩,⟨q9,-⟩⟩:=ij.o.ten eF.o.1 fJ.o;go_upto_region 63 with fail
     obtain⟨eb,nh,V,hV,fK,jx,ni,jI,pA,nZ⟩:=ij.o.copy kY.o sG.o sD.o o_ eI eF.o.1;rw[<- hV,<- nh];have R5:ag (¬eb=wg/\¬eb=ng):=⟨λe2=>by have h1:=j6 y0;simp only at h1;omega,λe2=>by have h1:=j6 u0;simp only at h1;omega⟩;have y0:=aA fK.o y0;have y1:=aA fK.o y1;have y2:=aA fK.o y2;have y3:=aA fK.o y3;have u0:=aA fK.o u0;have u1:=aA fK.o u1;have u2:=aA fK.o u2;clear hV nh e4 q0 q1 q2 q3 q4 q5 q6 q7 q8 q9;have q3:V.cell? (ar eb 3 J)=U (af I e.cnt):=by simp[aL,jI.o]
     have f3:V.frozen? (ar eb 3 J)=false:=by simp[bE,jI.o]
     have q4:V.cell? (ar eb 4 J)=U (af I e.mn):=by simp[aL,jI.o]
     have f4:V.frozen? (ar eb 4 J)=false:=by simp[bE,jI.o]
     have q5:V.cell? (ar eb 5 J)=U (af I e.mx):=by simp[aL,jI.o]
     have f5:V.frozen? (ar eb 5 J)=false:=by simp[bE,jI.o]
     have AL:¬eb=wg:=R5.o.1;have FI:¬wg=eb:=λe2=>AL e2.symm
     have aeX:¬eb=ng:=R5.o.2;have ahp:¬ng=eb:=λe2=>aeX e2.symm
     go_upto_region 78 with fail
     obtain⟨Y,hY⟩:∃Y,Y=((V.setCell (ar eb 3 J) (af I v0)).setCell ⟨eb,4,J⟩ (af I v1)).setCell ⟨eb,5,J⟩ (af I v2):=⟨_,rfl⟩;rw[<- hY];have jY:ag (bB w0.heap.size rb L g cap Y c ⟨#[99,111,117,110,116]⟩ es (x.row e).toList { e with cnt:=v0,mn:=v1,mx:=v2 } x cells):=by
      rw[hY];have h1:=jx.o.Gh eb 3 (af I v0) jI.o pA.o.1;have k1:=vM (j:=3) jI.o (af I v0);have h2:=h1.Gh eb 4 (af I v1) k1 pA.o.1;have k2:=vM (j:=4) k1 (af I v1);have h3:=h2.Gh eb 5 (af I v2) k2 pA.o.1;exact⟨h3.lo,h3.ll,h3.row,h3.az,h3.xB,h3.ic,h3.olds,⟨h3.new.hp,h3.new.hg,h3.new.he,h3.new.hf,h3.new.hl⟩,h3.fl⟩
     have sH:ag (Y.heap[eb]?=U (ay #[aB e.name,af I e.aW,ak pa e.au.length pc,af I v0,af I v1,af I v2,ak ga e.aP.length gc,ak ea e.aN.length ec,ak fa e.first.length fc,ak la e.last.length lc] 60 (0,0))):=by
      show _=_
      rw[hY];exact vM (vM (vM jI.o _) _) _
     have jH:ag (bp rb w0 Y):=by
      show bp _ _ _
      rw[hY];have hle:eb=rb\/w0.heap.size<=eb:=bk (bH HS.o.1.size pA.o.2.2);exact((ni.o.setCell (p:=⟨eb,3,J⟩) hle _).setCell (p:=⟨eb,4,J⟩) hle _).setCell (p:=⟨eb,5,J⟩) hle _
     have sI:ag (L<=Y.heap.size):=by show _<=_;rw[hY];simpa[cZ]using nZ.o
     have nj:ag (x.row { e with cnt:=v0,mn:=v1,mx:=v2 }=#[aB e.name,af I e.aW,ak pa e.au.length pc,af I v0,af I v1,af I v2,ak ga e.aP.length gc,ak ea e.aN.length ec,ak fa e.first.length fc,ak la e.last.length lc]):=by show _=_;rw[eF.o.2];rfl
     clear hY q3 q4 q5 f3 f4 f5 y0 y1 y2 y3 u0 u1 u2;have e4:=jY.o.r4 fJ.o;obtain⟨q0,q1,q2,q3,q4,q5,q6,q7,q8,q9⟩:=Bb sH nj.o rfl;obtain⟨⟨p0,f0⟩,⟨p1,f1⟩,⟨p2,f2⟩,⟨p3,f3⟩,⟨p4,f4⟩,⟨p5,f5⟩,⟨p6,f6⟩,⟨p7,f7⟩,⟨p8,f8⟩,⟨p9,f9⟩⟩:=jY.o.ten eF.o.1 fJ.o;go_wp2_with fail
     go_region
     all_goals
      obtain⟨Z,hZ,iO,dW,sJ⟩:=jY.o.back nj.o fJ.o jH.o sI.o;rw[<- hZ];clear hZ e4 q0 p0 f0 q1 p1 f1 q2 p2 f2 q3 p3 f3 q4 p4 f4 q5 p5 f5 q6 p6 f6 q7 p7 f7 q8 p8 f8 q9 p9 f9;go_wp2;go_ret
      refine⟨by rw[fO.o];rfl,dW.o.drew,λ_=>bk ⟨L,g,cap,es,{ e with cnt:=v0,mn:=v1,mx:=v2 },(x),cells,?_,sJ.o,?_⟩⟩
      ·rw[m_.o,show (aI (aT e.au) false (form 5) [bl s0,bl s1,bl s2]).2=_ from lJ.o];exact(by simp only[eV];rw[py.o,rq];rfl)
      exact nY.cfg (bB.below iO.o (aC _ _).drew) (λ_ _=>rfl)
  have HE:ag (bq last c 5 ws=1):=HK.o.trans (sB _ _ _ (by rw[<- HM.o.2,qb];exact hN));have mN:¬(m:Int)=3+1:=by have:=HM.o.1;omega
  clear hN;go_wp2;go_ret;exact di HE.o rfl (bI.o _ (aC _ _))
def aeY{a:Act}{o:Oper}{s x:Operand}{t ty:TypeId}{vs vx v':aj}{V V':ah}(ho:o.op=.call { callee:=.builtin .append,args:=#[s,x],argTypes:=#[t,t] })(BA:o.type=ty)(hs:a.eval s=vs)(hx:a.eval x=vx)
  (hr:(Builtin.append_ #[t,t] ty #[vs,vx]).run prog V=.ok v' V'):(execOp a.eval o).run prog V=.ok (.value v') V':=by
 subst BA;unfold execOp;simp only[ho,resolve,invoke,builtin,kT,uF,sQ,List.map_toArray,wz,List.map_nil,hs,hx,hr]
def aeZ(L:Nat)(ty:TypeId){v:aj}{gs:List lx}(h:w.ownsRow L 85 4 v gs.length (gs.flatMap j7))(x:lx)(a:av)(c:Nat)(hx:∀j u,(j7 x)[j]?=U u->w.cell? (a.add j)=U u)(hl:gs.length<=1000000)(hB:L<=w.heap.size):∃g' cap' w',(Builtin.append_ #[56,56] ty #[v,ak (U a) 1 c]).run prog w=.ok (ak (U (ar g' 0 J)) (gs.length+1) cap') w'/\w'.ownsRow L 85 4 (ak (U (ar g' 0 J)) (gs.length+1) cap') (gs.length+1) (gs.flatMap j7++j7 x)/\w.grownBy w' v.ownBlock:=by
 obtain⟨i0,hi,hz0,hz1,hz2⟩:=ma G';obtain⟨v',w',hr,ho,hg,-⟩:=run_append_own (P:=prog) w L 56 ty 85 i0 _ 4 32 underlying56 hi hz0 hz1 hz2 rfl (by decide) v _ _ h a 1 c _ rfl hx (Mc x) (by unfold maxLen;omega) (by omega) hB
 rcases ho.2 with⟨-,h0⟩|⟨g,cap,cur,rfl,-⟩
 ·omega
 exact⟨g,cap,w',hr,ho,hg⟩
def oA{done:Nat->Bool}(h:i≠j):mark done i j=done j:=by simp[mark,ey h]
def K6(done:Nat->Bool)(i:Nat):mark done i i=true:=by simp[mark]
def uu{done:Nat->Bool}(i:Nat)(h:done j=true):mark done i j=true:=by simp[mark,h]
structure Gm(done:Nat->Bool):Prop where
 a:done 14=true->done 4=true/\done 7=true/\done 10=true/\done 13=true
 b:done 15=true->done 14=true
 c:done 16=true->done 15=true/\done 1=true
 d:done 18=true->done 16=true
def Gm.mark{done:Nat->Bool}(h:Gm done)(i:Nat)(Dv:i=14->done 4=true/\done 7=true/\done 10=true/\done 13=true)(ja:i=15->done 14=true)(kP:i=16->done 15=true/\done 1=true)(xC:i=18->done 16=true):Gm (mark done i)where
 a:=λx=>by
  have:done 4=true/\done 7=true/\done 10=true/\done 13=true:=by
   by_cases e:i=14
   ·exact Dv e
   rw[oA e]at x;exact h.a x
  exact⟨uu i this.1,uu i this.2.1,uu i this.2.2.1,uu i this.2.2.2⟩
 b:=λx=>by
  by_cases e:i=15
  ·exact uu i (ja e)
  rw[oA e]at x;exact uu i (h.b x)
 c:=λx=>by
  have:done 15=true/\done 1=true:=by
   by_cases e:i=16
   ·exact kP e
   rw[oA e]at x;exact h.c x
  exact⟨uu i this.1,uu i this.2⟩
 d:=λx=>by
  by_cases e:i=18
  ·exact uu i (xC e)
  rw[oA e]at x;exact uu i (h.d x)
def ae0(V:ah)(eb:Nat)(old:aj)(new:Obj):Bool->Bool->Bool->ah->Prop
 |false,_,_=>λW=>W=V.drew
 |true,false,_=>λW=>W=V.drew.alloc new
 |true,true,false=>λW=>W.cell? (ar eb 6 J)=U old
 |true,true,true=>λ_=>True
def f_(V:ah)(eb:Nat)(old:aj)(new:Obj)(done:Nat->Bool)(W:ah):Prop:=Gm done/\ae0 V eb old new (done 15) (done 16) (done 18) W
section
variable {V W:ah}{eb:Nat}{old:aj}{new:Obj}{done:Nat->Bool}
def ae1:f_ V eb old new (λ_=>false) V.drew:=⟨⟨λh=>(by cases h),λh=>(by cases h),λh=>(by cases h),λh=>(by cases h)⟩,rfl⟩
def f_.other(h:f_ V eb old new done W)(Dv:i≠14)(ja:i≠15)(kP:i≠16)(xC:i≠18):f_ V eb old new (mark done i) W:=
 ⟨h.1.mark i (λe=>absurd e Dv) (λe=>absurd e ja) (λe=>absurd e kP) (λe=>absurd e xC),by rw[oA ja,oA kP,oA xC];exact h.2⟩
def f_.ae2(h:f_ V eb old new done W)(hp:done 4=true/\done 7=true/\done 10=true/\done 13=true):f_ V eb old new (mark done 14) W:=
 ⟨h.1.mark 14 (λ_=>hp) (λe=>absurd e (by decide)) (λe=>absurd e (by decide)) (λe=>absurd e (by decide)),by rw[oA (by decide),oA (by decide),oA (by decide)];exact h.2⟩
def f_.early(h:f_ V eb old new done W)(ja:done 15=false):W=V.drew:=by have:=h.2;rw[ja]at this;exact this
def f_.R6(h:f_ V eb old new done W)(ja:done 15=false):done 16=false:=by
 cases e:done 16 with
 |false=>rfl
 |true=>have:=(h.1.c e).1;rw[ja]at this;cases this
def f_.ae3(h:f_ V eb old new done W)(h1:done 1=false):done 16=false:=by
 cases e:done 16 with
 |false=>rfl
 |true=>have:=(h.1.c e).2;rw[h1]at this;cases this
def f_.K7(h:f_ V eb old new done W)(kP:done 16=false):done 18=false:=by
 cases e:done 18 with
 |false=>rfl
 |true=>have:=h.1.d e;rw[kP]at this;cases this
def f_.Gn(h:f_ V eb old new done W)(hk:k=4\/k=7\/k=10\/k=13)(hd:done k=false):done 15=false:=by
 cases e:done 15 with
 |false=>rfl
 |true=>
  obtain⟨a,b,c,d⟩:=h.1.a (h.1.b e)
  rcases hk with rfl|rfl|rfl|rfl
  ·rw[a]at hd;cases hd
  ·rw[b]at hd;cases hd
  ·rw[c]at hd;cases hd
  rw[d]at hd;cases hd
def f_.grown(h:f_ V eb old new done W)(ja:done 15=true)(kP:done 16=false):W=V.drew.alloc new:=by have:=h.2;rw[ja,kP]at this;exact this
def f_.cell(h:f_ V eb old new done W)(kP:done 16=false)(q:V.drew.cell? (ar eb 6 J)=U old)(q':(V.drew.alloc new).cell? ⟨eb,6,J⟩=U old):W.cell? (ar eb 6 J)=U old:=by
 cases e:done 15 with
 |false=>rw[h.early e];exact q
 |true=>rw[h.grown e kP];exact q'
def f_.ae4(h:f_ V eb old new done W)(ja:done 15=false)(Dv:done 14=true):f_ V eb old new (mark done 15) (V.drew.alloc new):=
 ⟨h.1.mark 15 (λe=>absurd e (by decide)) (λ_=>Dv) (λe=>absurd e (by decide)) (λe=>absurd e (by decide)),by rw[K6,oA (by decide),h.R6 ja];rfl⟩
def f_.ae5(h:f_ V eb old new done W)(kP:done 16=false)(hp:done 15=true/\done 1=true)(hc:W'.cell? (ar eb 6 J)=U old):f_ V eb old new (mark done 16) W':=
 ⟨h.1.mark 16 (λe=>absurd e (by decide)) (λe=>absurd e (by decide)) (λ_=>hp) (λe=>absurd e (by decide)),by rw[K6,oA (by decide),oA (by decide),hp.1,h.K7 kP];exact hc⟩
def f_.ae6(h:f_ V eb old new done W)(kP:done 16=true):f_ V eb old new (mark done 18) W':=
 ⟨h.1.mark 18 (λe=>absurd e (by decide)) (λe=>absurd e (by decide)) (λe=>absurd e (by decide)) (λ_=>kP),by rw[K6,oA (by decide),oA (by decide),kP,(h.1.c kP).1];exact trivial⟩
def f_.late(h:f_ V eb old new done W)(kP:done 16=true)(xC:done 18=false):W.cell? (ar eb 6 J)=U old:=by have:=h.2;rw[(h.1.c kP).1,kP,xC]at this;exact this
end
def K8(eb ng nc nb:Nat)(ga:Option av)(n gc:Nat)(v0 v1 v2 v3:Int)(X:Nat->Nat->ah->Prop):Nat->aj->ah->Prop
 |0=>λv _=>v=ax (U (ar eb 6 J))
 |1=>λv _=>v=ak ga n gc
 |2=>λv _=>v=ak (U (ar ng 0 J)) 4 nc
 |3=>λv _=>v=ax (U (ar ng 0 J))
 |4=>λv _=>v=af I v0
 |5=>λv _=>v=ak (U (ar ng 0 J)) 4 nc
 |6=>λv _=>v=ax (U (ar ng 1 J))
 |7=>λv _=>v=af I v1
 |8=>λv _=>v=ak (U (ar ng 0 J)) 4 nc
 |9=>λv _=>v=ax (U (ar ng 2 J))
 |10=>λv _=>v=af I v2
 |11=>λv _=>v=ak (U (ar ng 0 J)) 4 nc
 |12=>λv _=>v=ax (U (ar ng 3 J))
 |13=>λv _=>v=af I v3
 |14=>λv _=>v=a_ #[af I v0,af I v1,af I v2,af I v3]
 |15=>λv _=>v=ak (U (ar nb 0 J)) 1 1
 |16=>λv W=>∃g' cap',v=ak (U (ar g' 0 J)) (n+1) cap'/\(W.cell? (ar eb 6 J)=U (ak ga n gc)->X g' cap' W)
 |17=>λv _=>v=ax (U (ar eb 6 J))
 |18=>λ_ W=>∃g' cap' w8,X g' cap' w8/\W=w8.setCell (ar eb 6 J) (ak (U (ar g' 0 J)) (n+1) cap')
 |_=>λ_ _=>True
def K9{eb ng nb:Nat}{ga:Option av}{gc:Nat}{v0 v1 v2 v3:Int}{X:Nat->Nat->ah->Prop}{W:ah}{v:aj}(kP:j≠16)(xC:j≠18)(h:K8 eb ng nc nb ga n gc v0 v1 v2 v3 X j v W):K8 eb ng nc nb ga n gc v0 v1 v2 v3 X j v W':=by
 match j,h with
 |0,h=>exact h
 |1,h=>exact h
 |2,h=>exact h
 |3,h=>exact h
 |4,h=>exact h
 |5,h=>exact h
 |6,h=>exact h
 |7,h=>exact h
 |8,h=>exact h
 |9,h=>exact h
 |10,h=>exact h
 |11,h=>exact h
 |12,h=>exact h
 |13,h=>exact h
 |14,h=>exact h
 |15,h=>exact h
 |16,h=>exact absurd rfl kP
 |17,h=>exact h
 |18,h=>exact absurd rfl xC
 |n+19,h=>exact h
def ae7(w0 w:ah)(rb:Nat)(c:aV)(last:Int)(l:ByteArray)(ws:List Bs)(hb0:bp rb w0 w)(h:dX w0.heap.size rb w c (cL last))(hl:l.size<=1000000)(l0:-1<=last)(l9:last<=9)(hO:gJ 1000000 c last)(hcut:bS 32 (bl l)=kw 6::ws):Calls prog 17 #[ax (U (ar rb 0 J)),aB l] w λv w'=>v=aH (af I (bq last c 6 ws:Nat))/\bp rb w0 w'/\(bq last c 6 ws=0->dX w0.heap.size rb w' (eV c 6 ws (aI (aT (bu c.az)) false (form 6) ws).2) (gY 6)):=by
 have HS:ag (bp rb w0 w/\dX w0.heap.size rb w c (cL last)):=⟨hb0,h⟩;have HO:ag (gJ 1000000 c last):=hO;have gD:=uo w ⟨#[103,97,112]⟩ hl hcut;have gN:=uq (b:=may last 6) ⟨#[103,97,112]⟩ h l0 l9 rfl;clear hb0 h hl l0 l9 hO hcut;go_enter func17,ntmps17
 go_wp2_with fail
 refine bw gD.o ?_;rintro v w1 ⟨wt,wg,wc,m,rfl,hm,fV,hown,hb1⟩;have aS:ag (Below w.heap.size w w1):=hb1;have lI:ag (w.heap.size<=wg):=(hown.lt wg rfl).1;have HW:ag (∀V,Below w1.heap.size w1 V->∀j s,(⟨#[103,97,112]⟩::wt)[j]?=U s->V.cell? (ar wg j J)=U (aB s)):=λV hV j s hj=>aA hV (ri hown j s hj)
 have HM:ag (m=wt.length+1/\wt.map bl=ws):=⟨hm,fV⟩;have c0:=HW w1 (aC _ _) 0 _ rfl;have m0:(0:Int)<(m:Int):=by omega
 clear hm fV hown hb1 gD;go_wp2_with fail
 refine bw (gN.o w1 aS) ?_;rintro v w2 ⟨rfl,hb2⟩;have aO:ag (Below w.heap.size w w2):=aS.trans (hb2.mono aS.size);have bf:ag (Below w1.heap.size w1 w2):=hb2;have bI:ag (∀V,Below w2.heap.size w2 V->bp rb w0 V):=λV hV=>HS.1.trans ((aO.trans (hV.mono aO.size)).mono HS.1.size)
 clear hb2 gN c0
 cases cM:may last 6 with
 |false=>
  have HE:ag (bq last c 6 ws=1):=uk cM;clear cM;go_wp2;go_ret;exact di HE.o rfl (bI _ (aC _ _))
 |true=>
  have HY:ag (may last 6=true):=cM;have HK:ag (bq last c 6 ws=(aI (aT (bu c.az)) false (form 6) ws).1):=um cM;clear cM
  by_cases hN:wt.length=4
  ·obtain⟨s0,s1,s2,s3,rfl⟩:∃s0 s1 s2 s3,wt=[s0,s1,s2,s3]:=by
    match wt,hN with
    |[s0,s1,s2,s3],_=>exact⟨s0,s1,s2,s3,rfl⟩
   obtain rfl:ws=[bl s0,bl s1,bl s2,bl s3]:=HM.2.symm.trans rfl;obtain rfl:m=4+1:=HM.1;clear HM hN;obtain⟨L,g,cap,es,e,x,cells,n,pa,pc,py,sD,m_,H1,sF,lH,fJ,Ds,Dt,Du,my,jC,rk,ox⟩:=HS.o.2.last 6 HO.o (by decide) HY.o;rw[m_.o]at HK;have e4:=my w2 aO;go_wp2_with fail
   go_loopw [9,10,11,12] (λnv ov iv _ wr=>∃(j:Nat) (nn:Bool) (vs:List Int) (na:Option av) (nc:Nat),j<=4/\iv=af I j/\ov=aJ nn/\nv=ak na j nc/\wr.ownsRow w2.heap.size 3 1 (ak na j nc) j (vs.flatMap bc)/\Below w2.heap.size w2 wr/\dL (aT e.au) [2,2,1,1] [bl s0,bl s1,bl s2,bl s3] j nn vs) (λ_ _ iv _ _=>4-(intOf iv).toNat)
   case atStart=>exact⟨0,false,[],J,0,cG _,rfl,rfl,rfl,kE _ _ _ _,aC _ _,dL.start _ _ _⟩
   case round=>
    obtain⟨j,nn,vs,na,nc,hj,rfl,rfl,rfl,hown,hb,hf⟩:=hrel;have HB:ag (Below w2.heap.size w2 wr):=hb;have aZ:ag (wr.ownsRow w2.heap.size 3 1 (ak na j nc) j (vs.flatMap bc)):=hown;have HF:ag (dL (aT e.au) [2,2,1,1] [bl s0,bl s1,bl s2,bl s3] j nn vs):=hf;clear hb hown hf e4
    by_cases hlt:j<4
    ·clear hj
     rcases(show j=0\/j=1\/j=2\/j=3 by omega)with rfl|rfl|rfl|rfl
     clear hlt
     ·have e5:=my wr (aO.trans (HB.mono aO.size));have e6:=jC wr (aO.trans (HB.mono aO.size));have d0:=HW wr (bf.trans (HB.mono bf.size)) 1 s0 rfl;have jv:ag (∀q,Calls prog 34 #[ak pa e.au.length pc,aB s0] (wr.drewN q) λe' w'=>e'=aH (af I (idxOf e.au s0))/\w'=wr.drewN q):=λq=>rk s0 _ (aO.trans ((cB HB q).mono aO.size))
      have qu:ag (¬s0=⟨#[]⟩->_):=@zA e.au s0;generalize idxOf e.au s0=z at *;go_upto_region 38 with fail
      go_cut [12] (λxv wv=>xv=af I z/\Below w2.heap.size w2 wv/\wv.ownsRow w2.heap.size 3 1 (ak na 0 nc) 0 (vs.flatMap bc))
      case first=>
       go_wp2_with fail
       go_quiet (first|(go_at_call 34;exact pF (jv _)))
       go_wp2
       go_meet
       case rel=>exact⟨rfl,cB HB _,aZ⟩
      obtain⟨rfl,kO,iy⟩:=hcut;clear HB aZ jv e5 e6 d0;rename ah=>wr
      have HB:ag (Below w2.heap.size w2 wr):=kO;have aZ:ag (wr.ownsRow w2.heap.size 3 1 (ak na 0 nc) 0 (vs.flatMap bc)):=iy;clear kO iy;have d0:=HW wr (bf.trans (HB.mono bf.size)) 1 s0 rfl
      by_cases bW:s0=⟨#[]⟩
      ·have HE:ag (bq last c 6 [bl s0,bl s1,bl s2,bl s3]=1):=HK.o.trans (HF.bad rfl rfl (by rw[bW];exact vL));obtain⟨n1,n2⟩:=nX bW;clear bW
       by_cases z0:z<0
       ·go_wp2;go_ret;exact di HE.o rfl (bI _ HB)
       go_wp2;go_ret;exact di HE.o rfl (bI _ HB)
      have iQ:ag _:=qu bW;obtain⟨n1,n2⟩:=eG bW;clear bW
      by_cases z0:z<0
      ·have HZ:ag ((bg (aT e.au) 2 (bl s0)).1=5):=by show _=_;rw[iQ.1,aU z0]
       go_wp2_with (at_builtin;refine jw HB.size aZ.o rfl rfl rfl rfl (by omega) ?_;intro v1 w4 hown1 cY)
       obtain⟨dM,cN,bK⟩:=eO hown1;subst bK;go_roundw
       case rel=>exact⟨0+1,true,vs++[z],dM,cN,by omega,rfl,rfl,rfl,by simpa[fj,bc]using hown1,(HB.alloc HB.size _).grown cY (by have:=HB.size;simp;omega) (λq hq=>(aZ.lt q hq).1),HF.next rfl rfl true z (by rw[HZ.o];decide) (by rw[HZ.o];simp) (λh0=>by cases h0)⟩
       case measure=>simp[intOf]
      have HZ:ag ((bg (aT e.au) 2 (bl s0)).1=0/\(bg (aT e.au) 2 (bl s0)).2=z):=⟨by rw[iQ.1,aF z0],iQ.2 (by omega)⟩;go_wp2_with (at_builtin;refine jw HB.size aZ.o rfl rfl rfl rfl (by omega) ?_;intro v1 w4 hown1 cY)
      obtain⟨dM,cN,bK⟩:=eO hown1;subst bK;go_roundw
      case rel=>exact⟨0+1,nn,vs++[z],dM,cN,by omega,rfl,rfl,rfl,by simpa[fj,bc]using hown1,(HB.alloc HB.size _).grown cY (by have:=HB.size;simp;omega) (λq hq=>(aZ.lt q hq).1),HF.next rfl rfl nn z (by rw[HZ.1];decide) (by rw[HZ.1];simp) (λ_=>HZ.2.symm)⟩
      case measure=>simp[intOf]
     ·have e5:=my wr (aO.trans (HB.mono aO.size));have e6:=jC wr (aO.trans (HB.mono aO.size));have d1:=HW wr (bf.trans (HB.mono bf.size)) 2 s1 rfl;have jv:ag (∀q,Calls prog 34 #[ak pa e.au.length pc,aB s1] (wr.drewN q) λe' w'=>e'=aH (af I (idxOf e.au s1))/\w'=wr.drewN q):=λq=>rk s1 _ (aO.trans ((cB HB q).mono aO.size))
      have qu:ag (¬s1=⟨#[]⟩->_):=@zA e.au s1;generalize idxOf e.au s1=z at *;go_upto_region 38 with fail
      go_cut [12] (λxv wv=>xv=af I z/\Below w2.heap.size w2 wv/\wv.ownsRow w2.heap.size 3 1 (ak na 1 nc) 1 (vs.flatMap bc))
      case first=>
       go_wp2_with fail
       go_quiet (first|(go_at_call 34;exact pF (jv _)))
       go_wp2
       go_meet
       case rel=>exact⟨rfl,cB HB _,aZ⟩
      obtain⟨rfl,kO,iy⟩:=hcut;clear HB aZ jv e5 e6 d1;rename ah=>wr
      have HB:ag (Below w2.heap.size w2 wr):=kO;have aZ:ag (wr.ownsRow w2.heap.size 3 1 (ak na 1 nc) 1 (vs.flatMap bc)):=iy;clear kO iy;have d1:=HW wr (bf.trans (HB.mono bf.size)) 2 s1 rfl
      by_cases bW:s1=⟨#[]⟩
      ·have HE:ag (bq last c 6 [bl s0,bl s1,bl s2,bl s3]=1):=HK.o.trans (HF.bad rfl rfl (by rw[bW];exact vL));obtain⟨n1,n2⟩:=nX bW;clear bW
       by_cases z0:z<0
       ·go_wp2;go_ret;exact di HE.o rfl (bI _ HB)
       go_wp2;go_ret;exact di HE.o rfl (bI _ HB)
      have iQ:ag _:=qu bW;obtain⟨n1,n2⟩:=eG bW;clear bW
      by_cases z0:z<0
      ·have HZ:ag ((bg (aT e.au) 2 (bl s1)).1=5):=by show _=_;rw[iQ.1,aU z0]
       go_wp2_with (at_builtin;refine jw HB.size aZ.o rfl rfl rfl rfl (by omega) ?_;intro v1 w4 hown1 cY)
       obtain⟨dM,cN,bK⟩:=eO hown1;subst bK;go_roundw
       case rel=>exact⟨1+1,true,vs++[z],dM,cN,by omega,rfl,rfl,rfl,by simpa[fj,bc]using hown1,(HB.alloc HB.size _).grown cY (by have:=HB.size;simp;omega) (λq hq=>(aZ.lt q hq).1),HF.next rfl rfl true z (by rw[HZ.o];decide) (by rw[HZ.o];simp) (λh0=>by cases h0)⟩
       case measure=>simp[intOf]
      have HZ:ag ((bg (aT e.au) 2 (bl s1)).1=0/\(bg (aT e.au) 2 (bl s1)).2=z):=⟨by rw[iQ.1,aF z0],iQ.2 (by omega)⟩;go_wp2_with (at_builtin;refine jw HB.size aZ.o rfl rfl rfl rfl (by omega) ?_;intro v1 w4 hown1 cY)
      obtain⟨dM,cN,bK⟩:=eO hown1;subst bK;go_roundw
      case rel=>exact⟨1+1,nn,vs++[z],dM,cN,by omega,rfl,rfl,rfl,by simpa[fj,bc]using hown1,(HB.alloc HB.size _).grown cY (by have:=HB.size;simp;omega) (λq hq=>(aZ.lt q hq).1),HF.next rfl rfl nn z (by rw[HZ.1];decide) (by rw[HZ.1];simp) (λ_=>HZ.2.symm)⟩
      case measure=>simp[intOf]
     ·have d2:=HW wr (bf.trans (HB.mono bf.size)) 3 s2 rfl;have i7:ag _:=vJ s2 wr;go_wp2_with fail
      refine bw i7.o ?_;rintro v w3 ⟨rfl,hw3⟩;rw[hw3];clear hw3 w3;have dw:ag _:=@vK (aT e.au) s2;clear i7;generalize kN (bl s2)=z at *
      by_cases z0:z<0
      ·have HE:ag (bq last c 6 [bl s0,bl s1,bl s2,bl s3]=1):=HK.o.trans (HF.bad rfl rfl (by rw[dw.1,aU z0]));go_wp2;go_ret;exact di HE.o rfl (bI _ HB)
      have z1:0<=z:=by omega
      obtain⟨n1,n2⟩:=eG (dw.2 z1).2;go_wp2_with (at_builtin;refine jw HB.size aZ.o rfl rfl rfl rfl (by omega) ?_;intro v1 w4 hown1 cY)
      obtain⟨dM,cN,bK⟩:=eO hown1;subst bK;go_roundw
      case rel=>exact⟨2+1,nn,vs++[z],dM,cN,by omega,rfl,rfl,rfl,by simpa[fj,bc]using hown1,(HB.alloc HB.size _).grown cY (by have:=HB.size;simp;omega) (λq hq=>(aZ.lt q hq).1),HF.next rfl rfl nn z (by rw[dw.1,aF (by omega)];decide) (by rw[dw.1,aF (by omega)];simp) (λ_=>(dw.2 z1).1.symm)⟩
      case measure=>simp[intOf]
     have d3:=HW wr (bf.trans (HB.mono bf.size)) 4 s3 rfl;have i7:ag _:=vJ s3 wr;go_wp2_with fail
     refine bw i7.o ?_;rintro v w3 ⟨rfl,hw3⟩;rw[hw3];clear hw3 w3;have dw:ag _:=@vK (aT e.au) s3;clear i7;generalize kN (bl s3)=z at *
     by_cases z0:z<0
     ·have HE:ag (bq last c 6 [bl s0,bl s1,bl s2,bl s3]=1):=HK.o.trans (HF.bad rfl rfl (by rw[dw.1,aU z0]));go_wp2;go_ret;exact di HE.o rfl (bI _ HB)
     have z1:0<=z:=by omega
     obtain⟨n1,n2⟩:=eG (dw.2 z1).2;go_wp2_with (at_builtin;refine jw HB.size aZ.o rfl rfl rfl rfl (by omega) ?_;intro v1 w4 hown1 cY)
     obtain⟨dM,cN,bK⟩:=eO hown1;subst bK;go_roundw
     case rel=>exact⟨3+1,nn,vs++[z],dM,cN,by omega,rfl,rfl,rfl,by simpa[fj,bc]using hown1,(HB.alloc HB.size _).grown cY (by have:=HB.size;simp;omega) (λq hq=>(aZ.lt q hq).1),HF.next rfl rfl nn z (by rw[dw.1,aF (by omega)];decide) (by rw[dw.1,aF (by omega)];simp) (λ_=>(dw.2 z1).1.symm)⟩
     case measure=>simp[intOf]
    obtain rfl:j=4:=by omega
    clear hlt hj;obtain⟨bM,fg⟩:=(show dL (aT e.au) [2,2,1,1] [bl s0,bl s1,bl s2,bl s3] ([2,2,1,1]:List Nat).length nn vs from HF.o).done rfl
    cases nn with
    |true=>
     have HE:ag (bq last c 6 [bl s0,bl s1,bl s2,bl s3]=5):=HK.o.trans (bM);clear bM fg;go_wp2;go_ret;exact di HE.o rfl (bI _ HB)
    |false=>
     have fO:ag (bq last c 6 [bl s0,bl s1,bl s2,bl s3]=0):=by show _=_;rw[HK.o];exact bM
     have lJ:ag ((aI (aT e.au) false [2,2,1,1] [bl s0,bl s1,bl s2,bl s3]).2=vs):=fg rfl;have hlen:=HF.len;clear bM fg;obtain⟨v0,v1,v2,v3,rfl⟩:∃v0 v1 v2 v3,vs=[v0,v1,v2,v3]:=by
      match vs,hlen with
      |[v0,v1,v2,v3],_=>exact⟨v0,v1,v2,v3,rfl⟩
     obtain⟨ng,cN,g_⟩:=sA aZ
     cases g_
     have lK:ag (w2.heap.size<=ng):=by show _<=_;exact(aZ.lt ng rfl).1
     have x0:=mr aZ 0 v0 rfl;have x1:=mr aZ 1 v1 rfl;have x2:=mr aZ 2 v2 rfl;have x3:=mr aZ 3 v3 rfl;have fh:ag (Below w.heap.size w wr):=aO.trans (HB.mono aO.size);have d0:=HW wr (bf.trans (HB.mono bf.size)) 0 _ rfl;have d1:=HW wr (bf.trans (HB.mono bf.size)) 1 _ rfl;have d2:=HW wr (bf.trans (HB.mono bf.size)) 2 _ rfl;have d3:=HW wr (bf.trans (HB.mono bf.size)) 3 _ rfl;have d4:=HW wr (bf.trans (HB.mono bf.size)) 4 _ rfl;clear hlen HF;have hbase:=H1 wr fh;obtain⟨eI,o_⟩:=ox.o;have fq:¬rb=wg:=by have:=lI.o;omega
     have vN:¬wg=rb:=λe2=>fq e2.symm
     have gF:¬rb=ng:=by have:=aO.size;have:=lK.o;omega
     have vO:¬ng=rb:=λe2=>gF e2.symm
     obtain⟨r5,f5⟩:=bB.r5 hbase;go_upto_region 62 with fail
     obtain⟨Wz,dp,ij,kY,sG⟩:=bB.word hbase (bI.o _ HB.o) fh.o.size ⟨#[103,97,112]⟩;rw[<- dp];have y0:=gC dp fq d0;have y1:=gC dp fq d1;have y2:=gC dp fq d2;have y3:=gC dp fq d3;have y4:=gC dp fq d4;have u0:=gC dp gF x0;have u1:=gC dp gF x1;have u2:=gC dp gF x2;have u3:=gC dp gF x3;clear dp r5 f5 hbase d0 d1 d2 d3 d4 x0 x1 x2 x3;obtain⟨ga,gc,ea,ec,fa,fc,la,lc,eF⟩:=ij.o.new.Bc sF.o;have e4:=ij.o.r4 fJ.o;obtain⟨⟨q0,-⟩,⟨q1,-⟩,⟨q2,-⟩,⟨q3,-⟩,⟨q4,-⟩,⟨q5,-⟩,⟨q6,-⟩,⟨q7,-⟩,⟨q8,-⟩,⟨q9,-⟩⟩:=ij.o.ten eF.o.1 fJ.o;go_upto_region 63 with fail
     obtain⟨eb,nh,V,hV,fK,jx,ni,jI,pA,nZ⟩:=ij.o.copy kY.o sG.o sD.o o_ eI eF.o.1;rw[<- hV,<- nh];have y0:=aA fK y0;have y1:=aA fK y1;have y2:=aA fK y2;have y3:=aA fK y3;have y4:=aA fK y4;have u0:=aA fK u0;have u1:=aA fK u1;have u2:=aA fK u2;have u3:=aA fK u3;clear hV nh e4 q0 q1 q2 q3 q4 q5 q6 q7 q8 q9;obtain⟨j0,hj,oX,qo,mV⟩:=ma G';have q2:V.cell? (ar eb 6 J)=U (ak ga e.aP.length gc):=by simp[aL,jI.o]
     have vP:∀ob,(V.alloc ob).cell? ⟨eb,6,J⟩=U (ak ga e.aP.length gc):=λob=>aA (bt _ _) q2
     have hown:V.drew.ownsRow L 85 4 (ak ga e.aP.length gc) e.aP.length (e.aP.flatMap j7):=by have:=jx.new.hg;rw[eF.2]at this;exact this
     have mf:=nZ.o;have kh:e.aP.length<=1000000:=lH.2.g;have KB:=jx.o.keep ni.o jI.o (by decide) hown;have R7:(V.drew.alloc (ay #[af I v0,af I v1,af I v2,af I v3] 85)).cell? ⟨eb,6,J⟩=U (ak ga e.aP.length gc):=aA ((aC V.heap.size V).drew.alloc (by simp) _) q2;obtain⟨X,K_,Gp⟩:∃X:Nat->Nat->ah->Prop,ag (∀g' cap' w8,(V.drew.alloc (ay #[af I v0,af I v1,af I v2,af I v3] 85)).grownBy w8 (Value.slice ga e.aP.length gc).ownBlock->w8.ownsRow L 85 4 (ak (U (ar g' 0 J)) (e.aP.length+1) cap') (e.aP.length+1) (e.aP.flatMap j7++j7 ⟨v0,v1,v2,v3⟩)->X g' cap' w8)/\ag (∀g' cap' w8,X g' cap' w8->(w8.heap[eb]?=U (ay #[aB e.name,af I e.aW,ak pa e.au.length pc,af I e.cnt,af I e.mn,af I e.mx,ak ga e.aP.length gc,ak ea e.aN.length ec,ak fa e.first.length fc,ak la e.last.length lc] 60 (0,0))/\bp rb w0 w8)/\bB w0.heap.size rb L g cap w8 c ⟨#[103,97,112]⟩ es (x.row e).toList { e with aP:=e.aP++[⟨v0,v1,v2,v3⟩] } ({ x with g:=ak (U (ar g' 0 J)) (e.aP.length+1) cap' }) cells/\L<=w8.heap.size):=by
      refine⟨λg' cap' w8=>(w8.heap[eb]?=U (ay #[aB e.name,af I e.aW,ak pa e.au.length pc,af I e.cnt,af I e.mn,af I e.mx,ak ga e.aP.length gc,ak ea e.aN.length ec,ak fa e.first.length fc,ak la e.last.length lc] 60 (0,0))/\bp rb w0 w8)/\bB w0.heap.size rb L g cap w8 c ⟨#[103,97,112]⟩ es (x.row e).toList { e with aP:=e.aP++[⟨v0,v1,v2,v3⟩] } ({ x with g:=ak (U (ar g' 0 J)) (e.aP.length+1) cap' }) cells/\L<=w8.heap.size,?_,λ_ _ _ h=>h⟩;intro g' cap' w8 cv fG;exact⟨KB _ _ cv,(jx.below (w':=V.drew.alloc _) ((aC V.heap.size V).drew.alloc (by simp) _)).JQ ⟨v0,v1,v2,v3⟩ (by rw[eF.2];exact cv) fG,by have h1:=cv.size;have h2:=nZ.o;simp at h1;omega⟩
     go_upto_region 71 with fail
     refine Ml 19 rfl (K8 eb ng nc V.heap.size ga e.aP.length gc v0 v1 v2 v3 X) (f_ V eb (ak ga e.aP.length gc) (ay #[af I v0,af I v1,af I v2,af I v3] 85)) (by kernel_rfl) (by kernel_rfl) ae1 ?_ ?_
     ·intro i o ho
      match i,ho with
      |0,ho=>
       obtain rfl:=b_ ho
       refine j8.free rfl ?_;intro done a W hC fW dY aY bj;have cu:a.tmps[14]?.getD undef=ax (U (ar eb 0 J)):=dz (bj 14 (nB (by kernel_rfl)));exact gU.val (c:=ax (U (ar eb 6 J))) (by clear aY bj dY;go_simp) (hC.other (by decide) (by decide) (by decide) (by decide)) rfl
      |1,ho=>
       obtain rfl:=b_ ho
       refine j8.free rfl ?_;intro done a W hC fW dY aY bj;have ahq:a.tmps[214]?.getD undef=ax (U (ar eb 6 J)):=dz (aY _ 214 (bU (i:=0) rfl) rfl rfl);have q:=hC.cell (hC.ae3 fW) q2 R7;exact gU.val (c:=ak ga e.aP.length gc) (by clear aY bj dY;go_simp) (hC.other (by decide) (by decide) (by decide) (by decide)) rfl
      |2,ho=>
       obtain rfl:=b_ ho
       refine j8.free rfl ?_;intro done a W hC fW dY aY bj;have x9:a.tmps[9]?.getD undef=ak (U (ar ng 0 J)) 4 nc:=dz (bj 9 (nB (by kernel_rfl)));exact gU.val (c:=ak (U (ar ng 0 J)) 4 nc) (by clear aY bj dY;go_simp) (hC.other (by decide) (by decide) (by decide) (by decide)) rfl
      |3,ho=>
       obtain rfl:=b_ ho
       refine j8.free rfl ?_;intro done a W hC fW dY aY bj;have ahr:a.tmps[216]?.getD undef=ak (U (ar ng 0 J)) 4 nc:=dz (aY _ 216 (bU (i:=0) rfl) rfl rfl);exact gU.val (c:=ax (U (ar ng 0 J))) (by clear aY bj dY;go_simp) (hC.other (by decide) (by decide) (by decide) (by decide)) rfl
      |4,ho=>
       obtain rfl:=b_ ho
       refine j8.free rfl ?_;intro done a W hC fW dY aY bj;have ahs:a.tmps[217]?.getD undef=ax (U (ar ng 0 J)):=dz (aY _ 217 (bU (i:=0) rfl) rfl rfl);obtain rfl:=hC.early (hC.Gn (by decide) fW);exact gU.val (c:=af I v0) (by clear aY bj dY;go_simp) (hC.other (by decide) (by decide) (by decide) (by decide)) rfl
      |5,ho=>
       obtain rfl:=b_ ho
       refine j8.free rfl ?_;intro done a W hC fW dY aY bj;have x9:a.tmps[9]?.getD undef=ak (U (ar ng 0 J)) 4 nc:=dz (bj 9 (nB (by kernel_rfl)));exact gU.val (c:=ak (U (ar ng 0 J)) 4 nc) (by clear aY bj dY;go_simp) (hC.other (by decide) (by decide) (by decide) (by decide)) rfl
      |6,ho=>
       obtain rfl:=b_ ho
       refine j8.free rfl ?_;intro done a W hC fW dY aY bj;have aht:a.tmps[219]?.getD undef=ak (U (ar ng 0 J)) 4 nc:=dz (aY _ 219 (bU (i:=0) rfl) rfl rfl);exact gU.val (c:=ax (U (ar ng 1 J))) (by clear aY bj dY;go_simp) (hC.other (by decide) (by decide) (by decide) (by decide)) rfl
      |7,ho=>
       obtain rfl:=b_ ho
       refine j8.free rfl ?_;intro done a W hC fW dY aY bj;have ahu:a.tmps[220]?.getD undef=ax (U (ar ng 1 J)):=dz (aY _ 220 (bU (i:=0) rfl) rfl rfl);obtain rfl:=hC.early (hC.Gn (by decide) fW);exact gU.val (c:=af I v1) (by clear aY bj dY;go_simp) (hC.other (by decide) (by decide) (by decide) (by decide)) rfl
      |8,ho=>
       obtain rfl:=b_ ho
       refine j8.free rfl ?_;intro done a W hC fW dY aY bj;have x9:a.tmps[9]?.getD undef=ak (U (ar ng 0 J)) 4 nc:=dz (bj 9 (nB (by kernel_rfl)));exact gU.val (c:=ak (U (ar ng 0 J)) 4 nc) (by clear aY bj dY;go_simp) (hC.other (by decide) (by decide) (by decide) (by decide)) rfl
      |9,ho=>
       obtain rfl:=b_ ho
       refine j8.free rfl ?_;intro done a W hC fW dY aY bj;have ahv:a.tmps[222]?.getD undef=ak (U (ar ng 0 J)) 4 nc:=dz (aY _ 222 (bU (i:=0) rfl) rfl rfl);exact gU.val (c:=ax (U (ar ng 2 J))) (by clear aY bj dY;go_simp) (hC.other (by decide) (by decide) (by decide) (by decide)) rfl
      |10,ho=>
       obtain rfl:=b_ ho
       refine j8.free rfl ?_;intro done a W hC fW dY aY bj;have ahw:a.tmps[223]?.getD undef=ax (U (ar ng 2 J)):=dz (aY _ 223 (bU (i:=0) rfl) rfl rfl);obtain rfl:=hC.early (hC.Gn (by decide) fW);exact gU.val (c:=af I v2) (by clear aY bj dY;go_simp) (hC.other (by decide) (by decide) (by decide) (by decide)) rfl
      |11,ho=>
       obtain rfl:=b_ ho
       refine j8.free rfl ?_;intro done a W hC fW dY aY bj;have x9:a.tmps[9]?.getD undef=ak (U (ar ng 0 J)) 4 nc:=dz (bj 9 (nB (by kernel_rfl)));exact gU.val (c:=ak (U (ar ng 0 J)) 4 nc) (by clear aY bj dY;go_simp) (hC.other (by decide) (by decide) (by decide) (by decide)) rfl
      |12,ho=>
       obtain rfl:=b_ ho
       refine j8.free rfl ?_;intro done a W hC fW dY aY bj;have ahx:a.tmps[225]?.getD undef=ak (U (ar ng 0 J)) 4 nc:=dz (aY _ 225 (bU (i:=0) rfl) rfl rfl);exact gU.val (c:=ax (U (ar ng 3 J))) (by clear aY bj dY;go_simp) (hC.other (by decide) (by decide) (by decide) (by decide)) rfl
      |13,ho=>
       obtain rfl:=b_ ho
       refine j8.free rfl ?_;intro done a W hC fW dY aY bj;have ahy:a.tmps[226]?.getD undef=ax (U (ar ng 3 J)):=dz (aY _ 226 (bU (i:=0) rfl) rfl rfl);obtain rfl:=hC.early (hC.Gn (by decide) fW);exact gU.val (c:=af I v3) (by clear aY bj dY;go_simp) (hC.other (by decide) (by decide) (by decide) (by decide)) rfl
      |14,ho=>
       obtain rfl:=b_ ho
       refine j8.free rfl ?_;intro done a W hC fW dY aY bj;have ahz:a.tmps[218]?.getD undef=af I v0:=dz (aY _ 218 (bU (i:=0) rfl) rfl rfl);have ahA:a.tmps[221]?.getD undef=af I v1:=dz (aY _ 221 (bU (i:=1) rfl) rfl rfl);have ahB:a.tmps[224]?.getD undef=af I v2:=dz (aY _ 224 (bU (i:=2) rfl) rfl rfl);have ahC:a.tmps[227]?.getD undef=af I v3:=dz (aY _ 227 (bU (i:=3) rfl) rfl rfl);exact gU.val (c:=a_ #[af I v0,af I v1,af I v2,af I v3]) (by clear aY bj dY;go_simp) (hC.ae2 ⟨dY _ (bU (i:=0) rfl) rfl,dY _ (bU (i:=1) rfl) rfl,dY _ (bU (i:=2) rfl) rfl,dY _ (bU (i:=3) rfl) rfl⟩) rfl
      |15,ho=>
       obtain rfl:=b_ ho
       refine j8.free rfl ?_;intro done a W hC fW dY aY bj;have ahD:a.tmps[228]?.getD undef=a_ #[af I v0,af I v1,af I v2,af I v3]:=dz (aY _ 228 (bU (i:=0) rfl) rfl rfl);have HC:ag _:=hC.ae4 fW (dY _ (bU (i:=0) rfl) rfl);have R8:=hC.R6 fW;have La:=hC.K7 R8;obtain rfl:=hC.early fW;exact gU.made (c:=ak (U (ar V.heap.size 0 J)) 1 1) (w':=V.drew.alloc (ay #[af I v0,af I v1,af I v2,af I v3] 85)) (by clear aY bj dY;go_simp) HC (λj v hj h=>K9 (λe2=>by rw[e2,R8]at hj;cases hj) (λe2=>by rw[e2,La]at hj;cases hj) h) rfl
      |16,ho=>
       obtain rfl:=b_ ho
       refine j8.free rfl ?_;intro done a W hC fW dY aY bj;have R9:done 15=true:=dY _ (bU (i:=1) rfl) rfl;have p1:done 1=true:=dY _ (bU (i:=0) rfl) rfl;have La:=hC.K7 fW;have ae8:a.eval (.tmp 215)=(ak ga e.aP.length gc):=aY _ 215 (bU (i:=0) rfl) rfl rfl;have ae9:a.eval (.tmp 229)=ak (U (ar V.heap.size 0 J)) 1 1:=aY _ 229 (bU (i:=1) rfl) rfl rfl;have HC:=λW' hc=>hC.ae5 (W':=W') fW ⟨R9,p1⟩ hc
       obtain rfl:=hC.grown R9 fW;obtain⟨g',cap',w8,ae_,R_,Sb⟩:=aeZ L 56 (hown.alloc (ay #[af I v0,af I v1,af I v2,af I v3] 85)) ⟨v0,v1,v2,v3⟩ ⟨V.heap.size,0,J⟩ 1 (AH V.drew [af I v0,af I v1,af I v2,af I v3] 85) kh (by simp;omega);have r8:=Gp g' cap' w8 (K_ g' cap' w8 Sb R_)
       refine gU.made (c:=ak (U (ar g' 0 J)) (e.aP.length+1) cap') (w':=w8) (aeY (s:=.tmp 215) (x:=.tmp 229) rfl rfl ae8 ae9 ae_) (HC w8 (by simp[aL,r8.1.1])) (λj v hj h=>K9 (λe2=>by rw[e2,fW]at hj;cases hj) (λe2=>by rw[e2,La]at hj;cases hj) h) ⟨g',cap',rfl,λ_=>K_ g' cap' w8 Sb R_⟩
      |17,ho=>
       obtain rfl:=b_ ho
       refine j8.free rfl ?_;intro done a W hC fW dY aY bj;have cu:a.tmps[14]?.getD undef=ax (U (ar eb 0 J)):=dz (bj 14 (nB (by kernel_rfl)));exact gU.val (c:=ax (U (ar eb 6 J))) (by clear aY bj dY;go_simp) (hC.other (by decide) (by decide) (by decide) (by decide)) rfl
      |18,ho=>
       obtain rfl:=b_ ho
       refine j8.free rfl ?_;intro done a W hC fW dY aY bj;have ahE:a.tmps[231]?.getD undef=ax (U (ar eb 6 J)):=dz (aY _ 231 (bU (i:=0) rfl) rfl rfl);obtain⟨g',cap',hv,zC⟩:=aY _ 230 (bU (i:=1) rfl) rfl rfl;have ahF:=dz hv;have Sc:done 16=true:=dY _ (bU (i:=1) rfl) rfl;have d8:=hC.late Sc fW;have r8:=Gp g' cap' W (zC d8);have d9:W.frozen? (ar eb 6 J)=false:=by simp[bE,r8.1.1]
       have Sg:=zC d8;have wU:(W.setCell (ar eb 6 J) (ak (U (ar g' 0 J)) (e.aP.length+1) cap')).cell? ⟨eb,6,J⟩=U (ak (U (ar g' 0 J)) (e.aP.length+1) cap'):=by simp[aL,vM r8.1.1]
       have HC:ag _:=hC.ae6 (W':=W.setCell (ar eb 6 J) (ak (U (ar g' 0 J)) (e.aP.length+1) cap')) Sc
       refine gU.UG (w':=W.setCell (ar eb 6 J) (ak (U (ar g' 0 J)) (e.aP.length+1) cap')) (by clear aY bj dY hC hv zC r8 Sg wU;go_simp) HC ?_ ⟨g',cap',W,Sg,rfl⟩;intro j v hj h
       by_cases Si:j=16
       ·subst Si;obtain⟨g2,Ea,h1,-⟩:=h;exact⟨g2,Ea,h1,λe2=>by rw[wU]at e2;simp at e2⟩
       exact K9 Si (λe2=>by rw[e2,fW]at hj;cases hj) h
      |n+19,ho=>simp at ho
     intro vals W hC hS;obtain⟨g',cap',w8,zC,rfl⟩:=hS 18 (by decide);have HX:ag (X g' cap' w8):=zC;clear hS hC;simp only[fill,er];go_simp
     clear HX;have r8:=Gp _ _ _ zC;have H8:ag (_/\_):=r8.1;have vQ:ag (bB w0.heap.size rb L g cap w8 c ⟨#[103,97,112]⟩ es (x.row e).toList { e with aP:=e.aP++[⟨v0,v1,v2,v3⟩] } ({ x with g:=ak (U (ar g' 0 J)) (e.aP.length+1) cap' }) cells):=r8.2.1;have vR:ag (L<=w8.heap.size):=r8.2.2;clear r8 zC K_ Gp q2 vP R7 hown;go_upto_region 78 with fail
     obtain⟨Y,hY,jY,sH,jH,sI⟩:=vQ.o.part H8.o pA.o HS.o.1.size vR.o 6 (ak (U (ar g' 0 J)) (e.aP.length+1) cap');rw[<- hY];have nj:ag (({ x with g:=ak (U (ar g' 0 J)) (e.aP.length+1) cap' }:bJ).row { e with aP:=e.aP++[⟨v0,v1,v2,v3⟩] }=#[aB e.name,af I e.aW,ak pa e.au.length pc,af I e.cnt,af I e.mn,af I e.mx,ak (U (ar g' 0 J)) (e.aP.length+1) cap',ak ea e.aN.length ec,ak fa e.first.length fc,ak la e.last.length lc]):=by show _=_;rw[eF.2];rfl
     clear hY mf kh y0 y1 y2 y3 y4 u0 u1 u2 u3;have e4:=jY.o.r4 fJ.o;obtain⟨q0,q1,q2,q3,q4,q5,q6,q7,q8,q9⟩:=Bb sH nj.o rfl;obtain⟨⟨p0,f0⟩,⟨p1,f1⟩,⟨p2,f2⟩,⟨p3,f3⟩,⟨p4,f4⟩,⟨p5,f5⟩,⟨p6,f6⟩,⟨p7,f7⟩,⟨p8,f8⟩,⟨p9,f9⟩⟩:=jY.o.ten eF.o.1 fJ.o;go_wp2_with fail
     go_region
     all_goals
      obtain⟨Z,hZ,iO,dW,sJ⟩:=jY.o.back nj.o fJ.o jH.o sI.o;rw[<- hZ];clear hZ e4 q0 p0 f0 q1 p1 f1 q2 p2 f2 q3 p3 f3 q4 p4 f4 q5 p5 f5 q6 p6 f6 q7 p7 f7 q8 p8 f8 q9 p9 f9;go_wp2;go_ret
      refine⟨by rw[fO.o];rfl,dW.drew,λ_=>bk ⟨L,g,cap,es,{ e with aP:=e.aP++[⟨v0,v1,v2,v3⟩] },({ x with g:=ak (U (ar g' 0 J)) (e.aP.length+1) cap' }),cells,?_,sJ,?_⟩⟩
      ·rw[m_.o,show (aI (aT e.au) false (form 6) [bl s0,bl s1,bl s2,bl s3]).2=_ from lJ.o];exact(by simp only[eV];rw[py.o,rq];rfl)
      exact nY.cfg (bB.below iO (aC _ _).drew) (λ_ _=>rfl)
  have HE:ag (bq last c 6 ws=1):=HK.o.trans (sB _ _ _ (by rw[<- HM.2,qb];exact hN));have mN:¬(m:Int)=4+1:=by have:=HM.1;omega
  clear hN;go_wp2;go_ret;exact di HE.o rfl (bI _ (aC _ _))
end Go.Proofs.YtjjodkjbmgnbeaaGreatDoor
