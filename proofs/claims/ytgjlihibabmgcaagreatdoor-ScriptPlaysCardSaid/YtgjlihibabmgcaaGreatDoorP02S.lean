/-
  Several texts as one: RingKeep, RingOps, RingApp, RingAppGo, RingPure, RingInv, RingMore, OrdA, Orders2, Orders, Ops, DogSt, DogOps, RefDog, AlSt, LcPure, CfCopy, CfOwn, Rw, Mks, LcCount, GaSt, GaOps, GaNew, GeRef, DcHas, EqPair, FlStep.
-/
import Derived.Test.YtgjlihibabmgcaaGreatDoorP01S
import Derived.Orders
import Derived.Deep.Upon
import Derived.Laws.Rows
import Derived.Laws.StructEq
set_option linter.all false
set_option maxHeartbeats 40000000
set_option maxRecDepth 100000
abbrev bj.{u}:=@Array.mem_of_getElem?.{u}
abbrev aS:=@Go.Proofs.YtgjlihibabmgcaaGreatDoor.Below.one
abbrev bD:=@decide_eq_true
abbrev g_.{u}:=@List.mem_singleton.{u}
abbrev mf:=@Go.Value.slice.injEq
abbrev kY:=@Go.Obj.cells.injEq
abbrev mK:=@Go.results_cell_row
abbrev mL.{u}:=@List.take_length.{u}
abbrev r7.{u}:=@List.getElem?_of_mem.{u}
abbrev qg:=@Go.IntKind.wrap_i64
abbrev qX:=@Go.step_append_lies
abbrev qh:=@Nat.add_assoc
abbrev za.{u}:=@Array.getElem?_eq_getElem.{u}
abbrev Bb.{u}:=@Array.getElem?_eq_some_iff.{u}
abbrev tQ:=@Go.Addr.mk.injEq
abbrev xp.{u}:=@List.length_nil.{u}
abbrev zb:=@Bool.and_false
open Go renaming Addr→aC,Value→aw,World→ak
open Go.Addr renaming mk→ai
open Go.Ending renaming returned→ax
open Go.IntKind renaming i64→af
open Go.Obj renaming cells→ay
open Go.RowKit renaming Hid→U
open Go.Value renaming agg→bK,bool→aL,int→ae,ownBlock→dF,pointer→aq,slice→aj,string→aA,tuple→bn
open Go.World renaming cell?→aH,frozen?→bM,setCell→bN
open Option renaming none→I,some→J
open Go.Proofs.Tryz
namespace Go.Proofs.YtgjlihibabmgcaaGreatDoor
open Go.Extern Go.Extern.Stop Go.RowKit Go.Stop
variable{B b bc cap g i j k n p q rb:Nat}{L done:List Rec}{S:Nat->Prop}{T T':TypeId}{W w w':ak}{args:Array aw}{c ev fv gv lv pv v:aw}{cyc t:Int}{e:aM}{f:FuncId}{l ms:List b_}{m:b_}{ops:Array Oper}{r:Result Next}{s:aI}{sa:Option aC}{sp:Bool}{vals:Nat->Option aw}{x:WG}{xs:List aw}
def mg(L:List Rec)(x:Rec):List Rec:=(if L.length=8 then L.tail else L)++[x]
def J1{a s:aw}(h:w.heap[rb]?=J (ay #[a,v,s] 273 (0,0))):w.cell? ⟨rb,1,.none⟩=J v:=by simp[aH,h]
def J2{a s:aw}(h:w.heap[rb]?=J (ay #[a,v,s] 273 (0,0)))(i:Nat):w.frozen? ⟨rb,i,.none⟩=false:=by simp[bM,h]
def Qm{a s:aw}(h:w.heap[rb]?=J (ay #[a,v,s] 273 (0,0)))(v':aw):(w.setCell ⟨rb,1,.none⟩ v').heap[rb]?=J (ay #[a,v',s] 273 (0,0)):=by
 simp[bN,cL,h]
def iV.grown(h:iV w g cap L)(hg:w.grownBy w' (J b))(hne:g≠b):iV w' g cap L:=by
 obtain⟨cur,h1,h2,h3⟩:=h.row;exact⟨⟨cur,(hg.block g h.lt (by simpa using hne)).trans h1,h2,h3⟩⟩
def Qn{W1 w8:ak}{g cap:Nat}{x:Rec}{c:Nat}(h:eK W B rb bc (aj sa L.length c) L sp)(nE:bc<W.heap.size)
  (B2:Below W.heap.size W W1) (s2:W1.heap.size=W.heap.size+1) (eV:w8.ownsRow B 97 4 (aj (J ⟨g,0,.none⟩) (L.length+1) cap) (L.length+1) (cF L++x.list)) (cQ:W1.grownBy w8 (Value.slice sa L.length c).ownBlock) (cH:(Value.slice sa L.length c).ownBlock=J g\/g=W.heap.size+1)
  (r8:w8.heap[rb]?=J (ay #[aq (J ⟨bc,0,.none⟩),aj sa L.length c,aL sp] 273 (0,0))):eK (w8.setCell ⟨rb,1,.none⟩ (aj (J ⟨g,0,.none⟩) (L.length+1) cap)) B rb bc (aj (J ⟨g,0,.none⟩) (L.length+1) cap) (L++[x]) sp/\aG (λk=>k=rb\/(Value.slice sa L.length c).ownBlock=J k) W (w8.setCell ⟨rb,1,.none⟩ (aj (J ⟨g,0,.none⟩) (L.length+1) cap))/\∀k,(Value.slice (J ⟨g,0,.none⟩) (L.length+1) cap).ownBlock=J k->(Value.slice sa L.length c).ownBlock=J k\/W.heap.size<=k:=by
 have hlt:=h.lt;have hg1:g≠rb:=by
  rcases cH with e|e
  ·intro e2;rw[e2]at e;exact h.sep.1 e
  omega
 have hg2:g≠bc:=by
  rcases cH with e|e
  ·intro e2;rw[e2]at e;exact h.sep.2 e
  omega
 have fW:eC w8 B (aj (J ⟨g,0,.none⟩) (L++[x]).length cap) (L++[x]):=by
  show w8.ownsRow _ _ _ _ _ _
  rw[JO,cY];exact eV
 have pD:w8.grownBy (w8.setCell ⟨rb,1,_⟩ (aj (J ⟨g,0,.none⟩) (L.length+1) cap)) _:=dz (fG _ _) _ _
 refine⟨⟨Qm r8 _,?_,⟨by simpa[dF]using hg1,by simpa[dF]using hg2⟩,h.lo⟩,?_,λk e=>by
  have e2:g=k:=by simpa[dF]using e
  subst e2
  rcases cH with e|e
  ·exact aT e
  right;omega⟩
 ·rcases fW.qd with⟨e,-⟩|⟨g',cap',e,hb',hrow,hlc,hm⟩
  ·cases e
  have e1:=e;simp only[mf,dJ,tQ]at e1;obtain⟨⟨rfl,-⟩,-,rfl⟩:=e1;have:=eC.yT (base:=B) (hrow.grown pD hg1) hb' hlc hm;rw[cY]at this;exact this
 have o1:aG (λk=>k=rb\/(Value.slice sa L.length c).ownBlock=J k) W W1:=aG.dm B2 _;have o2:aG _ W1 w8:=⟨cQ.os,cQ.tape,cQ.output,cQ.size,λk hk hn=>cQ.block k hk (λe=>hn e.symm)⟩;exact(o1.trans o2 (λ_ _ hs=>aN hs)).trans (aG.cG pD) (λ_ _ hs=>aT hs)
def ZK{W1 w8:ak}{g cap:Nat}{x:Rec}{c:Nat}(h:eK w B rb bc (aj sa L.length c) L sp)(nE:bc<w.heap.size)(B1:Below w.heap.size w W)(hsz:W.heap.size=w.heap.size+1)
  (B2:Below W.heap.size W W1) (s2:W1.heap.size=W.heap.size+1) (eV:w8.ownsRow B 97 4 (aj (J ⟨g,0,.none⟩) (L.length+1) cap) (L.length+1) (cF L++x.list)) (cQ:W1.grownBy w8 (Value.slice sa L.length c).ownBlock) (cH:(Value.slice sa L.length c).ownBlock=J g\/g=W.heap.size+1)
  (r8:w8.heap[rb]?=J (ay #[aq (J ⟨bc,0,.none⟩),aj sa L.length c,aL sp] 273 (0,0))):eK (w8.setCell ⟨rb,1,.none⟩ (aj (J ⟨g,0,.none⟩) (L.length+1) cap)) B rb bc (aj (J ⟨g,0,.none⟩) (L.length+1) cap) (L++[x]) sp/\aG (λk=>k=rb\/(Value.slice sa L.length c).ownBlock=J k) w (w8.setCell ⟨rb,1,.none⟩ (aj (J ⟨g,0,.none⟩) (L.length+1) cap))/\∀k,(Value.slice (J ⟨g,0,.none⟩) (L.length+1) cap).ownBlock=J k->(Value.slice sa L.length c).ownBlock=J k\/w.heap.size<=k:=by
 obtain⟨a,b,d⟩:=Qn (h.below B1) (by omega) B2 s2 eV cQ cH r8;exact⟨a,(aG.dm B1 _).trans b (λ_ _ hs=>hs),λk e=>(d k e).imp id (λx=>by omega)⟩
def ZL(B rb bc:Nat)(v:aw)(L:List Rec)(sp:Bool)(x:Rec)(w:ak)(h:eK w B rb bc v L sp)(nE:bc<w.heap.size)(hl:L.length<8):Calls prog 291 #[aq (J ⟨rb,0,.none⟩),x.val] w λe w'=>e=ax (bn #[])/\∃v',eK w' B rb bc v' (L++[x]) sp/\aG (λk=>k=rb\/v.ownBlock=J k) w w'/\∀k,v'.ownBlock=J k->v.ownBlock=J k\/w.heap.size<=k:=by
 obtain⟨i0,hi,hz0,hz1,hz2⟩:=yU;obtain⟨sa,c,rfl⟩:=h.recs.len;have hne:¬L.length=8:=by omega
 have anG:¬(L.length:Int)=8:=by omega
 have B1:=(aF _ w).alloc (aR _) (ay #[ae af (x.seq:Int),ae af (x.cf:Int),ae af (x.kind:Int),ae af (x.tick:Int)] 97);have R1:=h.below B1;have hlt:=h.lt;have dt:=h.lo;have X1:=l_.new w x 97;obtain⟨W,hW⟩:∃W,w.alloc (ay #[ae af (x.seq:Int),ae af (x.cf:Int),ae af (x.kind:Int),ae af (x.tick:Int)] 97)=W:=⟨_,rfl⟩;have hsz:W.heap.size=w.heap.size+1:=by rw[<- hW];simp
 rw[hW]at B1 R1 X1;change U _ at hW
 obtain⟨x0,x1,x2,x3⟩:=X1;have c1:=R1.c1;have f1:=R1.frozen 1;have hown:W.ownsRow B 97 4 _ _ _:=R1.recs;unfold Rec.val;go_enter func291,ntmps291
 go_upto_region 1 with fail
 rw[hW.o];go_wp2_with fail
 have KB:U (∀(o:Obj) (w8:ak),(W.drew.alloc o).grownBy w8 _->w8.heap[rb]?=J _):=λo w8 hg=>
  ((hg.block rb (by simp;omega) (λe=>h.sep.1 e.symm)).trans (((aF W.heap.size _).alloc (aR _) o).block rb (by omega))).trans R1.heap
 have J3:W.drew.ownsRow B 97 4 _ _ _:=hown;go_region_law (refine qX _ rfl _ _ 92 rfl B 97 i0 _ 4 32 underlying92 hi hz0 hz1 hz2 rfl (ar rfl) _ _ _ (by simp[Act.eval]) (J3.alloc _) _ 1 1 _ (by simp[Act.eval]) rfl (F_ _ x 97) (Ba x) (ar rfl) (by unfold maxLen;omega) (by omega) (by simp;omega) (W.heap.size+1) (by simp) ?_;intro g cap w8 eV cQ cH nA;have r8:=KB _ _ cQ;have d1:=J1 r8;have d2:=J2 r8 1)
 all_goals
  go_wp2;go_end0
  exact⟨rfl,_,ZK h nE B1 hsz (((aF _ _).alloc (aR _) _).drew) (by simp) eV cQ cH r8⟩
def eK.swap{w'':ak}{v':aw}{M:List Rec}(h:eK w B rb bc v L sp)(hv:v.ownBlock=J g)(hv':v'=aj (J ⟨g,0,.none⟩) M.length cap)(hg:w.grownBy w' (J g))(hrow:iV w' g cap M)(hl:M.length<=cap)(hm:cap<=maxLen)(hw:w''=w'.setCell ⟨rb,1,.none⟩ v'):eK w'' B rb bc v' M sp/\aG (λk=>k=rb\/v.ownBlock=J k) w w'':=by
 have hgb:g≠rb:=λe=>h.sep.1 (by rw[hv,e])
 have ZM:g≠bc:=λe=>h.sep.2 (by rw[hv,e])
 have r1:=(hg.block rb h.lt (by simpa using λe:rb=g=>hgb e.symm)).trans h.heap;have pD:w'.grownBy (w'.setCell ⟨rb,1,_⟩ v') _:=dz (fG _ _) _ _;subst hw
 refine⟨⟨Qm r1 _,?_,?_,h.lo⟩,?_⟩
 ·subst hv';exact eC.yT (hrow.grown pD hgb) (h.recs.lt g hv).1 hl hm
 ·subst hv';exact⟨by simpa[dF]using hgb,by simpa[dF]using ZM⟩
 exact((aG.cG hg).mono (λk _ e=>aN (by rw[hv,e]))).trans (aG.cG pD) (λ_ _ e=>aT e)
def ZN(B rb bc:Nat)(v:aw)(y:Rec)(M:List Rec)(sp:Bool)(x:Rec)(w:ak)(h:eK w B rb bc v (y::M) sp)(nE:bc<w.heap.size)(hl:M.length=7):Calls prog 291 #[aq (J ⟨rb,0,.none⟩),x.val] w λe w'=>e=ax (bn #[])/\∃v',eK w' B rb bc v' (M++[x]) sp/\aG (λk=>k=rb\/v.ownBlock=J k) w w'/\∀k,v'.ownBlock=J k->v.ownBlock=J k\/w.heap.size<=k:=by
 obtain⟨i0,hi,hz0,hz1,hz2⟩:=yU;have B1:=(aF _ w).alloc (aR _) (ay #[ae af (x.seq:Int),ae af (x.cf:Int),ae af (x.kind:Int),ae af (x.tick:Int)] 97);have R1:=h.below B1;have hlt:=h.lt;have dt:=h.lo;have X1:=l_.new w x 97;obtain⟨W,hW⟩:∃W,w.alloc (ay #[ae af (x.seq:Int),ae af (x.cf:Int),ae af (x.kind:Int),ae af (x.tick:Int)] 97)=W:=⟨_,rfl⟩;have hsz:W.heap.size=w.heap.size+1:=by rw[<- hW];simp
 rw[hW]at B1 R1 X1;change U _ at hW
 rcases R1.recs.qd with⟨-,e0⟩|⟨g,cap,hv,hbg,hrow,hlc,hm⟩
 ·cases e0
 rw[lY,hl]at hv hlc;have anH:=h.recs.lt g (by rw[hv];rfl);have DR:=ZJ g cap y M W hrow hl hlc hm;have hv2:v.ownBlock=J g:=by rw[hv];rfl
 have c1:=R1.c1;have f1:=R1.frozen 1;rw[hv]at c1;change U _ at DR
 unfold Rec.val;go_enter func291,ntmps291
 go_upto_region 1 with fail
 rw[hW.o];go_wp2_with fail
 refine aO DR.o ?_;rintro e w2 ⟨rfl,hrow2,hg2⟩;have r2:=(hg2.block rb R1.lt (λe=>R1.sep.1 (by rw[hv2,e]))).trans R1.heap;have d1:=J1 r2;have d2:=J2 r2 1;go_upto_region 3 with fail
 obtain⟨W2,hW2⟩:∃W2,w2.setCell ⟨rb,1,.none⟩ (aj (J ⟨g,0,.none⟩) 7 cap)=W2:=⟨_,rfl⟩;obtain⟨R2,O2⟩:=R1.swap (w'':=W2) (M:=M) (cap:=cap) (v':=aj _ _ cap) hv2 rfl hg2 hrow2 (by omega) hm (by rw[hl];exact hW2.symm);have hs2:=O2.size;have nx:¬(w.heap.size=rb\/v.ownBlock=J w.heap.size):=by
  rintro(e|e)
  ·omega
  rw[hv2]at e;have:=fg e;omega
 have X2:l_ W2 w.heap.size x:=by
  have e:=O2.block _ (by omega) nx;exact⟨(mH e).trans X1.c0,(mH e).trans X1.c1,(mH e).trans X1.c2,(mH e).trans X1.c3⟩
 rw[hW2];have O3:=(aG.dm B1 _).trans O2 (λ_ _ hs=>hs);rw[hl]at R2;obtain⟨x0,x1,x2,x3⟩:=X2;have c1:=R2.c1;have f1:=R2.frozen 1;have KB:U (∀(o:Obj) (w8:ak),(W2.drew.alloc o).grownBy w8 _->w8.heap[rb]?=J _):=λo w8 hg=>
  ((hg.block rb (by simp;omega) (λe=>R2.sep.1 e.symm)).trans (((aF W2.heap.size _).alloc (aR _) o).block rb (by omega))).trans R2.heap
 have J3:W2.drew.ownsRow B 97 4 (aj (J ⟨g,0,.none⟩) 7 cap) 7 (cF M):=by
  have:=R2.recs;unfold eC at this;rw[hl]at this;exact this
 have Zh:rb<W2.heap.size:=by omega
 have anI:¬rb=W2.heap.size:=by omega
 have KE:U (∀(W1 w8:ak) (g' cap':Nat),Below W2.heap.size W2 W1->W1.heap.size=W2.heap.size+1->w8.ownsRow B 97 4 (aj (J ⟨g',0,.none⟩) (7+1) cap') (7+1) (cF M++x.list)->W1.grownBy w8 (Value.slice (J ⟨g,0,.none⟩) 7 cap).ownBlock->((Value.slice (J ⟨g,0,.none⟩) 7 cap).ownBlock=J g'\/g'=W2.heap.size+1)->w8.heap[rb]?=J (ay #[aq (J ⟨bc,0,.none⟩),aj (J ⟨g,0,.none⟩) 7 cap,aL sp] 273 (0,0)) ->
   ∃v',v'=Value.slice (J ⟨g',0,.none⟩) (7+1) cap'/\eK (w8.setCell ⟨rb,1,.none⟩ v') B rb bc v' (M++[x]) sp/\aG (λk=>k=rb\/v.ownBlock=J k) w (w8.setCell ⟨rb,1,.none⟩ v')/\∀k,v'.ownBlock=J k->v.ownBlock=J k\/w.heap.size<=k):=by
  intro W1 w8 g' cap' b2 s2 ho hg cH r8;have ZO:eK W2 B rb bc (aj (J ⟨g,0,.none⟩) M.length cap) M sp:=by rw[hl];exact R2
  have:=Qn (W:=W2) (W1:=W1) (w8:=w8) (g:=g') (cap:=cap') (x:=x) ZO (by omega) b2 s2 (by rw[hl];exact ho) (by rw[hl];exact hg) (by rw[hl];exact cH) (by rw[hl];exact r8);rw[hl]at this
  refine⟨_,rfl,this.1,O3.trans this.2.1 (λk _ hs=>?_),λk e=>(this.2.2 k e).imp (λe=>by rw[hv2];exact e) (λx=>by omega)⟩
  rcases hs with e|e
  ·exact aT e
  right;rw[hv2];exact e
 go_region_law (refine qX _ rfl _ _ 92 rfl B 97 i0 _ 4 32 underlying92 hi hz0 hz1 hz2 rfl (ar rfl) _ 7 _ (by simp[Act.eval]) (J3.alloc _) _ 1 1 _ (by simp[Act.eval]) rfl (F_ W2.drew x 97) (Ba x) (ar rfl) (by unfold maxLen;omega) (by omega) (by simp;omega) (W2.heap.size+1) (by simp) ?_;intro g' cap' w8 eV cQ cH nA;have r8:=KB _ _ cQ;have d1:=J1 r8;have d2:=J2 r8 1)
 all_goals
  go_wp2;go_end0
  obtain⟨v',rfl,K1,K2,K3⟩:=KE _ _ _ _ (((aF _ _).alloc (aR _) _).drew) (by simp) eV cQ cH r8;exact⟨rfl,_,K1,K2,K3⟩
def ZQ(A:Nat->aC)(bc:Nat)(s:aI)(j:Nat)(w:ak)(h:bU w bc s)(hs:gZ A w)(he:s.err 0 153=j+1):Calls prog 184 #[aq (J ⟨bc,0,.none⟩)] w λe w'=>e=ax (bn #[aq .none,errVal A (j+1)])/\Below w.heap.size w w':=by
 have B1:=(aF _ w).alloc (aR _) (ay #[aq (J ⟨bc,0,.none⟩)] 267);have HH:U _:=Y' A bc s j _ (h.below B1) (hs.below B1) he;go_enter func184,ntmps184
 go_wp2_with fail
 refine aO HH.o ?_;rintro e w1 ⟨rfl,hb1⟩;have B2:=B1.trans (hb1.mono (by simp));unfold errVal;have s1:=hb1.size;simp only[tK]at s1;go_wp2_with (refine iQ rfl 268 _ _ rfl _ _ rfl rfl 268 _ (cj w1 _) (yS _ (by simp)) rfl (xk _) ?_)
 go_ret2
 exact⟨rfl,below_setRow (B2.alloc (by omega) _) (by omega) _⟩
def tR(n m:Int):Bool:=decide (0<=n/\n<=m)
def Bc(n m:Int)(w:ak):Calls prog 289 #[ae af n,ae af m] w λe w'=>e=ax (aL (tR n m))/\w'=w:=by
 by_cases h0:0<=n
 ·by_cases h1:n<=m
  ·have HD:U (tR n m=true):=bD ⟨h0,h1⟩;go_enter func289,ntmps289
   go_wp2;go_ret;rw[HD.o];exact⟨rfl,rfl⟩
  have HD:U (tR n m=false):=bV (λh=>h1 h.2);go_enter func289,ntmps289
  go_wp2;go_ret;rw[HD.o];exact⟨rfl,rfl⟩
 have HD:U (tR n m=false):=bV (λh=>h0 h.1);go_enter func289,ntmps289
 go_wp2;go_ret;rw[HD.o];exact⟨rfl,rfl⟩
def ZR(B rb bc:Nat)(v:aw)(L:List Rec)(sp:Bool)(w:ak)(h:eK w B rb bc v L sp)(hl:L.length<=100):Calls prog 193 #[aq (J ⟨rb,0,.none⟩)] w λe w'=>∃v',e=ax v'/\eC w' w.heap.size v' L/\Below w.heap.size w w':=by
 have c1:=h.c1;go_enter func193,ntmps193
 go_wp2_with fail
 apply(Y_ B v L _ h.recs hl).mono;rintro e w1 ⟨v1,rfl,hr,hb⟩;go_wp2;go_ret;exact⟨_,rfl,hr,hb⟩
def eu.drew{r:Rec}(h:eu w b r):eu w.drew b r:=⟨h.heap⟩
def cU(L:List Rec):Rec:=L.getLast?.getD .none
def J4(B rb bc:Nat)(v:aw)(L:List Rec)(sp:Bool)(w:ak)(h:eK w B rb bc v L sp)(hl:L.length<=100):Calls prog 192 #[aq (J ⟨rb,0,.none⟩)] w λe w'=>e=ax (bn #[(cU L).val,aL (decide (0<L.length))])/\Below w.heap.size w w':=by
 have B1:=(aF _ w).alloc (aR _) (ay #[ae af ((Rec.none.seq:Nat):Int),ae af ((Rec.none.cf:Nat):Int),ae af ((Rec.none.kind:Nat):Int),ae af ((Rec.none.tick:Nat):Int)] 97);have R1:=h.below B1;have Z1:=eu.new w .none;have hlt:=h.lt;obtain⟨W,hW⟩:∃W,w.alloc (ay #[ae af ((Rec.none.seq:Nat):Int),ae af ((Rec.none.cf:Nat):Int),ae af ((Rec.none.kind:Nat):Int),ae af ((Rec.none.tick:Nat):Int)] 97)=W:=⟨_,rfl⟩;rw[hW]at B1 R1 Z1;have HW:U (w.alloc (ay #[ae af 0,ae af 0,ae af 0,ae af 0] 97)=W):=hW;have c1:=R1.c1;obtain⟨z0,z1,z2,z3⟩:=Z1.at;have f0:=Z1.frozen 0;have f1:=Z1.frozen 1;have f2:=Z1.frozen 2;have f3:=Z1.frozen 3;have zl:=Z1.lt
 rcases R1.recs.qd with⟨rfl,rfl⟩|⟨g,cap,rfl,hbg,hrow,hlc,hm⟩
 ·go_enter func192,ntmps192
  go_upto_region 1 with fail
  rw[HW.o];go_wp2_with fail
  refine dL (nB rfl _ _ _ .none rfl (Z1.iT .none).at) rfl ?_;exact⟨rfl,pC B1 (ma ..) (by omega) (aR _)⟩
 by_cases h0:L.length=0
 ·have hnil:=List.length_eq_zero_iff.1 h0;subst hnil;go_enter func192,ntmps192
  go_upto_region 1 with fail
  rw[HW.o];go_wp2_with fail
  refine dL (nB rfl _ _ _ .none rfl (Z1.iT .none).at) rfl ?_;exact⟨rfl,pC B1 (ma ..) (by omega) (aR _)⟩
 obtain⟨n,hn⟩:∃n,L.length=n+1:=⟨L.length-1,by omega⟩;obtain⟨⟨a0,a1,a2,a3⟩,-⟩:=hrow.cells n (by omega);have hx:L[n]'(by omega)=cU L:=by
  unfold cU;rw[List.getLast?_eq_getElem?,show L.length-1=n by omega,bq (by omega)];rfl
 rw[hx]at a0 a1 a2 a3;have HD:U (decide (0<L.length)=true):=bD (by omega);rw[hn]at c1;have J5:g≠w.heap.size:=by
  have:=h.recs.lt g rfl;omega
 have Bd:¬((n:Int)+1=0):=by omega
 generalize cU L=x at *;go_enter func192,ntmps192
 go_upto_region 1 with fail
 rw[HW.o];go_wp2_with fail
 go_region
 go_wp2_with fail
 refine dL (nB rfl _ _ _ x rfl (Z1.iT x).drew.at) rfl ?_;rw[HD.o];exact⟨rfl,(pC B1 (ma ..) (by omega) (aR _)).drew⟩
def ZT(B rb bc:Nat)(v:aw)(L:List Rec)(sp:Bool)(x:Rec)(w:ak)(h:eK w B rb bc v L sp)(nE:bc<w.heap.size)(hl:L.length<=8):Calls prog 291 #[aq (J ⟨rb,0,.none⟩),x.val] w λe w'=>e=ax (bn #[])/\∃v',eK w' B rb bc v' (mg L x) sp/\aG (λk=>k=rb\/v.ownBlock=J k) w w'/\∀k,v'.ownBlock=J k->v.ownBlock=J k\/w.heap.size<=k:=by
 unfold mg
 by_cases h8:L.length=8
 ·rw[aU h8]
  cases L with
  |nil=>cases h8
  |cons y M=>exact ZN B rb bc v y M sp x w h nE (by simpa using h8)
 rw[aK h8];exact ZL B rb bc v L sp x w h nE (by omega)
def Gg(w:ak):∃W,w.alloc (ay #[ae af 0,ae af 0,ae af 0,ae af 0] 97)=W/\eu W w.heap.size .none/\Below w.heap.size w W/\W.heap.size=w.heap.size+1:=
 ⟨_,rfl,eu.new w .none,(aF _ _).alloc (aR _) _,by simp⟩
def ZU(A:Nat->aC)(B rb bc:Nat)(v:aw)(L:List Rec)(n1 n2 n3:Int)(w:ak)(h:eK w B rb bc v L false)(hs:gZ A w)(hl:L.length<=8)(nW:tR n1 255=true)(hf2:tR n2 255=true)(hf3:tR n3 281474976710655=true)(hq:(cU L).seq=4294967295):Calls prog 263 #[aq (J ⟨rb,0,.none⟩),ae af n1,ae af n2,ae af n3] w λe w'=>e=ax (bn #[Rec.none.val,errVal A 7])/\Below w.heap.size w w':=by
 obtain⟨W,hW,Z1,B1,s1⟩:=Gg w;have R1:=h.below B1;have S1:=hs.below B1;change U _ at hW
 have c2:=R1.c2;have n7:¬w.heap.size=13:=by have:=jf hs.c6;simp at this;omega
 have anJ:¬13=w.heap.size:=by omega
 go_enter func263,ntmps263
 go_upto_region 1 with fail
 rw[hW.o];go_wp2_with fail
 apply(Bc n1 255 W).mono;rintro e w1 ⟨rfl,rfl⟩;rw[nW];go_wp2_with fail
 apply(Bc n2 255 w1).mono;rintro e w2 ⟨rfl,rfl⟩;rw[hf2];go_wp2_with fail
 apply(Bc n3 281474976710655 w2).mono;rintro e w3 ⟨rfl,rfl⟩;rw[hf3];go_wp2_with fail
 apply(J4 B rb bc v L _ w3 R1 (by omega)).mono;rintro e w4 ⟨rfl,hb4⟩;have hq':((cU L).seq:Int)=4294967295:=by omega
 unfold Rec.val;rw[hq'];have B4:=B1.trans (hb4.mono (by omega));have Z4:=Z1.below hb4 Z1.lt;have S4:=S1.below hb4;have s4:=hb4.size;have z4:=Z4.lt;go_upto_region 6 with fail
 obtain⟨W5,r9⟩:∃W5,w4.alloc (ay #[ae af 4294967295,ae af ((cU L).cf:Int),ae af ((cU L).kind:Int),ae af ((cU L).tick:Int)] 97)=W5:=⟨_,rfl⟩;have B5:Below w4.heap.size w4 W5:=by rw[<- r9];exact(aF _ _).alloc (aR _) _
 have c5:W5.cell? ⟨w4.heap.size,0,.none⟩=J (ae af 4294967295):=by rw[<- r9];exact dr _ _ _ _ rfl
 rw[r9];have Z5:=Z4.below B5 z4;have g6:=(S4.below B5).c6;obtain⟨z0,z1,z2,z3⟩:=Z5.at;have f0:=Z5.frozen 0;have f1:=Z5.frozen 1;have f2:=Z5.frozen 2;have f3:=Z5.frozen 3;have s5:=B5.size;go_wp2_with fail
 go_region
 all_goals
  go_wp2_with fail
  refine dL (nB rfl _ _ _ .none rfl (Z5.iT .none).drew.at) rfl ?_;exact⟨rfl,(pC (B4.trans (B5.mono (by omega))) (ma ..) (by omega) (aR _)).drew⟩
def eK.off(h:eK w B rb bc v L sp)(ho:aG S w w')(h1:¬S rb)(h2:∀g,v.ownBlock=J g->¬S g):eK w' B rb bc v L sp:=by
 refine⟨(ho.block rb h.lt h1).trans h.heap,?_,h.sep,h.lo⟩
 rcases h.recs.qd with⟨rfl,rfl⟩|⟨g,cap,rfl,hbg,hrow,hlc,hm⟩
 ·exact gF ..
 obtain⟨cur,hg,k2,k3⟩:=hrow.row;exact eC.yT ⟨⟨cur,(ho.block g hrow.lt (h2 g rfl)).trans hg,k2,k3⟩⟩ hbg hlc hm
def eK.spent(h:eK w B rb bc v L sp):eK (w.setCell ⟨rb,2,.none⟩ (aL true)) B rb bc v L true:=by
 have pD:w.grownBy (w.setCell ⟨rb,2,_⟩ (aL true)) _:=dz (fG _ _) _ _
 refine⟨by simp[bN,cL,h.heap],?_,h.sep,h.lo⟩
 rcases h.recs.qd with⟨rfl,rfl⟩|⟨g,cap,rfl,hbg,hrow,hlc,hm⟩
 ·exact gF ..
 exact eC.yT (hrow.grown pD (λe=>h.sep.1 (by rw[<- e];rfl))) hbg hlc hm
def eu.off{r:Rec}(h:eu w b r)(ho:aG S w w')(h1:¬S b):eu w' b r:=⟨(ho.block b h.lt h1).trans h.heap⟩
def bU.off(h:bU w b s)(ho:aG S w w')(h1:¬S b):bU w' b s:=⟨(ho.block b h.lt h1).trans h.heap,h.len,h.size⟩
def eL(L:List Rec)(e k t:Nat):Rec:=⟨(cU L).seq+1,e,k,t⟩
def ZV(A:Nat->aC)(B rb bc:Nat)(v:aw)(L:List Rec)(s:aI)(n1 n2 n3:Nat)(w:ak)(h:eK w B rb bc v L false)(hc:bU w bc s)(hs:gZ A w)(qQ:14<=bc)(lH:rb≠bc)(J6:s.Low 18)(hl:L.length<=8)(nW:n1<=255)(hf2:n2<=255)(hf3:n3<=281474976710655)(hq:(cU L).seq<4294967295):Calls prog 263 #[aq (J ⟨rb,0,.none⟩),ae af (n1:Int),ae af (n2:Int),ae af (n3:Int)] w λe w'=>
   (∃j,(s.dR (eL L n1 n2 n3)).2=j+1/\e=ax (bn #[Rec.none.val,errVal A (j+1)])/\eK w' B rb bc v L true/\bU w' bc (s.dR (eL L n1 n2 n3)).1/\aG (λk=>k=bc\/k=rb\/v.ownBlock=J k) w w') \/
   ((s.dR (eL L n1 n2 n3)).2=0/\e=ax (bn #[(eL L n1 n2 n3).val,.nilIface])/\(∃v',eK w' B rb bc v' (mg L (eL L n1 n2 n3)) false/\∀k,v'.ownBlock=J k->v.ownBlock=J k\/w.heap.size<=k)/\bU w' bc (s.dR (eL L n1 n2 n3)).1/\aG (λk=>k=bc\/k=rb\/v.ownBlock=J k) w w'):=by
 have q1:tR (n1:Int) 255=true:=bD (by omega);have q2:tR (n2:Int) 255=true:=bD (by omega);have q3:tR (n3:Int) 281474976710655=true:=bD (by omega);obtain⟨W,hW,Z1,B1,s1⟩:=Gg w;have hlt:=h.lt;have anK:=hc.lt;have Gh:U _:=h.recs.lt;have R1:=h.below B1;have S1:=hs.below B1;have C1:=hc.below B1;have HW:U _:=hW;clear hW;have c2:=R1.c2;have Qo:U _:=λw' ha hs'=>Zt A bc s (eL L n1 n2 n3) w' ha hs' qQ J6 (by simp[eL]) (by simp[eL];omega)
 have oN:=Qo.o;have Dp:U ((eL L n1 n2 n3).val=bK #[ae af (((cU L).seq:Int)+1),ae af (n1:Int),ae af (n2:Int),ae af (n3:Int)]):=by
  show _=_
  simp[eL,Rec.val]
 rw[Dp.o]at oN;have Qp:U _:=oN;clear oN Qo;generalize Dq:eL L n1 n2 n3=x at *;have hx0:(x.seq:Int)=((cU L).seq:Int)+1:=by rw[<- Dq];simp[eL]
 have hx1:x.cf=n1:=by rw[<- Dq];rfl
 have hx2:x.kind=n2:=by rw[<- Dq];rfl
 have hx3:x.tick=n3:=by rw[<- Dq];rfl
 clear Dq;subst hx1 hx2 hx3;have gN:U _:=hx0;clear hx0;go_enter func263,ntmps263
 go_upto_region 1 with fail
 rw[HW.o];go_wp2_with fail
 apply(Bc _ 255 W).mono;rintro e w1 ⟨rfl,rfl⟩;rw[q1];go_wp2_with fail
 apply(Bc _ 255 w1).mono;rintro e w2 ⟨rfl,rfl⟩;rw[q2];go_wp2_with fail
 apply(Bc _ 281474976710655 w2).mono;rintro e w3 ⟨rfl,rfl⟩;rw[q3];go_wp2_with fail
 apply(J4 B rb bc v L _ w3 R1 (by omega)).mono;rintro e w4 ⟨rfl,hb4⟩;have hq':(((cU L).seq:Int)==4294967295)=false:=by rw[gX];omega
 have HQ:U _:=hq;have anL:IntKind.i64.wrap (((cU L).seq:Int)+1)=((cU L).seq:Int)+1:=by rw[qg];omega
 clear hq J6;unfold Rec.val;have B4:=B1.trans (hb4.mono (by omega));have Z4:=Z1.below hb4 Z1.lt;have S4:=S1.below hb4;have C4:=C1.below hb4;have R4:=R1.below hb4;have s4:=hb4.size;clear c2 hb4 B1 Z1 S1 C1 R1;generalize cU L=y at *;go_upto_region 6 with fail
 obtain⟨W5,r9⟩:∃W5,w4.alloc (ay #[ae af (y.seq:Int),ae af (y.cf:Int),ae af (y.kind:Int),ae af (y.tick:Int)] 97)=W5:=⟨_,rfl⟩;have B5:Below w4.heap.size w4 W5:=by rw[<- r9];exact(aF _ _).alloc (aR _) _
 have c5:W5.cell? ⟨w4.heap.size,0,.none⟩=J (ae af (y.seq:Int)):=by rw[<- r9];exact dr _ _ _ _ rfl
 rw[r9];clear r9;have s5:=B5.size;go_upto_region 9 with fail
 obtain⟨W6,xq⟩:∃W6,W5.alloc (ay #[ae af ((y.seq:Int)+1),ae af (x.cf:Int),ae af (x.kind:Int),ae af (x.tick:Int)] 97)=W6:=⟨_,rfl⟩;have B6:Below W5.heap.size W5 W6:=by rw[<- xq];exact(aF _ _).alloc (aR _) _
 have X6:eu W6 W5.heap.size x:=by
  refine⟨?_⟩;rw[<- xq,gN.o];exact cj _ _
 rw[xq];have s6:W6.heap.size=W5.heap.size+1:=by rw[<- xq];simp
 clear xq;have Dr:=B5.trans (B6.mono s5);have ZW:=B4.trans (Dr.mono (by omega));have R6:=R4.below Dr;have C6:=C4.below Dr;have S6:=S4.below Dr;have Z6:=Z4.below Dr Z4.lt;have z4:=Z4.lt;clear R4 C4 S4 Z4 c5;obtain⟨e0,e1,e2,e3⟩:=X6.at;rw[gN.o]at e0;have r0:=R6.c0;have Qq:bU W6.drew bc s:=⟨C6.heap,C6.len,C6.size⟩;have Qr:gZ A W6.drew:=⟨S6.c1,S6.c2,S6.c6,S6.c7⟩;have Ds:W5.heap.size≠bc:=by omega
 go_region_held3 (λw'=>w'.cell? ⟨rb,0,.none⟩=J (aq (J ⟨bc,0,.none⟩))/\w'.cell? ⟨W5.heap.size,0,.none⟩=J (ae af ((y.seq:Int)+1))/\w'.cell? ⟨W5.heap.size,1,.none⟩=J (ae af (x.cf:Int))/\w'.cell? ⟨W5.heap.size,2,.none⟩=J (ae af (x.kind:Int))/\w'.cell? ⟨W5.heap.size,3,.none⟩=J (ae af (x.tick:Int))) (first|exact⟨r0,e0,e1,e2,e3⟩|exact⟨k0,k1,k2,k3,k4⟩) (first|(go_at_call 290;refine aO (Qp.o _ Qq Qr) ?_;rintro e w7 ⟨rfl,C7,G7⟩;have k0:=xn G7 (show W6.drew.cell? _=_ from r0) lH;have k1:=xn G7 (show W6.drew.cell? _=_ from e0) Ds;have k2:=xn G7 (show W6.drew.cell? _=_ from e1) Ds;have k3:=xn G7 (show W6.drew.cell? _=_ from e2) Ds;have k4:=xn G7 (show W6.drew.cell? _=_ from e3) Ds))
 have O7:=(aG.dm ((aF _ _).drew) _).trans (aG.cG G7) (λ_ _ hs=>hs);have R7:=R6.off O7 lH (λg e1 e2=>R6.sep.2 (by rw[e1,e2]));have Z7:=Z6.off O7 (by omega);have X7:=X6.off O7 Ds;have Qs:=(aG.dm ZW (λk=>k=bc\/k=rb\/v.ownBlock=J k)).trans O7 (λ_ _ hs=>aT hs);have Gi:¬w.heap.size=rb:=by omega
 have Gj:¬rb=w.heap.size:=by omega
 have s7:=O7.size;clear k0 k1 k2 k3 k4 e0 e1 e2 e3 r0 R6 Z6 X6 C6 Qq Qr G7 Qp;generalize Qt:s.dR x=p at *;have kh:U _:=Qt;clear Qt
 cases hp:p.2 with
 |succ j=>
  have c2:=R7.c2;have f2:=R7.frozen 2;have G8:w7.grownBy (w7.setCell ⟨rb,2,.none⟩ (aL true)) (J rb):=dz (fG _ _) _ _;have R8:=R7.spent;have Z8:=Z7.off (aG.cG G8) Gi;have C8:=C7.off (aG.cG G8) (λe=>lH e.symm);have z0:=Z8.at.c0;have z1:=Z8.at.c1;have z2:=Z8.at.c2;have z3:=Z8.at.c3;have g0:=Z8.frozen 0;have g1:=Z8.frozen 1;have g2:=Z8.frozen 2;have g3:=Z8.frozen 3;unfold errVal;go_upto_region 12 with fail
  obtain⟨W8,ze⟩:∃W8,w7.setCell ⟨rb,2,.none⟩ (aL true)=W8:=⟨_,rfl⟩;rw[ze]at R8 Z8 C8 z0 z1 z2 z3 g0 g1 g2 g3 G8;rw[ze];clear ze c2 f2;go_wp2_with fail
  have G9:=ma W8 w.heap.size (ae af 0) (ae af 0) (ae af 0) (ae af 0)
  refine dL (nB rfl _ _ w.heap.size .none rfl (Z8.iT .none).at) rfl ?_;rw[kh.o]
  refine aT ⟨j,hp,rfl,R8.off (aG.cG G9) Gj (λg e1 e2=>by have:=(Gh g e1).2;omega),C8.off (aG.cG G9) (by omega),?_⟩;exact(Qs.trans (aG.cG G8) (λk _ hs=>aN (aT hs))).trans (aG.cG G9) (λk hk hs=>by omega)
 |zero=>
  have KP:=ZT B rb bc v L _ x w7 R7 (by omega) hl;rw[Dp.o]at KP;have xr:U _:=KP;clear KP;have e0:=X7.at.c0;rw[gN.o]at e0;have e1:=X7.at.c1;have e2:=X7.at.c2;have e3:=X7.at.c3;unfold errVal;go_wp2_with fail
  refine aO xr.o ?_;rintro e w8 ⟨rfl,v',R8,O8,K8⟩;have nz:¬(w.heap.size=rb\/v.ownBlock=J w.heap.size):=by
   rintro(e|e)
   ·exact Gi e
   have:=(Gh _ e).2;omega
  have nx:¬(W5.heap.size=rb\/v.ownBlock=J W5.heap.size):=by
   rintro(e|e)
   ·omega
   have:=(Gh _ e).2;omega
  have nc:¬(bc=rb\/v.ownBlock=J bc):=by
   rintro(e|e)
   ·exact lH e.symm
   exact R7.sep.2 e
  have Z8:=Z7.off O8 nz;have X8:=X7.off O8 nx;have C8:=C7.off O8 nc;clear e0 e1 e2 e3 xr;have e0:=X8.at.c0;rw[gN.o]at e0;have e1:=X8.at.c1;have e2:=X8.at.c2;have e3:=X8.at.c3;have z0:=Z8.at.c0;have z1:=Z8.at.c1;have z2:=Z8.at.c2;have z3:=Z8.at.c3;have g0:=Z8.frozen 0;have g1:=Z8.frozen 1;have g2:=Z8.frozen 2;have g3:=Z8.frozen 3;go_wp2_with fail
  have Z9:=Z8.iT x;rw[gN.o]at Z9;have G9:=ma w8 w.heap.size (ae af ((y.seq:Int)+1)) (ae af (x.cf:Int)) (ae af (x.kind:Int)) (ae af (x.tick:Int))
  refine dL (nB rfl _ _ _ x rfl Z9.at) rfl ?_;have nv:∀g,v'.ownBlock=J g->¬g=w.heap.size:=λg e e2=>by
   rcases K8 g e with e3|e3
   ·have:=(Gh g e3).2;omega
   omega
  rw[kh.o]
  refine aN ⟨hp,Dp.o▸rfl,⟨v',R8.off (aG.cG G9) Gj nv,λk e=>(K8 k e).imp id (λh=>by omega)⟩,C8.off (aG.cG G9) (by omega),?_⟩;exact(Qs.trans O8 (λk _ hs=>aN hs)).trans (aG.cG G9) (λk hk hs=>by omega)
def sl(s:aI)(i:Nat):List UInt8:=(s.bytes.drop (i*17)).take 17
structure kZ(s:aI):Prop where
 len:s.bytes.length=4096
 size:153<=s.size
 top:s.size<=4096
def J7(h:kZ s)(i:Nat)(hi:i<9):(sl s i).length=17:=by
 unfold sl;rw[eQ,yK,h.len];omega
def ZX(i:Nat)(hi:i<9):fB (s.bytes.take 153) i=sl s i:=by
 unfold fB sl;rw[List.drop_take,List.take_take];congr 1
 omega
def ZY(l:List UInt8):∀(s:aI) (p:Nat),(s.ck p l).bytes.length=s.bytes.length:=by
 induction l with
 |nil=>intro s p;rfl
 |cons y r ih=>intro s p;simp only[aI.ck,ih];simp[aI.put]
def kZ.ck(h:kZ s)(p:Nat)(l:List UInt8):kZ (s.ck p l):=⟨by rw[ZY];exact h.len,by rw[aI.Dc];exact h.size,by rw[aI.Dc];exact h.top⟩
def Be(i k:Nat)(hk:k<17):(sl s i)[k]?=s.bytes[i*17+k]?:=by
 unfold sl;rw[np,aU hk,List.getElem?_drop]
def Qu(s:aI)(p:Nat)(l:List UInt8)(hf:p+l.length<=s.bytes.length)(k:Nat):(s.ck p l).bytes[k]?=if p<=k/\k<p+l.length then l[k-p]? else s.bytes[k]?:=by
 rw[aI.PG l s p hf];have hp:(s.bytes.take p).length=p:=by rw[eQ];omega
 by_cases h1:k<p
 ·rw[aK (by omega),gh,ly (by omega),np,aU h1]
 by_cases h2:k<p+l.length
 ·rw[aU ⟨by omega,h2⟩,ly (by rw[cY,hp];omega),jX (by omega),hp]
 rw[aK (by omega),jX (by rw[cY,hp];omega),List.getElem?_drop];congr 1
 rw[cY,hp];omega
def ZZ(h:kZ s)(q i p:Nat)(l:List UInt8)(hq:q<9)(hi:i<9)(hne:i≠q)(h1:q*17<=p)(h2:p+l.length<=q*17+17):sl (s.ck p l) i=sl s i:=by
 apply List.ext_getElem?
 intro k
 by_cases hk:k<17
 ·rw[Be _ _ hk,Be _ _ hk,Qu _ _ _ (by rw[h.len];omega),aK (by omega)]
 rw[jb (by rw[J7 (h.ck p l) i hi];omega),jb (by rw[J7 h i hi];omega)]
def Gk(h:kZ s)(q p k:Nat)(l:List UInt8)(hq:q<9)(Z3:q*17<=p)(h2:p+l.length<=q*17+17)(hk:k<17):(sl (s.ck p l) q)[k]?=if p<=q*17+k/\q*17+k<p+l.length then l[q*17+k-p]? else (sl s q)[k]?:=by
 rw[Be _ _ hk,Be _ _ hk,Qu _ _ _ (by rw[h.len];omega)]
structure ld(s s':aI)(q:Nat):Prop where
 big:kZ s'
 size:s'.size=s.size
 same:∀i,i<9->i≠q->sl s' i=sl s i
def ld.refl(h:kZ s)(q:Nat):ld s s q:=⟨h,rfl,λ_ _ _=>rfl⟩
def ld.trans{a b c:aI}(h:ld a b q)(k:ld b c q):ld a c q:=⟨k.big,k.size.trans h.size,λi hi hn=>(k.same i hi hn).trans (h.same i hi hn)⟩
def ld.off{s':aI}(h:ld s s' q)(x:Bool):ld s { s' with off:=x } q:=⟨⟨h.big.len,h.big.size,h.big.top⟩,h.size,h.same⟩
def ld.ck(h:kZ s)(q p:Nat)(l:List UInt8)(hq:q<9)(h1:q*17<=p)(h2:p+l.length<=q*17+17):ld s (s.ck p l) q:=
 ⟨h.ck p l,aI.Dc _ _ _,λi hi hn=>ZZ h q i p l hq hi hn h1 h2⟩
def J8(h:kZ s)(ho:s.off=false)(q p:Nat)(l:List UInt8)(hq:q<9)(Z3:q*17<=p)(h2:p+l.length<=q*17+17):(∃m,m<l.length/\s.eD p l=({ s.ck p (l.take m)with off:=true },8))\/s.eD p l=(s.ck p l,0):=by
 have hz:=h.size;have he:s.err p l.length=0:=by
  unfold aI.err;rw[aK (by omega),ho];rfl
 unfold aI.eD;rw[aU he];unfold aI.write
 by_cases hc:s.cut=true/\s.left<l.length
 ·rw[aU hc];exact aT ⟨_,hc.2,rfl⟩
 rw[aK hc];exact aN rfl
def J9(h:kZ s)(ho:s.off=false)(r:Rec):((s.dR r).2=0/\ld s (s.dR r).1 ((r.seq-1)%9)/\(s.dR r).1.off=false/\sl (s.dR r).1 ((r.seq-1)%9)=enc r) \/
  ((s.dR r).2=8/\ld s (s.dR r).1 ((r.seq-1)%9)/\(sl (s.dR r).1 ((r.seq-1)%9)=sl s ((r.seq-1)%9)\/(sl (s.dR r).1 ((r.seq-1)%9))[16]?=J 0)):=by
 have hq:(r.seq-1)%9<9:=Nat.mod_lt _ (ar rfl);unfold aI.dR;generalize (r.seq-1)%9=q at *;simp only[];have hz:(s.zeroAt (q*17+16)=({ s.ck (q*17+16) []with off:=true },8))\/(∃a,s.zeroAt (q*17+16)=(a,0)/\ld s a q/\a.off=false/\(sl a q)[16]?=J 0):=by
  have he:s.err ((q*17+16:Nat):Int) 1=0:=by
   unfold aI.err;have:=h.size;rw[aK (by omega),ho];rfl
  unfold aI.zeroAt;rw[aU he]
  by_cases hb:s.bytes.getD (q*17+16) 0=0
  ·rw[aU hb]
   refine aN ⟨s,rfl,ld.refl h q,ho,?_⟩;rw[Be _ _ (ar rfl)];rw[fp,bq (by rw[h.len];omega)]at hb;rw[bq (by rw[h.len];omega)];exact nh _ hb
  rw[aK hb]
  rcases J8 h ho q (q*17+16) [0] hq (by omega) (by simp)with⟨m,hm,e⟩|e
  ·have:m=0:=by simpa using hm
   subst this;exact aT e
  refine aN ⟨_,e,ld.ck h q _ _ hq (by omega) (by simp),by rw[aI.F2];exact ho,?_⟩;rw[Gk h q _ 16 [0] hq (by omega) (by simp) (ar rfl),aU (by simp)];simp
 rcases hz with e|⟨a,e,oa,ao,al⟩
 ·rw[e];right
  refine⟨rfl,(ld.ck h q _ [] hq (by omega) (by simp)).off _,aT rfl⟩
 rw[e];rw[aU rfl];have Z_:=rZ r
 rcases J8 oa.big ao q _ (gH r) hq (aR _) (by omega)with⟨m,hm,e2⟩|e2
 ·rw[e2];right
  have hl:((gH r).take m).length=m:=by rw[eQ];omega
  refine⟨rfl,(oa.trans (ld.ck oa.big q _ _ hq (aR _) (by omega))).off _,aN ?_⟩;show (sl (a.ck _ _) q)[16]?=_
  rw[Gk oa.big q _ 16 _ hq (aR _) (by omega) (ar rfl),aK (by omega)];exact al
 rw[e2];have ob:=ld.ck oa.big q _ (gH r) hq (aR _) (by omega);have bo:(a.ck (q*17) (gH r)).off=false:=by rw[aI.F2];exact ao
 have bl:∀k,k<17->(sl (a.ck (q*17) (gH r)) q)[k]?=if k<16 then (gH r)[k]? else J 0:=by
  intro k hk;rw[Gk oa.big q _ k _ hq (aR _) (by omega) hk]
  by_cases qi:k<16
  ·rw[aU (by omega),aU qi];congr 1
   omega
  have:k=16:=by omega
  subst this;rw[aK (by omega),aK (by omega)];exact al
 rw[aU rfl]
 rcases J8 ob.big bo q (q*17+16) [165] hq (by omega) (by simp)with⟨m,hm,e3⟩|e3
 ·have:m=0:=by simpa using hm
  subst this;rw[e3];right
  refine⟨rfl,((oa.trans ob).trans (ld.ck ob.big q _ [] hq (by omega) (by simp))).off _,aN ?_⟩;show (sl (a.ck (q*17) (gH r)) q)[16]?=_
  rw[bl 16 (ar rfl)];rfl
 rw[e3];left
 refine⟨rfl,(oa.trans ob).trans (ld.ck ob.big q _ _ hq (by omega) (by simp)),by rw[aI.F2];exact bo,?_⟩;apply List.ext_getElem?
 intro k
 by_cases hk:k<17
 ·rw[Gk ob.big q _ k _ hq (by omega) (by simp) hk,bl k hk];unfold enc
  by_cases qi:k<16
  ·rw[aK (by simp;omega),aU qi,ly (by omega)]
  have:k=16:=by omega
  subst this;rw[aU (by simp),jX (by omega),Z_];simp
 rw[jb (by rw[J7 (ob.big.ck _ _) q hq];omega),jb (by rw[PT];omega)]
def Z'(r:Rec):(enc r)[16]?=J 165:=by
 unfold enc;rw[jX (by rw[rZ];omega),rZ];rfl
def aac{l:List UInt8}(h:l[16]?=J 0):kX l=false:=by
 cases hd:kX l with
 |false=>rfl
 |true=>
  have e:=(A9 hd).2.2.2;rw[<- e,Z']at h
  cases h
def sr(s:aI)(i:Nat):Rec:=jy (s.bytes.take 153) i
def aad(hi:i<9):sr s i=if kX (sl s i)=true/\((fQ (sl s i)).seq-1)%9=i then fQ (sl s i)else .none:=by
 unfold sr jy;rw[ZX i hi]
def Qv(hi:i<9)(h:(sl s i)[16]?=J 0):sr s i=.none:=by
 rw[aad hi,aac h,aK (by simp)]
def aae(s:aI)(i:Nat)(hi:i<9):(ft (s.bytes.take 153) 9).getD i .none=sr s i:=by
 rw[fp,bq (by rw[tO];exact hi)];simp[ft,hi,sr]
def aaf{r:Rec}(h:r∈ft (s.bytes.take 153) 9):∃i,i<9/\r=sr s i:=by
 simp only[ft,nS,pq]at h;obtain⟨i,hi,rfl⟩:=h;exact⟨i,hi,by rw[aU hi];rfl⟩
def aag(s:aI)(i:Nat)(hi:i<9):sr s i∈ft (s.bytes.take 153) 9:=by
 simp only[ft,nS,pq];exact⟨i,hi,by rw[aU hi];rfl⟩
def aah(L:List Rec):∀m,m<=L.foldl (λm r=>max m r.seq) m:=by
 induction L with
 |nil=>intro m;exact aR _
 |cons r t ih=>intro m;exact bp (Nat.le_max_left _ _) (ih _)
def aai(L:List Rec)(n:Nat):∀m,m<=n->(∀r∈L,r.seq<=n)->L.foldl (λm r=>max m r.seq) m<=n:=by
 induction L with
 |nil=>intro m h _;exact h
 |cons r t ih=>intro m h h2;exact ih _ (Nat.max_le.2 ⟨h,h2 r (by simp)⟩) (λx hx=>h2 x (by simp[hx]))
def aaj(L:List Rec):∀m r,r∈L->r.seq<=L.foldl (λm r=>max m r.seq) m:=by
 induction L with
 |nil=>intro m r h;cases h
 |cons x t ih=>
  intro m r h
  rcases fe.1 h with rfl|h
  ·exact bp (Nat.le_max_right m _) (aah t _)
  exact ih _ r h
def aak(h1:∀r∈L,r.seq<=n)(h2:n=0\/∃r∈L,r.seq=n):mJ L=n:=by
 have a:=aai L n 0 (bA _) h1;have b:n<=mJ L:=by
  rcases h2 with rfl|⟨r,hr,rfl⟩
  ·exact bA _
  exact aaj L 0 r hr
 exact Nat.le_antisymm a b
structure Inv(s:aI)(done:List Rec):Prop where
 big:kZ s
 seq:∀i (h:i<done.length),done[i].seq=i+1
 i1:∀j (h:j<done.length),done.length<=j+8->sr s (j%9)=done[j]
 i2:sr s (done.length%9)=.none\/(9<=done.length/\sr s (done.length%9)=done.getD (done.length-9) .none)
 i3:∀i,done.length<i->i<9->sr s i=.none
def Inv.le(h:Inv s done)(i:Nat)(hi:i<9):(sr s i).seq<=done.length:=by
 by_cases h0:done.length<i
 ·rw[h.i3 i h0 hi];exact bA _
 by_cases e:i=done.length%9
 ·rw[e]
  rcases h.i2 with e2|⟨h9,e2⟩
  ·rw[e2];exact bA _
  rw[e2,fp,bq (by omega)];show (done[done.length-9]).seq<=_
  rw[h.seq];omega
 obtain⟨j,hj,pE,aal⟩:∃j,j<done.length/\done.length<=j+8/\j%9=i:=by
  refine⟨done.length-1-(done.length+8-i)%9,?_,?_,?_⟩<;>omega
 have:=h.i1 j hj pE;rw[aal]at this;rw[this,h.seq];omega
def Inv.chain(h:Inv s done):∀(m n:Nat),n<=done.length->done.length+m<=n+8->chain (ft (s.bytes.take 153) 9) m n=((done.take n).drop (n-m)).reverse:=by
 intro m
 induction m with
 |zero=>
  intro n hn hm;rw[Nat.sub_zero,yI (by rw[eQ];omega)];rfl
 |succ m ih=>
  intro n hn hm
  cases n with
  |zero=>rw[yV _ _ _ (λh=>absurd h.1 (by omega))];simp
  |succ n=>
   have hlt:n<done.length:=by omega
   have hg:(ft (s.bytes.take 153) 9).getD (n%9) .none=done[n]:=by
    rw[aae s _ (Nat.mod_lt _ (ar rfl)),h.i1 n hlt (by omega)]
   have hst:=Dm _ m (n+1) (by omega) (by rw[CX,hg,h.seq n hlt]);rw[CX,hg]at hst;rw[hst,ih n (by omega) (by omega),CU hlt,List.drop_append,List.reverse_append];have e1:n+1-(m+1)=n-m:=by omega
   have e2:n-m-(done.take n).length=0:=by rw[eQ];omega
   rw[e1,e2,List.drop_zero];rfl
def Inv.opens(h:Inv s done):iy s.bytes=done.drop (done.length-8):=by
 have hm:mJ (ft (s.bytes.take 153) 9)=done.length:=by
  apply aak
  ·intro r hr;obtain⟨i,hi,rfl⟩:=aaf hr;exact h.le i hi
  cases hd:done.length with
  |zero=>exact aT rfl
  |succ n=>
   right
   refine⟨_,aag s (n%9) (Nat.mod_lt _ (ar rfl)),?_⟩;rw[h.i1 n (by omega) (by omega),h.seq n (by omega)]
 unfold iy tP;rw[hm,h.chain 8 _ (aR _) (by omega),List.reverse_reverse,mL]
def Qw(n i:Nat)(hi:i<9):(sl (aI.new n) i)[16]?=J 0:=by
 rw[Be _ _ (ar rfl)];show (zeros 4096)[_]?=_
 unfold zeros;rw[List.getElem?_replicate,aU (by omega)]
def Inv.new(n:Nat)(h1:153<=n)(h2:n<=4096):Inv (aI.new n) []:=
 ⟨⟨A3 _,h1,h2⟩,λi h=>by simp at h,λj h=>by simp at h,aT (Qv (ar rfl) (Qw n _ (ar rfl))),λi _ hi=>Qv hi (Qw n i hi)⟩
def aam(x:Rec)(h:L.length<=8):(mg L x).length<=8:=by
 unfold mg
 split
 ·rw[cY,List.length_tail,kW];omega
 rw[cY,kW];omega
def aan(L:List Rec)(x:Rec):cU (mg L x)=x:=by
 unfold mg cU;simp
def aao(h:kZ s)(ho:s.off=false)(r:Rec):kZ (s.dR r).1/\((s.dR r).2=0->(s.dR r).1.off=false):=by
 rcases J9 h ho r with⟨-,e,e2,-⟩|⟨e8,e,-⟩
 ·exact⟨e.big,λ_=>e2⟩
 exact⟨e.big,λe0=>by rw[e8]at e0;cases e0⟩
def aap(h:kZ s)(ho:s.off=false)(r:Rec):(s.dR r).2<=11:=by
 rcases J9 h ho r with⟨e,-⟩|⟨e,-⟩<;>omega
def aaq(L:List Rec)(h:∀r∈L,r.seq<4294967296):∀m n,∀r∈chain L m n,r.seq<4294967296:=by
 intro m
 induction m with
 |zero=>intro n r hr;cases hr
 |succ m ih=>
  intro n r hr
  by_cases hc:0<n/\(L.getD ((n-1)%9) .none).seq=n
  ·rw[Dm L m n hc.1 hc.2]at hr
   rcases fe.1 hr with rfl|hr
   ·rw[fp]
    cases hg:L[(n-1)%9]? with
    |none=>exact(by decide:(0:Nat)<4294967296)
    |some x=>exact h x (bP hg)
   exact ih _ r hr
  rw[yV L _ n hc]at hr;cases hr
def aar(l:List UInt8):(cU (iy l)).seq<=4294967295:=by
 unfold cU iy tP
 cases hg:(chain (ft (l.take 153) 9) 8 (mJ (ft (l.take 153) 9))).reverse.getLast? with
 |none=>exact(by decide:(0:Nat)<=4294967295)
 |some x=>
  have hm:=List.mem_of_getLast? hg;rw[List.mem_reverse]at hm;have:=aaq _ (JW _) _ _ x hm;show x.seq<=_
  omega
def aas(l:List UInt8):(iy l).length<=8:=by unfold iy tP;rw[AV];exact Ze _ 8 _
def Qx(l:List UInt8)(n:Nat)(h:153<=n):iy (l.take n)=iy l:=by unfold iy;rw[List.take_take,Nat.min_eq_left h]
def J_{l:List UInt8}(h:(s.eD p l).2=8):(s.eD p l).1.off=true:=by
 unfold aI.eD at h⊢
 split at h
 ·rename_i h0;rw[aU h0];unfold aI.write at h⊢
  split at h
  ·rename_i h1;rw[aU h1]
  cases h
 rename_i h0;rw[aK h0];have h':s.err p _=8:=h;unfold aI.err at h'
 split at h'
 ·cases h'
 split at h'
 ·assumption
 cases h'
def aat(h:(s.zeroAt p).2=8):(s.zeroAt p).1.off=true:=by
 unfold aI.zeroAt at h⊢
 split at h
 ·rename_i h0;rw[aU h0]
  split at h
  ·cases h
  rename_i h1;rw[aK h1];exact J_ h
 rename_i h0;rw[aK h0];have h':s.err p 1=8:=h;unfold aI.err at h'
 split at h'
 ·cases h'
 split at h'
 ·assumption
 cases h'
def aau{r:Rec}(h:(s.dR r).2=8):(s.dR r).1.off=true:=by
 unfold aI.dR at h⊢;simp only[]at h⊢
 split at h
 ·rename_i h0;rw[aU h0]
  split at h
  ·rename_i h1;rw[aU h1];exact J_ h
  rename_i h1;rw[aK h1];exact J_ h
 rename_i h0;rw[aK h0];exact aat h
def aav(h:kZ s)(ho:s.off=false)(r:Rec):(s.dR r).2=0\/(s.dR r).2=8:=by
 rcases J9 h ho r with⟨e,-⟩|⟨e,-⟩
 ·exact aT e
 exact aN e
def Ka(s:aI)(p:Nat)(l:List UInt8):(s.eD p l).1.written<=s.written+l.length:=by
 unfold aI.eD
 split
 ·unfold aI.write
  split
  ·show (s.ck p _).written<=_
   rw[aI.xj,eQ];omega
  show (s.ck p l).written<=_
  rw[aI.xj];omega
 show s.written<=_;omega
def aaw(s:aI)(p:Nat):(s.zeroAt p).1.written<=s.written+1:=by
 unfold aI.zeroAt
 split
 ·split
  ·show s.written<=_;omega
  exact Ka s p [0]
 show s.written<=_;omega
def Qy(s:aI)(r:Rec):(s.dR r).1.written<=s.written+18:=by
 have h1:=aaw s ((r.seq-1)%9*17+16);have h2:=Ka (s.zeroAt ((r.seq-1)%9*17+16)).1 ((r.seq-1)%9*17) (gH r);have h3:=Ka ((s.zeroAt ((r.seq-1)%9*17+16)).1.eD ((r.seq-1)%9*17) (gH r)).1 ((r.seq-1)%9*17+16) [165];rw[rZ]at h2;have h4:([165]:List UInt8).length=1:=rfl;rw[h4]at h3;unfold aI.dR;simp only[]
 split
 ·split
  ·omega
  omega
 omega
def Qz(r:Rec)(h:s.left<=9223372036854775807):(s.dR r).1.left<=9223372036854775807:=by
 have hz:∀(a:aI) (p:Nat) (l:List _),a.left<=9223372036854775807->(a.eD p l).1.left<=9223372036854775807:=λa p l ha=>by
  unfold aI.eD
  split
  ·unfold aI.write
   split
   ·show (a.ck p _).left<=_
    rw[aI.yN]
    split<;>omega
   rw[aI.yN]
   split<;>omega
  exact ha
 have h1:(s.zeroAt ((r.seq-1)%9*17+16)).1.left<=9223372036854775807:=by
  unfold aI.zeroAt
  split
  ·split
   ·exact h
   exact hz s _ _ h
  exact h
 unfold aI.dR;simp only[]
 split
 ·split
  ·exact hz _ _ _ (hz _ _ _ h1)
  exact hz _ _ _ h1
 exact h1
open Go
def dZ(ops:Array Oper)(j:Nat):Option Tmp:=(ops[j]?).bind (·.dst)
def fill(ops:Array Oper)(a0:Act)(vals:Nat->Option aw):Nat->Act
 |0=>a0
 |k+1=>match vals k with
  |none=>fill ops a0 vals k
  |some v=>(fill ops a0 vals k).put (dZ ops k) v
def upd(vals:Nat->Option aw)(i:Nat)(v:aw):Nat->Option aw:=λj=>if j=i then J v else vals j
def Kb(ops:Array Oper):Prop:=∀i j d,i≠j->dZ ops i=J d->dZ ops j≠J d
def QA(ops:Array Oper)(a0:Act)(vals:Nat->Option aw):∀k,(fill ops a0 vals k).tmps.size=a0.tmps.size:=by
 intro k
 induction k with
 |zero=>rfl
 |succ k ih=>
  unfold fill
  split
  ·exact ih
  cases dZ ops k<;>simp[Act.put,ih]
def aax(ops:Array Oper)(a0:Act)(vals:Nat->Option aw)(d:Tmp):∀k,(∀j,j<k->dZ ops j≠J d)->(fill ops a0 vals k).eval (.tmp d)=a0.eval (.tmp d):=by
 intro k
 induction k with
 |zero=>intro _;rfl
 |succ k ih=>
  intro h;unfold fill
  split
  ·exact ih (λj hj=>h j (by omega))
  rw[Act.eval_put (λe he hx=>h k (by omega) (by rw[he];cases hx;rfl))];exact ih (λj hj=>h j (by omega))
def aay(ops:Array Oper)(a0:Act)(vals:Nat->Option aw)(hd:Kb ops)(j:Nat)(d:Tmp)(v:aw)(hj:vals j=J v)(QB:dZ ops j=J d)(hlt:d<a0.tmps.size):∀k,j<k->(fill ops a0 vals k).eval (.tmp d)=v:=by
 intro k
 induction k with
 |zero=>intro h;omega
 |succ k ih=>
  intro h;unfold fill
  by_cases e:j=k
  ·subst e;rw[hj];have hs:=QA ops a0 vals j;simp only[QB,Act.put,Act.eval];simp[hs,hlt]
  have hk:=ih (by omega)
  split
  ·exact hk
  rw[Act.eval_put (λe2 he hx=>hd j k d e QB (by rw[he];cases hx;rfl))];exact hk
def aaz(ops:Array Oper)(a0:Act)(vals:Nat->Option aw)(i:Nat)(v:aw):∀k,k<=i->fill ops a0 (upd vals i v) k=fill ops a0 vals k:=by
 intro k
 induction k with
 |zero=>intro _;rfl
 |succ k ih=>
  intro h;have e:upd vals i v k=vals k:=by simp[upd];omega
  unfold fill;rw[e,ih (by omega)]
def aaA(ops:Array Oper)(a0:Act)(vals:Nat->Option aw)(hd:Kb ops)(i:Nat)(v:aw)(hi:vals i=I):∀k,i<k->fill ops a0 (upd vals i v) k=(fill ops a0 vals k).put (dZ ops i) v:=by
 intro k
 induction k with
 |zero=>intro h;omega
 |succ k ih=>
  intro h
  by_cases e:i=k
  ·subst e;have e1:upd vals i v i=J v:=by simp[upd]
   have e2:=aaz ops a0 vals i v i (aR _);simp only[fill,e1,hi,e2]
  have e1:upd vals i v k=vals k:=by simp[upd,Ne.symm e]
  have hk:=ih (by omega);simp only[fill,e1,hk]
  cases hv:vals k with
  |none=>rfl
  |some u=>exact(Act.put_comm _ v u (λd aaB=>hd i k d e aaB))
def cnt(vals:Nat->Option aw):Nat->Nat
 |0=>0
 |k+1=>cnt vals k+(if (vals k).isNone then 1 else 0)
def aaC(vals:Nat->Option aw)(i:Nat)(v:aw):∀k,k<=i->cnt (upd vals i v) k=cnt vals k:=by
 intro k
 induction k with
 |zero=>intro _;rfl
 |succ k ih=>
  intro h;have e:upd vals i v k=vals k:=by simp[upd];omega
  simp only[cnt,e,ih (by omega)]
def aaD(vals:Nat->Option aw)(i:Nat)(v:aw)(hi:vals i=I):∀k,i<k->cnt (upd vals i v) k+1=cnt vals k:=by
 intro k
 induction k with
 |zero=>intro h;omega
 |succ k ih=>
  intro h
  by_cases e:i=k
  ·subst e;have e1:upd vals i v i=J v:=by simp[upd]
   simp only[cnt,e1,hi,aaC vals i v i (aR _)];simp
  have e1:upd vals i v k=vals k:=by simp[upd,Ne.symm e]
  have:=ih (by omega);simp only[cnt,e1];omega
def aaE(vals:Nat->Option aw):∀k,cnt vals k=0->∀j,j<k->(vals j).isSome=true:=by
 intro k
 induction k with
 |zero=>intro _ j h;omega
 |succ k ih=>
  intro h j hj;simp only[cnt]at h
  by_cases e:j=k
  ·subst e
   cases hv:vals j with
   |none=>simp[hv]at h
   |some v=>rfl
  exact ih (by omega) j (by omega)
def Gl(ops:Array Oper)(n:Nat):Bool:=
 ((List.range ops.size).all λi=>(List.range ops.size).all λj=>i==j||(match dZ ops i,dZ ops j with|some d,J e=>d != e|_,_=>true)) &&
 ((List.range ops.size).all λi=>match dZ ops i with|some d=>decide (d<n)|none=>true) &&
 ((List.range ops.size).all λi=>match ops[i]? with|some o=>o.after.toList.all λe=>!Region.binds .any e||decide (e.on<i)|none=>true)
def Gm{d:Tmp}(h:dZ ops j=J d):j<ops.size:=by
 rcases fF j ops.size with h'|h'
 ·exact h'
 simp[dZ,xe h']at h
def dS{d:Tmp}(h:((List.range ops.size).all λj=>!(dZ ops j==J d))=true):∀j,dZ ops j≠J d:=λj e=>by
 have:=u5.1 h j (pq.2 (Gm e));simp[e]at this
def aW{a:Act}{d:Tmp}(h:a.eval (.tmp d)=c):a.tmps[d]?.getD undef=c:=by
 rw[<- Array.getD_eq_getD_getElem?];exact h
def bY(P:Program)(C:(Nat->Option aw)->ak->Prop)(vals:Nat->Option aw)(i:Nat):Result Next->Prop
 |.ok (.value u) w'=>C (upd vals i u) w'
 |.ok .skip w'=>C (upd vals i undef) w'
 |.ok (.enter f args) w'=>Calls P f args w' λe w''=>∃v,e=ax v/\C (upd vals i v) w''
 |_=>False
section
variable {P:Program}{ops:Array Oper}{Q:Exit->Act->ak->Prop}{md:Region.Mode}{C:(Nat->Option aw)->ak->Prop}{a0:Act}
def xt(P:Program)(md:Region.Mode)(ops:Array Oper)(C:(Nat->Option aw)->ak->Prop)(a0:Act)(i:Nat)(o:Oper):Prop:=
 ∀(vals:Nat->Option aw) (a:Act) (w:ak),C vals w->vals i=I->a.tmps.size=a0.tmps.size->(∀e,e∈o.after->Region.binds md e=true->∃v,vals e.on=J v/\∀d,dZ ops e.on=J d->a.eval (.tmp d)=v) ->
  (∀d,(∀j,dZ ops j≠J d)->a.eval (.tmp d)=a0.eval (.tmp d)) ->
  if Region.wanted o (yielded ops a.tmps)=true then bY P C vals i ((execOp a.eval o).run P w)else C (upd vals i undef) w
def aaF(hd:Kb ops)(aaG:∀j d,dZ ops j=J d->d<a0.tmps.size)
  (hback:∀i o,ops[i]?=J o->∀e,e∈o.after->Region.binds md e=true->e.on<i)
  (step:∀i o,ops[i]?=J o->xt P md ops C a0 i o)
  (fin:∀(vals:Nat->Option aw) (w:ak),C vals w->(∀j,j<ops.size->(vals j).isSome=true)->Q .normal (fill ops a0 vals ops.size) w):∀(fuel:Nat) (listed:Array Bool) (vals:Nat->Option aw) (w:ak),listed.size=ops.size->(∀j,j<ops.size->listed.getD j true=(vals j).isSome)->C vals w ->
   cnt vals ops.size<=fuel->wpAny P md ops Q fuel listed (fill ops a0 vals ops.size) w:=by
 have aaH:∀(listed:Array _) (vals:Nat->Option aw),listed.size=ops.size->(∀j,j<ops.size->listed.getD j true=(vals j).isSome)->Region.ready md ops listed=[]->∀j,j<ops.size->(vals j).isSome=true:=by
  intro listed vals hsz hl hr j
  induction j using Nat.strongRecOn with
  |ind j ih=>
   intro hj
   cases hv:(vals j).isSome with
   |true=>rfl
   |false=>
    exfalso
    have hm:j∈Region.ready md ops listed:=by
     rw[mem_ready]
     refine⟨by rw[hl j hj,hv],_,za hj,λe he hb=>?_⟩;have hlt:=hback j _ (za hj) e he hb;have h1:=ih _ hlt (by omega);have h2:=hl e.on (by omega);rw[h1]at h2;have h3:e.on<listed.size:=by omega
     simp only[Array.getD_eq_getD_getElem?,za h3,Option.getD_some]at h2⊢;exact h2
    rw[hr]at hm
    cases hm
 intro fuel
 induction fuel with
 |zero=>
  intro listed vals w hsz hl hC hc;have hall:=aaE vals ops.size (by omega)
  refine⟨?_,fin _ w hC hall⟩
  cases hr:Region.ready md ops listed with
  |nil=>rfl
  |cons i r=>
   have hm:i∈Region.ready md ops listed:=by rw[hr];exact nQ ..
   rw[mem_ready]at hm;obtain⟨h0,o,ho,-⟩:=hm;have hi:=(Bb.1 ho).1;rw[hl i hi,hall i hi]at h0
   cases h0
 |succ fuel ih=>
  intro listed vals w hsz hl hC hc
  refine⟨λhr=>fin _ w hC (aaH _ _ hsz hl hr),λi hm=>?_⟩;rw[mem_ready]at hm;obtain⟨h0,o,ho,aaI⟩:=hm;have hi:=(Bb.1 ho).1;have hnone:vals i=I:=by
   rw[hl i hi]at h0
   cases hv:vals i with
   |none=>rfl
   |some v=>rw[hv]at h0;cases h0
  have fL:dZ ops i=o.dst:=by simp[dZ,ho]
  have hst:=step i o ho _ _ w hC hnone (QA ..) (λe he hb=>by
    have h1:=aaI e he hb;have hlt:=hback i o ho e he hb;have h2:=hl e.on (by omega);have h3:e.on<listed.size:=by omega
    have h4:(vals e.on).isSome=true:=by
     rw[<- h2];simp only[Array.getD_eq_getD_getElem?,za h3,Option.getD_some]at h1⊢;exact h1
    cases hv:vals e.on with
    |none=>rw[hv]at h4;cases h4
    |some v=>exact⟨v,rfl,λd tS=>aay ops a0 _ hd _ d v hv tS (aaG _ _ tS) _ (by omega)⟩)
   (λd qP=>aax ops a0 vals d ops.size (λj _=>qP j))
  have Gn:∀(v:aw) (w':ak),C (upd vals i v) w'->wpAny P md ops Q fuel (listed.setIfInBounds i true) ((fill ops a0 vals ops.size).put o.dst v) w':=by
   intro v w' aaJ;rw[<- fL,<- aaA ops a0 _ hd i v hnone _ hi]
   refine ih _ _ w' (by simp[hsz]) (λj hj=>?_) aaJ (by have:=aaD _ i v hnone _ hi;omega)
   by_cases e:j=i
   ·subst e;simp[upd]
   rw[getD_set_ne _ (Ne.symm e),hl j hj];simp[upd,e]
  unfold wpOp;simp only[ho]
  split
  ·rename_i hw;rw[aU hw]at hst
   refine .inl ?_;unfold Oper.wp;generalize (execOp (fill ops a0 vals ops.size).eval o).run P w=r at hst
   cases r with
   |ok n w'=>
    cases n<;>simp only[bY]at hst<;>simp only[Oper.upon]
    case value u=>exact Gn _ _ hst
    case skip=>exact Gn _ _ hst
    case enter f args=>exact hst.mono λe w'' ⟨v,he,h1⟩=>by subst he;exact Gn _ _ h1
   |halt x w'=>simp only[bY]at hst
  rename_i hw;rw[aK hw]at hst;exact Gn _ _ hst
def Dt{id:Nat}(n:Nat)(hn:ops.size=n)(C:(Nat->Option aw)->ak->Prop)(hm:P.follows .mixedOrders=true)(hB:Gl ops a0.tmps.size=true)(hC:C (λ_=>I) w.drew)
  (step:∀i o,ops[i]?=J o->xt P .any ops C a0 i o)
  (fin:∀(vals:Nat->Option aw) (w:ak),C vals w->(∀j,j<n->(vals j).isSome=true)->Q .normal (fill ops a0 vals n) w):(Code.region id ops true).wp P Q a0 w:=by
 subst hn;unfold Gl at hB;simp only[uY,u5,pq]at hB;obtain⟨⟨h1,h2⟩,h3⟩:=hB
 refine wp_region_any hm ?_;have hnone:fill ops a0 (λ_=>I) ops.size=a0:=by
  have:∀k,fill ops a0 (λ_=>I) k=a0:=by
   intro k
   induction k with
   |zero=>rfl
   |succ k ih=>simp only[fill,ih]
  exact this _
 have key:=aaF (P:=P) (ops:=ops) (Q:=Q) (md:=.any) (C:=C) (a0:=a0)
  (λi j d hne hi hj=>by
   have h:=h1 i (Gm hi) j (Gm hj);simp[hne,hi,hj]at h)
  (λj d hj=>by
   have h:=h2 j (Gm hj);rw[hj]at h;simpa using h)
  (λi o ho e he hb=>by
   have h:=h3 i (Bb.1 ho).1;rw[ho]at h;have:=u5.1 h e (by simpa using he);simpa[hb]using this)
  step fin ops.size (Array.replicate ops.size false) _ _ (by simp) (λj hj=>by simp[hj]) hC (by
   have:∀k,cnt (λ_=>I) k<=k:=by
    intro k
    induction k with
    |zero=>exact aR _
    |succ k ih=>simp only[cnt];split<;>omega
   exact this _)
 rw[hnone]at key;exact key
def xt.free{i:Nat}{o:Oper}(hg:o.guard=I)
  (hrun:∀(vals:Nat->Option aw) (a:Act) (w:ak),C vals w->vals i=I->(∀e,e∈o.after->Region.binds md e=true->∃v,vals e.on=J v/\∀d,dZ ops e.on=J d->a.eval (.tmp d)=v)->(∀d,(∀j,dZ ops j≠J d)->a.eval (.tmp d)=a0.eval (.tmp d))->bY P C vals i ((execOp a.eval o).run P w)):xt P md ops C a0 i o:=by
 intro vals a w hC hi _ aB aQ;rw[aU (by unfold Region.wanted;rw[hg])];exact hrun _ a w hC hi aB aQ
def bY.val(hr:r=.ok (.value c) w)(hC:C (upd vals i c) w):bY P C vals i r:=by
 subst hr;exact hC
def bY.call{i:Nat}{vals:Nat->Option aw}(hr:r=.ok (.enter f args) w)
  (hc:Calls P f args w λe w''=>∃v,e=ax v/\C (upd vals i v) w''):bY P C vals i r:=by
 subst hr;exact hc
def upd_same(vals:Nat->Option aw)(i:Nat)(v:aw):upd vals i v i=J v:=by simp[upd]
def dU(vals:Nat->Option aw)(v:aw)(h:j≠i):upd vals i v j=vals j:=by simp[upd,h]
def bY.skip{P:Program}{C:(Nat->Option aw)->ak->Prop}(hr:r=.ok .skip w)(hC:C (upd vals i undef) w):bY P C vals i r:=by
 subst hr;exact hC
def qj{u:aw}(h:vals j≠I):upd vals i u j≠I:=by
 by_cases e:j=i
 ·subst e;rw[upd_same];simp
 rw[dU _ u e];exact h
end
def mark(done:Nat->Bool)(i:Nat):Nat->Bool:=λj=>decide (j=i)||done j
def aaK(vals:Nat->Option aw)(i:Nat)(v:aw):(λj=>(upd vals i v j).isSome)=mark (λj=>(vals j).isSome) i:=by
 funext j
 unfold mark upd
 by_cases h:j=i
 ·simp[h]
 simp[h]
def cq(done:Nat->Bool)(h:j≠i):mark done i j=done j:=by simp[mark,h]
def Bf(done:Nat->Bool)(i:Nat):mark done i i=true:=by simp[mark]
def dA(P:Program)(S:Nat->aw->ak->Prop)(C:(Nat->Bool)->ak->Prop)(done:Nat->Bool)(i:Nat)(w:ak):Result Next->Prop
 |.ok (.value u) w'=>C (mark done i) w'/\(∀j v,done j=true->S j v w->S j v w')/\S i u w'
 |.ok .skip w'=>C (mark done i) w'/\(∀j v,done j=true->S j v w->S j v w')/\S i undef w'
 |.ok (.enter f args) w'=>Calls P f args w' λe w''=>∃v,e=ax v/\C (mark done i) w''/\(∀j v,done j=true->S j v w->S j v w'')/\S i v w''
 |_=>False
section
variable {P:Program}{ops:Array Oper}{Q:Exit->Act->ak->Prop}{md:Region.Mode}{S:Nat->aw->ak->Prop}{C:(Nat->Bool)->ak->Prop}{a0:Act}
def zf(P:Program)(md:Region.Mode)(ops:Array Oper)(S:Nat->aw->ak->Prop)(C:(Nat->Bool)->ak->Prop)(a0:Act)(i:Nat)(o:Oper):Prop:=
 ∀(done:Nat->Bool) (a:Act) (w:ak),C done w->done i=false->a.tmps.size=a0.tmps.size->(∀e,e∈o.after->Region.binds md e=true->done e.on=true)->(∀e d,e∈o.after->Region.binds md e=true->dZ ops e.on=J d->S e.on (a.eval (.tmp d)) w) ->
  (∀d,(∀j,dZ ops j≠J d)->a.eval (.tmp d)=a0.eval (.tmp d)) ->
  if Region.wanted o (yielded ops a.tmps)=true then dA P S C done i w ((execOp a.eval o).run P w)else C (mark done i) w/\S i undef w
def QC{ops:Array Oper}{a0:Act}(h:∀j,j<n->(vals j).isSome=true):∀k,k<=n->fill ops a0 vals k=fill ops a0 (λj=>J ((vals j).getD undef)) k
 |0,_=>rfl
 |k+1,hk=>by
  have hs:=h k (by omega)
  cases hv:vals k with
  |none=>rw[hv]at hs;cases hs
  |some v=>simp only[fill,hv,Option.getD_some,QC h k (by omega)]
def Du{id:Nat}(n:Nat)(hn:ops.size=n)(S:Nat->aw->ak->Prop)(C:(Nat->Bool)->ak->Prop)(hm:P.follows .mixedOrders=true)(hB:Gl ops a0.tmps.size=true)(hC:C (λ_=>false) w.drew)
  (step:∀i o,ops[i]?=J o->zf P .any ops S C a0 i o)
  (fin:∀(vals:Nat->aw) (w:ak),C (λj=>decide (j<n)) w->(∀j,j<n->S j (vals j) w)->Q .normal (fill ops a0 (λj=>J (vals j)) n) w):(Code.region id ops true).wp P Q a0 w:=by
 have key:∀{vals:Nat->Option aw} {w w':ak} {i:Nat} {v:aw},i<n->(∀j,n<=j->vals j=I)->(∀j v,vals j=J v->S j v w)->C (mark (λj=>(vals j).isSome) i) w'->(∀j v,(vals j).isSome=true->S j v w->S j v w')->S i v w'->C (λj=>(upd vals i v j).isSome) w'/\(∀j,n<=j->upd vals i v j=I)/\∀j u,upd vals i v j=J u->S j u w':=λ{vals w w' i v} hi ho hS hC hK hs=>⟨by rw[aaK];exact hC,λj hj=>by rw[dU _ _ (by omega)];exact ho j hj,λj u hu=>by
  by_cases e:j=i
  ·subst e;rw[upd_same]at hu
   cases hu
   exact hs
  rw[dU _ _ e]at hu;exact hK j u (by rw[hu];rfl) (hS j u hu)⟩
 refine Dt n hn (λvals w=>C (λj=>(vals j).isSome) w/\(∀j,n<=j->vals j=I)/\∀j v,vals j=J v->S j v w) hm hB ⟨hC,λ_ _=>rfl,λ_ _ h=>by cases h⟩ (λi o ho vals a w ⟨h1,h2,h3⟩ hi hsz aB aQ=>?_) (λvals w ⟨h1,h2,h3⟩ hall=>?_)
 ·have Dv:i<n:=by rw[<- hn];exact(Bb.1 ho).1
  have h:=step i o ho _ a w h1 (by simp[hi]) hsz (λe he hb=>by obtain⟨v,e1,-⟩:=aB e he hb;rw[e1];rfl) (λe d he hb hd=>by obtain⟨v,e1,e2⟩:=aB e he hb;rw[e2 d hd];exact h3 _ _ e1) aQ
  split
  ·rename_i hw;rw[aU hw]at h;generalize (execOp a.eval o).run P w=r at h
   cases r with
   |ok x w'=>
    cases x<;>simp only[dA]at h<;>simp only[bY]
    case value u=>exact key Dv h2 h3 h.1 h.2.1 h.2.2
    case skip=>exact key Dv h2 h3 h.1 h.2.1 h.2.2
    case enter f args=>exact h.mono λe w'' ⟨v,he,k1,k2,k3⟩=>⟨v,he,key Dv h2 h3 k1 k2 k3⟩
   |halt x w'=>simp only[dA]at h
  rename_i hw;rw[aK hw]at h;exact key Dv h2 h3 h.1 (λ_ _ _ h=>h) h.2
 rw[QC hall n (aR _)]
 refine fin _ w ?_ (λj hj=>?_)
 ·rw[show (λj=>decide (j<n))=λj=>(vals j).isSome from funext λj=>by by_cases hj:j<n<;>simp[hj,hall]<;>(rw[h2 j (by omega)])];exact h1
 have hs:=hall j hj
 cases hv:vals j with
 |none=>rw[hv]at hs;cases hs
 |some v=>exact h3 j v hv
def zf.free{i:Nat}{o:Oper}(hg:o.guard=I)
  (hrun:∀(done:Nat->Bool) (a:Act) (w:ak),C done w->done i=false->(∀e,e∈o.after->Region.binds md e=true->done e.on=true)->(∀e d,e∈o.after->Region.binds md e=true->dZ ops e.on=J d->S e.on (a.eval (.tmp d)) w)->(∀d,(∀j,dZ ops j≠J d)->a.eval (.tmp d)=a0.eval (.tmp d))->dA P S C done i w ((execOp a.eval o).run P w)):zf P md ops S C a0 i o:=by
 intro done a w hC hi _ fL aB aQ;rw[aU (by unfold Region.wanted;rw[hg])];exact hrun _ a w hC hi fL aB aQ
def dA.val{done:Nat->Bool}(hr:r=.ok (.value c) w)(hC:C (mark done i) w)(hS:S i c w):dA P S C done i w r:=by
 subst hr;exact⟨hC,λ_ _ _ h=>h,hS⟩
def dA.Gp{done:Nat->Bool}(hr:r=.ok .skip w')(hC:C (mark done i) w')(hK:∀j v,done j=true->S j v w->S j v w')(hS:S i undef w'):dA P S C done i w r:=by
 subst hr;exact⟨hC,hK,hS⟩
def dA.call{i:Nat}{done:Nat->Bool}(hr:r=.ok (.enter f args) w)
  (hc:Calls P f args w λe w''=>∃v,e=ax v/\C (mark done i) w''/\(∀j v,done j=true->S j v w->S j v w'')/\S i v w''):dA P S C done i w r:=by
 subst hr;exact hc
end
def goodRun(P:Program)(S:Nat->aw->ak->Prop)(C:ak->Prop)(i:Nat)(w:ak):Result Next->Prop
 |.ok (.value u) w'=>C w'/\(∀j v,S j v w->S j v w')/\S i u w'
 |.ok .skip w'=>C w'/\(∀j v,S j v w->S j v w')/\S i undef w'
 |.ok (.enter f args) w'=>Calls P f args w' λe w''=>∃v,e=ax v/\C w''/\(∀j v,S j v w->S j v w'')/\S i v w''
 |_=>False
section
variable {P:Program}{ops:Array Oper}{Q:Exit->Act->ak->Prop}{md:Region.Mode}{S:Nat->aw->ak->Prop}{C:ak->Prop}{a0:Act}
def ql(P:Program)(md:Region.Mode)(ops:Array Oper)(S:Nat->aw->ak->Prop)(C:ak->Prop)(a0:Act)(i:Nat)(o:Oper):Prop:=
 ∀(a:Act) (w:ak),C w->a.tmps.size=a0.tmps.size->(∀e d,e∈o.after->Region.binds md e=true->dZ ops e.on=J d->S e.on (a.eval (.tmp d)) w) ->
  (∀d,(∀j,dZ ops j≠J d)->a.eval (.tmp d)=a0.eval (.tmp d)) ->
  if Region.wanted o (yielded ops a.tmps)=true then goodRun P S C i w ((execOp a.eval o).run P w)else S i undef w
def tT{id:Nat}(n:Nat)(hn:ops.size=n)(S:Nat->aw->ak->Prop)(C:ak->Prop)(hm:P.follows .mixedOrders=true)(hB:Gl ops a0.tmps.size=true)(hC:C w.drew)
  (step:∀i o,ops[i]?=J o->ql P .any ops S C a0 i o)
  (fin:∀(vals:Nat->aw) (w:ak),C w->(∀j,j<n->S j (vals j) w)->Q .normal (fill ops a0 (λj=>J (vals j)) n) w):(Code.region id ops true).wp P Q a0 w:=by
 refine Du n hn S (λ_=>C) hm hB hC (λi o ho _ a w h1 _ hsz _ aB aQ=>?_) fin;have h:=step i o ho a w h1 hsz aB aQ
 split
 ·rename_i hw;rw[aU hw]at h;generalize (execOp a.eval o).run P w=r at h
  cases r with
  |ok x w'=>
   cases x<;>simp only[goodRun]at h<;>simp only[dA]
   case value u=>exact⟨h.1,λj v _=>h.2.1 j v,h.2.2⟩
   case skip=>exact⟨h.1,λj v _=>h.2.1 j v,h.2.2⟩
   case enter f args=>exact h.mono λe w'' ⟨v,he,k1,k2,k3⟩=>⟨v,he,k1,λj v _=>k2 j v,k3⟩
  |halt x w'=>simp only[goodRun]at h
 rename_i hw;rw[aK hw]at h;exact⟨h1,h⟩
def ql.free{i:Nat}{o:Oper}(hg:o.guard=I)
  (hrun:∀(a:Act) (w:ak),C w->(∀e d,e∈o.after->Region.binds md e=true->dZ ops e.on=J d->S e.on (a.eval (.tmp d)) w)->(∀d,(∀j,dZ ops j≠J d)->a.eval (.tmp d)=a0.eval (.tmp d))->goodRun P S C i w ((execOp a.eval o).run P w)):ql P md ops S C a0 i o:=by
 intro a w hC _ aB aQ;rw[aU (by unfold Region.wanted;rw[hg])];exact hrun a w hC aB aQ
def goodRun.made(hr:r=.ok (.value c) w')(hC:C w')(hK:∀j v,S j v w->S j v w')(hS:S i c w'):goodRun P S C i w r:=by
 subst hr;exact⟨hC,hK,hS⟩
def goodRun.call{i:Nat}(hr:r=.ok (.enter f args) w)
  (hc:Calls P f args w λe w''=>∃v,e=ax v/\C w''/\(∀j v,S j v w->S j v w'')/\S i v w''):goodRun P S C i w r:=by
 subst hr;exact hc
def goodRun.val(hr:r=.ok (.value c) w)(hC:C w)(hS:S i c w):goodRun P S C i w r:=by
 subst hr;exact⟨hC,λ_ _ h=>h,hS⟩
end
def Kc(p:Nat->Oper->Prop):Nat->List Oper->Prop
 |_,[]=>True
 |k,o::t=>p k o/\Kc p (k+1) t
def QD{p:Nat->Oper->Prop}:∀(l:List Oper) (k:Nat),Kc p k l->∀i o,l[i]?=J o->p (k+i) o
 |[],_,_,i,o,h=>by simp at h
 |x::l,k,⟨h1,_⟩,0,o,h=>by
  simp at h
  subst h;exact h1
 |x::l,k,⟨_,h2⟩,i+1,o,h=>by
  have:=QD l (k+1) h2 i o (by simpa using h);rwa [show k+1+i=k+(i+1) by omega]at this
def mM{p:Nat->Oper->Prop}(h:Kc p 0 ops.toList)(i:Nat)(o:Oper)(ho:ops[i]?=J o):p i o:=by
 have:=QD _ 0 h i o (by simpa using ho);rwa [lD]at this
structure bR where
 closed:Nat
 opn:Nat
 now:Nat
 begun:Nat
 fu:Nat
 reset:Bool
variable{d d':bR}
def bR.row(d:bR):Array aw:=#[ae af (d.closed:Int),ae af (d.opn:Int),ae af (d.now:Int),ae af (d.begun:Int),ae af (d.fu:Int),aL d.reset]
structure cS(w:ak)(b:Nat)(d:bR):Prop where
 heap:w.heap[b]?=J (ay d.row 222 (0,0))
 hc:d.closed<=1000
 ho:d.opn<=1000
 hk:d.fu<=d.begun
 hb:d.begun<=d.now
 hn:d.now<=1099511627776
def cS.cell(h:cS w b d)(i:Nat):w.cell? (ai b i I)=d.row[i]?:=by simp[aH,h.heap]
def cS.frozen(h:cS w b d)(i:Nat):w.frozen? (ai b i I)=false:=by simp[bM,h.heap]
def cS.c0(h:cS w b d):w.cell? (ai b 0 I)=J (ae af (d.closed:Int)):=h.cell 0
def cS.c1(h:cS w b d):w.cell? (ai b 1 I)=J (ae af (d.opn:Int)):=h.cell 1
def cS.c2(h:cS w b d):w.cell? (ai b 2 I)=J (ae af (d.now:Int)):=h.cell 2
def cS.c3(h:cS w b d):w.cell? (ai b 3 I)=J (ae af (d.begun:Int)):=h.cell 3
def cS.c4(h:cS w b d):w.cell? (ai b 4 I)=J (ae af (d.fu:Int)):=h.cell 4
def cS.c5(h:cS w b d):w.cell? (ai b 5 I)=J (aL d.reset):=h.cell 5
def cS.lt(h:cS w b d):b<w.heap.size:=bL h.heap
def cS.set(h:cS w b d)(i:Nat)(v:aw)(hr:d.row.setIfInBounds i v=d'.row)(hc:d'.closed<=1000)(ho:d'.opn<=1000)(hk:d'.fu<=d'.begun)(hb:d'.begun<=d'.now)(hn:d'.now<=1099511627776):cS (w.setCell (ai b i I) v) b d':=by
 refine⟨?_,hc,ho,hk,hb,hn⟩;simp only[bN,cL,h.heap];simp[hr]
def cS.below(h:cS w b d)(hb:Below w.heap.size w w'):cS w' b d:=⟨a8 hb h.heap,h.hc,h.ho,h.hk,h.hb,h.hn⟩
def cS.drewN(h:cS w b d)(q:Nat):cS (w.drewN q) b d:=⟨h.heap,h.hc,h.ho,h.hk,h.hb,h.hn⟩
def cS.drew(h:cS w b d):cS w.drew b d:=⟨h.heap,h.hc,h.ho,h.hk,h.hb,h.hn⟩
def Bg{a:ak}{r:Option Nat}(h:a.grownBy w r)(q:Nat):a.grownBy (w.drewN q) r:=⟨h.os,h.tape,h.output,h.size,h.block⟩
def bR.new(c o:Nat):bR:=⟨c,o,0,0,0,false⟩
def bR.iG(d:bR):Bool:=!d.reset&&decide (d.closed<d.now-d.begun)
def bR.tick(d:bR):bR:={ d with now:=d.now+1,reset:=decide (d.closed+d.opn<d.now+1-d.begun) }
def bR.oO(d:bR):bR:={ d with begun:=d.now,fu:=d.fu+1 }
def bR.start(d:bR):bR:={ d with begun:=d.now,reset:=false }
def aaL(c o:Nat)(w:ak)(h1:c<=1000)(h2:1<=o)(h3:o<=1000):Calls prog 120 #[ae af (c:Int),ae af (o:Int)] w λe w'=>e=ax (bn #[aq (J (ai w.heap.size 0 I)),.nilIface])/\Below w.heap.size w w'/\cS w' w.heap.size (bR.new c o):=by
 have g1:¬(c:Int)<0:=by omega
 have g2:¬1000<(c:Int):=by omega
 have g3:¬(o:Int)<1:=by omega
 have g4:¬1000<(o:Int):=by omega
 go_enter func120,ntmps120
 go_wp2;go_ret2
 refine⟨rfl,?_,⟨?_,h1,h3,aR _,aR _,bA _⟩⟩
 ·exact(aF _ _).alloc (aR _) _
 show (w.heap.push _)[w.heap.size]?=_
 simp
 rfl
def QE(b:Nat)(d:bR)(w:ak)(h:cS w b d):Calls prog 137 #[aq (J (ai b 0 I))] w λe w'=>e=ax (aL d.reset)/\w'=w:=by
 have c5:=h.c5;go_enter func137,ntmps137
 go_wp2;go_ret;exact⟨rfl,rfl⟩
def QF(b:Nat)(d:bR)(w:ak)(h:cS w b d):Calls prog 131 #[aq (J (ai b 0 I))] w λe w'=>e=ax (ae af (d.now:Int))/\w'=w:=by
 have c2:=h.c2;go_enter func131,ntmps131
 go_wp2;go_ret;exact⟨rfl,rfl⟩
def aaM(b:Nat)(d:bR)(w:ak)(h:cS w b d):Calls prog 132 #[aq (J (ai b 0 I))] w λe w'=>e=ax (ae af (d.fu:Int))/\w'=w:=by
 have c4:=h.c4;go_enter func132,ntmps132
 go_wp2;go_ret;exact⟨rfl,rfl⟩
def QG(b:Nat)(d:bR)(w:ak)(h:cS w b d):Calls prog 261 #[aq (J (ai b 0 I))] w λe w'=>e=ax (ae af ((d.now-d.begun:Nat):Int))/\∃q,w'=w.drewN q:=by
 have c2:=h.c2;have c3:=h.c3;have hb:=h.hb;have hn:=h.hn;have wr:IntKind.i64.wrap ((d.now:Int)-(d.begun:Int))=((d.now-d.begun:Nat):Int):=by rw[qg];omega
 go_enter func261,ntmps261
 go_wp2_with fail
 go_quiet (fail)
 go_wp2;go_ret;exact⟨rfl,_,rfl⟩
def QH(b:Nat)(d:bR)(w:ak)(h:cS w b d):Calls prog 265 #[aq (J (ai b 0 I))] w λe w'=>e=ax (aL d.iG)/\∃q,w'=w.drewN q:=by
 have c0:=h.c0;have c5:=h.c5
 cases hr:d.reset
 ·rw[hr]at c5;have E:U (d.iG=decide (d.closed<d.now-d.begun)):=by
   show _=_
   unfold bR.iG;rw[hr];simp only[Bool.not_false,Bool.true_and]
  go_enter func265,ntmps265
  go_wp2_with fail
  go_quiet (first|(go_at_call 261;exact Calls.quiet_of (QG _ _ _ (h.drewN _))))
  go_wp2;go_ret;rw[E.o];exact⟨rfl,_,rfl⟩
 rw[hr]at c5;have E:U (d.iG=false):=by
  show _=_
  unfold bR.iG;rw[hr];rfl
 go_enter func265,ntmps265
 go_wp2_with fail
 go_quiet (fail)
 go_wp2;go_ret;rw[E.o];exact⟨rfl,_,rfl⟩
def goodRun.Gp{P:Program}{S:Nat->aw->ak->Prop}{C:ak->Prop}(hr:r=.ok .skip w')(hC:C w')(hK:∀j v,S j v w->S j v w')(hS:S i undef w'):goodRun P S C i w r:=by
 subst hr;exact⟨hC,hK,hS⟩
def bR.xu(d:bR)(r:Bool):bR:=⟨d.closed,d.opn,d.now+1,d.begun,d.fu,r⟩
def Kd(b:Nat)(d:bR):Nat->aw->ak->Prop
 |0=>λv _=>v=aq (J (ai b 0 I))
 |1=>λv _=>v=aq (J (ai b 0 I))
 |2=>λv _=>v=ae af ((d.now+1-d.begun:Nat):Int)
 |3=>λv _=>v=aq (J (ai b 0 I))
 |4=>λv _=>v=aq (J (ai b 0 I))
 |5=>λv _=>v=aq (J (ai b 0 I))
 |6=>λv _=>v=ae af (d.closed:Int)
 |7=>λv _=>v=aq (J (ai b 0 I))
 |8=>λv _=>v=aq (J (ai b 0 I))
 |9=>λv _=>v=aq (J (ai b 1 I))
 |10=>λv _=>v=ae af (d.opn:Int)
 |11=>λv _=>v=ae af ((d.closed+d.opn:Nat):Int)
 |12=>λv _=>v=aL (decide (d.closed+d.opn<d.now+1-d.begun))
 |13=>λv _=>v=aq (J (ai b 0 I))
 |14=>λv _=>v=aq (J (ai b 5 I))
 |15=>λ_ w=>cS w b d.tick
 |_=>λ_ _=>True
def QI(hb:cS w b d.tick->cS w' b d.tick):∀j v,Kd b d j v w->Kd b d j v w':=by
 intro j v h
 match j,h with
 |0,h=>exact h
 |1,h=>exact h
 |2,h=>exact h
 |3,h=>exact h
 |4,h=>exact h
 |5,h=>exact h
 |6,h=>exact h
 |7,h=>exact h
 |8,h=>exact h
 |9,h=>exact h
 |10,h=>exact h
 |11,h=>exact h
 |12,h=>exact h
 |13,h=>exact h
 |14,h=>exact h
 |15,h=>exact hb h
 |n+16,h=>exact h
def aaN(b:Nat)(d:bR)(w:ak)(h:cS w b d)(hr:d.reset=false)(hlt:d.now<1099511627776):Calls prog 229 #[aq (J (ai b 0 I))] w λe w'=>e=ax .nilIface/\cS w' b d.tick/\w.grownBy w' (J b):=by
 have c5:=h.c5;have c2:=h.c2;have f2:=h.frozen 2;have hc:=h.hc;have ho:=h.ho;rw[hr]at c5;have g1:¬1099511627776<=(d.now:Int):=by omega
 have wr:IntKind.i64.wrap ((d.closed:Int)+(d.opn:Int))=((d.closed+d.opn:Nat):Int):=by rw[qg];omega
 have e1:((d.now+1:Nat):Int)=(d.now:Int)+1:=by omega
 have hT:cS (w.setCell (ai b 2 I) (ae af ((d.now:Int)+1))) b (d.xu d.reset):=by
  rw[<- e1];exact h.set 2 _ rfl h.hc h.ho h.hk (Nat.le_succ_of_le h.hb) hlt
 have HT:U _:=hT;go_enter func229,ntmps229
 go_upto_region 6 with fail
 refine tT 16 rfl (Kd b d) (λw'=>w.grownBy w' _/\∃r,cS w' b (d.xu r)) (by kernel_rfl) (by kernel_rfl) ⟨Bg (dz (fG _ _) _ _) 1,_,HT.drew⟩ ?_ ?_
 ·refine mM ⟨?_,?_,?_,?_,?_,?_,?_,?_,?_,?_,?_,?_,?_,?_,?_,?_,trivial⟩
  all_goals
   refine ql.free rfl ?_;intro a w hC aB aQ
  ·have x0:a.tmps[0]?.getD _=aq _:=aW (aQ 0 (dS (by kernel_rfl)));exact goodRun.val (c:=aq _) (by clear aB aQ;go_simp) hC rfl
  ·have x0:a.tmps[0]?.getD _=aq _:=aW (aQ 0 (dS (by kernel_rfl)));exact goodRun.val (c:=aq _) (by clear aB aQ;go_simp) hC rfl
  ·have Gq:a.tmps[22]?.getD _=aq _:=aW (aB _ 22 (bj (i:=0) rfl) rfl rfl);obtain⟨r,hr⟩:=hC.2
   refine goodRun.call (f:=261) (args:=#[aq (J (ai b 0 I))]) (by clear aB aQ;go_simp) ?_
   apply(QG _ _ _ hr).mono;rintro e w' ⟨rfl,q,rfl⟩;exact⟨_,rfl,⟨Bg hC.1 _,r,hr.drewN _⟩,QI (λh=>h.drewN _),rfl⟩
  ·have x0:a.tmps[0]?.getD _=aq _:=aW (aQ 0 (dS (by kernel_rfl)));exact goodRun.val (c:=aq _) (by clear aB aQ;go_simp) hC rfl
  ·have QJ:a.tmps[24]?.getD _=aq _:=aW (aB _ 24 (bj (i:=0) rfl) rfl rfl);exact goodRun.val (c:=aq _) (by clear aB aQ;go_simp) hC rfl
  ·have Ke:a.tmps[25]?.getD _=aq _:=aW (aB _ 25 (bj (i:=0) rfl) rfl rfl);exact goodRun.val (c:=aq _) (by clear aB aQ;go_simp) hC rfl
  ·have QK:a.tmps[26]?.getD _=aq _:=aW (aB _ 26 (bj (i:=0) rfl) rfl rfl);obtain⟨r,hr⟩:=hC.2;have c:w.cell? _=J (ae af (d.closed:Int)):=hr.c0;exact goodRun.val (c:=ae af _) (by clear aB aQ;go_simp) hC rfl
  ·have x0:a.tmps[0]?.getD _=aq _:=aW (aQ 0 (dS (by kernel_rfl)));exact goodRun.val (c:=aq _) (by clear aB aQ;go_simp) hC rfl
  ·have Kf:a.tmps[28]?.getD _=aq _:=aW (aB _ 28 (bj (i:=0) rfl) rfl rfl);exact goodRun.val (c:=aq _) (by clear aB aQ;go_simp) hC rfl
  ·have QL:a.tmps[29]?.getD _=aq _:=aW (aB _ 29 (bj (i:=0) rfl) rfl rfl);exact goodRun.val (c:=aq _) (by clear aB aQ;go_simp) hC rfl
  ·have aaO:a.tmps[30]?.getD _=aq _:=aW (aB _ 30 (bj (i:=0) rfl) rfl rfl);obtain⟨r,hr⟩:=hC.2;have c:w.cell? _=J (ae af (d.opn:Int)):=hr.c1;exact goodRun.val (c:=ae af _) (by clear aB aQ;go_simp) hC rfl
  ·have QM:a.tmps[27]?.getD _=ae af _:=aW (aB _ 27 (bj (i:=0) rfl) rfl rfl);have anM:a.tmps[31]?.getD _=ae af _:=aW (aB _ 31 (bj (i:=1) rfl) rfl rfl);exact goodRun.val (c:=ae af _) (by clear aB aQ;go_simp) hC rfl
  ·have Kg:a.tmps[23]?.getD _=ae af _:=aW (aB _ 23 (bj (i:=0) rfl) rfl rfl);have anN:a.tmps[32]?.getD _=ae af _:=aW (aB _ 32 (bj (i:=1) rfl) rfl rfl);exact goodRun.val (c:=aL _) (by clear aB aQ;go_simp;omega) hC rfl
  ·have Gr:a.tmps[21]?.getD _=aq _:=aW (aB _ 21 (bj (i:=0) rfl) rfl rfl);exact goodRun.val (c:=aq _) (by clear aB aQ;go_simp) hC rfl
  ·have aaP:a.tmps[34]?.getD _=aq _:=aW (aB _ 34 (bj (i:=0) rfl) rfl rfl);exact goodRun.val (c:=aq _) (by clear aB aQ;go_simp) hC rfl
  have aaQ:a.tmps[35]?.getD _=aq _:=aW (aB _ 35 (bj (i:=0) rfl) rfl rfl);have aaR:a.tmps[33]?.getD _=aL _:=aW (aB _ 33 (bj (i:=1) rfl) rfl rfl);obtain⟨r,hr⟩:=hC.2;have c5:w.cell? _=J (aL r):=hr.c5;have f5:=hr.frozen 5;have hT:cS (w.setCell _ (aL (decide _))) b d.tick:=hr.set 5 _ rfl hr.hc hr.ho hr.hk hr.hb hr.hn;exact goodRun.Gp (w':=w.setCell _ _) (by clear aB aQ hT;go_simp) ⟨dz hC.1 _ _,_,hT⟩ (QI (λ_=>hT)) hT
 intro vals w5 hC hS;have hT:cS w5 b _:=hS 15 (ar rfl);have hg:=hC.1;simp only[fill,dZ];go_simp
 go_wp2;go_ret;exact⟨rfl,hT,hg⟩
def aaS(b:Nat)(d:bR)(w:ak)(h:cS w b d)(ho:d.iG=true):Calls prog 266 #[aq (J (ai b 0 I))] w λe w'=>e=ax .nilIface/\cS w' b d.oO/\w.grownBy w' (J b):=by
 have hk:=h.hk;have hb:=h.hb;have hn:=h.hn;have hlt:d.fu<d.now:=by
  unfold bR.iG at ho;simp only[uY,uW]at ho;omega
 change U _ at ho
 have h1:∀q,cS ((w.drewN q).setCell _ (ae af (d.now:Int))) b { d with begun:=d.now }:=λq=>(h.drewN q).set 3 _ rfl h.hc h.ho (bp h.hk h.hb) (aR _) h.hn
 have h2:∀q,cS (((w.drewN q).setCell ⟨b,3,I⟩ (ae af (d.now:Int))).setCell ⟨b,4,I⟩ (ae af ((d.fu:Int)+1))) b d.oO:=λq=>by
  have e:((d.fu+1:Nat):Int)=(d.fu:Int)+1:=by omega
  rw[<- e];exact(h1 q).set 4 _ rfl h.hc h.ho (show d.fu+1<=d.now by omega) (aR _) h.hn
 have c2:=h.c2;have c3:=h.c3;have c4:=h.c4;have f3:=h.frozen 3;have f4:=h.frozen 4;change U _ at h1 h2
 go_enter func266,ntmps266
 go_wp2_with fail
 apply(QH _ _ _ h).mono;rintro e w1 ⟨rfl,q,rfl⟩;rw[ho.o];go_wp2;go_ret;exact⟨rfl,h2 q,dz (dz (Bg (fG _ _) _) _ _) _ _⟩
def aaT(b:Nat)(d:bR)(w:ak)(h:cS w b d):Calls prog 129 #[aq (J (ai b 0 I))] w λe w'=>e=ax (bn #[])/\cS w' b d.start/\w.grownBy w' (J b):=by
 have c2:=h.c2;have c3:=h.c3;have c5:=h.c5;have f3:=h.frozen 3;have f5:=h.frozen 5;have hk:=bp h.hk h.hb;have R1:cS ((w.setCell _ (ae af (d.now:Int))).setCell _ (aL false)) b d.start:=(h.set (d':={ d with begun:=d.now }) 3 _ rfl h.hc h.ho hk (aR _) h.hn).set 5 _ rfl h.hc h.ho hk (aR _) h.hn;change U _ at R1
 go_enter func129,ntmps129
 go_wp2;go_end0
 exact⟨rfl,R1,dz (dz (fG _ _) _ _) _ _⟩
structure eE(w:ak)(b:Nat)(d:bR):Prop where
 heap:w.heap[b]?=J (ay d.row 77 (0,0))
 hc:d.closed<=1000
 ho:d.opn<=1000
 hk:d.fu<=d.begun
 hb:d.begun<=d.now
 hn:d.now<=1099511627776
def eE.cell(h:eE w b d)(i:Nat):w.cell? (ai b i I)=d.row[i]?:=by simp[aH,h.heap]
def eE.frozen(h:eE w b d)(i:Nat):w.frozen? (ai b i I)=false:=by simp[bM,h.heap]
def eE.c0(h:eE w b d):w.cell? (ai b 0 I)=J (ae af (d.closed:Int)):=h.cell 0
def eE.c1(h:eE w b d):w.cell? (ai b 1 I)=J (ae af (d.opn:Int)):=h.cell 1
def eE.c2(h:eE w b d):w.cell? (ai b 2 I)=J (ae af (d.now:Int)):=h.cell 2
def eE.c3(h:eE w b d):w.cell? (ai b 3 I)=J (ae af (d.begun:Int)):=h.cell 3
def eE.c4(h:eE w b d):w.cell? (ai b 4 I)=J (ae af (d.fu:Int)):=h.cell 4
def eE.c5(h:eE w b d):w.cell? (ai b 5 I)=J (aL d.reset):=h.cell 5
def eE.lt(h:eE w b d):b<w.heap.size:=bL h.heap
def eE.set(h:eE w b d)(i:Nat)(v:aw)(hr:d.row.setIfInBounds i v=d'.row)(hc:d'.closed<=1000)(ho:d'.opn<=1000)(hk:d'.fu<=d'.begun)(hb:d'.begun<=d'.now)(hn:d'.now<=1099511627776):eE (w.setCell (ai b i I) v) b d':=by
 refine⟨?_,hc,ho,hk,hb,hn⟩;simp only[bN,cL,h.heap];simp[hr]
def eE.below(h:eE w b d)(hb:Below w.heap.size w w'):eE w' b d:=⟨a8 hb h.heap,h.hc,h.ho,h.hk,h.hb,h.hn⟩
def eE.drewN(h:eE w b d)(q:Nat):eE (w.drewN q) b d:=⟨h.heap,h.hc,h.ho,h.hk,h.hb,h.hn⟩
def QN(b:Nat)(d:bR)(w:ak)(h:eE w b d):Calls prog 115 #[aq (J (ai b 0 I))] w λe w'=>e=ax (aL d.iG)/\∃q,w'=w.drewN q:=by
 have c0:=h.c0;have c2:=h.c2;have c3:=h.c3;have c5:=h.c5;have hc:=h.hc;have hb:=h.hb;have hn:=h.hn;have wr:IntKind.i64.wrap ((d.begun:Int)+(d.closed:Int))=(d.begun:Int)+(d.closed:Int):=by rw[qg];omega
 cases hr:d.reset
 ·rw[hr]at c5;have E:U (d.iG=decide (d.begun+d.closed<d.now)):=by
   show _=_
   unfold bR.iG;rw[hr];simp only[Bool.not_false,Bool.true_and];rw[pA];omega
  go_enter func115,ntmps115
  go_wp2_with fail
  go_quiet (fail)
  go_wp2;go_ret;rw[E.o]
  refine⟨?_,_,rfl⟩;show Ending.returned (aL _)=_
  congr 2
  first|rfl|(rw[pA];omega)
 rw[hr]at c5;have E:U (d.iG=false):=by
  show _=_
  unfold bR.iG;rw[hr];rfl
 go_enter func115,ntmps115
 go_wp2_with fail
 go_quiet (fail)
 go_wp2;go_ret;rw[E.o];exact⟨rfl,_,rfl⟩
def aaU(b:Nat)(d:bR)(w:ak)(h:eE w b d)(hr:d.reset=false)(hlt:d.now<1099511627776):Calls prog 111 #[aq (J (ai b 0 I))] w λe w'=>e=ax (ae af 0)/\eE w' b d.tick/\w.grownBy w' (J b):=by
 have hc:=h.hc;have ho:=h.ho;have hb:=h.hb;have hn:=h.hn;have c5:=h.c5;rw[hr]at c5;have c0:=h.c0;have c1:=h.c1;have c2:=h.c2;have c3:=h.c3;have f2:=h.frozen 2;have f5:=h.frozen 5;have g1:¬1099511627776<=(d.now:Int):=by omega
 have e1:((d.now+1:Nat):Int)=(d.now:Int)+1:=by omega
 have anO:IntKind.i64.wrap ((d.begun:Int)+(d.closed:Int))=(d.begun:Int)+(d.closed:Int):=by rw[qg];omega
 have wr2:IntKind.i64.wrap ((d.begun:Int)+(d.closed:Int)+(d.opn:Int))=(d.begun:Int)+(d.closed:Int)+(d.opn:Int):=by rw[qg];omega
 have hT:eE (w.setCell (ai b 2 I) (ae af ((d.now:Int)+1))) b (d.xu false):=by
  rw[<- e1,<- hr];exact h.set 2 _ rfl h.hc h.ho h.hk (Nat.le_succ_of_le h.hb) hlt
 have HT:U _:=hT
 by_cases hx:d.begun+d.closed+d.opn<d.now+1
 ·have E:U (d.tick=d.xu true):=by
   show _=_
   unfold bR.tick bR.xu;rw[bD (by omega)]
  have hR:∀q,eE (((w.setCell (ai b 2 I) (ae af ((d.now:Int)+1))).drewN q).setCell ⟨b,5,I⟩ (aL true)) b (d.xu true):=λq=>(HT.drewN q).set 5 _ rfl HT.hc HT.ho HT.hk HT.hb HT.hn
  change U _ at hR
  have anP:(d.begun:Int)+(d.closed:Int)+(d.opn:Int)<(d.now:Int)+1:=by omega
  go_enter func111,ntmps111
  go_wp2_with fail
  go_quiet (fail)
  go_wp2;go_ret;rw[E.o];exact⟨rfl,hR _,dz (Bg (dz (fG _ _) _ _) _) _ _⟩
 have E:U (d.tick=d.xu false):=by
  show _=_
  unfold bR.tick bR.xu;rw[bV (by omega)]
 have anQ:decide ((d.begun:Int)+(d.closed:Int)+(d.opn:Int)<(d.now:Int)+1)=false:=bV (by omega);go_enter func111,ntmps111
 go_wp2_with fail
 go_quiet (fail)
 go_wp2;go_ret;rw[E.o];exact⟨rfl,HT.drewN _,Bg (dz (fG _ _) _ _) _⟩
def aaV(b:Nat)(d:bR)(w:ak)(h:eE w b d)(ho:d.iG=true):Calls prog 116 #[aq (J (ai b 0 I))] w λe w'=>e=ax (ae af 0)/\eE w' b d.oO/\w.grownBy w' (J b):=by
 have hk:=h.hk;have hb:=h.hb;have hn:=h.hn;have hlt:d.fu<d.now:=by
  unfold bR.iG at ho;simp only[uY,uW]at ho;omega
 have HO:U (d.iG=true):=ho;have h1:∀q,eE ((w.drewN q).setCell ⟨b,3,I⟩ (ae af (d.now:Int))) b { d with begun:=d.now }:=λq=>(h.drewN q).set 3 _ rfl h.hc h.ho (bp h.hk h.hb) (aR _) h.hn
 have h2:∀q,eE (((w.drewN q).setCell ⟨b,3,I⟩ (ae af (d.now:Int))).setCell ⟨b,4,I⟩ (ae af ((d.fu:Int)+1))) b d.oO:=λq=>by
  have e:((d.fu+1:Nat):Int)=(d.fu:Int)+1:=by omega
  rw[<- e];exact(h1 q).set 4 _ rfl h.hc h.ho (show d.fu+1<=d.now by omega) (aR _) h.hn
 have c2:=h.c2;have c3:=h.c3;have c4:=h.c4;have f3:=h.frozen 3;have f4:=h.frozen 4;change U _ at h2
 go_enter func116,ntmps116
 go_wp2_with fail
 apply(QN _ _ _ h).mono;rintro e w1 ⟨rfl,q,rfl⟩;rw[HO.o];go_wp2;go_ret;exact⟨rfl,h2 q,dz (dz (Bg (fG _ _) _) _ _) _ _⟩
section
structure fw where
 pt:Int
 mn:Int
 mx:Int
 n:Nat
def fw.row(a:fw):Array aw:=#[ae af a.pt,ae af a.mn,ae af a.mx,ae af (a.n:Int)]
def lf(cnt:Int)(len:Nat):Int:=if cnt<0\/(len:Int)<=cnt then -1 else cnt
def fw.rep(a:fw)(p:Int):fw:=if a.pt≠-1/\p=a.pt/\a.n<1000 then { a with n:=a.n+1 }else a
def fw.well(a:fw)(whole:Bool):Bool:=(decide (a.mn<=(a.n:Int))&&decide ((a.n:Int)<=a.mx)) || !whole||decide (a.pt=-1)
def fw.zero(a:fw):fw:={ a with n:=0 }
structure h_(w:ak)(b:Nat)(a:fw):Prop where
 heap:w.heap[b]?=J (ay a.row 304 (0,0))
 hn:a.n<=1000
structure QO(w0 w:ak)(b:Nat)(a:fw):Prop where
 at':h_ w b a
 aY:Below w0.heap.size w0 w
 lo:w0.heap.size<=b
def h_.cell{a:fw}(h:h_ w b a)(i:Nat):w.cell? (ai b i I)=a.row[i]?:=by simp[aH,h.heap]
def h_.frozen{a:fw}(h:h_ w b a)(i:Nat):w.frozen? (ai b i I)=false:=by simp[bM,h.heap]
def h_.c0{a:fw}(h:h_ w b a):w.cell? (ai b 0 I)=J (ae af a.pt):=h.cell 0
def h_.c1{a:fw}(h:h_ w b a):w.cell? (ai b 1 I)=J (ae af a.mn):=h.cell 1
def h_.c2{a:fw}(h:h_ w b a):w.cell? (ai b 2 I)=J (ae af a.mx):=h.cell 2
def h_.c3{a:fw}(h:h_ w b a):w.cell? (ai b 3 I)=J (ae af (a.n:Int)):=h.cell 3
def h_.set{a:fw}(h:h_ w b a)(n:Nat)(hn:n<=1000):h_ (w.setCell (ai b 3 I) (ae af (n:Int))) b { a with n:=n }:=by
 refine⟨?_,hn⟩;simp only[bN,cL,h.heap];simp[fw.row]
def h_.drewN{a:fw}(h:h_ w b a)(q:Nat):h_ (w.drewN q) b a:=⟨h.heap,h.hn⟩
def aaW(name:ByteArray)(bh cnt mn mx:Int)(pa:Option aC)(pl pc:Nat)(gv ev fv lv:aw)(w:ak):Calls prog 223 #[bK #[aA name,ae af bh,aj pa pl pc,ae af cnt,ae af mn,ae af mx,gv,ev,fv,lv]] w λv w'=>∃b,v=ax (aq (J (ai b 0 I)))/\QO w w' b ⟨lf cnt pl,mn,mx,0⟩:=by
 have fin:∀(z:Int) (o:Obj),z=lf cnt pl->QO w ((w.alloc o).alloc (ay #[ae af z,ae af mn,ae af mx,ae af 0] 304)) (w.heap.size+1) ⟨lf cnt pl,mn,mx,0⟩:=by
  rintro z o rfl
  refine⟨⟨?_,bA _⟩,(aS _ _).alloc (by simp) _,by omega⟩;show ((w.alloc o).heap.push _)[w.heap.size+1]?=_
  rw[Array.getElem?_push,aU (by simp)];rfl
 change U _ at fin
 by_cases h0:cnt<0
 ·have HZ:U ((-1:Int)=lf cnt pl):=by show _=_;unfold lf;rw[aU (aT h0)]
  go_enter func223,ntmps223
  go_wp2;go_ret;exact⟨_,rfl,fin _ _ HZ⟩
 by_cases h1:(pl:Int)<=cnt
 ·have HZ:U ((-1:Int)=lf cnt pl):=by show _=_;unfold lf;rw[aU (aN h1)]
  go_enter func223,ntmps223
  go_wp2;go_ret;exact⟨_,rfl,fin _ _ HZ⟩
 have HZ:U (cnt=lf cnt pl):=by show _=_;unfold lf;rw[aK (by omega)]
 go_enter func223,ntmps223
 go_wp2;go_ret;exact⟨_,rfl,fin _ _ HZ⟩
variable {w0 w:ak}{b:Nat}{a:fw}
end
def gi(cnt:Int)(l:List b_)(cyc:Int):Nat:=l.countP (λm=>decide (m.cyc=cyc)&&decide (m.pt=cnt))
def Kh(cnt:Int)(l:List b_)(m:b_)(cyc:Int):gi cnt (l++[m]) cyc=gi cnt l cyc+(if m.cyc=cyc/\m.pt=cnt then 1 else 0):=by
 unfold gi;rw[List.countP_append];simp only[List.countP_cons,List.countP_nil,lD]
 by_cases h:m.cyc=cyc<;>by_cases h2:m.pt=cnt<;>simp[h2]
def aaX{cnt:Int}(h:∀m∈l,m.cyc<cyc):gi cnt l cyc=0:=by
 unfold gi;rw[List.countP_eq_zero];intro m hm;have:=h m hm;simp only[uY,uW,not_and];intro e;omega
def Ki(cnt:Int)(l:List b_)(cyc:Int):gi cnt l cyc<=l.length:=List.countP_le_length
def lg(e:aM)(l:List b_)(cyc:Int):Int:=
 if 0<=e.cnt/\0<cyc/\((gi e.cnt l cyc:Int)<e.mn\/e.mx<(gi e.cnt l cyc:Int))then 1
 else if e.aV.any (λg=>kG g l cyc)=true then 2
 else if nk e l cyc=true then 3 else 0
def kL(e:aM)(l:List b_)(cyc:Int):fw:=⟨lf e.cnt e.au.length,e.mn,e.mx,if lf e.cnt e.au.length=-1 then 0 else gi e.cnt l cyc⟩
def aaY(e:aM):kL e [] 0=⟨lf e.cnt e.au.length,e.mn,e.mx,0⟩:=by
 unfold kL gi;simp
def aaZ{cnt:Int}(h:lf cnt n≠-1):lf cnt n=cnt:=by
 unfold lf at h⊢
 split
 ·rename_i h2;rw[aU h2]at h;exact absurd rfl h
 rfl
def aa0(e:aM)(l:List b_)(cyc p t:Int)(hl:l.length<1000):(kL e l cyc).rep p=kL e (l++[⟨p,t,cyc⟩]) cyc:=by
 unfold fw.rep
 by_cases h:lf e.cnt e.au.length=-1
 ·rw[aK (by simp[kL,h])];simp[kL,h]
 have hp:=aaZ h;have hc:=Ki e.cnt l cyc
 by_cases zg:p=e.cnt
 ·have e1:(kL e l cyc).pt≠-1/\p=(kL e l cyc).pt/\(kL e l cyc).n<1000:=by
   refine⟨h,?_,?_⟩
   ·simp[kL,hp,zg]
   simp only[kL,aK h];omega
  rw[aU e1];simp only[kL,aK h,Kh,zg,and_self,if_true]
 rw[aK (by simp only[kL];rw[hp];exact λx=>zg x.2.1)];simp only[kL,aK h,Kh];rw[aK (λx=>zg x.2)];rfl
def aa1(h:∀m∈l,m.cyc<=cyc):(kL e l cyc).zero=kL e l (cyc+1):=by
 unfold fw.zero kL;rw[aaX (cyc:=cyc+1) (λm hm=>by have:=h m hm;omega)];simp
def Gt(a:fw)(g:bX)(f:jd)(whole:Bool):Int:=if a.well whole=false then 1 else if g.bad=true then 2 else if f.bad=true then 3 else 0
def aa2(hc:e.cnt<(e.au.length:Int)):Gt (kL e l cyc) (tD e.aV l cyc) (tE e l cyc) (decide (0<cyc))=lg e l cyc:=by
 unfold Gt lg;have e1:((kL e l cyc).well (decide (0<cyc))=false)↔(0<=e.cnt/\0<cyc/\((gi e.cnt l cyc:Int)<e.mn\/e.mx<(gi e.cnt l cyc:Int))):=by
  unfold fw.well
  by_cases h:0<=e.cnt
  ·have hp:lf e.cnt e.au.length=e.cnt:=by unfold lf;rw[aK (by omega)]
   have hn:¬e.cnt=-1:=by omega
   simp only[kL,hp,aK hn];generalize ((gi e.cnt l cyc:Nat):Int)=n
   by_cases a1:e.mn<=n<;>by_cases a2:n<=e.mx<;>by_cases a3:0<cyc<;>simp[a1,a2,a3,hn,h]<;>omega
  have hp:lf e.cnt e.au.length=-1:=by unfold lf;rw[aU (by omega)]
  simp[kL,hp]
  omega
 by_cases h1:(0<=e.cnt/\0<cyc/\((gi e.cnt l cyc:Int)<e.mn\/e.mx<(gi e.cnt l cyc:Int)))
 ·rw[aU h1,aU (e1.2 h1)]
 rw[aK h1,aK (λx=>h1 (e1.1 x))];rfl
structure aZ where
 act:Bool
 since:Int
 ms:List b_
 run:Int
 ex:Bool
def aZ.new:aZ:=⟨false,0,[],0,false⟩
def aZ.begin(s:aZ):aZ:=if s.act then s else ⟨true,0,[],0,false⟩
def aZ.stop(s:aZ):aZ:={ s with act:=false }
def aZ.rep(e:aM)(s:aZ)(p t:Int):aZ:=if s.act/\fq e p=true then { s with ms:=s.ms++[⟨p,t,s.since⟩] }else s
def aZ.mh(e:aM)(s:aZ):Int:=if lg e s.ms s.since=0 then 0 else s.run+1
def aZ.turns(e:aM)(s:aZ):Bool:=s.act&&(!s.ex&&decide (e.bh<s.mh e))
def aZ.fin(e:aM)(s:aZ):aZ:=if s.act then ⟨true,s.since+1,s.ms,s.mh e,s.ex||decide (e.bh<s.mh e)⟩else s
def aZ.kind(e:aM)(s:aZ):Int:=if s.act then lg e s.ms s.since else 0
def aZ.status(s:aZ):Nat:=if s.act then (if s.ex then 3 else if 0<s.run then 2 else 1)else 0
structure fX(s:aZ)(k:Nat):Prop where
 len:s.ms.length<=k
 each:∀m∈s.ms,m.cyc<=s.since
 s0:0<=s.since
 s1:s.since<=(k:Int)
 r0:0<=s.run
 r1:s.run<=s.since
def fX.new:fX aZ.new 0:=⟨aR _,λm hm=>(by cases hm),rP _,rP _,rP _,rP _⟩
def fX.mono{s:aZ}(h:fX s k)(hn:k<=n):fX s n:=⟨bp h.len hn,h.each,h.s0,by have:=h.s1;omega,h.r0,h.r1⟩
def fX.begin{s:aZ}(h:fX s k):fX s.begin (k+1):=by
 unfold aZ.begin
 split
 ·exact h.mono (by omega)
 exact⟨bA _,λm hm=>(by cases hm),rP _,by simp;omega,rP _,rP _⟩
def fX.stop{s:aZ}(h:fX s k):fX s.stop (k+1):=⟨bp h.len (by omega),h.each,h.s0,by have:=h.s1;show s.since<=_;push_cast;omega,h.r0,h.r1⟩
def fX.rep{s:aZ}(h:fX s k)(p t:Int):fX (s.rep e p t) (k+1):=by
 unfold aZ.rep
 split
 ·refine⟨by have:=h.len;simp;omega,λm hm=>?_,h.s0,by have:=h.s1;show s.since<=_;push_cast;omega,h.r0,h.r1⟩;rw[qN]at hm
  rcases hm with hm|hm
  ·exact h.each m hm
  rw[g_]at hm;subst hm;exact rP _
 exact h.mono (by omega)
def fX.fin{s:aZ}(h:fX s k):fX (s.fin e) (k+1):=by
 unfold aZ.fin
 split
 ·have h1:=h.r0;have h2:=h.r1;have h3:=h.s0;have hr:0<=s.mh e/\s.mh e<=s.since+1:=by unfold aZ.mh;split<;>omega
  refine⟨bp h.len (by omega),λm hm=>by have:=h.each m hm;show m.cyc<=s.since+1;omega,by show 0<=s.since+1;omega,by have:=h.s1;show s.since+1<=_;push_cast;omega,hr.1,hr.2⟩
 exact h.mono (by omega)
def kM(b o j:Nat):(⟨b,o,I⟩:aC).add j=⟨b,o+j,I⟩:=by unfold Addr.add;split<;>simp_all
def bI{α:Type}(enc:α->List aw)(k:Nat)(T:TypeId)(B:Nat)(w:ak)(v:aw)(xs:List α):Prop:=w.ownsRow B T k v xs.length (xs.flatMap enc)
def Dw{α:Type}{enc:α->List aw}(ml:∀x,(enc x).length=k):∀(xs:List α) (i j:Nat) (x:α) (u:aw),xs[i]?=J x->(enc x)[j]?=J u->(xs.flatMap enc)[i*k+j]?=J u
 |[],i,j,x,u,h,_=>by simp at h
 |y::t,0,j,x,u,h,hu=>by
  simp at h
  subst h;have hj:=(df.1 hu).1;rw[mD,Nat.zero_mul,lD,ly hj];exact hu
 |y::t,i+1,j,x,u,h,hu=>by
  have ih:=Dw ml t i j x u (by simpa using h) hu;rw[mD,jX (by rw[ml];rw[Nat.succ_mul];omega),ml];have e:(i+1)*k+j-k=i*k+j:=by rw[Nat.succ_mul];omega
  rw[e];exact ih
def zh{α:Type}{enc:α->List aw}(ml:∀x,(enc x).length=k):∀(xs:List α),(xs.flatMap enc).length=xs.length*k
 |[]=>by simp
 |y::t=>by rw[mD,cY,ml,zh ml t,lY,Nat.succ_mul];omega
def zi{α:Type}{enc:α->List aw}(ml:∀x,(enc x).length=k):∀(xs:List α) (n:Nat) (u:aw),(xs.flatMap enc)[n]?=J u->∃i j x,n=i*k+j/\xs[i]?=J x/\(enc x)[j]?=J u
 |[],n,u,h=>by simp at h
 |y::t,n,u,h=>by
  rw[mD]at h
  by_cases hn:n<k
  ·rw[ly (by rw[ml];exact hn)]at h;exact⟨0,n,y,by simp,rfl,h⟩
  rw[jX (by rw[ml];omega),ml]at h;obtain⟨i,j,x,e,h1,h2⟩:=zi ml t _ u h;exact⟨i+1,j,x,by rw[Nat.succ_mul];omega,by simpa using h1,h2⟩
def bI.jz{α:Type}{enc:α->List aw}{xs:List α}(h:bI enc k T B w v xs)(ml:∀x,(enc x).length=k):bw enc k w v xs:=by
 rcases h.2 with⟨rfl,h0⟩|⟨g,cap,cur,rfl,hB,hg,hle,-⟩
 ·have:=kV h0;subst this;exact⟨_,0,rfl,aR _,λe=>absurd rfl e⟩
 refine⟨_,cap,rfl,hle,λ_=>⟨g,0,rfl,λi x hx j u hu=>?_⟩⟩;have:=h.cells (g:=g) rfl _ u (Dw ml xs i j x u hx hu);rw[kM]at this;rw[qh];exact this
def bI.below{α:Type}{enc:α->List aw}{xs:List α}(h:bI enc k T B w v xs)(hb:Below w.heap.size w w'):bI enc k T B w' v xs:=
 h.kept (row:=I) ⟨hb.os,hb.tape,hb.output,hb.size,λk hk _=>hb.block k hk⟩ (by by_cases e:v.ownBlock=I;exact aT e;exact aN e)
def bI.other{α:Type}{enc:α->List aw}{xs:List α}(h:bI enc k T B w v xs)(hg:w.grownBy w' (J b)){c:Array aw}{fr:Nat×Nat}(hb:w.heap[b]?=J (ay c T' fr))(hT:T'≠T):bI enc k T B w' v xs:=by
 refine h.kept hg (aN ?_)
 rcases h.2 with⟨rfl,_⟩|⟨g,cap,cur,rfl,_,cM,_⟩
 ·simp[dF]
 intro e;simp only[dF,dJ]at e;subst e;rw[cM]at hb;simp only[dJ,kY]at hb;exact hT hb.2.1.symm
def bJ(w:ak)(b j:Nat)(v:aw):w.grownBy (w.setCell (ai b j I) v) (J b):=
 ⟨rfl,rfl,rfl,by simp[bN],λk _ hk=>xg _ _ _ _ (λe=>hk (by simp[e]))⟩
def Bh{α:Type}{w:ak}{ops:Array Oper}{rest:List Oper}{o:Oper}{a:Act}{Q:Exit->Act->ak->Prop}(hgd:o.guard=I)(s x:Operand)(t:TypeId)
  (ho:o.op=.call { callee:=.builtin .append,args:=#[s,x],argTypes:=#[t,t] })
  (B:Nat) (e:TypeId) (i:TypeInfo) (z:aw) (size bytes:Nat) (ht:prog.underlying t=J (.slice e)) (hi:prog.info? e=J i) (hz:i.zero=J z) (hsize:i.size=size) (hby:i.bytes=bytes) (hzs:z.cells.size=size) (hsz:0<size)
  (hs:a.eval s=.slice I 0 0) (enc:α->List aw) (ml:∀x,(enc x).length=size) (h1:∀x,∀u∈enc x,u.oneCell'=true) (v:aw) (xs:List α) (hx:a.eval x=v) (hv:bw enc size w v xs) (hm:xs.length<=1000000) (ki:bytes<=1000) (hB:B<=w.heap.size)
  (h:∀bQ cap' w',bI enc size e B w' (.slice bQ xs.length cap') xs->Below w.heap.size w w'->wpList prog ops Q rest (a.put o.dst (.slice bQ xs.length cap')) w'):wpList prog ops Q (o::rest) a w:=by
 obtain⟨sa,cap,rfl,hle,hcell⟩:=hv
 by_cases hne:xs=[]
 ·subst hne
  refine wpList_plain hgd λK hK=>?_
  have Bi:Src prog i.size t (.slice sa 0 cap) 0 [] w:=by
   cases sa with
   |none=>exact Src.ofNil w ht cap
   |some ad=>exact Src.ofSlice w ht ad 0 cap [] (by simp) (λj u hu=>by simp at hu) (λu hu=>by simp at hu)
  have hr:=run_append_nothing (P:=prog) w t t o.type e i ht hi I 0 0 (aR _) _ Bi;unfold Oper.wp execOp;simp only[xp]at hx;simp only[ho,resolve,invoke,builtin,Sem.run_bind,Sem.run_pure,yJ,List.map_toArray,qO,List.map_nil,hs,hx,hr];exact hK _ _ (h _ 0 w (gF ..) (aF _ _))
 obtain⟨b,of,rfl,hc⟩:=hcell hne
 refine pz w hgd s x t ho _ e i z _ _ ht hi hz hsize hby hzs hsz _ 0 [] hs (gF ..) _ _ cap _ hx (zh ml xs) (λj u hu=>?_) (λu hu=>?_) (by unfold maxLen;omega) ?_ (aR _) (λv' w' hown hg hn=>?_)
 ·obtain⟨i',j',y,e1,h2,h3⟩:=zi ml xs j u hu;have:=hc i' y h2 j' u h3;rw[e1,kM,<- qh];exact this
 ·simp only[tB]at hu;obtain⟨y,-,hy⟩:=hu;exact h1 y u hy
 ·have:(0+xs.length)*bytes<=1000000*1000:=Nat.mul_le_mul (by omega) ki;omega
 have hown':w'.ownsRow w.heap.size e size v' xs.length (xs.flatMap enc):=by simpa using hown
 have hb:=(aF _ _).grown hg (aR _) (λk hk=>by simp[dF]at hk)
 rcases hown'.2 with⟨rfl,h0⟩|⟨g,xi,cur,rfl,Bj,r⟩
 ·exact absurd (kV h0) hne
 exact h _ _ w' ⟨hown'.1,aN ⟨g,_,cur,rfl,bp hB Bj,r⟩⟩ hb
def Kk:(prog.info? 9).map (λi=>(i.zero,i.size,i.bytes))=J (J (aA ⟨#[]⟩),1,16):=by kernel_rfl
def Kl:(prog.info? 73).map (λi=>(i.zero,i.size,i.bytes))=J (J (bK #[ae af 0,ae af 0,ae af 0,ae af 0]),4,32):=by kernel_rfl
def Km:(prog.info? 74).map (λi=>(i.zero,i.size,i.bytes))=J (J (bK #[ae af 0,ae af 0]),2,16):=by kernel_rfl
def Dx:(prog.info? 3).map (λi=>(i.zero,i.size,i.bytes))=J (J (ae af 0),1,8):=by kernel_rfl
def Ko:∀(x:ByteArray),∀u∈ct x,u.oneCell'=true:=by intro x u hu;simp[ct]at hu;subst hu;rfl
def zj:∀(x:Int),∀u∈bT x,u.oneCell'=true:=by intro x u hu;simp[bT]at hu;subst hu;rfl
def Kp:∀(x:Int×Int),∀u∈kI x,u.oneCell'=true:=by intro x u hu;simp[kI]at hu;rcases hu with rfl|rfl<;>rfl
def Kq:∀(x:eT),∀u∈lF x,u.oneCell'=true:=by intro x u hu;simp[lF]at hu;rcases hu with rfl|rfl|rfl|rfl<;>rfl
structure lI(B:Nat)(w:ak)(e:aM)(pv gv ev fv lv:aw):Prop where
 hp:bI ct 1 9 B w pv e.au
 hg:bI lF 4 73 B w gv e.aV
 he:bI kI 2 74 B w ev e.aP
 hf:bI bT 1 3 B w fv e.first
 hl:bI bT 1 3 B w lv e.last
def lI.parts(h:lI B w e pv gv ev fv lv):fh w e pv gv ev fv lv:=
 ⟨h.hp.jz (λ_=>rfl),h.hg.jz (λ_=>rfl),h.he.jz (λ_=>rfl),h.hf.jz (λ_=>rfl),h.hl.jz (λ_=>rfl)⟩
def lI.below(h:lI B w e pv gv ev fv lv)(hb:Below w.heap.size w w'):lI B w' e pv gv ev fv lv:=
 ⟨h.hp.below hb,h.hg.below hb,h.he.below hb,h.hf.below hb,h.hl.below hb⟩
def lI.other(h:lI B w e pv gv ev fv lv)(hg:w.grownBy w' (J b)){c:Array aw}{fr:Nat×Nat}(hb:w.heap[b]?=J (ay c 58 fr)):lI B w' e pv gv ev fv lv:=
 ⟨h.hp.other hg hb (ar rfl),h.hg.other hg hb (ar rfl),h.he.other hg hb (ar rfl),h.hf.other hg hb (ar rfl),h.hl.other hg hb (ar rfl)⟩
def qm(w:ak)(g:Nat)(cs:Array aw):w.grownBy (w.setRow g cs) (J g):=
 ⟨rfl,rfl,rfl,by simp[World.setRow],λk _ hk=>by
  have hne:¬g=k:=λe=>hk (by rw[e])
  simp[World.setRow,cL,hne]⟩
def kj{old:Array aw}{t:TypeId}{fr:Nat×Nat}(cs:Array aw)(h:w.heap[g]?=J (ay old t fr)):(w.setRow g cs).heap[g]?=J (ay cs t fr):=by simp[World.setRow,cL,h]
def vk:(prog.info? 58).map (·.size)=J 10:=by kernel_rfl
def aa3(B:Nat)(e:aM)(pa ga ea fa la:Option aC)(pc gc ec fc lc:Nat)(w:ak)(hP:fh w e (aj pa e.au.length pc) (aj ga e.aV.length gc) (aj ea e.aP.length ec) (aj fa e.first.length fc) (aj la e.last.length lc))(hS:gG e)(hB:B<=w.heap.size):Calls prog 22 #[.agg (eR e pa pc ga gc ea ec fa fc la lc)] w λv w'=>(∃gO gP iz iA iW iX jA jB ko kq,v=ax (.agg (eR e gO gP iz iA iW iX jA jB ko kq))/\lI B w' e (aj gO e.au.length gP) (aj iz e.aV.length iA) (aj iW e.aP.length iX) (aj jA e.first.length jB) (aj ko e.last.length kq))/\Below w.heap.size w w':=by
 unfold eR;obtain⟨anR,aa4,aa5,aa6,aa7⟩:=iw Kk;obtain⟨anS,aa8,aa9,aa_,aa'⟩:=iw Kl;obtain⟨anT,Dy,abb,abd,abe⟩:=iw Km;obtain⟨anU,Bk,QP,QQ,QR⟩:=iw Dx;change U _ at hP hS hB
 go_enter func22,ntmps22
 go_upto_region 3 with fail
 obtain⟨V0,ia⟩:∃V,V=((w.alloc (ay (eR e pa pc ga gc ea ec fa fc la lc) 58)).alloc (ay #[aA ⟨#[]⟩,ae af 0,aj I 0 0,ae af 0,ae af 0,ae af 0,aj I 0 0,aj I 0 0,aj I 0 0,aj I 0 0] 58)).alloc (ay (eR e pa pc ga gc ea ec fa fc la lc) 58):=⟨_,rfl⟩;rw[<- ia];have hs0:V0.heap.size=w.heap.size+3:=by rw[ia];simp
 have mN:U (Below w.heap.size w V0):=by show Below _ _ _;rw[ia];exact((aF _ _).alloc (aR _) _ |>.alloc (by simp) _).alloc (by simp;omega) _
 have gN:U (V0.heap[w.heap.size]?=J (ay (eR e pa pc ga gc ea ec fa fc la lc) 58 (0,0))):=by
  show _=_
  rw[ia];exact a8 (((aF _ _).alloc (aR _) _).alloc (by simp) _) (cj w _)
 have qY:U (V0.heap[w.heap.size+1]?=J (ay #[aA ⟨#[]⟩,ae af 0,aj I 0 0,ae af 0,ae af 0,ae af 0,aj I 0 0,aj I 0 0,aj I 0 0,aj I 0 0] 58 (0,0))):=by
  show _=_
  rw[ia];exact a8 ((aF _ _).alloc (aR _) _) (by have:=cj (w.alloc (ay (eR e pa pc ga gc ea ec fa fc la lc) 58)) (ay #[aA ⟨#[]⟩,ae af 0,aj I 0 0,ae af 0,ae af 0,ae af 0,aj I 0 0,aj I 0 0,aj I 0 0,aj I 0 0] 58);simpa using this)
 have mO:U (V0.heap[w.heap.size+2]?=J (ay (eR e pa pc ga gc ea ec fa fc la lc) 58 (0,0))):=by
  show _=_
  rw[ia];have:=cj ((w.alloc (ay (eR e pa pc ga gc ea ec fa fc la lc) 58)).alloc (ay #[aA ⟨#[]⟩,ae af 0,aj I 0 0,ae af 0,ae af 0,ae af 0,aj I 0 0,aj I 0 0,aj I 0 0,aj I 0 0] 58)) (ay (eR e pa pc ga gc ea ec fa fc la lc) 58);simpa using this
 clear ia;have s0:V0.cell? (ai w.heap.size 2 I)=J (aj pa e.au.length pc):=by have:=gN.o;simp[aH,this]
 go_upto_region 5 with(at_builtin;refine Bh (w:=V0) rfl _ _ 37 rfl B 9 _ _ 1 16 underlying37 aa4 aa5 aa6 aa7 rfl (ar rfl) rfl _ (λ_=>rfl) Ko _ _ rfl ((hP.below mN).hp) hS.hp (ar rfl) (bp hB.o mN.size) ?_;intro gO gP W0 hop hb0;have d0:W0.cell? ⟨w.heap.size+2,2,I⟩=J (aj pa e.au.length pc):=(by have:=a8 hb0 mO;simp[aH,this]);have q0:W0.frozen? ⟨w.heap.size+2,2,I⟩=false:=(by have:=a8 hb0 mO;simp[bM,this]))
 obtain⟨V1,hV1⟩:∃V,V=W0.setCell ⟨w.heap.size+2,2,I⟩ (aj gO e.au.length gP):=⟨_,rfl⟩;rw[<- hV1];have hg1:W0.grownBy V1 (J (w.heap.size+2)):=by rw[hV1];exact bJ ..
 have kr:U (V1.heap[w.heap.size+2]?=J (ay (eR e gO gP ga gc ea ec fa fc la lc) 58 (0,0))):=by
  show _=_
  have:=a8 hb0 mO;rw[hV1];simp[bN,cL,this]
 have Gu:U _:=(hg1.block _ (bL (a8 hb0 gN)) (by simp)).trans (a8 hb0 gN);have r_:U _:=(hg1.block _ (bL (a8 hb0 qY)) (by simp)).trans (a8 hb0 qY);have qo:U _:=(mN.trans (hb0.mono mN.size)).grown hg1 (bp mN.size hb0.size) (λk hk=>by cases hk;omega);have Dz:U (bI _ 1 9 B V1 _ _):=hop.other hg1 (a8 hb0 mO) (ar rfl);clear s0 d0 q0 hV1 hg1 hop hb0 gN qY mO mN;have s1:V1.cell? (ai w.heap.size 6 I)=J (aj ga e.aV.length gc):=by have:=Gu.o;simp[aH,this]
 go_upto_region 7 with(at_builtin;refine Bh (w:=V1) rfl _ _ 55 rfl B 73 _ _ 4 32 underlying55 aa8 aa9 aa_ aa' rfl (ar rfl) rfl _ (λ_=>rfl) Kq _ _ rfl ((hP.below qo).hg) hS.hg (ar rfl) (bp hB.o qo.size) ?_;intro iz iA W1 DA hb1;have d1:W1.cell? ⟨w.heap.size+2,6,I⟩=J (aj ga e.aV.length gc):=(by have:=a8 hb1 kr;simp[aH,this]);have q1:W1.frozen? ⟨w.heap.size+2,6,I⟩=false:=(by have:=a8 hb1 kr;simp[bM,this]))
 obtain⟨V2,hV2⟩:∃V,V=W1.setCell ⟨w.heap.size+2,6,I⟩ (aj iz e.aV.length iA):=⟨_,rfl⟩;rw[<- hV2];have hg2:W1.grownBy V2 (J (w.heap.size+2)):=by rw[hV2];exact bJ ..
 have eW:U (V2.heap[w.heap.size+2]?=J (ay (eR e gO gP iz iA ea ec fa fc la lc) 58 (0,0))):=by
  show _=_
  have:=a8 hb1 kr;rw[hV2];simp[bN,cL,this]
 have qp:U _:=(hg2.block _ (bL (a8 hb1 Gu)) (by simp)).trans (a8 hb1 Gu);have bZ:U _:=(hg2.block _ (bL (a8 hb1 r_)) (by simp)).trans (a8 hb1 r_);have qq:U _:=(qo.trans (hb1.mono qo.size)).grown hg2 (bp qo.size hb1.size) (λk hk=>by cases hk;omega);have DB:U (bI _ 1 9 B V2 _ _):=(Dz.below hb1).other hg2 (a8 hb1 kr) (ar rfl);have DC:U (bI _ 4 73 B V2 _ _):=DA.other hg2 (a8 hb1 kr) (ar rfl);clear s1 d1 q1 hV2 hg2 DA hb1 Gu r_ kr qo Dz;have s2:V2.cell? (ai w.heap.size 7 I)=J (aj ea e.aP.length ec):=by have:=qp.o;simp[aH,this]
 go_upto_region 9 with(at_builtin;refine Bh (w:=V2) rfl _ _ 56 rfl B 74 _ _ 2 16 underlying56 Dy abb abd abe rfl (ar rfl) rfl _ (λ_=>rfl) Kp _ _ rfl ((hP.below qq).he) hS.he (ar rfl) (bp hB.o qq.size) ?_;intro iW iX W2 DF hb2;have d2:W2.cell? ⟨w.heap.size+2,7,I⟩=J (aj ea e.aP.length ec):=(by have:=a8 hb2 eW;simp[aH,this]);have q2:W2.frozen? ⟨w.heap.size+2,7,I⟩=false:=(by have:=a8 hb2 eW;simp[bM,this]))
 obtain⟨V3,vn⟩:∃V,V=W2.setCell ⟨w.heap.size+2,7,I⟩ (aj iW e.aP.length iX):=⟨_,rfl⟩;rw[<- vn];have hg3:W2.grownBy V3 (J (w.heap.size+2)):=by rw[vn];exact bJ ..
 have gQ:U (V3.heap[w.heap.size+2]?=J (ay (eR e gO gP iz iA iW iX fa fc la lc) 58 (0,0))):=by
  show _=_
  have:=a8 hb2 eW;rw[vn];simp[bN,cL,this]
 have Gv:U _:=(hg3.block _ (bL (a8 hb2 qp)) (by simp)).trans (a8 hb2 qp);have nX:U _:=(hg3.block _ (bL (a8 hb2 bZ)) (by simp)).trans (a8 hb2 bZ);have qs:U _:=(qq.trans (hb2.mono qq.size)).grown hg3 (bp qq.size hb2.size) (λk hk=>by cases hk;omega);have DG:U (bI _ 1 9 B V3 _ _):=(DB.below hb2).other hg3 (a8 hb2 eW) (ar rfl);have DI:U (bI _ 4 73 B V3 _ _):=(DC.below hb2).other hg3 (a8 hb2 eW) (ar rfl);have DJ:U (bI _ 2 74 B V3 _ _):=DF.other hg3 (a8 hb2 eW) (ar rfl);clear s2 d2 q2 vn hg3 DF hb2 qp bZ eW qq DB DC;have s3:V3.cell? (ai w.heap.size 8 I)=J (aj fa e.first.length fc):=by have:=Gv.o;simp[aH,this]
 go_upto_region 11 with(at_builtin;refine Bh (w:=V3) rfl _ _ 44 rfl B 3 _ _ 1 8 underlying44 Bk QP QQ QR rfl (ar rfl) rfl _ (λ_=>rfl) zj _ _ rfl ((hP.below qs).hf) hS.hf (ar rfl) (bp hB.o qs.size) ?_;intro jA jB W3 bz hb3;have d3:W3.cell? ⟨w.heap.size+2,8,I⟩=J (aj fa e.first.length fc):=(by have:=a8 hb3 gQ;simp[aH,this]);have q3:W3.frozen? ⟨w.heap.size+2,8,I⟩=false:=(by have:=a8 hb3 gQ;simp[bM,this]))
 obtain⟨V4,vo⟩:∃V,V=W3.setCell ⟨w.heap.size+2,8,I⟩ (aj jA e.first.length jB):=⟨_,rfl⟩;rw[<- vo];have hg4:W3.grownBy V4 (J (w.heap.size+2)):=by rw[vo];exact bJ ..
 have jC:U (V4.heap[w.heap.size+2]?=J (ay (eR e gO gP iz iA iW iX jA jB la lc) 58 (0,0))):=by
  show _=_
  have:=a8 hb3 gQ;rw[vo];simp[bN,cL,this]
 have zk:U _:=(hg4.block _ (bL (a8 hb3 Gv)) (by simp)).trans (a8 hb3 Gv);have zm:U _:=(hg4.block _ (bL (a8 hb3 nX)) (by simp)).trans (a8 hb3 nX);have qu:U _:=(qs.trans (hb3.mono qs.size)).grown hg4 (bp qs.size hb3.size) (λk hk=>by cases hk;omega);have DK:U (bI _ 1 9 B V4 _ _):=(DG.below hb3).other hg4 (a8 hb3 gQ) (ar rfl);have DL:U (bI _ 4 73 B V4 _ _):=(DI.below hb3).other hg4 (a8 hb3 gQ) (ar rfl);have DM:U (bI _ 2 74 B V4 _ _):=(DJ.below hb3).other hg4 (a8 hb3 gQ) (ar rfl);have DN:U (bI _ 1 3 B V4 _ _):=bz.other hg4 (a8 hb3 gQ) (ar rfl);clear s3 d3 q3 vo hg4 bz hb3 Gv nX gQ qs DG DI DJ;have s4:V4.cell? (ai w.heap.size 9 I)=J (aj la e.last.length lc):=by have:=zk.o;simp[aH,this]
 go_upto_region 12 with(at_builtin;refine Bh (w:=V4) rfl _ _ 44 rfl B 3 _ _ 1 8 underlying44 Bk QP QQ QR rfl (ar rfl) rfl _ (λ_=>rfl) zj _ _ rfl ((hP.below qu).hl) hS.hl (ar rfl) (bp hB.o qu.size) ?_;intro ko kq W4 xv hb4;have d4:W4.cell? ⟨w.heap.size+2,9,I⟩=J (aj la e.last.length lc):=(by have:=a8 hb4 jC;simp[aH,this]);have q4:W4.frozen? ⟨w.heap.size+2,9,I⟩=false:=(by have:=a8 hb4 jC;simp[bM,this]))
 obtain⟨V5,vp⟩:∃V,V=W4.setCell ⟨w.heap.size+2,9,I⟩ (aj ko e.last.length kq):=⟨_,rfl⟩;rw[<- vp];have jg:W4.grownBy V5 (J (w.heap.size+2)):=by rw[vp];exact bJ ..
 have Bl:U (V5.heap[w.heap.size+2]?=J (ay (eR e gO gP iz iA iW iX jA jB ko kq) 58 (0,0))):=by
  show _=_
  have:=a8 hb4 jC;rw[vp];simp[bN,cL,this]
 have anV:U _:=(jg.block _ (bL (a8 hb4 zk)) (by simp)).trans (a8 hb4 zk);have oQ:U _:=(jg.block _ (bL (a8 hb4 zm)) (by simp)).trans (a8 hb4 zm);have DO:U _:=(qu.trans (hb4.mono qu.size)).grown jg (bp qu.size hb4.size) (λk hk=>by cases hk;omega);have Kr:U (bI _ 1 9 B V5 _ _):=(DK.below hb4).other jg (a8 hb4 jC) (ar rfl);have Ks:U (bI _ 4 73 B V5 _ _):=(DL.below hb4).other jg (a8 hb4 jC) (ar rfl);have Kt:U (bI _ 2 74 B V5 _ _):=(DM.below hb4).other jg (a8 hb4 jC) (ar rfl);have Ku:U (bI _ 1 3 B V5 _ _):=(DN.below hb4).other jg (a8 hb4 jC) (ar rfl);have Kv:U (bI _ 1 3 B V5 _ _):=xv.other jg (a8 hb4 jC) (ar rfl);clear s4 d4 q4 vp jg xv hb4 zk zm jC qu DK DL DM DN;go_wp2_with (first|(refine pB rfl 58 _ rfl _ rfl _ _ _ _ Bl underlying58 rfl vk ?_)|(refine iQ rfl 58 _ _ rfl _ _ rfl rfl 58 _ oQ vk rfl (by simp[Value.oneCell']) ?_))
 have hgr:V5.grownBy (V5.setRow _ (eR e gO gP iz iA iW iX jA jB ko kq)) (J (w.heap.size+1)):=qm _ _ _;have hres:(V5.setRow _ _).heap[w.heap.size+1]?=J (ay (eR e gO gP iz iA iW iX jA jB ko kq) 58 (0,0)):=kj _ oQ
 refine dL (mK rfl _ _ _ _ _ _ _ rfl hres underlying58 rfl vk) rfl ?_
 refine⟨⟨gO,gP,iz,iA,iW,iX,jA,jB,ko,kq,rfl,⟨Kr.other hgr oQ (ar rfl),Ks.other hgr oQ (ar rfl),Kt.other hgr oQ (ar rfl),Ku.other hgr oQ (ar rfl),Kv.other hgr oQ (ar rfl)⟩⟩,DO.grown hgr DO.size (λk hk=>by cases hk;omega)⟩
def mP(w:ak)(cs:List aw)(T:TypeId):∀(j:Nat) u,cs[j]?=J u->(w.alloc (ay cs.toArray T)).cell? ((⟨w.heap.size,0,I⟩:aC).add j)=J u:=by
 intro j u hu;rw[kM,dr _ _ _ _ rfl];simpa using hu
def qZ(h:w.ownsRow B T k v n xs){c:Array aw}{fr:Nat×Nat}(hb:w.heap[b]?=J (ay c T' fr))(hT:T'≠T):v.ownBlock≠J b:=by
 rcases h.2 with⟨rfl,_⟩|⟨g,cap,cur,rfl,_,cM,_⟩
 ·simp[dF]
 intro e;simp only[dF,dJ]at e;subst e;rw[cM]at hb;simp only[dJ,kY]at hb;exact absurd hb.2.1.symm hT
def xw.below(h:w.ownsRow B T k v n xs)(hb:Below w.heap.size w w'):w'.ownsRow B T k v n xs:=
 h.kept (row:=I) ⟨hb.os,hb.tape,hb.output,hb.size,λk hk _=>hb.block k hk⟩ (by by_cases e:v.ownBlock=I;exact aT e;exact aN e)
def iB(h:w.ownsRow B T k v n xs):∃sa c,v=aj sa n c:=by
 rcases h.2 with⟨rfl,rfl⟩|⟨g,cap,cur,rfl,_⟩
 ·exact⟨_,_,rfl⟩
 exact⟨_,_,rfl⟩
def lJ(m:b_):List aw:=[ae af m.pt,ae af m.tick,ae af m.cyc]
def abf(m:b_):(lJ m).length=3:=rfl
def abg:∀(x:b_),∀u∈lJ x,u.oneCell'=true:=by intro x u hu;simp[lJ]at hu;rcases hu with rfl|rfl|rfl<;>rfl
def abh(w:ak)(g o:Nat)(l:List b_):Prop:=∀i m,l[i]?=J m->∀j u,(lJ m)[j]?=J u->w.cell? ⟨g,o+i*3+j,I⟩=J u
def abj:(prog.info? 168).map (λi=>(i.zero,i.size,i.bytes))=J (J (bK #[ae af 0,ae af 0,ae af 0]),3,24):=by kernel_rfl
def tU(B:Nat)(w:ak)(v:aw)(ms:List b_):Prop:=w.ownsRow B 168 3 v ms.length (ms.flatMap lJ)
def tU.below(h:tU B w v ms)(hb:Below w.heap.size w w'):tU B w' v ms:=xw.below h hb
def tU.jz(h:tU B w v ms):bw lJ 3 w v ms:=bI.jz (enc:=lJ) h abf
def abk{cnt:Int}(h:l[k]?=J m):gi cnt (l.take (k+1)) cyc=gi cnt (l.take k) cyc+(if m.cyc=cyc/\m.pt=cnt then 1 else 0):=by
 rw[eI,h];exact Kh cnt _ m cyc
def abl(e:aM)(pa ga ea fa la:Option aC)(pc gc ec fc lc:Nat)(l:List b_)(cyc:Int)(sa:Option aC)(cap:Nat)(w:ak)(hl:bw lJ 3 w (aj sa l.length cap) l)(hn:l.length<=1000):Calls prog 207 #[.agg (eR e pa pc ga gc ea ec fa fc la lc),aj sa l.length cap,ae af cyc] w λv w'=>v=ax (ae af (gi e.cnt l cyc:Nat))/\Below w.heap.size w w':=by
 unfold eR;have HL:U (∀V,Below w.heap.size w V->bw lJ 3 V (aj sa l.length cap) l):=λV hV=>hl.below hV
 have HN:U (l.length<=1000):=hn;clear hl hn;go_enter func207,ntmps207
 go_upto_region 1 with fail
 obtain⟨W,hW⟩:∃V,V=w.alloc (ay (eR e pa pc ga gc ea ec fa fc la lc) 58):=⟨_,rfl⟩;rw[<- hW];have cx:U (Below w.heap.size w W):=by show Below _ _ _;rw[hW];exact aS _ _
 have HX:U (∀V,Below W.heap.size W V->V.heap[w.heap.size]?=J (ay (eR e pa pc ga gc ea ec fa fc la lc) 58 (0,0))):=λV hV=>a8 hV (by rw[hW];exact cj w _)
 clear hW;go_upto_region 2 with fail
 go_cut [8] (λi wx=>i=ae af 0/\wx=W)
 case first=>
  go_wp2
  go_meet
  case rel=>exact⟨rfl,rfl⟩
 obtain⟨rfl,rfl⟩:=hcut;rename ak=>W
 go_wp2_with fail
 go_loopw [7,8] (λnv iv wr=>∃k:Nat,k<=l.length/\iv=ae af k/\nv=ae af (gi e.cnt (l.take k) cyc:Nat)/\Below W.heap.size W wr) (λ_ iv _=>l.length-(intOf iv).toNat)
 case atStart=>exact⟨0,bA _,rfl,rfl,aF _ _⟩
 case round=>
  obtain⟨k,hk,rfl,rfl,dQ⟩:=hrel;have HB:U (Below W.heap.size W wr):=dQ;have dV:U (Below w.heap.size w wr):=cx.trans (dQ.mono cx.size);clear dQ
  by_cases hlt:k<l.length
  ·have k1:(k:Int)<(l.length:Int):=by omega
   have k2:k<1000:=by have:=HN.o;omega
   have hn:gi e.cnt (l.take k) cyc<=1000:=bp (Ki ..) (by rw[eQ];omega);obtain⟨m,hm⟩:∃m,l[k]?=J m:=⟨_,bq hlt⟩;have HS:U _:=abk (cnt:=e.cnt) (cyc:=cyc) hm;obtain⟨n,tV⟩:∃n,n=gi e.cnt (l.take k) cyc:=⟨_,rfl⟩;rw[<- tV]at HS hn;rw[<- tV];clear tV;obtain⟨bQ,cap',bH,-,hcc⟩:=HL wr dV
   cases bH
   obtain⟨gb,o,rfl,hc0⟩:=hcc (λh=>by rw[h]at hm;simp at hm);have c0:wr.cell? ⟨gb,o+k*3,I⟩=J (ae af m.pt):=hc0 k m hm 0 _ rfl;have c2:wr.cell? ⟨gb,o+k*3+2,I⟩=J (ae af m.cyc):=hc0 k m hm 2 _ rfl;have x3:wr.cell? (ai w.heap.size 3 I)=J (ae af e.cnt):=by have:=HX wr HB;simp[aH,this]
   clear hcc hc0 hm
   by_cases h1:m.cyc=cyc
   ·by_cases h2:m.pt=e.cnt
    ·have fM:U (gi e.cnt (l.take (k+1)) cyc=n+1):=by show _=_;rw[HS.o,aU ⟨h1,h2⟩]
     go_wp2_with fail
     go_quiet (fail)
     go_wp2
     go_roundw
     case rel=>exact⟨k+1,hlt,rfl,by rw[fM.o];rfl,br HB _⟩
     case measure=>simp[intOf];omega
    have fM:U (gi e.cnt (l.take (k+1)) cyc=n):=by show _=_;rw[HS.o,aK (λx=>h2 x.2)];rfl
    go_wp2_with fail
    go_quiet (fail)
    go_wp2
    go_roundw
    case rel=>exact⟨k+1,hlt,rfl,by rw[fM.o],br HB _⟩
    case measure=>simp[intOf];omega
   have fM:U (gi e.cnt (l.take (k+1)) cyc=n):=by show _=_;rw[HS.o,aK (λx=>h1 x.1)];rfl
   go_wp2_with fail
   go_quiet (fail)
   go_wp2
   go_roundw
   case rel=>exact⟨k+1,hlt,rfl,by rw[fM.o],br HB _⟩
   case measure=>simp[intOf];omega
  have k1:¬(k:Int)<(l.length:Int):=by omega
  have HE:U (gi e.cnt (l.take k) cyc=gi e.cnt l cyc):=by show _=_;rw[iM (by omega)]
  obtain⟨n,tV⟩:∃n,n=gi e.cnt (l.take k) cyc:=⟨_,rfl⟩;rw[<- tV]at HE;rw[<- tV];clear tV;go_wp2;go_ret;exact⟨by rw[HE.o];rfl,dV⟩
section
def sf(x:WG):List aw:=[ae af x.g.fr,ae af x.g.to,ae af x.g.mn,ae af x.g.mx,ae af x.t]
def Kw(x:WG):(sf x).length=5:=rfl
def abm:∀(x:WG),∀u∈sf x,u.oneCell'=true:=by intro x u hu;simp[sf]at hu;rcases hu with rfl|rfl|rfl|rfl|rfl<;>rfl
def WgAt(B b:Nat)(w:ak)(sa:Option aC)(xs:List WG):Prop:=
 xs≠[]->∃g o,sa=J ⟨g,o,I⟩/\g≠b/\B<=g/\(∀i x,xs[i]?=J x->∀j u,(sf x)[j]?=J u->w.cell? ⟨g,o+i*5+j,I⟩=J u)/\∃cur,w.heap[g]?=J (ay cur 309 (0,0))
structure eF(B:Nat)(w:ak)(b:Nat)(sa:Option aC)(cap:Nat)(s:bX):Prop where
 heap:w.heap[b]?=J (ay #[aj sa s.xs.length cap,aL s.bad] 307 (0,0))
 sl:WgAt B b w sa s.xs
 lo:B<=b
 fit:s.fit
def abn(w0 w:ak)(b:Nat)(s:bX):Prop:=Below w0.heap.size w0 w/\∃sa cap,eF w0.heap.size w b sa cap s
variable {B b cap:Nat}{w0 w w':ak}{sa:Option aC}{s:bX}{xs:List WG}
def eF.DT(h:eF B w b sa cap s)(v:Bool):eF B (w.setCell (ai b 1 I) (aL v)) b sa cap ⟨s.xs,v⟩:=by
 refine⟨?_,λhne=>?_,h.lo,h.fit⟩
 ·simp only[bN,cL,h.heap];simp
 obtain⟨g,o,e,h1,h2,hc,cur,hf⟩:=h.sl hne
 refine⟨g,o,e,h1,h2,λi x hx j u hu=>(World.cell?_setCell_other _ _ _ _ (λe=>h1 (nh Addr.block e).symm)).trans (hc i x hx j u hu),cur,?_⟩;simp only[bN,cL];rw[aK (λe=>h1 e.symm)];exact hf
def eF.abo{o:Nat}(h:eF B w b (J (ai g o I)) cap s)(hx:s.xs[k]?=J x)(ht:-1<=t/\t<=1099511627776):eF B (w.setCell ⟨g,o+k*5+4,I⟩ (ae af t)) b (J (ai g o I)) cap ⟨s.xs.set k ⟨x.g,t⟩,s.bad⟩:=by
 have hne:s.xs≠[]:=λe=>by rw[e]at hx;simp at hx
 obtain⟨g',o',e,h1,h2,hc,cur,hf⟩:=h.sl hne;obtain⟨rfl,rfl⟩:=by simpa using e
 refine⟨?_,λ_=>⟨g,o,rfl,h1,h2,λi y hy j u hu=>?_,cur.setIfInBounds (o+k*5+4) (ae af t),?_⟩,h.lo,λy hy=>?_⟩
 ·simp only[bN,cL];rw[aK h1,AX];exact h.heap
 ·simp only[List.getElem?_set]at hy
  split at hy
  ·rename_i e1;subst e1
   split at hy
   ·cases hy
    have hj:j<5:=by
     rcases fF j 5 with h'|h'
     ·exact h'
     rw[jb (by rw[Kw];exact h')]at hu;cases hu
    by_cases e4:j=4
    ·subst e4;have:u=ae af t:=by simpa[sf]using hu.symm
     subst this;exact World.cell?_setCell_same _ _ _ (hc k x hx 4 _ rfl)
    rw[World.cell?_setCell_other _ _ _ _ (by intro e;simp only[tQ]at e;omega)]
    refine hc k x hx j u ?_
    match j,hj,e4 with
    |0,_,_=>exact hu
    |1,_,_=>exact hu
    |2,_,_=>exact hu
    |3,_,_=>exact hu
    |4,_,h4=>exact absurd rfl h4
   cases hy
  rename_i e1;have hj:j<5:=by
   rcases fF j 5 with h'|h'
   ·exact h'
   rw[jb (by rw[Kw];exact h')]at hu;cases hu
  rw[World.cell?_setCell_other _ _ _ _ (by intro e;simp only[tQ]at e;omega)];exact hc i y hy j u hu
 ·simp[bN,cL,hf]
 rcases List.mem_or_eq_of_mem_set hy with h'|rfl
 ·exact h.fit y h'
 exact ht
def eF.c0(h:eF B w b sa cap s):w.cell? (ai b 0 I)=J (aj sa s.xs.length cap):=by simp[aH,h.heap]
def eF.c1(h:eF B w b sa cap s):w.cell? (ai b 1 I)=J (aL s.bad):=by simp[aH,h.heap]
def eF.f1(h:eF B w b sa cap s):w.frozen? (ai b 1 I)=false:=by simp[bM,h.heap]
def Gw(w:ak)(g o:Nat)(x:WG):Prop:=∀j u,(sf x)[j]?=J u->w.cell? ⟨g,o+j,I⟩=J u
def QS{o:Nat}{tick:Int}(h:Gw w g o x)(hx:-1<=x.t/\x.t<=1099511627776)(ht:0<=tick/\tick<=1099511627776):Calls prog 286 #[aq (J (ai g o I)),ae af tick] w λe w'=>e=ax (aL (x.bears tick))/\w'=w:=by
 have c2:=h 2 _ rfl;have c3:=h 3 _ rfl;have c4:=h 4 _ rfl;obtain⟨hx0,hx1⟩:=hx;obtain⟨FX,FY⟩:=ht
 by_cases g0:x.t=-1
 ·have HR:U (x.bears tick=false):=by show _=_;unfold WG.bears;rw[g0];rfl
  rw[g0]at c4;go_enter func286,ntmps286
  go_wp2;go_ret;exact⟨by rw[HR.o];first|rfl|(show Ending.returned (Value.bool (x.t != -1))=_;simp[g0]),rfl⟩
 by_cases g1:x.g.mn<=tick-x.t
 ·by_cases g2:tick-x.t<=x.g.mx
  ·have HR:U (x.bears tick=true):=by show _=_;unfold WG.bears;simp[g0,g1,g2]
   go_enter func286,ntmps286
   go_wp2;go_ret;exact⟨by rw[HR.o];first|rfl|(show Ending.returned (Value.bool _)=_;simp[g0]),rfl⟩
  have HR:U (x.bears tick=false):=by show _=_;unfold WG.bears;simp[g2]
  go_enter func286,ntmps286
  go_wp2;go_ret;exact⟨by rw[HR.o];first|rfl|(show Ending.returned (Value.bool (x.t != -1))=_;simp[g0]),rfl⟩
 have HR:U (x.bears tick=false):=by show _=_;unfold WG.bears;simp[g1]
 go_enter func286,ntmps286
 go_wp2;go_ret;exact⟨by rw[HR.o];first|rfl|(show Ending.returned (Value.bool (x.t != -1))=_;simp[g0]),rfl⟩
end
section
variable {B b cap:Nat}{w0 w w':ak}{sa:Option aC}{s:bX}{xs:List WG}
def abp{o:Nat}{p tick:Int}(h:Gw w g o x)(hf:w.frozen? ⟨g,o+4,I⟩=false)(hx:-1<=x.t/\x.t<=1099511627776)(ht:0<=tick/\tick<=1099511627776):Calls prog 258 #[aq (J (ai g o I)),ae af p,ae af tick] w λe w'=>e=ax (aL (x.bad p tick))/\w'=if p=x.g.fr then w.setCell ⟨g,o+4,I⟩ (ae af tick)else w:=by
 have HO:U (Gw w g o x):=h;change U _ at hx ht
 have c0:=h 0 _ rfl;have c1:=h 1 _ rfl;have c4:=h 4 _ rfl;simp only[kH]at c0
 by_cases g1:p=x.g.to
 ·by_cases g0:p=x.g.fr
  ·rw[aU g0];have HR:U (x.bad p tick=!x.bears tick):=by show _=_;unfold WG.bad;rw[bD g1];rfl
   rw[<- g1]at c1;rw[<- g0]at c0;go_enter func258,ntmps258
   go_wp2_with fail
   apply(QS HO.o hx ht).mono;rintro v w1 ⟨rfl,rfl⟩;go_wp2;go_ret;exact⟨by rw[HR.o];rfl,rfl⟩
  rw[aK g0];have HR:U (x.bad p tick=!x.bears tick):=by show _=_;unfold WG.bad;rw[bD g1];rfl
  rw[<- g1]at c1;go_enter func258,ntmps258
  go_wp2_with fail
  apply(QS HO.o hx ht).mono;rintro v w1 ⟨rfl,rfl⟩;go_wp2;go_ret;exact⟨by rw[HR.o];rfl,rfl⟩
 have HR:U (x.bad p tick=false):=by show _=_;unfold WG.bad;rw[bV g1];rfl
 by_cases g0:p=x.g.fr
 ·rw[aU g0];rw[<- g0]at c0;go_enter func258,ntmps258
  go_wp2;go_ret;exact⟨by rw[HR.o];rfl,rfl⟩
 rw[aK g0];go_enter func258,ntmps258
 go_wp2;go_ret;exact⟨by rw[HR.o];rfl,rfl⟩
def abq{α:Type}{l:List α}{x:α}(h:l[k]?=J x):l.set k x=l:=by
 apply List.ext_getElem?
 intro i;rw[List.getElem?_set]
 split
 ·rename_i e;subst e
  split
  ·exact h.symm
  rename_i hk;rw[jb (by omega)]at h
  cases h
 rfl
def eF.round{o:Nat}{p tick:Int}(h:eF B w b (J (ai g o I)) cap s)(hx:s.xs[k]?=J x)(ht:0<=tick/\tick<=1099511627776):eF B (if p=x.g.fr then w.setCell ⟨g,o+k*5+4,I⟩ (ae af tick)else w) b (J (ai g o I)) cap ⟨s.xs.set k (x.rep p tick),s.bad⟩:=by
 unfold WG.rep
 split
 ·exact h.abo hx ⟨by omega,ht.2⟩
 rw[abq hx];exact h
end
section
def abr:(prog.info? 309).map (λi=>(i.zero,i.size,i.bytes))=J (J (bK #[ae af 0,ae af 0,ae af 0,ae af 0,ae af 0]),5,40):=by kernel_rfl
def abt{w:ak}{ops:Array Oper}{rest:List Oper}{o:Oper}{a:Act}{Q:Exit->Act->ak->Prop}(hgd:o.guard=I)(l c:Operand)(t:TypeId)
  (ho:o.op=Op.makeSlice t l c) (B:Nat) (e:TypeId) (i:TypeInfo) (z:aw) (size bytes:Nat) (ht:prog.underlying t=J (.slice e)) (hi:prog.info? e=J i) (hz:i.zero=J z) (hsize:i.size=size) (hby:i.bytes=bytes) (n:Nat)
  (hl:a.eval l=.int .i64 0) (hc:a.eval c=.int .i64 (n:Int)) (hn:n<=1000000) (ki:bytes<=1000) (hB:B<=w.heap.size)
  (h:∀w',w'.ownsRow B e size (.slice (J (ai w.heap.size 0 I)) 0 n) 0 []->Below w.heap.size w w'->w'.heap.size=w.heap.size+1->wpList prog ops Q rest (a.put o.dst (.slice (J (ai w.heap.size 0 I)) 0 n)) w'):wpList prog ops Q (o::rest) a w:=by
 refine wpList_plain hgd λK hK=>?_
 have hm:i.bytes*n<=1000*1000000:=Nat.mul_le_mul (by omega) hn;have hr:=run_make (P:=prog) w t e i z ht hi hz .i64 .i64 0 n (rP _) (by omega) (by have:((i.bytes*n:Nat):Int)<=281474976710656:=(by omega);rwa [Int.natCast_mul]at this) (by omega);simp only[Int.toNat_zero,Int.toNat_natCast]at hr;unfold Oper.wp execOp;simp only[ho,hl,hc,Sem.run_bind,Sem.run_pure,yJ,hr]
 refine hK _ _ (h _ ?_ (aS _ _) (by simp));have:=AU (e:=e) (size:=size) w (madeCells z.cells (n*i.size)) n hB (by unfold maxLen;omega) (by rw[size_madeCells,hsize]);exact this
variable {B b cap:Nat}{w0 w w':ak}{sa:Option aC}{s:bX}{xs:List WG}
def abu{xs:List WG}{bad:Bool}(hb:w.heap[b]?=J (ay #[v,aL bad] 307 (0,0)))(ho:bI sf 5 309 B w v xs)(dt:B<=b)(hf:bX.fit ⟨xs,bad⟩):∃sa cap,eF B w b sa cap ⟨xs,bad⟩:=by
 rcases ho.2 with⟨rfl,h0⟩|⟨g,cap,cur,rfl,hB,hg,hle,-⟩
 ·have:=kV h0;subst this;exact⟨_,0,hb,λe=>absurd rfl e,dt,hf⟩
 refine⟨_,cap,hb,λhne=>⟨g,0,rfl,λe=>?_,hB,λi x hx j u hu=>?_,cur,hg⟩,dt,hf⟩
 ·subst e;rw[hg]at hb;simp only[dJ,kY]at hb;exact absurd hb.2.1 (ar rfl)
 have:=ho.cells (g:=g) rfl _ u (Dw Kw xs i j x u hx hu);rw[kM]at this;rw[qh];exact this
def abv(name:ByteArray)(bh cnt mn mx:Int)(pv ev fv lv:aw)(ga:Option aC)(gc:Nat)(gs:List eT)(w:ak)(hg:bw lF 4 w (aj ga gs.length gc) gs)(hlen:gs.length<=1000000):Calls prog 224 #[bK #[aA name,ae af bh,pv,ae af cnt,ae af mn,ae af mx,aj ga gs.length gc,ev,fv,lv]] w λv w'=>∃b,v=ax (aq (J (ai b 0 I)))/\abn w w' b (bX.new gs):=by
 obtain⟨i0,hi,hz0,hz1,hz2⟩:=iw abr;have HG:U (bw _ 4 w _ gs):=hg;change U _ at hlen
 clear hg;go_enter func224,ntmps224
 go_upto_region 2 with(refine abt rfl _ _ 305 rfl w.heap.size 309 i0 _ 5 40 underlying305 hi hz0 hz1 hz2 _ rfl rfl hlen (ar rfl) (by simp) ?_;intro w1 hown1 hb1 hs1)
 obtain⟨W,hW⟩:∃V,V=w1.alloc (ay #[aj (J ⟨w.heap.size+1,0,I⟩) 0 gs.length,aL false] 307):=⟨_,rfl⟩;have QT:w1.heap.size=w.heap.size+2:=by rw[hs1];simp
 clear hs1;have hBl:Below w.heap.size w W:=by rw[hW];exact(((aF _ _).alloc (aR _) _).trans (hb1.mono (by simp))).alloc (by omega) _
 change U _ at hBl
 have sg:U (W.heap[w.heap.size+2]?=J (ay #[aj (J ⟨w.heap.size+1,0,I⟩) 0 gs.length,aL false] 307 (0,0))):=by
  show _=_
  rw[hW,<- QT];exact cj w1 _
 have e6:W.cell? (ai w.heap.size 6 I)=J (aj ga gs.length gc):=by
  have h1:=a8 hb1 (cj w (ay _ 58));have h2:=a8 (aS w1 (ay #[aj (J ⟨w.heap.size+1,0,I⟩) 0 gs.length,aL false] 307)) h1;rw[hW];simp[aH,h2]
 have xx:U (W.ownsRow w.heap.size 309 5 (aj (J ⟨w.heap.size+1,0,I⟩) 0 gs.length) 0 []):=by
  show World.ownsRow _ _ _ _ _ _ _
  have h3:=hown1;simp only[tK]at h3;rw[hW];exact h3.alloc _
 have abw:U (W.heap.size=w.heap.size+3):=by show _=_;rw[hW,tK];omega
 rw[<- hW,show w.heap.size+1+1=w.heap.size+2 from rfl];clear hW hown1 hb1 QT;go_wp2_with fail
 go_loopw [15,5] (λi _ wr=>∃k:Nat,k<=gs.length/\i=ae af k/\Below w.heap.size w wr/\∃va vc,wr.heap[w.heap.size+2]?=J (ay #[aj va k vc,aL false] 307 (0,0))/\wr.ownsRow w.heap.size 309 5 (aj va k vc) k (((gs.take k).map WG.new).flatMap sf)) (λi _ _=>gs.length-(intOf i).toNat)
 case atStart=>exact⟨0,bA _,rfl,hBl,_,_,sg,by simpa using xx.o⟩
 case round=>
  clear e6 sg xx hBl abw;obtain⟨k,hk,rfl,(dQ:U _),va,vc,(tW:U _),gj⟩:=hrel;have fk:U (wr.ownsRow _ 309 5 _ k _):=gj;clear gj
  by_cases hlt:k<gs.length
  ·have k1:(k:Int)<(gs.length:Int):=by omega
   have k2:k<1000000:=by have:=hlen.o;omega
   obtain⟨x,hx⟩:∃x,gs[k]?=J x:=⟨_,bq hlt⟩;have HX:U (((gs.take (k+1)).map WG.new).flatMap sf=((gs.take k).map WG.new).flatMap sf++[ae af x.fr,ae af x.to,ae af x.mn,ae af x.mx,ae af (-1)]):=by
    show _=_
    rw[eI,hx];simp[sf,WG.new]
   obtain⟨bQ,cap',bH,-,hcc⟩:=id HG.o
   cases bH
   obtain⟨g,o,rfl,hc0⟩:=hcc (λh=>by rw[h]at hx;simp at hx);have c0:wr.cell? ⟨g,o+k*4,_⟩=J _:=aJ dQ (hc0 k _ hx 0 _ rfl);have c1:=aJ dQ (hc0 k _ hx 1 _ rfl);have c2:=aJ dQ (hc0 k _ hx 2 _ rfl);have c3:=aJ dQ (hc0 k _ hx 3 _ rfl);clear hcc hc0 hx;go_upto_region 5 with fail
   obtain⟨V,hV⟩:∃V,V=wr.alloc (ay #[ae af x.fr,ae af x.to,ae af x.mn,ae af x.mx] 73):=⟨_,rfl⟩;rw[<- hV];have nY:U (Below wr.heap.size wr V):=by show Below _ _ _;rw[hV];exact aS _ _
   have abx:U (V.heap.size=wr.heap.size+1):=by show _=_;rw[hV,tK]
   have dd:∀(j:Nat) u,([ae af x.fr,ae af x.to,ae af x.mn,ae af x.mx]:List _)[j]?=J u->V.cell? ⟨wr.heap.size,0+j,I⟩=J u:=λj u hu=>by
    rw[hV];have:=mP wr _ 73 j u hu;rwa [kM]at this
   have d0:=dd 0 _ rfl;have d1:=dd 1 _ rfl;have d2:=dd 2 _ rfl;have d3:=dd 3 _ rfl;simp only[lD]at d0 d1 d2 d3;clear hV c0 c1 c2 c3 dd;have Ky:U _:=a8 nY tW;have aby:U (V.ownsRow _ 309 5 _ k _):=xw.below fk nY;have hown:V.drew.ownsRow _ 309 5 _ k _:=aby.o;have vq:w.heap.size<=V.heap.size:=bp dQ.size (by have:=abx.o;omega);have c8:V.cell? ⟨w.heap.size+2,0,I⟩=J (aj va k vc):=by simp[aH,Ky.o]
   have DU:∀ob,(V.alloc ob).cell? _=J _:=λob=>aJ (aS _ _) c8
   have anW:∀ob,(V.alloc ob).cell? _=J _:=λob=>aJ (aS _ _) d0
   have KB:U (∀(ob:Obj) (w8:ak),(V.drew.alloc ob).grownBy w8 (Value.slice va k vc).ownBlock->w8.heap[w.heap.size+2]?=J (ay #[aj va k vc,aL false] 307 (0,0))):=λob w8 hg=>by
    have h1:(V.drew.alloc ob).heap[w.heap.size+2]?=J _:=a8 (w:=V.drew) (aS _ _) Ky;exact(hg.block _ (bL h1) (λe2=>qZ (w:=V.drew) hown Ky (ar rfl) e2.symm)).trans h1
   have KL:U (∀(ob:Obj) (w8:ak),(V.drew.alloc ob).grownBy w8 (Value.slice va k vc).ownBlock->Below w.heap.size w w8):=λob w8 hg=>by
    have h1:Below _ w (V.drew.alloc ob):=(dQ.trans (nY.mono dQ.size)).drew.alloc (by simp;omega) _;exact h1.grown hg h1.size (λi hi=>(hown.lt i hi).1)
   go_wp2_with fail
   go_region_law (refine qX _ rfl _ _ 305 rfl _ 309 i0 _ 5 40 underlying305 hi hz0 hz1 hz2 rfl (ar rfl) _ k _ (by simp[Act.eval]) (hown.alloc _) _ 1 1 _ (by simp[Act.eval]) rfl (mP V.drew [ae af x.fr,ae af x.to,ae af x.mn,ae af x.mx,ae af (-1)] 309) (abm ⟨x,-1⟩) (ar rfl) (by unfold maxLen;omega) (by omega) (by simp;omega) (V.heap.size+1) (by simp) ?_;intro g' cap' w8 eV cQ cH nA;have r8:=KB _ _ cQ;have d8:w8.cell? ⟨w.heap.size+2,0,I⟩=J (aj va k vc):=(by simp[aH,r8]);have d9:w8.frozen? ⟨w.heap.size+2,0,I⟩=false:=(by simp[bM,r8]))
   all_goals
    go_wp2
    go_roundw
    case rel=>
     refine⟨k+1,by omega,by go_num,?_,J ⟨g',0,I⟩,cap',?_,?_⟩
     ·exact(KL _ _ cQ).setCell (p:=⟨_,0,_⟩) (by simp) _
     ·simp[bN,cL,r8]
     rw[HX.o];exact eV.kept (bJ w8 ..) (aN (λe2=>qZ eV r8 (ar rfl) e2))
    case measure=>simp[intOf];omega
  have k1:¬(k:Int)<(gs.length:Int):=by omega
  have jh:k=gs.length:=by omega
  have HF:U (∃sa cap,eF w.heap.size wr _ sa cap ⟨(gs.take k).map _,_⟩):=abu tW (by
   have:=fk.o;show World.ownsRow _ _ _ _ _ _ _
   rw[show ((gs.take k).map _).length=k by simp;omega];exact this) (by omega) (by rw[jh,mL];exact bX.WO gs)
  have HE:U (bX.new gs=⟨(gs.take k).map WG.new,false⟩):=by show _=_;rw[jh,mL];rfl
  go_wp2;go_ret
  refine⟨_,rfl,dQ,?_⟩;rw[HE.o];exact HF
end
def QU{g:eT}(hm:l[k]?=J m)(h:m.cyc≠cyc\/m.pt≠g.to):kF g l cyc k=false:=by
 unfold kF;rw[hm];simp only
 rcases h with h|h
 ·rw[bV h];rfl
 unfold AL WG.bad;rw[bV h];simp
def abz{g:eT}(hm:l[k]?=J m)(h1:m.cyc=cyc)(h2:m.pt=g.to):kF g l cyc k=!(WG.mk g (p_ g.fr (l.take k))).bears m.tick:=by
 unfold kF;rw[hm];simp only;rw[bD h1];unfold AL WG.bad;rw[bD h2];rfl
def abA{g:eT}:(WG.mk g (-1)).bears t=false:=rfl
def abB{g:eT}{u d:Int}(hu:0<=u)(hd:d=t-u):(WG.mk g u).bears t=(decide (g.mn<=d)&&decide (d<=g.mx)):=by
 subst hd;unfold WG.bears;simp only;rw[bD (p:=u≠-1) (by omega)];rfl
def abC(g:eT)(l:List b_)(cyc:Int)(sa:Option aC)(cap:Nat)(w:ak)(hl:bw lJ 3 w (aj sa l.length cap) l)(hn:l.length<=1000)(ht:∀m∈l,0<=m.tick/\m.tick<=1099511627776):Calls prog 208 #[bK #[ae af g.fr,ae af g.to,ae af g.mn,ae af g.mx],aj sa l.length cap,ae af cyc] w λe w'=>e=ax (aL (kG g l cyc))/\Below w.heap.size w w':=by
 have HL:U (bw lJ 3 w (aj sa l.length cap) l):=hl;have HN:U (l.length<=1000):=hn;have HT:U (∀m∈l,0<=m.tick/\m.tick<=1099511627776):=ht;go_enter func208,ntmps208
 go_upto_region 1 with fail
 obtain⟨W,hW⟩:∃V,V=w.alloc (ay #[ae af g.fr,ae af g.to,ae af g.mn,ae af g.mx] 73):=⟨_,rfl⟩;rw[<- hW];have cx:U (Below w.heap.size w W):=by show Below _ _ _;rw[hW];exact aS _ _
 have Gx:U (∀V,Below W.heap.size W V->∀(j:Nat) u,([ae af g.fr,ae af g.to,ae af g.mn,ae af g.mx]:List aw)[j]?=J u->V.cell? (ai w.heap.size j I)=J u):=λV hV j u hu=>by
  refine aJ hV ?_;rw[hW];have:=mP w [ae af g.fr,ae af g.to,ae af g.mn,ae af g.mx] 73 j u hu;rw[kM]at this;simpa using this
 have abD:U (∀V,Below W.heap.size W V->bw lJ 3 V (aj sa l.length cap) l):=λV hV=>HL.below (cx.trans (hV.mono cx.size))
 go_cut [7] (λi wx=>i=ae af 0/\wx=W)
 case first=>
  go_wp2
  go_meet
  case rel=>exact⟨rfl,rfl⟩
 obtain⟨rfl,rfl⟩:=hcut;rename ak=>W
 go_wp2_with fail
 go_loopw [7,8,9] (λi _ _ wr=>∃k:Nat,k<=l.length/\i=ae af k/\Below W.heap.size W wr/\∀j,j<k->kF g l cyc j=false) (λi _ _ _=>l.length-(intOf i).toNat)
 case atStart=>exact⟨0,bA _,rfl,aF _ _,λj hj=>absurd hj (by omega)⟩
 case round=>
  obtain⟨k,hk,rfl,dQ,Bn⟩:=hrel;have HB:U (Below W.heap.size W wr):=dQ;have xy:U (∀j,j<k->kF g l cyc j=false):=Bn
  by_cases hlt:k<l.length
  ·have k1:(k:Int)<(l.length:Int):=by omega
   have k2:k<1000:=by have:=HN.o;omega
   obtain⟨m,hm⟩:∃m,l[k]?=J m:=⟨_,bq hlt⟩;have HM:U (l[k]?=J m):=hm;obtain⟨bQ,cap',bH,-,hcc⟩:=abD W (aF _ _)
   cases bH
   obtain⟨gb,o,rfl,hc0⟩:=hcc (λh=>by rw[h]at hm;simp at hm);have HC:U (∀V,Below W.heap.size W V->abh V gb o l):=λV hV i m hm j u hu=>aJ hV (hc0 i m hm j u hu)
   have c0:=HC wr HB k m HM 0 _ rfl;have c2:=HC wr HB k m HM 2 _ rfl;have p1:=Gx wr HB 1 _ rfl;simp only[kH]at c0;have Bo:U (kF g l cyc k=false->∀j,j<k+1->kF g l cyc j=false):=λh j hj=>by
    rcases fF j k with h1|h1
    ·exact xy j h1
    rw[show j=k by omega];exact h
   by_cases g1:m.cyc=cyc
   ·by_cases g2:m.pt=g.to
    ·have HI:U (kF g l cyc k=!(WG.mk g (p_ g.fr (l.take k))).bears m.tick):=abz HM g1 g2;have t0:=(HT m (bP HM.o)).1;have t1:=(HT m (bP HM.o)).2;have k3:-9<=(k:Int)-1:=by omega
     go_wp2_with fail
     go_quiet (fail)
     go_upto_region 5 with fail
     go_cut [8] (λj wx=>j=ae af ((k:Int)-1)/\Below W.heap.size W wx)
     case first=>
      go_wp2
      go_meet
      case rel=>exact⟨rfl,br HB _⟩
     obtain⟨rfl,nE⟩:=hcut;rename ak=>W2
     have cB:U (Below W.heap.size W W2):=nE;go_wp2_with fail
     go_loopw [8] (λj wx=>∃kk:Nat,kk<=k/\j=ae af ((kk:Int)-1)/\Below W.heap.size W wx/\∀jj m,kk<=jj->jj<k->l[jj]?=J m->m.pt≠g.fr) (λj _=>(intOf j+1).toNat)
     case atStart=>exact⟨k,aR _,rfl,cB,λjj m h1 h2=>absurd h2 (by omega)⟩
     case round=>
      obtain⟨kk,jh,rfl,cN,hno⟩:=hrel;rename ak=>W3
      have fC:U (Below W.heap.size W W3):=cN;have eX:U (∀jj m,kk<=jj->jj<k->l[jj]?=J m->m.pt≠g.fr):=hno
      match kk,jh,eX with
      |0,jh,eX=>
       have HE:U (kG g l cyc=true):=Jq hlt (by rw[HI.o,WM (by omega) eX.o,abA];rfl);rw[show (((0:Nat):Int)-1)=-1 from rfl];go_wp2_with fail
       go_quiet (fail)
       go_wp2;go_ret;exact⟨by rw[HE.o];rfl,cx.trans ((br fC _).mono cx.size)⟩
      |n+1,jh,eX=>
       rw[show (((n+1:Nat):Int)-1)=(n:Int) by omega];obtain⟨m2,oT⟩:∃m,l[n]?=J m:=⟨_,bq (by omega)⟩;have tX:U (l[n]?=J m2):=oT;have e0:=HC W3 fC n m2 oT 0 _ rfl;have e1:=HC W3 fC n m2 oT 1 _ rfl;have c1:=HC W3 fC k m HM 1 _ rfl;have u0:=(HT m2 (bP oT)).1;have u1:=(HT m2 (bP oT)).2;have p0:=Gx W3 fC 0 _ rfl;have p2:=Gx W3 fC 2 _ rfl;have p3:=Gx W3 fC 3 _ rfl;simp only[kH]at e0;have n1:n<l.length:=by omega
       have n2:(n:Int)<(l.length:Int):=by omega
       have n3:n<1000:=by omega
       by_cases q0:m2.pt=g.fr
       ·have Kz:U (kF g l cyc k=!(decide (g.mn<=m.tick-m2.tick)&&decide (m.tick-m2.tick<=g.mx))):=by
         show _=_
         rw[HI.o,WN (by omega) (by omega) eX.o tX.o q0,abB u0 rfl]
        rw[<- q0]at p0;go_wp2_with fail
        go_quiet (fail)
        go_wp2_with fail
        go_quiet (fail)
        by_cases d1:m.tick-m2.tick<g.mn
        ·have HE:U (kG g l cyc=true):=Jq hlt (by rw[Kz.o,bV (p:=g.mn<=_) (by omega)];rfl);go_wp2;go_ret;exact⟨by rw[HE.o];rfl,cx.trans ((br fC _).mono cx.size)⟩
        by_cases d2:g.mx<m.tick-m2.tick
        ·have HE:U (kG g l cyc=true):=Jq hlt (by rw[Kz.o,bV (p:=_<=g.mx) (by omega),zb];rfl);go_wp2;go_ret;exact⟨by rw[HE.o];rfl,cx.trans ((br fC _).mono cx.size)⟩
        have HF:U (kF g l cyc k=false):=by show _=_;rw[Kz.o,bD (p:=g.mn<=_) (by omega),bD (p:=_<=g.mx) (by omega)];rfl
        go_wp2
        go_roundw
        case rel=>exact⟨k+1,by omega,by go_num,br fC _,Bo HF⟩
        case measure=>simp[intOf];omega
       go_wp2_with fail
       go_quiet (fail)
       go_wp2
       go_roundw
       case rel=>
        refine⟨n,by omega,by go_num,br fC _,λjj y h1 h2 h3=>?_⟩
        rcases fF n jj with h4|h4
        ·exact eX jj y h4 h2 h3
        obtain rfl:jj=n:=by omega
        rw[tX.o]at h3
        cases h3
        exact q0
       case measure=>simp[intOf]
    have HF:U (kF g l cyc k=false):=QU HM (aN g2);go_wp2_with fail
    go_quiet (fail)
    go_wp2
    go_roundw
    case rel=>exact⟨k+1,by omega,by go_num,br HB _,Bo HF⟩
    case measure=>simp[intOf];omega
   have HF:U (kF g l cyc k=false):=QU HM (aT g1);go_wp2_with fail
   go_quiet (fail)
   go_wp2
   go_roundw
   case rel=>exact⟨k+1,by omega,by go_num,br HB _,Bo HF⟩
   case measure=>simp[intOf];omega
  have k1:¬(k:Int)<(l.length:Int):=by omega
  have HE:U (kG g l cyc=false):=OU (λj hj=>xy j (by omega));go_wp2;go_ret;exact⟨by rw[HE.o];rfl,cx.trans (HB.mono cx.size)⟩
def sj{l:List Int}(h:bw bT 1 w (aj sa l.length cap) l){x:Int}(hx:l[k]?=J x):∃g o,sa=J ⟨g,o,I⟩/\∀i x,l[i]?=J x->w.cell? ⟨g,o+i,I⟩=J (ae af x):=by
 obtain⟨bQ,cap',bH,-,hcc⟩:=h
 cases bH
 obtain⟨g,o,rfl,hc0⟩:=hcc (λh=>by rw[h]at hx;simp at hx);exact⟨g,o,rfl,λi x hx=>by have:=hc0 i x hx 0 _ rfl;simpa using this⟩
def Gy(l:List Int)(n:Int)(sa:Option aC)(cap:Nat)(w:ak)(h:bw bT 1 w (aj sa l.length cap) l)(hn:l.length<=1000000):Calls prog 91 #[aj sa l.length cap,ae af n] w λe w'=>e=ax (aL (l.any λy=>decide (n=y)))/\w'=w:=by
 have HL:U (bw _ 1 w _ l):=h;go_enter func91,ntmps91
 go_wp2_with fail
 go_loopw [5] (λi wr=>wr=w/\∃k:Nat,k<=l.length/\i=ae af k/\∀j x,j<k->l[j]?=J x->n≠x) (λi _=>l.length-(intOf i).toNat)
 case atStart=>exact⟨rfl,0,bA _,rfl,λj x hj=>absurd hj (by omega)⟩
 case round=>
  obtain⟨rfl,k,hk,rfl,(hno:U _)⟩:=hrel
  by_cases hlt:k<l.length
  ·have k1:(k:Int)<(l.length:Int):=by omega
   obtain⟨x,hx⟩:∃x,l[k]?=J x:=⟨_,bq hlt⟩;obtain⟨g,o,rfl,hc⟩:=sj HL hx;have c0:=hc k x hx;clear hc;change U _ at hx
   by_cases e:x=n
   ·subst e;have HE:U ((l.any λy=>decide (x=y))=true):=by show _=_;rw[kD];exact⟨x,bP hx.o,by simp⟩
    go_wp2;go_ret;exact⟨by rw[HE.o];rfl,rfl⟩
   go_wp2
   go_roundw
   case rel=>
    refine⟨trivial,k+1,by omega,by go_num,λj y hj hy=>?_⟩
    rcases fF j k with h1|h1
    ·exact hno j y h1 hy
    obtain rfl:j=k:=by omega
    rw[hx.o]at hy
    cases hy
    exact λe2=>e e2.symm
   case measure=>simp[intOf];omega
  have k1:¬(k:Int)<(l.length:Int):=by omega
  have HE:U ((l.any λy=>decide (n=y))=false):=by
   show _=_
   rw[jY];intro y hy;obtain⟨j,hj⟩:=r7 hy;have nC:j<l.length:=by
    rcases fF j l.length with h'|h'
    ·exact h'
    rw[jb h']at hj;cases hj
   simpa using hno.o j y (by omega) hj
  go_wp2;go_ret;exact⟨by rw[HE.o];rfl,rfl⟩
def abE(a b c d:Int)(w:ak):(Op.equalIn 10000 74 (bK #[ae af a,ae af b]) (bK #[ae af c,ae af d])).run prog w=.ok ((a==c)&&(b==d)) w:=by
 rw[show (10000:Nat)=9998+2 from rfl,Op.equalIn];simp only[Sem.run_bind,run_underlying underlying74,yJ,sizeOf3,Std.Legacy.Range.forIn_eq_forIn_range',Std.Legacy.Range.size,Nat.sub_zero,CX,Nat.div_one];have p0:∀x y:Int,(part 3 #[ae af x,ae af y] (0*1)).run prog w=.ok (ae af x) w:=λx y=>by simp[part]
 have p1:∀x y:Int,(part 3 #[ae af x,ae af y] (1*1)).run prog w=.ok (ae af y) w:=λx y=>by simp[part]
 have pe:∀x y:Int,(Op.equalIn _ 3 _ _).run _ w=.ok (x==y) w:=λx y=>run_equalIn_int w 9998 3 af af _ _ underlying3
 have hr:List.range' 0 2 1=[0,1]:=by decide
 rw[hr];simp only[List.forIn_cons,List.forIn_nil,Sem.run_bind,p0,pe,yJ]
 cases h1:(a==c)
 ·simp
 simp only[Bool.not_true,Bool.false_eq_true,if_false,Sem.run_pure,yJ,Bool.true_and,Sem.run_bind,p1,pe]
 cases h2:(b==d)<;>simp
def Bp(a b c d:Int)(w:ak):(binOp .eql 74 (bK #[ae af a,ae af b]) (bK #[ae af c,ae af d])).run prog w=.ok (aL ((a==c)&&(b==d))) w:=by
 rw[run_eql_struct,abE];rfl
def DV:prog.eqGuardType prog.depth 74=false:=by kernel_rfl
def KA(l:List Int)(p:Int):(l.any λy=>decide (p=y))=decide (p∈l):=by
 rw[Bool.eq_iff_iff];simp
def abF(e:aM)(pa ga ea fa la:Option aC)(pc gc ec fc lc:Nat)(ah p:Int)(w:ak)(hP:fh w e (aj pa e.au.length pc) (aj ga e.aV.length gc) (aj ea e.aP.length ec) (aj fa e.first.length fc) (aj la e.last.length lc))(hS:gG e)(Gz:ah=-1\/0<=ah):Calls prog 246 #[.agg (eR e pa pc ga gc ea ec fa fc la lc),ae af ah,ae af p] w λv w'=>v=ax (aL (iu e ah p))/\Below w.heap.size w w':=by
 unfold eR;have HP:U (∀V,Below w.heap.size w V->fh V e (aj pa e.au.length pc) (aj ga e.aV.length gc) (aj ea e.aP.length ec) (aj fa e.first.length fc) (aj la e.last.length lc)):=λV hV=>hP.below hV
 have eG:U (gG e):=hS;have HA:U (ah=-1\/0<=ah):=Gz;clear hP hS Gz;go_enter func246,ntmps246
 go_upto_region 1 with fail
 obtain⟨W,hW⟩:∃V,V=w.alloc (ay (eR e pa pc ga gc ea ec fa fc la lc) 58):=⟨_,rfl⟩;rw[<- hW];have cx:U (Below w.heap.size w W):=by show Below _ _ _;rw[hW];exact aS _ _
 have HX:U (∀V,Below W.heap.size W V->∀(j:Nat) u,((eR e pa pc ga gc ea ec fa fc la lc):Array aw)[j]?=J u->V.cell? (ai w.heap.size j I)=J u):=λV hV j u hu=>by
  refine aJ hV ?_;rw[hW];have:=mP w [aA e.name,ae af e.bh,aj pa e.au.length pc,ae af e.cnt,ae af e.mn,ae af e.mx,aj ga e.aV.length gc,aj ea e.aP.length ec,aj fa e.first.length fc,aj la e.last.length lc] 58 j u (by simpa using hu);rw[kM]at this;simpa using this
 clear hW;have p7:=HX W (aF _ _) 7 _ rfl
 by_cases h0:e.aP=[]
 ·have hz:e.aP.length=0:=by rw[h0];rfl
  have HR:U (iu e ah p=true):=by show _=_;unfold iu;rw[bD h0];rfl
  clear h0;go_wp2;go_ret;exact⟨by rw[HR.o];rfl,cx⟩
 have hz:¬(e.aP.length:Int)=0:=by
  have:e.aP.length≠0:=λh=>h0 (kV h)
  omega
 have HD:U (iu e ah p=(fq e p&&(if ah=-1 then decide (p∈e.first)else decide ((ah,p)∈e.aP)))):=by show _=_;unfold iu;rw[bV h0];rfl
 clear h0;have p2:=HX W (aF _ _) 2 _ rfl
 by_cases q0:p<0
 ·have HR:U (iu e ah p=false):=by show _=_;rw[HD.o];unfold fq;rw[bV (by omega)];rfl
  go_wp2;go_ret;exact⟨by rw[HR.o];rfl,cx⟩
 by_cases q1:(e.au.length:Int)<=p
 ·have HR:U (iu e ah p=false):=by show _=_;rw[HD.o];unfold fq;rw[bV (p:=p<_) (by omega),zb];rfl
  go_wp2;go_ret;exact⟨by rw[HR.o];rfl,cx⟩
 have HH:U (fq e p=true):=by show _=_;unfold fq;rw[bD (by omega),bD (by omega)];rfl
 by_cases q2:ah=-1
 ·have HR:U (iu e ah p=(e.first.any λy=>decide (p=y))):=by show _=_;rw[HD.o,HH.o,aU q2,KA];rfl
  have p8:=HX W (aF _ _) 8 _ rfl;subst q2;go_wp2_with (go_at_call 91;apply(Gy e.first p _ _ _ (HP _ cx).hf eG.hf).mono;rintro v w' ⟨rfl,rfl⟩)
  go_ret;exact⟨by rw[HR.o];rfl,cx⟩
 have HR:U (iu e ah p=decide ((ah,p)∈e.aP)):=by show _=_;rw[HD.o,HH.o,aK q2];rfl
 have q3:¬ah<0:=by rcases HA.o with h|h;exact absurd h q2;omega
 clear HD HH q2 HA;go_upto_region 7 with fail
 go_cut [7] (λi wx=>i=ae af 0/\wx=W)
 case first=>
  go_wp2
  go_meet
  case rel=>exact⟨rfl,rfl⟩
 obtain⟨rfl,rfl⟩:=hcut;rename ak=>W
 clear p2 p7 hz q0 q1 q3;go_wp2_with fail
 go_loopw [7] (λi wr=>∃k:Nat,k<=e.aP.length/\i=ae af k/\wr=W/\∀j,j<k->e.aP[j]?≠J (ah,p)) (λi _=>e.aP.length-(intOf i).toNat)
 case atStart=>exact⟨0,bA _,rfl,rfl,λj hj=>absurd hj (by omega)⟩
 case round=>
  obtain⟨k,hk,rfl,rfl,hno⟩:=hrel;have eX:U (∀j,j<k->e.aP[j]?≠J (ah,p)):=hno;clear hno;have p7:=HX _ (aF _ _) 7 _ rfl
  by_cases hlt:k<e.aP.length
  ·have k1:(k:Int)<(e.aP.length:Int):=by omega
   have k2:k<1000000:=by have:=eG.he;omega
   obtain⟨x,hx⟩:∃x,e.aP[k]?=J x:=⟨_,bq hlt⟩;have GA:U (e.aP[k]?=J x):=hx;obtain⟨bQ,cap',bH,-,hcc⟩:=(HP _ cx).he
   cases bH
   obtain⟨g,o,rfl,hc0⟩:=hcc (λh=>by rw[h]at hx;simp at hx);have c0:=hc0 k _ hx 0 _ rfl;have c1:=hc0 k _ hx 1 _ rfl;simp only[kH]at c0;clear hcc hc0 hx;have KC:=DV
   by_cases tY:x=(ah,p)
   ·have GC:∀w,(binOp .eql 74 (bK #[ae af x.1,ae af x.2]) (bK #[ae af ah,ae af p])).run prog w=.ok (aL true) w:=λw=>by rw[Bp,tY];simp
    have HE:U ((ah,p)∈e.aP):=by show _∈_;rw[<- tY];exact bP GA.o
    clear tY;go_wp2;go_ret;exact⟨by rw[HR.o,bD HE.o];rfl,cx⟩
   have GC:∀w,(binOp .eql 74 (bK #[ae af x.1,ae af x.2]) (bK #[ae af ah,ae af p])).run prog w=.ok (aL false) w:=λw=>by
    rw[Bp];have:((x.1==ah)&&(x.2==p))=false:=by
     rw[Bool.eq_false_iff];intro h;simp at h
     exact tY (Prod.ext h.1 h.2)
    rw[this]
   have HE:U (∀j,j<k+1->e.aP[j]?≠J (ah,p)):=λj hj=>by
    rcases fF j k with h1|h1
    ·exact eX j h1
    rw[show j=k by omega,GA.o];intro h;exact tY (by simpa using h)
   clear tY;go_wp2
   go_roundw
   case rel=>exact⟨k+1,by omega,by go_num,trivial,HE⟩
   case measure=>simp[intOf];omega
  have k1:¬(k:Int)<(e.aP.length:Int):=by omega
  have HE:U ((ah,p)∉e.aP):=by
   show _∉_
   intro h;obtain⟨i,hi⟩:=r7 h;have:i<e.aP.length:=(df.1 hi).1;exact eX i (by omega) hi
  go_wp2;go_ret;exact⟨by rw[HR.o,bV HE.o];rfl,cx⟩
end Go.Proofs.YtgjlihibabmgcaaGreatDoor
