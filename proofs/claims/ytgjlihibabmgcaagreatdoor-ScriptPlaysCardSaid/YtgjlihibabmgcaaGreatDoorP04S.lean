/-
  Several texts as one: LoSteps, LoEnd, LoNew, LoOps, LoFin, KpLoc, KpRing, DcIdx, ToSt, KeMem, ScNum, ScBnd, CfNamP, CfName, CfFirst, CfCfg, CfNames, ScMap, ScCmd, KeOps.
-/
import Derived.Test.YtgjlihibabmgcaaGreatDoorP03S
import Derived.Lib.ConvBytes
import Derived.Laws.EntriesVeiled
import Derived.Shelf.Abstract
import Derived.StringKeys
set_option linter.all false
set_option maxHeartbeats 40000000
set_option maxRecDepth 100000
abbrev ji.{u,v}:=@List.flatMap_append.{u,v}
abbrev oo:=@Nat.not_lt_zero
abbrev vA:=@Go.wpList_append_lies
abbrev xH:=@Go.World.ownsRow.alloc
abbrev vB:=@Int.ofNat_zero
abbrev G':=@Go.WideMaps.keyOf_string_mk
abbrev Ha.{u}:=@List.findIdx?_eq_none_iff.{u}
open Go renaming Addr→aC,Value→aw,World→ak
open Go.Addr renaming mk→ai
open Go.Ending renaming returned→ax
open Go.IntKind renaming i64→af
open Go.Obj renaming cells→ay
open Go.RowKit renaming Hid→U
open Go.Value renaming agg→bK,bool→aL,int→ae,ownBlock→dF,pointer→aq,slice→aj,string→aA,tuple→bn
open Go.World renaming cell?→aH,frozen?→bM,setCell→bN
open Option renaming none→I,some→J
open Go.Proofs.Tryz
namespace Go.Proofs.YtgjlihibabmgcaaGreatDoor
open Go.Extern Go.Extern.Stop Go.RowKit Go.Stop
variable{A:Nat->aC}{B b bx cap g i j k m mb n rb:Nat}{D:DataW Unit}{E:EA}{S:Nat->Prop}{T:TypeId}{W w w' w0:ak}{a l:List ByteArray}{c:Array aw}{d:bR}{e:aM}{f:jd}{fv lv v:aw}{s:ByteArray}{s':aI}{sa:Option aC}{so:Option dw}
section
variable {F F':Nat->Prop}{w w' w'':ak}{b ba bg bf:Nat}{e:aM}{E:EA}{s:fo}
def D8{c':Array aw}{T':TypeId}{fr vz:Nat×Nat}(h1:w.heap[i]?=J (ay c T fr))(h2:w.heap[j]?=J (ay c' T' vz))(hT:T≠T'):i≠j:=by
 rintro rfl;rw[h1]at h2;simp only[dJ,kY]at h2;exact hT h2.2.1
def Hc{α:Type}{enc:α->List aw}{xs:List α}(h:bI enc k T B w v xs)(hg:v.ownBlock=J g):∃c fr,w.heap[g]?=J (ay c T fr):=by
 rcases h.2 with⟨rfl,_⟩|⟨g',cap,cur,rfl,_,cM,_⟩
 ·simp[dF]at hg
 simp only[dF,dJ]at hg;subst hg;exact⟨_,_,cM⟩
def zx{s:bX}(h:eF B w b sa cap s)(hk:GS b sa s.xs.length k):∃c T fr,w.heap[k]?=J (ay c T fr)/\(T=307\/T=309):=by
 rcases hk with rfl|⟨h0,o,e1⟩
 ·exact⟨_,_,_,h.heap,aT rfl⟩
 obtain⟨g,o',e2,-,-,-,cur,hf⟩:=h.sl (sq.1 h0);rw[e1]at e2;simp only[dJ,tQ,rh]at e2;obtain⟨rfl,-⟩:=e2;exact⟨_,_,_,hf,aN rfl⟩
def dW.RG(h:dW B w b e f m n D fv lv)(ho:aG S w w')(hS:∀k,S k->∃c T fr,w.heap[k]?=J (.cells c T fr)/\T≠312/\T≠3):dW B w' b e f m n D fv lv:=by
 have g:∀k,k<w.heap.size->(∀c T fr,w.heap[k]?=J (.cells c T fr)->T=312\/T=3)->w'.heap[k]?=w.heap[k]?:=λk hk hT=>by
  refine ho.block k hk (λhs=>?_);obtain⟨c,T,fr,h1,h2,h3⟩:=hS k hs
  rcases hT c T fr h1 with rfl|rfl
  ·exact h2 rfl
  exact h3 rfl
 refine h.same (g b (bL h.heap) (λc T fr hc=>?_)) (g m (map_lt h) (λc T fr hc=>?_)) (λk hk=>g k (h.hf.lt k hk).2 (λc T fr hc=>?_)) (λk hk=>g k (h.hl.lt k hk).2 (λc T fr hc=>?_))
 ·rw[h.heap]at hc;simp only[dJ,kY]at hc;exact aT hc.2.1.symm
 ·obtain⟨es,c',zw,rest⟩:=h.own;rw[zw]at hc
  cases hc
 ·obtain⟨c',vz,h1⟩:=Hc h.hf hk;rw[h1]at hc;simp only[dJ,kY]at hc;exact aN hc.2.1.symm
 obtain⟨c',vz,h1⟩:=Hc h.hl hk;rw[h1]at hc;simp only[dJ,kY]at hc;exact aN hc.2.1.symm
def i6.RH{a:fw}(h:i6 F w ba bg bf e s)(hg:w.grownBy w' (J ba))(ha:h_ w' ba a):i6 F w' ba bg bf e ⟨a,s.g,s.f⟩:=by
 obtain⟨sa,cap,h1,h2⟩:=h.ga;obtain⟨m,n,D,fv,lv,h3,h4,h5,h6,h7⟩:=h.fl
 refine⟨ha,h.fa,⟨sa,cap,h1.same (λk hk=>?_),h2⟩,⟨m,n,D,fv,lv,h3.RG (aG.cG hg) (λk hk=>?_),h4,h5,h6,h7⟩,h.gl⟩
 ·obtain⟨c,T,fr,h8,h9⟩:=zx h1 hk
  refine hg.block k (bL h8) (λe1=>?_)
  refine D8 h8 h.al.heap ?_ (fg e1)
  rcases h9 with rfl|rfl<;>decide
 subst hk;exact⟨_,_,_,h.al.heap,by decide,by decide⟩
def i6.RI(h:i6 F w ba bg bf e s)(hg:w.grownBy w' (J ba)):fH F w w':=fH.put hg h.al.heap (aN (aT rfl)) h.fa
def i6.RJ{g:bX}(h:i6 F w ba bg bf e s)(h1:eF 0 w bg sa cap s.g)(h2:∀k,GS bg sa s.g.xs.length k->F k)(ho:aG (GS bg sa s.g.xs.length) w w')(hg:eF 0 w' bg sa cap g)(hl:g.xs.length=s.g.xs.length):i6 F w' ba bg bf e ⟨s.a,g,s.f⟩:=by
 obtain⟨m,n,D,fv,lv,h3,h4,h5,h6,h7⟩:=h.fl
 refine⟨h.al.same (ho.block ba (bL h.al.heap) (λhs=>?_)),h.fa,⟨sa,cap,hg,λk hk=>h2 k (by rw[<- hl];exact hk)⟩,⟨m,n,D,fv,lv,h3.RG ho (λk hk=>?_),h4,h5,h6,h7⟩,hl.trans h.gl⟩
 ·obtain⟨c,T,fr,h8,h9⟩:=zx h1 hs
  refine D8 h8 h.al.heap ?_ rfl
  rcases h9 with rfl|rfl<;>decide
 obtain⟨c,T,fr,h8,h9⟩:=zx h1 hk
 refine⟨c,T,fr,h8,?_,?_⟩
 ·rcases h9 with rfl|rfl<;>decide
 rcases h9 with rfl|rfl<;>decide
def RL{g:bX}(h1:eF 0 w bg sa cap g)(h2:∀k,GS bg sa g.xs.length k->F k)(ho:aG (GS bg sa g.xs.length) w w'):fH F w w':=by
 refine fH.of _ ho (λk _ hk=>⟨h2 k hk,?_⟩);obtain⟨c,T,fr,h8,h9⟩:=zx h1 hk
 refine⟨c,T,fr,h8,?_⟩
 rcases h9 with rfl|rfl
 ·exact aN (aN (aT rfl))
 exact aN (aN (aN (aT rfl)))
def i6.RM(h:i6 F w ba bg bf e s)(h3:dW 0 w bf e s.f m n D fv lv)(h4:F bf)(h5:F m)(h6:∀g,fv.ownBlock=J g->F g)(h7:∀g,lv.ownBlock=J g->F g)(hg:w.grownBy w' (J bf))(hf:dW 0 w' bf e f m n D fv lv):i6 F w' ba bg bf e ⟨s.a,s.g,f⟩:=by
 obtain⟨sa,cap,h1,h2⟩:=h.ga
 refine⟨h.al.same (hg.block ba (bL h.al.heap) (λe1=>?_)),h.fa,⟨sa,cap,h1.same (λk hk=>?_),h2⟩,⟨m,n,D,fv,lv,hf,h4,h5,h6,h7⟩,h.gl⟩
 ·exact D8 h.al.heap h3.heap (ar rfl) (fg e1)
 obtain⟨c,T,fr,h8,h9⟩:=zx h1 hk
 refine hg.block k (bL h8) (λe1=>?_)
 refine D8 h8 h3.heap ?_ (fg e1)
 rcases h9 with rfl|rfl<;>decide
def RN(h3:dW 0 w bf e f m n D fv lv)(h4:F bf)(hg:w.grownBy w' (J bf)):fH F w w':=fH.put hg h3.heap (aN (aN (aN (aN rfl)))) h4
def Ln{fr:Nat×Nat}(hb:w.heap[b]?=J (ay c 229 fr))(ho:aG S w w')(hS:∀k,S k->∃c T fr,w.heap[k]?=J (ay c T fr)/\T≠229):w'.heap[b]?=J (ay c 229 fr):=by
 refine(ho.block b (bL hb) (λhs=>?_)).trans hb;obtain⟨c',T,vz,h1,h2⟩:=hS b hs;exact D8 h1 hb h2 rfl
def i6.RO(h:i6 F w ba bg bf e s){fr:Nat×Nat}(hb:w.heap[b]?=J (ay c 229 fr))(hg:w.grownBy w' (J ba)):w'.heap[b]?=J (ay c 229 fr):=
 Ln hb (aG.cG hg) (λk hk=>by subst hk;exact⟨_,_,_,h.al.heap,by decide⟩)
def RP{g:bX}(h1:eF 0 w bg sa cap g){fr:Nat×Nat}(hb:w.heap[b]?=J (ay c 229 fr))(ho:aG (GS bg sa g.xs.length) w w'):w'.heap[b]?=J (ay c 229 fr):=
 Ln hb ho (λk hk=>by
  obtain⟨c,T,fr,h8,h9⟩:=zx h1 hk
  refine⟨c,T,fr,h8,?_⟩
  rcases h9 with rfl|rfl<;>decide)
def RQ(h3:dW 0 w bf e f m n D fv lv){fr:Nat×Nat}(hb:w.heap[b]?=J (.cells c 229 fr))(hg:w.grownBy w' (J bf)):w'.heap[b]?=J (.cells c 229 fr):=
 Ln hb (aG.cG hg) (λk hk=>by subst hk;exact⟨_,_,_,h3.heap,by decide⟩)
structure rk(F:Nat->Prop)(w w':ak)(b ba bg bf:Nat)(e:aM)(s:fo)(c:Array aw):Prop where
 jR:i6 F w' ba bg bf e s
 row:w'.heap[b]?=J (ay c 229 (0,0))
 fr:fH F w w'
def acZ(p t:Int)(c:Array aw)(h:i6 F w ba bg bf e s)(hb:w.heap[b]?=J (ay c 229 (0,0)))(h0:c[0]?=J (aq (J (ai ba 0 I))))(h1:c[1]?=J (aq (J (ai bg 0 I))))(h2:c[2]?=J (aq (J (ai bf 0 I))))(hS:gG e):Calls prog 188 #[aq (J (ai b 0 I)),ae af p,ae af t] w λv w'=>v=ax (bn #[])/\rk F w w' b ba bg bf e (s.rep e p t) c:=by
 change U _ at h h1 h2 hS
 have c0:w.cell? (ai b 0 I)=J (aq (J (ai ba 0 I))):=by simp[aH,hb,h0]
 clear h0;change U _ at hb;go_enter func188,ntmps188
 go_wp2_with fail
 apply(acO p h.al).mono;rintro v w1 ⟨rfl,hA,hg⟩;have H':U (rk F w w1 b ba bg bf e _ c):=⟨h.RH hg hA,h.RO hb hg,h.RI hg⟩;have c1:w1.cell? (ai b 1 I)=J (aq (J (ai bg 0 I))):=by simp[aH,H'.row,h1.o]
 go_wp2_with fail
 obtain⟨sa,cap,hG,Hd⟩:=H'.jR.ga;have HG:U (eF 0 w1 bg sa cap s.g/\∀k,GS bg sa s.g.xs.length k->F k):=⟨hG,Hd⟩
 apply(acR p t HG.1 (by have h5:s.g.xs.length=e.aV.length:=H'.jR.gl;have:=hS.hg;omega)).mono;rintro v w2 ⟨rfl,hA,hg⟩;have H3:U (rk F w w2 b ba bg bf e ⟨s.a.rep p,_,s.f⟩ c):=⟨H'.jR.RJ HG.1 HG.2 hg hA (acy ..),RP HG.1 H'.row hg,H'.fr.trans (RL HG.1 HG.2 hg) (λ_ _ x=>x)⟩;have c2:w2.cell? (ai b 2 I)=J (aq (J (ai bf 0 I))):=by simp[aH,H3.row,h2.o]
 go_wp2_with fail
 obtain⟨m,n,D,fv,lv,D9,ac0,ac1,ac2,ac3⟩:=H3.jR.fl;have HF:U (dW 0 w2 bf e s.f m n D fv lv/\F bf/\F m/\(∀g,fv.ownBlock=J g->F g)/\∀g,lv.ownBlock=J g->F g):=⟨D9,ac0,ac1,ac2,ac3⟩
 apply(acU p HF.1).mono;rintro v w3 ⟨rfl,hA,hg⟩;have H4:U (rk F w w3 b ba bg bf e (s.rep e p t) c):=⟨H3.jR.RM HF.1 HF.2.1 HF.2.2.1 HF.2.2.2.1 HF.2.2.2.2 hg hA,RQ HF.1 H3.row hg,H3.fr.trans (RN HF.1 HF.2.1 hg) (λ_ _ x=>x)⟩;go_wp2;go_end0
 exact⟨rfl,H4⟩
end
section
variable {F F':Nat->Prop}{w w' w'':ak}{b ba bg bf:Nat}{e:aM}{E:EA}{s:fo}
def He(s:fo)(x y z:Bool):fo:=⟨if x then s.a.zero else s.a,if y then s.g.zero else s.g,if z then s.f.zero else s.f⟩
def ac4(s:fo):He s false false false=s:=rfl
def ac5(s:fo):He s true true true=s.zero:=rfl
def ac6(s:fo)(wh:Bool)(b ba bg bf:Nat):Nat->aw->Prop
 |0=>λv=>v=aq (J (ai b 0 I))
 |1=>λv=>v=aq (J (ai b 0 I))
 |2=>λv=>v=aq (J (ai b 0 I))
 |3=>λv=>v=aq (J (ai ba 0 I))
 |4=>λv=>v=aL wh
 |5=>λv=>v=aL (s.a.well wh)
 |6=>λv=>v=aq (J (ai b 0 I))
 |7=>λv=>v=aq (J (ai b 0 I))
 |8=>λv=>v=aq (J (ai b 1 I))
 |9=>λv=>v=aq (J (ai bg 0 I))
 |10=>λv=>v=aL (!s.g.bad)
 |11=>λv=>v=aq (J (ai b 0 I))
 |12=>λv=>v=aq (J (ai b 0 I))
 |13=>λv=>v=aq (J (ai b 2 I))
 |14=>λv=>v=aq (J (ai bf 0 I))
 |15=>λv=>v=aL (!s.f.bad)
 |16=>λv=>v=aL (s.a.well wh)
 |17=>λv=>v=aL (!s.g.bad)
 |18=>λv=>v=aL (!s.f.bad)
 |_=>λ_=>True
def ac7(wh:Bool)(c:Array aw)(h:i6 F w ba bg bf e s)(hb:w.heap[b]?=J (ay c 229 (0,0)))(h0:c[0]?=J (aq (J (ai ba 0 I))))(h1:c[1]?=J (aq (J (ai bg 0 I))))(h2:c[2]?=J (aq (J (ai bf 0 I)))):Calls prog 288 #[aq (J (ai b 0 I)),aL wh] w λv w'=>v=ax (ae af (s.kind wh))/\rk F w w' b ba bg bf e s.zero c:=by
 have HW:U (rk F w w b ba bg bf e s c):=⟨h,hb,fH.refl _ _⟩;change U _ at h0
 have H1:U _:=h1;have H2:U _:=h2;go_enter func288,ntmps288
 go_wp2_with fail
 refine Du 19 rfl (λj v _=>ac6 s wh b ba bg bf j v) (λdone V=>rk F w V b ba bg bf e (He s (done 5) (done 10) (done 15)) c) (by kernel_rfl) (by kernel_rfl) ⟨by show i6 _ _ _ _ _ _ (He s false false false);rw[ac4];exact HW.jR.same (λ_ _=>rfl),HW.row,fH.below (aF _ _).drew⟩ ?_ ?_
 ·refine mM ⟨?_,?_,?_,?_,?_,?_,?_,?_,?_,?_,?_,?_,?_,?_,?_,?_,?_,?_,?_,trivial⟩
  all_goals
   refine zf.free rfl ?_;intro done a V hC ue fL aB aQ
  ·have x0:a.tmps[0]?.getD _=aq _:=aW (aQ 0 (dS (by kernel_rfl)));exact dA.val (c:=aq _) (by clear aB aQ fL hC;go_simp) (by rw[cq _ (show 5≠0 by decide),cq _ (show 10≠0 by decide),cq _ (show 15≠0 by decide)];exact hC) rfl
  ·have x8:a.tmps[8]?.getD _=aq _:=aW (aB _ 8 (bj (i:=0) rfl) rfl rfl);exact dA.val (c:=aq _) (by clear aB aQ fL hC;go_simp) (by rw[cq _ (show 5≠1 by decide),cq _ (show 10≠1 by decide),cq _ (show 15≠1 by decide)];exact hC) rfl
  ·have x9:a.tmps[9]?.getD _=aq _:=aW (aB _ 9 (bj (i:=0) rfl) rfl rfl);exact dA.val (c:=aq _) (by clear aB aQ fL hC;go_simp) (by rw[cq _ (show 5≠2 by decide),cq _ (show 10≠2 by decide),cq _ (show 15≠2 by decide)];exact hC) rfl
  ·have Lf:a.tmps[10]?.getD _=aq _:=aW (aB _ 10 (bj (i:=0) rfl) rfl rfl);have c0:V.cell? (ai b 0 I)=J (aq (J (ai ba 0 I))):=by simp[aH,hC.row,h0.o]
   exact dA.val (c:=aq _) (by clear aB aQ fL hC;go_simp) (by rw[cq _ (show 5≠3 by decide),cq _ (show 10≠3 by decide),cq _ (show 15≠3 by decide)];exact hC) rfl
  ·have x1:a.tmps[1]?.getD _=aL wh:=aW (aQ 1 (dS (by kernel_rfl)));exact dA.val (c:=aL wh) (by clear aB aQ fL hC;go_simp) (by rw[cq _ (show 5≠4 by decide),cq _ (show 10≠4 by decide),cq _ (show 15≠4 by decide)];exact hC) rfl
  ·have GZ:a.tmps[11]?.getD _=aq _:=aW (aB _ 11 (bj (i:=0) rfl) rfl rfl);have Li:a.tmps[12]?.getD _=aL wh:=aW (aB _ 12 (bj (i:=1) rfl) rfl rfl)
   refine dA.call (f:=305) (args:=#[aq (J (ai ba 0 I)),aL wh]) (by clear aB aQ fL hC;go_simp) ?_;rw[ue]at hC
   apply(acP wh hC.jR.al).mono;rintro v w1 ⟨rfl,hA,hg⟩
   refine⟨_,rfl,?_,λ_ _ _ h=>h,rfl⟩;rw[Bf,cq _ (show 10≠5 by decide),cq _ (show 15≠5 by decide)];exact⟨hC.jR.RH hg hA,hC.jR.RO hC.row hg,hC.fr.trans (hC.jR.RI hg) (λ_ _ x=>x)⟩
  ·have x0:a.tmps[0]?.getD _=aq _:=aW (aQ 0 (dS (by kernel_rfl)));exact dA.val (c:=aq _) (by clear aB aQ fL hC;go_simp) (by rw[cq _ (show 5≠6 by decide),cq _ (show 10≠6 by decide),cq _ (show 15≠6 by decide)];exact hC) rfl
  ·have Lh:a.tmps[14]?.getD _=aq _:=aW (aB _ 14 (bj (i:=0) rfl) rfl rfl);exact dA.val (c:=aq _) (by clear aB aQ fL hC;go_simp) (by rw[cq _ (show 5≠7 by decide),cq _ (show 10≠7 by decide),cq _ (show 15≠7 by decide)];exact hC) rfl
  ·have GG:a.tmps[15]?.getD _=aq _:=aW (aB _ 15 (bj (i:=0) rfl) rfl rfl);exact dA.val (c:=aq _) (by clear aB aQ fL hC;go_simp) (by rw[cq _ (show 5≠8 by decide),cq _ (show 10≠8 by decide),cq _ (show 15≠8 by decide)];exact hC) rfl
  ·have GD:a.tmps[16]?.getD _=aq _:=aW (aB _ 16 (bj (i:=0) rfl) rfl rfl);have c1:V.cell? (ai b 1 I)=J (aq (J (ai bg 0 I))):=by simp[aH,hC.row,H1.o]
   exact dA.val (c:=aq _) (by clear aB aQ fL hC;go_simp) (by rw[cq _ (show 5≠9 by decide),cq _ (show 10≠9 by decide),cq _ (show 15≠9 by decide)];exact hC) rfl
  ·have KF:a.tmps[17]?.getD _=aq _:=aW (aB _ 17 (bj (i:=0) rfl) rfl rfl)
   refine dA.call (f:=306) (args:=#[aq (J (ai bg 0 I))]) (by clear aB aQ fL hC;go_simp) ?_;rw[ue]at hC;obtain⟨sa,cap,hG,Hd⟩:=hC.jR.ga
   apply(acQ hG).mono;rintro v w1 ⟨rfl,hA,hg⟩
   refine⟨_,rfl,?_,λ_ _ _ h=>h,rfl⟩;rw[Bf,cq _ (show 5≠10 by decide),cq _ (show 15≠10 by decide)];exact⟨hC.jR.RJ hG Hd hg hA rfl,RP hG hC.row hg,hC.fr.trans (RL hG Hd hg) (λ_ _ x=>x)⟩
  ·have x0:a.tmps[0]?.getD _=aq _:=aW (aQ 0 (dS (by kernel_rfl)));exact dA.val (c:=aq _) (by clear aB aQ fL hC;go_simp) (by rw[cq _ (show 5≠11 by decide),cq _ (show 10≠11 by decide),cq _ (show 15≠11 by decide)];exact hC) rfl
  ·have KH:a.tmps[19]?.getD _=aq _:=aW (aB _ 19 (bj (i:=0) rfl) rfl rfl);exact dA.val (c:=aq _) (by clear aB aQ fL hC;go_simp) (by rw[cq _ (show 5≠12 by decide),cq _ (show 10≠12 by decide),cq _ (show 15≠12 by decide)];exact hC) rfl
  ·have KG:a.tmps[20]?.getD _=aq _:=aW (aB _ 20 (bj (i:=0) rfl) rfl rfl);exact dA.val (c:=aq _) (by clear aB aQ fL hC;go_simp) (by rw[cq _ (show 5≠13 by decide),cq _ (show 10≠13 by decide),cq _ (show 15≠13 by decide)];exact hC) rfl
  ·have Gr:a.tmps[21]?.getD _=aq _:=aW (aB _ 21 (bj (i:=0) rfl) rfl rfl);have c2:V.cell? (ai b 2 I)=J (aq (J (ai bf 0 I))):=by simp[aH,hC.row,H2.o]
   exact dA.val (c:=aq _) (by clear aB aQ fL hC;go_simp) (by rw[cq _ (show 5≠14 by decide),cq _ (show 10≠14 by decide),cq _ (show 15≠14 by decide)];exact hC) rfl
  ·have Gq:a.tmps[22]?.getD _=aq _:=aW (aB _ 22 (bj (i:=0) rfl) rfl rfl)
   refine dA.call (f:=307) (args:=#[aq (J (ai bf 0 I))]) (by clear aB aQ fL hC;go_simp) ?_;rw[ue]at hC;obtain⟨m,n,D,fv,lv,h3,h4,h5,h6,h7⟩:=hC.jR.fl
   apply(acT h3).mono;rintro v w1 ⟨rfl,hA,hg⟩
   refine⟨_,rfl,?_,λ_ _ _ h=>h,rfl⟩;rw[Bf,cq _ (show 5≠15 by decide),cq _ (show 10≠15 by decide)];exact⟨hC.jR.RM h3 h4 h5 h6 h7 hg hA,RQ h3 hC.row hg,hC.fr.trans (RN h3 h4 hg) (λ_ _ x=>x)⟩
  ·have Lg:a.tmps[13]?.getD _=aL _:=aW (aB _ 13 (bj (i:=0) rfl) rfl rfl);exact dA.val (c:=aL _) (by clear aB aQ fL hC;go_simp) (by rw[cq _ (show 5≠16 by decide),cq _ (show 10≠16 by decide),cq _ (show 15≠16 by decide)];exact hC) rfl
  ·have GF:a.tmps[18]?.getD _=aL _:=aW (aB _ 18 (bj (i:=0) rfl) rfl rfl);exact dA.val (c:=aL _) (by clear aB aQ fL hC;go_simp) (by rw[cq _ (show 5≠17 by decide),cq _ (show 10≠17 by decide),cq _ (show 15≠17 by decide)];exact hC) rfl
  have Kg:a.tmps[23]?.getD _=aL _:=aW (aB _ 23 (bj (i:=0) rfl) rfl rfl);exact dA.val (c:=aL _) (by clear aB aQ fL hC;go_simp) (by rw[cq _ (show 5≠18 by decide),cq _ (show 10≠18 by decide),cq _ (show 15≠18 by decide)];exact hC) rfl
 intro vals V hC hS;have HC:U (rk F w V b ba bg bf e s.zero c):=by rw[<- ac5];exact hC
 have v5:vals 16=aL _:=hS 16 (ar rfl);have v10:vals 17=aL _:=hS 17 (ar rfl);have v15:vals 18=aL _:=hS 18 (ar rfl);simp only[fill,dZ];go_simp
 have hk:∀x y z,s.a.well wh=x->s.g.bad=y->s.f.bad=z->s.kind wh=if x=false then 1 else if y=true then 2 else if z=true then 3 else 0:=λx y z h1 h2 h3=>by unfold fo.kind Gt;rw[h1,h2,h3]
 change U _ at hk
 cases q1:s.a.well wh
 ·have HR:U (s.kind wh=1):=by show _=_;have:=hk _ _ _ q1 rfl rfl;simpa using this
  go_wp2;go_ret;exact⟨by rw[HR.o];rfl,HC⟩
 cases q2:s.g.bad
 ·cases q3:s.f.bad
  ·have HR:U (s.kind wh=0):=by show _=_;have:=hk _ _ _ q1 q2 q3;simpa using this
   go_wp2;go_ret;exact⟨by rw[HR.o];rfl,HC⟩
  have HR:U (s.kind wh=3):=by show _=_;have:=hk _ _ _ q1 q2 q3;simpa using this
  go_wp2;go_ret;exact⟨by rw[HR.o];rfl,HC⟩
 have HR:U (s.kind wh=2):=by show _=_;have:=hk _ _ _ q1 q2 rfl;simpa using this
 go_wp2;go_ret;exact⟨by rw[HR.o];rfl,HC⟩
end
section
variable {F F':Nat->Prop}{w w' w'':ak}{b ba bg bf:Nat}{e:aM}{E:EA}{s:Option dw}
def cX(x y z:aw)(e:aM)(E:EA)(act wh:Bool)(run:Int)(ex:Bool):Array aw:=#[x,y,z,aA e.name,ae af e.bh,aj E.pa e.au.length E.pc,ae af e.cnt,ae af e.mn,ae af e.mx,aj E.ga e.aV.length E.gc,aj E.ea e.aP.length E.ec,aj E.fa e.first.length E.fc,aj E.la e.last.length E.lc,aL act,aL wh,ae af run,aL ex]
def ac8(F:Nat->Prop)(w:ak)(b:Nat)(e:aM)(E:EA):Option dw->Prop
 |none=>w.heap[b]?=J (ay (cX (aq I) (aq I) (aq I) e E false false 0 false) 229 (0,0))
 |some n=>∃ba bg bf,w.heap[b]?=J (ay (cX (aq (J (ai ba 0 I))) (aq (J (ai bg 0 I))) (aq (J (ai bf 0 I))) e E true n.whole (n.run:Int) n.ex) 229 (0,0))/\i6 F w ba bg bf e n.w
structure gT(F:Nat->Prop)(w:ak)(b:Nat)(e:aM)(E:EA)(s:Option dw):Prop where
 parts:oW F w e E
 fb:F b
 row:ac8 F w b e E s
def gT.same(h:gT F w b e E s)(hs:∀k,F k->w'.heap[k]?=w.heap[k]?):gT F w' b e E s:=by
 refine⟨h.parts.same hs,h.fb,?_⟩;have hr:=h.row
 cases s with
 |none=>exact(hs b h.fb).trans hr
 |some n=>obtain⟨ba,bg,bf,h1,h2⟩:=hr;exact⟨ba,bg,bf,(hs b h.fb).trans h1,h2.same hs⟩
def i6.mono{s:fo}(h:i6 F w ba bg bf e s)(hF:∀k,k<w.heap.size->F k->F' k):i6 F' w ba bg bf e s:=by
 obtain⟨sa,cap,h1,h2⟩:=h.ga;obtain⟨m,n,D,fv,lv,h3,h4,h5,h6,h7⟩:=h.fl;exact⟨h.al,hF _ (bL h.al.heap) h.fa,⟨sa,cap,h1,λk hk=>hF k (RB h1 hk) (h2 k hk)⟩,⟨m,n,D,fv,lv,h3,hF _ (bL h3.heap) h4,hF _ (map_lt h3) h5,λg hg=>hF g (h3.hf.lt g hg).2 (h6 g hg),λg hg=>hF g (h3.hl.lt g hg).2 (h7 g hg)⟩,h.gl⟩
def gT.lt(h:gT F w b e E s):b<w.heap.size:=by
 have hr:=h.row
 cases s with
 |none=>exact bL hr
 |some n=>obtain⟨ba,bg,bf,h1,-⟩:=hr;exact bL h1
def gT.mono(h:gT F w b e E s)(hF:∀k,k<w.heap.size->F k->F' k):gT F' w b e E s:=by
 refine⟨h.parts.mono hF,hF _ h.lt h.fb,?_⟩;have hr:=h.row
 cases s with
 |none=>exact hr
 |some n=>obtain⟨ba,bg,bf,h1,h2⟩:=hr;exact⟨ba,bg,bf,h1,h2.mono hF⟩
def ac9(w:ak)(e:aM)(E:EA)(hP:sA w e E)(hS:gG e):Calls prog 183 #[.agg (eR e E.pa E.pc E.ga E.gc E.ea E.ec E.fa E.fc E.la E.lc)] w λv w'=>(∃E':EA,v=ax (RA e E')/\oW (λk=>w.heap.size<=k) w' e E')/\Below w.heap.size w w':=by
 unfold eR;have HP:U (sA w e E):=hP;change U _ at hS
 clear hP;go_enter func183,ntmps183
 go_upto_region 1 with fail
 obtain⟨V0,ia⟩:∃V,V=(w.alloc (ay (eR e E.pa E.pc E.ga E.gc E.ea E.ec E.fa E.fc E.la E.lc) 58)).alloc (ay #[aA ⟨#[]⟩,ae af 0,aj I 0 0,ae af 0,ae af 0,ae af 0,aj I 0 0,aj I 0 0,aj I 0 0,aj I 0 0] 58):=⟨_,rfl⟩;rw[<- ia];have hs0:V0.heap.size=w.heap.size+2:=by rw[ia];simp
 have mN:U (Below w.heap.size w V0):=by show Below _ _ _;rw[ia];exact(aS _ _).alloc (by simp) _
 have mO:U (V0.heap[w.heap.size]?=J (ay (eR e E.pa E.pc E.ga E.gc E.ea E.ec E.fa E.fc E.la E.lc) 58 (0,0))):=by
  show _=_
  rw[ia];exact a8 (aS _ _) (cj w _)
 have qY:U (V0.heap[w.heap.size+1]?=J (ay #[aA ⟨#[]⟩,ae af 0,aj I 0 0,ae af 0,ae af 0,ae af 0,aj I 0 0,aj I 0 0,aj I 0 0,aj I 0 0] 58 (0,0))):=by
  show _=_
  rw[ia];have:=cj (w.alloc (ay (eR e E.pa E.pc E.ga E.gc E.ea E.ec E.fa E.fc E.la E.lc) 58)) (ay #[aA ⟨#[]⟩,ae af 0,aj I 0 0,ae af 0,ae af 0,ae af 0,aj I 0 0,aj I 0 0,aj I 0 0,aj I 0 0] 58);simpa using this
 clear ia hs0;have s0:V0.cell? (ai w.heap.size 2 I)=J (aj E.pa e.au.length E.pc):=by have:=mO.o;simp[aH,this]
 go_wp2_with fail
 apply(acL _ _ _ _ V0 (HP.below mN).hp hS.hp mN.size).mono;rintro v W0 ⟨⟨gO,gP,rfl,hop⟩,hb0⟩;have d0:W0.cell? (ai w.heap.size 2 I)=J (aj E.pa e.au.length E.pc):=by have:=a8 hb0 mO;simp[aH,this]
 have q0:W0.frozen? (ai w.heap.size 2 I)=false:=by have:=a8 hb0 mO;simp[bM,this]
 have RR:U (bI _ 1 9 _ W0 _ _):=hop;change U _ at hb0
 clear hop s0;go_upto_region 2 with fail
 obtain⟨V1,hV1⟩:∃V,V=W0.setCell (ai w.heap.size 2 I) (aj gO e.au.length gP):=⟨_,rfl⟩;rw[<- hV1];have hg1:W0.grownBy V1 (J w.heap.size):=by rw[hV1];exact bJ ..
 have kr:U (V1.heap[w.heap.size]?=J (ay (eR e gO gP E.ga E.gc E.ea E.ec E.fa E.fc E.la E.lc) 58 (0,0))):=by
  show _=_
  have:=a8 hb0 mO;rw[hV1];simp[bN,cL,this]
 have r_:U _:=(hg1.block _ (bL (a8 hb0 qY)) (by simp)).trans (a8 hb0 qY);have qo:U _:=(mN.trans (hb0.mono mN.size)).grown hg1 (bp mN.size hb0.size) (λk hk=>by cases hk;exact aR _);have Dz:U (bI _ 1 9 _ V1 _ _):=RR.other hg1 (a8 hb0 mO) (ar rfl);clear d0 q0 hV1 hg1 RR hb0 mO qY mN;have s1:V1.cell? (ai w.heap.size 6 I)=J (aj E.ga e.aV.length E.gc):=by have:=kr.o;simp[aH,this]
 go_wp2_with fail
 apply(acM _ _ _ _ V1 (HP.below qo).hg hS.hg qo.size).mono;rintro v W1 ⟨⟨iz,iA,rfl,DA⟩,hb1⟩;have d1:W1.cell? (ai w.heap.size 6 I)=J (aj E.ga e.aV.length E.gc):=by have:=a8 hb1 kr;simp[aH,this]
 have q1:W1.frozen? (ai w.heap.size 6 I)=false:=by have:=a8 hb1 kr;simp[bM,this]
 have RT:U (bI _ 4 73 _ W1 _ _):=DA;change U _ at hb1
 clear DA s1;go_upto_region 3 with fail
 obtain⟨V2,hV2⟩:∃V,V=W1.setCell (ai w.heap.size 6 I) (aj iz e.aV.length iA):=⟨_,rfl⟩;rw[<- hV2];have hg2:W1.grownBy V2 (J w.heap.size):=by rw[hV2];exact bJ ..
 have eW:U (V2.heap[w.heap.size]?=J (ay (eR e gO gP iz iA E.ea E.ec E.fa E.fc E.la E.lc) 58 (0,0))):=by
  show _=_
  have:=a8 hb1 kr;rw[hV2];simp[bN,cL,this]
 have bZ:U _:=(hg2.block _ (bL (a8 hb1 r_)) (by simp)).trans (a8 hb1 r_);have qq:U _:=(qo.trans (hb1.mono qo.size)).grown hg2 (bp qo.size hb1.size) (λk hk=>by cases hk;exact aR _);have DB:U (bI _ 1 9 _ V2 _ _):=(Dz.below hb1).other hg2 (a8 hb1 kr) (ar rfl);have DC:U (bI _ 4 73 _ V2 _ _):=RT.other hg2 (a8 hb1 kr) (ar rfl);clear d1 q1 hV2 hg2 RT hb1 kr r_ qo Dz;have s2:V2.cell? (ai w.heap.size 7 I)=J (aj E.ea e.aP.length E.ec):=by have:=eW.o;simp[aH,this]
 go_wp2_with fail
 apply(acN _ _ _ _ V2 (HP.below qq).he hS.he qq.size).mono;rintro v W2 ⟨⟨iW,iX,rfl,DF⟩,hb2⟩;have d2:W2.cell? (ai w.heap.size 7 I)=J (aj E.ea e.aP.length E.ec):=by have:=a8 hb2 eW;simp[aH,this]
 have q2:W2.frozen? (ai w.heap.size 7 I)=false:=by have:=a8 hb2 eW;simp[bM,this]
 have RU:U (bI _ 2 74 _ W2 _ _):=DF;change U _ at hb2
 clear DF s2;go_upto_region 4 with fail
 obtain⟨V3,vn⟩:∃V,V=W2.setCell (ai w.heap.size 7 I) (aj iW e.aP.length iX):=⟨_,rfl⟩;rw[<- vn];have hg3:W2.grownBy V3 (J w.heap.size):=by rw[vn];exact bJ ..
 have gQ:U (V3.heap[w.heap.size]?=J (ay (eR e gO gP iz iA iW iX E.fa E.fc E.la E.lc) 58 (0,0))):=by
  show _=_
  have:=a8 hb2 eW;rw[vn];simp[bN,cL,this]
 have nX:U _:=(hg3.block _ (bL (a8 hb2 bZ)) (by simp)).trans (a8 hb2 bZ);have qs:U _:=(qq.trans (hb2.mono qq.size)).grown hg3 (bp qq.size hb2.size) (λk hk=>by cases hk;exact aR _);have DG:U (bI _ 1 9 _ V3 _ _):=(DB.below hb2).other hg3 (a8 hb2 eW) (ar rfl);have DI:U (bI _ 4 73 _ V3 _ _):=(DC.below hb2).other hg3 (a8 hb2 eW) (ar rfl);have DJ:U (bI _ 2 74 _ V3 _ _):=RU.other hg3 (a8 hb2 eW) (ar rfl);clear d2 q2 vn hg3 RU hb2 eW bZ qq DB DC;have s3:V3.cell? (ai w.heap.size 8 I)=J (aj E.fa e.first.length E.fc):=by have:=gQ.o;simp[aH,this]
 go_wp2_with fail
 apply(GV _ _ _ _ V3 (HP.below qs).hf hS.hf qs.size).mono;rintro v W3 ⟨⟨jA,jB,rfl,bz⟩,hb3⟩;have d3:W3.cell? (ai w.heap.size 8 I)=J (aj E.fa e.first.length E.fc):=by have:=a8 hb3 gQ;simp[aH,this]
 have q3:W3.frozen? (ai w.heap.size 8 I)=false:=by have:=a8 hb3 gQ;simp[bM,this]
 have RV:U (bI _ 1 3 _ W3 _ _):=bz;change U _ at hb3
 clear bz s3;go_upto_region 5 with fail
 obtain⟨V4,vo⟩:∃V,V=W3.setCell (ai w.heap.size 8 I) (aj jA e.first.length jB):=⟨_,rfl⟩;rw[<- vo];have hg4:W3.grownBy V4 (J w.heap.size):=by rw[vo];exact bJ ..
 have jC:U (V4.heap[w.heap.size]?=J (ay (eR e gO gP iz iA iW iX jA jB E.la E.lc) 58 (0,0))):=by
  show _=_
  have:=a8 hb3 gQ;rw[vo];simp[bN,cL,this]
 have zm:U _:=(hg4.block _ (bL (a8 hb3 nX)) (by simp)).trans (a8 hb3 nX);have qu:U _:=(qs.trans (hb3.mono qs.size)).grown hg4 (bp qs.size hb3.size) (λk hk=>by cases hk;exact aR _);have DK:U (bI _ 1 9 _ V4 _ _):=(DG.below hb3).other hg4 (a8 hb3 gQ) (ar rfl);have DL:U (bI _ 4 73 _ V4 _ _):=(DI.below hb3).other hg4 (a8 hb3 gQ) (ar rfl);have DM:U (bI _ 2 74 _ V4 _ _):=(DJ.below hb3).other hg4 (a8 hb3 gQ) (ar rfl);have DN:U (bI _ 1 3 _ V4 _ _):=RV.other hg4 (a8 hb3 gQ) (ar rfl);clear d3 q3 vo hg4 RV hb3 gQ nX qs DG DI DJ;have s4:V4.cell? (ai w.heap.size 9 I)=J (aj E.la e.last.length E.lc):=by have:=jC.o;simp[aH,this]
 go_wp2_with fail
 apply(GV _ _ _ _ V4 (HP.below qu).hl hS.hl qu.size).mono;rintro v W4 ⟨⟨ko,kq,rfl,xv⟩,hb4⟩;have d4:W4.cell? (ai w.heap.size 9 I)=J (aj E.la e.last.length E.lc):=by have:=a8 hb4 jC;simp[aH,this]
 have q4:W4.frozen? (ai w.heap.size 9 I)=false:=by have:=a8 hb4 jC;simp[bM,this]
 have RX:U (bI _ 1 3 _ W4 _ _):=xv;change U _ at hb4
 clear xv s4;go_upto_region 6 with fail
 obtain⟨V5,vp⟩:∃V,V=W4.setCell (ai w.heap.size 9 I) (aj ko e.last.length kq):=⟨_,rfl⟩;rw[<- vp];have jg:W4.grownBy V5 (J w.heap.size):=by rw[vp];exact bJ ..
 have Bl:U (V5.heap[w.heap.size]?=J (ay (eR e gO gP iz iA iW iX jA jB ko kq) 58 (0,0))):=by
  show _=_
  have:=a8 hb4 jC;rw[vp];simp[bN,cL,this]
 have oQ:U _:=(jg.block _ (bL (a8 hb4 zm)) (by simp)).trans (a8 hb4 zm);have DO:U _:=(qu.trans (hb4.mono qu.size)).grown jg (bp qu.size hb4.size) (λk hk=>by cases hk;exact aR _);have Kr:U (bI _ 1 9 _ V5 _ _):=(DK.below hb4).other jg (a8 hb4 jC) (ar rfl);have Ks:U (bI _ 4 73 _ V5 _ _):=(DL.below hb4).other jg (a8 hb4 jC) (ar rfl);have Kt:U (bI _ 2 74 _ V5 _ _):=(DM.below hb4).other jg (a8 hb4 jC) (ar rfl);have Ku:U (bI _ 1 3 _ V5 _ _):=(DN.below hb4).other jg (a8 hb4 jC) (ar rfl);have Kv:U (bI _ 1 3 _ V5 _ _):=RX.other jg (a8 hb4 jC) (ar rfl);clear d4 q4 vp jg RX hb4 jC zm qu DK DL DM DN;go_wp2_with (first|(refine pB rfl 58 _ rfl _ rfl _ _ _ _ Bl underlying58 rfl vk ?_)|(refine iQ rfl 58 _ _ rfl _ _ rfl rfl 58 _ oQ vk rfl (by simp[Value.oneCell']) ?_))
 have hgr:V5.grownBy (V5.setRow (w.heap.size+1) (eR e gO gP iz iA iW iX jA jB ko kq)) (J (w.heap.size+1)):=qm _ _ _;have hres:(V5.setRow (w.heap.size+1) (eR e gO gP iz iA iW iX jA jB ko kq)).heap[w.heap.size+1]?=J (ay (eR e gO gP iz iA iW iX jA jB ko kq) 58 (0,0)):=kj _ oQ
 refine dL (mK rfl _ _ _ _ _ _ _ rfl hres underlying58 rfl vk) rfl ?_;exact⟨⟨⟨gO,iz,iW,jA,ko,gP,iA,iX,jB,kq⟩,rfl,⟨lO.of (Kr.other hgr oQ (ar rfl)) (λ_ h=>h),lO.of (Ks.other hgr oQ (ar rfl)) (λ_ h=>h),lO.of (Kt.other hgr oQ (ar rfl)) (λ_ h=>h),lO.of (Ku.other hgr oQ (ar rfl)) (λ_ h=>h),lO.of (Kv.other hgr oQ (ar rfl)) (λ_ h=>h)⟩⟩,DO.grown hgr DO.size (λk hk=>by cases hk;omega)⟩
def ac_(w:ak)(e:aM)(E:EA)(hP:sA w e E)(hS:gG e):Calls prog 121 #[.agg (eR e E.pa E.pc E.ga E.gc E.ea E.ec E.fa E.fc E.la E.lc)] w λv w'=>(∃(b:Nat) (E':EA),v=ax (aq (J (ai b 0 I)))/\gT (λk=>w.heap.size<=k) w' b e E' I)/\Below w.heap.size w w':=by
 unfold eR;have HP:U (sA w e E):=hP;change U _ at hS
 go_enter func121,ntmps121
 go_wp2_with fail
 have jG:U (Below _ w (w.alloc (ay (eR e E.pa E.pc E.ga E.gc E.ea E.ec E.fa E.fc E.la E.lc) 58))):=aS _ _
 apply(ac9 _ e E (HP.below jG) hS).mono;rintro v W ⟨⟨E',rfl,hp⟩,hb⟩;have HW:U (oW (λk=>w.heap.size<=k) W e E'/\Below _ w W):=⟨hp.mono (λk _ h=>by simp at h;show w.heap.size<=k;omega),jG.trans (hb.mono (by simp))⟩;unfold RA;go_wp2;go_ret;have hb1:Below _ W (W.alloc (ay (cX (aq I) (aq I) (aq I) e E' false false 0 false) 229)):=aS _ _
 refine⟨⟨_,E',rfl,(oW.fr HW.1 (F':=λ_=>False) (fH.below hb1)),HW.2.size,?_⟩,HW.2.trans (hb1.mono HW.2.size)⟩;exact cj W _
end
section
variable {F F':Nat->Prop}{w w' w'':ak}{b ba bg bf:Nat}{e:aM}{E:EA}{s:Option dw}{n:dw}
def ac':(prog.info? 229).map (·.size)=J 17:=by kernel_rfl
def ada(h:gT F w b e E I)(hS:gG e)(hW:t_ e.aP):Calls prog 124 #[aq (J (ai b 0 I))] w λv w'=>v=ax .nilIface/\gT (λk=>F k\/w.heap.size<=k) w' b e E (J (dw.new e))/\fH F w w':=by
 change U _ at hS
 have HW:U (t_ _):=hW;have hr:w.heap[b]?=J _:=h.row;have c13:w.cell? (ai b 13 I)=J (aL false):=by simp[aH,hr,cX]
 have c3:w.cell? (ai b 3 I)=J (aA e.name):=by simp[aH,hr,cX]
 have c4:w.cell? (ai b 4 I)=J (ae af e.bh):=by simp[aH,hr,cX]
 have c5:w.cell? (ai b 5 I)=J (aj E.pa e.au.length E.pc):=by simp[aH,hr,cX]
 have c6:w.cell? (ai b 6 I)=J (ae af e.cnt):=by simp[aH,hr,cX]
 have c7:w.cell? (ai b 7 I)=J (ae af e.mn):=by simp[aH,hr,cX]
 have c8:w.cell? (ai b 8 I)=J (ae af e.mx):=by simp[aH,hr,cX]
 have c9:w.cell? (ai b 9 I)=J (aj E.ga e.aV.length E.gc):=by simp[aH,hr,cX]
 have c10:w.cell? (ai b 10 I)=J (aj E.ea e.aP.length E.ec):=by simp[aH,hr,cX]
 have c11:w.cell? (ai b 11 I)=J (aj E.fa e.first.length E.fc):=by simp[aH,hr,cX]
 have c12:w.cell? (ai b 12 I)=J (aj E.la e.last.length E.lc):=by simp[aH,hr,cX]
 clear hW;change U _ at hr h;go_enter func124,ntmps124
 go_wp2_with fail
 apply(acY _ e E h.parts.parts hS HW).mono;rintro v W ⟨⟨ba,bg,bf,rfl,RY⟩,hb⟩;have hr1:=a8 hb hr;change U _ at hb RY
 have d0:W.cell? (ai b 0 I)=J (aq I):=by simp[aH,hr1,cX]
 have d1:W.cell? (ai b 1 I)=J (aq I):=by simp[aH,hr1,cX]
 have d2:W.cell? (ai b 2 I)=J (aq I):=by simp[aH,hr1,cX]
 have d13:W.cell? (ai b 13 I)=J (aL false):=by simp[aH,hr1,cX]
 have q:∀i,W.frozen? (ai b i I)=false:=λi=>by simp[bM,hr1]
 clear c3 c4 c5 c6 c7 c8 c9 c10 c11 c12 c13;change U _ at hr1;go_wp2;go_ret;have hg:W.grownBy ((((W.setCell ⟨b,0,_⟩ (aq (J (ai ba 0 I)))).setCell ⟨b,1,_⟩ (aq (J (ai bg 0 I)))).setCell ⟨b,2,_⟩ (aq (J (ai bf 0 I)))).setCell ⟨b,13,_⟩ (aL true)) (J b):=(((bJ ..).trans (bJ ..)).trans (bJ ..)).trans (bJ ..);have hrow:((((W.setCell (ai b 0 I) (aq (J (ai ba 0 I)))).setCell ⟨b,1,I⟩ (aq (J (ai bg 0 I)))).setCell ⟨b,2,I⟩ (aq (J (ai bf 0 I)))).setCell ⟨b,13,I⟩ (aL true)).heap[b]?=J (ay (cX (aq (J (ai ba 0 I))) (aq (J (ai bg 0 I))) (aq (J (ai bf 0 I))) e E true false 0 false) 229 (0,0)):=by
  have:=hr1.o;simp[bN,cL,this,cX]
 have nW:fH F w W:=fH.below hb;have hf2:=fH.put hg hr1 (aT rfl) h.fb;have xG:=nW.trans hf2 (λ_ _ x=>x)
 refine⟨rfl,⟨(h.parts.fr xG).mono (λ_ _ x=>aT x),aT h.fb,ba,bg,bf,hrow,?_⟩,xG⟩
 refine i6.mono (F:=λk=>w.heap.size<=k) (RY.same (λk hk=>?_)) (λ_ _ x=>aN x);have hbl:=bL hr;have nH:=hk;have hne:J k≠J b:=λe1=>by rw[fg e1]at nH;omega
 rcases fF k W.heap.size with h1|h1
 ·exact hg.block k h1 hne
 rw[xe h1,xe (by simpa[bN]using h1)]
def adb(x:aw)(h:gT F w b e E (J n))(hx:w.cell? (ai 5 0 I)=J x):Calls prog 124 #[aq (J (ai b 0 I))] w λv w'=>v=ax x/\w'=w:=by
 obtain⟨ba,bg,bf,hr,-⟩:=h.row;have c13:w.cell? (ai b 13 I)=J (aL true):=by simp[aH,hr,cX]
 go_enter func124,ntmps124
 go_wp2;go_ret;exact⟨rfl,rfl⟩
def ade(x:aw)(h:gT F w b e E I)(hx:w.cell? (ai 9 0 I)=J x):Calls prog 125 #[aq (J (ai b 0 I))] w λv w'=>v=ax x/\w'=w:=by
 have hr:w.heap[b]?=J _:=h.row;have c13:w.cell? (ai b 13 I)=J (aL false):=by simp[aH,hr,cX]
 go_enter func125,ntmps125
 go_wp2;go_ret;exact⟨rfl,rfl⟩
def adf(h:gT F w b e E (J n)):Calls prog 125 #[aq (J (ai b 0 I))] w λv w'=>v=ax .nilIface/\gT F w' b e E I/\fH F w w':=by
 obtain⟨ba,bg,bf,hr,-⟩:=h.row;have c13:w.cell? (ai b 13 I)=J (aL true):=by simp[aH,hr,cX]
 have c3:w.cell? (ai b 3 I)=J (aA e.name):=by simp[aH,hr,cX]
 have c4:w.cell? (ai b 4 I)=J (ae af e.bh):=by simp[aH,hr,cX]
 have c5:w.cell? (ai b 5 I)=J (aj E.pa e.au.length E.pc):=by simp[aH,hr,cX]
 have c6:w.cell? (ai b 6 I)=J (ae af e.cnt):=by simp[aH,hr,cX]
 have c7:w.cell? (ai b 7 I)=J (ae af e.mn):=by simp[aH,hr,cX]
 have c8:w.cell? (ai b 8 I)=J (ae af e.mx):=by simp[aH,hr,cX]
 have c9:w.cell? (ai b 9 I)=J (aj E.ga e.aV.length E.gc):=by simp[aH,hr,cX]
 have c10:w.cell? (ai b 10 I)=J (aj E.ea e.aP.length E.ec):=by simp[aH,hr,cX]
 have c11:w.cell? (ai b 11 I)=J (aj E.fa e.first.length E.fc):=by simp[aH,hr,cX]
 have c12:w.cell? (ai b 12 I)=J (aj E.la e.last.length E.lc):=by simp[aH,hr,cX]
 change U _ at hr h
 go_enter func125,ntmps125
 go_wp2_with (refine iQ rfl 229 _ _ rfl b (cX _ _ _ e E _ _ 0 _) rfl rfl 229 _ hr ac' rfl (by simp[Value.oneCell',cX]) ?_)
 go_ret;have hg:w.grownBy (w.setRow b (cX (aq I) (aq I) (aq I) e E false false 0 false)) _:=qm _ _ _;have hf:=fH.put hg hr (aT rfl) h.fb;exact⟨rfl,⟨h.parts.fr hf,h.fb,kj _ hr⟩,hf⟩
def adg(x:aw)(p t:Int)(h:gT F w b e E I)(hx:w.cell? (ai 9 0 I)=J x):Calls prog 126 #[aq (J (ai b 0 I)),ae af p,ae af t] w λv w'=>v=ax x/\w'=w:=by
 have hr:w.heap[b]?=J _:=h.row;have c13:w.cell? (ai b 13 I)=J (aL false):=by simp[aH,hr,cX]
 go_enter func126,ntmps126
 go_wp2;go_ret;exact⟨rfl,rfl⟩
def adh(x:aw)(p t:Int)(h:gT F w b e E (J n))(hp:fq e p=false)(hx:w.cell? (ai 7 0 I)=J x):Calls prog 126 #[aq (J (ai b 0 I)),ae af p,ae af t] w λv w'=>v=ax x/\w'=w:=by
 obtain⟨ba,bg,bf,hr,-⟩:=h.row;have c13:w.cell? (ai b 13 I)=J (aL true):=by simp[aH,hr,cX]
 have c5:w.cell? (ai b 5 I)=J (aj E.pa e.au.length E.pc):=by simp[aH,hr,cX]
 by_cases g0:p<0
 ·clear hp;go_enter func126,ntmps126
  go_wp2;go_ret;exact⟨rfl,rfl⟩
 have g1:(e.au.length:Int)<=p:=by unfold fq at hp;simp at hp;omega
 go_enter func126,ntmps126
 go_wp2;go_ret;exact⟨rfl,rfl⟩
def adi(p t:Int)(h:gT F w b e E (J n))(hp:fq e p=true)(hS:gG e):Calls prog 126 #[aq (J (ai b 0 I)),ae af p,ae af t] w λv w'=>v=ax .nilIface/\gT F w' b e E (J (n.rep e p t))/\fH F w w':=by
 change U _ at hS
 obtain⟨ba,bg,bf,hr,(hw:U _)⟩:=h.row;have c13:w.cell? (ai b 13 I)=J (aL true):=by simp[aH,hr,cX]
 have c5:w.cell? (ai b 5 I)=J (aj E.pa e.au.length E.pc):=by simp[aH,hr,cX]
 have g0:¬p<0:=by unfold fq at hp;simp at hp;omega
 have g1:¬(e.au.length:Int)<=p:=by unfold fq at hp;simp at hp;omega
 change U _ at hr hp h
 go_enter func126,ntmps126
 go_wp2_with fail
 apply(acZ p t _ hw hr rfl rfl rfl hS).mono;rintro v W ⟨rfl,(lQ:U _)⟩;go_wp2;go_ret
 refine⟨rfl,⟨h.parts.fr lQ.fr,h.fb,?_⟩,lQ.fr⟩;unfold dw.rep;rw[aU hp.o];exact⟨ba,bg,bf,lQ.row,lQ.jR⟩
def Lp:Nat->ByteArray
 |0=>⟨#[105,100,108,101]⟩
 |1=>⟨#[111,107]⟩
 |2=>⟨#[102,97,105,108,101,100]⟩
 |_=>⟨#[101,120,112,105,114,101,100]⟩
def adj(h:gT F w b e E I):Calls prog 134 #[aq (J (ai b 0 I))] w λv w'=>v=ax (aA (Lp 0))/\w'=w:=by
 have hr:w.heap[b]?=J _:=h.row;have c13:w.cell? (ai b 13 I)=J (aL false):=by simp[aH,hr,cX]
 go_enter func134,ntmps134
 go_wp2;go_ret;exact⟨rfl,rfl⟩
def adk(h:gT F w b e E (J n)):Calls prog 134 #[aq (J (ai b 0 I))] w λv w'=>v=ax (aA (Lp n.status))/\w'=w:=by
 obtain⟨ba,bg,bf,hr,-⟩:=h.row;have c13:w.cell? (ai b 13 I)=J (aL true):=by simp[aH,hr,cX]
 have c15:w.cell? (ai b 15 I)=J (ae af (n.run:Int)):=by simp[aH,hr,cX]
 have c16:w.cell? (ai b 16 I)=J (aL n.ex):=by simp[aH,hr,cX]
 obtain⟨nw,adl,run,ex⟩:=n
 cases ex with
 |true=>
  go_enter func134,ntmps134
  go_wp2;go_ret;exact⟨rfl,rfl⟩
 |false=>
  by_cases h0:run=0
  ·subst h0;go_enter func134,ntmps134
   go_wp2;go_ret;exact⟨rfl,rfl⟩
  have HR:U (dw.status ⟨nw,adl,run,false⟩=2):=by show _=_;simp[dw.status,h0]
  have h1:¬((run:Nat):Int)=0:=by omega
  go_enter func134,ntmps134
  go_wp2;go_ret;exact⟨by rw[HR.o];rfl,rfl⟩
end
section
variable {F F':Nat->Prop}{w w' w'':ak}{b ba bg bf:Nat}{e:aM}{E:EA}{s:Option dw}{n:dw}
def adn(n:dw)(b:Nat):Nat->aw->Prop
 |0=>λv=>v=aq (J (ai b 0 I))
 |1=>λv=>v=aq (J (ai b 0 I))
 |2=>λv=>v=aq (J (ai b 0 I))
 |3=>λv=>v=aq (J (ai b 0 I))
 |4=>λv=>v=aq (J (ai b 0 I))
 |5=>λv=>v=aq (J (ai b 14 I))
 |6=>λv=>v=aL n.whole
 |7=>λv=>v=ae af n.kind
 |8=>λv=>v=ae af n.kind
 |_=>λ_=>True
def ado(s:fo)(d:Bool):fo:=if d then s.zero else s
def gT.put{n':dw}(h:gT F w b e E (J n))(hT:rk F w W b ba bg bf e n'.w (cX (aq (J (ai ba 0 I))) (aq (J (ai bg 0 I))) (aq (J (ai bf 0 I))) e E true n.whole (n.run:Int) n.ex))(W2:ak)(hg:W.grownBy W2 (J b))(hrow:W2.heap[b]?=J (ay (cX (aq (J (ai ba 0 I))) (aq (J (ai bg 0 I))) (aq (J (ai bf 0 I))) e E true n'.whole (n'.run:Int) n'.ex) 229 (0,0))):gT F W2 b e E (J n')/\fH F w W2:=by
 have hf2:=fH.put hg hT.row (aT rfl) h.fb;have xG:=hT.fr.trans hf2 (λ_ _ x=>x)
 refine⟨⟨h.parts.fr xG,h.fb,ba,bg,bf,hrow,?_⟩,xG⟩;obtain⟨sa,cap,h1,h2⟩:=hT.jR.ga;obtain⟨m,nn,D,fv,lv,h3,h4,h5,h6,h7⟩:=hT.jR.fl;have fj:∀k,(∀c T fr,W.heap[k]?=J (ay c T fr)->T≠229 )->k<W.heap.size->W2.heap[k]?=W.heap[k]?:=λk hk hlt=>hg.block k hlt (λe1=>by cases e1;exact hk _ _ _ hT.row rfl)
 have vC:∀{k:Nat} {c:Array _} {T:TypeId} {fr:Nat×Nat},W.heap[k]?=J (ay c T fr)->T≠229->W2.heap[k]?=W.heap[k]?:=λhk zy=>fj _ (λc' T' vz h'=>by rw[hk]at h';simp only[dJ,kY]at h';rw[<- h'.2.1];exact zy) (bL hk)
 refine⟨hT.jR.al.same (vC hT.jR.al.heap (ar rfl)),hT.jR.fa,⟨sa,cap,h1.same (λk hk=>?_),h2⟩,⟨m,nn,D,fv,lv,h3.same (vC h3.heap (ar rfl)) ?_ (λg hg=>?_) (λg hg=>?_),h4,h5,h6,h7⟩,hT.jR.gl⟩
 ·obtain⟨c,T,fr,h8,h9⟩:=zx h1 hk;exact vC h8 (by rcases h9 with rfl|rfl<;>decide)
 ·refine fj m (λc T fr hc=>?_) (map_lt h3);obtain⟨es,c',zw,rest⟩:=h3.own;rw[zw]at hc
  cases hc
 ·obtain⟨c',vz,h8⟩:=Hc h3.hf hg;exact vC h8 (ar rfl)
 obtain⟨c',vz,h8⟩:=Hc h3.hl hg;exact vC h8 (ar rfl)
def adp(h:gT F w b e E I):Calls prog 262 #[aq (J (ai b 0 I))] w λv w'=>v=ax (bn #[ae af 0,aL false])/\w'=w:=by
 have hr:w.heap[b]?=J _:=h.row;have c13:w.cell? (ai b 13 I)=J (aL false):=by simp[aH,hr,cX]
 go_enter func262,ntmps262
 go_wp2;go_ret2
 exact⟨rfl,rfl⟩
def adq(h:gT F w b e E (J n))(hn:n.run<=1000000):Calls prog 262 #[aq (J (ai b 0 I))] w λv w'=>v=ax (bn #[ae af n.kind,aL (n.turns e)])/\gT F w' b e E (J (n.fin e))/\fH F w w':=by
 have H:U _:=h;change U _ at hn
 obtain⟨ba,bg,bf,hr,hw⟩:=h.row;have D7:U (rk F w w b ba bg bf e n.w _):=⟨hw,hr,fH.refl _ _⟩;have c13:w.cell? (ai b 13 I)=J (aL true):=by simp[aH,hr,cX]
 clear h hr hw;go_enter func262,ntmps262
 go_wp2_with fail
 clear c13
 refine Du 9 rfl (λj v _=>adn n b j v) (λdone V=>rk F w V b ba bg bf e (ado n.w (done 7)) _) (by kernel_rfl) (by kernel_rfl) ⟨D7.jR.same (λ_ _=>rfl),D7.row,fH.below (aF _ _).drew⟩ ?_ ?_
 ·refine mM ⟨?_,?_,?_,?_,?_,?_,?_,?_,?_,trivial⟩
  all_goals
   refine zf.free rfl ?_;intro done a V hC ue fL aB aQ
  ·have x0:a.tmps[0]?.getD _=aq _:=aW (aQ 0 (dS (by kernel_rfl)));exact dA.val (c:=aq _) (by clear aB aQ fL hC;go_simp) (by rw[cq _ (show 7≠0 by decide)];exact hC) rfl
  ·have x9:a.tmps[9]?.getD _=aq _:=aW (aB _ 9 (bj (i:=0) rfl) rfl rfl);exact dA.val (c:=aq _) (by clear aB aQ fL hC;go_simp) (by rw[cq _ (show 7≠1 by decide)];exact hC) rfl
  ·have Lf:a.tmps[10]?.getD _=aq _:=aW (aB _ 10 (bj (i:=0) rfl) rfl rfl);exact dA.val (c:=aq _) (by clear aB aQ fL hC;go_simp) (by rw[cq _ (show 7≠2 by decide)];exact hC) rfl
  ·have x0:a.tmps[0]?.getD _=aq _:=aW (aQ 0 (dS (by kernel_rfl)));exact dA.val (c:=aq _) (by clear aB aQ fL hC;go_simp) (by rw[cq _ (show 7≠3 by decide)];exact hC) rfl
  ·have Li:a.tmps[12]?.getD _=aq _:=aW (aB _ 12 (bj (i:=0) rfl) rfl rfl);exact dA.val (c:=aq _) (by clear aB aQ fL hC;go_simp) (by rw[cq _ (show 7≠4 by decide)];exact hC) rfl
  ·have Lg:a.tmps[13]?.getD _=aq _:=aW (aB _ 13 (bj (i:=0) rfl) rfl rfl);exact dA.val (c:=aq _) (by clear aB aQ fL hC;go_simp) (by rw[cq _ (show 7≠5 by decide)];exact hC) rfl
  ·have Lh:a.tmps[14]?.getD _=aq _:=aW (aB _ 14 (bj (i:=0) rfl) rfl rfl);have c14:V.cell? (ai b 14 I)=J (aL n.whole):=by simp[aH,hC.row,cX]
   exact dA.val (c:=aL _) (by clear aB aQ fL hC;go_simp) (by rw[cq _ (show 7≠6 by decide)];exact hC) rfl
  ·have GZ:a.tmps[11]?.getD _=aq _:=aW (aB _ 11 (bj (i:=0) rfl) rfl rfl);have GG:a.tmps[15]?.getD _=aL _:=aW (aB _ 15 (bj (i:=1) rfl) rfl rfl)
   refine dA.call (f:=288) (args:=#[aq (J (ai b 0 I)),aL n.whole]) (by clear aB aQ fL hC;go_simp) ?_;rw[ue]at hC
   apply(ac7 _ _ hC.jR hC.row rfl rfl rfl).mono;rintro v w1 ⟨rfl,lQ⟩
   refine⟨_,rfl,?_,λ_ _ _ h=>h,rfl⟩;rw[Bf];exact⟨lQ.jR,lQ.row,hC.fr.trans lQ.fr (λ_ _ x=>x)⟩
  have GD:a.tmps[16]?.getD _=ae af _:=aW (aB _ 16 (bj (i:=0) rfl) rfl rfl);exact dA.val (c:=ae af _) (by clear aB aQ fL hC;go_simp) (by rw[cq _ (show 7≠8 by decide)];exact hC) rfl
 intro vals V hC hS;have HC:U (rk F w V b ba bg bf e n.w.zero _):=hC;have v8:vals 8=ae af _:=hS 8 (ar rfl);have hr:=HC.row;have c14:V.cell? (ai b 14 I)=J (aL n.whole):=by simp[aH,hr,cX]
 have c15:V.cell? (ai b 15 I)=J (ae af (n.run:Int)):=by simp[aH,hr,cX]
 have c16:V.cell? (ai b 16 I)=J (aL n.ex):=by simp[aH,hr,cX]
 have c4:V.cell? (ai b 4 I)=J (ae af e.bh):=by simp[aH,hr,cX]
 have q:∀i,V.frozen? (ai b i I)=false:=λi=>by simp[bM,hr]
 clear hC hS D7 hr;simp only[fill,dZ];go_simp
 by_cases hk:n.kind=0
 ·have HF:U (n.fin e=⟨n.w.zero,true,0,n.ex⟩/\n.turns e=false/\n.kind=0):=by
   show _/\_/\_
   refine⟨?_,?_,hk⟩
   ·unfold dw.fin dw.mh dw.turns;simp[hk]
   unfold dw.turns;simp[hk]
  go_wp2;go_ret2
  have hg:V.grownBy ((V.setCell ⟨b,14,_⟩ (aL true)).setCell ⟨b,15,_⟩ (ae af 0)) _:=(bJ ..).trans (bJ ..)
  refine⟨by rw[HF.2.1,HF.2.2];rfl,?_⟩;rw[HF.1]
  refine H.put (n':=⟨n.w.zero,_,0,_⟩) HC _ hg ?_;have:=HC.row;simp[bN,cL,this,cX]
 have HF:U (n.fin e=⟨n.w.zero,true,n.run+1,n.ex||(!n.ex&&decide (e.bh<((n.run:Int)+1)))⟩/\n.turns e=(!n.ex&&decide (e.bh<((n.run:Int)+1)))):=by
  show _/\_
  refine⟨?_,?_⟩
  ·unfold dw.fin dw.mh dw.turns;simp[hk]
  unfold dw.turns;simp[hk]
 have D_:(n.run:Int)<=1000000:=by have:=hn.o;omega
 have HR:U _:=HC.row;go_wp2_with fail
 obtain⟨V2,hV2⟩:∃W,W=(V.setCell (ai b 14 I) (aL true)).setCell ⟨b,15,I⟩ (ae af ((n.run:Int)+1)):=⟨_,rfl⟩;rw[<- hV2];have hg2:V.grownBy V2 (J b):=by rw[hV2];exact(bJ ..).trans (bJ ..)
 change U _ at hg2
 have hr2:V2.heap[b]?=J (ay (cX (aq (J (ai ba 0 I))) (aq (J (ai bg 0 I))) (aq (J (ai bf 0 I))) e E true true ((n.run:Int)+1) n.ex) 229 (0,0)):=by
  have:=HR.o;rw[hV2];simp[bN,cL,this,cX]
 have bZ:U _:=hr2;have e4:V2.cell? (ai b 4 I)=J (ae af e.bh):=by simp[aH,hr2,cX]
 have anX:V2.cell? (ai b 15 I)=J (ae af ((n.run:Int)+1)):=by simp[aH,hr2,cX]
 have RZ:V2.cell? (ai b 16 I)=J (aL n.ex):=by simp[aH,hr2,cX]
 have q2:∀i,V2.frozen? (ai b i I)=false:=λi=>by simp[bM,hr2]
 have HZ:U (∀q (x:Bool),x=(n.ex||(!n.ex&&decide (e.bh<((n.run:Int)+1))))->gT F ((V2.drewN q).setCell ⟨b,16,I⟩ (aL x)) b e E (J (n.fin e))/\fH F w ((V2.drewN q).setCell ⟨b,16,I⟩ (aL x))):=λq x hx=>by
  have hg3:V.grownBy ((V2.drewN q).setCell ⟨b,16,_⟩ (aL x)) _:=(hg2.trans (Rx ..)).trans (bJ ..);rw[HF.1,<- hx]
  refine H.put (n':=⟨n.w.zero,_,_,x⟩) HC _ hg3 ?_;have h3:=bZ.o;simp[bN,cL,h3,cX]
 clear hV2 hr2 HR HC c4 c14 c15 c16 q hk v8;have HT:U _:=HF.2;clear HF
 cases q1:n.ex
 ·rw[q1]at RZ HT HZ
  by_cases q3:e.bh<((n.run:Int)+1)
  ·have HD:U _:=bD q3;go_quiet (fail)
   go_wp2;go_ret2
   exact⟨by rw[HT.o,HD.o];rfl,HZ _ _ (by rw[HD.o];rfl)⟩
  have HD:U _:=bV q3;go_quiet (fail)
  go_wp2;go_ret2
  exact⟨by rw[HT.o,HD.o];rfl,HZ _ _ (by rw[HD.o];rfl)⟩
 rw[q1]at RZ HT HZ;go_quiet (fail)
 go_wp2;go_ret2
 exact⟨by rw[HT.o];rfl,HZ _ _ rfl⟩
end
section
variable {A:Nat->aC}{F F':Nat->Prop}{w w':ak}{b:Nat}{e:aM}{s:aZ}
def Lq(e:aM):Option dw->aZ->Prop
 |none,s=>s.act=false
 |some n,s=>ku e n s
structure dX(F:Nat->Prop)(w:ak)(b:Nat)(e:aM)(s:aZ):Prop where
 ex:∃E so,gT F w b e E so/\Lq e so s
 lt:∀k,F k->k<w.heap.size
def dX.same(h:dX F w b e s)(hs:∀k,F k->w'.heap[k]?=w.heap[k]?)(hz:w.heap.size<=w'.heap.size):dX F w' b e s:=by
 obtain⟨E,so,h1,h2⟩:=h.ex;exact⟨⟨E,so,h1.same hs,h2⟩,λk hk=>cK (h.lt k hk) hz⟩
def dX.to(h:gT (λk=>F k\/w.heap.size<=k) w' b e E so)(hs:Lq e so s)(hl:∀k,F k->k<w.heap.size)(hz:w.heap.size<=w'.heap.size):dX (gr F w w') w' b e s:=
 ⟨⟨E,so,h.mono (λk hk hf=>hf.imp id (λa=>⟨a,hk⟩)),hs⟩,λk hk=>by
  rcases hk with hk|⟨_,hk⟩
  ·exact cK (hl k hk) hz
  exact hk⟩
def dX.xI(h:gT F w' b e E so)(hs:Lq e so s)(hl:∀k,F k->k<w.heap.size)(hz:w.heap.size<=w'.heap.size):dX (gr F w w') w' b e s:=dX.to (h.mono (λ_ _ h=>aT h)) hs hl hz
def adr(h:dX F w b e s)(hx:w.cell? (ai 5 0 I)=J (errVal A 10))(hS:gG e)(hW:t_ e.aP):Calls prog 124 #[aq (J (ai b 0 I))] w λv w'=>v=ax (errVal A s.tZ)/\dX (gr F w w') w' b e s.begin/\aG F w w':=by
 obtain⟨E,so,h1,h2⟩:=h.ex
 cases so with
 |none=>
  have ha:s.act=false:=h2
  apply(ada h1 hS hW).mono;rintro v w' ⟨rfl,h3,h4⟩;exact⟨by unfold aZ.tZ;rw[ha];rfl,dX.to h3 (ku.new e s ha) h.lt h4.off.size,h4.off⟩
 |some n=>
  have ha:=ku.act h2
  apply(adb _ h1 hx).mono;rintro v w' ⟨rfl,rfl⟩;have hb:s.begin=s:=by unfold aZ.begin;rw[ha];rfl
  rw[hb];exact⟨by unfold aZ.tZ;rw[ha];rfl,dX.xI h1 h2 h.lt (aR _),aG.refl _ _⟩
def R9(h:dX F w b e s)(hx:w.cell? (ai 9 0 I)=J (errVal A 9)):Calls prog 125 #[aq (J (ai b 0 I))] w λv w'=>v=ax (errVal A s.jQ)/\dX (gr F w w') w' b e s.stop/\aG F w w':=by
 obtain⟨E,so,h1,h2⟩:=h.ex
 cases so with
 |none=>
  have ha:s.act=false:=h2
  apply(ade _ h1 hx).mono;rintro v w' ⟨rfl,rfl⟩;exact⟨by unfold aZ.jQ;rw[ha];rfl,dX.xI h1 (show s.stop.act=false from rfl) h.lt (aR _),aG.refl _ _⟩
 |some n=>
  have ha:=ku.act h2
  apply(adf h1).mono;rintro v w' ⟨rfl,h3,h4⟩;exact⟨by unfold aZ.jQ;rw[ha];rfl,dX.xI h3 (show s.stop.act=false from rfl) h.lt h4.off.size,h4.off⟩
def ads(p t:Int)(h:dX F w b e s)(hx:w.cell? (ai 9 0 I)=J (errVal A 9))(hy:w.cell? (ai 7 0 I)=J (errVal A 5))(hS:gG e)(hn:s.ms.length<1000)(ht:0<=t/\t<=1099511627776):Calls prog 126 #[aq (J (ai b 0 I)),ae af p,ae af t] w λv w'=>v=ax (errVal A (s.sw e p))/\dX (gr F w w') w' b e (s.rep e p t)/\aG F w w':=by
 obtain⟨E,so,h1,h2⟩:=h.ex
 cases so with
 |none=>
  have ha:s.act=false:=h2
  apply(adg _ p t h1 hx).mono;rintro v w' ⟨rfl,rfl⟩;have hb:s.rep e p t=s:=by unfold aZ.rep;rw[aK (λx=>by rw[ha]at x;cases x.1)]
  rw[hb];exact⟨by unfold aZ.sw;rw[ha];rfl,dX.xI h1 h2 h.lt (aR _),aG.refl _ _⟩
 |some n=>
  have ha:=ku.act h2
  cases hp:fq e p
  ·apply(adh _ p t h1 hp hy).mono;rintro v w' ⟨rfl,rfl⟩;have hb:s.rep e p t=s:=by unfold aZ.rep;rw[aK (λx=>by rw[hp]at x;cases x.2)]
   rw[hb];exact⟨by unfold aZ.sw;rw[ha,hp];rfl,dX.xI h1 h2 h.lt (aR _),aG.refl _ _⟩
  apply(adi p t h1 hp hS).mono;rintro v w' ⟨rfl,h3,h4⟩;exact⟨by unfold aZ.sw;rw[ha,hp];rfl,dX.xI h3 (ku.rep h2 p t hn (by unfold rQ;rw[bD ht.1,bD ht.2];rfl)) h.lt h4.off.size,h4.off⟩
def adt(h:dX F w b e s)(hc:e.cnt<(e.au.length:Int))(ht:0<=e.bh)(hF:fX s 900000):Calls prog 262 #[aq (J (ai b 0 I))] w λv w'=>v=ax (bn #[ae af (s.kind e),aL (s.turns e)])/\dX (gr F w w') w' b e (s.fin e)/\aG F w w':=by
 obtain⟨E,so,h1,h2⟩:=h.ex
 cases so with
 |none=>
  have ha:s.act=false:=h2
  apply(adp h1).mono;rintro v w' ⟨rfl,rfl⟩;have hb:s.fin e=s:=by unfold aZ.fin;rw[ha];rfl
  rw[hb];exact⟨by unfold aZ.kind aZ.turns;rw[ha];rfl,dX.xI h1 h2 h.lt (aR _),aG.refl _ _⟩
 |some n=>
  have BK:ku e n s:=h2
  apply(adq h1 (by have:=BK.run;have:=hF.r1;have:=hF.s1;omega)).mono;rintro v w' ⟨rfl,h3,h4⟩;exact⟨by rw[BK.kind hc,BK.turns hc ht],dX.xI h3 (BK.fin hc ht hF.each hF.s0) h.lt h4.off.size,h4.off⟩
def adu:∀n,n<=3->Lp n=iY n
 |0,_=>rfl
 |1,_=>rfl
 |2,_=>rfl
 |3,_=>rfl
 |n+4,h=>by omega
def R_(h:dX F w b e s):Calls prog 134 #[aq (J (ai b 0 I))] w λv w'=>v=ax (aA (iY s.status))/\w'=w:=by
 obtain⟨E,so,h1,h2⟩:=h.ex
 cases so with
 |none=>
  have ha:s.act=false:=h2
  apply(adj h1).mono;rintro v w' ⟨rfl,rfl⟩;exact⟨by unfold aZ.status;rw[ha];rfl,rfl⟩
 |some n=>
  have BK:ku e n s:=h2
  apply(adk h1).mono;rintro v w' ⟨rfl,rfl⟩;have hn:n.status<=3:=by unfold dw.status;split;omega;split<;>omega
  exact⟨by rw[adu _ hn,BK.status],rfl⟩
def adv(w:ak)(e:aM)(E:EA)(hP:sA w e E)(hS:gG e):Calls prog 121 #[.agg (eR e E.pa E.pc E.ga E.gc E.ea E.ec E.fa E.fc E.la E.lc)] w λv w'=>∃b,v=ax (aq (J (ai b 0 I)))/\dX (λk=>w.heap.size<=k/\k<w'.heap.size) w' b e aZ.new/\Below w.heap.size w w':=by
 unfold eR
 apply(ac_ w e E hP hS).mono;rintro v w' ⟨⟨b,E',rfl,h1⟩,hb⟩;exact⟨b,rfl,⟨⟨E',_,h1.mono (λk hk h=>⟨h,hk⟩),rfl⟩,λk hk=>hk.2⟩,hb⟩
end
section
variable {A:Nat->aC}{F F':Nat->Prop}{w w':ak}{B rb bc:Nat}{s:aI}{L:List Rec}{sp:Bool}{c:aX}{K:aD}{k W:Nat}
structure jk(F:Nat->Prop)(B:Nat)(w:ak)(rb bc:Nat)(s:aI)(L:List Rec)(sp:Bool):Prop where
 ring:∃v,eK w B rb bc v L sp/\∀k,v.ownBlock=J k->F k
 cells:bU w bc s
 fr:F rb
 fc:F bc
 ne:rb≠bc
 lt:∀k,F k->k<w.heap.size
def jk.off(h:jk F B w rb bc s L sp)(ho:aG S w w')(hS:∀k,F k->¬S k):jk F B w' rb bc s L sp:=by
 obtain⟨v,h1,h2⟩:=h.ring;exact⟨⟨v,h1.off ho (hS rb h.fr) (λg hg=>hS g (h2 g hg)),h2⟩,h.cells.off ho (hS bc h.fc),h.fr,h.fc,h.ne,λk hk=>cK (h.lt k hk) ho.size⟩
def jk.to{v':aw}{L':List Rec}{Sb:Bool}(h:jk F B w rb bc s L sp)(hv:∀k,v.ownBlock=J k->F k)(h1:eK w' B rb bc v' L' Sb)(hn:∀k,v'.ownBlock=J k->v.ownBlock=J k\/w.heap.size<=k)(h2:bU w' bc s')(hz:w.heap.size<=w'.heap.size):jk (gr F w w') B w' rb bc s' L' Sb:=
 ⟨⟨v',h1,λk hk=>(hn k hk).elim (λa=>aT (hv k a)) (λa=>aN ⟨a,(h1.recs.lt k hk).2⟩)⟩,h2,aT h.fr,aT h.fc,h.ne,λk hk=>by
  rcases hk with hk|⟨_,hk⟩
  ·exact cK (h.lt k hk) hz
  exact hk⟩
def jk.Sc(h:jk F B w rb bc s L sp)(h2:bU w' bc s')(hg:w.grownBy w' (J bc)):jk (gr F w w') B w' rb bc s' L sp/\aG F w w':=by
 obtain⟨v,h1,h3⟩:=h.ring;have ho:=aG.cG hg;exact⟨h.to h3 (h1.off ho h.ne (λg hg e=>h1.sep.2 (by rw[hg,e]))) (λk hk=>aT hk) h2 hg.size,ho.mono (λk _ e=>by rw[e];exact h.fc)⟩
def adw(h:jk F B w rb bc K.c K.L K.sp)(hf:bF c K k W)(hW:W+18<=1099511627776)(ho:K.c.off=false)(hs:gZ A w)(qQ:14<=bc)(i kd t:Nat)(h1:i<=255)(h2:kd<=255)(h3:t<=281474976710655):Calls prog 263 #[aq (J (ai rb 0 I)),ae af (i:Int),ae af (kd:Int),ae af (t:Int)] w λe w'=>∃r:Rec,e=ax (bn #[r.val,errVal A (K.app i kd t).2])/\jk (gr F w w') B w' rb bc (K.app i kd t).1.c (K.app i kd t).1.L (K.app i kd t).1.sp/\aG F w w':=by
 have hsp:K.sp=false:=by
  cases e:K.sp with
  |false=>rfl
  |true=>rw[hf.sp e]at ho;cases ho
 obtain⟨v,hr,hv⟩:=h.ring;rw[hsp]at hr;have hS:∀V,aG (λk=>k=bc\/k=rb\/v.ownBlock=J k) w V->aG F w V:=λV hV=>hV.mono (λk _ hk=>by
  rcases hk with rfl|rfl|hk
  ·exact h.fc
  ·exact h.fr
  exact hv k hk)
 have Q5:=hf.last
 by_cases hq:(cU K.L).seq=4294967295
 ·have hB:K.app i kd t=(K,7):=by unfold aD.app;rw[aK (by rw[hsp];simp),aU hq]
  rw[hB]
  apply(ZU A B rb bc v K.L i kd t w hr hs hf.dB (bD (by omega)) (bD (by omega)) (bD (by omega)) hq).mono;rintro e w' ⟨rfl,hb⟩
  refine⟨_,rfl,?_,aG.dm hb F⟩;show jk _ B w' rb bc K.c K.L K.sp
  rw[hsp];exact h.to hv (hr.below hb) (λk hk=>aT hk) (h.cells.below hb) hb.size
 apply(ZV A B rb bc v K.L K.c i kd t w hr h.cells hs qQ h.ne ⟨by have:=hf.wr;omega,hf.left⟩ hf.dB h1 h2 h3 (by omega)).mono;rintro e w' (⟨j,hj,rfl,vD,hc,bz⟩|⟨h0,rfl,⟨v',vD,hv'⟩,hc,bz⟩)
 ·have hB:K.app i kd t=({ K with c:=(K.c.dR (eL K.L i kd t)).1,sp:=true },j+1):=by unfold aD.app;rw[aK (by rw[hsp];simp),aK hq,aK (by omega),hj]
  rw[hB];exact⟨_,rfl,h.to hv vD (λk hk=>aT hk) hc bz.size,hS w' bz⟩
 have hB:K.app i kd t=({ K with c:=(K.c.dR (eL K.L i kd t)).1,L:=mg K.L (eL K.L i kd t) },0):=by unfold aD.app;rw[aK (by rw[hsp];simp),aK hq,aU h0]
 rw[hB]
 refine⟨_,rfl,?_,hS w' bz⟩;show jk _ B w' rb bc _ _ K.sp
 rw[hsp];exact h.to hv vD hv' hc bz.size
def adx(h:jk F B w rb bc K.c K.L K.sp)(hs:gZ A w)(n:Int):Calls prog 70 #[aq (J (ai bc 0 I)),ae af n] w λe w'=>e=ax (errVal A (K.cut n).2)/\jk (gr F w w') B w' rb bc (K.cut n).1.c (K.cut n).1.L (K.cut n).1.sp/\aG F w w':=by
 have same:jk (gr F w w) B w rb bc K.c K.L K.sp:=by obtain⟨v,a,b⟩:=h.ring;exact h.to b a (λk hk=>aT hk) h.cells (aR _)
 by_cases hn:n<0
 ·have hB:K.cut n=(K,2):=by unfold aD.cut;rw[aU hn]
  rw[hB]
  apply(Yx A bc n w hs hn).mono;rintro e w' ⟨rfl,rfl⟩;exact⟨rfl,same,aG.refl _ _⟩
 by_cases ho:K.c.off=true
 ·have hB:K.cut n=(K,8):=by unfold aD.cut;rw[aK hn,aU ho]
  rw[hB]
  apply(Yy A bc K.c n w h.cells hs hn ho).mono;rintro e w' ⟨rfl,rfl⟩;exact⟨rfl,same,aG.refl _ _⟩
 have zv:K.c.off=false:=by cases e:K.c.off;rfl;exact absurd e ho
 obtain⟨q,rfl⟩:∃q:Nat,n=(q:Int):=⟨n.toNat,by omega⟩;have hB:K.cut (q:Int)=({ K with c:={ K.c with cut:=true,left:=q } },0):=by unfold aD.cut;rw[aK hn,aK ho];rfl
 rw[hB]
 apply(Yw bc K.c q w h.cells zv).mono;rintro e w' ⟨rfl,hc,hg,-⟩;obtain⟨a,b⟩:=h.Sc hc hg;exact⟨rfl,a,b⟩
def ady(h:jk F B w rb bc s L sp):Calls prog 128 #[aq (J (ai bc 0 I))] w λe w'=>e=ax (bn #[])/\jk (gr F w w') B w' rb bc { s with off:=false,cut:=false,left:=0 } L sp/\aG F w w':=by
 apply(Yq bc s w h.cells).mono;rintro e w' ⟨rfl,hc,hg,-⟩;obtain⟨a,b⟩:=h.Sc hc hg;exact⟨rfl,a,b⟩
def adz{D:Nat}(h:bU w bc s)(hs:gZ A w)(lh:153<=s.size)(fj:s.off=false)(hD:D<=w.heap.size):Calls prog 184 #[aq (J (ai bc 0 I))] w λe w'=>∃rb,e=ax (bn #[aq (J (ai rb 0 I)),.nilIface])/\jk (λk=>k=bc\/(w.heap.size<=k/\k<w'.heap.size)) D w' rb bc s (iy (s.bytes.take s.size)) false/\Below w.heap.size w w':=by
 apply(Zl A bc s w h hs (by unfold aI.err;rw[aK (by omega),aK (by rw[fj];simp)])).mono;rintro e w' ⟨rb,v,rfl,hr,hb⟩;have hlt:=h.lt;have Qa:=hr.lo
 refine⟨rb,rfl,⟨⟨v,?_,λk hk=>aN (hr.recs.lt k hk)⟩,h.below hb,aN ⟨hr.lo,hr.lt⟩,aT rfl,by omega,λk hk=>?_⟩,hb⟩
 ·rw[Qx _ _ lh];exact⟨hr.heap,hr.recs.mono hD,hr.sep,bp hD hr.lo⟩
 rcases hk with rfl|hk
 ·exact cK hlt hb.size
 exact hk.2
def cS.off{w w':ak}(h:cS w b d)(ho:aG S w w')(h1:¬S b):cS w' b d:=⟨(ho.block b h.lt h1).trans h.heap,h.hc,h.ho,h.hk,h.hb,h.hn⟩
end
def idxOf(l:List ByteArray)(s:ByteArray):Int:=match l.findIdx? (λy=>decide (y=s))with
 |some i=>(i:Int)
 |none=>-1
def pI(h:bw ct 1 w (aj sa l.length cap) l){x:ByteArray}(hx:l[k]?=J x):∃g o,sa=J ⟨g,o,I⟩/\∀i x,l[i]?=J x->w.cell? ⟨g,o+i,I⟩=J (aA x):=by
 obtain⟨bQ,cap',bH,-,hcc⟩:=h
 cases bH
 obtain⟨g,o,rfl,hc0⟩:=hcc (λh=>by rw[h]at hx;simp at hx);exact⟨g,o,rfl,λi x hx=>by have:=hc0 i x hx 0 _ rfl;simpa using this⟩
def xJ{a b:ByteArray}(h:¬a=b):(a.toList==b.toList)=false/\¬a.toList=b.toList:=by
 have h2:¬a.toList=b.toList:=λe=>by
  rw[gW,gW]at e;apply h
  obtain⟨⟨a⟩⟩:=a;obtain⟨⟨b⟩⟩:=b;simp at e
  subst e;rfl
 exact⟨by simpa using h2,h2⟩
def Sd(hk:l[k]?=J s)(h:∀j x,j<k->l[j]?=J x->x≠s):idxOf l s=k:=by
 have:l.findIdx? (λy=>decide (y=s))=J k:=by
  rw[List.findIdx?_eq_some_iff_getElem];obtain⟨hlt,e⟩:=df.1 hk;exact⟨hlt,by simp[e],λj hj=>by simpa using h j _ hj (bq (by omega))⟩
 unfold idxOf;rw[this]
def Hf(h:∀j x,j<l.length->l[j]?=J x->x≠s):idxOf l s=-1:=by
 have:l.findIdx? (λy=>decide (y=s))=I:=by
  rw[Ha];intro y hy;obtain⟨j,hj⟩:=r7 hy;have nC:j<l.length:=by
   rcases fF j l.length with h'|h'
   ·exact h'
   rw[jb h']at hj;cases hj
  simpa using h j y nC hj
 unfold idxOf;rw[this]
def nJ(l:List ByteArray)(s:ByteArray)(sa:Option aC)(cap:Nat)(w:ak)(h:bw ct 1 w (aj sa l.length cap) l)(hn:l.length<=1000000):Calls prog 40 #[aj sa l.length cap,aA s] w λe w'=>e=ax (ae af (idxOf l s))/\w'=w:=by
 have HL:U (bw _ 1 w _ l):=h;go_enter func40,ntmps40
 go_wp2_with fail
 go_loopw [5] (λi wr=>wr=w/\∃k:Nat,k<=l.length/\i=ae af k/\∀j x,j<k->l[j]?=J x->x≠s) (λi _=>l.length-(intOf i).toNat)
 case atStart=>exact⟨rfl,0,bA _,rfl,λj x hj=>absurd hj (by omega)⟩
 case round=>
  obtain⟨rfl,k,hk,rfl,(hno:U _)⟩:=hrel
  by_cases hlt:k<l.length
  ·have k1:(k:Int)<(l.length:Int):=by omega
   obtain⟨x,hx⟩:∃x,l[k]?=J x:=⟨_,bq hlt⟩;obtain⟨g,o,rfl,hc⟩:=pI HL hx;have c0:=hc k x hx;clear hc;change U _ at hx
   by_cases e:x=s
   ·subst e;have HE:U _:=Sd hx.o hno;go_wp2;go_ret;exact⟨by rw[HE.o];rfl,rfl⟩
   have n1:=(xJ e).1;have n2:=(xJ e).2;go_wp2
   go_roundw
   case rel=>
    refine⟨trivial,k+1,by omega,by go_num,λj y hj hy=>?_⟩
    rcases fF j k with h1|h1
    ·exact hno j y h1 hy
    obtain rfl:j=k:=by omega
    rw[hx.o]at hy
    cases hy
    exact e
   case measure=>simp[intOf];omega
  have k1:¬(k:Int)<(l.length:Int):=by omega
  have HE:U _:=Hf (λj x hj hx=>hno j x (by omega) hx);go_wp2;go_ret;exact⟨by rw[HE.o];rfl,rfl⟩
section
variable {w0 w1 w w':ak}{b:Nat}{s s':bG}
def rp(s:bG):Array aw:=#[aA (dE s.st),ae af ((s.bE:Int)-(s.since:Int))]
structure nK(w0 w:ak)(b:Nat)(s:bG):Prop where
 heap:w.heap[b]?=J (ay (rp s) 240 (0,0))
 aY:Below w0.heap.size w0 w
 lo:w0.heap.size<=b
def adA(d:Nat)(w:ak)(hd:d<=20):Calls prog 185 #[ae af (d:Int)] w λv w'=>∃b,v=ax (bn #[aq (J (ai b 0 I)),.nilIface])/\nK w w' b (bG.new d):=by
 have g1:¬(d:Int)<0:=by omega
 have g2:¬20<(d:Int):=by omega
 have e:rp (bG.new d)=#[aA ⟨#[111,107]⟩,ae af (d:Int)]:=by simp[rp,bG.new,dE]
 change U _ at e
 go_enter func185,ntmps185
 go_wp2;go_ret2
 exact⟨_,rfl,by rw[e.o];exact cj w _,aS _ _,aR _⟩
def adB(h:nK w0 w b s):Calls prog 135 #[aq (J (ai b 0 I))] w λv w'=>v=ax (aA (dE s.st))/\w'=w:=by
 have hr:=h.heap;have c0:w.cell? (ai b 0 I)=J (aA (dE s.st)):=by simp[aH,hr,rp]
 go_enter func135,ntmps135
 go_wp2;go_ret;exact⟨rfl,rfl⟩
def adC(h:nK w0 w b s)(hs:s.st<=3):Calls prog 232 #[aq (J (ai b 0 I))] w λv w'=>v=ax (aL (decide (s.st≠3)))/\w'=w:=by
 have hr:=h.heap;have c2:∀x,dE s.st=x->w.cell? (ai b 0 I)=J (aA x):=λx hx=>by simp[aH,hr,hx,rp]
 obtain⟨d,si,st⟩:=s;clear h hr;have hs':st<=3:=hs
 match st,hs' with
 |0,_=>
  have c:=c2 ⟨_⟩ rfl;clear c2;go_enter func232,ntmps232
  go_wp2;go_ret;exact⟨rfl,rfl⟩
 |1,_=>
  have c:=c2 ⟨_⟩ rfl;clear c2;go_enter func232,ntmps232
  go_wp2;go_ret;exact⟨rfl,rfl⟩
 |2,_=>
  have c:=c2 ⟨_⟩ rfl;clear c2;go_enter func232,ntmps232
  go_wp2;go_ret;exact⟨rfl,rfl⟩
 |3,_=>
  have c:=c2 ⟨_⟩ rfl;clear c2;go_enter func232,ntmps232
  go_wp2;go_ret;exact⟨rfl,rfl⟩
def adD(l:List ByteArray)(s:ByteArray)(sa:Option aC)(cap:Nat)(w:ak)(h:bw ct 1 w (aj sa l.length cap) l)(hn:l.length<=1000000):Calls prog 311 #[aj sa l.length cap,aA s] w λe w'=>e=ax (ae af (idxOf l s))/\w'=w:=by
 have HL:U (bw _ 1 w _ l):=h;go_enter func311,ntmps311
 go_wp2_with fail
 go_loopw [5,8] (λ_ i wr=>wr=w/\∃k:Nat,k<=l.length/\i=ae af k/\∀j x,j<k->l[j]?=J x->x≠s) (λ_ i _=>l.length-(intOf i).toNat)
 case atStart=>exact⟨rfl,0,bA _,rfl,λj x hj=>absurd hj (by omega)⟩
 case round=>
  obtain⟨rfl,k,hk,rfl,(hno:U _)⟩:=hrel
  by_cases hlt:k<l.length
  ·have k1:(k:Int)<(l.length:Int):=by omega
   obtain⟨x,hx⟩:∃x,l[k]?=J x:=⟨_,bq hlt⟩;obtain⟨g,o,rfl,hc⟩:=pI HL hx;have c0:=hc k x hx;clear hc;change U _ at hx
   by_cases e:x=s
   ·subst e;have HE:U _:=Sd hx.o hno;go_wp2;go_ret;exact⟨by rw[HE.o];rfl,rfl⟩
   have n1:=(xJ e).1;have n2:=(xJ e).2;have n3:=(xJ (λe'=>e e'.symm:¬s=x)).1;have n4:=(xJ (λe'=>e e'.symm:¬s=x)).2;go_wp2
   go_roundw
   case rel=>
    refine⟨trivial,k+1,by omega,by go_num,λj y hj hy=>?_⟩
    rcases fF j k with h1|h1
    ·exact hno j y h1 hy
    obtain rfl:j=k:=by omega
    rw[hx.o]at hy
    cases hy
    exact e
   case measure=>simp[intOf];omega
  have k1:¬(k:Int)<(l.length:Int):=by omega
  have HE:U _:=Hf (λj x hj hx=>hno j x (by omega) hx);go_wp2;go_ret;exact⟨by rw[HE.o];rfl,rfl⟩
def adE(l:List ByteArray)(x:ByteArray):decide (0<=idxOf l x)=hasB l x:=by
 cases hb:hasB l x with
 |false=>
  have:idxOf l x=-1:=Hf (λj y _ hy e=>by
   have:=jY.1 hb y (bP hy);simp[e]at this)
  rw[this];rfl
 |true=>
  unfold hasB at hb;obtain⟨y,hy,he⟩:=kD.1 hb;unfold idxOf
  split
  ·simp
  rename_i hn;have:=Ha.1 hn y hy;rw[he]at this
  cases this
def Ea(l:List ByteArray)(s:ByteArray)(sa:Option aC)(cap:Nat)(w:ak)(h:bw ct 1 w (aj sa l.length cap) l)(hn:l.length<=1000000):Calls prog 292 #[aj sa l.length cap,aA s] w λe w'=>e=ax (aL (hasB l s))/\w'=w:=by
 have H:U (Calls _ 311 _ w λe w'=>e=ax _/\w'=w):=adD l s sa cap w h hn;rw[<- adE];go_enter func292,ntmps292
 go_wp2_with fail
 refine H.mono ?_;rintro e w' ⟨rfl,rfl⟩;go_wp2;go_ret;exact⟨rfl,rfl⟩
def adF(l:List ByteArray)(sa:Option aC)(cap:Nat)(w:ak)(h:bw ct 1 w (aj sa l.length cap) l)(hn:l.length<=1000000):Calls prog 264 #[aj sa l.length cap] w λe w'=>e=ax (aA (dE (gC l)))/\w'=w:=by
 have HL:U (bw _ 1 w _ l):=h;change U _ at hn
 cases hx:hasB l lA
 ·cases hf:hasB l qa
  ·have HW:U (dE (gC l)=⟨#[111,107]⟩):=by show _=_;unfold gC;rw[aK (by rw[hx];simp),aK (by rw[hf];simp)];rfl
   have HX:U (hasB l ⟨_⟩=false):=hx;have HF:U (hasB l ⟨_⟩=false):=hf;go_enter func264,ntmps264
   go_wp2_with fail
   apply(Ea l _ sa cap _ HL hn).mono;rintro e w' ⟨rfl,rfl⟩;rw[HX.o];go_wp2_with fail
   apply(Ea l _ sa cap _ HL hn).mono;rintro e w' ⟨rfl,rfl⟩;rw[HF.o];go_wp2;go_ret;exact⟨by rw[HW.o];rfl,rfl⟩
  have HW:U (dE (gC l)=⟨#[102,97,105,108,101,100]⟩):=by show _=_;unfold gC;rw[aK (by rw[hx];simp),aU hf];rfl
  have HX:U (hasB l ⟨_⟩=false):=hx;have HF:U (hasB l ⟨_⟩=true):=hf;go_enter func264,ntmps264
  go_wp2_with fail
  apply(Ea l _ sa cap _ HL hn).mono;rintro e w' ⟨rfl,rfl⟩;rw[HX.o];go_wp2_with fail
  apply(Ea l _ sa cap _ HL hn).mono;rintro e w' ⟨rfl,rfl⟩;rw[HF.o];go_wp2;go_ret;exact⟨by rw[HW.o];rfl,rfl⟩
 have HW:U (dE (gC l)=⟨#[101,120,112,105,114,101,100]⟩):=by show _=_;unfold gC;rw[aU hx];rfl
 have HX:U (hasB l ⟨_⟩=true):=hx;go_enter func264,ntmps264
 go_wp2_with fail
 apply(Ea l _ sa cap _ HL hn).mono;rintro e w' ⟨rfl,rfl⟩;rw[HX.o];go_wp2;go_ret;exact⟨by rw[HW.o];rfl,rfl⟩
def nK.put(h:nK w0 w b s)(j:Nat)(u:aw)(hr:(rp s).setIfInBounds j u=rp s'):nK w0 (w.setCell (ai b j I) u) b s':=by
 refine⟨?_,h.aY.setCell (p:=⟨b,j,_⟩) h.lo _,h.lo⟩;simp only[bN,cL,h.heap];simp[<- hr]
def adG(w0 w:ak)(b k:Nat)(s:bG)(l:List ByteArray)(sa:Option aC)(cap:Nat)(h:nK w0 w b s)(hf:pw s k)(P0:k<=100000)(hl:∀V,w.grownBy V (J b)->bw ct 1 V (aj sa l.length cap) l)(hn:l.length<=1000000):Calls prog 231 #[aq (J (ai b 0 I)),aj sa l.length cap] w λv w'=>v=ax (aA (dE (s.fin l).st))/\nK w0 w' b (s.fin l)/\w.grownBy w' (J b):=by
 change U _ at hl
 have HN:U _:=hn;obtain⟨d,si,st⟩:=s;have hr:=h.heap;have c1:w.cell? (ai b 1 I)=J (ae af ((d:Int)-(si:Int))):=by simp[aH,hr,rp]
 have Sg:w.cell? (ai b 0 I)=J (aA (dE st)):=by simp[aH,hr,rp]
 have q:∀i,w.frozen? (ai b i I)=false:=λi=>by simp[bM,hr]
 have hst:st<=3:=hf.st;have adH:d<=20:=hf.d;have hlt:st=2->si<d:=hf.lt;have hz:st<2->si=0:=hf.z;have uf:U (∀W,w.grownBy W _->w.grownBy W (J b)):=λW hW=>hW
 change U _ at h
 clear hr hf hn;have go:∀x,dE st=x->w.cell? _=J _:=λx hx=>by rw[<- hx];exact Sg
 clear Sg
 by_cases h3:st=3
 ·subst h3;have c0:=go ⟨_⟩ rfl;clear go;go_enter func231,ntmps231
  go_wp2;go_ret;exact⟨rfl,h,vt _ _⟩
 by_cases h2:st=2
 ·subst h2;have c0:=go ⟨_⟩ rfl;clear go;have Lr:=hlt rfl;obtain⟨n,hn⟩:∃n:Nat,d=si+1+n:=⟨d-(si+1),by omega⟩;have hc1:((d:Int)-(si:Int))=(n:Int)+1:=by omega
  rw[hc1]at c1;have anY:n<=20:=by omega
  have HV:U (∀V,V=w.setCell (ai b 1 I) (ae af (n:Int))->nK w0 V b ⟨d,si+1,2⟩/\w.grownBy V (J b)):=λV hV=>by
   rw[hV];exact⟨h.put (s':=⟨d,_,2⟩) 1 _ (by simp[rp];omega),bJ _ _ _ _⟩
  clear hlt hz hst adH hc1 Lr h3
  by_cases hd:n=0
  ·subst hd;have HE:U (bG.fin ⟨d,si,2⟩ l=⟨d,si+1,3⟩):=by show _=_;rw[show bG.fin _ l=bG.cut ⟨d,si+1,2⟩from rfl];unfold bG.cut;rw[aU ⟨rfl,by show si+1=d;omega⟩]
   clear hn;simp only[vB,Int.zero_add]at c1 HV;go_enter func231,ntmps231
   go_wp2
   go_ret;obtain⟨a1,a2⟩:=HV _ rfl;exact⟨by rw[HE.o];rfl,by rw[HE.o];exact a1.put (s':=⟨d,_,3⟩) 0 _ rfl,uf _ (a2.trans (bJ ..))⟩
  have ug:¬(n:Int)=0:=by omega
  have HE:U (bG.fin ⟨d,si,2⟩ l=⟨d,si+1,2⟩):=by show _=_;rw[show bG.fin _ l=bG.cut ⟨d,si+1,2⟩from rfl];unfold bG.cut;rw[aK (λx=>hd (by have:si+1=d:=x.2;omega))]
  clear hn;go_enter func231,ntmps231
  go_wp2
  go_ret;obtain⟨a1,a2⟩:=HV _ rfl;exact⟨by rw[HE.o];rfl,by rw[HE.o];exact a1,uf _ a2⟩
 obtain rfl:=hz (by omega);have HW:U (bG.fin ⟨d,0,st⟩ l=bG.cut ⟨d,0,gC l⟩):=by show _=_;unfold bG.fin;rw[aK h3,aK h2]
 have zA:st=0\/st=1:=by omega
 have hw3:=O0 l;have rq:U (∀x,dE (gC l)=x->Calls prog 264 #[aj sa l.length cap] w λe w'=>e=ax (aA x)/\w'=w):=λx hx=>by
  rw[<- hx];exact adF l sa cap w (hl w (vt _ _)) HN
 simp only[vB,Int.sub_zero]at c1;clear hst h2 h3 hz hlt hl HN;generalize gC l=wo at HW hw3 rq
 rcases zA with rfl|rfl
 ·have c0:=go ⟨_⟩ rfl;clear go
  match wo,hw3 with
  |0,_=>
   obtain⟨a1,a2⟩:nK w0 (w.setCell _ (aA ⟨_⟩)) b _/\w.grownBy (w.setCell ⟨b,0,_⟩ (aA ⟨#[111,107]⟩)) _:=⟨h.put (s':=⟨d,0,0⟩) 0 _ rfl,bJ _ _ _ _⟩;change U _ at a1 a2
   have HE:U (bG.fin ⟨d,0,0⟩ l=⟨d,0,0⟩):=by show _=_;rw[HW.o];unfold bG.cut;rw[aK (λx=>by have:(0:Nat)=2:=x.1;omega)]
   go_enter func231,ntmps231
   go_wp2_with fail
   apply(rq ⟨_⟩ rfl).mono;rintro e w' ⟨rfl,rfl⟩;go_wp2
   go_ret;exact⟨by rw[HE.o];rfl,by rw[HE.o];exact a1,uf _ a2⟩
  |1,_=>
   obtain⟨a1,a2⟩:nK w0 (w.setCell _ (aA ⟨_⟩)) b _/\w.grownBy (w.setCell ⟨b,0,_⟩ (aA ⟨#[102,97,105,108,101,100]⟩)) _:=⟨h.put (s':=⟨d,0,1⟩) 0 _ rfl,bJ _ _ _ _⟩;change U _ at a1 a2
   have HE:U (bG.fin ⟨d,0,0⟩ l=⟨d,0,1⟩):=by show _=_;rw[HW.o];unfold bG.cut;rw[aK (λx=>by have:(1:Nat)=2:=x.1;omega)]
   go_enter func231,ntmps231
   go_wp2_with fail
   apply(rq ⟨_⟩ rfl).mono;rintro e w' ⟨rfl,rfl⟩;go_wp2
   go_ret;exact⟨by rw[HE.o];rfl,by rw[HE.o];exact a1,uf _ a2⟩
  |2,_=>
   obtain⟨a1,a2⟩:nK w0 (w.setCell _ (aA ⟨_⟩)) b _/\w.grownBy (w.setCell ⟨b,0,_⟩ (aA ⟨#[101,120,112,105,114,101,100]⟩)) _:=⟨h.put (s':=⟨d,0,2⟩) 0 _ rfl,bJ _ _ _ _⟩;change U _ at a1 a2
   by_cases hd:d=0
   ·subst hd;have HE:U (bG.fin ⟨0,0,0⟩ l=⟨0,0,3⟩):=by show _=_;rw[HW.o];unfold bG.cut;rw[aU ⟨rfl,rfl⟩]
    simp only[vB]at c1;go_enter func231,ntmps231
    go_wp2_with fail
    apply(rq ⟨_⟩ rfl).mono;rintro e w' ⟨rfl,rfl⟩;go_wp2
    go_ret;exact⟨by rw[HE.o];rfl,by rw[HE.o];exact a1.put (s':=⟨0,0,3⟩) 0 _ rfl,uf _ (a2.trans (bJ ..))⟩
   have ug:¬(d:Int)=0:=by omega
   have HE:U (bG.fin ⟨d,0,0⟩ l=⟨d,0,2⟩):=by show _=_;rw[HW.o];unfold bG.cut;rw[aK (λx=>hd x.2.symm)]
   go_enter func231,ntmps231
   go_wp2_with fail
   apply(rq ⟨_⟩ rfl).mono;rintro e w' ⟨rfl,rfl⟩;go_wp2
   go_ret;exact⟨by rw[HE.o];rfl,by rw[HE.o];exact a1,uf _ a2⟩
 have c0:=go ⟨_⟩ rfl;clear go
 match wo,hw3 with
 |0,_=>
  obtain⟨a1,a2⟩:nK w0 (w.setCell _ (aA ⟨_⟩)) b _/\w.grownBy (w.setCell ⟨b,0,_⟩ (aA ⟨#[111,107]⟩)) _:=⟨h.put (s':=⟨d,0,0⟩) 0 _ rfl,bJ _ _ _ _⟩;change U _ at a1 a2
  have HE:U (bG.fin ⟨d,0,1⟩ l=⟨d,0,0⟩):=by show _=_;rw[HW.o];unfold bG.cut;rw[aK (λx=>by have:(0:Nat)=2:=x.1;omega)]
  go_enter func231,ntmps231
  go_wp2_with fail
  apply(rq ⟨_⟩ rfl).mono;rintro e w' ⟨rfl,rfl⟩;go_wp2
  go_ret;exact⟨by rw[HE.o];rfl,by rw[HE.o];exact a1,uf _ a2⟩
 |1,_=>
  obtain⟨a1,a2⟩:nK w0 (w.setCell _ (aA ⟨_⟩)) b _/\w.grownBy (w.setCell ⟨b,0,_⟩ (aA ⟨#[102,97,105,108,101,100]⟩)) _:=⟨h.put (s':=⟨d,0,1⟩) 0 _ rfl,bJ _ _ _ _⟩;change U _ at a1 a2
  have HE:U (bG.fin ⟨d,0,1⟩ l=⟨d,0,1⟩):=by show _=_;rw[HW.o];unfold bG.cut;rw[aK (λx=>by have:(1:Nat)=2:=x.1;omega)]
  go_enter func231,ntmps231
  go_wp2_with fail
  apply(rq ⟨_⟩ rfl).mono;rintro e w' ⟨rfl,rfl⟩;go_wp2
  go_ret;exact⟨by rw[HE.o];rfl,by rw[HE.o];exact a1,uf _ a2⟩
 |2,_=>
  obtain⟨a1,a2⟩:nK w0 (w.setCell _ (aA ⟨_⟩)) b _/\w.grownBy (w.setCell ⟨b,0,_⟩ (aA ⟨#[101,120,112,105,114,101,100]⟩)) _:=⟨h.put (s':=⟨d,0,2⟩) 0 _ rfl,bJ _ _ _ _⟩;change U _ at a1 a2
  by_cases hd:d=0
  ·subst hd;have HE:U (bG.fin ⟨0,0,1⟩ l=⟨0,0,3⟩):=by show _=_;rw[HW.o];unfold bG.cut;rw[aU ⟨rfl,rfl⟩]
   simp only[vB]at c1;go_enter func231,ntmps231
   go_wp2_with fail
   apply(rq ⟨_⟩ rfl).mono;rintro e w' ⟨rfl,rfl⟩;go_wp2
   go_ret;exact⟨by rw[HE.o];rfl,by rw[HE.o];exact a1.put (s':=⟨0,0,3⟩) 0 _ rfl,uf _ (a2.trans (bJ ..))⟩
  have ug:¬(d:Int)=0:=by omega
  have HE:U (bG.fin ⟨d,0,1⟩ l=⟨d,0,2⟩):=by show _=_;rw[HW.o];unfold bG.cut;rw[aK (λx=>hd x.2.symm)]
  go_enter func231,ntmps231
  go_wp2_with fail
  apply(rq ⟨_⟩ rfl).mono;rintro e w' ⟨rfl,rfl⟩;go_wp2
  go_ret;exact⟨by rw[HE.o];rfl,by rw[HE.o];exact a1,uf _ a2⟩
end
section
variable {F F':Nat->Prop}{B:Nat}{w w':ak}{b rb bc:Nat}{e:aM}{s s':aZ}{cs:aI}{L:List Rec}{sp:Bool}
def dX.grow(h:dX F w b e s)(hF:∀k,F k->F' k)(hl:∀k,F' k->k<w.heap.size):dX F' w b e s:=by
 obtain⟨E,so,h1,h2⟩:=h.ex;exact⟨⟨E,so,h1.mono (λk _ hk=>hF k hk),h2⟩,hl⟩
def dX.idle(h:dX F w b e s)(h1:s.act=false)(h2:s'.act=false):dX F w b e s':=by
 obtain⟨E,so,h3,h4⟩:=h.ex
 cases so with
 |none=>exact⟨⟨E,_,h3,h2⟩,h.lt⟩
 |some n=>
  have:=ku.act h4;rw[h1]at this
  cases this
def jk.grow(h:jk F B w rb bc cs L sp)(hF:∀k,F k->F' k)(hl:∀k,F' k->k<w.heap.size):jk F' B w rb bc cs L sp:=by
 obtain⟨v,h1,h2⟩:=h.ring;exact⟨⟨v,h1,λk hk=>hF k (h2 k hk)⟩,h.cells,hF _ h.fr,hF _ h.fc,h.ne,hl⟩
end
structure fI(A:Nat->aC)(w:ak):Prop where
 c1:w.cell? (ai 0 0 I)=J (.iface 357 (aq (J (A 1))))
 c2:w.cell? (ai 1 0 I)=J (.iface 357 (aq (J (A 2))))
 c3:w.cell? (ai 2 0 I)=J (.iface 357 (aq (J (A 3))))
 c4:w.cell? (ai 7 0 I)=J (.iface 357 (aq (J (A 4))))
 c5:w.cell? (ai 3 0 I)=J (.iface 357 (aq (J (A 5))))
 c6:w.cell? (ai 13 0 I)=J (.iface 357 (aq (J (A 6))))
 c7:w.cell? (ai 4 0 I)=J (.iface 357 (aq (J (A 7))))
 c8:w.cell? (ai 9 0 I)=J (.iface 357 (aq (J (A 8))))
 c9:w.cell? (ai 5 0 I)=J (.iface 357 (aq (J (A 9))))
 c10:w.cell? (ai 10 0 I)=J (.iface 357 (aq (J (A 10))))
def fI.below(h:fI A w)(hb:Below w.heap.size w w'):fI A w':=
 ⟨aJ hb h.c1,aJ hb h.c2,aJ hb h.c3,aJ hb h.c4,aJ hb h.c5,aJ hb h.c6,aJ hb h.c7,aJ hb h.c8,aJ hb h.c9,aJ hb h.c10⟩
def fI.four(h:fI A w):gZ A w:=⟨h.c1,h.c2,h.c6,h.c7⟩
def fI.gf(h:fI A w):14<=w.heap.size:=by
 have h1:=jf h.c1;have h2:=jf h.c2;have h3:=jf h.c6;have h4:=jf h.c7;simp only[]at h1 h2 h3 h4;omega
def xK(c:aX)(bd bc:Nat)(rv lv tv:aw):Array aw:=#[aq (J (ai bd 0 I)),ae af c.cycle,aq (J (ai bc 0 I)),ae af c.bE,rv,lv,tv]
structure bS(H:Nat->Nat->Prop)(w0 w:ak)(c:aX)(kb bc bd rb bt:Nat)(lv:aw)(bs:List Nat)(K:aD):Prop where
 bO:mq H w0.heap.size w
 row:w.heap[kb]?=J (ay (xK c bd bc (aq (J (ai rb 0 I))) lv (aq (J (ai bt 0 I)))) 189 (0,0))
 hk:H 0 kb
 own:bI lM 1 190 w0.heap.size w lv bs
 hl:∀k,lv.ownBlock=J k->H 1 k
 ring:jk (H 2) w0.heap.size w rb bc K.c K.L K.sp
 dog:cS w bd K.d
 hd:H 3 bd
 ij:w.heap[bt]?=J (ay (rp K.t) 240 (0,0))
 ht:H 4 bt
 loc:∀i b e s,bs[i]?=J b->c.az[i]?=J e->K.ls[i]?=J s->dX (H (5+i)) w b e s
 dY:bs.length=c.az.length
 dB:K.ls.length=c.az.length
 aY:Below w0.heap.size w0 w
section
variable {H:Nat->Nat->Prop}{F:Nat->Prop}{w0 w w':ak}{c:aX}{kb bc bd rb bt:Nat}{lv:aw}{bs:List Nat}{K:aD}
def bS.vE(h:bS H w0 w c kb bc bd rb bt lv bs K)(ho:aG (H i) w w'):Below w0.heap.size w0 w':=aG.below h.aY ho h.aY.size (λk hk=>h.bO.lo i k hk)
def bS.qA(h:bS H w0 w c kb bc bd rb bt lv bs K)(ho:aG (H i) w w'):mq (cO H i w w') w0.heap.size w':=h.bO.upd ho.size h.aY.size i
def bS.Ls(h:bS H w0 w c kb bc bd rb bt lv bs K)(ho:aG (H i) w w')(hi:2≠i):jk (cO H i w w' 2) w0.heap.size w' rb bc K.c K.L K.sp:=
 (h.ring.off ho (λ_ hk=>h.bO.not hi hk)).grow (λ_ hk=>aT hk) (λk hk=>(h.qA ho).lt 2 k hk)
def bS.Hg(h:bS H w0 w c kb bc bd rb bt lv bs K)(ho:aG (H i) w w'){s:aZ}(hl:dX (H (5+j)) w b e s)(hj:5+j≠i):dX (cO H i w w' (5+j)) w' b e s:=
 (hl.same (h.bO.keep hj ho) ho.size).grow (λ_ hk=>aT hk) (λk hk=>(h.qA ho).lt _ k hk)
def bS.off(h:bS H w0 w c kb bc bd rb bt lv bs K)(ho:aG S w w')(hS:∀i k,H i k->¬S k)(hB:∀k,S k->w0.heap.size<=k):bS H w0 w' c kb bc bd rb bt lv bs K:=by
 have hs:=λi k hk=>ho.block k (h.bO.lt i k hk) (hS i k hk)
 exact⟨h.bO.grow ho.size,(hs 0 kb h.hk).trans h.row,h.hk,bI.same h.own (λg hg=>hs 1 g (h.hl g hg)),h.hl,h.ring.off ho (λk hk=>hS 2 k hk),h.dog.off ho (hS 3 bd h.hd),h.hd,(hs 4 bt h.ht).trans h.ij,h.ht,
  λi b e s h1 h2 h3=>(h.loc i b e s h1 h2 h3).same (hs _) ho.size,h.dY,h.dB,aG.below h.aY ho h.aY.size hB⟩
def bS.below(h:bS H w0 w c kb bc bd rb bt lv bs K)(hb:Below w.heap.size w w'):bS H w0 w' c kb bc bd rb bt lv bs K:=
 h.off (aG.dm hb (λ_=>False)) (λ_ _ _ e=>e) (λ_ e=>e.elim)
def bS.xL(h:bS H w0 w c kb bc bd rb bt lv bs K)(ho:aG (H 3) w w')(hd:cS w' bd d):bS (cO H 3 w w') w0 w' c kb bc bd rb bt lv bs { K with d:=d }:=
 ⟨h.qA ho,(h.bO.keep (show 0≠3 by decide) ho kb h.hk).trans h.row,aT h.hk,bI.same h.own (λg hg=>h.bO.keep (show 1≠3 by decide) ho g (h.hl g hg)),λk hk=>aT (h.hl k hk),
  h.Ls ho (ar rfl),hd,aT h.hd,(h.bO.keep (show 4≠3 by decide) ho bt h.ht).trans h.ij,aT h.ht,
  λi b e s h1 h2 h3=>h.Hg ho (h.loc i b e s h1 h2 h3) (by omega),h.dY,h.dB,h.vE ho⟩
def bS.Lt(h:bS H w0 w c kb bc bd rb bt lv bs K)(ho:aG (H 4) w w'){t:bG}(ht:w'.heap[bt]?=J (ay (rp t) 240 (0,0))):bS (cO H 4 w w') w0 w' c kb bc bd rb bt lv bs { K with t:=t }:=
 ⟨h.qA ho,(h.bO.keep (show 0≠4 by decide) ho kb h.hk).trans h.row,aT h.hk,bI.same h.own (λg hg=>h.bO.keep (show 1≠4 by decide) ho g (h.hl g hg)),λk hk=>aT (h.hl k hk),
  h.Ls ho (ar rfl),h.dog.off ho (h.bO.not (show 3≠4 by decide) h.hd),aT h.hd,ht,aT h.ht,
  λi b e s h1 h2 h3=>h.Hg ho (h.loc i b e s h1 h2 h3) (by omega),h.dY,h.dB,h.vE ho⟩
def bS.toRing(h:bS H w0 w c kb bc bd rb bt lv bs K)(ho:aG (H 2) w w'){s:aI}{L:List Rec}{sp:Bool}(hr:jk (gr (H 2) w w') w0.heap.size w' rb bc s L sp):bS (cO H 2 w w') w0 w' c kb bc bd rb bt lv bs { K with c:=s,L:=L,sp:=sp }:=
 ⟨h.qA ho,(h.bO.keep (show 0≠2 by decide) ho kb h.hk).trans h.row,aT h.hk,bI.same h.own (λg hg=>h.bO.keep (show 1≠2 by decide) ho g (h.hl g hg)),λk hk=>aT (h.hl k hk),
  hr.grow (λk hk=>hk.imp id (λa=>⟨rfl,a⟩)) (λk hk=>(h.qA ho).lt 2 k hk),h.dog.off ho (h.bO.not (show 3≠2 by decide) h.hd),aT h.hd,(h.bO.keep (show 4≠2 by decide) ho bt h.ht).trans h.ij,aT h.ht,
  λi b e s h1 h2 h3=>h.Hg ho (h.loc i b e s h1 h2 h3) (by omega),h.dY,h.dB,h.vE ho⟩
def bS.uh(h:bS H w0 w c kb bc bd rb bt lv bs K){s:aZ}(ho:aG (H (5+i)) w w')(hb:bs[i]?=J b)(he:c.az[i]?=J e)(hl:dX (gr (H (5+i)) w w') w' b e s):bS (cO H (5+i) w w') w0 w' c kb bc bd rb bt lv bs (K.dT i s):=
 ⟨h.qA ho,(h.bO.keep (show 0≠5+i by omega) ho kb h.hk).trans h.row,aT h.hk,bI.same h.own (λg hg=>h.bO.keep (show 1≠5+i by omega) ho g (h.hl g hg)),λk hk=>aT (h.hl k hk),
  h.Ls ho (by omega),h.dog.off ho (h.bO.not (show 3≠5+i by omega) h.hd),aT h.hd,(h.bO.keep (show 4≠5+i by omega) ho bt h.ht).trans h.ij,aT h.ht,
  λj b' e' s' h1 h2 h3=>by
   by_cases hj:j=i
   ·subst hj;rw[hb]at h1;rw[he]at h2
    cases h1;cases h2
    have:s'=s:=by
     have h4:(K.ls.set j s)[j]?=J s':=h3;rw[DW (by rw[h.dB];exact(df.1 he).1)]at h4;exact(fg h4).symm
    subst this;exact hl.grow (λk hk=>hk.imp id (λh5=>⟨rfl,h5⟩)) (λk hk=>(h.qA ho).lt _ k hk)
   have h4:(K.ls.set i s)[j]?=J s':=h3;rw[List.getElem?_set_ne (λe=>hj e.symm)]at h4;exact h.Hg ho (h.loc j b' e' s' h1 h2 h4) (by omega),h.dY,by show (K.ls.set i s).length=_;rw[AX];exact h.dB,h.vE ho⟩
def bS.cell(h:bS H w0 w c kb bc bd rb bt lv bs K)(j:Nat)(u:aw)(hu:(xK c bd bc (aq (J (ai rb 0 I))) lv (aq (J (ai bt 0 I))))[j]?=J u):w.cell? (ai kb j I)=J u:=by
 simp[aH,h.row,hu]
def bS.to(h:bS H w0 w c kb bc bd rb bt lv bs K):nK w0 w bt K.t:=⟨h.ij,h.aY,h.bO.lo 4 bt h.ht⟩
def bS.qB(h:bS H w0 w c kb bc bd rb bt lv bs K){s:aZ}(hs:K.ls[i]?=J s):∃(b:Nat) (e:aM) (g cap:Nat),bs[i]?=J b/\c.az[i]?=J e/\lv=aj (J (ai g 0 I)) K.ls.length cap/\w.cell? (ai g i I)=J (aq (J (ai b 0 I)))/\dX (H (5+i)) w b e s:=by
 have hi:=(df.1 hs).1;obtain⟨b,hb⟩:∃b,bs[i]?=J b:=⟨_,bq (by rw[h.dY,<- h.dB];exact hi)⟩;obtain⟨e,he⟩:∃e,c.az[i]?=J e:=⟨_,bq (by rw[<- h.dB];exact hi)⟩;have h1:=h.loc i b e s hb he hs;have hl:bs.length=K.ls.length:=by rw[h.dY,h.dB]
 obtain⟨-,hn|⟨g,cap,cur,h3,-,h4,h5,h6,h7,h8⟩⟩:=h.own
 ·exact absurd hn.2 (by omega)
 rw[hl]at h3
 refine⟨b,e,g,cap,hb,he,h3,?_,h1⟩;have:=Dw (enc:=lM) (k:=1) (λ_=>rfl) bs i 0 b _ hb rfl;simp only[qT,kH]at this;rw[<- h8,np,aU (by omega)]at this;simp only[aH,h4];simpa using this
end
def eZ(F:Nat->Prop)(w0 w:ak)(c:aX)(kb bc:Nat)(K:aD):Prop:=
 ∃H bd rb bt lv bs,bS H w0 w c kb bc bd rb bt lv bs K/\∀i k,H i k->F k
def dh(F:Nat->Prop)(w0 w:ak)(c:aX)(kb bc:Nat)(K:aD)(w':ak):Prop:=eZ (gr F w w') w0 w' c kb bc K/\aG F w w'
section
variable {H:Nat->Nat->Prop}{F:Nat->Prop}{w0 w w' V:ak}{c:aX}{kb bc bd rb bt:Nat}{lv:aw}{bs:List Nat}{K K1:aD}
def dh.same(h:eZ F w0 w c kb bc K):dh F w0 w c kb bc K w:=by
 obtain⟨H,bd,rb,bt,lv,bs,h1,h2⟩:=h;exact⟨⟨H,bd,rb,bt,lv,bs,h1,λi k hk=>aT (h2 i k hk)⟩,aG.refl _ _⟩
def bS.post{Eb adI Hh:Nat}{Lu:aw}{Hi:List Nat}{K':aD}(hF:∀i k,H i k->F k)(ho:aG (H i) w w')(h:bS (cO H i w w') w0 w' c kb bc Eb adI Hh Lu Hi K'):dh F w0 w c kb bc K' w':=
 ⟨⟨_,_,_,_,_,_,h,xC hF i⟩,aG.all hF ho⟩
def dh.trans(h1:dh F w0 w c kb bc K1 V)(h2:dh (gr F w V) w0 V c kb bc K w'):dh F w0 w c kb bc K w':=by
 obtain⟨⟨H,bd,rb,bt,lv,bs,h3,h4⟩,h5⟩:=h2;exact⟨⟨H,bd,rb,bt,lv,bs,h3,λi k hk=>KO h1.2.size h5.size (h4 i k hk)⟩,h1.2.gr h5⟩
def dh.below(h:dh F w0 w c kb bc K w')(hb:Below w'.heap.size w' V):dh F w0 w c kb bc K V:=by
 obtain⟨⟨H,bd,rb,bt,lv,bs,h3,h4⟩,h5⟩:=h;exact⟨⟨H,bd,rb,bt,lv,bs,h3.below hb,λi k hk=>(h4 i k hk).imp id (λ⟨a,b⟩=>⟨a,cK b hb.size⟩)⟩,h5.trans (aG.dm hb F) (λ_ _ h=>h)⟩
def dh.from(h:dh F w0 V c kb bc K w')(hb:Below w.heap.size w V):dh F w0 w c kb bc K w':=by
 obtain⟨⟨H,bd,rb,bt,lv,bs,h1,h2⟩,h3⟩:=h;exact⟨⟨H,bd,rb,bt,lv,bs,h1,λi k hk=>(h2 i k hk).imp id (λ⟨a,b⟩=>⟨bp hb.size a,b⟩)⟩,(aG.dm hb F).trans h3 (λ_ _ h=>h)⟩
def eZ.aY(h:eZ F w0 w c kb bc K):Below w0.heap.size w0 w:=by obtain⟨H,bd,rb,bt,lv,bs,h1,-⟩:=h;exact h1.aY
def eZ.below(h:eZ F w0 w c kb bc K)(hb:Below w.heap.size w w'):eZ F w0 w' c kb bc K:=by
 obtain⟨H,bd,rb,bt,lv,bs,h1,h2⟩:=h;exact⟨H,bd,rb,bt,lv,bs,h1.below hb,h2⟩
def eZ.off(h:eZ F w0 w c kb bc K)(ho:aG S w w')(hS:∀k,F k->¬S k)(hB:∀k,S k->w0.heap.size<=k):eZ F w0 w' c kb bc K:=by
 obtain⟨H,bd,rb,bt,lv,bs,h1,h2⟩:=h;exact⟨H,bd,rb,bt,lv,bs,h1.off ho (λi k hk=>hS k (h2 i k hk)) hB,h2⟩
end
def fZ(H:Nat->Nat->Prop)(w0 w:ak)(c:aX)(kb bc bd rb bt:Nat)(lv:aw)(bs:List Nat)(K:aD)(w':ak):Prop:=
 ∃H',bS H' w0 w' c kb bc bd rb bt lv bs K/\(∀i k,H' i k->gr (λk=>∃i,H i k) w w' k)/\aG (λk=>∃i,H i k) w w'
section
variable {H H1:Nat->Nat->Prop}{F:Nat->Prop}{w0 w w' V:ak}{c:aX}{kb bc bd rb bt:Nat}{lv:aw}{bs:List Nat}{K K1:aD}
def fZ.same(h:bS H w0 w c kb bc bd rb bt lv bs K):fZ H w0 w c kb bc bd rb bt lv bs K w:=⟨H,h,λi _ hk=>aT ⟨i,hk⟩,aG.refl _ _⟩
def fZ.one(ho:aG (H i) w w')(h:bS (cO H i w w') w0 w' c kb bc bd rb bt lv bs K):fZ H w0 w c kb bc bd rb bt lv bs K w':=⟨_,h,xC (λi _ hk=>⟨i,hk⟩) i,aG.all (λi _ hk=>⟨i,hk⟩) ho⟩
def fZ.trans(hg:∀i k,H1 i k->gr (λk=>∃i,H i k) w V k)(ho:aG (λk=>∃i,H i k) w V)(h:fZ H1 w0 V c kb bc bd rb bt lv bs K w'):fZ H w0 w c kb bc bd rb bt lv bs K w':=by
 obtain⟨H2,h1,h2,h3⟩:=h
 refine⟨H2,h1,λi k hk=>?_,ho.trans h3 (λk hk ⟨i,hi⟩=>?_)⟩
 ·rcases h2 i k hk with⟨j,hj⟩|⟨a,b⟩
  ·exact(hg j k hj).imp id (λ⟨a,b⟩=>⟨a,cK b h3.size⟩)
  exact aN ⟨bp ho.size a,b⟩
 rcases hg i k hi with a|⟨a,_⟩
 ·exact a
 omega
def fZ.post(h:fZ H w0 w c kb bc bd rb bt lv bs K w')(hF:∀i k,H i k->F k):dh F w0 w c kb bc K w':=by
 obtain⟨H2,h1,h2,h3⟩:=h;exact⟨⟨H2,_,_,_,_,_,h1,λi k hk=>(h2 i k hk).imp (λ⟨j,hj⟩=>hF j k hj) id⟩,h3.mono (λk _ ⟨j,hj⟩=>hF j k hj)⟩
end
def vF(w:ak):Prop:=∃ev,w.cell? (ai 18 0 I)=J ev/\(ev=.nilIface\/∃te pe,ev=.iface te pe)
def vF.below(h:vF w)(hb:Below w.heap.size w w'):vF w':=by
 obtain⟨ev,h1,h2⟩:=h;exact⟨ev,aJ hb h1,h2⟩
def Lv(a:aC):a.add 0=a:=by obtain⟨b,o,s⟩:=a;unfold Addr.add;split<;>simp_all
def adJ(s:ByteArray)(d:Int)(w:ak)(hT:iR w)(hS:vF w)(hG:(max 8 11+1)<=w.heap.size)(hd:d<=18):Calls prog 196 #[aA s,ae af d] w λe w'=>e=ax (bn #[ae af ((iC (bl s) d).getD 0),aL (iC (bl s) d).isSome])/\Below w.heap.size w w':=by
 have hlen:((bl s).length:Int)=(s.size:Int):=by rw[show (bl s).length=s.size from by simp[bl]]
 by_cases h1:d<(s.size:Int)
 ·have HE:U (iC (bl s) d=I):=by show _=_;unfold iC;rw[aU (by omega)]
  clear hlen;go_enter func196,ntmps196
  go_wp2_with fail
  go_ret2
  rw[HE.o];exact⟨rfl,aF _ _⟩
 have hs:s.size<=18:=by omega
 cases hat:Lib.atoi s.data.toList with
 |none=>
  have HE:U (iC (bl s) d=I):=by show _=_;unfold iC;rw[aK (by omega),show bl s=s.data.toList from rfl,hat]
  obtain⟨ev,hv,ud⟩:=hS;have HX:U _:=strconv_Atoi_err s hs hat ev w hv ud;clear hlen hat hv ud hT;go_enter func196,ntmps196
  go_wp2_with fail
  refine aO HX.o ?_;rintro e w1 ⟨N,rfl,-,-,hb⟩;go_wp2_with fail
  go_ret2
  rw[HE.o];exact⟨rfl,hb⟩
 |some n=>
  have anZ:=Lib.atoi_bound hat (by rw[show s.data.toList.length=s.size from by simp];exact hs);have HX:U (Calls prog 241 #[aA s] w λe w'=>e=ax (bn #[ae af n,.nilIface])/\Below w.heap.size w w'):=by
   refine aO (strconv_Atoi s n hs hat w) ?_;rintro e w' ⟨rfl,t,rfl⟩;exact⟨rfl,Lib.bytesWorld_below _ _ _⟩
  by_cases hn:n<0
  ·have HE:U (iC (bl s) d=I):=by show _=_;unfold iC;rw[aK (by omega),show bl s=s.data.toList from rfl,hat];exact aU (aT hn)
   clear hlen hat hS hT;go_enter func196,ntmps196
   go_wp2_with fail
   refine aO HX.o ?_;rintro e w1 ⟨rfl,hb⟩;go_wp2_with fail
   go_ret2
   rw[HE.o];exact⟨rfl,hb⟩
  have HI:U (∀W,Below w.heap.size w W->Calls prog 74 #[ae af n] W λe w'=>e=ax (aA ⟨(num n).toArray⟩)/\Below W.heap.size W w'):=λW hW=>by
   refine aO (strconv_Itoa n (by omega) (by omega) W (hT.below hW hG)) ?_;rintro e w' ⟨rfl,k,os,rfl⟩
   refine⟨?_,?_⟩
   ·unfold Lib.itoa num;rw[aK (by omega),Jz]
   refine⟨rfl,rfl,rfl,(by show W.heap.size<=((W.drewN k).heap++os).size;rw[Array.size_append];exact Nat.le_add_right _ _),λi hi=>?_⟩;show ((W.drewN k).heap++os)[i]?=_
   rw[FT (by show i<W.heap.size;omega)];rfl
  obtain⟨y,hy⟩:∃y:ByteArray,y=⟨(num n).toArray⟩:=⟨_,rfl⟩;rw[<- hy]at HI;have Hj:bl y=num n:=by rw[hy];simp[bl]
  by_cases he:y=s
  ·have HE:U (iC (bl s) d=J n):=by show _=_;unfold iC;rw[aK (by omega),show bl s=s.data.toList from rfl,hat];exact aK (λh=>h.elim (λh=>hn h) (λh=>h (by rw[<- Hj,he];rfl)))
   subst he;clear hlen hat hS hT hy Hj;go_enter func196,ntmps196
   go_wp2_with fail
   refine aO HX.o ?_;rintro e w1 ⟨rfl,hb⟩;have BL:U _:=HI w1 hb;change U _ at hb
   clear HI;go_wp2_with fail
   refine aO BL.o ?_;rintro e w2 ⟨rfl,hb2⟩;go_wp2_with fail
   go_ret2
   rw[HE.o];exact⟨rfl,hb.trans (hb2.mono hb.size)⟩
  have HE:U (iC (bl s) d=I):=by show _=_;unfold iC;rw[aK (by omega),show bl s=s.data.toList from rfl,hat];exact aU (aN (λh=>he (oK (Hj.trans h))))
  have hne:=(Lib.bytes_beq_false_iff y s).2 he;clear hlen hat hS hT hy Hj he;go_enter func196,ntmps196
  go_wp2_with fail
  refine aO HX.o ?_;rintro e w1 ⟨rfl,hb⟩;have BL:U _:=HI w1 hb;change U _ at hb
  clear HI;go_wp2_with fail
  refine aO BL.o ?_;rintro e w2 ⟨rfl,hb2⟩;go_wp2_with fail
  go_ret2
  rw[HE.o];exact⟨rfl,hb.trans (hb2.mono hb.size)⟩
def Lx:∀(d1:List Int) (w1:List Bs) (d2:List Int) (w2:List Bs),d1.length=w1.length->dp (d1++d2) (w1++w2)=(dp d1 w1).bind λa=>(dp d2 w2).map λb=>a++b
 |[],[],d2,w2,_=>by show dp d2 w2=(dp d2 w2).map _;cases dp d2 w2<;>rfl
 |[],_::_,_,_,h=>by cases h
 |_::_,[],_,_,h=>by cases h
 |d::d1,w::w1,d2,w2,h=>by
  have ih:=Lx d1 w1 d2 w2 (by simpa using h);rw[pY,pY,dp,dp]
  cases iC w d with
  |none=>rfl
  |some n=>
   simp only[ih]
   cases dp d1 w1 with
   |none=>rfl
   |some a=>cases dp d2 w2<;>rfl
def Sh:∀(ds:List Int) (ws:List Bs),ds.length≠ws.length->dp ds ws=I
 |[],[],h=>absurd rfl h
 |[],_::_,_=>rfl
 |_::_,[],_=>rfl
 |d::ds,w::ws,h=>by
  rw[dp,Sh ds ws (λe=>h (by simp[e]))]
  cases iC w d<;>rfl
def adK{ds:List Int}{ws:List Bs}{d:Int}{w:Bs}{ns:List Int}(hl:ds.length=ws.length)(hd:ds[k]?=J d)(hw:ws[k]?=J w)(h:dp (ds.take k) (ws.take k)=J ns):(iC w d=I->dp ds ws=I)/\∀n,iC w d=J n->dp (ds.take (k+1)) (ws.take (k+1))=J (ns++[n]):=by
 have h1:(ds.take k).length=(ws.take k).length:=by simp[hl]
 have e:dp (ds.take (k+1)) (ws.take (k+1))=(iC w d).map λn=>ns++[n]:=by
  rw[eI,eI,hd,hw,Lx _ _ _ _ h1,h];show ((dp [d] [w]).map _)=_
  rw[dp]
  cases iC w d<;>rfl
 refine⟨λhn=>?_,λn hn=>by rw[e,hn];rfl⟩;rw[hn]at e;have h2:(ds.take (k+1)).length=(ws.take (k+1)).length:=by simp[hl]
 have:=Lx _ _ (ds.drop (k+1)) (ws.drop (k+1)) h2;rw[rf,rf,e]at this;exact this
def adL:(prog.info? 3).map (λi=>(i.zero,i.size,i.bytes))=J (J (ae af 0),1,8):=by kernel_rfl
def Si(A:Nat->aC)(ds:List Int)(ws:List ByteArray)(w:ak)(e:Ending)(w':ak):Prop:=
 ∃nv ev,e=ax (bn #[nv,ev])/\Below w.heap.size w w'/\(dp ds (ws.map bl)=I->ev=errVal A 1)/\∀ns,dp ds (ws.map bl)=J ns->ev=.nilIface/\bw bT 1 w' nv ns/\∀g,nv.ownBlock=J g->w.heap.size<=g
def adM(A:Nat->aC)(ds:List Int)(ws:List ByteArray)(wa:Option aC)(wc:Nat)(da:Option aC)(dc:Nat)(w:ak)(hT:iR w)(hS:vF w)(hG:(max 8 11+1)<=w.heap.size)(hE:w.cell? (ai 6 0 I)=J (.iface 357 (aq (J (A 0)))))
  (hd:∀d∈ds,d<=18) (BM:bw ct 1 w (aj wa ws.length wc) ws) (Ec:bw bT 1 w (aj da ds.length dc) ds) (hn:ds.length<=10):Calls prog 143 #[aj wa ws.length wc,aj da ds.length dc] w λe w'=>Si A ds ws w e w':=by
 by_cases hl:ds.length=ws.length
 ·obtain⟨i0,mr,hz0,hz1,hz2⟩:=iw adL;obtain⟨W1,Hk,hown1,hg1⟩:=run_make_own (P:=prog) w _ 44 3 i0 _ 1 underlying44 mr hz0 hz1 af af ws.length (by rw[hz2];omega) (by unfold maxLen;omega) (aR _);have hb1:Below _ w W1:=⟨hg1.os,hg1.tape,hg1.output,hg1.size,λk hk=>hg1.block k hk (by simp)⟩;change U _ at hb1
  have kr:U (W1.ownsRow _ 3 1 _ 0 (([]:List Int).flatMap bT)):=hown1;have gI:U (∀V,Below _ w V->iR V/\vF V/\V.cell? _=J _/\bw _ 1 V _ ws/\bw _ 1 V _ ds/\(max 8 11+1)<=V.heap.size):=λV hV=>⟨hT.below hV hG,hS.below hV,aJ hV hE,BM.below hV,Ec.below hV,bp hG hV.size⟩
  have HD:U _:=hd;have k0:((ws.length:Int) != (ds.length:Int))=false:=by simp[hl]
  have Sj:ws.length<=10:=by omega
  change U _ at hl
  have hmap:Option.map (λx:aC=>x.add 0) wa=wa:=by cases wa with|none=>rfl|some a=>simp[Lv]
  clear hT hS hG hE BM Ec hn hd hown1 hg1;go_enter func143,ntmps143
  go_upto_region 4 with fail
  go_cut [20,21,22] (λl' n i wx=>l'=aj wa ws.length wc/\n=ae af (ws.length:Int)/\i=ae af 0/\wx=W1)
  case first=>
   go_wp2
   go_meet
   case rel=>exact⟨rfl,rfl,rfl,rfl⟩
  obtain⟨rfl,rfl,rfl,rfl⟩:=hcut;clear Hk hmap;rename ak=>W1
  go_wp2_with fail
  go_loopw [6,7,8,9,10,22] (λav _ _ _ _ i wr=>∃(n:Nat) (ns:List Int) (ka:Option aC) (kc:Nat),n<=ws.length/\i=ae af n/\av=aj ka n kc/\U (dp (ds.take n) ((ws.map bl).take n)=J ns)/\U (ns.length=n)/\U (wr.ownsRow w.heap.size 3 1 av n (ns.flatMap bT))/\U (Below w.heap.size w wr)) (λ_ _ _ _ _ i _=>ws.length-(intOf i).toNat)
  case atStart=>exact⟨0,[],_,_,bA _,rfl,rfl,rfl,rfl,kr,hb1⟩
  case round=>
   clear kr hb1;obtain⟨n,ns,ka,kc,AY,rfl,rfl,HN,Sk,HO,HB⟩:=hrel
   by_cases hlt:n<ws.length
   ·have k1:(n:Int)<(ws.length:Int):=by omega
    obtain⟨x,hx⟩:∃x,ws[n]?=J x:=⟨_,bq hlt⟩;obtain⟨d,hd⟩:∃d,ds[n]?=J d:=⟨_,bq (by have:=hl.o;omega)⟩;obtain⟨s1,s2,s3,s4,s5,s6⟩:=gI wr HB;obtain⟨g,o,rfl,hc⟩:=pI s4 hx;have c0:=hc n x hx;have LA:n<ds.length:=by have:=hl.o;omega
    obtain⟨g2,o2,rfl,hc2⟩:=sj s5 hd;have c1:=hc2 n d hd;have k2:(n:Int)<(ds.length:Int):=by omega
    have HX:U _:=adJ x d wr s1 s2 s6 (HD d (bP hd));have oq:U ((iC _ d=I->dp ds _=I)/\∀n',iC (bl x) d=J n'->dp _ _=J _):=adK (by simp[hl.o]) hd (by simp[hx]) HN;clear hc hc2 hx hd s1 s2 s3 s4 s5 s6 LA;go_wp2_with fail
    refine aO HX.o ?_;rintro e w3 ⟨rfl,hb3⟩;have fC:U _:=HB.trans (hb3.mono HB.size);have gQ:U (w3.ownsRow _ 3 1 _ n _):=xw.below HO hb3;clear HX hb3 HO c0 c1
    cases hv:iC (bl x) d with
    |none=>
     have eX:U _:=oq.1 hv;have s3:=(gI w3 fC).2.2.1;rw[show (I:Option Int).getD 0=0 from rfl,show (I:Option Int).isSome=false from rfl];clear oq hv;go_wp2_with fail
     go_region
     all_goals go_wp2
     all_goals go_ret2
     all_goals exact⟨_,_,rfl,br fC 1,λ_=>rfl,λns h=>by rw[eX.o]at h;cases h⟩
    |some y=>
     have eX:U _:=oq.2 y hv;rw[show (J y).getD 0=y from rfl,show (J y).isSome=true from rfl];have hz3:=fC.size;clear oq hv;go_wp2_with (at_builtin;refine vA _ rfl _ _ 44 rfl _ 3 i0 _ 1 8 underlying44 mr hz0 hz1 hz2 rfl (ar rfl) (aj ka n kc) n _ rfl (xH gQ _) _ 1 1 _ rfl rfl (mP w3 _ 3) (λu hu=>by rw[g_]at hu;subst hu;rfl) (ar rfl) (by unfold maxLen;omega) (by omega) (by simp;omega) (w3.heap.size+1) (by simp) ?_;intro gg cc sB hown hg cH ru)
     have jC:U (sB.ownsRow w.heap.size 3 1 (aj (J (ai gg 0 I)) (n+1) cc) (n+1) ((ns++[y]).flatMap bT)):=by
      have e:(ns++[y]).flatMap bT=ns.flatMap bT++[ae af y]:=by rw[ji];rfl
      show World.ownsRow _ _ _ _ _ _ _
      rw[e];exact hown
     have nL:U _:=(fC.alloc hz3 _).grown hg (bp hz3 (by simp)) (λk hk=>(gQ.lt k hk).1);clear hown hg cH ru gQ;go_roundw
     case rel=>exact⟨_,_,_,_,by omega,by go_num,rfl,eX,by show _=_;rw[cY,Sk.o];rfl,jC,nL⟩
     case measure=>simp[intOf];omega
   obtain rfl:n=ws.length:=by omega
   have k1:¬(ws.length:Int)<(ws.length:Int):=by omega
   have HF:U (dp ds (ws.map bl)=J ns):=by
    have h5:=HN.o;rw[<- hl.o,mL,hl.o,show ws.length=(ws.map bl).length by simp,mL]at h5;exact h5
   clear HN;go_wp2;go_ret2
   refine⟨_,_,rfl,HB,λh=>(by rw[HF.o]at h;cases h),λan0 h=>⟨rfl,?_⟩⟩;rw[HF.o]at h
   cases h
   exact⟨bI.jz (B:=w.heap.size) (T:=3) (by show World.ownsRow _ _ _ _ _ _ _;rw[Sk.o];exact HO) (λ_=>rfl),λg hg=>(HO.lt g hg).1⟩
 have eX:U (dp ds (ws.map bl)=I):=Sh _ _ (by simpa using hl);have k0:((ws.length:Int) != (ds.length:Int))=true:=by rw[bne_iff_ne];omega
 clear hl hT hS hG hd BM Ec;go_enter func143,ntmps143
 go_wp2_with fail
 go_region
 all_goals go_wp2
 all_goals go_ret2
 all_goals exact⟨_,_,rfl,br (aF _ _) 1,λ_=>rfl,λns h=>by rw[eX.o]at h;cases h⟩
open Go
def ll(r:Rec):Prop:=r.seq<4294967296/\r.cf<256/\r.kind<256/\r.tick<281474976710656
def ll.none:ll .none:=by unfold ll Rec.none;decide
def adN(l:List UInt8):ll (fV l):=by
 have h:∀(l:List _) (n:Nat),fU (l.take n)<256^n:=λl n=>cK (Dd _) (AR (ar rfl) (by rw[eQ];exact Nat.min_le_left _ _))
 exact⟨h l 4,h _ 1,h _ 1,h _ 6⟩
def adO(l:List UInt8):ll (fQ l):=by
 unfold fQ dec
 split
 ·exact ll.none
 exact adN l
def adP(l:List UInt8):∀r∈ft l 9,ll r:=by
 intro r hr;simp only[ft,nS,pq]at hr;obtain⟨i,-,rfl⟩:=hr
 split
 ·unfold jy
  split
  ·exact adO _
  exact ll.none
 exact ll.none
def adQ(L:List Rec)(h:∀r∈L,ll r):∀(m n:Nat),∀r∈chain L m n,ll r:=by
 intro m
 induction m with
 |zero=>intro n r hr;cases hr
 |succ m ih=>
  intro n r hr
  by_cases hc:0<n/\(L.getD ((n-1)%9) .none).seq=n
  ·rw[Dm L m n hc.1 hc.2]at hr
   rcases fe.1 hr with rfl|hr
   ·rw[fp]
    cases hg:L[(n-1)%9]? with
    |none=>exact ll.none
    |some x=>exact h x (bP hg)
   exact ih _ r hr
  rw[yV L _ n hc]at hr;cases hr
def aD.LB(K:aD):Prop:=∀r∈K.L,ll r
def adR(l:List UInt8):∀r∈iy l,ll r:=λr hr=>by
 unfold iy tP at hr;exact adQ _ (adP _) _ _ r (List.mem_reverse.1 hr)
section
variable {c:aX}{K:aD}{k W:Nat}
def LB.last(h:K.LB):ll (cU K.L):=by
 unfold cU
 cases e:K.L.getLast? with
 |none=>exact ll.none
 |some x=>exact h x (List.mem_of_getLast? e)
def LB.app(h:K.LB)(hl:(cU K.L).seq<=4294967295)(e kd t:Nat)(h1:e<=255)(h2:kd<=255)(h3:t<=281474976710655):(K.app e kd t).1.LB:=by
 unfold aD.app
 split
 ·exact h
 split
 ·exact h
 rename_i hq
 split
 ·intro r hr
  rcases qN.1 (show r∈mg K.L _ from hr)with hr|hr
  ·refine h r ?_
   split at hr
   ·exact List.mem_of_mem_tail hr
   exact hr
  rw[g_.1 hr];exact⟨by show (cU K.L).seq+1<_;omega,by show e<256;omega,by show kd<256;omega,by show t<_;omega⟩
 exact h
def LB.ends(h:K.LB)(hf:bF c K k W)(ho:K.c.off=false)(hi:∀s∈K.ls,fX s (k+K.d.now-1))(h1:1<=K.d.now)(hn:K.d.now<=281474976710655):∀n,n<=8->(K.ends c n).1.LB
 |0,_=>h
 |n+1,adS=>by
  have a1:=LB.ends h hf ho hi h1 hn n (by omega);obtain⟨f1,f2,f3,-,-⟩:=hf.ends ho hi h1 n;show aD.LB (if (K.ends c n).2=0 then (K.ends c n).1.ig c n else K.ends c n).1
  split
  ·unfold aD.ig
   split
   ·exact a1
   rename_i s hs
   split
   ·have hk:=D2 (c.az.getD n mQ) s;exact LB.app (K:=(K.ends c n).1.dT n _) a1 f1.last n _ _ (by omega) (by omega) (by rw[f3];exact hn)
   exact a1
  exact a1
def LB.fin(h:K.LB):K.last.LB:=by unfold aD.last;simp only[];split<;>exact h
def LB.tick(h:K.LB)(hf:bF c K k W)(hr:er c)(hn:K.d.now<1099511627776):(K.tick c).1.LB:=by
 unfold aD.tick
 split
 ·exact h
 rename_i JX;obtain⟨ho,-⟩:=aD.Bv.1 (show K.on=0 by omega);obtain⟨t1,t2,t3⟩:=hf.bC hn;have tV:=hr.nn
 split
 ·exact h
 split
 ·exact h
 have a1:=LB.ends (K:=K.bC) h t1 ho t2 t3 (by show K.d.now+1<=_;omega) _ tV
 split
 ·exact LB.fin a1
 exact a1
def LB.dM(hr:er c):∀(n:Nat) (K:aD),K.LB->bF c K k (144*K.d.now)->K.d.now+n<=1099511627776->(K.dM c n).1.LB
 |0,K,h,_,_=>h
 |n+1,K,h,hf,hn=>by
  have a1:=LB.tick h hf hr (by omega);show aD.LB (if (K.tick c).2=0 then (K.tick c).1.dM c n else K.tick c).1
  split
  ·have h2:=D3 c K;exact LB.dM hr n _ a1 (hf.tick hr (by omega)) (by omega)
  exact a1
def LB.opened(c:aX)(K:aD):(aD.opened c K).LB:=by
 have h:=adR (K.c.bytes.take K.c.size);unfold aD.LB aD.opened;generalize iy (K.c.bytes.take K.c.size)=L at h⊢;exact h
def LB.fD(h:K.LB):(K.fD c).1.LB:=by
 unfold aD.fD
 split
 ·exact h
 exact LB.opened _ _
def LB.cut(h:K.LB)(n:Int):(K.cut n).1.LB:=by unfold aD.cut;split;exact h;split<;>exact h
def LB.begin(h:K.LB)(i:Int):(K.begin i).1.LB:=by unfold aD.begin;split;exact h;split;exact h;split<;>exact h
def LB.stop(h:K.LB)(i:Int):(K.stop i).1.LB:=by unfold aD.stop;split;exact h;split;exact h;split<;>exact h
def LB.report(h:K.LB)(i p:Int):(K.report c i p).1.LB:=by unfold aD.report;split;exact h;split;exact h;split<;>exact h
def LB.new(c:aX)(s:aI):(aD.new c s).LB:=by unfold aD.new;exact LB.opened _ _
def LB.cW(h:K.LB)(hr:er c)(hf:bF c K k (144*K.d.now))(ns:List Int)(kd N:Nat)(hN:kd=3->(ns.getD 0 0).toNat<=N)(hn:K.d.now+N<=1099511627776):(K.cW c ns kd).1.LB:=by
 unfold aD.cW
 split
 ·exact LB.begin h _
 ·exact LB.stop h _
 ·exact LB.report h _ _
 ·have:=hN rfl;exact LB.dM hr _ K h hf (by omega)
 ·exact LB.cut h _
 ·exact LB.fD h
 ·exact h
 ·exact h
 ·split<;>exact h
 ·exact h
 ·exact h
 ·exact h
 ·exact h
 exact h
def LB.fR(h:K.LB)(hr:er c)(hf:bF c K k (144*K.d.now))(l:Bs)(hn:K.d.now+ik l<=1099511627776):(K.fR c l).1.LB:=by
 unfold aD.fR ik at *;generalize eJ 32 l=ws at *
 cases ws with
 |nil=>exact h
 |cons w ws=>
  cases hk:gR w with
  |none=>rw[K6 hk];exact h
  |some kd=>
   cases hs:dp (eH kd) ws with
   |none=>rw[K7 hk hs];exact h
   |some ns=>
    rw[xE hk hs]
    refine LB.cW h hr hf ns kd _ (λe=>?_) hn;subst e;show _<=(if gR w=J 3 then _ else _)
    rw[aU hk,show dp [5] ws=J ns from hs];exact aR _
def LB.fS(hr:er c):∀(l:List Bs) (K:aD) (k:Nat),K.LB->bF c K k (144*K.d.now)->K.d.now+jE l<=900000->(fS c K l).LB
 |[],K,k,h,_,_=>h
 |v::l,K,k,h,hf,hn=>by
  have hl:jE (v::l)=ik v+jE l:=rfl;obtain⟨a,b,-⟩:=K_ hr hf v (by omega);exact LB.fS hr l _ _ (LB.fR h hr hf v (by omega)) a (by omega)
end
def byte_at(s:ByteArray)(k:Nat)(h:k<s.size):s[k]=s.data.toList.getD k 0:=by
 have:k<s.data.toList.length:=by rw[pj];exact h
 rw[fp,bq this];rfl
def LC(h:s.size<1\/12<s.size):isName s=false:=by
 unfold isName
 rcases h with h|h
 ·have:decide (1<=s.size)=false:=bV (by omega);rw[this];rfl
 have:decide (s.size<=12)=false:=bV (by omega);rw[this];simp
def Sl(h:mE (s.data.toList.getD 0 0)=false):isName s=false:=by
 have e:s.data.getD 0 0=s.data.toList.getD 0 0:=by simp
 unfold isName;rw[e,h];simp
def Sm(h1:k<s.size)(h:gL (s.data.toList.getD k 0)=false):isName s=false:=by
 have hk:k<s.data.toList.length:=by rw[pj];exact h1
 have:s.data.toList.all gL=false:=by
  rw[List.all_eq_false]
  refine⟨s.data.toList.getD k 0,?_,by simpa using h⟩;rw[fp,bq hk];exact uZ hk
 unfold isName;rw[this];simp
def Sn(h1:1<=s.size)(h2:s.size<=12)(h3:mE (s.data.toList.getD 0 0)=true)(h:∀j,j<s.size->gL (s.data.toList.getD j 0)=true):isName s=true:=by
 have e:s.data.getD 0 0=s.data.toList.getD 0 0:=by simp
 have ha:s.data.toList.all gL=true:=by
  rw[u5];intro b hb;obtain⟨j,hj,rfl⟩:=su hb;have:=h j (by rw[pj]at hj;exact hj);rw[fp,bq hj]at this;exact this
 unfold isName;rw[e,h3,ha];simp[h1,h2]
def Sp(w:ak)(t:ByteArray):∃cap W,(convert 9 41 (aA t)).run prog w=.ok (aj (J ⟨w.heap.size,0,.none⟩) t.size cap) W/\Below w.heap.size w W /\
  (∀j,j<t.size->W.cell? ⟨w.heap.size,j,.none⟩=J (ae .u8 ((t.data.toList.getD j 0).toNat:Int))):=by
 exact⟨_,_,Lib.run_convert_string_bytes w 9 41 5 t underlying9 underlying41 underlying5,⟨rfl,rfl,rfl,by rw[Lib.bytesWorld_size];omega,λi hi=>Lib.bytesWorld_at_old w _ t i hi⟩,λj hj=>Lib.bytesWorld_cell w _ t j hj⟩
def adT(s:ByteArray)(w:ak)(hs:s.size<=1000000):Calls prog 100 #[aA s] w λe w'=>e=ax (aL (isName s))/\Below w.heap.size w w':=by
 by_cases hsz:1<=s.size/\s.size<=12
 ·obtain⟨z1,z2⟩:=hsz;have hw:=CY (s.size:Int) 1 12 w;rw[show within _ 1 12=true by simp[within];omega]at hw;have k0:(0:Int)<(s.size:Int):=by omega
  have hb0:U _:=λh=>byte_at s 0 h
  have hl:=Pu (s.data.toList.getD 0 0) w
  by_cases hL:mE (s.data.toList.getD 0 0)=true
  ·rw[hL]at hl;have HZ:U (1<=s.size/\s.size<=12/\mE _=true):=⟨z1,z2,hL⟩;clear z1 z2 hL hs;go_enter func100,ntmps100
   go_wp2_with fail
   refine hw.mono ?_;rintro e w' ⟨rfl,rfl⟩;go_wp2_with fail
   rw[hb0.o]
   refine hl.mono ?_;rintro e w ⟨rfl,rfl⟩;clear hl hw hb0 k0;obtain⟨cap,W,hcv,(qx:U _),(hcell:U _)⟩:=Sp w s;go_wp2_with fail
   go_loopw [4,18] (λ_ i wr=>∃k:Nat,k<=s.size/\i=ae af k/\wr=W/\∀j,j<k->gL (s.data.toList.getD j 0)=true) (λ_ i _=>s.size-(intOf i).toNat)
   case atStart=>exact⟨0,bA _,rfl,rfl,λj hj=>absurd hj (oo _)⟩
   case round=>
    obtain⟨k,hk,rfl,rfl,hall⟩:=hrel
    by_cases hlt:k<s.size
    ·have hc:=hcell k hlt;change U _ at hall
     have HY:U _:=λh=>Sm hlt h
     have k1:(k:Int)<(s.size:Int):=by omega
     have Sq:k<12:=by have:=HZ.2.1;omega
     have HX:U (∀b:Bool,gL _=b->gL (s.data.toList.getD k 0)=b):=λb h=>h
     have HK:U (∃c,c=s.data.toList.getD k 0):=⟨_,rfl⟩;clear hcv;obtain⟨c,hcc⟩:=HK.o;rw[<- hcc]at hc;change U _ at hcc
     clear HK HX;have hd:=Jw c;have hl2:=Pu c
     by_cases b1:mE c=true
     ·rw[b1]at hl2;go_wp2_with fail
      apply(hl2 _).mono;rintro e w' ⟨rfl,rfl⟩;go_wp2;go_roundw
      case rel=>
       refine⟨k+1,by omega,by go_num,by first|trivial|rfl,λj hj=>?_⟩
       by_cases e:j=k
       ·rw[e,<- hcc.o];simp[gL,b1]
       exact hall j (by omega)
      case measure=>simp[intOf];omega
     simp only[uX]at b1;rw[b1]at hl2
     by_cases b2:iN c=true
     ·rw[b2]at hd;go_wp2_with fail
      apply(hl2 _).mono;rintro e w' ⟨rfl,rfl⟩;go_wp2_with fail
      apply(hd _).mono;rintro e w' ⟨rfl,rfl⟩;go_wp2;go_roundw
      case rel=>
       refine⟨k+1,by omega,by go_num,by first|trivial|rfl,λj hj=>?_⟩
       by_cases e:j=k
       ·rw[e,<- hcc.o];simp[gL,b2]
       exact hall j (by omega)
      case measure=>simp[intOf];omega
     simp only[uX]at b2;rw[b2]at hd
     by_cases b3:(c.toNat:Int)=45
     ·have b4:((c.toNat:Int)==45)=true:=by simpa using b3
      have HN:U (gL c=true):=by show _=_;simp[gL];right;omega
      clear b3;go_wp2_with fail
      apply(hl2 _).mono;rintro e w' ⟨rfl,rfl⟩;go_wp2_with fail
      apply(hd _).mono;rintro e w' ⟨rfl,rfl⟩;go_wp2;go_roundw
      case rel=>
       refine⟨k+1,by omega,by go_num,by first|trivial|rfl,λj hj=>?_⟩
       by_cases e:j=k
       ·rw[e,<- hcc.o];exact HN
       exact hall j (by omega)
      case measure=>simp[intOf];omega
     have HN:U (gL c=false):=by show _=_;simp[gL,b1,b2];omega
     go_wp2_with fail
     apply(hl2 _).mono;rintro e w' ⟨rfl,rfl⟩;go_wp2_with fail
     apply(hd _).mono;rintro e w' ⟨rfl,rfl⟩;go_wp2;go_ret;exact⟨by rw[HY.o (by rw[<- hcc.o];exact HN.o)];rfl,qx⟩
    have HY:U _:=Sn HZ.1 HZ.2.1 HZ.2.2 (λj hj=>hall j (by omega));have k1:¬(k:Int)<(s.size:Int):=by omega
    clear hall hcv;go_wp2;go_ret;exact⟨by rw[HY.o];rfl,qx⟩
  simp only[uX]at hL;rw[hL]at hl;have HY:U _:=Sl hL;go_enter func100,ntmps100
  go_wp2_with fail
  refine hw.mono ?_;rintro e w' ⟨rfl,rfl⟩;go_wp2_with fail
  rw[hb0.o]
  refine hl.mono ?_;rintro e w' ⟨rfl,rfl⟩;go_wp2;go_ret;exact⟨by rw[HY.o];rfl,aF _ _⟩
 have hw:=CY (s.size:Int) 1 12 w;rw[show within _ 1 12=false by simp[within];omega]at hw;have HY:U (isName s=false):=LC (by omega);clear hsz;go_enter func100,ntmps100
 go_wp2_with fail
 refine hw.mono ?_;rintro e w' ⟨rfl,rfl⟩;go_wp2;go_ret;exact⟨by rw[HY.o];rfl,aF _ _⟩
structure Ed(A:Nat->aC)(w:ak)(rb:Nat)(v:aw)(l:List (Bool×Nat))(g:Nat->Nat):Prop where
 cell:∀i b c,l[i]?=J (b,c)->w.cell? ⟨rb,i*2,I⟩=J (cP A c)/\w.cell? ⟨rb,i*2+1,I⟩=J (.func (.func (g i)) #[] #[])
 eg:∀i b c,l[i]?=J (b,c)->∀args w,(callFunc (g i) args).run prog w=.ok (.enter (g i) args) w
 call:∀i b c,l[i]?=J (b,c)->∀W,Below w.heap.size w W->Calls prog (g i) #[v] W λe W'=>e=ax (aL b)/\Below W.heap.size W W'
 few:l.length<=100
 pos:∀(i:Nat) (b:Bool) (c:Nat),l[i]?=J (b,c)->0<c
def LD:∀(l:List (Bool×Nat)) (k:Nat) (c:Nat),(∀(i:Nat) (b:Bool) (d:Nat),i<k->l[i]?=J (b,d)->b=false)->l[k]?=J (true,c)->dK l=c
 |[],k,c,_,h=>by simp at h
 |(b,d)::t,0,c,_,h=>by simp at h;obtain⟨rfl,rfl⟩:=h;simp[dK]
 |(b,d)::t,k+1,c,h,h2=>by
  have:=h 0 b d (by omega) rfl;subst this;simp[dK]
  exact LD t k c (λi b d hi e=>h (i+1) b d (by omega) (by simpa using e)) (by simpa using h2)
def LF:∀(l:List (Bool×Nat)),(∀(i:Nat) (b:Bool) (d:Nat),l[i]?=J (b,d)->b=false)->dK l=0
 |[],_=>rfl
 |(b,d)::t,h=>by
  have:=h 0 b d rfl;subst this;simp[dK]
  exact LF t (λi b d e=>h (i+1) b d (by simpa using e))
def adU(A:Nat->aC)(x0 x1 x2 x3:Int)(sa:Option aC)(sn sc:Nat)(rb:Nat)(l:List (Bool×Nat))(g:Nat->Nat)(w:ak)(h:Ed A w rb (bK #[ae af x0,ae af x1,ae af x2,ae af x3,aj sa sn sc]) l g):Calls prog 43 #[bK #[ae af x0,ae af x1,ae af x2,ae af x3,aj sa sn sc],aj (J (ai rb 0 I)) l.length l.length] w λe w'=>e=ax (cP A (dK l))/\Below w.heap.size w w':=by
 have LG:U _:=h.few;change U _ at h
 go_enter func43,ntmps43
 go_wp2_with fail
 have HS:U (∀W,Below (w.heap.size+1) (w.alloc (ay #[ae af x0,ae af x1,ae af x2,ae af x3,aj sa sn sc] 24)) W->Below w.heap.size w W/\w.heap.size+1<=W.heap.size/\W.cell? (ai w.heap.size 0 I)=J (ae af x0)/\W.cell? (ai w.heap.size 1 I)=J (ae af x1)/\W.cell? (ai w.heap.size 2 I)=J (ae af x2)/\W.cell? (ai w.heap.size 3 I)=J (ae af x3)/\W.cell? (ai w.heap.size 4 I)=J (aj sa sn sc)):=λW hb=>by
  have hc:∀j v,(w.alloc _).cell? _=J v->W.cell? _=J v:=λj v e=>(hb.cell (p:=⟨w.heap.size,j,I⟩) (tJ _)).trans e
  exact⟨((aF _ _).alloc (aR _) _).trans (hb.mono (Nat.le_succ _)),by simpa using hb.size,hc 0 _ (by simp),hc 1 _ (by simp),hc 2 _ (by simp),hc 3 _ (by simp),hc 4 _ (by simp)⟩
 go_loopw [6,9] (λ_ i wr=>∃k:Nat,k<=l.length/\i=ae af k/\Below (w.heap.size+1) (w.alloc (ay #[ae af x0,ae af x1,ae af x2,ae af x3,aj sa sn sc] 24)) wr/\U (∀(i:Nat) (b:Bool) (d:Nat),i<k->l[i]?=J (b,d)->b=false)) (λ_ i _=>l.length-(intOf i).toNat)
 case atStart=>exact⟨0,bA _,rfl,aF _ _,λi b d hi=>absurd hi (oo _)⟩
 case round=>
  obtain⟨k,hk,rfl,cA,hall⟩:=hrel;obtain⟨ky,hsz,p0,p1,p2,p3,p4⟩:=HS _ cA
  by_cases hlt:k<l.length
  ·obtain⟨⟨b,c⟩,jh⟩:∃x,l[k]?=J x:=⟨_,bq hlt⟩;have c0:=aJ ky (h.cell k b c jh).1;have c1:=aJ ky (h.cell k b c jh).2;have adV:=h.eg k b c jh;have HC:U _:=h.call k b c jh;have adW:k<100:=by have:=LG.o;omega
   have k1:(k:Int)<(l.length:Int):=by omega
   change U _ at cA ky
   have A4:=h.pos k b c jh;clear HS h;change U _ at jh;have ha:∀(j:Nat) (v:aw),wr.cell? _=J v->∀o,(wr.alloc o).cell? _=J v:=λj v e o=>(World.cell?_alloc_lt wr o ⟨w.heap.size,j,I⟩ (jf e)).trans e
   have q0:=ha _ _ p0;have q1:=ha _ _ p1;have q2:=ha _ _ p2;have q3:=ha _ _ p3;have q4:=ha _ _ p4;generalize g k=gk at *;obtain⟨c,rfl⟩:∃d,c=d+1:=⟨c-1,by omega⟩;unfold cP at c0
   cases b with
   |true=>
    go_wp2_with fail
    refine(HC _ (ky.trans (((aF _ _).alloc (aR _) _).mono ky.size))).mono ?_;rintro e W' ⟨rfl,hb'⟩;have d0:W'.cell? (ai wr.heap.size 0 I)=J (.iface 357 (aq (J (A c)))):=aJ hb' (by simp);have HW:U _:=ky.trans ((((aF _ _).alloc (aR _) _).mono ky.size).trans (hb'.mono (by simp;have:=ky.size;omega)));go_wp2;go_ret;exact⟨by rw[LD l k _ hall.o jh.o];rfl,HW⟩
   |false=>
    go_wp2_with fail
    refine(HC _ (ky.trans (((aF _ _).alloc (aR _) _).mono ky.size))).mono ?_;rintro e W' ⟨rfl,hb'⟩;have HW:U _:=cA.trans ((((aF _ _).alloc (aR _) _).mono hsz).trans (hb'.mono (by simp;omega)));go_wp2;go_roundw
    case rel=>
     refine⟨k+1,by omega,by go_num,HW,λi b d hi e=>?_⟩
     by_cases hik:i=k
     ·subst hik;have:=jh.o;rw[this]at e
      cases e
      rfl
     exact hall i b d (by omega) e
    case measure=>simp[intOf];omega
  have HN:U _:=LF l (λi b d e=>hall i b d (by have:=(df.1 e).1;omega) e);have k1:¬(k:Int)<(l.length:Int):=by omega
  go_wp2;go_ret;exact⟨by rw[HN.o];rfl,ky⟩
def Sr(A:Nat->aC)(nm:ByteArray)(bh cnt mn mx:Int)(pa ga ea fa la:Option aC)(pn pc gn gc en ec fn fc ln lc:Nat)(rb:Nat)(l:List (Bool×Nat))(g:Nat->Nat)(w:ak)(h:Ed A w rb (.agg (nR nm bh pa pn pc cnt mn mx ga gn gc ea en ec fa fn fc la ln lc)) l g):Calls prog 103 #[.agg (nR nm bh pa pn pc cnt mn mx ga gn gc ea en ec fa fn fc la ln lc),aj (J (ai rb 0 I)) l.length l.length] w λe w'=>e=ax (cP A (dK l))/\Below w.heap.size w w':=by
 unfold nR;have LG:U _:=h.few;change U _ at h
 go_enter func103,ntmps103
 go_wp2_with fail
 have HS:U (∀W,Below (w.heap.size+1) (w.alloc (ay (nR nm bh pa pn pc cnt mn mx ga gn gc ea en ec fa fn fc la ln lc) 58)) W->Below w.heap.size w W/\w.heap.size+1<=W.heap.size/\W.cell? (ai w.heap.size 0 I)=J (aA nm)/\W.cell? (ai w.heap.size 1 I)=J (ae af bh)/\W.cell? (ai w.heap.size 2 I)=J (aj pa pn pc)/\W.cell? (ai w.heap.size 3 I)=J (ae af cnt)/\W.cell? (ai w.heap.size 4 I)=J (ae af mn)/\W.cell? (ai w.heap.size 5 I)=J (ae af mx)/\W.cell? (ai w.heap.size 6 I)=J (aj ga gn gc)/\W.cell? (ai w.heap.size 7 I)=J (aj ea en ec)/\W.cell? (ai w.heap.size 8 I)=J (aj fa fn fc)/\W.cell? (ai w.heap.size 9 I)=J (aj la ln lc)):=λW hb=>by
  have hc:∀j v,(w.alloc _).cell? _=J v->W.cell? _=J v:=λj v e=>(hb.cell (p:=⟨w.heap.size,j,I⟩) (tJ _)).trans e
  exact⟨((aF _ _).alloc (aR _) _).trans (hb.mono (Nat.le_succ _)),by simpa using hb.size,hc 0 _ (by simp),hc 1 _ (by simp),hc 2 _ (by simp),hc 3 _ (by simp),hc 4 _ (by simp),hc 5 _ (by simp),hc 6 _ (by simp),hc 7 _ (by simp),hc 8 _ (by simp),hc 9 _ (by simp)⟩
 go_loopw [6,9] (λ_ i wr=>∃k:Nat,k<=l.length/\i=ae af k/\Below (w.heap.size+1) (w.alloc (ay (nR nm bh pa pn pc cnt mn mx ga gn gc ea en ec fa fn fc la ln lc) 58)) wr/\U (∀(i:Nat) (b:Bool) (d:Nat),i<k->l[i]?=J (b,d)->b=false)) (λ_ i _=>l.length-(intOf i).toNat)
 case atStart=>exact⟨0,bA _,rfl,aF _ _,λi b d hi=>absurd hi (oo _)⟩
 case round=>
  obtain⟨k,hk,rfl,cA,hall⟩:=hrel;obtain⟨ky,hsz,p0,p1,p2,p3,p4,p5,p6,p7,p8,p9⟩:=HS _ cA
  by_cases hlt:k<l.length
  ·obtain⟨⟨b,c⟩,jh⟩:∃x,l[k]?=J x:=⟨_,bq hlt⟩;have c0:=aJ ky (h.cell k b c jh).1;have c1:=aJ ky (h.cell k b c jh).2;have adV:=h.eg k b c jh;have HC:U _:=h.call k b c jh;have adW:k<100:=by have:=LG.o;omega
   have k1:(k:Int)<(l.length:Int):=by omega
   change U _ at cA ky
   have A4:=h.pos k b c jh;clear HS h;change U _ at jh;have ha:∀(j:Nat) (v:aw),wr.cell? _=J v->∀o,(wr.alloc o).cell? _=J v:=λj v e o=>(World.cell?_alloc_lt wr o ⟨w.heap.size,j,I⟩ (jf e)).trans e
   have q0:=ha _ _ p0;have q1:=ha _ _ p1;have q2:=ha _ _ p2;have q3:=ha _ _ p3;have q4:=ha _ _ p4;have q5:=ha _ _ p5;have q6:=ha _ _ p6;have q7:=ha _ _ p7;have q8:=ha _ _ p8;have q9:=ha _ _ p9;generalize g k=gk at *;obtain⟨c,rfl⟩:∃d,c=d+1:=⟨c-1,by omega⟩;unfold cP at c0
   cases b with
   |true=>
    go_wp2_with fail
    refine(HC _ (ky.trans (((aF _ _).alloc (aR _) _).mono ky.size))).mono ?_;rintro e W' ⟨rfl,hb'⟩;have d0:W'.cell? (ai wr.heap.size 0 I)=J (.iface 357 (aq (J (A c)))):=aJ hb' (by simp);have HW:U _:=ky.trans ((((aF _ _).alloc (aR _) _).mono ky.size).trans (hb'.mono (by simp;have:=ky.size;omega)));go_wp2;go_ret;exact⟨by rw[LD l k _ hall.o jh.o];rfl,HW⟩
   |false=>
    go_wp2_with fail
    refine(HC _ (ky.trans (((aF _ _).alloc (aR _) _).mono ky.size))).mono ?_;rintro e W' ⟨rfl,hb'⟩;have HW:U _:=cA.trans ((((aF _ _).alloc (aR _) _).mono hsz).trans (hb'.mono (by simp;omega)));go_wp2;go_roundw
    case rel=>
     refine⟨k+1,by omega,by go_num,HW,λi b d hi e=>?_⟩
     by_cases hik:i=k
     ·subst hik;have:=jh.o;rw[this]at e
      cases e
      rfl
     exact hall i b d (by omega) e
    case measure=>simp[intOf];omega
  have HN:U _:=LF l (λi b d e=>hall i b d (by have:=(df.1 e).1;omega) e);have k1:¬(k:Int)<(l.length:Int):=by omega
  go_wp2;go_ret;exact⟨by rw[HN.o];rfl,ky⟩
def adX(A:Nat->aC)(x0 x1 x2 x3:Int)(sa:Option aC)(sn sc:Nat)(w:ak)(hs:l4 A w):Calls prog 92 #[bK #[ae af x0,ae af x1,ae af x2,ae af x3,aj sa sn sc]] w λe w'=>e=ax (aL (!(within x0 0 1000&&within x1 1 1000)))/\Below w.heap.size w w':=by
 have H:=Xt A x0 x1 _ (hs.alloc (ay #[ae af x0,ae af x1,ae af x2,ae af x3,aj sa sn sc] 24));go_enter func92,ntmps92
 go_wp2_with fail
 refine H.mono ?_;rintro e w' ⟨rfl,hb⟩;go_wp2;go_ret;exact⟨by rw[Bool.not_and];rfl,((aF _ _).alloc (aR _) _).trans (hb.mono (by simp))⟩
def adY(x0 x1 x2 x3:Int)(sa:Option aC)(sn sc:Nat)(w:ak):Calls prog 94 #[bK #[ae af x0,ae af x1,ae af x2,ae af x3,aj sa sn sc]] w λe w'=>e=ax (aL (!within x2 1 100))/\Below w.heap.size w w':=by
 go_enter func94,ntmps94
 go_wp2_with fail
 apply(CY x2 1 100 _).mono;rintro e w' ⟨rfl,rfl⟩;go_wp2;go_ret;exact⟨rfl,(aF _ _).alloc (aR _) _⟩
def adZ(x0 x1 x2 x3:Int)(sa:Option aC)(sn sc:Nat)(w:ak):Calls prog 96 #[bK #[ae af x0,ae af x1,ae af x2,ae af x3,aj sa sn sc]] w λe w'=>e=ax (aL (!within x3 0 20))/\Below w.heap.size w w':=by
 go_enter func96,ntmps96
 go_wp2_with fail
 apply(CY x3 0 20 _).mono;rintro e w' ⟨rfl,rfl⟩;go_wp2;go_ret;exact⟨rfl,(aF _ _).alloc (aR _) _⟩
def ad0(x0 x1 x2 x3:Int)(sa:Option aC)(sn sc:Nat)(w:ak):Calls prog 97 #[bK #[ae af x0,ae af x1,ae af x2,ae af x3,aj sa sn sc]] w λe w'=>e=ax (aL (decide (8<sn)))/\Below w.heap.size w w':=by
 have hd:decide (8<sn)=decide ((8:Int)<(sn:Int)):=pA.2 (by omega);rw[hd];go_enter func97,ntmps97
 go_wp2;go_ret;exact⟨rfl,(aF _ _).alloc (aR _) _⟩
def ad1(x0 x1 x2 x3:Int)(sa:Option aC)(sn sc:Nat)(w:ak):Calls prog 98 #[bK #[ae af x0,ae af x1,ae af x2,ae af x3,aj sa sn sc]] w λe w'=>e=ax (aL (decide (x1<x2)))/\Below w.heap.size w w':=by
 go_enter func98,ntmps98
 go_wp2;go_ret;exact⟨rfl,(aF _ _).alloc (aR _) _⟩
def zB(A:Nat->aC):Array aw:=#[.iface 357 (aq (J (A 1))),.func (.func 92) #[] #[],.iface 357 (aq (J (A 1))),.func (.func 94) #[] #[],.iface 357 (aq (J (A 1))),.func (.func 96) #[] #[],
 .iface 357 (aq (J (A 1))),.func (.func 97) #[] #[],.iface 357 (aq (J (A 2))),.func (.func 98) #[] #[]]
def Ss(A:Nat->aC)(w:ak)(hs:l4 A w):Calls prog 44 #[] w λe w'=>e=ax (aj (J (ai w.heap.size 0 I)) 5 5)/\w'=w.alloc (ay (zB A) 149):=by
 have c1:=hs.c1;have c2:=hs.c2;unfold zB;go_enter func44,ntmps44
 go_wp2;go_ret;exact⟨rfl,rfl⟩
def Sv(i:Nat):Nat:=[92,94,96,97,98].getD i 0
def ad2(A:Nat->aC)(c:aX)(sa:Option aC)(sc:Nat)(r:Nat)(W:ak)(hs:l4 A W)(hr:W.heap[r]?=J (ay (zB A) 149 (0,0))):Ed A W r (.agg (cR c sa sc))
   [(!(within c.closed 0 1000&&within c.opn 1 1000),2),(!within c.cycle 1 100,2),(!within c.bE 0 20,2),(decide (8<c.az.length),2),(decide (c.opn<c.cycle),3)] Sv:=by
 unfold cR;have hcell:∀j v,(zB A)[j]?=J v->W.cell? (ai r j I)=J v:=λj v e=>by simp[aH,hr,e]
 refine⟨λi b d e=>?_,λi b d e=>?_,λi b d e V hV=>?_,by simp,λi b d e=>?_⟩
 ·match i,e with
  |0,e=>cases e;exact⟨hcell 0 _ rfl,hcell 1 _ rfl⟩
  |1,e=>cases e;exact⟨hcell 2 _ rfl,hcell 3 _ rfl⟩
  |2,e=>cases e;exact⟨hcell 4 _ rfl,hcell 5 _ rfl⟩
  |3,e=>cases e;exact⟨hcell 6 _ rfl,hcell 7 _ rfl⟩
  |4,e=>cases e;exact⟨hcell 8 _ rfl,hcell 9 _ rfl⟩
  |i+5,e=>cases e
 ·match i,e with
  |0,_=>exact enters_of func92 (by kernel_rfl) rfl
  |1,_=>exact enters_of func94 (by kernel_rfl) rfl
  |2,_=>exact enters_of func96 (by kernel_rfl) rfl
  |3,_=>exact enters_of func97 (by kernel_rfl) rfl
  |4,_=>exact enters_of func98 (by kernel_rfl) rfl
  |i+5,e=>cases e
 ·match i,e with
  |0,e=>cases e;exact adX A _ _ _ _ _ _ _ _ (hs.below hV)
  |1,e=>cases e;exact adY _ _ _ _ _ _ _ _
  |2,e=>cases e;exact adZ _ _ _ _ _ _ _ _
  |3,e=>cases e;exact ad0 _ _ _ _ _ _ _ _
  |4,e=>cases e;exact ad1 _ _ _ _ _ _ _ _
  |i+5,e=>cases e
 match i,e with
 |0,e=>cases e;decide
 |1,e=>cases e;decide
 |2,e=>cases e;decide
 |3,e=>cases e;decide
 |4,e=>cases e;decide
 |i+5,e=>cases e
open Go.Maps
def pJ(s:ByteArray):Lit:=.string s.data.toList
def zC(a:List ByteArray):DataW Unit:=setOf (.agg []) (a.map pJ)
def ad3(a:List ByteArray)(s:ByteArray):Maps.has (zC a) (pJ s)=a.any (λx=>decide (x=s)):=by
 unfold zC;rw[has_setOf _ _ _ (by intro x hx;simp only[nS]at hx;obtain⟨y,-,rfl⟩:=hx;trivial),List.any_map];congr 1
 funext x
 show (x.data.toList==s.data.toList)=decide _
 by_cases h:x=s
 ·subst h;simp
 rw[bV h,gX];exact λe=>h (oK e)
def ad4(a:List ByteArray)(s:ByteArray):zC (a++[s])=(zC a).put (pJ s) (.agg []):=by
 unfold zC;rw[lC];exact setOf_snoc ..
def ui:Keyed prog 9:=string_keyed underlying9
def ad5(w:ak):(zeroValue 155).run prog w=.ok (bK #[]) w:=by kernel_rfl
structure mS(A:Nat->aC)(w0 w:ak)(rb bx mb:Nat)(a:List ByteArray):Prop where
 aY:Below w0.heap.size w0 w
 lo:w0.heap.size<=mb
 nr:rb≠mb
 nb:bx≠mb
 r0:w.cell? (ai rb 0 I)=J (.iface 357 (aq (J (A 3))))
 r1:w.cell? (ai rb 1 I)=J (.func (.func 99) #[] #[])
 r2:w.cell? (ai rb 2 I)=J (.iface 357 (aq (J (A 5))))
 r3:w.cell? (ai rb 3 I)=J (.func (.func 101) #[] #[aq (J (ai bx 0 I))])
 b0:w.cell? (ai bx 0 I)=J (.map (J mb))
 own:w.ownsMap prog 9 unitElem mb a.length (zC a)
def ad6(h:w.ownsMap prog 9 unitElem mb n D)(hb:Below w.heap.size w w'):w'.ownsMap prog 9 unitElem mb n D:=by
 have hlt:=h.lt;obtain⟨es,clock,h1,h2⟩:=h;exact⟨es,_,(hb.block mb hlt).trans h1,h2⟩
def mS.below(h:mS A w0 w rb bx mb a)(hb:Below w.heap.size w w'):mS A w0 w' rb bx mb a:=
 ⟨h.aY.trans (hb.mono h.aY.size),h.lo,h.nr,h.nb,aJ hb h.r0,aJ hb h.r1,aJ hb h.r2,aJ hb h.r3,aJ hb h.b0,ad6 h.own hb⟩
def cell_grown{a:aC}(hg:w.grownBy w' (J mb))(hne:a.block≠mb)(h:w.cell? a=J v):w'.cell? a=J v:=
 (mH (hg.block a.block (jf h) (by simpa using hne))).trans h
def mS.grown{a':List ByteArray}(h:mS A w0 w rb bx mb a)(hg:w.grownBy w' (J mb))(ho:w'.ownsMap prog 9 unitElem mb a'.length (zC a')):mS A w0 w' rb bx mb a':=
 ⟨h.aY.grown hg h.aY.size (λj hj=>by cases hj;exact h.lo),h.lo,h.nr,h.nb,cell_grown hg h.nr h.r0,cell_grown hg h.nr h.r1,cell_grown hg h.nr h.r2,cell_grown hg h.nr h.r3,cell_grown hg h.nb h.b0,ho⟩
def Sw(A:Nat->aC)(w:ak)(hs:l4 A w):Calls prog 45 #[] w λe w'=>e=ax (aj (J ⟨w.heap.size+2,0,I⟩) 2 2)/\mS A w w' (w.heap.size+2) (w.heap.size+1) w.heap.size []:=by
 have FP:=@run_makeMap prog;have c3:=hs.c3;have c5:=hs.c5;have ha:∀(g:Nat) (v:aw),w.cell? _=J v->∀o1 o2,((w.alloc o1).alloc o2).cell? ⟨g,0,I⟩=J v:=λg v e o1 o2=>aJ (((aF _ _).alloc (aR _) _).alloc (by simp) _) e
 have d3:=ha _ _ c3;have d5:=ha _ _ c5;go_enter func45,ntmps45
 go_wp2;go_ret
 refine⟨rfl,⟨(((aF _ _).alloc (aR _) _).alloc (by simp) _).alloc (by simp;omega) _,aR _,by omega,by omega,?_,?_,?_,?_,?_,?_⟩⟩;iterate 4
  ·rw[show w.heap.size+2=((w.alloc _).alloc _).heap.size by simp,dr _ _ _ _ rfl];rfl
 ·rw[World.cell?_alloc_lt _ _ _ (by simp)];have e:w.heap.size+1=(w.alloc (.map #[] 0)).heap.size:=by simp
  rw[e,dr _ _ _ _ rfl];rfl
 exact((World.ownsMap_made w _ 9 _).alloc _).alloc _
def ad7(A:Nat->aC)(w0 w:ak)(rb bx mb:Nat)(a:List ByteArray)(s:ByteArray)(h:mS A w0 w rb bx mb a)(hs:s.size<=1000000)(hn:a.length<=1000000):Calls prog 101 #[aA s,aq (J (ai bx 0 I))] w λe w'=>e=ax (aL (a.any (λx=>decide (x=s))))/\mS A w0 w' rb bx mb (a++[s])/\∀(p:aC) (v:aw),p.block≠mb->w.cell? p=J v->w'.cell? p=J v:=by
 have b0:=h.b0;have b1:∀o,(w.alloc o).cell? _=J _:=λo=>aJ ((aF _ _).alloc (aR _) _) b0
 have hown:=h.own;have hkey:keyOf _ 9 _=J (pJ s):=G' underlying9 (by unfold maxLen;omega);have HA:=ad3 a s;change U _ at h
 go_enter func101,ntmps101
 go_wp2_with (first
  |(at_lookup;refine wpList_lookup_own_unit _ rfl _ _ 152 rfl 9 155 ui underlying152 (ad5 _) mb _ _ rfl hown _ _ rfl hkey ?_)
  |(at_mapUpdate;refine wpList_mapUpdate_own _ rfl _ _ _ 152 rfl 9 155 ui underlying152 _ mb _ _ rfl (hown.alloc _) (by unfold maxLen;omega) _ _ _ rfl rfl hkey _ [] unitElem_mk ?_;intro w1 hown1 A6)
  |go_in)
 go_ret;exact⟨rfl,(h.below ((aF _ _).alloc (aR _) _)).grown A6 (by rw[ad4];simpa using hown1),λp v hne e=>cell_grown A6 hne (aJ ((aF _ _).alloc (aR _) _) e)⟩
open Go.ChangeMaps (setBlock heap_setBlock_same)
def kO(k:Nat):ByteArray:=⟨(og k).toArray⟩
def uj:Nat->Nat
 |0=>60
 |1=>63
 |2=>65
 |3=>67
 |4=>69
 |5=>71
 |6=>73
 |7=>76
 |8=>78
 |9=>80
 |10=>82
 |11=>84
 |12=>86
 |_=>88
def uk(lo:Nat)(w:ak)(pb k:Nat)(v:aw):Prop:=∃sv,v=bK #[sv,.func (.func (uj k)) #[] #[aq (J (ai pb 0 I))]]/\bw bT 1 w sv (eH k)/\∀b,sv.ownBlock=J b->lo<=b
structure vG(lo:Nat)(w:ak)(pb mb:Nat)(bx:Array aw)(n:Nat):Prop where
 box:w.heap[pb]?=J (ay bx 101 (0,0))
 LH:lo<=pb
 qC:lo<=mb
 ex:∃es:Array MapEntry,w.heap[mb]?=J (.map es n)/\es.size=n/\∀k,k<n->∃v,es[k]?=J ⟨aA (kO k),v,k⟩/\uk lo w pb k v
structure lp(w0 w:ak)(pb mb:Nat)(bx:Array aw)(n:Nat):Prop extends vG w0.heap.size w pb mb bx n where
 aY:Below w0.heap.size w0 w
section
variable {w0 w w':ak}{lo pb mb n k:Nat}{bx:Array aw}{v:aw}
def uk.cells(h:uk lo w pb k v)(hc:∀a u,w.cell? a=J u->lo<=a.block->w'.cell? a=J u):uk lo w' pb k v:=by
 obtain⟨sv,h1,⟨sa,cap,rfl,h0,h2⟩,h3⟩:=h
 refine⟨_,h1,⟨sa,cap,rfl,h0,λhne=>?_⟩,h3⟩;obtain⟨b,o,rfl,h4⟩:=h2 hne;exact⟨b,o,rfl,λi x hx j u hu=>hc _ _ (h4 i x hx j u hu) (h3 b rfl)⟩
def vG.kept(h:vG lo w pb mb bx n)(hk:∀k,lo<=k->k<w.heap.size->w'.heap[k]?=w.heap[k]?):vG lo w' pb mb bx n:=by
 obtain⟨es,h1,h2,h3⟩:=h.ex
 refine⟨(hk pb h.LH (bL h.box)).trans h.box,h.LH,h.qC,es,(hk mb h.qC (by rcases fF mb w.heap.size with a|a;exact a;rw[xe a]at h1;cases h1)).trans h1,h2,λk nH=>?_⟩;obtain⟨v,h4,h5⟩:=h3 k nH
 refine⟨v,h4,h5.cells (λa u hu hl=>?_)⟩;have:=hk _ hl (jf hu);simp only[aH,this]at hu⊢;exact hu
def lp.below(h:lp w0 w pb mb bx n)(hb:Below w.heap.size w w'):lp w0 w' pb mb bx n:=⟨h.tovG.kept (λk _ hk=>hb.block k hk),h.aY.trans (hb.mono h.aY.size)⟩
def lp.alloc(h:lp w0 w pb mb bx n)(o:Obj):lp w0 (w.alloc o) pb mb bx n:=h.below (aS w o)
def ad8:∀a:Fin 14,∀b:Fin 14,og a.1=og b.1->a=b:=by decide
def Sx(hj:j<14)(hk:k<14)(h:Value.string (kO j)=aA (kO k)):j=k:=by
 have h1:=Value.string.inj h;unfold kO at h1;have h2:=nh (λb:ByteArray=>b.data.toList) h1;have h3:=ad8 ⟨j,hj⟩ ⟨k,hk⟩ (by simpa using h2);exact nh Fin.val h3
def LI(s:ByteArray)(hs:s.size<=1000000):keyOf prog 9 (aA s)=J (pJ s):=G' underlying9 (by unfold maxLen;omega)
def Sy(k:Nat):(kO k).size<=1000000:=by
 unfold kO og
 split<;>decide
def lp.keys{es:Array MapEntry}(h3:∀k,k<n->∃v,es[k]?=J (⟨aA (kO k),v,k⟩:MapEntry)/\uk lo w pb k v)(h2:es.size=n):∀e∈es.toList,∃l,keyOf prog 9 e.key=J l:=by
 intro e he;obtain⟨i,hi,rfl⟩:=su he;have hi':i<n:=by rw[<- h2];simpa using hi
 obtain⟨v,h4,-⟩:=h3 i hi';have:=bq hi;rw[qR,h4]at this;rw[<- fg this];exact⟨_,LI _ (Sy _)⟩
def lp.put(h:lp w0 w pb mb bx n)(hn:n<14)(hv:uk w0.heap.size w pb n v):∃w',(Instr.mapUpdate 104 (.map (J mb)) (aA (kO n)) v).run prog w=.ok () w'/\lp w0 w' pb mb bx (n+1):=by
 obtain⟨es,hb,h2,h3⟩:=h.ex;have hkey:=LI _ (Sy n);have hk:=lp.keys h3 h2
 rcases ui.find w hkey _ hk with⟨f1,f2⟩|⟨j,e,f1,f2,f3⟩
 ·refine⟨setBlock w mb (.map (es.push ⟨aA (kO n),v,n⟩) (n+1)),?_,?_⟩
  ·simp[Instr.mapUpdate,MapKept.run_getObj_map hb,ui.check w false hkey,f1,MapKept.run_setObj_map _ hb,setBlock]
  have hne:pb≠mb:=λe=>by have:=h.box;rw[e,hb]at this;cases this
  have LJ:∀k,k≠mb->(setBlock w mb (.map (es.push ⟨aA (kO n),v,n⟩) (n+1))).heap[k]?=w.heap[k]?:=λk hk=>by
   show (w.heap.setIfInBounds mb _)[k]?=_
   rw[Array.getElem?_setIfInBounds_ne (λe=>hk e.symm)]
  have hcell:∀a u,w.cell? a=J u->(setBlock w mb (.map (es.push ⟨aA (kO n),v,n⟩) (n+1))).cell? a=J u:=λa u hu=>by
   by_cases ha:a.block=mb
   ·simp[aH,ha,hb]at hu
   simp only[aH,LJ _ ha]at hu⊢;exact hu
  refine⟨⟨(LJ pb hne).trans h.box,h.LH,h.qC,_,heap_setBlock_same hb _,by rw[Array.size_push,h2],λk nH=>?_⟩,?_⟩;rotate_left
  ·exact⟨h.aY.os,h.aY.tape,h.aY.output,bp h.aY.size (by simp[setBlock]),λk hk=>(LJ k (by have:=h.qC;omega)).trans (h.aY.block k hk)⟩
  by_cases ad9:k=n
  ·subst ad9;exact⟨v,by rw[<- h2,Array.getElem?_push_size],hv.cells (λa u hu _=>hcell a u hu)⟩
  obtain⟨u,h4,h5⟩:=h3 k (by omega);exact⟨u,by rw[Array.getElem?_push_lt (by omega)];rw[za (by omega)]at h4;exact h4,h5.cells (λa u hu _=>hcell a u hu)⟩
 have hj:j<n:=by have:=(df.1 f2).1;rw[<- h2];simpa using this
 obtain⟨u,h4,-⟩:=h3 j hj;rw[qR,h4]at f2
 cases f2
 exact absurd (Sx (by omega) hn f3) (by omega)
def Sz{ops:Array Oper}{rest:List Oper}{o:Oper}{a:Act}{Q:Exit->Act->ak->Prop}(w:ak)(h:lp w0 w pb mb bx n)(hn:n<14)(hg:o.guard=I)(m x u:Operand)(hop:o.op=Op.insert 104 m x u)(hm:a.eval m=.map (J mb))(hx:a.eval x=aA (kO n))(hu:a.eval u=v)(hv:uk w0.heap.size w pb n v)
  (hK:∀w',lp w0 w' pb mb bx (n+1)->wpList prog ops Q rest (a.put o.dst undef) w'):wpList prog ops Q (o::rest) a w:=by
 refine wpList_plain hg λK' hK'=>?_
 obtain⟨w',hrun,h1⟩:=h.put hn hv;unfold Oper.wp;simp[execOp,hop,hm,hx,hu,hrun]
 exact hK' _ _ (hK w' h1)
def ad_(hk:eH k=[]):uk lo w pb k (bK #[aj I 0 0,.func (.func (uj k)) #[] #[aq (J (ai pb 0 I))]]):=⟨_,rfl,by rw[hk];exact⟨_,0,rfl,aR _,λh=>absurd rfl h⟩,λb hb=>by cases hb⟩
def SA(w:ak)(xs:List Int):bw bT 1 (w.alloc (ay (xs.map (Value.int af)).toArray 3)) (aj (J (ai w.heap.size 0 I)) xs.length xs.length) xs:=by
 refine⟨_,_,rfl,aR _,λ_=>⟨_,_,rfl,λi x hx j u hu=>?_⟩⟩;have hj:j=0/\u=ae af x:=by
  cases j with
  |zero=>exact⟨rfl,(fg hu).symm⟩
  |succ j=>simp[bT]at hu
 obtain⟨rfl,rfl⟩:=hj;have h1:=cj w (ay (xs.map (Value.int af)).toArray 3);simp only[aH,h1];simp[hx]
def ad'(hg:w.heap.size=g)(hl:lo<=w.heap.size):uk lo (w.alloc (ay ((eH k).map (Value.int af)).toArray 3)) pb k (bK #[aj (J (ai g 0 I)) (eH k).length (eH k).length,.func (.func (uj k)) #[] #[aq (J (ai pb 0 I))]]):=hg▸⟨_,rfl,SA w _,λb hb=>by cases hb;exact hl⟩
def aea{ops:Array Oper}{rest:List Oper}{o:Oper}{a:Act}{Q:Exit->Act->ak->Prop}(h:lp w0 w pb mb bx n)(hW:W=w.alloc (ay ((eH n).map (Value.int af)).toArray 3))(cM:w.heap.size=g)(hn:n<14)(hg:o.guard=I)(m x u:Operand)(hop:o.op=Op.insert 104 m x u)(hm:a.eval m=.map (J mb))(hx:a.eval x=aA (kO n))(hu:a.eval u=bK #[aj (J (ai g 0 I)) (eH n).length (eH n).length,.func (.func (uj n)) #[] #[aq (J (ai pb 0 I))]])
  (hK:∀w',lp w0 w' pb mb bx (n+1)->wpList prog ops Q rest (a.put o.dst undef) w'):wpList prog ops Q (o::rest) a W:=by
 subst hW;exact Sz _ (h.alloc _) hn hg m x u hop hm hx hu (ad' cM h.aY.size) hK
def lp.new(w:ak)(bx:Array aw):lp w ((w.alloc (ay bx 101)).alloc (.map #[] 0)) w.heap.size (w.heap.size+1) bx 0:=by
 have h1:=cj w (ay bx 101);have h2:=cj (w.alloc (ay bx 101)) (.map #[] 0);have hb:=aS (w.alloc (ay bx 101)) (.map #[] 0)
 refine⟨⟨a8 hb h1,aR _,Nat.le_succ _,#[],?_,rfl,λk hk=>absurd hk (oo _)⟩,(aS w _).trans (hb.mono (aS w _).size)⟩;simpa using h2
end
def fN(c:aX)(kb bc:Nat)(sv:aw):Array aw:=#[aq (J (ai kb 0 I)),aq (J (ai bc 0 I)),ae af c.closed,ae af c.opn,ae af c.cycle,ae af c.bE,sv]
section
variable {w0 w w':ak}{lo pb mb n k:Nat}{bx:Array aw}{v:aw}
def vG.look(h:vG lo w pb mb bx 14)(s:ByteArray)(hs:s.size<=1000000):(gR (bl s)=I->(Instr.lookup 104 (.map (J mb)) (aA s) true).run prog w=.ok (bn #[bK #[aj I 0 0,.nilFunc],aL false]) w) /\
  ∀k,gR (bl s)=J k->∃v,uk lo w pb k v/\(Instr.lookup 104 (.map (J mb)) (aA s) true).run prog w=.ok (bn #[v,aL true]) w:=by
 obtain⟨es,hb,h2,h3⟩:=h.ex;have hkey:=LI s hs;have hw:∀k,Value.string (kO k)=aA s↔og k=bl s:=λk=>by
  constructor
  ·intro e;have:=nh (λb:ByteArray=>b.data.toList) (Value.string.inj e);simp only[kO]at this;exact this
  intro e;show Value.string ⟨_⟩=_
  rw[e];show Value.string ⟨s.data.toList.toArray⟩=_
  rw[Array.toArray_toList]
 rcases ui.find w hkey _ (lp.keys h3 h2)with⟨f1,f2⟩|⟨j,e,f1,f2,f3⟩
 ·refine⟨λ_=>by
   simp[Instr.lookup,MapKept.run_getObj_map hb,ui.check w _ hkey,f1],λk hk=>?_⟩
  obtain⟨h5,h6⟩:=xD hk;obtain⟨v,h4,-⟩:=h3 k h5;exact absurd ((hw k).2 h6) (f2 _ (bP (by rw[qR];exact h4)))
 have hj:j<14:=by have:=(df.1 f2).1;rw[<- h2];simpa using this
 obtain⟨u,h4,h5⟩:=h3 j hj;rw[qR,h4]at f2
 cases f2
 have CZ:=(hw j).1 f3
 refine⟨λhk=>absurd CZ (Rk hk j hj),λk hk=>?_⟩;obtain⟨h7,h8⟩:=xD hk;obtain rfl:=Sx h7 hj (((hw k).2 h8).trans (show Value.string _=aA s from f3).symm);exact⟨u,h5,by simp[Instr.lookup,MapKept.run_getObj_map hb,ui.check w _ hkey,f1]⟩
end
def aeb(c:aX)(kb bc:Nat)(sv:aw)(w:ak):Calls prog 37 #[.agg (fN c kb bc sv)] w λe w'=>e=ax (.map (J (w.heap.size+1)))/\lp w w' w.heap.size (w.heap.size+1) (fN c kb bc sv) 14:=by
 have HM:=lp.new w (fN c kb bc sv);have FP:=@run_makeMap prog;unfold fN at HM⊢;go_enter func37,ntmps37
 go_wp2_with (first
  |(refine aea HM rfl ?_ (ar rfl) rfl _ _ _ rfl rfl rfl rfl ?_;(first|rfl|simp);intro W HM)
  |(refine Sz _ HM (ar rfl) rfl _ _ _ rfl rfl rfl rfl (ad_ rfl) ?_;intro W HM))
 go_ret;exact⟨rfl,HM⟩
section
variable {A:Nat->aC}{H:Nat->Nat->Prop}{F:Nat->Prop}{w0 w w':ak}{c:aX}{kb bc bd rb bt:Nat}{lv:aw}{bs:List Nat}{K:aD}{k W:Nat}
def bS.pK(h:bS H w0 w c kb bc bd rb bt lv bs K)(hs:fI A w0):fI A w:=hs.below h.aY
def LK(h:bS H w0 w c kb bc bd rb bt lv bs K):Calls prog 83 #[aq (J (ai kb 0 I))] w λe w'=>e=ax (aA (n_ K.on))/\w'=w:=by
 have c2:w.cell? _=J (aq _):=h.cell 2 _ rfl;have c0:w.cell? _=J (aq _):=h.cell 0 _ rfl;have HP:U _:=Yp bc K.c w h.ring.cells;have HD:U _:=QE bd K.d w h.dog
 cases ho:K.c.off
 ·cases hr:K.d.reset
  ·have HO:U (K.on=0):=by show _=_;unfold aD.on;rw[ho,hr];rfl
   rw[ho]at HP;rw[hr]at HD;go_enter func83,ntmps83
   go_wp2_with fail
   refine aO HP.o ?_;rintro e w' ⟨rfl,rfl⟩;go_wp2_with fail
   refine aO HD.o ?_;rintro e w' ⟨rfl,rfl⟩;go_wp2;go_ret;exact⟨by rw[HO.o];rfl,rfl⟩
  have HO:U (K.on=11):=by show _=_;unfold aD.on;rw[ho,hr];rfl
  rw[ho]at HP;rw[hr]at HD;go_enter func83,ntmps83
  go_wp2_with fail
  refine aO HP.o ?_;rintro e w' ⟨rfl,rfl⟩;go_wp2_with fail
  refine aO HD.o ?_;rintro e w' ⟨rfl,rfl⟩;go_wp2;go_ret;exact⟨by rw[HO.o];rfl,rfl⟩
 have HO:U (K.on=8):=by show _=_;unfold aD.on;rw[ho];rfl
 rw[ho]at HP;go_enter func83,ntmps83
 go_wp2_with fail
 refine aO HP.o ?_;rintro e w' ⟨rfl,rfl⟩;go_wp2;go_ret;exact⟨by rw[HO.o];rfl,rfl⟩
def Hl(h:bS H w0 w c kb bc bd rb bt lv bs K)(hs:fI A w0):Calls prog 186 #[aq (J (ai kb 0 I))] w λe w'=>e=ax (errVal A K.on)/\w'=w:=by
 have HC:U _:=LK h;have g7:=(h.pK hs).c7;have g10:=(h.pK hs).c10
 rcases K.KQ with ho|ho|ho
 all_goals
  rw[ho]at HC⊢;go_enter func186,ntmps186
  go_wp2_with fail
  refine aO HC.o ?_;rintro e w' ⟨rfl,rfl⟩
  first|rw[show n_ 0=⟨_⟩from rfl]|rw[show n_ 8=⟨_⟩from rfl]|rw[show n_ 11=⟨_⟩from rfl]
  go_wp2;go_ret;exact⟨rfl,rfl⟩
def SB(i:Int)(h:bS H w0 w c kb bc bd rb bt lv bs K)(hs:fI A w0)(hi:i<0\/(K.ls.length:Int)<=i):Calls prog 133 #[aq (J (ai kb 0 I)),ae af i] w λe w'=>e=ax (bn #[aq I,errVal A 5])/\Below w.heap.size w w':=by
 have c5:w.cell? _=J lv:=h.cell 5 _ rfl;have g4:=(h.pK hs).c4;obtain⟨la,lc,rfl⟩:=iB h.own;rw[show bs.length=K.ls.length by rw[h.dY,h.dB]]at c5
 by_cases h0:i<0
 ·clear hi;go_enter func133,ntmps133
  go_wp2_with fail
  go_quiet (fail)
  go_wp2;go_ret2
  exact⟨rfl,br (aF _ _) _⟩
 have h1:(K.ls.length:Int)<=i:=by omega
 go_enter func133,ntmps133
 go_wp2_with fail
 go_quiet (fail)
 go_wp2;go_ret2
 exact⟨rfl,br (aF _ _) _⟩
def SC(n:Nat)(h:bS H w0 w c kb bc bd rb bt lv bs K)(hn:n<K.ls.length)(hlv:lv=aj (J (ai g 0 I)) K.ls.length cap)(hc:w.cell? (ai g n I)=J (aq (J (ai b 0 I)))):Calls prog 133 #[aq (J (ai kb 0 I)),ae af (n:Int)] w λe w'=>e=ax (bn #[aq (J (ai b 0 I)),.nilIface])/\w'=w:=by
 have c5:w.cell? _=J lv:=h.cell 5 _ rfl;subst hlv;have g0:¬(n:Int)<0:=by omega
 have g1:¬(K.ls.length:Int)<=(n:Int):=by omega
 have g2:(n:Int)<(K.ls.length:Int):=by omega
 go_enter func133,ntmps133
 go_wp2;go_ret2
 exact⟨rfl,rfl⟩
def zD(h:j≠0):∃i,errVal A j=.iface 357 (aq (J (A i))):=by
 cases j with
 |zero=>exact absurd rfl h
 |succ i=>exact⟨i,rfl⟩
def LL(i:Int)(h:bS H w0 w c kb bc bd rb bt lv bs K)(hs:fI A w0)(ho:K.on≠0):Calls prog 123 #[aq (J (ai kb 0 I)),ae af i] w λe w'=>e=ax (bn #[aq I,errVal A K.on])/\w'=w:=by
 have HC:U _:=Hl h hs;obtain⟨j,hj⟩:=zD (A:=A) ho;rw[hj]at HC⊢;go_enter func123,ntmps123
 go_wp2_with fail
 refine aO HC.o ?_;rintro e w' ⟨rfl,rfl⟩;go_wp2;go_ret2
 exact⟨rfl,rfl⟩
def LM(i:Int)(h:bS H w0 w c kb bc bd rb bt lv bs K)(hs:fI A w0)(ho:K.on=0)(hi:i<0\/(K.ls.length:Int)<=i):Calls prog 123 #[aq (J (ai kb 0 I)),ae af i] w λe w'=>e=ax (bn #[aq I,errVal A 5])/\Below w.heap.size w w':=by
 have HC:U _:=Hl h hs;have HX:U _:=SB i h hs hi;rw[ho,show errVal A 0=.nilIface from rfl]at HC;go_enter func123,ntmps123
 go_wp2_with fail
 refine aO HC.o ?_;rintro e w' ⟨rfl,rfl⟩;go_wp2_with fail
 refine aO HX.o ?_;rintro e w2 ⟨rfl,hb⟩;go_wp2;go_ret2
 exact⟨rfl,hb⟩
def LN(n:Nat)(h:bS H w0 w c kb bc bd rb bt lv bs K)(hs:fI A w0)(ho:K.on=0)(hn:n<K.ls.length)(hlv:lv=aj (J (ai g 0 I)) K.ls.length cap)(hc:w.cell? (ai g n I)=J (aq (J (ai b 0 I)))):Calls prog 123 #[aq (J (ai kb 0 I)),ae af (n:Int)] w λe w'=>e=ax (bn #[aq (J (ai b 0 I)),.nilIface])/\w'=w:=by
 have HC:U _:=Hl h hs;have HX:U _:=SC n h hn hlv hc;rw[ho,show errVal A 0=.nilIface from rfl]at HC;go_enter func123,ntmps123
 go_wp2_with fail
 refine aO HC.o ?_;rintro e w' ⟨rfl,rfl⟩;go_wp2_with fail
 refine aO HX.o ?_;rintro e w2 ⟨rfl,rfl⟩;go_wp2;go_ret2
 exact⟨rfl,rfl⟩
def LO(h:bS H w0 w c kb bc bd rb bt lv bs K):Calls prog 75 #[aq (J (ai kb 0 I))] w λe w'=>e=ax (ae af (K.d.now:Int))/\w'=w:=by
 have c0:w.cell? _=J (aq _):=h.cell 0 _ rfl;have HX:U _:=QF bd K.d w h.dog;go_enter func75,ntmps75
 go_wp2_with fail
 refine aO HX.o ?_;rintro e w' ⟨rfl,rfl⟩;go_wp2;go_ret;exact⟨rfl,rfl⟩
def aec(h:bS H w0 w c kb bc bd rb bt lv bs K):Calls prog 77 #[aq (J (ai kb 0 I))] w λe w'=>e=ax (ae af (K.d.fu:Int))/\w'=w:=by
 have c0:w.cell? _=J (aq _):=h.cell 0 _ rfl;have HX:U _:=aaM bd K.d w h.dog;go_enter func77,ntmps77
 go_wp2_with fail
 refine aO HX.o ?_;rintro e w' ⟨rfl,rfl⟩;go_wp2;go_ret;exact⟨rfl,rfl⟩
def aed(h:bS H w0 w c kb bc bd rb bt lv bs K):Calls prog 81 #[aq (J (ai kb 0 I))] w λe w'=>e=ax (aA (dE K.t.st))/\w'=w:=by
 have c6:w.cell? _=J (aq _):=h.cell 6 _ rfl;have HX:U _:=adB h.to;go_enter func81,ntmps81
 go_wp2_with fail
 refine aO HX.o ?_;rintro e w' ⟨rfl,rfl⟩;go_wp2;go_ret;exact⟨rfl,rfl⟩
end
end Go.Proofs.YtgjlihibabmgcaaGreatDoor
