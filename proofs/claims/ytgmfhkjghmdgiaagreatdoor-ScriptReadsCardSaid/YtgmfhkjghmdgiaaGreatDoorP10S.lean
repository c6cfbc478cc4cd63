/-
  Several texts as one: CfPLine, CfPent, CfTextAll, CfRNum, CfRMap, CfRSet, CfRWord, CfRWordB, CfRKind, CfRFill, CfRFillB, CfOwnC.
-/
import Derived.Test.YtgmfhkjghmdgiaaGreatDoorP09S
set_option linter.all false
set_option maxHeartbeats 40000000
set_option maxRecDepth 100000
abbrev sT.{u}:=@beq_self_eq_true.{u}
open Go renaming Addr→az,Value→ar,World→ai
open Go.Ending renaming returned→ax
open Go.IntKind renaming i64→R
open Go.Obj renaming cells→au
open Go.RowKit renaming Hid→aa
open Go.Value renaming agg→aU,bool→aI,int→U,pointer→aj,slice→af,string→aq,tuple→bn
open Option renaming none→I,some→J
open Go.Proofs.Tryz
namespace Go.Proofs.YtgmfhkjghmdgiaaGreatDoor
open Go.Extern Go.Extern.Stop Go.RowKit Go.Stop
theorem nI.later{B pb:Nat}{pv:ar}{w V:ai}{x:ar×Bs}(h:nI B pb pv w x)(hf:cq B pb w V):nI B pb pv V x:=
 λW l eT hp hle=>h W l (hf.trans eT) hp hle
structure fI(B pb:Nat)(pv:ar)(W:ai)(l:List UInt8)(pre:List Bs)(V:ai):Prop where
 page:cF B pb pv (l++pre.flatMap (λx=>x++[10])) V
 fr:cq B pb W V
theorem adU{B pb:Nat}{pv:ar}{W V:ai}{l:List UInt8}{pre:List Bs}(h:fI B pb pv W l pre V)(k:Nat)(ws:List (ar×Bs))(hk:k<10)(hK:jF W)(hG:(max 12 13+1)<=B)(hw:∀x∈ws,nI B pb pv W x)(hb:∀x∈ws,x.2.length<=13)(hn:ws.length<=4)(hl:l.length<=500000000)(hp:(pre.flatMap (λx=>x++[10])).length<=1000000):Calls prog 171 #[aj (J ⟨pb,0,I⟩),af (J ⟨V.heap.size,0,I⟩) (ws.length+1) (ws.length+1)] (V.alloc (au (.iface 148 (U R (k:Int))::ws.map (·.1)).toArray 20)) λv V'=>v=ax (bn #[])/\fI B pb pv W l (pre++[bu k (ws.map (·.2))]) V':=by
 have hf:cq B pb W (V.alloc (au (.iface 148 (U R (k:Int))::ws.map (·.1)).toArray 20)):=h.fr.alloc h.page.2.1 _;have hlen:=vw k (ws.map (·.2)) (λx hx=>by obtain⟨y,hy,rfl⟩:=lX.1 hx;exact hb y hy) (by simpa using hn)
 refine(Fg B pb pv _ _ k ws _ (h.page.below (Below.uB _ _)) (Ae _ _ _) (by have:=h.page.lt;omega) hk (hK.below hf.br (eh (show 12<(max 12 13+1) by decide) hG)) hG (λx hx=>(hw x hx).later hf) (by omega) (by rw[dm];omega)).mono ?_;rintro v V' ⟨rfl,h1,h2⟩
 refine⟨rfl,?_,hf.trans h2⟩;have e:l++(pre++[bu k (ws.map (·.2))]).flatMap (λx=>x++[10])=l++pre.flatMap (λx=>x++[10])++(bu k (ws.map (·.2))++[10]):=by
  rw[dP,iV];simp
 rw[e];exact h1
theorem adV{e:aF}(hO:tI e)(hZ:xm e){pre rest:List Bs}(h:fh e=pre++rest):(pre.flatMap (λx=>x++[10])).length<=1000000:=by
 have hl:=Gp hO hZ;have h1:=A6 (λx:Bs=>x++[10]) 63 pre (λx hx=>by have:=hl.2 x (by rw[h];exact List.mem_append_left _ hx);simp;omega);have h2:pre.length<=122:=by have:=hl.1;rw[h,dm]at this;omega
 have h3:pre.length*63<=122*63:=AV _ h2;omega
theorem JJ{α β:Type}(f:α->β)(l:List α)(k:Nat)(r:List β):(l.take k).map f++((l.drop k).map f++r)=l.map f++r:=by rw[<- iV,<- pH,qq]
def adW(e:aF):List Bs:=(if e.cnt=-1 then []else [bu 5 [pt e.ak e.cnt,num e.mn,num e.mx]]) ++
  (e.aB.map (λg=>bu 6 [pt e.ak g.fr,pt e.ak g.to,num g.mn,num g.mx])++(e.aA.map (λd=>bu 7 [pt e.ak d.1,pt e.ak d.2]) ++
   (e.first.map (λx=>bu 8 [pt e.ak x])++e.last.map (λx=>bu 9 [pt e.ak x]))))
def CX(e:aF):List Bs:=e.aB.map (λg=>bu 6 [pt e.ak g.fr,pt e.ak g.to,num g.mn,num g.mx])++(e.aA.map (λd=>bu 7 [pt e.ak d.1,pt e.ak d.2]) ++
   (e.first.map (λx=>bu 8 [pt e.ak x])++e.last.map (λx=>bu 9 [pt e.ak x])))
theorem adX(e:aF)(k:Nat):fh e=(bu 3 [bl e.name,num e.aJ]::(e.ak.take k).map (λp=>bu 4 [bl p]))++((e.ak.drop k).map (λp=>bu 4 [bl p])++adW e):=by
 rw[px,<- iV,<- pH,qq];rfl
theorem adY(B pb:Nat)(e:aF)(w0 w:ai)(hb0:Below w0.heap.size w0 w)(hw0:w0.heap.size<=B)(hO:tI e)(hZ:xm e)(hK:jF w)(hT:iK w)(hG:(max 12 13+1)<=B):Jy B pb w0 w e:=by
 intro W l pv pa ga ea fa la pc gc ec fc lc eT hp hl lM;unfold r9;have dX:aa (∀V,Below B W V->Below _ w0 V):=λV hV=>hb0.trans ((eT.br.trans hV).mono hw0)
 have QN:=hK.below eT.br (eh (show 12<(max 12 13+1) by decide) hG);have QO:=hT.below eT.br hG;have JK:∀p∈e.ak,p.size<=1000000:=λp hp=>by
  have:=xk (hO.pn p hp);have e1:(bl p).length=p.size:=by unfold bl;rw[lU];rfl
  omega
 have sU:aa (nI B pb (af pa e.ak.length pc) W (.iface 9 _,bl e.name)/\(∀p∈e.ak,nI B pb (af pa e.ak.length pc) W _)):=⟨Qp _ (by
  have:=xk hO.name;have e1:(bl e.name).length=e.name.size:=by unfold bl;rw[lU];rfl
  omega),λp hp=>Qp _ (JK p hp)⟩
 have CY:aa (∀n:Int,0<=n->n<=1099511627776->nI B pb (af pa e.ak.length pc) W _):=λn h0 h1=>CP n h0 h1 QO hG
 have kT:aa (∀x:Int,0<=x->x<(e.ak.length:Int)->nI B pb _ W _):=λx h0 h1=>acT x (λV hV=>lM.hp.below (dX.o V hV)) h0 h1 JK
 have fe:aa (∀(kW V:ai) (pre:List Bs) (k:Nat) (ws:List _),cq B pb W kW->fI B pb _ kW l pre V->k<10->(∀x∈ws,nI B pb _ W x/\x.2.length<=13)->ws.length<=4->(pre.flatMap _).length<=1000000->Calls _ 171 _ _ λv V'=>v=ax _/\fI B pb (af pa e.ak.length pc) kW l _ V'):=
  λU V pre k ws hU h hk hw hn hp=>adU h k ws hk (QN.below hU.br (eh (show 12<(max 12 13+1) by decide) hG)) hG (λx hx=>((hw x hx).1).later hU) (λx hx=>(hw x hx).2) hn hl hp
 have iq:aa (tI e/\xm e):=⟨hO,hZ⟩;have wL:aa _:=λV hV=>lM.below (dX.o V hV)
 have QP:aa (pb<W.heap.size/\B<=W.heap.size):=⟨hp.lt,hp.2.1⟩;have HP:aa (cF B pb pv l W):=hp;clear hb0 hw0 hO hZ hK hT hG eT hp hl lM QN QO JK;go_enter func172,ntmps172
 go_upto_region 1 with fail
 obtain⟨W0,hW0⟩:∃V,V=W.alloc (au #[aq e.name,U R e.aJ,af pa e.ak.length pc,U R e.cnt,U R e.mn,U R e.mx,af ga e.aB.length gc,af ea e.aA.length ec,af fa e.first.length fc,af la e.last.length lc] 84):=⟨_,rfl⟩;rw[<- hW0];have jf:aa (cq B pb W W0):=by show cq _ _ _ _;rw[hW0];exact(cq.refl B pb W).alloc QP.o.2 _
 have x_:aa (cF B pb pv l W0):=by show cF _ _ _ _ _;rw[hW0];exact HP.o.below (Below.uB _ _)
 have jH:aa (∀V,cq B pb W0 V->∀(j:Nat) u,(#[aq e.name,U R e.aJ,af pa e.ak.length pc,U R e.cnt,U R e.mn,U R e.mx,af ga e.aB.length gc,af ea e.aA.length ec,af fa e.first.length fc,af la e.last.length lc]:Array _)[j]?=J u->V.cell? ⟨W.heap.size,j,I⟩=J u):=λV hV j u hu=>by
  have hb:=hV.box (by rw[hW0];exact Ae W _ _) (by have:=QP.o.1;omega) (by decide);simp[World.cell?,hb,hu]
 clear hW0;have x2:W0.cell? _=J (af pa _ pc):=jH.o W0 (cq.refl _ _ _) 2 _ rfl;obtain⟨-,-,pp,vv,-,hrow,-⟩:=id x_.o;have q2:W0.cell? ⟨pb,2,I⟩=J pv:=by simp[World.cell?,hrow]
 have f2:W0.frozen? ⟨pb,2,I⟩=false:=by simp[World.frozen?,hrow]
 clear hrow;go_upto_region 2 with fail
 obtain⟨W1,hW1⟩:∃V,V=W0.setCell ⟨pb,2,I⟩ (af pa e.ak.length pc):=⟨_,rfl⟩;rw[<- hW1];have pL:aa (cq B pb W0 W1):=by show cq _ _ _ _;rw[hW1];exact(x_.o.Mk _).2
 have zU:aa (fI B pb _ W0 l [] W1):=⟨by simpa[hW1]using(x_.o.Mk (af pa e.ak.length pc)).1,pL.o⟩;clear hW1 x2 q2 f2 x_;have uh:aa (∀pre rest:List Bs,fh e=pre++rest->(pre.flatMap _).length<=1000000):=λpre rest h=>adV iq.o.1 iq.o.2 h
 have x0:W1.cell? _=J (aq _):=jH.o W1 pL.o 0 _ rfl;have x1:W1.cell? _=J (U R _):=jH.o W1 pL.o 1 _ rfl;have HC:aa (Calls _ 171 #[aj _,af _ 3 3] (W1.alloc (au #[.iface 148 (U R 3),.iface 9 _,.iface 3 _] 20)) λv V'=>v=ax _/\fI B pb _ W0 l ([]++[bu 3 [bl _,num _]]) V'):=
  fe.o W0 W1 [] 3 [(.iface 9 (aq e.name),bl e.name),(.iface 3 (U R e.aJ),num e.aJ)] jf.o zU.o (by decide) (λx hx=>by
   simp only[fg,jB,jU]at hx
   rcases hx with rfl|rfl
   ·exact⟨sU.o.1,xk iq.o.1.name⟩
   have:=iq.o.1.aJ;exact⟨CY.o _ (by omega) (by omega),oC (by omega)⟩) (by simp) (by simp)
 go_wp2_with fail
 refine aL HC.o ?_;rintro v W2 ⟨rfl,oP⟩;have JL:aa (fI B pb _ W0 l (bu 3 _::(e.ak.take 0).map (λp=>bu 4 [bl p])) W2):=oP;clear oP HC x0 x1 zU pL;have x2:W2.cell? _=J (af pa _ pc):=jH.o W2 JL.o.fr 2 _ rfl;go_wp2_with fail
 clear x2
 go_loopw [5,32] (λ_ i wr=>∃k:Nat,k<=e.ak.length/\i=U R k/\fI B pb (af pa e.ak.length pc) W0 l (bu 3 [bl e.name,num e.aJ]::(e.ak.take k).map (λp=>bu 4 [bl p])) wr) (λ_ i _=>e.ak.length-(intOf i).toNat)
 case atStart=>exact⟨0,bI _,rfl,JL.o⟩
 case round=>
  clear JL;obtain⟨k,hk,rfl,hi⟩:=hrel;have HI:aa _:=hi;clear hi
  by_cases hlt:k<e.ak.length
  ·obtain⟨q,hq⟩:∃q,e.ak[k]?=J q:=⟨_,bH hlt⟩;obtain⟨dI,cap',ck,-,hcc⟩:=(wL.o wr (jf.o.trans HI.o.fr).br).hp
   cases ck
   obtain⟨b,o,rfl,hc0⟩:=hcc (λh=>by rw[h]at hq;simp at hq);have c0:wr.cell? ⟨b,o+k,I⟩=J (aq q):=by have:=hc0 k q hq 0 _ rfl;simpa using this
   have HQ:aa _:=hq;have HC:aa (Calls _ 171 #[aj _,af _ 2 2] (wr.alloc (au #[.iface 148 (U R 4),.iface 9 _] 20)) λv V'=>v=ax _/\fI B pb _ W0 l ((bu 3 _::(e.ak.take k).map _)++[bu 4 [bl q]]) V'):=
    fe.o W0 wr _ 4 [(.iface 9 (aq q),bl q)] jf.o HI.o (by decide) (λx hx=>by
     simp only[iF]at hx;subst hx;exact⟨sU.o.2 q (cM hq),xk (iq.o.1.pn q (cM hq))⟩) (by simp) (uh.o _ _ (adX e k))
   have k1:(k:Int)<(e.ak.length:Int):=by omega
   have k0:k<100:=by have:=iq.o.2.ak;omega
   clear hq hcc hc0;go_wp2_with fail
   refine aL HC.o ?_;rintro v W3 ⟨rfl,mP⟩;have HR:aa (fI B pb (af (J ⟨b,o,I⟩) e.ak.length pc) W0 l (bu 3 [bl e.name,num e.aJ]::(e.ak.take (k+1)).map (λp=>bu 4 [bl p])) W3):=by
    have e1:(e.ak.take (k+1)).map (λp=>bu 4 [bl p])=(e.ak.take k).map (λp=>bu 4 [bl p])++[bu 4 [bl q]]:=by rw[fW,HQ.o];simp
    show fI _ _ _ _ _ _ _
    rw[e1];exact mP
   clear mP HC;go_wp2;go_roundw
   case rel=>exact⟨_,by omega,by go_num,HR.o⟩
   case measure=>simp[intOf];omega
  have k1:¬(k:Int)<(e.ak.length:Int):=by omega
  obtain rfl:k=e.ak.length:=by omega
  have CZ:aa (fI B pb (af pa e.ak.length pc) W0 l (bu 3 [bl e.name,num e.aJ]::e.ak.map (λp=>bu 4 [bl p])) wr):=by have:=HI.o;rw[l4]at this;exact this
  clear HI;obtain⟨z,hz⟩:∃z,z=e.cnt:=⟨_,rfl⟩;have Fj:aa _:=hz;have x3:wr.cell? ⟨W.heap.size,3,I⟩=J (U R z):=by rw[hz];exact jH.o wr CZ.o.fr 3 _ rfl
  clear hz;have x4:wr.cell? _=J (U R _):=jH.o wr CZ.o.fr 4 _ rfl;have x5:wr.cell? _=J (U R _):=jH.o wr CZ.o.fr 5 _ rfl;go_upto_if 45 with fail
  go_cut [44,45,58] (λ_ _ _ wx=>∃base:List Bs,fh e=base++CX e/\fI B pb (af pa e.ak.length pc) W0 l base wx)
  case first=>
   by_cases hc:z=-1
   ·have Fk:aa (fh e=(bu 3 [bl e.name,num e.aJ]::e.ak.map (λp=>bu 4 [bl p]))++CX e):=by show _=_;have hc:=hc;rw[Fj.o]at hc;simp[fh,CX,hc]
    go_wp2_with fail
    go_meet
    case rel=>exact⟨_,Fk.o,CZ.o⟩
   have Fk:aa (fh e=((bu 3 [bl e.name,num e.aJ]::e.ak.map (λp=>bu 4 [bl p]))++[bu 5 [pt e.ak e.cnt,num e.mn,num e.mx]])++CX e):=by show _=_;have hc:=hc;rw[Fj.o]at hc;simp[fh,CX,hc]
   have HC:aa (Calls prog 171 #[aj (J ⟨pb,0,I⟩),af (J ⟨wr.heap.size,0,I⟩) 4 4] (wr.alloc (au #[.iface 148 (U R 5),.iface 307 (U R z),.iface 3 (U R e.mn),.iface 3 (U R e.mx)] 20)) λv V'=>v=ax (bn #[])/\fI B pb (af pa e.ak.length pc) W0 l ((bu 3 [bl e.name,num e.aJ]::e.ak.map (λp=>bu 4 [bl p]))++[bu 5 [pt e.ak e.cnt,num e.mn,num e.mx]]) V'):=by
    rw[Fj.o];exact fe.o W0 wr _ 5 [(.iface 307 _,pt _ _),(.iface 3 _,num _),(.iface 3 _,num _)] jf.o CZ.o (by decide) (λx hx=>by
     have hm:=iq.o.1.mm;have hq:0<=e.cnt/\e.cnt<(e.ak.length:Int):=by rcases iq.o.1.cnt with h|h;exact absurd (Fj.o.trans h.1) hc;exact h
     simp only[fg,jB,jU]at hx
     rcases hx with rfl|rfl|rfl
     ·exact⟨kT.o _ hq.1 hq.2,vu iq.o.1.pn _⟩
     ·exact⟨CY.o _ (by omega) (by omega),oC (by omega)⟩
     exact⟨CY.o _ (by omega) (by omega),oC (by omega)⟩) (by simp) (uh.o _ _ (by rw[Fk.o,iV]))
   go_wp2_with fail
   refine aL HC.o ?_;rintro v W3 ⟨rfl,mP⟩;have adZ:aa _:=mP;clear mP;go_wp2_with fail
   go_meet
   case rel=>exact⟨_,Fk.o,adZ.o⟩
  obtain⟨base,hbase,o9⟩:=hcut;rename ai=>W4
  have JM:aa _:=hbase;have HI:aa _:=o9;clear hbase o9;have x9:W4.cell? _=J (af ga _ gc):=jH.o W4 HI.o.fr 6 _ rfl;go_wp2_with fail
  clear x9
  go_loopw [7,62] (λ_ i wr=>∃k:Nat,k<=e.aB.length/\i=U R k/\fI B pb (af pa e.ak.length pc) W0 l (base++(e.aB.take k).map (λx=>bu 6 [pt e.ak x.fr,pt e.ak x.to,num x.mn,num x.mx])) wr) (λ_ i _=>e.aB.length-(intOf i).toNat)
  case atStart=>exact⟨0,bI _,rfl,by simpa using HI.o⟩
  case round=>
   clear HI;obtain⟨k,hk,rfl,hi⟩:=hrel;have HI:aa _:=hi;clear hi
   by_cases hlt:k<e.aB.length
   ·obtain⟨q,hq⟩:∃q,e.aB[k]?=J q:=⟨_,bH hlt⟩;obtain⟨dI,cap',ck,-,hcc⟩:=(wL.o wr (jf.o.trans HI.o.fr).br).hg
    cases ck
    obtain⟨b,o,rfl,hc0⟩:=hcc (λh=>by rw[h]at hq;simp at hq);have c0:wr.cell? ⟨b,o+k*4,_⟩=J _:=hc0 k q hq 0 _ rfl;have c1:=hc0 k q hq 1 _ rfl;have c2:=hc0 k q hq 2 _ rfl;have c3:=hc0 k q hq 3 _ rfl;have HQ:aa _:=hq;have k1:(k:Int)<(e.aB.length:Int):=by omega
    have k0:k<100:=by have:=iq.o.2.aB;omega
    clear hq hcc hc0;go_upto_region 13 with fail
    obtain⟨V1,hV1⟩:∃V,V=wr.alloc (au #[U R q.fr,U R q.to,U R q.mn,U R q.mx] 86):=⟨_,rfl⟩;rw[<- hV1];have HV:aa (fI B pb (af pa e.ak.length pc) W0 l (base++(e.aB.take k).map (λx=>bu 6 [pt e.ak x.fr,pt e.ak x.to,num x.mn,num x.mx])) V1):=by
     have hb:Below wr.heap.size wr V1:=by rw[hV1];exact Below.uB _ _
     exact⟨HI.o.page.below hb,HI.o.fr.trans (cq.ig HI.o.page hb)⟩
    have d0:V1.cell? ⟨wr.heap.size,0,I⟩=J (U R q.fr):=by rw[hV1,dK _ _ _ _ rfl];rfl
    have d1:V1.cell? ⟨wr.heap.size,1,I⟩=J (U R q.to):=by rw[hV1,dK _ _ _ _ rfl];rfl
    have d2:V1.cell? ⟨wr.heap.size,2,I⟩=J (U R q.mn):=by rw[hV1,dK _ _ _ _ rfl];rfl
    have d3:V1.cell? ⟨wr.heap.size,3,I⟩=J (U R q.mx):=by rw[hV1,dK _ _ _ _ rfl];rfl
    clear hV1 c0 c1 c2 c3;have HC:aa (Calls _ 171 #[aj _,af _ 5 5] (V1.alloc (au #[.iface 148 (U R 6),.iface 307 _,.iface 307 _,.iface 3 _,.iface 3 _] 20)) λv V'=>v=ax _/\fI B pb _ W0 l ((base++(e.aB.take k).map _)++[bu 6 [pt _ _,pt _ _,num _,num _]]) V'):=
     fe.o W0 V1 _ 6 [(.iface 307 (U R q.fr),pt e.ak q.fr),(.iface 307 (U R q.to),pt e.ak q.to),(.iface 3 (U R q.mn),num q.mn),(.iface 3 (U R q.mx),num q.mx)] jf.o HV.o (by decide) (λx hx=>by
      have hb:=iq.o.1.aB q (cM HQ.o);simp only[fg,jB,jU]at hx
      rcases hx with rfl|rfl|rfl|rfl
      ·exact⟨kT.o _ hb.1.1 hb.1.2,vu iq.o.1.pn _⟩
      ·exact⟨kT.o _ hb.2.1.1 hb.2.1.2,vu iq.o.1.pn _⟩
      ·exact⟨CY.o _ (by omega) (by omega),oC (by omega)⟩
      exact⟨CY.o _ (by omega) (by omega),oC (by omega)⟩) (by simp) (uh.o _ (((e.aB.drop k).map (λx=>bu 6 [pt e.ak x.fr,pt e.ak x.to,num x.mn,num x.mx]))++(e.aA.map (λd=>bu 7 [pt e.ak d.1,pt e.ak d.2])++(e.first.map (λx=>bu 8 [pt e.ak x])++e.last.map (λx=>bu 9 [pt e.ak x])))) (by rw[JM.o,iV,JJ];rfl))
    go_wp2_with fail
    refine aL HC.o ?_;rintro v W9 ⟨rfl,mP⟩;have HR:aa (fI B pb (af pa e.ak.length pc) W0 l (base++(e.aB.take (k+1)).map (λx=>bu 6 [pt e.ak x.fr,pt e.ak x.to,num x.mn,num x.mx])) W9):=by
     have e1:(e.aB.take (k+1)).map (λx=>bu 6 [pt e.ak x.fr,pt e.ak x.to,num x.mn,num x.mx])=(e.aB.take k).map (λx=>bu 6 [pt e.ak x.fr,pt e.ak x.to,num x.mn,num x.mx])++[bu 6 [pt e.ak q.fr,pt e.ak q.to,num q.mn,num q.mx]]:=by rw[fW,HQ.o];simp
     show fI _ _ _ _ _ _ _
     rw[e1,<- iV];exact mP
    clear mP HC;go_wp2;go_roundw
    case rel=>exact⟨_,by omega,by go_num,HR.o⟩
    case measure=>simp[intOf];omega
   have k1:¬(k:Int)<(e.aB.length:Int):=by omega
   obtain rfl:k=e.aB.length:=by omega
   obtain⟨Fl,hbase,o9⟩:∃zs,fh e=zs++(e.aA.map _++(e.first.map _++e.last.map _))/\fI B pb _ W0 l zs wr:=⟨_,by rw[JM.o,iV];rfl,by have:=HI.o;rw[l4]at this;exact this⟩;clear HI JM;have JN:aa _:=hbase;have HI:aa _:=o9;clear hbase o9;have x9:wr.cell? _=J (af ea _ ec):=jH.o wr HI.o.fr 7 _ rfl;go_wp2_with fail
   clear x9
   go_loopw [9,86] (λ_ i wr=>∃k:Nat,k<=e.aA.length/\i=U R k/\fI B pb (af pa e.ak.length pc) W0 l (Fl++(e.aA.take k).map (λx=>bu 7 [pt e.ak x.1,pt e.ak x.2])) wr) (λ_ i _=>e.aA.length-(intOf i).toNat)
   case atStart=>exact⟨0,bI _,rfl,by simpa using HI.o⟩
   case round=>
    clear HI;obtain⟨k,hk,rfl,hi⟩:=hrel;have HI:aa _:=hi;clear hi
    by_cases hlt:k<e.aA.length
    ·obtain⟨q,hq⟩:∃q,e.aA[k]?=J q:=⟨_,bH hlt⟩;obtain⟨dI,cap',ck,-,hcc⟩:=(wL.o wr (jf.o.trans HI.o.fr).br).he
     cases ck
     obtain⟨b,o,rfl,hc0⟩:=hcc (λh=>by rw[h]at hq;simp at hq);have c0:wr.cell? ⟨b,o+k*2,_⟩=J _:=hc0 k q hq 0 _ rfl;have c1:=hc0 k q hq 1 _ rfl;have HQ:aa _:=hq;have k1:(k:Int)<(e.aA.length:Int):=by omega
     have k0:k<100:=by have:=iq.o.2.aA;omega
     clear hq hcc hc0;go_upto_region 18 with fail
     obtain⟨V1,hV1⟩:∃V,V=wr.alloc (au #[U R q.1,U R q.2] 87):=⟨_,rfl⟩;rw[<- hV1];have HV:aa (fI B pb (af pa e.ak.length pc) W0 l (Fl++(e.aA.take k).map (λx=>bu 7 [pt e.ak x.1,pt e.ak x.2])) V1):=by
      have hb:Below wr.heap.size wr V1:=by rw[hV1];exact Below.uB _ _
      exact⟨HI.o.page.below hb,HI.o.fr.trans (cq.ig HI.o.page hb)⟩
     have d0:V1.cell? ⟨wr.heap.size,0,I⟩=J (U R q.1):=by rw[hV1,dK _ _ _ _ rfl];rfl
     have d1:V1.cell? ⟨wr.heap.size,1,I⟩=J (U R q.2):=by rw[hV1,dK _ _ _ _ rfl];rfl
     clear hV1 c0 c1;have HC:aa (Calls _ 171 #[aj _,af _ 3 3] (V1.alloc (au #[.iface 148 (U R 7),.iface 307 _,.iface 307 _] 20)) λv V'=>v=ax _/\fI B pb _ W0 l ((Fl++(e.aA.take k).map _)++[bu 7 [pt _ q.1,pt _ q.2]]) V'):=
      fe.o W0 V1 _ 7 [(.iface 307 (U R q.1),pt e.ak q.1),(.iface 307 (U R q.2),pt e.ak q.2)] jf.o HV.o (by decide) (λx hx=>by
       have hb:=iq.o.1.aA q (cM HQ.o);simp only[fg,jB,jU]at hx
       rcases hx with rfl|rfl
       ·exact⟨kT.o _ hb.1.1 hb.1.2,vu iq.o.1.pn _⟩
       exact⟨kT.o _ hb.2.1 hb.2.2,vu iq.o.1.pn _⟩) (by simp) (uh.o _ (((e.aA.drop k).map (λx=>bu 7 [pt e.ak x.1,pt e.ak x.2]))++(e.first.map (λx=>bu 8 [pt e.ak x])++e.last.map (λx=>bu 9 [pt e.ak x]))) (by rw[JN.o,iV,JJ]))
     go_wp2_with fail
     refine aL HC.o ?_;rintro v W9 ⟨rfl,mP⟩;have HR:aa (fI B pb (af pa e.ak.length pc) W0 l (Fl++(e.aA.take (k+1)).map (λx=>bu 7 [pt e.ak x.1,pt e.ak x.2])) W9):=by
      have e1:(e.aA.take (k+1)).map (λx=>bu 7 [pt e.ak x.1,pt e.ak x.2])=(e.aA.take k).map (λx=>bu 7 [pt e.ak x.1,pt e.ak x.2])++[bu 7 [pt e.ak q.1,pt e.ak q.2]]:=by rw[fW,HQ.o];simp
      show fI _ _ _ _ _ _ _
      rw[e1,<- iV];exact mP
     clear mP HC;go_wp2;go_roundw
     case rel=>exact⟨_,by omega,by go_num,HR.o⟩
     case measure=>simp[intOf];omega
    have k1:¬(k:Int)<(e.aA.length:Int):=by omega
    obtain rfl:k=e.aA.length:=by omega
    obtain⟨JO,hbase,o9⟩:∃zs,fh e=zs++(e.first.map _++e.last.map _)/\fI B pb _ W0 l zs wr:=⟨_,by rw[JN.o,iV],by have:=HI.o;rw[l4]at this;exact this⟩;clear HI JN;have JP:aa _:=hbase;have HI:aa _:=o9;clear hbase o9;have x9:wr.cell? _=J (af fa _ fc):=jH.o wr HI.o.fr 8 _ rfl;go_wp2_with fail
    clear x9
    go_loopw [11,104] (λ_ i wr=>∃k:Nat,k<=e.first.length/\i=U R k/\fI B pb (af pa e.ak.length pc) W0 l (JO++(e.first.take k).map (λx=>bu 8 [pt e.ak x])) wr) (λ_ i _=>e.first.length-(intOf i).toNat)
    case atStart=>exact⟨0,bI _,rfl,by simpa using HI.o⟩
    case round=>
     clear HI;obtain⟨k,hk,rfl,hi⟩:=hrel;have HI:aa _:=hi;clear hi
     by_cases hlt:k<e.first.length
     ·obtain⟨q,hq⟩:∃q,e.first[k]?=J q:=⟨_,bH hlt⟩;obtain⟨dI,cap',ck,-,hcc⟩:=(wL.o wr (jf.o.trans HI.o.fr).br).hf
      cases ck
      obtain⟨b,o,rfl,hc0⟩:=hcc (λh=>by rw[h]at hq;simp at hq);have c0:wr.cell? ⟨b,o+k,I⟩=J (U R q):=by have:=hc0 k q hq 0 _ rfl;simpa using this
      have HQ:aa _:=hq;have k1:(k:Int)<(e.first.length:Int):=by omega
      have k0:k<100:=by have:=iq.o.2.first;omega
      clear hq hcc hc0;have HC:aa (Calls _ 171 #[aj _,af _ 2 2] (wr.alloc (au #[.iface 148 (U R 8),.iface 307 _] 20)) λv V'=>v=ax _/\fI B pb _ W0 l ((JO++(e.first.take k).map _)++[bu 8 [pt _ q]]) V'):=
       fe.o W0 wr _ 8 [(.iface 307 (U R q),pt e.ak q)] jf.o HI.o (by decide) (λx hx=>by
        have hb:=iq.o.1.first q (cM HQ.o);simp only[fg,jB,jU]at hx
        rcases hx with rfl
        ·exact⟨kT.o _ hb.1 hb.2,vu iq.o.1.pn _⟩) (by simp) (uh.o _ (((e.first.drop k).map (λx=>bu 8 [pt e.ak x]))++e.last.map (λx=>bu 9 [pt e.ak x])) (by rw[JP.o,iV,JJ]))
      go_wp2_with fail
      refine aL HC.o ?_;rintro v W9 ⟨rfl,mP⟩;have HR:aa (fI B pb (af pa e.ak.length pc) W0 l (JO++(e.first.take (k+1)).map (λx=>bu 8 [pt e.ak x])) W9):=by
       have e1:(e.first.take (k+1)).map (λx=>bu 8 [pt e.ak x])=(e.first.take k).map (λx=>bu 8 [pt e.ak x])++[bu 8 [pt e.ak q]]:=by rw[fW,HQ.o];simp
       show fI _ _ _ _ _ _ _
       rw[e1,<- iV];exact mP
      clear mP HC;go_wp2;go_roundw
      case rel=>exact⟨_,by omega,by go_num,HR.o⟩
      case measure=>simp[intOf];omega
     have k1:¬(k:Int)<(e.first.length:Int):=by omega
     obtain rfl:k=e.first.length:=by omega
     obtain⟨JQ,hbase,o9⟩:∃zs,fh e=zs++e.last.map _/\fI B pb _ W0 l zs wr:=⟨_,by rw[JP.o,iV],by have:=HI.o;rw[l4]at this;exact this⟩;clear HI JP;have JR:aa _:=hbase;have HI:aa _:=o9;clear hbase o9;have x9:wr.cell? _=J (af la _ lc):=jH.o wr HI.o.fr 9 _ rfl;go_wp2_with fail
     clear x9
     go_loopw [13,118] (λ_ i wr=>∃k:Nat,k<=e.last.length/\i=U R k/\fI B pb (af pa e.ak.length pc) W0 l (JQ++(e.last.take k).map (λx=>bu 9 [pt e.ak x])) wr) (λ_ i _=>e.last.length-(intOf i).toNat)
     case atStart=>exact⟨0,bI _,rfl,by simpa using HI.o⟩
     case round=>
      clear HI;obtain⟨k,hk,rfl,hi⟩:=hrel;have HI:aa _:=hi;clear hi
      by_cases hlt:k<e.last.length
      ·obtain⟨q,hq⟩:∃q,e.last[k]?=J q:=⟨_,bH hlt⟩;obtain⟨dI,cap',ck,-,hcc⟩:=(wL.o wr (jf.o.trans HI.o.fr).br).hl
       cases ck
       obtain⟨b,o,rfl,hc0⟩:=hcc (λh=>by rw[h]at hq;simp at hq);have c0:wr.cell? ⟨b,o+k,I⟩=J (U R q):=by have:=hc0 k q hq 0 _ rfl;simpa using this
       have HQ:aa _:=hq;have k1:(k:Int)<(e.last.length:Int):=by omega
       have k0:k<100:=by have:=iq.o.2.last;omega
       clear hq hcc hc0;have HC:aa (Calls _ 171 #[aj _,af _ 2 2] (wr.alloc (au #[.iface 148 (U R 9),.iface 307 _] 20)) λv V'=>v=ax _/\fI B pb _ W0 l ((JQ++(e.last.take k).map _)++[bu 9 [pt _ q]]) V'):=
        fe.o W0 wr _ 9 [(.iface 307 (U R q),pt e.ak q)] jf.o HI.o (by decide) (λx hx=>by
         have hb:=iq.o.1.last q (cM HQ.o);simp only[fg,jB,jU]at hx
         rcases hx with rfl
         ·exact⟨kT.o _ hb.1 hb.2,vu iq.o.1.pn _⟩) (by simp) (uh.o _ ((e.last.drop k).map (λx=>bu 9 [pt e.ak x])) (by rw[JR.o,iV,<- pH,qq]))
       go_wp2_with fail
       refine aL HC.o ?_;rintro v W9 ⟨rfl,mP⟩;have HR:aa (fI B pb (af pa e.ak.length pc) W0 l (JQ++(e.last.take (k+1)).map (λx=>bu 9 [pt e.ak x])) W9):=by
        have e1:(e.last.take (k+1)).map (λx=>bu 9 [pt e.ak x])=(e.last.take k).map (λx=>bu 9 [pt e.ak x])++[bu 9 [pt e.ak q]]:=by rw[fW,HQ.o];simp
        show fI _ _ _ _ _ _ _
        rw[e1,<- iV];exact mP
       clear mP HC;go_wp2;go_roundw
       case rel=>exact⟨_,by omega,by go_num,HR.o⟩
       case measure=>simp[intOf];omega
      have k1:¬(k:Int)<(e.last.length:Int):=by omega
      obtain rfl:k=e.last.length:=by omega
      obtain⟨ad0,hbase,o9⟩:∃zs,fh e=zs++[]/\fI B pb _ W0 l zs wr:=⟨_,by rw[JR.o,qd],by have:=HI.o;rw[l4]at this;exact this⟩;clear HI JR;have HB:aa (fh e=ad0):=by show _=_;rw[hbase,qd]
      have HI:aa _:=o9;clear hbase o9;go_wp2;go_end0
      exact⟨rfl,⟨_,by rw[HB.o];exact HI.o.page⟩,jf.o.trans HI.o.fr⟩
theorem ad1(A:Nat->az)(c:aS)(sa:Option az)(sc:Nat)(w:ai)(hs:dA A w)(hK:jF w)(hT:iK w)(hG:(max 12 13+1)<=w.heap.size)(hE:jR w (af sa c.aw.length sc) c.aw)(hS:nh c)(h0:(cG c).1=0):Calls prog 86 #[aU #[U R c.closed,U R c.opn,U R c.cycle,U R c.bC,af sa c.aw.length sc]] w λe w'=>e=ax (bn #[aq ⟨(jn c).toArray⟩,.nilIface])/\Below w.heap.size w w':=
 adT A c sa sc w hs hK hT hG hE hS h0 (λB pb w' hb hB e he=>adY B pb e w w' hb hB ((yS h0).aw e he) (Gn h0 e he)
  (hK.below hb (eh (show 12<(max 12 13+1) by decide) hG)) (hT.below hb hG) (bw hG hB)) (LP h0)
theorem JS{b:UInt8}(h:fX b=true):48<=b.toNat/\b.toNat<=57:=by
 unfold fX at h;simp only[rS,xa]at h;exact h
theorem JT{w:Bs}{k:Nat}(h:k<w.length):jC (w.take (k+1))=jC (w.take k)*10+((w.getD k 0).toNat-48):=by
 rw[fW,bH h];simp only[Option.toList_some];rw[Lq,fQ,bH h];rfl
theorem JU{w:Bs}:∀k,k<=w.length->(∀j,j<k->fX (w.getD j 0)=true)->jC (w.take k)<10^k
 |0,_,_=>by simp[jC]
 |k+1,h,hd=>by
  rw[JT (by omega)];have h1:=JS (hd k (by omega));have h2:=JU k (by omega) (λj hj=>hd j (by omega));rw[Nat.pow_succ];omega
theorem QQ{w:Bs}(h:13<w.length):numOf w=I:=by unfold numOf;rw[aR (aP (a_ h))]
theorem QR{w:Bs}(h:1<w.length)(h0:w.getD 0 0=48):numOf w=I:=by
 have:w.head?=J 48:=by cases w with
  |nil=>simp at h
  |cons a t=>simp at h0;simp[h0]
 unfold numOf;rw[aR (aP (aP (a_ ⟨h,this⟩)))]
theorem QS{w:Bs}{k:Nat}(hk:k<w.length)(h:fX (w.getD k 0)=false):numOf w=I:=by
 have:w.all fX=false:=by
  rw[List.all_eq_false]
  refine⟨w[k],xb hk,?_⟩;rw[fQ,bH hk]at h;simpa using h
 unfold numOf;rw[aR (aP (aP (aP this)))]
theorem QT{w:Bs}(h1:0<w.length)(h2:w.length<=13)(h3:¬(1<w.length/\w.getD 0 0=48))(h:∀j,j<w.length->fX (w.getD j 0)=true):numOf w=J (jC w):=by
 have ha:w.all fX=true:=by
  rw[py];intro b hb;obtain⟨j,hj,rfl⟩:=xC hb;have:=h j hj;rw[fQ,bH hj]at this;exact this
 unfold numOf;rw[aK];rintro(h'|h'|⟨h',QU⟩|h')
 ·omega
 ·omega
 ·exact h3 ⟨h',by cases w with
   |nil=>simp at h'
   |cons a t=>simp at QU;simp[QU]⟩
 rw[ha]at h';cases h'
theorem eB(s:ByteArray):(bl s).length=s.size:=by unfold bl;rw[lU];rfl
theorem ad2(s:ByteArray)(w:ai)(h1:1<=s.size)(hs:s.size<=1000000):Calls prog 266 #[aq s] w λe w'=>e=ax (bn #[U R (((numOf (bl s)).getD 0:Nat):Int),aI (numOf (bl s)).isSome])/\Below w.heap.size w w':=by
 by_cases wM:13<s.size
 ·have HN:aa _:=QQ (by rw[eB];exact wM);have g1:13<(s.size:Int):=by omega
  go_enter func266,ntmps266
  go_wp2;go_ret2
  rw[HN.o];exact⟨rfl,aC _ _⟩
 have g1:¬13<(s.size:Int):=by omega
 have k0:(0:Int)<(s.size:Int):=by omega
 have hb0:∀h:0<s.size,s[0]'h=(bl s)[0]?.getD 0:=λh=>by rw[byte_at s 0 h,fQ];rfl
 have hgd:(bl s).getD 0 0=(bl s)[0]?.getD 0:=fQ
 by_cases hz:1<s.size/\(bl s)[0]?.getD 0=48
 ·have HN:aa _:=QR (by rw[eB];exact hz.1) (by rw[hgd];exact hz.2);have g2:1<(s.size:Int):=by omega
  have g3:(((bl s)[0]?.getD 0).toNat:Int)=48:=by rw[hz.2];rfl
  clear hz hgd;go_enter func266,ntmps266
  go_wp2;go_ret2
  rw[HN.o];exact⟨rfl,aC _ _⟩
 have HZ:aa (1<=s.size/\s.size<=13):=⟨h1,by omega⟩;have HE:aa (∀k,k<s.size->fX _=false->numOf _=I):=λk h2 h3=>QS (by rw[eB];exact h2) h3
 have HY:aa ((∀j,j<s.size->fX _=true)->numOf _=J _):=λh=>QT (by rw[eB];exact h1) (by rw[eB];omega) (by rw[eB,hgd];exact hz) (by rw[eB];exact h)
 have HV:aa (∀k,k<s.size->(∀j,j<k->fX _=true)->jC ((bl s).take k)<1000000000000/\jC _=jC _*10+(((bl s).getD k 0).toNat-48)):=λk hk hd=>⟨eh (JU k (by rw[eB];omega) hd) (Bo (by decide) (show k<=12 by omega)),JT (by rw[eB];exact hk)⟩
 have hq:((((bl s)[0]?.getD 0).toNat:Int)=48/\¬1<(s.size:Int))\/¬(((bl s)[0]?.getD 0).toNat:Int)=48:=by
  by_cases q:(((bl s)[0]?.getD 0).toNat:Int)=48
  ·refine a_ ⟨q,λh=>hz ⟨by omega,?_⟩⟩;apply UInt8.toNat_inj.1
   show _=48
   omega
  exact aP q
 obtain⟨cap,W,hcv,qs,hcell⟩:=PD w s;have I4:aa (∀j,j<s.size->W.cell? _=J (U .u8 (((bl s).getD j 0).toNat:Int))):=hcell;have Cr:aa _:=qs;clear hcell qs hz hgd h1 hs wM
 rcases hq with⟨q1,q2⟩|q1
 all_goals
  go_enter func266,ntmps266
  go_wp2_with fail
  go_loopw [4,6,23] (λm _ i wr=>∃k:Nat,k<=s.size/\i=U R k/\m=U R (jC ((bl s).take k):Nat)/\wr=W/\∀j,j<k->fX ((bl s).getD j 0)=true) (λ_ _ i _=>s.size-(intOf i).toNat)
  case atStart=>exact⟨0,bI _,rfl,rfl,rfl,λj hj=>absurd hj (om _)⟩
  case round=>
   obtain⟨k,hk,rfl,rfl,rfl,hall⟩:=hrel
   by_cases hlt:k<s.size
   ·have hc:=I4.o k hlt;obtain⟨cC,hv2⟩:=HV.o k hlt hall;have HB:aa _:=hall;have yl:aa _:=hv2;have ym:aa _:=HE.o k hlt;have k1:(k:Int)<(s.size:Int):=by omega
    have I5:k<13:=by have:=HZ.o.2;omega
    clear hall hcv hv2;generalize hcc:(bl s).getD k 0=c at hc yl ym;have HC:aa _:=hcc;clear hcc;generalize jC ((bl s).take k)=m at cC yl⊢
    by_cases hd:fX c=true
    ·have C0:=GF c;rw[hd]at C0;have hb:=JS hd;go_wp2_with fail
     refine(C0 _).mono ?_;rintro e w' ⟨rfl,rfl⟩;go_wp2;go_roundw
     case rel=>
      refine⟨k+1,by omega,by go_num,by rw[yl.o];go_num,by first|trivial|rfl,λj hj=>?_⟩
      by_cases e:j=k
      ·rw[e,HC.o];exact hd
      exact HB.o j (by omega)
     case measure=>simp[intOf];omega
    simp only[rR]at hd;have C0:=GF c;rw[hd]at C0;go_wp2_with fail
    refine(C0 _).mono ?_;rintro e w' ⟨rfl,rfl⟩;go_wp2;go_ret2
    rw[ym.o hd];exact⟨rfl,Cr.o⟩
   have k1:¬(k:Int)<(s.size:Int):=by omega
   obtain rfl:k=s.size:=by omega
   have HR:aa (numOf (bl s)=J (jC ((bl s).take s.size))):=by
    show _=_
    rw[HY.o hall,<- eB,l4]
   clear hall;go_wp2;go_ret2
   rw[HR.o];exact⟨rfl,Cr.o⟩
open Go.Maps
def aV:ic
 |[],_=>I
 |p::t,w=>match aV t w with
  |some i=>J (i+1)
  |none=>if bl p=w then J 0 else I
theorem QV:∀(t:List ByteArray) (p:ByteArray) (w:Bs),aV (t++[p]) w=if bl p=w then J t.length else aV t w
 |[],p,w=>by simp only[tF,aV,qo]
 |q::t,p,w=>by
  rw[px,aV,QV t p w]
  by_cases h:bl p=w
  ·rw[aR h,aR h];rfl
  rw[aK h,aK h];rfl
theorem QW:∀(ak:List ByteArray) (w:Bs) (i:Nat),aV ak w=J i->∃p,ak[i]?=J p/\bl p=w
 |[],w,i,h=>by simp[aV]at h
 |p::t,w,i,h=>by
  rw[aV]at h
  cases hl:aV t w with
  |some j=>
   rw[hl]at h
   cases h
   obtain⟨q,h1,h2⟩:=QW t w j hl;exact⟨q,by simpa using h1,h2⟩
  |none=>
   rw[hl]at h;simp only at h
   split at h
   ·rename_i hp
    cases h
    exact⟨p,rfl,hp⟩
   cases h
theorem QX:∀(ak:List ByteArray) (w:Bs),aV ak w=I->∀p∈ak,bl p≠w
 |[],w,_,p,hp=>by cases hp
 |q::t,w,h,p,hp=>by
  rw[aV]at h
  cases hl:aV t w with
  |some j=>rw[hl]at h;cases h
  |none=>
   rw[hl]at h;simp only at h
   split at h
   ·cases h
   rename_i hq
   rcases fg.1 hp with rfl|hp
   ·exact hq
   exact QX t w hl p hp
theorem QY:lB aV:=⟨QW,QX⟩
def uH(D:DataW Unit)(ak:List ByteArray):Prop:=
 ∀s:ByteArray,Maps.has D (o6 s)=(aV ak (bl s)).isSome/\D.atKey (o6 s) (.lit (.int .i64 0))=.lit (.int .i64 (((aV ak (bl s)).getD 0:Nat):Int))
theorem ad3:uH (.map []) []:=λ_=>⟨rfl,rfl⟩
theorem ad4{D:DataW Unit}{ak:List ByteArray}(h:uH D ak)(hD:IsMap D)(p:ByteArray):uH (D.put (o6 p) (.lit (.int .i64 (ak.length:Int)))) (ak++[p]):=by
 intro s;rw[QV]
 by_cases e:bl p=bl s
 ·have e':=lC e;subst e';rw[aR rfl];exact⟨Maps.has_put_same hD (by trivial) _,Maps.atKey_put_same hD (by trivial) _ _⟩
 rw[aK e];have hne:o6 s≠o6 p:=λh=>e (by unfold o6 at h;exact(Lit.string.inj h).symm)
 rw[Maps.has_put_other hne,Maps.atKey_put_other hne];exact h s
theorem yn{w:ai}{b o:Nat}{v:ar}(h:w.cell? ⟨b,o,I⟩=J v):w.setCell ⟨b,o,I⟩ v=w:=by
 have hh:(w.setCell ⟨b,o,I⟩ v).heap=w.heap:=by
  apply Array.ext_getElem?
  intro i;simp only[World.setCell,dr]
  split
  ·rename_i e;subst e;unfold World.cell? at h
   cases hb:w.heap[b]? with
   |none=>rfl
   |some ob=>
    rw[hb]at h
    cases ob with
    |cells c t fr=>
     simp only[Option.map_some,eR,l_,and_true];simp at h⊢
     apply Array.ext_getElem?
     intro j;rw[Array.getElem?_setIfInBounds]
     split
     ·rename_i e;subst e
      split
      ·exact h.symm
      rename_i hx;rw[vy (by omega)]at h
      cases h
     rfl
    |_=>rfl
  rfl
 cases w
 simp only[World.setCell]at hh⊢;rw[hh]
theorem Below.JV{B:Nat}{w w':ai}(h:Below B w w')(a:az)(v:ar):Below B (w.setCell a v) (w'.setCell a v):=by
 refine⟨h.os,h.tape,h.output,?_,λk hk=>?_⟩
 ·simpa[World.setCell]using h.size
 simp only[World.setCell,dr];rw[h.block k hk]
theorem eD{w:ai}{a p:az}{u:ar}(hne:a.block≠p.block\/a.off≠p.off)(hp:p.spot=I)(ha:a.spot=I):(w.setCell a u).cell? p=w.cell? p:=by
 obtain⟨ab,ao,as'⟩:=a;obtain⟨pb,po,ps⟩:=p;simp only at hne hp ha;subst hp ha;unfold World.cell?;simp only[World.setCell,dr]
 by_cases e:ab=pb
 ·subst e;have ho:ao≠po:=by rcases hne with h|h;exact absurd rfl h;exact h
  simp only[if_true]
  cases w.heap[ab]? with
  |none=>rfl
  |some ob=>
   cases ob with
   |cells c t fr=>
    simp only[Option.map_some];simp[ho]
   |_=>rfl
 rw[aK e]
theorem yo{w:ai}{b o:Nat}{u v:ar}(h:w.cell? ⟨b,o,I⟩=J v):(w.setCell ⟨b,o,I⟩ u).cell? ⟨b,o,I⟩=J u:=by
 unfold World.cell? at h⊢;simp only[World.setCell,dr];simp only[if_true]
 cases hb:w.heap[b]? with
 |none=>rw[hb]at h;cases h
 |some ob=>
  rw[hb]at h
  cases ob with
  |cells c t fr=>
   simp only[Option.map_some]at h⊢;simp at h⊢
   have:=(sw.1 h).1;simp[this]
  |_=>cases h
theorem ad5(w:ai)(a p:az)(u:ar):(w.setCell a u).frozen? p=w.frozen? p:=by
 unfold World.frozen?;simp only[World.setCell,dr]
 by_cases e:a.block=p.block
 ·simp only[e,if_true]
  cases w.heap[p.block]? with
  |none=>rfl
  |some ob=>cases ob<;>rfl
 simp only[e,if_false]
def dD:ai->List (Nat×Nat)->List ar->ai
 |w,a::as',u::us=>dD (w.setCell ⟨a.1,a.2,I⟩ u) as' us
 |w,_,_=>w
theorem Al(w:ai)(us:List ar):dD w [] us=w:=by cases us<;>rfl
theorem Am(w:ai)(as':List (Nat×Nat)):dD w as' []=w:=by cases as'<;>rfl
theorem JW:∀(w:ai) (as':List (Nat×Nat)) (us:List ar) (a:Nat×Nat) (u:ar),as'.length=us.length->dD w (as'++[a]) (us++[u])=(dD w as' us).setCell ⟨a.1,a.2,I⟩ u
 |w,[],[],a,u,_=>rfl
 |w,b::as',v::us,a,u,h=>by
  simp only[px,dD];exact JW _ as' us a u (by simpa using h)
theorem Fm:∀(w:ai) (as':List (Nat×Nat)) (us:List ar),(dD w as' us).heap.size=w.heap.size
 |w,[],us=>by rw[Al]
 |w,_::_,[]=>by rw[Am]
 |w,a::as',u::us=>by
  rw[dD,Fm];simp[World.setCell]
theorem JX:∀(w:ai) (as':List (Nat×Nat)) (us:List ar) (p:az),(dD w as' us).frozen? p=w.frozen? p
 |w,[],us,p=>by rw[Al]
 |w,_::_,[],p=>by rw[Am]
 |w,a::as',u::us,p=>by rw[dD,JX,ad5]
theorem yq:∀(w:ai) (as':List (Nat×Nat)) (us:List ar) (b o:Nat),(∀a∈as',a≠(b,o))->(dD w as' us).cell? ⟨b,o,I⟩=w.cell? ⟨b,o,I⟩
 |w,[],us,b,o,_=>by rw[Al]
 |w,_::_,[],b,o,_=>by rw[Am]
 |w,a::as',u::us,b,o,h=>by
  rw[dD,yq _ as' us b o (λx hx=>h x (tE _ hx))]
  refine eD ?_ rfl rfl;have:=h a (qc ..)
  by_cases e:a.1=b
  ·exact aP (λe2=>this (Prod.ext e e2))
  exact a_ e
theorem QZ:∀(w:ai) (as':List (Nat×Nat)) (us:List ar) (b:Nat),(∀a∈as',a.1≠b)->(dD w as' us).heap[b]?=w.heap[b]?
 |w,[],us,b,_=>by rw[Al]
 |w,_::_,[],b,_=>by rw[Am]
 |w,a::as',u::us,b,h=>by
  rw[dD,QZ _ as' us b (λx hx=>h x (tE _ hx))];exact tM _ _ _ _ (Ne.symm (h a (qc ..)))
theorem yr:∀(B:Nat) (w:ai) (as':List (Nat×Nat)) (us:List ar),(∀a∈as',B<=a.1)->Below B w (dD w as' us)
 |B,w,[],us,_=>by rw[Al];exact aC _ _
 |B,w,_::_,[],_=>by rw[Am];exact aC _ _
 |B,w,a::as',u::us,h=>by
  rw[dD];exact((aC B w).setCell (p:=⟨a.1,a.2,_⟩) (h a (qc ..)) _).trans (yr B _ as' us (λx hx=>h x (tE _ hx)))
def Fo:Nat->TypeId
 |0=>310
 |1=>263
 |_=>312
def Typed(f:Nat)(u:ar):Prop:=if f=0 then ∃s:ByteArray,u=aq s/\s.size<=1000000 else ∃z:Int,u=U R z
def valOf(f:Nat)(s:ByteArray)(v:Int):ar:=if f=0 then aq s else U R v
structure Fp(w:ai)(rb mb:Nat)(ak:List ByteArray):Prop where
 c6:w.cell? ⟨rb,6,I⟩=J (.map (J mb))
 own:∃D:DataW Unit,w.ownsMap prog 9 (plainElem prog 3) mb ak.length D/\uH D ak
def uI(A:Nat->az)(ak:List ByteArray)(f:Nat)(s:ByteArray)(tb tk:Nat)(w:ai)(v:Ending)(w':ai):Prop:=
 v=ax (cN A (bF (aV ak) f (bl s)).1)/\∃u,Typed f u/\((bF (aV ak) f (bl s)).1=0->u=valOf f s (bF (aV ak) f (bl s)).2)/\Below w.heap.size (w.setCell ⟨tb,tk,I⟩ u) w'
theorem JY{A:Nat->az}{ak:List ByteArray}{f:Nat}{s:ByteArray}{tb tk:Nat}{old:ar}{w w':ai}{c:Nat}(ht:w.cell? ⟨tb,tk,I⟩=J old)(hT:Typed f old)(hc:(bF (aV ak) f (bl s)).1=c)(h0:c≠0)(hb:Below w.heap.size w w'):uI A ak f s tb tk w (ax (cN A c)) w':=by
 refine⟨by rw[hc],old,hT,λe=>absurd (hc.symm.trans e) h0,?_⟩;rw[yn ht];exact hb
theorem ad6(x:ar)(w:ai):(Instr.typeAssert (.iface 310 x) 20 310 true).run prog w=.ok (bn #[x,aI true]) w:=by kernel_rfl
theorem ad7(x:ar)(w:ai):(Instr.typeAssert (.iface 263 x) 20 310 true).run prog w=.ok (bn #[aj I,aI false]) w:=by kernel_rfl
theorem ad8(x:ar)(w:ai):(Instr.typeAssert (.iface 263 x) 20 263 true).run prog w=.ok (bn #[x,aI true]) w:=by kernel_rfl
theorem ad9(x:ar)(w:ai):(Instr.typeAssert (.iface 312 x) 20 310 true).run prog w=.ok (bn #[aj I,aI false]) w:=by kernel_rfl
theorem ad_(x:ar)(w:ai):(Instr.typeAssert (.iface 312 x) 20 263 true).run prog w=.ok (bn #[aj I,aI false]) w:=by kernel_rfl
theorem ad'(x:ar)(w:ai):(Instr.typeAssert (.iface 312 x) 20 312 true).run prog w=.ok (bn #[x,aI true]) w:=by kernel_rfl
theorem Q0(w:ai):(zeroValue 3).run prog w=.ok (U R 0) w:=by kernel_rfl
theorem aea(look:Bs->Option Nat)(f:Nat):bF look f []=(1,0):=by unfold bF;rw[aR rfl]
theorem aeb{s:ByteArray}(h:s.size=0):bl s=[]:=qI (by rw[eB];exact h)
theorem Ao{s:ByteArray}(h:1<=s.size):bl s≠[]:=λe=>by have:=eB s;rw[e]at this;simp at this;omega
theorem aec{s:ByteArray}(h:s.size=0):s=⟨#[]⟩:=lC (by rw[aeb h];rfl)
theorem aed(A:Nat->az)(ak:List ByteArray)(rb f:Nat)(v:ar)(tb tk:Nat)(old:ar)(w:ai)(hs:dA A w)(ht:w.cell? ⟨tb,tk,I⟩=J old)(hT:Typed f old):Calls prog 236 #[aj (J ⟨rb,0,I⟩),aq ⟨#[]⟩,v] w (uI A ak f ⟨#[]⟩ tb tk w):=by
 have HW:aa (∀w',Below w.heap.size w w'->uI A ak f ⟨#[]⟩ tb tk w (ax (cN A 1)) w'):=λw' hb=>JY (c:=1) ht hT (by rw[show bl ⟨#[]⟩=[]from rfl,aea]) (by decide) hb
 have c0:=hs.c0;clear hs ht hT;go_enter func236,ntmps236
 go_wp2;go_ret;exact HW.o _ (aC _ _)
theorem aee(A:Nat->az)(ak:List ByteArray)(rb:Nat)(s:ByteArray)(tb tk:Nat)(old:ar)(w:ai)(h1:1<=s.size)(hsz:s.size<=1000000)(ht:w.cell? ⟨tb,tk,I⟩=J old)(hf:w.frozen? ⟨tb,tk,I⟩=false):Calls prog 236 #[aj (J ⟨rb,0,I⟩),aq s,.iface 310 (aj (J ⟨tb,tk,I⟩))] w (uI A ak 0 s tb tk w):=by
 have HV:aa (bF (aV ak) 0 (bl s)=(0,0)):=by show _=_;unfold bF;rw[aK (Ao h1)];rfl
 have y2:¬s.toList=[]:=by rw[fZ];exact Ao h1
 have y1:(s.toList==[])=false:=by simpa using y2
 clear h1;have a0:=ad6;go_enter func236,ntmps236
 go_wp2;go_ret
 refine⟨by rw[HV.o];rfl,_,⟨s,rfl,hsz⟩,λ_=>rfl,aC _ _⟩
theorem aef(A:Nat->az)(ak:List ByteArray)(rb:Nat)(s:ByteArray)(tb tk:Nat)(old:ar)(w:ai)(hs:dA A w)(h1:1<=s.size)(hsz:s.size<=1000000)(ht:w.cell? ⟨tb,tk,I⟩=J old)(hT:Typed 1 old)(hf:w.frozen? ⟨tb,tk,I⟩=false):Calls prog 236 #[aj (J ⟨rb,0,I⟩),aq s,.iface 263 (aj (J ⟨tb,tk,I⟩))] w (uI A ak 1 s tb tk w):=by
 have HV:aa (bF (aV ak) 1 (bl s)=match numOf (bl s)with|some n=>(0,(n:Int))|none=>(1,0)):=by show _=_;unfold bF;rw[aK (Ao h1)];rfl
 have y2:¬s.toList=[]:=by rw[fZ];exact Ao h1
 have y1:(s.toList==[])=false:=by simpa using y2
 have hN:=ad2 s w h1 hsz;have HW:aa (numOf _=I->∀w',Below _ w w'->uI A ak 1 s tb tk w _ w'):=λhn w' hb=>JY (c:=1) ht hT (by rw[HV.o,hn]) (by decide) hb
 have HS:aa _:=hs;have HT:aa (w.cell? _=J old/\w.frozen? _=false):=⟨ht,hf⟩;clear h1 hs ht hf hT;have a0:=ad7;have a1:=ad8
 cases hn:numOf (bl s)with
 |none=>
  rw[hn]at hN;go_enter func236,ntmps236
  go_wp2_with fail
  refine hN.mono ?_;rintro e w1 ⟨rfl,hb⟩;have c0:=(HS.o.below hb).c0;have HB:aa _:=hb;clear hb;go_wp2;go_ret;exact HW.o hn _ HB.o
 |some n=>
  rw[hn]at hN;go_enter func236,ntmps236
  go_wp2_with fail
  refine hN.mono ?_;rintro e w1 ⟨rfl,hb⟩;have t0:=aG hb HT.o.1;have t1:w1.frozen? ⟨tb,tk,I⟩=false:=by
   have:=hb.block tb (fY HT.o.1);have h2:=HT.o.2;unfold World.frozen? at h2⊢;rw[this];exact h2
  have HB:aa _:=hb;clear hb;go_wp2;go_ret
  refine⟨by rw[HV.o,hn];rfl,_,⟨_,rfl⟩,λ_=>by rw[HV.o,hn];rfl,Below.JV HB.o _ _⟩
theorem aeg(A:Nat->az)(ak:List ByteArray)(rb mb:Nat)(s:ByteArray)(tb tk:Nat)(old:ar)(w:ai)(hs:dA A w)(h1:1<=s.size)(hsz:s.size<=1000000)(hm:Fp w rb mb ak)(ht:w.cell? ⟨tb,tk,I⟩=J old)(hT:Typed 2 old)(hf:w.frozen? ⟨tb,tk,I⟩=false):Calls prog 236 #[.pointer (J ⟨rb,0,I⟩),.string s,.iface 312 (.pointer (J ⟨tb,tk,I⟩))] w (uI A ak 2 s tb tk w):=by
 have HV:aa (bF (aV ak) 2 (bl s)=match aV ak (bl s)with|some n=>(0,(n:Int))|none=>(5,0)):=by show _=_;unfold bF;rw[aK (Ao h1)];rfl
 have y2:¬s.toList=[]:=by rw[fZ];exact Ao h1
 have y1:(s.toList==[])=false:=by simpa using y2
 have HW:aa (aV ak _=I->uI A ak 2 s tb tk w _ w):=λhn=>JY (c:=5) ht hT (by rw[HV.o,hn]) (by decide) (aC _ _)
 have c4:=hs.c4;have c6:=hm.c6;obtain⟨D,hown,hD⟩:=hm.own;have hkey:keyOf _ 9 _=J (o6 s):=EW underlying9 (by unfold maxLen;omega);obtain⟨Ap,Q1⟩:=hD s;have CJ:aa _:=Q1;clear h1 hs hT hm hD Q1;have a0:=ad9;have a1:=ad_;have a2:=ad'
 cases hn:aV ak (bl s)with
 |none=>
  rw[hn]at Ap;have aeh:Maps.has D _=false:=Ap;clear Ap;go_enter func236,ntmps236
  go_wp2_with (first
   |(at_lookup;refine wpList_lookup_own_ok_int _ rfl _ _ 149 rfl 9 3 .i64 sL underlying149 underlying3 (Q0 _) mb _ _ rfl hown _ _ rfl hkey ?_;intro c hat hwc)
   |go_in)
  go_ret;exact HW.o hn
 |some n=>
  rw[hn]at Ap;have aeh:Maps.has D _=true:=Ap;have Aq:aa (∀c,D.atKey (o6 s) (.lit (.int .i64 0))=.lit (.int .i64 c)->c=(n:Int)):=λc hc=>by
   have:=hc.symm.trans CJ.o;rw[hn]at this;injection this with h2
   injection h2
  clear Ap;go_enter func236,ntmps236
  go_wp2_with (first
   |(at_lookup;refine wpList_lookup_own_ok_int _ rfl _ _ 149 rfl 9 3 .i64 sL underlying149 underlying3 (Q0 _) mb _ _ rfl hown _ _ rfl hkey ?_;intro c hat hwc)
   |go_in)
  go_ret;have hc:=Aq.o _ hat;subst hc
  refine⟨by rw[HV.o,hn];rfl,_,⟨_,rfl⟩,λ_=>by rw[HV.o,hn];rfl,aC _ _⟩
theorem Q2(rb:Nat)(last:Int)(k:Nat)(w:ai)(hk:k<10)(hc:w.cell? ⟨rb,5,I⟩=J (U R last)):Calls prog 127 #[aj (J ⟨rb,0,I⟩),U R (k:Int)] w λe w'=>e=ax (aI (may last k))/\w'=w:=by
 match k,hk with
 |0,_=>
  go_enter func127,ntmps127
  go_wp2;go_ret;exact⟨by first|rfl|simp[may],rfl⟩
 |1,_=>
  go_enter func127,ntmps127
  go_wp2;go_ret;exact⟨by first|rfl|simp[may],rfl⟩
 |2,_=>
  go_enter func127,ntmps127
  go_wp2;go_ret;exact⟨by first|rfl|simp[may],rfl⟩
 |3,_=>
  go_enter func127,ntmps127
  go_wp2;go_ret;exact⟨by first|rfl|simp[may],rfl⟩
 |4,_=>
  by_cases l1:3<=last
  all_goals
   go_enter func127,ntmps127
   go_wp2;go_ret;exact⟨by first|rfl|(simp[may,l1];done)|(simp[may];omega),rfl⟩
 |5,_=>
  by_cases l1:3<=last
  all_goals
   go_enter func127,ntmps127
   go_wp2;go_ret;exact⟨by first|rfl|(simp[may,l1];done)|(simp[may];omega),rfl⟩
 |6,_=>
  by_cases l1:3<=last
  all_goals
   go_enter func127,ntmps127
   go_wp2;go_ret;exact⟨by first|rfl|(simp[may,l1];done)|(simp[may];omega),rfl⟩
 |7,_=>
  by_cases l1:3<=last
  all_goals
   go_enter func127,ntmps127
   go_wp2;go_ret;exact⟨by first|rfl|(simp[may,l1];done)|(simp[may];omega),rfl⟩
 |8,_=>
  by_cases l1:3<=last
  all_goals
   go_enter func127,ntmps127
   go_wp2;go_ret;exact⟨by first|rfl|(simp[may,l1];done)|(simp[may];omega),rfl⟩
 |9,_=>
  by_cases l1:3<=last
  all_goals
   go_enter func127,ntmps127
   go_wp2;go_ret;exact⟨by first|rfl|(simp[may,l1];done)|(simp[may];omega),rfl⟩
def mQ(w:Bs):Int:=match kindOf w with
 |some k=>(k:Int)
 |none=>-1
theorem aei{w:Bs}(h:∀j,j<10->kw j≠w):mQ w=-1:=by
 have:kindOf w=I:=by
  unfold kindOf;rw[List.find?_eq_none];intro j hj;simp only[mr]at hj;simpa using h j hj
 unfold mQ;rw[this]
theorem aej(s:ByteArray)(w:ai)(hK:jF w):Calls prog 126 #[aq s] w λe w'=>e=ax (U R (mQ (bl s)))/\w'=w:=by
 have c0:=hK 0 (by decide);have c1:=hK 1 (by decide);have c2:=hK 2 (by decide);have c3:=hK 3 (by decide);have c4:=hK 4 (by decide);have c5:=hK 5 (by decide);have c6:=hK 6 (by decide);have c7:=hK 7 (by decide);have c8:=hK 8 (by decide);have c9:=hK 9 (by decide);clear hK;go_enter func126,ntmps126
 go_wp2_with fail
 clear c0 c1 c2 c3 c4 c5 c6 c7 c8 c9
 go_loopw [3,4,6] (λ_ _ i wr=>∃k:Nat,k<=10/\i=U R k/\wr=w/\∀j,j<k->kw j≠bl s) (λ_ _ i _=>10-(intOf i).toNat)
 case atStart=>exact⟨0,bI _,rfl,rfl,λj hj=>absurd hj (om _)⟩
 case round=>
  obtain⟨k,hk,rfl,rfl,hn⟩:=hrel;have HN:aa _:=hn;clear hn
  by_cases hlt:k<10
  ·match k,hlt with
   |0,_=>
    have ix:∀W,(Instr.index 261 (aU #[aq ⟨(kw 0).toArray⟩,aq ⟨(kw 1).toArray⟩,aq ⟨(kw 2).toArray⟩,aq ⟨(kw 3).toArray⟩,aq ⟨(kw 4).toArray⟩,aq ⟨(kw 5).toArray⟩,aq ⟨(kw 6).toArray⟩,aq ⟨(kw 7).toArray⟩,aq ⟨(kw 8).toArray⟩,aq ⟨(kw 9).toArray⟩]) (U R 0)).run prog W=.ok (aq ⟨(kw 0).toArray⟩) W:=λ_=>by kernel_rfl
    by_cases h:kw 0=bl s
    ·have HV:aa (mQ (bl s)=0):=by show _=_;rw[<- h];decide
     have y2:kw 0=s.toList:=by rw[fZ];exact h
     have y1:(kw 0==s.toList)=true:=by rw[y2];exact sT _
     clear y2 h;go_wp2;go_ret;exact⟨by rw[HV.o];rfl,rfl⟩
    have y2:¬kw 0=s.toList:=by rw[fZ];exact h
    have y1:(kw 0==s.toList)=false:=by simpa using y2
    have iR:aa (∀j,j<1->kw j≠bl s):=λj hj=>by
     by_cases e:j=0
     ·rw[e];exact h
     exact HN.o j (by omega)
    go_wp2;go_roundw
    case rel=>exact⟨1,by decide,by first|trivial|rfl,by first|trivial|rfl,iR.o⟩
    case measure=>simp[intOf]
   |1,_=>
    have ix:∀W,(Instr.index 261 (aU #[aq ⟨(kw 0).toArray⟩,aq ⟨(kw 1).toArray⟩,aq ⟨(kw 2).toArray⟩,aq ⟨(kw 3).toArray⟩,aq ⟨(kw 4).toArray⟩,aq ⟨(kw 5).toArray⟩,aq ⟨(kw 6).toArray⟩,aq ⟨(kw 7).toArray⟩,aq ⟨(kw 8).toArray⟩,aq ⟨(kw 9).toArray⟩]) (U R 1)).run prog W=.ok (aq ⟨(kw 1).toArray⟩) W:=λ_=>by kernel_rfl
    by_cases h:kw 1=bl s
    ·have HV:aa (mQ (bl s)=1):=by show _=_;rw[<- h];decide
     have y2:kw 1=s.toList:=by rw[fZ];exact h
     have y1:(kw 1==s.toList)=true:=by rw[y2];exact sT _
     clear y2 h;go_wp2;go_ret;exact⟨by rw[HV.o];rfl,rfl⟩
    have y2:¬kw 1=s.toList:=by rw[fZ];exact h
    have y1:(kw 1==s.toList)=false:=by simpa using y2
    have iR:aa (∀j,j<2->kw j≠bl s):=λj hj=>by
     by_cases e:j=1
     ·rw[e];exact h
     exact HN.o j (by omega)
    go_wp2;go_roundw
    case rel=>exact⟨2,by decide,by first|trivial|rfl,by first|trivial|rfl,iR.o⟩
    case measure=>simp[intOf]
   |2,_=>
    have ix:∀W,(Instr.index 261 (aU #[aq ⟨(kw 0).toArray⟩,aq ⟨(kw 1).toArray⟩,aq ⟨(kw 2).toArray⟩,aq ⟨(kw 3).toArray⟩,aq ⟨(kw 4).toArray⟩,aq ⟨(kw 5).toArray⟩,aq ⟨(kw 6).toArray⟩,aq ⟨(kw 7).toArray⟩,aq ⟨(kw 8).toArray⟩,aq ⟨(kw 9).toArray⟩]) (U R 2)).run prog W=.ok (aq ⟨(kw 2).toArray⟩) W:=λ_=>by kernel_rfl
    by_cases h:kw 2=bl s
    ·have HV:aa (mQ (bl s)=2):=by show _=_;rw[<- h];decide
     have y2:kw 2=s.toList:=by rw[fZ];exact h
     have y1:(kw 2==s.toList)=true:=by rw[y2];exact sT _
     clear y2 h;go_wp2;go_ret;exact⟨by rw[HV.o];rfl,rfl⟩
    have y2:¬kw 2=s.toList:=by rw[fZ];exact h
    have y1:(kw 2==s.toList)=false:=by simpa using y2
    have iR:aa (∀j,j<3->kw j≠bl s):=λj hj=>by
     by_cases e:j=2
     ·rw[e];exact h
     exact HN.o j (by omega)
    go_wp2;go_roundw
    case rel=>exact⟨3,by decide,by first|trivial|rfl,by first|trivial|rfl,iR.o⟩
    case measure=>simp[intOf]
   |3,_=>
    have ix:∀W,(Instr.index 261 (aU #[aq ⟨(kw 0).toArray⟩,aq ⟨(kw 1).toArray⟩,aq ⟨(kw 2).toArray⟩,aq ⟨(kw 3).toArray⟩,aq ⟨(kw 4).toArray⟩,aq ⟨(kw 5).toArray⟩,aq ⟨(kw 6).toArray⟩,aq ⟨(kw 7).toArray⟩,aq ⟨(kw 8).toArray⟩,aq ⟨(kw 9).toArray⟩]) (U R 3)).run prog W=.ok (aq ⟨(kw 3).toArray⟩) W:=λ_=>by kernel_rfl
    by_cases h:kw 3=bl s
    ·have HV:aa (mQ (bl s)=3):=by show _=_;rw[<- h];decide
     have y2:kw 3=s.toList:=by rw[fZ];exact h
     have y1:(kw 3==s.toList)=true:=by rw[y2];exact sT _
     clear y2 h;go_wp2;go_ret;exact⟨by rw[HV.o];rfl,rfl⟩
    have y2:¬kw 3=s.toList:=by rw[fZ];exact h
    have y1:(kw 3==s.toList)=false:=by simpa using y2
    have iR:aa (∀j,j<4->kw j≠bl s):=λj hj=>by
     by_cases e:j=3
     ·rw[e];exact h
     exact HN.o j (by omega)
    go_wp2;go_roundw
    case rel=>exact⟨4,by decide,by first|trivial|rfl,by first|trivial|rfl,iR.o⟩
    case measure=>simp[intOf]
   |4,_=>
    have ix:∀W,(Instr.index 261 (aU #[aq ⟨(kw 0).toArray⟩,aq ⟨(kw 1).toArray⟩,aq ⟨(kw 2).toArray⟩,aq ⟨(kw 3).toArray⟩,aq ⟨(kw 4).toArray⟩,aq ⟨(kw 5).toArray⟩,aq ⟨(kw 6).toArray⟩,aq ⟨(kw 7).toArray⟩,aq ⟨(kw 8).toArray⟩,aq ⟨(kw 9).toArray⟩]) (U R 4)).run prog W=.ok (aq ⟨(kw 4).toArray⟩) W:=λ_=>by kernel_rfl
    by_cases h:kw 4=bl s
    ·have HV:aa (mQ (bl s)=4):=by show _=_;rw[<- h];decide
     have y2:kw 4=s.toList:=by rw[fZ];exact h
     have y1:(kw 4==s.toList)=true:=by rw[y2];exact sT _
     clear y2 h;go_wp2;go_ret;exact⟨by rw[HV.o];rfl,rfl⟩
    have y2:¬kw 4=s.toList:=by rw[fZ];exact h
    have y1:(kw 4==s.toList)=false:=by simpa using y2
    have iR:aa (∀j,j<5->kw j≠bl s):=λj hj=>by
     by_cases e:j=4
     ·rw[e];exact h
     exact HN.o j (by omega)
    go_wp2;go_roundw
    case rel=>exact⟨5,by decide,by first|trivial|rfl,by first|trivial|rfl,iR.o⟩
    case measure=>simp[intOf]
   |5,_=>
    have ix:∀W,(Instr.index 261 (aU #[aq ⟨(kw 0).toArray⟩,aq ⟨(kw 1).toArray⟩,aq ⟨(kw 2).toArray⟩,aq ⟨(kw 3).toArray⟩,aq ⟨(kw 4).toArray⟩,aq ⟨(kw 5).toArray⟩,aq ⟨(kw 6).toArray⟩,aq ⟨(kw 7).toArray⟩,aq ⟨(kw 8).toArray⟩,aq ⟨(kw 9).toArray⟩]) (U R 5)).run prog W=.ok (aq ⟨(kw 5).toArray⟩) W:=λ_=>by kernel_rfl
    by_cases h:kw 5=bl s
    ·have HV:aa (mQ (bl s)=5):=by show _=_;rw[<- h];decide
     have y2:kw 5=s.toList:=by rw[fZ];exact h
     have y1:(kw 5==s.toList)=true:=by rw[y2];exact sT _
     clear y2 h;go_wp2;go_ret;exact⟨by rw[HV.o];rfl,rfl⟩
    have y2:¬kw 5=s.toList:=by rw[fZ];exact h
    have y1:(kw 5==s.toList)=false:=by simpa using y2
    have iR:aa (∀j,j<6->kw j≠bl s):=λj hj=>by
     by_cases e:j=5
     ·rw[e];exact h
     exact HN.o j (by omega)
    go_wp2;go_roundw
    case rel=>exact⟨6,by decide,by first|trivial|rfl,by first|trivial|rfl,iR.o⟩
    case measure=>simp[intOf]
   |6,_=>
    have ix:∀W,(Instr.index 261 (aU #[aq ⟨(kw 0).toArray⟩,aq ⟨(kw 1).toArray⟩,aq ⟨(kw 2).toArray⟩,aq ⟨(kw 3).toArray⟩,aq ⟨(kw 4).toArray⟩,aq ⟨(kw 5).toArray⟩,aq ⟨(kw 6).toArray⟩,aq ⟨(kw 7).toArray⟩,aq ⟨(kw 8).toArray⟩,aq ⟨(kw 9).toArray⟩]) (U R 6)).run prog W=.ok (aq ⟨(kw 6).toArray⟩) W:=λ_=>by kernel_rfl
    by_cases h:kw 6=bl s
    ·have HV:aa (mQ (bl s)=6):=by show _=_;rw[<- h];decide
     have y2:kw 6=s.toList:=by rw[fZ];exact h
     have y1:(kw 6==s.toList)=true:=by rw[y2];exact sT _
     clear y2 h;go_wp2;go_ret;exact⟨by rw[HV.o];rfl,rfl⟩
    have y2:¬kw 6=s.toList:=by rw[fZ];exact h
    have y1:(kw 6==s.toList)=false:=by simpa using y2
    have iR:aa (∀j,j<7->kw j≠bl s):=λj hj=>by
     by_cases e:j=6
     ·rw[e];exact h
     exact HN.o j (by omega)
    go_wp2;go_roundw
    case rel=>exact⟨7,by decide,by first|trivial|rfl,by first|trivial|rfl,iR.o⟩
    case measure=>simp[intOf]
   |7,_=>
    have ix:∀W,(Instr.index 261 (aU #[aq ⟨(kw 0).toArray⟩,aq ⟨(kw 1).toArray⟩,aq ⟨(kw 2).toArray⟩,aq ⟨(kw 3).toArray⟩,aq ⟨(kw 4).toArray⟩,aq ⟨(kw 5).toArray⟩,aq ⟨(kw 6).toArray⟩,aq ⟨(kw 7).toArray⟩,aq ⟨(kw 8).toArray⟩,aq ⟨(kw 9).toArray⟩]) (U R 7)).run prog W=.ok (aq ⟨(kw 7).toArray⟩) W:=λ_=>by kernel_rfl
    by_cases h:kw 7=bl s
    ·have HV:aa (mQ (bl s)=7):=by show _=_;rw[<- h];decide
     have y2:kw 7=s.toList:=by rw[fZ];exact h
     have y1:(kw 7==s.toList)=true:=by rw[y2];exact sT _
     clear y2 h;go_wp2;go_ret;exact⟨by rw[HV.o];rfl,rfl⟩
    have y2:¬kw 7=s.toList:=by rw[fZ];exact h
    have y1:(kw 7==s.toList)=false:=by simpa using y2
    have iR:aa (∀j,j<8->kw j≠bl s):=λj hj=>by
     by_cases e:j=7
     ·rw[e];exact h
     exact HN.o j (by omega)
    go_wp2;go_roundw
    case rel=>exact⟨8,by decide,by first|trivial|rfl,by first|trivial|rfl,iR.o⟩
    case measure=>simp[intOf]
   |8,_=>
    have ix:∀W,(Instr.index 261 (aU #[aq ⟨(kw 0).toArray⟩,aq ⟨(kw 1).toArray⟩,aq ⟨(kw 2).toArray⟩,aq ⟨(kw 3).toArray⟩,aq ⟨(kw 4).toArray⟩,aq ⟨(kw 5).toArray⟩,aq ⟨(kw 6).toArray⟩,aq ⟨(kw 7).toArray⟩,aq ⟨(kw 8).toArray⟩,aq ⟨(kw 9).toArray⟩]) (U R 8)).run prog W=.ok (aq ⟨(kw 8).toArray⟩) W:=λ_=>by kernel_rfl
    by_cases h:kw 8=bl s
    ·have HV:aa (mQ (bl s)=8):=by show _=_;rw[<- h];decide
     have y2:kw 8=s.toList:=by rw[fZ];exact h
     have y1:(kw 8==s.toList)=true:=by rw[y2];exact sT _
     clear y2 h;go_wp2;go_ret;exact⟨by rw[HV.o];rfl,rfl⟩
    have y2:¬kw 8=s.toList:=by rw[fZ];exact h
    have y1:(kw 8==s.toList)=false:=by simpa using y2
    have iR:aa (∀j,j<9->kw j≠bl s):=λj hj=>by
     by_cases e:j=8
     ·rw[e];exact h
     exact HN.o j (by omega)
    go_wp2;go_roundw
    case rel=>exact⟨9,by decide,by first|trivial|rfl,by first|trivial|rfl,iR.o⟩
    case measure=>simp[intOf]
   |9,_=>
    have ix:∀W,(Instr.index 261 (aU #[aq ⟨(kw 0).toArray⟩,aq ⟨(kw 1).toArray⟩,aq ⟨(kw 2).toArray⟩,aq ⟨(kw 3).toArray⟩,aq ⟨(kw 4).toArray⟩,aq ⟨(kw 5).toArray⟩,aq ⟨(kw 6).toArray⟩,aq ⟨(kw 7).toArray⟩,aq ⟨(kw 8).toArray⟩,aq ⟨(kw 9).toArray⟩]) (U R 9)).run prog W=.ok (aq ⟨(kw 9).toArray⟩) W:=λ_=>by kernel_rfl
    by_cases h:kw 9=bl s
    ·have HV:aa (mQ (bl s)=9):=by show _=_;rw[<- h];decide
     have y2:kw 9=s.toList:=by rw[fZ];exact h
     have y1:(kw 9==s.toList)=true:=by rw[y2];exact sT _
     clear y2 h;go_wp2;go_ret;exact⟨by rw[HV.o];rfl,rfl⟩
    have y2:¬kw 9=s.toList:=by rw[fZ];exact h
    have y1:(kw 9==s.toList)=false:=by simpa using y2
    have iR:aa (∀j,j<10->kw j≠bl s):=λj hj=>by
     by_cases e:j=9
     ·rw[e];exact h
     exact HN.o j (by omega)
    go_wp2;go_roundw
    case rel=>exact⟨10,by decide,by first|trivial|rfl,by first|trivial|rfl,iR.o⟩
    case measure=>simp[intOf]
  obtain rfl:k=10:=by omega
  have HV:aa _:=aei HN.o;go_wp2;go_ret;exact⟨by rw[HV.o];rfl,rfl⟩
theorem Q3(look:Bs->Option Nat)(f:Nat)(w:Bs):(bF look f w).1=0\/(bF look f w).1=1\/(bF look f w).1=5:=by
 unfold bF
 split
 ·exact aP (a_ rfl)
 split
 ·exact a_ rfl
 ·split
  ·exact a_ rfl
  exact aP (a_ rfl)
 split
 ·exact a_ rfl
 exact aP (aP rfl)
theorem Q4{look:Bs->Option Nat}:∀(fs:List Nat) (ws:List Bs) (nn:Bool),fs.length≠ws.length->(aY look nn fs ws).1=1
 |[],[],_,h=>absurd rfl h
 |[],_::_,_,_=>by simp[aY]
 |_::_,[],_,_=>by simp[aY]
 |f::fs,w::ws,nn,h=>by
  unfold aY
  split
  ·rfl
  exact Q4 fs ws _ (by simpa using h)
theorem Q5{look:Bs->Option Nat}{fs:List Nat}{ws:List Bs}{k f:Nat}{w:Bs}{nn:Bool}(h1:fs[k]?=J f)(h2:ws[k]?=J w):(aY look nn (fs.drop k) (ws.drop k)).1=if (bF look f w).1=1 then 1 else (aY look (nn||decide ((bF look f w).1=5)) (fs.drop (k+1)) (ws.drop (k+1))).1:=by
 obtain⟨a1,a2⟩:=dT.1 h1;obtain⟨b1,b2⟩:=dT.1 h2;rw[kq a1,kq b1,a2,b2];rw[aY]
 split<;>rfl
theorem aek{look:Bs->Option Nat}{fs:List Nat}{ws:List Bs}{k:Nat}{nn:Bool}(h1:fs.length=k)(h2:ws.length=k):(aY look nn (fs.drop k) (ws.drop k)).1=if nn then 5 else 0:=by
 rw[<- h1,List.drop_length,h1,<- h2,List.drop_length];rfl
theorem o_{w w':ai}{b o:Nat}{v:ar}(hb:Below w.heap.size w w')(hc:w.cell? ⟨b,o,I⟩=J v):w'.frozen? ⟨b,o,I⟩=w.frozen? ⟨b,o,I⟩:=by
 have:=hb.block b (fY hc);unfold World.frozen?;simp only;rw[this]
theorem Q6:∀(w:ai) (as' bs:List (Nat×Nat)) (us vs:List ar),as'.length=us.length->dD w (as'++bs) (us++vs)=dD (dD w as' us) bs vs
 |w,[],bs,[],vs,_=>rfl
 |w,a::as',bs,u::us,vs,h=>by
  simp only[px,dD];exact Q6 _ as' bs us vs (by simpa using h)
theorem JZ:∀(w:ai) (bs:List (Nat×Nat)) (vs:List ar),(∀(i:Nat) b v,bs[i]?=J b->vs[i]?=J v->w.cell? ⟨b.1,b.2,I⟩=J v)->dD w bs vs=w
 |w,[],vs,_=>Al _ _
 |w,_::_,[],_=>Am _ _
 |w,b::bs,v::vs,h=>by
  rw[dD,yn (h 0 b v rfl rfl)];exact JZ w bs vs (λi b' v' h1 h2=>h (i+1) b' v' (by simpa using h1) (by simpa using h2))
def yt(A:Nat->az)(ak:List ByteArray)(fs:List Nat)(tg:List (Nat×Nat))(ws:List ByteArray)(w:ai)(v:Ending)(w':ai):Prop:=
 v=ax (cN A (aY (aV ak) false fs (ws.map bl)).1)/\∃us:List ar,us.length=tg.length/\(∀(i:Nat) f u,fs[i]?=J f->us[i]?=J u->Typed f u)/\((aY (aV ak) false fs (ws.map bl)).1=0->∀(i:Nat) f s u,fs[i]?=J f->ws[i]?=J s->us[i]?=J u->u=valOf f s (bF (aV ak) f (bl s)).2)/\Below w.heap.size (dD w tg us) w'
structure ot(w0:ai)(rb:Nat)(ak:List ByteArray)(fs:List Nat)(tg:List (Nat×Nat))(ws:List ByteArray)(wb wo ib:Nat)(w:ai):Prop where
 br:Below w0.heap.size w0 w
 len:fs.length=tg.length
 f3:∀f∈fs,f<3
 few:fs.length<=4
 tgt:∀(i:Nat) f t,fs[i]?=J f->tg[i]?=J t->(∃old,w.cell? ⟨t.1,t.2,I⟩=J old/\Typed f old)/\w.frozen? ⟨t.1,t.2,I⟩=false
 lo:∀t∈tg,w0.heap.size<=t.1/\t≠(rb,6)/\t.1≠ib/\t.1≠wb
 nd:tg.Nodup
 into:∀(i:Nat) f t,fs[i]?=J f->tg[i]?=J t->w.cell? ⟨ib,i,I⟩=J (.iface (Fo f) (aj (J ⟨t.1,t.2,I⟩)))
 pS:∀(i:Nat) s,ws[i]?=J s->w.cell? ⟨wb,wo+i,I⟩=J (aq s)
 ael:∀s∈ws,s.size<=1000000
 map:2∈fs->∃mb,Fp w rb mb ak
structure J0(A:Nat->az)(rb:Nat)(ak:List ByteArray)(f:Nat)(s:ByteArray)(t:Nat×Nat)(V:ai):Prop where
 o7:dA A V
 tgt:∃old,V.cell? ⟨t.1,t.2,I⟩=J old/\Typed f old
 fz:V.frozen? ⟨t.1,t.2,I⟩=false
 map:f=2->∃mb,Fp V rb mb ak
 f3:f<3
 J1:s.size<=1000000
theorem Fq{w V:ai}{tg:List (Nat×Nat)}{k:Nat}{us:List ar}(hV:Below w.heap.size (dD w (tg.take k) us) V){b o:Nat}{v:ar}(hc:w.cell? ⟨b,o,I⟩=J v)(hn:∀t∈tg.take k,t≠(b,o)):V.cell? ⟨b,o,I⟩=J v:=by
 have h1:=yq w _ us b o hn;exact(hV.cell (p:=⟨b,o,_⟩) (fY hc)).trans (h1.trans hc)
theorem J2{tg:List (Nat×Nat)}(hd:tg.Nodup){k:Nat}{t:Nat×Nat}(ht:tg[k]?=J t):∀x∈tg.take k,x≠t:=by
 intro x hx e;subst e;obtain⟨j,hj,e⟩:=xC hx;have nt:j<k:=by simp at hj;omega
 obtain⟨k1,k2⟩:=dT.1 ht;have e2:tg[j]'(by omega)=tg[k]:=by rw[k2,<- e];simp
 have:=(List.getElem_inj hd).1 e2;omega
theorem ot.at'{A:Nat->az}{w0 w V:ai}{rb:Nat}{ak:List ByteArray}{fs:List Nat}{tg:List (Nat×Nat)}{ws:List ByteArray}{wb wo ib:Nat}(h:ot w0 rb ak fs tg ws wb wo ib w)(hs:dA A w0){k f:Nat}{s:ByteArray}{t:Nat×Nat}{us:List ar}(hV:Below w.heap.size (dD w (tg.take k) us) V)(h1:fs[k]?=J f)(h2:tg[k]?=J t)(h3:ws[k]?=J s):J0 A rb ak f s t V/\V.cell? ⟨wb,wo+k,I⟩=J (aq s)/\V.cell? ⟨ib,k,I⟩=J (.iface (Fo f) (aj (J ⟨t.1,t.2,I⟩))):=by
 have fE:∀x∈tg.take k,w0.heap.size<=x.1/\x≠(rb,6)/\x.1≠ib/\x.1≠wb:=λx hx=>h.lo x (List.mem_of_mem_take hx)
 have qs:=h.br.trans ((yr _ w _ us (λx hx=>(fE x hx).1)).trans (hV.mono h.br.size));obtain⟨⟨old,ho,hT⟩,hf⟩:=h.tgt k f t h1 h2;have ht:=Fq hV ho (J2 h.nd h2)
 refine⟨⟨hs.below qs,⟨old,ht,hT⟩,?_,?_,h.f3 f (cM h1),h.ael s (cM h3)⟩,?_,?_⟩
 ·have e1:=JX w (tg.take k) us ⟨t.1,t.2,I⟩;have e2:=(yq w _ us t.1 t.2 (J2 h.nd h2)).trans ho;rw[o_ (by rw[Fm];exact hV) e2,e1];exact hf
 ·rintro rfl;obtain⟨mb,hm⟩:=h.map (cM h1);obtain⟨D,⟨es,clock,g1,g2⟩,hD⟩:=hm.own
  refine⟨mb,Fq hV hm.c6 (λx hx=>(fE x hx).2.1),D,⟨es,_,?_,g2⟩,hD⟩;have aem:=bJ g1;rw[hV.block mb aem,QZ w _ us mb,g1];intro x hx e;obtain⟨j,hj,e2⟩:=xC hx;have nt:tg[j]?=J x:=by
   have:j<tg.length:=by simp at hj;omega
   rw[bH this,<- e2];simp
  have aen:j<fs.length:=by rw[h.len];exact(dT.1 nt).1
  obtain⟨⟨o2,uy,-⟩,-⟩:=h.tgt j fs[j] x (bH aen) nt;unfold World.cell? at uy;simp only[e,g1]at uy
  cases uy
 ·exact Fq hV (h.pS k s h3) (λx hx e=>(fE x hx).2.2.2 (by rw[e]))
 exact Fq hV (h.into k f t h1 h2) (λx hx e=>(fE x hx).2.2.1 (by rw[e]))
theorem aeo{A:Nat->az}{rb:Nat}{ak:List ByteArray}{f:Nat}{s:ByteArray}{t:Nat×Nat}{V:ai}(h:J0 A rb ak f s t V):Calls prog 236 #[aj (J ⟨rb,0,I⟩),aq s,.iface (Fo f) (aj (J ⟨t.1,t.2,I⟩))] V (uI A ak f s t.1 t.2 V):=by
 obtain⟨old,ht,hT⟩:=h.tgt
 by_cases h0:s.size=0
 ·have:=aec h0;subst this;exact aed A ak rb f _ t.1 t.2 old V h.o7 ht hT
 have h1:1<=s.size:=by omega
 match f,h.f3,hT,h with
 |0,_,_,h=>exact aee A ak rb s t.1 t.2 old V h1 h.J1 ht h.fz
 |1,_,hT,h=>exact aef A ak rb s t.1 t.2 old V h.o7 h1 h.J1 ht hT h.fz
 |2,_,hT,h=>
  obtain⟨mb,hm⟩:=h.map rfl;exact aeg A ak rb mb s t.1 t.2 old V h.o7 h1 h.J1 hm ht hT h.fz
structure sV(A:Nat->az)(ak:List ByteArray)(fs:List Nat)(tg:List (Nat×Nat))(ws:List ByteArray)(w:ai)(k:Nat)(nn:Bool)(V:ai):Prop where
 us:∃us:List ar,us.length=k/\(∀(i:Nat) f u,fs[i]?=J f->us[i]?=J u->Typed f u)/\(nn=false->∀(i:Nat) f s u,fs[i]?=J f->ws[i]?=J s->us[i]?=J u->u=valOf f s (bF (aV ak) f (bl s)).2)/\Below w.heap.size (dD w (tg.take k) us) V
 code:(aY (aV ak) false fs (ws.map bl)).1=(aY (aV ak) nn (fs.drop k) ((ws.map bl).drop k)).1
theorem aep{A:Nat->az}{ak:List ByteArray}{fs:List Nat}{tg:List (Nat×Nat)}{ws:List ByteArray}{w:ai}:sV A ak fs tg ws w 0 false w:=
 ⟨⟨[],rfl,λi f u _ h=>by simp at h,λ_ i f s u _ _ h=>by simp at h,aC _ _⟩,rfl⟩
theorem Q7{A:Nat->az}{w V V':ai}{ak:List ByteArray}{fs:List Nat}{tg:List (Nat×Nat)}{ws:List ByteArray}{k f:Nat}{nn:Bool}{s:ByteArray}{t:Nat×Nat}{u:ar}(h:sV A ak fs tg ws w k nn V)(h1:fs[k]?=J f)(h2:tg[k]?=J t)(h3:ws[k]?=J s)
  (hT:Typed f u) (hv:(bF (aV ak) f (bl s)).1=0->u=valOf f s (bF (aV ak) f (bl s)).2) (hb:Below V.heap.size (V.setCell ⟨t.1,t.2,I⟩ u) V') (hc:(bF (aV ak) f (bl s)).1≠1):sV A ak fs tg ws w (k+1) (nn||decide ((bF (aV ak) f (bl s)).1=5)) V':=by
 obtain⟨us,e0,e1,e2,e3⟩:=h.us;have hk:=(dT.1 h2).1
 refine⟨⟨us++[u],by simp[e0],λi g x hg hx=>?_,λhn i g y x hg hy hx=>?_,?_⟩,?_⟩
 ·by_cases hi:i<us.length
  ·rw[mX hi]at hx;exact e1 i g x hg hx
  rw[ko (by omega)]at hx;have:i=us.length:=by
   have:=(dT.1 hx).1;simp at this
   omega
  subst this;simp at hx
  subst hx;rw[e0,h1]at hg
  cases hg
  exact hT
 ·rw[Bool.or_eq_false_iff,decide_eq_false_iff_not]at hn
  by_cases hi:i<us.length
  ·rw[mX hi]at hx;exact e2 hn.1 i g y x hg hy hx
  rw[ko (by omega)]at hx;have:i=us.length:=by
   have:=(dT.1 hx).1;simp at this
   omega
  subst this;simp at hx
  subst hx;rw[e0,h1]at hg
  cases hg
  rw[e0,h3]at hy
  cases hy
  refine hv ?_
  rcases Q3 (aV ak) f (bl s)with h|h|h
  ·exact h
  ·exact absurd h hc
  exact absurd h hn.2
 ·have ht:tg.take (k+1)=tg.take k++[t]:=by rw[fW,h2];rfl
  rw[ht,JW _ _ _ _ _ (by rw[gy,e0];omega)];have:=Below.JV e3 ⟨t.1,t.2,I⟩ u
  refine this.trans (hb.mono ?_);have:=e3.size;rw[Fm]at this;exact this
 rw[h.code,Q5 h1 (by rw[gR,h3];rfl),aK hc]
theorem aeq{A:Nat->az}{w0 w V V':ai}{rb:Nat}{ak:List ByteArray}{fs:List Nat}{tg:List (Nat×Nat)}{ws:List ByteArray}{wb wo ib k f:Nat}{nn:Bool}{s:ByteArray}{t:Nat×Nat}{u:ar}(hF:ot w0 rb ak fs tg ws wb wo ib w)(h:sV A ak fs tg ws w k nn V)(h1:fs[k]?=J f)(h2:tg[k]?=J t)(h3:ws[k]?=J s)
  (hT:Typed f u) (hb:Below V.heap.size (V.setCell ⟨t.1,t.2,I⟩ u) V') (hc:(bF (aV ak) f (bl s)).1=1):yt A ak fs tg ws w (ax (cN A 1)) V':=by
 have cA:(aY (aV ak) false fs (ws.map bl)).1=1:=by rw[h.code,Q5 h1 (by rw[gR,h3];rfl),aR hc]
 obtain⟨us,e0,e1,e2,e3⟩:=h.us;have hk:=(dT.1 h2).1;have hold:∀i,∃o:ar,∀g x,fs[k+1+i]?=J g->tg[k+1+i]?=J x->w.cell? ⟨x.1,x.2,I⟩=J o/\Typed g o:=λi=>by
  by_cases hi:k+1+i<tg.length
  ·have oP:k+1+i<fs.length:=by rw[hF.len];exact hi
   obtain⟨⟨o,a1,a2⟩,-⟩:=hF.tgt _ _ _ (bH oP) (bH hi)
   refine⟨o,λg x hg hx=>?_⟩;rw[bH oP]at hg;rw[bH hi]at hx
   cases hg
   cases hx
   exact⟨a1,a2⟩
  refine⟨undef,λg x _ hx=>?_⟩;rw[iI (by omega)]at hx
  cases hx
 obtain⟨ov,ji⟩:=Classical.axiomOfChoice hold;obtain⟨vs,Q8⟩:∃vs:List _,vs=(List.range (tg.length-(k+1))).map ov:=⟨_,rfl⟩;have Q9:vs.length=tg.length-(k+1):=by rw[Q8];simp
 have C2:∀i x,vs[i]?=J x->x=ov i/\i<tg.length-(k+1):=λi x hx=>by
  have hi:=(dT.1 hx).1;rw[Q9]at hi;rw[Q8,gR,List.getElem?_range hi]at hx;simp at hx
  exact⟨hx.symm,hi⟩
 refine⟨by rw[cA],us++([u]++vs),?_,λi g x hg hx=>?_,(λhz=>by rw[cA]at hz;cases hz),?_⟩
 ·simp[e0,Q9];omega
 ·by_cases hi:i<us.length
  ·rw[mX hi]at hx;exact e1 i g x hg hx
  rw[ko (by omega),e0]at hx
  by_cases oP:i=k
  ·subst oP;simp at hx
   subst hx;rw[h1]at hg
   cases hg
   exact hT
  rw[ko (by simp;omega)]at hx;obtain⟨rfl,q⟩:=C2 _ _ hx;have Q_:k+1+(i-k-1)=i:=by omega
  have hit:i<tg.length:=by simp at q;omega
  exact(ji (i-k-1) g _ (by rw[Q_];exact hg) (by rw[Q_];exact bH hit)).2
 have ht:tg=(tg.take k++[t])++tg.drop (k+1):=by
  have:tg.take (k+1)=tg.take k++[t]:=by rw[fW,h2];rfl
  rw[<- this,qq]
 have hl:(tg.take k).length=us.length:=by rw[gy,e0];omega
 have J3:dD w tg (us++([u]++vs))=(dD w (tg.take k) us).setCell ⟨t.1,t.2,I⟩ u:=by
  conv=>lhs;rw[ht]
  rw[<- iV us [u] vs,Q6 _ _ _ _ _ (by simp[hl]),JW _ _ _ _ _ hl]
  refine JZ _ _ _ (λi b v hb' hv'=>?_);obtain⟨rfl,q⟩:=C2 _ _ hv';rw[List.getElem?_drop]at hb';have J4:k+1+i<fs.length:=by rw[hF.len];omega
  obtain⟨a1,-⟩:=ji i _ _ (bH J4) hb';have hne:=J2 hF.nd hb';have aer:=hne t (by
   have:tg.take (k+1+i)=tg.take (k+1)++(tg.drop (k+1)).take i:=by rw[List.take_add]
   rw[this,fW,h2];simp)
  rw[eD (by
   by_cases e:t.1=b.1
   ·exact aP (λe2=>aer (Prod.ext e e2))
   exact a_ e) rfl rfl,yq _ _ _ _ _ (λx hx=>hne x (by
   have:tg.take (k+1+i)=tg.take k++(tg.drop k).take (1+i):=by rw[qX,List.take_add]
   rw[this];exact List.mem_append_left _ hx))]
  exact a1
 rw[J3];have:=Below.JV e3 ⟨t.1,t.2,I⟩ u
 refine this.trans (hb.mono ?_);have:=e3.size;rw[Fm]at this;exact this
theorem aes{A:Nat->az}{w0 w V:ai}{rb:Nat}{ak:List ByteArray}{fs:List Nat}{tg:List (Nat×Nat)}{ws:List ByteArray}{wb wo ib k:Nat}{nn:Bool}(hF:ot w0 rb ak fs tg ws wb wo ib w)(h:sV A ak fs tg ws w k nn V)(h1:fs.length=k)(h2:ws.length=k):yt A ak fs tg ws w (ax (cN A (if nn then 5 else 0))) V:=by
 obtain⟨us,e0,e1,e2,e3⟩:=h.us;have hc:=h.code;rw[aek h1 (by rw[fL];exact h2)]at hc;have hk:tg.take k=tg:=nQ (by rw[<- hF.len];omega);rw[hk]at e3
 refine⟨by rw[hc],us,by rw[e0,<- hF.len];omega,e1,λhz=>?_,e3⟩
 cases nn
 ·exact e2 rfl
 rw[hc]at hz;cases hz
structure aet(A:Nat->az)(ak:List ByteArray)(fs:List Nat)(tg:List (Nat×Nat))(ws:List ByteArray)(w:ai)(m i:ar)(wr:ai):Prop where
 ex:∃(k:Nat) (nn:Bool),k<=ws.length/\i=U R k/\m=cN A (if nn then 5 else 0)/\sV A ak fs tg ws w k nn wr
theorem sW(A:Nat->az)(w0 w:ai)(rb:Nat)(ak:List ByteArray)(fs:List Nat)(tg:List (Nat×Nat))(ws:List ByteArray)(sa:Option az)(wb wo wc ib:Nat)(hs:dA A w0)(hF:ot w0 rb ak fs tg ws wb wo ib w)(uj:ws≠[]->sa=J ⟨wb,wo,I⟩)(hn:ws.length<=1000000):Calls prog 175 #[aj (J ⟨rb,0,I⟩),af sa ws.length wc,af (J ⟨ib,0,I⟩) fs.length fs.length] w (yt A ak fs tg ws w):=by
 have HF:aa _:=hF;have HS:aa _:=hs;clear hF hs
 by_cases hl:fs.length=ws.length
 ·have l2:ws.length<=4:=by have:=HF.o.few;omega
  have HL:aa _:=hl;rw[hl];clear hl;go_enter func175,ntmps175
  go_wp2_with fail
  go_loopw [6,7,8,9,10,19] (λ_ m _ _ _ i wr=>aet A ak fs tg ws w m i wr) (λ_ _ _ _ _ i _=>ws.length-(intOf i).toNat)
  case atStart=>exact⟨⟨0,_,bI _,rfl,rfl,aep⟩⟩
  case round=>
   obtain⟨k,nn,hk,rfl,hm,hR⟩:=hrel.ex;have HM:aa _:=hm;clear hm;have HR:aa _:=hR;clear hR
   by_cases hlt:k<ws.length
   ·have k1:(k:Int)<(ws.length:Int):=by omega
    have k2:k<4:=by omega
    have aeu:=uj (λe=>by rw[e]at hlt;simp at hlt);subst aeu;obtain⟨f,hf⟩:∃f,fs[k]?=J f:=⟨_,bH (by have:=HL.o;omega)⟩;obtain⟨t,ht⟩:∃t,tg[k]?=J t:=⟨_,bH (by have:=HF.o.len;have:=HL.o;omega)⟩;obtain⟨s,C3⟩:∃s,ws[k]?=J s:=⟨_,bH hlt⟩;have hat:J0 A rb ak f s t wr/\wr.cell? ⟨wb,wo+k,I⟩=J (aq s)/\wr.cell? ⟨ib,k,I⟩=J (.iface (Fo f) (aj (J ⟨t.1,t.2,I⟩))):=by
     obtain⟨us,-,-,-,e3⟩:=HR.o.us;exact HF.o.at' HS.o e3 hf ht C3
    obtain⟨hat,c1,c2⟩:=hat;have Aq:aa _:=hat;have HK:aa (fs[k]?=J f/\tg[k]?=J t/\ws[k]?=J s):=⟨hf,ht,C3⟩;clear hat hf ht C3 uj;go_wp2_with fail
    refine(aeo Aq.o).mono ?_;rintro v V1 ⟨rfl,u,hT,hv,hb⟩;have HU:aa (Typed f u/\((bF _ f _).1=0->u=valOf f s _)/\Below _ _ V1):=⟨hT,hv,hb⟩;have HE:aa (dA A V1):=by
     have h1:=(HF.o.lo t (cM HK.o.2.1)).1;obtain⟨us,-,-,-,e3⟩:=HR.o.us;have hw:=HF.o.br.trans ((yr _ w _ us (λx hx=>(HF.o.lo x (List.mem_of_mem_take hx)).1)).trans (e3.mono HF.o.br.size));exact HS.o.below (hw.trans (((aC _ wr).setCell (p:=⟨t.1,t.2,_⟩) h1 u).trans (hb.mono hw.size)))
    clear hT hv hb c1 c2 Aq;have d0:=HE.o.c0;have d4:=HE.o.c4;obtain⟨ie,J5,qN⟩:=m_.1 Bb;obtain⟨je,J6,qO⟩:=m_.1 Bc
    rcases Q3 (aV ak) f (bl s)with hc|hc|hc
    ·have e1:cN A (bF (aV ak) f (bl s)).1=.nilIface:=by rw[hc];rfl
     rw[e1];have n0:=run_eql_iface_nil_left (P:=prog) (w:=V1) 352 (aj (J (A 0))) underlying25;have n4:=run_eql_iface_nil_left (P:=prog) (w:=V1) 352 (aj (J (A 4))) underlying25;have HN:aa (sV A ak fs tg ws w (k+1) nn V1):=by
      have:=Q7 HR.o HK.o.1 HK.o.2.1 HK.o.2.2 HU.o.1 HU.o.2.1 HU.o.2.2 (by rw[hc];decide);rw[hc]at this;show sV _ _ _ _ _ _ _ _ _
      simpa using this
     clear e1 hc;go_wp2;go_roundw
     case rel=>
      exact⟨⟨_,nn,by omega,by go_num,HM.o,HN.o⟩⟩
     case measure=>simp[intOf];omega
    ·have e1:cN A (bF (aV ak) f (bl s)).1=.iface 352 (aj (J (A 0))):=by rw[hc];rfl
     rw[e1];have n0:=run_eql_iface_ptr_same (P:=prog) (w:=V1) (A 0) underlying25 underlying352 J5 qN J6;have HP:aa (yt A ak fs tg ws w _ V1):=aeq HF.o HR.o HK.o.1 HK.o.2.1 HK.o.2.2 HU.o.1 HU.o.2.2 hc;clear e1 hc;go_wp2;go_ret;exact HP.o
    have e1:cN A (bF (aV ak) f (bl s)).1=.iface 352 (aj (J (A 4))):=by rw[hc];rfl
    rw[e1];obtain⟨ca,ta,ha⟩:=HE.o.row 4 (by decide);obtain⟨cb,tb,hb⟩:=HE.o.row 0 (by decide);have n0:=run_eql_iface_ptr_other (P:=prog) V1 underlying25 underlying352 J5 qN J6 (by rw[qO];decide) (HE.o.ne 4 0 (by decide) (by decide) (by decide)) ha hb;have n4:=run_eql_iface_ptr_same (P:=prog) (w:=V1) (A 4) underlying25 underlying352 J5 qN J6;have HN:aa (sV A ak fs tg ws w (k+1) true V1):=by
     have:=Q7 HR.o HK.o.1 HK.o.2.1 HK.o.2.2 HU.o.1 HU.o.2.1 HU.o.2.2 (by rw[hc];decide);rw[hc]at this;show sV _ _ _ _ _ _ _ _ _
     simpa using this
    clear e1 hc ha hb;go_wp2;go_roundw
    case rel=>
     exact⟨⟨_,_,by omega,by go_num,rfl,HN.o⟩⟩
    case measure=>simp[intOf];omega
   have k1:¬(k:Int)<(ws.length:Int):=by omega
   obtain rfl:k=ws.length:=by omega
   have HP:aa (yt A ak fs tg ws w (ax u7) wr):=by
    show yt _ _ _ _ _ _ _ _
    rw[HM.o];exact aes HF.o HR.o HL.o rfl
   go_wp2;go_ret;exact HP.o
 have l1:¬(ws.length:Int)=(fs.length:Int):=by omega
 have c0:=(HS.o.below HF.o.br).c0;have HP:aa (yt A ak fs tg ws w (ax (cN A 1)) w):=by
  have cA:(aY (aV ak) false fs (ws.map bl)).1=1:=Q4 _ _ _ (by rw[fL];exact hl);have hold:∀i:Nat,∃o:ar,∀(g:Nat) (x:Nat×Nat),fs[i]?=J g->tg[i]?=J x->w.cell? ⟨x.1,x.2,I⟩=J o/\Typed g o:=λi=>by
   by_cases hi:i<tg.length
   ·have oP:i<fs.length:=by rw[HF.o.len];exact hi
    obtain⟨⟨o,a1,a2⟩,-⟩:=HF.o.tgt i _ _ (bH oP) (bH hi)
    refine⟨o,λg x hg hx=>?_⟩;rw[bH oP]at hg;rw[bH hi]at hx
    cases hg
    cases hx
    exact⟨a1,a2⟩
   refine⟨undef,λg x _ hx=>?_⟩;rw[iI (by omega)]at hx
   cases hx
  obtain⟨ov,ji⟩:=Classical.axiomOfChoice hold;have C2:∀(i:Nat) x,((List.range tg.length).map ov)[i]?=J x->x=ov i/\i<tg.length:=λi x hx=>by
   have hi:=(dT.1 hx).1;simp at hi
   rw[gR,List.getElem?_range hi]at hx;simp at hx
   exact⟨hx.symm,hi⟩
  refine⟨by rw[cA],(List.range tg.length).map ov,by simp,λi g x hg hx=>?_,(λhz=>by rw[cA]at hz;cases hz),?_⟩
  ·obtain⟨rfl,q⟩:=C2 _ _ hx;exact(ji i g _ hg (bH q)).2
  rw[JZ _ _ _ (λi b v hb hv=>by
   obtain⟨rfl,q⟩:=C2 _ _ hv;have J4:i<fs.length:=by rw[HF.o.len];exact q
   exact(ji i _ _ (bH J4) hb).1)]
  exact aC _ _
 clear uj;go_enter func175,ntmps175
 go_wp2;go_ret;exact HP.o
def gm(B:Nat)(w:ai)(v:ar)(es:List aF):Prop:=
 ∃cells,w.ownsRow B 84 10 v es.length cells/\∀i e,es[i]?=J e->∃pv gv ev fv lv,qZ B w e pv gv ev fv lv/\∀j u,(r9 e pv gv ev fv lv)[j]?=J u->cells[i*10+j]?=J u
theorem gm.aw{B:Nat}{w:ai}{v:ar}{es:List aF}(h:gm B w v es):jR w v es:=by
 obtain⟨cells,ho,hp⟩:=h
 rcases id ho.2 with⟨rfl,h0⟩|⟨g,cap,cur,rfl,hB,r⟩
 ·have:=qI h0;subst this;exact⟨_,0,rfl,λe=>absurd rfl e⟩
 refine⟨_,cap,rfl,λ_=>⟨g,0,rfl,λi e he=>?_⟩⟩;obtain⟨pv,gv,ev,fv,lv,h1,h2⟩:=hp i e he
 refine⟨pv,gv,ev,fv,lv,h1.parts,λj u hu=>?_⟩;have:=ho.cells (g:=g) rfl _ u (h2 j u hu);rw[kP]at this;rw[qX];exact this
theorem gm.nil(B:Nat)(w:ai):gm B w (af I 0 0) []:=⟨[],fC _ _ _ _,λi e h=>by simp at h⟩
theorem gm.below{B:Nat}{w w':ai}{v:ar}{es:List aF}(h:gm B w v es)(hb:Below w.heap.size w w'):gm B w' v es:=by
 obtain⟨cells,ho,hp⟩:=h
 refine⟨_,ho.kept (row:=I) ⟨hb.os,hb.tape,hb.output,hb.size,λk hk _=>hb.block k hk⟩ (by by_cases e:v.ownBlock=I;exact a_ e;exact aP e),λi e he=>?_⟩;obtain⟨pv,gv,ev,fv,lv,h1,h2⟩:=hp i e he;exact⟨pv,gv,ev,fv,lv,h1.below hb,h2⟩
theorem gm.other{B b:Nat}{w w':ai}{v:ar}{es:List aF}(h:gm B w v es)(hg:w.grownBy w' (J b)){c:Array ar}{fr:Nat×Nat}(hb:w.heap[b]?=J (au c 30 fr)):gm B w' v es:=by
 obtain⟨cells,ho,hp⟩:=h;have hne:v.ownBlock≠J b:=by
  rcases ho.2 with⟨rfl,_⟩|⟨g,cap,cur,rfl,_,eA,_⟩
  ·simp[Value.ownBlock]
  intro e;simp only[Value.ownBlock,eR]at e;subst e;rw[eA]at hb;simp only[eR,l_]at hb;exact absurd hb.2.1 (by decide)
 refine⟨_,ho.kept hg (aP hne),λi e he=>?_⟩;obtain⟨pv,gv,ev,fv,lv,h1,h2⟩:=hp i e he;exact⟨pv,gv,ev,fv,lv,⟨h1.hp.other hg hb (by decide),h1.hg.other hg hb (by decide),h1.he.other hg hb (by decide),h1.hf.other hg hb (by decide),h1.hl.other hg hb (by decide)⟩,h2⟩
theorem Ra:(prog.info? 84).map (λi=>(i.zero,i.size,i.bytes))=J (J (aU #[aq ⟨#[]⟩,U R 0,af I 0 0,U R 0,U R 0,U R 0,af I 0 0,af I 0 0,af I 0 0,af I 0 0]),10,168):=by kernel_rfl
theorem ou:(prog.info? 30).map (·.size)=J 5:=by kernel_rfl
end Go.Proofs.YtgmfhkjghmdgiaaGreatDoor
