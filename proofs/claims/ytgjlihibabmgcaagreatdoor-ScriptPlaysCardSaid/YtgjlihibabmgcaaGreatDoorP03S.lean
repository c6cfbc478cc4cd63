/-
  Several texts as one: FlRef, LcKind, LcMod, LcRep, KpPure, CfArgB, CfArgE, FlKey, KpFit, KpMem, KpMore, PlPure, CfSplit, ScPure, Shelf2, LoPure, FlSt, FlOps, FlNew, LoClone, AlOff, GaOff, FlOff, LoMem, LoWat.
-/
import Derived.Test.YtgjlihibabmgcaaGreatDoorP02S
import Derived.ProofKit
import Derived.OpenShut
import Derived.Deep.Slices
import Derived.Carry
import Derived.DeepKeys4
import Derived.Maps.OwnSet
import Derived.Maps.Own
import Derived.Lib.Split
import Derived.Lib.Atoi
import Derived.Lib.AtoiBound
import Derived.Lib.Join
import Derived.Lib.Replace
import Derived.Lib.Strings
import Derived.Shelf.LaysC
import Derived.Shelf.Strconv.Atoi
import Derived.Shelf.Strconv.AtoiErr
import Derived.Shelf.Strings.OnBuilder
import Derived.Shelf.Strings.Replace
import Derived.Maps.RangeWalk
import Derived.Maps.AppendAt
import Derived.Lib.LazyBuf
set_option linter.all false
set_option maxHeartbeats 40000000
set_option maxRecDepth 100000
abbrev iH:=@Go.World.ownsRow.kept
abbrev eh:=@Go.Proofs.YtgjlihibabmgcaaGreatDoor.goodRun.val
abbrev rf.{u}:=@List.take_append_drop.{u}
abbrev oU:=@Go.DataW.trod_int
abbrev sq.{u}:=@List.length_pos_iff.{u}
abbrev su.{u}:=@List.getElem_of_mem.{u}
abbrev vr:=@Nat.eq_zero_or_pos
abbrev vt:=@Go.World.grownBy.refl
abbrev nZ:=@Go.Proofs.YtgjlihibabmgcaaGreatDoor.goodRun.call
abbrev xA:=@Go.run_eql_slice_nil
abbrev qw.{u}:=@beq_iff_eq.{u}
abbrev DW.{u}:=@List.getElem?_set_self.{u}
abbrev rh:=@and_true
open Go renaming Addr→aC,Value→aw,World→ak
open Go.Addr renaming mk→ai
open Go.Ending renaming returned→ax
open Go.IntKind renaming i64→af
open Go.Obj renaming cells→ay
open Go.RowKit renaming Hid→U
open Go.Value renaming agg→bK,bool→aL,int→ae,ownBlock→dF,pointer→aq,slice→aj,string→aA,tuple→bn
open Go.World renaming cell?→aH,frozen?→bM,setCell→bN
open Option renaming none→I,some→J
open Go.Proofs.Tryz
namespace Go.Proofs.YtgjlihibabmgcaaGreatDoor
open Go.Extern Go.Extern.Stop Go.RowKit Go.Stop
variable{D:DataW Unit}{H:Type}{T Ts:TypeId}{W:ak}{a:aC}{cyc:Int}{e:aM}{i j k kd n:Nat}{l:List b_}{ns:List Int}{s:aZ}{v:aw}{w:Bs}{ws:List Bs}
def abG(e:aM)(pa ga ea fa la:Option aC)(pc gc ec fc lc:Nat)(l:List b_)(k:Nat)(sa:Option aC)(cap:Nat)(w:ak)(hP:fh w e (aj pa e.au.length pc) (aj ga e.aV.length gc) (aj ea e.aP.length ec) (aj fa e.first.length fc) (aj la e.last.length lc))(hS:gG e)(hl:bw lJ 3 w (aj sa l.length cap) l)(hn:l.length<=1000)(hk:k<=l.length):Calls prog 247 #[.agg (eR e pa pc ga gc ea ec fa fc la lc),aj sa l.length cap,ae af (k:Int)] w λv w'=>v=ax (ae af (jw e (l.take k)))/\Below w.heap.size w w':=by
 unfold eR;have HP:U (∀V,Below w.heap.size w V->fh V e (aj pa e.au.length pc) (aj ga e.aV.length gc) (aj ea e.aP.length ec) (aj fa e.first.length fc) (aj la e.last.length lc)):=λV hV=>hP.below hV
 have eG:U (gG e):=hS;have HL:U (bw lJ 3 w (aj sa l.length cap) l):=hl;clear hP hS hl
 cases k with
 |zero=>
  have HR:U (jw e (l.take 0)=-1):=rfl;go_enter func247,ntmps247
  go_wp2;go_ret;exact⟨by rw[HR.o];rfl,aS _ _⟩
 |succ k=>
  obtain⟨m,hm⟩:∃m,l[k]?=J m:=⟨_,bq (by omega)⟩;have HR:U (jw e (l.take (k+1))=jc e m.pt):=WQ hm;obtain⟨bQ,cap',bH,-,hcc⟩:=id HL.o
  cases bH
  obtain⟨gb,o,rfl,hc0⟩:=hcc (λh=>by rw[h]at hm;simp at hm);have ic:U (w.cell? ⟨gb,o+k*3,I⟩=J (ae af m.pt)):=hc0 k m hm 0 _ rfl;have k1:k<1000:=by omega
  have k2:(k:Int)<(l.length:Int):=by omega
  have e1:((k+1:Nat):Int)=(k:Int)+1:=by omega
  rw[e1];clear hcc hc0 hm e1 hk hn HL;go_enter func247,ntmps247
  go_upto_region 3 with fail
  all_goals (try (exfalso;omega))
  obtain⟨W,hW⟩:∃V,V=w.alloc (ay (eR e pa pc ga gc ea ec fa fc la lc) 58):=⟨_,rfl⟩;rw[<- hW];have cx:U (Below w.heap.size w W):=by show Below _ _ _;rw[hW];exact aS _ _
  have HX:U (∀V,Below W.heap.size W V->∀(j:Nat) u,((eR e pa pc ga gc ea ec fa fc la lc):Array aw)[j]?=J u->V.cell? (ai w.heap.size j I)=J u):=λV hV j u hu=>by
   refine aJ hV ?_;rw[hW];have:=mP w [aA e.name,ae af e.bh,aj pa e.au.length pc,ae af e.cnt,ae af e.mn,ae af e.mx,aj ga e.aV.length gc,aj ea e.aP.length ec,aj fa e.first.length fc,aj la e.last.length lc] 58 j u (by simpa using hu);rw[kM]at this;simpa using this
  clear hW;have c0:W.cell? ⟨gb,o+k*3,I⟩=J (ae af m.pt):=aJ cx ic;have p2:=HX W (aF _ _) 2 _ rfl;have p9:=HX W (aF _ _) 9 _ rfl
  by_cases q0:m.pt<0
  ·have HQ:U (jc e m.pt=-1):=by show _=_;unfold jc fq;rw[aK (by rw[bV (by omega)];simp)]
   go_wp2;go_ret;exact⟨by rw[HR.o,HQ.o];rfl,cx⟩
  by_cases q1:(e.au.length:Int)<=m.pt
  ·have HQ:U (jc e m.pt=-1):=by show _=_;unfold jc fq;rw[aK (by rw[bV (p:=m.pt<_) (by omega)];simp)]
   go_wp2;go_ret;exact⟨by rw[HR.o,HQ.o];rfl,cx⟩
  have HH:U (fq e m.pt=true):=by show _=_;unfold fq;rw[bD (by omega),bD (by omega)];rfl
  by_cases q2:m.pt∈e.last
  ·have HQ:U (jc e m.pt=-1):=by show _=_;unfold jc;rw[aK (λh=>h.2 q2)]
   have hd:(e.last.any λy=>decide (m.pt=y))=true:=by rw[KA];exact bD q2
   clear q2;go_wp2_with (go_at_call 91;refine(Gy e.last m.pt _ _ _ (HP _ cx).hl eG.hl).mono ?_;rw[hd];rintro v w' ⟨rfl,rfl⟩)
   go_ret;exact⟨by rw[HR.o,HQ.o];rfl,cx⟩
  have HQ:U (jc e m.pt=m.pt):=by show _=_;unfold jc;rw[aU ⟨HH.o,q2⟩]
  have hd:(e.last.any λy=>decide (m.pt=y))=false:=by rw[KA];exact bV q2
  clear q2;go_wp2_with (go_at_call 91;refine(Gy e.last m.pt _ _ _ (HP _ cx).hl eG.hl).mono ?_;rw[hd];rintro v w' ⟨rfl,rfl⟩)
  go_ret;exact⟨by rw[HR.o,HQ.o];rfl,cx⟩
def KD(e:aM)(pa ga ea fa la:Option aC)(pc gc ec fc lc:Nat)(gb o cap k:Nat)(l:List b_)(m:b_):Nat->aw->ak->Prop
 |0=>λv _=>v=.agg (eR e pa pc ga gc ea ec fa fc la lc)
 |1=>λv _=>v=.agg (eR e pa pc ga gc ea ec fa fc la lc)
 |2=>λv _=>v=aj (J (ai gb o I)) l.length cap
 |3=>λv _=>v=ae af (k:Int)
 |4=>λv _=>v=ae af (jw e (l.take k))
 |5=>λv _=>v=aj (J (ai gb o I)) l.length cap
 |6=>λv _=>v=ae af (k:Int)
 |7=>λv _=>v=aq (J ⟨gb,o+k*3,I⟩)
 |8=>λv _=>v=aq (J ⟨gb,o+k*3,I⟩)
 |9=>λv _=>v=ae af m.pt
 |10=>λv _=>v=aL (iu e (jw e (l.take k)) m.pt)
 |11=>λv _=>v=aL (iu e (jw e (l.take k)) m.pt)
 |_=>λ_ _=>True
def QV{pa ga ea fa la:Option aC}{pc gc ec fc lc:Nat}{gb o cap:Nat}{m:b_}{w w':ak}:∀j v,KD e pa ga ea fa la pc gc ec fc lc gb o cap k l m j v w->KD e pa ga ea fa la pc gc ec fc lc gb o cap k l m j v w':=by
 intro j v h
 match j,h with
 |0,h=>exact h
 |1,h=>exact h
 |2,h=>exact h
 |3,h=>exact h
 |4,h=>exact h
 |5,h=>exact h
 |6,h=>exact h
 |7,h=>exact h
 |8,h=>exact h
 |9,h=>exact h
 |10,h=>exact h
 |11,h=>exact h
 |n+12,h=>exact h
def abH(e:aM)(pa ga ea fa la:Option aC)(pc gc ec fc lc:Nat)(l:List b_)(cyc:Int)(sa:Option aC)(cap:Nat)(w:ak)(hP:fh w e (aj pa e.au.length pc) (aj ga e.aV.length gc) (aj ea e.aP.length ec) (aj fa e.first.length fc) (aj la e.last.length lc))(hS:gG e)(hl:bw lJ 3 w (aj sa l.length cap) l)(hn:l.length<=1000):Calls prog 209 #[.agg (eR e pa pc ga gc ea ec fa fc la lc),aj sa l.length cap,ae af cyc] w λv w'=>v=ax (aL (nk e l cyc))/\Below w.heap.size w w':=by
 unfold eR;have HP:U (∀V,Below w.heap.size w V->fh V e (aj pa e.au.length pc) (aj ga e.aV.length gc) (aj ea e.aP.length ec) (aj fa e.first.length fc) (aj la e.last.length lc)):=λV hV=>hP.below hV
 have eG:U (gG e):=hS;have HL:U (∀V,Below w.heap.size w V->bw lJ 3 V (aj sa l.length cap) l):=λV hV=>hl.below hV
 have HN:U (l.length<=1000):=hn;go_enter func209,ntmps209
 go_upto_region 1 with fail
 obtain⟨W,hW⟩:∃V,V=w.alloc (ay (eR e pa pc ga gc ea ec fa fc la lc) 58):=⟨_,rfl⟩;rw[<- hW];have cx:U (Below w.heap.size w W):=by show Below _ _ _;rw[hW];exact aS _ _
 have HX:U (∀V,Below W.heap.size W V->∀(j:Nat) u,((eR e pa pc ga gc ea ec fa fc la lc):Array aw)[j]?=J u->V.cell? (ai w.heap.size j I)=J u):=λV hV j u hu=>by
  refine aJ hV ?_;rw[hW];have:=mP w [aA e.name,ae af e.bh,aj pa e.au.length pc,ae af e.cnt,ae af e.mn,ae af e.mx,aj ga e.aV.length gc,aj ea e.aP.length ec,aj fa e.first.length fc,aj la e.last.length lc] 58 j u (by simpa using hu);rw[kM]at this;simpa using this
 go_cut [7] (λi wx=>i=ae af 0/\wx=W)
 case first=>
  go_wp2
  go_meet
  case rel=>exact⟨rfl,rfl⟩
 obtain⟨rfl,rfl⟩:=hcut;rename ak=>W
 go_wp2_with fail
 go_loopw [7,8] (λi _ wr=>∃k:Nat,k<=l.length/\i=ae af k/\Below W.heap.size W wr/\∀j,j<k->nj e l cyc j=false) (λi _ _=>l.length-(intOf i).toNat)
 case atStart=>exact⟨0,bA _,rfl,aF _ _,λj hj=>absurd hj (by omega)⟩
 case round=>
  obtain⟨k,hk,rfl,dQ,Bn⟩:=hrel;have HB:U (Below W.heap.size W wr):=dQ;have dV:U (Below w.heap.size w wr):=cx.trans (dQ.mono cx.size);have xy:U (∀j,j<k->nj e l cyc j=false):=Bn
  by_cases hlt:k<l.length
  ·have k1:(k:Int)<(l.length:Int):=by omega
   have k2:k<1000:=by have:=HN.o;omega
   obtain⟨m,hm⟩:∃m,l[k]?=J m:=⟨_,bq hlt⟩;have HM:U (l[k]?=J m):=hm;obtain⟨bQ,cap',bH,-,hcc⟩:=HL wr dV
   cases bH
   obtain⟨gb,o,rfl,hc0⟩:=hcc (λh=>by rw[h]at hm;simp at hm);have ic:U (wr.cell? ⟨gb,o+k*3,I⟩=J (ae af m.pt)):=hc0 k m hm 0 _ rfl;have qU:U (wr.cell? ⟨gb,o+k*3+2,I⟩=J (ae af m.cyc)):=hc0 k m hm 2 _ rfl;have kN:U (∀(j:Nat) u,((eR e pa pc ga gc ea ec fa fc la lc):Array aw)[j]?=J u->wr.cell? (ai w.heap.size j I)=J u):=HX wr HB;have QW:U (∀V,Below wr.heap.size wr V->fh V e (aj pa e.au.length pc) (aj ga e.aV.length gc) (aj ea e.aP.length ec) (aj fa e.first.length fc) (aj la e.last.length lc)):=λV hV=>HP V (dV.trans (hV.mono dV.size))
   have abI:U (∀V,Below wr.heap.size wr V->bw lJ 3 V (aj (J (ai gb o I)) l.length cap) l):=λV hV=>HL V (dV.trans (hV.mono dV.size))
   go_upto_region 4 with fail
   go_cut [8,15,16,17,18,19,20,21,22,23,24,25] (λv _ _ _ _ _ _ _ _ _ _ _ wx=>v=aL (iu e (jw e (l.take k)) m.pt)/\Below wr.heap.size wr wx)
   case first=>
    refine tT 12 rfl (KD e pa ga ea fa la pc gc ec fc lc gb o cap k l m) (λV=>Below wr.heap.size wr V) (by kernel_rfl) (by kernel_rfl) (aF _ _).drew ?_ ?_
    ·refine mM ⟨?_,?_,?_,?_,?_,?_,?_,?_,?_,?_,?_,?_,trivial⟩
     all_goals
      refine ql.free rfl ?_;intro a V hC aB aQ
     ·have x3:a.tmps[3]?.getD undef=aq (J (ai w.heap.size 0 I)):=aW (aQ 3 (dS (by kernel_rfl)));have b0:V.cell? (ai w.heap.size 0 I)=J (_):=aJ hC (kN 0 _ rfl);have b1:V.cell? (ai w.heap.size 1 I)=J (_):=aJ hC (kN 1 _ rfl);have b2:V.cell? (ai w.heap.size 2 I)=J (_):=aJ hC (kN 2 _ rfl);have b3:V.cell? (ai w.heap.size 3 I)=J (_):=aJ hC (kN 3 _ rfl);have b4:V.cell? (ai w.heap.size 4 I)=J (_):=aJ hC (kN 4 _ rfl);have b5:V.cell? (ai w.heap.size 5 I)=J (_):=aJ hC (kN 5 _ rfl);have b6:V.cell? (ai w.heap.size 6 I)=J (_):=aJ hC (kN 6 _ rfl);have b7:V.cell? (ai w.heap.size 7 I)=J (_):=aJ hC (kN 7 _ rfl);have b8:V.cell? (ai w.heap.size 8 I)=J (_):=aJ hC (kN 8 _ rfl);have b9:V.cell? (ai w.heap.size 9 I)=J (_):=aJ hC (kN 9 _ rfl);exact eh (c:=.agg (eR e pa pc ga gc ea ec fa fc la lc)) (by clear aB aQ;go_simp) hC rfl
     ·have x3:a.tmps[3]?.getD undef=aq (J (ai w.heap.size 0 I)):=aW (aQ 3 (dS (by kernel_rfl)));have b0:V.cell? (ai w.heap.size 0 I)=J (_):=aJ hC (kN 0 _ rfl);have b1:V.cell? (ai w.heap.size 1 I)=J (_):=aJ hC (kN 1 _ rfl);have b2:V.cell? (ai w.heap.size 2 I)=J (_):=aJ hC (kN 2 _ rfl);have b3:V.cell? (ai w.heap.size 3 I)=J (_):=aJ hC (kN 3 _ rfl);have b4:V.cell? (ai w.heap.size 4 I)=J (_):=aJ hC (kN 4 _ rfl);have b5:V.cell? (ai w.heap.size 5 I)=J (_):=aJ hC (kN 5 _ rfl);have b6:V.cell? (ai w.heap.size 6 I)=J (_):=aJ hC (kN 6 _ rfl);have b7:V.cell? (ai w.heap.size 7 I)=J (_):=aJ hC (kN 7 _ rfl);have b8:V.cell? (ai w.heap.size 8 I)=J (_):=aJ hC (kN 8 _ rfl);have b9:V.cell? (ai w.heap.size 9 I)=J (_):=aJ hC (kN 9 _ rfl);exact eh (c:=.agg (eR e pa pc ga gc ea ec fa fc la lc)) (by clear aB aQ;go_simp) hC rfl
     ·have x1:a.tmps[1]?.getD undef=aj (J (ai gb o I)) l.length cap:=aW (aQ 1 (dS (by kernel_rfl)));exact eh (c:=aj (J (ai gb o I)) l.length cap) (by clear aB aQ;go_simp) hC rfl
     ·have x7:a.tmps[7]?.getD undef=ae af (k:Int):=aW (aQ 7 (dS (by kernel_rfl)));exact eh (c:=ae af (k:Int)) (by clear aB aQ;go_simp) hC rfl
     ·have GD:a.tmps[16]?.getD undef=.agg (eR e pa pc ga gc ea ec fa fc la lc):=aW (aB _ 16 (bj (i:=0) rfl) rfl rfl);have KF:a.tmps[17]?.getD undef=aj (J (ai gb o I)) l.length cap:=aW (aB _ 17 (bj (i:=1) rfl) rfl rfl);have GF:a.tmps[18]?.getD undef=ae af (k:Int):=aW (aB _ 18 (bj (i:=2) rfl) rfl rfl)
      refine nZ (f:=247) (args:=#[.agg (eR e pa pc ga gc ea ec fa fc la lc),aj (J (ai gb o I)) l.length cap,ae af (k:Int)]) (by clear aB aQ;go_simp) ?_
      apply(abG e pa ga ea fa la pc gc ec fc lc l k _ _ V (QW V hC) eG (abI V hC) HN (by omega)).mono;rintro v V' ⟨rfl,hb⟩;exact⟨_,rfl,hC.trans (hb.mono hC.size),QV,rfl⟩
     ·have x1:a.tmps[1]?.getD undef=aj (J (ai gb o I)) l.length cap:=aW (aQ 1 (dS (by kernel_rfl)));exact eh (c:=aj (J (ai gb o I)) l.length cap) (by clear aB aQ;go_simp) hC rfl
     ·have x7:a.tmps[7]?.getD undef=ae af (k:Int):=aW (aQ 7 (dS (by kernel_rfl)));exact eh (c:=ae af (k:Int)) (by clear aB aQ;go_simp) hC rfl
     ·have KG:a.tmps[20]?.getD undef=aj (J (ai gb o I)) l.length cap:=aW (aB _ 20 (bj (i:=0) rfl) rfl rfl);have Gr:a.tmps[21]?.getD undef=ae af (k:Int):=aW (aB _ 21 (bj (i:=1) rfl) rfl rfl);exact eh (c:=aq (J ⟨gb,o+k*3,I⟩)) (by clear aB aQ;go_simp) hC rfl
     ·have Gq:a.tmps[22]?.getD undef=aq (J ⟨gb,o+k*3,I⟩):=aW (aB _ 22 (bj (i:=0) rfl) rfl rfl);exact eh (c:=aq (J ⟨gb,o+k*3,I⟩)) (by clear aB aQ;go_simp) hC rfl
     ·have Kg:a.tmps[23]?.getD undef=aq (J ⟨gb,o+k*3,I⟩):=aW (aB _ 23 (bj (i:=0) rfl) rfl rfl);have c0:V.cell? ⟨gb,o+k*3,I⟩=J (ae af m.pt):=aJ hC ic;exact eh (c:=ae af m.pt) (by clear aB aQ;go_simp) hC rfl
     ·have GG:a.tmps[15]?.getD undef=.agg (eR e pa pc ga gc ea ec fa fc la lc):=aW (aB _ 15 (bj (i:=0) rfl) rfl rfl);have KH:a.tmps[19]?.getD undef=ae af (jw e (l.take k)):=aW (aB _ 19 (bj (i:=1) rfl) rfl rfl);have QJ:a.tmps[24]?.getD undef=ae af m.pt:=aW (aB _ 24 (bj (i:=2) rfl) rfl rfl)
      refine nZ (f:=246) (args:=#[.agg (eR e pa pc ga gc ea ec fa fc la lc),ae af (jw e (l.take k)),ae af m.pt]) (by clear aB aQ;go_simp) ?_
      apply(abF e pa ga ea fa la pc gc ec fc lc (jw e (l.take k)) m.pt V (QW V hC) eG (by rcases WR e (l.take k)with h|h;exact aT h;exact aN h.1)).mono;rintro v V' ⟨rfl,hb⟩;exact⟨_,rfl,hC.trans (hb.mono hC.size),QV,rfl⟩
     have Ke:a.tmps[25]?.getD undef=aL (iu e (jw e (l.take k)) m.pt):=aW (aB _ 25 (bj (i:=0) rfl) rfl rfl);exact eh (c:=aL (iu e (jw e (l.take k)) m.pt)) (by clear aB aQ;go_simp) hC rfl
    intro vals V hC hS;have v11:vals 11=aL (iu e (jw e (l.take k)) m.pt):=hS 11 (ar rfl);have Bq:U (Below wr.heap.size wr V):=hC;simp only[fill,dZ];go_simp
    go_wp2
    go_meet
    case rel=>exact⟨rfl,Bq⟩
   obtain⟨rfl,hb2⟩:=hcut;rename ak=>W2
   have cB:U (Below wr.heap.size wr W2):=hb2;have c2:W2.cell? ⟨gb,o+k*3+2,I⟩=J (ae af m.cyc):=aJ hb2 qU;have HI:U (nj e l cyc k=(decide (m.cyc=cyc) && !iu e (jw e (l.take k)) m.pt)):=by show _=_;unfold nj;rw[HM.o];rfl
   have Bo:U (nj e l cyc k=false->∀j,j<k+1->nj e l cyc j=false):=λh j hj=>by
    rcases fF j k with h1|h1
    ·exact xy j h1
    rw[show j=k by omega];exact h
   by_cases g1:m.cyc=cyc
   ·cases g2:iu e (jw e (l.take k)) m.pt
    ·have HT:U (nk e l cyc=true):=WS hlt (by rw[HI.o,bD g1,g2];rfl);go_wp2;go_ret;exact⟨by rw[HT.o];rfl,dV.trans (cB.mono dV.size)⟩
    have HF:U (nj e l cyc k=false):=by show _=_;rw[HI.o,g2,Bool.not_true,zb]
    go_wp2
    go_roundw
    case rel=>exact⟨k+1,by omega,by go_num,HB.trans (cB.mono HB.size),Bo HF⟩
    case measure=>simp[intOf];omega
   have HF:U (nj e l cyc k=false):=by show _=_;rw[HI.o,bV g1];rfl
   go_wp2
   go_roundw
   case rel=>exact⟨k+1,by omega,by go_num,HB.trans (cB.mono HB.size),Bo HF⟩
   case measure=>simp[intOf];omega
  have k1:¬(k:Int)<(l.length:Int):=by omega
  have HF:U (nk e l cyc=false):=OZ λj hj=>xy j (by omega)
  go_wp2;go_ret;exact⟨by rw[HF.o];rfl,dV⟩
def zn(e:aM)(l:List b_)(cyc:Int):Bool:=decide (0<=e.cnt/\0<cyc/\((gi e.cnt l cyc:Int)<e.mn\/e.mx<(gi e.cnt l cyc:Int)))
def abJ(h:zn e l cyc=true):lg e l cyc=1:=by
 unfold lg;rw[aU (ar h)]
def abK(h:zn e l cyc=false){g:eT}(hg:e.aV[k]?=J g)(hb:kG g l cyc=true):lg e l cyc=2:=by
 unfold lg;rw[aK (of_decide_eq_false h),aU (kD.2 ⟨g,bP hg,hb⟩)]
def abL(h:zn e l cyc=false)(hg:∀(k:Nat) g,e.aV[k]?=J g->kG g l cyc=false):lg e l cyc=if nk e l cyc=true then 3 else 0:=by
 unfold lg;rw[aK (of_decide_eq_false h),aK];intro h1;obtain⟨g,hm,hb⟩:=kD.1 h1;obtain⟨k,hk⟩:=r7 hm;rw[hg k g hk]at hb
 cases hb
def abM(e:aM)(pa ga ea fa la:Option aC)(pc gc ec fc lc:Nat)(l:List b_)(cyc:Int)(sa:Option aC)(cap:Nat)(w:ak)(hP:fh w e (aj pa e.au.length pc) (aj ga e.aV.length gc) (aj ea e.aP.length ec) (aj fa e.first.length fc) (aj la e.last.length lc))(hS:gG e)(hl:bw lJ 3 w (aj sa l.length cap) l)(hn:l.length<=1000)(ht:∀m∈l,0<=m.tick/\m.tick<=1099511627776):Calls prog 177 #[.agg (eR e pa pc ga gc ea ec fa fc la lc),aj sa l.length cap,ae af cyc] w λv w'=>v=ax (ae af (lg e l cyc))/\Below w.heap.size w w':=by
 unfold eR;have HP:U (∀V,Below w.heap.size w V->fh V e (aj pa e.au.length pc) (aj ga e.aV.length gc) (aj ea e.aP.length ec) (aj fa e.first.length fc) (aj la e.last.length lc)):=λV hV=>hP.below hV
 have eG:U (gG e):=hS;have HL:U (∀V,Below w.heap.size w V->bw lJ 3 V (aj sa l.length cap) l):=λV hV=>hl.below hV
 have HN:U (l.length<=1000):=hn;have HT:U (∀m∈l,0<=m.tick/\m.tick<=1099511627776):=ht;clear hP hS hl hn ht;go_enter func177,ntmps177
 go_upto_region 1 with fail
 obtain⟨W,hW⟩:∃V,V=w.alloc (ay (eR e pa pc ga gc ea ec fa fc la lc) 58):=⟨_,rfl⟩;rw[<- hW];have cx:U (Below w.heap.size w W):=by show Below _ _ _;rw[hW];exact aS _ _
 have HX:U (∀V,Below W.heap.size W V->V.heap[w.heap.size]?=J (ay (eR e pa pc ga gc ea ec fa fc la lc) 58 (0,0))):=λV hV=>a8 hV (by rw[hW];exact cj w _)
 clear hW;go_wp2_with (refine pB rfl 58 _ rfl w.heap.size rfl _ _ _ _ (HX W (aF _ _)) underlying58 rfl vk ?_)
 apply(abl e pa ga ea fa la pc gc ec fc lc l cyc sa cap W (HL W cx) HN).mono;rintro v w1 ⟨rfl,hb1⟩;have bu:U (Below W.heap.size W w1):=hb1;clear hb1;have HA:U (zn e l cyc=decide (0<=e.cnt/\0<cyc/\((gi e.cnt l cyc:Int)<e.mn\/e.mx<(gi e.cnt l cyc:Int)))):=rfl;obtain⟨B,hB⟩:∃B,B=zn e l cyc:=⟨_,rfl⟩;have GH:U (B=zn e l cyc):=hB;rw[<- hB]at HA;clear hB;have mo:gi e.cnt l cyc<=1000:=bp (Ki ..) HN;generalize gi e.cnt l cyc=n at *;have x3:w1.cell? (ai w.heap.size 3 I)=J (ae af e.cnt):=by have:=HX w1 bu;simp[aH,this]
 have x4:w1.cell? (ai w.heap.size 4 I)=J (ae af e.mn):=by have:=HX w1 bu;simp[aH,this]
 have x5:w1.cell? (ai w.heap.size 5 I)=J (ae af e.mx):=by have:=HX w1 bu;simp[aH,this]
 go_upto_region 2 with fail
 go_cut [33] (λv wx=>v=aL B/\wx=w1)
 case first=>
  by_cases h0:0<=e.cnt
  ·by_cases h1:0<cyc
   ·by_cases h2:(n:Int)<e.mn
    ·have HV:U (B=true):=by show _=_;rw[HA.o];exact bD ⟨h0,h1,aT h2⟩
     go_wp2
     go_meet
     case rel=>exact⟨by rw[HV.o],rfl⟩
    by_cases h3:e.mx<(n:Int)
    ·have HV:U (B=true):=by show _=_;rw[HA.o];exact bD ⟨h0,h1,aN h3⟩
     go_wp2
     go_meet
     case rel=>exact⟨by rw[HV.o],rfl⟩
    have HV:U (B=false):=by show _=_;rw[HA.o];exact bV (λx=>x.2.2.elim h2 h3)
    go_wp2
    go_meet
    case rel=>exact⟨by rw[HV.o],rfl⟩
   have HV:U (B=false):=by show _=_;rw[HA.o];exact bV (λx=>h1 x.2.1)
   go_wp2
   go_meet
   case rel=>exact⟨by rw[HV.o],rfl⟩
  have HV:U (B=false):=by show _=_;rw[HA.o];exact bV (λx=>h0 x.1)
  go_wp2
  go_meet
  case rel=>exact⟨by rw[HV.o],rfl⟩
 obtain⟨rfl,rfl⟩:=hcut;rename ak=>w1
 have KI:U (Below w.heap.size w w1):=cx.trans (bu.mono cx.size);clear x3 x4 x5 HA mo
 cases B with
 |true=>
  have HE:U (lg e l cyc=1):=abJ GH.symm;clear GH;go_wp2;go_ret;exact⟨by rw[HE.o];rfl,KI⟩
 |false=>
  have HA:U (zn e l cyc=false):=GH.symm;clear GH;go_upto_region 4 with fail
  go_cut [8] (λi wx=>i=ae af 0/\wx=w1)
  case first=>
   go_wp2
   go_meet
   case rel=>exact⟨rfl,rfl⟩
  obtain⟨rfl,rfl⟩:=hcut;rename ak=>w1
  go_wp2_with fail
  go_loopw [8,9] (λiv _ wr=>∃k:Nat,k<=e.aV.length/\iv=ae af k/\Below w1.heap.size w1 wr/\∀(j:Nat) g,j<k->e.aV[j]?=J g->kG g l cyc=false) (λiv _ _=>e.aV.length-(intOf iv).toNat)
  case atStart=>exact⟨0,bA _,rfl,aF _ _,λj g hj=>absurd hj (by omega)⟩
  case round=>
   obtain⟨k,hk,rfl,dQ,Bn⟩:=hrel;have HB:U (Below w1.heap.size w1 wr):=dQ;have dV:U (Below w.heap.size w wr):=KI.trans (dQ.mono KI.size);have GI:U (Below W.heap.size W wr):=bu.trans (dQ.mono bu.size);have xy:U (∀(j:Nat) g,j<k->e.aV[j]?=J g->kG g l cyc=false):=Bn;have x6:wr.cell? (ai w.heap.size 6 I)=J (aj ga e.aV.length gc):=by have:=HX wr GI;simp[aH,this]
   have abN:U (e.aV.length<=1000000):=eG.hg;clear dQ Bn
   by_cases hlt:k<e.aV.length
   ·have k1:(k:Int)<(e.aV.length:Int):=by omega
    have k2:k<1000000:=by have:=abN.o;omega
    obtain⟨g,hg⟩:∃g,e.aV[k]?=J g:=⟨_,bq hlt⟩;have HG:U (e.aV[k]?=J g):=hg;obtain⟨bQ,cap',bH,-,hcc⟩:=(HP wr dV).hg
    cases bH
    obtain⟨gb,o,rfl,hc0⟩:=hcc (λh=>by rw[h]at hg;simp at hg);have c0:wr.cell? ⟨gb,o+k*4,I⟩=J (ae af g.fr):=hc0 k g hg 0 _ rfl;have c1:wr.cell? ⟨gb,o+k*4+1,I⟩=J (ae af g.to):=hc0 k g hg 1 _ rfl;have c2:wr.cell? ⟨gb,o+k*4+2,I⟩=J (ae af g.mn):=hc0 k g hg 2 _ rfl;have c3:wr.cell? ⟨gb,o+k*4+3,I⟩=J (ae af g.mx):=hc0 k g hg 3 _ rfl;clear hcc hc0 hg;go_wp2_with fail
    apply(abC g l cyc sa cap wr (HL wr dV) HN HT).mono;rintro v w2 ⟨rfl,hb2⟩;have cB:U (Below w1.heap.size w1 w2):=HB.trans (hb2.mono HB.size);have GJ:U (Below w.heap.size w w2):=dV.trans (hb2.mono dV.size);clear hb2 c0 c1 c2 c3 x6
    cases hgb:kG g l cyc with
    |true=>
     have HE:U (lg e l cyc=2):=abK HA HG hgb;clear hgb;go_wp2;go_ret;exact⟨by rw[HE.o];rfl,GJ⟩
    |false=>
     have Br:U (∀(j:Nat) g',j<k+1->e.aV[j]?=J g'->kG g' l cyc=false):=λj g' hj cM=>by
      rcases fF j k with h1|h1
      ·exact xy j g' h1 cM
      obtain rfl:j=k:=by omega
      obtain rfl:=fg (HG.symm.trans cM);exact hgb
     clear hgb;go_wp2
     go_roundw
     case rel=>exact⟨k+1,hlt,rfl,cB,Br⟩
     case measure=>simp[intOf];omega
   have k1:¬(k:Int)<(e.aV.length:Int):=by omega
   have HE:U (lg e l cyc=if nk e l cyc=true then 3 else 0):=abL HA (λj g hj=>xy j g (by have:=(df.1 hj).1;omega) hj);go_wp2_with (refine pB rfl 58 _ rfl w.heap.size rfl _ _ _ _ (HX wr GI) underlying58 rfl vk ?_)
   apply(abH e pa ga ea fa la pc gc ec fc lc l cyc sa cap wr (HP wr dV) eG (HL wr dV) HN).mono;rintro v w2 ⟨rfl,hb2⟩;have GJ:U (Below w.heap.size w w2):=dV.trans (hb2.mono dV.size);clear hb2 x6
   cases lK:nk e l cyc with
   |true=>
    have jD:U (lg e l cyc=3):=by show _=_;rw[HE.o,lK];rfl
    clear lK HE;go_wp2;go_ret;exact⟨by rw[jD.o];rfl,GJ⟩
   |false=>
    have jD:U (lg e l cyc=0):=by show _=_;rw[HE.o,lK];rfl
    clear lK HE;go_wp2;go_ret;exact⟨by rw[jD.o];rfl,GJ⟩
def pF{w:ak}{b:Nat}{cs:Array aw}(h:w.heap[b]?=J (ay cs T (0,0)))(u:aw):(w.setCell (ai b j I) u).heap[b]?=J (ay (cs.setIfInBounds j u) T (0,0)):=by
 simp only[bN,cL,h];simp
section
variable {w0 w w':ak}{b:Nat}{e:aM}{pa ga ea fa la:Option aC}{pc gc ec fc lc:Nat}{s s':aZ}{sv sv':aw}
def ri(e:aM)(pa ga ea fa la:Option aC)(pc gc ec fc lc:Nat)(s:aZ)(sv:aw):Array aw:=#[aA e.name,ae af e.bh,aj pa e.au.length pc,ae af e.cnt,ae af e.mn,ae af e.mx,aj ga e.aV.length gc,aj ea e.aP.length ec,aj fa e.first.length fc,aj la e.last.length lc,aL s.act,ae af s.since,sv,ae af s.run,aL s.ex]
structure fY(w0 w:ak)(b:Nat)(e:aM)(pa ga ea fa la:Option aC)(pc gc ec fc lc:Nat)(s:aZ)(sv:aw):Prop where
 heap:w.heap[b]?=J (ay (ri e pa ga ea fa la pc gc ec fc lc s sv) 128 (0,0))
 own:tU w0.heap.size w sv s.ms
 aY:Below w0.heap.size w0 w
 lo:w0.heap.size<=b
def fY.cell(h:fY w0 w b e pa ga ea fa la pc gc ec fc lc s sv)(j:Nat)(u:aw)(hu:(ri e pa ga ea fa la pc gc ec fc lc s sv)[j]?=J u):w.cell? (ai b j I)=J u:=by
 simp[aH,h.heap,hu]
def fY.frozen(h:fY w0 w b e pa ga ea fa la pc gc ec fc lc s sv)(j:Nat):w.frozen? (ai b j I)=false:=by simp[bM,h.heap]
def fY.below(h:fY w0 w b e pa ga ea fa la pc gc ec fc lc s sv)(hb:Below w.heap.size w w'):fY w0 w' b e pa ga ea fa la pc gc ec fc lc s sv:=⟨a8 hb h.heap,h.own.below hb,h.aY.trans (hb.mono h.aY.size),h.lo⟩
def fY.put(h:fY w0 w b e pa ga ea fa la pc gc ec fc lc s sv)(j:Nat)(u:aw)(hr:(ri e pa ga ea fa la pc gc ec fc lc s sv).setIfInBounds j u=ri e pa ga ea fa la pc gc ec fc lc s' sv')(ho:tU w0.heap.size w sv' s'.ms):fY w0 (w.setCell (ai b j I) u) b e pa ga ea fa la pc gc ec fc lc s' sv':=
 ⟨by rw[<- hr];exact pF h.heap u,iH ho (bJ w b j u) (aN (qZ ho h.heap (ar rfl))),h.aY.setCell (p:=⟨b,j,I⟩) h.lo _,h.lo⟩
def abO(h:fY w0 w b e pa ga ea fa la pc gc ec fc lc s sv):Calls prog 52 #[aq (J (ai b 0 I))] w λv w'=>v=ax (ae af (if s.act then 10 else 0))/\(∃sv',fY w0 w' b e pa ga ea fa la pc gc ec fc lc s.begin sv'/\(sv'=sv\/sv'=aj I 0 0))/\w.grownBy w' (J b):=by
 obtain⟨act,since,ms,run,ex⟩:=s;have c10:w.cell? _=J (aL act):=h.cell 10 _ rfl
 cases act with
 |true=>
  have H:U _:=h;go_enter func52,ntmps52
  go_wp2;go_ret;exact⟨rfl,⟨sv,H,aT rfl⟩,vt _ _⟩
 |false=>
  have c11:w.cell? _=J (ae af since):=h.cell 11 _ rfl;have c12:w.cell? _=J (sv):=h.cell 12 _ rfl;have c13:w.cell? _=J (ae af run):=h.cell 13 _ rfl;have c14:w.cell? _=J (aL ex):=h.cell 14 _ rfl;have f10:=h.frozen 10;have f11:=h.frozen 11;have f12:=h.frozen 12;have f13:=h.frozen 13;have f14:=h.frozen 14;have h1:=h.put 10 (aL true) (s':=⟨_,_,ms,run,ex⟩) rfl h.own;have h2:=h1.put 11 (ae af 0) (s':=⟨_,0,ms,run,ex⟩) rfl h1.own;have h3:=h2.put 12 _ (s':=⟨_,0,[],run,ex⟩) (sv':=aj _ 0 0) rfl (gF ..);have h4:=h3.put 13 (ae af 0) (s':=⟨_,0,[],0,ex⟩) rfl h3.own;have h5:=h4.put 14 (aL false) (s':=⟨_,0,[],0,false⟩) rfl h4.own;have H:U _:=h5;have HG:U _:=((((bJ w b 10 (aL true)).trans (bJ _ b 11 (ae af 0))).trans (bJ _ b 12 (aj I 0 0))).trans (bJ _ b 13 (ae af 0))).trans (bJ _ b 14 (aL false));go_enter func52,ntmps52
  go_wp2;go_ret;exact⟨rfl,⟨_,H,aN rfl⟩,HG⟩
def abP(h:fY w0 w b e pa ga ea fa la pc gc ec fc lc s sv):Calls prog 53 #[aq (J (ai b 0 I))] w λv w'=>v=ax (ae af (if s.act then 0 else 9))/\fY w0 w' b e pa ga ea fa la pc gc ec fc lc s.stop sv/\w.grownBy w' (J b):=by
 obtain⟨act,since,ms,run,ex⟩:=s;have c10:w.cell? _=J (aL act):=h.cell 10 _ rfl
 cases act with
 |false=>
  have H:U _:=h;go_enter func53,ntmps53
  go_wp2;go_ret;exact⟨rfl,H,vt _ _⟩
 |true=>
  have f10:=h.frozen 10;have H:U _:=h.put 10 (aL false) (s':=⟨_,_,ms,run,ex⟩) rfl h.own;have HG:U _:=bJ w b 10 (aL false);go_enter func53,ntmps53
  go_wp2;go_ret;exact⟨rfl,H,HG⟩
def iY:Nat->ByteArray
 |0=>⟨#[105,100,108,101]⟩
 |1=>⟨#[111,107]⟩
 |2=>⟨#[102,97,105,108,101,100]⟩
 |_=>⟨#[101,120,112,105,114,101,100]⟩
def abQ(h:fY w0 w b e pa ga ea fa la pc gc ec fc lc s sv):Calls prog 32 #[aq (J (ai b 0 I))] w λv w'=>v=ax (aA (iY s.status))/\w'=w:=by
 obtain⟨act,since,ms,run,ex⟩:=s;have c10:w.cell? _=J (aL act):=h.cell 10 _ rfl;have c13:w.cell? _=J (ae af run):=h.cell 13 _ rfl;have c14:w.cell? _=J (aL ex):=h.cell 14 _ rfl
 cases act with
 |false=>
  go_enter func32,ntmps32
  go_wp2;go_ret;exact⟨rfl,rfl⟩
 |true=>
  cases ex with
  |true=>
   go_enter func32,ntmps32
   go_wp2;go_ret;exact⟨rfl,rfl⟩
  |false=>
   by_cases hr:0<run
   ·have HR:U (aZ.status ⟨true,since,ms,run,false⟩=2):=by show _=_;simp[aZ.status,hr]
    go_enter func32,ntmps32
    go_wp2;go_ret;exact⟨by rw[HR.o];rfl,rfl⟩
   have HR:U (aZ.status ⟨true,since,ms,run,false⟩=1):=by show _=_;simp[aZ.status,hr]
   go_enter func32,ntmps32
   go_wp2;go_ret;exact⟨by rw[HR.o];rfl,rfl⟩
end
section
variable {w0 w w':ak}{b:Nat}{e:aM}{pa ga ea fa la:Option aC}{pc gc ec fc lc:Nat}{s s':aZ}{sv sv':aw}
def aZ.DX(e:aM)(s:aZ)(p:Int):Int:=if s.act then (if fq e p=true then 0 else 5)else 9
end
open Go
structure aD where
 c:aI
 d:bR
 L:List Rec
 sp:Bool
 ls:List aZ
 t:bG
def aD.on(K:aD):Nat:=if K.c.off=true then 8 else if K.d.reset=true then 11 else 0
def aD.dT(K:aD)(i:Nat)(s:aZ):aD:={ K with ls:=K.ls.set i s }
def aZ.tZ(s:aZ):Nat:=if s.act then 10 else 0
def aZ.jQ(s:aZ):Nat:=if s.act then 0 else 9
def aZ.sw(e:aM)(s:aZ)(p:Int):Nat:=if s.act then (if fq e p=true then 0 else 5)else 9
def aD.begin(K:aD)(i:Int):aD×Nat:=
 if K.on≠0 then (K,K.on)else if i<0 then (K,5)else match K.ls[i.toNat]? with
 |none=>(K,5)
 |some s=>(K.dT i.toNat s.begin,s.tZ)
def aD.stop(K:aD)(i:Int):aD×Nat:=
 if K.on≠0 then (K,K.on)else if i<0 then (K,5)else match K.ls[i.toNat]? with
 |none=>(K,5)
 |some s=>(K.dT i.toNat s.stop,s.jQ)
def mQ:aM:=⟨⟨#[]⟩,0,[],0,0,0,[],[],[],[]⟩
def aD.report(c:aX)(K:aD)(i p:Int):aD×Nat:=
 if K.on≠0 then (K,K.on)else if i<0 then (K,5)else match K.ls[i.toNat]? with
 |none=>(K,5)
 |some s=>(K.dT i.toNat (s.rep (c.az.getD i.toNat mQ) p (K.d.now:Int)),s.sw (c.az.getD i.toNat mQ) p)
def aD.app(K:aD)(e k t:Nat):aD×Nat:=
 if K.sp=true then (K,8)else if (cU K.L).seq=4294967295 then (K,7)
 else if (K.c.dR (eL K.L e k t)).2=0 then ({ K with c:=(K.c.dR (eL K.L e k t)).1,L:=mg K.L (eL K.L e k t) },0)
 else ({ K with c:=(K.c.dR (eL K.L e k t)).1,sp:=true },(K.c.dR (eL K.L e k t)).2)
def aD.ig(c:aX)(K:aD)(i:Nat):aD×Nat:=match K.ls[i]? with
 |none=>(K,0)
 |some s=>if s.turns (c.az.getD i mQ)=true then (K.dT i (s.fin (c.az.getD i mQ))).app i (s.kind (c.az.getD i mQ)).toNat K.d.now else (K.dT i (s.fin (c.az.getD i mQ)),0)
def aD.ends(c:aX)(K:aD):Nat->aD×Nat
 |0=>(K,0)
 |n+1=>if (K.ends c n).2=0 then (K.ends c n).1.ig c n else K.ends c n
def aD.last(K:aD):aD:=
 let K1:={ K with t:=K.t.fin (K.ls.map λs=>iY s.status) }
 if K1.t.st≠3/\K1.d.iG=true then { K1 with d:=K1.d.oO }else K1
def aD.bC(K:aD):aD:={ K with d:=K.d.tick }
def aD.tick(c:aX)(K:aD):aD×Nat:=
 if K.on≠0 then (K,K.on)
 else if K.bC.d.reset=true then (K.bC,11)
 else if K.bC.d.now%c.cycle.toNat≠0 then (K.bC,0)
 else if (K.bC.ends c c.az.length).2=0 then ((K.bC.ends c c.az.length).1.last,0)
 else K.bC.ends c c.az.length
def aD.opened(c:aX)(K:aD):aD:=⟨K.c,K.d,iy (K.c.bytes.take K.c.size),false,c.az.map λ_=>aZ.new,bG.new c.bE.toNat⟩
def aD.new(c:aX)(s:aI):aD:=aD.opened c ⟨s,bR.new c.closed.toNat c.opn.toNat,[],false,[],bG.new 0⟩
def aD.fD(c:aX)(K:aD):aD×Nat:=
 if K.on=0 then (K,10)else (aD.opened c { K with c:={ K.c with off:=false,cut:=false,left:=0 },d:=K.d.start },0)
def aD.dM(c:aX)(K:aD):Nat->aD×Nat
 |0=>(K,0)
 |n+1=>if (K.tick c).2=0 then (K.tick c).1.dM c n else K.tick c
def aD.cut(K:aD)(n:Int):aD×Nat:=if n<0 then (K,2)else if K.c.off=true then (K,8)else ({ K with c:={ K.c with cut:=true,left:=n.toNat } },0)
structure bF(c:aX)(K:aD)(k W:Nat):Prop where
 big:kZ K.c
 left:K.c.left<=9223372036854775807
 wr:K.c.written<=W
 sp:K.sp=true->K.c.off=true
 dB:K.L.length<=8
 last:(cU K.L).seq<=4294967295
 len:K.ls.length=c.az.length
 each:∀s∈K.ls,fX s (k+K.d.now)/\s.ms.length<=k/\∀m∈s.ms,0<=m.tick/\m.tick<=1099511627776
 ij:pw K.t 20
 now:K.d.now<=1099511627776
 win:K.d.closed<=1000/\K.d.opn<=1000/\K.d.fu<=K.d.begun/\K.d.begun<=K.d.now
open Go.ChangeAt Go.ChangeShapes Go.Deep Go.WideShapes
def laidOut:laidOutB prog=true:=by kernel_rfl
def abR(h:W.cell? a=J v):a=⟨a.block,a.off,I⟩:=by
 obtain⟨b,o,s⟩:=a
 cases s with
 |none=>rfl
 |some x=>
  exfalso
  unfold aH at h
  split at h
  ·simp at h
  cases h
def add_plain(b o j:Nat):(⟨b,o,I⟩:aC).add j=⟨b,o+j,I⟩:=by unfold Addr.add;split<;>simp_all
def QX{cs:List aw}(h:W.cells? 0 a k=J cs):cs.length=k/\∀j u,cs[j]?=J u->W.cell? (a.add j)=J u:=by
 unfold World.cells? at h;rw[aU (bA _)]at h;have hl:cs.length=k:=by simpa using Lib.mapM_length h
 refine⟨hl,λj u hu=>?_⟩;have hj:j<k:=by have:=(df.1 hu).1;omega
 obtain⟨b,h1,h2⟩:=Lib.mapM_at h j j (by simp[hj]);rw[hu]at h1
 cases h1
 exact h2
def abS{α:Type}(d:α){p:Nat->α->Prop}(h:∀i,i<n->∃x,p i x):∃f:Nat->α,∀i,i<n->p i (f i):=by
 classical
 refine⟨λi=>if hi:i<n then Classical.choose (h i hi)else d,λi hi=>?_⟩;simp only[dif_pos hi];exact Classical.choose_spec _
def GK{α:Type}(d:α){Q:List aw->α->Prop}{enc:TypeId×aw->H}{W:ak}{fuel:Nat}{cs:List aw}{x:DataW H×List MemPlace}(hs:prog.underlying Ts=J (.slice T))(hk:prog.cellsOf T=k)(eY:0<k)
  (DY:∀n cs x,DataW.trod enc prog W 0 (λ_=>true) true n T cs=J x->∃a,Q cs a) (h:DataW.trod enc prog W 0 (λ_=>true) true fuel Ts cs=J x):∃(sa:Option aC) (cap:Nat) (xs:List α),cs=[.slice sa xs.length cap]/\xs.length<=cap/\(xs≠[]->∃b o,sa=J ⟨b,o,I⟩/\∀i a,xs[i]?=J a->∃cs',Q cs' a/\∀j u,cs'[j]?=J u->W.cell? ⟨b,o+i*k+j,I⟩=J u):=by
 rcases open_slice hs h with⟨hcs,-⟩|⟨a,len,cap,m,n,D,Pl,hcs,-,hlc,hcm,hm,-,hall⟩
 ·exact⟨_,0,[],by simpa using hcs,aR _,λe=>absurd rfl e⟩
 simp only[if_true]at hm;subst hm;rw[hk]at hall;obtain⟨f,hf⟩:=abS d (n:=len) (p:=λi y=>∃cs',Q cs' y/\W.cells? 0 (a.add (i*k)) k=J cs') (λi hi=>by
  obtain⟨cs',h1,h2⟩:=hall i (by omega);obtain⟨y,hy⟩:=DY _ _ _ h2;exact⟨y,cs',hy,h1⟩)
 have qV:((List.range len).map f).length=len:=by simp
 refine⟨_,m,_,by rw[qV];exact hcs,by rw[qV];exact hlc,λhne=>?_⟩;have A4:0<len:=by
  rcases vr len with h0|h0
  ·subst h0;exact absurd rfl hne
  exact h0
 have ha:a=⟨a.block,a.off,I⟩:=by
  obtain⟨cs',-,h1⟩:=hf 0 A4;obtain⟨hl,hc⟩:=QX h1;have e:(a.add (0*k)).add 0=a:=by simp[Addr.add]
  have:=hc 0 (cs'[0]'(by omega)) (bq _);rw[e]at this;exact abR this
 refine⟨_,_,nh _ ha,λi y hy=>?_⟩;rw[gY,ve]at hy;obtain⟨i',hi',rfl⟩:=hy;obtain⟨abT,nG⟩:=df.1 hi';have Bt:i<len:=by simpa using abT
 obtain rfl:=by simpa using nG
 obtain⟨cs',h1,h2⟩:=hf i Bt
 refine⟨cs',h1,λj u hu=>?_⟩;have:=(QX h2).2 j u hu;rw[ha,add_plain,add_plain]at this;exact this
def DZ{α:Type}(d:α){ec:α->List aw}{enc:TypeId×aw->H}{W:ak}{fuel:Nat}{v:aw}{x:DataW H×List MemPlace}(hs:prog.underlying Ts=J (.slice T))(hk:prog.cellsOf T=k)(eY:0<k)
  (DY:∀n cs x,DataW.trod enc prog W 0 (λ_=>true) true n T cs=J x->∃a,cs=ec a) (h:DataW.trod enc prog W 0 (λ_=>true) true fuel Ts [v]=J x):∃xs:List α,bw ec k W v xs:=by
 obtain⟨sa,cap,xs,hcs,hl,hx⟩:=GK d (Q:=λcs a=>cs=ec a) hs hk eY DY h;simp only[List.cons.injEq,rh]at hcs
 refine⟨xs,sa,cap,hcs,hl,λhne=>?_⟩;obtain⟨b,o,h1,h2⟩:=hx hne
 refine⟨b,o,h1,λi y hy j u hu=>?_⟩;obtain⟨cs',rfl,h3⟩:=h2 i y hy;exact h3 j u hu
def abU{α:Type}(d:α){ec:α->List aw}{R:α->Prop}{enc:TypeId×aw->H}{W:ak}{fuel:Nat}{v:aw}{x:DataW H×List MemPlace}(hs:prog.underlying Ts=J (.slice T))(hk:prog.cellsOf T=k)(eY:0<k)
  (DY:∀n cs x,DataW.trod enc prog W 0 (λ_=>true) true n T cs=J x->∃a,cs=ec a/\R a) (h:DataW.trod enc prog W 0 (λ_=>true) true fuel Ts [v]=J x):∃xs:List α,bw ec k W v xs/\∀a∈xs,R a:=by
 obtain⟨sa,cap,xs,hcs,hl,hx⟩:=GK d (Q:=λcs a=>cs=ec a/\R a) hs hk eY DY h;simp only[List.cons.injEq,rh]at hcs
 refine⟨xs,⟨sa,cap,hcs,hl,λhne=>?_⟩,λa ha=>?_⟩
 ·obtain⟨b,o,h1,h2⟩:=hx hne
  refine⟨b,o,h1,λi y hy j u hu=>?_⟩;obtain⟨cs',⟨rfl,-⟩,h3⟩:=h2 i y hy;exact h3 j u hu
 obtain⟨i,hi⟩:=r7 ha;obtain⟨b,o,h1,h2⟩:=hx (λe=>by rw[e]at ha;cases ha);obtain⟨cs',⟨-,hr⟩,-⟩:=h2 i a hi;exact hr
def KJ{enc:TypeId×aw->H}(n:Nat)(cs:List aw)(x:DataW H×List MemPlace)(h:DataW.trod enc prog W 0 (λ_=>true) true n 3 cs=J x):∃z:Int,cs=bT z:=by
 obtain⟨z,h1,-,-⟩:=oU underlying3 h;exact⟨z,h1⟩
def abV{enc:TypeId×aw->H}(n:Nat)(cs:List aw)(x:DataW H×List MemPlace)(h:DataW.trod enc prog W 0 (λ_=>true) true n 9 cs=J x):∃z:ByteArray,cs=ct z:=by
 obtain⟨z,h1,-,-⟩:=DataW.trod_string underlying9 h;exact⟨z,h1⟩
def QY:prog.cellsOf 58=10:=by kernel_rfl
def QZ:prog.cellsOf 73=4:=by kernel_rfl
def GL:prog.cellsOf 74=2:=by kernel_rfl
def iZ:prog.cellsOf 3=1/\prog.cellsOf 9=1/\prog.cellsOf 37=1/\prog.cellsOf 55=1/\prog.cellsOf 56=1/\prog.cellsOf 44=1:=⟨by kernel_rfl,by kernel_rfl,by kernel_rfl,by kernel_rfl,by kernel_rfl,by kernel_rfl⟩
def abW{enc:TypeId×aw->H}(n:Nat)(cs:List aw)(x:DataW H×List MemPlace)(h:DataW.trod enc prog W 0 (λ_=>true) true n 74 cs=J x):∃z:Int×Int,cs=kI z/\((Lit.int .i64 z.1).wf=true/\(Lit.int .i64 z.2).wf=true):=by
 obtain⟨xs,m,-,-,hl,kf,hf⟩:=DataW.trod_array underlying74 h;rw[GL]at hl
 match cs,hl with
 |[c0,c1],_=>
  have g:∀i,i<2->∃y,xs[i]?=J y:=λi hi=>⟨xs[i]'(by rw[kf];exact hi),bq _⟩
  obtain⟨y0,k0⟩:=g 0 (ar rfl);obtain⟨y1,k1⟩:=g 1 (ar rfl);have e0:=hf 0 (ar rfl);have e1:=hf 1 (ar rfl);rw[k0]at e0;rw[k1]at e1;simp only[iZ]at e0 e1;obtain⟨n0,q0,-,w0⟩:=oU underlying3 e0;obtain⟨n1,q1,-,w1⟩:=oU underlying3 e1;simp at q0 q1
  subst q0 q1;exact⟨(n0,n1),rfl,w0,w1⟩
def abX{enc:TypeId×aw->H}(n:Nat)(cs:List aw)(x:DataW H×List MemPlace)(h:DataW.trod enc prog W 0 (λ_=>true) true n 73 cs=J x):∃z:eT,cs=lF z:=by
 obtain⟨xs,m,-,-,hl,kf,hf⟩:=DataW.trod_struct underlying73 h;rw[QZ]at hl
 match cs,hl with
 |[c0,c1,c2,c3],_=>
  have g:∀i,i<4->∃y,xs[i]?=J y:=λi hi=>⟨xs[i]'(by rw[kf];exact hi),bq _⟩
  obtain⟨y0,k0⟩:=g 0 (ar rfl);obtain⟨y1,k1⟩:=g 1 (ar rfl);obtain⟨y2,k2⟩:=g 2 (ar rfl);obtain⟨y3,k3⟩:=g 3 (ar rfl);have e0:DataW.trod enc prog W 0 (λ_=>true) true m 3 [c0]=J y0:=by have e:=hf 0 _ rfl;rw[k0]at e;simpa[iZ]using e
  have e1:DataW.trod enc prog W 0 (λ_=>true) true m 3 [c1]=J y1:=by have e:=hf 1 _ rfl;rw[k1]at e;simpa[iZ]using e
  have e2:DataW.trod enc prog W 0 (λ_=>true) true m 3 [c2]=J y2:=by have e:=hf 2 _ rfl;rw[k2]at e;simpa[iZ]using e
  have e3:DataW.trod enc prog W 0 (λ_=>true) true m 3 [c3]=J y3:=by have e:=hf 3 _ rfl;rw[k3]at e;simpa[iZ]using e
  obtain⟨n0,q0,-,-⟩:=oU underlying3 e0;obtain⟨n1,q1,-,-⟩:=oU underlying3 e1;obtain⟨n2,q2,-,-⟩:=oU underlying3 e2;obtain⟨n3,q3,-,-⟩:=oU underlying3 e3;simp at q0 q1 q2 q3
  subst q0 q1 q2 q3;exact⟨⟨n0,n1,n2,n3⟩,rfl⟩
def abY{enc:TypeId×aw->H}(n:Nat)(cs:List aw)(x:DataW H×List MemPlace)(h:DataW.trod enc prog W 0 (λ_=>true) true n 58 cs=J x):∃e:aM,∃pv gv ev fv lv,cs=(nU e pv gv ev fv lv).toList/\fh W e pv gv ev fv lv/\∀p∈e.aP,(Lit.int .i64 p.1).wf=true/\(Lit.int .i64 p.2).wf=true:=by
 obtain⟨xs,m,-,-,hl,kf,hf⟩:=DataW.trod_struct underlying58 h;rw[QY]at hl
 match cs,hl with
 |[c0,c1,c2,c3,c4,c5,c6,c7,c8,c9],_=>
  have g:∀i,i<10->∃y,xs[i]?=J y:=λi hi=>⟨xs[i]'(by rw[kf];exact hi),bq _⟩
  obtain⟨y0,k0⟩:=g 0 (ar rfl);obtain⟨y1,k1⟩:=g 1 (ar rfl);obtain⟨y2,k2⟩:=g 2 (ar rfl);obtain⟨y3,k3⟩:=g 3 (ar rfl);obtain⟨y4,k4⟩:=g 4 (ar rfl);obtain⟨y5,k5⟩:=g 5 (ar rfl);obtain⟨y6,k6⟩:=g 6 (ar rfl);obtain⟨y7,k7⟩:=g 7 (ar rfl);obtain⟨y8,k8⟩:=g 8 (ar rfl);obtain⟨y9,k9⟩:=g 9 (ar rfl);have e0:DataW.trod enc prog W 0 (λ_=>true) true m 9 [c0]=J y0:=by have e:=hf 0 _ rfl;rw[k0]at e;simpa[iZ]using e
  have e1:DataW.trod enc prog W 0 (λ_=>true) true m 3 [c1]=J y1:=by have e:=hf 1 _ rfl;rw[k1]at e;simpa[iZ]using e
  have e2:DataW.trod enc prog W 0 (λ_=>true) true m 37 [c2]=J y2:=by have e:=hf 2 _ rfl;rw[k2]at e;simpa[iZ]using e
  have e3:DataW.trod enc prog W 0 (λ_=>true) true m 3 [c3]=J y3:=by have e:=hf 3 _ rfl;rw[k3]at e;simpa[iZ]using e
  have e4:DataW.trod enc prog W 0 (λ_=>true) true m 3 [c4]=J y4:=by have e:=hf 4 _ rfl;rw[k4]at e;simpa[iZ]using e
  have e5:DataW.trod enc prog W 0 (λ_=>true) true m 3 [c5]=J y5:=by have e:=hf 5 _ rfl;rw[k5]at e;simpa[iZ]using e
  have e6:DataW.trod enc prog W 0 (λ_=>true) true m 55 [c6]=J y6:=by have e:=hf 6 _ rfl;rw[k6]at e;simpa[iZ]using e
  have e7:DataW.trod enc prog W 0 (λ_=>true) true m 56 [c7]=J y7:=by have e:=hf 7 _ rfl;rw[k7]at e;simpa[iZ]using e
  have e8:DataW.trod enc prog W 0 (λ_=>true) true m 44 [c8]=J y8:=by have e:=hf 8 _ rfl;rw[k8]at e;simpa[iZ]using e
  have e9:DataW.trod enc prog W 0 (λ_=>true) true m 44 [c9]=J y9:=by have e:=hf 9 _ rfl;rw[k9]at e;simpa[iZ]using e
  obtain⟨n0,q0,-,-⟩:=DataW.trod_string underlying9 e0;obtain⟨n1,q1,-,-⟩:=oU underlying3 e1;obtain⟨n3,q3,-,-⟩:=oU underlying3 e3;obtain⟨n4,q4,-,-⟩:=oU underlying3 e4;obtain⟨n5,q5,-,-⟩:=oU underlying3 e5;obtain⟨l2,h2⟩:=DZ ByteArray.empty (ec:=ct) underlying37 iZ.2.1 (ar rfl) abV e2;obtain⟨l6,h6⟩:=DZ (⟨0,0,0,0⟩:eT) (ec:=lF) underlying55 QZ (ar rfl) abX e6;obtain⟨l7,h7,w7⟩:=abU ((0,0):Int×Int) (ec:=kI) (R:=λp=>(Lit.int .i64 p.1).wf=true/\(Lit.int .i64 p.2).wf=true) underlying56 GL (ar rfl) abW e7;obtain⟨l8,h8⟩:=DZ (0:Int) (ec:=bT) underlying44 iZ.1 (ar rfl) KJ e8;obtain⟨l9,h9⟩:=DZ (0:Int) (ec:=bT) underlying44 iZ.1 (ar rfl) KJ e9;simp at q0 q1 q3 q4 q5
  subst q0 q1 q3 q4 q5;exact⟨⟨n0,n1,l2,n3,n4,n5,l6,l7,l8,l9⟩,c2,c6,c7,c8,c9,rfl,⟨h2,h6,h7,h8,h9⟩,w7⟩
def abZ{enc:TypeId×aw->H}(n:Nat)(cs:List aw)(x:DataW H×List MemPlace)(h:DataW.trod enc prog W 0 (λ_=>true) true n 58 cs=J x):∃e:aM,∃pv gv ev fv lv,cs=(nU e pv gv ev fv lv).toList/\fh W e pv gv ev fv lv:=by
 obtain⟨e,pv,gv,ev,fv,lv,h1,h2,-⟩:=abY n cs x h;exact⟨e,pv,gv,ev,fv,lv,h1,h2⟩
open Go.Maps
def ab0:(74:TypeId)<prog.types.size:=ar (by kernel_rfl)
def ab1:(match prog.underlying 74 with|some (.array _ _)|some (.struct _)=>true|_=>false)=true:=by rw[underlying74]
def KM:Maps.Keyed prog 74:=Maps.Keyed.of_law (deep_law_laid laidOut (m:=2) (by omega) ab0 (by kernel_rfl) ab1)
def ab2:prog.keyType 74=true:=by kernel_rfl
def ab3:prog.types.size=382:=by kernel_rfl
def lL(n:Int):Prop:=(Lit.int .i64 n).wf=true
def D1{n:Int}(h0:-1<=n)(h1:n<=1000000):lL n:=by
 show (decide _&&decide _)=true
 have e1:IntKind.min af=-9223372036854775808:=by decide
 have e2:IntKind.max af=9223372036854775807:=by decide
 rw[e1,e2,bD (by omega),bD (by omega)];rfl
def t_(l:List (Int×Int)):Prop:=∀p∈l,lL p.1/\lL p.2
def vu(p:Int×Int):Lit:=.string (keyBytes [.int .i64 p.1,.int .i64 p.2])
def GM{a b:Int}(ha:lL a)(hb:lL b):keyOf prog 74 (.agg #[.int .i64 a,.int .i64 b])=J (vu (a,b)):=by
 unfold lL at ha hb;have hf:(Value.agg #[.int .i64 a,.int .i64 b]).formed prog 74=true:=by simp[Value.formed,GL]
 have hl:prog.keyLits (382+1) 74 [.int .i64 a,.int .i64 b]=J [.int .i64 a,.int .i64 b]:=by
  have h1:∀(n:Nat) (c:Int),(Lit.int .i64 c).wf=true->prog.keyLits (n+1) 3 [.int .i64 c]=J [.int .i64 c]:=λn c hc=>by simp[Program.keyLits,hc]
  unfold Program.keyLits;simp only[underlying74,GL,iZ];have e0:=h1 (382-1) a ha;have e1:=h1 (382-1) b hb;simp[List.range,List.range.loop,e0,e1]
 unfold keyOf;rw[underlying74];simp only[ab2,hf,Bool.and_self,if_true,ab3];rw[show (Value.agg _).cells.toList=[.int .i64 a,.int .i64 b]from rfl,hl];rfl
def ab4{p q:Int×Int}(hp:lL p.1/\lL p.2)(hq:lL q.1/\lL q.2)(h:vu p=vu q):p=q:=by
 have h1:=GM hp.1 hp.2;have h2:=GM hq.1 hq.2;have e:=KM.inj h1 (h2.trans (by rw[show vu _=vu _ from h]));simp at e
 exact Prod.ext e.1 e.2
def Bu(D:DataW Unit)(l:List (Int×Int)):Prop:=
 IsMap D/\(l=[]->Maps.size D=0)/\∀p:Int×Int,lL p.1->lL p.2->Maps.has D (vu p)=decide (p∈l)
def ab5:Bu (.map []) []:=⟨isMap_empty,λ_=>rfl,λ_ _ _=>by simp[Maps.has]⟩
def ab6{l:List (Int×Int)}(h:Bu D l)(p:Int×Int)(hp:lL p.1/\lL p.2):Bu (D.put (vu p) (.agg [])) (l++[p]):=by
 refine⟨h.1.put _ _,λe=>by simp at e,λq h1 h2=>?_⟩
 by_cases e:q=p
 ·subst e;rw[Maps.has_put_same h.1 (by trivial)];simp
 have hne:vu q≠vu p:=λh'=>e (ab4 ⟨h1,h2⟩ hp h')
 rw[Maps.has_put_other hne,h.2.2 q h1 h2];simp[e]
def ab7{l:List (Int×Int)}(h:Bu D l)(hw:t_ l):(Maps.size D=0↔l=[]):=by
 refine⟨λhs=>?_,h.2.1⟩
 cases l with
 |nil=>rfl
 |cons p t=>
  have h1:=h.2.2 p (hw p (by simp)).1 (hw p (by simp)).2;obtain⟨es,rfl⟩:=h.1;have h0:=kV hs;subst h0;simp[Maps.has]at h1
structure er(c:aX):Prop where
 cl:0<=c.closed/\c.closed<=1000
 op:1<=c.opn/\c.opn<=1000
 cy:1<=c.cycle/\c.cycle<=100
 de:0<=c.bE/\c.bE<=20
 le:c.cycle<=c.opn
 nn:c.az.length<=8
 each:∀e∈c.az,gG e/\e.cnt<(e.au.length:Int)/\0<=e.bh/\t_ e.aP
def pw.KN{s:bG}(h:pw s 20)(l:List ByteArray):pw (s.fin l) 20:=by
 have h':=h.fin l
 refine⟨h'.d,?_,h'.lt,h'.st,h'.z⟩;have hd:=h.d;have h0:=h.s0;have hl:=h.lt;unfold bG.fin
 split
 ·exact h0
 split
 ·rename_i h2;have:=hl h2;unfold bG.cut
  split<;>(show s.since+1<=20;omega)
 unfold bG.cut
 split<;>exact bA _
section
variable {c:aX}{K:aD}{k W:Nat}
def ab8(e:aM)(l:List b_)(cyc:Int):0<=lg e l cyc/\lg e l cyc<=3:=by
 unfold lg
 split
 ·decide
 split
 ·decide
 split<;>decide
def D2(e:aM)(s:aZ):0<=s.kind e/\s.kind e<=3:=by
 unfold aZ.kind
 split
 ·exact ab8 ..
 decide
def aD.Bv:K.on=0↔K.c.off=false/\K.d.reset=false:=by
 unfold aD.on
 cases K.c.off<;>cases K.d.reset<;>simp
def bF.mono(h:bF c K k W){k' W':Nat}(hk:k<=k')(hW:W<=W'):bF c K k' W':=
 ⟨h.big,h.left,bp h.wr hW,h.sp,h.dB,h.last,h.len,λs hs=>⟨(h.each s hs).1.mono (by omega),bp (h.each s hs).2.1 hk,(h.each s hs).2.2⟩,h.ij,h.now,h.win⟩
def bF.dT(h:bF c K k W)(hs:fX s (k+K.d.now)/\s.ms.length<=k/\∀m∈s.ms,0<=m.tick/\m.tick<=1099511627776):bF c (K.dT i s) k W:=
 ⟨h.big,h.left,h.wr,h.sp,h.dB,h.last,by show (K.ls.set i s).length=_;rw[AX];exact h.len,λx hx=>by
  rcases List.mem_or_eq_of_mem_set hx with hx|rfl
  ·exact h.each x hx
  exact hs,h.ij,h.now,h.win⟩
def Q0(s:aZ):s.begin.ms=s.ms\/s.begin.ms=[]:=by unfold aZ.begin;split;exact aT rfl;exact aN rfl
def bF.begin(h:bF c K k W)(i:Int):bF c (K.begin i).1 (k+1) W:=by
 unfold aD.begin
 split
 ·exact h.mono (by omega) (aR _)
 split
 ·exact h.mono (by omega) (aR _)
 split
 ·exact h.mono (by omega) (aR _)
 rename_i s hs;obtain⟨h1,h2,h3⟩:=h.each s (bP hs)
 refine(h.mono (k':=k+1) (by omega) (aR _)).dT ⟨h1.begin.mono (by omega),?_,?_⟩
 ·rcases Q0 s with e|e<;>rw[e]
  ·omega
  exact bA _
 rcases Q0 s with e|e<;>rw[e]
 ·exact h3
 intro m hm;cases hm
def bF.stop(h:bF c K k W)(i:Int):bF c (K.stop i).1 (k+1) W:=by
 unfold aD.stop
 split
 ·exact h.mono (by omega) (aR _)
 split
 ·exact h.mono (by omega) (aR _)
 split
 ·exact h.mono (by omega) (aR _)
 rename_i s hs;obtain⟨h1,h2,h3⟩:=h.each s (bP hs);exact(h.mono (k':=k+1) (by omega) (aR _)).dT ⟨h1.stop.mono (by omega),Nat.le_succ_of_le h2,h3⟩
def bF.report(h:bF c K k W)(i p:Int):bF c (K.report c i p).1 (k+1) W:=by
 unfold aD.report
 split
 ·exact h.mono (by omega) (aR _)
 split
 ·exact h.mono (by omega) (aR _)
 split
 ·exact h.mono (by omega) (aR _)
 rename_i s hs;obtain⟨h1,h2,h3⟩:=h.each s (bP hs)
 refine(h.mono (k':=k+1) (by omega) (aR _)).dT ⟨(h1.rep p _).mono (by omega),?_,?_⟩
 ·unfold aZ.rep
  split
  ·show (s.ms++_).length<=_
   rw[cY,kW];omega
  omega
 unfold aZ.rep
 split
 ·intro m hm;have Bw:m∈s.ms++[⟨p,_,_⟩]:=hm
  rcases qN.1 Bw with Bw|Bw
  ·exact h3 m Bw
  rw[g_]at Bw;subst Bw;have:=h.now;exact⟨Int.natCast_nonneg _,by show (K.d.now:Int)<=_;omega⟩
 exact h3
def bF.cut(h:bF c K k W)(n:Int)(hn:n<=9223372036854775807):bF c (K.cut n).1 k W:=by
 unfold aD.cut
 split
 ·exact h
 split
 ·exact h
 exact⟨⟨h.big.len,h.big.size,h.big.top⟩,by show n.toNat<=_;omega,h.wr,h.sp,h.dB,h.last,h.len,h.each,h.ij,h.now,h.win⟩
def bF.app(h:bF c K k W)(ho:K.c.off=false)(e kd t:Nat):bF c (K.app e kd t).1 k (W+18)/\((K.app e kd t).2=0->(K.app e kd t).1.c.off=false/\(K.app e kd t).1.sp=false)/\(K.app e kd t).1.d=K.d/\(K.app e kd t).1.ls=K.ls/\(K.app e kd t).1.t=K.t:=by
 have hsp:K.sp=false:=by
  cases e:K.sp with
  |false=>rfl
  |true=>rw[h.sp e]at ho;cases ho
 have hB:=(aao h.big ho (eL K.L e kd t));unfold aD.app;rw[aK (by rw[hsp];simp)]
 split
 ·exact⟨h.mono (aR _) (by omega),λe=>(by cases e),rfl,rfl,rfl⟩
 rename_i hq;have Q5:=h.last
 split
 ·rename_i h0
  refine⟨⟨hB.1,Qz _ h.left,bp (Qy _ _) (by have:=h.wr;omega),λe=>?_,aam _ h.dB,?_,h.len,h.each,h.ij,h.now,h.win⟩,λ_=>⟨hB.2 h0,hsp⟩,rfl,rfl,rfl⟩
  ·rw[show K.sp=true from e]at hsp;cases hsp
  show (cU (mg K.L _)).seq<=_
  rw[aan];show (cU K.L).seq+1<=_
  omega
 rename_i h0
 refine⟨⟨hB.1,Qz _ h.left,bp (Qy _ _) (by have:=h.wr;omega),λ_=>?_,h.dB,h.last,h.len,h.each,h.ij,h.now,h.win⟩,λe=>absurd e h0,rfl,rfl,rfl⟩
 rcases aav h.big ho (eL K.L e kd t)with e8|e8
 ·exact absurd e8 h0
 exact aau e8
def bF.Q6(h:bF c K k W)(hs:K.ls[i]?=J s)(h4:fX s (k+K.d.now-1))(h5:1<=K.d.now)(e:aM):bF c (K.dT i (s.fin e)) k W:=by
 obtain⟨h1,h2,h3⟩:=h.each s (bP hs);have zo:(s.fin e).ms=s.ms:=by unfold aZ.fin;split<;>rfl
 exact h.dT ⟨h4.fin.mono (by omega),by rw[zo];exact h2,by rw[zo];exact h3⟩
def bF.ig(h:bF c K k W)(ho:K.c.off=false)(i:Nat)(hi:∀s,K.ls[i]?=J s->fX s (k+K.d.now-1)/\1<=K.d.now):bF c (K.ig c i).1 k (W+18)/\((K.ig c i).2=0->(K.ig c i).1.c.off=false/\(K.ig c i).1.sp=false)/\(K.ig c i).1.d=K.d/\(K.ig c i).1.t=K.t/\∀j,j≠i->(K.ig c i).1.ls[j]?=K.ls[j]?:=by
 have hsp:K.sp=false:=by
  cases e:K.sp with
  |false=>rfl
  |true=>rw[h.sp e]at ho;cases ho
 unfold aD.ig
 split
 ·exact⟨h.mono (aR _) (by omega),λ_=>⟨ho,hsp⟩,rfl,rfl,λ_ _=>rfl⟩
 rename_i s hs;obtain⟨h1,h2,h3⟩:=h.each s (bP hs);obtain⟨h4,h5⟩:=hi s hs;have zo:(s.fin (c.az.getD i mQ)).ms=s.ms:=by unfold aZ.fin;split<;>rfl
 have h':bF c (K.dT i _) k W:=h.dT ⟨h4.fin.mono (by omega),by rw[zo];exact h2,by rw[zo];exact h3⟩;have hj:∀j,j≠i->(K.dT i (s.fin (c.az.getD i mQ))).ls[j]?=K.ls[j]?:=λj hj=>by
  show (K.ls.set i _)[j]?=_
  rw[List.getElem?_set_ne (λe=>hj e.symm)]
 split
 ·obtain⟨a1,a2,a3,a4,a5⟩:=h'.app ho i (s.kind (c.az.getD i mQ)).toNat K.d.now;exact⟨a1,a2,a3,a5,λj hj'=>by rw[a4];exact hj j hj'⟩
 exact⟨h'.mono (aR _) (by omega),λ_=>⟨ho,hsp⟩,rfl,rfl,hj⟩
def bF.ends(h:bF c K k W)(ho:K.c.off=false)(hi:∀s∈K.ls,fX s (k+K.d.now-1))(h1:1<=K.d.now):∀n,bF c (K.ends c n).1 k (W+18*n)/\((K.ends c n).2=0->(K.ends c n).1.c.off=false/\(K.ends c n).1.sp=false)/\(K.ends c n).1.d=K.d/\(K.ends c n).1.t=K.t/\∀j,n<=j->(K.ends c n).1.ls[j]?=K.ls[j]?
 |0=>⟨h,λ_=>⟨ho,by
   cases e:K.sp with
   |false=>exact e
   |true=>rw[h.sp e]at ho;cases ho⟩,rfl,rfl,λ_ _=>rfl⟩
 |n+1=>by
  obtain⟨a1,a2,a3,a4,a5⟩:=bF.ends h ho hi h1 n;unfold aD.ends
  split
  ·rename_i h0;obtain⟨b1,b2,b3,b4,b5⟩:=a1.ig (a2 h0).1 n (λs hs=>by
    rw[a5 n (aR _)]at hs;rw[a3];exact⟨hi s (bP hs),h1⟩)
   exact⟨b1.mono (aR _) (by omega),b2,b3.trans a3,b4.trans a4,λj hj=>(b5 j (by omega)).trans (a5 j (by omega))⟩
  rename_i h0;exact⟨a1.mono (aR _) (by omega),λe=>absurd e h0,a3,a4,λj hj=>a5 j (by omega)⟩
def bF.bC(h:bF c K k W)(hn:K.d.now<1099511627776):bF c K.bC k W/\(∀s∈K.bC.ls,fX s (k+K.bC.d.now-1))/\1<=K.bC.d.now:=
 ⟨⟨h.big,h.left,h.wr,h.sp,h.dB,h.last,h.len,λs hs=>⟨(h.each s hs).1.mono (by show _<=k+(K.d.now+1);omega),(h.each s hs).2⟩,h.ij,hn,⟨h.win.1,h.win.2.1,h.win.2.2.1,by have:=h.win.2.2.2;show K.d.begun<=K.d.now+1;omega⟩⟩,λs hs=>(h.each s hs).1.mono (by show _<=k+(K.d.now+1)-1;omega),by show 1<=K.d.now+1;omega⟩
def bF.xa(h:bF c K k W):bF c K.last k W:=by
 have hw:=h.win;have h1:bF c { K with t:=K.t.fin (K.ls.map λs=>iY s.status) } k W:=⟨h.big,h.left,h.wr,h.sp,h.dB,h.last,h.len,h.each,h.ij.KN _,h.now,h.win⟩;unfold aD.last;simp only[]
 split
 ·rename_i hc
  refine⟨h1.big,h1.left,h1.wr,h1.sp,h1.dB,h1.last,h1.len,h1.each,h1.ij,h1.now,⟨hw.1,hw.2.1,?_,aR _⟩⟩;show K.d.fu+1<=K.d.now
  have ho:=hc.2;unfold bR.iG at ho;simp only[uY,uW]at ho;omega
 exact h1
def Q7:K.last.d.now=K.d.now:=by unfold aD.last;simp only[];split<;>rfl
def bF.tick(hr:er c)(h:bF c K k (144*K.d.now))(hn:K.d.now<1099511627776):bF c (K.tick c).1 k (144*(K.tick c).1.d.now):=by
 unfold aD.tick
 split
 ·exact h
 rename_i JX;have ab9:K.on=0:=by omega
 obtain⟨ho,-⟩:=aD.Bv.1 ab9;obtain⟨t1,t2,t3⟩:=h.bC hn;have hW:144*K.bC.d.now=144*K.d.now+144:=by show 144*(K.d.now+1)=_;omega
 split
 ·rw[hW];exact t1.mono (aR _) (by omega)
 split
 ·rw[hW];exact t1.mono (aR _) (by omega)
 obtain⟨a1,-,a3,-⟩:=t1.ends ho t2 t3 c.az.length;have tV:=hr.nn
 split
 ·show bF c (K.bC.ends c _).1.last k (144*(K.bC.ends c _).1.last.d.now)
  rw[Q7,a3,hW];exact(a1.mono (aR _) (by omega)).xa
 rw[a3,hW];exact a1.mono (aR _) (by omega)
def bF.opened(hr:er c)(h:kZ K.c)(h0:K.c.left<=9223372036854775807)(hw:K.c.written<=W)(hn:K.d.now<=1099511627776)(hd:K.d.closed<=1000/\K.d.opn<=1000/\K.d.fu<=K.d.begun/\K.d.begun<=K.d.now):bF c (aD.opened c K) k W:=by
 have tS:=hr.de;have e1:=aas (K.c.bytes.take K.c.size);have e2:=aar (K.c.bytes.take K.c.size);unfold aD.opened;revert e1 e2
 generalize iy (K.c.bytes.take K.c.size)=X;intro e1 e2
 refine⟨h,h0,hw,λe=>(by cases e),e1,e2,by simp,λs hs=>?_,?_,hn,hd⟩
 ·have:s=aZ.new:=by
   simp only[nS]at hs;obtain⟨_,_,rfl⟩:=hs;rfl
  subst this;exact⟨fX.new.mono (bA _),bA _,λm hm=>(by cases hm)⟩
 have:=pw.new (d:=c.bE.toNat) (by omega);exact⟨this.d,bA _,this.lt,this.st,this.z⟩
def bF.new(hr:er c){s:aI}(h:kZ s)(h0:s.left<=9223372036854775807)(hw:s.written=0):bF c (aD.new c s) 0 0:=by
 have h1:=hr.cl;have h2:=hr.op;exact bF.opened hr h h0 (by show s.written<=0;omega) (bA _) ⟨by show c.closed.toNat<=1000;omega,by show c.opn.toNat<=1000;omega,aR _,aR _⟩
def bF.fD(hr:er c)(h:bF c K k W):bF c (K.fD c).1 k W:=by
 unfold aD.fD
 split
 ·exact h
 exact bF.opened hr ⟨h.big.len,h.big.size,h.big.top⟩ (bA _) h.wr h.now ⟨h.win.1,h.win.2.1,bp h.win.2.2.1 h.win.2.2.2,aR _⟩
def ab_:(K.fD c).1.d.now=K.d.now:=by unfold aD.fD;split<;>rfl
def ab'(i:Int):(K.begin i).1.d=K.d:=by unfold aD.begin;split;rfl;split;rfl;split<;>rfl
def aca(i:Int):(K.stop i).1.d=K.d:=by unfold aD.stop;split;rfl;split;rfl;split<;>rfl
def acb(i p:Int):(K.report c i p).1.d=K.d:=by unfold aD.report;split;rfl;split;rfl;split<;>rfl
def acd(n:Int):(K.cut n).1.d=K.d:=by unfold aD.cut;split;rfl;split<;>rfl
end
def gr(F:Nat->Prop)(w w':ak):Nat->Prop:=λk=>F k\/(w.heap.size<=k/\k<w'.heap.size)
structure mq(H:Nat->Nat->Prop)(B:Nat)(w:ak):Prop where
 lo:∀i k,H i k->B<=k
 lt:∀i k,H i k->k<w.heap.size
 xB:∀i j k,H i k->H j k->i=j
def cO(H:Nat->Nat->Prop)(i:Nat)(w w':ak):Nat->Nat->Prop:=λj k=>H j k\/(j=i/\w.heap.size<=k/\k<w'.heap.size)
section
variable {H:Nat->Nat->Prop}{B:Nat}{w w' w'':ak}{F:Nat->Prop}
def mq.upd(h:mq H B w)(hs:w.heap.size<=w'.heap.size)(hB:B<=w.heap.size)(i:Nat):mq (cO H i w w') B w':=by
 refine⟨λj k hk=>?_,λj k hk=>?_,λj j' k hk nH=>?_⟩
 ·rcases hk with hk|⟨_,hk,_⟩
  ·exact h.lo j k hk
  exact bp hB hk
 ·rcases hk with hk|⟨_,_,hk⟩
  ·exact cK (h.lt j k hk) hs
  exact hk
 rcases hk with hk|⟨e,hk,_⟩<;>rcases nH with nH|⟨e',nH,_⟩
 ·exact h.xB j j' k hk nH
 ·have:=h.lt j k hk;omega
 ·have:=h.lt j' k nH;omega
 rw[e,e']
def mq.grow(h:mq H B w)(hs:w.heap.size<=w'.heap.size):mq H B w':=⟨h.lo,λi k hk=>cK (h.lt i k hk) hs,h.xB⟩
def mq.keep(h:mq H B w)(hne:j≠i)(ho:aG (H i) w w'):∀k,H j k->w'.heap[k]?=w.heap[k]?:=λk hk=>ho.block k (h.lt j k hk) (λhi=>hne (h.xB j i k hk hi))
def mq.not(h:mq H B w)(hne:j≠i)(hk:H j k):¬H i k:=λhi=>hne (h.xB j i k hk hi)
def xC(hF:∀i k,H i k->F k)(i:Nat):∀j k,cO H i w w' j k->gr F w w' k:=λj k hk=>by
 rcases hk with hk|⟨_,h1,h2⟩
 ·exact aT (hF j k hk)
 exact aN ⟨h1,h2⟩
def aG.all(hF:∀i k,H i k->F k)(h:aG (H i) w w'):aG F w w':=h.mono (λk _ hk=>hF i k hk)
def aG.gr(h:aG F w w')(h':aG (gr F w w') w' w''):aG F w w'':=h.trans h' (λk hk hg=>by
 rcases hg with hg|⟨h1,_⟩
 ·exact hg
 omega)
def KO(h1:w.heap.size<=w'.heap.size)(h2:w'.heap.size<=w''.heap.size)(hk:gr (gr F w w') w' w'' k):gr F w w'' k:=by
 rcases hk with(hk|⟨a,b⟩)|⟨a,b⟩
 ·exact aT hk
 ·exact aN ⟨a,by omega⟩
 exact aN ⟨by omega,b⟩
def zq{B:Nat}{xs:List aw}(h:w.ownsRow B T k v n xs)(hs:∀g,v.ownBlock=J g->w'.heap[g]?=w.heap[g]?):w'.ownsRow B T k v n xs:=by
 refine⟨h.1,?_⟩
 rcases h.2 with hn|⟨g,cap,cur,rfl,hb,Bx,rest⟩
 ·exact .inl hn
 exact .inr ⟨g,cap,cur,rfl,hb,(hs g rfl).trans Bx,rest⟩
end
def lM(b:Nat):List aw:=[aq (J (ai b 0 I))]
def aD.KQ(K:aD):K.on=0\/K.on=8\/K.on=11:=by unfold aD.on;split;exact aN (aT rfl);split;exact aN (aN rfl);exact aT rfl
def n_(n:Nat):ByteArray:=if n=8 then ⟨#[111,102,102]⟩else if n=11 then ⟨#[114,101,115,101,116]⟩else ⟨#[111,110]⟩
def GN(K:aD)(e k t:Nat):(K.app e k t).1.d=K.d:=by
 unfold aD.app
 split
 ·rfl
 split
 ·rfl
 split<;>rfl
def eO(K:aD)(n:Nat):List ByteArray:=(K.ls.take n).map λs=>iY s.status
def Q8(c:aX)(K:aD)(n:Nat)(h0:(K.ends c n).2=0)(hs:(K.ends c n).1.ls[n]?=J s)(he:c.az[n]?=J e):K.ends c (n+1)=if s.turns e=true then ((K.ends c n).1.dT n (s.fin e)).app n (s.kind e).toNat (K.ends c n).1.d.now else ((K.ends c n).1.dT n (s.fin e),0):=by
 have od:c.az.getD n mQ=e:=by rw[fp,he];rfl
 show (if (K.ends c n).2=0 then (K.ends c n).1.ig c n else K.ends c n)=_
 rw[aU h0];unfold aD.ig;rw[hs];simp only[od]
def KR(c:aX)(K:aD){m:Nat}(h:(K.ends c m).2≠0):∀{n:Nat},m<=n->K.ends c n=K.ends c m
 |0,hn=>by rw[show m=0 by omega]
 |n+1,hn=>by
  by_cases e:m=n+1
  ·rw[e]
  have ih:=KR c K h (n:=n) (by omega);show (if (K.ends c n).2=0 then (K.ends c n).1.ig c n else K.ends c n)=_
  rw[ih,aK h]
def Q9{K:aD}(hn:n<K.ls.length):eO (K.dT n s) (n+1)=eO K n++[iY s.status]:=by
 unfold eO aD.dT;simp only[];rw[eI,DW hn,List.take_set_of_le (aR _),lC];rfl
def KS(K:aD)(e k t:Nat):(K.app e k t).1.ls=K.ls:=by
 unfold aD.app
 split
 ·rfl
 split
 ·rfl
 split<;>rfl
section
variable {c:aX}{K:aD}{k:Nat}
def KT(c:aX)(K:aD):∀n,(K.ends c n).1.d=K.d
 |0=>rfl
 |n+1=>by
  have ih:=KT c K n;show (if (K.ends c n).2=0 then (K.ends c n).1.ig c n else K.ends c n).1.d=_
  split
  ·unfold aD.ig
   split
   ·exact ih
   split
   ·rw[GN];exact ih
   exact ih
  exact ih
def D3(c:aX)(K:aD):(K.tick c).1.d.now<=K.d.now+1:=by
 unfold aD.tick
 split
 ·show K.d.now<=_;omega
 split
 ·exact aR _
 split
 ·exact aR _
 split
 ·show (K.bC.ends c _).1.last.d.now<=_
  rw[Q7,KT];exact aR _
 rw[KT];exact aR _
def bF.dM(hr:er c):∀(n:Nat) (K:aD),bF c K k (144*K.d.now)->K.d.now+n<=1099511627776->bF c (K.dM c n).1 k (144*(K.dM c n).1.d.now)/\(K.dM c n).1.d.now<=K.d.now+n
 |0,K,h,_=>⟨h,aR _⟩
 |n+1,K,h,hn=>by
  have h1:=h.tick hr (by omega);have h2:=D3 c K;show bF c (if (K.tick c).2=0 then (K.tick c).1.dM c n else K.tick c).1 k _/\(if (K.tick c).2=0 then (K.tick c).1.dM c n else K.tick c).1.d.now<=_
  show bF c _ k (144*(if (K.tick c).2=0 then (K.tick c).1.dM c n else K.tick c).1.d.now)/\_
  split
  ·obtain⟨a,b⟩:=bF.dM hr n _ h1 (by omega);exact⟨a,by omega⟩
  exact⟨h1,by omega⟩
end
section
variable {c:aX}{K:aD}{k:Nat}
def GP(K:aD):K.on<=11:=by unfold aD.on;split;omega;split<;>omega
def ace{K:aD}(hb:kZ K.c)(ho:K.c.off=false)(e kd t:Nat):(K.app e kd t).2<=11:=by
 unfold aD.app
 split
 ·show 8<=11;omega
 split
 ·show 7<=11;omega
 split
 ·show 0<=11;omega
 exact aap hb ho _
def acf{K:aD}(hb:kZ K.c)(ho:K.c.off=false)(i:Nat):(K.ig c i).2<=11:=by
 unfold aD.ig
 split
 ·show 0<=11;omega
 split
 ·exact ace (K:=K.dT i _) hb ho ..
 show 0<=11;omega
def Q_{K:aD}{W:Nat}(h:bF c K k W)(ho:K.c.off=false)(hi:∀s∈K.ls,fX s (k+K.d.now-1))(h1:1<=K.d.now):∀n,(K.ends c n).2<=11
 |0=>by show 0<=11;omega
 |n+1=>by
  show (if (K.ends c n).2=0 then (K.ends c n).1.ig c n else K.ends c n).2<=11
  obtain⟨a,b,-⟩:=h.ends ho hi h1 n
  split
  ·rename_i h0;exact acf a.big (b h0).1 n
  exact Q_ h ho hi h1 n
def acg{W:Nat}(h:bF c K k W)(hn:K.d.now<1099511627776):(K.tick c).2<=11:=by
 unfold aD.tick
 split
 ·exact GP K
 rename_i JX
 split
 ·show 11<=11;omega
 split
 ·show 0<=11;omega
 split
 ·show 0<=11;omega
 obtain⟨a,b,d⟩:=h.bC hn;have hz:K.on=0:=by omega
 exact Q_ a (aD.Bv.1 hz).1 b d _
def KU(hr:er c):∀(n:Nat) (K:aD),bF c K k (144*K.d.now)->K.d.now+n<=1099511627776->(K.dM c n).2<=11
 |0,K,_,_=>by show 0<=11;omega
 |n+1,K,h,hn=>by
  have h2:=D3 c K;show (if (K.tick c).2=0 then (K.tick c).1.dM c n else K.tick c).2<=11
  split
  ·exact KU hr n _ (h.tick hr (by omega)) (by omega)
  exact acg h (by omega)
def Ra(K:aD)(i p:Int):(K.report c i p).2<=11:=by
 unfold aD.report
 split
 ·exact GP K
 split
 ·show 5<=11;omega
 split
 ·show 5<=11;omega
 show aZ.sw _ _ _<=11;unfold aZ.sw;split;split<;>omega;omega
def Rb(K:aD)(i:Int):(K.begin i).2<=11:=by
 unfold aD.begin
 split
 ·exact GP K
 split
 ·show 5<=11;omega
 split
 ·show 5<=11;omega
 show aZ.tZ _<=11;unfold aZ.tZ;split<;>omega
def Rc(K:aD)(i:Int):(K.stop i).2<=11:=by
 unfold aD.stop
 split
 ·exact GP K
 split
 ·show 5<=11;omega
 split
 ·show 5<=11;omega
 show aZ.jQ _<=11;unfold aZ.jQ;split<;>omega
def Re(K:aD)(n:Int):(K.cut n).2<=11:=by unfold aD.cut;split;(show 2<=11;omega);split;(show 8<=11;omega);(show 0<=11;omega)
def Rf(c:aX)(K:aD):(K.fD c).2<=11:=by unfold aD.fD;split;(show 10<=11;omega);(show 0<=11;omega)
end
def zr(s:List UInt8)(c:UInt8)(i:Nat):Lib.occAt s [c] i=true↔s[i]?=J c:=by
 unfold Lib.occAt
 constructor
 ·intro h
  cases hd:s.drop i with
  |nil=>rw[hd]at h;simp[List.isPrefixOf]at h
  |cons x t=>
   rw[hd]at h;simp[List.isPrefixOf]at h
   have e:s[i]?=(s.drop i)[0]?:=by simp
   rw[e,hd,<- h];rfl
 intro h;have e:s.drop i=c::s.drop (i+1):=by
  obtain⟨hi,hc⟩:=df.1 h;rw[lX hi,hc]
 rw[e];simp[List.isPrefixOf]
def ach(c:UInt8):∀(n:Nat) (s:List UInt8),s.length<=n->Lib.split s [c]=eJ c s:=by
 intro n
 induction n with
 |zero=>
  intro s hs;obtain rfl:s=[]:=kV (by omega);have:Lib.index [] [c]=-1:=by rcases Lib.index_spec [] [c]with⟨h,-⟩|⟨i,-,-,h,-⟩;exact h;exact absurd ((zr ..).1 h) (by simp)
  unfold Lib.split;rw[Lib.count_miss this];rfl
 |succ n ih=>
  intro s hs
  rcases Lib.index_spec s [c]with⟨h,hno⟩|⟨i,h,hi,ho,hno⟩
  ·have hc:c∉s:=λhm=>by
    obtain⟨j,hj,e⟩:=su hm;have:=hno j (by omega);have h2:=(zr s c j).2 (by rw[bq hj,e]);rw[this]at h2
    cases h2
   unfold Lib.split;rw[Lib.count_miss h,OQ c s hc];rfl
  have aci:=(zr s c i).1 ho;obtain⟨Bt,hcv⟩:=df.1 aci;have e1:s=s.take i++c::s.drop (i+1):=by
   have:s.drop i=c::s.drop (i+1):=by rw[lX Bt,hcv]
   rw[<- this,rf]
  have hc:c∉s.take i:=λhm=>by
   obtain⟨j,hj,e⟩:=su hm;have KV:j<i:=by rw[eQ]at hj;omega
   have h2:=(zr s c j).2 (by rw[List.getElem_take]at e;rw[bq (by omega),e]);have:=hno j KV;rw[this]at h2
   cases h2
  have e2:Lib.split s [c]=s.take i::Lib.split (s.drop (i+1)) [c]:=by
   unfold Lib.split;rw[Lib.count_hit (by simp) h,Nat.add_comm 1,Lib.splitK];have hm:¬(Lib.index s [c] == -1)=true:=λe=>by have:=qw.1 e;omega
   have et:(Lib.index s [c]).toNat=i:=by omega
   rw[aK hm,et];rfl
  rw[e2,ih _ (by rw[yK];omega)];have e3:eJ c (c::s.drop (i+1))=[]::eJ c (s.drop (i+1)):=by rw[eJ,aU rfl]
  have e4:=Jm c _ _ _ e3 _ hc;rw[<- e1]at e4;rw[e4];simp
def Rg(c:UInt8)(s sep:ByteArray)(hs:sep.data.toList=[c]):(Lib.splitB sep 0 (Lib.countB s sep) s).map (·.data.toList)=eJ c s.data.toList:=by
 rw[Lib.splitB_data,hs];have e:Lib.countB s sep=Lib.count s.data.toList [c]:=by unfold Lib.countB;rw[hs]
 rw[e];exact ach c _ _ (aR _)
def og:Nat->Bs
 |0=>[98,101,103,105,110]
 |1=>[115,116,111,112]
 |2=>[114,101,112,111,114,116]
 |3=>[116,105,99,107]
 |4=>[99,117,116]
 |5=>[98,111,111,116]
 |6=>[110,111,119]
 |7=>[107,105,99,107,115]
 |8=>[115,116,97,116,117,115]
 |9=>[116,111,116,97,108]
 |10=>[115,116,97,116,101]
 |11=>[99,97,117,115,101]
 |12=>[108,111,103]
 |_=>[99,111,110,102,105,103]
def gR(w:Bs):Option Nat:=(List.range 14).find? (λk=>decide (og k=w))
def eH:Nat->List Int
 |0=>[1]
 |1=>[1]
 |2=>[1,5]
 |3=>[5]
 |4=>[5]
 |8=>[1]
 |_=>[]
def iC(w:Bs)(d:Int):Option Int:=if d<(w.length:Int)then I else match Lib.atoi w with
 |some n=>if n<0\/num n≠w then I else J n
 |none=>I
def dp:List Int->List Bs->Option (List Int)
 |[],[]=>J []
 |d::ds,w::ws=>match iC w d with
  |none=>I
  |some n=>(dp ds ws).map (λt=>n::t)
 |_,_=>I
def gm(r:Rec):Bs:=Lib.join [num r.seq,num r.cf,num r.kind,num r.tick] [32]
def D4:Bs:=[110,111,116,104,105,110,103]
def Rh:Bs:=[111,107]
def sx(L:List Rec):Bs:=if L.length=0 then D4 else gm (cU L)
def sy(L:List Rec):Bs:=if L.length=0 then D4 else Lib.join (L.map gm) [44,32]
def pG(c:aX):Bs:=Lib.replaceAll (Lib.trimSuffix (fK c) [10]) [10] [59,32]
def ua(j:Nat):Bs:=if j=0 then Rh else []
def oV(p:aD×Nat):aD×Bs×Nat:=(p.1,ua p.2,p.2)
def aD.cW(c:aX)(K:aD)(ns:List Int):Nat->aD×Bs×Nat
 |0=>oV (K.begin (ns.getD 0 0))
 |1=>oV (K.stop (ns.getD 0 0))
 |2=>oV (K.report c (ns.getD 0 0) (ns.getD 1 0))
 |3=>oV (K.dM c (ns.getD 0 0).toNat)
 |4=>oV (K.cut (ns.getD 0 0))
 |5=>oV (K.fD c)
 |6=>(K,num K.d.now,0)
 |7=>(K,num K.d.fu,0)
 |8=>match K.ls[(ns.getD 0 0).toNat]? with
  |some s=>(K,bl (iY s.status),0)
  |none=>(K,[],5)
 |9=>(K,bl (dE K.t.st),0)
 |10=>(K,bl (n_ K.on),0)
 |11=>(K,sx K.L,0)
 |12=>(K,sy K.L,0)
 |_=>(K,pG c,0)
def aD.oh(c:aX)(K:aD):List Bs->aD×Bs×Nat
 |[]=>(K,[],1)
 |h::ws=>match gR h with
  |none=>(K,[],1)
  |some k=>match dp (eH k) ws with
   |none=>(K,[],1)
   |some ns=>K.cW c ns k
def aD.fR(c:aX)(K:aD)(l:Bs):aD×Bs×Nat:=K.oh c (eJ 32 l)
def nI(T:Nat->Bs)(p:aD×Bs×Nat):Bs:=if p.2.2=0 then p.2.1 else T p.2.2
def fS(c:aX):aD->List Bs->aD
 |K,[]=>K
 |K,l::t=>fS c (K.fR c l).1 t
def gS(c:aX)(T:Nat->Bs):aD->List Bs->List Bs
 |_,[]=>[]
 |K,l::t=>nI T (K.fR c l)::gS c T (K.fR c l).1 t
def zt:List Bs->Nat
 |[]=>0
 |h::ws=>if gR h=J 3 then (((dp [5] ws).getD []).getD 0 0).toNat else 0
def ik(l:Bs):Nat:=zt (eJ 32 l)
def jE:List Bs->Nat
 |[]=>0
 |l::t=>ik l+jE t
section
variable {c:aX}{T:Nat->Bs}{K:aD}{k:Nat}
def KW(c:aX):∀(l t:List Bs) (K:aD),fS c K (l++t)=fS c (fS c K l) t
 |[],_,_=>rfl
 |v::l,t,K=>KW c l t (K.fR c v).1
def KX(c:aX)(T:Nat->Bs):∀(l t:List Bs) (K:aD),gS c T K (l++t)=gS c T K l++gS c T (fS c K l) t
 |[],_,_=>rfl
 |v::l,t,K=>by
  show _::gS c T _ (l++t)=_::(_++_)
  rw[KX c T l t _];rfl
def KY(c:aX)(T:Nat->Bs):∀(l:List Bs) (K:aD),(gS c T K l).length=l.length
 |[],_=>rfl
 |v::l,K=>by show (gS c T _ l).length+1=l.length+1;rw[KY c T l]
def acj{l:List Bs}{v:Bs}(h:l[i]?=J v):fS c K (l.take (i+1))=((fS c K (l.take i)).fR c v).1:=by
 rw[eI,h,KW];rfl
def ack{l:List Bs}{v:Bs}(h:l[i]?=J v):gS c T K (l.take (i+1))=gS c T K (l.take i)++[nI T ((fS c K (l.take i)).fR c v)]:=by
 rw[eI,h,KX];rfl
def GQ:∀(l t:List Bs),jE (l++t)=jE l+jE t
 |[],t=>(lD _).symm
 |v::l,t=>by show ik v+jE (l++t)=ik v+jE l+jE t;rw[GQ l t,qh]
def Ri(l:List Bs)(i:Nat):jE (l.take i)<=jE l:=by
 have:=GQ (l.take i) (l.drop i);rw[rf]at this;omega
def Rj{d n:Int}(h:iC w d=J n):0<=n/\num n=w/\(w.length:Int)<=d/\Lib.atoi w=J n:=by
 unfold iC at h
 split at h
 ·cases h
 rename_i hd
 split at h
 ·rename_i m hm
  split at h
  ·cases h
  rename_i hc
  cases h
  refine⟨by omega,Classical.byContradiction λe=>hc (aN e),by omega,hm⟩
 cases h
def KZ:∀(ds:List Int) (ws:List Bs) (ns:List Int),(∀d∈ds,d<=18)->dp ds ws=J ns->ns.length=ds.length/\ws.length=ds.length/\∀n∈ns,0<=n/\n<1000000000000000000
 |[],[],ns,_,h=>by cases h;exact⟨rfl,rfl,λn hn=>by cases hn⟩
 |[],_::_,_,_,h=>by cases h
 |_::_,[],_,_,h=>by cases h
 |d::ds,w::ws,ns,hd,h=>by
  rw[dp]at h
  split at h
  ·cases h
  rename_i n hn
  cases ht:dp ds ws with
  |none=>rw[ht]at h;cases h
  |some t=>
   rw[ht]at h
   cases h
   obtain⟨a,b,e⟩:=KZ ds ws t (λx hx=>hd x (rO _ hx)) ht
   refine⟨by simp[a],by simp[b],λm hm=>?_⟩
   rcases fe.1 hm with rfl|hm
   ·obtain⟨s1,-,s3,s4⟩:=Rj hn;have:=hd d (nQ ..);exact⟨s1,(Lib.atoi_bound s4 (by omega)).2⟩
   exact e m hm
def K4(k:Nat):∀d∈eH k,d<=18:=by
 unfold eH
 split<;>intro d hd<;>simp at hd<;>omega
def acm(h:∀n∈ns,0<=n/\n<1000000000000000000)(i:Nat):0<=ns.getD i 0/\ns.getD i 0<1000000000000000000:=by
 rw[fp]
 cases e:ns[i]? with
 |none=>exact⟨rP _,by decide⟩
 |some n=>exact h n (bP e)
def xD(h:gR w=J k):k<14/\og k=w:=by
 unfold gR at h;have h1:=List.find?_some h;have h2:=List.mem_of_find?_eq_some h;exact⟨pq.1 h2,ar h1⟩
def Rk(h:gR w=I):∀k,k<14->og k≠w:=by
 unfold gR at h;intro k hk e;have:=List.find?_eq_none.1 h k (pq.2 hk);exact this (bD e)
def Bz{p:aD×Nat}(n:Nat)(h:bF c p.1 (k+1) (144*p.1.d.now)/\p.1.d.now<=K.d.now+n)(h2:p.2<=11):bF c (oV p).1 (k+1) (144*(oV p).1.d.now)/\(oV p).1.d.now<=K.d.now+n/\(oV p).2.2<=11:=⟨h.1,h.2,h2⟩
def acn(hr:er c)(h:bF c K k (144*K.d.now))(ns:List Int)(hb:∀n∈ns,0<=n/\n<1000000000000000000)(kd N:Nat)(hN:kd=3->(ns.getD 0 0).toNat<=N)(hn:K.d.now+N<=1099511627776):bF c (K.cW c ns kd).1 (k+1) (144*(K.cW c ns kd).1.d.now)/\(K.cW c ns kd).1.d.now<=K.d.now+N/\(K.cW c ns kd).2.2<=11:=by
 have jF:bF c K (k+1) _/\K.d.now<=K.d.now+N:=⟨h.mono (by omega) (aR _),by omega⟩;unfold aD.cW
 split
 ·exact Bz N (by rw[ab'];exact⟨h.begin _,by omega⟩) (Rb K _)
 ·exact Bz N (by rw[aca];exact⟨h.stop _,by omega⟩) (Rc K _)
 ·exact Bz N (by rw[acb];exact⟨h.report _ _,by omega⟩) (Ra K _ _)
 ·have:=hN rfl;obtain⟨a,b⟩:=bF.dM hr (ns.getD 0 0).toNat K h (by omega);exact Bz N ⟨a.mono (by omega) (aR _),by omega⟩ (KU hr _ K h (by omega))
 ·exact Bz N (by rw[acd];exact⟨(h.cut _ (by have:=acm hb 0;omega)).mono (by omega) (aR _),by omega⟩) (Re K _)
 ·exact Bz N (by rw[ab_];exact⟨(h.fD hr).mono (by omega) (aR _),by omega⟩) (Rf c K)
 ·exact⟨jF.1,jF.2,bA _⟩
 ·exact⟨jF.1,jF.2,bA _⟩
 ·split
  ·exact⟨jF.1,jF.2,bA _⟩
  exact⟨jF.1,jF.2,by show 5<=11;omega⟩
 ·exact⟨jF.1,jF.2,bA _⟩
 ·exact⟨jF.1,jF.2,bA _⟩
 ·exact⟨jF.1,jF.2,bA _⟩
 ·exact⟨jF.1,jF.2,bA _⟩
 exact⟨jF.1,jF.2,bA _⟩
def K6(h:gR w=I):K.oh c (w::ws)=(K,[],1):=by rw[aD.oh,h]
def K7(h:gR w=J kd)(h2:dp (eH kd) ws=I):K.oh c (w::ws)=(K,[],1):=by rw[aD.oh,h];show (match dp _ ws with|none=>_|some ns=>_)=_;rw[h2]
def xE(h:gR w=J kd)(h2:dp (eH kd) ws=J ns):K.oh c (w::ws)=K.cW c ns kd:=by rw[aD.oh,h];show (match dp _ ws with|none=>_|some ns=>_)=_;rw[h2]
def aco(hr:er c)(h:bF c K k (144*K.d.now))(ws:List Bs)(hn:K.d.now+zt ws<=1099511627776):bF c (K.oh c ws).1 (k+1) (144*(K.oh c ws).1.d.now)/\(K.oh c ws).1.d.now<=K.d.now+zt ws/\(K.oh c ws).2.2<=11:=by
 have jF:bF c K (k+1) _/\K.d.now<=K.d.now+zt ws/\1<=11:=⟨h.mono (by omega) (aR _),by omega,by omega⟩
 cases ws with
 |nil=>exact jF
 |cons w ws=>
  cases hk:gR w with
  |none=>rw[K6 hk];exact jF
  |some kd=>
   cases hs:dp (eH kd) ws with
   |none=>rw[K7 hk hs];exact jF
   |some ns=>
    rw[xE hk hs]
    refine acn hr h ns (KZ _ _ _ (K4 kd) hs).2.2 kd _ (λe=>?_) hn;subst e;show _<=(if gR w=J 3 then _ else _)
    rw[aU hk,show dp [5] ws=J ns from hs];exact aR _
def K_(hr:er c)(h:bF c K k (144*K.d.now))(l:Bs)(hn:K.d.now+ik l<=1099511627776):bF c (K.fR c l).1 (k+1) (144*(K.fR c l).1.d.now)/\(K.fR c l).1.d.now<=K.d.now+ik l/\(K.fR c l).2.2<=11:=aco hr h _ hn
def La(hr:er c):∀(l:List Bs) (K:aD) (k:Nat),bF c K k (144*K.d.now)->K.d.now+jE l<=900000->bF c (fS c K l) (k+l.length) (144*(fS c K l).d.now)/\(fS c K l).d.now<=K.d.now+jE l
 |[],K,k,h,_=>⟨h,aR _⟩
 |v::l,K,k,h,hn=>by
  have hl:jE (v::l)=ik v+jE l:=rfl;obtain⟨a,b,-⟩:=K_ hr h v (by omega);obtain⟨a2,b2⟩:=La hr l _ _ a (by omega);have e:k+(v::l).length=k+1+l.length:=by simp;omega
  rw[e];exact⟨a2,by show (fS c _ l).d.now<=_;omega⟩
end
end Go.Proofs.YtgjlihibabmgcaaGreatDoor
namespace Go.Proofs
open Go.Shelf
def Rl:Go.Shelf.Ren:=⟨fun|156=>141|165=>194|166=>175|169=>21|240=>174|241=>239|276=>204|277=>272|n=>n,fun|31=>37|9=>9|3=>3|4=>4|0=>0|20=>20|72=>65|76=>211|70=>63|37=>41|75=>32|127=>124|164=>249|5=>5|80=>69|n=>n,fun|n=>n⟩
def acp:Go.Proofs.Lays.n156 prog Rl:=by repeat' (first|kernel_rfl|(intro w;kernel_rfl)|decide|constructor)
def acq:Builder.Extra prog Rl:=by repeat' (first|kernel_rfl|(intro w;kernel_rfl)|decide|constructor)
open Go.RowKit in
def strings_Join(bk o c:Nat)(xs:List ByteArray)(sep:ByteArray)(w:ak)(JM:∀(j:Nat) x,xs[j]?=J x->w.cell? ⟨bk,o+j,I⟩=J (aA x))(dQ:bk<w.heap.size)(hN:xs.length<=140737488355328)(mR:xs.length<=c)(hlen:(Lib.join (xs.map (·.data.toList)) sep.data.toList).length<=140737488355328):Calls prog 141 #[aj (J (ai bk o I)) xs.length c,aA sep] w λe w'=>e=ax (aA ⟨(Lib.join (xs.map (·.data.toList)) sep.data.toList).toArray⟩)/\Below w.heap.size w w':=Any.strings_Join acp acq bk o c xs sep w JM dQ hN mR hlen
def acr:Go.Shelf.Ren:=⟨fun|172=>241|244=>274|245=>275|247=>295|279=>296|280=>297|281=>298|282=>299|287=>312|316=>313|171=>74|205=>314|321=>316|322=>317|243=>130|246=>191|283=>234|284=>235|285=>236|286=>237|129=>268|317=>267|318=>269|319=>270|320=>271|337=>293|338=>294|n=>n,fun|9=>9|3=>3|75=>32|76=>211|4=>4|5=>5|167=>335|37=>41|0=>0|85=>336|2=>2|168=>338|53=>281|175=>351|46=>292|210=>354|127=>124|145=>359|143=>357|21=>21|171=>280|173=>284|212=>316|51=>317|20=>20|213=>318|232=>349|233=>350|80=>69|n=>n,fun|15=>18|16=>19|17=>11|18=>16|19=>17|n=>n⟩
def acs:Go.Proofs.Lays.n172 prog acr:=by repeat' (first|kernel_rfl|(intro w;kernel_rfl)|decide|constructor)
open Go.RowKit in
def strconv_Atoi(s:ByteArray)(n:Int)(hl:s.size<=18)(h:Lib.atoi s.data.toList=J n)(w:ak):Calls prog 241 #[aA s] w λe w'=>e=ax (bn #[ae af n,.nilIface])/\∃t,w'=Lib.bytesWorld w 5 t:=Any.strconv_Atoi acs s n hl h w
def acu:Go.Shelf.Ren:=⟨fun|172=>241|244=>274|245=>275|247=>295|279=>296|280=>297|281=>298|282=>299|287=>312|316=>313|171=>74|205=>314|321=>316|322=>317|243=>130|246=>191|283=>234|284=>235|285=>236|286=>237|129=>268|317=>267|318=>269|319=>270|320=>271|337=>293|338=>294|n=>n,fun|9=>9|3=>3|75=>32|76=>211|4=>4|5=>5|167=>335|37=>41|0=>0|85=>336|2=>2|168=>338|53=>281|175=>351|46=>292|210=>354|127=>124|145=>359|143=>357|21=>21|171=>280|173=>284|212=>316|51=>317|20=>20|213=>318|232=>349|233=>350|80=>69|n=>n,fun|15=>18|16=>19|17=>11|18=>16|19=>17|n=>n⟩
def acv:Go.Proofs.LaysC.n172 prog acu:=by repeat' (first|kernel_rfl|(intro w;kernel_rfl)|decide|constructor)
open Go.RowKit in
def strconv_Atoi_err(s:ByteArray)(hl:s.size<=18)(h:Lib.atoi s.data.toList=I)(ev:aw)(w:ak)(hv:w.cell? (ai 18 0 I)=J ev)(ud:ev=.nilIface\/∃te pe,ev=.iface te pe):Calls prog 241 #[aA s] w λe w'=>∃N,e=ax (bn #[ae af 0,.iface 338 (aq (J (ai N 0 I)))])/\w.heap.size<=N/\w'.heap[N]?=J (ay #[aA ⟨#[65,116,111,105]⟩,aA s,ev] 354 (0,0))/\Below w.heap.size w w':=Any.strconv_Atoi_err acv s hl h ev w hv ud
def Rm:Go.Shelf.Ren:=⟨fun|155=>142|154=>195|138=>214|165=>194|143=>215|166=>175|197=>240|169=>21|195=>251|218=>252|240=>174|241=>239|219=>253|260=>273|276=>204|277=>272|217=>279|225=>280|224=>281|267=>282|266=>301|314=>302|n=>n,fun|9=>9|3=>3|4=>4|72=>65|0=>0|76=>211|105=>287|21=>21|5=>5|70=>63|20=>20|37=>41|75=>32|127=>124|164=>249|46=>292|119=>331|139=>334|138=>333|146=>342|51=>317|80=>69|n=>n,fun|1=>12|3=>14|4=>15|n=>n⟩
def acw:Go.Proofs.Lays.n155 prog Rm:=by repeat' (first|kernel_rfl|(intro w;kernel_rfl)|decide|constructor)
def acx:Builder.Extra prog Rm:=by repeat' (first|kernel_rfl|(intro w;kernel_rfl)|decide|constructor)
open Go.RowKit Go.Lib in
def strings_ReplaceAll(s old new:ByteArray)(m:Int)(w:ak)(hs:s.size<4294967281)(hm:w.cell? (ai 12 0 I)=J (ae af m))(h1:1<=old.size)(hlen:s.size+Lib.countB s old*new.size<=140737488355328):Calls prog 142 #[aA s,aA old,aA new] w λe w'=>
   e=ax (aA ⟨(Lib.replaceAll s.data.toList old.data.toList new.data.toList).toArray⟩)/\Below w.heap.size w w':=Any.strings_ReplaceAll acw acx s old new m w hs hm h1 hlen
end Go.Proofs
namespace Go.Proofs.YtgjlihibabmgcaaGreatDoor
open Go
variable{B b cap k m r:Nat}{D:DataW Unit}{R:aw->Option (DataW Unit×List MemPlace)}{T:TypeId}{a:Int}{e:aM}{fv lv v:aw}{s:aZ}{sa:Option aC}{w w':ak}{x:Int×Int}
structure fo where
 a:fw
 g:bX
 f:jd
def fo.new(e:aM):fo:=⟨⟨lf e.cnt e.au.length,e.mn,e.mx,0⟩,bX.new e.aV,⟨-1,false⟩⟩
def fo.rep(e:aM)(s:fo)(p t:Int):fo:=⟨s.a.rep p,s.g.rep p t,s.f.rep e p⟩
def fo.zero(s:fo):fo:=⟨s.a.zero,s.g.zero,s.f.zero⟩
def fo.kind(s:fo)(whole:Bool):Int:=Gt s.a s.g s.f whole
structure dw where
 w:fo
 whole:Bool
 run:Nat
 ex:Bool
variable{n:dw}
def dw.new(e:aM):dw:=⟨fo.new e,false,0,false⟩
def dw.kind(s:dw):Int:=s.w.kind s.whole
def dw.rep(e:aM)(s:dw)(p t:Int):dw:=if fq e p=true then { s with w:=s.w.rep e p t }else s
def dw.mh(s:dw):Nat:=if s.kind=0 then 0 else s.run+1
def dw.turns(e:aM)(s:dw):Bool:=decide (s.kind≠0)&&(!s.ex&&decide (e.bh<(s.run+1:Int)))
def dw.fin(e:aM)(s:dw):dw:=⟨s.w.zero,true,s.mh,s.ex||s.turns e⟩
def dw.status(s:dw):Nat:=if s.ex then 3 else if s.run=0 then 1 else 2
def acy(s:bX)(p t:Int):(s.rep p t).xs.length=s.xs.length:=by unfold bX.rep;split<;>simp
structure ku(e:aM)(n:dw)(s:aZ):Prop where
 act:s.act=true
 a:n.w.a=kL e s.ms s.since
 g:n.w.g=tD e.aV s.ms s.since
 f:n.w.f=tE e s.ms s.since
 whole:n.whole=decide (0<s.since)
 run:s.run=(n.run:Int)
 ex:n.ex=s.ex
def ku.new(e:aM)(s:aZ)(h:s.act=false):ku e (dw.new e) s.begin:=by
 have hb:s.begin=⟨true,0,[],0,false⟩:=by unfold aZ.begin;rw[h];rfl
 rw[hb];exact⟨rfl,(aaY e).symm,WI _,(WV e).symm,by simp[dw.new],rfl,rfl⟩
def ku.rep(h:ku e n s)(p t:Int)(hl:s.ms.length<1000)(ht:rQ t=true):ku e (n.rep e p t) (s.rep e p t):=by
 unfold dw.rep aZ.rep
 by_cases hp:fq e p=true
 ·rw[aU hp,aU ⟨h.act,hp⟩]
  refine⟨h.act,?_,?_,?_,h.whole,h.run,h.ex⟩
  ·show n.w.a.rep p=_
   rw[h.a];exact aa0 e _ _ p t hl
  ·show n.w.g.rep p t=_
   rw[h.g];exact WJ _ _ _ p t ht
  show n.w.f.rep e p=_
  rw[h.f];exact WW e _ _ p t
 rw[aK hp,aK (λx=>hp x.2)];exact h
def ku.kind(h:ku e n s)(hc:e.cnt<(e.au.length:Int)):n.kind=s.kind e:=by
 unfold dw.kind fo.kind aZ.kind;rw[h.a,h.g,h.f,h.whole,aa2 hc,aU h.act]
def ku.turns(h:ku e n s)(hc:e.cnt<(e.au.length:Int))(ht:0<=e.bh):n.turns e=s.turns e:=by
 have hk:=h.kind hc;unfold aZ.kind at hk;rw[aU h.act]at hk;unfold dw.turns aZ.turns aZ.mh;rw[hk,h.act,h.ex,h.run]
 by_cases h0:lg e s.ms s.since=0
 ·simp[h0];omega
 simp[h0]
def ku.fin(h:ku e n s)(hc:e.cnt<(e.au.length:Int))(ht:0<=e.bh)(hm:∀m∈s.ms,m.cyc<=s.since)(h0:0<=s.since):ku e (n.fin e) (s.fin e):=by
 have hk:=h.kind hc;have acz:=h.turns hc ht;unfold aZ.kind at hk;rw[aU h.act]at hk;unfold dw.fin aZ.fin;rw[aU h.act]
 refine⟨rfl,?_,?_,?_,?_,?_,?_⟩
 ·show n.w.a.zero=_
  rw[h.a];exact aa1 hm
 ·show n.w.g.zero=_
  rw[h.g];exact WK hm
 ·show n.w.f.zero=_
  rw[h.f];exact WX hm
 ·show true=decide (0<s.since+1)
  rw[bD (by omega)]
 ·show s.mh e=((n.mh:Nat):Int)
  unfold aZ.mh dw.mh;rw[hk,h.run]
  split<;>simp
 show (n.ex||n.turns e)=(s.ex||decide _)
 rw[acz,h.ex];unfold aZ.turns;rw[h.act]
 cases s.ex<;>simp
def ku.status(h:ku e n s):n.status=s.status:=by
 unfold dw.status aZ.status;rw[h.act,h.ex,h.run]
 cases s.ex
 ·by_cases hr:n.run=0
  ·simp[hr]
  simp[hr]
 rfl
open Go.Extern Go.Extern.Stop Go.RowKit Go.Stop
section
structure dW(B:Nat)(w:ak)(b:Nat)(e:aM)(s:jd)(m n:Nat)(D:DataW Unit)(fv lv:aw):Prop where
 heap:w.heap[b]?=J (.cells #[.int .i64 (e.au.length:Int),.map (J m),fv,lv,.int .i64 s.ah,.bool s.bad] 312 (0,0))
 lo:B<=b
 own:w.ownsMap prog 74 unitElem m n D
 BA:Bu D e.aP
 hf:bI bT 1 3 B w fv e.first
 hl:bI bT 1 3 B w lv e.last
 fit:s.ah=-1\/(0<=s.ah/\s.ah<(e.au.length:Int))
 sm:gG e
 wf:t_ e.aP
variable {B b m n:Nat}{w0 w w':ak}{e:aM}{s:jd}{D:DataW Unit}{fv lv:aw}
def dW.acA(h:dW B w b e s m n D fv lv):m≠b:=by
 obtain⟨es,c,hm,-⟩:=h.own;intro e;subst e;rw[h.heap]at hm
 cases hm
def GR{k:TypeId}(h:w.ownsMap prog k R m n D)(hb:Below w.heap.size w w'):w'.ownsMap prog k R m n D:=
 h.kept (row:=I) ⟨hb.os,hb.tape,hb.output,hb.size,λk hk _=>hb.block k hk⟩ (by simp)
def dW.below(h:dW B w b e s m n D fv lv)(hb:Below w.heap.size w w'):dW B w' b e s m n D fv lv:=
 ⟨a8 hb h.heap,h.lo,GR h.own hb,h.BA,h.hf.below hb,h.hl.below hb,h.fit,h.sm,h.wf⟩
def dW.setCell(h:dW B w b e s m n D fv lv)(i:Nat)(u:aw){s':jd}(hr:(#[ae af (e.au.length:Int),.map (J m),fv,lv,ae af s.ah,aL s.bad]:Array aw).setIfInBounds i u=#[ae af (e.au.length:Int),.map (J m),fv,lv,ae af s'.ah,aL s'.bad])(hf:s'.ah=-1\/(0<=s'.ah/\s'.ah<(e.au.length:Int))):dW B (w.setCell (ai b i I) u) b e s' m n D fv lv:=by
 refine⟨?_,h.lo,h.own.setCell (a:=⟨b,i,_⟩) h.acA u,h.BA,h.hf.other (bJ w b i u) h.heap (ar rfl),h.hl.other (bJ w b i u) h.heap (ar rfl),hf,h.sm,h.wf⟩;simp only[bN,cL,h.heap];simp[<- hr]
def dW.acB(h:dW B w b e s m n D fv lv)(hf:a=-1\/(0<=a/\a<(e.au.length:Int))):dW B (w.setCell (ai b 4 I) (ae af a)) b e ⟨a,s.bad⟩ m n D fv lv:=h.setCell 4 _ (by simp) hf
def dW.DT(h:dW B w b e s m n D fv lv)(v:Bool):dW B (w.setCell (ai b 5 I) (aL v)) b e ⟨s.ah,v⟩ m n D fv lv:=h.setCell 5 _ (by simp) h.fit
def dW.cell(h:dW B w b e s m n D fv lv)(i:Nat)(u:aw)(hu:(#[ae af (e.au.length:Int),.map (J m),fv,lv,ae af s.ah,aL s.bad]:Array aw)[i]?=J u):w.cell? (ai b i I)=J u:=by simp[aH,h.heap,hu]
def dW.frozen(h:dW B w b e s m n D fv lv)(i:Nat):w.frozen? (ai b i I)=false:=by simp[bM,h.heap]
def acC(l:List Int)(x:Int)(sa:Option aC)(cap:Nat)(w:ak)(hl:bw bT 1 w (aj sa l.length cap) l)(hn:l.length<=1000000):Calls prog 245 #[aj sa l.length cap,ae af x] w λv w'=>(∃i:Int,v=ax (ae af i)/\(0<=i↔x∈l))/\w'=w:=by
 have HL:U (bw _ 1 w _ l):=hl;change U _ at hn
 go_enter func245,ntmps245
 go_wp2;go_loop [5,8] (λ_ i=>∃k:Nat,k<=l.length/\i=ae af k/\∀j,j<k->l[j]?≠J x) (λ_ i=>l.length-(intOf i).toNat)
 case atStart=>exact⟨0,bA _,rfl,λj hj=>absurd hj (by omega)⟩
 case round=>
  obtain⟨k,hk,rfl,(hno:U _)⟩:=hrel
  by_cases hlt:k<l.length
  ·have k1:(k:Int)<(l.length:Int):=by omega
   have k2:k<1000000:=by have:=hn.o;omega
   obtain⟨y,hy⟩:∃y,l[k]?=J y:=⟨_,bq hlt⟩;obtain⟨bQ,cap',bH,-,hcc⟩:=id HL.o
   cases bH
   obtain⟨g,o,rfl,hc0⟩:=hcc (λh=>by rw[h]at hy;simp at hy);have c0:=hc0 k _ hy 0 _ rfl;simp only[qT,kH]at c0;clear hcc hc0;change U _ at hy
   by_cases tY:x=y
   ·have HX:U (x∈l):=by show _∈_;rw[tY];exact bP hy.o
    subst tY;go_wp2;go_ret;exact⟨⟨_,rfl,⟨λ_=>HX,λ_=>by omega⟩⟩,rfl⟩
   have HX:U (∀j,j<k+1->l[j]?≠J x):=λj hj=>by
    rcases fF j k with h1|h1
    ·exact hno j h1
    rw[show j=k by omega,hy.o];intro h;exact tY (by simpa using h.symm)
   go_wp2;go_round
   case rel=>exact⟨_,by omega,by go_num,HX⟩
   case measure=>simp[intOf];omega
  have k1:¬(k:Int)<(l.length:Int):=by omega
  have HX:U (x∉l):=by
   show _∉_
   intro h;obtain⟨i,hi⟩:=r7 h;have:=(df.1 hi).1;exact hno i (by omega) hi
  go_wp2;go_ret;exact⟨⟨_,rfl,⟨λh=>absurd h (by omega),λh=>absurd h HX⟩⟩,rfl⟩
def Lb(l:List Int)(x:Int)(sa:Option aC)(cap:Nat)(w:ak)(hl:bw bT 1 w (aj sa l.length cap) l)(hn:l.length<=1000000):Calls prog 203 #[aj sa l.length cap,ae af x] w λv w'=>v=ax (aL (decide (x∈l)))/\w'=w:=by
 have HC:U _:=acC l x sa cap w hl hn;go_enter func203,ntmps203
 go_wp2_with fail
 refine aO HC.o ?_;rintro v w' ⟨⟨i,rfl,hi⟩,rfl⟩;have HI:U (decide _=decide _):=pA.2 hi;go_wp2;go_ret;exact⟨by rw[<- HI.o];first|rfl|simp,rfl⟩
def BF(p:Int)(h:dW B w b e s m n D fv lv):Calls prog 287 #[aq (J (ai b 0 I)),ae af p] w λv w'=>v=ax (aL (fq e p))/\w'=w:=by
 have c0:=h.cell 0 _ rfl
 by_cases g0:0<=p
 ·have HR:U (fq e p=decide (p<(e.au.length:Int))):=by show _=_;unfold fq;rw[bD g0];rfl
  go_enter func287,ntmps287
  go_wp2;go_ret;exact⟨by rw[HR.o];first|rfl|simp,rfl⟩
 have HR:U (fq e p=false):=by show _=_;unfold fq;rw[bV g0];rfl
 go_enter func287,ntmps287
 go_wp2;go_ret;exact⟨by rw[HR.o];first|rfl|simp,rfl⟩
end
section
variable {B b m n:Nat}{w0 w w':ak}{e:aM}{s:jd}{D:DataW Unit}{fv lv:aw}
def GU(w:ak)(r:Option Nat):w.grownBy w r:=⟨rfl,rfl,rfl,aR _,λ_ _ _=>rfl⟩
def acD(w:ak):(zeroValue 155).run prog w=.ok (bK #[]) w:=by kernel_rfl
def dW.au(h:dW B w b e s m n D fv lv):e.au.length<=1000000:=h.sm.hp
def acE{p:Int}(h:fq e p=true)(hp:e.au.length<=1000000):lL p:=by
 unfold fq at h;simp at h
 exact D1 (by omega) (by omega)
def acF(h:a=-1\/(0<=a/\a<(e.au.length:Int)))(hp:e.au.length<=1000000):lL a:=by
 rcases h with rfl|h
 ·exact D1 (by omega) (by omega)
 exact D1 (by omega) (by omega)
def acG(ah p:Int)(h:dW B w b e s m n D fv lv)(Gz:ah=-1\/(0<=ah/\ah<(e.au.length:Int))):Calls prog 259 #[aq (J (ai b 0 I)),ae af ah,ae af p] w λv w'=>v=ax (aL (iu e ah p))/\w.grownBy w' I:=by
 have H:U _:=h;have c1:=h.cell 1 _ rfl;have HS:=ab7 h.BA h.wf;have Rn:U (lL ah):=acF Gz h.au
 by_cases h0:e.aP=[]
 ·have hz:=HS.2 h0;have HR:U (iu e ah p=true):=by show _=_;unfold iu;rw[bD h0];rfl
  go_enter func259,ntmps259
  go_wp2_with (at_len;refine wpList_len_own _ rfl _ 310 rfl 74 155 underlying310 _ m n D rfl H.own ?_)
  go_ret;exact⟨by rw[HR.o];rfl,GU _ _⟩
 have hz:¬((Maps.size D:Nat):Int)=0:=λh=>h0 (HS.1 (by omega))
 have HD:U (iu e ah p=(fq e p&&(if ah=-1 then decide (p∈e.first)else decide ((ah,p)∈e.aP)))):=by show _=_;unfold iu;rw[bV h0];rfl
 cases hp:fq e p
 ·have HR:U (iu e ah p=false):=by show _=_;rw[HD.o,hp];rfl
  go_enter func259,ntmps259
  go_wp2_with (first|(at_len;refine wpList_len_own _ rfl _ 310 rfl 74 155 underlying310 _ m n D rfl H.own ?_)|(go_at_call 287;refine(BF p H).mono ?_;rw[hp];rintro v w' ⟨rfl,rfl⟩))
  go_ret;exact⟨by rw[HR.o];rfl,GU _ _⟩
 have Ro:U (lL p):=acE hp H.au
 by_cases ha:ah=-1
 ·have HR:U (iu e ah p=decide (p∈e.first)):=by show _=_;rw[HD.o,hp,aU ha];rfl
  have c2:=H.cell 2 _ rfl;obtain⟨sa,c,rfl⟩:=iB H.hf;subst ha;go_enter func259,ntmps259
  go_wp2_with (first|(at_len;refine wpList_len_own _ rfl _ 310 rfl 74 155 underlying310 _ m n D rfl H.own ?_)|(go_at_call 287;refine(BF p H).mono ?_;rw[hp];rintro v w' ⟨rfl,rfl⟩)|(go_at_call 203;apply(Lb _ p _ _ _ (H.hf.jz (λ_=>rfl)) H.sm.hf).mono;rintro v w' ⟨rfl,rfl⟩))
  go_ret;exact⟨by rw[HR.o];rfl,GU _ _⟩
 have HR:U (iu e ah p=decide ((ah,p)∈e.aP)):=by show _=_;rw[HD.o,hp,aK ha];rfl
 have HM:U (Maps.has D _=decide ((ah,p)∈e.aP)):=H.BA.2.2 _ Rn Ro;go_enter func259,ntmps259
 go_wp2_with (first|(at_len;refine wpList_len_own _ rfl _ 310 rfl 74 155 underlying310 _ m n D rfl H.own ?_)|(go_at_call 287;refine(BF p H).mono ?_;rw[hp];rintro v w' ⟨rfl,rfl⟩)|(at_lookup;refine wpList_lookup_own_unit _ rfl _ _ 310 rfl 74 155 KM underlying310 (acD _) m n D rfl H.own _ _ rfl (GM Rn Ro) ?_))
 go_ret;exact⟨by rw[HR.o,<- HM.o];rfl,World.grownBy_alloc _ _ _⟩
def Rp(p:Int)(h:dW B w b e s m n D fv lv):Calls prog 260 #[aq (J (ai b 0 I)),ae af p] w λv w'=>v=ax (ae af (jc e p))/\w'=w:=by
 have H:U _:=h
 cases hp:fq e p
 ·have HR:U (jc e p=-1):=by show _=_;unfold jc;rw[aK (by rw[hp];simp)]
  go_enter func260,ntmps260
  go_wp2_with (go_at_call 287;refine(BF p H).mono ?_;rw[hp];rintro v w' ⟨rfl,rfl⟩)
  go_ret;exact⟨by rw[HR.o];rfl,rfl⟩
 have c3:=H.cell 3 _ rfl;obtain⟨sa,c,rfl⟩:=iB H.hl
 by_cases hl:p∈e.last
 ·have HR:U (jc e p=-1):=by show _=_;unfold jc;rw[aK (λh=>h.2 hl)]
  have hd:=bD hl;go_enter func260,ntmps260
  go_wp2_with (first|(go_at_call 287;refine(BF p H).mono ?_;rw[hp];rintro v w' ⟨rfl,rfl⟩)|(go_at_call 203;refine(Lb _ p _ _ _ (H.hl.jz (λ_=>rfl)) H.sm.hl).mono ?_;rw[hd];rintro v w' ⟨rfl,rfl⟩))
  go_ret;exact⟨by rw[HR.o];rfl,rfl⟩
 have HR:U (jc e p=p):=by show _=_;unfold jc;rw[aU ⟨hp,hl⟩]
 have hd:=bV hl;go_enter func260,ntmps260
 go_wp2_with (first|(go_at_call 287;refine(BF p H).mono ?_;rw[hp];rintro v w' ⟨rfl,rfl⟩)|(go_at_call 203;refine(Lb _ p _ _ _ (H.hl.jz (λ_=>rfl)) H.sm.hl).mono ?_;rw[hd];rintro v w' ⟨rfl,rfl⟩))
 go_ret;exact⟨by rw[HR.o];rfl,rfl⟩
def Lc(h:w.grownBy w' I):Below w.heap.size w w':=⟨h.os,h.tape,h.output,h.size,λk hk=>h.block k hk (by simp)⟩
end
def GV(B:Nat)(l:List Int)(sa:Option aC)(cap:Nat)(w:ak)(hl:bw bT 1 w (aj sa l.length cap) l)(hn:l.length<=1000000)(hB:B<=w.heap.size):Calls prog 220 #[aj sa l.length cap] w λv w'=>(∃bQ cap',v=ax (aj bQ l.length cap')/\bI bT 1 3 B w' (aj bQ l.length cap') l)/\Below w.heap.size w w':=by
 obtain⟨i0,hi,hz0,hz1,hz2⟩:=iw Dx;have HL:U (bw _ 1 w _ l):=hl;have HN:U _:=hn;change U _ at hB
 cases sa with
 |none=>
  have h0:l=[]:=by
   obtain⟨bQ,cap',bH,-,hcc⟩:=HL.o
   cases bH
   by_cases e:l=[]
   ·exact e
   obtain⟨b,o,h,-⟩:=hcc e
   cases h
  subst h0;have he:∀w:ak,(binOp .eql 44 _ _).run _ w=.ok (aL true) w:=λw=>xA w _ _ I 0 cap underlying44
  go_enter func220,ntmps220
  go_wp2;go_ret;exact⟨⟨_,0,rfl,gF _ _ _ _⟩,aF _ _⟩
 |some a=>
  have he:∀w:ak,(binOp .eql 44 (aj _ l.length cap) _).run _ w=.ok (aL false) w:=λw=>xA w _ _ (J a) _ cap underlying44
  have HC:U (∀V,Below w.heap.size w V->∀j u,(l.flatMap bT)[j]?=J u->V.cell? (a.add j)=J u):=λV hV j u hu=>by
   obtain⟨bQ,cap',bH,-,hcc⟩:=HL.o
   cases bH
   have hne:l≠[]:=λh=>by rw[h]at hu;simp at hu
   obtain⟨b,o,zu,hc⟩:=hcc hne
   cases zu
   obtain⟨i',j',y,e1,h2,h3⟩:=zi (enc:=bT) (k:=1) (λ_=>rfl) l j u hu;have:=hc i' y h2 j' u h3;rw[e1,kM,<- qh];exact aJ hV this
  go_enter func220,ntmps220
  go_wp2_with (at_builtin;refine pz _ rfl _ _ 44 rfl B 3 i0 _ 1 8 underlying44 hi hz0 hz1 hz2 rfl (ar rfl) (aj _ 0 0) 0 [] rfl (AU w #[] 0 hB (by unfold maxLen;omega) rfl) a _ cap _ rfl (zh (enc:=bT) (k:=1) (λ_=>rfl) l) (HC _ (aS _ _)) (λu hu=>by simp only[tB]at hu;obtain⟨y,-,hy⟩:=hu;exact zj y u hy) (by have:=HN.o;unfold maxLen;omega) (by have:=HN.o;omega) (by have:=hB.o;simp;omega) ?_;intro v' w1 hown hg hn;obtain⟨va,vc,rfl⟩:=iB hown)
  go_ret;simp only[lD]at hown
  refine⟨⟨va,vc,by simp,by simpa[bI]using hown⟩,?_⟩;have h1:Below _ w (w.alloc (ay #[] 3)):=aS _ _;exact h1.grown hg h1.size (λi hi=>by simp[dF]at hi;omega)
structure pH(B:Nat)(w:ak)(b:Nat)(e:aM)(m:Nat)(f1:Option aC)(f2:Nat)(l1:Option aC)(l2:Nat)(j:Nat):Prop where
 heap:w.heap[b]?=J (ay #[ae af (e.au.length:Int),.map (J m),aj f1 e.first.length f2,aj l1 e.last.length l2,ae af (-1),aL false] 312 (0,0))
 lo:B<=b
 own:∃D,w.ownsMap prog 74 (unitElem (H:=Unit)) m j D/\Bu D (e.aP.take j)
 GX:B<=m
 hf:bI bT 1 3 B w (aj f1 e.first.length f2) e.first
 hl:bI bT 1 3 B w (aj l1 e.last.length l2) e.last
section
variable {B b m:Nat}{w w':ak}{e:aM}{f1 l1:Option aC}{f2 l2 j:Nat}
def pH.below(h:pH B w b e m f1 f2 l1 l2 j)(hb:Below w.heap.size w w'):pH B w' b e m f1 f2 l1 l2 j:=by
 obtain⟨D,h1,h2⟩:=h.own;exact⟨a8 hb h.heap,h.lo,⟨D,GR h1 hb,h2⟩,h.GX,h.hf.below hb,h.hl.below hb⟩
def Rq{l:List Int}(h:bI bT 1 T B w v l){k:TypeId}{n:Nat}(ho:w.ownsMap prog k R m n D)(hg:w.grownBy w' (J m)):bI bT 1 T B w' v l:=by
 refine h.kept hg (aN ?_)
 rcases h.2 with⟨rfl,_⟩|⟨g,cap,cur,rfl,_,cM,_⟩
 ·simp[dF]
 intro e;simp only[dF,dJ]at e;subst e;obtain⟨es,c,hm,-⟩:=ho;rw[cM]at hm
 cases hm
def pH.put(h:pH B w b e m f1 f2 l1 l2 j)(hx:e.aP[j]?=J x)(hw:lL x.1/\lL x.2)(hj:j<maxLen):∃w',(Instr.mapUpdate 310 (.map (J m)) (bK #[ae af x.1,ae af x.2]) (bK #[])).run prog w=.ok () w'/\pH B w' b e m f1 f2 l1 l2 (j+1)/\w.grownBy w' (J m):=by
 obtain⟨D,h1,h2⟩:=h.own;obtain⟨w',hrun,ho,hg⟩:=h1.update KM underlying310 hj (GM hw.1 hw.2) unitElem_mk
 refine⟨w',hrun,⟨(hg.block b (bL h.heap) ?_).trans h.heap,h.lo,⟨_,ho,?_⟩,h.GX,Rq h.hf h1 hg,Rq h.hl h1 hg⟩,hg⟩
 ·intro e2
  cases e2
  obtain⟨es,c,hm,-⟩:=h1;rw[h.heap]at hm
  cases hm
 have:=ab6 h2 x hw;rw[eI,hx];exact this
end
def Ld(e:aM)(x B:Nat)(pa fa la:Option aC)(pc fc lc:Nat):Nat->aw->ak->Prop
 |0=>λv _=>v=aq (J (ai x 2 I))
 |1=>λv _=>v=aj pa e.au.length pc
 |2=>λv _=>v=ae af (e.au.length:Int)
 |3=>λv w=>∃m,v=.map (J m)/\B<=m/\w.ownsMap prog 74 (unitElem (H:=Unit)) m 0 (.map [])
 |4=>λv _=>v=aq (J (ai x 8 I))
 |5=>λv _=>v=aj fa e.first.length fc
 |6=>λv w=>∃f1 f2,v=aj f1 e.first.length f2/\bI bT 1 3 B w (aj f1 e.first.length f2) e.first
 |7=>λv _=>v=aq (J (ai x 9 I))
 |8=>λv _=>v=aj la e.last.length lc
 |9=>λv w=>∃l1 l2,v=aj l1 e.last.length l2/\bI bT 1 3 B w (aj l1 e.last.length l2) e.last
 |10=>λv w=>∃m f1 f2 l1 l2,v=bK #[ae af (e.au.length:Int),.map (J m),aj f1 e.first.length f2,aj l1 e.last.length l2,ae af (-1),aL false]/\B<=m/\w.ownsMap prog 74 (unitElem (H:=Unit)) m 0 (.map [])/\bI bT 1 3 B w (aj f1 e.first.length f2) e.first/\bI bT 1 3 B w (aj l1 e.last.length l2) e.last
 |11=>λv w=>∃b m f1 f2 l1 l2,v=aq (J (ai b 0 I))/\pH B w b e m f1 f2 l1 l2 0
 |12=>λv w=>∃b m f1 f2 l1 l2,v=aq (J (ai b 0 I))/\pH B w b e m f1 f2 l1 l2 0
 |_=>λ_ _=>True
def GY{x:Nat}{pa fa la:Option aC}{pc fc lc:Nat}(hb:Below w.heap.size w w'):∀j v,Ld e x B pa fa la pc fc lc j v w->Ld e x B pa fa la pc fc lc j v w':=by
 intro j v h
 match j,h with
 |0,h=>exact h
 |1,h=>exact h
 |2,h=>exact h
 |3,h=>obtain⟨m,h1,h2,h3⟩:=h;exact⟨m,h1,h2,GR h3 hb⟩
 |4,h=>exact h
 |5,h=>exact h
 |6,h=>obtain⟨a,c,h1,h2⟩:=h;exact⟨a,c,h1,h2.below hb⟩
 |7,h=>exact h
 |8,h=>exact h
 |9,h=>obtain⟨a,c,h1,h2⟩:=h;exact⟨a,c,h1,h2.below hb⟩
 |10,h=>obtain⟨m,f1,f2,l1,l2,h1,h2,h3,h4,h5⟩:=h;exact⟨m,f1,f2,l1,l2,h1,h2,GR h3 hb,h4.below hb,h5.below hb⟩
 |11,h=>obtain⟨b,m,f1,f2,l1,l2,h1,h2⟩:=h;exact⟨b,m,f1,f2,l1,l2,h1,h2.below hb⟩
 |12,h=>obtain⟨b,m,f1,f2,l1,l2,h1,h2⟩:=h;exact⟨b,m,f1,f2,l1,l2,h1,h2.below hb⟩
 |n+13,h=>exact h
def Le(b m:Nat)(x:Int×Int):Nat->aw->ak->Prop
 |0=>λv _=>v=aq (J (ai b 0 I))
 |1=>λv _=>v=aq (J (ai b 0 I))
 |2=>λv _=>v=aq (J (ai b 1 I))
 |3=>λv _=>v=.map (J m)
 |4=>λv _=>v=bK #[ae af x.1,ae af x.2]
 |5=>λv _=>v=bK #[]
 |_=>λ_ _=>True
def acH{done:Nat->Bool}:∀j v,done j=true->Le b m x j v w->Le b m x j v w':=by
 intro j v _ h
 match j,h with
 |0,h=>exact h
 |1,h=>exact h
 |2,h=>exact h
 |3,h=>exact h
 |4,h=>exact h
 |5,h=>exact h
 |n+6,h=>exact h
def upTo(k:Nat)(d:Bool):Nat:=if d then k+1 else k
def Rs(w w':ak)(b:Nat)(e:aM):Prop:=Below w.heap.size w w'/\∃m n D fv lv,dW w.heap.size w' b e ⟨-1,false⟩ m n D fv lv/\w.heap.size<=m
def acI(e:aM)(pa ga ea fa la:Option aC)(pc gc ec fc lc:Nat)(w:ak)(hP:fh w e (aj pa e.au.length pc) (aj ga e.aV.length gc) (aj ea e.aP.length ec) (aj fa e.first.length fc) (aj la e.last.length lc))(hS:gG e)(hW:t_ e.aP):Calls prog 225 #[.agg (eR e pa pc ga gc ea ec fa fc la lc)] w λv w'=>∃b,v=ax (aq (J (ai b 0 I)))/\Rs w w' b e:=by
 unfold eR;have HP:U _:=hP;have eG:U _:=hS;have Rt:U (t_ _):=hW;clear hP hS hW;go_enter func225,ntmps225
 go_upto_region 1 with fail
 obtain⟨W,hW⟩:∃V,V=w.alloc (ay (eR e pa pc ga gc ea ec fa fc la lc) 58):=⟨_,rfl⟩;rw[<- hW];have cx:U (Below w.heap.size w W):=by show Below _ _ _;rw[hW];exact aS _ _
 have HX:U (∀(j:Nat) u,((eR e pa pc ga gc ea ec fa fc la lc):Array _)[j]?=J u->W.cell? (ai w.heap.size j I)=J u):=λj u hu=>by
  rw[hW];have:=mP w _ 58 j u (by simpa using hu);rw[kM]at this;simpa using this
 clear hW
 go_cut [3,6,7,8,9,10,11,12,13,14,15,16,17] (λv _ _ _ _ _ _ _ _ _ _ _ _ wx=>∃b m f1 f2 l1 l2,v=aq (J (ai b 0 I))/\Below W.heap.size W wx/\pH w.heap.size wx b e m f1 f2 l1 l2 0)
 case first=>
  refine tT 13 rfl (Ld e w.heap.size w.heap.size pa fa la pc fc lc) (λV=>Below W.heap.size W V) (by kernel_rfl) (by kernel_rfl) (aF _ _).drew ?_ ?_
  ·refine mM ⟨?_,?_,?_,?_,?_,?_,?_,?_,?_,?_,?_,?_,?_,trivial⟩
   all_goals
    refine ql.free rfl ?_;intro a V hC aB aQ
   ·have x1:a.tmps[1]?.getD _=aq _:=aW (aQ 1 (dS (by kernel_rfl)));exact eh (c:=aq _) (by clear aB aQ;go_simp) hC rfl
   ·have x6:a.tmps[6]?.getD _=aq _:=aW (aB _ 6 (bj (i:=0) rfl) rfl rfl);have c2:V.cell? _=J (aj pa _ pc):=aJ hC (HX 2 _ rfl);exact eh (c:=aj pa _ pc) (by clear aB aQ;go_simp) hC rfl
   ·have x7:a.tmps[7]?.getD _=aj pa _ pc:=aW (aB _ 7 (bj (i:=0) rfl) rfl rfl);exact eh (c:=ae af _) (by clear aB aQ;go_simp) hC rfl
   ·have hrun:=run_makeMap (P:=prog) 310 V;exact goodRun.made (c:=.map _) (w':=V.alloc _) (by clear aB aQ;go_simp) (hC.alloc hC.size _) (GY (aS _ _)) ⟨_,rfl,bp cx.size hC.size,World.ownsMap_made V _ _ _⟩
   ·have x1:a.tmps[1]?.getD _=aq _:=aW (aQ 1 (dS (by kernel_rfl)));exact eh (c:=aq _) (by clear aB aQ;go_simp) hC rfl
   ·have Lf:a.tmps[10]?.getD _=aq _:=aW (aB _ 10 (bj (i:=0) rfl) rfl rfl);have c8:V.cell? _=J (aj fa _ fc):=aJ hC (HX 8 _ rfl);exact eh (c:=aj fa _ fc) (by clear aB aQ;go_simp) hC rfl
   ·have GZ:a.tmps[11]?.getD _=aj fa _ fc:=aW (aB _ 11 (bj (i:=0) rfl) rfl rfl)
    refine nZ (f:=220) (args:=#[aj fa e.first.length fc]) (by clear aB aQ;go_simp) ?_
    apply(GV _ _ _ _ V ((HP.hf).below (cx.trans (hC.mono cx.size))) eG.hf (bp cx.size hC.size)).mono;rintro v V' ⟨⟨bQ,cap',rfl,zv⟩,hb'⟩;exact⟨_,rfl,hC.trans (hb'.mono hC.size),GY hb',⟨_,_,rfl,zv⟩⟩
   ·have x1:a.tmps[1]?.getD _=aq _:=aW (aQ 1 (dS (by kernel_rfl)));exact eh (c:=aq _) (by clear aB aQ;go_simp) hC rfl
   ·have Lg:a.tmps[13]?.getD _=aq _:=aW (aB _ 13 (bj (i:=0) rfl) rfl rfl);have c9:V.cell? _=J (aj la _ lc):=aJ hC (HX 9 _ rfl);exact eh (c:=aj la _ lc) (by clear aB aQ;go_simp) hC rfl
   ·have Lh:a.tmps[14]?.getD _=aj la _ lc:=aW (aB _ 14 (bj (i:=0) rfl) rfl rfl)
    refine nZ (f:=220) (args:=#[aj la e.last.length lc]) (by clear aB aQ;go_simp) ?_
    apply(GV _ _ _ _ V ((HP.hl).below (cx.trans (hC.mono cx.size))) eG.hl (bp cx.size hC.size)).mono;rintro v V' ⟨⟨bQ,cap',rfl,zv⟩,hb'⟩;exact⟨_,rfl,hC.trans (hb'.mono hC.size),GY hb',⟨_,_,rfl,zv⟩⟩
   ·have x8:a.tmps[8]?.getD _=ae af _:=aW (aB _ 8 (bj (i:=0) rfl) rfl rfl);obtain⟨m,G0,oT,D5⟩:=aB _ 9 (bj (i:=1) rfl) rfl rfl;obtain⟨f1,f2,nW,hf2⟩:=aB _ 12 (bj (i:=2) rfl) rfl rfl;obtain⟨l1,l2,G5,hl2⟩:=aB _ 15 (bj (i:=3) rfl) rfl rfl;have x9:a.tmps[9]?.getD _=.map _:=aW G0;have Li:a.tmps[12]?.getD _=aj f1 _ f2:=aW nW;have GG:a.tmps[15]?.getD _=aj l1 _ l2:=aW G5;exact eh (c:=.agg _) (by clear aB aQ G0 oT D5 nW hf2 G5 hl2;go_simp) hC ⟨m,f1,f2,l1,l2,rfl,oT,D5,hf2,hl2⟩
   ·obtain⟨m,f1,f2,l1,l2,hv,oT,D5,hf2,hl2⟩:=aB _ 16 (bj (i:=0) rfl) rfl rfl;have GD:=aW hv;exact goodRun.made (c:=aq _) (w':=V.alloc _) (by clear aB aQ hv oT D5 hf2 hl2;go_simp) (hC.alloc hC.size _) (GY (aS _ _)) ⟨_,m,f1,f2,l1,l2,rfl,⟨(MapKept.heap_alloc V _).1,bp cx.size hC.size,⟨_,D5.alloc _,ab5⟩,oT,hf2.below (aS _ _),hl2.below (aS _ _)⟩⟩
   obtain⟨b,m,f1,f2,l1,l2,hv,hp⟩:=aB _ 17 (bj (i:=0) rfl) rfl rfl;have KF:=aW hv;exact eh (c:=aq _) (by clear aB aQ hv hp;go_simp) hC ⟨b,m,f1,f2,l1,l2,rfl,hp⟩
  intro vals V hC hS;obtain⟨b,m,f1,f2,l1,l2,hv,hp⟩:=hS 12 (ar rfl);have Bq:U _:=hC;have acJ:U _:=hp;clear hS hC hp;simp only[fill,dZ];go_simp
  go_wp2
  go_meet
  case rel=>exact⟨b,m,f1,f2,l1,l2,rfl,Bq,acJ⟩
 obtain⟨b,m,f1,f2,l1,l2,rfl,qx,Ru⟩:=hcut;rename ak=>W1
 have bu:U _:=qx;have vw:U _:=Ru;have c7:W1.cell? _=J (aj ea _ ec):=aJ qx (HX 7 _ rfl);have dV:U _:=cx.trans (qx.mono cx.size);clear qx Ru HX bu;go_wp2_with fail
 clear c7
 go_loopw [5,21] (λ_ i wr=>∃k:Nat,k<=e.aP.length/\i=ae af k/\Below w.heap.size w wr/\pH w.heap.size wr b e m f1 f2 l1 l2 k) (λ_ i _=>e.aP.length-(intOf i).toNat)
 case atStart=>exact⟨0,bA _,rfl,dV,vw⟩
 case round=>
  clear vw dV;obtain⟨k,hk,rfl,dQ,Rv⟩:=hrel;have HB:U _:=dQ;have xF:U _:=Rv;clear dQ Rv
  by_cases hlt:k<e.aP.length
  ·have k1:(k:Int)<(e.aP.length:Int):=by omega
   have k2:k<1000000:=by have:=eG.he;omega
   have HK:U _:=k2;obtain⟨x,hx⟩:∃x,e.aP[k]?=J x:=⟨_,bq hlt⟩;have GA:U _:=hx;have acK:U _:=Rt x (bP hx);obtain⟨bQ,cap',bH,-,hcc⟩:=HP.he
   cases bH
   obtain⟨g,o,rfl,hc0⟩:=hcc (λh=>by rw[h]at hx;simp at hx);have c0:=aJ HB (hc0 k _ hx 0 _ rfl);have c1:=aJ HB (hc0 k _ hx 1 _ rfl);simp only[kH]at c0;clear hcc hc0 hx;go_upto_region 5 with fail
   obtain⟨V0,ia⟩:∃V,V=wr.alloc (ay #[ae af x.1,ae af x.2] 74):=⟨_,rfl⟩;rw[<- ia];have nY:U (Below wr.heap.size wr V0):=by show Below _ _ _;rw[ia];exact aS _ _
   have Lj:U (V0.heap[wr.heap.size]?=J (ay #[ae af x.1,ae af x.2] 74 (0,0))):=by show _=_;rw[ia];exact(MapKept.heap_alloc wr _).1
   obtain⟨kb,hkb⟩:∃kb,kb=wr.heap.size:=⟨_,rfl⟩;have Lk:U (Below _ w V0/\pH _ V0 b e m f1 f2 l1 l2 k):=⟨HB.trans (nY.mono HB.size),xF.below nY⟩;rw[<- hkb]at Lj;rw[<- hkb];clear ia c0 c1 nY hkb HB xF
   refine Du 7 rfl (Le b m x) (λdone V=>Below _ w V/\pH _ V b e m f1 f2 l1 l2 (upTo k (done 6))/\V.heap[kb]?=J _) (by kernel_rfl) (by kernel_rfl) ⟨Lk.1.drew,Lk.2.below (aF _ _).drew,Lj⟩ ?_ ?_
   ·refine mM ⟨?_,?_,?_,?_,?_,?_,?_,trivial⟩
    all_goals
     refine zf.free rfl ?_;intro done a V hC ue _ aB aQ
    ·have x3:a.tmps[3]?.getD _=aq _:=aW (aQ 3 (dS (by kernel_rfl)));exact dA.val (c:=aq _) (by clear aB aQ;go_simp) ⟨hC.1,by rw[cq _ (ar rfl)];exact hC.2.1,hC.2.2⟩ rfl
    ·have Ke:a.tmps[25]?.getD _=aq _:=aW (aB _ 25 (bj (i:=0) rfl) rfl rfl);exact dA.val (c:=aq _) (by clear aB aQ;go_simp) ⟨hC.1,by rw[cq _ (ar rfl)];exact hC.2.1,hC.2.2⟩ rfl
    ·have QK:a.tmps[26]?.getD _=aq _:=aW (aB _ 26 (bj (i:=0) rfl) rfl rfl);exact dA.val (c:=aq _) (by clear aB aQ;go_simp) ⟨hC.1,by rw[cq _ (ar rfl)];exact hC.2.1,hC.2.2⟩ rfl
    ·have QM:a.tmps[27]?.getD _=aq _:=aW (aB _ 27 (bj (i:=0) rfl) rfl rfl);have c1:V.cell? (ai b 1 I)=J (.map (J m)):=by have:=hC.2.1.heap;simp[aH,this]
     exact dA.val (c:=.map _) (by clear aB aQ;go_simp) ⟨hC.1,by rw[cq _ (ar rfl)];exact hC.2.1,hC.2.2⟩ rfl
    ·have x5:a.tmps[5]?.getD _=aq _:=aW (aQ 5 (dS (by kernel_rfl)));have c0:V.cell? (ai kb 0 I)=J (ae af x.1):=by have:=hC.2.2;simp[aH,this]
     have c1:V.cell? (ai kb 1 I)=J (ae af x.2):=by have:=hC.2.2;simp[aH,this]
     exact dA.val (c:=.agg _) (by clear aB aQ;go_simp) ⟨hC.1,by rw[cq _ (ar rfl)];exact hC.2.1,hC.2.2⟩ rfl
    ·exact dA.val (c:=bK #[]) (by clear aB aQ;go_simp) ⟨hC.1,by rw[cq _ (ar rfl)];exact hC.2.1,hC.2.2⟩ rfl
    have Kf:a.tmps[28]?.getD _=.map _:=aW (aB _ 28 (bj (i:=0) rfl) rfl rfl);have QL:a.tmps[29]?.getD _=.agg _:=aW (aB _ 29 (bj (i:=1) rfl) rfl rfl);have aaO:a.tmps[30]?.getD _=bK #[]:=aW (aB _ 30 (bj (i:=2) rfl) rfl rfl);have hp:pH w.heap.size V b e m f1 f2 l1 l2 k:=by have:=hC.2.1;rw[ue]at this;exact this
    obtain⟨V',hrun,BG,cM⟩:=hp.put GA acK (by have:=HK.o;unfold maxLen;omega)
    refine dA.Gp (w':=V') (by clear aB aQ hC hp BG cM;go_simp) ⟨?_,?_,?_⟩ (acH) trivial
    ·exact hC.1.grown cM hC.1.size (λi hi=>by cases hi;exact hp.GX)
    ·rw[Bf];exact BG
    exact(cM.block _ (bL hC.2.2) (by intro e2;cases e2;obtain⟨D,⟨es,c,hm,-⟩,-⟩:=hp.own;rw[hC.2.2]at hm;cases hm)).trans hC.2.2
   intro vals V hC hS;have Bq:U (Below _ w V/\pH _ V b e m f1 f2 l1 l2 (k+1)):=⟨hC.1,hC.2.1⟩;clear hS hC Lk Lj;simp only[fill,dZ];go_simp
   go_wp2
   go_roundw
   case rel=>exact⟨_,by omega,by go_num,Bq.1,Bq.2⟩
   case measure=>simp[intOf];omega
  have k1:¬(k:Int)<(e.aP.length:Int):=by omega
  have jh:k=e.aP.length:=by omega
  have HF:U (Rs w wr b e):=by
   obtain⟨D,h1,h2⟩:=xF.own
   refine⟨HB,m,k,D,_,_,⟨xF.heap,xF.lo,h1,?_,xF.hf,xF.hl,aT rfl,eG,Rt⟩,xF.GX⟩;rw[jh,mL]at h2;exact h2
  go_wp2;go_ret;exact⟨b,rfl,HF⟩
def acL(B:Nat)(l:List (ByteArray))(sa:Option aC)(cap:Nat)(w:ak)(hl:bw ct 1 w (aj sa l.length cap) l)(hn:l.length<=1000000)(hB:B<=w.heap.size):Calls prog 217 #[aj sa l.length cap] w λv w'=>(∃bQ cap',v=ax (aj bQ l.length cap')/\bI ct 1 9 B w' (aj bQ l.length cap') l)/\Below w.heap.size w w':=by
 obtain⟨i0,hi,hz0,hz1,hz2⟩:=iw Kk;have HL:U (bw _ 1 w _ l):=hl;have HN:U _:=hn;change U _ at hB
 cases sa with
 |none=>
  have h0:l=[]:=by
   obtain⟨bQ,cap',bH,-,hcc⟩:=HL.o
   cases bH
   by_cases e:l=[]
   ·exact e
   obtain⟨b,o,h,-⟩:=hcc e
   cases h
  subst h0;have he:∀w:ak,(binOp .eql 37 _ _).run _ w=.ok (aL true) w:=λw=>xA w _ _ I 0 cap underlying37
  go_enter func217,ntmps217
  go_wp2;go_ret;exact⟨⟨_,0,rfl,gF _ _ _ _⟩,aF _ _⟩
 |some a=>
  have he:∀w:ak,(binOp .eql 37 (aj _ l.length cap) _).run _ w=.ok (aL false) w:=λw=>xA w _ _ (J a) _ cap underlying37
  have HC:U (∀V,Below w.heap.size w V->∀j u,(l.flatMap ct)[j]?=J u->V.cell? (a.add j)=J u):=λV hV j u hu=>by
   obtain⟨bQ,cap',bH,-,hcc⟩:=HL.o
   cases bH
   have hne:l≠[]:=λh=>by rw[h]at hu;simp at hu
   obtain⟨b,o,zu,hc⟩:=hcc hne
   cases zu
   obtain⟨i',j',y,e1,h2,h3⟩:=zi (enc:=ct) (k:=1) (λ_=>rfl) l j u hu;have:=hc i' y h2 j' u h3;rw[e1,kM,<- qh];exact aJ hV this
  go_enter func217,ntmps217
  go_wp2_with (at_builtin;refine pz _ rfl _ _ 37 rfl B 9 i0 _ 1 16 underlying37 hi hz0 hz1 hz2 rfl (ar rfl) (aj _ 0 0) 0 [] rfl (AU w #[] 0 hB (by unfold maxLen;omega) rfl) a _ cap _ rfl (zh (enc:=ct) (k:=1) (λ_=>rfl) l) (HC _ (aS _ _)) (λu hu=>by simp only[tB]at hu;obtain⟨y,-,hy⟩:=hu;exact Ko y u hy) (by have:=HN.o;unfold maxLen;omega) (by have:=HN.o;omega) (by have:=hB.o;simp;omega) ?_;intro v' w1 hown hg hn;obtain⟨va,vc,rfl⟩:=iB hown)
  go_ret;simp only[lD]at hown
  refine⟨⟨va,vc,by simp,by simpa[bI]using hown⟩,?_⟩;have h1:Below _ w (w.alloc (ay #[] 9)):=aS _ _;exact h1.grown hg h1.size (λi hi=>by simp[dF]at hi;omega)
def acM(B:Nat)(l:List (eT))(sa:Option aC)(cap:Nat)(w:ak)(hl:bw lF 4 w (aj sa l.length cap) l)(hn:l.length<=1000000)(hB:B<=w.heap.size):Calls prog 218 #[aj sa l.length cap] w λv w'=>(∃bQ cap',v=ax (aj bQ l.length cap')/\bI lF 4 73 B w' (aj bQ l.length cap') l)/\Below w.heap.size w w':=by
 obtain⟨i0,hi,hz0,hz1,hz2⟩:=iw Kl;have HL:U (bw _ 4 w _ l):=hl;have HN:U _:=hn;change U _ at hB
 cases sa with
 |none=>
  have h0:l=[]:=by
   obtain⟨bQ,cap',bH,-,hcc⟩:=HL.o
   cases bH
   by_cases e:l=[]
   ·exact e
   obtain⟨b,o,h,-⟩:=hcc e
   cases h
  subst h0;have he:∀w:ak,(binOp .eql 55 _ _).run _ w=.ok (aL true) w:=λw=>xA w _ _ I 0 cap underlying55
  go_enter func218,ntmps218
  go_wp2;go_ret;exact⟨⟨_,0,rfl,gF _ _ _ _⟩,aF _ _⟩
 |some a=>
  have he:∀w:ak,(binOp .eql 55 (aj _ l.length cap) _).run _ w=.ok (aL false) w:=λw=>xA w _ _ (J a) _ cap underlying55
  have HC:U (∀V,Below w.heap.size w V->∀j u,(l.flatMap lF)[j]?=J u->V.cell? (a.add j)=J u):=λV hV j u hu=>by
   obtain⟨bQ,cap',bH,-,hcc⟩:=HL.o
   cases bH
   have hne:l≠[]:=λh=>by rw[h]at hu;simp at hu
   obtain⟨b,o,zu,hc⟩:=hcc hne
   cases zu
   obtain⟨i',j',y,e1,h2,h3⟩:=zi (enc:=lF) (k:=4) (λ_=>rfl) l j u hu;have:=hc i' y h2 j' u h3;rw[e1,kM,<- qh];exact aJ hV this
  go_enter func218,ntmps218
  go_wp2_with (at_builtin;refine pz _ rfl _ _ 55 rfl B 73 i0 _ 4 32 underlying55 hi hz0 hz1 hz2 rfl (ar rfl) (aj _ 0 0) 0 [] rfl (AU w #[] 0 hB (by unfold maxLen;omega) rfl) a _ cap _ rfl (zh (enc:=lF) (k:=4) (λ_=>rfl) l) (HC _ (aS _ _)) (λu hu=>by simp only[tB]at hu;obtain⟨y,-,hy⟩:=hu;exact Kq y u hy) (by have:=HN.o;unfold maxLen;omega) (by have:=HN.o;omega) (by have:=hB.o;simp;omega) ?_;intro v' w1 hown hg hn;obtain⟨va,vc,rfl⟩:=iB hown)
  go_ret;simp only[lD]at hown
  refine⟨⟨va,vc,by simp,by simpa[bI]using hown⟩,?_⟩;have h1:Below _ w (w.alloc (ay #[] 73)):=aS _ _;exact h1.grown hg h1.size (λi hi=>by simp[dF]at hi;omega)
def acN(B:Nat)(l:List (Int×Int))(sa:Option aC)(cap:Nat)(w:ak)(hl:bw kI 2 w (aj sa l.length cap) l)(hn:l.length<=1000000)(hB:B<=w.heap.size):Calls prog 219 #[aj sa l.length cap] w λv w'=>(∃bQ cap',v=ax (aj bQ l.length cap')/\bI kI 2 74 B w' (aj bQ l.length cap') l)/\Below w.heap.size w w':=by
 obtain⟨i0,hi,hz0,hz1,hz2⟩:=iw Km;have HL:U (bw _ 2 w _ l):=hl;have HN:U _:=hn;change U _ at hB
 cases sa with
 |none=>
  have h0:l=[]:=by
   obtain⟨bQ,cap',bH,-,hcc⟩:=HL.o
   cases bH
   by_cases e:l=[]
   ·exact e
   obtain⟨b,o,h,-⟩:=hcc e
   cases h
  subst h0;have he:∀w:ak,(binOp .eql 56 _ _).run _ w=.ok (aL true) w:=λw=>xA w _ _ I 0 cap underlying56
  go_enter func219,ntmps219
  go_wp2;go_ret;exact⟨⟨_,0,rfl,gF _ _ _ _⟩,aF _ _⟩
 |some a=>
  have he:∀w:ak,(binOp .eql 56 (aj _ l.length cap) _).run _ w=.ok (aL false) w:=λw=>xA w _ _ (J a) _ cap underlying56
  have HC:U (∀V,Below w.heap.size w V->∀j u,(l.flatMap kI)[j]?=J u->V.cell? (a.add j)=J u):=λV hV j u hu=>by
   obtain⟨bQ,cap',bH,-,hcc⟩:=HL.o
   cases bH
   have hne:l≠[]:=λh=>by rw[h]at hu;simp at hu
   obtain⟨b,o,zu,hc⟩:=hcc hne
   cases zu
   obtain⟨i',j',y,e1,h2,h3⟩:=zi (enc:=kI) (k:=2) (λ_=>rfl) l j u hu;have:=hc i' y h2 j' u h3;rw[e1,kM,<- qh];exact aJ hV this
  go_enter func219,ntmps219
  go_wp2_with (at_builtin;refine pz _ rfl _ _ 56 rfl B 74 i0 _ 2 16 underlying56 hi hz0 hz1 hz2 rfl (ar rfl) (aj _ 0 0) 0 [] rfl (AU w #[] 0 hB (by unfold maxLen;omega) rfl) a _ cap _ rfl (zh (enc:=kI) (k:=2) (λ_=>rfl) l) (HC _ (aS _ _)) (λu hu=>by simp only[tB]at hu;obtain⟨y,-,hy⟩:=hu;exact Kp y u hy) (by have:=HN.o;unfold maxLen;omega) (by have:=HN.o;omega) (by have:=hB.o;simp;omega) ?_;intro v' w1 hown hg hn;obtain⟨va,vc,rfl⟩:=iB hown)
  go_ret;simp only[lD]at hown
  refine⟨⟨va,vc,by simp,by simpa[bI]using hown⟩,?_⟩;have h1:Below _ w (w.alloc (ay #[] 74)):=aS _ _;exact h1.grown hg h1.size (λi hi=>by simp[dF]at hi;omega)
section
def Rx(w:ak)(q:Nat)(r:Option Nat):w.grownBy (w.drewN q) r:=by
 have h:=br (aF w.heap.size w) q;exact⟨h.os,h.tape,h.output,h.size,λk hk _=>h.block k hk⟩
variable {w:ak}{b:Nat}{a:fw}
def acO(p:Int)(h:h_ w b a):Calls prog 226 #[aq (J (ai b 0 I)),ae af p] w λe w'=>e=ax (bn #[])/\h_ w' b (a.rep p)/\w.grownBy w' (J b):=by
 have c0:=h.c0;have c3:=h.c3;have f3:=h.frozen 3;have hn:=h.hn
 by_cases h0:a.pt=-1
 ·have HR:U (a.rep p=a):=by show _=_;unfold fw.rep;rw[aK (λe=>e.1 h0)]
  rw[h0]at c0;change U _ at h
  go_enter func226,ntmps226
  go_wp2;go_end0
  exact⟨rfl,by rw[HR.o];exact h,vt _ _⟩
 by_cases h1:p=a.pt
 ·subst h1
  by_cases h2:a.n<1000
  ·have HR:U (a.rep a.pt={ a with n:=a.n+1 }):=by show _=_;unfold fw.rep;rw[aU ⟨h0,rfl,h2⟩]
   change U _ at h
   have h3:(a.n:Int)<1000:=by omega
   go_enter func226,ntmps226
   go_wp2;go_end0
   refine⟨rfl,?_,bJ _ _ _ _⟩;rw[HR.o];have:=h.set (a.n+1) (by omega);simpa using this
  have HR:U (a.rep a.pt=a):=by show _=_;unfold fw.rep;rw[aK (λe=>h2 e.2.2)]
  change U _ at h
  have h3:¬(a.n:Int)<1000:=by omega
  go_enter func226,ntmps226
  go_wp2;go_end0
  exact⟨rfl,by rw[HR.o];exact h,vt _ _⟩
 have HR:U (a.rep p=a):=by show _=_;unfold fw.rep;rw[aK (λe=>h1 e.2.1)]
 change U _ at h
 go_enter func226,ntmps226
 go_wp2;go_end0
 exact⟨rfl,by rw[HR.o];exact h,vt _ _⟩
def acP(whole:Bool)(h:h_ w b a):Calls prog 305 #[aq (J (ai b 0 I)),aL whole] w λe w'=>e=ax (aL (a.well whole))/\h_ w' b a.zero/\w.grownBy w' (J b):=by
 have c0:=h.c0;have c1:=h.c1;have c2:=h.c2;have c3:=h.c3;have f3:=h.frozen 3;have H:U (∀q,h_ ((w.drewN q).setCell _ (ae af 0)) b a.zero/\w.grownBy ((w.drewN q).setCell ⟨b,3,_⟩ (ae af 0)) _):=λq=>⟨(h.drewN q).set 0 (by omega),(Rx w q _).trans (bJ ..)⟩
 have d0:∀q,((w.drewN q).setCell _ (ae af 0)).cell? _=J (ae af a.pt):=λq=>((h.drewN q).set 0 (by omega)).c0
 cases g1:decide (a.mn<=(a.n:Int))
 all_goals cases g2:decide ((a.n:Int)<=a.mx)
 all_goals cases whole
 all_goals cases g3:decide (a.pt=-1)
 all_goals
  go_enter func305,ntmps305
  go_wp2_with fail
  go_quiet (fail)
  go_wp2;go_ret;exact⟨by first|(unfold fw.well;rw[g1,g2,g3];rfl)|(unfold fw.well;rw[g1,g2];rfl),H _⟩
end
section
def GS(b:Nat)(sa:Option aC)(n k:Nat):Prop:=k=b\/(0<n/\∃o,sa=J ⟨k,o,I⟩)
def Ll{n:Nat}(hk:GS b sa n k)(j:Nat)(v:aw):aG (GS b sa n) w (w.setCell (ai k j I) v):=
 (aG.cG (bJ w k j v)).mono (λi _ e=>by subst e;exact hk)
variable {B b cap:Nat}{w0 w w':ak}{sa:Option aC}{s:bX}{xs:List WG}
def acQ(h:eF B w b sa cap s):Calls prog 306 #[aq (J (ai b 0 I))] w λe w'=>e=ax (aL (!s.bad))/\eF B w' b sa cap s.zero/\aG (GS b sa s.xs.length) w w':=by
 have c1:=h.c1;have f1:=h.f1;have H:U (eF B _ b sa cap s.zero):=h.DT _;have HF:U (aG (GS b sa s.xs.length) w (w.setCell ⟨b,1,_⟩ (aL false))):=Ll (aT rfl) _ _;go_enter func306,ntmps306
 go_wp2;go_ret;exact⟨rfl,H,HF⟩
def acR(p tick:Int)(h:eF B w b sa cap s)(hlen:s.xs.length<=1000000):Calls prog 227 #[aq (J (ai b 0 I)),ae af p,ae af tick] w λe w'=>e=ax (bn #[])/\eF B w' b sa cap (s.rep p tick)/\aG (GS b sa s.xs.length) w w':=by
 have HH:U _:=h;change U _ at hlen
 by_cases t0:tick<0
 ·have HR:U (s.rep p tick=s):=OV (by unfold rQ;rw[bV (by omega)];rfl);clear h;go_enter func227,ntmps227
  go_wp2;(try simp only[Exit.inBlock,Exit.then]);refine dL (results_none rfl ..) rfl ?_
  exact⟨rfl,by rw[HR.o];exact HH,aG.refl _ _⟩
 by_cases t1:1099511627776<tick
 ·have HR:U (s.rep p tick=s):=OV (by unfold rQ;rw[bV (p:=tick<=1099511627776) (by omega),zb]);clear h;go_enter func227,ntmps227
  go_wp2;(try simp only[Exit.inBlock,Exit.then]);refine dL (results_none rfl ..) rfl ?_
  exact⟨rfl,by rw[HR.o];exact HH,aG.refl _ _⟩
 have HT:U (0<=tick/\tick<=1099511627776):=⟨by omega,by omega⟩;have lN:U (rQ tick=true):=by show _=_;unfold rQ;rw[bD (by omega),bD (by omega)];rfl
 have HG:U _:=h;have c0:=h.c0;clear h HH;go_enter func227,ntmps227
 go_wp2_with fail
 go_loopw [18] (λi wr=>∃k:Nat,k<=s.xs.length/\i=ae af k/\aG (GS b sa s.xs.length) w wr/\eF B wr b sa cap (s.upto p tick k)) (λi _=>s.xs.length-(intOf i).toNat)
 case atStart=>exact⟨0,bA _,rfl,aG.refl _ _,by rw[bX.WB];exact HG⟩
 case round=>
  clear c0 HG;obtain⟨k,hk,rfl,(G6:U _),tW⟩:=hrel;have c0:=tW.c0;rw[bX.WD]at c0;change U _ at tW
  by_cases hlt:k<s.xs.length
  ·have k1:(k:Int)<(s.xs.length:Int):=by omega
   have k2:k<1000000:=by have:=hlen.o;omega
   obtain⟨x,hx⟩:∃x,s.xs[k]?=J x:=⟨_,bq hlt⟩;have HX:U _:=hx;have D6:=bX.OT (p:=p) (tick:=tick) hx;obtain⟨g,o,qy,hgb,dt,hcc,cur,xG⟩:=tW.sl (λe=>by rw[e]at D6;simp at D6);subst qy;have Ry:U (Gw wr g _ x):=λj u hu=>hcc k x D6 j u hu
   have HF:U (wr.frozen? ⟨g,o+k*5+4,I⟩=false):=by show _=_;simp[bM,xG]
   have Rz:U (∀v,aG _ w (wr.setCell ⟨g,o+k*5+4,_⟩ v)):=λv=>G6.trans (Ll (aN ⟨by omega,o,rfl⟩) _ v) (λ_ _ x=>x)
   have acS:U _:=tW.fit x (bP D6);have HN:U (∀v,(s.upto p _ k).xs.set k _=(s.upto p _ _).xs/\(v=(x.bad p _||(s.upto p _ k).bad)->v=(s.upto p tick _).bad)):=λv=>by rw[bX.WE HX.o];exact⟨rfl,λh=>h⟩
   clear hx D6 hgb dt hcc xG;go_wp2_with fail
   apply(abp Ry HF acS HT).mono;rintro v w1 ⟨rfl,iF⟩;have om:U (eF B w1 b (J (ai g o I)) cap ⟨(s.upto p tick k).xs.set k (x.rep p tick),(s.upto p tick k).bad⟩):=by show eF _ _ _ _ _ _;rw[iF];exact tW.round (bX.OT HX.o) HT
   have rj:U (aG (GS b (J (ai g o I)) s.xs.length) w w1):=by
    show aG _ _ _
    rw[iF]
    split
    ·exact Rz _
    exact G6
   clear iF tW c0 Ry HF Rz G6;have d1:w1.cell? _=J (aL (s.upto p _ k).bad):=om.c1;have f1:=om.f1;have HZ:U (∀v:Bool,v=(x.bad p tick||(s.upto p tick k).bad)->aG (GS b (J (ai g o I)) s.xs.length) w (w1.setCell (ai b 1 I) (aL v))/\eF B (w1.setCell (ai b 1 I) (aL v)) b (J (ai g o I)) cap (s.upto p tick (k+1))):=λv hv=>by
    refine⟨rj.trans (Ll (aT rfl) _ _) (λ_ _ x=>x),?_⟩;have h1:=om.DT v;have h2:=HN v;have:(⟨(s.upto p tick k).xs.set k (x.rep p tick),v⟩:bX)=s.upto p tick (k+1):=by rw[h2.1,h2.2 hv]
    rw[<- this];exact h1
   clear om HN rj;obtain⟨ub,eP⟩:∃ub,ub=(s.upto p tick k).bad:=⟨_,rfl⟩;rw[<- eP]at HZ d1;clear eP
   cases hb:x.bad p tick
   all_goals
    rw[hb]at HZ;go_wp2
    go_roundw
    case rel=>exact⟨_,by omega,by go_num,HZ _ rfl⟩
    case measure=>simp[intOf];omega
  have k1:¬(k:Int)<(s.xs.length:Int):=by omega
  have HE:U (s.upto p _ k=s.rep p _):=bX.WC hlt lN;go_wp2;go_end0
  refine⟨rfl,?_,G6⟩;rw[<- HE.o];exact tW
end
section
variable {B b m n:Nat}{w0 w w':ak}{e:aM}{s:jd}{D:DataW Unit}{fv lv:aw}
def acT(h:dW B w b e s m n D fv lv):Calls prog 307 #[aq (J (ai b 0 I))] w λz w'=>z=ax (aL (!s.bad))/\dW B w' b e s.zero m n D fv lv/\w.grownBy w' (J b):=by
 have c5:=h.cell 5 _ rfl;have f5:=h.frozen 5;have HF:U (dW B _ b e s.zero m n D fv lv):=h.DT _;go_enter func307,ntmps307
 go_wp2;go_ret;exact⟨rfl,HF,bJ _ _ _ _⟩
def acU(p:Int)(h:dW B w b e s m n D fv lv):Calls prog 228 #[aq (J (ai b 0 I)),ae af p] w λv w'=>v=ax (bn #[])/\dW B w' b e (s.rep e p) m n D fv lv/\w.grownBy w' (J b):=by
 have c5:=h.cell 5 _ rfl;have c4:=h.cell 4 _ rfl;have fin:∀(V:ak) (z:Bool),w.grownBy V I->z=(s.bad || !iu e s.ah p)->dW B (V.setCell (ai b 5 I) (aL z)) b e ⟨s.ah,z⟩ m n D fv lv/\dW B ((V.setCell (ai b 5 I) (aL z)).setCell ⟨b,4,I⟩ (ae af (jc e p))) b e (s.rep e p) m n D fv lv/\w.grownBy ((V.setCell (ai b 5 I) (aL z)).setCell ⟨b,4,I⟩ (ae af (jc e p))) (J b):=λV z hV hz=>by
  have hb:=Lc hV;have h1:=h.below hb;have h2:=h1.DT z;have h3:=h2.acB (OX e p)
  refine⟨h2,?_,?_⟩
  ·unfold jd.rep;rw[<- hz];exact h3
  exact((hV.but _).trans (bJ V b 5 _)).trans (bJ _ b 4 _)
 change U _ at fin h
 cases hb:s.bad
 ·rw[hb]at c5 fin;go_enter func228,ntmps228
  go_wp2_with fail
  apply(acG _ p h h.fit).mono;rintro v V ⟨rfl,hV⟩;obtain⟨h2,(h3:U _)⟩:=fin V (!iu e _ p) hV rfl;have f5:=(h.below (Lc hV)).frozen 5;have d5:V.cell? _=J (aL _):=(h.below (Lc hV)).cell 5 _ rfl;have d4:=h2.cell 4 _ rfl;have f4:=h2.frozen 4;clear fin hV c4 c5 h;change U _ at h2;go_wp2_with (go_at_call 260;apply(Rp p h2).mono;rintro v w' ⟨rfl,rfl⟩)
  go_end0
  exact⟨rfl,h3⟩
 rw[hb]at c5 fin;obtain⟨h2,(h3:U _)⟩:=fin w true (GU _ _) rfl;have f5:=h.frozen 5;have d4:=h2.cell 4 _ rfl;have f4:=h2.frozen 4;clear fin h;change U _ at h2;go_enter func228,ntmps228
 go_wp2_with (go_at_call 260;apply(Rp p h2).mono;rintro v w' ⟨rfl,rfl⟩)
 go_end0
 exact⟨rfl,h3⟩
end
structure EA where
 pa:Option aC
 ga:Option aC
 ea:Option aC
 fa:Option aC
 la:Option aC
 pc:Nat
 gc:Nat
 ec:Nat
 fc:Nat
 lc:Nat
section
variable {F F':Nat->Prop}{w w' w'':ak}{b ba bg bf:Nat}{e:aM}{E:EA}
def lO{α:Type}(enc:α->List aw)(k:Nat)(T:TypeId)(F:Nat->Prop)(w:ak)(v:aw)(xs:List α):Prop:=bI enc k T 0 w v xs/\∀g,v.ownBlock=J g->F g
def bI.same{α:Type}{enc:α->List aw}{xs:List α}(h:bI enc k T B w v xs)(hs:∀g,v.ownBlock=J g->w'.heap[g]?=w.heap[g]?):bI enc k T B w' v xs:=by
 refine⟨h.1,?_⟩
 rcases h.2 with hn|⟨g,cap,cur,rfl,hb,Bx,rest⟩
 ·exact .inl hn
 exact .inr ⟨g,cap,cur,rfl,hb,(hs g rfl).trans Bx,rest⟩
def lO.same{α:Type}{enc:α->List aw}{xs:List α}(h:lO enc k T F w v xs)(hs:∀k,F k->w'.heap[k]?=w.heap[k]?):lO enc k T F w' v xs:=⟨h.1.same (λg hg=>hs g (h.2 g hg)),h.2⟩
def lO.mono{α:Type}{enc:α->List aw}{xs:List α}(h:lO enc k T F w v xs)(hF:∀k,k<w.heap.size->F k->F' k):lO enc k T F' w v xs:=⟨h.1,λg hg=>hF g (h.1.lt g hg).2 (h.2 g hg)⟩
def lO.of{α:Type}{enc:α->List aw}{xs:List α}(h:bI enc k T B w v xs)(hF:∀k,B<=k->F k):lO enc k T F w v xs:=
 ⟨⟨h.1,h.2.imp id λ⟨g,cap,cur,h1,_,h3⟩=>⟨g,cap,cur,h1,bA _,h3⟩⟩,λg hg=>hF g (h.lt g hg).1⟩
structure oW(F:Nat->Prop)(w:ak)(e:aM)(E:EA):Prop where
 hp:lO ct 1 9 F w (aj E.pa e.au.length E.pc) e.au
 hg:lO lF 4 73 F w (aj E.ga e.aV.length E.gc) e.aV
 he:lO kI 2 74 F w (aj E.ea e.aP.length E.ec) e.aP
 hf:lO bT 1 3 F w (aj E.fa e.first.length E.fc) e.first
 hl:lO bT 1 3 F w (aj E.la e.last.length E.lc) e.last
def oW.parts(h:oW F w e E):fh w e (aj E.pa e.au.length E.pc) (aj E.ga e.aV.length E.gc) (aj E.ea e.aP.length E.ec) (aj E.fa e.first.length E.fc) (aj E.la e.last.length E.lc):=
 ⟨h.hp.1.jz (λ_=>rfl),h.hg.1.jz (λ_=>rfl),h.he.1.jz (λ_=>rfl),h.hf.1.jz (λ_=>rfl),h.hl.1.jz (λ_=>rfl)⟩
def oW.same(h:oW F w e E)(hs:∀k,F k->w'.heap[k]?=w.heap[k]?):oW F w' e E:=⟨h.hp.same hs,h.hg.same hs,h.he.same hs,h.hf.same hs,h.hl.same hs⟩
def oW.mono(h:oW F w e E)(hF:∀k,k<w.heap.size->F k->F' k):oW F' w e E:=⟨h.hp.mono hF,h.hg.mono hF,h.he.mono hF,h.hf.mono hF,h.hl.mono hF⟩
def vy(T:TypeId):Prop:=T=229\/T=304\/T=307\/T=309\/T=312
structure fH(F:Nat->Prop)(w w':ak):Prop where
 off:aG F w w'
 ty:∀(k:Nat) (c:Array aw) (T:TypeId) (fr:Nat×Nat),w.heap[k]?=J (ay c T fr)->¬vy T->w'.heap[k]?=J (ay c T fr)
 mp:∀(k:Nat) (o:Obj),w.heap[k]?=J o->(∀c T fr,o≠ay c T fr)->w'.heap[k]?=J o
def fH.refl(F:Nat->Prop)(w:ak):fH F w w:=⟨aG.refl _ _,λ_ _ _ _ h _=>h,λ_ _ h _=>h⟩
def fH.trans(h:fH F w w')(h':fH F' w' w'')(hF:∀k,k<w.heap.size->F' k->F k):fH F w w'':=⟨h.off.trans h'.off hF,λk c T fr a d=>h'.ty k c T fr (h.ty k c T fr a d) d,λk o a d=>h'.mp k o (h.mp k o a d) d⟩
def fH.below(hb:Below w.heap.size w w'):fH F w w':=⟨aG.dm hb F,λ_ _ _ _ hk _=>a8 hb hk,λ_ _ hk _=>a8 hb hk⟩
def fH.of(S:Nat->Prop)(h:aG S w w')(hS:∀k,k<w.heap.size->S k->F k/\∃c T fr,w.heap[k]?=J (ay c T fr)/\vy T):fH F w w':=by
 refine⟨h.mono (λi hi hs=>(hS i hi hs).1),λk c T fr hk hT=>?_,λk o hk ho=>?_⟩
 ·refine(h.block k (bL hk) (λhs=>?_)).trans hk;obtain⟨-,c',T',vz,h1,h2⟩:=hS k (bL hk) hs;rw[hk]at h1;simp only[dJ,kY]at h1;obtain⟨-,rfl,-⟩:=h1;exact hT h2
 refine(h.block k (bL hk) (λhs=>?_)).trans hk;obtain⟨-,c',T',vz,h1,h2⟩:=hS k (bL hk) hs;rw[hk]at h1;exact ho _ _ _ (fg h1)
def fH.put{c:Array aw}{fr:Nat×Nat}(hg:w.grownBy w' (J b))(hb:w.heap[b]?=J (ay c T fr))(hT:vy T)(hF:F b):fH F w w':=
 fH.of _ (aG.cG hg) (λk _ e=>by subst e;exact⟨hF,c,T,fr,hb,hT⟩)
def oW.fr(h:oW F w e E)(hf:fH F' w w'):oW F w' e E:=by
 have g:∀{α:Type} {enc:α->List _} {k:Nat} {T:TypeId} {v:aw} {xs:List α},¬vy T->lO enc k T F w v xs->lO enc k T F w' v xs:=λ{α} {enc} {k} {T} {v} {xs} hT h=>by
  refine⟨h.1.same (λg hg=>?_),h.2⟩
  rcases h.1.2 with⟨rfl,-⟩|⟨g',cap,cur,rfl,hb,Bx,rest⟩
  ·simp[dF]at hg
  simp only[dF,dJ]at hg;subst hg;rw[Bx];exact hf.ty _ _ _ _ Bx hT
 exact⟨g (by unfold vy;decide) h.hp,g (by unfold vy;decide) h.hg,g (by unfold vy;decide) h.he,g (by unfold vy;decide) h.hf,g (by unfold vy;decide) h.hl⟩
structure i6(F:Nat->Prop)(w:ak)(ba bg bf:Nat)(e:aM)(s:fo):Prop where
 al:h_ w ba s.a
 fa:F ba
 ga:∃sa cap,eF 0 w bg sa cap s.g/\∀k,GS bg sa s.g.xs.length k->F k
 fl:∃m n D fv lv,dW 0 w bf e s.f m n D fv lv/\F bf/\F m/\(∀g,fv.ownBlock=J g->F g)/\∀g,lv.ownBlock=J g->F g
 gl:s.g.xs.length=e.aV.length
def eF.same{s:bX}(h:eF B w b sa cap s)(hs:∀k,GS b sa s.xs.length k->w'.heap[k]?=w.heap[k]?):eF B w' b sa cap s:=by
 refine⟨(hs b (aT rfl)).trans h.heap,λhne=>?_,h.lo,h.fit⟩;obtain⟨g,o,e1,h1,h2,hc,cur,hf⟩:=h.sl hne;have hg:=hs g (aN ⟨sq.2 hne,o,e1⟩);exact⟨g,o,e1,h1,h2,λi x hx j u hu=>(mH (a:=⟨g,_,_⟩) hg).trans (hc i x hx j u hu),cur,hg.trans hf⟩
def dW.same{n:Nat}{s:jd}(h:dW B w b e s m n D fv lv)(hb:w'.heap[b]?=w.heap[b]?)(hm:w'.heap[m]?=w.heap[m]?)(hf:∀g,fv.ownBlock=J g->w'.heap[g]?=w.heap[g]?)(hl:∀g,lv.ownBlock=J g->w'.heap[g]?=w.heap[g]?):dW B w' b e s m n D fv lv:=by
 refine⟨hb.trans h.heap,h.lo,?_,h.BA,h.hf.same hf,h.hl.same hl,h.fit,h.sm,h.wf⟩;obtain⟨es,c,zw,rest⟩:=h.own;exact⟨es,c,hm.trans zw,rest⟩
def h_.same{a:fw}(h:h_ w b a)(hs:w'.heap[b]?=w.heap[b]?):h_ w' b a:=⟨hs.trans h.heap,h.hn⟩
def i6.same{s:fo}(h:i6 F w ba bg bf e s)(hs:∀k,F k->w'.heap[k]?=w.heap[k]?):i6 F w' ba bg bf e s:=by
 obtain⟨sa,cap,h1,h2⟩:=h.ga;obtain⟨m,n,D,fv,lv,h3,h4,h5,h6,h7⟩:=h.fl;exact⟨h.al.same (hs _ h.fa),h.fa,⟨sa,cap,h1.same (λk hk=>hs k (h2 k hk)),h2⟩,⟨m,n,D,fv,lv,h3.same (hs _ h4) (hs _ h5) (λg hg=>hs g (h6 g hg)) (λg hg=>hs g (h7 g hg)),h4,h5,h6,h7⟩,h.gl⟩
end
section
variable {F F':Nat->Prop}{w w' w'':ak}{b ba bg bf:Nat}{e:aM}{E:EA}{s:fo}
def RA(e:aM)(E:EA):aw:=.agg (eR e E.pa E.pc E.ga E.gc E.ea E.ec E.fa E.fc E.la E.lc)
def sA(w:ak)(e:aM)(E:EA):Prop:=fh w e (aj E.pa e.au.length E.pc) (aj E.ga e.aV.length E.gc) (aj E.ea e.aP.length E.ec) (aj E.fa e.first.length E.fc) (aj E.la e.last.length E.lc)
def sA.below(h:sA w e E)(hb:Below w.heap.size w w'):sA w' e E:=fh.below h hb
def BH(B:Nat)(w:ak)(bg:Nat)(s:bX):Prop:=∃sa cap,eF 0 w bg sa cap s/\∀k,GS bg sa s.xs.length k->B<=k
def BI(B:Nat)(w:ak)(bf:Nat)(e:aM)(s:jd):Prop:=∃m n D fv lv,dW 0 w bf e s m n D fv lv/\B<=bf/\B<=m/\(∀g,fv.ownBlock=J g->B<=g)/\∀g,lv.ownBlock=J g->B<=g
def RB{s:bX}(h:eF B w b sa cap s)(hk:GS b sa s.xs.length k):k<w.heap.size:=by
 rcases hk with rfl|⟨h0,o,e1⟩
 ·exact bL h.heap
 obtain⟨g,o',e2,-,-,-,cur,hf⟩:=h.sl (sq.1 h0);rw[e1]at e2;simp only[dJ,tQ,rh]at e2;obtain⟨rfl,-⟩:=e2;exact bL hf
def map_lt{n:Nat}{s:jd}(h:dW B w b e s m n D fv lv):m<w.heap.size:=by
 obtain⟨es,c,zw,rest⟩:=h.own;exact bL zw
def BH.keep{s:bX}(h:BH B w bg s)(hs:∀k,B<=k->k<w.heap.size->w'.heap[k]?=w.heap[k]?):BH B w' bg s:=by
 obtain⟨sa,cap,h1,h2⟩:=h;exact⟨sa,cap,h1.same (λk hk=>hs k (h2 k hk) (RB h1 hk)),h2⟩
def BI.keep{s:jd}(h:BI B w bf e s)(hs:∀k,B<=k->k<w.heap.size->w'.heap[k]?=w.heap[k]?):BI B w' bf e s:=by
 obtain⟨m,n,D,fv,lv,h3,h4,h5,h6,h7⟩:=h;exact⟨m,n,D,fv,lv,h3.same (hs _ h4 (bL h3.heap)) (hs _ h5 (map_lt h3)) (λg hg=>hs g (h6 g hg) (h3.hf.lt g hg).2) (λg hg=>hs g (h7 g hg) (h3.hl.lt g hg).2),h4,h5,h6,h7⟩
def BJ(B:Nat)(w:ak)(ba:Nat)(a:fw):Prop:=h_ w ba a/\B<=ba
def BJ.keep{a:fw}(h:BJ B w ba a)(hs:∀k,B<=k->k<w.heap.size->w'.heap[k]?=w.heap[k]?):BJ B w' ba a:=⟨h.1.same (hs _ h.2 (bL h.1.heap)),h.2⟩
def Lm(B r:Nat)(e:aM)(E:EA):Nat->aw->ak->Prop
 |0=>λv _=>v=.agg (eR e E.pa E.pc E.ga E.gc E.ea E.ec E.fa E.fc E.la E.lc)
 |1=>λv w=>∃ba,v=aq (J (ai ba 0 I))/\BJ B w ba (fo.new e).a
 |2=>λv _=>v=.agg (eR e E.pa E.pc E.ga E.gc E.ea E.ec E.fa E.fc E.la E.lc)
 |3=>λv w=>∃bg,v=aq (J (ai bg 0 I))/\BH B w bg (fo.new e).g
 |4=>λv _=>v=.agg (eR e E.pa E.pc E.ga E.gc E.ea E.ec E.fa E.fc E.la E.lc)
 |5=>λv w=>∃bf,v=aq (J (ai bf 0 I))/\BI B w bf e (fo.new e).f
 |6=>λv w=>∃ba bg bf,v=bK #[aq (J (ai ba 0 I)),aq (J (ai bg 0 I)),aq (J (ai bf 0 I))]/\BJ B w ba (fo.new e).a/\BH B w bg (fo.new e).g/\BI B w bf e (fo.new e).f
 |7=>λ_ w=>∃ba bg bf,w.heap[r]?=J (ay #[aq (J (ai ba 0 I)),aq (J (ai bg 0 I)),aq (J (ai bf 0 I))] 227 (0,0))/\BJ B w ba (fo.new e).a/\BH B w bg (fo.new e).g/\BI B w bf e (fo.new e).f
 |_=>λ_ _=>True
def G_(hs:∀k,B<=k->k<w.heap.size->w'.heap[k]?=w.heap[k]?):∀j v,(j=7->w'.heap[r]?=w.heap[r]?)->Lm B r e E j v w->Lm B r e E j v w':=by
 intro j v h7 h
 match j,h7,h with
 |0,_,h=>exact h
 |1,_,h=>obtain⟨ba,h1,h2⟩:=h;exact⟨ba,h1,h2.keep hs⟩
 |2,_,h=>exact h
 |3,_,h=>obtain⟨ba,h1,h2⟩:=h;exact⟨ba,h1,h2.keep hs⟩
 |4,_,h=>exact h
 |5,_,h=>obtain⟨ba,h1,h2⟩:=h;exact⟨ba,h1,h2.keep hs⟩
 |6,_,h=>obtain⟨ba,bg,bf,h1,h2,h3,h4⟩:=h;exact⟨ba,bg,bf,h1,h2.keep hs,h3.keep hs,h4.keep hs⟩
 |7,h7,h=>obtain⟨ba,bg,bf,h1,h2,h3,h4⟩:=h;exact⟨ba,bg,bf,(h7 rfl).trans h1,h2.keep hs,h3.keep hs,h4.keep hs⟩
 |n+8,_,h=>exact h
def eF.zero{s:bX}(h:eF B w b sa cap s):eF 0 w b sa cap s:=by
 refine⟨h.heap,λhne=>?_,bA _,h.fit⟩;obtain⟨g,o,e1,h1,h2,r⟩:=h.sl hne;exact⟨g,o,e1,h1,bA _,r⟩
def eF.acV{s:bX}(h:eF B w b sa cap s)(hk:GS b sa s.xs.length k):B<=k:=by
 rcases hk with rfl|⟨h0,o,e1⟩
 ·exact h.lo
 obtain⟨g,o',e2,-,hB,-⟩:=h.sl (sq.1 h0);rw[e1]at e2;simp only[dJ,tQ,rh]at e2;obtain⟨rfl,-⟩:=e2;exact hB
def RF{α:Type}{enc:α->List aw}{xs:List α}(h:bI enc k T B w v xs):bI enc k T 0 w v xs:=⟨h.1,h.2.imp id λ⟨g,cap,cur,h1,_,h3⟩=>⟨g,cap,cur,h1,bA _,h3⟩⟩
def dW.zero{n:Nat}{s:jd}(h:dW B w b e s m n D fv lv):dW 0 w b e s m n D fv lv:=⟨h.heap,bA _,h.own,h.BA,RF h.hf,RF h.hl,h.fit,h.sm,h.wf⟩
def acW{a b c x y z:aw}(hr:w.heap[r]?=J (ay #[x,y,z] T (0,0))):(((w.setCell (ai r 0 I) a).setCell ⟨r,1,I⟩ b).setCell ⟨r,2,I⟩ c).heap[r]?=J (ay #[a,b,c] T (0,0)):=by
 simp[bN,cL,hr]
def acX:(prog.info? 227).map (·.size)=J 3:=by kernel_rfl
def acY(w:ak)(e:aM)(E:EA)(hP:sA w e E)(hS:gG e)(hW:t_ e.aP):Calls prog 187 #[.agg (eR e E.pa E.pc E.ga E.gc E.ea E.ec E.fa E.fc E.la E.lc)] w λv w'=>(∃ba bg bf,v=ax (bK #[aq (J (ai ba 0 I)),aq (J (ai bg 0 I)),aq (J (ai bf 0 I))])/\i6 (λk=>w.heap.size<=k) w' ba bg bf e (fo.new e))/\Below w.heap.size w w':=by
 unfold eR;have HP:U (sA w e E):=hP;have HS:U _:=hS;have HW:U (t_ _):=hW;go_enter func187,ntmps187
 go_wp2_with fail
 obtain⟨W,hW⟩:∃V,V=(w.alloc (ay (eR e E.pa E.pc E.ga E.gc E.ea E.ec E.fa E.fc E.la E.lc) 58)).alloc (ay #[aq I,aq I,aq I] 227):=⟨_,rfl⟩;rw[<- hW];have cx:U (Below w.heap.size w W):=by show Below _ _ _;rw[hW];exact(aS _ _).alloc (by simp) _
 have hsz:W.heap.size=w.heap.size+2:=by rw[hW];simp
 have HX:U (W.heap[w.heap.size]?=J (ay (eR e E.pa E.pc E.ga E.gc E.ea E.ec E.fa E.fc E.la E.lc) 58 (0,0))):=by
  show _=_
  rw[hW];exact a8 (aS _ _) (cj w _)
 have HR:U (W.heap[w.heap.size+1]?=J (ay #[aq I,aq I,aq I] 227 (0,0))):=by
  show _=_
  rw[hW];have:=cj (w.alloc (ay (eR e E.pa E.pc E.ga E.gc E.ea E.ec E.fa E.fc E.la E.lc) 58)) (ay #[aq I,aq I,aq I] 227);simpa using this
 change U _ at hsz
 refine Du 8 rfl (Lm (w.heap.size+2) (w.heap.size+1) e E) (λdone V=>Below _ w V/\V.heap[w.heap.size]?=J _/\w.heap.size+2<=V.heap.size/\(done 7=false->V.heap[w.heap.size+1]?=J _)) (by kernel_rfl) (by kernel_rfl) ⟨cx.drew,HX,by have:=hsz.o;show _<=W.heap.size;omega,λ_=>HR⟩ ?_ ?_
 ·refine mM ⟨?_,?_,?_,?_,?_,?_,?_,?_,trivial⟩
  all_goals
   refine zf.free rfl ?_;intro done a V hC ue _ aB aQ
  ·have x1:a.tmps[1]?.getD _=aq _:=aW (aQ 1 (dS (by kernel_rfl)));have hrow:=hC.2.1;have c0:V.cell? (ai w.heap.size 0 I)=J (aA e.name):=by simp[aH,hrow]
   have c1:V.cell? (ai w.heap.size 1 I)=J (ae af e.bh):=by simp[aH,hrow]
   have c2:V.cell? (ai w.heap.size 2 I)=J (aj E.pa e.au.length E.pc):=by simp[aH,hrow]
   have c3:V.cell? (ai w.heap.size 3 I)=J (ae af e.cnt):=by simp[aH,hrow]
   have c4:V.cell? (ai w.heap.size 4 I)=J (ae af e.mn):=by simp[aH,hrow]
   have c5:V.cell? (ai w.heap.size 5 I)=J (ae af e.mx):=by simp[aH,hrow]
   have c6:V.cell? (ai w.heap.size 6 I)=J (aj E.ga e.aV.length E.gc):=by simp[aH,hrow]
   have c7:V.cell? (ai w.heap.size 7 I)=J (aj E.ea e.aP.length E.ec):=by simp[aH,hrow]
   have c8:V.cell? (ai w.heap.size 8 I)=J (aj E.fa e.first.length E.fc):=by simp[aH,hrow]
   have c9:V.cell? (ai w.heap.size 9 I)=J (aj E.la e.last.length E.lc):=by simp[aH,hrow]
   exact dA.val (c:=.agg _) (by clear aB aQ hC hrow;go_simp) ⟨hC.1,hC.2.1,hC.2.2.1,by rw[cq _ (ar rfl)];exact hC.2.2.2⟩ rfl
  ·have x3:a.tmps[3]?.getD _=.agg _:=aW (aB _ 3 (bj (i:=0) rfl) rfl rfl)
   refine dA.call (f:=223) (args:=#[.agg (eR e E.pa E.pc E.ga E.gc E.ea E.ec E.fa E.fc E.la E.lc)]) (by clear aB aQ hC;go_simp) ?_
   apply(aaW _ _ _ _ _ _ _ _ _ _ _ _ V).mono;rintro v V' ⟨b,rfl,hA⟩;have hb':=hA.aY;have hk:∀k,w.heap.size+2<=k->k<V.heap.size->V'.heap[k]?=V.heap[k]?:=λk _ h=>hb'.block k h
   refine⟨_,rfl,⟨hC.1.trans (hb'.mono hC.1.size),a8 hb' hC.2.1,bp hC.2.2.1 hb'.size,λhd=>a8 hb' (hC.2.2.2 (by rwa [cq done (ar rfl)]at hd))⟩,λj v hj h=>G_ hk j v (λ_=>hb'.block _ (by have:=hC.2.2.1;omega)) h,?_⟩;exact⟨b,rfl,hA.at',bp hC.2.2.1 hA.lo⟩
  ·have x1:a.tmps[1]?.getD _=aq _:=aW (aQ 1 (dS (by kernel_rfl)));have hrow:=hC.2.1;have c0:V.cell? (ai w.heap.size 0 I)=J (aA e.name):=by simp[aH,hrow]
   have c1:V.cell? (ai w.heap.size 1 I)=J (ae af e.bh):=by simp[aH,hrow]
   have c2:V.cell? (ai w.heap.size 2 I)=J (aj E.pa e.au.length E.pc):=by simp[aH,hrow]
   have c3:V.cell? (ai w.heap.size 3 I)=J (ae af e.cnt):=by simp[aH,hrow]
   have c4:V.cell? (ai w.heap.size 4 I)=J (ae af e.mn):=by simp[aH,hrow]
   have c5:V.cell? (ai w.heap.size 5 I)=J (ae af e.mx):=by simp[aH,hrow]
   have c6:V.cell? (ai w.heap.size 6 I)=J (aj E.ga e.aV.length E.gc):=by simp[aH,hrow]
   have c7:V.cell? (ai w.heap.size 7 I)=J (aj E.ea e.aP.length E.ec):=by simp[aH,hrow]
   have c8:V.cell? (ai w.heap.size 8 I)=J (aj E.fa e.first.length E.fc):=by simp[aH,hrow]
   have c9:V.cell? (ai w.heap.size 9 I)=J (aj E.la e.last.length E.lc):=by simp[aH,hrow]
   exact dA.val (c:=.agg _) (by clear aB aQ hC hrow;go_simp) ⟨hC.1,hC.2.1,hC.2.2.1,by rw[cq _ (ar rfl)];exact hC.2.2.2⟩ rfl
  ·have x5:a.tmps[5]?.getD _=.agg _:=aW (aB _ 5 (bj (i:=0) rfl) rfl rfl)
   refine dA.call (f:=224) (args:=#[.agg (eR e E.pa E.pc E.ga E.gc E.ea E.ec E.fa E.fc E.la E.lc)]) (by clear aB aQ hC;go_simp) ?_
   apply(abv _ _ _ _ _ _ _ _ _ _ _ _ V (HP.below hC.1).hg HS.hg).mono;rintro v V' ⟨b,rfl,hb',sa,cap,hG⟩;have hk:∀k,w.heap.size+2<=k->k<V.heap.size->V'.heap[k]?=V.heap[k]?:=λk _ h=>hb'.block k h
   refine⟨_,rfl,⟨hC.1.trans (hb'.mono hC.1.size),a8 hb' hC.2.1,bp hC.2.2.1 hb'.size,λhd=>a8 hb' (hC.2.2.2 (by rwa [cq done (ar rfl)]at hd))⟩,λj v hj h=>G_ hk j v (λ_=>hb'.block _ (by have:=hC.2.2.1;omega)) h,?_⟩
   refine⟨b,rfl,sa,cap,hG.zero,λk hk=>?_⟩;exact bp hC.2.2.1 (hG.acV hk)
  ·have x1:a.tmps[1]?.getD _=aq _:=aW (aQ 1 (dS (by kernel_rfl)));have hrow:=hC.2.1;have c0:V.cell? (ai w.heap.size 0 I)=J (aA e.name):=by simp[aH,hrow]
   have c1:V.cell? (ai w.heap.size 1 I)=J (ae af e.bh):=by simp[aH,hrow]
   have c2:V.cell? (ai w.heap.size 2 I)=J (aj E.pa e.au.length E.pc):=by simp[aH,hrow]
   have c3:V.cell? (ai w.heap.size 3 I)=J (ae af e.cnt):=by simp[aH,hrow]
   have c4:V.cell? (ai w.heap.size 4 I)=J (ae af e.mn):=by simp[aH,hrow]
   have c5:V.cell? (ai w.heap.size 5 I)=J (ae af e.mx):=by simp[aH,hrow]
   have c6:V.cell? (ai w.heap.size 6 I)=J (aj E.ga e.aV.length E.gc):=by simp[aH,hrow]
   have c7:V.cell? (ai w.heap.size 7 I)=J (aj E.ea e.aP.length E.ec):=by simp[aH,hrow]
   have c8:V.cell? (ai w.heap.size 8 I)=J (aj E.fa e.first.length E.fc):=by simp[aH,hrow]
   have c9:V.cell? (ai w.heap.size 9 I)=J (aj E.la e.last.length E.lc):=by simp[aH,hrow]
   exact dA.val (c:=.agg _) (by clear aB aQ hC hrow;go_simp) ⟨hC.1,hC.2.1,hC.2.2.1,by rw[cq _ (ar rfl)];exact hC.2.2.2⟩ rfl
  ·have x7:a.tmps[7]?.getD _=.agg _:=aW (aB _ 7 (bj (i:=0) rfl) rfl rfl)
   refine dA.call (f:=225) (args:=#[.agg (eR e E.pa E.pc E.ga E.gc E.ea E.ec E.fa E.fc E.la E.lc)]) (by clear aB aQ hC;go_simp) ?_
   apply(acI e _ _ _ _ _ _ _ _ _ _ V (HP.below hC.1) HS HW).mono;rintro v V' ⟨b,rfl,hb',m,n,D,fv,lv,hG,hm⟩;have hk:∀k,w.heap.size+2<=k->k<V.heap.size->V'.heap[k]?=V.heap[k]?:=λk _ h=>hb'.block k h
   refine⟨_,rfl,⟨hC.1.trans (hb'.mono hC.1.size),a8 hb' hC.2.1,bp hC.2.2.1 hb'.size,λhd=>a8 hb' (hC.2.2.2 (by rwa [cq done (ar rfl)]at hd))⟩,λj v hj h=>G_ hk j v (λ_=>hb'.block _ (by have:=hC.2.2.1;omega)) h,?_⟩;have hl:=hC.2.2.1;exact⟨b,rfl,m,n,D,fv,lv,hG.zero,bp hl hG.lo,bp hl hm,λg hg=>bp hl (hG.hf.lt g hg).1,λg hg=>bp hl (hG.hl.lt g hg).1⟩
  ·obtain⟨ba,ha1,ha2⟩:=aB _ 4 (bj (i:=0) rfl) rfl rfl;obtain⟨bg,hg1,hg2⟩:=aB _ 6 (bj (i:=1) rfl) rfl rfl;obtain⟨bf,nW,hf2⟩:=aB _ 8 (bj (i:=2) rfl) rfl rfl;have x4:=aW ha1;have x6:=aW hg1;have x8:=aW nW;exact dA.val (c:=.agg _) (by clear aB aQ hC ha1 ha2 hg1 hg2 nW hf2;go_simp) ⟨hC.1,hC.2.1,hC.2.2.1,by rw[cq _ (ar rfl)];exact hC.2.2.2⟩ ⟨ba,bg,bf,rfl,ha2,hg2,hf2⟩
  have x2:a.tmps[2]?.getD _=aq _:=aW (aQ 2 (dS (by kernel_rfl)));obtain⟨ba,bg,bf,hv,h1,h2,h3⟩:=aB _ 9 (bj (i:=0) rfl) rfl rfl;have x9:=aW hv;have hr:=hC.2.2.2 ue;have c0:V.cell? ⟨w.heap.size+1,0,I⟩=J (aq I):=by simp[aH,hr]
  have c1:V.cell? ⟨w.heap.size+1,1,I⟩=J (aq I):=by simp[aH,hr]
  have c2:V.cell? ⟨w.heap.size+1,2,I⟩=J (aq I):=by simp[aH,hr]
  have f0:∀i,V.frozen? ⟨w.heap.size+1,i,I⟩=false:=λi=>by simp[bM,hr]
  have hg:V.grownBy (((V.setCell ⟨_,0,_⟩ (aq (J (ai ba 0 I)))).setCell ⟨_,1,_⟩ (aq (J (ai bg 0 I)))).setCell ⟨w.heap.size+1,2,I⟩ (aq (J (ai bf 0 I)))) (J (w.heap.size+1)):=((bJ ..).trans (bJ ..)).trans (bJ ..);have hk:∀k,w.heap.size+2<=k->k<V.heap.size->(((V.setCell _ _).setCell _ _).setCell _ _).heap[k]?=V.heap[k]?:=λk h1 h=>hg.block k h (by simp;omega)
  have hz:=hC.2.2.1
  refine dA.Gp (w':=((V.setCell _ _).setCell _ _).setCell _ _) (by clear aB aQ hC hv h1 h2 h3 hg hk hr hz;go_simp) ⟨?_,?_,bp hz hg.size,λhd=>by rw[Bf]at hd;cases hd⟩ (λj v hj h=>G_ hk j v (λe7=>by rw[e7,ue]at hj;cases hj) h) ⟨ba,bg,bf,?_,h1.keep hk,h2.keep hk,h3.keep hk⟩
  ·exact hC.1.grown hg hC.1.size (λi hi=>by cases hi;omega)
  ·exact(hg.block _ (by omega) (by simp)).trans hC.2.1
  rw[acW hr]
 intro vals V hC hS;obtain⟨ba,bg,bf,hr,h1,h2,h3⟩:=hS 7 (ar rfl);have HB:U _:=hC.1;change U _ at hr
 have D7:U (i6 (λk=>w.heap.size<=k) V ba bg bf e (fo.new e)):=by
  obtain⟨sa,cap,g1,g2⟩:=h2;obtain⟨m,n,D,fv,lv,f3,f4,f5,f6,f7⟩:=h3
  refine⟨h1.1,by have:=h1.2;show w.heap.size<=ba;omega,⟨sa,cap,g1,λk hk=>by have:=g2 k hk;show w.heap.size<=k;omega⟩,⟨m,n,D,fv,lv,f3,by show w.heap.size<=bf;omega,by show w.heap.size<=m;omega,λg hg=>by have:=f6 g hg;show w.heap.size<=g;omega,λg hg=>by have:=f7 g hg;show w.heap.size<=g;omega⟩,by simp[fo.new,bX.new]⟩
 simp only[fill,dZ];go_simp
 go_wp2_with fail
 refine dL (mK rfl _ _ _ _ _ _ _ rfl hr underlying227 rfl acX) rfl ?_;exact⟨⟨ba,bg,bf,rfl,D7⟩,HB⟩
end
end Go.Proofs.YtgjlihibabmgcaaGreatDoor
