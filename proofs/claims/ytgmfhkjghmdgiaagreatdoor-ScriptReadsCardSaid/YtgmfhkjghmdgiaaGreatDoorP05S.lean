/-
  Several texts as one: FlNew, LoClone, AlOff, GaOff, FlOff, LoMem, LoWat, LoSteps, LoEnd.
-/
import Derived.Test.YtgmfhkjghmdgiaaGreatDoorP04S
import Derived.Lib.LazyBuf
set_option linter.all false
set_option maxHeartbeats 40000000
set_option maxRecDepth 100000
abbrev nC:=@Go.results_cell_row
abbrev lq:=@Go.Proofs.YtgmfhkjghmdgiaaGreatDoor.goodRun.val
abbrev vV:=@Go.run_eql_slice_nil
abbrev pK:=@Go.Proofs.YtgmfhkjghmdgiaaGreatDoor.goodRun.call
abbrev zD.{u}:=@List.length_pos_iff.{u}
abbrev Cc:=@Go.World.grownBy.refl
open Go renaming Addr→az,Value→ar,World→ai
open Go.Ending renaming returned→ax
open Go.IntKind renaming i64→R
open Go.Obj renaming cells→au
open Go.RowKit renaming Hid→aa
open Go.Value renaming agg→aU,bool→aI,int→U,pointer→aj,slice→af,string→aq,tuple→bn
open Option renaming none→I,some→J
open Go.Proofs.Tryz
namespace Go.Proofs.YtgmfhkjghmdgiaaGreatDoor
open Go.Extern Go.Extern.Stop Go.RowKit Go.Stop
theorem EC(B:Nat)(l:List Int)(sa:Option az)(cap:Nat)(w:ai)(hl:bN bm 1 w (af sa l.length cap) l)(hn:l.length<=1000000)(hB:B<=w.heap.size):Calls prog 150 #[af sa l.length cap] w λv w'=>(∃dI cap',v=ax (af dI l.length cap')/\bU bm 1 3 B w' (af dI l.length cap') l)/\Below w.heap.size w w':=by
 obtain⟨i0,hi,hz0,hz1,hz2⟩:=fj ny;have HL:aa (bN _ 1 w _ l):=hl;have HN:aa _:=hn;have HB:aa _:=hB;clear hl hn hB
 cases sa with
 |none=>
  have h0:l=[]:=by
   obtain⟨dI,cap',ck,-,hcc⟩:=HL.o
   cases ck
   by_cases e:l=[]
   ·exact e
   obtain⟨b,o,h,-⟩:=hcc e
   cases h
  subst h0;clear HL HN;have he:∀w:ai,(binOp .eql 65 _ _).run _ w=.ok (aI true) w:=λw=>vV w _ _ I 0 cap underlying65
  go_enter func150,ntmps150
  go_wp2;go_ret;exact⟨⟨_,0,rfl,fC _ _ _ _⟩,aC _ _⟩
 |some a=>
  have he:∀w:ai,(binOp .eql 65 (af _ l.length cap) _).run _ w=.ok (aI false) w:=λw=>vV w _ _ (J a) _ cap underlying65
  have HC:aa (∀V,Below w.heap.size w V->∀j u,(l.flatMap bm)[j]?=J u->V.cell? (a.add j)=J u):=λV hV j u hu=>by
   obtain⟨dI,cap',ck,-,hcc⟩:=HL.o
   cases ck
   have hne:l≠[]:=λh=>by rw[h]at hu;simp at hu
   obtain⟨b,o,xG,hc⟩:=hcc hne
   cases xG
   obtain⟨i',j',y,e1,h2,h3⟩:=xA (enc:=bm) (k:=1) (λ_=>rfl) l j u hu;have:=hc i' y h2 j' u h3;rw[e1,kP,<- qX];exact aG hV this
  go_enter func150,ntmps150
  go_wp2_with (at_builtin;refine fw _ rfl _ _ 65 rfl B 3 i0 _ 1 8 underlying65 hi hz0 hz1 hz2 rfl (by decide) (af _ 0 0) 0 [] rfl (za w #[] 0 HB.o (by unfold maxLen;omega) rfl) a _ cap _ rfl (xz (enc:=bm) (k:=1) (λ_=>rfl) l) (HC.o _ (aN _ _)) (λu hu=>by simp only[rT]at hu;obtain⟨y,-,hy⟩:=hu;exact xB y u hy) (by have:=HN.o;unfold maxLen;omega) (by have:=HN.o;omega) (by have:=HB.o;simp;omega) ?_;intro v' w1 hown hg hn;obtain⟨va,vc,rfl⟩:=mD hown)
  go_ret;simp only[nj]at hown
  refine⟨⟨va,vc,by simp,by simpa[bU]using hown⟩,?_⟩;have h1:Below _ w (w.alloc (au #[] 3)):=aN _ _;exact h1.grown hg h1.size (λi hi=>by simp[Value.ownBlock]at hi;omega)
structure oV(B:Nat)(w:ai)(b:Nat)(e:aF)(m:Nat)(f1:Option az)(f2:Nat)(l1:Option az)(l2:Nat)(j:Nat):Prop where
 heap:w.heap[b]?=J (au #[U R (e.ak.length:Int),.map (J m),af f1 e.first.length f2,af l1 e.last.length l2,U R (-1),aI false] 291 (0,0))
 lo:B<=b
 own:∃D,w.ownsMap prog 87 (unitElem (H:=Unit)) m j D/\zv D (e.aA.take j)
 ED:B<=m
 hf:bU bm 1 3 B w (af f1 e.first.length f2) e.first
 hl:bU bm 1 3 B w (af l1 e.last.length l2) e.last
section
variable {B b m:Nat}{w w':ai}{e:aF}{f1 l1:Option az}{f2 l2 j:Nat}
theorem oV.below(h:oV B w b e m f1 f2 l1 l2 j)(hb:Below w.heap.size w w'):oV B w' b e m f1 f2 l1 l2 j:=by
 obtain⟨D,h1,h2⟩:=h.own;exact⟨bG hb h.heap,h.lo,⟨D,Ez h1 hb,h2⟩,h.ED,h.hf.below hb,h.hl.below hb⟩
theorem Oj{T:TypeId}{v:ar}{l:List Int}(h:bU bm 1 T B w v l){D:DataW Unit}{k:TypeId}{jA:ar->Option (DataW Unit×List MemPlace)}{n:Nat}(ho:w.ownsMap prog k jA m n D)(hg:w.grownBy w' (J m)):bU bm 1 T B w' v l:=by
 refine h.kept hg (aP ?_)
 rcases h.2 with⟨rfl,_⟩|⟨g,cap,cur,rfl,_,eA,_⟩
 ·simp[Value.ownBlock]
 intro e;simp only[Value.ownBlock,eR]at e;subst e;obtain⟨es,c,hm,-⟩:=ho;rw[eA]at hm
 cases hm
theorem oV.put{x:Int×Int}(h:oV B w b e m f1 f2 l1 l2 j)(hx:e.aA[j]?=J x)(hw:ll x.1/\ll x.2)(hj:j<maxLen):∃w',(Instr.mapUpdate 289 (.map (J m)) (aU #[U R x.1,U R x.2]) (aU #[])).run prog w=.ok () w'/\oV B w' b e m f1 f2 l1 l2 (j+1)/\w.grownBy w' (J m):=by
 obtain⟨D,h1,h2⟩:=h.own;obtain⟨w',hrun,ho,hg⟩:=h1.update Ik underlying289 hj (Es hw.1 hw.2) unitElem_mk
 refine⟨w',hrun,⟨(hg.block b (bJ h.heap) ?_).trans h.heap,h.lo,⟨_,ho,?_⟩,h.ED,Oj h.hf h1 hg,Oj h.hl h1 hg⟩,hg⟩
 ·intro e2
  cases e2
  obtain⟨es,c,hm,-⟩:=h1;rw[h.heap]at hm
  cases hm
 have:=Y' h2 x hw;rw[fW,hx];exact this
end
def ID(e:aF)(x B:Nat)(pa fa la:Option az)(pc fc lc:Nat):Nat->ar->ai->Prop
 |0=>λv _=>v=aj (J ⟨x,2,I⟩)
 |1=>λv _=>v=af pa e.ak.length pc
 |2=>λv _=>v=U R (e.ak.length:Int)
 |3=>λv w=>∃m,v=.map (J m)/\B<=m/\w.ownsMap prog 87 (unitElem (H:=Unit)) m 0 (.map [])
 |4=>λv _=>v=aj (J ⟨x,8,I⟩)
 |5=>λv _=>v=af fa e.first.length fc
 |6=>λv w=>∃f1 f2,v=af f1 e.first.length f2/\bU bm 1 3 B w (af f1 e.first.length f2) e.first
 |7=>λv _=>v=aj (J ⟨x,9,I⟩)
 |8=>λv _=>v=af la e.last.length lc
 |9=>λv w=>∃l1 l2,v=af l1 e.last.length l2/\bU bm 1 3 B w (af l1 e.last.length l2) e.last
 |10=>λv w=>∃m f1 f2 l1 l2,v=aU #[U R (e.ak.length:Int),.map (J m),af f1 e.first.length f2,af l1 e.last.length l2,U R (-1),aI false]/\B<=m/\w.ownsMap prog 87 (unitElem (H:=Unit)) m 0 (.map [])/\bU bm 1 3 B w (af f1 e.first.length f2) e.first/\bU bm 1 3 B w (af l1 e.last.length l2) e.last
 |11=>λv w=>∃b m f1 f2 l1 l2,v=aj (J ⟨b,0,I⟩)/\oV B w b e m f1 f2 l1 l2 0
 |12=>λv w=>∃b m f1 f2 l1 l2,v=aj (J ⟨b,0,I⟩)/\oV B w b e m f1 f2 l1 l2 0
 |_=>λ_ _=>True
theorem EE{e:aF}{x B:Nat}{pa fa la:Option az}{pc fc lc:Nat}{w w':ai}(hb:Below w.heap.size w w'):∀j v,ID e x B pa fa la pc fc lc j v w->ID e x B pa fa la pc fc lc j v w':=by
 intro j v h
 match j,h with
 |0,h=>exact h
 |1,h=>exact h
 |2,h=>exact h
 |3,h=>obtain⟨m,h1,h2,h3⟩:=h;exact⟨m,h1,h2,Ez h3 hb⟩
 |4,h=>exact h
 |5,h=>exact h
 |6,h=>obtain⟨a,c,h1,h2⟩:=h;exact⟨a,c,h1,h2.below hb⟩
 |7,h=>exact h
 |8,h=>exact h
 |9,h=>obtain⟨a,c,h1,h2⟩:=h;exact⟨a,c,h1,h2.below hb⟩
 |10,h=>obtain⟨m,f1,f2,l1,l2,h1,h2,h3,h4,h5⟩:=h;exact⟨m,f1,f2,l1,l2,h1,h2,Ez h3 hb,h4.below hb,h5.below hb⟩
 |11,h=>obtain⟨b,m,f1,f2,l1,l2,h1,h2⟩:=h;exact⟨b,m,f1,f2,l1,l2,h1,h2.below hb⟩
 |12,h=>obtain⟨b,m,f1,f2,l1,l2,h1,h2⟩:=h;exact⟨b,m,f1,f2,l1,l2,h1,h2.below hb⟩
 |n+13,h=>exact h
def IE(b m:Nat)(x:Int×Int):Nat->ar->ai->Prop
 |0=>λv _=>v=aj (J ⟨b,0,I⟩)
 |1=>λv _=>v=aj (J ⟨b,0,I⟩)
 |2=>λv _=>v=aj (J ⟨b,1,I⟩)
 |3=>λv _=>v=.map (J m)
 |4=>λv _=>v=aU #[U R x.1,U R x.2]
 |5=>λv _=>v=aU #[]
 |_=>λ_ _=>True
theorem ZY{b m:Nat}{x:Int×Int}{done:Nat->Bool}{w w':ai}:∀j v,done j=true->IE b m x j v w->IE b m x j v w':=by
 intro j v _ h
 match j,h with
 |0,h=>exact h
 |1,h=>exact h
 |2,h=>exact h
 |3,h=>exact h
 |4,h=>exact h
 |5,h=>exact h
 |n+6,h=>exact h
def upTo(k:Nat)(d:Bool):Nat:=if d then k+1 else k
def Ok(w w':ai)(b:Nat)(e:aF):Prop:=Below w.heap.size w w'/\∃m n D fv lv,dW w.heap.size w' b e ⟨-1,false⟩ m n D fv lv/\w.heap.size<=m
theorem ZZ(e:aF)(pa ga ea fa la:Option az)(pc gc ec fc lc:Nat)(w:ai)(hP:mB w e (af pa e.ak.length pc) (af ga e.aB.length gc) (af ea e.aA.length ec) (af fa e.first.length fc) (af la e.last.length lc))(hS:k7 e)(hW:sF e.aA):Calls prog 155 #[aU #[aq e.name,U R e.aJ,af pa e.ak.length pc,U R e.cnt,U R e.mn,U R e.mx,af ga e.aB.length gc,af ea e.aA.length ec,af fa e.first.length fc,af la e.last.length lc]] w λv w'=>∃b,v=ax (aj (J ⟨b,0,I⟩))/\Ok w w' b e:=by
 have HP:aa _:=hP;have iw:aa _:=hS;have Ol:aa (sF _):=hW;clear hP hS hW;go_enter func155,ntmps155
 go_upto_region 1 with fail
 obtain⟨W,hW⟩:∃V,V=w.alloc (au #[aq e.name,U R e.aJ,af pa e.ak.length pc,U R e.cnt,U R e.mn,U R e.mx,af ga e.aB.length gc,af ea e.aA.length ec,af fa e.first.length fc,af la e.last.length lc] 84):=⟨_,rfl⟩;rw[<- hW];have gK:aa (Below w.heap.size w W):=by show Below _ _ _;rw[hW];exact aN _ _
 have HX:aa (∀(j:Nat) u,(#[aq e.name,U R e.aJ,af pa e.ak.length pc,U R e.cnt,U R e.mn,U R e.mx,af ga e.aB.length gc,af ea e.aA.length ec,af fa e.first.length fc,af la e.last.length lc]:Array _)[j]?=J u->W.cell? ⟨w.heap.size,j,I⟩=J u):=λj u hu=>by
  rw[hW];have:=sB w _ 84 j u (by simpa using hu);rw[kP]at this;simpa using this
 clear hW
 go_cut [3,6,7,8,9,10,11,12,13,14,15,16,17] (λv _ _ _ _ _ _ _ _ _ _ _ _ wx=>∃b m f1 f2 l1 l2,v=aj (J ⟨b,0,I⟩)/\Below W.heap.size W wx/\oV w.heap.size wx b e m f1 f2 l1 l2 0)
 case first=>
  refine vP 13 rfl (ID e w.heap.size w.heap.size pa fa la pc fc lc) (λV=>Below W.heap.size W V) (by kernel_rfl) (by kernel_rfl) (aC _ _).drew ?_ ?_
  ·intro i o ho
   match i,ho with
   |0,ho=>
    obtain rfl:=bj ho
    refine cX.free rfl ?_;intro a V hC ay aD;have x1:a.tmps[1]?.getD _=aj _:=bp (aD 1 (eX (by kernel_rfl)));exact lq (c:=aj _) (by clear ay aD;go_simp) hC rfl
   |1,ho=>
    obtain rfl:=bj ho
    refine cX.free rfl ?_;intro a V hC ay aD;have x6:a.tmps[6]?.getD _=aj _:=bp (ay _ 6 (bA (i:=0) rfl) rfl rfl);have c2:V.cell? _=J (af pa _ pc):=aG hC (HX.o 2 _ rfl);exact lq (c:=af pa _ pc) (by clear ay aD;go_simp) hC rfl
   |2,ho=>
    obtain rfl:=bj ho
    refine cX.free rfl ?_;intro a V hC ay aD;have x7:a.tmps[7]?.getD _=af pa _ pc:=bp (ay _ 7 (bA (i:=0) rfl) rfl rfl);exact lq (c:=U R _) (by clear ay aD;go_simp) hC rfl
   |3,ho=>
    obtain rfl:=bj ho
    refine cX.free rfl ?_;intro a V hC ay aD;have hrun:=run_makeMap (P:=prog) 289 V;exact goodRun.made (c:=.map _) (w':=V.alloc _) (by clear ay aD;go_simp) (hC.alloc hC.size _) (EE (aN _ _)) ⟨_,rfl,bw gK.o.size hC.size,World.ownsMap_made V _ _ _⟩
   |4,ho=>
    obtain rfl:=bj ho
    refine cX.free rfl ?_;intro a V hC ay aD;have x1:a.tmps[1]?.getD _=aj _:=bp (aD 1 (eX (by kernel_rfl)));exact lq (c:=aj _) (by clear ay aD;go_simp) hC rfl
   |5,ho=>
    obtain rfl:=bj ho
    refine cX.free rfl ?_;intro a V hC ay aD;have Om:a.tmps[10]?.getD _=aj _:=bp (ay _ 10 (bA (i:=0) rfl) rfl rfl);have c8:V.cell? _=J (af fa _ fc):=aG hC (HX.o 8 _ rfl);exact lq (c:=af fa _ fc) (by clear ay aD;go_simp) hC rfl
   |6,ho=>
    obtain rfl:=bj ho
    refine cX.free rfl ?_;intro a V hC ay aD;have IG:a.tmps[11]?.getD _=af fa _ fc:=bp (ay _ 11 (bA (i:=0) rfl) rfl rfl)
    refine pK (f:=150) (args:=#[af fa e.first.length fc]) (by clear ay aD;go_simp) ?_
    refine(EC _ _ _ _ V ((HP.o.hf).below (gK.o.trans (hC.mono gK.o.size))) iw.o.hf (bw gK.o.size hC.size)).mono ?_;rintro v V' ⟨⟨dI,cap',rfl,Ce⟩,hb'⟩;exact⟨_,rfl,hC.trans (hb'.mono hC.size),EE hb',⟨_,_,rfl,Ce⟩⟩
   |7,ho=>
    obtain rfl:=bj ho
    refine cX.free rfl ?_;intro a V hC ay aD;have x1:a.tmps[1]?.getD _=aj _:=bp (aD 1 (eX (by kernel_rfl)));exact lq (c:=aj _) (by clear ay aD;go_simp) hC rfl
   |8,ho=>
    obtain rfl:=bj ho
    refine cX.free rfl ?_;intro a V hC ay aD;have Oo:a.tmps[13]?.getD _=aj _:=bp (ay _ 13 (bA (i:=0) rfl) rfl rfl);have c9:V.cell? _=J (af la _ lc):=aG hC (HX.o 9 _ rfl);exact lq (c:=af la _ lc) (by clear ay aD;go_simp) hC rfl
   |9,ho=>
    obtain rfl:=bj ho
    refine cX.free rfl ?_;intro a V hC ay aD;have EF:a.tmps[14]?.getD _=af la _ lc:=bp (ay _ 14 (bA (i:=0) rfl) rfl rfl)
    refine pK (f:=150) (args:=#[af la e.last.length lc]) (by clear ay aD;go_simp) ?_
    refine(EC _ _ _ _ V ((HP.o.hl).below (gK.o.trans (hC.mono gK.o.size))) iw.o.hl (bw gK.o.size hC.size)).mono ?_;rintro v V' ⟨⟨dI,cap',rfl,Ce⟩,hb'⟩;exact⟨_,rfl,hC.trans (hb'.mono hC.size),EE hb',⟨_,_,rfl,Ce⟩⟩
   |10,ho=>
    obtain rfl:=bj ho
    refine cX.free rfl ?_;intro a V hC ay aD;have x8:a.tmps[8]?.getD _=U R _:=bp (ay _ 8 (bA (i:=0) rfl) rfl rfl);obtain⟨m,Oq,Cf,Cg⟩:=ay _ 9 (bA (i:=1) rfl) rfl rfl;obtain⟨f1,f2,mz,hf2⟩:=ay _ 12 (bA (i:=2) rfl) rfl rfl;obtain⟨l1,l2,sH,hl2⟩:=ay _ 15 (bA (i:=3) rfl) rfl rfl;have x9:a.tmps[9]?.getD _=.map _:=bp Oq;have IH:a.tmps[12]?.getD _=af f1 _ f2:=bp mz;have Ot:a.tmps[15]?.getD _=af l1 _ l2:=bp sH;exact lq (c:=.agg _) (by clear ay aD Oq Cf Cg mz hf2 sH hl2;go_simp) hC ⟨m,f1,f2,l1,l2,rfl,Cf,Cg,hf2,hl2⟩
   |11,ho=>
    obtain rfl:=bj ho
    refine cX.free rfl ?_;intro a V hC ay aD;obtain⟨m,f1,f2,l1,l2,hv,Cf,Cg,hf2,hl2⟩:=ay _ 16 (bA (i:=0) rfl) rfl rfl;have Ou:=bp hv;exact goodRun.made (c:=aj _) (w':=V.alloc _) (by clear ay aD hv Cf Cg hf2 hl2;go_simp) (hC.alloc hC.size _) (EE (aN _ _)) ⟨_,m,f1,f2,l1,l2,rfl,⟨(MapKept.heap_alloc V _).1,bw gK.o.size hC.size,⟨_,Cg.alloc _,Y_⟩,Cf,hf2.below (aN _ _),hl2.below (aN _ _)⟩⟩
   |12,ho=>
    obtain rfl:=bj ho
    refine cX.free rfl ?_;intro a V hC ay aD;obtain⟨b,m,f1,f2,l1,l2,hv,hp⟩:=ay _ 17 (bA (i:=0) rfl) rfl rfl;have Ov:=bp hv;exact lq (c:=aj _) (by clear ay aD hv hp;go_simp) hC ⟨b,m,f1,f2,l1,l2,rfl,hp⟩
   |n+13,ho=>simp at ho
  intro vals V hC hS;obtain⟨b,m,f1,f2,l1,l2,hv,hp⟩:=hS 12 (by decide);have mG:aa _:=hC;have Z0:aa _:=hp;clear hS hC hp;simp only[fill,dz];go_simp
  go_wp2_with fail
  go_meet
  case rel=>exact⟨b,m,f1,f2,l1,l2,rfl,mG.o,Z0.o⟩
 obtain⟨b,m,f1,f2,l1,l2,rfl,qs,Ow⟩:=hcut;rename ai=>W1
 have aO:aa _:=qs;have uh:aa _:=Ow;have c7:W1.cell? _=J (af ea _ ec):=aG qs (HX.o 7 _ rfl);have bK:aa _:=gK.o.trans (qs.mono gK.o.size);clear qs Ow HX aO;go_wp2_with fail
 clear c7
 go_loopw [5,21] (λ_ i wr=>∃k:Nat,k<=e.aA.length/\i=U R k/\Below w.heap.size w wr/\oV w.heap.size wr b e m f1 f2 l1 l2 k) (λ_ i _=>e.aA.length-(intOf i).toNat)
 case atStart=>exact⟨0,bI _,rfl,bK.o,uh.o⟩
 case round=>
  clear uh bK;obtain⟨k,hk,rfl,iE,Ox⟩:=hrel;have HB:aa _:=iE;have vW:aa _:=Ox;clear iE Ox
  by_cases hlt:k<e.aA.length
  ·have k1:(k:Int)<(e.aA.length:Int):=by omega
   have k2:k<1000000:=by have:=iw.o.he;omega
   have HK:aa _:=k2;obtain⟨x,hx⟩:∃x,e.aA[k]?=J x:=⟨_,bH hlt⟩;have Ch:aa _:=hx;have Z3:aa _:=Ol.o x (cM hx);obtain⟨dI,cap',ck,-,hcc⟩:=HP.o.he
   cases ck
   obtain⟨g,o,rfl,hc0⟩:=hcc (λh=>by rw[h]at hx;simp at hx);have c0:=aG HB.o (hc0 k _ hx 0 _ rfl);have c1:=aG HB.o (hc0 k _ hx 1 _ rfl);simp only[oH]at c0;clear hcc hc0 hx;go_upto_region 5 with fail
   obtain⟨V0,kg⟩:∃V,V=wr.alloc (au #[U R x.1,U R x.2] 87):=⟨_,rfl⟩;rw[<- kg];have jZ:aa (Below wr.heap.size wr V0):=by show Below _ _ _;rw[kg];exact aN _ _
   have II:aa (V0.heap[wr.heap.size]?=J (au #[U R x.1,U R x.2] 87 (0,0))):=by show _=_;rw[kg];exact(MapKept.heap_alloc wr _).1
   obtain⟨kb,hkb⟩:∃kb,kb=wr.heap.size:=⟨_,rfl⟩;have IJ:aa (Below _ w V0/\oV _ V0 b e m f1 f2 l1 l2 k):=⟨HB.o.trans (jZ.o.mono HB.o.size),vW.o.below jZ.o⟩;rw[<- hkb]at II;rw[<- hkb];clear kg c0 c1 jZ hkb HB vW
   refine Cb 7 rfl (IE b m x) (λdone V=>Below _ w V/\oV _ V b e m f1 f2 l1 l2 (upTo k (done 6))/\V.heap[kb]?=J _) (by kernel_rfl) (by kernel_rfl) ⟨IJ.o.1.drew,IJ.o.2.below (aC _ _).drew,II.o⟩ ?_ ?_
   ·intro i o ho
    match i,ho with
    |0,ho=>
     obtain rfl:=bj ho
     refine cI.free rfl ?_;intro done a V hC cd _ ay aD;have x3:a.tmps[3]?.getD _=aj _:=bp (aD 3 (eX (by kernel_rfl)));exact cu.val (c:=aj _) (by clear ay aD;go_simp) ⟨hC.1,by rw[cr _ (by decide)];exact hC.2.1,hC.2.2⟩ rfl
    |1,ho=>
     obtain rfl:=bj ho
     refine cI.free rfl ?_;intro done a V hC cd _ ay aD;have NG:a.tmps[25]?.getD _=aj _:=bp (ay _ 25 (bA (i:=0) rfl) rfl rfl);exact cu.val (c:=aj _) (by clear ay aD;go_simp) ⟨hC.1,by rw[cr _ (by decide)];exact hC.2.1,hC.2.2⟩ rfl
    |2,ho=>
     obtain rfl:=bj ho
     refine cI.free rfl ?_;intro done a V hC cd _ ay aD;have NH:a.tmps[26]?.getD _=aj _:=bp (ay _ 26 (bA (i:=0) rfl) rfl rfl);exact cu.val (c:=aj _) (by clear ay aD;go_simp) ⟨hC.1,by rw[cr _ (by decide)];exact hC.2.1,hC.2.2⟩ rfl
    |3,ho=>
     obtain rfl:=bj ho
     refine cI.free rfl ?_;intro done a V hC cd _ ay aD;have NJ:a.tmps[27]?.getD _=aj _:=bp (ay _ 27 (bA (i:=0) rfl) rfl rfl);have c1:V.cell? ⟨b,1,I⟩=J (.map (J m)):=by have:=hC.2.1.heap;simp[World.cell?,this]
     exact cu.val (c:=.map _) (by clear ay aD;go_simp) ⟨hC.1,by rw[cr _ (by decide)];exact hC.2.1,hC.2.2⟩ rfl
    |4,ho=>
     obtain rfl:=bj ho
     refine cI.free rfl ?_;intro done a V hC cd _ ay aD;have x5:a.tmps[5]?.getD _=aj _:=bp (aD 5 (eX (by kernel_rfl)));have c0:V.cell? ⟨kb,0,I⟩=J (U R x.1):=by have:=hC.2.2;simp[World.cell?,this]
     have c1:V.cell? ⟨kb,1,I⟩=J (U R x.2):=by have:=hC.2.2;simp[World.cell?,this]
     exact cu.val (c:=.agg _) (by clear ay aD;go_simp) ⟨hC.1,by rw[cr _ (by decide)];exact hC.2.1,hC.2.2⟩ rfl
    |5,ho=>
     obtain rfl:=bj ho
     refine cI.free rfl ?_;intro done a V hC cd _ ay aD;exact cu.val (c:=aU #[]) (by clear ay aD;go_simp) ⟨hC.1,by rw[cr _ (by decide)];exact hC.2.1,hC.2.2⟩ rfl
    |6,ho=>
     obtain rfl:=bj ho
     refine cI.free rfl ?_;intro done a V hC cd _ ay aD;have Ia:a.tmps[28]?.getD _=.map _:=bp (ay _ 28 (bA (i:=0) rfl) rfl rfl);have NI:a.tmps[29]?.getD _=.agg _:=bp (ay _ 29 (bA (i:=1) rfl) rfl rfl);have Yz:a.tmps[30]?.getD _=aU #[]:=bp (ay _ 30 (bA (i:=2) rfl) rfl rfl);have hp:oV w.heap.size V b e m f1 f2 l1 l2 k:=by have:=hC.2.1;rw[cd]at this;exact this
     obtain⟨V',hrun,ui,eA⟩:=hp.put Ch.o Z3.o (by have:=HK.o;unfold maxLen;omega)
     refine cu.BQ (w':=V') (by clear ay aD hC hp ui eA;go_simp) ⟨?_,?_,?_⟩ (ZY) trivial
     ·exact hC.1.grown eA hC.1.size (λi hi=>by cases hi;exact hp.ED)
     ·rw[zC];exact ui
     exact(eA.block _ (bJ hC.2.2) (by intro e2;cases e2;obtain⟨D,⟨es,c,hm,-⟩,-⟩:=hp.own;rw[hC.2.2]at hm;cases hm)).trans hC.2.2
    |n+7,ho=>simp at ho
   intro vals V hC hS;have mG:aa (Below _ w V/\oV _ V b e m f1 f2 l1 l2 (k+1)):=⟨hC.1,hC.2.1⟩;clear hS hC IJ II;simp only[fill,dz];go_simp
   go_wp2_with fail
   go_roundw
   case rel=>exact⟨_,by omega,by go_num,mG.o.1,mG.o.2⟩
   case measure=>simp[intOf];omega
  have k1:¬(k:Int)<(e.aA.length:Int):=by omega
  have lh:k=e.aA.length:=by omega
  have HF:aa (Ok w wr b e):=by
   obtain⟨D,h1,h2⟩:=vW.o.own
   refine⟨HB.o,m,k,D,_,_,⟨vW.o.heap,vW.o.lo,h1,?_,vW.o.hf,vW.o.hl,a_ rfl,iw.o,Ol.o⟩,vW.o.ED⟩;rw[lh,l4]at h2;exact h2
  go_wp2;go_ret;exact⟨b,rfl,HF.o⟩
theorem Z_(B:Nat)(l:List (ByteArray))(sa:Option az)(cap:Nat)(w:ai)(hl:bN bS 1 w (af sa l.length cap) l)(hn:l.length<=1000000)(hB:B<=w.heap.size):Calls prog 147 #[af sa l.length cap] w λv w'=>(∃dI cap',v=ax (af dI l.length cap')/\bU bS 1 9 B w' (af dI l.length cap') l)/\Below w.heap.size w w':=by
 obtain⟨i0,hi,hz0,hz1,hz2⟩:=fj Ej;have HL:aa (bN _ 1 w _ l):=hl;have HN:aa _:=hn;have HB:aa _:=hB;clear hl hn hB
 cases sa with
 |none=>
  have h0:l=[]:=by
   obtain⟨dI,cap',ck,-,hcc⟩:=HL.o
   cases ck
   by_cases e:l=[]
   ·exact e
   obtain⟨b,o,h,-⟩:=hcc e
   cases h
  subst h0;clear HL HN;have he:∀w:ai,(binOp .eql 22 _ _).run _ w=.ok (aI true) w:=λw=>vV w _ _ I 0 cap underlying22
  go_enter func147,ntmps147
  go_wp2;go_ret;exact⟨⟨_,0,rfl,fC _ _ _ _⟩,aC _ _⟩
 |some a=>
  have he:∀w:ai,(binOp .eql 22 (af _ l.length cap) _).run _ w=.ok (aI false) w:=λw=>vV w _ _ (J a) _ cap underlying22
  have HC:aa (∀V,Below w.heap.size w V->∀j u,(l.flatMap bS)[j]?=J u->V.cell? (a.add j)=J u):=λV hV j u hu=>by
   obtain⟨dI,cap',ck,-,hcc⟩:=HL.o
   cases ck
   have hne:l≠[]:=λh=>by rw[h]at hu;simp at hu
   obtain⟨b,o,xG,hc⟩:=hcc hne
   cases xG
   obtain⟨i',j',y,e1,h2,h3⟩:=xA (enc:=bS) (k:=1) (λ_=>rfl) l j u hu;have:=hc i' y h2 j' u h3;rw[e1,kP,<- qX];exact aG hV this
  go_enter func147,ntmps147
  go_wp2_with (at_builtin;refine fw _ rfl _ _ 22 rfl B 9 i0 _ 1 16 underlying22 hi hz0 hz1 hz2 rfl (by decide) (af _ 0 0) 0 [] rfl (za w #[] 0 HB.o (by unfold maxLen;omega) rfl) a _ cap _ rfl (xz (enc:=bS) (k:=1) (λ_=>rfl) l) (HC.o _ (aN _ _)) (λu hu=>by simp only[rT]at hu;obtain⟨y,-,hy⟩:=hu;exact NQ y u hy) (by have:=HN.o;unfold maxLen;omega) (by have:=HN.o;omega) (by have:=HB.o;simp;omega) ?_;intro v' w1 hown hg hn;obtain⟨va,vc,rfl⟩:=mD hown)
  go_ret;simp only[nj]at hown
  refine⟨⟨va,vc,by simp,by simpa[bU]using hown⟩,?_⟩;have h1:Below _ w (w.alloc (au #[] 9)):=aN _ _;exact h1.grown hg h1.size (λi hi=>by simp[Value.ownBlock]at hi;omega)
theorem Z'(B:Nat)(l:List (fM))(sa:Option az)(cap:Nat)(w:ai)(hl:bN iD 4 w (af sa l.length cap) l)(hn:l.length<=1000000)(hB:B<=w.heap.size):Calls prog 148 #[af sa l.length cap] w λv w'=>(∃dI cap',v=ax (af dI l.length cap')/\bU iD 4 86 B w' (af dI l.length cap') l)/\Below w.heap.size w w':=by
 obtain⟨i0,hi,hz0,hz1,hz2⟩:=fj Ek;have HL:aa (bN _ 4 w _ l):=hl;have HN:aa _:=hn;have HB:aa _:=hB;clear hl hn hB
 cases sa with
 |none=>
  have h0:l=[]:=by
   obtain⟨dI,cap',ck,-,hcc⟩:=HL.o
   cases ck
   by_cases e:l=[]
   ·exact e
   obtain⟨b,o,h,-⟩:=hcc e
   cases h
  subst h0;clear HL HN;have he:∀w:ai,(binOp .eql 81 _ _).run _ w=.ok (aI true) w:=λw=>vV w _ _ I 0 cap underlying81
  go_enter func148,ntmps148
  go_wp2;go_ret;exact⟨⟨_,0,rfl,fC _ _ _ _⟩,aC _ _⟩
 |some a=>
  have he:∀w:ai,(binOp .eql 81 (af _ l.length cap) _).run _ w=.ok (aI false) w:=λw=>vV w _ _ (J a) _ cap underlying81
  have HC:aa (∀V,Below w.heap.size w V->∀j u,(l.flatMap iD)[j]?=J u->V.cell? (a.add j)=J u):=λV hV j u hu=>by
   obtain⟨dI,cap',ck,-,hcc⟩:=HL.o
   cases ck
   have hne:l≠[]:=λh=>by rw[h]at hu;simp at hu
   obtain⟨b,o,xG,hc⟩:=hcc hne
   cases xG
   obtain⟨i',j',y,e1,h2,h3⟩:=xA (enc:=iD) (k:=4) (λ_=>rfl) l j u hu;have:=hc i' y h2 j' u h3;rw[e1,kP,<- qX];exact aG hV this
  go_enter func148,ntmps148
  go_wp2_with (at_builtin;refine fw _ rfl _ _ 81 rfl B 86 i0 _ 4 32 underlying81 hi hz0 hz1 hz2 rfl (by decide) (af _ 0 0) 0 [] rfl (za w #[] 0 HB.o (by unfold maxLen;omega) rfl) a _ cap _ rfl (xz (enc:=iD) (k:=4) (λ_=>rfl) l) (HC.o _ (aN _ _)) (λu hu=>by simp only[rT]at hu;obtain⟨y,-,hy⟩:=hu;exact Ig y u hy) (by have:=HN.o;unfold maxLen;omega) (by have:=HN.o;omega) (by have:=HB.o;simp;omega) ?_;intro v' w1 hown hg hn;obtain⟨va,vc,rfl⟩:=mD hown)
  go_ret;simp only[nj]at hown
  refine⟨⟨va,vc,by simp,by simpa[bU]using hown⟩,?_⟩;have h1:Below _ w (w.alloc (au #[] 86)):=aN _ _;exact h1.grown hg h1.size (λi hi=>by simp[Value.ownBlock]at hi;omega)
theorem aaa(B:Nat)(l:List (Int×Int))(sa:Option az)(cap:Nat)(w:ai)(hl:bN jq 2 w (af sa l.length cap) l)(hn:l.length<=1000000)(hB:B<=w.heap.size):Calls prog 149 #[af sa l.length cap] w λv w'=>(∃dI cap',v=ax (af dI l.length cap')/\bU jq 2 87 B w' (af dI l.length cap') l)/\Below w.heap.size w w':=by
 obtain⟨i0,hi,hz0,hz1,hz2⟩:=fj Ic;have HL:aa (bN _ 2 w _ l):=hl;have HN:aa _:=hn;have HB:aa _:=hB;clear hl hn hB
 cases sa with
 |none=>
  have h0:l=[]:=by
   obtain⟨dI,cap',ck,-,hcc⟩:=HL.o
   cases ck
   by_cases e:l=[]
   ·exact e
   obtain⟨b,o,h,-⟩:=hcc e
   cases h
  subst h0;clear HL HN;have he:∀w:ai,(binOp .eql 82 _ _).run _ w=.ok (aI true) w:=λw=>vV w _ _ I 0 cap underlying82
  go_enter func149,ntmps149
  go_wp2;go_ret;exact⟨⟨_,0,rfl,fC _ _ _ _⟩,aC _ _⟩
 |some a=>
  have he:∀w:ai,(binOp .eql 82 (af _ l.length cap) _).run _ w=.ok (aI false) w:=λw=>vV w _ _ (J a) _ cap underlying82
  have HC:aa (∀V,Below w.heap.size w V->∀j u,(l.flatMap jq)[j]?=J u->V.cell? (a.add j)=J u):=λV hV j u hu=>by
   obtain⟨dI,cap',ck,-,hcc⟩:=HL.o
   cases ck
   have hne:l≠[]:=λh=>by rw[h]at hu;simp at hu
   obtain⟨b,o,xG,hc⟩:=hcc hne
   cases xG
   obtain⟨i',j',y,e1,h2,h3⟩:=xA (enc:=jq) (k:=2) (λ_=>rfl) l j u hu;have:=hc i' y h2 j' u h3;rw[e1,kP,<- qX];exact aG hV this
  go_enter func149,ntmps149
  go_wp2_with (at_builtin;refine fw _ rfl _ _ 82 rfl B 87 i0 _ 2 16 underlying82 hi hz0 hz1 hz2 rfl (by decide) (af _ 0 0) 0 [] rfl (za w #[] 0 HB.o (by unfold maxLen;omega) rfl) a _ cap _ rfl (xz (enc:=jq) (k:=2) (λ_=>rfl) l) (HC.o _ (aN _ _)) (λu hu=>by simp only[rT]at hu;obtain⟨y,-,hy⟩:=hu;exact Ie y u hy) (by have:=HN.o;unfold maxLen;omega) (by have:=HN.o;omega) (by have:=HB.o;simp;omega) ?_;intro v' w1 hown hg hn;obtain⟨va,vc,rfl⟩:=mD hown)
  go_ret;simp only[nj]at hown
  refine⟨⟨va,vc,by simp,by simpa[bU]using hown⟩,?_⟩;have h1:Below _ w (w.alloc (au #[] 87)):=aN _ _;exact h1.grown hg h1.size (λi hi=>by simp[Value.ownBlock]at hi;omega)
section
theorem Oy(w:ai)(q:Nat)(r:Option Nat):w.grownBy (w.drewN q) r:=by
 have h:=cg (aC w.heap.size w) q;exact⟨h.os,h.tape,h.output,h.size,λk hk _=>h.block k hk⟩
variable {w:ai}{b:Nat}{a:fo}
theorem aab(p:Int)(h:gV w b a):Calls prog 156 #[aj (J ⟨b,0,I⟩),U R p] w λe w'=>e=ax (bn #[])/\gV w' b (a.rep p)/\w.grownBy w' (J b):=by
 have c0:=h.c0;have c3:=h.c3;have f3:=h.frozen 3;have hn:=h.hn
 by_cases h0:a.pt=-1
 ·have HR:aa (a.rep p=a):=by show _=_;unfold fo.rep;rw[aK (λe=>e.1 h0)]
  rw[h0]at c0;have H:aa _:=h;clear h;go_enter func156,ntmps156
  go_wp2;go_end0
  exact⟨rfl,by rw[HR.o];exact H.o,Cc _ _⟩
 by_cases h1:p=a.pt
 ·subst h1
  by_cases h2:a.n<1000
  ·have HR:aa (a.rep a.pt={ a with n:=a.n+1 }):=by show _=_;unfold fo.rep;rw[aR ⟨h0,rfl,h2⟩]
   have H:aa _:=h;clear h;have h3:(a.n:Int)<1000:=by omega
   go_enter func156,ntmps156
   go_wp2;go_end0
   refine⟨rfl,?_,fp _ _ _ _⟩;rw[HR.o];have:=H.o.set (a.n+1) (by omega);simpa using this
  have HR:aa (a.rep a.pt=a):=by show _=_;unfold fo.rep;rw[aK (λe=>h2 e.2.2)]
  have H:aa _:=h;clear h;have h3:¬(a.n:Int)<1000:=by omega
  go_enter func156,ntmps156
  go_wp2;go_end0
  exact⟨rfl,by rw[HR.o];exact H.o,Cc _ _⟩
 have HR:aa (a.rep p=a):=by show _=_;unfold fo.rep;rw[aK (λe=>h1 e.2.1)]
 have H:aa _:=h;clear h;go_enter func156,ntmps156
 go_wp2;go_end0
 exact⟨rfl,by rw[HR.o];exact H.o,Cc _ _⟩
theorem aac(whole:Bool)(h:gV w b a):Calls prog 275 #[aj (J ⟨b,0,I⟩),aI whole] w λe w'=>e=ax (aI (a.well whole))/\gV w' b a.zero/\w.grownBy w' (J b):=by
 have c0:=h.c0;have c1:=h.c1;have c2:=h.c2;have c3:=h.c3;have f3:=h.frozen 3;have H:aa (∀q,gV ((w.drewN q).setCell _ (U R 0)) b a.zero/\w.grownBy ((w.drewN q).setCell ⟨b,3,_⟩ (U R 0)) _):=λq=>⟨(h.drewN q).set 0 (by omega),(Oy w q _).trans (fp _ _ _ _)⟩
 have d0:∀q,((w.drewN q).setCell _ (U R 0)).cell? _=J (U R a.pt):=λq=>((h.drewN q).set 0 (by omega)).c0
 clear h
 cases g1:decide (a.mn<=(a.n:Int))
 all_goals cases g2:decide ((a.n:Int)<=a.mx)
 all_goals cases whole
 all_goals cases g3:decide (a.pt=-1)
 all_goals
  go_enter func275,ntmps275
  go_wp2_with fail
  go_quiet (fail)
  go_wp2;go_ret;exact⟨by first|(unfold fo.well;rw[g1,g2,g3];rfl)|(unfold fo.well;rw[g1,g2];rfl),H.o _⟩
end
section
def GS(b:Nat)(sa:Option az)(n k:Nat):Prop:=k=b\/(0<n/\∃o,sa=J ⟨k,o,I⟩)
theorem IK{w:ai}{b:Nat}{sa:Option az}{n k:Nat}(hk:GS b sa n k)(j:Nat)(v:ar):bh (GS b sa n) w (w.setCell ⟨k,j,I⟩ v):=
 (bh.iO (fp w k j v)).mono (λi _ e=>by subst e;exact hk)
variable {B b cap:Nat}{w0 w w':ai}{sa:Option az}{s:cj}{xs:List WG}
theorem aad(h:eI B w b sa cap s):Calls prog 276 #[aj (J ⟨b,0,I⟩)] w λe w'=>e=ax (aI (!s.bad))/\eI B w' b sa cap s.zero/\bh (GS b sa s.xs.length) w w':=by
 have c1:=h.c1;have f1:=h.f1;have H:aa (eI B _ b sa cap s.zero):=h.BS _;have HF:aa (bh (GS b sa s.xs.length) w (w.setCell ⟨b,1,_⟩ (aI false))):=IK (a_ rfl) _ _;clear h;go_enter func276,ntmps276
 go_wp2;go_ret;exact⟨rfl,H.o,HF.o⟩
theorem aae(p tick:Int)(h:eI B w b sa cap s)(hlen:s.xs.length<=1000000):Calls prog 157 #[aj (J ⟨b,0,I⟩),U R p,U R tick] w λe w'=>e=ax (bn #[])/\eI B w' b sa cap (s.rep p tick)/\bh (GS b sa s.xs.length) w w':=by
 have HH:aa _:=h;have HL:aa _:=hlen
 by_cases t0:tick<0
 ·have HR:aa (s.rep p tick=s):=Ls (by unfold qK;rw[cw (by omega)];rfl);clear h;go_enter func157,ntmps157
  go_wp2;(try simp only[Exit.inBlock,Exit.then]);refine er (results_none rfl _ _ _) rfl ?_
  exact⟨rfl,by rw[HR.o];exact HH.o,bh.refl _ _⟩
 by_cases t1:1099511627776<tick
 ·have HR:aa (s.rep p tick=s):=Ls (by unfold qK;rw[cw (p:=tick<=1099511627776) (by omega),Bool.and_false]);clear h;go_enter func157,ntmps157
  go_wp2;(try simp only[Exit.inBlock,Exit.then]);refine er (results_none rfl _ _ _) rfl ?_
  exact⟨rfl,by rw[HR.o];exact HH.o,bh.refl _ _⟩
 have HT:aa (0<=tick/\tick<=1099511627776):=⟨by omega,by omega⟩;have ma:aa (qK tick=true):=by show _=_;unfold qK;rw[bM (by omega),bM (by omega)];rfl
 have HG:aa _:=h;have c0:=h.c0;clear h hlen HH;go_enter func157,ntmps157
 go_wp2_with fail
 go_loopw [18] (λi wr=>∃k:Nat,k<=s.xs.length/\i=U R k/\bh (GS b sa s.xs.length) w wr/\eI B wr b sa cap (s.upto p tick k)) (λi _=>s.xs.length-(intOf i).toNat)
 case atStart=>exact⟨0,bI _,rfl,bh.refl _ _,by rw[cj.TT];exact HG.o⟩
 case round=>
  clear c0 HG;obtain⟨k,hk,rfl,Oz,zu⟩:=hrel;have mf:aa _:=Oz;have HG:aa _:=zu;have c0:=zu.c0;rw[cj.TV]at c0;clear zu Oz
  by_cases hlt:k<s.xs.length
  ·have k1:(k:Int)<(s.xs.length:Int):=by omega
   have k2:k<1000000:=by have:=HL.o;omega
   obtain⟨x,hx⟩:∃x,s.xs[k]?=J x:=⟨_,bH hlt⟩;have HX:aa _:=hx;have Ci:=cj.Lr (p:=p) (tick:=tick) hx;obtain⟨g,o,uj,hgb,fE,hcc,cur,vX⟩:=HG.o.sl (λe=>by rw[e]at Ci;simp at Ci);subst uj;have OA:aa (En wr g _ x):=λj u hu=>hcc k x Ci j u hu
   have HF:aa (wr.frozen? ⟨g,o+k*5+4,I⟩=false):=by show _=_;simp[World.frozen?,vX]
   have OB:aa (∀v,bh _ w (wr.setCell ⟨g,o+k*5+4,_⟩ v)):=λv=>mf.o.trans (IK (aP ⟨by omega,o,rfl⟩) _ v) (λ_ _ x=>x)
   have aaf:aa _:=HG.o.fit x (cM Ci);have HN:aa (∀v,(s.upto p _ k).xs.set k _=(s.upto p _ _).xs/\(v=(x.bad p _||(s.upto p _ k).bad)->v=(s.upto p tick _).bad)):=λv=>by rw[cj.TW HX.o];exact⟨rfl,λh=>h⟩
   clear hx Ci hgb fE hcc vX;go_wp2_with fail
   refine(YO OA.o HF.o aaf.o HT.o).mono ?_;rintro v w1 ⟨rfl,js⟩;have pL:aa (eI B w1 b (J ⟨g,o,I⟩) cap ⟨(s.upto p tick k).xs.set k (x.rep p tick),(s.upto p tick k).bad⟩):=by show eI _ _ _ _ _ _;rw[js];exact HG.o.round (cj.Lr HX.o) HT.o
   have qu:aa (bh (GS b (J ⟨g,o,I⟩) s.xs.length) w w1):=by
    show bh _ _ _
    rw[js]
    split
    ·exact OB.o _
    exact mf.o
   clear js HG c0 OA HF OB mf;have d1:w1.cell? _=J (aI (s.upto p _ k).bad):=pL.o.c1;have f1:=pL.o.f1;have HZ:aa (∀v:Bool,v=(x.bad p tick||(s.upto p tick k).bad)->bh (GS b (J ⟨g,o,I⟩) s.xs.length) w (w1.setCell ⟨b,1,I⟩ (aI v))/\eI B (w1.setCell ⟨b,1,I⟩ (aI v)) b (J ⟨g,o,I⟩) cap (s.upto p tick (k+1))):=λv hv=>by
    refine⟨qu.o.trans (IK (a_ rfl) _ _) (λ_ _ x=>x),?_⟩;have h1:=pL.o.BS v;have h2:=HN.o v;have:(⟨(s.upto p tick k).xs.set k (x.rep p tick),v⟩:cj)=s.upto p tick (k+1):=by rw[h2.1,h2.2 hv]
    rw[<- this];exact h1
   clear pL HN qu;obtain⟨ub,eQ⟩:∃ub,ub=(s.upto p tick k).bad:=⟨_,rfl⟩;rw[<- eQ]at HZ d1;clear eQ
   cases hb:x.bad p tick
   all_goals
    rw[hb]at HZ;go_wp2_with fail
    go_roundw
    case rel=>exact⟨_,by omega,by go_num,HZ.o _ rfl⟩
    case measure=>simp[intOf];omega
  have k1:¬(k:Int)<(s.xs.length:Int):=by omega
  have HE:aa (s.upto p _ k=s.rep p _):=cj.TU hlt ma.o;go_wp2;go_end0
  refine⟨rfl,?_,mf.o⟩;rw[<- HE.o];exact HG.o
end
section
variable {B b m n:Nat}{w0 w w':ai}{e:aF}{s:iY}{D:DataW Unit}{fv lv:ar}
theorem aag(h:dW B w b e s m n D fv lv):Calls prog 277 #[aj (J ⟨b,0,I⟩)] w λz w'=>z=ax (aI (!s.bad))/\dW B w' b e s.zero m n D fv lv/\w.grownBy w' (J b):=by
 have c5:=h.cell 5 _ rfl;have f5:=h.frozen 5;have HF:aa (dW B _ b e s.zero m n D fv lv):=h.BS _;clear h;go_enter func277,ntmps277
 go_wp2;go_ret;exact⟨rfl,HF.o,fp _ _ _ _⟩
theorem aah(p:Int)(h:dW B w b e s m n D fv lv):Calls prog 158 #[aj (J ⟨b,0,I⟩),U R p] w λv w'=>v=ax (bn #[])/\dW B w' b e (s.rep e p) m n D fv lv/\w.grownBy w' (J b):=by
 have H:aa _:=h;have c5:=h.cell 5 _ rfl;have c4:=h.cell 4 _ rfl;have fin:∀(V:ai) (z:Bool),w.grownBy V I->z=(s.bad || !qf e s.ah p)->dW B (V.setCell ⟨b,5,I⟩ (aI z)) b e ⟨s.ah,z⟩ m n D fv lv/\dW B ((V.setCell ⟨b,5,I⟩ (aI z)).setCell ⟨b,4,I⟩ (U R (mZ e p))) b e (s.rep e p) m n D fv lv/\w.grownBy ((V.setCell ⟨b,5,I⟩ (aI z)).setCell ⟨b,4,I⟩ (U R (mZ e p))) (J b):=λV z hV hz=>by
  have hb:=IC hV;have h1:=h.below hb;have h2:=h1.BS z;have h3:=h2.ZP (T5 e p)
  refine⟨h2,?_,?_⟩
  ·unfold iY.rep;rw[<- hz];exact h3
  exact((hV.but _).trans (fp V b 5 _)).trans (fp _ b 4 _)
 have eP:aa _:=fin;clear h fin
 cases hb:s.bad
 ·rw[hb]at c5 eP;go_enter func158,ntmps158
  go_wp2_with fail
  refine(ZV _ p H.o H.o.fit).mono ?_;rintro v V ⟨rfl,hV⟩;obtain⟨h2,h3⟩:=eP.o V (!qf e _ p) hV rfl;have HA:aa _:=h2;have HZ:aa _:=h3;have f5:=(H.o.below (IC hV)).frozen 5;have d5:V.cell? _=J (aI _):=(H.o.below (IC hV)).cell 5 _ rfl;have d4:=h2.cell 4 _ rfl;have f4:=h2.frozen 4;clear h2 h3 eP hV c4 c5 H;go_wp2_with (go_at_call 217;refine(Oi p HA.o).mono ?_;rintro v w' ⟨rfl,rfl⟩)
  go_end0
  exact⟨rfl,HZ.o⟩
 rw[hb]at c5 eP;obtain⟨h2,h3⟩:=eP.o w true (EB _ _) rfl;have HA:aa _:=h2;have HZ:aa _:=h3;have f5:=H.o.frozen 5;have d4:=h2.cell 4 _ rfl;have f4:=h2.frozen 4;clear h2 h3 eP H;go_enter func158,ntmps158
 go_wp2_with (go_at_call 217;refine(Oi p HA.o).mono ?_;rintro v w' ⟨rfl,rfl⟩)
 go_end0
 exact⟨rfl,HZ.o⟩
end
structure EA where
 pa:Option az
 ga:Option az
 ea:Option az
 fa:Option az
 la:Option az
 pc:Nat
 gc:Nat
 ec:Nat
 fc:Nat
 lc:Nat
section
variable {F F':Nat->Prop}{w w' w'':ai}{b ba bg bf:Nat}{e:aF}{E:EA}
def lr{α:Type}(enc:α->List ar)(k:Nat)(T:TypeId)(F:Nat->Prop)(w:ai)(v:ar)(xs:List α):Prop:=bU enc k T 0 w v xs/\∀g,v.ownBlock=J g->F g
theorem bU.same{α:Type}{enc:α->List ar}{k B:Nat}{T:TypeId}{v:ar}{xs:List α}(h:bU enc k T B w v xs)(hs:∀g,v.ownBlock=J g->w'.heap[g]?=w.heap[g]?):bU enc k T B w' v xs:=by
 refine⟨h.1,?_⟩
 rcases h.2 with hn|⟨g,cap,cur,rfl,hb,zx,rest⟩
 ·exact .inl hn
 exact .inr ⟨g,cap,cur,rfl,hb,(hs g rfl).trans zx,rest⟩
theorem lr.same{α:Type}{enc:α->List ar}{k:Nat}{T:TypeId}{v:ar}{xs:List α}(h:lr enc k T F w v xs)(hs:∀k,F k->w'.heap[k]?=w.heap[k]?):lr enc k T F w' v xs:=⟨h.1.same (λg hg=>hs g (h.2 g hg)),h.2⟩
theorem lr.mono{α:Type}{enc:α->List ar}{k:Nat}{T:TypeId}{v:ar}{xs:List α}(h:lr enc k T F w v xs)(hF:∀k,k<w.heap.size->F k->F' k):lr enc k T F' w v xs:=⟨h.1,λg hg=>hF g (h.1.lt g hg).2 (h.2 g hg)⟩
theorem lr.of{α:Type}{enc:α->List ar}{k B:Nat}{T:TypeId}{v:ar}{xs:List α}(h:bU enc k T B w v xs)(hF:∀k,B<=k->F k):lr enc k T F w v xs:=
 ⟨⟨h.1,h.2.imp id λ⟨g,cap,cur,h1,_,h3⟩=>⟨g,cap,cur,h1,bI _,h3⟩⟩,λg hg=>hF g (h.lt g hg).1⟩
structure od(F:Nat->Prop)(w:ai)(e:aF)(E:EA):Prop where
 hp:lr bS 1 9 F w (af E.pa e.ak.length E.pc) e.ak
 hg:lr iD 4 86 F w (af E.ga e.aB.length E.gc) e.aB
 he:lr jq 2 87 F w (af E.ea e.aA.length E.ec) e.aA
 hf:lr bm 1 3 F w (af E.fa e.first.length E.fc) e.first
 hl:lr bm 1 3 F w (af E.la e.last.length E.lc) e.last
theorem od.parts(h:od F w e E):mB w e (af E.pa e.ak.length E.pc) (af E.ga e.aB.length E.gc) (af E.ea e.aA.length E.ec) (af E.fa e.first.length E.fc) (af E.la e.last.length E.lc):=
 ⟨h.hp.1.jc (λ_=>rfl),h.hg.1.jc (λ_=>rfl),h.he.1.jc (λ_=>rfl),h.hf.1.jc (λ_=>rfl),h.hl.1.jc (λ_=>rfl)⟩
theorem od.same(h:od F w e E)(hs:∀k,F k->w'.heap[k]?=w.heap[k]?):od F w' e E:=⟨h.hp.same hs,h.hg.same hs,h.he.same hs,h.hf.same hs,h.hl.same hs⟩
theorem od.mono(h:od F w e E)(hF:∀k,k<w.heap.size->F k->F' k):od F' w e E:=⟨h.hp.mono hF,h.hg.mono hF,h.he.mono hF,h.hf.mono hF,h.hl.mono hF⟩
def uk(T:TypeId):Prop:=T=169\/T=283\/T=286\/T=288\/T=291
structure fy(F:Nat->Prop)(w w':ai):Prop where
 off:bh F w w'
 ty:∀(k:Nat) (c:Array ar) (T:TypeId) (fr:Nat×Nat),w.heap[k]?=J (au c T fr)->¬uk T->w'.heap[k]?=J (au c T fr)
 mp:∀(k:Nat) (o:Obj),w.heap[k]?=J o->(∀c T fr,o≠au c T fr)->w'.heap[k]?=J o
theorem fy.refl(F:Nat->Prop)(w:ai):fy F w w:=⟨bh.refl _ _,λ_ _ _ _ h _=>h,λ_ _ h _=>h⟩
theorem fy.trans(h:fy F w w')(h':fy F' w' w'')(hF:∀k,k<w.heap.size->F' k->F k):fy F w w'':=⟨h.off.trans h'.off hF,λk c T fr a d=>h'.ty k c T fr (h.ty k c T fr a d) d,λk o a d=>h'.mp k o (h.mp k o a d) d⟩
theorem fy.below(hb:Below w.heap.size w w'):fy F w w':=⟨bh.ig hb F,λ_ _ _ _ hk _=>bG hb hk,λ_ _ hk _=>bG hb hk⟩
theorem fy.of(S:Nat->Prop)(h:bh S w w')(hS:∀k,k<w.heap.size->S k->F k/\∃c T fr,w.heap[k]?=J (au c T fr)/\uk T):fy F w w':=by
 refine⟨h.mono (λi hi hs=>(hS i hi hs).1),λk c T fr hk hT=>?_,λk o hk ho=>?_⟩
 ·refine(h.block k (bJ hk) (λhs=>?_)).trans hk;obtain⟨-,c',T',um,h1,h2⟩:=hS k (bJ hk) hs;rw[hk]at h1;simp only[eR,l_]at h1;obtain⟨-,rfl,-⟩:=h1;exact hT h2
 refine(h.block k (bJ hk) (λhs=>?_)).trans hk;obtain⟨-,c',T',um,h1,h2⟩:=hS k (bJ hk) hs;rw[hk]at h1;exact ho _ _ _ (bj h1)
theorem fy.put{c:Array ar}{T:TypeId}{fr:Nat×Nat}(hg:w.grownBy w' (J b))(hb:w.heap[b]?=J (au c T fr))(hT:uk T)(hF:F b):fy F w w':=
 fy.of _ (bh.iO hg) (λk _ e=>by subst e;exact⟨hF,c,T,fr,hb,hT⟩)
theorem od.fr(h:od F w e E)(hf:fy F' w w'):od F w' e E:=by
 have g:∀{α:Type} {enc:α->List _} {k:Nat} {T:TypeId} {v:ar} {xs:List α},¬uk T->lr enc k T F w v xs->lr enc k T F w' v xs:=λ{α} {enc} {k} {T} {v} {xs} hT h=>by
  refine⟨h.1.same (λg hg=>?_),h.2⟩
  rcases h.1.2 with⟨rfl,-⟩|⟨g',cap,cur,rfl,hb,zx,rest⟩
  ·simp[Value.ownBlock]at hg
  simp only[Value.ownBlock,eR]at hg;subst hg;rw[zx];exact hf.ty _ _ _ _ zx hT
 exact⟨g (by unfold uk;decide) h.hp,g (by unfold uk;decide) h.hg,g (by unfold uk;decide) h.he,g (by unfold uk;decide) h.hf,g (by unfold uk;decide) h.hl⟩
structure iP(F:Nat->Prop)(w:ai)(ba bg bf:Nat)(e:aF)(s:eZ):Prop where
 al:gV w ba s.a
 fa:F ba
 ga:∃sa cap,eI 0 w bg sa cap s.g/\∀k,GS bg sa s.g.xs.length k->F k
 fl:∃m n D fv lv,dW 0 w bf e s.f m n D fv lv/\F bf/\F m/\(∀g,fv.ownBlock=J g->F g)/\∀g,lv.ownBlock=J g->F g
 gl:s.g.xs.length=e.aB.length
theorem eI.same{B cap:Nat}{sa:Option az}{s:cj}(h:eI B w b sa cap s)(hs:∀k,GS b sa s.xs.length k->w'.heap[k]?=w.heap[k]?):eI B w' b sa cap s:=by
 refine⟨(hs b (a_ rfl)).trans h.heap,λhne=>?_,h.lo,h.fit⟩;obtain⟨g,o,e1,h1,h2,hc,cur,hf⟩:=h.sl hne;have hg:=hs g (aP ⟨zD.2 hne,o,e1⟩);exact⟨g,o,e1,h1,h2,λi x hx j u hu=>(qj (a:=⟨g,_,_⟩) hg).trans (hc i x hx j u hu),cur,hg.trans hf⟩
theorem dW.same{B m n:Nat}{s:iY}{D:DataW Unit}{fv lv:ar}(h:dW B w b e s m n D fv lv)(hb:w'.heap[b]?=w.heap[b]?)(hm:w'.heap[m]?=w.heap[m]?)(hf:∀g,fv.ownBlock=J g->w'.heap[g]?=w.heap[g]?)(hl:∀g,lv.ownBlock=J g->w'.heap[g]?=w.heap[g]?):dW B w' b e s m n D fv lv:=by
 refine⟨hb.trans h.heap,h.lo,?_,h.zA,h.hf.same hf,h.hl.same hl,h.fit,h.sm,h.wf⟩;obtain⟨es,c,xH,rest⟩:=h.own;exact⟨es,c,hm.trans xH,rest⟩
theorem gV.same{a:fo}(h:gV w b a)(hs:w'.heap[b]?=w.heap[b]?):gV w' b a:=⟨hs.trans h.heap,h.hn⟩
theorem iP.same{s:eZ}(h:iP F w ba bg bf e s)(hs:∀k,F k->w'.heap[k]?=w.heap[k]?):iP F w' ba bg bf e s:=by
 obtain⟨sa,cap,h1,h2⟩:=h.ga;obtain⟨m,n,D,fv,lv,h3,h4,h5,h6,h7⟩:=h.fl;exact⟨h.al.same (hs _ h.fa),h.fa,⟨sa,cap,h1.same (λk hk=>hs k (h2 k hk)),h2⟩,⟨m,n,D,fv,lv,h3.same (hs _ h4) (hs _ h5) (λg hg=>hs g (h6 g hg)) (λg hg=>hs g (h7 g hg)),h4,h5,h6,h7⟩,h.gl⟩
end
section
variable {F F':Nat->Prop}{w w' w'':ai}{b ba bg bf:Nat}{e:aF}{E:EA}{s:eZ}
def OC(e:aF)(E:EA):ar:=aU #[aq e.name,U R e.aJ,af E.pa e.ak.length E.pc,U R e.cnt,U R e.mn,U R e.mx,af E.ga e.aB.length E.gc,af E.ea e.aA.length E.ec,af E.fa e.first.length E.fc,af E.la e.last.length E.lc]
def rk(w:ai)(e:aF)(E:EA):Prop:=mB w e (af E.pa e.ak.length E.pc) (af E.ga e.aB.length E.gc) (af E.ea e.aA.length E.ec) (af E.fa e.first.length E.fc) (af E.la e.last.length E.lc)
theorem rk.below(h:rk w e E)(hb:Below w.heap.size w w'):rk w' e E:=mB.below h hb
def zE(B:Nat)(w:ai)(bg:Nat)(s:cj):Prop:=∃sa cap,eI 0 w bg sa cap s/\∀k,GS bg sa s.xs.length k->B<=k
def zF(B:Nat)(w:ai)(bf:Nat)(e:aF)(s:iY):Prop:=∃m n D fv lv,dW 0 w bf e s m n D fv lv/\B<=bf/\B<=m/\(∀g,fv.ownBlock=J g->B<=g)/\∀g,lv.ownBlock=J g->B<=g
theorem OD{B cap:Nat}{sa:Option az}{s:cj}(h:eI B w b sa cap s){k:Nat}(hk:GS b sa s.xs.length k):k<w.heap.size:=by
 rcases hk with rfl|⟨h0,o,e1⟩
 ·exact bJ h.heap
 obtain⟨g,o',e2,-,-,-,cur,hf⟩:=h.sl (zD.1 h0);rw[e1]at e2;simp only[eR,tW,and_true]at e2;obtain⟨rfl,-⟩:=e2;exact bJ hf
theorem map_lt{B m n:Nat}{s:iY}{D:DataW Unit}{fv lv:ar}(h:dW B w b e s m n D fv lv):m<w.heap.size:=by
 obtain⟨es,c,xH,rest⟩:=h.own;exact bJ xH
theorem zE.keep{B:Nat}{s:cj}(h:zE B w bg s)(hs:∀k,B<=k->k<w.heap.size->w'.heap[k]?=w.heap[k]?):zE B w' bg s:=by
 obtain⟨sa,cap,h1,h2⟩:=h;exact⟨sa,cap,h1.same (λk hk=>hs k (h2 k hk) (OD h1 hk)),h2⟩
theorem zF.keep{B:Nat}{s:iY}(h:zF B w bf e s)(hs:∀k,B<=k->k<w.heap.size->w'.heap[k]?=w.heap[k]?):zF B w' bf e s:=by
 obtain⟨m,n,D,fv,lv,h3,h4,h5,h6,h7⟩:=h;exact⟨m,n,D,fv,lv,h3.same (hs _ h4 (bJ h3.heap)) (hs _ h5 (map_lt h3)) (λg hg=>hs g (h6 g hg) (h3.hf.lt g hg).2) (λg hg=>hs g (h7 g hg) (h3.hl.lt g hg).2),h4,h5,h6,h7⟩
def zG(B:Nat)(w:ai)(ba:Nat)(a:fo):Prop:=gV w ba a/\B<=ba
theorem zG.keep{B:Nat}{a:fo}(h:zG B w ba a)(hs:∀k,B<=k->k<w.heap.size->w'.heap[k]?=w.heap[k]?):zG B w' ba a:=⟨h.1.same (hs _ h.2 (bJ h.1.heap)),h.2⟩
def IL(B r:Nat)(e:aF)(E:EA):Nat->ar->ai->Prop
 |0=>λv _=>v=aU #[aq e.name,U R e.aJ,af E.pa e.ak.length E.pc,U R e.cnt,U R e.mn,U R e.mx,af E.ga e.aB.length E.gc,af E.ea e.aA.length E.ec,af E.fa e.first.length E.fc,af E.la e.last.length E.lc]
 |1=>λv w=>∃ba,v=aj (J ⟨ba,0,I⟩)/\zG B w ba (eZ.new e).a
 |2=>λv _=>v=aU #[aq e.name,U R e.aJ,af E.pa e.ak.length E.pc,U R e.cnt,U R e.mn,U R e.mx,af E.ga e.aB.length E.gc,af E.ea e.aA.length E.ec,af E.fa e.first.length E.fc,af E.la e.last.length E.lc]
 |3=>λv w=>∃bg,v=aj (J ⟨bg,0,I⟩)/\zE B w bg (eZ.new e).g
 |4=>λv _=>v=aU #[aq e.name,U R e.aJ,af E.pa e.ak.length E.pc,U R e.cnt,U R e.mn,U R e.mx,af E.ga e.aB.length E.gc,af E.ea e.aA.length E.ec,af E.fa e.first.length E.fc,af E.la e.last.length E.lc]
 |5=>λv w=>∃bf,v=aj (J ⟨bf,0,I⟩)/\zF B w bf e (eZ.new e).f
 |6=>λv w=>∃ba bg bf,v=aU #[aj (J ⟨ba,0,I⟩),aj (J ⟨bg,0,I⟩),aj (J ⟨bf,0,I⟩)]/\zG B w ba (eZ.new e).a/\zE B w bg (eZ.new e).g/\zF B w bf e (eZ.new e).f
 |7=>λ_ w=>∃ba bg bf,w.heap[r]?=J (au #[aj (J ⟨ba,0,I⟩),aj (J ⟨bg,0,I⟩),aj (J ⟨bf,0,I⟩)] 167 (0,0))/\zG B w ba (eZ.new e).a/\zE B w bg (eZ.new e).g/\zF B w bf e (eZ.new e).f
 |_=>λ_ _=>True
theorem EG{B r:Nat}(hs:∀k,B<=k->k<w.heap.size->w'.heap[k]?=w.heap[k]?):∀j v,(j=7->w'.heap[r]?=w.heap[r]?)->IL B r e E j v w->IL B r e E j v w':=by
 intro j v h7 h
 match j,h7,h with
 |0,_,h=>exact h
 |1,_,h=>obtain⟨ba,h1,h2⟩:=h;exact⟨ba,h1,h2.keep hs⟩
 |2,_,h=>exact h
 |3,_,h=>obtain⟨ba,h1,h2⟩:=h;exact⟨ba,h1,h2.keep hs⟩
 |4,_,h=>exact h
 |5,_,h=>obtain⟨ba,h1,h2⟩:=h;exact⟨ba,h1,h2.keep hs⟩
 |6,_,h=>obtain⟨ba,bg,bf,h1,h2,h3,h4⟩:=h;exact⟨ba,bg,bf,h1,h2.keep hs,h3.keep hs,h4.keep hs⟩
 |7,h7,h=>obtain⟨ba,bg,bf,h1,h2,h3,h4⟩:=h;exact⟨ba,bg,bf,(h7 rfl).trans h1,h2.keep hs,h3.keep hs,h4.keep hs⟩
 |n+8,_,h=>exact h
theorem eI.zero{B cap:Nat}{sa:Option az}{s:cj}(h:eI B w b sa cap s):eI 0 w b sa cap s:=by
 refine⟨h.heap,λhne=>?_,bI _,h.fit⟩;obtain⟨g,o,e1,h1,h2,r⟩:=h.sl hne;exact⟨g,o,e1,h1,bI _,r⟩
theorem eI.aai{B cap:Nat}{sa:Option az}{s:cj}(h:eI B w b sa cap s){k:Nat}(hk:GS b sa s.xs.length k):B<=k:=by
 rcases hk with rfl|⟨h0,o,e1⟩
 ·exact h.lo
 obtain⟨g,o',e2,-,hB,-⟩:=h.sl (zD.1 h0);rw[e1]at e2;simp only[eR,tW,and_true]at e2;obtain⟨rfl,-⟩:=e2;exact hB
theorem OE{α:Type}{enc:α->List ar}{k B:Nat}{T:TypeId}{v:ar}{xs:List α}(h:bU enc k T B w v xs):bU enc k T 0 w v xs:=⟨h.1,h.2.imp id λ⟨g,cap,cur,h1,_,h3⟩=>⟨g,cap,cur,h1,bI _,h3⟩⟩
theorem dW.zero{B m n:Nat}{s:iY}{D:DataW Unit}{fv lv:ar}(h:dW B w b e s m n D fv lv):dW 0 w b e s m n D fv lv:=⟨h.heap,bI _,h.own,h.zA,OE h.hf,OE h.hl,h.fit,h.sm,h.wf⟩
theorem aaj{r:Nat}{T:TypeId}{a b c x y z:ar}(hr:w.heap[r]?=J (au #[x,y,z] T (0,0))):(((w.setCell ⟨r,0,I⟩ a).setCell ⟨r,1,I⟩ b).setCell ⟨r,2,I⟩ c).heap[r]?=J (au #[a,b,c] T (0,0)):=by
 simp[World.setCell,dr,hr]
theorem aak:(prog.info? 167).map (·.size)=J 3:=by kernel_rfl
theorem aal(w:ai)(e:aF)(E:EA)(hP:rk w e E)(hS:k7 e)(hW:sF e.aA):Calls prog 110 #[aU #[aq e.name,U R e.aJ,af E.pa e.ak.length E.pc,U R e.cnt,U R e.mn,U R e.mx,af E.ga e.aB.length E.gc,af E.ea e.aA.length E.ec,af E.fa e.first.length E.fc,af E.la e.last.length E.lc]] w λv w'=>(∃ba bg bf,v=ax (aU #[aj (J ⟨ba,0,I⟩),aj (J ⟨bg,0,I⟩),aj (J ⟨bf,0,I⟩)])/\iP (λk=>w.heap.size<=k) w' ba bg bf e (eZ.new e))/\Below w.heap.size w w':=by
 have HP:aa (rk w e E):=hP;have HS:aa _:=hS;have HW:aa (sF _):=hW;clear hP hS hW;go_enter func110,ntmps110
 go_wp2_with fail
 obtain⟨W,hW⟩:∃V,V=(w.alloc (au #[aq e.name,U R e.aJ,af E.pa e.ak.length E.pc,U R e.cnt,U R e.mn,U R e.mx,af E.ga e.aB.length E.gc,af E.ea e.aA.length E.ec,af E.fa e.first.length E.fc,af E.la e.last.length E.lc] 84)).alloc (au #[aj I,aj I,aj I] 167):=⟨_,rfl⟩;rw[<- hW];have gK:aa (Below w.heap.size w W):=by show Below _ _ _;rw[hW];exact(aN _ _).alloc (by simp) _
 have hsz:W.heap.size=w.heap.size+2:=by rw[hW];simp
 have HX:aa (W.heap[w.heap.size]?=J (au #[aq e.name,U R e.aJ,af E.pa e.ak.length E.pc,U R e.cnt,U R e.mn,U R e.mx,af E.ga e.aB.length E.gc,af E.ea e.aA.length E.ec,af E.fa e.first.length E.fc,af E.la e.last.length E.lc] 84 (0,0))):=by
  show _=_
  rw[hW];exact bG (aN _ _) (cR w _)
 have HR:aa (W.heap[w.heap.size+1]?=J (au #[aj I,aj I,aj I] 167 (0,0))):=by
  show _=_
  rw[hW];have:=cR (w.alloc (au #[aq e.name,U R e.aJ,af E.pa e.ak.length E.pc,U R e.cnt,U R e.mn,U R e.mx,af E.ga e.aB.length E.gc,af E.ea e.aA.length E.ec,af E.fa e.first.length E.fc,af E.la e.last.length E.lc] 84)) (au #[aj I,aj I,aj I] 167);simpa using this
 have HZ:aa _:=hsz;clear hW hsz
 refine Cb 8 rfl (IL (w.heap.size+2) (w.heap.size+1) e E) (λdone V=>Below _ w V/\V.heap[w.heap.size]?=J _/\w.heap.size+2<=V.heap.size/\(done 7=false->V.heap[w.heap.size+1]?=J _)) (by kernel_rfl) (by kernel_rfl) ⟨gK.o.drew,HX.o,by have:=HZ.o;show _<=W.heap.size;omega,λ_=>HR.o⟩ ?_ ?_
 ·intro i o ho
  match i,ho with
  |0,ho=>
   obtain rfl:=bj ho
   refine cI.free rfl ?_;intro done a V hC cd _ ay aD;have x1:a.tmps[1]?.getD _=aj _:=bp (aD 1 (eX (by kernel_rfl)));have hrow:=hC.2.1;have c0:V.cell? ⟨w.heap.size,0,I⟩=J (aq e.name):=by simp[World.cell?,hrow]
   have c1:V.cell? ⟨w.heap.size,1,I⟩=J (U R e.aJ):=by simp[World.cell?,hrow]
   have c2:V.cell? ⟨w.heap.size,2,I⟩=J (af E.pa e.ak.length E.pc):=by simp[World.cell?,hrow]
   have c3:V.cell? ⟨w.heap.size,3,I⟩=J (U R e.cnt):=by simp[World.cell?,hrow]
   have c4:V.cell? ⟨w.heap.size,4,I⟩=J (U R e.mn):=by simp[World.cell?,hrow]
   have c5:V.cell? ⟨w.heap.size,5,I⟩=J (U R e.mx):=by simp[World.cell?,hrow]
   have c6:V.cell? ⟨w.heap.size,6,I⟩=J (af E.ga e.aB.length E.gc):=by simp[World.cell?,hrow]
   have c7:V.cell? ⟨w.heap.size,7,I⟩=J (af E.ea e.aA.length E.ec):=by simp[World.cell?,hrow]
   have c8:V.cell? ⟨w.heap.size,8,I⟩=J (af E.fa e.first.length E.fc):=by simp[World.cell?,hrow]
   have c9:V.cell? ⟨w.heap.size,9,I⟩=J (af E.la e.last.length E.lc):=by simp[World.cell?,hrow]
   exact cu.val (c:=.agg _) (by clear ay aD hC hrow;go_simp) ⟨hC.1,hC.2.1,hC.2.2.1,by rw[cr _ (by decide)];exact hC.2.2.2⟩ rfl
  |1,ho=>
   obtain rfl:=bj ho
   refine cI.free rfl ?_;intro done a V hC cd _ ay aD;have x3:a.tmps[3]?.getD _=.agg _:=bp (ay _ 3 (bA (i:=0) rfl) rfl rfl)
   refine cu.call (f:=153) (args:=#[aU #[aq e.name,U R e.aJ,af E.pa e.ak.length E.pc,U R e.cnt,U R e.mn,U R e.mx,af E.ga e.aB.length E.gc,af E.ea e.aA.length E.ec,af E.fa e.first.length E.fc,af E.la e.last.length E.lc]]) (by clear ay aD hC;go_simp) ?_
   refine(YC _ _ _ _ _ _ _ _ _ _ _ _ V).mono ?_;rintro v V' ⟨b,rfl,hA⟩;have hb':=hA.br;have hk:∀k,w.heap.size+2<=k->k<V.heap.size->V'.heap[k]?=V.heap[k]?:=λk _ h=>hb'.block k h
   refine⟨_,rfl,⟨hC.1.trans (hb'.mono hC.1.size),bG hb' hC.2.1,bw hC.2.2.1 hb'.size,λhd=>bG hb' (hC.2.2.2 (by rwa [cr done (by decide)]at hd))⟩,λj v hj h=>EG hk j v (λ_=>hb'.block _ (by have:=hC.2.2.1;omega)) h,?_⟩;exact⟨b,rfl,hA.at',bw hC.2.2.1 hA.lo⟩
  |2,ho=>
   obtain rfl:=bj ho
   refine cI.free rfl ?_;intro done a V hC cd _ ay aD;have x1:a.tmps[1]?.getD _=aj _:=bp (aD 1 (eX (by kernel_rfl)));have hrow:=hC.2.1;have c0:V.cell? ⟨w.heap.size,0,I⟩=J (aq e.name):=by simp[World.cell?,hrow]
   have c1:V.cell? ⟨w.heap.size,1,I⟩=J (U R e.aJ):=by simp[World.cell?,hrow]
   have c2:V.cell? ⟨w.heap.size,2,I⟩=J (af E.pa e.ak.length E.pc):=by simp[World.cell?,hrow]
   have c3:V.cell? ⟨w.heap.size,3,I⟩=J (U R e.cnt):=by simp[World.cell?,hrow]
   have c4:V.cell? ⟨w.heap.size,4,I⟩=J (U R e.mn):=by simp[World.cell?,hrow]
   have c5:V.cell? ⟨w.heap.size,5,I⟩=J (U R e.mx):=by simp[World.cell?,hrow]
   have c6:V.cell? ⟨w.heap.size,6,I⟩=J (af E.ga e.aB.length E.gc):=by simp[World.cell?,hrow]
   have c7:V.cell? ⟨w.heap.size,7,I⟩=J (af E.ea e.aA.length E.ec):=by simp[World.cell?,hrow]
   have c8:V.cell? ⟨w.heap.size,8,I⟩=J (af E.fa e.first.length E.fc):=by simp[World.cell?,hrow]
   have c9:V.cell? ⟨w.heap.size,9,I⟩=J (af E.la e.last.length E.lc):=by simp[World.cell?,hrow]
   exact cu.val (c:=.agg _) (by clear ay aD hC hrow;go_simp) ⟨hC.1,hC.2.1,hC.2.2.1,by rw[cr _ (by decide)];exact hC.2.2.2⟩ rfl
  |3,ho=>
   obtain rfl:=bj ho
   refine cI.free rfl ?_;intro done a V hC cd _ ay aD;have x5:a.tmps[5]?.getD _=.agg _:=bp (ay _ 5 (bA (i:=0) rfl) rfl rfl)
   refine cu.call (f:=154) (args:=#[aU #[aq e.name,U R e.aJ,af E.pa e.ak.length E.pc,U R e.cnt,U R e.mn,U R e.mx,af E.ga e.aB.length E.gc,af E.ea e.aA.length E.ec,af E.fa e.first.length E.fc,af E.la e.last.length E.lc]]) (by clear ay aD hC;go_simp) ?_
   refine(YT _ _ _ _ _ _ _ _ _ _ _ _ V (HP.o.below hC.1).hg HS.o.hg).mono ?_;rintro v V' ⟨b,rfl,hb',sa,cap,hG⟩;have hk:∀k,w.heap.size+2<=k->k<V.heap.size->V'.heap[k]?=V.heap[k]?:=λk _ h=>hb'.block k h
   refine⟨_,rfl,⟨hC.1.trans (hb'.mono hC.1.size),bG hb' hC.2.1,bw hC.2.2.1 hb'.size,λhd=>bG hb' (hC.2.2.2 (by rwa [cr done (by decide)]at hd))⟩,λj v hj h=>EG hk j v (λ_=>hb'.block _ (by have:=hC.2.2.1;omega)) h,?_⟩
   refine⟨b,rfl,sa,cap,hG.zero,λk hk=>?_⟩;exact bw hC.2.2.1 (hG.aai hk)
  |4,ho=>
   obtain rfl:=bj ho
   refine cI.free rfl ?_;intro done a V hC cd _ ay aD;have x1:a.tmps[1]?.getD _=aj _:=bp (aD 1 (eX (by kernel_rfl)));have hrow:=hC.2.1;have c0:V.cell? ⟨w.heap.size,0,I⟩=J (aq e.name):=by simp[World.cell?,hrow]
   have c1:V.cell? ⟨w.heap.size,1,I⟩=J (U R e.aJ):=by simp[World.cell?,hrow]
   have c2:V.cell? ⟨w.heap.size,2,I⟩=J (af E.pa e.ak.length E.pc):=by simp[World.cell?,hrow]
   have c3:V.cell? ⟨w.heap.size,3,I⟩=J (U R e.cnt):=by simp[World.cell?,hrow]
   have c4:V.cell? ⟨w.heap.size,4,I⟩=J (U R e.mn):=by simp[World.cell?,hrow]
   have c5:V.cell? ⟨w.heap.size,5,I⟩=J (U R e.mx):=by simp[World.cell?,hrow]
   have c6:V.cell? ⟨w.heap.size,6,I⟩=J (af E.ga e.aB.length E.gc):=by simp[World.cell?,hrow]
   have c7:V.cell? ⟨w.heap.size,7,I⟩=J (af E.ea e.aA.length E.ec):=by simp[World.cell?,hrow]
   have c8:V.cell? ⟨w.heap.size,8,I⟩=J (af E.fa e.first.length E.fc):=by simp[World.cell?,hrow]
   have c9:V.cell? ⟨w.heap.size,9,I⟩=J (af E.la e.last.length E.lc):=by simp[World.cell?,hrow]
   exact cu.val (c:=.agg _) (by clear ay aD hC hrow;go_simp) ⟨hC.1,hC.2.1,hC.2.2.1,by rw[cr _ (by decide)];exact hC.2.2.2⟩ rfl
  |5,ho=>
   obtain rfl:=bj ho
   refine cI.free rfl ?_;intro done a V hC cd _ ay aD;have x7:a.tmps[7]?.getD _=.agg _:=bp (ay _ 7 (bA (i:=0) rfl) rfl rfl)
   refine cu.call (f:=155) (args:=#[aU #[aq e.name,U R e.aJ,af E.pa e.ak.length E.pc,U R e.cnt,U R e.mn,U R e.mx,af E.ga e.aB.length E.gc,af E.ea e.aA.length E.ec,af E.fa e.first.length E.fc,af E.la e.last.length E.lc]]) (by clear ay aD hC;go_simp) ?_
   refine(ZZ e _ _ _ _ _ _ _ _ _ _ V (HP.o.below hC.1) HS.o HW.o).mono ?_;rintro v V' ⟨b,rfl,hb',m,n,D,fv,lv,hG,hm⟩;have hk:∀k,w.heap.size+2<=k->k<V.heap.size->V'.heap[k]?=V.heap[k]?:=λk _ h=>hb'.block k h
   refine⟨_,rfl,⟨hC.1.trans (hb'.mono hC.1.size),bG hb' hC.2.1,bw hC.2.2.1 hb'.size,λhd=>bG hb' (hC.2.2.2 (by rwa [cr done (by decide)]at hd))⟩,λj v hj h=>EG hk j v (λ_=>hb'.block _ (by have:=hC.2.2.1;omega)) h,?_⟩;have hl:=hC.2.2.1;exact⟨b,rfl,m,n,D,fv,lv,hG.zero,bw hl hG.lo,bw hl hm,λg hg=>bw hl (hG.hf.lt g hg).1,λg hg=>bw hl (hG.hl.lt g hg).1⟩
  |6,ho=>
   obtain rfl:=bj ho
   refine cI.free rfl ?_;intro done a V hC cd _ ay aD;obtain⟨ba,ha1,ha2⟩:=ay _ 4 (bA (i:=0) rfl) rfl rfl;obtain⟨bg,hg1,hg2⟩:=ay _ 6 (bA (i:=1) rfl) rfl rfl;obtain⟨bf,mz,hf2⟩:=ay _ 8 (bA (i:=2) rfl) rfl rfl;have x4:=bp ha1;have x6:=bp hg1;have x8:=bp mz;exact cu.val (c:=.agg _) (by clear ay aD hC ha1 ha2 hg1 hg2 mz hf2;go_simp) ⟨hC.1,hC.2.1,hC.2.2.1,by rw[cr _ (by decide)];exact hC.2.2.2⟩ ⟨ba,bg,bf,rfl,ha2,hg2,hf2⟩
  |7,ho=>
   obtain rfl:=bj ho
   refine cI.free rfl ?_;intro done a V hC cd _ ay aD;have x2:a.tmps[2]?.getD _=aj _:=bp (aD 2 (eX (by kernel_rfl)));obtain⟨ba,bg,bf,hv,h1,h2,h3⟩:=ay _ 9 (bA (i:=0) rfl) rfl rfl;have x9:=bp hv;have hr:=hC.2.2.2 cd;have c0:V.cell? ⟨w.heap.size+1,0,I⟩=J (aj I):=by simp[World.cell?,hr]
   have c1:V.cell? ⟨w.heap.size+1,1,I⟩=J (aj I):=by simp[World.cell?,hr]
   have c2:V.cell? ⟨w.heap.size+1,2,I⟩=J (aj I):=by simp[World.cell?,hr]
   have f0:∀i,V.frozen? ⟨w.heap.size+1,i,I⟩=false:=λi=>by simp[World.frozen?,hr]
   have hg:V.grownBy (((V.setCell ⟨_,0,_⟩ (aj (J ⟨ba,0,I⟩))).setCell ⟨_,1,_⟩ (aj (J ⟨bg,0,I⟩))).setCell ⟨w.heap.size+1,2,I⟩ (aj (J ⟨bf,0,I⟩))) (J (w.heap.size+1)):=((fp _ _ _ _).trans (fp _ _ _ _)).trans (fp _ _ _ _);have hk:∀k,w.heap.size+2<=k->k<V.heap.size->(((V.setCell _ _).setCell _ _).setCell _ _).heap[k]?=V.heap[k]?:=λk h1 h=>hg.block k h (by simp;omega)
   have hz:=hC.2.2.1
   refine cu.BQ (w':=((V.setCell _ _).setCell _ _).setCell _ _) (by clear ay aD hC hv h1 h2 h3 hg hk hr hz;go_simp) ⟨?_,?_,bw hz hg.size,λhd=>by rw[zC]at hd;cases hd⟩ (λj v hj h=>EG hk j v (λe7=>by rw[e7,cd]at hj;cases hj) h) ⟨ba,bg,bf,?_,h1.keep hk,h2.keep hk,h3.keep hk⟩
   ·exact hC.1.grown hg hC.1.size (λi hi=>by cases hi;omega)
   ·exact(hg.block _ (by omega) (by simp)).trans hC.2.1
   rw[aaj hr]
  |n+8,ho=>simp at ho
 intro vals V hC hS;obtain⟨ba,bg,bf,hr,h1,h2,h3⟩:=hS 7 (by decide);have HB:aa _:=hC.1;have aam:aa _:=hr;have xI:aa (iP (λk=>w.heap.size<=k) V ba bg bf e (eZ.new e)):=by
  obtain⟨sa,cap,g1,g2⟩:=h2;obtain⟨m,n,D,fv,lv,f3,f4,f5,f6,f7⟩:=h3
  refine⟨h1.1,by have:=h1.2;show w.heap.size<=ba;omega,⟨sa,cap,g1,λk hk=>by have:=g2 k hk;show w.heap.size<=k;omega⟩,⟨m,n,D,fv,lv,f3,by show w.heap.size<=bf;omega,by show w.heap.size<=m;omega,λg hg=>by have:=f6 g hg;show w.heap.size<=g;omega,λg hg=>by have:=f7 g hg;show w.heap.size<=g;omega⟩,by simp[eZ.new,cj.new]⟩
 clear hS hC hr h1 h2 h3 HP HX HR gK HZ;simp only[fill,dz];go_simp
 go_wp2_with fail
 refine er (nC rfl _ _ _ _ _ _ _ rfl aam.o underlying167 rfl aak) rfl ?_;exact⟨⟨ba,bg,bf,rfl,xI.o⟩,HB.o⟩
end
section
variable {F F':Nat->Prop}{w w' w'':ai}{b ba bg bf:Nat}{e:aF}{E:EA}{s:eZ}
theorem Cj{i j:Nat}{c c':Array ar}{T T':TypeId}{fr um:Nat×Nat}(h1:w.heap[i]?=J (au c T fr))(h2:w.heap[j]?=J (au c' T' um))(hT:T≠T'):i≠j:=by
 rintro rfl;rw[h1]at h2;simp only[eR,l_]at h2;exact hT h2.2.1
theorem EH{α:Type}{enc:α->List ar}{k B:Nat}{T:TypeId}{v:ar}{xs:List α}(h:bU enc k T B w v xs){g:Nat}(hg:v.ownBlock=J g):∃c fr,w.heap[g]?=J (au c T fr):=by
 rcases h.2 with⟨rfl,_⟩|⟨g',cap,cur,rfl,_,eA,_⟩
 ·simp[Value.ownBlock]at hg
 simp only[Value.ownBlock,eR]at hg;subst hg;exact⟨_,_,eA⟩
theorem xJ{B cap:Nat}{sa:Option az}{s:cj}(h:eI B w b sa cap s){k:Nat}(hk:GS b sa s.xs.length k):∃c T fr,w.heap[k]?=J (au c T fr)/\(T=286\/T=288):=by
 rcases hk with rfl|⟨h0,o,e1⟩
 ·exact⟨_,_,_,h.heap,a_ rfl⟩
 obtain⟨g,o',e2,-,-,-,cur,hf⟩:=h.sl (zD.1 h0);rw[e1]at e2;simp only[eR,tW,and_true]at e2;obtain⟨rfl,-⟩:=e2;exact⟨_,_,_,hf,aP rfl⟩
theorem dW.OG{B m n:Nat}{f:iY}{D:DataW Unit}{fv lv:ar}{S:Nat->Prop}(h:dW B w b e f m n D fv lv)(ho:bh S w w')(hS:∀k,S k->∃c T fr,w.heap[k]?=J (.cells c T fr)/\T≠291/\T≠3):dW B w' b e f m n D fv lv:=by
 have g:∀k,k<w.heap.size->(∀c T fr,w.heap[k]?=J (.cells c T fr)->T=291\/T=3)->w'.heap[k]?=w.heap[k]?:=λk hk hT=>by
  refine ho.block k hk (λhs=>?_);obtain⟨c,T,fr,h1,h2,h3⟩:=hS k hs
  rcases hT c T fr h1 with rfl|rfl
  ·exact h2 rfl
  exact h3 rfl
 refine h.same (g b (bJ h.heap) (λc T fr hc=>?_)) (g m (map_lt h) (λc T fr hc=>?_)) (λk hk=>g k (h.hf.lt k hk).2 (λc T fr hc=>?_)) (λk hk=>g k (h.hl.lt k hk).2 (λc T fr hc=>?_))
 ·rw[h.heap]at hc;simp only[eR,l_]at hc;exact a_ hc.2.1.symm
 ·obtain⟨es,c',xH,rest⟩:=h.own;rw[xH]at hc
  cases hc
 ·obtain⟨c',um,h1⟩:=EH h.hf hk;rw[h1]at hc;simp only[eR,l_]at hc;exact aP hc.2.1.symm
 obtain⟨c',um,h1⟩:=EH h.hl hk;rw[h1]at hc;simp only[eR,l_]at hc;exact aP hc.2.1.symm
theorem iP.OH{a:fo}(h:iP F w ba bg bf e s)(hg:w.grownBy w' (J ba))(ha:gV w' ba a):iP F w' ba bg bf e ⟨a,s.g,s.f⟩:=by
 obtain⟨sa,cap,h1,h2⟩:=h.ga;obtain⟨m,n,D,fv,lv,h3,h4,h5,h6,h7⟩:=h.fl
 refine⟨ha,h.fa,⟨sa,cap,h1.same (λk hk=>?_),h2⟩,⟨m,n,D,fv,lv,h3.OG (bh.iO hg) (λk hk=>?_),h4,h5,h6,h7⟩,h.gl⟩
 ·obtain⟨c,T,fr,h8,h9⟩:=xJ h1 hk
  refine hg.block k (bJ h8) (λe1=>?_)
  refine Cj h8 h.al.heap ?_ (bj e1)
  rcases h9 with rfl|rfl<;>decide
 subst hk;exact⟨_,_,_,h.al.heap,by decide,by decide⟩
theorem iP.OI(h:iP F w ba bg bf e s)(hg:w.grownBy w' (J ba)):fy F w w':=fy.put hg h.al.heap (aP (a_ rfl)) h.fa
theorem iP.OJ{sa:Option az}{cap:Nat}{g:cj}(h:iP F w ba bg bf e s)(h1:eI 0 w bg sa cap s.g)(h2:∀k,GS bg sa s.g.xs.length k->F k)(ho:bh (GS bg sa s.g.xs.length) w w')(hg:eI 0 w' bg sa cap g)(hl:g.xs.length=s.g.xs.length):iP F w' ba bg bf e ⟨s.a,g,s.f⟩:=by
 obtain⟨m,n,D,fv,lv,h3,h4,h5,h6,h7⟩:=h.fl
 refine⟨h.al.same (ho.block ba (bJ h.al.heap) (λhs=>?_)),h.fa,⟨sa,cap,hg,λk hk=>h2 k (by rw[<- hl];exact hk)⟩,⟨m,n,D,fv,lv,h3.OG ho (λk hk=>?_),h4,h5,h6,h7⟩,hl.trans h.gl⟩
 ·obtain⟨c,T,fr,h8,h9⟩:=xJ h1 hs
  refine Cj h8 h.al.heap ?_ rfl
  rcases h9 with rfl|rfl<;>decide
 obtain⟨c,T,fr,h8,h9⟩:=xJ h1 hk
 refine⟨c,T,fr,h8,?_,?_⟩
 ·rcases h9 with rfl|rfl<;>decide
 rcases h9 with rfl|rfl<;>decide
theorem OM{sa:Option az}{cap:Nat}{g:cj}(h1:eI 0 w bg sa cap g)(h2:∀k,GS bg sa g.xs.length k->F k)(ho:bh (GS bg sa g.xs.length) w w'):fy F w w':=by
 refine fy.of _ ho (λk _ hk=>⟨h2 k hk,?_⟩);obtain⟨c,T,fr,h8,h9⟩:=xJ h1 hk
 refine⟨c,T,fr,h8,?_⟩
 rcases h9 with rfl|rfl
 ·exact aP (aP (a_ rfl))
 exact aP (aP (aP (a_ rfl)))
theorem iP.xK{m n:Nat}{D:DataW Unit}{fv lv:ar}{f:iY}(h:iP F w ba bg bf e s)(h3:dW 0 w bf e s.f m n D fv lv)(h4:F bf)(h5:F m)(h6:∀g,fv.ownBlock=J g->F g)(h7:∀g,lv.ownBlock=J g->F g)(hg:w.grownBy w' (J bf))(hf:dW 0 w' bf e f m n D fv lv):iP F w' ba bg bf e ⟨s.a,s.g,f⟩:=by
 obtain⟨sa,cap,h1,h2⟩:=h.ga
 refine⟨h.al.same (hg.block ba (bJ h.al.heap) (λe1=>?_)),h.fa,⟨sa,cap,h1.same (λk hk=>?_),h2⟩,⟨m,n,D,fv,lv,hf,h4,h5,h6,h7⟩,h.gl⟩
 ·exact Cj h.al.heap h3.heap (by decide) (bj e1)
 obtain⟨c,T,fr,h8,h9⟩:=xJ h1 hk
 refine hg.block k (bJ h8) (λe1=>?_)
 refine Cj h8 h3.heap ?_ (bj e1)
 rcases h9 with rfl|rfl<;>decide
theorem OO{m n:Nat}{D:DataW Unit}{fv lv:ar}{f:iY}(h3:dW 0 w bf e f m n D fv lv)(h4:F bf)(hg:w.grownBy w' (J bf)):fy F w w':=fy.put hg h3.heap (aP (aP (aP (aP rfl)))) h4
theorem IM{c:Array ar}{fr:Nat×Nat}(hb:w.heap[b]?=J (au c 169 fr)){S:Nat->Prop}(ho:bh S w w')(hS:∀k,S k->∃c T fr,w.heap[k]?=J (au c T fr)/\T≠169):w'.heap[b]?=J (au c 169 fr):=by
 refine(ho.block b (bJ hb) (λhs=>?_)).trans hb;obtain⟨c',T,um,h1,h2⟩:=hS b hs;exact Cj h1 hb h2 rfl
theorem iP.OP(h:iP F w ba bg bf e s){c:Array ar}{fr:Nat×Nat}(hb:w.heap[b]?=J (au c 169 fr))(hg:w.grownBy w' (J ba)):w'.heap[b]?=J (au c 169 fr):=
 IM hb (bh.iO hg) (λk hk=>by subst hk;exact⟨_,_,_,h.al.heap,by decide⟩)
theorem OQ{sa:Option az}{cap:Nat}{g:cj}(h1:eI 0 w bg sa cap g){c:Array ar}{fr:Nat×Nat}(hb:w.heap[b]?=J (au c 169 fr))(ho:bh (GS bg sa g.xs.length) w w'):w'.heap[b]?=J (au c 169 fr):=
 IM hb ho (λk hk=>by
  obtain⟨c,T,fr,h8,h9⟩:=xJ h1 hk
  refine⟨c,T,fr,h8,?_⟩
  rcases h9 with rfl|rfl<;>decide)
theorem OS{m n:Nat}{D:DataW Unit}{fv lv:ar}{f:iY}(h3:dW 0 w bf e f m n D fv lv){c:Array ar}{fr:Nat×Nat}(hb:w.heap[b]?=J (.cells c 169 fr))(hg:w.grownBy w' (J bf)):w'.heap[b]?=J (.cells c 169 fr):=
 IM hb (bh.iO hg) (λk hk=>by subst hk;exact⟨_,_,_,h3.heap,by decide⟩)
structure qw(F:Nat->Prop)(w w':ai)(b ba bg bf:Nat)(e:aF)(s:eZ)(c:Array ar):Prop where
 jI:iP F w' ba bg bf e s
 row:w'.heap[b]?=J (au c 169 (0,0))
 fr:fy F w w'
theorem aan(p t:Int)(c:Array ar)(h:iP F w ba bg bf e s)(hb:w.heap[b]?=J (au c 169 (0,0)))(h0:c[0]?=J (aj (J ⟨ba,0,I⟩)))(h1:c[1]?=J (aj (J ⟨bg,0,I⟩)))(h2:c[2]?=J (aj (J ⟨bf,0,I⟩)))(hS:k7 e):Calls prog 111 #[aj (J ⟨b,0,I⟩),U R p,U R t] w λv w'=>v=ax (bn #[])/\qw F w w' b ba bg bf e (s.rep e p t) c:=by
 have H:aa _:=h;have HB:aa _:=hb;have H1:aa _:=h1;have H2:aa _:=h2;have HS:aa _:=hS;have c0:w.cell? ⟨b,0,I⟩=J (aj (J ⟨ba,0,I⟩)):=by simp[World.cell?,hb,h0]
 clear h hb h0 h1 h2 hS;go_enter func111,ntmps111
 go_wp2_with fail
 refine(aab p H.o.al).mono ?_;rintro v w1 ⟨rfl,hA,hg⟩;have H':aa (qw F w w1 b ba bg bf e _ c):=⟨H.o.OH hg hA,H.o.OP HB.o hg,H.o.OI hg⟩;have c1:w1.cell? ⟨b,1,I⟩=J (aj (J ⟨bg,0,I⟩)):=by simp[World.cell?,H'.o.row,H1.o]
 clear c0 hA hg;go_wp2_with fail
 obtain⟨sa,cap,hG,Ck⟩:=H'.o.jI.ga;have HG:aa (eI 0 w1 bg sa cap s.g/\∀k,GS bg sa s.g.xs.length k->F k):=⟨hG,Ck⟩;clear hG Ck
 refine(aae p t HG.o.1 (by have h5:s.g.xs.length=e.aB.length:=H'.o.jI.gl;have:=HS.o.hg;omega)).mono ?_;rintro v w2 ⟨rfl,hA,hg⟩;have H3:aa (qw F w w2 b ba bg bf e ⟨s.a.rep p,_,s.f⟩ c):=⟨H'.o.jI.OJ HG.o.1 HG.o.2 hg hA (ZM _ _ _),OQ HG.o.1 H'.o.row hg,H'.o.fr.trans (OM HG.o.1 HG.o.2 hg) (λ_ _ x=>x)⟩;have c2:w2.cell? ⟨b,2,I⟩=J (aj (J ⟨bf,0,I⟩)):=by simp[World.cell?,H3.o.row,H2.o]
 clear c1 hA hg HG H';go_wp2_with fail
 obtain⟨m,n,D,fv,lv,OT,OU,OV,OW,OX⟩:=H3.o.jI.fl;have HF:aa (dW 0 w2 bf e s.f m n D fv lv/\F bf/\F m/\(∀g,fv.ownBlock=J g->F g)/\∀g,lv.ownBlock=J g->F g):=⟨OT,OU,OV,OW,OX⟩;clear OT OU OV OW OX
 refine(aah p HF.o.1).mono ?_;rintro v w3 ⟨rfl,hA,hg⟩;have H4:aa (qw F w w3 b ba bg bf e (s.rep e p t) c):=⟨H3.o.jI.xK HF.o.1 HF.o.2.1 HF.o.2.2.1 HF.o.2.2.2.1 HF.o.2.2.2.2 hg hA,OS HF.o.1 H3.o.row hg,H3.o.fr.trans (OO HF.o.1 HF.o.2.1 hg) (λ_ _ x=>x)⟩;clear hA hg HF H3 c2;go_wp2;go_end0
 exact⟨rfl,H4.o⟩
end
section
variable {F F':Nat->Prop}{w w' w'':ai}{b ba bg bf:Nat}{e:aF}{E:EA}{s:eZ}
def EI(s:eZ)(x y z:Bool):eZ:=⟨if x then s.a.zero else s.a,if y then s.g.zero else s.g,if z then s.f.zero else s.f⟩
theorem aao(s:eZ):EI s false false false=s:=rfl
theorem aap(s:eZ):EI s true true true=s.zero:=rfl
def aaq(s:eZ)(wh:Bool)(b ba bg bf:Nat):Nat->ar->Prop
 |0=>λv=>v=aj (J ⟨b,0,I⟩)
 |1=>λv=>v=aj (J ⟨b,0,I⟩)
 |2=>λv=>v=aj (J ⟨b,0,I⟩)
 |3=>λv=>v=aj (J ⟨ba,0,I⟩)
 |4=>λv=>v=aI wh
 |5=>λv=>v=aI (s.a.well wh)
 |6=>λv=>v=aj (J ⟨b,0,I⟩)
 |7=>λv=>v=aj (J ⟨b,0,I⟩)
 |8=>λv=>v=aj (J ⟨b,1,I⟩)
 |9=>λv=>v=aj (J ⟨bg,0,I⟩)
 |10=>λv=>v=aI (!s.g.bad)
 |11=>λv=>v=aj (J ⟨b,0,I⟩)
 |12=>λv=>v=aj (J ⟨b,0,I⟩)
 |13=>λv=>v=aj (J ⟨b,2,I⟩)
 |14=>λv=>v=aj (J ⟨bf,0,I⟩)
 |15=>λv=>v=aI (!s.f.bad)
 |16=>λv=>v=aI (s.a.well wh)
 |17=>λv=>v=aI (!s.g.bad)
 |18=>λv=>v=aI (!s.f.bad)
 |_=>λ_=>True
theorem aar(wh:Bool)(c:Array ar)(h:iP F w ba bg bf e s)(hb:w.heap[b]?=J (au c 169 (0,0)))(h0:c[0]?=J (aj (J ⟨ba,0,I⟩)))(h1:c[1]?=J (aj (J ⟨bg,0,I⟩)))(h2:c[2]?=J (aj (J ⟨bf,0,I⟩))):Calls prog 254 #[aj (J ⟨b,0,I⟩),aI wh] w λv w'=>v=ax (U R (s.kind wh))/\qw F w w' b ba bg bf e s.zero c:=by
 have HW:aa (qw F w w b ba bg bf e s c):=⟨h,hb,fy.refl _ _⟩;have H0:aa _:=h0;have H1:aa _:=h1;have H2:aa _:=h2;clear h hb h0 h1 h2;go_enter func254,ntmps254
 go_wp2_with fail
 refine Cb 19 rfl (λj v _=>aaq s wh b ba bg bf j v) (λdone V=>qw F w V b ba bg bf e (EI s (done 5) (done 10) (done 15)) c) (by kernel_rfl) (by kernel_rfl) ⟨by show iP _ _ _ _ _ _ (EI s false false false);rw[aao];exact HW.o.jI.same (λ_ _=>rfl),HW.o.row,fy.below (aC _ _).drew⟩ ?_ ?_
 ·intro i o ho
  match i,ho with
  |0,ho=>
   obtain rfl:=bj ho
   refine cI.free rfl ?_;intro done a V hC cd cO ay aD;have x0:a.tmps[0]?.getD _=aj _:=bp (aD 0 (eX (by kernel_rfl)));exact cu.val (c:=aj _) (by clear ay aD cO hC;go_simp) (by rw[cr _ (show 5≠0 by decide),cr _ (show 10≠0 by decide),cr _ (show 15≠0 by decide)];exact hC) rfl
  |1,ho=>
   obtain rfl:=bj ho
   refine cI.free rfl ?_;intro done a V hC cd cO ay aD;have x8:a.tmps[8]?.getD _=aj _:=bp (ay _ 8 (bA (i:=0) rfl) rfl rfl);exact cu.val (c:=aj _) (by clear ay aD cO hC;go_simp) (by rw[cr _ (show 5≠1 by decide),cr _ (show 10≠1 by decide),cr _ (show 15≠1 by decide)];exact hC) rfl
  |2,ho=>
   obtain rfl:=bj ho
   refine cI.free rfl ?_;intro done a V hC cd cO ay aD;have x9:a.tmps[9]?.getD _=aj _:=bp (ay _ 9 (bA (i:=0) rfl) rfl rfl);exact cu.val (c:=aj _) (by clear ay aD cO hC;go_simp) (by rw[cr _ (show 5≠2 by decide),cr _ (show 10≠2 by decide),cr _ (show 15≠2 by decide)];exact hC) rfl
  |3,ho=>
   obtain rfl:=bj ho
   refine cI.free rfl ?_;intro done a V hC cd cO ay aD;have Om:a.tmps[10]?.getD _=aj _:=bp (ay _ 10 (bA (i:=0) rfl) rfl rfl);have c0:V.cell? ⟨b,0,I⟩=J (aj (J ⟨ba,0,I⟩)):=by simp[World.cell?,hC.row,H0.o]
   exact cu.val (c:=aj _) (by clear ay aD cO hC;go_simp) (by rw[cr _ (show 5≠3 by decide),cr _ (show 10≠3 by decide),cr _ (show 15≠3 by decide)];exact hC) rfl
  |4,ho=>
   obtain rfl:=bj ho
   refine cI.free rfl ?_;intro done a V hC cd cO ay aD;have x1:a.tmps[1]?.getD _=aI wh:=bp (aD 1 (eX (by kernel_rfl)));exact cu.val (c:=aI wh) (by clear ay aD cO hC;go_simp) (by rw[cr _ (show 5≠4 by decide),cr _ (show 10≠4 by decide),cr _ (show 15≠4 by decide)];exact hC) rfl
  |5,ho=>
   obtain rfl:=bj ho
   refine cI.free rfl ?_;intro done a V hC cd cO ay aD;have IG:a.tmps[11]?.getD _=aj _:=bp (ay _ 11 (bA (i:=0) rfl) rfl rfl);have IH:a.tmps[12]?.getD _=aI wh:=bp (ay _ 12 (bA (i:=1) rfl) rfl rfl)
   refine cu.call (f:=275) (args:=#[aj (J ⟨ba,0,I⟩),aI wh]) (by clear ay aD cO hC;go_simp) ?_;rw[cd]at hC
   refine(aac wh hC.jI.al).mono ?_;rintro v w1 ⟨rfl,hA,hg⟩
   refine⟨_,rfl,?_,λ_ _ _ h=>h,rfl⟩;rw[zC,cr _ (show 10≠5 by decide),cr _ (show 15≠5 by decide)];exact⟨hC.jI.OH hg hA,hC.jI.OP hC.row hg,hC.fr.trans (hC.jI.OI hg) (λ_ _ x=>x)⟩
  |6,ho=>
   obtain rfl:=bj ho
   refine cI.free rfl ?_;intro done a V hC cd cO ay aD;have x0:a.tmps[0]?.getD _=aj _:=bp (aD 0 (eX (by kernel_rfl)));exact cu.val (c:=aj _) (by clear ay aD cO hC;go_simp) (by rw[cr _ (show 5≠6 by decide),cr _ (show 10≠6 by decide),cr _ (show 15≠6 by decide)];exact hC) rfl
  |7,ho=>
   obtain rfl:=bj ho
   refine cI.free rfl ?_;intro done a V hC cd cO ay aD;have EF:a.tmps[14]?.getD _=aj _:=bp (ay _ 14 (bA (i:=0) rfl) rfl rfl);exact cu.val (c:=aj _) (by clear ay aD cO hC;go_simp) (by rw[cr _ (show 5≠7 by decide),cr _ (show 10≠7 by decide),cr _ (show 15≠7 by decide)];exact hC) rfl
  |8,ho=>
   obtain rfl:=bj ho
   refine cI.free rfl ?_;intro done a V hC cd cO ay aD;have Ot:a.tmps[15]?.getD _=aj _:=bp (ay _ 15 (bA (i:=0) rfl) rfl rfl);exact cu.val (c:=aj _) (by clear ay aD cO hC;go_simp) (by rw[cr _ (show 5≠8 by decide),cr _ (show 10≠8 by decide),cr _ (show 15≠8 by decide)];exact hC) rfl
  |9,ho=>
   obtain rfl:=bj ho
   refine cI.free rfl ?_;intro done a V hC cd cO ay aD;have Ou:a.tmps[16]?.getD _=aj _:=bp (ay _ 16 (bA (i:=0) rfl) rfl rfl);have c1:V.cell? ⟨b,1,I⟩=J (aj (J ⟨bg,0,I⟩)):=by simp[World.cell?,hC.row,H1.o]
   exact cu.val (c:=aj _) (by clear ay aD cO hC;go_simp) (by rw[cr _ (show 5≠9 by decide),cr _ (show 10≠9 by decide),cr _ (show 15≠9 by decide)];exact hC) rfl
  |10,ho=>
   obtain rfl:=bj ho
   refine cI.free rfl ?_;intro done a V hC cd cO ay aD;have Ov:a.tmps[17]?.getD _=aj _:=bp (ay _ 17 (bA (i:=0) rfl) rfl rfl)
   refine cu.call (f:=276) (args:=#[aj (J ⟨bg,0,I⟩)]) (by clear ay aD cO hC;go_simp) ?_;rw[cd]at hC;obtain⟨sa,cap,hG,Ck⟩:=hC.jI.ga
   refine(aad hG).mono ?_;rintro v w1 ⟨rfl,hA,hg⟩
   refine⟨_,rfl,?_,λ_ _ _ h=>h,rfl⟩;rw[zC,cr _ (show 5≠10 by decide),cr _ (show 15≠10 by decide)];exact⟨hC.jI.OJ hG Ck hg hA rfl,OQ hG hC.row hg,hC.fr.trans (OM hG Ck hg) (λ_ _ x=>x)⟩
  |11,ho=>
   obtain rfl:=bj ho
   refine cI.free rfl ?_;intro done a V hC cd cO ay aD;have x0:a.tmps[0]?.getD _=aj _:=bp (aD 0 (eX (by kernel_rfl)));exact cu.val (c:=aj _) (by clear ay aD cO hC;go_simp) (by rw[cr _ (show 5≠11 by decide),cr _ (show 10≠11 by decide),cr _ (show 15≠11 by decide)];exact hC) rfl
  |12,ho=>
   obtain rfl:=bj ho
   refine cI.free rfl ?_;intro done a V hC cd cO ay aD;have aas:a.tmps[19]?.getD _=aj _:=bp (ay _ 19 (bA (i:=0) rfl) rfl rfl);exact cu.val (c:=aj _) (by clear ay aD cO hC;go_simp) (by rw[cr _ (show 5≠12 by decide),cr _ (show 10≠12 by decide),cr _ (show 15≠12 by decide)];exact hC) rfl
  |13,ho=>
   obtain rfl:=bj ho
   refine cI.free rfl ?_;intro done a V hC cd cO ay aD;have aat:a.tmps[20]?.getD _=aj _:=bp (ay _ 20 (bA (i:=0) rfl) rfl rfl);exact cu.val (c:=aj _) (by clear ay aD cO hC;go_simp) (by rw[cr _ (show 5≠13 by decide),cr _ (show 10≠13 by decide),cr _ (show 15≠13 by decide)];exact hC) rfl
  |14,ho=>
   obtain rfl:=bj ho
   refine cI.free rfl ?_;intro done a V hC cd cO ay aD;have NL:a.tmps[21]?.getD _=aj _:=bp (ay _ 21 (bA (i:=0) rfl) rfl rfl);have c2:V.cell? ⟨b,2,I⟩=J (aj (J ⟨bf,0,I⟩)):=by simp[World.cell?,hC.row,H2.o]
   exact cu.val (c:=aj _) (by clear ay aD cO hC;go_simp) (by rw[cr _ (show 5≠14 by decide),cr _ (show 10≠14 by decide),cr _ (show 15≠14 by decide)];exact hC) rfl
  |15,ho=>
   obtain rfl:=bj ho
   refine cI.free rfl ?_;intro done a V hC cd cO ay aD;have NF:a.tmps[22]?.getD _=aj _:=bp (ay _ 22 (bA (i:=0) rfl) rfl rfl)
   refine cu.call (f:=277) (args:=#[aj (J ⟨bf,0,I⟩)]) (by clear ay aD cO hC;go_simp) ?_;rw[cd]at hC;obtain⟨m,n,D,fv,lv,h3,h4,h5,h6,h7⟩:=hC.jI.fl
   refine(aag h3).mono ?_;rintro v w1 ⟨rfl,hA,hg⟩
   refine⟨_,rfl,?_,λ_ _ _ h=>h,rfl⟩;rw[zC,cr _ (show 5≠15 by decide),cr _ (show 10≠15 by decide)];exact⟨hC.jI.xK h3 h4 h5 h6 h7 hg hA,OS h3 hC.row hg,hC.fr.trans (OO h3 h4 hg) (λ_ _ x=>x)⟩
  |16,ho=>
   obtain rfl:=bj ho
   refine cI.free rfl ?_;intro done a V hC cd cO ay aD;have Oo:a.tmps[13]?.getD _=aI _:=bp (ay _ 13 (bA (i:=0) rfl) rfl rfl);exact cu.val (c:=aI _) (by clear ay aD cO hC;go_simp) (by rw[cr _ (show 5≠16 by decide),cr _ (show 10≠16 by decide),cr _ (show 15≠16 by decide)];exact hC) rfl
  |17,ho=>
   obtain rfl:=bj ho
   refine cI.free rfl ?_;intro done a V hC cd cO ay aD;have OY:a.tmps[18]?.getD _=aI _:=bp (ay _ 18 (bA (i:=0) rfl) rfl rfl);exact cu.val (c:=aI _) (by clear ay aD cO hC;go_simp) (by rw[cr _ (show 5≠17 by decide),cr _ (show 10≠17 by decide),cr _ (show 15≠17 by decide)];exact hC) rfl
  |18,ho=>
   obtain rfl:=bj ho
   refine cI.free rfl ?_;intro done a V hC cd cO ay aD;have NK:a.tmps[23]?.getD _=aI _:=bp (ay _ 23 (bA (i:=0) rfl) rfl rfl);exact cu.val (c:=aI _) (by clear ay aD cO hC;go_simp) (by rw[cr _ (show 5≠18 by decide),cr _ (show 10≠18 by decide),cr _ (show 15≠18 by decide)];exact hC) rfl
  |n+19,ho=>simp at ho
 intro vals V hC hS;have HC:aa (qw F w V b ba bg bf e s.zero c):=by rw[<- aap];exact hC
 have v5:vals 16=aI _:=hS 16 (by decide);have v10:vals 17=aI _:=hS 17 (by decide);have v15:vals 18=aI _:=hS 18 (by decide);clear hC hS HW H0 H1 H2;simp only[fill,dz];go_simp
 have hk:∀x y z,s.a.well wh=x->s.g.bad=y->s.f.bad=z->s.kind wh=if x=false then 1 else if y=true then 2 else if z=true then 3 else 0:=λx y z h1 h2 h3=>by unfold eZ.kind Eh;rw[h1,h2,h3]
 have HK:aa _:=hk;clear hk v5 v10 v15
 cases q1:s.a.well wh
 ·have HR:aa (s.kind wh=1):=by show _=_;have:=HK.o _ _ _ q1 rfl rfl;simpa using this
  clear HK;go_wp2;go_ret;exact⟨by rw[HR.o];rfl,HC.o⟩
 cases q2:s.g.bad
 ·cases q3:s.f.bad
  ·have HR:aa (s.kind wh=0):=by show _=_;have:=HK.o _ _ _ q1 q2 q3;simpa using this
   clear HK;go_wp2;go_ret;exact⟨by rw[HR.o];rfl,HC.o⟩
  have HR:aa (s.kind wh=3):=by show _=_;have:=HK.o _ _ _ q1 q2 q3;simpa using this
  clear HK;go_wp2;go_ret;exact⟨by rw[HR.o];rfl,HC.o⟩
 have HR:aa (s.kind wh=2):=by show _=_;have:=HK.o _ _ _ q1 q2 rfl;simpa using this
 clear HK;go_wp2;go_ret;exact⟨by rw[HR.o];rfl,HC.o⟩
end
end Go.Proofs.YtgmfhkjghmdgiaaGreatDoor
