/-
  Several texts as one: CfRLines, CfRRead, ScNew, ScAgLaid, DcDec, ScLine, ScAgP, ScRun, ScHel, DcSmT, ScLaw, ScAgW, ScAgArg, CfArg, ScErA, ScPlP, DrCut, ScOnL, LcRep2, LcEnd, TmEnd, RefSl, Ref.
-/
import Derived.Test.YtgjlihibabmgcaaGreatDoorP08S
import Derived.Lay
import Derived.Laws.Concat
import Derived.Lib.SplitLaws
import Derived.Deep.MidRow
set_option linter.all false
set_option maxHeartbeats 40000000
set_option maxRecDepth 100000
abbrev o_:=@ByteArray.size_append
abbrev tq:=@ByteArray.data_append
abbrev yq.{u}:=@Array.toList_append.{u}
open Go renaming Addr→aC,Value→aw,World→ak
open Go.Addr renaming mk→ai
open Go.Ending renaming returned→ax
open Go.IntKind renaming i64→af
open Go.Obj renaming cells→ay
open Go.RowKit renaming Hid→U
open Go.Value renaming agg→bK,bool→aL,int→ae,ownBlock→dF,pointer→aq,slice→aj,string→aA,tuple→bn
open Go.World renaming cell?→aH,frozen?→bM,setCell→bN
open Option renaming none→I,some→J
open Go.Proofs.Tryz
namespace Go.Proofs.YtgjlihibabmgcaaGreatDoor
open Go.Extern Go.Extern.Stop Go.Maps Go.RowKit Go.Stop
variable{B b c cap fuel g i j k:Nat}{H:Type}{L:List Rec}{N:List Int}{V W w w':ak}{cs:Array aw}{es:List aM}{fi n:Int}{l s t wd:Bs}{ls:List Bs}{r:Option Nat}{sa:Option aC}{st:RS}{v:aw}
def o9.other{rb:Nat}{c:aX}{last:Int}{ev mv:aw}{cells:List aw}(h:o9 B rb w c last ev mv es cells)(hg:w.grownBy w' (J b)){fr:Nat×Nat}(hb:w.heap[b]?=J (ay cs 24 fr))(hne:rb≠b):o9 B rb w' c last ev mv es cells:=
 ⟨h.lo,(hg.block rb (bL h.row) (by simpa using hne)).trans h.row,h.az.kept hg (aN (ja h.az hb (ar rfl))),λi e he=>by
  obtain⟨x,a,b',d⟩:=h.olds i e he;exact⟨x,a.other hg hb (ar rfl) (ar rfl) (ar rfl) (ar rfl),b'.mono hg.size,d⟩⟩
def IK(R:(Nat×Int)×RS):aX:=if R.1.1=0 then R.2.cfg else fA
def aiS{look:lB}(h:(jx look st l).1≠0):eN look k st (l::ls)=(((jx look st l).1,(k:Int)),st):=by rw[eN,aK h]
def aiT{look:lB}(h:(jx look st l).1=0):eN look k st (l::ls)=eN look (k+1) (jx look st l).2 ls:=by rw[eN,aU h]
def IL(w:ak):∃B',gp B' w (aj I 0 0) fA.az:=⟨0,gp.nil _ _⟩
def IP:kJ fA:=⟨by decide,λe he=>by simp[fA]at he⟩
def UF{A:Nat->aC}{R:(Nat×Int)×RS}{fb:Nat}{k:Int}(hE:R=((j+1,k),st))(hj:j+1<=11)(hb:Below w.heap.size w W)(hrow:W.heap[fb]?=J (ay #[ae af k,cP A (j+1)] 119 (0,0))):∃c sv ev,Ending.returned (bn #[bK #[ae af 0,ae af 0,ae af 0,ae af 0,aj I 0 0],.iface 117 (aq (J (ai fb 0 I)))])=ax (bn #[bK #[ae af c.closed,ae af c.opn,ae af c.cycle,ae af c.bE,sv],ev])/\Below w.heap.size w W/\c=IK R/\(∃B',gp B' W sv c.az)/\mI A W ev R.1/\kJ c:=by
 subst hE
 refine⟨_,_,_,rfl,hb,by unfold IK;rw[aK (by simp)],IL _,⟨hj,aN ⟨by simp,fb,rfl,?_,?_⟩⟩,IP⟩
 ·unfold aH;simp only;rw[hrow];rfl
 unfold aH;simp only;rw[hrow];rfl
def aiU{w5:ak}{o:Obj}(cs:Array aw)(hb:Below w.heap.size w w5)(hlt:w.heap.size<w5.heap.size):Below w.heap.size w ((w5.alloc o).setRow w.heap.size cs)/\((w5.alloc o).setRow w.heap.size cs).heap[w5.heap.size]?=J o:=by
 have hg:=qm (w5.alloc o) w.heap.size cs;have b1:Below _ w (w5.alloc o):=hb.alloc (by omega) _;exact⟨b1.grown hg b1.size (λi hi=>by cases hi;exact aR _),(hg.block _ (by simp) (by simp;omega)).trans (cj w5 _)⟩
def Nv(h:V.heap[b]?=J (ay #[ae af 0,ae af 0,ae af 0,ae af 0,aj I 0 0] 24 (0,0))):((((V.setCell (ai b 0 I) (ae af 0)).setCell ⟨b,1,I⟩ (ae af 0)).setCell ⟨b,2,I⟩ (ae af 0)).setCell ⟨b,3,I⟩ (ae af 0)).setCell ⟨b,4,I⟩ (aj I 0 0)=V:=by
 rw[zR (o:=0) (by simp[aH,h]),zR (o:=1) (by simp[aH,h]),zR (o:=2) (by simp[aH,h]),zR (o:=3) (by simp[aH,h]),zR (o:=4) (by simp[aH,h])]
def aiV(A:Nat->aC)(w:ak)(sa:Option aC)(lines:List ByteArray)(sc:Nat)(hs:dG A w)(hK:jN w)(hM:pR w)(hL:bw ct 1 w (aj sa lines.length sc) lines)(hn:lines.length<=100000)(hz:∀l∈lines,l.size<=1000000):Calls prog 117 #[aj sa lines.length sc] w λv w'=>∃c sv ev,v=ax (bn #[bK #[ae af c.closed,ae af c.opn,ae af c.cycle,ae af c.bE,sv],ev])/\Below w.heap.size w w'/\c=IK (eN a_ 0 ⟨-1,fA⟩ (lines.map bl))/\(∃B',gp B' w' sv c.az)/\mI A w' ev (eN a_ 0 ⟨-1,fA⟩ (lines.map bl)).1/\kJ c:=by
 have HL:U (bw _ 1 w _ _):=hL;have HN:U (lines.length<=100000/\∀l∈lines,l.size<=1000000):=⟨hn,hz⟩;obtain⟨Wc,qL⟩:∃V,V=w.alloc (ay #[ae af 0,ae af 0,ae af 0,ae af 0,aj I 0 0] 24):=⟨_,rfl⟩;have kS:U (Below w.heap.size w Wc):=by show Below _ _ _;rw[qL];exact aS _ _
 have o7:U (Wc.heap.size=w.heap.size+1):=by show _=_;rw[qL];simp
 have UG:U (Wc.heap[w.heap.size]?=J (ay #[ae af 0,ae af 0,ae af 0,ae af 0,aj I 0 0] 24 (0,0))):=by show _=_;rw[qL];exact cj w _
 have HS:U (dG A Wc/\jN Wc/\pR Wc):=⟨hs.below kS.o,hK.below kS.o (jf (hK 0 (ar rfl))),hM.below kS.o⟩;change U _ at hs
 clear hK hM hL hn hz;go_enter func117,ntmps117
 go_upto_region 2 with fail
 rw[<- qL];obtain⟨Wr,IQ⟩:∃V,V=Wc.alloc (ay #[ae af 0,ae af 0,ae af 0,ae af 0,aj I 0 0,ae af (-1),.map I] 218):=⟨_,rfl⟩;rw[<- IQ];obtain⟨rb,lH⟩:∃rb,rb=w.heap.size+1:=⟨_,rfl⟩;have Nw:U (rb=Wc.heap.size/\rb≠w.heap.size):=⟨by rw[lH,o7.o],by omega⟩;have jG:U (Below Wc.heap.size Wc Wr):=by show Below _ _ _;rw[IQ];exact aS _ _
 have qY:U (jJ _ rb Wr fA _):=aT ⟨by rw[Nw.1];exact aR _,rfl,by rw[Nw.1,IQ];exact cj Wc _⟩;rw[<- lH];clear qL IQ lH;go_wp2_with fail
 go_loopw [11,5,6,7] (λi _ _ _ wr=>∃(k:Nat) (st:RS),k<=lines.length/\i=ae af k/\Below Wc.heap.size Wc wr/\jJ Wc.heap.size rb wr st.cfg st.last/\Ae k st.cfg st.last/\(∀e∈st.cfg.az,Fi e)/\eN a_ 0 ⟨-1,fA⟩ (lines.map bl)=eN a_ k st ((lines.drop k).map bl)) (λi _ _ _ _=>lines.length-(intOf i).toNat)
 case atStart=>exact⟨0,_,bA _,rfl,jG.o,qY.o,⟨λ_=>rfl,λh=>by simp at h,aR _,λe he=>by simp[fA]at he⟩,λe he=>by simp[fA]at he,rfl⟩
 case round=>
  clear jG qY;obtain⟨k,st,hk,rfl,(dQ:U _),UH,gj,hsm,yR⟩:=hrel;have HR:U (jJ _ rb wr _ _):=UH;have HO:U (Ae k _ _/\∀e∈st.cfg.az,Fi e):=⟨gj,hsm⟩;change U _ at yR
  clear UH gj hsm
  by_cases hlt:k<lines.length
  ·have k1:(k:Int)<(lines.length:Int):=by omega
   have k2:k<100000:=by have:=HN.1;omega
   obtain⟨l,hl⟩:∃l,lines[k]?=J l:=⟨_,bq hlt⟩;have jP:U _:=HN.2 l (bP hl);have Fg:U ((lines.drop k).map bl=bl l::(lines.drop (k+1)).map bl):=by
    show _=_
    rw[lX hlt];rw[bq hlt]at hl
    cases hl;rfl
   obtain⟨bQ,cap',bH,-,hcc⟩:=id HL.o
   cases bH
   obtain⟨g,o,rfl,hc0⟩:=hcc (λh=>by rw[h]at hl;simp at hl);have c0:wr.cell? ⟨g,o+k,I⟩=J (aA l):=by
    have:=aJ (kS.trans (dQ.mono kS.size)) (hc0 k _ hl 0 _ rfl);simpa using this
   clear hcc hc0 hl;go_wp2_with fail
   apply(ahl A Wc wr rb _ _ l HS.1 HS.2.1 HS.2.2 dQ.o HR.o jP.o ⟨HO.1.e0,HO.1.e3,bp HO.1.len (by omega),λe he=>(HO.1.sz e he).mono (by omega)⟩).mono;rintro v w5 ⟨rfl,(iU:U _),(y_:U _)⟩;clear c0 HR dQ
   cases nO:(jx a_ ⟨st.last,st.cfg⟩ (bl l)).1 with
   |zero=>
    change U _ at nO
    rw[show cP A 0=.nilIface from rfl];go_wp2
    go_roundw
    case rel=>
     have nV:(bl l).length<=1000000:=by have:=jP.o;have e:(bl l).length=l.size:=(by simp[bl]);omega
     obtain⟨s1,s2⟩:=aiP HO.1 HO.2 nV nO.o;exact⟨_,_,by omega,by go_num,iU.o,y_.o nO.o,s1,s2,by rw[yR.o,Fg.o,aiT nO.o]⟩
    case measure=>simp[intOf];omega
   |succ j=>
    have HC:U _:=nO;have HE:U (eN a_ 0 ⟨-1,fA⟩ (lines.map bl)=((j+1,(k:Int)),st)):=by
     show _=_
     rw[yR.o,Fg.o,aiS (by have:=HC.o;rw[this];simp),HC.o]
    have HJ:U (j+1<=11):=by show _<=_;have:=aiQ a_ ⟨st.last,st.cfg⟩ (bl l);rw[nO]at this;omega
    clear nO;have UI:=a8 iU.o UG.o;rw[show cP A _=.iface 357 _ from rfl];have d_:U (∀ob,(w5.alloc ob).heap[w.heap.size]?=J _):=λob=>a8 (aS _ _) UI
    clear UI;go_wp2_with (refine iQ rfl 24 _ _ rfl _ _ rfl rfl 24 _ (d_.o _) qI rfl (by simp[Value.oneCell']) ?_)
    refine dL (Aj rfl _ _ _ _ _ _ _ _ rfl (kj _ (d_.o _))) rfl ?_;have eB:=aiU (o:=ay #[ae af (k:Int),cP A (j+1)] 119) #[ae af 0,ae af 0,ae af 0,ae af 0,aj I 0 0] (kS.trans (iU.mono kS.size)) (by have:=iU.size;have:=o7.o;omega);exact UF HE.o HJ.o eB.1 eB.2
  have k1:¬(k:Int)<(lines.length:Int):=by omega
  obtain rfl:k=lines.length:=by omega
  have UJ:U (eN a_ 0 ⟨-1,fA⟩ (lines.map bl)=eN a_ lines.length st []):=by show _=_;have:=yR.o;rw[List.drop_length]at this;exact this
  obtain⟨ev,mv,cells,hA⟩:=HR.toA;have HA:U _:=hA;have hrow:=hA.row;have d_:U (∀V,Below _ wr V->V.heap[w.heap.size]?=J _):=λV hV=>a8 hV (a8 dQ.o UG.o)
  have r5:wr.cell? (ai rb 5 I)=J (ae af st.last):=by simp[aH,hrow,gK]
  by_cases hl2:st.last<2
  ·have HE:U (eN a_ 0 ⟨-1,fA⟩ (lines.map bl)=((1,(lines.length:Int)),st)):=by show _=_;rw[UJ.o,eN,aU hl2]
   have Cn:=(HS.1.below dQ.o).c0;clear hA hrow;have zz:=d_.o wr (aF _ _);have z0:wr.cell? (ai w.heap.size 0 I)=J (ae af 0):=by simp[aH,zz]
   have z1:wr.cell? (ai w.heap.size 1 I)=J (ae af 0):=by simp[aH,zz]
   have z2:wr.cell? (ai w.heap.size 2 I)=J (ae af 0):=by simp[aH,zz]
   have z3:wr.cell? (ai w.heap.size 3 I)=J (ae af 0):=by simp[aH,zz]
   have z4:wr.cell? (ai w.heap.size 4 I)=J (aj I 0 0):=by simp[aH,zz]
   have f0:wr.frozen? (ai w.heap.size 0 I)=false:=by simp[bM,zz]
   have f1:wr.frozen? (ai w.heap.size 1 I)=false:=by simp[bM,zz]
   have f2:wr.frozen? (ai w.heap.size 2 I)=false:=by simp[bM,zz]
   have f3:wr.frozen? (ai w.heap.size 3 I)=false:=by simp[bM,zz]
   have f4:wr.frozen? (ai w.heap.size 4 I)=false:=by simp[bM,zz]
   have IU:¬w.heap.size=6:=by
    have h1:=jf hs.c0;have h2:6<w.heap.size:=h1;omega
   have Nx:¬6=w.heap.size:=λe=>IU e.symm
   have y0:∀ob,(wr.alloc ob).cell? ⟨w.heap.size,0,I⟩=J (ae af 0):=λob=>by simp[aH,d_.o _ (aS wr ob)]
   have g0:∀ob,(wr.alloc ob).frozen? ⟨w.heap.size,0,I⟩=false:=λob=>by simp[bM,d_.o _ (aS wr ob)]
   have y1:∀ob,(wr.alloc ob).cell? ⟨w.heap.size,1,I⟩=J (ae af 0):=λob=>by simp[aH,d_.o _ (aS wr ob)]
   have g1:∀ob,(wr.alloc ob).frozen? ⟨w.heap.size,1,I⟩=false:=λob=>by simp[bM,d_.o _ (aS wr ob)]
   have y2:∀ob,(wr.alloc ob).cell? ⟨w.heap.size,2,I⟩=J (ae af 0):=λob=>by simp[aH,d_.o _ (aS wr ob)]
   have g2:∀ob,(wr.alloc ob).frozen? ⟨w.heap.size,2,I⟩=false:=λob=>by simp[bM,d_.o _ (aS wr ob)]
   have y3:∀ob,(wr.alloc ob).cell? ⟨w.heap.size,3,I⟩=J (ae af 0):=λob=>by simp[aH,d_.o _ (aS wr ob)]
   have g3:∀ob,(wr.alloc ob).frozen? ⟨w.heap.size,3,I⟩=false:=λob=>by simp[bM,d_.o _ (aS wr ob)]
   have y4:∀ob,(wr.alloc ob).cell? ⟨w.heap.size,4,I⟩=J (aj I 0 0):=λob=>by simp[aH,d_.o _ (aS wr ob)]
   have g4:∀ob,(wr.alloc ob).frozen? ⟨w.heap.size,4,I⟩=false:=λob=>by simp[bM,d_.o _ (aS wr ob)]
   clear zz;go_wp2_with fail
   go_region
   all_goals
    clear y0 y1 y2 y3 y4 g0 g1 g2 g3 g4 z0 z1 z2 z3 z4 f0 f1 f2 f3 f4 IU Nx Cn r5
    first|rw[Nv (d_.o _ (aS _ _))]|rw[Nv (d_.o _ (aF _ _))]
    go_wp2
    refine dL (Aj rfl _ _ _ _ _ _ _ _ rfl (d_.o _ (aS _ _).drew)) rfl ?_;have b1:=kS.trans (dQ.mono kS.size);exact UF HE.o (ar rfl) (b1.trans (((aS wr _).drew).mono b1.size)) (cj wr _)
  have HE:U (eN a_ 0 ⟨-1,fA⟩ (lines.map bl)=((0,-1),st)):=by show _=_;rw[UJ.o,eN,aK hl2]
  have r0:wr.cell? (ai rb 0 I)=J (ae af st.cfg.closed):=by simp[aH,hrow,gK]
  have r1:wr.cell? (ai rb 1 I)=J (ae af st.cfg.opn):=by simp[aH,hrow,gK]
  have r2:wr.cell? (ai rb 2 I)=J (ae af st.cfg.cycle):=by simp[aH,hrow,gK]
  have r3:wr.cell? (ai rb 3 I)=J (ae af st.cfg.bE):=by simp[aH,hrow,gK]
  have r4:wr.cell? (ai rb 4 I)=J ev:=by simp[aH,hrow,gK]
  obtain⟨va,vc,rfl⟩:=zZ hA.az;clear hA hrow;go_wp2_with (refine iQ rfl 24 _ _ rfl _ _ rfl rfl 24 _ (d_.o _ (aF _ _)) qI rfl (by simp[Value.oneCell']) ?_)
  refine dL (Aj rfl _ _ _ _ _ _ _ _ rfl (kj _ (d_.o _ (aF _ _)))) rfl ?_
  refine⟨_,_,_,rfl,?_,by rw[HE.o];rfl,?_,by rw[HE.o];exact⟨by simp,aT ⟨rfl,rfl⟩⟩,⟨bp HO.1.len (by have:=HN.1;omega),λe he=>?_⟩⟩
  ·have b1:=kS.trans (dQ.mono kS.size);exact b1.grown (qm ..) b1.size (λj hj=>by cases hj;exact aR _)
  ·exact⟨_,(HA.other (qm ..) (d_.o _ (aF _ _)) Nw.2).aiR⟩
  obtain⟨a,b⟩:=HO.2 e he;have sz:=(HO.1.sz e he).mono (m:=1000000) (by have:=HN.1;omega);exact⟨a,sz.p,b,sz.g,sz.d,sz.f,sz.l⟩
def aiW(l:List UInt8):Lib.trimSuffix l [10]=trim l:=by
 unfold Lib.trimSuffix trim;have hs:Lib.hasSuffix l [10]=true↔l.getLast?=J 10:=by
  unfold Lib.hasSuffix;rw[List.isSuffixOf_iff_suffix]
  constructor
  ·rintro⟨t,rfl⟩;simp
  intro h;have hne:l≠[]:=λe=>by subst e;simp at h
  rw[List.getLast?_eq_some_getLast hne]at h;have e2:=List.dropLast_concat_getLast hne;rw[fg h]at e2;exact⟨_,e2⟩
 by_cases h:l.getLast?=J 10
 ·rw[aU h,aU (hs.2 h)];rw[List.dropLast_eq_take];rfl
 rw[aK h,aK (λe=>h (hs.1 e))]
def aiX(s sep:ByteArray)(EO:sep.data.toList=[10]):(Lib.splitB sep 0 (Lib.countB s sep) s).map bl=eJ 10 (bl s)/\(Lib.splitB sep 0 (Lib.countB s sep) s).length=Lib.countB s sep+1:=
 ⟨Rg 10 s sep EO,Lib.splitB_all sep (by rw[<- ByteArray.size_data,<- pj,EO];decide) 0 _ s rfl⟩
def Ny{T:TypeId}{fr:Nat×Nat}(h:w.heap[b]?=J (ay cs T fr)):w.setRow b cs=w:=by
 have hh:(w.setRow b cs).heap=w.heap:=by
  apply Array.ext_getElem?
  intro i
  by_cases e:i=b
  ·subst e;rw[kj cs h,h]
  simp only[World.setRow,cL];rw[aK (λe2=>e e2.symm)]
 cases w
 simp only[World.setRow]at hh⊢;rw[hh]
def aiY(A:Nat->aC)(s:ByteArray)(w:ak)(hs:dG A w)(hK:jN w)(hM:pR w)(hn:s.size<=9223372036854775807):Calls prog 57 #[aA s] w λv w'=>∃c sv ev,v=ax (bn #[bK #[ae af c.closed,ae af c.opn,ae af c.cycle,ae af c.bE,sv],ev])/\Below w.heap.size w w'/\c=(gD a_ (bl s)).2/\(∃B',gp B' w' sv c.az)/\mI A w' ev (gD a_ (bl s)).1/\kJ c:=by
 have hbl:(bl s).length=s.size:=by simp[bl]
 obtain⟨Wc,qL⟩:∃V,V=w.alloc (ay #[ae af 0,ae af 0,ae af 0,ae af 0,aj I 0 0] 24):=⟨_,rfl⟩;have kS:U (Below w.heap.size w Wc):=by show Below _ _ _;rw[qL];exact aS _ _
 have o7:U (Wc.heap.size=w.heap.size+1):=by show _=_;rw[qL];simp
 have d_:U (∀V,Below _ Wc V->V.heap[w.heap.size]?=J _):=λV hV=>a8 hV (by rw[qL];exact cj w _)
 have HS:U (dG A Wc/\jN Wc/\pR Wc):=⟨hs.below kS,hK.below kS (jf (hK 0 (ar rfl))),hM.below kS⟩;have hg1:0<w.heap.size:=jf hs.c1
 by_cases hl:8000<s.size
 ·have HE:U (gD a_ (bl s)=((2,-1),fA)):=by show _=_;unfold gD;rw[aU (by omega)]
  have l1:(8000:Int)<(s.size:Int):=by omega
  have Cn:=HS.1.c1;have zz:=d_ Wc (aF _ _);have IU:¬w.heap.size=0:=by omega
  have Nx:¬0=w.heap.size:=by omega
  have z0:Wc.cell? (ai w.heap.size 0 I)=J (ae af 0):=by simp[aH,zz]
  have f0:Wc.frozen? (ai w.heap.size 0 I)=false:=by simp[bM,zz]
  have z1:Wc.cell? (ai w.heap.size 1 I)=J (ae af 0):=by simp[aH,zz]
  have f1:Wc.frozen? (ai w.heap.size 1 I)=false:=by simp[bM,zz]
  have z2:Wc.cell? (ai w.heap.size 2 I)=J (ae af 0):=by simp[aH,zz]
  have f2:Wc.frozen? (ai w.heap.size 2 I)=false:=by simp[bM,zz]
  have z3:Wc.cell? (ai w.heap.size 3 I)=J (ae af 0):=by simp[aH,zz]
  have f3:Wc.frozen? (ai w.heap.size 3 I)=false:=by simp[bM,zz]
  have z4:Wc.cell? (ai w.heap.size 4 I)=J (aj I 0 0):=by simp[aH,zz]
  have f4:Wc.frozen? (ai w.heap.size 4 I)=false:=by simp[bM,zz]
  clear zz hg1 hs hK hM;go_enter func57,ntmps57
  go_upto_region 1 with fail
  rw[<- qL];clear qL;go_wp2_with fail
  go_region
  all_goals
   clear z0 z1 z2 z3 z4 f0 f1 f2 f3 f4 IU Nx Cn;rw[Nv (d_.o _ (aF _ _))];go_wp2
   refine dL (Aj rfl _ _ _ _ _ _ _ _ rfl (d_ _ (aF _ _).drew)) rfl ?_
   refine⟨_,_,_,rfl,kS.drew,by rw[HE.o],IL _,by rw[HE.o];exact⟨by simp,aT ⟨rfl,rfl⟩⟩,IP⟩
 obtain⟨st,hst⟩:∃st:ByteArray,st=⟨(Lib.trimSuffix s.data.toList [10]).toArray⟩:=⟨_,rfl⟩;have qG:bl st=trim (bl s):=by rw[hst,rS,aiW];rfl
 obtain⟨lines,Nz⟩:∃L,L=Lib.splitB ⟨#[10]⟩ 0 (Lib.countB st ⟨#[10]⟩) st:=⟨_,rfl⟩;obtain⟨e1,e2⟩:=aiX st ⟨#[10]⟩ rfl;rw[<- Nz]at e1 e2;have sW:(trim (bl s)).length<=8000:=by
  unfold trim
  split
  ·simp;omega
  omega
 have aiZ:st.size<=8000:=by
  have:(bl st).length=st.size:=by simp[bl]
  rw[qG]at this;omega
 have HT:U (Calls prog 119 #[aA s,aA ⟨#[10]⟩] Wc λe w'=>e=ax (aA st)/\w'=Wc):=by
  rw[hst];exact strings_TrimSuffix s _ Wc hn
 have yh:U (Calls prog 118 #[aA st,aA ⟨#[10]⟩] Wc λe w'=>e=ax (aj (J (ai Wc.heap.size 0 I)) lines.length lines.length)/\w'=Wc.alloc (ay (lines.map Value.string).toArray 9)):=by
  have:=M0 st ⟨#[10]⟩ Wc HS.2.2 (by omega) (ar rfl);rw[<- Nz,<- e2]at this;exact this
 have sD:U (∀w1,Below _ Wc w1->w1.heap[Wc.heap.size]?=J (ay (lines.map Value.string).toArray 9 (0,0))->Calls _ 117 _ w1 _):=λw1 hb hrow=>aiV A w1 _ _ lines.length (HS.1.below hb) (HS.2.1.below hb (jf (HS.2.1 0 (ar rfl)))) (HS.2.2.below hb) ⟨_,_,rfl,aR _,λ_=>⟨Wc.heap.size,0,rfl,λi x hx j u hu=>by
  match j,hu with
  |0,hu=>
   simp[ct]at hu
   subst hu;simp[aH,hrow,hx]
  |j+1,hu=>simp[ct]at hu⟩⟩ (by
   have h1:=(ER 10 (trim (bl s))).2;rw[<- qG,<- e1,iE,qG]at h1;omega) (λl hl=>by
   have h1:=Ip 10 _ _ (by rw[<- e1];exact List.mem_map_of_mem (f:=bl) hl);have h2:(bl l).length=l.size:=by simp[bl]
   rw[qG]at h1;omega)
 have iJ:U (gD a_ (bl s)=if (eN a_ 0 ⟨-1,fA⟩ (lines.map bl)).1.1=0 then (if (cJ (eN a_ 0 ⟨-1,fA⟩ (lines.map bl)).2.cfg).1=0 then ((0,-1),(eN a_ 0 ⟨-1,fA⟩ (lines.map bl)).2.cfg)else (cJ (eN a_ 0 ⟨-1,fA⟩ (lines.map bl)).2.cfg,fA))else ((eN a_ 0 ⟨-1,fA⟩ (lines.map bl)).1,fA)):=by
  show _=_
  unfold gD;rw[aK (by omega),e1,qG]
 have l1:¬(8000:Int)<(s.size:Int):=by omega
 clear hs hK hM hg1 hst qG Nz e1 e2 sW aiZ hbl;go_enter func57,ntmps57
 go_upto_region 1 with fail
 rw[<- qL];clear qL;go_wp2_with fail
 refine aO HT.o ?_;rintro v w1 ⟨rfl,iF⟩
 cases iF
 go_wp2_with fail
 refine aO yh.o ?_;rintro v w1 ⟨rfl,iF⟩;have bu:U (Below Wc.heap.size Wc w1):=by show Below _ _ _;rw[iF];exact aS _ _
 have dx:U (w1.heap[Wc.heap.size]?=J (ay (lines.map Value.string).toArray 9 (0,0))):=by show _=_;rw[iF];exact cj Wc _
 clear iF HT yh;go_wp2_with fail
 refine aO (sD.o w1 bu dx) ?_;rintro v w2 ⟨c,sv,ev,rfl,hb2,hc,hE,EU,Ak⟩;obtain⟨B',hE⟩:=hE;obtain⟨va,vc,rfl,-⟩:=id hE.az;have cB:U _:=bu.trans (hb2.mono bu.size);change U _ at hc
 have HE:U (gp B' w2 _ _/\kJ c):=⟨hE,Ak⟩;have IV:U (mI A w2 ev _):=EU;clear hb2 hE EU Ak sD bu dx
 by_cases h0:(eN a_ 0 ⟨-1,fA⟩ (lines.map bl)).1.1=0
 ·have ud:=IV.nil h0;subst ud;have ai0:U (c=(eN a_ 0 ⟨-1,fA⟩ (lines.map bl)).2.cfg):=by show _=_;rw[hc.o];unfold IK;rw[aU h0]
  have Al:U (gD a_ (bl s)=if (cJ c).1=0 then ((0,-1),c)else (cJ c,fA)):=by show _=_;rw[iJ.o,aU h0,ai0.o]
  clear h0 IV iJ;obtain⟨V,hV⟩:∃V,V=w2.alloc (ay (cR c va vc) 24):=⟨_,rfl⟩;have nY:U (Below Wc.heap.size Wc V):=by show Below _ _ _;rw[hV];exact cB.trans ((aS _ _).mono cB.size)
  have Fk:U (∀X,Below _ V X->X.heap[w2.heap.size]?=J _):=λX hX=>a8 hX (by rw[hV];exact cj w2 _)
  have UK:U (gp B' V (aj va c.az.length vc) c.az):=by show gp _ _ _ _;rw[hV];exact HE.1.below (aS _ _)
  go_upto_region 5 with fail
  rw[<- hV];clear hV;go_wp2_with (refine pB rfl 24 _ rfl _ rfl _ _ _ _ (Fk _ (aF _ _)) underlying24 rfl qI ?_)
  apply(Tj A c va vc V (HS.1.below nY) UK.az HE.2).mono;rintro v w4 ⟨r,rfl,he,hb4⟩;have yr:U _:=nY.trans (hb4.mono nY.size);have Fl:U (mI A w4 r _):=he;clear he;change U _ at hb4
  by_cases h1:(cJ c).1=0
  ·have hr:=Fl.nil h1;subst hr;have Fm:U (gD a_ (bl s)=((0,-1),c)):=by show _=_;rw[Al.o,aU h1]
   clear h1 Al;go_wp2_with (first|(refine pB rfl 24 _ rfl _ rfl _ _ _ _ (Fk _ hb4) underlying24 rfl qI ?_)|(refine iQ rfl 24 _ _ rfl _ _ rfl rfl 24 _ (d_ _ yr) qI rfl (by simp[Value.oneCell']) ?_))
   refine dL (Aj rfl _ _ _ _ _ _ _ _ rfl (kj _ (d_ _ yr))) rfl ?_;have b1:=kS.trans (yr.mono kS.size)
   refine⟨c,_,_,rfl,b1.grown (qm ..) b1.size (λj hj=>by cases hj;exact aR _),by rw[Fm.o],⟨B',(UK.below hb4).other (qm ..) (d_ _ yr)⟩,by rw[Fm.o];exact⟨by simp,aT ⟨rfl,rfl⟩⟩,HE.2⟩
  obtain⟨et,ex,he⟩:=Fl.some h1;subst he;have Fm:U (gD a_ (bl s)=(cJ c,fA)):=by show _=_;rw[Al.o,aK h1]
  clear h1 Al;go_wp2_with (refine iQ rfl 24 _ _ rfl _ _ rfl rfl 24 _ (d_ _ yr) qI rfl (by simp[Value.oneCell']) ?_)
  rw[Ny (d_.o _ yr.o)]
  refine dL (Aj rfl _ _ _ _ _ _ _ _ rfl (d_ _ yr)) rfl ?_;exact⟨_,_,_,rfl,kS.trans (yr.mono kS.size),by rw[Fm.o],IL _,by rw[Fm.o];exact Fl,IP⟩
 obtain⟨et,ex,he⟩:=IV.some h0;subst he;have Al:U (gD a_ (bl s)=((eN a_ 0 ⟨-1,fA⟩ (lines.map bl)).1,fA)):=by show _=_;rw[iJ.o,aK h0]
 clear h0;go_wp2_with (refine iQ rfl 24 _ _ rfl _ _ rfl rfl 24 _ (d_ _ (cB.trans ((aS _ _).mono cB.size))) qI rfl (by simp[Value.oneCell']) ?_)
 rw[Ny (d_.o _ (cB.trans ((aS _ _).mono cB.size)))]
 refine dL (Aj rfl _ _ _ _ _ _ _ _ rfl (d_ _ (cB.trans ((aS _ _).mono cB.size)))) rfl ?_;have b1:=kS.trans (cB.mono kS.size);exact⟨_,_,_,rfl,b1.trans ((aS _ _).mono b1.size),by rw[Al.o],IL _,by rw[Al.o];exact IV.below (aS _ _),IP⟩
def ai1{look:lB}(h:(gD look s).1.1=0):(cJ (gD look s).2).1=0:=by
 unfold gD at h⊢
 split
 ·rename_i h8;rw[aU h8]at h;simp at h
 rename_i h8;rw[aK h8]at h
 split
 ·rename_i h0;rw[aU h0]at h
  split
  ·rename_i h1;exact h1
  rename_i h1;rw[aK h1]at h;exact absurd h h1
 rename_i h0;rw[aK h0]at h;exact absurd h h0
def IW:(prog.info? 101).map (·.size)=J 7:=by kernel_rfl
def UL{fn:Func}{p u:Tmp}(h:fn.results=#[.cell p 101,.tmp u])(tmps:Array aw)(w:ak)(g:Nat)(a b c d e f x:aw)
  (hp:tmps.getD p undef=aq (J (ai g 0 I))) (hg:w.heap[g]?=J (ay #[a,b,c,d,e,f,x] 101 (0,0))):(results fn tmps).run prog w=.ok (bn #[bK #[a,b,c,d,e,f,x],tmps.getD u undef]) w:=by
 rw[results_cell_tmp h,hp];simp[asAddr,run_loadVar_row w g _ 101 #[a,b,c,d,e,f,x] _ _ hg underlying101 rfl IW]
def gp.ai2(h:gp B w v es)(hg:w.grownBy w' (J b)){c:Array aw}{fr:Nat×Nat}(hb:w.heap[b]?=J (ay c 101 fr)):gp B w' v es:=by
 obtain⟨cells,ho,hp⟩:=h;have hne:v.ownBlock≠J b:=by
  rcases ho.2 with⟨rfl,_⟩|⟨g,cap,cur,rfl,_,cM,_⟩
  ·simp[dF]
  intro e;simp only[dF,dJ]at e;subst e;rw[cM]at hb;simp only[dJ,kY]at hb;exact absurd hb.2.1 (ar rfl)
 refine⟨_,ho.kept hg (aN hne),λi e he=>?_⟩;obtain⟨pv,gv,ev,fv,lv,h1,h2⟩:=hp i e he;exact⟨pv,gv,ev,fv,lv,⟨h1.hp.other hg hb (ar rfl),h1.hg.other hg hb (ar rfl),h1.he.other hg hb (ar rfl),h1.hf.other hg hb (ar rfl),h1.hl.other hg hb (ar rfl)⟩,h2⟩
structure wu(A:Nat->aC)(w:ak):Prop where
 sk:fI A w
 six:dG A w
 kw:jN w
 tab:iR w
 mx:pR w
 IH:vF w
 gb:(max 8 11+1)<=w.heap.size
section
variable {A:Nat->aC}{H:Nat->Nat->Prop}{F:Nat->Prop}{w0 yt w w':ak}{c:aX}{kb bc bd rb bt:Nat}{lv:aw}{bs:List Nat}{K:aD}
def wu.below(h:wu A w)(hb:Below w.heap.size w w'):wu A w':=⟨h.sk.below hb,h.six.below hb,h.kw.below hb (jf (h.kw 0 (by decide))),h.tab.below hb h.gb,h.mx.below hb,h.IH.below hb,bp h.gb hb.size⟩
def bS.turn(h:bS H w0 w c kb bc bd rb bt lv bs K)(hz:yt.heap.size=w0.heap.size)(ho:aG (λk=>k<w0.heap.size) w w')(hb:Below yt.heap.size yt w'):bS H yt w' c kb bc bd rb bt lv bs K:=by
 have hS:=λi k hk=>Nat.not_lt.2 (h.bO.lo i k hk)
 have hs:=λi k hk=>ho.block k (h.bO.lt i k hk) (hS i k hk)
 exact⟨by rw[hz];exact h.bO.grow ho.size,(hs 0 kb h.hk).trans h.row,h.hk,by rw[hz];exact bI.same h.own (λg hg=>hs 1 g (h.hl g hg)),h.hl,by rw[hz];exact h.ring.off ho (λk hk=>hS 2 k hk),h.dog.off ho (hS 3 bd h.hd),h.hd,(hs 4 bt h.ht).trans h.ij,h.ht,
  λi b e s h1 h2 h3=>(h.loc i b e s h1 h2 h3).same (hs _) ho.size,h.dY,h.dB,hb⟩
def eZ.turn(h:eZ F w0 w c kb bc K)(hz:yt.heap.size=w0.heap.size)(ho:aG (λk=>k<w0.heap.size) w w')(hb:Below yt.heap.size yt w'):eZ F yt w' c kb bc K:=by
 obtain⟨H,bd,rb,bt,lv,bs,h1,h2⟩:=h;exact⟨H,bd,rb,bt,lv,bs,h1.turn hz ho hb,h2⟩
end
def ai3(A:Nat->aC)(w:ak)(c:aX)(e:Ending)(w':ak):Prop:=
 ∃sa sc w0 F kb bc,e=ax (bn #[.agg (fN c kb bc (aj sa c.az.length sc)),.nilIface])/\Fh A w0 c sa sc/\eZ F w0 w' c kb bc (aD.new c (aI.new 4096))/\(∀k,F k->w0.heap.size<=k/\k<w'.heap.size)/\Below w.heap.size w w0
def ai4(A:Nat->aC)(w:ak)(s:Bs)(e:Ending)(w':ak):Prop:=
 ((gD a_ s).1.1≠0->Below w.heap.size w w'/\∃ev,e=ax (bn #[bK #[aq I,aq I,ae af 0,ae af 0,ae af 0,ae af 0,aj I 0 0],ev])/\mI A w' ev (gD a_ s).1)/\((gD a_ s).1.1=0->ai3 A w (gD a_ s).2 e w')
def ai5(A:Nat->aC)(s:ByteArray)(w:ak)(h:wu A w)(hn:s.size<=9223372036854775807):Calls prog 36 #[aA s] w λe w'=>ai4 A w (bl s) e w':=by
 obtain⟨W0,hW0⟩:∃V,V=w.alloc (ay #[aq I,aq I,ae af 0,ae af 0,ae af 0,ae af 0,aj I 0 0] 101):=⟨_,rfl⟩;have hb0:Below w.heap.size w W0:=by rw[hW0];exact aS _ _
 have UM:W0.heap[w.heap.size]?=J (ay #[aq I,aq I,ae af 0,ae af 0,ae af 0,ae af 0,aj I 0 0] 101 (0,0)):=by rw[hW0];exact cj w _
 have d_:U (∀V,Below _ W0 V->V.heap[w.heap.size]?=J _):=λV hV=>a8 hV UM
 have Cx:=h.below hb0;have sD:U _:=aiY A s W0 Cx.six Cx.kw Cx.mx hn;change U _ at hb0
 clear hn UM Cx;change U _ at h;go_enter func36,ntmps36
 go_upto_region 1 with fail
 rw[<- hW0];clear hW0;go_wp2_with fail
 refine aO sD.o ?_;rintro v w1 ⟨c,sv,ev,rfl,hb1,hc,⟨B',IX⟩,wF,hsm⟩;obtain⟨sa,sc,rfl,-⟩:=id IX.az;have bu:U _:=hb1;obtain⟨v1,lS⟩:∃V,V=w1.alloc (ay (cR c sa sc) 24):=⟨_,rfl⟩;have nD:Below w1.heap.size w1 v1:=by rw[lS];exact aS _ _
 have cT:U _:=hb1.trans (nD.mono hb1.size);have Fk:U (∀X,Below _ v1 X->X.heap[w1.heap.size]?=J _):=λX hX=>a8 hX (by rw[lS];exact cj w1 _)
 by_cases h0:(gD a_ (bl s)).1.1=0
 ·have ud:=wF.nil h0;subst ud;have gj:=ai1 h0;rw[<- hc]at gj;have xx:U (gp B' v1 _ _):=IX.below nD;have eG:U (kJ c/\(cJ c).1=0/\c=(gD _ _).2/\(gD _ _).1.1=0):=⟨hsm,gj,hc,h0⟩;have HN:U (Calls _ 58 #[ae af 4096] v1 λe w'=>e=ax _/\Below _ v1 w'/\bU w' _ _/\w'.heap.size=v1.heap.size+1):=Yo 4096 v1 (aR _);clear h0 gj hc hsm wF IX hb1 nD;go_upto_region 2 with fail
  rw[<- lS];clear lS;go_wp2_with fail
  refine aO HN.o ?_;rintro u w2 ⟨rfl,hb2,hc2,-⟩;have UN:U (Calls _ 59 _ w2 λu w'=>M9 v1 w2 c _ _ u w'):=
   ahP (A:=A) sa sc ((h.below (hb0.trans (cT.mono hb0.size))).sk) (Nf eG.2.1) eG.2.1 (xx.az.below hb2) eG.1 hc2 (aR _) hb2 (ar rfl) rfl
  clear hc2 HN;change U _ at hb2;go_wp2_with (refine pB rfl 24 _ rfl _ rfl _ _ _ _ (Fk _ hb2) underlying24 rfl qI ?_)
  refine aO UN.o ?_;rintro u w3 ⟨kb,F,rfl,hat,hb3,hF⟩;have fC:U _:=hb2.trans (hb3.mono hb2.size);change U _ at hat hF
  have HZ:U _:=hb2.size;clear hb3 UN;have rz:U _:=cT.trans (fC.mono cT.size);go_wp2_with (first|(refine pB rfl 24 _ rfl _ rfl _ _ _ _ (Fk _ fC) underlying24 rfl qI ?_)|(refine iQ rfl 101 _ _ rfl _ (fN c kb _ _) rfl rfl 101 _ (d_ _ rz) IW rfl (by simp[Value.oneCell',fN]) ?_))
  refine dL (UL rfl _ _ _ _ _ _ _ _ _ _ rfl (kj _ (d_ _ rz))) rfl ?_
  refine⟨λe=>absurd eG.2.2.2 e,λ_=>?_⟩;have r6:=d_ v1 cT;have hlt:=bL r6;have cA:=hb0.trans (cT.mono hb0.size);have UO:Below _ w (v1.setRow _ (fN c kb v1.heap.size (aj sa c.az.length sc))):=cA.grown (qm ..) cA.size (λj hj=>by cases hj;exact aR _);have hz:(v1.setRow w.heap.size (fN c kb v1.heap.size (aj sa c.az.length sc))).heap.size=v1.heap.size:=by simp[World.setRow]
  have hz3:(w3.setRow w.heap.size (fN c kb v1.heap.size (aj sa c.az.length sc))).heap.size=w3.heap.size:=by simp[World.setRow]
  have Am:=h.below UO;rw[<- eG.2.2.1]
  refine⟨sa,sc,_,F,kb,_,rfl,⟨Am.sk,Am.six,Am.kw,Am.tab,Am.mx,Am.IH,Am.gb,(xx.ai2 (qm ..) r6).az,eG.1,eG.2.1,Nf eG.2.1⟩,eZ.turn hat hz ?_ ?_,λk hk=>?_,UO⟩
  ·have hg:=qm w3 w.heap.size (fN c kb v1.heap.size (aj sa c.az.length sc));exact⟨hg.os,hg.tape,hg.output,hg.size,λk hk hn=>hg.block k hk (λe=>hn (by cases e;exact hlt))⟩
  ·refine⟨fC.os,fC.tape,fC.output,by rw[hz,hz3];exact fC.size,λk hk=>?_⟩;rw[hz]at hk;have hk3:=fC.block k hk
   by_cases e:k=w.heap.size
   ·subst e;rw[kj _ (d_.o _ rz.o),kj _ r6]
   simp only[World.setRow,cL];rw[aK (λe2=>e e2.symm),aK (λe2=>e e2.symm)];exact hk3
  rw[hz,hz3];have h5:=hF k hk
  refine⟨?_,h5.2⟩
  rcases h5.1 with e|e
  ·omega
  exact bp HZ.o e
 obtain⟨et,ex,he⟩:=wF.some h0;subst he;have ai6:U (¬(gD _ _).1.1=0):=h0;have Fl:U _:=wF.below nD;clear h0 hc hsm wF IX hb1 nD;go_upto_region 2 with fail
 rw[<- lS];clear lS;go_wp2_with (refine iQ rfl 101 _ _ rfl _ _ rfl rfl 101 _ (d_ _ cT) IW rfl (by simp[Value.oneCell']) ?_)
 rw[Ny (d_.o _ cT.o)]
 refine dL (UL rfl _ _ _ _ _ _ _ _ _ _ rfl (d_ _ cT)) rfl ?_;exact⟨λ_=>⟨hb0.trans (cT.mono hb0.size),_,rfl,Fl⟩,λe=>absurd e ai6⟩
open Go.ChangeShapes
def yu:List (String×List UInt8):=Yk ++ [("nightwatch/api.ErrFull", [110, 105, 103, 104, 116, 119, 97, 116, 99, 104, 58, 32, 102, 117, 108, 108]), ("nightwatch/api.ErrOff", [110, 105, 103, 104, 116, 119, 97, 116, 99, 104, 58, 32, 111, 102, 102]), ("nightwatch/api.ErrIdle", [110, 105, 103, 104, 116, 119, 97, 116, 99, 104, 58, 32, 105, 100, 108, 101]), ("nightwatch/api.ErrHeld", [110, 105, 103, 104, 116, 119, 97, 116, 99, 104, 58, 32, 104, 101, 108, 100]), ("nightwatch/api.ErrReset", [110, 105, 103, 104, 116, 119, 97, 116, 99, 104, 58, 32, 114, 101, 115, 101, 116]), ("strconv.ErrRange", [118, 97, 108, 117, 101, 32, 111, 117, 116, 32, 111, 102, 32, 114, 97, 110, 103, 101]), ("strconv.ErrSyntax", [105, 110, 118, 97, 108, 105, 100, 32, 115, 121, 110, 116, 97, 120])]
def IY(i:Nat):Bs:=(yu.getD (i-1) ("", [])).2
def g6:prog.globalNamed "nightwatch/api.ErrFull" = J 13:=by kernel_rfl
def g7:prog.globalNamed "nightwatch/api.ErrOff" = J 4:=by kernel_rfl
def g8:prog.globalNamed "nightwatch/api.ErrIdle" = J 9:=by kernel_rfl
def g9:prog.globalNamed "nightwatch/api.ErrHeld" = J 5:=by kernel_rfl
def g10:prog.globalNamed "nightwatch/api.ErrReset" = J 10:=by kernel_rfl
def ai7:prog.globalNamed "strconv.ErrSyntax" = J 18:=by kernel_rfl
def ai8:(yu.map λx=>(prog.globalNamed x.1).bind λg=>(prog.globals[g]?).map (·.type))=List.replicate 13 (J 32):=by kernel_rfl
def wG:List (String×DataW Unit):=[("math/bits.deBruijn32tab", Rows.laid_math_bits_deBruijn32tab), ("math/bits.deBruijn64tab", Rows.laid_math_bits_deBruijn64tab), ("internal/strconv.uint64pow10", Rows.laid_internal_strconv_uint64pow10), ("unicode/utf8.acceptRanges", Rows.laid_unicode_utf8_acceptRanges), ("nightwatch/api.ErrText", Rows.laid_nightwatch_api_ErrText), ("nightwatch/api.ErrBound", Rows.laid_nightwatch_api_ErrBound), ("nightwatch/api.ErrShape", Rows.laid_nightwatch_api_ErrShape), ("nightwatch/api.ErrName", Rows.laid_nightwatch_api_ErrName), ("nightwatch/api.ErrNone", Rows.laid_nightwatch_api_ErrNone), ("nightwatch/api.ErrExist", Rows.laid_nightwatch_api_ErrExist), ("nightwatch/api.ErrFull", Rows.laid_nightwatch_api_ErrFull), ("nightwatch/api.ErrOff", Rows.laid_nightwatch_api_ErrOff), ("nightwatch/api.ErrIdle", Rows.laid_nightwatch_api_ErrIdle), ("nightwatch/api.ErrHeld", Rows.laid_nightwatch_api_ErrHeld), ("nightwatch/api.ErrReset", Rows.laid_nightwatch_api_ErrReset), ("strconv.ErrRange", Rows.laid_strconv_ErrRange), ("strconv.ErrSyntax", Rows.laid_strconv_ErrSyntax), ("nightwatch/conf.keywords", Rows.laid_nightwatch_conf_keywords), ("unicode/utf8.first", Rows.laid_unicode_utf8_first)]
def ai9:wG=[("math/bits.deBruijn32tab", Rows.laid_math_bits_deBruijn32tab), ("math/bits.deBruijn64tab", Rows.laid_math_bits_deBruijn64tab)] ++ ([("internal/strconv.uint64pow10", Rows.laid_internal_strconv_uint64pow10)] ++ ([("unicode/utf8.acceptRanges", Rows.laid_unicode_utf8_acceptRanges)] ++ (JC yu ++ ([("nightwatch/conf.keywords", Rows.laid_nightwatch_conf_keywords)] ++ [("unicode/utf8.first", Rows.laid_unicode_utf8_first)])))):=rfl
def UQ(W:ak):laidMetH prog wG W=laidMet prog wG W:=MakeChecks.laidMetH_plain _ _ _ (by kernel_rfl)
def ai_{ps:List MemPlace}(hl:DataW.LaidVars prog W (JC yu) ps)(qP:ps.Nodup)
  (yM:∀b off,MemPlace.cell b off∈ps->(∃c t,W.heap[b]?=J (.cells c t (0,0)))/\∀u v,W.cell? (ai b off I)=J (.iface u v)->Value.okWide prog W .any 0 u v):∃A:Nat->aC,fI A W/\dG A W/\vF W/\∀i,i<11->W.cell? (A i)=J (.string ⟨(IY (i+1)).toArray⟩):=by
 have pD:∀x,x∈yu->∃g,prog.globalNamed x.1=J g/\(prog.globals[g]?).map (·.type)=J 32:=λx hx=>by
  have h1:((prog.globalNamed x.1).bind λg=>(prog.globals[g]?).map (·.type))∈List.replicate 13 (J 32):=by
   rw[<- ai8];exact List.mem_map_of_mem hx
  have h2:=List.eq_of_mem_replicate h1;simp only[Option.bind_eq_some_iff]at h2;obtain⟨g,a,b⟩:=h2;exact⟨g,a,b⟩
 obtain⟨A,hv,hr,-,hne,ht⟩:=X0 underlying32 X_ underlying357 underlying359 rfl rfl underlying9 Ya PC _ ps pD hl qP yM;have hn:yu.length=13:=rfl
 refine⟨A,⟨by simpa using lZ g1 (hv 1 _ rfl) 0,by simpa using lZ g2 (hv 2 _ rfl) 0,by simpa using lZ g3 (hv 3 _ rfl) 0,by simpa using lZ g4 (hv 4 _ rfl) 0,by simpa using lZ g5 (hv 5 _ rfl) 0,by simpa using lZ g6 (hv 6 _ rfl) 0,by simpa using lZ g7 (hv 7 _ rfl) 0,by simpa using lZ g8 (hv 8 _ rfl) 0,by simpa using lZ g9 (hv 9 _ rfl) 0,by simpa using lZ g10 (hv 10 _ rfl) 0⟩,⟨by simpa using lZ g0 (hv 0 _ rfl) 0,by simpa using lZ g1 (hv 1 _ rfl) 0,by simpa using lZ g2 (hv 2 _ rfl) 0,by simpa using lZ g3 (hv 3 _ rfl) 0,by simpa using lZ g4 (hv 4 _ rfl) 0,by simpa using lZ g5 (hv 5 _ rfl) 0,λi hi=>hr i (by omega),λi j hi hj Dl=>hne i j (by omega) (by omega) Dl⟩,⟨_,by simpa using lZ ai7 (hv 12 _ rfl) 0,aN ⟨_,_,rfl⟩⟩,λi hi=>?_⟩
 have e:yu[i]?=J (yu.getD i ("", [])):=by rw [fp, bq (by omega)]; rfl
 exact ht i _ e
def UR{o:Nat}(h:W.cell? (ai b o I)=J v):b<W.heap.size:=jf h
def ai'(hK:jN W)(hT:iR W):max 8 11+1<=W.heap.size:=by
 have h1:=UR (hK 0 (by decide));have h2:=UR (Lib.TabIs.cell hT PA 0 (by decide));omega
def aja(h:laidMetH prog wG W)(hM:pR W):∃A:Nat->aC,wu A W/\∀i,i<11->W.cell? (A i)=J (.string ⟨(IY (i+1)).toArray⟩):=by
 rw[UQ]at h;obtain⟨ps,hl,qP,yM⟩:=h;rw[ai9]at hl;obtain⟨p0,r0,rfl,-,hl⟩:=AZ _ _ _ hl;obtain⟨p1,r1,rfl,Jx,hl⟩:=AZ _ _ _ hl;obtain⟨p2,r2,rfl,-,hl⟩:=AZ _ _ _ hl;obtain⟨p3,r3,rfl,ajb,hl⟩:=AZ _ _ _ hl;obtain⟨p4,r4,rfl,Mi,-⟩:=AZ _ _ _ hl;obtain⟨A,h1,h2,h3,h4⟩:=ai_ ajb (List.Nodup.sublist ((List.sublist_append_left _ _).trans ((FU _ _).trans ((FU _ _).trans (FU _ _)))) qP) (λb off hm=>yM b off (by simp[hm]));have hK:=Yj Mi;have hT:=Yi Jx;exact⟨A,⟨h1,h2,hK,hT,hM,h3,ai' hK hT⟩,h4⟩
def ajc(os:Os)(args:Array aw):laidMetH prog wG ((World.laidAll prog os wG).forCall (λ_ _=>0) ⟨#[],args,[]⟩).memory:=by
 rw[UQ];exact laidMet_laidAll _ (by kernel_rfl) (by kernel_rfl)
def UT(n:Nat)(w:ak):Calls prog 108 #[ae af (n:Int)] w λe w'=>e=ax (aA ⟨#[UInt8.ofNat n]⟩)/\Below w.heap.size w w':=by
 have e:U ((n:Int)%256=((UInt8.ofNat n).toNat:Int)):=by show _=_;rw[UInt8.toNat_ofNat'];omega
 have cv:=AQ (P:=prog) (w.alloc (ay #[ae .u8 ((n:Int)%256)] 5)) 41 9 5 ⟨w.heap.size,0,.none⟩ 1 [UInt8.ofNat n] underlying41 underlying5 underlying9 (λj hj=>by
  have:j=0:=by simpa using hj
  subst this;rw[e.o];exact dr _ _ _ _ rfl)
 simp only[kW]at cv;go_enter func108,ntmps108
 go_wp2
 go_ret;exact⟨rfl,(aF _ _).alloc (aR _) _⟩
def UU(a b:List UInt8):(⟨a.toArray⟩:ByteArray)++⟨b.toArray⟩=⟨(a++b).toArray⟩:=by
 apply ByteArray.ext
 rw[tq];simp
def ajd(n:Nat):∀(w:ak),n<=281474976710656 ->
  Calls prog 49 #[ae af (-(n:Int))] w λe w'=>e=ax (aA ⟨(fx n).toArray⟩)/\Below w.heap.size w w':=by
 induction n using Nat.strongRecOn with
 |ind n ih=>
  intro w hn
  by_cases h:n<10
  ·obtain⟨s,hs⟩:∃s:ByteArray,s=⟨#[UInt8.ofNat (48+n)]⟩:=⟨_,rfl⟩;have HE:U ((⟨(fx n).toArray⟩:ByteArray)=s):=by show _=_;rw[u6 h,hs]
   have g1:-10 < -(n:Int):=by omega
   have HB:U (Calls prog 108 #[ae af ((48+n:Nat):Int)] w λe w'=>e=ax (aA s)/\Below w.heap.size w w'):=by rw[hs];exact UT _ w
   clear ih hn hs;go_enter func49,ntmps49
   go_wp2_with fail
   have e1:(48:Int) - -(n:Int)=((48+n:Nat):Int):=by omega
   have e2:(48:Int)+(n:Int)=((48+n:Nat):Int):=by omega
   first|rw[e1]|rw[e2]|skip
   clear e1 e2
   refine aO HB.o ?_;rintro v w1 ⟨rfl,hb1⟩;go_wp2;go_ret;exact⟨by rw[HE.o];rfl,hb1⟩
  obtain⟨s,hs⟩:∃s:ByteArray,s=⟨#[UInt8.ofNat (48+n%10)]⟩:=⟨_,rfl⟩;obtain⟨r,hr⟩:∃r:ByteArray,r=⟨(fx (n / 10)).toArray⟩:=⟨_,rfl⟩;have HE:U ((⟨(fx n).toArray⟩:ByteArray)=r++s):=by show _=_;rw[Jo h,hs,hr];exact(UU _ [_]).symm
  have rs:r.size<=100:=by
   have h1:=(tC (n / 10)).2.2.2.2 14 (by omega);rw[hr];show (fx _).toArray.size<=100
   simp
   omega
  have ss:s.size<=100:=by rw[hs];show 1<=100;decide
  have g1:¬-10 < -(n:Int):=by omega
  have HI:U (Calls prog 49 #[ae af (-((n / 10:Nat):Int))] w λe w'=>e=ax (aA r)/\Below w.heap.size w w'):=by rw[hr];exact ih _ (by omega) w (by omega)
  have HB:U (∀W,Calls _ 108 _ W λe w'=>e=ax (aA s)/\Below _ W w'):=λW=>by rw[hs];exact UT _ W
  have q1:Int.tdiv (-(n:Int)) 10=-((n / 10:Nat):Int):=by rw[Int.neg_tdiv];rfl
  have r1:Int.tmod (-(n:Int)) 10=-((n%10:Nat):Int):=by rw[Int.neg_tmod];rfl
  obtain⟨d,hd⟩:∃d,d=n / 10:=⟨_,rfl⟩;obtain⟨m,hm⟩:∃m,m=n%10:=⟨_,rfl⟩;rw[<- hd]at q1 HI;rw[<- hm]at r1 HB;have n3:(d:Int)<=281474976710656:=by omega
  have n6:(m:Int)<=9:=by omega
  clear ih hs hr h hd hm hn;go_enter func49,ntmps49
  go_wp2_with fail
  refine aO HI.o ?_;rintro v w1 ⟨rfl,hb1⟩;go_wp2_with fail
  have e1:(48:Int) - -(m:Int)=((48+m:Nat):Int):=by omega
  have e2:(48:Int)+(m:Int)=((48+m:Nat):Int):=by omega
  first|rw[e1]|rw[e2]|skip
  clear e1 e2
  refine aO (HB.o _) ?_;rintro v w2 ⟨rfl,hb2⟩;go_wp2;go_ret;exact⟨by rw[HE.o];rfl,hb1.trans (hb2.mono hb1.size)⟩
def Cy(n:Nat)(w:ak)(hn:n<=281474976710656):Calls prog 23 #[ae af (n:Int)] w λe w'=>e=ax (aA ⟨(fx n).toArray⟩)/\Below w.heap.size w w':=by
 obtain⟨r,hr⟩:∃r:ByteArray,r=⟨(fx n).toArray⟩:=⟨_,rfl⟩;have HB:U (Calls prog 49 #[ae af (-(n:Int))] w λe w'=>e=ax (aA r)/\Below w.heap.size w w'):=by rw[hr];exact ajd n w hn
 have g1:¬(n:Int)<0:=by omega
 have n3:(n:Int)<=281474976710656:=by omega
 rw[<- hr];clear hr hn;go_enter func23,ntmps23
 go_wp2_with fail
 refine aO HB.o ?_;rintro v w1 ⟨rfl,hb1⟩;go_wp2;go_ret;exact⟨rfl,hb1⟩
def rI:Nat->Int
 |0=>9
 |1=>9
 |2=>9
 |3=>99999
 |4=>99999
 |8=>9
 |_=>0
def jV(first:Int):Nat->List Int->Option Bs
 |_,[]=>J []
 |i,n::t=>if n<0\/(if i=0 then first else 99999)<n then I else (jV first (i+1) t).map λr=>32::(num n++r)
def lV(wd:Bs)(N:List Int):Option Bs:=match gR wd with
 |none=>I
 |some k=>if N.length=(eH k).length then (jV (rI k) 0 N).map λr=>wd++r else I
def aje(s:ByteArray)(w:ak)(h:gR (bl s)=I):Calls prog 25 #[aA s] w λe w'=>e=ax (bn #[ae af 0,ae af 0,aL false])/\w'=w:=by
 have hne:∀k,k<14->(s.toList==og k)=false:=λk hk=>by rw[gW,gX];exact λe=>Rk h k hk e.symm
 have h0:(s.toList==[98,101,103,105,110])=false:=hne 0 (ar rfl);have h1:(s.toList==[115,116,111,112])=false:=hne 1 (ar rfl);have h2:(s.toList==[114,101,112,111,114,116])=false:=hne 2 (ar rfl);have h3:(s.toList==[116,105,99,107])=false:=hne 3 (ar rfl);have h4:(s.toList==[99,117,116])=false:=hne 4 (ar rfl);have h5:(s.toList==[98,111,111,116])=false:=hne 5 (ar rfl);have h6:(s.toList==[110,111,119])=false:=hne 6 (ar rfl);have h7:(s.toList==[107,105,99,107,115])=false:=hne 7 (ar rfl);have h8:(s.toList==[115,116,97,116,117,115])=false:=hne 8 (ar rfl);have h9:(s.toList==[116,111,116,97,108])=false:=hne 9 (ar rfl);have h10:(s.toList==[115,116,97,116,101])=false:=hne 10 (ar rfl);have h11:(s.toList==[99,97,117,115,101])=false:=hne 11 (ar rfl);have aol:(s.toList==[108,111,103])=false:=hne 12 (ar rfl);have oz:(s.toList==[99,111,110,102,105,103])=false:=hne 13 (ar rfl);go_enter func25,ntmps25
 go_wp2
 refine dL (results_tmp3 rfl ..) rfl ?_;exact⟨rfl,rfl⟩
def ajf(s:ByteArray)(k:Nat)(w:ak)(h:gR (bl s)=J k):Calls prog 25 #[aA s] w λe w'=>e=ax (bn #[ae af ((eH k).length:Int),ae af (rI k),aL true])/\w'=w:=by
 obtain⟨h1,h2⟩:=xD h;have hs:s=kO k:=oK (by rw[<- h2];simp[bl,kO]);subst hs;have h3:k=0\/k=1\/k=2\/k=3\/k=4\/k=5\/k=6\/k=7\/k=8\/k=9\/k=10\/k=11\/k=12\/k=13:=by omega
 rcases h3 with rfl|rfl|rfl|rfl|rfl|rfl|rfl|rfl|rfl|rfl|rfl|rfl|rfl|rfl
 all_goals
  unfold kO og;go_enter func25,ntmps25
  go_wp2
  refine dL (results_tmp3 rfl ..) rfl ?_;exact⟨rfl,rfl⟩
def pT(a b:ByteArray)(h:a.size+b.size<=9223372036854775807):∀w,(Op.stringOp .add a b).run prog w=.ok (aA (a++b)) w:=λw=>run_string_add_sum (P:=prog) w a b h
def UW{acc:Bs}(hn:N[j]?=J n)(h:jV fi 0 N=(jV fi j (N.drop j)).map λr=>acc++r):((n<0\/(if j=0 then fi else 99999)<n)->jV fi 0 N=I)/\(¬(n<0\/(if j=0 then fi else 99999)<n)->jV fi 0 N=(jV fi (j+1) (N.drop (j+1))).map λr=>(acc++32::num n)++r):=by
 obtain⟨hj,rfl⟩:=df.1 hn;rw[lX hj,jV]at h
 refine⟨λhb=>by rw[h,aU hb];rfl,λhb=>?_⟩;rw[h,aK hb,Option.map_map];congr 1
 funext r
 simp
def ajg(k:Nat):(eH k).length<=2:=by unfold eH;split<;>simp
def ajh(wd:Bs)(N:List Int)(w:ak)(e:Ending)(w':ak):Prop:=
 Below w.heap.size w w'/\(lV wd N=I->e=ax (bn #[aA ⟨#[]⟩,aL false]))/\∀t,lV wd N=J t->e=ax (bn #[aA ⟨t.toArray⟩,aL true])
def aji(wd:ByteArray)(N:List Int)(na:Option aC)(nc:Nat)(w:ak)(hN:bw bT 1 w (aj na N.length nc) N)(hw:wd.size<=1000)(hl:N.length<=1000):Calls prog 11 #[bK #[aA wd,aj na N.length nc]] w λe w'=>ajh (bl wd) N w e w':=by
 obtain⟨W,hW⟩:∃V,V=w.alloc (ay #[aA wd,aj na N.length nc] 46):=⟨_,rfl⟩;have hb:Below w.heap.size w W:=by rw[hW];exact aS _ _
 have hrow:W.heap[w.heap.size]?=J (ay #[aA wd,aj na N.length nc] 46 (0,0)):=by rw[hW];exact cj w _
 have x0:W.cell? (ai w.heap.size 0 I)=J (aA wd):=by simp[aH,hrow]
 have x1:W.cell? (ai w.heap.size 1 I)=J (aj na N.length nc):=by simp[aH,hrow]
 have HN:U (bw _ 1 W _ N):=hN.below hb;change U _ at hrow
 clear hN;change U _ at hb
 cases hk:gR (bl wd)with
 |none=>
  have HV:U (lV (bl wd) N=I):=by show _=_;unfold lV;rw[hk]
  have HF:U _:=aje wd W hk;clear hk HN;go_enter func11,ntmps11
  go_upto_region 1 with fail
  rw[<- hW];clear hW;go_wp2_with fail
  refine aO HF.o ?_;rintro e wr ⟨rfl,rfl⟩;go_wp2;go_ret2
  exact⟨hb,λ_=>rfl,λt h=>by rw[HV.o]at h;cases h⟩
 |some k=>
  have HF:U _:=ajf wd k W hk;have mz:=ajg k
  by_cases hq:N.length=(eH k).length
  ·have HV:U (lV (bl wd) N=(jV (rI k) 0 N).map λr=>bl wd++r):=by show _=_;unfold lV;rw[hk];exact aU hq
   have NA:U (rI k<=99999):=by show _<=_;unfold rI;split<;>omega
   rw[<- hq]at HF mz;generalize rI k=fi at HF HV NA;have k0:((N.length:Int) != (N.length:Int))=false:=by simp
   clear hk hq;go_enter func11,ntmps11
   go_upto_region 1 with fail
   rw[<- hW];clear hW;go_wp2_with fail
   refine aO HF.o ?_;rintro e wr ⟨rfl,rfl⟩;rename ak=>Wb
   go_wp2_with fail
   go_loopw [7,8,9] (λov i _ wr=>∃(j:Nat) (acc:Bs) (ob:ByteArray),j<=N.length/\i=ae af j/\ov=aA ob/\U (bl ob=bl wd++acc)/\U (ob.size<=1000+100*j)/\U (jV fi 0 N=(jV fi j (N.drop j)).map λr=>acc++r)/\U (Below Wb.heap.size Wb wr)) (λ_ i _ _=>N.length-(intOf i).toNat)
   case atStart=>exact⟨0,[],wd,bA _,rfl,rfl,by show _=_;simp,by show _<=_;omega,by show _=_;simp,aF _ _⟩
   case round=>
    clear x0 x1;obtain⟨j,acc,ob,hj,rfl,rfl,HO,HS,HA,HX⟩:=hrel
    by_cases hlt:j<N.length
    ·have k1:(j:Int)<(N.length:Int):=by omega
     obtain⟨n,hn⟩:∃n,N[j]?=J n:=⟨_,bq hlt⟩;obtain⟨g,o,rfl,hc⟩:=sj (bw.below HN HX) hn;have UX:=a8 HX hrow;have y1:wr.cell? (ai w.heap.size 1 I)=J (aj (J (ai g o I)) N.length nc):=by simp[aH,UX]
     clear UX
     rcases vr j with rfl|EW
     ·have gI:U ((n<0\/fi<n->jV fi 0 N=I)/\(¬(n<0\/fi<n)->jV fi 0 N=(jV fi _ _).map λr=>(acc++32::num n)++r)):=UW hn HA;have c0:wr.cell? (ai g o I)=J (ae af n):=by simpa using hc 0 n hn
      clear HA hc hn
      by_cases Fo:n<0
      ·have eX:U (lV (bl wd) N=I):=by show _=_;rw[HV.o,gI.1 (aT Fo)];rfl
       clear gI;go_wp2;go_ret2
       exact⟨hb.trans (HX.mono hb.size),λ_=>rfl,λt h=>by rw[eX.o]at h;cases h⟩
      by_cases lh:fi<n
      ·have eX:U (lV (bl wd) N=I):=by show _=_;rw[HV.o,gI.1 (aN lh)];rfl
       clear gI;go_wp2;go_ret2
       exact⟨hb.trans (HX.mono hb.size),λ_=>rfl,λt h=>by rw[eX.o]at h;cases h⟩
      have NB:U _:=gI.2 (λh=>h.elim Fo lh);have ajj:n<=99999:=by have:=NA.o;omega
      obtain⟨q,rfl⟩:∃q:Nat,n=(q:Int):=⟨n.toNat,by omega⟩;obtain⟨dq,wH⟩:∃d:ByteArray,d=⟨(fx q).toArray⟩:=⟨_,rfl⟩;have HD:U (Calls prog 23 #[ae af (q:Int)] wr λe w'=>e=ax (aA dq)/\Below wr.heap.size wr w'):=by rw[wH];exact Cy q wr (by omega)
      have Ec:dq.size<=19:=by have:=mG (n:=(q:Int)) (by omega);rw[wH];show (fx q).toArray.size<=19;rw[rV];exact bp this (ar rfl)
      have NC:U (bl dq=num (q:Int)):=by show _=_;rw[wH];simp[bl,num]
      have ND:=HS.o;have a1:=pT ob ⟨#[32]⟩ (by show ob.size+1<=_;omega);have hsz:(ob++⟨#[32]⟩:ByteArray).size=ob.size+1:=by rw[o_];rfl
      have a2:=pT _ dq (by rw[hsz];omega);have Ao:U (((ob++⟨#[32]⟩)++dq:ByteArray).size<=1000+100*(0+1)):=by show _<=_;rw[o_,hsz];omega
      have sS:U (bl ((ob++⟨#[32]⟩)++dq)=bl wd++(acc++32::num (q:Int))):=by show _=_;unfold bl;rw[tq,tq,yq,yq];show (bl ob++[32])++bl dq=_;rw[HO.o,NC.o];simp[bl]
      generalize hz1:(ob++⟨#[32]⟩:ByteArray)=o1 at a1 a2 Ao sS;generalize hz2:(o1++dq:ByteArray)=o2 at a2 Ao sS;clear gI wH ND hsz hz1 hz2 HS HO;go_wp2_with fail
      refine aO HD.o ?_;rintro e wy ⟨rfl,hby⟩;have NF:U _:=HX.trans (hby.mono HX.size);clear hby HD c0 y1;go_wp2
      go_roundw
      case rel=>exact⟨_,_,o2,by omega,by go_num,rfl,sS,Ao,NB,NF⟩
      case measure=>simp[intOf];omega
     have gI:U ((n<0\/(99999:Int)<n->jV fi 0 N=I)/\(¬(n<0\/(99999:Int)<n)->jV fi 0 N=(jV fi (j+1) (N.drop (j+1))).map λr=>(acc++32::num n)++r)):=by have:=UW hn HA;rw[aK (by omega)]at this;exact this
     have k2:((j:Int)==0)=false:=by rw[gX];omega
     have c0:=hc j n hn;clear HA hc hn
     by_cases Fo:n<0
     ·have eX:U (lV (bl wd) N=I):=by show _=_;rw[HV.o,gI.1 (aT Fo)];rfl
      clear gI;go_wp2;go_ret2
      exact⟨hb.trans (HX.mono hb.size),λ_=>rfl,λt h=>by rw[eX.o]at h;cases h⟩
     by_cases lh:99999<n
     ·have eX:U (lV (bl wd) N=I):=by show _=_;rw[HV.o,gI.1 (aN lh)];rfl
      clear gI;go_wp2;go_ret2
      exact⟨hb.trans (HX.mono hb.size),λ_=>rfl,λt h=>by rw[eX.o]at h;cases h⟩
     have NB:U _:=gI.2 (λh=>h.elim Fo lh);have ajj:n<=99999:=by have:=NA.o;omega
     obtain⟨q,rfl⟩:∃q:Nat,n=(q:Int):=⟨n.toNat,by omega⟩;obtain⟨dq,wH⟩:∃d:ByteArray,d=⟨(fx q).toArray⟩:=⟨_,rfl⟩;have HD:U (Calls prog 23 #[ae af (q:Int)] wr λe w'=>e=ax (aA dq)/\Below wr.heap.size wr w'):=by rw[wH];exact Cy q wr (by omega)
     have Ec:dq.size<=19:=by have:=mG (n:=(q:Int)) (by omega);rw[wH];show (fx q).toArray.size<=19;rw[rV];exact bp this (ar rfl)
     have NC:U (bl dq=num (q:Int)):=by show _=_;rw[wH];simp[bl,num]
     have ND:=HS.o;have a1:=pT ob ⟨#[32]⟩ (by show ob.size+1<=_;omega);have hsz:(ob++⟨#[32]⟩:ByteArray).size=ob.size+1:=by rw[o_];rfl
     have a2:=pT _ dq (by rw[hsz];omega);have Ao:U (((ob++⟨#[32]⟩)++dq:ByteArray).size<=1000+100*(j+1)):=by show _<=_;rw[o_,hsz];omega
     have sS:U (bl ((ob++⟨#[32]⟩)++dq)=bl wd++(acc++32::num (q:Int))):=by show _=_;unfold bl;rw[tq,tq,yq,yq];show (bl ob++[32])++bl dq=_;rw[HO.o,NC.o];simp[bl]
     generalize hz1:(ob++⟨#[32]⟩:ByteArray)=o1 at a1 a2 Ao sS;generalize hz2:(o1++dq:ByteArray)=o2 at a2 Ao sS;clear gI wH ND hsz hz1 hz2 HS HO;go_wp2_with fail
     refine aO HD.o ?_;rintro e wy ⟨rfl,hby⟩;have NF:U _:=HX.trans (hby.mono HX.size);clear hby HD c0 y1;go_wp2
     go_roundw
     case rel=>exact⟨_,_,o2,by omega,by go_num,rfl,sS,Ao,NB,NF⟩
     case measure=>simp[intOf];omega
    obtain rfl:j=N.length:=by omega
    have k1:¬(N.length:Int)<(N.length:Int):=by omega
    have UY:U (lV (bl wd) N=J (bl ob)):=by
     show _=_
     rw[HV.o,HA.o,List.drop_length];show J (bl wd++(acc++[]))=_
     rw[pk,HO.o]
    have ajk:U ((⟨(bl ob).toArray⟩:ByteArray)=ob):=by show _=_;unfold bl;rw[Array.toArray_toList]
    clear HA;go_wp2;go_ret2
    refine⟨hb.trans (HX.mono hb.size),λh=>(by rw[UY.o]at h;cases h),λt h=>?_⟩;rw[UY.o]at h
    cases h
    rw[ajk.o];rfl
  have HV:U (lV (bl wd) N=I):=by show _=_;unfold lV;rw[hk];exact aK hq
  have k0:((N.length:Int) != ((eH k).length:Int))=true:=by rw[bne_iff_ne];omega
  generalize (eH k).length=m at *;clear hk hq HN;go_enter func11,ntmps11
  go_upto_region 1 with fail
  rw[<- hW];clear hW;go_wp2_with fail
  refine aO HF.o ?_;rintro e wr ⟨rfl,rfl⟩;go_wp2;go_ret2
  exact⟨hb,λ_=>rfl,λt h=>by rw[HV.o]at h;cases h⟩
open Go
def ajl{m:Int}(hn:0<=n)(hm:0<=m)(h:num n=num m):n=m:=by
 unfold num at h;have h1:=(tC n.toNat).1;rw[h,(tC _).1]at h1;omega
def UZ:∀(N:List Int) (i:Nat) (r:Bs),jV fi i N=J r->r=N.flatMap (λn=>32::num n)/\∀n∈N,0<=n/\n<=max fi 99999
 |[],i,r,h=>by cases h;exact⟨rfl,λn hn=>by cases hn⟩
 |n::N,i,r,h=>by
  rw[jV]at h
  by_cases hb:n<0\/(if i=0 then fi else 99999)<n
  ·rw[aU hb]at h;cases h
  rw[aK hb]at h
  cases hr:jV fi (i+1) N with
  |none=>rw[hr]at h;cases h
  |some r'=>
   rw[hr]at h
   cases h
   obtain⟨h1,h2⟩:=UZ N _ r' hr
   refine⟨by rw[h1];simp,λm hm=>?_⟩
   rcases fe.1 hm with rfl|hm
   ·split at hb<;>omega
   exact h2 m hm
def ajm:∀k:Fin 14,(32:UInt8)∉og k.1:=by decide
def NG(h:lV wd N=J t):∃k,gR wd=J k/\N.length=(eH k).length/\(∀n∈N,0<=n/\n<=99999)/\t=wd++N.flatMap (λn=>32::num n)/\eJ 32 t=wd::N.map num:=by
 unfold lV at h
 cases hk:gR wd with
 |none=>rw[hk]at h;cases h
 |some k=>
  rw[hk]at h;simp only at h
  split at h
  ·rename_i hl
   cases hr:jV (rI k) 0 N with
   |none=>rw[hr]at h;cases h
   |some r=>
    rw[hr]at h
    cases h
    obtain⟨h1,h2⟩:=UZ N 0 r hr;obtain⟨pM,hk2⟩:=xD hk;have hf:rI k<=99999:=by unfold rI;split<;>omega
    refine⟨k,rfl,hl,λn hn=>⟨(h2 n hn).1,by have:=(h2 n hn).2;omega⟩,by rw[h1],?_⟩;have:=Jn 32 (N.map num) wd (by rw[<- hk2];exact ajm ⟨k,pM⟩) (λx hx=>by
     obtain⟨n,-,rfl⟩:=nS.1 hx;exact(rT n).2.1)
    rw[<- this,h1];unfold nT;rw[List.flatMap_map]
  cases h
def ajn(h:lV wd N=J t):(wd≠og 3->ik t=0)/\(wd=og 3->∃n,N=[n]/\0<=n/\n<=99999/\ik t<=n.toNat):=by
 obtain⟨k,hk,hl,hb,ht,hc⟩:=NG h;have h1:=(xD hk).2;unfold ik;rw[hc]
 refine⟨λhw=>?_,λhw=>?_⟩
 ·show (if gR wd=J 3 then _ else _)=0
  rw[aK (λe=>hw (xD e).2.symm)]
 have hk3:k=3:=by
  have:gR wd=J 3:=by rw[hw];decide
  rw[hk]at this;exact fg this
 subst hk3
 match N,hl,hb with
 |[n],_,hb=>
  have hn:=hb n (nQ ..)
  refine⟨n,rfl,hn.1,hn.2,?_⟩;show (if gR wd=J 3 then (((dp [5] [num n]).getD []).getD 0 0).toNat else 0)<=_
  rw[aU hk];rw[dp]
  cases hs:iC (num n) 5 with
  |none=>show (0:Nat)<=_;omega
  |some m=>
   obtain⟨h2,h3,-,-⟩:=Rj hs;rw[ajl h2 hn.1 h3];show ([n].getD 0 0).toNat<=_
   exact aR _
def ajo(h:lV wd N=J t)(hw:wd.length<=1000)(hN:N.length<=100):t.length<=10000:=by
 obtain⟨k,hk,hl,hb,ht,-⟩:=NG h;have h1:∀N:List Int,(∀n∈N,0<=n/\n<=99999)->(N.flatMap (λn=>32::num n)).length<=20*N.length:=by
  intro N
  induction N with
  |nil=>intro _;exact aR _
  |cons n N ih=>
   intro hb;have h2:=ih (λm hm=>hb m (rO _ hm));have h3:=mG (n:=n) (by have:=hb n (nQ ..);omega);rw[mD,cY];simp only[lY];omega
 have:=h1 N hb;rw[ht,cY];omega
structure uM(v0 v1 w0 wr:ak)(c:aX)(kb bc:Nat)(K:aD)(av:aw)(xs:List ByteArray):Prop where
 at':∃G,eZ G w0 wr c kb bc K/\(∀k,G k->k<v0.heap.size\/v1.heap.size<=k)/\∀k,av.ownBlock=J k->¬G k
 st:∀k,v0.heap.size<=k->k<v1.heap.size->wr.heap[k]?=v1.heap[k]?
 sz:v1.heap.size<=wr.heap.size
 own:wr.ownsRow v1.heap.size 9 1 av xs.length (xs.flatMap ct)
section
variable {A:Nat->aC}{G:Nat->Prop}{v0 v1 w0 w wr wr':ak}{c:aX}{kb bc:Nat}{K K':aD}{k:Nat}{av:aw}{xs:List ByteArray}
def uM.step(h2:∀k,G k->k<v0.heap.size\/v1.heap.size<=k)(h3:∀k,av.ownBlock=J k->¬G k)(st:∀k,v0.heap.size<=k->k<v1.heap.size->wr.heap[k]?=v1.heap[k]?)(sz:v1.heap.size<=wr.heap.size)(own:wr.ownsRow v1.heap.size 9 1 av xs.length (xs.flatMap ct))(hp:dh G w0 wr c kb bc K' wr'):uM v0 v1 w0 wr' c kb bc K' av xs:=by
 refine⟨⟨_,hp.1,λk hk=>?_,λk hk hg=>?_⟩,λk h4 h5=>?_,bp sz hp.2.size,zq own (λg hg=>hp.2.block g (own.lt g hg).2 (h3 g hg))⟩
 ·rcases hk with hk|⟨a,b⟩
  ·exact h2 k hk
  exact aN (bp sz a)
 ·rcases hg with hg|⟨a,_⟩
  ·exact h3 k hk hg
  have:=(own.lt k hk).2;omega
 exact(hp.2.block k (by omega) (λe=>by rcases h2 k e with a|a<;>omega)).trans (st k h4 h5)
def uM.more(h:uM v0 v1 w0 wr c kb bc K av xs)(hw:w0.heap.size<=v1.heap.size){o:Obj}{y:ByteArray}{n:Nat}(hn:xs.length+1=n)(hown:wr'.ownsRow v1.heap.size 9 1 (aj (J (ai g 0 I)) n cap) n (xs.flatMap ct++[aA y]))(hg:(wr.alloc o).grownBy wr' av.ownBlock)(cH:av.ownBlock=J g\/g=wr.heap.size+1):uM v0 v1 w0 wr' c kb bc K (aj (J (ai g 0 I)) n cap) (xs++[y]):=by
 have hb:=aS wr o;have bz:aG _ _ wr':=⟨hg.os,hg.tape,hg.output,hg.size,λk hk hn=>hg.block k hk (λe=>hn e.symm)⟩;have hlt:=λk hk=>(h.own.lt k hk).1
 obtain⟨G,h1,h2,h3⟩:=h.at';have hz:=bp hb.size bz.size
 refine⟨⟨λk=>G k/\k<wr.heap.size,(h1.trim.below hb).off bz (λk hk e=>h3 k e hk.1) (λk hk=>bp hw (hlt k hk)),λk hk=>h2 k hk.1,λk hk hi=>?_⟩,λk h4 h5=>?_,bp h.sz hz,?_⟩
 ·cases hk
  rcases cH with cH|cH
  ·exact h3 g cH hi.1
  have h5:g<wr.heap.size:=hi.2;omega
 ·have h6:=h.sz;rw[bz.block k (cK (show k<wr.heap.size by omega) hb.size) (λe=>by have:=hlt k e;omega),hb.block k (by omega)];exact h.st k h4 h5
 have e:(xs++[y]).flatMap ct=xs.flatMap ct++[aA y]:=by rw[ji];rfl
 rw[e,cY,kW,hn];exact hown
end
def lu(l:List Bs):List ByteArray:=l.map λx=>⟨x.toArray⟩
def ajp(A:Nat->aC)(T:Nat->Bs)(w:ak)(s:Bs)(ls:List Bs)(e:Ending)(w':ak):Prop:=
 Below w.heap.size w w'/\∃av ev,e=ax (bn #[av,ev])/\(100<ls.length->av=aj I 0 0/\ev=errVal A 2) /\
  (ls.length<=100->(gD a_ s).1.1≠0->av=aj I 0 0/\mI A w' ev (gD a_ s).1) /\
  (ls.length<=100->(gD a_ s).1.1=0->ev=.nilIface/\bI ct 1 9 w.heap.size w' av (lu (gS (gD a_ s).2 T (aD.new (gD a_ s).2 (aI.new 4096)) ls)))
def U0(A:Nat->aC)(T:Nat->Bs)(s:ByteArray)(ls:List ByteArray)(la:Option aC)(lc:Nat)(w:ak)(h:wu A w)(hT:∀i,i<11->w.cell? (A i)=J (aA ⟨(T (i+1)).toArray⟩))(hn:s.size<=9223372036854775807)(uv:bw ct 1 w (aj la ls.length lc) ls)(hsz:∀l∈ls,l.size<=1000000)(hlen:ls.length<=1000000)(yv:jE (ls.map bl)<=800000):Calls prog 13 #[aA s,aj la ls.length lc] w λe w'=>ajp A T w (bl s) (ls.map bl) e w':=by
 by_cases IZ:100<ls.length
 ·have k1:(100:Int)<(ls.length:Int):=by omega
  have Cn:=h.sk.c1;clear h hT hn uv hsz hlen yv;go_enter func13,ntmps13
  go_wp2_with fail
  go_region
  all_goals go_wp2
  all_goals go_ret2
  all_goals exact⟨br (aF _ _) 1,_,_,rfl,λ_=>⟨rfl,rfl⟩,λe=>absurd IZ (by rw[iE]at e;omega),λe=>absurd IZ (by rw[iE]at e;omega)⟩
 have k1:¬(100:Int)<(ls.length:Int):=by omega
 have HX:U _:=ai5 A s w h hn;have HE:U _:=h;have HT:U _:=hT;have xV:U _:=uv;have o7:U _:=hsz;have lN:U (jE _<=800000/\ls.length<=100):=⟨yv,by omega⟩
 by_cases h0:(gD a_ (bl s)).1.1=0
 ·change U _ at h0
  clear h hT hn uv hsz hlen yv IZ;go_enter func13,ntmps13
  go_wp2_with fail
  refine aO HX.o ?_;intro e w1 he;obtain⟨sa,sc,w0,F,kb,bc,rfl,NH,hat,hF,hb0⟩:=he.2 h0;obtain⟨c,NI⟩:∃c,c=(gD a_ (bl s)).2:=⟨_,rfl⟩;rw[<- NI]at NH hat⊢;change U _ at NI
  obtain⟨v0,hv0⟩:∃V,V=w1.alloc (ay (fN c kb bc (aj sa c.az.length sc)) 101):=⟨_,rfl⟩;have nD:Below w1.heap.size w1 v0:=by rw[hv0];exact aS _ _
  have r6:v0.heap[w1.heap.size]?=J (ay (fN c kb bc (aj sa c.az.length sc)) 101 (0,0)):=by rw[hv0];exact cj w1 _
  change U _ at r6
  have U1:U (Calls _ 37 #[bK #[aq _,aq _,ae af _,ae af _,ae af _,ae af _,aj sa _ sc]] v0 λe w'=>e=ax _/\lp v0 w' _ _ _ 14):=aeb c kb bc (aj sa c.az.length sc) v0;have Ap:U (eZ F w0 v0 c kb bc _/\Fh A w0 c sa sc/\(∀k,F k->k<v0.heap.size)/\w0.heap.size<=v0.heap.size):=⟨hat.below nD,NH,λk hk=>cK (hF k hk).2 nD.size,bp hat.aY.size nD.size⟩;change U _ at hb0
  clear he NH hat hF nD HX;unfold fN at hv0⊢;go_upto_region 4 with fail
  rw[<- hv0];clear hv0;go_wp2_with (refine pB rfl 101 _ rfl _ rfl _ _ _ _ r6 underlying101 rfl IW ?_)
  refine aO U1.o ?_;rintro e v1 ⟨rfl,hcm⟩;obtain⟨i0,mr,hz0,hz1,hz2⟩:=iw Hm;obtain⟨W1,Hk,hown1,hg1⟩:=run_make_own (P:=prog) v1 _ 37 9 i0 _ 1 underlying37 mr hz0 hz1 af af ls.length (by rw[hz2];have:=lN.2;omega) (by have:=lN.2;unfold maxLen;omega) (aR _);have hb1:Below _ v1 W1:=⟨hg1.os,hg1.tape,hg1.output,hg1.size,λk hk=>hg1.block k hk (by simp)⟩;have U2:=hcm.aY.size;have HL:U (uM v0 v1 w0 W1 c kb bc _ _ []):=⟨⟨F,(Ap.1.below hcm.aY).below hb1,λk hk=>aT (Ap.2.2.1 k hk),λk hk hF=>by cases hk;have h5:v1.heap.size<v0.heap.size:=Ap.2.2.1 _ hF;omega⟩,λk _ h5=>hb1.block k h5,hb1.size,hown1⟩;have ajq:U _:=hcm.tovG;have HZ:U (w0.heap.size<=v1.heap.size/\v0.heap.size<v1.heap.size):=⟨bp Ap.2.2.2 U2,bL hcm.box⟩;have wk:U (Fh A w0 c sa sc/\er c):=⟨Ap.2.1,Ap.2.1.rt⟩;have hmap:Option.map (λx:aC=>x.add 0) la=la:=by cases la with|none=>rfl|some a=>simp[Lv]
  have I0:U (∀i,i<=ls.length->bF c (fS c (aD.new c (aI.new 4096)) ((ls.map bl).take i)) (0+i) (144*(fS c (aD.new c (aI.new 4096)) ((ls.map bl).take i)).d.now)/\(fS c (aD.new c (aI.new 4096)) ((ls.map bl).take i)).d.now<=jE ((ls.map bl).take i)/\(fS c (aD.new c (aI.new 4096)) ((ls.map bl).take i)).LB):=λi hi=>by
   have eY:(aD.new c (aI.new 4096)).d.now=0:=rfl;have h5:=Ri (ls.map bl) i;have h6:=lN.1;have h7:=La wk.2 ((ls.map bl).take i) _ 0 (IG wk.2) (by rw[eY];omega);rw[eQ,iE,Nat.min_eq_left hi,eY]at h7;exact⟨h7.1,by omega,LB.fS wk.2 _ _ 0 (LB.new c _) (IG wk.2) (by rw[eY];omega)⟩
  clear hcm hown1 hg1 hb1 U2 U1 r6 Ap;go_upto_region 8 with fail
  go_cut [29,30,31] (λl' n i wx=>l'=aj la ls.length lc/\n=ae af (ls.length:Int)/\i=ae af 0/\wx=W1)
  case first=>
   go_wp2
   go_meet
   case rel=>exact⟨rfl,rfl,rfl,rfl⟩
  obtain⟨rfl,rfl,rfl,rfl⟩:=hcut;clear Hk hmap;rename ak=>W1
  go_wp2_with fail
  generalize U3:aD.new c (aI.new 4096)=K0 at HL I0;change U _ at U3
  go_loopw [9,11,31] (λav _ i wr=>∃n:Nat,n<=ls.length/\i=ae af n/\U (uM v0 v1 w0 wr c kb bc (fS c K0 ((ls.map bl).take n)) av (lu (gS c T K0 ((ls.map bl).take n))))) (λ_ _ i _=>ls.length-(intOf i).toNat)
  case atStart=>exact⟨0,bA _,rfl,HL⟩
  case round=>
   clear HL;obtain⟨n,AY,rfl,HL⟩:=hrel;have Cz:(lu (gS c T K0 ((ls.map bl).take n))).length=n:=by unfold lu;rw[iE,KY,eQ,iE];omega
   obtain⟨ka,kc,kA⟩:=iB HL.own;rw[Cz]at kA;subst kA;change U _ at Cz
   obtain⟨G,a1,a2,a3⟩:=HL.at';have tL:=hb0.trans (a1.aY.mono hb0.size);have dV:U _:=tL
   by_cases hlt:n<ls.length
   ·have l1:(n:Int)<(ls.length:Int):=by omega
    obtain⟨x,hx⟩:∃x,ls[n]?=J x:=⟨_,bq hlt⟩;obtain⟨g,o,rfl,hc⟩:=pI (bw.below xV tL) hx;have c0:=hc n x hx;obtain⟨f1,f2,f3⟩:=I0 n AY;have hmx:(ls.map bl)[n]?=J (bl x):=by rw[gY,hx];rfl
    have ajr:jE ((ls.map bl).take n)+ik (bl x)<=800000:=by
     have h5:=Ri (ls.map bl) (n+1);rw[eI,hmx,GQ]at h5;have h6:=lN.1;have h7:jE (J (bl x)).toList=ik (bl x):=by show ik _+0=_;omega
     omega
    have HX:U _:=aiM T x (⟨wk.1,a1,f1,f3,ajq.kept HL.st,by have:=lN.2;omega,λe=>by rcases a2 _ e with h5|h5;exact Nat.lt_irrefl _ h5;have:=HZ.2;omega⟩:Cw A G w0 wr c kb bc sa sc v0.heap.size v0.heap.size (v0.heap.size+1) (fS c K0 ((ls.map bl).take n)) (0+n)) (λi hi=>aJ hb0 (HT i hi)) (o7 x (bP hx)) (by have:=lN.2;omega);have gI:U (∀K' wr',dh G w0 wr c kb bc K' wr'->uM v0 v1 w0 wr' c kb bc K' _ _):=λK' wr' hp=>uM.step a2 a3 HL.st HL.sz HL.own hp
    have Fp:U (fS c K0 _=((fS c K0 _).fR c _).1/\lu (gS c T K0 _)=lu (gS c T K0 ((ls.map bl).take n))++[⟨_⟩]):=⟨acj hmx,by unfold lu;rw[ack hmx,lC];rfl⟩;generalize hKn:(fS c K0 ((ls.map bl).take n)).fR c (bl x)=Kn at HX Fp;generalize ajs:lu (gS c T K0 ((ls.map bl).take n))=an at gI Fp Cz;generalize hy:(⟨(nI T Kn).toArray⟩:ByteArray)=y at HX Fp;clear hc hx a1 a2 a3 f1 f2 f3 hmx ajr HL hKn ajs hy tL;go_wp2_with fail
    refine aO HX.o ?_;rintro u w3 ⟨rfl,hp⟩;have jl:U _:=gI _ w3 hp;have gQ:U (w3.ownsRow v1.heap.size 9 1 (aj ka n kc) n (an.flatMap ct)):=by
     have:=jl.own;rw[Cz.o]at this;exact this
    have hz3:=jl.sz;have Sj:=lN.2;clear hp HX gI c0;go_wp2_with (at_builtin;refine vA _ rfl _ _ 37 rfl _ 9 i0 _ 1 16 underlying37 mr hz0 hz1 hz2 rfl (ar rfl) (aj ka n kc) n (an.flatMap ct) rfl (xH gQ _) ⟨w3.heap.size,0,I⟩ 1 1 [aA y] rfl rfl (mP w3 [aA y] 9) (λu hu=>by rw[g_]at hu;subst hu;rfl) (ar rfl) (by unfold maxLen;omega) (by omega) (by simp;omega) (w3.heap.size+1) (by simp) ?_;intro gg cc sB hown hg cH ru)
    have um:U _:=jl.more HZ.1 (by rw[Cz.o]) hown hg cH;clear hown hg cH ru gQ jl Sj;go_roundw
    case rel=>exact⟨n+1,by omega,by go_num,by show uM _ _ _ _ _ _ _ _ _ _;rw[Fp.1,Fp.2];exact um⟩
    case measure=>simp[intOf];omega
   obtain rfl:n=ls.length:=by omega
   have l1:¬(ls.length:Int)<(ls.length:Int):=by omega
   have HO:U (bI ct 1 9 w.heap.size wr (aj ka ls.length kc) (lu (gS c T K0 (ls.map bl)))):=by
    have h5:=HL.own;rw[iM (by rw[iE];exact aR _)]at h5;exact⟨h5.1,h5.2.imp id λ⟨g,cap,cur,h6,h7,h8⟩=>⟨g,cap,cur,h6,bp (bp hb0.size HZ.1) h7,h8⟩⟩
   clear HL Cz a1 a2 a3 tL;go_wp2;go_ret2
   refine⟨dV,_,_,rfl,λe=>absurd e (by rw[iE];have:=lN.2;omega),λ_ e=>absurd h0.o e,λ_ _=>⟨rfl,?_⟩⟩;rw[<- NI.o,U3.o];exact HO
 change U _ at h0
 clear h hT hn uv hsz hlen yv IZ;go_enter func13,ntmps13
 go_wp2_with fail
 refine aO HX.o ?_;intro e w1 he;obtain⟨hb1,ev,rfl,wF⟩:=he.1 h0;obtain⟨et,ex,rfl⟩:=wF.some h0;change U _ at hb1 wF
 clear he HX;go_wp2_with fail
 go_ret2
 exact⟨hb1.trans ((aS _ _).mono hb1.size),_,_,rfl,λe=>absurd e (by rw[iE];have:=lN.2;omega),λ_ _=>⟨rfl,mI.below wF (aS _ _)⟩,λ_ e=>absurd e h0⟩
def ju:aX:=⟨1,2,2,0,[]⟩
def CA:Bs:=[119,105,110,100,111,119,32,49,32,50,10,99,121,99,108,101,32,50,10,100,101,108,97,121,32,48,10]
def NJ:List Bs:=[[116,105,99,107,32,50],[107,105,99,107,115],[99,97,117,115,101],[99,111,110,102,105,103]]
def I1:List Bs:=[[111,107],[49],[110,111,116,104,105,110,103],[119,105,110,100,111,119,32,49,32,50,59,32,99,121,99,108,101,32,50,59,32,100,101,108,97,121,32,48]]
def NK:fK ju=CA:=by
 have d0:num 0=[48]:=by unfold num;rw[u6 (ar rfl)];rfl
 have d1:num 1=[49]:=by unfold num;rw[u6 (ar rfl)];rfl
 have d2:num 2=[50]:=by unfold num;rw[u6 (ar rfl)];rfl
 simp[fK,oJ,ju,CA,d0,d1,d2,a6,kw]
def ajt:gD a_ CA=((0,-1),ju):=by
 rw[<- NK];exact Ps TD (ar rfl) (by rw[NK];decide)
def aju:(aD.dM ju (aD.new ju (aI.new 4096)) 2).2=0/\(aD.dM ju (aD.new ju (aI.new 4096)) 2).1.d.fu=1:=by
 constructor<;>kernel_rfl
def ajv:(aD.dM ju (aD.new ju (aI.new 4096)) 2).1.L=(aD.new ju (aI.new 4096)).L:=by kernel_rfl
def U4:dp [5] [[50]]=J [2]:=by
 have d2:num 2=[50]:=by unfold num;rw[u6 (ar rfl)];rfl
 have:iC [50] 5=J 2:=by
  unfold iC;rw[aK (ar rfl),show Lib.atoi _=J 2 from by decide];show (if (2:Int)<0\/num 2≠[50]then I else J 2)=J 2
  rw[d2];rfl
 rw[dp,this];rfl
def ajw:ik [116,105,99,107,32,50]=2:=by
 unfold ik;rw[show eJ 32 _=[[116,105,99,107],[50]]from by decide];show (if gR [116,105,99,107]=J 3 then (((dp [5] [[50]]).getD []).getD 0 0).toNat else 0)=2
 rw[aU (ar rfl),U4];rfl
def ajx:aD.fR ju (aD.new ju (aI.new 4096)) [116,105,99,107,32,50]=oV (aD.dM ju (aD.new ju (aI.new 4096)) 2):=by
 have h1:dp (eH 3) _=J [2]:=U4;show aD.oh _ _ _=_
 rw[show eJ 32 _=[[116,105,99,107],[50]]from by decide,xE (show gR _=J 3 from by decide) h1];rfl
def ajy:pG ju=[119,105,110,100,111,119,32,49,32,50,59,32,99,121,99,108,101,32,50,59,32,100,101,108,97,121,32,48]:=by
 unfold pG;rw[NK];decide
def ajz(T:Nat->Bs):gS ju T (aD.new ju (aI.new 4096)) NJ=I1:=by
 have d1:num 1=[49]:=by unfold num;rw[u6 (ar rfl)];rfl
 have hL:(aD.new ju (aI.new 4096)).L=[]:=aif 4096 (ar rfl) (ar rfl);obtain⟨t1,t2⟩:=aju;have t3:=ajv.trans hL;unfold NJ gS;rw[ajx];unfold oV;generalize aD.dM ju (aD.new ju (aI.new 4096)) 2=p at t1 t2 t3;obtain⟨K2,j⟩:=p;simp only at t1 t2 t3;subst t1;have l1:aD.fR ju K2 [107,105,99,107,115]=(K2,[49],0):=by
  show aD.oh _ _ _=_
  rw[show eJ 32 _=[[107,105,99,107,115]]from by decide,xE (show gR _=J 7 from by decide) (show dp _ []=J []from rfl)];show (K2,num _,0)=_
  rw[t2];show (K2,num 1,0)=_
  rw[d1]
 have l2:aD.fR ju K2 [99,97,117,115,101]=(K2,D4,0):=by
  show aD.oh _ _ _=_
  rw[show eJ 32 _=[[99,97,117,115,101]]from by decide,xE (show gR _=J 11 from by decide) (show dp _ []=J []from rfl)];show (K2,sx _,0)=_
  rw[t3];rfl
 have l3:aD.fR ju K2 [99,111,110,102,105,103]=(K2,pG ju,0):=by
  show aD.oh _ _ _=_
  rw[show eJ 32 _=[[99,111,110,102,105,103]]from by decide,xE (show gR _=J 13 from by decide) (show dp _ []=J []from rfl)];rfl
 show nI T (K2,ua 0,0)::gS _ T K2 _=_
 unfold gS;rw[l1];show _::nI T (K2,[49],0)::gS _ T K2 _=_
 unfold gS;rw[l2];show _::_::nI T _::gS _ T K2 _=_
 unfold gS;rw[l3,ajy];rfl
def U5(l:List ByteArray)(sa sb:Option aC)(ca cb:Nat)(w:ak)(ha:bw ct 1 w (aj sa l.length ca) l)(hb:bw ct 1 w (aj sb l.length cb) l)(hn:l.length<=1000000):Calls prog 14 #[aj sa l.length ca,aj sb l.length cb] w λe w'=>e=ax (aL true)/\Below w.heap.size w w':=by
 have HA:U (bw _ 1 w _ l):=ha;have HB:U (bw _ 1 w _ l):=hb;go_enter func14,ntmps14
 go_wp2_with fail
 go_loopw [5] (λi wr=>∃k:Nat,k<=l.length/\i=ae af k/\Below w.heap.size w wr) (λi _=>l.length-(intOf i).toNat)
 case atStart=>exact⟨0,bA _,rfl,aF _ _⟩
 case round=>
  obtain⟨k,hk,rfl,(hbr:U _)⟩:=hrel
  by_cases hlt:k<l.length
  ·have k1:(k:Int)<(l.length:Int):=by omega
   obtain⟨x,hx⟩:∃x,l[k]?=J x:=⟨_,bq hlt⟩;obtain⟨g,o,rfl,hc⟩:=pI (HA.below hbr) hx;have c0:=hc k x hx;obtain⟨g2,o2,rfl,hc2⟩:=pI (HB.below hbr) hx;have c1:=hc2 k x hx;go_wp2_with fail
   go_quiet (fail)
   go_wp2
   go_roundw
   case rel=>exact⟨k+1,by omega,by go_num,br hbr _⟩
   case measure=>simp[intOf];omega
  have k1:¬(k:Int)<(l.length:Int):=by omega
  go_wp2;go_ret;exact⟨rfl,hbr⟩
def U6(w:ak)(xs:List ByteArray):bw ct 1 (w.alloc (ay (xs.map Value.string).toArray 9)) (aj (J (ai w.heap.size 0 I)) xs.length xs.length) xs:=by
 refine⟨_,_,rfl,aR _,λ_=>⟨_,_,rfl,λi x hx j u hu=>?_⟩⟩;have hj:j=0/\u=aA x:=by
  cases j with
  |zero=>exact⟨rfl,(fg hu).symm⟩
  |succ j=>simp[ct]at hu
 obtain⟨rfl,rfl⟩:=hj;have h1:=cj w (ay (xs.map Value.string).toArray 9);simp only[aH,h1];simp[hx]
def ajA(A:Nat->aC)(T:Nat->Bs)(w:ak)(h:wu A w)(hT:∀i,i<11->w.cell? (A i)=J (aA ⟨(T (i+1)).toArray⟩)):Calls prog 4 #[] w λe w'=>e=ax (aL true)/\Below w.heap.size w w':=by
 obtain⟨W,hW⟩:∃V,V=w.alloc (ay #[aA ⟨#[116,105,99,107,32,50]⟩,aA ⟨#[107,105,99,107,115]⟩,aA ⟨#[99,97,117,115,101]⟩,aA ⟨#[99,111,110,102,105,103]⟩] 9):=⟨_,rfl⟩;have hb:Below w.heap.size w W:=by rw[hW];exact aS _ _
 have bH:bw ct 1 W (aj (J (ai w.heap.size 0 I)) 4 4) [⟨#[116,105,99,107,32,50]⟩,⟨#[107,105,99,107,115]⟩,⟨#[99,97,117,115,101]⟩,⟨#[99,111,110,102,105,103]⟩]:=by rw[hW];exact U6 w [⟨_⟩,⟨_⟩,⟨_⟩,⟨_⟩]
 have HX:U (Calls prog 13 #[aA ⟨#[119,105,110,100,111,119,32,49,32,50,10,99,121,99,108,101,32,50,10,100,101,108,97,121,32,48,10]⟩,aj (J (ai w.heap.size 0 I)) 4 4] W λe w'=>Below W.heap.size W w'/\∃av,e=ax (bn #[av,.nilIface])/\bI ct 1 9 W.heap.size w' av (lu I1)):=by
  have h1:=U0 A T ⟨CA.toArray⟩ [⟨_⟩,⟨_⟩,⟨_⟩,⟨_⟩] _ 4 W (h.below hb) (λi hi=>aJ hb (hT i hi)) (ar rfl) bH (by
   intro l hl;simp only[fe,jL,j4]at hl
   rcases hl with rfl|rfl|rfl|rfl<;>decide) (ar rfl) (by
   have d2:=ajw;show ik [116,105,99,107,32,50]+(ik [107,105,99,107,115]+(ik [99,97,117,115,101]+(ik [99,111,110,102,105,103]+0)))<=800000
   rw[d2];decide)
  refine aO h1 ?_;rintro e w' ⟨h2,av,ev,rfl,-,-,h3⟩;have e1:bl ⟨CA.toArray⟩=CA:=by simp[bl]
  rw[e1,ajt]at h3;obtain⟨rfl,h4⟩:=h3 (ar rfl) rfl
  refine⟨h2,av,rfl,?_⟩;have h5:=ajz T;unfold NJ at h5;have h6:bI _ 1 9 _ w' av (lu (gS ju T (aD.new ju _) [[116,105,99,107,32,50],[107,105,99,107,115],[99,97,117,115,101],[99,111,110,102,105,103]])):=h4;rw[h5]at h6;exact h6
 change U _ at hb
 go_enter func4,ntmps4
 go_wp2_with (go_at_call 13;rw[<- hW];refine aO HX.o ?_)
 rintro e w1 ⟨hb1,av,rfl,how⟩;have bu:U _:=hb.trans (hb1.mono hb.size);obtain⟨sa,sc,rfl⟩:=iB how;obtain⟨V,hV⟩:∃V,V=w1.alloc (ay #[aA ⟨#[111,107]⟩,aA ⟨#[49]⟩,aA ⟨#[110,111,116,104,105,110,103]⟩,aA ⟨#[119,105,110,100,111,119,32,49,32,50,59,32,99,121,99,108,101,32,50,59,32,100,101,108,97,121,32,48]⟩] 9):=⟨_,rfl⟩;have ou:Below w1.heap.size w1 V:=by rw[hV];exact aS _ _
 have HS:U (Calls _ 14 #[aj sa 4 sc,aj _ 4 4] V λe w'=>e=ax _/\Below _ V w'):=
  U5 (lu I1) sa (J (ai w1.heap.size 0 I)) sc 4 V ((how.jz (λ_=>rfl)).below ou) (by rw[hV];exact U6 w1 _) (ar rfl)
 have nY:U _:=bu.trans (ou.mono bu.size);have hl4:(lu I1).length=4:=rfl;rw[hl4];go_wp2_with (go_at_call 14;rw[<- hV];refine aO HS.o ?_)
 rintro e w2 ⟨rfl,hb2⟩;go_wp2;go_ret;exact⟨rfl,nY.trans (hb2.mono nY.size)⟩
def wI(w:ak)(v:aw)(L:List (ByteArray×List Int)):Prop:=
 ∃sa cap,v=aj sa L.length cap/\(L≠[]->∃b o,sa=J ⟨b,o,I⟩/\∀i x,L[i]?=J x->∃na nc,bw bT 1 w (aj na x.2.length nc) x.2/\w.cell? ⟨b,o+i*2,I⟩=J (aA x.1)/\w.cell? ⟨b,o+i*2+1,I⟩=J (aj na x.2.length nc))
def wI.below{L:List (ByteArray×List Int)}(h:wI w v L)(hb:Below w.heap.size w w'):wI w' v L:=by
 obtain⟨sa,cap,h1,h2⟩:=h
 refine⟨sa,cap,h1,λhne=>?_⟩;obtain⟨b,o,h3,h4⟩:=h2 hne
 refine⟨b,o,h3,λi x hx=>?_⟩;obtain⟨na,nc,h5,h6,h7⟩:=h4 i x hx;exact⟨na,nc,h5.below hb,aJ hb h6,aJ hb h7⟩
def wI.at{L:List (ByteArray×List Int)}(h:wI w (aj sa L.length cap) L){x:ByteArray×List Int}(hx:L[i]?=J x):∃b o na nc,sa=J ⟨b,o,I⟩/\bw bT 1 w (aj na x.2.length nc) x.2/\w.cell? ⟨b,o+i*2,I⟩=J (aA x.1)/\w.cell? ⟨b,o+i*2+1,I⟩=J (aj na x.2.length nc):=by
 obtain⟨bQ,cap',h1,h2⟩:=h
 cases h1
 obtain⟨b,o,h3,h4⟩:=h2 (λe=>by subst e;simp at hx);obtain⟨na,nc,h5,h6,h7⟩:=h4 i x hx;exact⟨b,o,na,nc,h3,h5,h6,h7⟩
open Go.ChangeAt Go.Deep Go.WideShapes
def ajB{enc:TypeId×aw->H}(n:Nat)(cs:List aw)(x:DataW H×List MemPlace)(h:DataW.trod enc prog W 0 (λ_=>true) true n 46 cs=J x):∃z:ByteArray×List Int,∃na nc,cs=[.string z.1,.slice na z.2.length nc]/\bw bT 1 W (.slice na z.2.length nc) z.2:=by
 obtain⟨xs,m,-,-,hl,kf,hf⟩:=DataW.trod_struct underlying46 h;rw[show prog.cellsOf 46=2 by kernel_rfl]at hl
 match cs,hl with
 |[c0,c1],_=>
  have g:∀i,i<2->∃y,xs[i]?=J y:=λi hi=>⟨xs[i]'(by rw[kf];exact hi),bq _⟩
  obtain⟨y0,k0⟩:=g 0 (ar rfl);obtain⟨y1,k1⟩:=g 1 (ar rfl);have e0:DataW.trod enc prog W 0 (λ_=>true) true m 9 [c0]=J y0:=by have e:=hf 0 _ rfl;rw[k0]at e;simpa[iZ]using e
  have e1:DataW.trod enc prog W 0 (λ_=>true) true m 44 [c1]=J y1:=by have e:=hf 1 _ rfl;rw[k1]at e;simpa[iZ]using e
  obtain⟨n0,q0,-,-⟩:=DataW.trod_string underlying9 e0;obtain⟨l,h1⟩:=DZ (0:Int) (ec:=bT) underlying44 iZ.1 (ar rfl) KJ e1;obtain⟨na,nc,rfl,-⟩:=id h1;simp at q0
  subst q0;exact⟨(n0,l),na,nc,rfl,h1⟩
def ajC{enc:TypeId×aw->H}{x:DataW H×List MemPlace}(h:DataW.trod enc prog W 0 (λ_=>true) true fuel 25 [v]=J x):∃sa sc,∃L:List (ByteArray×List Int),v=.slice sa L.length sc/\wI W (.slice sa L.length sc) L:=by
 obtain⟨sa,cap,xs,hcs,hl,hx⟩:=GK ((ByteArray.empty,[]):ByteArray×List Int) (Q:=λcs z=>∃na nc,cs=[.string z.1,.slice na _ nc]/\bw _ 1 W _ z.2) underlying25 (show prog.cellsOf 46=2 by kernel_rfl) (ar rfl) ajB h;simp only[List.cons.injEq,rh]at hcs
 refine⟨sa,cap,xs,hcs,sa,cap,rfl,λhne=>?_⟩;obtain⟨b,o,h1,h2⟩:=hx hne
 refine⟨b,o,h1,λi y hy=>?_⟩;obtain⟨cs',⟨na,nc,rfl,h3⟩,h4⟩:=h2 i y hy;exact⟨na,nc,h3,h4 0 _ rfl,h4 1 _ rfl⟩
def ajD:prog.cellsOf 24=5:=by kernel_rfl
def Fq:prog.cellsOf 22=1:=by kernel_rfl
def ajE{enc:TypeId×aw->H}{x:DataW H×List MemPlace}(h:DataW.trod enc prog W 0 (λ_=>true) true fuel 22 [v]=J x):∃sa sc,∃es:List aM,v=.slice sa es.length sc/\eU W (.slice sa es.length sc) es:=by
 obtain⟨sa,cap,xs,hcs,hl,hx⟩:=GK (⟨ByteArray.empty,0,[],0,0,0,[],[],[],[]⟩:aM) (Q:=λcs e=>∃pv gv ev fv lv,cs=(nU e pv gv ev fv lv).toList/\fh W e pv gv ev fv lv) underlying22 QY (ar rfl) abZ h;simp only[List.cons.injEq,rh]at hcs
 refine⟨sa,cap,xs,hcs,sa,cap,rfl,λhne=>?_⟩;obtain⟨b,o,h1,h2⟩:=hx hne
 refine⟨b,o,h1,λi y hy=>?_⟩;obtain⟨cs',⟨pv,gv,ev,fv,lv,rfl,h3⟩,h4⟩:=h2 i y hy;exact⟨pv,gv,ev,fv,lv,h3,λj u hu=>h4 j u (by rw[qR];exact hu)⟩
def ajF{enc:TypeId×aw->H}{n:Nat}{cs:List aw}{x:DataW H×List MemPlace}(h:DataW.trod enc prog W 0 (λ_=>true) true n 24 cs=J x):∃(c:aX) (sa:Option aC) (sc:Nat),cs=[.int .i64 c.closed,.int .i64 c.opn,.int .i64 c.cycle,.int .i64 c.bE,.slice sa c.az.length sc]/\eU W (.slice sa c.az.length sc) c.az:=by
 obtain⟨xs,m,-,-,hl,kf,hf⟩:=DataW.trod_struct underlying24 h;rw[ajD]at hl
 match cs,hl with
 |[c0,c1,c2,c3,c4],_=>
  have g:∀i,i<5->∃y,xs[i]?=J y:=λi hi=>⟨xs[i]'(by rw[kf];exact hi),bq _⟩
  obtain⟨y0,k0⟩:=g 0 (ar rfl);obtain⟨y1,k1⟩:=g 1 (ar rfl);obtain⟨y2,k2⟩:=g 2 (ar rfl);obtain⟨y3,k3⟩:=g 3 (ar rfl);obtain⟨y4,k4⟩:=g 4 (ar rfl);have e0:DataW.trod enc prog W 0 (λ_=>true) true m 3 [c0]=J y0:=by have e:=hf 0 _ rfl;rw[k0]at e;simpa[iZ,Fq]using e
  have e1:DataW.trod enc prog W 0 (λ_=>true) true m 3 [c1]=J y1:=by have e:=hf 1 _ rfl;rw[k1]at e;simpa[iZ,Fq]using e
  have e2:DataW.trod enc prog W 0 (λ_=>true) true m 3 [c2]=J y2:=by have e:=hf 2 _ rfl;rw[k2]at e;simpa[iZ,Fq]using e
  have e3:DataW.trod enc prog W 0 (λ_=>true) true m 3 [c3]=J y3:=by have e:=hf 3 _ rfl;rw[k3]at e;simpa[iZ,Fq]using e
  have e4:DataW.trod enc prog W 0 (λ_=>true) true m 22 [c4]=J y4:=by have e:=hf 4 _ rfl;rw[k4]at e;simpa[iZ,Fq]using e
  obtain⟨n0,q0,-,-⟩:=oU underlying3 e0;obtain⟨n1,q1,-,-⟩:=oU underlying3 e1;obtain⟨n2,q2,-,-⟩:=oU underlying3 e2;obtain⟨n3,q3,-,-⟩:=oU underlying3 e3;obtain⟨sa,sc,es,rfl,h4⟩:=ajE e4;simp at q0 q1 q2 q3
  subst q0 q1 q2 q3;exact⟨⟨n0,n1,n2,n3,es⟩,sa,sc,rfl,h4⟩
def Aq:Nat->Bs
 |1=>[116,101,120,116]
 |2=>[98,111,117,110,100]
 |3=>[115,104,97,112,101]
 |4=>[110,97,109,101]
 |5=>[110,111,110,101]
 |6=>[101,120,105,115,116]
 |7=>[102,117,108,108]
 |8=>[111,102,102]
 |9=>[105,100,108,101]
 |10=>[104,101,108,100]
 |_=>[114,101,115,101,116]
def lW(j:Nat):Bs:=[110,105,103,104,116,119,97,116,99,104,58,32]++Aq j
def tr(j:Nat):ByteArray:=⟨(lW j).toArray⟩
def ajG(j:Nat)(W:ak):(Op.stringOp .add ⟨#[110,105,103,104,116,119,97,116,99,104,58,32]⟩ ⟨(Aq j).toArray⟩:Sem _).run prog W=.ok (aA (tr j)) W:=by
 have h:(Aq j).length<=5:=by unfold Aq;split<;>decide
 have e:(⟨#[110,105,103,104,116,119,97,116,99,104,58,32]⟩:ByteArray)++⟨(Aq j).toArray⟩=tr j:=UU [110,105,103,104,116,119,97,116,99,104,58,32] _;rw[pT _ _ (by show 12+(Aq j).toArray.size<=_;rw[rV];omega),e]
def U7(j:Nat)(h1:1<=j)(h2:j<=11)(w:ak):Calls prog 31 #[ae af (j:Int)] w λe w'=>e=ax (aA (tr j))/\Below w.heap.size w w':=by
 have ha:=ajG j;generalize tr j=E at ha⊢;have h3:j=1\/j=2\/j=3\/j=4\/j=5\/j=6\/j=7\/j=8\/j=9\/j=10\/j=11:=by omega
 rcases h3 with rfl|rfl|rfl|rfl|rfl|rfl|rfl|rfl|rfl|rfl|rfl
 all_goals
  simp only[Aq]at ha;go_enter func31,ntmps31
  go_wp2;go_ret;exact⟨rfl,aS _ _⟩
def mX(e:Nat):ByteArray:=if e=0 then ⟨Rh.toArray⟩else tr e
def ajH(p:aD×Nat):mX p.2=⟨(nI lW (oV p)).toArray⟩:=by
 unfold mX nI oV ua tr
 by_cases h:p.2=0
 ·simp only[h,if_true]
 simp only[h,if_false]
def CB(j:Nat)(h:j<=11)(w:ak):Calls prog 26 #[ae af (j:Int)] w λe w'=>e=ax (aA (mX j))/\Below w.heap.size w w':=by
 by_cases h0:j=0
 ·subst h0;have HE:U (mX 0=⟨#[111,107]⟩):=rfl;go_enter func26,ntmps26
  go_wp2;go_ret;exact⟨by rw[HE.o];rfl,aF _ _⟩
 have HE:U (mX j=tr j):=aK h0;have HC:U _:=U7 j (by omega) h w;have g0:0<(j:Int):=by omega
 go_enter func26,ntmps26
 go_wp2_with fail
 refine aO HC.o ?_;rintro e w1 ⟨rfl,hb⟩;go_wp2;go_ret;exact⟨by rw[HE.o];rfl,hb⟩
def U8:∀(l:Bs) (acc m:Nat) (b:UInt8) (d:Nat),Lib.decFrom acc l=J m->Lib.digitVal b=J d->Lib.decFrom acc (l++[b])=J (m*10+d)
 |[],acc,m,b,d,h,hd=>by
  simp only[Lib.decFrom,dJ]at h;subst h;simp[Lib.decFrom,hd]
 |a::l,acc,m,b,d,h,hd=>by
  simp only[Lib.decFrom,pY]at h⊢
  cases ha:Lib.digitVal a with
  |none=>simp[ha]at h
  |some e=>
   simp only[ha]at h⊢;exact U8 l _ m b d h hd
def U9(d:Nat)(h:d<10):Lib.digitVal (UInt8.ofNat (48+d))=J d:=by
 unfold Lib.digitVal;rw[CO d h,aU ⟨by omega,by omega⟩];congr 1
 omega
def ajI(u:Nat):Lib.decFrom 0 (fx u)=J u:=by
 induction u using Nat.strongRecOn with
 |ind u ih=>
  by_cases h:u<10
  ·rw[u6 h,Lib.decFrom,U9 u h];show J (0*10+u)=_
   rw[Nat.zero_mul,lD]
  rw[Jo h,U8 _ _ _ _ _ (ih _ (by omega)) (U9 _ (by omega))];congr 1
  omega
def ajJ(h:0<=n):Lib.atoi (num n)=J n:=by
 have hd:=ajI n.toNat;have hn:=(tC n.toNat).2.2.1;unfold num
 cases hu:fx n.toNat with
 |nil=>exact absurd hu hn
 |cons x t=>
  rw[hu]at hd;obtain⟨d,hx⟩:=Lib.digit_of_decFrom _ _ _ hd 0 x rfl;have h1:=(Lib.digitVal_eq hx).1;have ajK:¬(x==45)=true:=λe=>by have:=qw.1 e;subst this;revert h1;decide
  have ajL:¬(x==43)=true:=λe=>by have:=qw.1 e;subst this;revert h1;decide
  rw[Lib.atoi,aK ajK,aK ajL,Lib.decNat,aK (by simp),hd];simp
  omega
def I2{d:Int}(h:0<=n)(hd:((num n).length:Int)<=d):iC (num n) d=J n:=by
 unfold iC;rw[aK (by omega),ajJ h];show (if n<0\/num n≠num n then I else J n)=_
 rw[aK (λe=>e.elim (λe=>by omega) (λe=>e rfl))]
def I3(k:Nat)(h:n<10^(k+1)):(num n).length<=k+1:=(tC n.toNat).2.2.2.2 k (by
 have:((10^(k+1):Nat):Int)=10^(k+1):=by simp
 have h2:0<10^(k+1):=Nat.pow_pos (ar rfl);omega)
def ajM(h:lV wd N=J t):∃k,k<14/\wd=og k/\N.length=(eH k).length/\(∀n∈N,0<=n/\n<=99999)/\∀(c:aX) (K:aD),K.fR c t=K.cW c N k:=by
 obtain⟨k,hk,hl,hb,-,hc⟩:=NG h;obtain⟨sF,hw⟩:=xD hk
 refine⟨k,sF,hw.symm,hl,hb,λc K=>?_⟩;unfold aD.fR;rw[hc]
 refine xE hk ?_;unfold lV at h;rw[hk]at h;simp only at h;rw[aU hl]at h
 cases hr:jV (rI k) 0 N with
 |none=>rw[hr]at h;cases h
 |some r=>
  have g1:∀n,eH k=[1]->rI k=9->N=[n]->dp (eH k) (N.map num)=J N:=λn e1 e2 e3=>by
   subst e3;have h9:n<=9:=Classical.byContradiction λhb2=>by rw[e2,jV,aU (aN (by rw[aU rfl];omega))]at hr;cases hr
   have h0:=hb n (nQ ..);rw[e1];simp only[qO,List.map_nil,dp];rw[I2 h0.1 (by have:=I3 (n:=n) 0 (by omega);omega)];rfl
  have g5:∀n,eH k=[5]->N=[n]->dp (eH k) (N.map num)=J N:=λn e1 e3=>by
   subst e3;have h0:=hb n (nQ ..);rw[e1];simp only[qO,List.map_nil,dp];rw[I2 h0.1 (by have:=I3 (n:=n) 4 (by omega);omega)];rfl
  have one:(eH k).length=1->∃n,N=[n]:=λe=>by
   rw[e]at hl
   match N,hl with
   |[n],_=>exact⟨n,rfl⟩
  have nil:eH k=[]->dp (eH k) (N.map num)=J N:=λe=>by
   rw[e]at hl⊢;have:=kV hl;subst this;rfl
  have h3:k=0\/k=1\/k=2\/k=3\/k=4\/k=5\/k=6\/k=7\/k=8\/k=9\/k=10\/k=11\/k=12\/k=13:=by omega
  rcases h3 with rfl|rfl|rfl|rfl|rfl|rfl|rfl|rfl|rfl|rfl|rfl|rfl|rfl|rfl
  case inl=>obtain⟨n,e⟩:=one rfl;exact g1 n rfl rfl e
  case inr.inl=>obtain⟨n,e⟩:=one rfl;exact g1 n rfl rfl e
  case inr.inr.inl=>
   match N,hl with
   |[n,m],_=>
    have h9:n<=9:=Classical.byContradiction λhb2=>by rw[show rI 2=9 from rfl,jV,aU (aN (by rw[aU rfl];omega))]at hr;cases hr
    have h0:=hb n (nQ ..);have h1:=hb m (rO _ (nQ ..));rw[show eH 2=[1,5]from rfl];simp only[qO,List.map_nil,dp];rw[I2 h0.1 (by have:=I3 (n:=n) 0 (by omega);omega),I2 h1.1 (by have:=I3 (n:=m) 4 (by omega);omega)];rfl
  case inr.inr.inr.inl=>obtain⟨n,e⟩:=one rfl;exact g5 n rfl e
  case inr.inr.inr.inr.inl=>obtain⟨n,e⟩:=one rfl;exact g5 n rfl e
  case inr.inr.inr.inr.inr.inr.inr.inr.inl=>obtain⟨n,e⟩:=one rfl;exact g1 n rfl rfl e
  all_goals exact nil rfl
def ajN(r:Rec):gm r=num r.seq++[32]++num r.cf++[32]++num r.kind++[32]++num r.tick:=by
 unfold gm;rw[Lib.join_cons];simp[Lib.joinTail]
def wJ(L:List Rec):Bs:=Lib.join (L.map gm) [44,32]
def ajO{r:Rec}(h:L[i]?=J r):wJ (L.take (i+1))=(if i=0 then []else wJ (L.take i)++[44,32])++gm r:=by
 unfold wJ
 cases L with
 |nil=>cases h
 |cons x L=>
  cases i with
  |zero=>
   simp only[List.getElem?_cons_zero,dJ]at h;subst h;simp[Lib.join_one]
  |succ i=>
   rw[List.getElem?_cons_succ]at h;simp only[List.take_succ_cons,qO,Lib.join_cons];rw[List.map_take,Lib.joinTail_take_succ _ _ i (gm r) (by rw[gY,h];rfl),<- List.map_take,aK (by omega)];simp
def NL(c:UInt8)(new:Bs):∀l:Bs,(∀b∈l,b≠c)->l.flatMap (λb=>if b=c then new else [b])=l
 |[],_=>rfl
 |b::l,h=>by
  rw[mD,aK (h b (nQ ..)),NL c new l (λx hx=>h x (rO _ hx))];rfl
def ajP(c:UInt8)(new:Bs)(n:Nat):∀s:Bs,s.length<=n->Lib.replaceK [c] new (Lib.count s [c]) s=s.flatMap (λb=>if b=c then new else [b]):=by
 induction n with
 |zero=>
  intro s hs;obtain rfl:s=[]:=kV (by omega);rw[Lib.count_one];rfl
 |succ n ih=>
  intro s hs
  rcases Lib.index_spec s [c]with⟨h,hno⟩|⟨i,h,hi,ho,hno⟩
  ·rw[Lib.count_miss h,NL c new s (λb hm e=>?_)]
   ·rfl
   obtain⟨j,hj,e2⟩:=su hm;have:=hno j (by omega);have h2:=(zr s c j).2 (by rw[bq hj,e2,e]);rw[this]at h2
   cases h2
  obtain⟨Bt,hcv⟩:=df.1 ((zr s c i).1 ho);have e1:s.take i++c::s.drop (i+1)=s:=by
   have:s.drop i=c::s.drop (i+1):=by rw[lX Bt,hcv]
   rw[<- this,rf]
  have hc:∀b∈s.take i,b≠c:=λb hm e=>by
   obtain⟨j,hj,e2⟩:=su hm;have KV:j<i:=by rw[eQ]at hj;omega
   have h2:=(zr s c j).2 (by rw[List.getElem_take]at e2;rw[bq (by omega),e2,e]);have:=hno j KV;rw[this]at h2
   cases h2
  rw[Lib.count_hit (by simp) h,Nat.add_comm 1,Lib.replaceK_hit _ _ _ _ _ h];show s.take i++new++Lib.replaceK [c] new (Lib.count (s.drop (i+1)) [c]) (s.drop (i+1))=_
  rw[ih _ (by rw[yK];omega)];have e2:(s.take i++c::s.drop (i+1)).flatMap (λb=>if b=c then new else [b])=s.take i++new++(s.drop (i+1)).flatMap (λb=>if b=c then new else [b]):=by
   rw[ji,NL c new _ hc,mD,aU rfl,gh]
  rw[e1]at e2;exact e2.symm
def wK(s:Bs):Bs:=s.flatMap (λb=>if b=10 then [59,32]else [b])
def U_{b:UInt8}(h:s[i]?=J b):wK (s.take (i+1))=wK (s.take i)++if b=10 then [59,32]else [b]:=by
 unfold wK;rw[eI,h,ji];simp
def ajQ(c:aX):∃t,fK c=t++[10]:=by
 unfold fK;have:∀l:List Bs,l≠[]->∃t:Bs,l.flatMap (λl=>l++[10])=t++[10]:=λl=>by
  induction l with
  |nil=>intro h;exact absurd rfl h
  |cons a l ih=>
   intro _
   cases l with
   |nil=>exact⟨a,by simp⟩
   |cons b l=>
    obtain⟨t,ht⟩:=ih (by simp);exact⟨a++[10]++t,by rw[mD,ht];simp⟩
 exact this _ (by unfold oJ;simp)
def ajR(c:aX):pG c=wK ((fK c).take ((fK c).length-1)):=by
 obtain⟨t,ht⟩:=ajQ c;unfold pG;rw[ht];have h1:Lib.trimSuffix (t++[10]) [10]=t:=by
  unfold Lib.trimSuffix;have:Lib.hasSuffix (t++[10]) [10]=true:=by unfold Lib.hasSuffix;simp
  rw[aU this];simp
 have h2:(t++[10]).take ((t++[10]).length-1)=t:=by simp
 rw[h1,h2];unfold Lib.replaceAll Lib.replace;rw[aK (ar rfl)];unfold Lib.replaceNum;rw[aU (aT (ar rfl)),ajP 10 _ _ _ (aR _)];rfl
def one_byte(s:ByteArray)(k:Nat)(h:k<s.size):bl (s.extract k (k+1))=[(bl s).getD k 0]:=by
 have hl:k<s.data.toList.length:=by rw[pj];exact h
 unfold bl;rw[xh];rw[fp,bq hl];rw[show k+1-k=1 by omega,lX hl];rfl
def ajS(s:ByteArray)(k:Nat)(h:k<s.size)(W:ak):(Instr.slice 9 (aA s) (J (ae af (k:Int))) (J (ae af ((k:Int)+1))) I).run prog W=.ok (aA (s.extract k (k+1))) W:=by
 rw[run_slice_string W 9 s af af _ _ underlying9 (by omega) (by omega) (by omega)];rw[show ((k:Int)+1).toNat=k+1 by omega,Int.toNat_natCast]
def ajT(x:ByteArray)(w:ak)(h1:1<=x.size)(h2:x.size<=1000000000):Calls prog 34 #[aA x] w λe w'=>e=ax (aA ⟨(wK ((bl x).take (x.size-1))).toArray⟩)/\w'=w:=by
 go_enter func34,ntmps34
 go_wp2_with fail
 go_loopw [3,4] (λsv kv wv=>∃(j:Nat) (y:ByteArray),j+1<=x.size/\kv=ae af j/\sv=aA y/\U (bl y=wK ((bl x).take j))/\U (y.size<=2*j)/\wv=w) (λ_ k _=>x.size-(intOf k).toNat)
 case atStart=>exact⟨0,⟨#[]⟩,h1,rfl,rfl,rfl,aR _,rfl⟩
 case round=>
  obtain⟨j,y,hj,rfl,rfl,HY,HZ,rfl⟩:=hrel;rename ak=>wx
  have k0:(j:Int)+1=((j+1:Nat):Int):=by omega
  by_cases hl2:j+1<x.size
  ·have k2:(j:Int)+1<(x.size:Int):=by omega
   have k3:(j:Int)<(x.size:Int):=by omega
   have k4:(0:Int)<=(j:Int):=by omega
   have Fs:j<x.size:=by omega
   have hby:x[j]=(bl x).getD j 0:=byte_at x j Fs;have Fu:(bl x)[j]?=J x[j]:=by rw[hby,fp,bq (by unfold bl;rw[pj];exact Fs)];rfl
   have Ar:U (bl (x.extract j (j+1))=[x[j]]):=by rw[hby];exact one_byte x j Fs
   have bH:=ajS x j Fs;change U _ at Fu
   clear hby;generalize ki:x[j]=bb at *;have hz:=HZ.o
   by_cases e:bb=10
   ·have e1:((bb.toNat:Int)==10)=true:=by rw[e];rfl
    have ha:=run_string_add_sum (P:=prog) wx y ⟨#[59,32]⟩ (by show y.size+2<=_;omega);have rE:U (bl (y++⟨#[59,32]⟩)=wK ((bl x).take (j+1))):=by show _=_;rw[U_ Fu.o,aU e,<- HY.o];simp[bl]
    have wL:U ((y++⟨#[59,32]⟩:ByteArray).size<=2*(j+1)):=by show _<=_;rw[o_];show y.size+2<=_;omega
    clear e Ar Fu HY HZ bH hz k0;go_wp2
    go_roundw
    case rel=>exact⟨j+1,(y++⟨#[59,32]⟩:ByteArray),by omega,by go_num,rfl,rE,wL,trivial⟩
    case measure=>simp[intOf];omega
   have e1:((bb.toNat:Int)==10)=false:=by
    rw[gX];intro h;exact e (UInt8.toNat_inj.1 (by simpa using Int.ofNat_inj.1 h))
   have o7:U ((x.extract j (j+1)).size=1):=by
    have h2:=nh List.length Ar;unfold bl at h2;rw[pj]at h2;exact h2
   have ha:=run_string_add_sum (P:=prog) wx y (x.extract j (j+1)) (by have:=o7.o;omega);have rE:U (bl (y++x.extract j (j+1))=wK ((bl x).take (j+1))):=by show _=_;rw[U_ Fu.o,aK e,<- HY.o,show bl (y++x.extract j (j+1))=bl y++bl (x.extract j (j+1)) by simp[bl],Ar.o]
   have wL:U ((y++x.extract j (j+1):ByteArray).size<=2*(j+1)):=by show _<=_;rw[o_,o7.o];omega
   clear e Ar Fu HY HZ hz k0;go_wp2
   go_roundw
   case rel=>exact⟨j+1,y++x.extract j (j+1),by omega,by go_num,rfl,rE,wL,trivial⟩
   case measure=>simp[intOf];omega
  obtain rfl:j=x.size-1:=by omega
  have k2:¬((x.size-1:Nat):Int)+1<(x.size:Int):=by omega
  have HE:U (y=⟨(wK ((bl x).take (x.size-1))).toArray⟩):=oK (by rw[HY.o];simp[bl]);clear HY HZ k0;go_wp2;go_ret;exact⟨by rw[HE.o];rfl,rfl⟩
def kT(n:Nat):ByteArray:=⟨(fx n).toArray⟩
def I4{n:Nat}(h:n<281474976710656):(kT n).size<=100:=by
 have:=(tC n).2.2.2.2 14 (by omega);show (fx n).toArray.size<=100
 rw[rV];omega
def ajU(r:Rec):kT r.seq++⟨#[32]⟩++kT r.cf++⟨#[32]⟩++kT r.kind++⟨#[32]⟩++kT r.tick=⟨(gm r).toArray⟩:=by
 rw[ajN];apply ByteArray.ext
 simp[tq,kT,num]
def U'(r:Rec)(w:ak)(hr:ll r):Calls prog 35 #[bK #[ae af (r.seq:Int),ae af (r.cf:Int),ae af (r.kind:Int),ae af (r.tick:Int)]] w λe w'=>e=ax (aA ⟨(gm r).toArray⟩)/\Below w.heap.size w w':=by
 obtain⟨W,hW⟩:∃V,V=w.alloc (ay #[ae af (r.seq:Int),ae af (r.cf:Int),ae af (r.kind:Int),ae af (r.tick:Int)] 97):=⟨_,rfl⟩;have cx:U (Below w.heap.size w W):=by show Below _ _ _;rw[hW];exact aS _ _
 have HK:U (∀V,Below W.heap.size W V->V.cell? (ai w.heap.size 0 I)=J (ae af (r.seq:Int))/\V.cell? (ai w.heap.size 1 I)=J (ae af (r.cf:Int))/\V.cell? (ai w.heap.size 2 I)=J (ae af (r.kind:Int))/\V.cell? (ai w.heap.size 3 I)=J (ae af (r.tick:Int))):=λV hV=>by
  have:=a8 hV (show W.heap[w.heap.size]?=_ by rw[hW];exact cj w _)
  refine⟨?_,?_,?_,?_⟩<;>simp[aH,this]
 have uN:U (∀(n:Nat) V,Below W.heap.size W V->n<281474976710656->Calls prog 23 #[ae af (n:Int)] V λe w'=>e=ax (aA (kT n))/\Below W.heap.size W w'):=λn V hV hn=>(Cy n V (by omega)).mono λe w' h=>⟨h.1,hV.trans (h.2.mono hV.size)⟩
 obtain⟨b0,b1,b2,r3⟩:=hr;have r0:r.seq<281474976710656:=by omega
 have r1:r.cf<281474976710656:=by omega
 have r2:r.kind<281474976710656:=by omega
 have z0:=I4 r0;have z1:=I4 r1;have z2:=I4 r2;have z3:=I4 r3;have lz:(⟨#[32]⟩:ByteArray).size=1:=rfl;have p0:=pT (kT r.seq) ⟨#[32]⟩ (by omega);have p1:=pT (kT r.seq++⟨#[32]⟩) (kT r.cf) (by simp only[o_];omega);have p2:=pT (kT r.seq++⟨#[32]⟩++kT r.cf) ⟨#[32]⟩ (by simp only[o_];omega);have p3:=pT (kT r.seq++⟨#[32]⟩++kT r.cf++⟨#[32]⟩) (kT r.kind) (by simp only[o_];omega);have p4:=pT (kT r.seq++⟨#[32]⟩++kT r.cf++⟨#[32]⟩++kT r.kind) ⟨#[32]⟩ (by simp only[o_];omega);have p5:=pT (kT r.seq++⟨#[32]⟩++kT r.cf++⟨#[32]⟩++kT r.kind++⟨#[32]⟩) (kT r.tick) (by simp only[o_];omega);have HR:U _:=ajU r;clear z0 z1 z2 z3 lz b0 b1 b2;obtain⟨s0,s1,s2,s3⟩:=HK W (aF _ _);go_enter func35,ntmps35
 go_upto_region 1 with fail
 rw[<- hW];clear hW;go_region_held3 (λw'=>w'.cell? (ai w.heap.size 0 I)=J (ae af (r.seq:Int))/\w'.cell? (ai w.heap.size 1 I)=J (ae af (r.cf:Int))/\w'.cell? (ai w.heap.size 2 I)=J (ae af (r.kind:Int))/\w'.cell? (ai w.heap.size 3 I)=J (ae af (r.tick:Int))) (first|exact⟨s0,s1,s2,s3⟩|exact HK _ gw|exact HK _ (br gw _)) (first|(go_at_call 23;refine aO (uN.o _ _ ?_ ?_) ?_;(first|exact gw|exact br gw _|exact br (aF _ _) _|exact aF _ _);(first|exact r0|exact r1|exact r2|exact r3);rintro v w2 ⟨rfl,gw⟩))
 all_goals
  have cB:U (Below W.heap.size W w2):=gw;clear gw p0 p1 p2 p3 p4 p5 s0 s1 s2 s3 r0 r1 r2 r3 HK uN;rw[HR.o];go_wp2;go_ret;exact⟨rfl,cx.trans (cB.mono cx.size)⟩
def ajV(hg:w.grownBy w' r):aG (λk=>r=J k) w w':=⟨hg.os,hg.tape,hg.output,hg.size,λk hk hn=>hg.block k hk (λe=>hn e.symm)⟩
section
variable {w0 w w':ak}{b:Nat}{e:aM}{pa ga ea fa la:Option aC}{pc gc ec fc lc:Nat}{s s':aZ}{sv sv':aw}
def ajW(p t:Int)(h:fY w0 w b e pa ga ea fa la pc gc ec fc lc s sv)(hn:s.ms.length<1000):Calls prog 54 #[aq (J (ai b 0 I)),ae af p,ae af t] w λv w'=>v=ax (ae af (s.DX e p))/\(∃sv',fY w0 w' b e pa ga ea fa la pc gc ec fc lc (s.rep e p t) sv'/\∀k,sv'.ownBlock=J k->sv.ownBlock=J k\/w.heap.size<=k)/\aG (λk=>k=b\/sv.ownBlock=J k) w w':=by
 obtain⟨act,since,ms,run,ex⟩:=s;have c10:w.cell? _=J (aL act):=h.cell 10 _ rfl;have c2:w.cell? _=J (aj pa _ pc):=h.cell 2 _ rfl;have H:U _:=h
 cases act with
 |false=>
  go_enter func54,ntmps54
  go_wp2;go_ret;exact⟨rfl,⟨sv,H,λ_ h=>aT h⟩,aG.refl _ _⟩
 |true=>
  by_cases g0:p<0
  ·have HP:U (fq e p=false):=by show _=_;unfold fq;rw[bV (by omega)];rfl
   go_enter func54,ntmps54
   go_wp2;go_ret;exact⟨by unfold aZ.DX;rw[HP.o];rfl,⟨sv,by unfold aZ.rep;rw[HP.o];exact H,λ_ h=>aT h⟩,aG.refl _ _⟩
  by_cases g1:(e.au.length:Int)<=p
  ·have HP:U (fq e p=false):=by show _=_;unfold fq;rw[bV (p:=p<(e.au.length:Int)) (by omega),zb]
   go_enter func54,ntmps54
   go_wp2;go_ret;exact⟨by unfold aZ.DX;rw[HP.o];rfl,⟨sv,by unfold aZ.rep;rw[HP.o];exact H,λ_ h=>aT h⟩,aG.refl _ _⟩
  have HP:U (fq e p=true):=by show _=_;unfold fq;rw[bD (by omega),bD (by omega)];rfl
  obtain⟨va,vc,rfl⟩:=iB h.own;obtain⟨i0,hi,hz0,hz1,hz2⟩:=iw abj;have c11:w.cell? _=J (ae af since):=h.cell 11 _ rfl;have c12:w.cell? _=J (aj va ms.length vc):=h.cell 12 _ rfl;have aom:∀ob,(w.alloc ob).cell? _=J _:=λob=>aJ (aS _ _) c11
  have aon:∀ob,(w.alloc ob).cell? _=J _:=λob=>aJ (aS _ _) c12
  have hown:w.drew.ownsRow _ 168 3 (aj va ms.length vc) ms.length (ms.flatMap _):=h.own;have vq:=h.aY.size;have u_:ms.length<1000:=hn;have KB:U (∀(ob:Obj) (w8:ak),(w.drew.alloc ob).grownBy w8 (Value.slice va ms.length vc).ownBlock->w8.heap[b]?=J (ay (ri e pa ga ea fa la pc gc ec fc lc ⟨true,since,ms,run,ex⟩ (aj va ms.length vc)) 128 (0,0))/\Below w0.heap.size w0 w8/\aG (λk=>(Value.slice va ms.length vc).ownBlock=J k) w w8):=λob w8 hg=>by
   have bb:=(aF w.heap.size w).drew.alloc (by simp) ob;have hm:=H.below bb;exact⟨(hg.block b (bL hm.heap) (λe2=>qZ hm.own hm.heap (ar rfl) e2.symm)).trans hm.heap,hm.aY.grown hg hm.aY.size (λk hk=>(hm.own.lt k hk).1),(aG.dm bb _).trans (ajV hg) (λ_ _ x=>x)⟩
  go_enter func54,ntmps54
  go_upto_region 5 with fail
  go_cut [7] (λv wx=>tU w0.heap.size wx v (ms++[⟨p,t,since⟩])/\wx.heap[b]?=J (ay (ri e pa ga ea fa la pc gc ec fc lc ⟨true,since,ms,run,ex⟩ (aj va ms.length vc)) 128 (0,0))/\Below w0.heap.size w0 wx/\aG (λk=>(Value.slice va ms.length vc).ownBlock=J k) w wx/\∀k,v.ownBlock=J k->(Value.slice va ms.length vc).ownBlock=J k\/w.heap.size<=k)
  case first=>
   go_region_law (refine qX _ rfl _ _ 126 rfl _ 168 i0 _ 3 24 underlying126 hi hz0 hz1 hz2 rfl (ar rfl) _ _ _ (by simp[Act.eval]) (hown.alloc _) _ 1 1 _ (by simp[Act.eval]) rfl (mP _ _ 168) (abg ⟨p,t,_⟩) (ar rfl) (by unfold maxLen;omega) (by omega) (by simp;omega) (w.heap.size+1) (by simp) ?_;intro g' cap' w8 eV cQ cH nA;have r8:=KB _ _ cQ)
   all_goals
    change U _ at r8
    have HOr:U (∀k,(Value.slice (J (ai g' 0 I)) (ms.length+1) cap').ownBlock=J k->(Value.slice va ms.length vc).ownBlock=J k\/w.heap.size<=k):=λk hk=>by
     simp only[dF,dJ]at hk;subst hk
     rcases cH with h1|h1
     ·exact aT h1
     exact aN (by omega)
    have ajX:U (tU w0.heap.size w8 (aj (J (ai g' 0 I)) (ms.length+1) cap') (ms++[⟨p,t,since⟩])):=by
     show w8.ownsRow _ _ _ _ _ _
     rw[cY,ji];simpa[lJ]using eV
    go_wp2
    go_meet
    case rel=>exact⟨ajX,r8.1,r8.2.1,r8.2.2,HOr⟩
  obtain⟨hO,hR,hB,hF,hOr⟩:=hcut;rename ak=>w8
  rename_i v8;obtain⟨ajY,ajZ,rfl⟩:=iB hO;have c12:w8.cell? (ai b 12 I)=J (aj va ms.length vc):=by simp[aH,hR,ri]
  have f12:w8.frozen? (ai b 12 I)=false:=by simp[bM,hR]
  have HL:U (fY w0 _ b e pa ga ea fa la pc gc ec fc lc ⟨_,_,_,run,ex⟩ _):=⟨pF hR _,iH hO (bJ ..) (aN (qZ hO hR (ar rfl))),hB.setCell (p:=⟨b,12,_⟩) H.lo _,H.lo⟩;have HF:U (aG _ w (w8.setCell ⟨b,12,_⟩ (aj ajY (ms++[⟨p,t,since⟩]:List b_).length ajZ))):=(hF.mono (λ_ _ x=>aN x)).trans (aG.cG (bJ ..)) (λ_ _ x=>aT x);change U _ at hOr
  rw[show (ms++[⟨p,t,_⟩]:List b_).length=ms.length+1 by simp]at HL HF hOr;go_wp2;go_ret;exact⟨by unfold aZ.DX;rw[HP.o];rfl,⟨_,by unfold aZ.rep;rw[HP.o,aU ⟨rfl,rfl⟩];exact HL,hOr⟩,HF⟩
end
def NM(e:aM)(pa ga ea fa la:Option aC)(pc gc ec fc lc:Nat)(b:Nat)(sv:aw)(since kd:Int):Nat->aw->ak->Prop
 |0=>λv _=>v=aq (J (ai b 0 I))
 |1=>λv _=>v=aq (J (ai b 0 I))
 |2=>λv _=>v=aq (J (ai b 0 I))
 |3=>λv _=>v=.agg (eR e pa pc ga gc ea ec fa fc la lc)
 |4=>λv _=>v=aq (J (ai b 0 I))
 |5=>λv _=>v=aq (J (ai b 0 I))
 |6=>λv _=>v=aq (J (ai b 12 I))
 |7=>λv _=>v=sv
 |8=>λv _=>v=aq (J (ai b 0 I))
 |9=>λv _=>v=aq (J (ai b 0 I))
 |10=>λv _=>v=aq (J (ai b 11 I))
 |11=>λv _=>v=ae af since
 |12=>λv _=>v=ae af kd
 |13=>λv _=>v=ae af kd
 |_=>λ_ _=>True
def aj0{e:aM}{pa ga ea fa la:Option aC}{pc gc ec fc lc:Nat}{sv:aw}{since kd:Int}{V':ak}(h:NM e pa ga ea fa la pc gc ec fc lc b sv since kd j v V):NM e pa ga ea fa la pc gc ec fc lc b sv since kd j v V':=by
 match j,h with
 |0,h=>exact h
 |1,h=>exact h
 |2,h=>exact h
 |3,h=>exact h
 |4,h=>exact h
 |5,h=>exact h
 |6,h=>exact h
 |7,h=>exact h
 |8,h=>exact h
 |9,h=>exact h
 |10,h=>exact h
 |11,h=>exact h
 |12,h=>exact h
 |13,h=>exact h
 |n+14,h=>exact h
def CC(hb:Below w.heap.size w w'):w.grownBy w' r:=⟨hb.os,hb.tape,hb.output,hb.size,λk hk _=>hb.block k hk⟩
section
variable {w0 w w':ak}{b:Nat}{e:aM}{pa ga ea fa la:Option aC}{pc gc ec fc lc:Nat}{s s':aZ}{sv sv':aw}
def fY.drewN(h:fY w0 w b e pa ga ea fa la pc gc ec fc lc s sv)(q:Nat):fY w0 (w.drewN q) b e pa ga ea fa la pc gc ec fc lc s sv:=h.below (br (aF _ _) q)
def aj1(h:fY w0 w b e pa ga ea fa la pc gc ec fc lc s sv)(hP:fh w e (aj pa e.au.length pc) (aj ga e.aV.length gc) (aj ea e.aP.length ec) (aj fa e.first.length fc) (aj la e.last.length lc))(Ak:gG e)(hF:fX s 900000)(hlen:s.ms.length<=1000)(ht:∀m∈s.ms,0<=m.tick/\m.tick<=1099511627776):Calls prog 112 #[aq (J (ai b 0 I))] w λv w'=>v=ax (bn #[ae af (s.kind e),aL (s.turns e)])/\fY w0 w' b e pa ga ea fa la pc gc ec fc lc (s.fin e) sv/\w.grownBy w' (J b):=by
 obtain⟨act,since,ms,run,ex⟩:=s;have c10:w.cell? _=J (aL act):=h.cell 10 _ rfl
 cases act with
 |false=>
  change U _ at h
  go_enter func112,ntmps112
  go_wp2;go_ret2
  exact⟨rfl,h,vt _ _⟩
 |true=>
  obtain⟨kd,jm⟩:∃k,k=lg e ms since:=⟨_,rfl⟩;have HM:U (∀V,Below _ w V->fY w0 V b e pa ga ea fa la pc gc ec fc lc _ sv):=λV hV=>h.below hV
  have HK:U (∀V,Below w.heap.size w V->Calls prog 177 #[.agg (eR e pa pc ga gc ea ec fa fc la lc),sv,ae af since] V λv w'=>v=ax (ae af kd)/\Below V.heap.size V w'):=λV hV=>by
   obtain⟨va,vc,rfl⟩:=iB h.own;rw[jm];exact abM e pa ga ea fa la pc gc ec fc lc ms _ va vc V (hP.below hV) Ak ((h.below hV).own.jz) hlen ht
  have HB:U (0<=since/\since<=900000/\0<=run/\run<=900000):=⟨hF.s0,hF.s1,hF.r0,Int.le_trans hF.r1 hF.s1⟩;clear h hP Ak hF hlen ht;change U _ at jm;go_enter func112,ntmps112
  go_upto_region 3 with fail
  go_cut [4,10,11,12,13,14,15,16,17,18,19,20,21,22] (λv _ _ _ _ _ _ _ _ _ _ _ _ _ wx=>v=ae af kd/\Below w.heap.size w wx)
  case first=>
    refine tT 14 rfl (NM e pa ga ea fa la pc gc ec fc lc b sv since kd) (λV=>Below w.heap.size w V) (by kernel_rfl) (by kernel_rfl) (aF _ _).drew ?_ ?_
    ·refine mM ⟨?_,?_,?_,?_,?_,?_,?_,?_,?_,?_,?_,?_,?_,?_,trivial⟩
     all_goals
      refine ql.free rfl ?_;intro a V hC aB aQ
     ·have x0:a.tmps[0]?.getD _=aq _:=aW (aQ 0 (dS (by kernel_rfl)));exact eh (c:=aq _) (by clear aB aQ;go_simp) hC rfl
     ·have Lf:a.tmps[10]?.getD _=aq _:=aW (aB _ 10 (bj (i:=0) rfl) rfl rfl);exact eh (c:=aq _) (by clear aB aQ;go_simp) hC rfl
     ·have GZ:a.tmps[11]?.getD _=aq _:=aW (aB _ 11 (bj (i:=0) rfl) rfl rfl);exact eh (c:=aq _) (by clear aB aQ;go_simp) hC rfl
     ·have Li:a.tmps[12]?.getD _=aq _:=aW (aB _ 12 (bj (i:=0) rfl) rfl rfl);have b0:V.cell? _=J (aA _):=(HM V hC).cell 0 _ rfl;have b1:V.cell? _=J (ae af _):=(HM V hC).cell 1 _ rfl;have b2:V.cell? _=J (aj pa _ pc):=(HM V hC).cell 2 _ rfl;have b3:V.cell? _=J (ae af _):=(HM V hC).cell 3 _ rfl;have b4:V.cell? _=J (ae af _):=(HM V hC).cell 4 _ rfl;have b5:V.cell? _=J (ae af _):=(HM V hC).cell 5 _ rfl;have b6:V.cell? _=J (aj ga _ gc):=(HM V hC).cell 6 _ rfl;have b7:V.cell? _=J (aj ea _ ec):=(HM V hC).cell 7 _ rfl;have b8:V.cell? _=J (aj fa _ fc):=(HM V hC).cell 8 _ rfl;have b9:V.cell? _=J (aj la _ lc):=(HM V hC).cell 9 _ rfl;exact eh (c:=.agg _) (by clear aB aQ;go_simp) hC rfl
     ·have x0:a.tmps[0]?.getD _=aq _:=aW (aQ 0 (dS (by kernel_rfl)));exact eh (c:=aq _) (by clear aB aQ;go_simp) hC rfl
     ·have Lh:a.tmps[14]?.getD _=aq _:=aW (aB _ 14 (bj (i:=0) rfl) rfl rfl);exact eh (c:=aq _) (by clear aB aQ;go_simp) hC rfl
     ·have GG:a.tmps[15]?.getD _=aq _:=aW (aB _ 15 (bj (i:=0) rfl) rfl rfl);exact eh (c:=aq _) (by clear aB aQ;go_simp) hC rfl
     ·have GD:a.tmps[16]?.getD _=aq _:=aW (aB _ 16 (bj (i:=0) rfl) rfl rfl);have aoo:V.cell? _=J sv:=(HM V hC).cell 12 _ rfl;exact eh (c:=sv) (by clear aB aQ;go_simp) hC rfl
     ·have x0:a.tmps[0]?.getD _=aq _:=aW (aQ 0 (dS (by kernel_rfl)));exact eh (c:=aq _) (by clear aB aQ;go_simp) hC rfl
     ·have GF:a.tmps[18]?.getD _=aq _:=aW (aB _ 18 (bj (i:=0) rfl) rfl rfl);exact eh (c:=aq _) (by clear aB aQ;go_simp) hC rfl
     ·have KH:a.tmps[19]?.getD _=aq _:=aW (aB _ 19 (bj (i:=0) rfl) rfl rfl);exact eh (c:=aq _) (by clear aB aQ;go_simp) hC rfl
     ·have KG:a.tmps[20]?.getD _=aq _:=aW (aB _ 20 (bj (i:=0) rfl) rfl rfl);have aop:V.cell? _=J (ae af since):=(HM V hC).cell 11 _ rfl;exact eh (c:=ae af _) (by clear aB aQ;go_simp) hC rfl
     ·have Lg:a.tmps[13]?.getD _=.agg _:=aW (aB _ 13 (bj (i:=0) rfl) rfl rfl);have KF:a.tmps[17]?.getD _=sv:=aW (aB _ 17 (bj (i:=1) rfl) rfl rfl);have Gr:a.tmps[21]?.getD _=ae af _:=aW (aB _ 21 (bj (i:=2) rfl) rfl rfl)
      refine nZ (f:=177) (args:=#[.agg (eR e pa pc ga gc ea ec fa fc la lc),sv,ae af since]) (by clear aB aQ;go_simp) ?_
      apply(HK V hC).mono;rintro v V' ⟨rfl,hb⟩;exact⟨_,rfl,hC.trans (hb.mono hC.size),(λj v h=>aj0 h),rfl⟩
     have Gq:a.tmps[22]?.getD _=ae af kd:=aW (aB _ 22 (bj (i:=0) rfl) rfl rfl);exact eh (c:=ae af kd) (by clear aB aQ;go_simp) hC rfl
    intro vals V hC hS;have v13:vals 13=ae af kd:=hS 13 (ar rfl);change U _ at hC
    simp only[fill,dZ];go_simp
    go_wp2
    go_meet
    case rel=>exact⟨by first|rfl|exact v13,hC⟩
  obtain⟨rfl,hb1⟩:=hcut;rename ak=>w1
  have hm:=HM w1 hb1;have f11:=hm.frozen 11;have f13:=hm.frozen 13;have f14:=hm.frozen 14;have c11:w1.cell? _=J (ae af since):=hm.cell 11 _ rfl;have c13:w1.cell? _=J (ae af run):=hm.cell 13 _ rfl;have c14:w1.cell? _=J (aL ex):=hm.cell 14 _ rfl;have c1:w1.cell? _=J (ae af _):=hm.cell 1 _ rfl;have om:U (w.grownBy w1 (J b)):=⟨hb1.os,hb1.tape,hb1.output,hb1.size,λk hk _=>hb1.block k hk⟩;obtain⟨s0,s1,r0,r1⟩:=HB.o;clear HM HK c10;change U _ at hb1
  by_cases hk:kd=0
  ·have HR:U (aZ.mh e ⟨true,since,ms,run,ex⟩=0):=by show _=_;unfold aZ.mh;rw[aU (by rw[<- jm.o];exact hk)]
   have h2:=(hm.put 11 (ae af (since+1)) (s':=⟨_,since+1,ms,run,ex⟩) (sv':=sv) rfl hm.own);have h3:=h2.put 13 (ae af 0) (s':=⟨_,_,ms,0,ex⟩) (sv':=sv) rfl h2.own;change U _ at h3
   have HG:U _:=(om.trans (bJ w1 b 11 (ae af (since+1)))).trans (bJ _ b 13 (ae af 0))
   cases ex with
   |true=>
    have HE:U (aZ.fin e ⟨true,since,ms,run,true⟩=⟨true,since+1,ms,0,true⟩/\aZ.turns e ⟨true,since,ms,run,true⟩=false):=by
     unfold aZ.fin aZ.turns;rw[HR.o];exact⟨by simp,by simp⟩
    go_wp2_with fail
    go_quiet (fail)
    go_wp2;go_ret2
    exact⟨by rw[HE.2];show _=Ending.returned (bn #[ae af (aZ.kind e ⟨true,since,ms,run,true⟩),_]);rw[show aZ.kind e ⟨true,_,ms,run,_⟩=kd from jm.symm];first|rfl|(rw[hk];rfl),by rw[HE.1];exact fY.drewN h3 _,HG.trans (CC (br (aF _ _) _))⟩
   |false=>
    by_cases ht:e.bh<0
    ·have HE:U (aZ.fin e ⟨true,since,ms,run,false⟩=⟨true,since+1,ms,0,true⟩/\aZ.turns e ⟨true,since,ms,run,false⟩=true):=by
      unfold aZ.fin aZ.turns;rw[HR.o];exact⟨by simp[ht],by simp[ht]⟩
     go_wp2_with fail
     go_quiet (fail)
     go_wp2;go_ret2
     have h4:=λq=>(fY.drewN h3 q).put 14 (aL true) (s':=⟨_,_,ms,0,true⟩) (sv':=sv) rfl (fY.drewN h3 q).own
     exact⟨by rw[HE.2];show _=Ending.returned (bn #[ae af (aZ.kind e ⟨true,since,ms,run,false⟩),_]);rw[show aZ.kind e ⟨true,_,ms,run,_⟩=kd from jm.symm];first|rfl|(rw[hk];rfl),by rw[HE.1];exact h4 _,(HG.trans (CC (br (aF _ _) _))).trans (bJ _ b 14 (aL true))⟩
    have HE:U (aZ.fin e ⟨true,since,ms,run,false⟩=⟨true,since+1,ms,0,false⟩/\aZ.turns e ⟨true,since,ms,run,false⟩=false):=by
     unfold aZ.fin aZ.turns;rw[HR.o];exact⟨by simp[ht],by simp[ht]⟩
    go_wp2_with fail
    go_quiet (fail)
    go_wp2;go_ret2
    exact⟨by rw[HE.2];show _=Ending.returned (bn #[ae af (aZ.kind e ⟨true,since,ms,run,false⟩),_]);rw[show aZ.kind e ⟨true,_,ms,run,_⟩=kd from jm.symm];first|rfl|(rw[hk];rfl),by rw[HE.1];exact fY.drewN h3 _,HG.trans (CC (br (aF _ _) _))⟩
  have hk2:(kd==0)=false:=by simp[hk]
  have HR:U (aZ.mh e ⟨true,since,ms,run,ex⟩=(run+1)):=by show _=_;unfold aZ.mh;rw[aK (by rw[<- jm.o];exact hk)]
  have h2:=(hm.put 11 (ae af (since+1)) (s':=⟨_,since+1,ms,run,ex⟩) (sv':=sv) rfl hm.own);have h3:=h2.put 13 (ae af (run+1)) (s':=⟨_,_,ms,(run+1),ex⟩) (sv':=sv) rfl h2.own;change U _ at h3
  have HG:U _:=(om.trans (bJ w1 b 11 (ae af (since+1)))).trans (bJ _ b 13 (ae af (run+1)))
  cases ex with
  |true=>
   have HE:U (aZ.fin e ⟨true,since,ms,run,true⟩=⟨true,since+1,ms,(run+1),true⟩/\aZ.turns e ⟨true,since,ms,run,true⟩=false):=by
    unfold aZ.fin aZ.turns;rw[HR.o];exact⟨by simp,by simp⟩
   go_wp2_with fail
   go_quiet (fail)
   go_wp2;go_ret2
   exact⟨by rw[HE.2];show _=Ending.returned (bn #[ae af (aZ.kind e ⟨true,since,ms,run,true⟩),_]);rw[show aZ.kind e ⟨true,_,ms,run,_⟩=kd from jm.symm];first|rfl|(rw[hk];rfl),by rw[HE.1];exact fY.drewN h3 _,HG.trans (CC (br (aF _ _) _))⟩
  |false=>
   by_cases ht:e.bh<(run+1)
   ·have HE:U (aZ.fin e ⟨true,since,ms,run,false⟩=⟨true,since+1,ms,(run+1),true⟩/\aZ.turns e ⟨true,since,ms,run,false⟩=true):=by
     unfold aZ.fin aZ.turns;rw[HR.o];exact⟨by simp[ht],by simp[ht]⟩
    go_wp2_with fail
    go_quiet (fail)
    go_wp2;go_ret2
    have h4:=λq=>(fY.drewN h3 q).put 14 (aL true) (s':=⟨_,_,ms,_,true⟩) (sv':=sv) rfl (fY.drewN h3 q).own
    exact⟨by rw[HE.2];show _=Ending.returned (bn #[ae af (aZ.kind e ⟨true,since,ms,run,false⟩),_]);rw[show aZ.kind e ⟨true,_,ms,run,_⟩=kd from jm.symm];first|rfl|(rw[hk];rfl),by rw[HE.1];exact h4 _,(HG.trans (CC (br (aF _ _) _))).trans (bJ _ b 14 (aL true))⟩
   have HE:U (aZ.fin e ⟨true,since,ms,run,false⟩=⟨true,since+1,ms,(run+1),false⟩/\aZ.turns e ⟨true,since,ms,run,false⟩=false):=by
    unfold aZ.fin aZ.turns;rw[HR.o];exact⟨by simp[ht],by simp[ht]⟩
   go_wp2_with fail
   go_quiet (fail)
   go_wp2;go_ret2
   exact⟨by rw[HE.2];show _=Ending.returned (bn #[ae af (aZ.kind e ⟨true,since,ms,run,false⟩),_]);rw[show aZ.kind e ⟨true,_,ms,run,_⟩=kd from jm.symm];first|rfl|(rw[hk];rfl),by rw[HE.1];exact fY.drewN h3 _,HG.trans (CC (br (aF _ _) _))⟩
end
section
variable {w0 w w':ak}{b:Nat}{s s':bG}
def cZ(s:bG):Array aw:=#[ae af (s.bE:Int),ae af (s.since:Int),aA (dE s.st)]
structure jv(w0 w:ak)(b:Nat)(s:bG):Prop where
 heap:w.heap[b]?=J (ay (cZ s) 90 (0,0))
 aY:Below w0.heap.size w0 w
 lo:w0.heap.size<=b
def jv.below(h:jv w0 w b s)(hb:Below w.heap.size w w'):jv w0 w' b s:=⟨a8 hb h.heap,h.aY.trans (hb.mono h.aY.size),h.lo⟩
def rJ(l:List ByteArray)(x:ByteArray):(0<=idxOf l x)↔hasB l x=true:=by
 constructor
 ·intro h
  cases hb:hasB l x with
  |true=>rfl
  |false=>
   have:idxOf l x=-1:=Hf (λj y _ hy e=>by
    have:=jY.1 hb y (bP hy);simp[e]at this)
   omega
 intro h;unfold hasB at h;obtain⟨y,hy,he⟩:=kD.1 h;unfold idxOf
 split
 ·omega
 rename_i hn;have:=Ha.1 hn y hy;rw[he]at this
 cases this
def pU(w:ak)(q:Nat)(r:Option Nat):w.grownBy (w.drewN q) r:=by
 have h:=br (aF w.heap.size w) q;exact⟨h.os,h.tape,h.output,h.size,λk hk _=>h.block k hk⟩
def jv.put(h:jv w0 w b s)(j:Nat)(u:aw)(hr:(cZ s).setIfInBounds j u=cZ s'):jv w0 (w.setCell (ai b j I) u) b s':=by
 refine⟨?_,h.aY.setCell (p:=⟨b,j,_⟩) h.lo _,h.lo⟩;simp only[bN,cL,h.heap];simp[<- hr]
def aj2(l:List ByteArray)(sa:Option aC)(cap:Nat)(h:jv w0 w b s)(hf:pw s k)(hk:k<=100000)(hl:∀V,w.grownBy V (J b)->bw ct 1 V (aj sa l.length cap) l)(hn:l.length<=1000000):Calls prog 114 #[aq (J (ai b 0 I)),aj sa l.length cap] w λv w'=>v=ax (bn #[])/\jv w0 w' b (s.fin l)/\w.grownBy w' (J b):=by
 change U _ at hl hn
 obtain⟨d,si,st⟩:=s;have hr:=h.heap;have c0:w.cell? (ai b 0 I)=J (ae af (d:Int)):=by simp[aH,hr,cZ]
 have c1:w.cell? (ai b 1 I)=J (ae af (si:Int)):=by simp[aH,hr,cZ]
 have Va:w.cell? (ai b 2 I)=J (aA (dE st)):=by simp[aH,hr,cZ]
 have q:∀i,w.frozen? (ai b i I)=false:=λi=>by simp[bM,hr]
 have hst:st<=3:=hf.st;have aoq:si<=100000:=bp hf.s0 hk;have hz:st<2->si=0:=hf.z;change U _ at h
 clear hr hf hk;have go:∀x,dE st=x->w.cell? _=J _:=λx hx=>by rw[<- hx];exact Va
 clear Va
 by_cases h3:st=3
 ·subst h3;have c2:=go ⟨_⟩ rfl;clear go;go_enter func114,ntmps114
  go_wp2;(try simp only[Exit.inBlock,Exit.then]);refine dL (results_none rfl ..) rfl ?_
  exact⟨rfl,h,vt _ _⟩
 by_cases h2:st=2
 ·subst h2;have c2:=go ⟨_⟩ rfl;clear go;go_enter func114,ntmps114
  go_upto_region 10 with fail
  obtain⟨V,hV⟩:∃V,V=w.setCell (ai b 1 I) (ae af ((si:Int)+1)):=⟨_,rfl⟩;rw[<- hV];have HV:U (jv w0 V b ⟨d,si+1,2⟩):=by show jv _ _ _ _;rw[hV];exact h.put 1 _ (by simp[cZ])
  have HG:U (w.grownBy V (J b)):=by show World.grownBy _ _ _;rw[hV];exact bJ ..
  clear hV;have e0:V.cell? (ai b 0 I)=J (ae af (d:Int)):=by have:=HV.heap;simp[aH,this,cZ]
  have e1:V.cell? (ai b 1 I)=J (ae af ((si:Int)+1)):=by have:=HV.heap;simp[aH,this,cZ]
  have e2:V.cell? (ai b 2 I)=J (aA ⟨#[101,120,112,105,114,101,100]⟩):=by have:=HV.heap;simp[aH,this,cZ,dE,lA]
  have q2:∀i,V.frozen? (ai b i I)=false:=λi=>by have:=HV.heap;simp[bM,this]
  clear c0 c1 c2 q
  by_cases hd:si+1=d
  ·have ug:((si:Int)+1)=(d:Int):=by omega
   have HE:U (bG.fin ⟨d,si,2⟩ l=⟨d,si+1,3⟩):=by show _=_;rw[show bG.fin _ l=bG.cut ⟨d,si+1,2⟩from rfl];unfold bG.cut;rw[aU ⟨rfl,hd⟩]
   go_quiet (fail)
   go_wp2;go_end0
   exact⟨rfl,by rw[HE.o];exact(HV.below (br (aF _ _) _)).put 2 _ rfl,(HG.trans (pU ..)).trans (bJ ..)⟩
  have ug:¬((si:Int)+1)=(d:Int):=by omega
  have HE:U (bG.fin ⟨d,si,2⟩ l=⟨d,si+1,2⟩):=by show _=_;rw[show bG.fin _ l=bG.cut ⟨d,si+1,2⟩from rfl];unfold bG.cut;rw[aK (λx=>hd x.2)]
  go_quiet (fail)
  go_wp2;go_end0
  exact⟨rfl,by rw[HE.o];exact HV.below (br (aF _ _) _),HG.trans (pU ..)⟩
 obtain rfl:=hz (by omega);have HW:U (bG.fin ⟨d,0,st⟩ l=bG.cut ⟨d,0,gC l⟩):=by show _=_;unfold bG.fin;rw[aK h3,aK h2]
 have zA:st=0\/st=1:=by omega
 clear hst h2 h3 hz
 rcases zA with rfl|rfl
 ·have c2:=go ⟨_⟩ rfl;clear go
  cases hf:hasB l qa
  ·have g1:¬0<=idxOf l ⟨_⟩:=λx=>by have:=(rJ l qa).1 x;rw[hf]at this;cases this
   cases hx:hasB l lA
   ·have g2:¬0<=idxOf l ⟨_⟩:=λx=>by have:=(rJ l lA).1 x;rw[hx]at this;cases this
    have mB:U (gC l=0):=by show _=_;unfold gC;rw[aK (by rw[hx];simp),aK (by rw[hf];simp)]
    clear hf hx;go_enter func114,ntmps114
    go_wp2_with fail
    apply(nJ l _ sa cap _ (hl _ (bJ ..)) hn).mono;rintro v w1 ⟨rfl,rfl⟩;go_wp2_with fail
    apply(nJ l _ sa cap _ (hl _ (bJ ..)) hn).mono;rintro v w2 ⟨rfl,rfl⟩;go_upto_region 10 with fail
    obtain⟨V,hV⟩:∃V,V=w.setCell (ai b 2 I) (aA ⟨#[111,107]⟩):=⟨_,rfl⟩;rw[<- hV];have HV:U (jv w0 V b ⟨d,0,0⟩):=by show jv _ _ _ _;rw[hV];exact h.put (s':=⟨d,0,0⟩) 2 _ (by simp[cZ,dE])
    have HG:U (w.grownBy V (J b)):=by show World.grownBy _ _ _;rw[hV];exact bJ ..
    clear hV;have e0:V.cell? (ai b 0 I)=J (ae af (d:Int)):=by have:=HV.heap;simp[aH,this,cZ]
    have e1:V.cell? (ai b 1 I)=J (ae af (0)):=by have:=HV.heap;simp[aH,this,cZ]
    have e2:V.cell? (ai b 2 I)=J (aA ⟨#[111,107]⟩):=by have:=HV.heap;simp[aH,this,cZ,dE]
    have q2:∀i,V.frozen? (ai b i I)=false:=λi=>by have:=HV.heap;simp[bM,this]
    clear c0 c1 c2 q;have HE:U (bG.fin ⟨d,0,0⟩ l=⟨d,0,0⟩):=by show _=_;rw[HW.o,mB.o];unfold bG.cut;rw[aK (λx=>by have:(0:Nat)=2:=x.1;omega)]
    go_quiet (fail)
    go_wp2;go_end0
    exact⟨rfl,by rw[HE.o];exact HV.below (br (aF _ _) _),HG.trans (pU ..)⟩
   have g2:0<=idxOf l ⟨_⟩:=(rJ l _).2 hx;have mB:U (gC l=2):=by show _=_;unfold gC;rw[aU hx]
   clear hf hx;go_enter func114,ntmps114
   go_wp2_with fail
   apply(nJ l _ sa cap _ (hl _ (bJ ..)) hn).mono;rintro v w1 ⟨rfl,rfl⟩;go_wp2_with fail
   apply(nJ l _ sa cap _ (hl _ (bJ ..)) hn).mono;rintro v w2 ⟨rfl,rfl⟩;go_upto_region 10 with fail
   obtain⟨V,hV⟩:∃V,V=((w.setCell (ai b 2 I) (aA ⟨#[111,107]⟩)).setCell ⟨b,2,I⟩ (aA ⟨#[101,120,112,105,114,101,100]⟩)).setCell ⟨b,1,I⟩ (ae af 0):=⟨_,rfl⟩;rw[<- hV];have HV:U (jv w0 V b ⟨d,0,2⟩):=by show jv _ _ _ _;rw[hV];exact((h.put (s':=⟨d,0,0⟩) 2 _ (by simp[cZ,dE])).put (s':=⟨d,0,2⟩) 2 _ (by simp[cZ,dE,lA])).put (s':=⟨d,0,2⟩) 1 _ (by simp[cZ])
   have HG:U (w.grownBy V (J b)):=by show World.grownBy _ _ _;rw[hV];exact((bJ ..).trans (bJ ..)).trans (bJ ..)
   clear hV;have e0:V.cell? (ai b 0 I)=J (ae af (d:Int)):=by have:=HV.heap;simp[aH,this,cZ]
   have e1:V.cell? (ai b 1 I)=J (ae af (0)):=by have:=HV.heap;simp[aH,this,cZ]
   have e2:V.cell? (ai b 2 I)=J (aA ⟨#[101,120,112,105,114,101,100]⟩):=by have:=HV.heap;simp[aH,this,cZ,dE,lA]
   have q2:∀i,V.frozen? (ai b i I)=false:=λi=>by have:=HV.heap;simp[bM,this]
   clear c0 c1 c2 q
   by_cases hd:d=0
   ·subst hd;have HE:U (bG.fin ⟨0,0,0⟩ l=⟨0,0,3⟩):=by show _=_;rw[HW.o,mB.o];unfold bG.cut;rw[aU ⟨rfl,rfl⟩]
    simp only[vB]at e0;go_quiet (fail)
    go_wp2;go_end0
    exact⟨rfl,by rw[HE.o];exact(HV.below (br (aF _ _) _)).put 2 _ rfl,(HG.trans (pU ..)).trans (bJ ..)⟩
   have ug:¬(0:Int)=(d:Int):=by omega
   have mz:¬(d:Int)=0:=by omega
   have HE:U (bG.fin ⟨d,0,0⟩ l=⟨d,0,2⟩):=by show _=_;rw[HW.o,mB.o];unfold bG.cut;rw[aK (λx=>hd x.2.symm)]
   go_quiet (fail)
   go_wp2;go_end0
   exact⟨rfl,by rw[HE.o];exact HV.below (br (aF _ _) _),HG.trans (pU ..)⟩
  have g1:0<=idxOf l ⟨_⟩:=(rJ l _).2 hf
  cases hx:hasB l lA
  ·have g2:¬0<=idxOf l ⟨_⟩:=λx=>by have:=(rJ l lA).1 x;rw[hx]at this;cases this
   have mB:U (gC l=1):=by show _=_;unfold gC;rw[aK (by rw[hx];simp),aU hf]
   clear hf hx;go_enter func114,ntmps114
   go_wp2_with fail
   apply(nJ l _ sa cap _ (hl _ (bJ ..)) hn).mono;rintro v w1 ⟨rfl,rfl⟩;go_wp2_with fail
   apply(nJ l _ sa cap _ (hl _ ((bJ ..).trans (bJ ..))) hn).mono;rintro v w2 ⟨rfl,rfl⟩;go_upto_region 10 with fail
   obtain⟨V,hV⟩:∃V,V=(w.setCell (ai b 2 I) (aA ⟨#[111,107]⟩)).setCell ⟨b,2,I⟩ (aA ⟨#[102,97,105,108,101,100]⟩):=⟨_,rfl⟩;rw[<- hV];have HV:U (jv w0 V b ⟨d,0,1⟩):=by show jv _ _ _ _;rw[hV];exact(h.put (s':=⟨d,0,0⟩) 2 _ (by simp[cZ,dE])).put (s':=⟨d,0,1⟩) 2 _ (by simp[cZ,dE,qa])
   have HG:U (w.grownBy V (J b)):=by show World.grownBy _ _ _;rw[hV];exact(bJ ..).trans (bJ ..)
   clear hV;have e0:V.cell? (ai b 0 I)=J (ae af (d:Int)):=by have:=HV.heap;simp[aH,this,cZ]
   have e1:V.cell? (ai b 1 I)=J (ae af (0)):=by have:=HV.heap;simp[aH,this,cZ]
   have e2:V.cell? (ai b 2 I)=J (aA ⟨#[102,97,105,108,101,100]⟩):=by have:=HV.heap;simp[aH,this,cZ,dE,qa]
   have q2:∀i,V.frozen? (ai b i I)=false:=λi=>by have:=HV.heap;simp[bM,this]
   clear c0 c1 c2 q;have HE:U (bG.fin ⟨d,0,0⟩ l=⟨d,0,1⟩):=by show _=_;rw[HW.o,mB.o];unfold bG.cut;rw[aK (λx=>by have:(1:Nat)=2:=x.1;omega)]
   go_quiet (fail)
   go_wp2;go_end0
   exact⟨rfl,by rw[HE.o];exact HV.below (br (aF _ _) _),HG.trans (pU ..)⟩
  have g2:0<=idxOf l ⟨_⟩:=(rJ l _).2 hx;have mB:U (gC l=2):=by show _=_;unfold gC;rw[aU hx]
  clear hf hx;go_enter func114,ntmps114
  go_wp2_with fail
  apply(nJ l _ sa cap _ (hl _ (bJ ..)) hn).mono;rintro v w1 ⟨rfl,rfl⟩;go_wp2_with fail
  apply(nJ l _ sa cap _ (hl _ ((bJ ..).trans (bJ ..))) hn).mono;rintro v w2 ⟨rfl,rfl⟩;go_upto_region 10 with fail
  obtain⟨V,hV⟩:∃V,V=(((w.setCell (ai b 2 I) (aA ⟨#[111,107]⟩)).setCell ⟨b,2,I⟩ (aA ⟨#[102,97,105,108,101,100]⟩)).setCell ⟨b,2,I⟩ (aA ⟨#[101,120,112,105,114,101,100]⟩)).setCell ⟨b,1,I⟩ (ae af 0):=⟨_,rfl⟩;rw[<- hV];have HV:U (jv w0 V b ⟨d,0,2⟩):=by show jv _ _ _ _;rw[hV];exact(((h.put (s':=⟨d,0,0⟩) 2 _ (by simp[cZ,dE])).put (s':=⟨d,0,1⟩) 2 _ (by simp[cZ,dE,qa])).put (s':=⟨d,0,2⟩) 2 _ (by simp[cZ,dE,lA])).put (s':=⟨d,0,2⟩) 1 _ (by simp[cZ])
  have HG:U (w.grownBy V (J b)):=by show World.grownBy _ _ _;rw[hV];exact(((bJ ..).trans (bJ ..)).trans (bJ ..)).trans (bJ ..)
  clear hV;have e0:V.cell? (ai b 0 I)=J (ae af (d:Int)):=by have:=HV.heap;simp[aH,this,cZ]
  have e1:V.cell? (ai b 1 I)=J (ae af (0)):=by have:=HV.heap;simp[aH,this,cZ]
  have e2:V.cell? (ai b 2 I)=J (aA ⟨#[101,120,112,105,114,101,100]⟩):=by have:=HV.heap;simp[aH,this,cZ,dE,lA]
  have q2:∀i,V.frozen? (ai b i I)=false:=λi=>by have:=HV.heap;simp[bM,this]
  clear c0 c1 c2 q
  by_cases hd:d=0
  ·subst hd;have HE:U (bG.fin ⟨0,0,0⟩ l=⟨0,0,3⟩):=by show _=_;rw[HW.o,mB.o];unfold bG.cut;rw[aU ⟨rfl,rfl⟩]
   simp only[vB]at e0;go_quiet (fail)
   go_wp2;go_end0
   exact⟨rfl,by rw[HE.o];exact(HV.below (br (aF _ _) _)).put 2 _ rfl,(HG.trans (pU ..)).trans (bJ ..)⟩
  have ug:¬(0:Int)=(d:Int):=by omega
  have mz:¬(d:Int)=0:=by omega
  have HE:U (bG.fin ⟨d,0,0⟩ l=⟨d,0,2⟩):=by show _=_;rw[HW.o,mB.o];unfold bG.cut;rw[aK (λx=>hd x.2.symm)]
  go_quiet (fail)
  go_wp2;go_end0
  exact⟨rfl,by rw[HE.o];exact HV.below (br (aF _ _) _),HG.trans (pU ..)⟩
 have c2:=go ⟨_⟩ rfl;clear go
 cases hf:hasB l qa
 ·have g1:¬0<=idxOf l ⟨_⟩:=λx=>by have:=(rJ l qa).1 x;rw[hf]at this;cases this
  cases hx:hasB l lA
  ·have g2:¬0<=idxOf l ⟨_⟩:=λx=>by have:=(rJ l lA).1 x;rw[hx]at this;cases this
   have mB:U (gC l=0):=by show _=_;unfold gC;rw[aK (by rw[hx];simp),aK (by rw[hf];simp)]
   clear hf hx;go_enter func114,ntmps114
   go_wp2_with fail
   apply(nJ l _ sa cap _ (hl _ (bJ ..)) hn).mono;rintro v w1 ⟨rfl,rfl⟩;go_wp2_with fail
   apply(nJ l _ sa cap _ (hl _ (bJ ..)) hn).mono;rintro v w2 ⟨rfl,rfl⟩;go_upto_region 10 with fail
   obtain⟨V,hV⟩:∃V,V=w.setCell (ai b 2 I) (aA ⟨#[111,107]⟩):=⟨_,rfl⟩;rw[<- hV];have HV:U (jv w0 V b ⟨d,0,0⟩):=by show jv _ _ _ _;rw[hV];exact h.put (s':=⟨d,0,0⟩) 2 _ (by simp[cZ,dE])
   have HG:U (w.grownBy V (J b)):=by show World.grownBy _ _ _;rw[hV];exact bJ ..
   clear hV;have e0:V.cell? (ai b 0 I)=J (ae af (d:Int)):=by have:=HV.heap;simp[aH,this,cZ]
   have e1:V.cell? (ai b 1 I)=J (ae af (0)):=by have:=HV.heap;simp[aH,this,cZ]
   have e2:V.cell? (ai b 2 I)=J (aA ⟨#[111,107]⟩):=by have:=HV.heap;simp[aH,this,cZ,dE]
   have q2:∀i,V.frozen? (ai b i I)=false:=λi=>by have:=HV.heap;simp[bM,this]
   clear c0 c1 c2 q;have HE:U (bG.fin ⟨d,0,1⟩ l=⟨d,0,0⟩):=by show _=_;rw[HW.o,mB.o];unfold bG.cut;rw[aK (λx=>by have:(0:Nat)=2:=x.1;omega)]
   go_quiet (fail)
   go_wp2;go_end0
   exact⟨rfl,by rw[HE.o];exact HV.below (br (aF _ _) _),HG.trans (pU ..)⟩
  have g2:0<=idxOf l ⟨_⟩:=(rJ l _).2 hx;have mB:U (gC l=2):=by show _=_;unfold gC;rw[aU hx]
  clear hf hx;go_enter func114,ntmps114
  go_wp2_with fail
  apply(nJ l _ sa cap _ (hl _ (bJ ..)) hn).mono;rintro v w1 ⟨rfl,rfl⟩;go_wp2_with fail
  apply(nJ l _ sa cap _ (hl _ (bJ ..)) hn).mono;rintro v w2 ⟨rfl,rfl⟩;go_upto_region 10 with fail
  obtain⟨V,hV⟩:∃V,V=((w.setCell (ai b 2 I) (aA ⟨#[111,107]⟩)).setCell ⟨b,2,I⟩ (aA ⟨#[101,120,112,105,114,101,100]⟩)).setCell ⟨b,1,I⟩ (ae af 0):=⟨_,rfl⟩;rw[<- hV];have HV:U (jv w0 V b ⟨d,0,2⟩):=by show jv _ _ _ _;rw[hV];exact((h.put (s':=⟨d,0,0⟩) 2 _ (by simp[cZ,dE])).put (s':=⟨d,0,2⟩) 2 _ (by simp[cZ,dE,lA])).put (s':=⟨d,0,2⟩) 1 _ (by simp[cZ])
  have HG:U (w.grownBy V (J b)):=by show World.grownBy _ _ _;rw[hV];exact((bJ ..).trans (bJ ..)).trans (bJ ..)
  clear hV;have e0:V.cell? (ai b 0 I)=J (ae af (d:Int)):=by have:=HV.heap;simp[aH,this,cZ]
  have e1:V.cell? (ai b 1 I)=J (ae af (0)):=by have:=HV.heap;simp[aH,this,cZ]
  have e2:V.cell? (ai b 2 I)=J (aA ⟨#[101,120,112,105,114,101,100]⟩):=by have:=HV.heap;simp[aH,this,cZ,dE,lA]
  have q2:∀i,V.frozen? (ai b i I)=false:=λi=>by have:=HV.heap;simp[bM,this]
  clear c0 c1 c2 q
  by_cases hd:d=0
  ·subst hd;have HE:U (bG.fin ⟨0,0,1⟩ l=⟨0,0,3⟩):=by show _=_;rw[HW.o,mB.o];unfold bG.cut;rw[aU ⟨rfl,rfl⟩]
   simp only[vB]at e0;go_quiet (fail)
   go_wp2;go_end0
   exact⟨rfl,by rw[HE.o];exact(HV.below (br (aF _ _) _)).put 2 _ rfl,(HG.trans (pU ..)).trans (bJ ..)⟩
  have ug:¬(0:Int)=(d:Int):=by omega
  have mz:¬(d:Int)=0:=by omega
  have HE:U (bG.fin ⟨d,0,1⟩ l=⟨d,0,2⟩):=by show _=_;rw[HW.o,mB.o];unfold bG.cut;rw[aK (λx=>hd x.2.symm)]
  go_quiet (fail)
  go_wp2;go_end0
  exact⟨rfl,by rw[HE.o];exact HV.below (br (aF _ _) _),HG.trans (pU ..)⟩
 have g1:0<=idxOf l ⟨_⟩:=(rJ l _).2 hf
 cases hx:hasB l lA
 ·have g2:¬0<=idxOf l ⟨#[101,120,112,105,114,101,100]⟩:=λx=>by have:=(rJ l lA).1 x;rw[hx]at this;cases this
  have mB:U (gC l=1):=by show _=_;unfold gC;rw[aK (by rw[hx];simp),aU hf]
  clear hf hx;go_enter func114,ntmps114
  go_wp2_with fail
  apply(nJ l _ sa cap _ (hl _ (bJ ..)) hn).mono;rintro v w1 ⟨rfl,rfl⟩;go_wp2_with fail
  apply(nJ l _ sa cap _ (hl _ ((bJ ..).trans (bJ ..))) hn).mono;rintro v w2 ⟨rfl,rfl⟩;go_upto_region 10 with fail
  obtain⟨V,hV⟩:∃V,V=(w.setCell (ai b 2 I) (aA ⟨#[111,107]⟩)).setCell ⟨b,2,I⟩ (aA ⟨#[102,97,105,108,101,100]⟩):=⟨_,rfl⟩;rw[<- hV];have HV:U (jv w0 V b ⟨d,0,1⟩):=by show jv _ _ _ _;rw[hV];exact(h.put (s':=⟨d,0,0⟩) 2 _ (by simp[cZ,dE])).put (s':=⟨d,0,1⟩) 2 _ (by simp[cZ,dE,qa])
  have HG:U (w.grownBy V (J b)):=by show World.grownBy _ _ _;rw[hV];exact(bJ ..).trans (bJ ..)
  clear hV;have e0:V.cell? (ai b 0 I)=J (ae af (d:Int)):=by have:=HV.heap;simp[aH,this,cZ]
  have e1:V.cell? (ai b 1 I)=J (ae af (0)):=by have:=HV.heap;simp[aH,this,cZ]
  have e2:V.cell? (ai b 2 I)=J (aA ⟨#[102,97,105,108,101,100]⟩):=by have:=HV.heap;simp[aH,this,cZ,dE,qa]
  have q2:∀i,V.frozen? (ai b i I)=false:=λi=>by have:=HV.heap;simp[bM,this]
  clear c0 c1 c2 q;have HE:U (bG.fin ⟨d,0,1⟩ l=⟨d,0,1⟩):=by show _=_;rw[HW.o,mB.o];unfold bG.cut;rw[aK (λx=>by have:(1:Nat)=2:=x.1;omega)]
  go_quiet (fail)
  go_wp2;go_end0
  exact⟨rfl,by rw[HE.o];exact HV.below (br (aF _ _) _),HG.trans (pU ..)⟩
 have g2:0<=idxOf l ⟨_⟩:=(rJ l _).2 hx;have mB:U (gC l=2):=by show _=_;unfold gC;rw[aU hx]
 clear hf hx;go_enter func114,ntmps114
 go_wp2_with fail
 apply(nJ l _ sa cap _ (hl _ (bJ ..)) hn).mono;rintro v w1 ⟨rfl,rfl⟩;go_wp2_with fail
 apply(nJ l _ sa cap _ (hl _ ((bJ ..).trans (bJ ..))) hn).mono;rintro v w2 ⟨rfl,rfl⟩;go_upto_region 10 with fail
 obtain⟨V,hV⟩:∃V,V=(((w.setCell (ai b 2 I) (aA ⟨#[111,107]⟩)).setCell ⟨b,2,I⟩ (aA ⟨#[102,97,105,108,101,100]⟩)).setCell ⟨b,2,I⟩ (aA ⟨#[101,120,112,105,114,101,100]⟩)).setCell ⟨b,1,I⟩ (ae af 0):=⟨_,rfl⟩;rw[<- hV];have HV:U (jv w0 V b ⟨d,0,2⟩):=by show jv _ _ _ _;rw[hV];exact(((h.put (s':=⟨d,0,0⟩) 2 _ (by simp[cZ,dE])).put (s':=⟨d,0,1⟩) 2 _ (by simp[cZ,dE,qa])).put (s':=⟨d,0,2⟩) 2 _ (by simp[cZ,dE,lA])).put (s':=⟨d,0,2⟩) 1 _ (by simp[cZ])
 have HG:U (w.grownBy V (J b)):=by show World.grownBy _ _ _;rw[hV];exact(((bJ ..).trans (bJ ..)).trans (bJ ..)).trans (bJ ..)
 clear hV;have e0:V.cell? (ai b 0 I)=J (ae af (d:Int)):=by have:=HV.heap;simp[aH,this,cZ]
 have e1:V.cell? (ai b 1 I)=J (ae af (0)):=by have:=HV.heap;simp[aH,this,cZ]
 have e2:V.cell? (ai b 2 I)=J (aA ⟨#[101,120,112,105,114,101,100]⟩):=by have:=HV.heap;simp[aH,this,cZ,dE,lA]
 have q2:∀i,V.frozen? (ai b i I)=false:=λi=>by have:=HV.heap;simp[bM,this]
 clear c0 c1 c2 q
 by_cases hd:d=0
 ·subst hd;have HE:U (bG.fin ⟨0,0,1⟩ l=⟨0,0,3⟩):=by show _=_;rw[HW.o,mB.o];unfold bG.cut;rw[aU ⟨rfl,rfl⟩]
  simp only[vB]at e0;go_quiet (fail)
  go_wp2;go_end0
  exact⟨rfl,by rw[HE.o];exact(HV.below (br (aF _ _) _)).put 2 _ rfl,(HG.trans (pU ..)).trans (bJ ..)⟩
 have ug:¬(0:Int)=(d:Int):=by omega
 have mz:¬(d:Int)=0:=by omega
 have HE:U (bG.fin ⟨d,0,1⟩ l=⟨d,0,2⟩):=by show _=_;rw[HW.o,mB.o];unfold bG.cut;rw[aK (λx=>hd x.2.symm)]
 go_quiet (fail)
 go_wp2;go_end0
 exact⟨rfl,by rw[HE.o];exact HV.below (br (aF _ _) _),HG.trans (pU ..)⟩
end
def iK(w:ak)(B:Nat)(v:aw)(L:List Rec):Prop:=
 (∀k,v.ownBlock=J k->B<=k/\k<w.heap.size)/\∃ao g off cap,v=aj ao L.length cap/\Came w 4 ao g off L.length cap (cF L)/\cap<=maxLen
def iK.lt(h:iK w B v L):∀k,v.ownBlock=J k->B<=k/\k<w.heap.size:=h.1
def iK.len(h:iK w B v L):∃sa c,v=aj sa L.length c:=by
 obtain⟨-,ao,g,off,cap,rfl,-⟩:=h;exact⟨_,_,rfl⟩
def aj3{size:Nat}{ao:Option aC}{off len:Nat}{olds:List aw}(h:Came w size ao b off len cap olds)(hsz:w.heap.size<=w'.heap.size)(hb:0<cap->w'.heap[b]?=w.heap[b]?):Came w' size ao b off len cap olds:=by
 refine⟨h.le,h.addr,λhc=>cK (h.lt hc) hsz,h.oldsLen,λj u hu=>?_,λj hj=>?_⟩
 ·have hj:=(df.1 hu).1;rw[h.oldsLen]at hj;have mR:0<cap:=by
   rcases vr cap with e|e
   ·have:=h.le;rw[e]at this;rw[show len=0 by omega]at hj;simp at hj
   exact e
  exact(mH (a:=⟨b,_,_⟩) (hb mR)).trans (h.olds j u hu)
 have mR:0<cap:=by
  rcases vr cap with e|e
  ·rw[e]at hj;simp at hj
  exact e
 have hs:=h.spare j hj;exact⟨by rw[mH (a:=⟨b,_,_⟩) (hb mR)];exact hs.1,by rw[World.frozen?_of_block (a:=⟨b,_,_⟩) (hb mR)];exact hs.2⟩
def iK.off{S:Nat->Prop}(h:iK w B v L)(ho:aG S w w')(h2:∀g,v.ownBlock=J g->¬S g):iK w' B v L:=by
 obtain⟨hl,ao,g,off,cap,rfl,hc,hm⟩:=h;exact⟨λk hk=>⟨(hl k hk).1,cK (hl k hk).2 ho.size⟩,ao,g,off,cap,rfl,aj3 hc ho.size (λhp=>ho.block g (hc.lt hp) (h2 g (by rw[hc.addr hp];rfl))),hm⟩
def iK.below(h:iK w B v L)(hb:Below w.heap.size w w'):iK w' B v L:=h.off (aG.dm hb (λ_=>False)) (λ_ _ e=>e)
def iK.mono{B':Nat}(h:iK w B v L)(hb:B'<=B):iK w B' v L:=⟨λk hk=>⟨bp hb (h.1 k hk).1,(h.1 k hk).2⟩,h.2⟩
def eC.aj4(h:eC w B v L):iK w B v L:=by
 refine⟨h.lt,?_⟩
 rcases h.qd with⟨rfl,rfl⟩|⟨g,cap,rfl,-,hrow,hlc,hm⟩
 ·exact⟨_,0,0,0,rfl,⟨aR _,λh=>absurd h (by omega),λh=>absurd h (by omega),rfl,λj u hu=>by simp[cF]at hu,λj hj=>absurd hj (by simp)⟩,bA _⟩
 obtain⟨cur,hg,hcs,hx⟩:=hrow.row
 refine⟨_,g,0,cap,rfl,⟨hlc,λ_=>rfl,λ_=>hrow.lt,by rw[oM];omega,λj u hu=>?_,λj hj=>?_⟩,hm⟩
 ·rw[<- hx]at hu;rw[np]at hu
  split at hu
  ·simp only[aH,hg];simpa using hu
  cases hu
 constructor
 ·simp only[aH,hg];have h1:0+L.length*4+j<cur.size:=by rw[hcs];omega
  rw[aK (by simp),za h1];rfl
 simp[bM,hg]
def iK.reads{n:Nat}(h:iK w B (aj sa n c) L):n=L.length/\(L≠[]->∃g o,sa=J ⟨g,o,.none⟩/\∀i (h:i<L.length),w.cell? ⟨g,o+i*4,.none⟩=J (ae af (L[i].seq:Int))/\w.cell? ⟨g,o+i*4+1,.none⟩=J (ae af (L[i].cf:Int))/\w.cell? ⟨g,o+i*4+2,.none⟩=J (ae af (L[i].kind:Int))/\w.cell? ⟨g,o+i*4+3,.none⟩=J (ae af (L[i].tick:Int))):=by
 obtain⟨-,ao,g,off,cap,e,hc,-⟩:=h;simp only[mf]at e;obtain⟨rfl,rfl,rfl⟩:=e
 refine⟨rfl,λhne=>?_⟩;have hlen:=sq.2 hne;have mR:=cK hlen hc.le
 refine⟨g,off,hc.addr mR,λi hi=>?_⟩;have key:∀j,j<4->∀u,L[i].list[j]?=J u->w.cell? ⟨g,off+i*4+j,.none⟩=J u:=λj hj u hu=>by
  rw[show off+i*4+j=off+(i*4+j) by omega];exact hc.olds _ u (by rw[JP L i j hi hj];exact hu)
 exact⟨key 0 (ar rfl) _ rfl,key 1 (ar rfl) _ rfl,key 2 (ar rfl) _ rfl,key 3 (ar rfl) _ rfl⟩
def iK.tail{o n:Nat}(h:iK w B (aj (J ⟨g,o,.none⟩) n c) L)(hne:L≠[]):iK w B (aj (J ⟨g,o+4,.none⟩) (n-1) (c-1)) L.tail:=by
 obtain⟨hl,ao,g',off,cap,e,hc,hm⟩:=h;simp only[mf]at e;obtain⟨rfl,rfl,rfl⟩:=e;have hlen:=sq.2 hne;have hle:=hc.le;have mR:=cK hlen hle;have ha:=hc.addr mR;simp only[dJ,tQ,rh]at ha;obtain⟨rfl,rfl⟩:=ha
 refine⟨hl,_,g,_,_,by rw[List.length_tail],⟨by rw[List.length_tail];omega,λ_=>rfl,λ_=>hc.lt mR,by rw[oM];omega,λj u hu=>?_,λj hj=>?_⟩,by omega⟩
 ·have hr:cF L=(L.head hne).list++cF L.tail:=by
   cases L with
   |nil=>exact absurd rfl hne
   |cons x t=>rfl
  have:=hc.olds (4+j) u (by rw[hr,jX (by show (L.head hne).list.length<=_;simp[Rec.list])];simpa[Rec.list]using hu);rw[show o+4+j=o+(4+j) by omega];exact this
 rw[List.length_tail]at hj⊢;have:=hc.spare j (by omega);rw[show o+4+(L.length-1)*4+j=o+L.length*4+j by omega];exact this
def aj5(b:Nat):∀(vs:List aw) (o:Nat) (w:ak),(w.setCells b o vs).tape=w.tape/\(w.setCells b o vs).heap.size=w.heap.size:=by
 intro vs
 induction vs with
 |nil=>intro o w;exact⟨rfl,rfl⟩
 |cons v vs ih=>
  intro o w;have h:=ih (o+1) (w.setCell ⟨b,o,.none⟩ v);exact⟨h.1,h.2.trans (by simp[bN])⟩
def Vb(L:List Rec)(x:Rec):cF (L++[x])=cF L++x.list:=by simp[cF]
def iK.append(h:iK w B v L)(x:Rec)(ty:TypeId)(a:aC)(c:Nat)(hx:∀j u,x.list[j]?=J u->w.cell? (a.add j)=J u)(hl:L.length<=100)(hB:B<=w.heap.size):∃v' w',(Builtin.append_ #[92,92] ty #[v,aj (J a) 1 c]).run prog w=.ok v' w'/\iK w' B v' (L++[x])/\aG (λk=>v.ownBlock=J k) w w'/\(∀k,v'.ownBlock=J k->v.ownBlock=J k\/k=w.heap.size):=by
 obtain⟨i0,hi,hz0,hz1,hz2⟩:=yU;obtain⟨hlt,ao,g,off,cap,rfl,hc,hm⟩:=h;have aj6:=Ba x;have Bi:Src _ 4 92 _ 1 _ w:=Src.ofSlice w underlying92 a 1 c _ rfl hx aj6;have hle:=hc.le;have xv:=hc.oldsLen;have nV:(L++[x]).length=L.length+1:=by simp
 have qV:x.list.length=4:=rfl
 by_cases hroom:L.length+1<=cap
 ·have mR:0<cap:=by omega
  obtain rfl:=hc.addr mR;have hsome:∀j,j<x.list.length->(w.cell? _).isSome=true:=λj hj=>(hc.spare j (by omega)).1
  have hrun:=run_append_room_src (P:=prog) w 92 92 ty 97 i0 underlying92 hi g off _ cap _ 1 _ (by rw[hz1];exact Bi) hroom (by rw[hz1];exact hsome) (by rw[hz1];exact λj hj=>(hc.spare j (by omega)).2);rw[hz1]at hrun;obtain⟨FY,vJ⟩:=aj5 g x.list (off+L.length*4) w
  refine⟨_,_,hrun,⟨λk hk=>by rw[vJ];exact hlt k hk,_,g,off,cap,by rw[nV],⟨by rw[nV];exact hroom,λ_=>rfl,λ_=>by rw[vJ];exact hc.lt mR,by rw[oM];omega,λj u hu=>?_,λj hj=>?_⟩,hm⟩,⟨World.os_setCells _ _ _ _,FY,World.output_setCells _ _ _ _,by rw[vJ];exact aR _,λk hk hn=>World.heap_setCells_other w g _ _ hk (λe=>hn (by rw[e];rfl))⟩,λk hk=>aT hk⟩
  ·rw[Vb]at hu
   by_cases hj:j<(cF L).length
   ·rw[ly hj]at hu;rw[World.cell?_setCells_out g _ _ _ _ (λ_ _=>aT (by show off+j<off+L.length*4;omega))];exact hc.olds j u hu
   rw[jX (by omega)]at hu;have pE:=(df.1 hu).1;have:=World.cell?_setCells_in g _ _ w hsome _ pE;rw[show off+L.length*4+(j-(cF L).length)=off+j by omega]at this;rw[this,<- hu,bq pE]
  rw[nV]at hj⊢;have hs:=hc.spare (j+4) (by omega);rw[show off+(L.length+1)*4+j=off+L.length*4+(j+4) by omega];exact⟨World.isSome_setCells g _ _ _ _ hs.1,(World.frozen?_setCells g _ _ _ _).trans hs.2⟩
 have hold:(Builtin.firstCells i0.size L.length (aj ao L.length cap)).run prog w.drew=.ok (cF L).toArray w.drew:=by
  rw[hz1]
  rcases vr cap with h0|mR
  ·subst h0;have hl0:L.length=0:=by omega
   obtain rfl:=List.length_eq_zero_iff.1 hl0
   cases ao with
   |none=>exact run_firstCells_none _ 4 0 0 0
   |some a'=>exact run_firstCells_some _ 4 0 a' 0 0 [] (by simp) (by intro _ _ h';simp at h')
  rw[hc.addr mR]
  refine run_firstCells_some _ 4 _ _ _ cap _ xv (λj u hu=>?_);rw[Addr.add_lit];exact hc.olds j u hu
 have hrun:=run_append_grow_src (P:=prog) w 92 92 ty 97 i0 _ underlying92 hi hz0 ao _ cap _ hold _ 1 _ (by rw[hz1];exact Bi) (by omega) (by omega) (by rw[hz2];exact growslice_fits (by omega) (by omega));have od:=grownCap_ge w (L.length+1) cap 97;have hcm:=grownCap_le_maxLen w (L.length+1) cap 97 (by unfold maxLen;omega);have J0:(Value.agg #[ae af 0,ae af 0,ae af 0,ae af 0]).cells.size=4:=rfl;have hL4:(cF L++x.list).length=(L.length+1)*4:=by rw[cY,xv,qV];omega
 generalize hC:((cF L++x.list).toArray++Builtin.zeroCells (Value.agg #[ae af 0,ae af 0,ae af 0,ae af 0]).cells (grownCap w (L.length+1) cap 97-(L.length+1)))=C at hrun;have aj7:C.size=grownCap w (L.length+1) cap 97*4:=by
  rw[<- hC,Array.size_append,rV,hL4,size_zeroCells,J0];omega
 refine⟨_,_,hrun,⟨λk hk=>?_,_,_,0,_,by rw[nV],⟨by rw[nV];exact od,λ_=>rfl,λ_=>by simp,by rw[oM];omega,λj u hu=>?_,λj hj=>?_⟩,hcm⟩,⟨rfl,rfl,rfl,by simp,λk hk _=>Below.heap_alloc _ _ k hk⟩,λk hk=>aN ?_⟩
 ·simp only[dF,dJ]at hk;subst hk;exact⟨hB,by simp⟩
 ·rw[Vb]at hu;have e1:(w.drew.alloc (ay C 97)).cell? ⟨w.heap.size,_,_⟩=C[0+j]?:=World.cell?_alloc_new _ _ _ _;have hj:=(df.1 hu).1;rw[e1,lD,<- hC,FT (by simpa using hj),List.getElem?_toArray,hu]
 ·rw[nV]at hj⊢;have e1:(w.drew.alloc (ay C 97)).cell? ⟨w.heap.size,_,_⟩=C[0+(L.length+1)*4+j]?:=World.cell?_alloc_new _ _ _ _
  refine⟨?_,World.frozen?_alloc_new _ _ _ _⟩;rw[e1,za (by rw[aj7];omega)];rfl
 simp only[dF,dJ]at hk;exact hk.symm
structure cr where
 B:ByteArray
 off:Bool
 left:Nat
 mY:Bool
 written:Nat
variable{m:cr}
def cr.row(m:cr):Array aw:=#[aA m.B,aL m.off,ae af (m.left:Int),aL m.mY,ae af (m.written:Int)]
structure cg(w:ak)(b:Nat)(m:cr):Prop where
 heap:w.heap[b]?=J (ay m.row 43 (0,0))
def cg.cell(h:cg w b m)(i:Nat):w.cell? (ai b i I)=m.row[i]?:=by simp[aH,h.heap]
def cg.frozen(h:cg w b m)(i:Nat):w.frozen? (ai b i I)=false:=by simp[bM,h.heap]
def cg.c0(h:cg w b m):w.cell? (ai b 0 I)=J (aA m.B):=h.cell 0
def cg.c1(h:cg w b m):w.cell? (ai b 1 I)=J (aL m.off):=h.cell 1
def cg.c2(h:cg w b m):w.cell? (ai b 2 I)=J (ae af (m.left:Int)):=h.cell 2
def cg.c3(h:cg w b m):w.cell? (ai b 3 I)=J (aL m.mY):=h.cell 3
def cg.c4(h:cg w b m):w.cell? (ai b 4 I)=J (ae af (m.written:Int)):=h.cell 4
def cg.lt(h:cg w b m):b<w.heap.size:=bL h.heap
def cg.set{m':cr}(h:cg w b m)(i:Nat)(v:aw)(hr:m.row.setIfInBounds i v=m'.row):cg (w.setCell (ai b i I) v) b m':=by
 refine⟨?_⟩;simp only[bN,cL,h.heap];simp[hr]
def cg.NN(h:cg w b m)(x:ByteArray):cg (w.setCell (ai b 0 I) (aA x)) b { m with B:=x }:=h.set _ _ rfl
def cg.Da(h:cg w b m)(x:Bool):cg (w.setCell (ai b 1 I) (aL x)) b { m with off:=x }:=h.set _ _ rfl
def cg.A0(h:cg w b m)(x:Nat):cg (w.setCell (ai b 2 I) (ae af (x:Int))) b { m with left:=x }:=h.set _ _ rfl
def cg.Db(h:cg w b m)(x:Bool):cg (w.setCell (ai b 3 I) (aL x)) b { m with mY:=x }:=h.set _ _ rfl
def cg.iT(h:cg w b m)(x:Nat):cg (w.setCell (ai b 4 I) (ae af (x:Int))) b { m with written:=x }:=h.set _ _ rfl
def cg.below(h:cg w b m)(hb:Below w.heap.size w w'):cg w' b m:=⟨a8 hb h.heap⟩
def cg.other(h:cg w b m)(hg:w.grownBy w' (J c))(hne:b≠c):cg w' b m:=
 ⟨(hg.block b h.lt (by simpa using hne)).trans h.heap⟩
def aj8(b:Nat)(m:cr)(w:ak)(h:cg w b m):Calls prog 56 #[aq (J (ai b 0 I))] w λe w'=>e=ax (bn #[])/\cg w' b { m with off:=false,mY:=false }/\w.grownBy w' (J b)/\w'.heap.size=w.heap.size:=by
 have c1:=h.c1;have c3:=h.c3;have f1:=h.frozen 1;have f3:=h.frozen 3;go_enter func56,ntmps56
 go_wp2;go_end0
 exact⟨rfl,(h.Da _).Db _,dz (dz (fG _ _) _ _) _ _,by simp⟩
def aj9(b:Nat)(m:cr)(n:Nat)(w:ak)(h:cg w b m)(ho:m.off=false):Calls prog 29 #[aq (J (ai b 0 I)),ae af (n:Int)] w λe w'=>e=ax (ae af 0)/\cg w' b { m with mY:=true,left:=n }/\w.grownBy w' (J b)/\w'.heap.size=w.heap.size:=by
 have c1:=h.c1;have c2:=h.c2;have c3:=h.c3;have f2:=h.frozen 2;have f3:=h.frozen 3;have g0:¬(n:Int)<0:=by omega
 rw[ho]at c1;have R:=(h.Db true).A0 n;clear h ho;go_enter func29,ntmps29
 go_wp2;go_ret;exact⟨rfl,R,dz (dz (fG _ _) _ _) _ _,by simp⟩
def aj_(b:Nat)(n:Int)(w:ak)(hn:n<0):Calls prog 29 #[aq (J (ai b 0 I)),ae af n] w λe w'=>e=ax (ae af 2)/\w'=w:=by
 go_enter func29,ntmps29
 go_wp2;go_ret;exact⟨rfl,rfl⟩
def aj'(b:Nat)(m:cr)(n:Int)(w:ak)(h:cg w b m)(hn:¬n<0)(ho:m.off=true):Calls prog 29 #[aq (J (ai b 0 I)),ae af n] w λe w'=>e=ax (ae af 8)/\w'=w:=by
 have c1:=h.c1;rw[ho]at c1;go_enter func29,ntmps29
 go_wp2;go_ret;exact⟨rfl,rfl⟩
def cr.err(m:cr)(p n:Int):Nat:=if p<0\/n<0\/(m.B.size:Int)-p<n then 2 else if m.off=true then 8 else 0
def Fv(b:Nat)(m:cr)(p n:Int)(w:ak)(h:cg w b m)(hz:m.B.size<=4096)(hp:p<=9223372036854775807):Calls prog 178 #[aq (J (ai b 0 I)),ae af p,ae af n] w λe w'=>e=ax (ae af (m.err p n:Nat))/\w'=w:=by
 have c0:=h.c0;have c1:=h.c1
 by_cases h1:p<0
 ·have E:U (m.err p n=2):=aU (aT h1);go_enter func178,ntmps178
  go_wp2;go_ret;rw[E.o];exact⟨rfl,rfl⟩
 by_cases h2:n<0
 ·have E:U (m.err p n=2):=aU (aN (aT h2));go_enter func178,ntmps178
  go_wp2;go_ret;rw[E.o];exact⟨rfl,rfl⟩
 by_cases h3:(m.B.size:Int)<p
 ·have E:U (m.err p n=2):=aU (aN (aN (by omega)));go_enter func178,ntmps178
  go_wp2;go_ret;rw[E.o];exact⟨rfl,rfl⟩
 by_cases h4:(m.B.size:Int)-p<n
 ·have E:U (m.err p n=2):=aU (aN (aN h4));go_enter func178,ntmps178
  go_wp2;go_ret;rw[E.o];exact⟨rfl,rfl⟩
 have hno:¬(p<0\/n<0\/(m.B.size:Int)-p<n):=by omega
 cases ho:m.off
 ·have E:U (m.err p n=0):=by show _=_;unfold cr.err;rw[aK hno,ho];rfl
  go_enter func178,ntmps178
  go_wp2;go_ret;rw[E.o];exact⟨rfl,rfl⟩
 have E:U (m.err p n=8):=by show _=_;unfold cr.err;rw[aK hno,ho];rfl
 go_enter func178,ntmps178
 go_wp2;go_ret;rw[E.o];exact⟨rfl,rfl⟩
end Go.Proofs.YtgjlihibabmgcaaGreatDoor
