/-
  Several texts as one: Is, Bas, CfMem0, CfMem, CfPage, Shelf, CfWord, LdBase, CellsSt, Four, CellsOps, CellsMore, RingSum, RingNum, RingEnc, RingDec, RingHeld, CellsZe, RingHeld2, RingSl, RingRev, RingNewest, RingSt, RingPut, RingDel, Offs.
-/
import Derived.Test.YtgjlihibabmgcaaGreatDoorP00S
import Derived.WalkKit
import Derived.LaidEql
import Derived.Stop.Asserts
import Derived.RowKitTokens
import Derived.Outline
import Derived.BigQuiet
import Derived.Deep.QuietTactic
import Derived.Deep.DeepCutAuto
import Derived.WalkSmall
import Derived.Lib.OthersKept
import Derived.Lib.AppendStr
import Derived.Lib.UnsafeStr
import Derived.Lib.Builder
import Derived.Laws.Externs
import Derived.BigRegion
import Derived.Shelf.LaysM
import Derived.Shelf.Strconv.Itoa3
import Derived.Shelf.Strings.SplitShaped
import Derived.Shelf.Strings.Prefix
import Derived.Deep.RegionHeld3
import Derived.Test.YtgjlihibabmgcaaGreatDoorRows
import Derived.Lib.LaidTab
import Derived.LaidLaws
import Derived.LaidHandle
import Derived.LaidMore
import Derived.Laws.IdiomStrings
import Derived.Laws.BitsAllLaws
import Derived.Laws.ShiftsVarLaws
import Derived.Deep.AppendLies
import Derived.Laws.MakeOwn
import Derived.Lib.BufferWrite
import Derived.Laws.ResultCell
import Derived.Laws.CopyOwn
import Derived.Laws.Strings2
import Derived.Laws.Tables
import Derived.RegionTactic
import Derived.Lib.SliceRun
import Derived.Deep.RegionLaw
set_option linter.all false
set_option maxHeartbeats 40000000
set_option maxRecDepth 100000
def Go.RowKit.Hid.o{p:Prop}(h:Go.RowKit.Hid p):p:=h
abbrev aF:=@Go.RowKit.Below.refl
abbrev aO:=@Go.Calls.mono
abbrev br:=@Go.below_drewN
abbrev cL.{u}:=@Array.getElem?_modify.{u}
abbrev cK:=@Nat.lt_of_lt_of_le
abbrev dr:=@Go.World.cell?_alloc_at
abbrev cj:=@Go.heap_alloc_new
abbrev gW:=@Go.ByteArray.toList_eq
abbrev fg.{u}:=@Option.some.inj.{u}
abbrev gX.{u}:=@beq_eq_false_iff_ne.{u}
abbrev dL:=@Go.bodyPost_ret
abbrev gF:=@Go.World.ownsRow_nil
abbrev gY.{u,v}:=@List.getElem?_map.{u,v}
abbrev iQ:=@Go.wpList_store_row
abbrev mH:=@Go.World.cell?_of_block
abbrev np.{u}:=@List.getElem?_take.{u}
abbrev lZ:=@Go.World.var?_cell
abbrev lC.{u,v}:=@List.map_append.{u,v}
abbrev iw:=@Go.info_parts
abbrev kH:=@Nat.add_zero
abbrev qR.{u}:=@Array.getElem?_toList.{u}
abbrev pz:=@Go.wpList_append_own
abbrev lD:=@Nat.zero_add
abbrev pA:=@decide_eq_decide
abbrev pB:=@Go.wpList_load_row
abbrev ve.{u,v}:=@Option.map_eq_some_iff.{u,v}
abbrev rV.{u}:=@List.size_toArray.{u}
abbrev yG:=@Nat.add_sub_cancel_left
abbrev yH:=@Int.eq_ofNat_of_zero_le
abbrev xe.{u}:=@Array.getElem?_eq_none.{u}
abbrev tJ:=@Nat.lt_succ_self
abbrev tK:=@Go.World.size_alloc
abbrev j4:=@or_false
abbrev yI.{u}:=@List.drop_eq_nil_of_le.{u}
abbrev CU.{u}:=@List.take_succ_eq_append_getElem.{u}
abbrev CV.{u}:=@Array.all_eq_true_iff_forall_mem.{u}
abbrev xg:=@Go.RowKit.Below.heap_setCell
abbrev AQ:=@Go.run_convert_bytes_back
abbrev qT:=@Nat.mul_one
abbrev xh:=@Go.Lib.extract_data
abbrev AR:=@Nat.pow_le_pow_right
abbrev yJ:=@Go.Result.andThen_ok
abbrev AU:=@Go.World.ownsRow_made
abbrev AV.{u}:=@List.length_reverse.{u}
abbrev yK.{u}:=@List.length_drop.{u}
abbrev CW:=@Nat.xor_lt_two_pow
abbrev CX:=@Nat.add_sub_cancel
abbrev FT.{u}:=@Array.getElem?_append_left.{u}
abbrev FU.{u}:=@List.sublist_append_right.{u}
abbrev AW.{u}:=@List.take_append.{u}
abbrev AX.{u}:=@List.length_set.{u}
open Go renaming Addr→aC,Value→aw,World→ak
open Go.Addr renaming mk→ai
open Go.Ending renaming returned→ax
open Go.IntKind renaming i64→af
open Go.Obj renaming cells→ay
open Go.RowKit renaming Hid→U
open Go.Value renaming agg→bK,bool→aL,int→ae,ownBlock→dF,pointer→aq,slice→aj,string→aA,tuple→bn
open Go.World renaming cell?→aH,frozen?→bM,setCell→bN
open Option renaming none→I,some→J
open Go.Proofs.Tryz
namespace Go.Proofs.YtgjlihibabmgcaaGreatDoor
open Go.Extern Go.Extern.Stop Go.RowKit Go.Stop
variable{A:Nat->aC}{B k pb:Nat}{a b w w':ak}{l:List UInt8}{pv v:aw}
def Xp:(prog.info? 357).map (·.comparable)=J true:=by kernel_rfl
def Xq:(prog.info? 359).map (·.size)=J 1:=by kernel_rfl
def jf{a:aC}(h:w.cell? a=J v):a.block<w.heap.size:=by
 rcases fF a.block w.heap.size with h'|h'
 ·exact h'
 simp[aH,xe h']at h
def bL{o:Obj}(h:w.heap[k]?=J o):k<w.heap.size:=by
 rcases fF k w.heap.size with h'|h'
 ·exact h'
 rw[xe h']at h;cases h
def aJ{a:aC}(hb:Below w.heap.size w w')(h:w.cell? a=J v):w'.cell? a=J v:=
 (hb.cell (jf h)).trans h
def a8{o:Obj}(hb:Below w.heap.size w w')(h:w.heap[k]?=J o):w'.heap[k]?=J o:=
 (hb.block k (bL h)).trans h
def pC{b:Nat}(h:Below B a w)(k:w.grownBy w' (J b))(hB:B<=w.heap.size)(hb:B<=b):Below B a w':=
 h.grown k hB (λi hi=>by cases hi;exact hb)
def Below.one(w:ak)(o:Obj):Below w.heap.size w (w.alloc o):=(aF _ _).alloc (aR _) _
def bw{α:Type}(enc:α->List aw)(k:Nat)(w:ak)(v:aw)(xs:List α):Prop:=
 ∃sa cap,v=aj sa xs.length cap/\xs.length<=cap/\(xs≠[]->∃b o,sa=J ⟨b,o,I⟩/\∀i x,xs[i]?=J x->∀j u,(enc x)[j]?=J u->w.cell? ⟨b,o+i*k+j,I⟩=J u)
def bw.below{α:Type}{enc:α->List aw}{xs:List α}(h:bw enc k w v xs)(hb:Below w.heap.size w w'):bw enc k w' v xs:=by
 obtain⟨sa,cap,h1,h0,h2⟩:=h
 refine⟨sa,cap,h1,h0,λhne=>?_⟩;obtain⟨b,o,h3,h4⟩:=h2 hne;exact⟨b,o,h3,λi x hx j u hu=>aJ hb (h4 i x hx j u hu)⟩
def bT(x:Int):List aw:=[ae af x]
def ct(s:ByteArray):List aw:=[aA s]
def kI(p:Int×Int):List aw:=[ae af p.1,ae af p.2]
def lF(g:eT):List aw:=[ae af g.fr,ae af g.to,ae af g.mn,ae af g.mx]
def nU(e:aM)(pv gv ev fv lv:aw):Array aw:=#[aA e.name,ae af e.bh,pv,ae af e.cnt,ae af e.mn,ae af e.mx,gv,ev,fv,lv]
structure fh(w:ak)(e:aM)(pv gv ev fv lv:aw):Prop where
 hp:bw ct 1 w pv e.au
 hg:bw lF 4 w gv e.aV
 he:bw kI 2 w ev e.aP
 hf:bw bT 1 w fv e.first
 hl:bw bT 1 w lv e.last
def fh.below{e:aM}{gv ev fv lv:aw}(h:fh w e pv gv ev fv lv)(hb:Below w.heap.size w w'):fh w' e pv gv ev fv lv:=
 ⟨h.hp.below hb,h.hg.below hb,h.he.below hb,h.hf.below hb,h.hl.below hb⟩
def eU(w:ak)(v:aw)(es:List aM):Prop:=
 ∃sa cap,v=aj sa es.length cap/\(es≠[]->∃b o,sa=J ⟨b,o,I⟩/\∀i e,es[i]?=J e->∃pv gv ev fv lv,fh w e pv gv ev fv lv/\∀j u,(nU e pv gv ev fv lv)[j]?=J u->w.cell? ⟨b,o+i*10+j,I⟩=J u)
def eU.below{es:List aM}(h:eU w v es)(hb:Below w.heap.size w w'):eU w' v es:=by
 obtain⟨sa,cap,h1,h2⟩:=h
 refine⟨sa,cap,h1,λhne=>?_⟩;obtain⟨b,o,h3,h4⟩:=h2 hne
 refine⟨b,o,h3,λi e he=>?_⟩;obtain⟨pv,gv,ev,fv,lv,h5,h6⟩:=h4 i e he;exact⟨pv,gv,ev,fv,lv,h5.below hb,λj u hu=>aJ hb (h6 j u hu)⟩
structure gG(e:aM):Prop where
 hn:e.name.size<=1000000
 hp:e.au.length<=1000000
 hs:∀p∈e.au,p.size<=1000000
 hg:e.aV.length<=1000000
 he:e.aP.length<=1000000
 hf:e.first.length<=1000000
 hl:e.last.length<=1000000
structure kJ(c:aX):Prop where
 hn:c.az.length<=1000000
 he:∀e∈c.az,gG e
structure dG(A:Nat->aC)(w:ak):Prop where
 c0:w.cell? (ai 6 0 I)=J (.iface 357 (aq (J (A 0))))
 c1:w.cell? (ai 0 0 I)=J (.iface 357 (aq (J (A 1))))
 c2:w.cell? (ai 1 0 I)=J (.iface 357 (aq (J (A 2))))
 c3:w.cell? (ai 2 0 I)=J (.iface 357 (aq (J (A 3))))
 c4:w.cell? (ai 7 0 I)=J (.iface 357 (aq (J (A 4))))
 c5:w.cell? (ai 3 0 I)=J (.iface 357 (aq (J (A 5))))
 row:∀i,i<6->∃c t,w.heap[(A i).block]?=J (ay c t (0,0))
 ne:∀i j,i<6->j<6->i≠j->A i≠A j
def dG.below(h:dG A w)(hb:Below w.heap.size w w'):dG A w':=
 ⟨aJ hb h.c0,aJ hb h.c1,aJ hb h.c2,aJ hb h.c3,aJ hb h.c4,aJ hb h.c5,λi hi=>by obtain⟨c,t,e⟩:=h.row i hi;exact⟨c,t,a8 hb e⟩,h.ne⟩
def dG.alloc(h:dG A w)(o:Obj):dG A (w.alloc o):=h.below ((aF _ _).alloc (aR _) _)
structure l4(A:Nat->aC)(w:ak):Prop where
 c1:w.cell? (ai 0 0 I)=J (.iface 357 (aq (J (A 1))))
 c2:w.cell? (ai 1 0 I)=J (.iface 357 (aq (J (A 2))))
 c3:w.cell? (ai 2 0 I)=J (.iface 357 (aq (J (A 3))))
 c4:w.cell? (ai 7 0 I)=J (.iface 357 (aq (J (A 4))))
 c5:w.cell? (ai 3 0 I)=J (.iface 357 (aq (J (A 5))))
def l4.below(h:l4 A w)(hb:Below w.heap.size w w'):l4 A w':=
 ⟨aJ hb h.c1,aJ hb h.c2,aJ hb h.c3,aJ hb h.c4,aJ hb h.c5⟩
def l4.alloc(h:l4 A w)(o:Obj):l4 A (w.alloc o):=h.below ((aF _ _).alloc (aR _) _)
def dG.five(h:dG A w):l4 A w:=⟨h.c1,h.c2,h.c3,h.c4,h.c5⟩
def cP(A:Nat->aC):Nat->aw
 |0=>.nilIface
 |j+1=>.iface 357 (aq (J (A j)))
def mI(A:Nat->aC)(w:ak)(v:aw)(f:Nat×Int):Prop:=
 f.1<=11/\((f.2=-1/\v=cP A f.1)\/(0<f.1/\∃b,v=.iface 117 (aq (J (ai b 0 I)))/\w.cell? (ai b 0 I)=J (ae af f.2)/\w.cell? (ai b 1 I)=J (cP A f.1)))
def mI.below{f:Nat×Int}(h:mI A w v f)(hb:Below w.heap.size w w'):mI A w' v f:=by
 obtain⟨h1,h2|⟨h2,b,h3,h4,h5⟩⟩:=h
 ·exact⟨h1,aT h2⟩
 exact⟨h1,aN ⟨h2,b,h3,aJ hb h4,aJ hb h5⟩⟩
def CY(n a b:Int)(w:ak):Calls prog 95 #[ae af n,ae af a,ae af b] w λe w'=>e=ax (aL (within n a b))/\w'=w:=by
 by_cases h1:a<=n
 ·by_cases h2:n<=b
  all_goals
   go_enter func95,ntmps95
   go_wp2;go_ret;exact⟨by simp[within,h1,h2],rfl⟩
 go_enter func95,ntmps95
 go_wp2;go_ret;exact⟨by simp[within];omega,rfl⟩
def Pu(b:UInt8)(w:ak):Calls prog 144 #[ae .u8 (b.toNat:Int)] w λe w'=>e=ax (aL (mE b))/\w'=w:=by
 have hb:mE b=(decide ((97:Int)<=(b.toNat:Int))&&decide ((b.toNat:Int)<=122)):=by
  unfold mE;congr 1<;>exact pA.2 (by omega)
 rw[hb];generalize (b.toNat:Int)=n
 by_cases h1:97<=n
 ·by_cases h2:n<=122
  all_goals
   go_enter func144,ntmps144
   go_wp2;go_ret;exact⟨by simp[h1,h2],rfl⟩
 go_enter func144,ntmps144
 go_wp2;go_ret;exact⟨by simp;omega,rfl⟩
def Jw(b:UInt8)(w:ak):Calls prog 145 #[ae .u8 (b.toNat:Int)] w λe w'=>e=ax (aL (iN b))/\w'=w:=by
 have hb:iN b=(decide ((48:Int)<=(b.toNat:Int))&&decide ((b.toNat:Int)<=57)):=by
  unfold iN;congr 1<;>exact pA.2 (by omega)
 rw[hb];generalize (b.toNat:Int)=n
 by_cases h1:48<=n
 ·by_cases h2:n<=57
  all_goals
   go_enter func145,ntmps145
   go_wp2;go_ret;exact⟨by simp[h1,h2],rfl⟩
 go_enter func145,ntmps145
 go_wp2;go_ret;exact⟨by simp;omega,rfl⟩
def Xr(c o:Int)(w:ak)(h:(within c 0 1000&&within o 1 1000)=true):Calls prog 120 #[ae af c,ae af o] w λe w'=>e=ax (bn #[aq (J (ai w.heap.size 0 I)),.nilIface])/\Below w.heap.size w w':=by
 simp[within]at h
 have g1:¬c<0:=by omega
 have g2:¬1000<c:=by omega
 have g3:¬o<1:=by omega
 have g4:¬1000<o:=by omega
 go_enter func120,ntmps120
 go_wp2;go_ret2
 exact⟨rfl,(aF _ _).alloc (aR _) _⟩
def Xs(A:Nat->aC)(c o:Int)(w:ak)(hs:l4 A w)(h:(within c 0 1000&&within o 1 1000)=false):Calls prog 120 #[ae af c,ae af o] w λe w'=>e=ax (bn #[aq I,.iface 357 (aq (J (A 1)))])/\Below w.heap.size w w':=by
 have hc:=hs.c1;simp[within]at h
 by_cases g1:c<0
 ·clear h;go_enter func120,ntmps120
  go_wp2_with fail
  go_quiet (fail)
  go_wp2;go_ret2
  exact⟨rfl,br (aF _ _) _⟩
 by_cases g2:1000<c
 ·clear h;go_enter func120,ntmps120
  go_wp2_with fail
  go_quiet (fail)
  go_wp2;go_ret2
  exact⟨rfl,br (aF _ _) _⟩
 by_cases g3:o<1
 ·clear h;go_enter func120,ntmps120
  go_wp2_with fail
  go_quiet (fail)
  go_wp2;go_ret2
  exact⟨rfl,br (aF _ _) _⟩
 have g4:1000<o:=by omega
 go_enter func120,ntmps120
 go_wp2_with fail
 go_quiet (fail)
 go_wp2;go_ret2
 exact⟨rfl,br (aF _ _) _⟩
def Xt(A:Nat->aC)(c o:Int)(w:ak)(hs:l4 A w):Calls prog 93 #[ae af c,ae af o] w λe w'=>e=ax (aL (within c 0 1000&&within o 1 1000))/\Below w.heap.size w w':=by
 cases h:(within c 0 1000&&within o 1 1000)with
 |true=>
  have dn:=Xr c o w h;go_enter func93,ntmps93
  go_wp2_with fail
  refine dn.mono ?_;rintro e w' ⟨rfl,hb⟩;go_wp2;go_ret;exact⟨rfl,hb⟩
 |false=>
  have dn:=Xs A c o w hs h;go_enter func93,ntmps93
  go_wp2_with fail
  refine dn.mono ?_;rintro e w' ⟨rfl,hb⟩;go_wp2;go_ret;exact⟨rfl,hb⟩
def Pv:(prog.info? 5).map (λi=>(i.zero,i.size,i.bytes))=J (J (ae .u8 0),1,1):=by kernel_rfl
def Xu:(prog.info? 65).map (·.size)=J 2:=by kernel_rfl
def Xv:liesAt prog prog.depth 67 (3 / prog.cellsOf 67) 0 65 1=true:=by kernel_rfl
def Xw:prog.cellsOf 5=1:=by kernel_rfl
def cC(B pb:Nat)(pv:aw)(l:List UInt8)(w:ak):Prop:=
 B<=pb/\B<=w.heap.size/\∃p v,(p=aq I\/p=aq (J (ai pb 0 I)))/\w.heap[pb]?=J (ay #[p,v,pv] 67 (0,0))/\w.ownsRow B 5 1 v l.length (Lib.byteCells l)/\v.ownBlock≠J pb
structure cd(B pb:Nat)(w w':ak):Prop where
 aY:Below B w w'
 yL:Lib.OthersKept 5 (J pb) w w'
def cd.refl(B pb:Nat)(w:ak):cd B pb w w:=⟨aF _ _,Lib.OthersKept.refl _ _ _⟩
def cd.trans{c:ak}(h:cd B pb a b)(k:cd B pb b c):cd B pb a c:=⟨h.aY.trans k.aY,h.yL.trans k.yL⟩
def cd.alloc(h:cd B pb a b)(hB:B<=b.heap.size)(o:Obj):cd B pb a (b.alloc o):=⟨h.aY.alloc hB _,h.yL.alloc _⟩
def cd.drew(h:cd B pb a b):cd B pb a b.drew:=⟨h.aY.drew,h.yL.drew⟩
def cd.box(h:cd B pb w w'){c:Array aw}{t:TypeId}{fr:Nat×Nat}(hk:w.heap[k]?=J (ay c t fr))(hne:k≠pb)(ht:t≠5):w'.heap[k]?=J (ay c t fr):=
 h.yL k _ hk (by simpa using hne) (λc' fz e=>by cases e;exact ht rfl)
def cC.below(h:cC B pb pv l w)(hb:Below w.heap.size w w'):cC B pb pv l w':=by
 obtain⟨h1,h2,p,v,h3,h4,h5,h6⟩:=h
 refine⟨h1,bp h2 hb.size,p,v,h3,a8 hb h4,?_,h6⟩
 refine h5.kept (row:=I) ⟨hb.os,hb.tape,hb.output,hb.size,λk hk _=>hb.block k hk⟩ (by by_cases h:v.ownBlock=I;exact aT h;exact aN h)
def cd.dm(h:cC B pb pv l w)(hb:Below w.heap.size w w'):cd B pb w w':=
 ⟨hb.mono h.2.1,λk _ hk _ _=>(hb.block k (bL hk)).trans hk⟩
def cC.lt(h:cC B pb pv l w):pb<w.heap.size:=by
 obtain⟨-,-,p,v,-,h4,-⟩:=h;exact bL h4
def cC.new(w:ak):cC w.heap.size w.heap.size (aj I 0 0) [] (w.alloc (ay #[aq I,aj I 0 0,aj I 0 0] 67)):=by
 refine⟨aR _,by simp,_,_,aT rfl,?_,gF _ _ _ _,by simp[dF]⟩;show (w.heap.push _)[w.heap.size]?=_
 simp
def cC.Pw(h:cC B pb pv l w)(j_:aw):cC B pb j_ l (w.setCell (ai pb 2 I) j_)/\cd B pb w (w.setCell (ai pb 2 I) j_):=by
 obtain⟨h1,h2,p,v,h3,h4,h5,h6⟩:=h
 refine⟨⟨h1,by simpa[bN]using h2,p,v,h3,by simp[bN,cL,h4],?_,h6⟩,(aF B w).setCell (p:=⟨pb,2,_⟩) h1 _,(Lib.OthersKept.refl _ _ w).setCell ⟨pb,2,_⟩ rfl _⟩;exact h5.kept (row:=J pb) ⟨rfl,rfl,rfl,by simp[bN],λk _ hk=>xg _ _ _ _ (λe=>hk (by simp[e]))⟩ (aN h6)
def Px(B pb:Nat)(pv:aw)(l:List UInt8)(w:ak)(h:cC B pb pv l w):Calls prog 174 #[aq (J (ai pb 0 I))] w λe w'=>e=ax (bn #[])/\B<=pb/\B<=w'.heap.size/\(∃v,w'.heap[pb]?=J (ay #[aq (J (ai pb 0 I)),v,pv] 67 (0,0))/\w'.ownsRow B 5 1 v l.length (Lib.byteCells l)/\v.ownBlock≠J pb)/\cd B pb w w':=by
 obtain⟨j,hj,CZ⟩:=ve.1 Xu;obtain⟨h1,h2,p,v,h3,h4,h5,h6⟩:=h;have c0:w.cell? (ai pb 0 I)=J p:=by simp[aH,h4]
 rcases h3 with rfl|rfl
 ·have C0:w.shape? pb=J (67,3):=by simp[World.shape?,h4]
  have Xx:w.frozen? (ai pb 0 I)=false:=by simp[bM,h4]
  have e1:w.setCell _ _=w.setCell (ai pb 0 I) (aq (J (ai pb 0 I))):=rfl;have HR:U (B<=(w.setCell (ai pb 0 I) (aq (J (ai pb 0 I)))).heap.size/\(∃v,(w.setCell (ai pb 0 I) (aq (J (ai pb 0 I)))).heap[pb]?=J (ay #[aq (J (ai pb 0 I)),v,pv] 67 (0,0))/\(w.setCell (ai pb 0 I) (aq (J (ai pb 0 I)))).ownsRow B 5 1 v l.length (Lib.byteCells l)/\v.ownBlock≠J pb)/\cd B pb w (w.setCell (ai pb 0 I) (aq (J (ai pb 0 I))))):=by
   refine⟨by simpa[bN]using h2,⟨v,by simp[bN,cL,h4],?_,h6⟩,(aF B w).setCell (p:=⟨pb,0,_⟩) h1 _,(Lib.OthersKept.refl _ _ w).setCell ⟨pb,0,_⟩ rfl _⟩;exact h5.kept (row:=J pb) ⟨rfl,rfl,rfl,by simp[bN],λk _ hk=>xg _ _ _ _ (λe=>hk (by simp[e]))⟩ (aN h6)
  have hu:=Lib.run_to_unsafe w (e:=67) (cells:=3) ⟨pb,0,I⟩ underlying63 underlying249 hj (by rw[CZ];decide) C0 (Nat.zero_lt_succ 2);have hf:=Lib.run_from_unsafe w (e:=67) (cells:=3) ⟨pb,0,I⟩ underlying249 underlying63 hj C0 Xv;have he:=run_callFunc_extern (P:=prog) func204 (by kernel_rfl) (by kernel_rfl) (by kernel_rfl) (e:=Extern.AbiNoEscape.same) (by kernel_rfl);have hne:=Lib.run_noEscape (P:=prog);clear h2 h4 h5 h6 e1;go_enter func174,ntmps174
  go_wp2;go_end0
  exact⟨rfl,h1,HR.1,HR.2.1,HR.2.2⟩
 have hn:=Lib.run_neq_ptr_same (P:=prog) w ⟨pb,0,I⟩ underlying63 hj;have HR:U (B<=w.heap.size/\(∃v,w.heap[pb]?=J (ay #[aq _,v,pv] 67 _)/\w.ownsRow B 5 1 v _ _/\v.ownBlock≠J pb)):=⟨h2,v,h4,h5,h6⟩;clear h2 h4 h5 h6;go_enter func174,ntmps174
 go_wp2;go_end0
 exact⟨rfl,h1,HR.1,HR.2,cd.refl _ _ _⟩
def Py(B pb:Nat)(pv:aw)(l:List UInt8)(c:UInt8)(w:ak)(h:cC B pb pv l w)(hl:l.length<=1000000000):Calls prog 106 #[aq (J (ai pb 0 I)),ae .u8 (c.toNat:Int)] w λe w'=>e=ax .nilIface/\cC B pb pv (l++[c]) w'/\cd B pb w w':=by
 obtain⟨i0,hi,hz0,hz1,hz2⟩:=iw Pv;go_enter func106,ntmps106
 go_wp2_with fail
 apply(Px B pb pv l w h).mono;rintro e w1 ⟨rfl,hB,tL,⟨v,dQ,hown,hne⟩,eB⟩;have c0:w1.cell? (ai pb 0 I)=J (aq (J (ai pb 0 I))):=by simp[aH,dQ]
 have c1:w1.cell? (ai pb 1 I)=J v:=by simp[aH,dQ]
 obtain⟨ao,n0,C2,rfl⟩:∃ao n' cap,v=aj ao n' cap:=by
  rcases hown.2 with⟨hv,_⟩|⟨g,cap,cur,hv,_⟩
  ·exact⟨_,_,_,hv⟩
  exact⟨_,_,_,hv⟩
 go_wp2_with (at_builtin;refine pz _ rfl _ _ 41 rfl B 5 i0 _ 1 1 underlying41 hi hz0 hz1 hz2 rfl (ar rfl) _ _ _ rfl (hown.alloc _) _ 1 1 [ae .u8 (c.toNat:Int)] rfl rfl ?c1 ?c2 ?c3 ?c4 ?c5 ?_)
 case c1=>
  intro j u hj
  match j,hj with
  |0,hj=>simp at hj;subst hj;simp[Addr.add]
  |j+1,hj=>simp at hj
 case c2=>intro u hu;simp at hu;subst hu;rfl
 case c3=>unfold maxLen;omega
 case c4=>omega
 case c5=>simp;omega
 intro v' w2 hown' hgrow _;have hlt:=bL dQ;have hb2:w2.heap[pb]?=J (ay #[aq (J (ai pb 0 I)),aj ao n0 C2,pv] 67 (0,0)):=by
  rw[hgrow.block pb (by simp;omega) (λe=>hne e.symm)];exact a8 ((aF _ _).alloc (aR _) _) dQ
 have d0:w2.cell? (ai pb 0 I)=J (aq (J (ai pb 0 I))):=by simp[aH,hb2]
 have d1:w2.cell? (ai pb 1 I)=J (aj ao n0 C2):=by simp[aH,hb2]
 have f1:w2.frozen? (ai pb 1 I)=false:=by simp[bM,hb2]
 obtain⟨g,cap,rfl⟩:∃g cap,v'=aj (J (ai g 0 I)) (l.length+1) cap:=by
  rcases hown'.2 with⟨_,h0⟩|⟨g,cap,cur,hv,_⟩
  ·omega
  exact⟨g,cap,hv⟩
 have C3:=Lib.ownBlock_ne hown' hb2 (ar rfl);have HR:U (cC B pb pv (l++[c]) (w2.setCell (ai pb 1 I) (aj (J (ai g 0 I)) (l.length+1) cap))/\cd B pb w (w2.setCell (ai pb 1 I) (aj (J (ai g 0 I)) (l.length+1) cap))):=by
  have hs2:=hgrow.size;simp at hs2
  refine⟨⟨hB,by simp[bN];omega,_,_,aN rfl,by simp[bN,cL,hb2],?_,C3⟩,?_,?_⟩
  ·have hown2:w2.ownsRow B 5 1 (aj (J (ai g 0 I)) (l.length+1) cap) (l.length+1) (Lib.byteCells l++[ae .u8 (c.toNat:Int)]):=by simpa using hown'
   have:=hown2.kept (row:=J pb) (w':=w2.setCell (ai pb 1 I) (aj (J (ai g 0 I)) (l.length+1) cap)) ⟨rfl,rfl,rfl,by simp[bN],λk _ hk=>xg _ _ _ _ (λe=>hk (by simp[e]))⟩ (aN C3);rw[Lib.byteCells_append,cY];exact this
  ·exact((eB.aY.alloc tL _).grown hgrow (by simp;omega) (λk hk=>(hown.lt k hk).1)).setCell (p:=⟨pb,1,_⟩) hB _
  refine((eB.yL.alloc _).grown hgrow (λg' cM=>?_)).setCell _ rfl _
  rcases hown.2 with⟨hv,_⟩|⟨g2,xi,cur,hv,_,hg2,_⟩
  ·rw[hv]at cM;simp[dF]at cM
  rw[hv]at cM;simp[dF]at cM
  subst cM;exact⟨cur,_,a8 ((aF _ _).alloc (aR _) _) hg2⟩
 go_wp2;go_ret;exact⟨rfl,HR.1,HR.2⟩
def FV(B pb:Nat)(pv:aw)(l:List UInt8)(s:ByteArray)(w:ak)(h:cC B pb pv l w)(hl:l.length+s.size<=1000000000):Calls prog 175 #[aq (J (ai pb 0 I)),aA s] w λe w'=>e=ax (bn #[ae af (s.size:Int),.nilIface])/\cC B pb pv (l++s.data.toList) w'/\cd B pb w w':=by
 obtain⟨i0,hi,hz0,hz1,hz2⟩:=iw Pv;go_enter func175,ntmps175
 go_wp2_with fail
 apply(Px B pb pv l w h).mono;rintro e w1 ⟨rfl,hB,tL,⟨v,dQ,hown,hne⟩,eB⟩;have c0:w1.cell? (ai pb 0 I)=J (aq (J (ai pb 0 I))):=by simp[aH,dQ]
 have c1:w1.cell? (ai pb 1 I)=J v:=by simp[aH,dQ]
 obtain⟨ao,n0,C2,rfl⟩:∃ao n' cap,v=aj ao n' cap:=by
  rcases hown.2 with⟨hv,_⟩|⟨g,cap,cur,hv,_⟩
  ·exact⟨_,_,_,hv⟩
  exact⟨_,_,_,hv⟩
 go_wp2_with (at_builtin;refine Lib.wpList_append_own_string _ rfl _ _ 41 9 rfl B 5 i0 underlying41 underlying9 hi hz0 hz1 hz2 _ _ _ rfl hown s rfl ?c3 ?c4 ?c5 ?_)
 case c3=>unfold maxLen;omega
 case c4=>omega
 case c5=>omega
 intro v' w2 hown' hgrow _;have hlt:=bL dQ;have hb2:w2.heap[pb]?=J (ay #[aq (J (ai pb 0 I)),aj ao n0 C2,pv] 67 (0,0)):=by
  rw[hgrow.block pb hlt (λe=>hne e.symm)];exact dQ
 have d0:w2.cell? (ai pb 0 I)=J (aq (J (ai pb 0 I))):=by simp[aH,hb2]
 have d1:w2.cell? (ai pb 1 I)=J (aj ao n0 C2):=by simp[aH,hb2]
 have f1:w2.frozen? (ai pb 1 I)=false:=by simp[bM,hb2]
 obtain⟨a',n',cap,rfl⟩:∃a' n' cap,v'=aj a' n' cap:=by
  rcases hown'.2 with⟨hv,_⟩|⟨g,cap,cur,hv,_⟩
  ·exact⟨_,_,_,hv⟩
  exact⟨_,_,_,hv⟩
 have C3:=Lib.ownBlock_ne hown' hb2 (ar rfl);have HR:U (cC B pb pv (l++s.data.toList) (w2.setCell (ai pb 1 I) (aj a' n' cap))/\cd B pb w (w2.setCell (ai pb 1 I) (aj a' n' cap))):=by
  have hs2:=hgrow.size
  refine⟨⟨hB,by simp[bN];omega,_,_,aN rfl,by simp[bN,cL,hb2],?_,C3⟩,?_,?_⟩
  ·have hown2:=hown';have:=hown2.kept (row:=J pb) (w':=w2.setCell (ai pb 1 I) (aj a' n' cap)) ⟨rfl,rfl,rfl,by simp[bN],λk _ hk=>xg _ _ _ _ (λe=>hk (by simp[e]))⟩ (aN C3);rw[Lib.byteCells_append,cY,pj];exact this
  ·exact(eB.aY.grown hgrow (by omega) (λk hk=>(hown.lt k hk).1)).setCell (p:=⟨pb,1,_⟩) hB _
  refine(eB.yL.grown hgrow (λg' cM=>?_)).setCell _ rfl _
  rcases hown.2 with⟨hv,_⟩|⟨g2,xi,cur,hv,_,hg2,_⟩
  ·rw[hv]at cM;simp[dF]at cM
  rw[hv]at cM;simp[dF]at cM
  subst cM;exact⟨cur,_,hg2⟩
 go_wp2;go_ret2
 exact⟨rfl,HR.1,HR.2⟩
def Xy(B pb:Nat)(pv:aw)(l:List UInt8)(w:ak)(h:cC B pb pv l w)(h0:l≠[]):Calls prog 21 #[aq (J (ai pb 0 I))] w λe w'=>e=ax (aA ⟨l.toArray⟩)/\Below B w w':=by
 obtain⟨hB,tL,p,v,-,dQ,hown,hne⟩:=h;have hl0:l.length≠0:=by simpa using h0
 obtain⟨g,cap,cur,rfl,hbg,hg,Pz,hcm,hcs,anu⟩:∃g cap cur,v=aj (J (ai g 0 I)) l.length cap/\B<=g/\w.heap[g]?=J (ay cur 5 (0,0))/\l.length<=cap/\cap<=maxLen/\cur.size=cap*1/\cur.toList.take (l.length*1)=Lib.byteCells l:=by
  rcases hown.2 with⟨_,hz⟩|⟨g,cap,cur,hv,r⟩
  ·exact absurd hz hl0
  exact⟨g,cap,cur,hv,r⟩
 have c1:w.drew.cell? (ai pb 1 I)=J (aj (J (ai g 0 I)) l.length cap):=by
  have h2:w.drew.heap[pb]?=_:=dQ;simp[aH,h2]
 have anv:(Builtin.unsafeSliceData_ #[41] 124 #[aj _ l.length cap]).run prog _=.ok (aq (J (ai g 0 I))) w.drew:=
  Lib.run_unsafeSliceData_row _ _ _ _ _ _ (by omega)
 have anw:(Builtin.unsafeString_ #[124,3] 9 #[aq (J (ai g 0 I)),ae af l.length]).run prog w.drew=.ok (aA ⟨l.toArray⟩) (w.drew.freeze ⟨g,0,I⟩ l.length):=by
  refine Lib.run_unsafeString_row _ 124 3 9 5 underlying124 Xw g cur.size (by have cM:w.drew.heap[g]?=J _:=hg;simp[World.shape?,cM]) l h0 (by omega) (by unfold maxLen at hcm;omega) ?_;intro j x hx;exact hown.cells (g:=g) rfl j _ (by simp[Lib.byteCells,hx])
 have HF:U (Below B w (w.drew.freeze _ l.length)):=Lib.below_freeze (Below.drew (aF B w)) (p:=⟨g,0,I⟩) hbg _;go_enter func21,ntmps21
 go_wp2;go_region
 all_goals (go_wp2;go_ret;exact⟨rfl,HF⟩)
end Go.Proofs.YtgjlihibabmgcaaGreatDoor
namespace Go.Proofs
open Go.Shelf
def Xz:Go.Shelf.Ren:=⟨fun|171=>74|243=>130|246=>191|283=>234|284=>235|285=>236|286=>237|129=>268|317=>267|318=>269|319=>270|320=>271|337=>293|338=>294|n=>n,fun|3=>3|9=>9|2=>2|4=>4|171=>280|0=>0|53=>281|37=>41|5=>5|173=>284|212=>316|51=>317|20=>20|213=>318|46=>292|232=>349|233=>350|n=>n,fun|17=>11|18=>16|19=>17|n=>n⟩
def XA:Go.Proofs.LaysM.n171 prog Xz:=by repeat' (first|kernel_rfl|(intro w;kernel_rfl)|decide|constructor)
open Go.RowKit Go.Sort Go.Lib in
def strconv_Itoa(n:Int) (h0 : -9223372036854775808 ≤ n) (h1:n ≤ 9223372036854775807) (w:ak) (Jx:Lib.TabIs prog w "internal/strconv.uint64pow10" .u64 Lib.pow10Tab):Calls prog 74 #[ae af n] w λe w'=>e=ax (aA ⟨(Lib.itoa n).toArray⟩)/\∃k os,w'=grow (w.drewN k) os:=Any.strconv_Itoa XA n h0 h1 w Jx
def XB:Go.Shelf.Ren:=⟨fun|102=>119|209=>182|207=>216|n=>n,fun|9=>9|4=>4|3=>3|n=>n,fun|n=>n⟩
def XC:Go.Proofs.Lays.n102 prog XB:=by repeat' (first|kernel_rfl|(intro w;kernel_rfl)|decide|constructor)
open Go.RowKit Go.Lib in
def strings_TrimSuffix(s p:ByteArray)(w:ak)(hs:s.size<=9223372036854775807):Calls prog 119 #[aA s,aA p] w λe w'=>e=ax (aA ⟨(Lib.trimSuffix s.data.toList p.data.toList).toArray⟩)/\w'=w:=Any.strings_TrimSuffix XC s p w hs
def XD:Go.Shelf.Ren:=⟨fun|146=>118|221=>181|268=>213|138=>214|143=>215|195=>251|197=>240|218=>252|219=>253|260=>273|217=>279|225=>280|224=>281|267=>282|266=>301|314=>302|n=>n,fun|9=>9|31=>37|3=>3|4=>4|0=>0|105=>287|21=>21|5=>5|46=>292|119=>331|139=>334|138=>333|146=>342|51=>317|n=>n,fun|1=>12|3=>14|4=>15|n=>n⟩
def Jy:Go.Proofs.LaysM.n146 prog XD:=by
 constructor
 case s1_3=>exact λw h=>Go.Proofs.cell_of_shapedOpen_int (zero:=#[ae af 0]) (t:=3) h (ar (by kernel_rfl)) (by kernel_rfl) rfl (by kernel_rfl) (by kernel_rfl) underlying3
 all_goals repeat' (first|kernel_rfl|(intro w;kernel_rfl)|decide|constructor)
end Go.Proofs
namespace Go.Proofs.YtgjlihibabmgcaaGreatDoor
open Go.Extern Go.Extern.Stop Go.RowKit Go.Stop
variable{A:Nat->aC}{B b base bc cap g n rb:Nat}{S T:Nat->Prop}{W a c w w':ak}{cur:Array aw}{fn:Func}{l:List UInt8}{p:List MemPlace}{sp:Bool}{u:Tmp}{v:aw}
def XF(x:aw)(w:ak):(Instr.typeAssert (.iface 122 x) 20 122 true).run prog w=.ok (bn #[x,aL true]) w:=by kernel_rfl
def XG(x:aw)(w:ak):(Instr.typeAssert (.iface 9 x) 20 122 true).run prog w=.ok (bn #[ae af 0,aL false]) w:=by kernel_rfl
def XH(x:aw)(w:ak):(Instr.typeAssert (.iface 9 x) 20 9 true).run prog w=.ok (bn #[x,aL true]) w:=by kernel_rfl
def XI(x:aw)(w:ak):(Instr.typeAssert (.iface 3 x) 20 122 true).run prog w=.ok (bn #[ae af 0,aL false]) w:=by kernel_rfl
def XJ(x:aw)(w:ak):(Instr.typeAssert (.iface 3 x) 20 9 true).run prog w=.ok (bn #[aA ⟨#[]⟩,aL false]) w:=by kernel_rfl
def XK(x:aw)(w:ak):(Instr.typeAssert (.iface 3 x) 20 3 true).run prog w=.ok (bn #[x,aL true]) w:=by kernel_rfl
def XL(x:aw)(w:ak):(Instr.typeAssert (.iface 164 x) 20 122 true).run prog w=.ok (bn #[ae af 0,aL false]) w:=by kernel_rfl
def XM(x:aw)(w:ak):(Instr.typeAssert (.iface 164 x) 20 9 true).run prog w=.ok (bn #[aA ⟨#[]⟩,aL false]) w:=by kernel_rfl
def XO(x:aw)(w:ak):(Instr.typeAssert (.iface 164 x) 20 3 true).run prog w=.ok (bn #[ae af 0,aL false]) w:=by kernel_rfl
def XP(x:aw)(w:ak):(Instr.typeAssert (.iface 164 x) 20 164 true).run prog w=.ok (bn #[x,aL true]) w:=by kernel_rfl
def jN(w:ak):Prop:=∀i,i<10->w.cell? (ai 8 i I)=J (aA ⟨(kw i).toArray⟩)
def jN.below(h:jN w)(hb:Below B w w')(hB:8<B):jN w':=λi hi=>(hb.cell (p:=⟨8,i,I⟩) hB).trans (h i hi)
def cC.drew{pb:Nat}{pv:aw}(h:cC B pb pv l w):cC B pb pv l w.drew:=h
def XQ(B pb:Nat)(pv:aw)(l:List UInt8)(s:ByteArray)(w:ak)(h:cC B pb pv l w)(hl:l.length+s.size<=1000000000):Calls prog 107 #[aq (J (ai pb 0 I)),.iface 9 (aA s)] w λe w'=>e=ax (bn #[])/\cC B pb pv (l++s.data.toList) w'/\cd B pb w w':=by
 have H:U _:=FV B pb pv l s w h hl;have t1:=XG;have t2:=XH;go_enter func107,ntmps107
 go_wp2_with fail
 refine aO H.o ?_;rintro e w' ⟨rfl,h1,h2⟩;go_wp2;go_end0
 exact⟨rfl,h1,h2⟩
def XR(B pb:Nat)(pv:aw)(l:List UInt8)(k:Nat)(w:ak)(h:cC B pb pv l w)(hl:l.length<=900000000)(hk:k<10)(hK:jN w)(hG:(max 8 11+1)<=B):Calls prog 107 #[aq (J (ai pb 0 I)),.iface 122 (ae af (k:Int))] w λe w'=>e=ax (bn #[])/\cC B pb pv (l++kw k) w'/\cd B pb w w':=by
 have XS:(kw k).length<=6:=by
  have:∀k,k<10->(kw k).length<=6:=by decide
  exact this k hk
 have H0:=FV B pb pv l ⟨_⟩ _ h.drew (by show l.length+(kw k).toArray.size<=_;simp;omega);change U _ at H0
 have c0:=hK k hk;have k0:(0:Int)<=(k:Int):=by omega
 have k1:(k:Int)<10:=by omega
 generalize hs:(⟨(kw k).toArray⟩:ByteArray)=s at *;have HS:U (s.data.toList=kw k):=by show _=_;rw[<- hs]
 have t1:=XF;go_enter func107,ntmps107
 go_wp2_with fail
 go_region_held3 (λw'=>w'.cell? (ai 8 k I)=J (aA s)) (first|exact c0|exact y0) (first|(go_at_call 175;refine aO H0.o ?_;rintro e W' ⟨rfl,h1,h2⟩;have y0:=(h2.aY.cell (p:=⟨8,k,_⟩) (cK (show 8<(max 8 11+1) by decide) hG)).trans c0))
 go_wp2;go_end0
 exact⟨rfl,by rw[<- HS.o];exact h1,(cd.refl B pb w).drew.trans h2⟩
def iR(w:ak):Prop:=Lib.TabIs prog w "internal/strconv.uint64pow10" .u64 Lib.pow10Tab
def PA:prog.globalNamed "internal/strconv.uint64pow10" = J 11:=by kernel_rfl
def iR.below(h:iR w)(hb:Below B w w')(hB:(max 8 11+1)<=B):iR w':=by
 unfold iR Lib.TabIs World.var? at h⊢;rw[PA]at h⊢;simp only[Option.bind_some]at h⊢;rw[hb.block 11 (cK (ar rfl) hB)];exact h
def Jz(u:Nat):Lib.decDigits u=fx u:=by
 induction u using Nat.strongRecOn with
 |ind u ih=>
  rw[Lib.decDigits,fx]
  split
  ·rfl
  rw[ih _ (by omega)]
def XT(n:Int)(h0:0<=n)(h1:n<=1099511627776)(w:ak)(hT:iR w):Calls prog 74 #[ae af n] w λe w'=>e=ax (aA ⟨(num n).toArray⟩)/\Below w.heap.size w w':=by
 apply(strconv_Itoa n (by omega) (by omega) w hT).mono;rintro e w' ⟨rfl,k,os,rfl⟩
 refine⟨?_,?_⟩
 ·unfold Lib.itoa num;rw[aK (by omega),Jz]
 refine⟨rfl,rfl,rfl,(by show w.heap.size<=((w.drewN k).heap++os).size;rw[Array.size_append];exact Nat.le_add_right _ _),λi hi=>?_⟩;show ((w.drewN k).heap++os)[i]?=_
 rw[FT (by show i<w.heap.size;omega)];rfl
def XU(B pb:Nat)(pv:aw)(l:List UInt8)(n:Int)(w:ak)(h:cC B pb pv l w)(hl:l.length<=900000000)(h0:0<=n)(h1:n<=1099511627776)(hT:iR w)(hG:(max 8 11+1)<=B):Calls prog 107 #[aq (J (ai pb 0 I)),.iface 3 (ae af n)] w λe w'=>e=ax (bn #[])/\cC B pb pv (l++num n) w'/\cd B pb w w':=by
 have AY:(num n).length<=13:=by
  obtain⟨-,-,-,-,hh⟩:=tC n.toNat;exact hh 12 (by omega)
 have HI:U (∀W,Below _ w W->_):=λW hW=>XT n h0 h1 W (hT.below (hW.mono h.2.1) hG)
 have HW:U _:=λW hW=>FV B pb pv l ⟨_⟩ W hW (by show l.length+(num n).toArray.size<=_;simp;omega)
 have H:U (cC B pb pv l w):=h;have t1:=XI;have t2:=XJ;have t3:=XK;go_enter func107,ntmps107
 go_wp2_with fail
 go_region_held3 (λ_=>True) (exact trivial) (first|(go_at_call 74;refine aO (HI.o _ (br (aF _ _) 1)) ?_;rintro e W1 ⟨rfl,hb1⟩;have JA:=H.drew.below hb1)|(go_at_call 175;refine aO (HW.o _ JA) ?_;rintro e W2 ⟨rfl,h1,h2⟩))
 go_wp2;go_end0
 exact⟨rfl,h1,((cd.refl B pb w).drew.trans (cd.dm H hb1)).trans h2⟩
def XV(B pb:Nat)(pa:Option aC)(pc:Nat)(au:List ByteArray)(l:List UInt8)(x:Int)(w:ak)(h:cC B pb (aj pa au.length pc) l w)(hl:l.length<=900000000)(hP:∀W,Below B w W->bw ct 1 W (aj pa au.length pc) au)(h0:0<=x)(h1:x<(au.length:Int))(hs:∀p∈au,p.size<=1000000):Calls prog 107 #[aq (J (ai pb 0 I)),.iface 164 (ae af x)] w λe w'=>e=ax (bn #[])/\cC B pb (aj pa au.length pc) (l++pt au x) w'/\cd B pb w w':=by
 obtain⟨q,hq,nt,FW⟩:∃q,au[x.toNat]?=J q/\pt au x=bl q/\q∈au:=by
  have hlt:x.toNat<au.length:=by omega
  exact⟨_,bq hlt,by simp[pt,bq hlt],uZ hlt⟩
 obtain⟨k,rfl⟩:=yH h0;have hk:k<au.length:=by omega
 simp only[Int.toNat_natCast]at hq;have XW:=hP;obtain⟨bQ,cap',bH,-,hcc⟩:=hP w (aF _ _)
 cases bH
 obtain⟨b,o,rfl,hc0⟩:=hcc (λe=>by subst e;simp at hq);have C5:U (∀W,Below B w W->W.cell? ⟨b,o+k,I⟩=J (aA q)):=λW hW=>by
  obtain⟨JB,xi,XX,-,XY⟩:=XW W hW
  cases XX
  obtain⟨b2,o2,e2,hc2⟩:=XY (λe=>by subst e;simp at hq)
  cases e2
  have:=hc2 k q hq 0 _ rfl;simpa using this
 have H0:=FV B pb _ l q _ h.drew (by have:=hs q FW;omega);change U _ at H0
 have hcell:=C5 w (aF _ _);have XZ:w.cell? (ai pb 2 I)=J (aj (J (ai b o I)) au.length pc):=by
  obtain⟨-,-,p,v,-,h4,-⟩:=h;simp[aH,h4]
 change U _ at nt
 have k0:(0:Int)<=(k:Int):=by omega
 have k1:(k:Int)<(au.length:Int):=by omega
 have t1:=XL;have t2:=XM;have t3:=XO;have t4:=XP;have qU:U (∀W,cC B pb (aj (J (ai b o I)) au.length pc) (l++q.data.toList) W->W.cell? (ai pb 2 I)=J (aj (J (ai b o I)) au.length pc)):=λW hW=>by
  obtain⟨-,-,p,v,-,h4,-⟩:=hW;simp[aH,h4]
 go_enter func107,ntmps107
 go_wp2_with fail
 go_region_held3 (λw'=>w'.cell? ⟨b,o+k,I⟩=J (aA q)/\w'.cell? (ai pb 2 I)=J (aj (J (ai b o I)) au.length pc)) (first|exact⟨hcell,XZ⟩|exact⟨y0,y1⟩) (first|(go_at_call 175;refine aO H0.o ?_;rintro e W' ⟨rfl,h1,h2⟩;have y0:=C5 W' ((aF B w).drew.trans h2.aY);have y1:=qU _ h1))
 go_wp2;go_end0
 exact⟨rfl,by rw[nt.o];exact h1,(cd.refl B pb w).drew.trans h2⟩
open Go.ChangeShapes
def JC(l:List (String×List UInt8)):List (String×DataW Unit):=l.map λx=>(x.1, .iface "*errors.errorString" (.ptr (.agg [.lit (.string x.2)])))
def X0{P:Program}{W:ak}{ti tp te ts:TypeId}{ms:Array (String×TypeId)}{f:Field}
  (hi:P.underlying ti=J (.interface ms)) (hrow:∀u, P.typeName? 3 u=J "*errors.errorString" → u=tp)
  (hp:P.underlying tp=J (.pointer te)) (he:P.underlying te=J (.struct #[f])) (X3:f.type=ts) (X4:f.offset=0) (hs:P.underlying ts=J .string) (hc:P.cellsOf te=1) (hcs:P.cellsOf ts=1):∀(l:List (String×List UInt8)) (ps:List MemPlace),(∀x,x∈l->∃g,P.globalNamed x.1=J g/\(P.globals[g]?).map (·.type)=J ti)->DataW.LaidVars P W (JC l) ps->ps.Nodup ->
   (∀b off,MemPlace.cell b off∈ps->(∃c t,W.heap[b]?=J (.cells c t (0,0)))/\∀u v,W.cell? (ai b off I)=J (.iface u v)->Value.okWide P W .any 0 u v) ->
   ∃A:Nat->aC,(∀i x,l[i]?=J x->W.var? P x.1=J #[.iface tp (.pointer (J (A i)))])/\(∀i,i<l.length->∃c t,W.heap[(A i).block]?=J (.cells c t (0,0))) /\
    (∀i,i<l.length->MemPlace.cell (A i).block (A i).off∈ps)/\(∀i j,i<l.length->j<l.length->i≠j->A i≠A j)/\∀i x,l[i]?=J x->W.cell? (A i)=J (.string ⟨x.2.toArray⟩):=by
 intro l
 induction l with
 |nil=>exact λps _ _ _ _=>⟨λ_=>⟨0,0,I⟩,λi x h=>by simp at h,λi h=>by simp at h,λi h=>by simp at h,λi j h=>by simp at h,λi x h=>by simp at h⟩
 |cons x r ih=>
  intro ps hg hl qP yM;obtain⟨n,text⟩:=x;obtain⟨g,t,cs,fuel,p,q,hg0,FX,hv0,rX,hq,rfl⟩:=hl;obtain⟨g',hg1,FY⟩:=hg _ (nQ ..);obtain rfl:=fg (hg1.symm.trans hg0);obtain rfl:=fg (FY.symm.trans FX);obtain⟨lc⟩:=cs;have X9:∀u v,lc=[.iface u v]->Value.okWide P W .any 0 u v:=λu v e=>by
   subst e;exact(yM g' 0 (by simp[MemPlace.row])).2 u v (by simpa using lZ hg0 hv0 0)
  obtain⟨a0,s0,rfl,hc0,hs0,hz0,rfl⟩:=errorString_of_trod hi hrow hp he X3 X4 hs hc hcs rX X9;obtain⟨A,v,b,m,d,tx⟩:=ih q (λy hy=>hg y (rO _ hy)) hq (List.Nodup.sublist (FU _ _) qP) (λb off hm=>yM b off (List.mem_append_right _ hm));have PB:∀i,i<r.length->a0≠A i:=λi hi e=>by
   have hm:=m i hi;rw[<- e]at hm;have:=List.nodup_append.1 qP;exact this.2.2 _ (List.mem_append_right _ (by simp[MemPlace.row])) _ hm rfl
  refine⟨λi=>match i with|0=>a0|i+1=>A i,λi y hy=>?_,λi hi=>?_,λi hi=>?_,λi j hi hj hne=>?_,λi y hy=>?_⟩
  ·cases i with
   |zero=>simp only[List.getElem?_cons_zero,dJ]at hy;subst hy;exact hv0
   |succ i=>exact v i y (by simpa using hy)
  ·cases i with
   |zero=>exact(yM _ a0.off (by simp[MemPlace.row])).1
   |succ i=>exact b i (by simpa using hi)
  ·cases i with
   |zero=>exact List.mem_append_left _ (List.mem_append_right _ (by simp[MemPlace.row]))
   |succ i=>exact List.mem_append_right _ (m i (by simpa using hi))
  ·cases i with
   |zero=>
    cases j with
    |zero=>exact absurd rfl hne
    |succ j=>exact PB j (by simpa using hj)
   |succ i=>
    cases j with
    |zero=>exact λe=>PB i (by simpa using hi) e.symm
    |succ j=>exact d i j (by simpa using hi) (by simpa using hj) (by omega)
  cases i with
  |zero=>
   simp only[List.getElem?_cons_zero,dJ]at hy;subst hy;rw[hc0];obtain⟨⟨z⟩⟩:=s0;subst hs0;rfl
  |succ i=>exact tx i y (by simpa using hy)
def own:ownKnob prog.godebug=I:=by kernel_rfl
def g0:prog.globalNamed "nightwatch/api.ErrText" = J 6:=by kernel_rfl
def g1:prog.globalNamed "nightwatch/api.ErrBound" = J 0:=by kernel_rfl
def g2:prog.globalNamed "nightwatch/api.ErrShape" = J 1:=by kernel_rfl
def g3:prog.globalNamed "nightwatch/api.ErrName" = J 2:=by kernel_rfl
def g4:prog.globalNamed "nightwatch/api.ErrNone" = J 7:=by kernel_rfl
def g5:prog.globalNamed "nightwatch/api.ErrExist" = J 3:=by kernel_rfl
def star : "*" ++ "errors.errorString" = "*errors.errorString" := by decide
def X_(u:TypeId) (h:prog.typeName? 3 u=J "*errors.errorString"):u=357 :=
 typeName_ptr_named (nm := "errors.errorString") (by rw [star]; kernel_rfl) (by kernel_rfl) (by decide) u (by rw [star]; exact h)
def Ya:prog.cellsOf 359=1:=by kernel_rfl
def PC:prog.cellsOf 9=1:=by kernel_rfl
def AZ{P:Program}:∀(a b:List (String×DataW Unit)) (ps:List MemPlace),DataW.LaidVars P W (a++b) ps->∃p q,ps=p++q/\DataW.LaidVars P W a p/\DataW.LaidVars P W b q
 |[],b,ps,h=>⟨[],ps,rfl,rfl,h⟩
 |(n,d)::a,b,ps,h=>by
  obtain⟨g,t,cs,fuel,p,q,hg0,FX,hv0,rX,hq,rfl⟩:=h;obtain⟨p1,q1,rfl,h1,h2⟩:=AZ a b q hq;exact⟨_,q1,by simp[gh],⟨g,t,cs,_,p,p1,hg0,FX,hv0,rX,h1,rfl⟩,h2⟩
def Yb{H:Type}{enc:TypeId×aw->H}{P:Program}{w:ak}{base:Nat}{sp:Nat->Bool}{held:Bool}{fuel:Nat}{t e:TypeId}{n:Nat}{cs:List aw}{zs:List (List UInt8)}{p:List MemPlace}
  (ht:P.underlying t=J (.array n e)) (he:P.underlying e=J .string) (hce:P.cellsOf e=1) (lG:P.cellsOf t=n)
  (h:DataW.trod enc P w base sp held fuel t cs=J (.agg (zs.map λz=>.lit (.string z)),p)):cs=zs.map λz=>Value.string ⟨z.toArray⟩:=by
 cases fuel with
 |zero=>simp[DataW.trod]at h
 |succ fuel=>
  simp only[DataW.trod,ht,hce,lG,qT]at h
  split at h
  ·rename_i hl;obtain⟨xs,hm,hx⟩:=ve.1 h;have kf:xs.map (·.1)=zs.map λz=>(DataW.lit (.string z):DataW H):=by
    have:=nh Prod.fst hx;simpa using this
   have qV:xs.length=n:=by simpa using Lib.mapM_length hm
   have hzl:zs.length=n:=by
    have:=nh List.length kf;simp at this
    omega
   apply List.ext_getElem?
   intro i
   by_cases hi:i<n
   ·obtain⟨b,hb,hf⟩:=Lib.mapM_at hm i i (by simp[hi]);obtain⟨z,hc,rfl,_⟩:=DataW.trod_string he hf;have h1:cs[i]?=J (.string z):=by
     have:=nh (·[0]?) hc;simpa[List.getElem?_drop]using this
    have h2:(xs.map (·.1))[i]?=J (DataW.lit (.string z.data.toList):DataW H):=by simp[hb]
    rw[kf]at h2;simp only[gY,ve,DataW.lit.injEq,Lit.string.injEq]at h2;obtain⟨z',hz',rfl⟩:=h2;simp[h1,hz']
   rw[jb (by omega),jb (by simp;omega)]
  cases h
def Yc:(Rows.laid_nightwatch_conf_keywords:DataW Unit)=.agg ([kw 0,kw 1,kw 2,kw 3,kw 4,kw 5,kw 6,kw 7,kw 8,kw 9].map λz=>.lit (.string z)):=rfl
def Yd:(Rows.laid_internal_strconv_uint64pow10:DataW Unit)=Lib.tabData .u64 Lib.pow10Tab:=rfl
def Ye:prog.globalNamed "internal/strconv.uint64pow10" = J 11:=by kernel_rfl
def Yf:(prog.globals[11]?).map (·.type)=J 316:=by kernel_rfl
def PD:prog.globalNamed "nightwatch/conf.keywords" = J 8:=by kernel_rfl
def Yg:(prog.globals[8]?).map (·.type)=J 213:=by kernel_rfl
def PE:prog.cellsOf 316=20/\prog.cellsOf 281=1:=⟨by kernel_rfl,by kernel_rfl⟩
def Yh:prog.cellsOf 213=10:=by kernel_rfl
def Yi  (h:DataW.LaidVars prog W [("internal/strconv.uint64pow10", Rows.laid_internal_strconv_uint64pow10)] p):iR W:=by
 obtain⟨g',t',cs,fuel,p,q,cM,FZ,JD,hd,_,_⟩:=h;obtain rfl:=fg (Ye.symm.trans cM);obtain rfl:=fg (Yf.symm.trans FZ);rw[Yd]at hd;unfold iR Lib.TabIs;rw[JD,<- Lib.cells_of_tab underlying316 underlying281 PE.2 PE.1 hd]
def Yj  (h:DataW.LaidVars prog W [("nightwatch/conf.keywords", Rows.laid_nightwatch_conf_keywords)] p):jN W:=by
 obtain⟨g',t',cs,fuel,p,q,cM,FZ,JD,hd,_,_⟩:=h;obtain rfl:=fg (PD.symm.trans cM);obtain rfl:=fg (Yg.symm.trans FZ);rw[Yc]at hd;have hc:=Yb underlying213 underlying9 PC Yh hd;intro i hi;have:=lZ PD JD i;rw[this];have e:cs[i]?=cs.toList[i]?:=by rw[qR]
 rw[e,hc]
 match i,hi with
 |0,_=>rfl
 |1,_=>rfl
 |2,_=>rfl
 |3,_=>rfl
 |4,_=>rfl
 |5,_=>rfl
 |6,_=>rfl
 |7,_=>rfl
 |8,_=>rfl
 |9,_=>rfl
def Yk:List (String×List UInt8):=[("nightwatch/api.ErrText", [110, 105, 103, 104, 116, 119, 97, 116, 99, 104, 58, 32, 116, 101, 120, 116]), ("nightwatch/api.ErrBound", [110, 105, 103, 104, 116, 119, 97, 116, 99, 104, 58, 32, 98, 111, 117, 110, 100]), ("nightwatch/api.ErrShape", [110, 105, 103, 104, 116, 119, 97, 116, 99, 104, 58, 32, 115, 104, 97, 112, 101]), ("nightwatch/api.ErrName", [110, 105, 103, 104, 116, 119, 97, 116, 99, 104, 58, 32, 110, 97, 109, 101]), ("nightwatch/api.ErrNone", [110, 105, 103, 104, 116, 119, 97, 116, 99, 104, 58, 32, 110, 111, 110, 101]), ("nightwatch/api.ErrExist", [110, 105, 103, 104, 116, 119, 97, 116, 99, 104, 58, 32, 101, 120, 105, 115, 116])]
section
structure aI where
 bytes:List UInt8
 size:Nat
 written:Nat
 off:Bool
 cut:Bool
 left:Nat
def nu(x:UInt8):aw:=ae .u8 (x.toNat:Int)
def aI.tail(s:aI):List aw:=[ae af (s.size:Int),ae af (s.written:Int),aL s.off,aL s.cut,ae af (s.left:Int)]
def aI.row(s:aI):Array aw:=(s.bytes.map nu++s.tail).toArray
structure bU(w:ak)(b:Nat)(s:aI):Prop where
 heap:w.heap[b]?=J (ay s.row 179 (0,0))
 len:s.bytes.length=4096
 size:s.size<=4096
def bU.lt{s:aI}(h:bU w b s):b<w.heap.size:=bL h.heap
def bU.cell{s:aI}(h:bU w b s)(i:Nat):w.cell? (ai b i I)=s.row[i]?:=by
 simp[aH,h.heap]
def bU.frozen{s:aI}(h:bU w b s)(i:Nat):w.frozen? (ai b i I)=false:=by
 simp[bM,h.heap]
def aI.Yl(s:aI)(i:Nat)(hi:i<s.bytes.length):s.row[i]?=J (nu s.bytes[i]):=by
 unfold aI.row;simp[ly,hi]
def aI.C9(s:aI)(hl:s.bytes.length=4096)(i:Nat):s.row[4096+i]?=s.tail[i]?:=by
 unfold aI.row;rw[List.getElem?_toArray,jX (by simp[hl])];simp[hl]
def bU.byte{s:aI}(h:bU w b s)(i:Nat)(hi:i<4096):w.cell? (ai b i I)=J (ae .u8 ((s.bytes[i]'(by rw[h.len];exact hi)).toNat:Int)):=by
 rw[h.cell,aI.Yl s i (by rw[h.len];exact hi)];rfl
def bU.c0{s:aI}(h:bU w b s):w.cell? (ai b 4096 I)=J (ae af (s.size:Int)):=by
 rw[h.cell,aI.C9 s h.len 0];rfl
def bU.c1{s:aI}(h:bU w b s):w.cell? (ai b 4097 I)=J (ae af (s.written:Int)):=by
 rw[h.cell,aI.C9 s h.len 1];rfl
def bU.c2{s:aI}(h:bU w b s):w.cell? (ai b 4098 I)=J (aL s.off):=by
 rw[h.cell,aI.C9 s h.len 2];rfl
def bU.c3{s:aI}(h:bU w b s):w.cell? (ai b 4099 I)=J (aL s.cut):=by
 rw[h.cell,aI.C9 s h.len 3];rfl
def bU.c4{s:aI}(h:bU w b s):w.cell? (ai b 4100 I)=J (ae af (s.left:Int)):=by
 rw[h.cell,aI.C9 s h.len 4];rfl
def bU.set{s s':aI}(h:bU w b s)(i:Nat)(v:aw)(hr:s.row.setIfInBounds i v=s'.row)(hl:s'.bytes.length=4096)(hs:s'.size<=4096):bU (w.setCell (ai b i I) v) b s':=by
 refine⟨?_,hl,hs⟩;simp only[bN,cL,h.heap];simp[hr]
def C_(bs:List UInt8)(hl:bs.length=4096)(t:List aw)(i:Nat)(v:aw):(bs.map nu++t).toArray.setIfInBounds (4096+i) v=(bs.map nu++t.set i v).toArray:=by
 rw[List.setIfInBounds_toArray,CN _ _ (by simp[hl])];simp[hl]
def bU.Da{s:aI}(h:bU w b s)(n:Nat):bU (w.setCell (ai b 4097 I) (ae af (n:Int))) b { s with written:=n }:=
 h.set _ _ (C_ s.bytes h.len s.tail 1 _) h.len h.size
def bU.A0{s:aI}(h:bU w b s)(v:Bool):bU (w.setCell (ai b 4098 I) (aL v)) b { s with off:=v }:=
 h.set _ _ (C_ s.bytes h.len s.tail 2 _) h.len h.size
def bU.Db{s:aI}(h:bU w b s)(v:Bool):bU (w.setCell (ai b 4099 I) (aL v)) b { s with cut:=v }:=
 h.set _ _ (C_ s.bytes h.len s.tail 3 _) h.len h.size
def bU.iT{s:aI}(h:bU w b s)(n:Nat):bU (w.setCell (ai b 4100 I) (ae af (n:Int))) b { s with left:=n }:=
 h.set _ _ (C_ s.bytes h.len s.tail 4 _) h.len h.size
def bU.PF{s:aI}(h:bU w b s)(i:Nat)(hi:i<4096)(x:UInt8):bU (w.setCell (ai b i I) (ae .u8 (x.toNat:Int))) b { s with bytes:=s.bytes.set i x }:=by
 refine h.set _ _ ?_ (by simp[h.len]) h.size;unfold aI.row;rw[List.setIfInBounds_toArray,List.set_append_left _ _ (by simp[h.len,hi]),List.map_set];rfl
def bU.below{s:aI}(h:bU w b s)(hb:Below w.heap.size w w'):bU w' b s:=⟨a8 hb h.heap,h.len,h.size⟩
def fG(w:ak)(r:Option Nat):w.grownBy w r:=⟨rfl,rfl,rfl,aR _,λ_ _ _=>rfl⟩
def qb{b:ak}{r:Option Nat}(h:a.grownBy b r)(k:b.grownBy c r):a.grownBy c r:=
 ⟨k.os.trans h.os,k.tape.trans h.tape,k.output.trans h.output,bp h.size k.size,λi hi hn=>(k.block i (cK hi h.size) hn).trans (h.block i hi hn)⟩
def dz(h:a.grownBy w (J b))(i:Nat)(v:aw):a.grownBy (w.setCell (ai b i I) v) (J b):=
 qb h ⟨rfl,rfl,rfl,by simp[bN],λk _ hn=>xg _ _ _ _ (by simpa using hn)⟩
def tM{r:Option Nat}(h:a.grownBy w r)(k:Below w.heap.size w w'):a.grownBy w' r:=
 qb h ⟨k.os,k.tape,k.output,k.size,λi hi _=>k.block i hi⟩
structure gZ(A:Nat->aC)(w:ak):Prop where
 c1:w.cell? (ai 0 0 I)=J (.iface 357 (aq (J (A 1))))
 c2:w.cell? (ai 1 0 I)=J (.iface 357 (aq (J (A 2))))
 c6:w.cell? (ai 13 0 I)=J (.iface 357 (aq (J (A 6))))
 c7:w.cell? (ai 4 0 I)=J (.iface 357 (aq (J (A 7))))
def gZ.below(h:gZ A w)(hb:Below w.heap.size w w'):gZ A w':=
 ⟨aJ hb h.c1,aJ hb h.c2,aJ hb h.c6,aJ hb h.c7⟩
def gZ.grown(h:gZ A w)(k:w.grownBy w' (J b))(hb:14<=b):gZ A w':=by
 have hc:∀{g:Nat} {v:aw},g<14->w.cell? _=J v->w'.cell? (ai g 0 I)=J v:=λ{g v} hg e=>
  (mH (k.block g (jf e) (by intro e2;cases e2;omega))).trans e
 exact⟨hc (by omega) h.c1,hc (by omega) h.c2,hc (by omega) h.c6,hc (by omega) h.c7⟩
def zeros(n:Nat):List UInt8:=List.replicate n 0
def A3(n:Nat):(zeros n).length=n:=List.length_replicate
def aI.new(n:Nat):aI:=⟨zeros 4096,n,0,false,false,0⟩
def Ym:zeroCells179=(aI.new 0).row:=by kernel_rfl
def Yn(n:Nat):zeroCells179.setIfInBounds 4096 (ae af (n:Int))=(aI.new n).row:=by
 rw[Ym];exact C_ _ (A3 _) _ 0 _
def Yo(n:Nat)(w:ak)(h1:n<=4096):Calls prog 58 #[ae af (n:Int)] w λe w'=>e=ax (bn #[aq (J (ai w.heap.size 0 I)),.nilIface])/\Below w.heap.size w w'/\bU w' w.heap.size (aI.new n)/\w'.heap.size=w.heap.size+1:=by
 have g1:¬(n:Int)<0:=by omega
 have g2:¬4096<(n:Int):=by omega
 go_enter func58,ntmps58
 go_wp2;go_ret2
 refine⟨rfl,(aF _ _).alloc (aR _) _,⟨?_,A3 _,h1⟩,by simp⟩;rw[Yn];show (w.heap.push _)[w.heap.size]?=_
 simp
def Yp(b:Nat)(s:aI)(w:ak)(h:bU w b s):Calls prog 136 #[aq (J (ai b 0 I))] w λe w'=>e=ax (aL (!s.off))/\w'=w:=by
 have c2:=h.c2;go_enter func136,ntmps136
 go_wp2;go_ret;exact⟨rfl,rfl⟩
def Yq(b:Nat)(s:aI)(w:ak)(h:bU w b s):Calls prog 128 #[aq (J (ai b 0 I))] w λe w'=>e=ax (bn #[])/\bU w' b { s with off:=false,cut:=false,left:=0 }/\w.grownBy w' (J b)/\w'.heap.size=w.heap.size:=by
 have c2:=h.c2;have c3:=h.c3;have c4:=h.c4;have f2:=h.frozen 4098;have f3:=h.frozen 4099;have f4:=h.frozen 4100;go_enter func128,ntmps128
 go_wp2;go_end0
 exact⟨rfl,((h.A0 _).Db _).iT 0,dz (dz (dz (fG _ _) _ _) _ _) _ _,by simp⟩
def errVal(A:Nat->aC):Nat->aw
 |0=>.nilIface
 |i+1=>.iface 357 (aq (J (A i)))
def aI.err(s:aI)(p n:Int):Nat:=if p<0\/n<0\/(s.size:Int)-p<n then 2 else if s.off=true then 8 else 0
def F0(A:Nat->aC)(b:Nat)(s:aI)(p n:Int)(w:ak)(h:bU w b s)(hs:gZ A w)(hp:p<=9223372036854775807):Calls prog 283 #[aq (J (ai b 0 I)),ae af p,ae af n] w λe w'=>e=ax (errVal A (s.err p n))/\w'=w:=by
 have c0:=h.c0;have c2:=h.c2;have g1:=hs.c1;have g7:=hs.c7;have hz:=h.size
 by_cases h1:p<0
 ·have E:U (s.err p n=2):=aU (aT h1);go_enter func283,ntmps283
  go_wp2;go_ret;rw[E.o];exact⟨rfl,rfl⟩
 by_cases h2:n<0
 ·have E:U (s.err p n=2):=aU (aN (aT h2));go_enter func283,ntmps283
  go_wp2;go_ret;rw[E.o];exact⟨rfl,rfl⟩
 by_cases h3:(s.size:Int)-p<n
 ·have E:U (s.err p n=2):=aU (aN (aN h3));go_enter func283,ntmps283
  go_wp2;go_ret;rw[E.o];exact⟨rfl,rfl⟩
 have hno:¬(p<0\/n<0\/(s.size:Int)-p<n):=by omega
 cases ho:s.off
 ·have E:U (s.err p n=0):=by unfold aI.err;rw[aK hno,ho];rfl
  go_enter func283,ntmps283
  go_wp2;go_ret;rw[E.o];exact⟨rfl,rfl⟩
 have E:U (s.err p n=8):=by unfold aI.err;rw[aK hno,ho];rfl
 go_enter func283,ntmps283
 go_wp2;go_ret;rw[E.o];exact⟨rfl,rfl⟩
def Yr(A:Nat->aC)(b:Nat)(s:aI)(p:Int)(x:UInt8)(w:ak)(h:bU w b s)(hs:gZ A w)(hb:14<=b)(h1:s.cut=true)(h2:s.left=0):Calls prog 315 #[aq (J (ai b 0 I)),ae af p,ae .u8 (x.toNat:Int)] w λe w'=>e=ax (errVal A 8)/\bU w' b { s with off:=true }/\w.grownBy w' (J b)/\w'.heap.size=w.heap.size:=by
 have c2:=h.c2;have c3:=h.c3;have c4:=h.c4;have f2:=h.frozen 4098;have g7:=hs.c7;have hne:¬b=4:=by omega
 rw[h1]at c3;rw[h2]at c4;go_enter func315,ntmps315
 go_wp2;go_ret;exact⟨rfl,h.A0 _,dz (fG _ _) _ _,by simp⟩
def aI.put(s:aI)(p:Nat)(x:UInt8):aI:={ s with bytes:=s.bytes.set p x,written:=s.written+1,left:=if s.cut then s.left-1 else s.left }
def Ys(b:Nat)(s:aI)(p:Nat)(x:UInt8)(w:ak)(h:bU w b s)(hp:p<4096)(hw:s.written<=1099511627776)(hl:s.left<=9223372036854775807)(h1:s.cut=true->0<s.left):Calls prog 315 #[aq (J (ai b 0 I)),ae af (p:Int),ae .u8 (x.toNat:Int)] w λe w'=>e=ax .nilIface/\bU w' b (s.put p x)/\w.grownBy w' (J b)/\w'.heap.size=w.heap.size:=by
 have c1:=h.c1;have c3:=h.c3;have c4:=h.c4;have cb:=h.byte p hp;have f1:=h.frozen 4097;have f4:=h.frozen 4100;have fb:=h.frozen p;have ew:((s.written+1:Nat):Int)=(s.written:Int)+1:=by omega
 cases hc:s.cut
 ·rw[hc]at c3;have R:=(h.PF p hp x).Da (s.written+1);have e:({ s with bytes:=s.bytes.set p x,written:=s.written+1 }:aI)=s.put p x:=by simp[aI.put,hc]
  simp only[]at R;rw[hc]at e;rw[ew,hc,e]at R;go_enter func315,ntmps315
  go_wp2;go_ret;exact⟨rfl,R,dz (dz (fG _ _) _ _) _ _,by simp⟩
 have A4:=h1 hc;have el:((s.left-1:Nat):Int)=(s.left:Int)-1:=by omega
 have hnz:((s.left:Int)==0)=false:=by rw[gX];omega
 have R:=((h.iT (s.left-1)).PF p hp x).Da (s.written+1);have e:({ s with bytes:=s.bytes.set p x,written:=s.written+1,left:=s.left-1 }:aI)=s.put p x:=by simp[aI.put,hc]
 simp only[]at R;rw[hc]at e;rw[el,ew,hc,e]at R;rw[hc]at c3;go_enter func315,ntmps315
 go_wp2;go_ret;exact⟨rfl,R,dz (dz (dz (fG _ _) _ _) _ _) _ _,by simp⟩
def aI.ck(s:aI)(p:Nat):List UInt8->aI
 |[]=>s
 |x::r=>(s.put p x).ck (p+1) r
def aI.Yt(l:List UInt8)(x:UInt8):∀(s:aI) (p:Nat),s.ck p (l++[x])=(s.ck p l).put (p+l.length) x:=by
 induction l with
 |nil=>intro s p;rfl
 |cons y r ih=>intro s p;simp only[pY,aI.ck,ih,lY];congr 1;omega
def aI.JE(l:List UInt8):∀(s:aI) (p:Nat),(s.ck p l).cut=s.cut:=by
 induction l with
 |nil=>intro s p;rfl
 |cons y r ih=>intro s p;simp only[aI.ck,ih];rfl
def aI.F2(l:List UInt8):∀(s:aI) (p:Nat),(s.ck p l).off=s.off:=by
 induction l with
 |nil=>intro s p;rfl
 |cons y r ih=>intro s p;simp only[aI.ck,ih];rfl
def aI.Dc(l:List UInt8):∀(s:aI) (p:Nat),(s.ck p l).size=s.size:=by
 induction l with
 |nil=>intro s p;rfl
 |cons y r ih=>intro s p;simp only[aI.ck,ih];rfl
def aI.xj(l:List UInt8):∀(s:aI) (p:Nat),(s.ck p l).written=s.written+l.length:=by
 induction l with
 |nil=>intro s p;rfl
 |cons y r ih=>intro s p;simp only[aI.ck,ih,lY];show s.written+1+r.length=_;omega
def aI.yN(l:List UInt8):∀(s:aI) (p:Nat),(s.ck p l).left=if s.cut then s.left-l.length else s.left:=by
 induction l with
 |nil=>intro s p;simp[aI.ck]
 |cons y r ih=>
  intro s p;simp only[aI.ck,ih,lY]
  cases hc:s.cut<;>simp[aI.put,hc]
  omega
def aI.PG(l:List UInt8):∀(s:aI) (p:Nat),p+l.length<=s.bytes.length->(s.ck p l).bytes=s.bytes.take p++l++s.bytes.drop (p+l.length):=by
 induction l with
 |nil=>intro s p h;simp[aI.ck]
 |cons y r ih=>
  intro s p h;simp only[lY]at h;have e:=ih (s.put p y) (p+1) (by simp[aI.put];omega);simp only[aI.ck,e,lY];have h1:(s.put p y).bytes=s.bytes.set p y:=rfl;have JF:s.bytes.set p y=s.bytes.take p++y::s.bytes.drop (p+1):=by rw[List.set_eq_take_append_cons_drop,aU (by omega)]
  have vg:(s.bytes.take p).length=p:=by rw[eQ];omega
  have e1:p+1-p=1:=by omega
  have e2:p+1+r.length-p=r.length+1:=by omega
  have e3:p+1+r.length=p+(r.length+1):=by omega
  have t1:(s.bytes.take p++y::s.bytes.drop (p+1)).take (p+1)=s.bytes.take p++[y]:=by
   rw[AW,vg,e1,iM (l:=s.bytes.take p) (by rw[vg];omega)];rfl
  have t0:(s.bytes.take p).drop (p+1+r.length)=[]:=yI (by rw[vg];omega);have t2:(s.bytes.take p++y::s.bytes.drop (p+1)).drop (p+1+r.length)=s.bytes.drop (p+1+r.length):=by
   rw[List.drop_append,vg,e2,t0,List.drop_succ_cons,List.drop_drop];rfl
  rw[h1,JF,t1,t2,e3];simp
def aI.write(s:aI)(p:Nat)(l:List UInt8):aI×Nat:=
 if s.cut=true/\s.left<l.length then ({ s.ck p (l.take s.left)with off:=true },8)else (s.ck p l,0)
def PH(s:ByteArray)(k:Nat)(h:k<s.size):s.data.toList.take (k+1)=s.data.toList.take k++[s[k]]:=by
 rw[CU (by simpa using h)];rfl
def Yu(A:Nat->aC)(b:Nat)(s:aI)(p:Nat)(t:ByteArray)(w:ak)(h:bU w b s)(hs:gZ A w)(hb:14<=b)(hw:s.written+t.size<=1099511627776)(hl:s.left<=9223372036854775807)(he:s.err p t.size=0):Calls prog 309 #[aq (J (ai b 0 I)),ae af (p:Int),aA t] w λe w'=>e=ax (errVal A (s.write p t.data.toList).2)/\bU w' b (s.write p t.data.toList).1/\w.grownBy w' (J b)/\w'.heap.size=w.heap.size:=by
 have kK:p+t.size<=s.size:=by
  unfold aI.err at he
  split at he
  ·cases he
  omega
 have hz:=h.size;change U _ at he
 go_enter func309,ntmps309
 go_wp2_with fail
 apply(F0 A b s p _ _ h hs (by omega)).mono;rintro e w1 ⟨rfl,rfl⟩;rw[he.o];unfold errVal;go_wp2_with fail
 go_loopw [20] (λi wr=>∃k:Nat,k<=t.size/\i=ae af k/\(s.cut=true->k<=s.left)/\bU wr b (s.ck p (t.data.toList.take k))/\w1.grownBy wr (J b)/\wr.heap.size=w1.heap.size) (λi _=>t.size-(intOf i).toNat)
 case atStart=>exact⟨0,bA _,rfl,λ_=>bA _,h,fG _ _,rfl⟩
 case round=>
  obtain⟨k,hk,rfl,hcut,hat,hg,hsz⟩:=hrel;have hlen:(t.data.toList.take k).length=k:=by rw[eQ];simp;omega
  have F3:=aI.yN (t.data.toList.take k) s p;have lG:=aI.JE (t.data.toList.take k) s p;have hwr:=aI.xj (t.data.toList.take k) s p;rw[hlen]at F3 hwr
  by_cases hlt:k<t.size
  ·by_cases fj:s.cut=true/\s.left=k
   ·have hs':=hs.grown hg hb;have e1:=lG.trans fj.1;have e2:(s.ck p (t.data.toList.take k)).left=0:=by rw[F3,aU fj.1];omega
    have E:U (s.write p t.data.toList=({ s.ck p (t.data.toList.take k)with off:=true },8)):=by
     show s.write p _=_
     unfold aI.write;rw[aU ⟨fj.1,by simp;omega⟩,fj.2]
    change U _ at e1 e2
    go_wp2_with fail
    apply(Yr A b _ _ _ _ hat hs' hb e1 e2).mono;rintro e w2 ⟨rfl,yO,hg2,A5⟩;unfold errVal;go_wp2;go_ret;rw[E.o];exact⟨rfl,yO,qb hg hg2,by rw[A5,hsz]⟩
   have hw2:(s.ck p (t.data.toList.take k)).written<=1099511627776:=by rw[hwr];omega
   have hl2:(s.ck p (t.data.toList.take k)).left<=9223372036854775807:=by rw[F3];split<;>omega
   have H1:U ((s.ck p (t.data.toList.take k)).cut=true->0<(s.ck p (t.data.toList.take k)).left):=λhc=>by
    rw[lG]at hc;have h1:=hcut hc;have h2:s.left≠k:=λe=>fj ⟨hc,e⟩
    rw[F3,aU hc];omega
   have HC:U (s.cut=true->k+1<=s.left):=λhc=>by
    have h1:=hcut hc;have h2:s.left≠k:=λe=>fj ⟨hc,e⟩
    omega
   have HP:U (s.ck p (t.data.toList.take (k+1))=(s.ck p (t.data.toList.take k)).put (p+k) t[k]):=by
    show _=_
    rw[PH t k hlt,aI.Yt,hlen]
   have EP:U ((p:Int)+(k:Int)=((p+k:Nat):Int)):=by show _=_;omega
   go_wp2_with fail
   rw[EP.o]
   apply(Ys b _ _ _ _ hat (by omega) hw2 hl2 H1).mono;rintro e w2 ⟨rfl,yO,hg2,A5⟩;go_wp2;go_roundw
   case rel=>exact⟨_,by omega,by go_num,HC,by rw[HP.o];exact yO,qb hg hg2,by rw[A5,hsz]⟩
   case measure=>simp[intOf];omega
  have ek:k=t.size:=by omega
  have E:U (s.write p t.data.toList=(s.ck p (t.data.toList.take k),0)):=by
   show _=_
   unfold aI.write;rw[aK (by rintro⟨a,b⟩;have:=hcut a;simp at b;omega),iM (by simp;omega)]
  go_wp2;go_ret;rw[E.o];exact⟨rfl,hat,hg,hsz⟩
def Yv(A:Nat->aC)(b:Nat)(s:aI)(p:Int)(t:ByteArray)(j:Nat)(w:ak)(h:bU w b s)(hs:gZ A w)(hp:p<=9223372036854775807)(he:s.err p t.size=j+1):Calls prog 309 #[aq (J (ai b 0 I)),ae af p,aA t] w λe w'=>e=ax (errVal A (j+1))/\w'=w:=by
 change U _ at he
 go_enter func309,ntmps309
 go_wp2_with fail
 apply(F0 A b s p _ _ h hs hp).mono;rintro e w1 ⟨rfl,rfl⟩;rw[he.o];unfold errVal;go_wp2;go_ret;exact⟨rfl,rfl⟩
def Yw(b:Nat)(s:aI)(n:Nat)(w:ak)(h:bU w b s)(ho:s.off=false):Calls prog 70 #[aq (J (ai b 0 I)),ae af (n:Int)] w λe w'=>e=ax .nilIface/\bU w' b { s with cut:=true,left:=n }/\w.grownBy w' (J b)/\w'.heap.size=w.heap.size:=by
 have c2:=h.c2;have c3:=h.c3;have c4:=h.c4;have f3:=h.frozen 4099;have f4:=h.frozen 4100;have g0:¬(n:Int)<0:=by omega
 rw[ho]at c2;have R:=(h.Db true).iT n;clear h ho;go_enter func70,ntmps70
 go_wp2;go_ret;exact⟨rfl,R,dz (dz (fG _ _) _ _) _ _,by simp⟩
def Yx(A:Nat->aC)(b:Nat)(n:Int)(w:ak)(hs:gZ A w)(hn:n<0):Calls prog 70 #[aq (J (ai b 0 I)),ae af n] w λe w'=>e=ax (errVal A 2)/\w'=w:=by
 have g1:=hs.c1;go_enter func70,ntmps70
 go_wp2;go_ret;exact⟨rfl,rfl⟩
def Yy(A:Nat->aC)(b:Nat)(s:aI)(n:Int)(w:ak)(h:bU w b s)(hs:gZ A w)(hn:¬n<0)(ho:s.off=true):Calls prog 70 #[aq (J (ai b 0 I)),ae af n] w λe w'=>e=ax (errVal A 8)/\w'=w:=by
 have g7:=hs.c7;have c2:=h.c2;rw[ho]at c2;go_enter func70,ntmps70
 go_wp2;go_ret;exact⟨rfl,rfl⟩
def Yz:prog.underlying 177=J (.array (prog.arrayLen 177) (prog.elem 177)):=by kernel_rfl
def PI:prog.arrayLen 177=4096:=by kernel_rfl
def YA(W:ak):(sizeOf (prog.elem 177)).run prog W=.ok 1 W:=by kernel_rfl
def YB(b p q:Nat)(hp:p<=q)(hq:q<=4096)(W:ak):∃a c,(Instr.sliceAt 177 (aq (J (ai b 0 I))) (J (ae af (p:Int))) (J (ae af (q:Int))) I).run prog W=.ok (aj (J a) (q-p) c) W/\(a=⟨b,p,I⟩\/p=4096):=by
 refine⟨if 4096=p then ⟨b,0,I⟩else (⟨b,0,I⟩:aC).add p,4096-p,?_,?_⟩
 ·rw[run_sliceAt_array_lh W _ _ Yz af af _ _ (by omega) (by omega) (by rw[PI];omega),YA,PI];simp[slicedAt]
 by_cases h:4096=p
 ·exact aN h.symm
 left;rw[aK h];unfold Addr.add;split<;>simp_all
def YC(b:Nat)(s:aI)(p n c:Nat)(w:ak)(h:bU w b s)(hf:p+n<=4096):(convert 41 9 (aj (J (ai b p I)) n c)).run prog w=.ok (aA ⟨((s.bytes.drop p).take n).toArray⟩) w:=by
 have hl:((s.bytes.drop p).take n).length=n:=by rw[eQ,yK,h.len];omega
 have:=AQ (P:=prog) w 41 9 5 ⟨b,p,I⟩ c ((s.bytes.drop p).take n) underlying41 underlying5 underlying9 (λj hj=>by
  have hj':j<n:=by rw[hl]at hj;exact hj
  have e:=h.byte (p+j) (by omega);have ea:(⟨b,p,I⟩:aC).add j=⟨b,p+j,I⟩:=by unfold Addr.add;split<;>simp_all
  rw[ea,e];simp)
 rw[hl]at this;exact this
def YD(a:aC)(c:Nat)(w:ak):(convert 41 9 (aj (J a) 0 c)).run prog w=.ok (aA ⟨#[]⟩) w:=
 AQ (P:=prog) w 41 9 5 a c [] underlying41 underlying5 underlying9 (λj hj=>by simp at hj)
def PJ(A:Nat->aC)(b:Nat)(s:aI)(p n:Nat)(w:ak)(h:bU w b s)(hs:gZ A w)(he:s.err p n=0):Calls prog 254 #[aq (J (ai b 0 I)),ae af (p:Int),ae af (n:Int)] w λe w'=>e=ax (bn #[aA ⟨((s.bytes.drop p).take n).toArray⟩,.nilIface])/\w'=w:=by
 have kK:p+n<=s.size:=by
  unfold aI.err at he
  split at he
  ·cases he
  omega
 have hz:=h.size;change U _ at he
 obtain⟨a,c,sl,ha⟩:=YB b p (p+n) (by omega) (by omega) w;have en:p+n-p=n:=by omega
 have ep:((p+n:Nat):Int)=(p:Int)+(n:Int):=by omega
 rw[en,ep]at sl;have cv:(convert 41 9 (aj (J a) n c)).run prog w=.ok (aA ⟨((s.bytes.drop p).take n).toArray⟩) w:=by
  rcases ha with rfl|hp
  ·exact YC b s p n c w h (by omega)
  have hn:n=0:=by omega
  subst hn;rw[YD];simp
 go_enter func254,ntmps254
 go_wp2_with fail
 apply(F0 A b s p n _ h hs (by omega)).mono;rintro e w1 ⟨rfl,rfl⟩;rw[he.o];unfold errVal;go_wp2;go_ret2
 exact⟨rfl,rfl⟩
def PK(A:Nat->aC)(b:Nat)(s:aI)(p n:Int)(j:Nat)(w:ak)(h:bU w b s)(hs:gZ A w)(hp:p<=9223372036854775807)(he:s.err p n=j+1):Calls prog 254 #[aq (J (ai b 0 I)),ae af p,ae af n] w λe w'=>e=ax (bn #[aA ⟨#[]⟩,errVal A (j+1)])/\w'=w:=by
 change U _ at he
 go_enter func254,ntmps254
 go_wp2_with fail
 apply(F0 A b s p n _ h hs hp).mono;rintro e w1 ⟨rfl,rfl⟩;rw[he.o];unfold errVal;go_wp2;go_ret2
 exact⟨rfl,rfl⟩
def yP(s:Nat):Nat:=(s / 2) ^^^ (3988292384*(s%2))
def ny:Nat->Nat->Nat
 |0,s=>s
 |k+1,s=>ny k (yP s)
def tN(s:Nat)(l:List UInt8):Nat:=l.foldl (λs v=>ny 8 (s ^^^ v.toNat)) s
def rY(l:List UInt8):Nat:=4294967295 ^^^ tN 4294967295 l
def PL{s:Nat}(h:s<4294967296):yP s<4294967296:=
 CW (n:=32) (by omega) (by omega)
def YE(k:Nat):∀{s:Nat},s<4294967296->ny k s<4294967296:=by
 induction k with
 |zero=>intro s h;exact h
 |succ k ih=>intro s h;exact ih (PL h)
def PN{s:Nat}(h:s<4294967296)(v:UInt8):s ^^^ v.toNat<4294967296:=
 CW (n:=32) h (by have:=v.toNat_lt;omega)
def YF(l:List UInt8):∀{s:Nat},s<4294967296->tN s l<4294967296:=by
 induction l with
 |nil=>intro s h;exact h
 |cons v r ih=>intro s h;exact ih (YE 8 (PN h v))
def PO(l:List UInt8):rY l<4294967296:=CW (n:=32) (by decide) (YF l (by decide))
def YG(n:Nat)(v:UInt8)(hn:n<4294967296):bits BinOp.xor IntKind.u32 (n:Int) ((v.toNat:Int)%4294967296)=((n ^^^ v.toNat:Nat):Int):=by
 have:=v.toNat_lt;rw[show ((v.toNat:Int)%4294967296)=((v.toNat:Nat):Int) by omega];exact u32_xor_nat n _ hn (by omega)
def and_one(m:Nat):m &&& 1=m%2:=by rw[show (1:Nat)=2^1-1 from rfl,Nat.and_two_pow_sub_one_eq_mod]
def YH(m:Nat)(hm:m<4294967296):bits BinOp.xor IntKind.u32 ((m:Int) / 2) (3988292384*bits BinOp.and IntKind.u32 (m:Int) 1%4294967296)=((yP m:Nat):Int):=by
 have h1:bits BinOp.and IntKind.u32 (m:Int) 1=((m%2:Nat):Int):=by
  have:=u32_and_nat m 1 hm (ar rfl);rw[and_one]at this;exact this
 rw[h1,show ((m:Int) / 2)=((m / 2:Nat):Int) by omega,show ((3988292384*((m%2:Nat):Int))%4294967296)=((3988292384*(m%2):Nat):Int) by omega];exact u32_xor_nat _ _ (by omega) (by omega)
def YI(a:aC)(c:Nat)(l:List UInt8)(w:ak)(hc:∀i (hi:i<l.length),w.cell? (a.add i)=J (ae .u8 (l[i].toNat:Int)))(hl:l.length<=4096):Calls prog 304 #[aj (J a) l.length c] w λe w'=>e=ax (.int .u32 (rY l:Nat))/\w'=w:=by
 go_enter func304,ntmps304
 go_wp2_with fail
 go_loopw [3,8] (λs i wr=>∃(k n:Nat),k<=l.length/\n<4294967296/\i=ae af k/\s=.int .u32 (n:Int)/\tN n (l.drop k)=tN 4294967295 l/\wr=w) (λ_ i _=>l.length-(intOf i).toNat)
 case atStart=>exact⟨0,_,bA _,by decide,rfl,rfl,by simp,rfl⟩
 case round=>
  obtain⟨k,n,hk,hn,rfl,rfl,yQ,rfl⟩:=hrel
  by_cases hlt:k<l.length
  ·have hcell:=hc k hlt;have HB:U (n ^^^ l[k].toNat<4294967296):=PN hn _;have HX:U _:=YG n l[k] hn;have HN:U (tN (ny 8 (n ^^^ l[k].toNat)) (l.drop (k+1))=tN 4294967295 l):=by
    show _=_
    rw[<- yQ,lX hlt];rfl
   go_wp2_with fail
   rw[HX.o]
   go_loopw [3,16] (λs i wx=>∃(j m:Nat),j<=8/\m<4294967296/\i=ae af j/\s=.int .u32 (m:Int)/\ny (8-j) m=ny 8 (n ^^^ l[k].toNat)/\wx=wr) (λ_ i _=>8-(intOf i).toNat)
   case atStart=>exact⟨0,_,bA _,HB,rfl,rfl,rfl,rfl⟩
   case round=>
    obtain⟨j,m,hj,hm,rfl,rfl,hst,rfl⟩:=hrel
    by_cases YJ:j<8
    ·have HS:U _:=YH m hm;have HM:U _:=PL hm;have HT:U (ny (8-(j+1)) (yP m)=ny 8 (n ^^^ l[k].toNat)):=by
      show _=_
      rw[<- hst,show 8-j=8-(j+1)+1 by omega];rfl
     go_wp2_with fail
     rw[HS.o];go_roundw
     case rel=>exact⟨_,_,by omega,HM,by go_num,rfl,HT,trivial⟩
     case measure=>simp[intOf];omega
    have ej:j=8:=by omega
    subst ej;have HT:U (m=ny 8 _):=hst;go_wp2
    go_roundw
    case rel=>exact⟨k+1,m,by omega,hm,by go_num,rfl,by rw[HT.o];exact HN,trivial⟩
    case measure=>simp[intOf];omega
  have HR:U (((n ^^^ 4294967295:Nat):Int)=((rY l:Nat):Int)):=by
   show _=_
   have:l.drop k=[]:=yI (by omega);rw[this]at yQ;unfold rY;rw[<- yQ,Nat.xor_comm];rfl
  have HX:U (bits BinOp.xor IntKind.u32 IntKind.u32.max (n:Int)=((rY l:Nat):Int)):=by
   show _=_
   rw[show IntKind.u32.max=((4294967295:Nat):Int)from rfl,u32_xor_nat _ _ (ar rfl) hn,Nat.xor_comm];exact HR
  go_wp2;go_ret;rw[HX.o];exact⟨rfl,rfl⟩
def fU(l:List UInt8):Nat:=l.foldl (λa b=>a*256+b.toNat) 0
def be:Nat->Nat->List UInt8
 |0,_=>[]
 |n+1,v=>UInt8.ofNat (v / 256^n)::be n v
def F4(n v:Nat):(be n v).length=n:=by induction n with
 |zero=>rfl
 |succ n ih=>simp[be,ih]
def YK(l:List UInt8):∀a,l.foldl (λa b=>a*256+b.toNat) a=a*256^l.length+fU l:=by
 induction l with
 |nil=>intro a;simp[fU]
 |cons x r ih=>
  intro a;have e:fU (x::r)=x.toNat*256^r.length+fU r:=by
   show r.foldl _ (0*256+x.toNat)=_
   rw[ih,Nat.zero_mul,lD]
  simp only[List.foldl_cons,ih,e,lY,Nat.pow_succ,Nat.add_mul];rw[Nat.mul_assoc,Nat.mul_comm 256 _];omega
def YL(x:UInt8)(r:List UInt8):fU (x::r)=x.toNat*256^r.length+fU r:=by
 show r.foldl _ (0*256+x.toNat)=_
 rw[YK,Nat.zero_mul,lD]
def PQ(l:List UInt8)(x:UInt8):fU (l++[x])=fU l*256+x.toNat:=by simp[fU]
def Dd(l:List UInt8):fU l<256^l.length:=by
 induction l with
 |nil=>simp[fU]
 |cons x r ih=>
  rw[YL,lY,Nat.pow_succ,Nat.mul_comm (256^r.length)];have h:=x.toNat_lt;have:x.toNat*256^r.length<=255*256^r.length:=CM _ (by omega);omega
def PS(n:Int)(h₀:0<=n)(h₁:n<2^63):IntKind.i64.wrap n=n:=by
 simp only[IntKind.wrap,IntKind.bits,IntKind.signed];simp
 omega
def JG(n:Int)(h:-9223372036854775808<=n/\n<=9223372036854775807):wrap64 n=n:=by unfold wrap64;omega
def YM(v:Nat)(x:UInt8)(h:v<1099511627776):bits BinOp.or IntKind.i64 (wrap64 ((v:Int)*256)) (wrap64 (x.toNat:Int))=((v*256+x.toNat:Nat):Int):=by
 have hx:=x.toNat_lt;rw[JG _ (by omega),JG _ (by omega),bits_join af 63 (ar rfl) PS 8 _ _ (by omega) (by omega) (by omega) (by omega) (by omega) (by omega)];omega
def YN(t:ByteArray)(w:ak)(hl:t.size<=6):Calls prog 284 #[aA t] w λe w'=>e=ax (ae af (fU t.data.toList:Nat))/\w'=w:=by
 go_enter func284,ntmps284
 go_wp2_with fail
 go_loopw [3,7] (λs i wr=>∃(k:Nat),k<=t.size/\i=ae af k/\s=ae af (fU (t.data.toList.take k):Nat)/\wr=w) (λ_ i _=>t.size-(intOf i).toNat)
 case atStart=>exact⟨0,bA _,rfl,rfl,rfl⟩
 case round=>
  obtain⟨k,hk,rfl,rfl,rfl⟩:=hrel
  by_cases hlt:k<t.size
  ·have HV:U (fU (t.data.toList.take k)<1099511627776):=by
    show _<_
    have h1:=Dd (t.data.toList.take k);have h2:(t.data.toList.take k).length<=5:=by rw[eQ];simp;omega
    have h3:256^(t.data.toList.take k).length<=256^5:=AR (ar rfl) h2;omega
   have HN:U (fU (t.data.toList.take (k+1))=fU (t.data.toList.take k)*256+t[k].toNat):=by
    show _=_
    rw[PH t k hlt,PQ]
   go_wp2_with fail
   rw[YM _ _ HV.o,<- HN.o];exact⟨⟨_,by omega,by go_num,rfl,trivial⟩,by simp[intOf];omega⟩
  have HT:U (t.data.toList.take k=t.data.toList):=iM (by simp;omega);go_wp2;go_ret;rw[HT.o];exact⟨rfl,rfl⟩
def infoByte:∃i:TypeInfo,prog.info? 5=J i/\i.zero=J (ae .u8 0)/\i.size=1/\i.bytes=1:=by
 have h:(prog.info? 5).map (λi=>(i.zero,i.size,i.bytes))=J (J (ae .u8 0),1,1):=by kernel_rfl
 obtain⟨i,hi,he⟩:=ve.1 h;simp only[Prod.mk.injEq]at he;exact⟨i,hi,he.1,he.2.1,he.2.2⟩
def YO(x j:Nat):nu (UInt8.ofNat (x / 256^j))=ae .u8 ((x:Int) / 2^(8*j)%256):=by
 unfold nu;rw[UInt8.toNat_ofNat',Int.pow_mul];have:((256^j:Nat):Int)=(2^8:Int)^j:=by rw[Int.natCast_pow];rfl
 rw[<- this];congr 1
def JH(w:ak)(u:aw)(ty:TypeId):∀j x,[u][j]?=J x->(w.alloc (ay #[u] ty)).cell? ((⟨w.heap.size,0,I⟩:aC).add j)=J x:=by
 intro j x hj
 match j,hj with
 |0,hj=>
  have e:x=u:=by simpa using hj.symm
  subst e;exact dr _ _ _ _ rfl
def De(base:Nat)(v:aw)(n:Nat)(l:List UInt8)(x many:Nat)(w:ak)(hown:w.ownsRow base 5 1 v n (l.map nu))(hb:base<=w.heap.size)(hn:n+many<=100)(hm:many<=7):Calls prog 303 #[v,ae af (x:Int),ae af (many:Int)] w λe w'=>∃v',e=ax v'/\w'.ownsRow base 5 1 v' (n+many) ((l++be many x).map nu)/\Below base w w':=by
 obtain⟨i0,hi,hz0,hz1,hz2⟩:=infoByte;go_enter func303,ntmps303
 go_wp2_with fail
 go_loopw [0,7] (λu i wr=>∃(j:Nat) (pre:List UInt8),j<=many/\i=ae af ((j:Int)-1)/\l++be many x=pre++be j x/\wr.ownsRow base 5 1 u (n+many-j) (pre.map nu)/\Below base w wr) (λ_ i _=>(intOf i+1).toNat)
 case atStart=>exact⟨_,l,aR _,rfl,rfl,by rw[CX];exact hown,aF _ _⟩
 case round=>
  obtain⟨j,pre,hj,rfl,Df,hown',kg⟩:=hrel
  cases j with
  |succ j=>
   rw[show (((j+1:Nat):Int)-1)=(j:Int) by omega];have HV:U _:=YO x j;have hsz:=kg.size;have HP:U (l++be many x=(pre++[UInt8.ofNat (x / 256^j)])++be j x):=by
    show _=_
    rw[Df];simp[be]
   have HM:U ((pre++[UInt8.ofNat (x / 256^j)]).map nu=pre.map nu++[ae .u8 ((x:Int) / 2^(8*j)%256)]):=by
    show _=_
    rw[lC,qO,List.map_nil,HV.o]
   go_wp2_with (at_builtin;refine pz _ rfl (.tmp 14) _ 41 rfl _ 5 i0 _ 1 1 underlying41 hi hz0 hz1 hz2 rfl (ar rfl) _ _ _ rfl (hown'.alloc _) _ 1 1 _ rfl rfl (JH _ _ _) (by intro u hu;simp at hu;subst hu;rfl) (by unfold maxLen;omega) (by omega) (by simp;omega) ?_;intro v1 w1 hown1 A6 JI)
   go_roundw
   case rel=>exact⟨j,_,by omega,by go_num,HP,by rw[HM.o,show n+many-j=n+many-(j+1)+1 by omega];exact hown1,(kg.alloc (by omega) _).grown A6 (by simp;omega) (λk hk=>(hown'.lt k hk).1)⟩
   case measure=>simp[intOf]
  |zero=>
   go_wp2;go_ret;simp only[be,pk]at Df;exact⟨_,rfl,by rw[Df];exact hown',kg⟩
structure Rec where
 seq:Nat
 cf:Nat
 kind:Nat
 tick:Nat
def Rec.list(r:Rec):List aw:=[ae af (r.seq:Int),ae af (r.cf:Int),ae af (r.kind:Int),ae af (r.tick:Int)]
def Rec.val(r:Rec):aw:=bK #[ae af (r.seq:Int),ae af (r.cf:Int),ae af (r.kind:Int),ae af (r.tick:Int)]
def Rec.none:Rec:=⟨0,0,0,0⟩
structure Rec.Ok(r:Rec):Prop where
 seq:r.seq<9223372036854775808
 cf:r.cf<9223372036854775808
 kind:r.kind<9223372036854775808
 tick:r.tick<9223372036854775808
structure l_(w:ak)(b:Nat)(r:Rec):Prop where
 c0:w.cell? ⟨b,0,.none⟩=J (ae af (r.seq:Int))
 c1:w.cell? ⟨b,1,.none⟩=J (ae af (r.cf:Int))
 c2:w.cell? ⟨b,2,.none⟩=J (ae af (r.kind:Int))
 c3:w.cell? ⟨b,3,.none⟩=J (ae af (r.tick:Int))
def l_.below{r:Rec}(h:l_ w b r)(hb:Below B w w')(hlt:b<B):l_ w' b r:=
 ⟨(hb.cell (by exact hlt)).trans h.c0,(hb.cell (by exact hlt)).trans h.c1,(hb.cell (by exact hlt)).trans h.c2,(hb.cell (by exact hlt)).trans h.c3⟩
def l_.new(w:ak)(r:Rec)(ty:TypeId):l_ (w.alloc (ay #[ae af (r.seq:Int),ae af (r.cf:Int),ae af (r.kind:Int),ae af (r.tick:Int)] ty)) w.heap.size r:=
 ⟨dr _ _ _ _ rfl,dr _ _ _ _ rfl,dr _ _ _ _ rfl,dr _ _ _ _ rfl⟩
def qc(r:Rec):List UInt8:=be 4 r.seq++be 1 r.cf++be 1 r.kind++be 6 r.tick
def gH(r:Rec):List UInt8:=qc r++be 4 (rY (qc r))
def enc(r:Rec):List UInt8:=gH r++[165]
def JJ(r:Rec):(qc r).length=12:=by simp[qc,F4]
def rZ(r:Rec):(gH r).length=16:=by simp[gH,JJ,F4]
def PT(r:Rec):(enc r).length=17:=by simp[enc,rZ]
def PU(h:w.ownsRow base 5 1 v n (l.map nu))(hn:0<n):∃g c,v=aj (J ⟨g,0,.none⟩) l.length c/\l.length=n/\∀i (hi:i<l.length),w.cell? ((⟨g,0,.none⟩:aC).add i)=J (ae .u8 (l[i].toNat:Int)):=by
 obtain⟨hl,h|⟨g,c,cur,rfl,-,hg,Pz,-,hcs,hx⟩⟩:=h
 ·omega
 have yR:l.length=n:=by simpa using hl
 refine⟨g,c,by rw[yR],yR,λi hi=>?_⟩;have e:cur[i]?=J (nu l[i]):=by
  have:=nh (λz=>z[i]?) hx;simp only[np,gY,bq hi,qT,qR,aU (show i<n by omega)]at this;simpa using this
 have ea:(⟨g,0,.none⟩:aC).add i=⟨g,i,.none⟩:=by unfold Addr.add;split<;>simp_all
 rw[ea];simp only[aH,hg];simpa[nu]using e
def YP(h:w.ownsRow base 5 1 v n (l.map nu))(hn:0<n):(convert 41 9 v).run prog w=.ok (aA ⟨l.toArray⟩) w:=by
 obtain⟨g,c,rfl,-,hc⟩:=PU h hn;exact AQ (P:=prog) w 41 9 5 _ c l underlying41 underlying5 underlying9 hc
def PV(r:Rec)(w:ak):Calls prog 285 #[r.val] w λe w'=>e=ax (aA ⟨(enc r).toArray⟩)/\Below w.heap.size w w':=by
 obtain⟨i0,hi,hz0,hz1,hz2⟩:=infoByte;have R0:=l_.new w r 97;unfold Rec.val;go_enter func285,ntmps285
 go_upto_region 2 with(at_make;refine wpList_make_own _ rfl _ _ 41 rfl (w.heap.size+1) 5 i0 _ 1 underlying41 hi hz0 hz1 af af 17 17 rfl rfl rfl (by rw[hz2];omega) (by unfold maxLen;omega) (by simp) ?_;intro w0 PW JK)
 have R1:=R0.below ((aF _ _).grown JK (by simp) (λk h=>by cases h)) (tJ _);have B1:=((aF _ w).alloc (aR _) _).grown JK (by simp) (λk h=>by cases h);have s1:=JK.size;simp only[tK]at s1 PW;have q0:=R1.c0;go_wp2_with fail
 apply(De _ _ 0 [] _ 4 _ PW s1 (by omega) (by omega)).mono;rintro e w2 ⟨v2,rfl,hown2,hb2⟩;have R2:=R1.below hb2 (tJ _);have s2:=hb2.size;have q1:=R2.c1;go_wp2_with fail
 apply(De _ v2 _ _ _ 1 _ hown2 (by omega) (by omega) (by omega)).mono;rintro e w3 ⟨v3,rfl,F5,hb3⟩;have R3:=R2.below hb3 (tJ _);have s3:=hb3.size;have q2:=R3.c2;go_wp2_with fail
 apply(De _ v3 _ _ _ 1 _ F5 (by omega) (by omega) (by omega)).mono;rintro e w4 ⟨v4,rfl,JL,hb4⟩;have R4:=R3.below hb4 (tJ _);have s4:=hb4.size;have q3:=R4.c3;go_wp2_with fail
 apply(De _ v4 _ _ _ 6 _ JL (by omega) (by omega) (by omega)).mono;rintro e w5 ⟨v5,rfl,Dg,iU⟩;have s5:=iU.size;have YQ:[]++be 4 r.seq++be 1 r.cf++be 1 r.kind++be 6 r.tick=qc r:=by unfold qc;rw[yB]
 rw[YQ]at Dg;obtain⟨g,c,rfl,hlen,JM⟩:=PU Dg (by omega);go_wp2_with fail
 apply(YI _ c _ _ JM (by rw[JJ];omega)).mono;rintro e w6 ⟨rfl,rfl⟩;have HW:U (wrap64 _=((rY (qc r):Nat):Int)):=JG _ (by have:=PO (qc r);omega);have HM:U ((enc r).map nu=(qc r++be 4 (rY (qc r))).map nu++[ae .u8 165]):=by
  show _=_
  unfold enc gH;rw[lC];rfl
 go_wp2_with fail
 rw[HW.o]
 apply(De _ _ _ _ _ 4 _ Dg (by omega) (by omega) (by omega)).mono;rintro e w7 ⟨v7,rfl,PX,A7⟩;have s7:=A7.size;go_wp2_with (at_builtin;refine pz _ rfl (.tmp 26) _ 41 rfl _ 5 i0 _ 1 1 underlying41 hi hz0 hz1 hz2 rfl (ar rfl) _ _ _ rfl (PX.alloc _) _ 1 1 _ rfl rfl (JH _ _ _) (by intro u hu;simp at hu;subst hu;rfl) (by unfold maxLen;omega) (by omega) (by simp;omega) ?_;intro v8 w8 eV cQ nA;rw[<- HM.o]at eV;have cv:=YP eV (by omega))
 go_ret
 refine⟨rfl,?_⟩;have B5:=(((B1.trans (hb2.mono (by omega))).trans (hb3.mono (by omega))).trans (hb4.mono (by omega))).trans (iU.mono (by omega));have B7:=B5.trans (A7.mono (by omega));exact(B7.alloc (by omega) _).grown cQ (by simp;omega) (λk hk=>by have:=(PX.lt k hk).1;omega)
structure eu(w:ak)(b:Nat)(r:Rec):Prop where
 heap:w.heap[b]?=J (ay #[ae af (r.seq:Int),ae af (r.cf:Int),ae af (r.kind:Int),ae af (r.tick:Int)] 97 (0,0))
def eu.at{r:Rec}(h:eu w b r):l_ w b r:=by
 refine⟨?_,?_,?_,?_⟩<;>simp[aH,h.heap]
def eu.frozen{r:Rec}(h:eu w b r)(i:Nat):w.frozen? ⟨b,i,.none⟩=false:=by simp[bM,h.heap]
def eu.below{r:Rec}(h:eu w b r)(hb:Below B w w')(hlt:b<B):eu w' b r:=⟨(hb.block b hlt).trans h.heap⟩
def eu.lt{r:Rec}(h:eu w b r):b<w.heap.size:=bL h.heap
def nB{p:Tmp}(h:fn.results=#[.cell p 97,.tmp u])(tmps:Array aw)(w:ak)(b:Nat)(r:Rec)(hp:tmps.getD p undef=aq (J ⟨b,0,.none⟩))(hr:l_ w b r):(results fn tmps).run prog w=.ok (bn #[r.val,tmps.getD u undef]) w:=by
 obtain⟨c0,c1,c2,c3⟩:=hr;rw[results_cell_tmp h,hp];go_simp
 rfl
def eu.iT{r0:Rec}(h:eu w b r0)(r:Rec):eu ((((w.setCell ⟨b,0,.none⟩ (ae af (r.seq:Int))).setCell ⟨b,1,.none⟩ (ae af (r.cf:Int))).setCell ⟨b,2,.none⟩ (ae af (r.kind:Int))).setCell ⟨b,3,.none⟩ (ae af (r.tick:Int))) b r:=by
 refine⟨?_⟩;simp[bN,cL,h.heap]
def ma(w:ak)(b:Nat)(v0 v1 v2 v3:aw):w.grownBy ((((w.setCell ⟨b,0,.none⟩ v0).setCell ⟨b,1,.none⟩ v1).setCell ⟨b,2,.none⟩ v2).setCell ⟨b,3,.none⟩ v3) (J b):=
 dz (dz (dz (dz (fG _ _) _ _) _ _) _ _) _ _
def eu.new(w:ak)(r:Rec):eu (w.alloc (ay #[ae af (r.seq:Int),ae af (r.cf:Int),ae af (r.kind:Int),ae af (r.tick:Int)] 97)) w.heap.size r:=
 ⟨cj w _⟩
def PY{a b:ByteArray}(h:a.toList=b.toList):a=b:=by
 rw[gW,gW]at h;exact ByteArray.ext (Array.toList_inj.1 h)
def YR(w:ak)(a b:Obj):((w.alloc a).alloc b).drew.heap[w.heap.size+1]?=J b:=by
 have:=cj (w.alloc a) b;simp only[tK]at this;exact this
def YS(w:ak)(a b:Obj):((w.alloc a).alloc b).drew.heap[w.heap.size]?=J a:=
 (((aF (w.heap.size+1) (w.alloc a)).alloc (by simp) b).block w.heap.size (tJ _)).trans (cj w a)
def fV(l:List UInt8):Rec:=⟨fU (l.take 4),fU ((l.drop 4).take 1),fU ((l.drop 5).take 1),fU ((l.drop 6).take 6)⟩
open Classical in
def dec(l:List UInt8):Option Rec:=if (fV l).seq<1\/enc (fV l)≠l then I else J (fV l)
def fQ(l:List UInt8):Rec:=(dec l).getD .none
def kX(l:List UInt8):Bool:=(dec l).isSome
def YT(t:ByteArray)(p q:Nat)(w:ak)(h:p<=q/\q<=p+6/\q<=t.size):Calls prog 284 #[aA (t.extract p q)] w λe w'=>e=ax (ae af (fU ((t.data.toList.drop p).take (q-p)):Nat))/\w'=w:=by
 have h:=YN (t.extract p q) w (by simp;omega);rw[xh]at h;exact h
def YU(t:ByteArray)(w:ak)(ht:t.size=17):Calls prog 255 #[aA t] w λe w'=>e=ax (bn #[(fQ t.data.toList).val,aL (kX t.data.toList)])/\Below w.heap.size w w':=by
 have FZ:(t.size:Int)=17:=by omega
 go_enter func255,ntmps255
 go_upto_region 1 with fail
 go_cut [4] (λp wx=>p=aq (J ⟨w.heap.size+1,0,I⟩)/\wx.heap.size=w.heap.size+2/\eu wx (w.heap.size+1) (fV t.data.toList)/\eu wx w.heap.size .none/\Below w.heap.size w wx)
 case first=>
  go_region_held3 (λ_=>True) (exact trivial) (first|(go_at_call 284;refine(YT t _ _ _ ?_).mono ?_;omega;rintro e w' ⟨rfl,rfl⟩))
  all_goals
   go_wp2
   go_meet
   case rel=>
    refine⟨rfl,by simp,⟨?_⟩,⟨?_⟩,?_⟩
    ·exact YR w _ _
    ·exact YS w _ _
    exact(((aF _ _).alloc (aR _) _).alloc (by simp) _).drew
 case rest=>
  obtain⟨rfl,hsz,hx,hz,hb⟩:=hcut;obtain⟨x0,x1,x2,x3⟩:=hx.at;obtain⟨z0,z1,z2,z3⟩:=hz.at;have f0:=hz.frozen 0;have f1:=hz.frozen 1;have f2:=hz.frozen 2;have f3:=hz.frozen 3
  by_cases h1:(fV t.data.toList).seq<1
  ·have JN:((fV t.data.toList).seq:Int)<1:=by omega
   have HR:U (fQ t.data.toList=.none/\kX t.data.toList=false):=by
    have:dec _=I:=aU (aT h1);exact⟨by unfold fQ;rw[this];rfl,by unfold kX;rw[this];rfl⟩
   go_wp2_with fail
   refine dL (nB rfl _ _ _ .none rfl (hz.iT .none).at) rfl ?_;rw[HR.1,HR.2];exact⟨rfl,pC hb (ma ..) (by omega) (aR _)⟩
  have JN:¬((fV t.data.toList).seq:Int)<1:=by omega
  go_wp2_with fail
  apply(PV _ _).mono;rintro e w3 ⟨rfl,hb3⟩;have hx3:=hx.below hb3 hx.lt;have hz3:=hz.below hb3 hz.lt;obtain⟨x0,x1,x2,x3⟩:=hx3.at;obtain⟨z0,z1,z2,z3⟩:=hz3.at;have f0:=hz3.frozen 0;have f1:=hz3.frozen 1;have f2:=hz3.frozen 2;have f3:=hz3.frozen 3;have B3:=hb.trans (hb3.mono (by omega));have s3:=hb3.size;have HE:U (enc _=t.data.toList↔(⟨(enc (fV t.data.toList)).toArray⟩:ByteArray)=t):=
   ⟨λh=>by rw[h],λh=>by have:=nh (λz:ByteArray=>z.data.toList) h;simpa using this⟩
  generalize hG:(⟨(enc (fV t.data.toList)).toArray⟩:ByteArray)=E at HE
  by_cases he:E=t
  ·have HR:U (fQ t.data.toList=fV t.data.toList/\kX t.data.toList=true):=by
    have:dec _=J (fV t.data.toList):=aK (λh=>by
     rcases h with h|h
     ·exact h1 h
     exact h (HE.2 he))
    exact⟨by unfold fQ;rw[this];rfl,by unfold kX;rw[this];rfl⟩
   subst he;go_wp2_with fail
   refine dL (nB rfl _ _ _ _ rfl (hz3.iT _).at) rfl ?_;rw[HR.1,HR.2];exact⟨rfl,pC B3 (ma ..) (by omega) (aR _)⟩
  have HR:U (fQ t.data.toList=.none/\kX t.data.toList=false):=by
   have:dec _=I:=aU (aN λh=>he (HE.1 h));exact⟨by unfold fQ;rw[this];rfl,by unfold kX;rw[this];rfl⟩
  have hne:(E.toList==t.toList)=false:=by
   rw[gX];exact λh=>he (PY h)
  go_wp2_with fail
  refine dL (nB rfl _ _ _ .none rfl (hz3.iT .none).at) rfl ?_;rw[HR.1,HR.2];exact⟨rfl,pC B3 (ma ..) (by omega) (aR _)⟩
def F6(n:Nat)(w:ak)(h:1<=n)(h2:n<9223372036854775808):Calls prog 256 #[ae af (n:Int)] w λe w'=>e=ax (ae af (((n-1)%9:Nat):Int))/\w'=w:=by
 obtain⟨m,rfl⟩:∃m,n=m+1:=⟨n-1,by omega⟩;have e:((m+1:Nat):Int)-1=(m:Int):=by omega
 go_enter func256,ntmps256
 go_wp2;go_ret
 refine⟨?_,rfl⟩;show Ending.returned (ae af _)=_
 rw[show ((m:Int)%9)=(((m+1-1)%9:Nat):Int) by omega]
def cF(L:List Rec):List aw:=L.flatMap Rec.list
def oM(L:List Rec):(cF L).length=4*L.length:=by
 induction L with
 |nil=>rfl
 |cons x r ih=>simp only[cF,mD,cY]at ih⊢;rw[ih];simp[Rec.list];omega
def A8(x:Rec)(L:List Rec):cF (x::L)=x.list++cF L:=rfl
def JO(K L:List Rec):cF (K++L)=cF K++cF L:=by simp[cF]
def JP(L:List Rec):∀(k j:Nat) (hk:k<L.length),j<4->(cF L)[k*4+j]?=(L[k].list)[j]?:=by
 induction L with
 |nil=>intro k j hk;simp at hk
 |cons x r ih=>
  intro k j hk hj;rw[A8]
  cases k with
  |zero=>rw[ly (by simp[Rec.list];omega)];simp
  |succ k=>
   rw[jX (by simp[Rec.list];omega),show (k+1)*4+j-x.list.length=k*4+j by simp[Rec.list];omega];exact ih k j (by simpa using hk) hj
def PZ(L:List Rec):∀(k:Nat) (r:Rec),k<L.length ->
  ((((cF L).set (k*4) (ae af (r.seq:Int))).set (k*4+1) (ae af (r.cf:Int))).set (k*4+2) (ae af (r.kind:Int))).set (k*4+3) (ae af (r.tick:Int))=cF (L.set k r):=by
 induction L with
 |nil=>intro k r hk;simp at hk
 |cons x t ih=>
  intro k r hk
  cases k with
  |zero=>simp[A8,Rec.list]
  |succ k=>
   have:=ih k r (by simpa using hk);rw[List.set_cons_succ,A8,A8,<- this];have e:∀j,(k+1)*4+j=(k*4+j)+4:=λj=>by omega
   rw[show (k+1)*4=(k*4+0)+4 by omega];simp[Rec.list]
structure gM(w:ak)(b:Nat)(L:List Rec):Prop where
 heap:w.heap[b]?=J (ay (cF L).toArray 268 (0,0))
def gM.cell{L:List Rec}(h:gM w b L)(k j:Nat)(hk:k<L.length)(hj:j<4):w.cell? ⟨b,k*4+j,.none⟩=(L[k].list)[j]?:=by
 rw[<- JP L k j hk hj];simp[aH,h.heap]
def gM.frozen{L:List Rec}(h:gM w b L)(i:Nat):w.frozen? ⟨b,i,.none⟩=false:=by simp[bM,h.heap]
def gM.below{L:List Rec}(h:gM w b L)(hb:Below B w w')(hlt:b<B):gM w' b L:=⟨(hb.block b hlt).trans h.heap⟩
def gM.lt{L:List Rec}(h:gM w b L):b<w.heap.size:=bL h.heap
def gM.set{L:List Rec}(h:gM w b L)(k:Nat)(r:Rec)(hk:k<L.length):gM ((((w.setCell ⟨b,k*4,.none⟩ (ae af (r.seq:Int))).setCell ⟨b,k*4+1,.none⟩ (ae af (r.cf:Int))).setCell ⟨b,k*4+2,.none⟩ (ae af (r.kind:Int))).setCell ⟨b,k*4+3,.none⟩ (ae af (r.tick:Int))) b (L.set k r):=by
 refine⟨?_⟩;rw[<- PZ L k r hk];simp[bN,cL,h.heap]
def F7(w:ak)(b o:Nat)(v0 v1 v2 v3:aw):w.grownBy ((((w.setCell ⟨b,o,.none⟩ v0).setCell ⟨b,o+1,.none⟩ v1).setCell ⟨b,o+2,.none⟩ v2).setCell ⟨b,o+3,.none⟩ v3) (J b):=
 dz (dz (dz (dz (fG _ _) _ _) _ _) _ _) _ _
def fB(l:List UInt8)(i:Nat):List UInt8:=(l.drop (i*17)).take 17
def jy(l:List UInt8)(i:Nat):Rec:=if kX (fB l i)=true/\((fQ (fB l i)).seq-1)%9=i then fQ (fB l i)else .none
def ft(l:List UInt8)(k:Nat):List Rec:=(List.range 9).map λi=>if i<k then jy l i else .none
def tO(l:List UInt8)(k:Nat):(ft l k).length=9:=by simp[ft]
def YV(l:List UInt8)(k:Nat)(P0:k<9):ft l (k+1)=(ft l k).set k (jy l k):=by
 apply List.ext_getElem (by simp[ft])
 intro i h1 h2;rw[List.getElem_set];simp only[ft,List.getElem_map,List.getElem_range]
 by_cases e:k=i
 ·subst e;simp
 simp only[aK e]
 by_cases h:i<k
 ·rw[aU h,aU (by omega)]
 rw[aK h,aK (by omega)]
def YW(l:List UInt8):ft l 0=List.replicate 9 .none:=by simp[ft,List.map_const']
def A9(h:kX l=true):1<=(fQ l).seq/\(fQ l).seq<4294967296/\fQ l=fV l/\enc (fV l)=l:=by
 unfold kX at h;unfold fQ;unfold dec at h⊢
 split
 ·rename_i hc;rw[aU hc]at h;simp at h
 rename_i hc;simp only[not_or,Decidable.not_not]at hc
 refine⟨by simp;omega,?_,rfl,hc.2⟩;have:=Dd (l.take 4);have h4:(l.take 4).length<=4:=by rw[eQ];omega
 have:256^(l.take 4).length<=256^4:=AR (ar rfl) h4;simp[fV]
 omega
def YX(n m:Nat)(h:m<=n):(zeros n).take m=zeros m:=by unfold zeros;rw[List.take_replicate];congr 1;omega
def qW:Array aw:=(cF (List.replicate 9 .none)).toArray
def P3(w:ak)(o:Obj):gM (((w.alloc o).alloc (ay qW 268)).alloc (ay qW 268)) (w.heap.size+1+1) (List.replicate 9 .none)/\gM (((w.alloc o).alloc (ay qW 268)).alloc (ay qW 268)) (w.heap.size+1) (List.replicate 9 .none)/\Below w.heap.size w (((w.alloc o).alloc (ay qW 268)).alloc (ay qW 268))/\(((w.alloc o).alloc (ay qW 268)).alloc (ay qW 268)).heap.size=w.heap.size+3:=by
 have h1:=cj ((w.alloc o).alloc (ay qW 268)) (ay qW 268);have h2:=cj (w.alloc o) (ay qW 268);simp only[tK]at h1 h2
 refine⟨⟨h1⟩,⟨?_⟩,(((aF _ _).alloc (aR _) _).alloc (by simp) _).alloc (by simp;omega) _,by simp⟩;exact(((aF _ _).alloc (by simp) _).block _ (tJ _)).trans h2
def YY(l:List UInt8)(k:Nat)(hl:l.length=153)(hk:k<9):(fB l k).length=17:=by
 unfold fB;rw[eQ,yK];omega
def P4{p:Tmp}(h:fn.results=#[.cell p 268,.tmp u])(tmps:Array aw)(w:ak)(b:Nat)(L:List Rec)(hL:L.length=9)(hp:tmps.getD p undef=aq (J ⟨b,0,.none⟩))(hr:gM w b L):(results fn tmps).run prog w=.ok (bn #[.agg (cF L).toArray,tmps.getD u undef]) w:=by
 have hi:(prog.info? 268).map (·.size)=J (cF L).toArray.size:=by
  rw[rV,oM,hL];kernel_rfl
 rw[results_cell_tmp h,hp];simp only[asAddr,Sem.run_pure,yJ,run_loadVar_row w b _ _ _ _ _ hr.heap underlying268 rfl hi]
def xk(L:List Rec):(cF L).toArray.all (·.oneCell')=true:=by
 apply CV.2
 intro v hv;simp only[List.mem_toArray,cF,tB,Rec.list,fe,jL,j4]at hv;obtain⟨r,-,rfl|rfl|rfl|rfl⟩:=hv<;>rfl
def yS(L:List Rec)(hL:L.length=9):(prog.info? 268).map (·.size)=J (cF L).toArray.size:=by
 rw[rV,oM,hL];kernel_rfl
def P5(l:List UInt8)(k:Nat)(P0:k<9):(ft l k).set k .none=ft l k:=by
 apply List.ext_getElem (by simp[ft])
 intro i h1 h2;rw[List.getElem_set]
 by_cases e:k=i
 ·subst e;simp[ft]
 rw[aK e]
def gM.cells{L:List Rec}(h:gM w b L)(k:Nat)(hk:k<L.length):w.cell? ⟨b,k*4,.none⟩=J (ae af (L[k].seq:Int))/\w.cell? ⟨b,k*4+1,.none⟩=J (ae af (L[k].cf:Int))/\w.cell? ⟨b,k*4+2,.none⟩=J (ae af (L[k].kind:Int))/\w.cell? ⟨b,k*4+3,.none⟩=J (ae af (L[k].tick:Int)):=
 ⟨(h.cell k 0 hk (ar rfl)).trans rfl,(h.cell k 1 hk (ar rfl)).trans rfl,(h.cell k 2 hk (ar rfl)).trans rfl,(h.cell k 3 hk (ar rfl)).trans rfl⟩
def gM.YZ{c:Nat}{L:List Rec}(h:gM w b L)(hne:b≠c)(o:Nat)(v0 v1 v2 v3:aw):gM ((((w.setCell ⟨c,o,.none⟩ v0).setCell ⟨c,o+1,.none⟩ v1).setCell ⟨c,o+2,.none⟩ v2).setCell ⟨c,o+3,.none⟩ v3) b L:=
 ⟨((F7 w c o v0 v1 v2 v3).block b h.lt (by simpa using hne)).trans h.heap⟩
def Y0(T:ByteArray)(l:List UInt8)(k:Nat)(hT:T.data.toList=l)(hs:(T.size:Int)=153)(hk:k<9):∃P:ByteArray,P.data.toList=fB l k/\P.size=17/\∀W,(Instr.slice 9 (aA T) (J (ae af ((k:Int)*17))) (J (ae af (((k:Int)+1)*17))) Option.none).run prog W=.ok (aA P) W:=by
 refine⟨T.extract (k*17) (k*17+17),?_,by simp;omega,λW=>?_⟩
 ·rw[xh,hT,yG];rfl
 rw[run_slice_string _ _ T _ _ _ _ underlying9 (by omega) (by omega) (by omega)];congr 3<;>omega
def Y1(A:Nat->aC)(b:Nat)(s:aI)(w:ak)(h:bU w b s)(hs:gZ A w)(he:s.err 0 153=0):Calls prog 221 #[bK #[aq (J ⟨b,0,.none⟩)]] w λe w'=>e=ax (bn #[.agg (cF (ft (s.bytes.take 153) 9)).toArray,.nilIface])/\Below w.heap.size w w':=by
 have HE:U (s.err ((0:Nat):Int) ((153:Nat):Int)=0):=he;obtain⟨Dh,A_,vh,JQ⟩:=P3 w (ay #[aq (J ⟨b,0,.none⟩)] 267);have hl:(s.bytes.take 153).length=153:=by rw[eQ,h.len];omega
 have h':=h.below vh;have hs':=hs.below vh;have RD:=PJ A b s 0 153 _ h' hs' HE;rw[List.drop_zero]at RD;generalize s.bytes.take 153=l at *;obtain⟨T,hT⟩:∃T:ByteArray,T=⟨l.toArray⟩:=⟨_,rfl⟩;have Y2:T.data.toList=l:=by rw[hT]
 have P6:(T.size:Int)=153:=by rw[hT];show (l.toArray.size:Int)=153;simp[hl]
 rw[<- hT]at RD;clear hT;change U _ at RD
 go_enter func221,ntmps221
 go_wp2_with fail
 refine aO RD.o ?_;rintro e w1 ⟨rfl,iF⟩;rw[<- iF]at Dh A_ vh JQ;clear iF RD h' hs';go_wp2_with fail
 go_loopw [20] (λi wr=>∃k:Nat,k<=9/\i=ae af k/\gM wr (w.heap.size+1+1) (ft l k)/\gM wr (w.heap.size+1) (List.replicate 9 .none)/\Below w.heap.size w wr/\w.heap.size+3<=wr.heap.size) (λi _=>9-(intOf i).toNat)
 case atStart=>exact⟨0,bA _,rfl,by rw[YW];exact Dh,A_,vh,by omega⟩
 case round=>
  obtain⟨k,hk,rfl,hrow,hz,hb,hsz⟩:=hrel
  by_cases hlt:k<9
  ·have JR:=YV l k hlt;have bH:=YY l k hl hlt;obtain⟨P,Di,Y3,sl⟩:=Y0 T l k Y2 P6 hlt;go_wp2_with fail
   apply(YU P _ Y3).mono;rintro e w2 ⟨rfl,hb2⟩;rw[Di];unfold Rec.val;have hrow2:=hrow.below hb2 hrow.lt;have hz2:=hz.below hb2 hz.lt;have s2:=hb2.size;have hq:=tO l k
   cases hd:kX (fB l k)
   ·have HN:U (jy l k=.none):=aK (by rw[hd];simp);go_wp2
    go_roundw
    case rel=>exact⟨k+1,by omega,by go_num,by rw[JR,HN.o,P5 l k hlt];exact hrow2.below ((aF _ w2).alloc (aR _) _) hrow2.lt,hz2.below ((aF _ w2).alloc (aR _) _) hz2.lt,(hb.trans (hb2.mono (by omega))).alloc (by omega) _,by simp;omega⟩
    case measure=>simp[intOf];omega
   obtain⟨d1,d2,-,-⟩:=A9 hd;have B3:=(aF _ w2).alloc (aR _) (ay #[ae af ((fQ (fB l k)).seq:Int),ae af ((fQ (fB l k)).cf:Int),ae af ((fQ (fB l k)).kind:Int),ae af ((fQ (fB l k)).tick:Int)] 97);have hrow3:=hrow2.below B3 hrow2.lt;have hz3:=hz2.below B3 hz2.lt;obtain⟨x0,x1,x2,x3⟩:=l_.new w2 (fQ (fB l k)) 97;obtain⟨c0,c1,c2,c3⟩:=hrow3.cells k (by omega);have f0:=hrow3.frozen (k*4);have f1:=hrow3.frozen (k*4+1);have f2:=hrow3.frozen (k*4+2);have f3:=hrow3.frozen (k*4+3);have hB:=(hb.trans (hb2.mono (by omega))).trans (B3.mono (by omega));have s3:=B3.size;generalize hw3:w2.alloc (ay #[ae af ((fQ (fB l k)).seq:Int),ae af ((fQ (fB l k)).cf:Int),ae af ((fQ (fB l k)).kind:Int),ae af ((fQ (fB l k)).tick:Int)] 97)=w3 at *;change U _ at hw3
   clear B3 hrow2 hz2 hrow hz hb hb2
   by_cases xl:((fQ (fB l k)).seq-1)%9=k
   ·have HN:U (jy l k=fQ _):=aU ⟨hd,xl⟩;go_wp2_with fail
    rw[hw3.o]
    apply(F6 _ _ d1 (by omega)).mono;rintro e w4 ⟨rfl,rfl⟩;rw[xl];go_wp2
    go_roundw
    case rel=>exact⟨k+1,by omega,by go_num,by rw[JR,HN.o];exact hrow3.set k _ (by omega),hz3.YZ (by omega) _ _ _ _ _,pC hB (F7 ..) (by omega) (by omega),by simp;omega⟩
    case measure=>simp[intOf];omega
   have HN:U (jy l k=.none):=aK (λh=>xl h.2);go_wp2_with fail
   rw[hw3.o]
   apply(F6 _ _ d1 (by omega)).mono;rintro e w4 ⟨rfl,rfl⟩;have anx:¬((((fQ (fB l k)).seq-1)%9:Nat):Int)=(k:Int):=by omega
   go_wp2
   go_roundw
   case rel=>exact⟨k+1,by omega,by go_num,by rw[JR,HN.o,P5 l k hlt];exact hrow3,hz3,hB,by omega⟩
   case measure=>simp[intOf];omega
  have ek:k=9:=by omega
  subst ek;go_wp2_with (first|refine pB rfl 268 _ rfl _ rfl _ _ _ _ hrow.heap underlying268 rfl (yS _ (tO _ _)) ?_|refine iQ rfl 268 _ _ rfl _ _ rfl rfl 268 _ hz.heap (yS _ (tO l 9)) (by simp[oM,tO]) (xk _) ?_)
  refine dL (P4 rfl _ _ _ _ (tO _ _) rfl ⟨setRow_heap _ _ _ _ _ _ hz.heap⟩) rfl ?_;exact⟨rfl,below_setRow hb (by omega) _⟩
def eC(w:ak)(base:Nat)(v:aw)(L:List Rec):Prop:=w.ownsRow base 97 4 v L.length (cF L)
def eC.form{L:List Rec}(h:eC w base v L):(v=aj .none 0 0/\L=[])\/∃g cap cur,v=aj (J ⟨g,0,.none⟩) L.length cap/\base<=g/\w.heap[g]?=J (ay cur 97 (0,0))/\L.length<=cap/\cap<=maxLen/\cur.size=cap*4/\cur.toList.take (L.length*4)=cF L:=by
 obtain⟨-,⟨h1,h2⟩|h⟩:=h
 ·exact aT ⟨h1,List.length_eq_zero_iff.1 h2⟩
 exact aN h
def F8{L:List Rec}(hg:w.heap[g]?=J (ay cur 97 (0,0)))(hx:cur.toList.take (L.length*4)=cF L)(anz:cur.size=cap*4)(k j:Nat)(hk:k<L.length)(hj:j<4):w.cell? ⟨g,k*4+j,.none⟩=(L[k].list)[j]?:=by
 rw[<- JP L k j hk hj,<- hx,np,aU (by omega)];simp[aH,hg]
def Y4{L:List Rec}(hg:w.heap[g]?=J (ay cur 97 (0,0)))(hx:cur.toList.take (L.length*4)=cF L)(hc:cur.size=cap*4)(k:Nat)(hk:k<L.length):(w.cell? ⟨g,k*4,.none⟩=J (ae af (L[k].seq:Int))/\w.cell? ⟨g,k*4+1,.none⟩=J (ae af (L[k].cf:Int))/\w.cell? ⟨g,k*4+2,.none⟩=J (ae af (L[k].kind:Int))/\w.cell? ⟨g,k*4+3,.none⟩=J (ae af (L[k].tick:Int))) /\
  w.frozen? ⟨g,k*4,.none⟩=false/\w.frozen? ⟨g,k*4+1,.none⟩=false/\w.frozen? ⟨g,k*4+2,.none⟩=false/\w.frozen? ⟨g,k*4+3,.none⟩=false:=by
 refine⟨⟨(F8 hg hx hc k 0 hk (ar rfl)).trans rfl,(F8 hg hx hc k 1 hk (ar rfl)).trans rfl,(F8 hg hx hc k 2 hk (ar rfl)).trans rfl,(F8 hg hx hc k 3 hk (ar rfl)).trans rfl⟩,?_,?_,?_,?_⟩<;>simp[bM,hg]
structure iV(w:ak)(g cap:Nat)(L:List Rec):Prop where
 row:∃cur,w.heap[g]?=J (ay cur 97 (0,0))/\cur.size=cap*4/\cur.toList.take (L.length*4)=cF L
def iV.lt{L:List Rec}(h:iV w g cap L):g<w.heap.size:=by obtain⟨cur,hg,-,-⟩:=h.row;exact bL hg
def iV.cells{L:List Rec}(h:iV w g cap L)(k:Nat)(hk:k<L.length):(w.cell? ⟨g,k*4,.none⟩=J (ae af (L[k].seq:Int))/\w.cell? ⟨g,k*4+1,.none⟩=J (ae af (L[k].cf:Int))/\w.cell? ⟨g,k*4+2,.none⟩=J (ae af (L[k].kind:Int))/\w.cell? ⟨g,k*4+3,.none⟩=J (ae af (L[k].tick:Int))) /\
  w.frozen? ⟨g,k*4,.none⟩=false/\w.frozen? ⟨g,k*4+1,.none⟩=false/\w.frozen? ⟨g,k*4+2,.none⟩=false/\w.frozen? ⟨g,k*4+3,.none⟩=false:=by
 obtain⟨cur,hg,hc,hx⟩:=h.row;exact Y4 hg hx hc k hk
def iV.set{L:List Rec}(h:iV w g cap L)(k:Nat)(r:Rec)(hk:k<L.length):iV ((((w.setCell ⟨g,k*4,.none⟩ (ae af (r.seq:Int))).setCell ⟨g,k*4+1,.none⟩ (ae af (r.cf:Int))).setCell ⟨g,k*4+2,.none⟩ (ae af (r.kind:Int))).setCell ⟨g,k*4+3,.none⟩ (ae af (r.tick:Int))) g cap (L.set k r):=by
 obtain⟨cur,hg,hc,hx⟩:=h.row
 refine⟨⟨(((cur.setIfInBounds (k*4) (ae af (r.seq:Int))).setIfInBounds (k*4+1) (ae af (r.cf:Int))).setIfInBounds (k*4+2) (ae af (r.kind:Int))).setIfInBounds (k*4+3) (ae af (r.tick:Int)),?_,by simp[hc],?_⟩⟩
 ·simp[bN,cL,hg]
 rw[AX,<- PZ L k r hk,<- hx];simp only[Array.toList_setIfInBounds,List.take_set]
def eC.yT{L:List Rec}(h:iV w g cap L)(hb:base<=g)(hl:L.length<=cap)(hm:cap<=maxLen):eC w base (aj (J ⟨g,0,.none⟩) L.length cap) L:=by
 obtain⟨cur,hg,hc,hx⟩:=h.row;exact⟨by rw[oM];omega,aN ⟨g,cap,cur,rfl,hb,hg,hl,hm,hc,hx⟩⟩
def eC.qd{L:List Rec}(h:eC w base v L):(v=aj .none 0 0/\L=[])\/∃g cap,v=aj (J ⟨g,0,.none⟩) L.length cap/\base<=g/\iV w g cap L/\L.length<=cap/\cap<=maxLen:=by
 rcases h.form with h|⟨g,cap,cur,h1,h2,h3,h4,h5,h6,h7⟩
 ·exact aT h
 exact aN ⟨g,cap,h1,h2,⟨cur,h3,h6,h7⟩,h4,h5⟩
def turned(L:List Rec)(i:Nat):List Rec:=(List.range L.length).map λk=>if k<i\/L.length-1-i<k then L.getD (L.length-1-k) .none else L.getD k .none
def Dj(L:List Rec)(i:Nat):(turned L i).length=L.length:=by simp[turned]
def Dk(L:List Rec)(i k:Nat)(hk:k<(turned L i).length):(turned L i)[k]=if k<i\/L.length-1-i<k then L.getD (L.length-1-k) .none else L.getD k .none:=by simp[turned]
def Y5(L:List Rec):turned L 0=L:=by
 apply List.ext_getElem (Dj L 0)
 intro k h1 h2;rw[Dk,aK (by omega),fp,bq h2];rfl
def Y6(L:List Rec)(i:Nat)(h:¬((i:Int)<(L.length:Int)-1-i)):turned L i=L.reverse:=by
 apply List.ext_getElem (by rw[Dj,AV])
 intro k h1 h2;rw[Dj]at h1;rw[Dk,List.getElem_reverse,fp,fp]
 by_cases hc:k<i\/L.length-1-i<k
 ·rw[aU hc,bq (by omega)];rfl
 rw[aK hc,bq h1];have e:L.length-1-k=k:=by omega
 simp only[e];rfl
def Y7(L:List Rec)(i j:Nat)(hj:i+j=L.length-1)(Dl:i<j)(nC:j<L.length):((turned L i).set i (L.getD j .none)).set j (L.getD i .none)=turned L (i+1):=by
 apply List.ext_getElem (by simp[turned])
 intro k h1 h2;rw[Dj]at h2;rw[List.getElem_set,Dk]
 by_cases e1:j=k
 ·subst e1;rw[aU rfl,aU (by omega),show L.length-1-j=i by omega]
 rw[aK e1,List.getElem_set]
 by_cases e2:i=k
 ·subst e2;rw[aU rfl,aU (by omega),show L.length-1-i=j by omega]
 rw[aK e2,Dk]
 by_cases hc:k<i\/L.length-1-i<k
 ·rw[aU hc,aU (by omega)]
 rw[aK hc,aK (by omega)]
def P7(L:List Rec)(i k:Nat)(hk:k<(turned L i).length)(h:¬(k<i\/L.length-1-i<k)):(turned L i)[k]=L.getD k .none:=by rw[Dk,aK h]
def iV.drew{L:List Rec}(h:iV w g cap L):iV w.drew g cap L:=⟨h.row⟩
def iV.below{L:List Rec}(h:iV w g cap L)(hb:Below B w w')(hlt:g<B):iV w' g cap L:=by
 obtain⟨cur,hg,h2,h3⟩:=h.row;exact⟨⟨cur,(hb.block g hlt).trans hg,h2,h3⟩⟩
def iV.raw{L:List Rec}(h:iV w g cap L)(j:Nat)(u:aw)(hu:(cF L)[j]?=J u):w.cell? ((⟨g,0,.none⟩:aC).add j)=J u:=by
 obtain⟨cur,hg,h2,h3⟩:=h.row;have hj:=(df.1 hu).1;rw[oM]at hj;rw[<- h3,np,aU (by omega)]at hu;have ea:(⟨g,0,.none⟩:aC).add j=⟨g,j,.none⟩:=by unfold Addr.add;split<;>simp_all
 rw[ea];simp only[aH,hg];simpa using hu
def Y8{wr:ak}(hg:w.grownBy wr (J g))(o p:Nat)(v0 v1 v2 v3 v4 v5 v6 v7:aw):w.grownBy ((((((((wr.setCell ⟨g,o,.none⟩ v0).setCell ⟨g,o+1,.none⟩ v1).setCell ⟨g,o+2,.none⟩ v2).setCell ⟨g,o+3,.none⟩ v3).setCell ⟨g,p,.none⟩ v4).setCell ⟨g,p+1,.none⟩ v5).setCell ⟨g,p+2,.none⟩ v6).setCell ⟨g,p+3,.none⟩ v7).drew (J g):=
 tM (qb hg (qb (F7 ..) (F7 ..))) ((aF _ _).drew)
def Y9(g cap:Nat)(L:List Rec)(w:ak)(h:iV w g cap L)(hl:L.length<=100):Calls prog 257 #[aj (J ⟨g,0,.none⟩) L.length cap] w λe w'=>e=ax (bn #[])/\iV w' g cap L.reverse/\w.grownBy w' (J g)/\w'.heap.size=w.heap.size:=by
 go_enter func257,ntmps257
 go_wp2_with fail
 go_loopw [2,3] (λa b wr=>∃i:Nat,i<=L.length/\a=ae af i/\b=ae af ((L.length:Int)-1-i)/\iV wr g cap (turned L i)/\w.grownBy wr (J g)/\wr.heap.size=w.heap.size) (λa _ _=>L.length+1-(intOf a).toNat)
 case atStart=>exact⟨0,bA _,rfl,by simp,by rw[Y5];exact h,fG _ _,rfl⟩
 case round=>
  obtain⟨i,hi,rfl,rfl,hrow,hg,hsz⟩:=hrel
  by_cases Dl:(i:Int)<(L.length:Int)-1-i
  ·obtain⟨j,hj⟩:∃j:Nat,(L.length:Int)-1-i=j:=⟨L.length-1-i,by omega⟩;rw[hj]at Dl⊢;have hlen:=Dj L i;have mi:=P7 L i i (by omega) (by omega);have mj:=P7 L i j (by omega) (by omega);obtain⟨⟨a0,a1,a2,a3⟩,p0,p1,p2,p3⟩:=hrow.cells i (by omega);obtain⟨⟨b0,b1,b2,b3⟩,q0,q1,q2,q3⟩:=hrow.cells j (by omega);have R:=(hrow.set i (L.getD j .none) (by omega)).set j (L.getD i .none) (by simp;omega);rw[Y7 L i j (by omega) (by omega) (by omega)]at R;change U _ at R
   rw[mi]at a0 a1 a2 a3;rw[mj]at b0 b1 b2 b3;have i0:(0:Int)<=(i:Int):=by omega
   have i1:(i:Int)<(L.length:Int):=by omega
   have j0:(0:Int)<=(j:Int):=by omega
   have j1:(j:Int)<(L.length:Int):=by omega
   have hne:¬i=j:=by omega
   generalize L.getD i .none=x at *;generalize L.getD j .none=y at *;go_wp2_with fail
   go_region
   go_wp2_with fail
   exact⟨⟨_,by omega,by go_num,by rw[show (j:Int)-1=(L.length:Int)-1-((i+1:Nat):Int) by omega],R.drew,Y8 hg _ _ _ _ _ _ _ _ _ _,by simp;exact hsz⟩,by simp[intOf];omega⟩
  have e:=Y6 L i Dl;rw[e]at hrow;go_wp2;go_end0
  exact⟨rfl,hrow,hg,hsz⟩
def JS(base:Nat)(v:aw)(L:List Rec)(w:ak)(h:eC w base v L)(hl:L.length<=100)(hb:base<=w.heap.size):Calls prog 257 #[v] w λe w'=>e=ax (bn #[])/\eC w' base v L.reverse/\Below base w w':=by
 rcases h.qd with⟨rfl,rfl⟩|⟨g,cap,rfl,hbg,hrow,hlc,hm⟩
 ·go_enter func257,ntmps257
  go_wp2_with fail
  go_loopw [2,3] (λa b wr=>a=ae af 0/\b=ae af (-1)/\wr=w) (λ_ _ _=>0)
  case atStart=>exact⟨rfl,rfl,rfl⟩
  case round=>
   obtain⟨rfl,rfl,rfl⟩:=hrel;go_wp2;go_end0
   exact⟨rfl,h,aF _ _⟩
 apply(Y9 g cap L w hrow hl).mono;rintro e w' ⟨rfl,hr,hg,-⟩;have:=eC.yT hr hbg (by simpa using hlc) hm;rw[AV]at this;exact⟨rfl,this,pC (aF _ _) hg hb hbg⟩
def yU:∃i:TypeInfo,prog.info? 97=J i/\i.zero=J (bK #[ae af 0,ae af 0,ae af 0,ae af 0])/\i.size=4/\i.bytes=32:=by
 have h:(prog.info? 97).map (λi=>(i.zero,i.size,i.bytes))=J (J (bK #[ae af 0,ae af 0,ae af 0,ae af 0]),4,32):=by kernel_rfl
 obtain⟨i,hi,he⟩:=ve.1 h;simp only[Prod.mk.injEq]at he;exact⟨i,hi,he.1,he.2.1,he.2.2⟩
def Y_(base:Nat)(v:aw)(L:List Rec)(w:ak)(h:eC w base v L)(hl:L.length<=100):Calls prog 238 #[v] w λe w'=>∃v',e=ax v'/\eC w' w.heap.size v' L/\Below w.heap.size w w':=by
 rcases h.qd with⟨rfl,rfl⟩|⟨g,cap,rfl,hbg,hrow,hlc,hm⟩
 ·go_enter func238,ntmps238
  have hq:=Lib.run_eql_slice_nil (P:=prog) w 92 97 .none 0 0 0 0 underlying92;go_wp2;go_ret;exact⟨_,rfl,gF _ _ _ _,aF _ _⟩
 go_enter func238,ntmps238
 have hq:=Lib.run_eql_slice_nil (P:=prog) w 92 97 (J ⟨g,0,.none⟩) L.length cap 0 0 underlying92;obtain⟨i0,hi,hz0,hz1,hz2⟩:=yU;have hown:=AU (base:=w.heap.size) (e:=97) (size:=4) w #[] 0 (aR _) (ar rfl) rfl;have hcs:U (∀j u,(cF L)[j]?=J u->(w.alloc (ay #[] 97)).cell? _=J u):=λj u hu=>
  (hrow.below ((aF _ w).alloc (aR _) _) hrow.lt).raw j u hu
 have JT:U _:=λu hu=>CV.1 (xk L) u (by simpa using hu)
 have nV:U ((cF L).length=L.length*4):=by show _=_;rw[oM];omega
 go_wp2_with (at_builtin;refine pz _ rfl (.tmp 5) _ 92 rfl _ 97 i0 _ 4 32 underlying92 hi hz0 hz1 hz2 rfl (ar rfl) _ _ _ rfl hown _ _ cap _ rfl nV hcs JT (by unfold maxLen;omega) (by omega) (by simp) ?_;intro v8 w8 eV cQ nA)
 go_ret;rw[yB,lD]at eV;exact⟨_,rfl,eV,((aF _ _).alloc (aR _) _).grown cQ (by simp) (λk hk=>by cases hk;exact aR _)⟩
def Y'(A:Nat->aC)(b:Nat)(s:aI)(j:Nat)(w:ak)(h:bU w b s)(hs:gZ A w)(he:s.err 0 153=j+1):Calls prog 221 #[bK #[aq (J ⟨b,0,.none⟩)]] w λe w'=>e=ax (bn #[.agg qW,errVal A (j+1)])/\Below w.heap.size w w':=by
 obtain⟨Dh,A_,vh,JQ⟩:=P3 w (ay #[aq (J ⟨b,0,.none⟩)] 267);have F9:U _:=PK A b s 0 153 j _ (h.below vh) (hs.below vh) (ar rfl) he;go_enter func221,ntmps221
 go_wp2_with fail
 refine aO F9.o ?_;rintro e w1 ⟨rfl,iF⟩;rw[<- iF]at Dh A_ vh JQ;clear iF F9;unfold errVal;go_wp2_with (first|refine pB rfl 268 _ rfl _ rfl _ _ _ _ Dh.heap underlying268 rfl (yS _ (by simp)) ?_|refine iQ rfl 268 _ _ rfl _ _ rfl rfl 268 _ A_.heap (yS _ (by simp)) rfl (xk _) ?_)
 refine dL (P4 rfl _ _ _ (List.replicate 9 .none) (by simp) rfl ⟨setRow_heap _ _ _ _ _ _ A_.heap⟩) rfl ?_;exact⟨rfl,below_setRow vh (by omega) _⟩
def Za(w:ak)(L:List Rec):gM (w.alloc (ay (cF L).toArray 268)) w.heap.size L:=⟨cj _ _⟩
def Zb(L:List Rec):∀(k:Nat) (hk:k<L.length),((cF L).drop (k*4)).take 4=L[k].list:=by
 induction L with
 |nil=>intro k hk;simp at hk
 |cons x r ih=>
  intro k hk;rw[A8]
  cases k with
  |zero=>simp[Rec.list]
  |succ k=>
   rw[List.drop_append,yI (by simp[Rec.list];omega),show (k+1)*4-x.list.length=k*4 by simp[Rec.list];omega];exact ih k (by simpa using hk)
def Zc(L:List Rec)(k:Nat)(hL:L.length=9)(hk:k<9)(W:ak):(Instr.index 268 (.agg (cF L).toArray) (ae af (k:Int))).run prog W=.ok (L[k]'(by omega)).val W:=by
 have hu:=underlying268;have hn:(0:Int)<=(k:Int)/\(k:Int)<9:=by omega
 simp[Instr.index,go_sem]
 rw[aU hk,Zb L k (by omega)];rfl
def mJ(L:List Rec):Nat:=L.foldl (λm r=>max m r.seq) 0
def P8(L:List Rec)(r:Rec):mJ (L++[r])=max (mJ L) r.seq:=by simp[mJ]
def Zd(L:List Rec):∀m,m<4294967296->(∀r∈L,r.seq<4294967296)->L.foldl (λm r=>max m r.seq) m<4294967296:=by
 induction L with
 |nil=>intro m h _;exact h
 |cons r t ih=>intro m h h2;exact ih _ (Nat.max_lt.2 ⟨h,h2 r (by simp)⟩) (λx hx=>h2 x (by simp[hx]))
def P9(L:List Rec)(h:∀r∈L,r.seq<4294967296):mJ L<4294967296:=Zd L 0 (by decide) h
def chain(L:List Rec):Nat->Nat->List Rec
 |0,_=>[]
 |m+1,n=>if 0<n/\(L.getD ((n-1)%9) .none).seq=n then L.getD ((n-1)%9) .none::chain L m (n-1)else []
def tP(L:List Rec):List Rec:=(chain L 8 (mJ L)).reverse
def F_(w:ak)(r:Rec)(ty:TypeId):∀j x,r.list[j]?=J x->(w.alloc (ay #[ae af (r.seq:Int),ae af (r.cf:Int),ae af (r.kind:Int),ae af (r.tick:Int)] ty)).cell? ((⟨w.heap.size,0,.none⟩:aC).add j)=J x:=by
 intro j x hj;obtain⟨c0,c1,c2,c3⟩:=l_.new w r ty
 match j,hj with
 |0,hj=>exact c0.trans hj
 |1,hj=>exact c1.trans hj
 |2,hj=>exact c2.trans hj
 |3,hj=>exact c3.trans hj
def P_(w:ak)(o:Obj)(r:Rec)(ty:TypeId):∀j x,r.list[j]?=J x->((w.alloc o).alloc (ay #[ae af (r.seq:Int),ae af (r.cf:Int),ae af (r.kind:Int),ae af (r.tick:Int)] ty)).cell? ((⟨w.heap.size+1,0,.none⟩:aC).add j)=J x:=by
 have:=F_ (w.alloc o) r ty;rw[tK]at this;exact this
def Ba(r:Rec):∀u∈r.list,u.oneCell'=true:=by
 intro u hu;simp only[Rec.list,fe,jL,j4]at hu
 rcases hu with rfl|rfl|rfl|rfl<;>rfl
def eC.len{L:List Rec}(h:eC w base v L):∃sa c,v=aj sa L.length c:=by
 rcases h.qd with⟨rfl,rfl⟩|⟨g,cap,rfl,-⟩
 ·exact⟨_,_,rfl⟩
 exact⟨_,_,rfl⟩
def eC.below{L:List Rec}(h:eC w base v L)(hb:Below B w w')(hB:w.heap.size<=B):eC w' base v L:=by
 rcases h.qd with⟨rfl,rfl⟩|⟨g,cap,rfl,hbg,hrow,hlc,hm⟩
 ·exact gF ..
 exact eC.yT (hrow.below hb (cK hrow.lt hB)) hbg hlc hm
def Dm(L:List Rec)(m n:Nat)(h:0<n)(h2:(L.getD ((n-1)%9) .none).seq=n):chain L (m+1) n=L.getD ((n-1)%9) .none::chain L m (n-1):=by
 show (if _ then _ else _)=_
 rw[aU ⟨h,h2⟩]
def yV(L:List Rec)(m n:Nat)(h:¬(0<n/\(L.getD ((n-1)%9) .none).seq=n)):chain L m n=[]:=by
 cases m with
 |zero=>rfl
 |succ m=>show (if _ then _ else _)=_;rw[aK h]
def Ze(L:List Rec):∀m n,(chain L m n).length<=m:=by
 intro m
 induction m with
 |zero=>intro n;exact aR _
 |succ m ih=>
  intro n;simp only[chain];split;· simp;exact ih _
  ·simp
def Zf(L:List Rec)(w:ak)(hL:L.length=9)(hlt:∀r∈L,r.seq<4294967296):Calls prog 222 #[.agg (cF L).toArray] w λe w'=>∃v,e=ax v/\eC w' (w.heap.size+1) v (tP L)/\Below w.heap.size w w':=by
 obtain⟨i0,hi,hz0,hz1,hz2⟩:=yU;have R0:=Za w L;have B0:=(aF _ w).alloc (aR _) (ay (cF L).toArray 268);have Ga:U _:=P9 L hlt;go_enter func222,ntmps222
 go_wp2_with (refine pB rfl 268 _ rfl _ rfl _ _ _ _ R0.heap underlying268 rfl (yS _ hL) ?_)
 go_loopw [3,10] (λg i wr=>∃k:Nat,k<=9/\i=ae af k/\g=ae af (mJ (L.take k):Nat)/\gM wr w.heap.size L/\Below w.heap.size w wr) (λ_ i _=>9-(intOf i).toNat)
 case atStart=>exact⟨0,bA _,rfl,rfl,R0,B0⟩
 case round=>
  obtain⟨k,hk,rfl,rfl,hrow,hb⟩:=hrel
  by_cases h9:k<9
  ·have ix:=Zc L k hL h9;unfold Rec.val at ix;have hsz:=hrow.lt;have HT:U (mJ (L.take (k+1))=max (mJ (L.take k)) (L[k]'(by omega)).seq):=by
    show _=_
    rw[CU (by omega),P8]
   go_wp2_with fail
   refine⟨⟨k+1,by omega,by go_num,?_,hrow.below ((aF _ wr).alloc (aR _) _) hrow.lt,hb.alloc (by omega) _⟩,by simp[intOf];omega⟩;rw[HT.o];congr 1
   first|omega|(split<;>omega)
  have ek:L.take k=L:=iM (by omega);rw[ek];clear ek;have HM:=Ga.o;generalize Gb:mJ L=best at *;have yX:U (tP L=(chain L 8 best).reverse):=by show _=_;unfold tP;rw[Gb]
  have Qa:=hrow.lt;clear Gb Ga;go_wp2_with fail
  go_loopw [6,7] (λv i wx=>∃(n:Nat) (acc:List Rec),n<=best/\i=ae af n/\acc.length<=8/\acc++chain L (8-acc.length) n=chain L 8 best/\eC wx (w.heap.size+1) v acc/\gM wx w.heap.size L/\Below w.heap.size w wx) (λ_ i _=>(intOf i).toNat)
  case atStart=>exact⟨_,[],aR _,rfl,by simp,rfl,gF _ _ _ _,hrow,hb⟩
  case round=>
   obtain⟨n,acc,hn,rfl,Zg,hch,hown,hrow2,hb2⟩:=hrel;obtain⟨sa,c,rfl⟩:=hown.len;have Zh:=hrow2.lt
   by_cases xm:0<n
   ·have JU:(0:Int)<(n:Int):=by omega
    by_cases Zi:acc.length<8
    ·have JV:(acc.length:Int)<8:=by omega
     have hq:(n-1)%9<9:=Nat.mod_lt _ (ar rfl);obtain⟨q,nt⟩:∃q,(n-1)%9=q:=⟨_,rfl⟩;rw[nt]at hq;have anA:(0:Int)<=(q:Int):=by omega
     have xl:(q:Int)<9:=by omega
     have hgd:L.getD q .none=L[q]'(by omega):=by rw[fp,bq (by omega)];rfl
     obtain⟨c0,c1,c2,c3⟩:=hrow2.cells q (by omega);rw[<- hgd]at c0 c1 c2 c3;clear hgd;have yY:=yV L (8-acc.length) n;have yZ:=Dm L (8-(acc.length+1)) n xm;rw[nt]at yY yZ;generalize L.getD q .none=x at *;go_wp2_with fail
     apply(F6 n _ xm (by omega)).mono;rintro e w3 ⟨rfl,rfl⟩;rw[nt]
     by_cases hseq:x.seq=n
     ·have HS:U _:=yZ hseq;have B3:=(aF _ w3).alloc (aR _) (ay #[ae af (x.seq:Int),ae af (x.cf:Int),ae af (x.kind:Int),ae af (x.tick:Int)] 97);obtain⟨x0,x1,x2,x3⟩:=l_.new w3 x 97;have hown':w3.ownsRow _ 97 4 _ _ _:=hown;clear yY yZ;subst hseq;go_wp2_with (at_builtin;refine pz _ rfl (.tmp 36) _ 92 rfl _ 97 i0 _ 4 32 underlying92 hi hz0 hz1 hz2 rfl (ar rfl) _ _ _ rfl ((hown'.alloc _).alloc _) _ 1 1 _ rfl rfl (P_ _ _ _ _) (Ba x) (by unfold maxLen;omega) (by omega) (by simp;omega) ?_;intro v8 w8 eV cQ nA)
      go_roundw
      case rel=>
       have Zj:w.heap.size+1<=((w3.alloc (ay #[ae af (x.seq:Int),ae af (x.cf:Int),ae af (x.kind:Int),ae af (x.tick:Int)] 97)).alloc (ay #[ae af (x.seq:Int),ae af (x.cf:Int),ae af (x.kind:Int),ae af (x.tick:Int)] 97)).heap.size:=by simp;omega
       have BB:=((((aF _ _).alloc (by omega) _).alloc (by simp;omega) _)).grown cQ Zj (λk hk=>(hown'.lt k hk).1)
       refine⟨x.seq-1,acc++[x],by omega,by go_num,by simp;omega,?_,?_,hrow2.below BB (by omega),hb2.trans (BB.mono (by omega))⟩
       ·rw[gh,cY,kW,<- hch,show 8-acc.length=8-(acc.length+1)+1 by omega,HS.o];rfl
       show w8.ownsRow _ _ _ _ _ _
       rw[JO,cY];exact eV
      case measure=>simp[intOf];omega
     have HS:U (chain L 8 best=acc):=by
      show _=_
      rw[<- hch,yY (λh=>hseq h.2),pk]
     have Zk:¬(x.seq:Int)=(n:Int):=by omega
     have B3:=(aF _ w3).alloc (aR _) (ay #[ae af (x.seq:Int),ae af (x.cf:Int),ae af (x.kind:Int),ae af (x.tick:Int)] 97);clear yY yZ hch hseq;go_wp2_with fail
     apply(JS _ _ acc _ (hown.below B3 (by omega)) (by omega) (by simp;omega)).mono;rintro e w5 ⟨rfl,y_,iU⟩;go_wp2
     go_ret
     refine⟨_,rfl,?_,(hb2.trans (B3.mono (by omega))).trans (iU.mono (by omega))⟩;rw[yX.o,HS.o];exact y_
    have HS:U (chain L 8 best=acc):=by
     show _=_
     rw[<- hch,show 8-acc.length=0 by omega];simp[chain]
    have JV:¬(acc.length:Int)<8:=by omega
    clear hch;go_wp2_with fail
    apply(JS _ _ acc _ hown (by omega) (by omega)).mono;rintro e w5 ⟨rfl,y_,iU⟩;go_wp2
    go_ret
    refine⟨_,rfl,?_,hb2.trans (iU.mono (by omega))⟩;rw[yX.o,HS.o];exact y_
   have HS:U (chain L 8 best=acc):=by
    show _=_
    rw[<- hch,yV L _ n (λh=>xm h.1),pk]
   have JU:¬(0:Int)<(n:Int):=by omega
   clear hch;go_wp2_with fail
   apply(JS _ _ acc _ hown (by omega) (by omega)).mono;rintro e w5 ⟨rfl,y_,iU⟩;go_wp2
   go_ret
   refine⟨_,rfl,?_,hb2.trans (iU.mono (by omega))⟩;rw[yX.o,HS.o];exact y_
structure eK(w:ak)(B rb bc:Nat)(v:aw)(L:List Rec)(sp:Bool):Prop where
 heap:w.heap[rb]?=J (ay #[aq (J ⟨bc,0,.none⟩),v,aL sp] 273 (0,0))
 recs:eC w B v L
 sep:v.ownBlock≠J rb/\v.ownBlock≠J bc
 lo:B<=rb
def eK.lt{L:List Rec}(h:eK w B rb bc v L sp):rb<w.heap.size:=bL h.heap
def eK.c0{L:List Rec}(h:eK w B rb bc v L sp):w.cell? ⟨rb,0,.none⟩=J (aq (J ⟨bc,0,.none⟩)):=by simp[aH,h.heap]
def eK.c1{L:List Rec}(h:eK w B rb bc v L sp):w.cell? ⟨rb,1,.none⟩=J v:=by simp[aH,h.heap]
def eK.c2{L:List Rec}(h:eK w B rb bc v L sp):w.cell? ⟨rb,2,.none⟩=J (aL sp):=by simp[aH,h.heap]
def eK.frozen{L:List Rec}(h:eK w B rb bc v L sp)(i:Nat):w.frozen? ⟨rb,i,.none⟩=false:=by simp[bM,h.heap]
def eK.below{L:List Rec}(h:eK w B rb bc v L sp)(hb:Below w.heap.size w w'):eK w' B rb bc v L sp:=
 ⟨(hb.block rb h.lt).trans h.heap,h.recs.below hb (aR _),h.sep,h.lo⟩
def gM.range{L:List Rec}(h:gM w b L):w.rangeAt b 0 (cF L):=λj v hv=>by
 rw[lD];simp only[aH,h.heap];simpa using hv
def eC.mono{base':Nat}{L:List Rec}(h:eC w base v L)(hb:base'<=base):eC w base' v L:=by
 rcases h.qd with⟨rfl,rfl⟩|⟨g,cap,rfl,hbg,hrow,hlc,hm⟩
 ·exact gF ..
 exact eC.yT hrow (bp hb hbg) hlc hm
def eC.lt{L:List Rec}(h:eC w base v L):∀k,v.ownBlock=J k->base<=k/\k<w.heap.size:=World.ownsRow.lt h
def gM.drew{L:List Rec}(h:gM w b L):gM w.drew b L:=⟨h.heap⟩
def iy(l:List UInt8):List Rec:=tP (ft (l.take 153) 9)
def JW(l:List UInt8):∀r∈ft l 9,r.seq<4294967296:=by
 intro r hr;simp only[ft,nS,pq]at hr;obtain⟨i,-,rfl⟩:=hr
 split
 ·unfold jy
  split
  ·rename_i h;exact(A9 h.1).2.1
  decide
 decide
def Zl(A:Nat->aC)(bc:Nat)(s:aI)(w:ak)(h:bU w bc s)(hs:gZ A w)(he:s.err 0 153=0):Calls prog 184 #[aq (J ⟨bc,0,.none⟩)] w λe w'=>∃rb v,e=ax (bn #[aq (J ⟨rb,0,.none⟩),.nilIface])/\eK w' w.heap.size rb bc v (iy s.bytes) false/\Below w.heap.size w w':=by
 have B1:=(aF _ w).alloc (aR _) (ay #[aq (J ⟨bc,0,.none⟩)] 267);have hc1:(w.alloc (ay #[aq _] 267)).cell? ⟨_,0,_⟩=J (aq (J ⟨bc,0,.none⟩)):=dr _ _ _ _ rfl;have HH:U _:=Y1 A bc s _ (h.below B1) (hs.below B1) he;have hlen:(ft (s.bytes.take 153) 9).length=9:=tO _ _;have HN:U _:=Zf (ft (s.bytes.take 153) 9);have HL:U _:=JW (s.bytes.take 153);unfold iy;generalize ft (s.bytes.take 153) 9=L at *;go_enter func184,ntmps184
 go_wp2_with fail
 refine aO HH.o ?_;rintro e w1 ⟨rfl,hb1⟩;have s1:=hb1.size;simp only[tK]at s1;have B2:=B1.trans (hb1.mono (by simp));have c1:=aJ hb1 hc1;go_upto_region 5 with(refine iQ rfl 268 _ _ rfl _ _ rfl rfl 268 _ (cj w1 _) (yS _ hlen) (by simp[oM,hlen]) (xk _) ?_)
 generalize hW:World.setRow (w1.alloc _) w1.heap.size (cF L).toArray=W;have R5:gM W w1.heap.size L:=by rw[<- hW];exact⟨setRow_heap _ _ _ _ _ _ (cj w1 _)⟩
 have B5:Below w1.heap.size w1 W:=by rw[<- hW];exact below_setRow ((aF _ _).alloc (aR _) _) (aR _) _
 have c5:=aJ B5 c1;have b5:=B2.trans (B5.mono (by omega));have s5:=B5.size;have s6:=R5.lt;have r5:=R5.range;have hu:=underlying268;have hi:(prog.info? 268).map (·.size)=J (cF L).length:=by rw[oM,hlen];kernel_rfl
 have anB:(cF L).length=36:=by rw[oM,hlen]
 have JX:=λu hu=>CV.1 (xk L) u (by simpa using hu)
 go_upto_region 7 with fail
 go_region_held3 (λw'=>w'.cell? ⟨w.heap.size,0,.none⟩=J (aq (J ⟨bc,0,.none⟩))/\w'.rangeAt w1.heap.size 0 (cF L)) (first|exact⟨c5,r5⟩|exact⟨d5,q5⟩|exact⟨e5 _,f5 _⟩) (first|(go_at_call 222;refine aO (HN.o _ hlen HL) ?_;rintro e w' ⟨v,rfl,r6,nD⟩;obtain⟨sa,c,rfl⟩:=r6.len;have d5:=aJ nD c5;have q5:=(R5.drew.below nD s6).range;have e5:=λo=>aJ ((aF _ w').alloc (aR _) o) d5;have f5:=λo=>((R5.drew.below nD s6).below ((aF _ w').alloc (aR _) o) (R5.drew.below nD s6).lt).range))
 go_wp2_with fail
 go_ret2
 have sv:W.heap.size<=w'.heap.size:=nD.size;have b6:=b5.drew.trans (nD.mono (show w.heap.size<=W.heap.size by omega))
 refine⟨_,_,rfl,⟨cj _ _,?_,?_,by omega⟩,b6.alloc (by omega) _⟩
 ·exact(r6.mono (by show _<=W.heap.size+1;omega)).below ((aF _ w').alloc (aR _) _) (aR _)
 have hlt:=r6.lt;have nE:=h.lt
 constructor
 ·intro e2;have:=(hlt _ e2).2;omega
 intro e2;have:=(hlt _ e2).1;have:W.drew.heap.size=W.heap.size:=rfl;omega
def aI.Zm{s:aI}{p:Nat}(h:s.err (p:Int) (n:Int)=0):p+n<=s.size/\s.off=false:=by
 unfold aI.err at h
 split at h
 ·cases h
 split at h
 ·cases h
 rename_i h1 h2;exact⟨by omega,by simpa using h2⟩
def aI.eD(s:aI)(p:Nat)(l:List UInt8):aI×Nat:=if s.err p l.length=0 then s.write p l else (s,s.err p l.length)
def aI.Low(s:aI)(n:Nat):Prop:=s.written+n<=1099511627776/\s.left<=9223372036854775807
def aI.Qb(s:aI)(p n:Int):s.err p n=0\/∃j,s.err p n=j+1/\j<11:=by
 unfold aI.err
 split
 ·exact aN ⟨1,rfl,by decide⟩
 split
 ·exact aN ⟨7,rfl,by decide⟩
 exact aT rfl
def JY(A:Nat->aC)(b:Nat)(s:aI)(p:Nat)(t:ByteArray)(w:ak)(h:bU w b s)(hs:gZ A w)(hb:14<=b)(hl:s.Low t.size)(hp:p<=9223372036854775807):Calls prog 309 #[aq (J ⟨b,0,.none⟩),ae af (p:Int),aA t] w λe w'=>e=ax (errVal A (s.eD p t.data.toList).2)/\bU w' b (s.eD p t.data.toList).1/\w.grownBy w' (J b):=by
 have hlen:((t.data.toList.length:Nat):Int)=(t.size:Int):=by simp
 unfold aI.eD;rw[hlen]
 rcases s.Qb p t.size with he|⟨j,he,-⟩
 ·rw[aU he];exact(Yu A b s p t w h hs hb hl.1 hl.2 he).mono λe w' ⟨h1,h2,h3,_⟩=>⟨h1,h2,h3⟩
 rw[aK (by omega),he];exact(Yv A b s p t j w h hs (by omega) he).mono λe w' ⟨h1,h2⟩=>by subst h2;exact⟨h1,h,fG _ _⟩
def xn{o:Nat}(h:w.grownBy w' (J b))(hc:w.cell? ⟨g,o,.none⟩=J v)(hne:g≠b):w'.cell? ⟨g,o,.none⟩=J v:=
 World.grownBy.cell h hc (by simpa using hne)
def aI.zeroAt(s:aI)(p:Nat):aI×Nat:=if s.err p 1=0 then (if s.bytes.getD p 0=0 then (s,0)else s.eD p [0])else (s,s.err p 1)
def Qc(w:ak)(b:Nat):(w.alloc (ay #[aq (J ⟨b,0,.none⟩)] 267)).cell? ⟨w.heap.size,0,.none⟩=J (aq (J ⟨b,0,.none⟩)):=dr _ _ _ _ rfl
def Zn(l:List UInt8)(p:Nat)(hp:p<l.length):((l.drop p).take 1)=[l.getD p 0]:=by
 rw[lX hp,fp,bq hp];rfl
def Zo(A:Nat->aC)(b:Nat)(s:aI)(p:Nat)(w:ak)(h:bU w b s)(hs:gZ A w)(hb:14<=b)(hl:s.Low 1)(hp:p<=9223372036854775807):Calls prog 308 #[bK #[aq (J ⟨b,0,.none⟩)],ae af (p:Int)] w λe w'=>e=ax (errVal A (s.zeroAt p).2)/\bU w' b (s.zeroAt p).1/\w.grownBy w' (J b):=by
 have B1:=(aF _ w).alloc (aR _) (ay #[aq (J ⟨b,0,.none⟩)] 267);have c1:=Qc w b;have h1:=h.below B1;have s1:=hs.below B1;have G1:w.grownBy _ (J b):=tM (fG _ _) B1;generalize hW:w.alloc (ay #[aq (J ⟨b,0,.none⟩)] 267)=W at *;change U _ at hW
 rcases s.Qb p 1 with he|⟨j,he,hj⟩
 ·have hz:=aI.Zm (n:=1) he;have hlen:=h.len;have hsz:=h.size;have RD:=PJ A b s p 1 W h1 s1 he;rw[Zn _ p (by omega)]at RD;change U _ at RD
  by_cases qf:s.bytes.getD p 0=0
  ·have HZ:U (s.zeroAt p=(s,0)):=by show _=_;unfold aI.zeroAt;rw[aU he,aU qf]
   rw[qf]at RD;go_enter func308,ntmps308
   go_wp2_with fail
   rw[hW.o]
   refine aO RD.o ?_;rintro e w1 ⟨rfl,rfl⟩;go_wp2;go_ret;rw[HZ.o];exact⟨rfl,h1,G1⟩
  have HZ:U (s.zeroAt p=s.eD p [0]):=by show _=_;unfold aI.zeroAt;rw[aU he,aK qf]
  have Zp:U _:=JY A b s p ⟨#[0]⟩ W h1 s1 hb hl hp;obtain⟨x,hx⟩:∃x,s.bytes.getD p 0=x:=⟨_,rfl⟩;rw[hx]at qf RD;have anC:(x==0)=false:=by rw[gX];exact qf
  go_enter func308,ntmps308
  go_wp2_with fail
  rw[hW.o]
  refine aO RD.o ?_;rintro e w1 ⟨rfl,rfl⟩;go_wp2_with fail
  refine aO Zp.o ?_;rintro e w2 ⟨rfl,yO,hg2⟩;go_wp2;go_ret;rw[HZ.o];exact⟨rfl,yO,qb G1 hg2⟩
 have F9:U _:=PK A b s p 1 j W h1 s1 (by omega) he;have HZ:U (s.zeroAt p=(s,j+1)):=by show _=_;unfold aI.zeroAt;rw[aK (by omega),he]
 go_enter func308,ntmps308
 go_wp2_with fail
 rw[hW.o]
 refine aO F9.o ?_;rintro e w1 ⟨rfl,rfl⟩;unfold errVal;go_wp2;go_ret;rw[HZ.o];exact⟨rfl,h1,G1⟩
def aI.dR(s:aI)(r:Rec):aI×Nat:=
 let at':=(r.seq-1)%9*17
 let a:=s.zeroAt (at'+16)
 if a.2=0 then
  let b:=a.1.eD at' (gH r)
  if b.2=0 then b.1.eD (at'+16) [165]else b
 else a
def aI.Qd{s:aI}(p:Nat)(l:List UInt8)(h:s.Low (l.length+n)):(s.eD p l).1.Low n:=by
 unfold aI.eD
 split
 ·unfold aI.write
  split
  ·rename_i hc
   refine⟨?_,?_⟩
   ·show (s.ck p _).written+n<=_
    rw[aI.xj];have:=h.1;have:(l.take s.left).length<=l.length:=by rw[eQ];omega
    omega
   show (s.ck p _).left<=_
   rw[aI.yN];have:=h.2
   split<;>omega
  refine⟨?_,?_⟩
  ·show (s.ck p l).written+n<=_
   rw[aI.xj];have:=h.1;omega
  show (s.ck p l).left<=_
  rw[aI.yN];have:=h.2
  split<;>omega
 exact⟨by show s.written+n<=_;have:=h.1;omega,h.2⟩
def aI.Zq{s:aI}(p:Nat)(h:s.Low (1+n)):(s.zeroAt p).1.Low n:=by
 unfold aI.zeroAt
 split
 ·split
  ·exact⟨by show s.written+n<=_;have:=h.1;omega,h.2⟩
  exact aI.Qd p [0] h
 exact⟨by show s.written+n<=_;have:=h.1;omega,h.2⟩
def Zr(r:Rec):∃E P1 P2:ByteArray,E=⟨(enc r).toArray⟩/\P1.data.toList=gH r/\P1.size=16/\P2.data.toList=[165]/\P2.size=1 /\
  (∀W,(Instr.slice 9 (aA E) Option.none (J (ae af 16)) Option.none).run prog W=.ok (aA P1) W) /\
  (∀W,(Instr.slice 9 (aA E) (J (ae af 16)) Option.none Option.none).run prog W=.ok (aA P2) W):=by
 have hs:(⟨(enc r).toArray⟩:ByteArray).size=17:=by show (enc r).toArray.size=17;rw[rV,PT]
 refine⟨_,(⟨(enc r).toArray⟩:ByteArray).extract 0 16,(⟨(enc r).toArray⟩:ByteArray).extract 16 17,rfl,?_,by simp[hs],?_,by simp[hs],λW=>?_,λW=>?_⟩
 ·rw[xh];show ((enc r).drop 0).take 16=_
  unfold enc;rw[List.drop_zero,AW,rZ,iM (Nat.le_of_eq (rZ r))];simp
 ·rw[xh];show ((enc r).drop 16).take 1=_
  unfold enc;rw[List.drop_append,rZ,yI (by rw[rZ];omega)];rfl
 ·simp[go_sem,hs]
 simp[go_sem,hs]
def Zs(w:ak)(b:Nat)(r:Rec):∃W,((w.alloc (ay #[aq (J ⟨b,0,.none⟩)] 267)).alloc (ay #[ae af (r.seq:Int),ae af (r.cf:Int),ae af (r.kind:Int),ae af (r.tick:Int)] 97))=W/\W.heap.size=w.heap.size+2/\Below w.heap.size w W/\W.cell? ⟨w.heap.size,0,.none⟩=J (aq (J ⟨b,0,.none⟩))/\l_ W (w.heap.size+1) r:=by
 refine⟨_,rfl,by simp,((aF _ _).alloc (aR _) _).alloc (by simp) _,?_,?_⟩
 ·exact aJ ((aF _ _).alloc (aR _) _) (Qc w b)
 have:=l_.new (w.alloc (ay #[aq (J ⟨b,0,.none⟩)] 267)) r 97;rw[tK]at this;exact this
def Zt(A:Nat->aC)(b:Nat)(s:aI)(r:Rec)(w:ak)(h:bU w b s)(hs:gZ A w)(hb:14<=b)(hl:s.Low 18)(h1:1<=r.seq)(h2:r.seq<4294967296):Calls prog 290 #[bK #[aq (J ⟨b,0,.none⟩)],r.val] w λe w'=>e=ax (errVal A (s.dR r).2)/\bU w' b (s.dR r).1/\w.grownBy w' (J b):=by
 obtain⟨W,hW,hsz,B1,c1,R1⟩:=Zs w b r;obtain⟨E,P1,P2,hE,JA,Zu,Zv,Zw,anD,anE⟩:=Zr r;have hat:=h.below B1;have jO:=hs.below B1;have anF:=h.lt;obtain⟨q,hq⟩:∃q,(r.seq-1)%9=q:=⟨_,rfl⟩;have xl:q<9:=by rw[<- hq];exact Nat.mod_lt _ (ar rfl)
 have PR:U (s.dR r=if (s.zeroAt (q*17+16)).2=0 then (if ((s.zeroAt (q*17+16)).1.eD (q*17) (gH r)).2=0 then ((s.zeroAt (q*17+16)).1.eD (q*17) (gH r)).1.eD (q*17+16) [165]else (s.zeroAt (q*17+16)).1.eD (q*17) (gH r))else s.zeroAt (q*17+16)):=by
  show _=_
  unfold aI.dR;rw[hq]
 have G1:w.grownBy W (J b):=tM (fG _ _) B1;change U _ at hE hW
 have EP:U ((q:Int)*17+17-1=((q*17+16:Nat):Int)):=by show _=_;omega
 have EQ:U ((q:Int)*17=((q*17:Nat):Int)):=by show _=_;omega
 have HL:U _:=hl;have jP:U _:=aI.Zq (n:=17) (q*17+16) hl;have x0:=R1.c0;have x1:=R1.c1;have x2:=R1.c2;have x3:=R1.c3;unfold Rec.val;go_enter func290,ntmps290
 go_wp2_with fail
 rw[hW.o]
 apply(F6 _ W h1 (by omega)).mono;rintro e w1 ⟨rfl,rfl⟩;rw[hq];go_wp2_with fail
 apply(PV r _).mono;rintro e w2 ⟨rfl,hb2⟩;rw[<- hE.o];have c2:=aJ hb2 c1;have yO:=hat.below hb2;have Qe:=jO.below hb2;have G2:=tM G1 hb2;have s2:=hb2.size;go_wp2_with fail
 rw[EP.o]
 apply(Zo A b s _ _ yO Qe hb ⟨by have:=HL.1;omega,HL.2⟩ (by omega)).mono;rintro e w3 ⟨rfl,Gc,hg3⟩;have c3:=xn hg3 c2 (by omega);have Gd:=Qe.grown hg3 hb;have G3:=qb G2 hg3;generalize hz:s.zeroAt (q*17+16)=z at *
 cases hz2:z.2 with
 |succ j=>
  have Zx:U (s.dR r=z):=by show _=_;rw[PR.o,aK (by omega)]
  unfold errVal;go_wp2;go_ret;rw[Zx.o,hz2];exact⟨rfl,Gc,G3⟩
 |zero=>
  have Zy:U _:=aI.Qd (n:=1) (q*17) (gH r) (s:=z.1) (by rw[rZ];exact jP);have W1:=λw' ha hs'=>JY A b z.1 (q*17) P1 w' ha hs' hb (by rw[Zu];exact⟨by have:=jP.1;omega,jP.2⟩) (by omega)
  rw[JA]at W1;change U _ at W1
  have Zz:bU w3.drew b z.1:=⟨Gc.heap,Gc.len,Gc.size⟩;have Qf:gZ A w3.drew:=⟨Gd.c1,Gd.c2,Gd.c6,Gd.c7⟩;have ZA:=tM G3 ((aF _ _).drew);unfold errVal;go_upto_region 7 with fail
  rw[EQ.o];go_region_held3 (λw'=>w'.cell? ⟨w.heap.size,0,.none⟩=J (aq (J ⟨b,0,.none⟩))) (first|exact c3|exact c4) (first|(go_at_call 309;refine aO (W1.o _ Zz Qf) ?_;rintro e w4 ⟨rfl,Ge,hg4⟩;have c4:=xn hg4 (show w3.drew.cell? _=_ from c3) (by omega)))
  have Gf:=Qf.grown hg4 hb;have G4:=qb ZA hg4;have Qg:U (s.dR r=if (z.1.eD (q*17) (gH r)).2=0 then (z.1.eD (q*17) (gH r)).1.eD (q*17+16) [165]else z.1.eD (q*17) (gH r)):=by show _=_;rw[PR.o,aU hz2]
  generalize z.1.eD (q*17) (gH r)=y at *
  cases hy:y.2 with
  |succ j=>
   have JZ:U (s.dR r=y):=by show _=_;rw[Qg.o,aK (by omega)]
   unfold errVal;go_wp2;go_ret;rw[JZ.o,hy];exact⟨rfl,Ge,G4⟩
  |zero=>
   have JZ:U (s.dR r=y.1.eD (q*17+16) [165]):=by show _=_;rw[Qg.o,aU hy]
   have W2:=λw' ha hs'=>JY A b y.1 (q*17+16) P2 w' ha hs' hb (by rw[Zw];exact Zy) (by omega)
   rw[Zv]at W2;change U _ at W2
   have ZB:bU w4.drew b y.1:=⟨Ge.heap,Ge.len,Ge.size⟩;have ZC:gZ A w4.drew:=⟨Gf.c1,Gf.c2,Gf.c6,Gf.c7⟩;have ZF:=tM G4 ((aF _ _).drew);have ZG:U ((q:Int)*17+16=((q*17+16:Nat):Int)):=by show _=_;omega
   unfold errVal;go_upto_region 10 with fail
   rw[ZG.o];go_region_held3 (λw'=>w'.cell? ⟨w.heap.size,0,.none⟩=J (aq (J ⟨b,0,.none⟩))) (first|exact c4|exact c5) (first|(go_at_call 309;refine aO (W2.o _ ZB ZC) ?_;rintro e w5 ⟨rfl,ZH,jg⟩;have c5:=xn jg (show w4.drew.cell? _=_ from c4) (by omega)))
   go_wp2;go_ret;rw[JZ.o];exact⟨rfl,ZH,qb ZF jg⟩
def setFrom(cur:Array aw):Nat->List aw->Array aw
 |_,[]=>cur
 |o,v::r=>setFrom (cur.setIfInBounds o v) (o+1) r
def Qh(vs:List aw):∀(cur:Array aw) (o:Nat),(setFrom cur o vs).size=cur.size:=by
 induction vs with
 |nil=>intro cur o;rfl
 |cons v r ih=>intro cur o;simp only[setFrom,ih];simp
def Qi(vs:List aw):∀(cur:Array aw) (o:Nat),o+vs.length<=cur.size->(setFrom cur o vs).toList=cur.toList.take o++vs++cur.toList.drop (o+vs.length):=by
 induction vs with
 |nil=>intro cur o h;simp[setFrom]
 |cons y r ih=>
  intro cur o h;simp only[lY]at h;have e:=ih (cur.setIfInBounds o y) (o+1) (by simp;omega);simp only[setFrom,e,lY];have hl:o<cur.toList.length:=by simp;omega
  have JF:(cur.setIfInBounds o y).toList=cur.toList.take o++y::cur.toList.drop (o+1):=by
   rw[Array.toList_setIfInBounds,List.set_eq_take_append_cons_drop,aU hl]
  have vg:(cur.toList.take o).length=o:=by rw[eQ];omega
  have e1:o+1-o=1:=by omega
  have e2:o+1+r.length-o=r.length+1:=by omega
  have e3:o+1+r.length=o+(r.length+1):=by omega
  have t1:(cur.toList.take o++y::cur.toList.drop (o+1)).take (o+1)=cur.toList.take o++[y]:=by
   rw[AW,vg,e1,iM (l:=cur.toList.take o) (by rw[vg];omega)];rfl
  have t0:(cur.toList.take o).drop (o+1+r.length)=[]:=yI (by rw[vg];omega);have t2:(cur.toList.take o++y::cur.toList.drop (o+1)).drop (o+1+r.length)=cur.toList.drop (o+1+r.length):=by
   rw[List.drop_append,vg,e2,t0,List.drop_succ_cons,List.drop_drop];rfl
  rw[JF,t1,t2,e3];simp
def Qj{t:TypeId}:∀(vs:List aw) (o:Nat) (w:ak) (cur:Array aw),w.heap[b]?=J (ay cur t (0,0))->(w.setCells b o vs).heap[b]?=J (ay (setFrom cur o vs) t (0,0)):=by
 intro vs
 induction vs with
 |nil=>intro o w cur h;exact h
 |cons v r ih=>
  intro o w cur h;exact ih _ _ _ (by simp only[bN,cL,h];simp)
def Qk(b:Nat):∀(vs:List aw) (o:Nat) (w:ak),w.grownBy (w.setCells b o vs) (J b):=by
 intro vs
 induction vs with
 |nil=>intro o w;exact fG _ _
 |cons v r ih=>intro o w;exact qb (dz (fG _ _) _ _) (ih _ _)
def ZI(w:ak)(g o c:Nat)(hc:∀j,j<4->(w.cell? ⟨g,o+j,.none⟩).isSome=true)(hf:∀j,j<4->w.frozen? ⟨g,o+j,.none⟩=false):(Builtin.clear_ #[92] 0 #[aj (J ⟨g,o,.none⟩) 1 c]).run prog w=.ok (bn #[]) (w.setCells g o Rec.none.list):=by
 have hv:(zeroValue 97).run prog w=.ok (bK #[ae af 0,ae af 0,ae af 0,ae af 0]) w:=by kernel_rfl
 have J0:(Builtin.zeroCells (Value.agg #[ae af 0,ae af 0,ae af 0,ae af 0]).cells 1).toList=Rec.none.list:=by kernel_rfl
 have hst:=run_storeCells_cells (P:=prog) g o Rec.none.list 0 w (by intro j hj;exact hc j hj) (by intro j hj;exact hf j hj) (Ba _);simp only[kH]at hst;simp[Builtin.clear_,J0,hst]
def ZJ(g cap:Nat)(x:Rec)(L:List Rec)(w:ak)(h:iV w g cap (x::L))(hl:L.length=7)(hc:8<=cap)(hm:cap<=maxLen):Calls prog 310 #[aj (J ⟨g,0,.none⟩) 8 cap,ae af 0,ae af 1] w λe w'=>e=ax (aj (J ⟨g,0,.none⟩) 7 cap)/\iV w' g cap L/\w.grownBy w' (J g):=by
 obtain⟨i0,hi,hz0,hz1,hz2⟩:=yU;unfold maxLen at hm;have hc1:¬cap=1:=by omega
 have hc2:¬cap=7:=by omega
 have hc3:(8:Int)<=(cap:Int):=by omega
 have s1:U ((cF L).length=7*4):=by show _=_;rw[oM,hl]
 have s2:U _:=λu hu=>CV.1 (xk L) u (by simpa using hu)
 have s3:U (∀j u,(cF L)[j]?=J u->w.drew.cell? ((⟨g,4,.none⟩:aC).add j)=J u):=λj u hu=>by
  have e:=h.raw (4+j) u (by rw[A8,jX (by simp[Rec.list])];simpa[Rec.list]using hu);have e1:(⟨g,0,.none⟩:aC).add (4+j)=(⟨g,4,.none⟩:aC).add j:=by unfold Addr.add;simp
  rw[e1]at e;exact e
 have s4:U (∀j,j<(cF L).length->(w.drew.cell? ⟨g,0+0*4+j,.none⟩).isSome=true/\w.drew.frozen? ⟨g,0+0*4+j,.none⟩=false):=λj hj=>by
  obtain⟨cur,hg,h2,-⟩:=h.row;rw[s1.o]at hj;rw[Nat.zero_mul,lD]
  refine⟨?_,by show w.frozen? _=false;simp[bM,hg]⟩;show (w.cell? _).isSome=true
  simp only[aH,hg];simp
  omega
 obtain⟨cur,hg,hcs,-⟩:=h.row;have hW1:(w.drew.setCells g 0 _).heap[g]?=J (ay (setFrom cur 0 (cF L)) 97 _):=Qj _ _ _ _ hg;have Ql:=Qh (cF L) cur 0;have u_:=ZI (w.drew.setCells g 0 (cF L)) g 28 (cap-7) (λj hj=>by simp only[aH,hW1];simp;omega) (λj hj=>by simp[bM,hW1]);have HF:U (iV ((w.drew.setCells g 0 (cF L)).setCells g 28 Rec.none.list) g cap L/\w.grownBy ((w.drew.setCells g 0 (cF L)).setCells g 28 Rec.none.list) (J g)):=by
  refine⟨⟨⟨_,Qj _ _ _ _ hW1,by rw[Qh,Ql,hcs],?_⟩⟩,qb (tM (fG _ _) ((aF _ _).drew)) (qb (Qk ..) (Qk ..))⟩;have Dn:=s1.o;rw[Qi _ _ _ (by rw[Ql,hcs];simp[Rec.list];omega),Qi _ _ _ (by rw[hcs,Dn];omega),hl,gh,AW,List.take_zero,yB];have e:((cF L++cur.toList.drop (0+(cF L).length)).take 28)=cF L:=by
   rw[AW,Dn,iM (by rw[Dn];decide)];simp
  rw[e,iM (by rw[Dn];decide),Dn];simp
 go_enter func310,ntmps310
 go_wp2_with fail
 go_region_law (refine step_append_room rfl _ _ 92 rfl 97 i0 4 underlying92 hi hz1 g 0 0 cap (by simp[Act.eval,Act.put]) _ 7 (cap-1) _ (by simp[Act.eval,Act.put]) s1 s3 s2 (by omega) s4 ?_)
 go_wp2;go_ret;exact⟨rfl,HF⟩
structure aG(S:Nat->Prop)(w w':ak):Prop where
 os:w'.os=w.os
 tape:w'.tape=w.tape
 output:w'.output=w.output
 size:w.heap.size<=w'.heap.size
 block:∀k,k<w.heap.size->¬S k->w'.heap[k]?=w.heap[k]?
def aG.refl(S:Nat->Prop)(w:ak):aG S w w:=⟨rfl,rfl,rfl,aR _,λ_ _ _=>rfl⟩
def aG.trans{b:ak}(h:aG S a b)(k:aG T b c)(hT:∀i,i<a.heap.size->T i->S i):aG S a c:=
 ⟨k.os.trans h.os,k.tape.trans h.tape,k.output.trans h.output,bp h.size k.size,λi hi hn=>(k.block i (cK hi h.size) (λht=>hn (hT i hi ht))).trans (h.block i hi hn)⟩
def aG.cG(h:w.grownBy w' (J b)):aG (λk=>k=b) w w':=
 ⟨h.os,h.tape,h.output,h.size,λk hk hn=>h.block k hk (by simpa using hn)⟩
def aG.dm(h:Below w.heap.size w w')(S:Nat->Prop):aG S w w':=⟨h.os,h.tape,h.output,h.size,λk hk _=>h.block k hk⟩
def aG.mono(h:aG S w w')(hT:∀i,i<w.heap.size->S i->T i):aG T w w':=⟨h.os,h.tape,h.output,h.size,λk hk hn=>h.block k hk (λhs=>hn (hT k hk hs))⟩
def aG.below(h:Below B a w)(k:aG S w w')(hB:B<=w.heap.size)(hS:∀i,S i->B<=i):Below B a w':=
 ⟨k.os.trans h.os,k.tape.trans h.tape,k.output.trans h.output,bp h.size k.size,λi hi=>(k.block i (by omega) (λhs=>by have:=hS i hs;omega)).trans (h.block i hi)⟩
end
end Go.Proofs.YtgjlihibabmgcaaGreatDoor
