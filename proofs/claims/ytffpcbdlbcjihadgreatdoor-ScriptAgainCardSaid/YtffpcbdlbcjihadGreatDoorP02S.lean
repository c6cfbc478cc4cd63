/-
  Several texts as one: Is, Bas, CfMem0, CfMem, CfPage, Shelf, CfWord.
-/
import Derived.Test.YtffpcbdlbcjihadGreatDoorP00S
import Derived.Test.YtffpcbdlbcjihadGreatDoorProg
import Derived.WalkKit
import Derived.LaidEql
import Derived.Stop.Asserts
import Derived.RowKitTokens
import Derived.Outline
import Derived.BigQuiet
import Derived.Deep.QuietTactic
import Derived.Deep.DeepCutAuto
import Derived.WalkSmall
import Derived.Lib.OthersKept
import Derived.Lib.AppendStr
import Derived.Lib.UnsafeStr
import Derived.Lib.Builder
import Derived.Laws.Externs
import Derived.BigRegion
import Derived.Shelf.LaysM
import Derived.Shelf.Strconv.Itoa3
import Derived.Shelf.Strings.SplitShaped
import Derived.Shelf.Strings.Prefix
import Derived.Deep.RegionHeld3
namespace Go.Proofs.YtffpcbdlbcjihadGreatDoor
open Go.RowKit Go.Extern.Stop Go.Stop Go.Extern
theorem Tryz.isComp:(Tryz.prog.info? 400).map (·.comparable)=some true:=by kernel_rfl
theorem Tryz.isSize:(Tryz.prog.info? 402).map (·.size)=some 1:=by kernel_rfl
theorem block_lt {w:World}{a:Addr}{v:Value}(h:w.cell? a=some v):a.block < w.heap.size:=by
 rcases Nat.lt_or_ge a.block w.heap.size with h' | h'
 ·exact h'
 ·simp[World.cell?,Array.getElem?_eq_none h'] at h
theorem lt_of_row {w:World}{k:Nat}{o:Obj}(h:w.heap[k]?=some o):k < w.heap.size:=by
 rcases Nat.lt_or_ge k w.heap.size with h' | h'
 ·exact h'
 ·rw[Array.getElem?_eq_none h'] at h;cases h
theorem cell_below {w w':World}{a:Addr}{v:Value}(hb:Below w.heap.size w w')(h:w.cell? a=some v):w'.cell? a=some v:=
 (hb.cell (block_lt h)).trans h
theorem row_below {w w':World}{k:Nat}{o:Obj}(hb:Below w.heap.size w w')(h:w.heap[k]?=some o):w'.heap[k]?=some o:=
 (hb.block k (lt_of_row h)).trans h
theorem below_grown {B:Nat}{a w w':World}{b:Nat}(h:Below B a w)(k:w.grownBy w' (some b))(hB:B<=w.heap.size)(hb:B<=b):Below B a w':=
 h.grown k hB (fun i hi=>by cases hi;exact hb)
theorem Below.one (w:World)(o:Obj):Below w.heap.size w (w.alloc o):=(Below.refl _ _).alloc (Nat.le_refl _) _
def SlAt {α:Type}(enc:α->List Value)(k:Nat)(w:World)(v:Value)(xs:List α):Prop:=
 ∃ sa cap,v=.slice sa xs.length cap/\xs.length<=cap/\(xs≠[]->∃ b o,sa=some ⟨b,o,none⟩/\∀ i x,xs[i]?=some x->∀ j u,(enc x)[j]?=some u->w.cell? ⟨b,o+i*k+j,none⟩=some u)
theorem SlAt.below {α:Type}{enc:α->List Value}{k:Nat}{w w':World}{v:Value}{xs:List α}(h:SlAt enc k w v xs)(hb:Below w.heap.size w w'):SlAt enc k w' v xs:=by
 obtain⟨sa,cap,h1,h0,h2⟩:=h
 refine⟨sa,cap,h1,h0,fun hne=>?_⟩;obtain⟨b,o,h3,h4⟩:=h2 hne;exact⟨b,o,h3,fun i x hx j u hu=>cell_below hb (h4 i x hx j u hu)⟩
def encI (x:Int):List Value:=[.int .i64 x]
def encS (s:ByteArray):List Value:=[.string s]
def encP (p:Int × Int):List Value:=[.int .i64 p.1,.int .i64 p.2]
def encG (g:GapD):List Value:=[.int .i64 g.fr,.int .i64 g.to,.int .i64 g.mn,.int .i64 g.mx]
def entRow (e:EntD)(pv gv ev fv lv:Value):Array Value:=#[.string e.name,.int .i64 e.tol,pv,.int .i64 e.cnt,.int .i64 e.mn,.int .i64 e.mx,gv,ev,fv,lv]
structure EntParts (w:World)(e:EntD)(pv gv ev fv lv:Value):Prop where
 hp:SlAt encS 1 w pv e.pts
 hg:SlAt encG 4 w gv e.gaps
 he:SlAt encP 2 w ev e.edges
 hf:SlAt encI 1 w fv e.first
 hl:SlAt encI 1 w lv e.last
theorem EntParts.below {w w':World}{e:EntD}{pv gv ev fv lv:Value}(h:EntParts w e pv gv ev fv lv)(hb:Below w.heap.size w w'):EntParts w' e pv gv ev fv lv:=
 ⟨h.hp.below hb,h.hg.below hb,h.he.below hb,h.hf.below hb,h.hl.below hb⟩
def EntsAt (w:World)(v:Value)(es:List EntD):Prop:=
 ∃ sa cap,v=.slice sa es.length cap/\(es≠[]->∃ b o,sa=some ⟨b,o,none⟩/\∀ i e,es[i]?=some e->∃ pv gv ev fv lv,EntParts w e pv gv ev fv lv/\∀ j u,(entRow e pv gv ev fv lv)[j]?=some u->w.cell? ⟨b,o+i*10+j,none⟩=some u)
theorem EntsAt.below {w w':World}{v:Value}{es:List EntD}(h:EntsAt w v es)(hb:Below w.heap.size w w'):EntsAt w' v es:=by
 obtain⟨sa,cap,h1,h2⟩:=h
 refine⟨sa,cap,h1,fun hne=>?_⟩;obtain⟨b,o,h3,h4⟩:=h2 hne
 refine⟨b,o,h3,fun i e he=>?_⟩;obtain⟨pv,gv,ev,fv,lv,h5,h6⟩:=h4 i e he;exact⟨pv,gv,ev,fv,lv,h5.below hb,fun j u hu=>cell_below hb (h6 j u hu)⟩
structure SmallE (e:EntD):Prop where
 hn:e.name.size<=1000000
 hp:e.pts.length<=1000000
 hs:∀ p∈e.pts,p.size<=1000000
 hg:e.gaps.length<=1000000
 he:e.edges.length<=1000000
 hf:e.first.length<=1000000
 hl:e.last.length<=1000000
structure SmallC (c:CfgD):Prop where
 hn:c.ents.length<=1000000
 he:∀ e∈c.ents,SmallE e
structure Sen6 (A:Nat->Addr)(w:World):Prop where
 c0:w.cell? ⟨1,0,none⟩=some (.iface 400 (.pointer (some (A 0))))
 c1:w.cell? ⟨0,0,none⟩=some (.iface 400 (.pointer (some (A 1))))
 c2:w.cell? ⟨2,0,none⟩=some (.iface 400 (.pointer (some (A 2))))
 c3:w.cell? ⟨3,0,none⟩=some (.iface 400 (.pointer (some (A 3))))
 c4:w.cell? ⟨4,0,none⟩=some (.iface 400 (.pointer (some (A 4))))
 c5:w.cell? ⟨5,0,none⟩=some (.iface 400 (.pointer (some (A 5))))
 row:∀ i,i < 6->∃ c t,w.heap[(A i).block]?=some (.cells c t (0,0))
 ne:∀ i j,i < 6->j < 6->i≠j->A i≠A j
theorem Sen6.below {A:Nat->Addr}{w w':World}(h:Sen6 A w)(hb:Below w.heap.size w w'):Sen6 A w':=
 ⟨cell_below hb h.c0,cell_below hb h.c1,cell_below hb h.c2,cell_below hb h.c3,cell_below hb h.c4,cell_below hb h.c5,fun i hi=>by obtain⟨c,t,e⟩:=h.row i hi;exact⟨c,t,row_below hb e⟩,h.ne⟩
theorem Sen6.alloc {A:Nat->Addr}{w:World}(h:Sen6 A w)(o:Obj):Sen6 A (w.alloc o):=h.below ((Below.refl _ _).alloc (Nat.le_refl _) _)
structure Sen5 (A:Nat->Addr)(w:World):Prop where
 c1:w.cell? ⟨0,0,none⟩=some (.iface 400 (.pointer (some (A 1))))
 c2:w.cell? ⟨2,0,none⟩=some (.iface 400 (.pointer (some (A 2))))
 c3:w.cell? ⟨3,0,none⟩=some (.iface 400 (.pointer (some (A 3))))
 c4:w.cell? ⟨4,0,none⟩=some (.iface 400 (.pointer (some (A 4))))
 c5:w.cell? ⟨5,0,none⟩=some (.iface 400 (.pointer (some (A 5))))
theorem Sen5.below {A:Nat->Addr}{w w':World}(h:Sen5 A w)(hb:Below w.heap.size w w'):Sen5 A w':=
 ⟨cell_below hb h.c1,cell_below hb h.c2,cell_below hb h.c3,cell_below hb h.c4,cell_below hb h.c5⟩
theorem Sen5.alloc {A:Nat->Addr}{w:World}(h:Sen5 A w)(o:Obj):Sen5 A (w.alloc o):=h.below ((Below.refl _ _).alloc (Nat.le_refl _) _)
theorem Sen6.five {A:Nat->Addr}{w:World}(h:Sen6 A w):Sen5 A w:=⟨h.c1,h.c2,h.c3,h.c4,h.c5⟩
def errV (A:Nat->Addr):Nat->Value
 | 0=>.nilIface
 | j+1=>.iface 400 (.pointer (some (A j)))
def ErrAt (A:Nat->Addr)(w:World)(v:Value)(f:Nat × Int):Prop:=
 f.1<=11/\((f.2=-1/\v=errV A f.1)\/(0 < f.1/\∃ b,v=.iface 137 (.pointer (some ⟨b,0,none⟩))/\w.cell? ⟨b,0,none⟩=some (.int .i64 f.2)/\w.cell? ⟨b,1,none⟩=some (errV A f.1)))
theorem ErrAt.below {A:Nat->Addr}{w w':World}{v:Value}{f:Nat × Int}(h:ErrAt A w v f)(hb:Below w.heap.size w w'):ErrAt A w' v f:=by
 obtain⟨h1,h2 | ⟨h2,b,h3,h4,h5⟩⟩:=h
 ·exact⟨h1,Or.inl h2⟩
 ·exact⟨h1,Or.inr ⟨h2,b,h3,cell_below hb h4,cell_below hb h5⟩⟩
theorem within_at (n a b:Int)(w:World):Calls Tryz.prog 141 #[.int .i64 n,.int .i64 a,.int .i64 b] w fun e w'=>e=.returned (.bool (within n a b))/\w'=w:=by
 by_cases h1:a<=n
 ·by_cases h2:n<=b
  all_goals
   go_enter Tryz.func141,Tryz.ntmps141
   go_wp2;go_ret;exact⟨by simp[within,h1,h2],rfl⟩
 ·go_enter Tryz.func141,Tryz.ntmps141
  go_wp2;go_ret;exact⟨by simp[within];omega,rfl⟩
theorem isLetter_at (b:UInt8)(w:World):Calls Tryz.prog 182 #[.int .u8 (b.toNat:Int)] w fun e w'=>e=.returned (.bool (isLetter b))/\w'=w:=by
 have hb:isLetter b=(decide ((97:Int)<=(b.toNat:Int)) && decide ((b.toNat:Int)<=122)):=by
  unfold isLetter;congr 1 <;> exact decide_eq_decide.2 (by omega)
 rw[hb];generalize (b.toNat:Int)=n
 by_cases h1:97<=n
 ·by_cases h2:n<=122
  all_goals
   go_enter Tryz.func182,Tryz.ntmps182
   go_wp2;go_ret;exact⟨by simp[h1,h2],rfl⟩
 ·go_enter Tryz.func182,Tryz.ntmps182
  go_wp2;go_ret;exact⟨by simp;omega,rfl⟩
theorem isDigit_at (b:UInt8)(w:World):Calls Tryz.prog 183 #[.int .u8 (b.toNat:Int)] w fun e w'=>e=.returned (.bool (isDig b))/\w'=w:=by
 have hb:isDig b=(decide ((48:Int)<=(b.toNat:Int)) && decide ((b.toNat:Int)<=57)):=by
  unfold isDig;congr 1 <;> exact decide_eq_decide.2 (by omega)
 rw[hb];generalize (b.toNat:Int)=n
 by_cases h1:48<=n
 ·by_cases h2:n<=57
  all_goals
   go_enter Tryz.func183,Tryz.ntmps183
   go_wp2;go_ret;exact⟨by simp[h1,h2],rfl⟩
 ·go_enter Tryz.func183,Tryz.ntmps183
  go_wp2;go_ret;exact⟨by simp;omega,rfl⟩
theorem dogNew_ok (c o:Int)(w:World)(h:(within c 0 1000 && within o 1 1000)=true):Calls Tryz.prog 105 #[.int .i64 c,.int .i64 o] w fun e w'=>e=.returned (.tuple #[.pointer (some ⟨w.heap.size,0,none⟩),.nilIface])/\Below w.heap.size w w':=by
 simp[within] at h
 have g1:¬c < 0:=by omega
 have g2:¬1000 < c:=by omega
 have g3:¬o < 1:=by omega
 have g4:¬1000 < o:=by omega
 clear h;go_enter Tryz.func105,Tryz.ntmps105
 go_wp2;go_ret2
 exact⟨rfl,(Below.refl _ _).alloc (Nat.le_refl _) _⟩
theorem dogNew_bad (A:Nat->Addr)(c o:Int)(w:World)(hs:Sen5 A w)(h:(within c 0 1000 && within o 1 1000)=false):Calls Tryz.prog 105 #[.int .i64 c,.int .i64 o] w fun e w'=>e=.returned (.tuple #[.pointer none,.iface 400 (.pointer (some (A 1)))])/\Below w.heap.size w w':=by
 have hc:=hs.c1;simp[within] at h
 by_cases g1:c < 0
 ·clear h;go_enter Tryz.func105,Tryz.ntmps105
  go_wp2_with fail
  go_quiet (fail)
  go_wp2;go_ret2
  exact⟨rfl,below_drewN (Below.refl _ _) _⟩
 by_cases g2:1000 < c
 ·clear h;go_enter Tryz.func105,Tryz.ntmps105
  go_wp2_with fail
  go_quiet (fail)
  go_wp2;go_ret2
  exact⟨rfl,below_drewN (Below.refl _ _) _⟩
 by_cases g3:o < 1
 ·clear h;go_enter Tryz.func105,Tryz.ntmps105
  go_wp2_with fail
  go_quiet (fail)
  go_wp2;go_ret2
  exact⟨rfl,below_drewN (Below.refl _ _) _⟩
 ·have g4:1000 < o:=by omega
  clear h;go_enter Tryz.func105,Tryz.ntmps105
  go_wp2_with fail
  go_quiet (fail)
  go_wp2;go_ret2
  exact⟨rfl,below_drewN (Below.refl _ _) _⟩
theorem isWindow_at (A:Nat->Addr)(c o:Int)(w:World)(hs:Sen5 A w):Calls Tryz.prog 139 #[.int .i64 c,.int .i64 o] w fun e w'=>e=.returned (.bool (within c 0 1000 && within o 1 1000))/\Below w.heap.size w w':=by
 cases h:(within c 0 1000 && within o 1 1000) with
 | true=>
  have dn:=dogNew_ok c o w h;go_enter Tryz.func139,Tryz.ntmps139
  go_wp2_with fail
  refine dn.mono ?_;rintro e w' ⟨rfl,hb⟩;go_wp2;go_ret;exact⟨rfl,hb⟩
 | false=>
  have dn:=dogNew_bad A c o w hs h;go_enter Tryz.func139,Tryz.ntmps139
  go_wp2_with fail
  refine dn.mono ?_;rintro e w' ⟨rfl,hb⟩;go_wp2;go_ret;exact⟨rfl,hb⟩
theorem Tryz.infoU8:(Tryz.prog.info? 5).map (fun i=>(i.zero,i.size,i.bytes))=some (some (.int .u8 0),1,1):=by kernel_rfl
theorem Tryz.sizeBld:(Tryz.prog.info? 89).map (·.size)=some 2:=by kernel_rfl
theorem Tryz.liesBld:liesAt Tryz.prog Tryz.prog.depth 91 (3 / Tryz.prog.cellsOf 91) 0 89 1=true:=by kernel_rfl
theorem Tryz.cellsU8:Tryz.prog.cellsOf 5=1:=by kernel_rfl
def PageAt (B pb:Nat)(pv:Value)(l:List UInt8)(w:World):Prop:=
 B<=pb/\B<=w.heap.size/\∃ p v,(p=.pointer none\/p=.pointer (some ⟨pb,0,none⟩))/\w.heap[pb]?=some (.cells #[p,v,pv] 91 (0,0))/\w.ownsRow B 5 1 v l.length (Lib.byteCells l)/\v.ownBlock≠some pb
structure PFr (B pb:Nat)(w w':World):Prop where
 bel:Below B w w'
 oth:Lib.OthersKept 5 (some pb) w w'
theorem PFr.refl (B pb:Nat)(w:World):PFr B pb w w:=⟨Below.refl _ _,Lib.OthersKept.refl _ _ _⟩
theorem PFr.trans {B pb:Nat}{a b c:World}(h:PFr B pb a b)(k:PFr B pb b c):PFr B pb a c:=⟨h.bel.trans k.bel,h.oth.trans k.oth⟩
theorem PFr.alloc {B pb:Nat}{a b:World}(h:PFr B pb a b)(hB:B<=b.heap.size)(o:Obj):PFr B pb a (b.alloc o):=⟨h.bel.alloc hB _,h.oth.alloc _⟩
theorem PFr.drew {B pb:Nat}{a b:World}(h:PFr B pb a b):PFr B pb a b.drew:=⟨h.bel.drew,h.oth.drew⟩
theorem PFr.box {B pb k:Nat}{w w':World}(h:PFr B pb w w'){c:Array Value}{t:TypeId}{fr:Nat × Nat}(hk:w.heap[k]?=some (.cells c t fr))(hne:k≠pb)(ht:t≠5):w'.heap[k]?=some (.cells c t fr):=
 h.oth k _ hk (by simpa using hne) (fun c' fz e=>by cases e;exact ht rfl)
theorem PageAt.below {B pb:Nat}{pv:Value}{l:List UInt8}{w w':World}(h:PageAt B pb pv l w)(hb:Below w.heap.size w w'):PageAt B pb pv l w':=by
 obtain⟨h1,h2,p,v,h3,h4,h5,h6⟩:=h
 refine⟨h1,Nat.le_trans h2 hb.size,p,v,h3,row_below hb h4,?_,h6⟩
 refine h5.kept (row:=none) ⟨hb.os,hb.tape,hb.output,hb.size,fun k hk _=>hb.block k hk⟩ (by by_cases h:v.ownBlock=none;exact Or.inl h;exact Or.inr h)
theorem PFr.of_below {B pb:Nat}{pv:Value}{l:List UInt8}{w w':World}(h:PageAt B pb pv l w)(hb:Below w.heap.size w w'):PFr B pb w w':=
 ⟨hb.mono h.2.1,fun k _ hk _ _=>(hb.block k (lt_of_row hk)).trans hk⟩
theorem PageAt.lt {B pb:Nat}{pv:Value}{l:List UInt8}{w:World}(h:PageAt B pb pv l w):pb < w.heap.size:=by
 obtain⟨-,-,p,v,-,h4,-⟩:=h;exact lt_of_row h4
theorem PageAt.new (w:World):PageAt w.heap.size w.heap.size (.slice none 0 0) [] (w.alloc (.cells #[.pointer none,.slice none 0 0,.slice none 0 0] 91)):=by
 refine⟨Nat.le_refl _,by simp,_,_,Or.inl rfl,?_,World.ownsRow_nil _ _ _ _,by simp[Value.ownBlock]⟩;show (w.heap.push _)[w.heap.size]?=_
 simp
theorem PageAt.setPts {B pb:Nat}{pv:Value}{l:List UInt8}{w:World}(h:PageAt B pb pv l w)(pv':Value):PageAt B pb pv' l (w.setCell ⟨pb,2,none⟩ pv')/\PFr B pb w (w.setCell ⟨pb,2,none⟩ pv'):=by
 obtain⟨h1,h2,p,v,h3,h4,h5,h6⟩:=h
 refine⟨⟨h1,by simpa[World.setCell] using h2,p,v,h3,by simp[World.setCell,Array.getElem?_modify,h4],?_,h6⟩,(Below.refl B w).setCell (p:=⟨pb,2,none⟩) h1 _,(Lib.OthersKept.refl _ _ w).setCell ⟨pb,2,none⟩ rfl _⟩;exact h5.kept (row:=some pb) ⟨rfl,rfl,rfl,by simp[World.setCell],fun k _ hk=>Below.heap_setCell _ _ _ _ (fun e=>hk (by simp[e]))⟩ (Or.inr h6)
set_option maxHeartbeats 1000000 in
set_option maxRecDepth 100000 in
theorem bld_check (B pb:Nat)(pv:Value)(l:List UInt8)(w:World)(h:PageAt B pb pv l w) :
  Calls Tryz.prog 212 #[.pointer (some ⟨pb,0,none⟩)] w fun e w'=>e=.returned (.tuple #[])/\B<=pb/\B<=w'.heap.size/\(∃ v,w'.heap[pb]?=some (.cells #[.pointer (some ⟨pb,0,none⟩),v,pv] 91 (0,0))/\w'.ownsRow B 5 1 v l.length (Lib.byteCells l)/\v.ownBlock≠some pb)/\PFr B pb w w':=by
 obtain⟨j,hj,hjs⟩:=Option.map_eq_some_iff.1 Tryz.sizeBld;obtain⟨h1,h2,p,v,h3,h4,h5,h6⟩:=h;have c0:w.cell? ⟨pb,0,none⟩=some p:=by simp[World.cell?,h4]
 rcases h3 with rfl | rfl
 ·have hsh:w.shape? pb=some (91,3):=by simp[World.shape?,h4]
  have hfz:w.frozen? ⟨pb,0,none⟩=false:=by simp[World.frozen?,h4]
  have e1:w.setCell ⟨pb,0,none⟩ (.pointer (some ⟨pb,0,none⟩))=w.setCell ⟨pb,0,none⟩ (.pointer (some ⟨pb,0,none⟩)):=rfl;have HR:Hid (B<=(w.setCell ⟨pb,0,none⟩ (.pointer (some ⟨pb,0,none⟩))).heap.size/\(∃ v,(w.setCell ⟨pb,0,none⟩ (.pointer (some ⟨pb,0,none⟩))).heap[pb]?=some (.cells #[.pointer (some ⟨pb,0,none⟩),v,pv] 91 (0,0))/\(w.setCell ⟨pb,0,none⟩ (.pointer (some ⟨pb,0,none⟩))).ownsRow B 5 1 v l.length (Lib.byteCells l)/\v.ownBlock≠some pb)/\PFr B pb w (w.setCell ⟨pb,0,none⟩ (.pointer (some ⟨pb,0,none⟩)))):=by
   refine⟨by simpa[World.setCell] using h2,⟨v,by simp[World.setCell,Array.getElem?_modify,h4],?_,h6⟩,(Below.refl B w).setCell (p:=⟨pb,0,none⟩) h1 _,(Lib.OthersKept.refl _ _ w).setCell ⟨pb,0,none⟩ rfl _⟩;exact h5.kept (row:=some pb) ⟨rfl,rfl,rfl,by simp[World.setCell],fun k _ hk=>Below.heap_setCell _ _ _ _ (fun e=>hk (by simp[e]))⟩ (Or.inr h6)
  have hu:=Lib.run_to_unsafe w (e:=91) (cells:=3) ⟨pb,0,none⟩ Tryz.underlying87 Tryz.underlying191 hj (by rw[hjs];decide) hsh (Nat.zero_lt_succ 2);have hf:=Lib.run_from_unsafe w (e:=91) (cells:=3) ⟨pb,0,none⟩ Tryz.underlying191 Tryz.underlying87 hj hsh Tryz.liesBld;have he:=run_callFunc_extern (P:=Tryz.prog) Tryz.func256 (by kernel_rfl) (by kernel_rfl) (by kernel_rfl) (e:=Extern.AbiNoEscape.same) (by kernel_rfl);have hne:=Lib.run_noEscape (P:=Tryz.prog);clear h2 h4 h5 h6 e1;go_enter Tryz.func212,Tryz.ntmps212
  go_wp2;go_end0
  exact⟨rfl,h1,HR.out.1,HR.out.2.1,HR.out.2.2⟩
 ·have hn:=Lib.run_neq_ptr_same (P:=Tryz.prog) w ⟨pb,0,none⟩ Tryz.underlying87 hj;have HR:Hid (B<=w.heap.size/\(∃ v,w.heap[pb]?=some (.cells #[.pointer (some ⟨pb,0,none⟩),v,pv] 91 (0,0))/\w.ownsRow B 5 1 v l.length (Lib.byteCells l)/\v.ownBlock≠some pb)):=⟨h2,v,h4,h5,h6⟩;clear h2 h4 h5 h6;go_enter Tryz.func212,Tryz.ntmps212
  go_wp2;go_end0
  exact⟨rfl,h1,HR.out.1,HR.out.2,PFr.refl _ _ _⟩
set_option maxHeartbeats 2000000 in
set_option maxRecDepth 100000 in
theorem bld_byte (B pb:Nat)(pv:Value)(l:List UInt8)(c:UInt8)(w:World)(h:PageAt B pb pv l w)(hl:l.length<=1000000000) :
  Calls Tryz.prog 152 #[.pointer (some ⟨pb,0,none⟩),.int .u8 (c.toNat:Int)] w fun e w'=>e=.returned .nilIface/\PageAt B pb pv (l++[c]) w'/\PFr B pb w w':=by
 obtain⟨i0,hi,hz0,hz1,hz2⟩:=info_parts Tryz.infoU8;go_enter Tryz.func152,Tryz.ntmps152
 go_wp2_with fail
 refine(bld_check B pb pv l w h).mono ?_;rintro e w1 ⟨rfl,hB,hBw,⟨v,hbk,hown,hne⟩,hfr⟩;have c0:w1.cell? ⟨pb,0,none⟩=some (.pointer (some ⟨pb,0,none⟩)):=by simp[World.cell?,hbk]
 have c1:w1.cell? ⟨pb,1,none⟩=some v:=by simp[World.cell?,hbk]
 obtain⟨ao,n0,cap0,rfl⟩:∃ ao n' cap,v=.slice ao n' cap:=by
  rcases hown.2 with ⟨hv,_⟩ | ⟨g,cap,cur,hv,_⟩
  ·exact⟨_,_,_,hv⟩
  ·exact⟨_,_,_,hv⟩
 clear h;go_wp2_with (at_builtin;refine wpList_append_own _ rfl _ _ 58 rfl B 5 i0 (.int .u8 0) 1 1 Tryz.underlying58 hi hz0 hz1 hz2 rfl (by decide) _ _ _ rfl (hown.alloc _) ⟨w1.heap.size,0,none⟩ 1 1 [.int .u8 (c.toNat:Int)] rfl rfl ?c1 ?c2 ?c3 ?c4 ?c5 ?_)
 case c1=>
  intro j u hj
  match j,hj with
  | 0,hj=>simp at hj;subst hj;simp[Addr.add]
  | j+1,hj=>simp at hj
 case c2=>intro u hu;simp at hu;subst hu;rfl
 case c3=>unfold maxLen;omega
 case c4=>omega
 case c5=>simp;omega
 intro v' w2 hown' hgrow _;have hlt:pb < w1.heap.size:=lt_of_row hbk;have hb2:w2.heap[pb]?=some (.cells #[.pointer (some ⟨pb,0,none⟩),.slice ao n0 cap0,pv] 91 (0,0)):=by
  rw[hgrow.block pb (by simp;omega) (fun e=>hne e.symm)];exact row_below ((Below.refl _ _).alloc (Nat.le_refl _) _) hbk
 have d0:w2.cell? ⟨pb,0,none⟩=some (.pointer (some ⟨pb,0,none⟩)):=by simp[World.cell?,hb2]
 have d1:w2.cell? ⟨pb,1,none⟩=some (.slice ao n0 cap0):=by simp[World.cell?,hb2]
 have f1:w2.frozen? ⟨pb,1,none⟩=false:=by simp[World.frozen?,hb2]
 obtain⟨g,cap,rfl⟩:∃ g cap,v'=.slice (some ⟨g,0,none⟩) (l.length+1) cap:=by
  rcases hown'.2 with ⟨_,h0⟩ | ⟨g,cap,cur,hv,_⟩
  ·omega
  ·exact⟨g,cap,hv⟩
 have hne2:(Value.slice (some ⟨g,0,none⟩) (l.length+1) cap).ownBlock≠some pb:=Lib.ownBlock_ne hown' hb2 (by decide);have HR:Hid (PageAt B pb pv (l++[c]) (w2.setCell ⟨pb,1,none⟩ (.slice (some ⟨g,0,none⟩) (l.length+1) cap))/\PFr B pb w (w2.setCell ⟨pb,1,none⟩ (.slice (some ⟨g,0,none⟩) (l.length+1) cap))):=by
  have hs2:=hgrow.size;simp at hs2
  refine⟨⟨hB,by simp[World.setCell];omega,_,_,Or.inr rfl,by simp[World.setCell,Array.getElem?_modify,hb2],?_,hne2⟩,?_,?_⟩
  ·have hown2:w2.ownsRow B 5 1 (.slice (some ⟨g,0,none⟩) (l.length+1) cap) (l.length+1) (Lib.byteCells l++[.int .u8 (c.toNat:Int)]):=by simpa using hown'
   have:=hown2.kept (row:=some pb) (w':=w2.setCell ⟨pb,1,none⟩ (.slice (some ⟨g,0,none⟩) (l.length+1) cap)) ⟨rfl,rfl,rfl,by simp[World.setCell],fun k _ hk=>Below.heap_setCell _ _ _ _ (fun e=>hk (by simp[e]))⟩ (Or.inr hne2);rw[Lib.byteCells_append,List.length_append];exact this
  ·exact((hfr.bel.alloc hBw _).grown hgrow (by simp;omega) (fun k hk=>(hown.lt k hk).1)).setCell (p:=⟨pb,1,none⟩) hB _
  ·refine((hfr.oth.alloc _).grown hgrow (fun g' hg'=>?_)).setCell ⟨pb,1,none⟩ rfl _
   rcases hown.2 with ⟨hv,_⟩ | ⟨g2,cap2,cur,hv,_,hg2,_⟩
   ·rw[hv] at hg';simp[Value.ownBlock] at hg'
   ·rw[hv] at hg';simp[Value.ownBlock] at hg'
    subst hg';exact⟨cur,_,row_below ((Below.refl _ _).alloc (Nat.le_refl _) _) hg2⟩
 clear hown hown' hgrow hfr hbk hb2 hne hne2 c0 c1;go_wp2;go_ret;exact⟨rfl,HR.out.1,HR.out.2⟩
set_option maxHeartbeats 2000000 in
set_option maxRecDepth 100000 in
theorem bld_str (B pb:Nat)(pv:Value)(l:List UInt8)(s:ByteArray)(w:World)(h:PageAt B pb pv l w)(hl:l.length+s.size<=1000000000) :
  Calls Tryz.prog 177 #[.pointer (some ⟨pb,0,none⟩),.string s] w fun e w'=>e=.returned (.tuple #[.int .i64 (s.size:Int),.nilIface])/\PageAt B pb pv (l++s.data.toList) w'/\PFr B pb w w':=by
 obtain⟨i0,hi,hz0,hz1,hz2⟩:=info_parts Tryz.infoU8;go_enter Tryz.func177,Tryz.ntmps177
 go_wp2_with fail
 refine(bld_check B pb pv l w h).mono ?_;rintro e w1 ⟨rfl,hB,hBw,⟨v,hbk,hown,hne⟩,hfr⟩;have c0:w1.cell? ⟨pb,0,none⟩=some (.pointer (some ⟨pb,0,none⟩)):=by simp[World.cell?,hbk]
 have c1:w1.cell? ⟨pb,1,none⟩=some v:=by simp[World.cell?,hbk]
 obtain⟨ao,n0,cap0,rfl⟩:∃ ao n' cap,v=.slice ao n' cap:=by
  rcases hown.2 with ⟨hv,_⟩ | ⟨g,cap,cur,hv,_⟩
  ·exact⟨_,_,_,hv⟩
  ·exact⟨_,_,_,hv⟩
 clear h;go_wp2_with (at_builtin;refine Lib.wpList_append_own_string _ rfl _ _ 58 9 rfl B 5 i0 Tryz.underlying58 Tryz.underlying9 hi hz0 hz1 hz2 _ _ _ rfl hown s rfl ?c3 ?c4 ?c5 ?_)
 case c3=>unfold maxLen;omega
 case c4=>omega
 case c5=>omega
 intro v' w2 hown' hgrow _;have hlt:pb < w1.heap.size:=lt_of_row hbk;have hb2:w2.heap[pb]?=some (.cells #[.pointer (some ⟨pb,0,none⟩),.slice ao n0 cap0,pv] 91 (0,0)):=by
  rw[hgrow.block pb hlt (fun e=>hne e.symm)];exact hbk
 have d0:w2.cell? ⟨pb,0,none⟩=some (.pointer (some ⟨pb,0,none⟩)):=by simp[World.cell?,hb2]
 have d1:w2.cell? ⟨pb,1,none⟩=some (.slice ao n0 cap0):=by simp[World.cell?,hb2]
 have f1:w2.frozen? ⟨pb,1,none⟩=false:=by simp[World.frozen?,hb2]
 obtain⟨a',n',cap,rfl⟩:∃ a' n' cap,v'=.slice a' n' cap:=by
  rcases hown'.2 with ⟨hv,_⟩ | ⟨g,cap,cur,hv,_⟩
  ·exact⟨_,_,_,hv⟩
  ·exact⟨_,_,_,hv⟩
 have hne2:(Value.slice a' n' cap).ownBlock≠some pb:=Lib.ownBlock_ne hown' hb2 (by decide);have HR:Hid (PageAt B pb pv (l++s.data.toList) (w2.setCell ⟨pb,1,none⟩ (.slice a' n' cap))/\PFr B pb w (w2.setCell ⟨pb,1,none⟩ (.slice a' n' cap))):=by
  have hs2:=hgrow.size
  refine⟨⟨hB,by simp[World.setCell];omega,_,_,Or.inr rfl,by simp[World.setCell,Array.getElem?_modify,hb2],?_,hne2⟩,?_,?_⟩
  ·have hown2:w2.ownsRow B 5 1 (.slice a' n' cap) (l.length+s.size) (Lib.byteCells l++Lib.strCells s):=hown';have:=hown2.kept (row:=some pb) (w':=w2.setCell ⟨pb,1,none⟩ (.slice a' n' cap)) ⟨rfl,rfl,rfl,by simp[World.setCell],fun k _ hk=>Below.heap_setCell _ _ _ _ (fun e=>hk (by simp[e]))⟩ (Or.inr hne2);rw[Lib.byteCells_append,List.length_append,Array.length_toList];exact this
  ·exact(hfr.bel.grown hgrow (by omega) (fun k hk=>(hown.lt k hk).1)).setCell (p:=⟨pb,1,none⟩) hB _
  ·refine(hfr.oth.grown hgrow (fun g' hg'=>?_)).setCell ⟨pb,1,none⟩ rfl _
   rcases hown.2 with ⟨hv,_⟩ | ⟨g2,cap2,cur,hv,_,hg2,_⟩
   ·rw[hv] at hg';simp[Value.ownBlock] at hg'
   ·rw[hv] at hg';simp[Value.ownBlock] at hg'
    subst hg';exact⟨cur,_,hg2⟩
 clear hown hown' hgrow hfr hbk hb2 hne hne2 c0 c1;go_wp2;go_ret2
 exact⟨rfl,HR.out.1,HR.out.2⟩
set_option maxHeartbeats 2000000 in
set_option maxRecDepth 100000 in
theorem bld_string (B pb:Nat)(pv:Value)(l:List UInt8)(w:World)(h:PageAt B pb pv l w)(h0:l≠[]) :
  Calls Tryz.prog 34 #[.pointer (some ⟨pb,0,none⟩)] w fun e w'=>e=.returned (.string ⟨l.toArray⟩)/\Below B w w':=by
 obtain⟨hB,hBw,p,v,-,hbk,hown,hne⟩:=h;have hl0:l.length≠0:=by simpa using h0
 obtain⟨g,cap,cur,rfl,hbg,hg,hnc,hcm,hcs,htake⟩:∃ g cap cur,v=.slice (some ⟨g,0,none⟩) l.length cap/\B<=g/\w.heap[g]?=some (.cells cur 5 (0,0))/\l.length<=cap/\cap<=maxLen/\cur.size=cap*1/\cur.toList.take (l.length*1)=Lib.byteCells l:=by
  rcases hown.2 with ⟨_,hz⟩ | ⟨g,cap,cur,hv,r⟩
  ·exact absurd hz hl0
  ·exact⟨g,cap,cur,hv,r⟩
 have c1:w.drew.cell? ⟨pb,1,none⟩=some (.slice (some ⟨g,0,none⟩) l.length cap):=by
  have h2:w.drew.heap[pb]?=_:=hbk;simp[World.cell?,h2]
 have hSD:(Builtin.unsafeSliceData_ #[58] 156 #[.slice (some ⟨g,0,none⟩) l.length cap]).run Tryz.prog w.drew=.ok (.pointer (some ⟨g,0,none⟩)) w.drew:=
  Lib.run_unsafeSliceData_row _ _ _ _ _ _ (by omega)
 have hUS:(Builtin.unsafeString_ #[156,3] 9 #[.pointer (some ⟨g,0,none⟩),.int .i64 l.length]).run Tryz.prog w.drew=.ok (.string ⟨l.toArray⟩) (w.drew.freeze ⟨g,0,none⟩ l.length):=by
  refine Lib.run_unsafeString_row w.drew 156 3 9 5 Tryz.underlying156 Tryz.cellsU8 g cur.size (by have hg':w.drew.heap[g]?=some (.cells cur 5 (0,0)):=hg;simp[World.shape?,hg']) l h0 (by omega) (by unfold maxLen at hcm;omega) ?_;intro j x hx;exact hown.cells (g:=g) rfl j (.int .u8 x.toNat) (by simp[Lib.byteCells,hx])
 have HF:Hid (Below B w (w.drew.freeze ⟨g,0,none⟩ l.length)):=Lib.below_freeze (Below.drew (Below.refl B w)) (p:=⟨g,0,none⟩) hbg _;clear hown hbk hg htake hcs hcm hnc hne;go_enter Tryz.func34,Tryz.ntmps34
 go_wp2;go_region
 all_goals (go_wp2;go_ret;exact⟨rfl,HF.out⟩)
end Go.Proofs.YtffpcbdlbcjihadGreatDoor
namespace Go.Proofs
open Go.Shelf
def Tryz.laysM171_ren:Go.Shelf.Ren:=⟨fun | 171=>63 | 243=>115 | 246=>173 | 283=>241 | 284=>242 | 285=>243 | 286=>244 | 129=>282 | 317=>281 | 318=>283 | 319=>284 | 320=>285 | 337=>312 | 338=>313 | n=>n,fun | 3=>3 | 9=>9 | 2=>2 | 4=>4 | 171=>314 | 0=>0 | 53=>315 | 37=>58 | 5=>5 | 173=>318 | 212=>354 | 51=>355 | 20=>20 | 213=>356 | 46=>357 | 232=>392 | 233=>393 | n=>n,fun | 17=>13 | 18=>17 | 19=>18 | n=>n⟩
theorem Tryz.laysM171:Go.Proofs.LaysM.n171 Tryz.prog Tryz.laysM171_ren:={
 mixed:=by kernel_rfl
 f129:=Tryz.func282.trans (congrArg some (by kernel_rfl))
 f171:=Tryz.func63.trans (congrArg some (by kernel_rfl))
 f243:=Tryz.func115.trans (congrArg some (by kernel_rfl))
 f246:=Tryz.func173.trans (congrArg some (by kernel_rfl))
 f283:=Tryz.func241.trans (congrArg some (by kernel_rfl))
 f284:=Tryz.func242.trans (congrArg some (by kernel_rfl))
 f285:=Tryz.func243.trans (congrArg some (by kernel_rfl))
 f286:=Tryz.func244.trans (congrArg some (by kernel_rfl))
 f317:=Tryz.func281.trans (congrArg some (by kernel_rfl))
 f318:=Tryz.func283.trans (congrArg some (by kernel_rfl))
 f319:=Tryz.func284.trans (congrArg some (by kernel_rfl))
 f320:=Tryz.func285.trans (congrArg some (by kernel_rfl))
 f337:=Tryz.func312.trans (congrArg some (by kernel_rfl))
 f338:=Tryz.func313.trans (congrArg some (by kernel_rfl))
 t0:=Tryz.underlying0
 a0:=Tryz.isAgg0
 z0:=Tryz.sizeOf0
 v0:=Tryz.zeroValue0
 t2:=Tryz.underlying2
 a2:=Tryz.isAgg2
 z2:=Tryz.sizeOf2
 v2:=Tryz.zeroValue2
 t3:=Tryz.underlying3
 a3:=Tryz.isAgg3
 z3:=Tryz.sizeOf3
 v3:=Tryz.zeroValue3
 t4:=Tryz.underlying4
 a4:=Tryz.isAgg4
 z4:=Tryz.sizeOf4
 v4:=Tryz.zeroValue4
 t5:=Tryz.underlying5
 a5:=Tryz.isAgg5
 z5:=Tryz.sizeOf5
 v5:=Tryz.zeroValue5
 t9:=Tryz.underlying9
 a9:=Tryz.isAgg9
 z9:=Tryz.sizeOf9
 v9:=Tryz.zeroValue9
 t20:=Tryz.underlying20
 a20:=Tryz.isAgg20
 z20:=Tryz.sizeOf20
 v20:=Tryz.zeroValue20
 t37:=Tryz.underlying58
 a37:=Tryz.isAgg58
 z37:=Tryz.sizeOf58
 v37:=Tryz.zeroValue58
 t46:=Tryz.underlying357
 a46:=Tryz.isAgg357
 z46:=Tryz.sizeOf357
 v46:=Tryz.zeroValue357
 t51:=Tryz.underlying355
 a51:=Tryz.isAgg355
 z51:=Tryz.sizeOf355
 v51:=Tryz.zeroValue355
 t53:=Tryz.underlying315
 a53:=Tryz.isAgg315
 z53:=Tryz.sizeOf315
 v53:=Tryz.zeroValue315
 t171:=Tryz.underlying314
 a171:=Tryz.isAgg314
 z171:=Tryz.sizeOf314
 v171:=Tryz.zeroValue314
 t173:=Tryz.underlying318
 a173:=Tryz.isAgg318
 z173:=Tryz.sizeOf318
 v173:=Tryz.zeroValue318
 t212:=Tryz.underlying354
 a212:=Tryz.isAgg354
 z212:=Tryz.sizeOf354
 v212:=Tryz.zeroValue354
 t213:=Tryz.underlying356
 a213:=Tryz.isAgg356
 z213:=Tryz.sizeOf356
 t232:=Tryz.underlying392
 a232:=Tryz.isAgg392
 z232:=Tryz.sizeOf392
 v232:=Tryz.zeroValue392
 t233:=Tryz.underlying393
 a233:=Tryz.isAgg393
 z233:=Tryz.sizeOf393
 v233:=Tryz.zeroValue393
 g17:=by kernel_rfl
 g18:=by kernel_rfl
 g19:=by kernel_rfl
 i0:=by kernel_rfl
 i2:=by kernel_rfl
 i3:=by kernel_rfl
 i4:=by kernel_rfl
 i5:=by kernel_rfl
 i9:=by kernel_rfl
 i20:=by kernel_rfl
 i37:=by kernel_rfl
 i46:=by kernel_rfl
 i51:=by kernel_rfl
 i53:=by kernel_rfl
 i171:=by kernel_rfl
 i173:=by kernel_rfl
 i212:=by kernel_rfl
 i232:=by kernel_rfl
 i233:=by kernel_rfl
 m17:=by kernel_rfl
 m18:=by kernel_rfl
 m19:=by kernel_rfl }
open Go.RowKit Go.Sort Go.Lib in
theorem Tryz.strconv_Itoa (n : Int) (h0 : -9223372036854775808 ≤ n) (h1 : n ≤ 9223372036854775807) (w : World) (htab : Lib.TabIs Tryz.prog w "internal/strconv.uint64pow10" .u64 Lib.pow10Tab) :
  Calls Tryz.prog 63 #[.int .i64 n] w fun e w'=>e=.returned (.string ⟨(Lib.itoa n).toArray⟩)/\∃ k os,w'=grow (w.drewN k) os:=Any.strconv_Itoa Tryz.laysM171 n h0 h1 w htab
def Tryz.lays102_ren:Go.Shelf.Ren:=⟨fun | 102=>104 | 209=>164 | 207=>223 | n=>n,fun | 9=>9 | 4=>4 | 3=>3 | n=>n,fun | n=>n⟩
theorem Tryz.lays102:Go.Proofs.Lays.n102 Tryz.prog Tryz.lays102_ren:={
 mixed:=by kernel_rfl
 f102:=Tryz.func104.trans (congrArg some (by kernel_rfl))
 f207:=Tryz.func223.trans (congrArg some (by kernel_rfl))
 f209:=Tryz.func164.trans (congrArg some (by kernel_rfl))
 t3:=Tryz.underlying3
 a3:=Tryz.isAgg3
 z3:=Tryz.sizeOf3
 v3:=Tryz.zeroValue3
 t4:=Tryz.underlying4
 a4:=Tryz.isAgg4
 z4:=Tryz.sizeOf4
 v4:=Tryz.zeroValue4
 t9:=Tryz.underlying9
 a9:=Tryz.isAgg9
 z9:=Tryz.sizeOf9
 v9:=Tryz.zeroValue9 }
open Go.RowKit Go.Lib in
theorem Tryz.strings_TrimSuffix (s p:ByteArray)(w:World)(hs:s.size<=9223372036854775807) :
  Calls Tryz.prog 104 #[.string s,.string p] w fun e w'=>e=.returned (.string ⟨(Lib.trimSuffix s.data.toList p.data.toList).toArray⟩)/\w'=w:=Any.strings_TrimSuffix Tryz.lays102 s p w hs
def Tryz.laysM146_ren:Go.Shelf.Ren:=⟨fun | 146=>103 | 221=>163 | 268=>220 | 138=>221 | 143=>222 | 195=>265 | 197=>247 | 218=>266 | 219=>267 | 260=>287 | 217=>298 | 225=>299 | 224=>300 | 267=>301 | 266=>321 | 314=>322 | n=>n,fun | 9=>9 | 31=>22 | 3=>3 | 4=>4 | 0=>0 | 105=>321 | 21=>21 | 5=>5 | 46=>357 | 119=>374 | 139=>377 | 138=>376 | 146=>385 | 51=>355 | n=>n,fun | 1=>14 | 3=>15 | 4=>16 | n=>n⟩
theorem Tryz.laysM146:Go.Proofs.LaysM.n146 Tryz.prog Tryz.laysM146_ren:={
 mixed:=by kernel_rfl
 f138:=Tryz.func221.trans (congrArg some (by kernel_rfl))
 f143:=Tryz.func222.trans (congrArg some (by kernel_rfl))
 f146:=Tryz.func103.trans (congrArg some (by kernel_rfl))
 f195:=Tryz.func265.trans (congrArg some (by kernel_rfl))
 f197:=Tryz.func247.trans (congrArg some (by kernel_rfl))
 f217:=Tryz.func298.trans (congrArg some (by kernel_rfl))
 f218:=Tryz.func266.trans (congrArg some (by kernel_rfl))
 f219:=Tryz.func267.trans (congrArg some (by kernel_rfl))
 f221:=Tryz.func163.trans (congrArg some (by kernel_rfl))
 f224:=Tryz.func300.trans (congrArg some (by kernel_rfl))
 f225:=Tryz.func299.trans (congrArg some (by kernel_rfl))
 f260:=Tryz.func287.trans (congrArg some (by kernel_rfl))
 f266:=Tryz.func321.trans (congrArg some (by kernel_rfl))
 f267:=Tryz.func301.trans (congrArg some (by kernel_rfl))
 f268:=Tryz.func220.trans (congrArg some (by kernel_rfl))
 f314:=Tryz.func322.trans (congrArg some (by kernel_rfl))
 t0:=Tryz.underlying0
 a0:=Tryz.isAgg0
 z0:=Tryz.sizeOf0
 v0:=Tryz.zeroValue0
 t3:=Tryz.underlying3
 a3:=Tryz.isAgg3
 z3:=Tryz.sizeOf3
 v3:=Tryz.zeroValue3
 t4:=Tryz.underlying4
 a4:=Tryz.isAgg4
 z4:=Tryz.sizeOf4
 v4:=Tryz.zeroValue4
 t5:=Tryz.underlying5
 a5:=Tryz.isAgg5
 z5:=Tryz.sizeOf5
 v5:=Tryz.zeroValue5
 t9:=Tryz.underlying9
 a9:=Tryz.isAgg9
 z9:=Tryz.sizeOf9
 v9:=Tryz.zeroValue9
 t21:=Tryz.underlying21
 a21:=Tryz.isAgg21
 z21:=Tryz.sizeOf21
 v21:=Tryz.zeroValue21
 t31:=Tryz.underlying22
 a31:=Tryz.isAgg22
 z31:=Tryz.sizeOf22
 v31:=Tryz.zeroValue22
 t46:=Tryz.underlying357
 a46:=Tryz.isAgg357
 z46:=Tryz.sizeOf357
 v46:=Tryz.zeroValue357
 t51:=Tryz.underlying355
 a51:=Tryz.isAgg355
 z51:=Tryz.sizeOf355
 v51:=Tryz.zeroValue355
 t105:=Tryz.underlying321
 a105:=Tryz.isAgg321
 z105:=Tryz.sizeOf321
 v105:=Tryz.zeroValue321
 t119:=Tryz.underlying374
 a119:=Tryz.isAgg374
 z119:=Tryz.sizeOf374
 t138:=Tryz.underlying376
 a138:=Tryz.isAgg376
 z138:=Tryz.sizeOf376
 v138:=Tryz.zeroValue376
 t139:=Tryz.underlying377
 a139:=Tryz.isAgg377
 z139:=Tryz.sizeOf377
 v139:=Tryz.zeroValue377
 t146:=Tryz.underlying385
 a146:=Tryz.isAgg385
 z146:=Tryz.sizeOf385
 v146:=Tryz.zeroValue385
 g1:=by kernel_rfl
 g3:=by kernel_rfl
 g4:=by kernel_rfl
 i0:=by kernel_rfl
 i3:=by kernel_rfl
 i4:=by kernel_rfl
 i5:=by kernel_rfl
 i9:=by kernel_rfl
 i21:=by kernel_rfl
 i31:=by kernel_rfl
 i46:=by kernel_rfl
 i51:=by kernel_rfl
 i105:=by kernel_rfl
 i138:=by kernel_rfl
 i139:=by kernel_rfl
 i146:=by kernel_rfl
 m1:=by kernel_rfl
 s1_3:=fun w h=>Go.Proofs.cell_of_shapedOpen_int (zero:=#[.int .i64 0]) (t:=3) h (of_decide_eq_true (by kernel_rfl)) (by kernel_rfl) rfl (by kernel_rfl) (by kernel_rfl) Tryz.underlying3
 m3:=by kernel_rfl
 m4:=by kernel_rfl }
end Go.Proofs
namespace Go.Proofs.YtffpcbdlbcjihadGreatDoor
open Go.RowKit Go.Extern.Stop Go.Stop Go.Extern
theorem Tryz.assertKK (x:Value)(w:World):(Instr.typeAssert (.iface 154 x) 20 154 true).run Tryz.prog w=.ok (.tuple #[x,.bool true]) w:=by kernel_rfl
theorem Tryz.assertSK (x:Value)(w:World):(Instr.typeAssert (.iface 9 x) 20 154 true).run Tryz.prog w=.ok (.tuple #[.int .i64 0,.bool false]) w:=by kernel_rfl
theorem Tryz.assertSS (x:Value)(w:World):(Instr.typeAssert (.iface 9 x) 20 9 true).run Tryz.prog w=.ok (.tuple #[x,.bool true]) w:=by kernel_rfl
theorem Tryz.assertIK (x:Value)(w:World):(Instr.typeAssert (.iface 3 x) 20 154 true).run Tryz.prog w=.ok (.tuple #[.int .i64 0,.bool false]) w:=by kernel_rfl
theorem Tryz.assertIS (x:Value)(w:World):(Instr.typeAssert (.iface 3 x) 20 9 true).run Tryz.prog w=.ok (.tuple #[.string ⟨#[]⟩,.bool false]) w:=by kernel_rfl
theorem Tryz.assertII (x:Value)(w:World):(Instr.typeAssert (.iface 3 x) 20 3 true).run Tryz.prog w=.ok (.tuple #[x,.bool true]) w:=by kernel_rfl
theorem Tryz.assertPK (x:Value)(w:World):(Instr.typeAssert (.iface 223 x) 20 154 true).run Tryz.prog w=.ok (.tuple #[.int .i64 0,.bool false]) w:=by kernel_rfl
theorem Tryz.assertPS (x:Value)(w:World):(Instr.typeAssert (.iface 223 x) 20 9 true).run Tryz.prog w=.ok (.tuple #[.string ⟨#[]⟩,.bool false]) w:=by kernel_rfl
theorem Tryz.assertPI (x:Value)(w:World):(Instr.typeAssert (.iface 223 x) 20 3 true).run Tryz.prog w=.ok (.tuple #[.int .i64 0,.bool false]) w:=by kernel_rfl
theorem Tryz.assertPP (x:Value)(w:World):(Instr.typeAssert (.iface 223 x) 20 223 true).run Tryz.prog w=.ok (.tuple #[x,.bool true]) w:=by kernel_rfl
def KwAt (w:World):Prop:=∀ i,i < 10->w.cell? ⟨12,i,none⟩=some (.string ⟨(kw i).toArray⟩)
theorem KwAt.below {w w':World}(h:KwAt w){B:Nat}(hb:Below B w w')(hB:12 < B):KwAt w':=fun i hi=>(hb.cell (p:=⟨12,i,none⟩) hB).trans (h i hi)
theorem PageAt.drew {B pb:Nat}{pv:Value}{l:List UInt8}{w:World}(h:PageAt B pb pv l w):PageAt B pb pv l w.drew:=h
set_option maxHeartbeats 1000000 in
set_option maxRecDepth 100000 in
theorem word_str (B pb:Nat)(pv:Value)(l:List UInt8)(s:ByteArray)(w:World)(h:PageAt B pb pv l w)(hl:l.length+s.size<=1000000000) :
  Calls Tryz.prog 153 #[.pointer (some ⟨pb,0,none⟩),.iface 9 (.string s)] w fun e w'=>e=.returned (.tuple #[])/\PageAt B pb pv (l++s.data.toList) w'/\PFr B pb w w':=by
 have H:Hid _:=bld_str B pb pv l s w h hl;clear h hl;have t1:=Tryz.assertSK;have t2:=Tryz.assertSS;go_enter Tryz.func153,Tryz.ntmps153
 go_wp2_with fail
 refine Calls.mono H.out ?_;rintro e w' ⟨rfl,h1,h2⟩;go_wp2;go_end0
 exact⟨rfl,h1,h2⟩
set_option maxHeartbeats 1000000 in
set_option maxRecDepth 100000 in
theorem word_kind (B pb:Nat)(pv:Value)(l:List UInt8)(k:Nat)(w:World)(h:PageAt B pb pv l w)(hl:l.length<=900000000)(hk:k < 10)(hK:KwAt w)(hG:(max 12 13+1)<=B) :
  Calls Tryz.prog 153 #[.pointer (some ⟨pb,0,none⟩),.iface 154 (.int .i64 (k:Int))] w fun e w'=>e=.returned (.tuple #[])/\PageAt B pb pv (l++kw k) w'/\PFr B pb w w':=by
 have hkl:(kw k).length<=6:=by
  have:∀ k,k < 10->(kw k).length<=6:=by decide
  exact this k hk
 have H0:=bld_str B pb pv l ⟨(kw k).toArray⟩ w.drew h.drew (by show l.length+(kw k).toArray.size<=_;simp;omega);have H:Hid _:=H0;have c0:=hK k hk;have k0:(0:Int)<=(k:Int):=by omega
 have k1:(k:Int) < 10:=by omega
 generalize hs:(⟨(kw k).toArray⟩:ByteArray)=s at *;have HS:Hid (s.data.toList=kw k):=by show _=_;rw[<- hs]
 clear h hl hK hkl H0 hk hs;have t1:=Tryz.assertKK;go_enter Tryz.func153,Tryz.ntmps153
 go_wp2_with fail
 go_region_held3 (fun w'=>w'.cell? ⟨12,k,none⟩=some (.string s)) (first | exact c0 | exact y0) (first | (go_at_call 177;refine Calls.mono H.out ?_;rintro e W' ⟨rfl,h1,h2⟩;have y0:=(h2.bel.cell (p:=⟨12,k,none⟩) (Nat.lt_of_lt_of_le (show 12 < (max 12 13+1) by decide) hG)).trans c0))
 go_wp2;go_end0
 exact⟨rfl,by rw[<- HS.out];exact h1,(PFr.refl B pb w).drew.trans h2⟩
def TabAt (w : World) : Prop := Lib.TabIs Tryz.prog w "internal/strconv.uint64pow10" .u64 Lib.pow10Tab
theorem Tryz.tabNamed : Tryz.prog.globalNamed "internal/strconv.uint64pow10" = some 13 := by kernel_rfl
theorem TabAt.below {B:Nat}{w w':World}(h:TabAt w)(hb:Below B w w')(hB:(max 12 13+1)<=B):TabAt w':=by
 unfold TabAt Lib.TabIs World.var? at h ⊢;rw[Tryz.tabNamed] at h ⊢;simp only[Option.bind_some] at h ⊢;rw[hb.block 13 (Nat.lt_of_lt_of_le (by decide) hB)];exact h
theorem decN_lib (u:Nat):Lib.decDigits u=decN u:=by
 induction u using Nat.strongRecOn with
 | ind u ih=>
  rw[Lib.decDigits,decN]
  split
  ·rfl
  ·rw[ih (u / 10) (by omega)]
theorem itoa_at (n:Int)(h0:0<=n)(h1:n<=1099511627776)(w:World)(hT:TabAt w):Calls Tryz.prog 63 #[.int .i64 n] w fun e w'=>e=.returned (.string ⟨(num n).toArray⟩)/\Below w.heap.size w w':=by
 refine(Tryz.strconv_Itoa n (by omega) (by omega) w hT).mono ?_;rintro e w' ⟨rfl,k,os,rfl⟩
 refine⟨?_,?_⟩
 ·unfold Lib.itoa num;rw[if_neg (by omega),decN_lib]
 ·refine⟨rfl,rfl,rfl,(by show w.heap.size<=((w.drewN k).heap++os).size;rw[Array.size_append];exact Nat.le_add_right _ _),fun i hi=>?_⟩;show ((w.drewN k).heap++os)[i]?=_
  rw[Array.getElem?_append_left (by show i < w.heap.size;omega)];rfl
set_option maxHeartbeats 1000000 in
set_option maxRecDepth 100000 in
theorem word_int (B pb:Nat)(pv:Value)(l:List UInt8)(n:Int)(w:World)(h:PageAt B pb pv l w)(hl:l.length<=900000000)(h0:0<=n)(h1:n<=1099511627776)(hT:TabAt w)(hG:(max 12 13+1)<=B) :
  Calls Tryz.prog 153 #[.pointer (some ⟨pb,0,none⟩),.iface 3 (.int .i64 n)] w fun e w'=>e=.returned (.tuple #[])/\PageAt B pb pv (l++num n) w'/\PFr B pb w w':=by
 have hnl:(num n).length<=13:=by
  obtain⟨-,-,-,-,hh⟩:=decN_all n.toNat;exact hh 12 (by omega)
 have HI:Hid (∀ W,Below w.heap.size w W->_):=fun W hW=>itoa_at n h0 h1 W (hT.below (hW.mono h.2.1) hG)
 have HW:Hid (∀ W,PageAt B pb pv l W->_):=fun W hW=>bld_str B pb pv l ⟨(num n).toArray⟩ W hW (by show l.length+(num n).toArray.size<=_;simp;omega)
 have H:Hid (PageAt B pb pv l w):=h;have t1:=Tryz.assertIK;have t2:=Tryz.assertIS;have t3:=Tryz.assertII;clear h hl h0 h1 hT hnl;go_enter Tryz.func153,Tryz.ntmps153
 go_wp2_with fail
 go_region_held3 (fun _=>True) (exact trivial) (first | (go_at_call 63;refine Calls.mono (HI.out _ (below_drewN (Below.refl _ _) 1)) ?_;rintro e W1 ⟨rfl,hb1⟩;have hP1:=H.out.drew.below hb1) | (go_at_call 177;refine Calls.mono (HW.out _ hP1) ?_;rintro e W2 ⟨rfl,h1,h2⟩))
 go_wp2;go_end0
 exact⟨rfl,h1,((PFr.refl B pb w).drew.trans (PFr.of_below H.out hb1)).trans h2⟩
set_option maxHeartbeats 1000000 in
set_option maxRecDepth 100000 in
theorem word_place (B pb:Nat)(pa:Option Addr)(pc:Nat)(pts:List ByteArray)(l:List UInt8)(x:Int)(w:World)(h:PageAt B pb (.slice pa pts.length pc) l w)(hl:l.length<=900000000)(hP:∀ W,Below B w W->SlAt encS 1 W (.slice pa pts.length pc) pts)(h0:0<=x)(h1:x < (pts.length:Int))(hs:∀ p∈pts,p.size<=1000000) :
  Calls Tryz.prog 153 #[.pointer (some ⟨pb,0,none⟩),.iface 223 (.int .i64 x)] w fun e w'=>e=.returned (.tuple #[])/\PageAt B pb (.slice pa pts.length pc) (l++pt pts x) w'/\PFr B pb w w':=by
 obtain⟨q,hq,hqe,hqm⟩:∃ q,pts[x.toNat]?=some q/\pt pts x=bl q/\q∈pts:=by
  have hlt:x.toNat < pts.length:=by omega
  exact⟨pts[x.toNat],List.getElem?_eq_getElem hlt,by simp[pt,List.getD_eq_getElem?_getD,List.getElem?_eq_getElem hlt],List.getElem_mem hlt⟩
 obtain⟨k,rfl⟩:=Int.eq_ofNat_of_zero_le h0;have hk:k < pts.length:=by omega
 simp only[Int.toNat_natCast] at hq;have hP0:=hP;obtain⟨sa',cap',hsl,-,hcc⟩:=hP w (Below.refl _ _)
 cases hsl
 obtain⟨b,o,rfl,hc0⟩:=hcc (fun e=>by subst e;simp at hq);have HCk:Hid (∀ W,Below B w W->W.cell? ⟨b,o+k,none⟩=some (.string q)):=fun W hW=>by
  obtain⟨sa2,cap2,hsl2,-,hcc2⟩:=hP0 W hW
  cases hsl2
  obtain⟨b2,o2,e2,hc2⟩:=hcc2 (fun e=>by subst e;simp at hq)
  cases e2
  have:=hc2 k q hq 0 _ rfl;simpa using this
 have H0:=bld_str B pb _ l q w.drew h.drew (by have:=hs q hqm;omega);have H:Hid _:=H0;have hcell:=HCk.out w (Below.refl _ _);have h2c:w.cell? ⟨pb,2,none⟩=some (.slice (some ⟨b,o,none⟩) pts.length pc):=by
  obtain⟨-,-,p,v,-,h4,-⟩:=h;simp[World.cell?,h4]
 have HQ:Hid (pt pts (k:Int)=bl q):=hqe;have k0:(0:Int)<=(k:Int):=by omega
 have k1:(k:Int) < (pts.length:Int):=by omega
 have t1:=Tryz.assertPK;have t2:=Tryz.assertPS;have t3:=Tryz.assertPI;have t4:=Tryz.assertPP;have HC2:Hid (∀ W,PageAt B pb (.slice (some ⟨b,o,none⟩) pts.length pc) (l++q.data.toList) W->W.cell? ⟨pb,2,none⟩=some (.slice (some ⟨b,o,none⟩) pts.length pc)):=fun W hW=>by
  obtain⟨-,-,p,v,-,h4,-⟩:=hW;simp[World.cell?,h4]
 clear h hl hP hP0 hs hq hqe hqm hcc hc0 H0 h0 h1 hk;go_enter Tryz.func153,Tryz.ntmps153
 go_wp2_with fail
 go_region_held3 (fun w'=>w'.cell? ⟨b,o+k,none⟩=some (.string q)/\w'.cell? ⟨pb,2,none⟩=some (.slice (some ⟨b,o,none⟩) pts.length pc)) (first | exact⟨hcell,h2c⟩ | exact⟨y0,y1⟩) (first | (go_at_call 177;refine Calls.mono H.out ?_;rintro e W' ⟨rfl,h1,h2⟩;have y0:=HCk.out W' ((Below.refl B w).drew.trans h2.bel);have y1:=HC2.out _ h1))
 go_wp2;go_end0
 exact⟨rfl,by rw[HQ.out];exact h1,(PFr.refl B pb w).drew.trans h2⟩
end Go.Proofs.YtffpcbdlbcjihadGreatDoor
