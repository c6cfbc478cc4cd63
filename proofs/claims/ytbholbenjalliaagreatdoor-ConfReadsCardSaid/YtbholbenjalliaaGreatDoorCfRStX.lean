/-
  The reader of a config in memory ('RdN': no entity yet; 'RdE': with entities), and what its writes leave: facts of memory. No condition.
-/
import Derived.Test.YtbholbenjalliaaGreatDoorRd1X
import Derived.Test.YtbholbenjalliaaGreatDoorCfOwnCX
namespace Go.Proofs.YtbholbenjalliaaGreatDoor
open Go.RowKit Go.Extern.Stop Go.Stop Go.Extern Go.Maps

/-- An entity's five lists, as values. -/
structure PV5 where
  p : Value
  g : Value
  e : Value
  f : Value
  l : Value
def PV5.row (x : PV5) (e : EntD) : Array Value := entRow e x.p x.g x.e x.f x.l
def OwnX (B : Nat) (w : World) (e : EntD) (x : PV5) : Prop := OwnParts B w e x.p x.g x.e x.f x.l
/-- All five lie below block L. -/
structure LtX (L : Nat) (x : PV5) : Prop where
  p : ∀ b, x.p.ownBlock = some b → b < L
  g : ∀ b, x.g.ownBlock = some b → b < L
  e : ∀ b, x.e.ownBlock = some b → b < L
  f : ∀ b, x.f.ownBlock = some b → b < L
  l : ∀ b, x.l.ownBlock = some b → b < L
theorem own_lt {w : World} {B k n : Nat} {T : TypeId} {v : Value} {xs : List Value} (h : w.ownsRow B T k v n xs) : ∀ b, v.ownBlock = some b → b < w.heap.size := fun b hb => (h.lt b hb).2
theorem OwnX.ltx {B : Nat} {w : World} {e : EntD} {x : PV5} (h : OwnX B w e x) : LtX w.heap.size x := ⟨own_lt h.hp, own_lt h.hg, own_lt h.he, own_lt h.hf, own_lt h.hl⟩
theorem OwnX.weak {B L : Nat} {w : World} {e : EntD} {x : PV5} (h : OwnX L w e x) (hB : B ≤ L) : OwnX B w e x := by
  have k : ∀ {T : TypeId} {k n : Nat} {v : Value} {xs : List Value}, w.ownsRow L T k v n xs → w.ownsRow B T k v n xs := fun h => by
    obtain ⟨h1, h2 | ⟨g, cap, cur, a, b, c⟩⟩ := h
    · exact ⟨h1, Or.inl h2⟩
    · exact ⟨h1, Or.inr ⟨g, cap, cur, a, Nat.le_trans hB b, c⟩⟩
  exact ⟨k h.hp, k h.hg, k h.he, k h.hf, k h.hl⟩
/-- A row's type tells it apart from another. -/
theorem own_ne {w : World} {B k n : Nat} {T T' : TypeId} {v : Value} {xs : List Value} (h : w.ownsRow B T k v n xs) {b : Nat} {c : Array Value} {fr : Nat × Nat} (hb : w.heap[b]? = some (.cells c T' fr)) (hT : T' ≠ T) : v.ownBlock ≠ some b := by
  rcases h.2 with ⟨rfl, _⟩ | ⟨g, cap, cur, rfl, _, hg', _⟩
  · simp [Value.ownBlock]
  · intro e
    simp only [Value.ownBlock, Option.some.injEq] at e
    subst e
    rw [hg'] at hb
    simp only [Option.some.injEq, Obj.cells.injEq] at hb
    exact absurd hb.2.1.symm hT
theorem own_nemap {w : World} {B k n : Nat} {T : TypeId} {v : Value} {xs : List Value} (h : w.ownsRow B T k v n xs) {b : Nat} {es : Array MapEntry} {cl : Nat} (hb : w.heap[b]? = some (.map es cl)) : v.ownBlock ≠ some b := by
  rcases h.2 with ⟨rfl, _⟩ | ⟨g, cap, cur, rfl, _, hg', _⟩
  · simp [Value.ownBlock]
  · intro e
    simp only [Value.ownBlock, Option.some.injEq] at e
    subst e
    rw [hg'] at hb
    cases hb
theorem own_ne2 {w : World} {B B' k n k' n' : Nat} {T T' : TypeId} {v v' : Value} {xs xs' : List Value} (h : w.ownsRow B T k v n xs) (h' : w.ownsRow B' T' k' v' n' xs') (hT : T' ≠ T) : v.ownBlock = none ∨ v.ownBlock ≠ v'.ownBlock := by
  rcases h'.2 with ⟨rfl, _⟩ | ⟨g, cap, cur, rfl, _, hg', _⟩
  · by_cases e : v.ownBlock = none
    · exact Or.inl e
    · exact Or.inr e
  · exact Or.inr (own_ne h hg' hT)
theorem own_set {w : World} {B k n g cap i : Nat} {T : TypeId} {xs : List Value} (h : w.ownsRow B T k (.slice (some ⟨g, 0, none⟩) n cap) n xs) (u : Value) : (w.setCell ⟨g, i, none⟩ u).ownsRow B T k (.slice (some ⟨g, 0, none⟩) n cap) n (xs.set i u) := by
  obtain ⟨h1, h2 | ⟨g', cap', cur, a, b, c, d, e, f, q⟩⟩ := h
  · cases h2.1
  · simp only [Value.slice.injEq, Option.some.injEq, Addr.mk.injEq, and_true, true_and] at a
    obtain ⟨rfl, rfl⟩ := a
    refine ⟨by rw [List.length_set]; exact h1, Or.inr ⟨g, cap, cur.setIfInBounds i u, rfl, b, ?_, d, e, by rw [Array.size_setIfInBounds]; exact f, ?_⟩⟩
    · simp [World.setCell, Array.getElem?_modify, c]
    · rw [Array.toList_setIfInBounds, List.take_set, q]
/-- Nothing but block b is written. -/
theorem grown_cell (w : World) (g i : Nat) (u : Value) : w.grownBy (w.setCell ⟨g, i, none⟩ u) (some g) := ⟨rfl, rfl, rfl, by simp [World.setCell], fun k _ hk => Below.heap_setCell _ _ _ _ (fun e => hk (by simp [e]))⟩
theorem OwnX.kept {B : Nat} {w w' : World} {e : EntD} {x : PV5} {r : Option Nat} (h : OwnX B w e x) (hg : w.grownBy w' r) (hp : x.p.ownBlock = none ∨ x.p.ownBlock ≠ r) (hG : x.g.ownBlock = none ∨ x.g.ownBlock ≠ r) (he : x.e.ownBlock = none ∨ x.e.ownBlock ≠ r) (hf : x.f.ownBlock = none ∨ x.f.ownBlock ≠ r) (hl : x.l.ownBlock = none ∨ x.l.ownBlock ≠ r) : OwnX B w' e x :=
  ⟨World.ownsRow.kept h.hp hg hp, World.ownsRow.kept h.hg hg hG, World.ownsRow.kept h.he hg he, World.ownsRow.kept h.hf hg hf, World.ownsRow.kept h.hl hg hl⟩
/-- A block of another type is written. -/
theorem OwnX.other {B b : Nat} {w w' : World} {e : EntD} {x : PV5} (h : OwnX B w e x) (hg : w.grownBy w' (some b)) {c : Array Value} {T : TypeId} {fr : Nat × Nat} (hb : w.heap[b]? = some (.cells c T fr)) (h1 : T ≠ 9) (h2 : T ≠ 78) (h3 : T ≠ 79) (h4 : T ≠ 3) : OwnX B w' e x :=
  h.kept hg (Or.inr (own_ne h.hp hb h1)) (Or.inr (own_ne h.hg hb h2)) (Or.inr (own_ne h.he hb h3)) (Or.inr (own_ne h.hf hb h4)) (Or.inr (own_ne h.hl hb h4))
theorem OwnX.mapped {B b : Nat} {w w' : World} {e : EntD} {x : PV5} (h : OwnX B w e x) (hg : w.grownBy w' (some b)) {es : Array MapEntry} {cl : Nat} (hb : w.heap[b]? = some (.map es cl)) : OwnX B w' e x :=
  h.kept hg (Or.inr (own_nemap h.hp hb)) (Or.inr (own_nemap h.hg hb)) (Or.inr (own_nemap h.he hb)) (Or.inr (own_nemap h.hf hb)) (Or.inr (own_nemap h.hl hb))
/-- A list that lies from L on is written: what lies below L is as it was. -/
theorem OwnX.far {B L : Nat} {w w' : World} {e : EntD} {x : PV5} (h : OwnX B w e x) (hL : LtX L x) {r : Option Nat} (hr : ∀ b, r = some b → L ≤ b) (hg : w.grownBy w' r) : OwnX B w' e x := by
  have k : ∀ v : Value, (∀ b, v.ownBlock = some b → b < L) → v.ownBlock = none ∨ v.ownBlock ≠ r := fun v hv => by
    cases e : v.ownBlock with
    | none => exact Or.inl rfl
    | some b => exact Or.inr (fun e2 => by have := hv b e; have := hr b e2.symm; omega)
  exact h.kept hg (k _ hL.p) (k _ hL.g) (k _ hL.e) (k _ hL.f) (k _ hL.l)
theorem fl_sym {a b : Option Nat} (h : a = none ∨ a ≠ b) : b = none ∨ b ≠ a := by
  rcases h with rfl | h
  · cases b with
    | none => exact Or.inl rfl
    | some => exact Or.inr (by simp)
  · exact Or.inr h.symm
def rdRow (c : CfgD) (ev : Value) (last : Int) (mv : Value) : Array Value := #[.int .i64 c.closed, .int .i64 c.opn, .int .i64 c.cycle, .int .i64 c.delay, ev, .int .i64 last, mv]
/-- The reader with no entity yet. -/
structure RdN (B rb : Nat) (w : World) (c : CfgD) (last : Int) : Prop where
  lo : B ≤ rb
  nil : c.ents = []
  row : w.heap[rb]? = some (.cells (rdRow c (.slice none 0 0) last (.map none)) 116 (0, 0))
/-- The reader with entities: those ahead, and the last. -/
structure RdB (B rb L g cap mb : Nat) (w : World) (c : CfgD) (last : Int) (es : List EntD) (e : EntD) (x : PV5) (cells : List Value) : Prop where
  lo : B ≤ rb
  loL : B ≤ L
  lom : B ≤ mb
  row : w.heap[rb]? = some (.cells (rdRow c (.slice (some ⟨g, 0, none⟩) (es.length + 1) cap) last (.map (some mb))) 116 (0, 0))
  ents : w.ownsRow B 52 10 (.slice (some ⟨g, 0, none⟩) (es.length + 1) cap) (es.length + 1) (cells ++ (x.row e).toList)
  clen : cells.length = es.length * 10
  olds : ∀ (i : Nat) e', es[i]? = some e' → ∃ x', OwnX B w e' x' ∧ LtX L x' ∧ ∀ (j : Nat) u, (x'.row e')[j]? = some u → cells[i * 10 + j]? = some u
  new : OwnX L w e x
  fl : x.f.ownBlock = none ∨ x.f.ownBlock ≠ x.l.ownBlock
/-- .. with its map of points. -/
structure RdE (B rb L g cap mb : Nat) (w : World) (c : CfgD) (last : Int) (es : List EntD) (e : EntD) (x : PV5) (cells : List Value) : Prop extends RdB B rb L g cap mb w c last es e x cells where
  map : ∃ D : DataW Unit, w.ownsMap Tryz.prog 9 (plainElem Tryz.prog 3) mb e.pts.length D ∧ PtsMap D e.pts
theorem RdB.grow {B rb L g cap mb : Nat} {w : World} {c : CfgD} {last : Int} {es : List EntD} {e : EntD} {x : PV5} {cells : List Value} (h : RdB B rb L g cap mb w c last es e x cells) : ∃ cur, w.heap[g]? = some (.cells cur 52 (0, 0)) ∧ B ≤ g := by
  rcases h.ents.2 with ⟨h1, _⟩ | ⟨g', cap', cur, a, b, c', _⟩
  · cases h1
  · simp only [Value.slice.injEq, Option.some.injEq, Addr.mk.injEq, and_true, true_and] at a
    obtain ⟨rfl, rfl⟩ := a
    exact ⟨cur, c', b⟩
theorem RdB.ewcell {B rb L g cap mb : Nat} {w : World} {c : CfgD} {last : Int} {es : List EntD} {e : EntD} {x : PV5} {cells : List Value} (h : RdB B rb L g cap mb w c last es e x cells) {j : Nat} {u : Value} (hu : (x.row e)[j]? = some u) : w.cell? ⟨g, es.length * 10 + j, none⟩ = some u ∧ w.frozen? ⟨g, es.length * 10 + j, none⟩ = false := by
  obtain ⟨cur, hc, -⟩ := h.grow
  refine ⟨?_, by simp [World.frozen?, hc]⟩
  have := h.ents.cells (g := g) rfl (es.length * 10 + j) u (by rw [List.getElem?_append_right (by rw [h.clen]; omega), h.clen, Nat.add_sub_cancel_left, Array.getElem?_toList]; exact hu)
  rw [addC_plain] at this
  simpa using this
theorem RdB.below {B rb L g cap mb : Nat} {w w' : World} {c : CfgD} {last : Int} {es : List EntD} {e : EntD} {x : PV5} {cells : List Value} (h : RdB B rb L g cap mb w c last es e x cells) (hb : Below w.heap.size w w') : RdB B rb L g cap mb w' c last es e x cells := by
  have hg : w.grownBy w' none := ⟨hb.os, hb.tape, hb.output, hb.size, fun k hk _ => hb.block k hk⟩
  have k : ∀ v : Value, v.ownBlock = none ∨ v.ownBlock ≠ none := fun v => by by_cases e : v.ownBlock = none; exact Or.inl e; exact Or.inr e
  have kx : ∀ {B : Nat} {e : EntD} {x : PV5}, OwnX B w e x → OwnX B w' e x := fun hx => hx.kept hg (k _) (k _) (k _) (k _) (k _)
  refine ⟨h.lo, h.loL, h.lom, row_below hb h.row, h.ents.kept hg (k _), h.clen, fun i e' he => ?_, kx h.new, h.fl⟩
  obtain ⟨x', a, b, d⟩ := h.olds i e' he
  exact ⟨x', kx a, b, d⟩
theorem RdE.below {B rb L g cap mb : Nat} {w w' : World} {c : CfgD} {last : Int} {es : List EntD} {e : EntD} {x : PV5} {cells : List Value} (h : RdE B rb L g cap mb w c last es e x cells) (hb : Below w.heap.size w w') : RdE B rb L g cap mb w' c last es e x cells := by
  refine ⟨h.toRdB.below hb, ?_⟩
  obtain ⟨D, a, b⟩ := h.map
  exact ⟨D, a.kept (row := none) ⟨hb.os, hb.tape, hb.output, hb.size, fun k hk _ => hb.block k hk⟩ (by simp), b⟩
/-- A map is written. -/
theorem RdB.mapped {B rb L g cap mb b : Nat} {w w' : World} {c : CfgD} {last : Int} {es : List EntD} {e : EntD} {x : PV5} {cells : List Value} (h : RdB B rb L g cap mb w c last es e x cells) (hg : w.grownBy w' (some b)) {ms : Array MapEntry} {cl : Nat} (hb : w.heap[b]? = some (.map ms cl)) : RdB B rb L g cap mb w' c last es e x cells := by
  have hne : rb ≠ b := fun e2 => by rw [← e2, h.row] at hb; cases hb
  refine ⟨h.lo, h.loL, h.lom, (hg.block rb (lt_of_row h.row) (by simpa using hne)).trans h.row, h.ents.kept hg (Or.inr (own_nemap h.ents hb)), h.clen, fun i e' he => ?_, h.new.mapped hg hb, h.fl⟩
  obtain ⟨x', a, b', d⟩ := h.olds i e' he
  exact ⟨x', a.mapped hg hb, b', d⟩
/-- A cell of the last entity is written. -/
theorem RdE.setE {B rb L g cap mb : Nat} {w : World} {c : CfgD} {last : Int} {es : List EntD} {e e' : EntD} {x x' : PV5} {cells : List Value} (h : RdE B rb L g cap mb w c last es e x cells) (j : Nat) (u : Value) (hr : (x.row e).toList.set j u = (x'.row e').toList) (hx : OwnX L w e' x') (hfl : x'.f.ownBlock = none ∨ x'.f.ownBlock ≠ x'.l.ownBlock) (hpts : e'.pts = e.pts) : RdE B rb L g cap mb (w.setCell ⟨g, es.length * 10 + j, none⟩ u) c last es e' x' cells := by
  obtain ⟨cur, hc, hB⟩ := h.grow
  have hg := grown_cell w g (es.length * 10 + j) u
  have hne : rb ≠ g := fun e2 => by rw [← e2, h.row] at hc; simp at hc
  refine ⟨⟨h.lo, h.loL, h.lom, (hg.block rb (lt_of_row h.row) (by simpa using hne)).trans h.row, ?_, h.clen, fun i e2 he => ?_, ?_, hfl⟩, ?_⟩
  · have := own_set (i := es.length * 10 + j) h.ents u
    rw [List.set_append_right _ _ (by rw [h.clen]; omega), h.clen, Nat.add_sub_cancel_left, hr] at this
    exact this
  · obtain ⟨y, a, b, d⟩ := h.olds i e2 he
    exact ⟨y, a.other hg hc (by decide) (by decide) (by decide) (by decide), b, d⟩
  · exact hx.other hg hc (by decide) (by decide) (by decide) (by decide)
  · obtain ⟨D, ⟨es', cl, a1, a2⟩, b⟩ := h.map
    rw [← hpts] at a2 b
    refine ⟨D, ⟨es', cl, (hg.block mb (lt_of_row a1) (fun e2 => ?_)).trans a1, a2⟩, b⟩
    simp only [Option.some.injEq] at e2
    rw [e2, hc] at a1
    cases a1
/-- A list of the last entity's has grown, and its cell is written. -/
theorem RdB.app {B rb L g cap mb : Nat} {w w' : World} {c : CfgD} {last : Int} {es : List EntD} {e e' : EntD} {x x' : PV5} {cells : List Value} {r : Option Nat} (h : RdB B rb L g cap mb w c last es e x cells) (hgr : w.grownBy w' r) (hL : ∀ b, r = some b → L ≤ b) (hrb : r ≠ some rb) (hrg : r ≠ some g) (j : Nat) (u : Value) (hr : (x.row e).toList.set j u = (x'.row e').toList) (hx : OwnX L w' e' x') (hfl : x'.f.ownBlock = none ∨ x'.f.ownBlock ≠ x'.l.ownBlock)
    (hm : ∃ D : DataW Unit, w'.ownsMap Tryz.prog 9 (plainElem Tryz.prog 3) mb e'.pts.length D ∧ PtsMap D e'.pts) : RdE B rb L g cap mb (w'.setCell ⟨g, es.length * 10 + j, none⟩ u) c last es e' x' cells := by
  obtain ⟨cur, hc, hB⟩ := h.grow
  have hc' : w'.heap[g]? = some (.cells cur 52 (0, 0)) := (hgr.block g (lt_of_row hc) (fun e2 => hrg e2.symm)).trans hc
  have hrow : w'.heap[rb]? = _ := (hgr.block rb (lt_of_row h.row) (fun e2 => hrb e2.symm)).trans h.row
  have hents := h.ents.kept hgr (Or.inr (fun e2 => hrg e2.symm))
  have hg := grown_cell w' g (es.length * 10 + j) u
  have hne : rb ≠ g := fun e2 => by rw [← e2, h.row] at hc; simp at hc
  refine ⟨⟨h.lo, h.loL, h.lom, (hg.block rb (lt_of_row hrow) (by simpa using hne)).trans hrow, ?_, h.clen, fun i e2 he => ?_, ?_, hfl⟩, ?_⟩
  · have := own_set (i := es.length * 10 + j) hents u
    rw [List.set_append_right _ _ (by rw [h.clen]; omega), h.clen, Nat.add_sub_cancel_left, hr] at this
    exact this
  · obtain ⟨y, a, b, d⟩ := h.olds i e2 he
    exact ⟨y, (a.far b hL hgr).other hg hc' (by decide) (by decide) (by decide) (by decide), b, d⟩
  · exact hx.other hg hc' (by decide) (by decide) (by decide) (by decide)
  · obtain ⟨D, ⟨es', cl, a1, a2⟩, b⟩ := hm
    refine ⟨D, ⟨es', cl, (hg.block mb (lt_of_row a1) (fun e2 => ?_)).trans a1, a2⟩, b⟩
    simp only [Option.some.injEq] at e2
    rw [e2, hc'] at a1
    cases a1
theorem RdE.mapKept {B rb L g cap mb : Nat} {w w' : World} {c : CfgD} {last : Int} {es : List EntD} {e : EntD} {x : PV5} {cells : List Value} {T : TypeId} {k n : Nat} {v : Value} {xs : List Value} {B' : Nat} (h : RdE B rb L g cap mb w c last es e x cells) (hv : w.ownsRow B' T k v n xs) (hgr : w.grownBy w' v.ownBlock) : ∃ D : DataW Unit, w'.ownsMap Tryz.prog 9 (plainElem Tryz.prog 3) mb e.pts.length D ∧ PtsMap D e.pts := by
  obtain ⟨D, a, b⟩ := h.map
  obtain ⟨es', cl, a1, a2⟩ := id a
  exact ⟨D, a.kept hgr (fun e2 => own_nemap hv a1 e2.symm), b⟩
theorem RdB.appPts {B rb L g cap mb : Nat} {w w' : World} {c : CfgD} {last : Int} {es : List EntD} {e : EntD} {x : PV5} {cells : List Value} {g' cap' : Nat} (h : RdB B rb L g cap mb w c last es e x cells) (q : ByteArray) (hm : ∃ D : DataW Unit, w.ownsMap Tryz.prog 9 (plainElem Tryz.prog 3) mb (e.pts.length + 1) D ∧ PtsMap D (e.pts ++ [q])) (hgr : w.grownBy w' x.p.ownBlock) (hown : w'.ownsRow L 9 1 (.slice (some ⟨g', 0, none⟩) (e.pts.length + 1) cap') (e.pts.length + 1) (e.pts.flatMap encS ++ encS q)) :
    RdE B rb L g cap mb (w'.setCell ⟨g, es.length * 10 + 2, none⟩ (.slice (some ⟨g', 0, none⟩) (e.pts.length + 1) cap')) c last es { e with pts := e.pts ++ [q] } { x with p := .slice (some ⟨g', 0, none⟩) (e.pts.length + 1) cap' } cells := by
  obtain ⟨cur, hc, -⟩ := h.grow
  refine h.app hgr (fun b hb => (h.new.hp.lt b hb).1) (own_ne h.new.hp h.row (by decide)) (own_ne h.new.hp hc (by decide)) 2 _ rfl ⟨(by show w'.ownsRow _ _ _ _ _ _; simpa [List.flatMap_append] using hown), World.ownsRow.kept h.new.hg hgr (own_ne2 h.new.hg h.new.hp (by decide)), World.ownsRow.kept h.new.he hgr (own_ne2 h.new.he h.new.hp (by decide)), World.ownsRow.kept h.new.hf hgr (own_ne2 h.new.hf h.new.hp (by decide)), World.ownsRow.kept h.new.hl hgr (own_ne2 h.new.hl h.new.hp (by decide))⟩ h.fl ?_
  obtain ⟨D, a, b⟩ := hm
  obtain ⟨es', cl, a1, a2⟩ := id a
  exact ⟨D, by simpa using a.kept hgr (fun e2 => own_nemap h.new.hp a1 e2.symm), b⟩
theorem RdE.appGap {B rb L g cap mb : Nat} {w w' : World} {c : CfgD} {last : Int} {es : List EntD} {e : EntD} {x : PV5} {cells : List Value} {g' cap' : Nat} (h : RdE B rb L g cap mb w c last es e x cells) (q : GapD) (hgr : w.grownBy w' x.g.ownBlock) (hown : w'.ownsRow L 78 4 (.slice (some ⟨g', 0, none⟩) (e.gaps.length + 1) cap') (e.gaps.length + 1) (e.gaps.flatMap encG ++ encG q)) :
    RdE B rb L g cap mb (w'.setCell ⟨g, es.length * 10 + 6, none⟩ (.slice (some ⟨g', 0, none⟩) (e.gaps.length + 1) cap')) c last es { e with gaps := e.gaps ++ [q] } { x with g := (.slice (some ⟨g', 0, none⟩) (e.gaps.length + 1) cap') } cells := by
  obtain ⟨cur, hc, -⟩ := h.grow
  refine h.toRdB.app hgr (fun b hb => (h.new.hg.lt b hb).1) (own_ne h.new.hg h.row (by decide)) (own_ne h.new.hg hc (by decide)) 6 _ rfl ⟨(World.ownsRow.kept h.new.hp hgr (own_ne2 h.new.hp h.new.hg (by decide))), (by show w'.ownsRow _ _ _ _ _ _; simpa [List.flatMap_append] using hown), (World.ownsRow.kept h.new.he hgr (own_ne2 h.new.he h.new.hg (by decide))), (World.ownsRow.kept h.new.hf hgr (own_ne2 h.new.hf h.new.hg (by decide))), (World.ownsRow.kept h.new.hl hgr (own_ne2 h.new.hl h.new.hg (by decide)))⟩ (h.fl) (h.mapKept h.new.hg hgr)
theorem RdE.appEdge {B rb L g cap mb : Nat} {w w' : World} {c : CfgD} {last : Int} {es : List EntD} {e : EntD} {x : PV5} {cells : List Value} {g' cap' : Nat} (h : RdE B rb L g cap mb w c last es e x cells) (q : (Int × Int)) (hgr : w.grownBy w' x.e.ownBlock) (hown : w'.ownsRow L 79 2 (.slice (some ⟨g', 0, none⟩) (e.edges.length + 1) cap') (e.edges.length + 1) (e.edges.flatMap encP ++ encP q)) :
    RdE B rb L g cap mb (w'.setCell ⟨g, es.length * 10 + 7, none⟩ (.slice (some ⟨g', 0, none⟩) (e.edges.length + 1) cap')) c last es { e with edges := e.edges ++ [q] } { x with e := (.slice (some ⟨g', 0, none⟩) (e.edges.length + 1) cap') } cells := by
  obtain ⟨cur, hc, -⟩ := h.grow
  refine h.toRdB.app hgr (fun b hb => (h.new.he.lt b hb).1) (own_ne h.new.he h.row (by decide)) (own_ne h.new.he hc (by decide)) 7 _ rfl ⟨(World.ownsRow.kept h.new.hp hgr (own_ne2 h.new.hp h.new.he (by decide))), (World.ownsRow.kept h.new.hg hgr (own_ne2 h.new.hg h.new.he (by decide))), (by show w'.ownsRow _ _ _ _ _ _; simpa [List.flatMap_append] using hown), (World.ownsRow.kept h.new.hf hgr (own_ne2 h.new.hf h.new.he (by decide))), (World.ownsRow.kept h.new.hl hgr (own_ne2 h.new.hl h.new.he (by decide)))⟩ (h.fl) (h.mapKept h.new.he hgr)
theorem RdE.appFirst {B rb L g cap mb : Nat} {w w' : World} {c : CfgD} {last : Int} {es : List EntD} {e : EntD} {x : PV5} {cells : List Value} {g' cap' : Nat} (h : RdE B rb L g cap mb w c last es e x cells) (q : Int) (hgr : w.grownBy w' x.f.ownBlock) (hown : w'.ownsRow L 3 1 (.slice (some ⟨g', 0, none⟩) (e.first.length + 1) cap') (e.first.length + 1) (e.first.flatMap encI ++ encI q)) (hne : ∀ b, x.l.ownBlock = some b → b ≠ g') :
    RdE B rb L g cap mb (w'.setCell ⟨g, es.length * 10 + 8, none⟩ (.slice (some ⟨g', 0, none⟩) (e.first.length + 1) cap')) c last es { e with first := e.first ++ [q] } { x with f := (.slice (some ⟨g', 0, none⟩) (e.first.length + 1) cap') } cells := by
  obtain ⟨cur, hc, -⟩ := h.grow
  refine h.toRdB.app hgr (fun b hb => (h.new.hf.lt b hb).1) (own_ne h.new.hf h.row (by decide)) (own_ne h.new.hf hc (by decide)) 8 _ rfl ⟨(World.ownsRow.kept h.new.hp hgr (own_ne2 h.new.hp h.new.hf (by decide))), (World.ownsRow.kept h.new.hg hgr (own_ne2 h.new.hg h.new.hf (by decide))), (World.ownsRow.kept h.new.he hgr (own_ne2 h.new.he h.new.hf (by decide))), (by show w'.ownsRow _ _ _ _ _ _; simpa [List.flatMap_append] using hown), (World.ownsRow.kept h.new.hl hgr (fl_sym h.fl))⟩ (Or.inr (fun e1 => hne g' e1.symm rfl)) (h.mapKept h.new.hf hgr)
theorem RdE.appLast {B rb L g cap mb : Nat} {w w' : World} {c : CfgD} {last : Int} {es : List EntD} {e : EntD} {x : PV5} {cells : List Value} {g' cap' : Nat} (h : RdE B rb L g cap mb w c last es e x cells) (q : Int) (hgr : w.grownBy w' x.l.ownBlock) (hown : w'.ownsRow L 3 1 (.slice (some ⟨g', 0, none⟩) (e.last.length + 1) cap') (e.last.length + 1) (e.last.flatMap encI ++ encI q)) (hne : ∀ b, x.f.ownBlock = some b → b ≠ g') :
    RdE B rb L g cap mb (w'.setCell ⟨g, es.length * 10 + 9, none⟩ (.slice (some ⟨g', 0, none⟩) (e.last.length + 1) cap')) c last es { e with last := e.last ++ [q] } { x with l := (.slice (some ⟨g', 0, none⟩) (e.last.length + 1) cap') } cells := by
  obtain ⟨cur, hc, -⟩ := h.grow
  refine h.toRdB.app hgr (fun b hb => (h.new.hl.lt b hb).1) (own_ne h.new.hl h.row (by decide)) (own_ne h.new.hl hc (by decide)) 9 _ rfl ⟨(World.ownsRow.kept h.new.hp hgr (own_ne2 h.new.hp h.new.hl (by decide))), (World.ownsRow.kept h.new.hg hgr (own_ne2 h.new.hg h.new.hl (by decide))), (World.ownsRow.kept h.new.he hgr (own_ne2 h.new.he h.new.hl (by decide))), (World.ownsRow.kept h.new.hf hgr h.fl), (by show w'.ownsRow _ _ _ _ _ _; simpa [List.flatMap_append] using hown)⟩ ((by cases e1 : x.f.ownBlock with | none => exact Or.inl rfl | some b => exact Or.inr (fun e2 => hne b e1 (Option.some.inj e2)))) (h.mapKept h.new.hl hgr)
end Go.Proofs.YtbholbenjalliaaGreatDoor
