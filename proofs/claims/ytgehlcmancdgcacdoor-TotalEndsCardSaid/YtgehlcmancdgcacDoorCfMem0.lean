/-
  A config in memory ('EntsAt', 'EntParts', 'SlAt'). No condition.
-/
import Derived.Test.YtgehlcmancdgcacDoorBas
import Derived.Test.YtgehlcmancdgcacDoorCfPure
import Derived.BigQuiet
import Derived.Deep.QuietTactic
import Derived.Deep.DeepCutAuto
import Derived.WalkSmall
namespace Go.Proofs.YtgehlcmancdgcacDoor
open Go.RowKit Go.Extern.Stop Go.Stop Go.Extern

/-- A slice in memory, its elements of k cells each. -/
def SlAt {α : Type} (enc : α → List Value) (k : Nat) (w : World) (v : Value) (xs : List α) : Prop :=
  ∃ sa cap, v = .slice sa xs.length cap ∧ xs.length ≤ cap ∧ (xs ≠ [] → ∃ b o, sa = some ⟨b, o, none⟩ ∧ ∀ i x, xs[i]? = some x → ∀ j u, (enc x)[j]? = some u → w.cell? ⟨b, o + i * k + j, none⟩ = some u)
theorem SlAt.below {α : Type} {enc : α → List Value} {k : Nat} {w w' : World} {v : Value} {xs : List α} (h : SlAt enc k w v xs) (hb : Below w.heap.size w w') : SlAt enc k w' v xs := by
  obtain ⟨sa, cap, h1, h0, h2⟩ := h
  refine ⟨sa, cap, h1, h0, fun hne => ?_⟩
  obtain ⟨b, o, h3, h4⟩ := h2 hne
  exact ⟨b, o, h3, fun i x hx j u hu => cell_below hb (h4 i x hx j u hu)⟩
def encI (x : Int) : List Value := [.int .i64 x]
def encS (s : ByteArray) : List Value := [.string s]
def encP (p : Int × Int) : List Value := [.int .i64 p.1, .int .i64 p.2]
def encG (g : GapD) : List Value := [.int .i64 g.fr, .int .i64 g.to, .int .i64 g.mn, .int .i64 g.mx]
/-- An entity's cells. -/
def entRow (e : EntD) (pv gv ev fv lv : Value) : Array Value := #[.string e.name, .int .i64 e.tol, pv, .int .i64 e.cnt, .int .i64 e.mn, .int .i64 e.mx, gv, ev, fv, lv]
structure EntParts (w : World) (e : EntD) (pv gv ev fv lv : Value) : Prop where
  hp : SlAt encS 1 w pv e.pts
  hg : SlAt encG 4 w gv e.gaps
  he : SlAt encP 2 w ev e.edges
  hf : SlAt encI 1 w fv e.first
  hl : SlAt encI 1 w lv e.last
theorem EntParts.below {w w' : World} {e : EntD} {pv gv ev fv lv : Value} (h : EntParts w e pv gv ev fv lv) (hb : Below w.heap.size w w') : EntParts w' e pv gv ev fv lv :=
  ⟨h.hp.below hb, h.hg.below hb, h.he.below hb, h.hf.below hb, h.hl.below hb⟩
/-- An entity as a value; a list of them; a config as a value. -/
def EntAt (w : World) (v : Value) (e : EntD) : Prop := ∃ pv gv ev fv lv, v = .agg (entRow e pv gv ev fv lv) ∧ EntParts w e pv gv ev fv lv
theorem EntAt.below {w w' : World} {v : Value} {e : EntD} (h : EntAt w v e) (hb : Below w.heap.size w w') : EntAt w' v e := by
  obtain ⟨pv, gv, ev, fv, lv, h1, h2⟩ := h
  exact ⟨pv, gv, ev, fv, lv, h1, h2.below hb⟩
def EntsAt (w : World) (v : Value) (es : List EntD) : Prop :=
  ∃ sa cap, v = .slice sa es.length cap ∧ (es ≠ [] → ∃ b o, sa = some ⟨b, o, none⟩ ∧ ∀ i e, es[i]? = some e → ∃ pv gv ev fv lv, EntParts w e pv gv ev fv lv ∧ ∀ j u, (entRow e pv gv ev fv lv)[j]? = some u → w.cell? ⟨b, o + i * 10 + j, none⟩ = some u)
theorem EntsAt.below {w w' : World} {v : Value} {es : List EntD} (h : EntsAt w v es) (hb : Below w.heap.size w w') : EntsAt w' v es := by
  obtain ⟨sa, cap, h1, h2⟩ := h
  refine ⟨sa, cap, h1, fun hne => ?_⟩
  obtain ⟨b, o, h3, h4⟩ := h2 hne
  refine ⟨b, o, h3, fun i e he => ?_⟩
  obtain ⟨pv, gv, ev, fv, lv, h5, h6⟩ := h4 i e he
  exact ⟨pv, gv, ev, fv, lv, h5.below hb, fun j u hu => cell_below hb (h6 j u hu)⟩
def CfgAt (w : World) (v : Value) (c : CfgD) : Prop := ∃ sv, v = .agg #[.int .i64 c.closed, .int .i64 c.opn, .int .i64 c.cycle, .int .i64 c.delay, sv] ∧ EntsAt w sv c.ents
theorem CfgAt.below {w w' : World} {v : Value} {c : CfgD} (h : CfgAt w v c) (hb : Below w.heap.size w w') : CfgAt w' v c := by
  obtain ⟨sv, h1, h2⟩ := h
  exact ⟨sv, h1, h2.below hb⟩
/-- Not so many that a counter would turn. -/
structure SmallE (e : EntD) : Prop where
  hn : e.name.size ≤ 1000000
  hp : e.pts.length ≤ 1000000
  hs : ∀ p ∈ e.pts, p.size ≤ 1000000
  hg : e.gaps.length ≤ 1000000
  he : e.edges.length ≤ 1000000
  hf : e.first.length ≤ 1000000
  hl : e.last.length ≤ 1000000
structure SmallC (c : CfgD) : Prop where
  hn : c.ents.length ≤ 1000000
  he : ∀ e ∈ c.ents, SmallE e

end Go.Proofs.YtgehlcmancdgcacDoor
