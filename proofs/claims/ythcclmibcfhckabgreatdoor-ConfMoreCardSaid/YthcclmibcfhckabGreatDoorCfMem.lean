/-
  A config in memory ('CfgAt'), an error as it is told ('ErrAt'), and the smallest functions of package conf by contracts. Conditions: the sentinels are in memory ('Senv'); what is read is in memory.
-/
import Derived.Test.YthcclmibcfhckabGreatDoorCode
import Derived.Test.YthcclmibcfhckabGreatDoorCfPure
import Derived.BigQuiet
import Derived.Deep.QuietTactic
import Derived.Deep.DeepCutAuto
import Derived.WalkSmall
namespace Go.Proofs.YthcclmibcfhckabGreatDoor
open Go.RowKit Go.Extern.Stop Go.Stop Go.Extern

/-- A sentinel's value, by its number; nil for 0. -/
def errV (A : Nat → Addr) : Nat → Value
  | 0 => .nilIface
  | j + 1 => .iface 211 (.pointer (some (A j)))
/-- An error as it is told: its number, and its place (-1: none). -/
def ErrAt (A : Nat → Addr) (w : World) (v : Value) (f : Nat × Int) : Prop :=
  f.1 ≤ 11 ∧ ((f.2 = -1 ∧ v = errV A f.1) ∨ (0 < f.1 ∧ ∃ b, v = .iface 65 (.pointer (some ⟨b, 0, none⟩)) ∧ w.cell? ⟨b, 0, none⟩ = some (.int .i64 f.2) ∧ w.cell? ⟨b, 1, none⟩ = some (errV A f.1)))
theorem ErrAt.below {A : Nat → Addr} {w w' : World} {v : Value} {f : Nat × Int} (h : ErrAt A w v f) (hb : Below w.heap.size w w') : ErrAt A w' v f := by
  obtain ⟨h1, h2 | ⟨h2, b, h3, h4, h5⟩⟩ := h
  · exact ⟨h1, Or.inl h2⟩
  · exact ⟨h1, Or.inr ⟨h2, b, h3, cell_below hb h4, cell_below hb h5⟩⟩

/-- A slice in memory, its elements of k cells each. -/
def SlAt {α : Type} (enc : α → List Value) (k : Nat) (w : World) (v : Value) (xs : List α) : Prop :=
  ∃ sa cap, v = .slice sa xs.length cap ∧ xs.length ≤ cap ∧ (xs ≠ [] → ∃ b o, sa = some ⟨b, o, none⟩ ∧ ∀ i x, xs[i]? = some x → ∀ j u, (enc x)[j]? = some u → w.cell? ⟨b, o + i * k + j, none⟩ = some u)
theorem SlAt.below {α : Type} {enc : α → List Value} {k : Nat} {w w' : World} {v : Value} {xs : List α} (h : SlAt enc k w v xs) (hb : Below w.heap.size w w') : SlAt enc k w' v xs := by
  obtain ⟨sa, cap, h1, h0, h2⟩ := h
  refine ⟨sa, cap, h1, h0, fun hne => ?_⟩
  obtain ⟨b, o, h3, h4⟩ := h2 hne
  exact ⟨b, o, h3, fun i x hx j u hu => cell_below hb (h4 i x hx j u hu)⟩
def encI (x : Int) : List Value := [.int .i64 x]
def encS (s : ByteArray) : List Value := [.string s]
def encP (p : Int × Int) : List Value := [.int .i64 p.1, .int .i64 p.2]
def encG (g : GapD) : List Value := [.int .i64 g.fr, .int .i64 g.to, .int .i64 g.mn, .int .i64 g.mx]
/-- An entity's cells. -/
def entRow (e : EntD) (pv gv ev fv lv : Value) : Array Value := #[.string e.name, .int .i64 e.tol, pv, .int .i64 e.cnt, .int .i64 e.mn, .int .i64 e.mx, gv, ev, fv, lv]
structure EntParts (w : World) (e : EntD) (pv gv ev fv lv : Value) : Prop where
  hp : SlAt encS 1 w pv e.pts
  hg : SlAt encG 4 w gv e.gaps
  he : SlAt encP 2 w ev e.edges
  hf : SlAt encI 1 w fv e.first
  hl : SlAt encI 1 w lv e.last
theorem EntParts.below {w w' : World} {e : EntD} {pv gv ev fv lv : Value} (h : EntParts w e pv gv ev fv lv) (hb : Below w.heap.size w w') : EntParts w' e pv gv ev fv lv :=
  ⟨h.hp.below hb, h.hg.below hb, h.he.below hb, h.hf.below hb, h.hl.below hb⟩
/-- An entity as a value; a list of them; a config as a value. -/
def EntAt (w : World) (v : Value) (e : EntD) : Prop := ∃ pv gv ev fv lv, v = .agg (entRow e pv gv ev fv lv) ∧ EntParts w e pv gv ev fv lv
theorem EntAt.below {w w' : World} {v : Value} {e : EntD} (h : EntAt w v e) (hb : Below w.heap.size w w') : EntAt w' v e := by
  obtain ⟨pv, gv, ev, fv, lv, h1, h2⟩ := h
  exact ⟨pv, gv, ev, fv, lv, h1, h2.below hb⟩
def EntsAt (w : World) (v : Value) (es : List EntD) : Prop :=
  ∃ sa cap, v = .slice sa es.length cap ∧ (es ≠ [] → ∃ b o, sa = some ⟨b, o, none⟩ ∧ ∀ i e, es[i]? = some e → ∃ pv gv ev fv lv, EntParts w e pv gv ev fv lv ∧ ∀ j u, (entRow e pv gv ev fv lv)[j]? = some u → w.cell? ⟨b, o + i * 10 + j, none⟩ = some u)
theorem EntsAt.below {w w' : World} {v : Value} {es : List EntD} (h : EntsAt w v es) (hb : Below w.heap.size w w') : EntsAt w' v es := by
  obtain ⟨sa, cap, h1, h2⟩ := h
  refine ⟨sa, cap, h1, fun hne => ?_⟩
  obtain ⟨b, o, h3, h4⟩ := h2 hne
  refine ⟨b, o, h3, fun i e he => ?_⟩
  obtain ⟨pv, gv, ev, fv, lv, h5, h6⟩ := h4 i e he
  exact ⟨pv, gv, ev, fv, lv, h5.below hb, fun j u hu => cell_below hb (h6 j u hu)⟩
def CfgAt (w : World) (v : Value) (c : CfgD) : Prop := ∃ sv, v = .agg #[.int .i64 c.closed, .int .i64 c.opn, .int .i64 c.cycle, .int .i64 c.delay, sv] ∧ EntsAt w sv c.ents
theorem CfgAt.below {w w' : World} {v : Value} {c : CfgD} (h : CfgAt w v c) (hb : Below w.heap.size w w') : CfgAt w' v c := by
  obtain ⟨sv, h1, h2⟩ := h
  exact ⟨sv, h1, h2.below hb⟩
/-- Not so many that a counter would turn. -/
structure SmallE (e : EntD) : Prop where
  hn : e.name.size ≤ 1000000
  hp : e.pts.length ≤ 1000000
  hs : ∀ p ∈ e.pts, p.size ≤ 1000000
  hg : e.gaps.length ≤ 1000000
  he : e.edges.length ≤ 1000000
  hf : e.first.length ≤ 1000000
  hl : e.last.length ≤ 1000000
structure SmallC (c : CfgD) : Prop where
  hn : c.ents.length ≤ 1000000
  he : ∀ e ∈ c.ents, SmallE e

theorem within_at (n a b : Int) (w : World) : Calls Tryz.prog 34 #[.int .i64 n, .int .i64 a, .int .i64 b] w fun e w' => e = .returned (.bool (within n a b)) ∧ w' = w := by
  by_cases h1 : a ≤ n
  · by_cases h2 : n ≤ b
    all_goals
      go_enter Tryz.func34, Tryz.ntmps34
      go_wp2
      go_ret
      exact ⟨by simp [within, h1, h2], rfl⟩
  · go_enter Tryz.func34, Tryz.ntmps34
    go_wp2
    go_ret
    exact ⟨by simp [within]; omega, rfl⟩
theorem isLetter_at (b : UInt8) (w : World) : Calls Tryz.prog 57 #[.int .u8 (b.toNat : Int)] w fun e w' => e = .returned (.bool (isLetter b)) ∧ w' = w := by
  have hb : isLetter b = (decide ((97 : Int) ≤ (b.toNat : Int)) && decide ((b.toNat : Int) ≤ 122)) := by
    unfold isLetter
    congr 1 <;> exact decide_eq_decide.2 (by omega)
  rw [hb]
  generalize (b.toNat : Int) = n
  by_cases h1 : 97 ≤ n
  · by_cases h2 : n ≤ 122
    all_goals
      go_enter Tryz.func57, Tryz.ntmps57
      go_wp2
      go_ret
      exact ⟨by simp [h1, h2], rfl⟩
  · go_enter Tryz.func57, Tryz.ntmps57
    go_wp2
    go_ret
    exact ⟨by simp; omega, rfl⟩
theorem isDigit_at (b : UInt8) (w : World) : Calls Tryz.prog 58 #[.int .u8 (b.toNat : Int)] w fun e w' => e = .returned (.bool (isDig b)) ∧ w' = w := by
  have hb : isDig b = (decide ((48 : Int) ≤ (b.toNat : Int)) && decide ((b.toNat : Int) ≤ 57)) := by
    unfold isDig
    congr 1 <;> exact decide_eq_decide.2 (by omega)
  rw [hb]
  generalize (b.toNat : Int) = n
  by_cases h1 : 48 ≤ n
  · by_cases h2 : n ≤ 57
    all_goals
      go_enter Tryz.func58, Tryz.ntmps58
      go_wp2
      go_ret
      exact ⟨by simp [h1, h2], rfl⟩
  · go_enter Tryz.func58, Tryz.ntmps58
    go_wp2
    go_ret
    exact ⟨by simp; omega, rfl⟩
theorem dogNew_ok (c o : Int) (w : World) (h : (within c 0 1000 && within o 1 1000) = true) : Calls Tryz.prog 56 #[.int .i64 c, .int .i64 o] w fun e w' => e = .returned (.tuple #[.pointer (some ⟨w.heap.size, 0, none⟩), .nilIface]) ∧ Below w.heap.size w w' := by
  simp [within] at h
  have g1 : ¬ c < 0 := by omega
  have g2 : ¬ 1000 < c := by omega
  have g3 : ¬ o < 1 := by omega
  have g4 : ¬ 1000 < o := by omega
  clear h
  go_enter Tryz.func56, Tryz.ntmps56
  go_wp2
  go_ret2
  exact ⟨rfl, (Below.refl _ _).alloc (Nat.le_refl _) _⟩
theorem dogNew_bad (A : Nat → Addr) (c o : Int) (w : World) (hs : Senv A w) (h : (within c 0 1000 && within o 1 1000) = false) : Calls Tryz.prog 56 #[.int .i64 c, .int .i64 o] w fun e w' => e = .returned (.tuple #[.pointer none, .iface 211 (.pointer (some (A 1)))]) ∧ Below w.heap.size w w' := by
  have hc := hs.c1
  simp [within] at h
  by_cases g1 : c < 0
  · clear h
    go_enter Tryz.func56, Tryz.ntmps56
    go_wp2_with fail
    go_quiet (fail)
    go_wp2
    go_ret2
    exact ⟨rfl, below_drewN (Below.refl _ _) _⟩
  by_cases g2 : 1000 < c
  · clear h
    go_enter Tryz.func56, Tryz.ntmps56
    go_wp2_with fail
    go_quiet (fail)
    go_wp2
    go_ret2
    exact ⟨rfl, below_drewN (Below.refl _ _) _⟩
  by_cases g3 : o < 1
  · clear h
    go_enter Tryz.func56, Tryz.ntmps56
    go_wp2_with fail
    go_quiet (fail)
    go_wp2
    go_ret2
    exact ⟨rfl, below_drewN (Below.refl _ _) _⟩
  · have g4 : 1000 < o := by omega
    clear h
    go_enter Tryz.func56, Tryz.ntmps56
    go_wp2_with fail
    go_quiet (fail)
    go_wp2
    go_ret2
    exact ⟨rfl, below_drewN (Below.refl _ _) _⟩
theorem isWindow_at (A : Nat → Addr) (c o : Int) (w : World) (hs : Senv A w) : Calls Tryz.prog 32 #[.int .i64 c, .int .i64 o] w fun e w' => e = .returned (.bool (within c 0 1000 && within o 1 1000)) ∧ Below w.heap.size w w' := by
  cases h : (within c 0 1000 && within o 1 1000) with
  | true =>
    have dn := dogNew_ok c o w h
    go_enter Tryz.func32, Tryz.ntmps32
    go_wp2_with fail
    refine dn.mono ?_
    rintro e w' ⟨rfl, hb⟩
    go_wp2
    go_ret
    exact ⟨rfl, hb⟩
  | false =>
    have dn := dogNew_bad A c o w hs h
    go_enter Tryz.func32, Tryz.ntmps32
    go_wp2_with fail
    refine dn.mono ?_
    rintro e w' ⟨rfl, hb⟩
    go_wp2
    go_ret
    exact ⟨rfl, hb⟩
end Go.Proofs.YthcclmibcfhckabGreatDoor
