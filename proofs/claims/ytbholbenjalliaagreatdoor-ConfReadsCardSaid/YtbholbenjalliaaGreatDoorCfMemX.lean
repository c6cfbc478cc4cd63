/-
  A config in memory ('CfgAt'), an error as it is told ('ErrAt'), and the smallest functions of package conf by contracts. Conditions: the sentinels are in memory ('Senv'); what is read is in memory.
-/
import Derived.Test.YtbholbenjalliaaGreatDoorCodesX
import Derived.Test.YtbholbenjalliaaGreatDoorMemX
import Derived.BigQuiet
import Derived.Deep.QuietTactic
import Derived.Deep.DeepCutAuto
import Derived.WalkSmall
namespace Go.Proofs.YtbholbenjalliaaGreatDoor
open Go.RowKit Go.Extern.Stop Go.Stop Go.Extern

/-- The six sentinels that package conf tells (at A 0 .. A 5), as start-up lays them. -/
structure Sen6 (A : Nat → Addr) (w : World) : Prop where
  c0 : w.cell? ⟨1, 0, none⟩ = some (.iface 227 (.pointer (some (A 0))))
  c1 : w.cell? ⟨0, 0, none⟩ = some (.iface 227 (.pointer (some (A 1))))
  c2 : w.cell? ⟨2, 0, none⟩ = some (.iface 227 (.pointer (some (A 2))))
  c3 : w.cell? ⟨3, 0, none⟩ = some (.iface 227 (.pointer (some (A 3))))
  c4 : w.cell? ⟨4, 0, none⟩ = some (.iface 227 (.pointer (some (A 4))))
  c5 : w.cell? ⟨5, 0, none⟩ = some (.iface 227 (.pointer (some (A 5))))
  row : ∀ i, i < 6 → ∃ c t, w.heap[(A i).block]? = some (.cells c t (0, 0))
  ne : ∀ i j, i < 6 → j < 6 → i ≠ j → A i ≠ A j
theorem Sen6.below {A : Nat → Addr} {w w' : World} (h : Sen6 A w) (hb : Below w.heap.size w w') : Sen6 A w' :=
  ⟨cell_below hb h.c0, cell_below hb h.c1, cell_below hb h.c2, cell_below hb h.c3, cell_below hb h.c4, cell_below hb h.c5, fun i hi => by obtain ⟨c, t, e⟩ := h.row i hi; exact ⟨c, t, row_below hb e⟩, h.ne⟩
theorem Sen6.alloc {A : Nat → Addr} {w : World} (h : Sen6 A w) (o : Obj) : Sen6 A (w.alloc o) := h.below ((Below.refl _ _).alloc (Nat.le_refl _) _)
theorem Senv.six {A : Nat → Addr} {w : World} (h : Senv A w) : Sen6 A w :=
  ⟨h.c0, h.c1, h.c2, h.c3, h.c4, h.c5, fun i hi => h.row i (by omega), fun i j hi hj => h.ne i j (by omega) (by omega)⟩

/-- A sentinel's value, by its number; nil for 0. -/
def errV (A : Nat → Addr) : Nat → Value
  | 0 => .nilIface
  | j + 1 => .iface 227 (.pointer (some (A j)))
/-- An error as it is told: its number, and its place (-1: none). -/
def ErrAt (A : Nat → Addr) (w : World) (v : Value) (f : Nat × Int) : Prop :=
  f.1 ≤ 11 ∧ ((f.2 = -1 ∧ v = errV A f.1) ∨ (0 < f.1 ∧ ∃ b, v = .iface 73 (.pointer (some ⟨b, 0, none⟩)) ∧ w.cell? ⟨b, 0, none⟩ = some (.int .i64 f.2) ∧ w.cell? ⟨b, 1, none⟩ = some (errV A f.1)))
theorem ErrAt.below {A : Nat → Addr} {w w' : World} {v : Value} {f : Nat × Int} (h : ErrAt A w v f) (hb : Below w.heap.size w w') : ErrAt A w' v f := by
  obtain ⟨h1, h2 | ⟨h2, b, h3, h4, h5⟩⟩ := h
  · exact ⟨h1, Or.inl h2⟩
  · exact ⟨h1, Or.inr ⟨h2, b, h3, cell_below hb h4, cell_below hb h5⟩⟩

theorem within_at (n a b : Int) (w : World) : Calls Tryz.prog 47 #[.int .i64 n, .int .i64 a, .int .i64 b] w fun e w' => e = .returned (.bool (within n a b)) ∧ w' = w := by
  by_cases h1 : a ≤ n
  · by_cases h2 : n ≤ b
    all_goals
      go_enter Tryz.func47, Tryz.ntmps47
      go_wp2
      go_ret
      exact ⟨by simp [within, h1, h2], rfl⟩
  · go_enter Tryz.func47, Tryz.ntmps47
    go_wp2
    go_ret
    exact ⟨by simp [within]; omega, rfl⟩
theorem isLetter_at (b : UInt8) (w : World) : Calls Tryz.prog 76 #[.int .u8 (b.toNat : Int)] w fun e w' => e = .returned (.bool (isLetter b)) ∧ w' = w := by
  have hb : isLetter b = (decide ((97 : Int) ≤ (b.toNat : Int)) && decide ((b.toNat : Int) ≤ 122)) := by
    unfold isLetter
    congr 1 <;> exact decide_eq_decide.2 (by omega)
  rw [hb]
  generalize (b.toNat : Int) = n
  by_cases h1 : 97 ≤ n
  · by_cases h2 : n ≤ 122
    all_goals
      go_enter Tryz.func76, Tryz.ntmps76
      go_wp2
      go_ret
      exact ⟨by simp [h1, h2], rfl⟩
  · go_enter Tryz.func76, Tryz.ntmps76
    go_wp2
    go_ret
    exact ⟨by simp; omega, rfl⟩
theorem isDigit_at (b : UInt8) (w : World) : Calls Tryz.prog 77 #[.int .u8 (b.toNat : Int)] w fun e w' => e = .returned (.bool (isDig b)) ∧ w' = w := by
  have hb : isDig b = (decide ((48 : Int) ≤ (b.toNat : Int)) && decide ((b.toNat : Int) ≤ 57)) := by
    unfold isDig
    congr 1 <;> exact decide_eq_decide.2 (by omega)
  rw [hb]
  generalize (b.toNat : Int) = n
  by_cases h1 : 48 ≤ n
  · by_cases h2 : n ≤ 57
    all_goals
      go_enter Tryz.func77, Tryz.ntmps77
      go_wp2
      go_ret
      exact ⟨by simp [h1, h2], rfl⟩
  · go_enter Tryz.func77, Tryz.ntmps77
    go_wp2
    go_ret
    exact ⟨by simp; omega, rfl⟩
theorem dogNew_ok (c o : Int) (w : World) (h : (within c 0 1000 && within o 1 1000) = true) : Calls Tryz.prog 75 #[.int .i64 c, .int .i64 o] w fun e w' => e = .returned (.tuple #[.pointer (some ⟨w.heap.size, 0, none⟩), .nilIface]) ∧ Below w.heap.size w w' := by
  simp [within] at h
  have g1 : ¬ c < 0 := by omega
  have g2 : ¬ 1000 < c := by omega
  have g3 : ¬ o < 1 := by omega
  have g4 : ¬ 1000 < o := by omega
  clear h
  go_enter Tryz.func75, Tryz.ntmps75
  go_wp2
  go_ret2
  exact ⟨rfl, (Below.refl _ _).alloc (Nat.le_refl _) _⟩
theorem dogNew_bad (A : Nat → Addr) (c o : Int) (w : World) (hs : Sen6 A w) (h : (within c 0 1000 && within o 1 1000) = false) : Calls Tryz.prog 75 #[.int .i64 c, .int .i64 o] w fun e w' => e = .returned (.tuple #[.pointer none, .iface 227 (.pointer (some (A 1)))]) ∧ Below w.heap.size w w' := by
  have hc := hs.c1
  simp [within] at h
  by_cases g1 : c < 0
  · clear h
    go_enter Tryz.func75, Tryz.ntmps75
    go_wp2_with fail
    go_quiet (fail)
    go_wp2
    go_ret2
    exact ⟨rfl, below_drewN (Below.refl _ _) _⟩
  by_cases g2 : 1000 < c
  · clear h
    go_enter Tryz.func75, Tryz.ntmps75
    go_wp2_with fail
    go_quiet (fail)
    go_wp2
    go_ret2
    exact ⟨rfl, below_drewN (Below.refl _ _) _⟩
  by_cases g3 : o < 1
  · clear h
    go_enter Tryz.func75, Tryz.ntmps75
    go_wp2_with fail
    go_quiet (fail)
    go_wp2
    go_ret2
    exact ⟨rfl, below_drewN (Below.refl _ _) _⟩
  · have g4 : 1000 < o := by omega
    clear h
    go_enter Tryz.func75, Tryz.ntmps75
    go_wp2_with fail
    go_quiet (fail)
    go_wp2
    go_ret2
    exact ⟨rfl, below_drewN (Below.refl _ _) _⟩
theorem isWindow_at (A : Nat → Addr) (c o : Int) (w : World) (hs : Sen6 A w) : Calls Tryz.prog 45 #[.int .i64 c, .int .i64 o] w fun e w' => e = .returned (.bool (within c 0 1000 && within o 1 1000)) ∧ Below w.heap.size w w' := by
  cases h : (within c 0 1000 && within o 1 1000) with
  | true =>
    have dn := dogNew_ok c o w h
    go_enter Tryz.func45, Tryz.ntmps45
    go_wp2_with fail
    refine dn.mono ?_
    rintro e w' ⟨rfl, hb⟩
    go_wp2
    go_ret
    exact ⟨rfl, hb⟩
  | false =>
    have dn := dogNew_bad A c o w hs h
    go_enter Tryz.func45, Tryz.ntmps45
    go_wp2_with fail
    refine dn.mono ?_
    rintro e w' ⟨rfl, hb⟩
    go_wp2
    go_ret
    exact ⟨rfl, hb⟩
end Go.Proofs.YtbholbenjalliaaGreatDoor
