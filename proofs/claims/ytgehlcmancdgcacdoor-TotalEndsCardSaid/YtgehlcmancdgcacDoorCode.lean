/-
  plain.Code told by contracts: nil is 0; a sentinel is its place in the list, and one more; a Fault round a sentinel is that, and the Fault's place; another error of errors.New's make is -1. Nothing that was there turns. Condition: the eleven sentinels are in memory, each another one ('Senv').
-/
import Derived.Test.YtgehlcmancdgcacDoorAs
import Derived.Outline
namespace Go.Proofs.YtgehlcmancdgcacDoor
open Go.RowKit Go.Extern.Stop Go.Stop Go.Extern

/-- The eleven sentinels (at A 0 .. A 10) and errors.errorType, as start-up lays them. -/
structure Senv (A : Nat → Addr) (w : World) : Prop where
  c0 : w.cell? ⟨4, 0, none⟩ = some (.iface 155 (.pointer (some (A 0))))
  c1 : w.cell? ⟨3, 0, none⟩ = some (.iface 155 (.pointer (some (A 1))))
  c2 : w.cell? ⟨5, 0, none⟩ = some (.iface 155 (.pointer (some (A 2))))
  c3 : w.cell? ⟨6, 0, none⟩ = some (.iface 155 (.pointer (some (A 3))))
  c4 : w.cell? ⟨2, 0, none⟩ = some (.iface 155 (.pointer (some (A 4))))
  c5 : w.cell? ⟨7, 0, none⟩ = some (.iface 155 (.pointer (some (A 5))))
  c6 : w.cell? ⟨8, 0, none⟩ = some (.iface 155 (.pointer (some (A 6))))
  c7 : w.cell? ⟨9, 0, none⟩ = some (.iface 155 (.pointer (some (A 7))))
  c8 : w.cell? ⟨1, 0, none⟩ = some (.iface 155 (.pointer (some (A 8))))
  c9 : w.cell? ⟨0, 0, none⟩ = some (.iface 155 (.pointer (some (A 9))))
  c10 : w.cell? ⟨10, 0, none⟩ = some (.iface 155 (.pointer (some (A 10))))
  et : w.cell? ⟨11, 0, none⟩ = some (.iface 138 (.agg #[.pointer (some ⟨12, 44, none⟩)]))
  row : ∀ i, i < 11 → ∃ c t, w.heap[(A i).block]? = some (.cells c t (0, 0))
  ne : ∀ i j, i < 11 → j < 11 → i ≠ j → A i ≠ A j

theorem Senv.below {A : Nat → Addr} {w w' : World} (h : Senv A w) (hb : Below w.heap.size w w') : Senv A w' :=
  ⟨cell_below hb h.c0, cell_below hb h.c1, cell_below hb h.c2, cell_below hb h.c3, cell_below hb h.c4, cell_below hb h.c5, cell_below hb h.c6, cell_below hb h.c7, cell_below hb h.c8, cell_below hb h.c9, cell_below hb h.c10, cell_below hb h.et,
    fun i hi => by obtain ⟨c, t, e⟩ := h.row i hi; exact ⟨c, t, row_below hb e⟩, h.ne⟩

theorem Senv.alloc {A : Nat → Addr} {w : World} (h : Senv A w) (o : Obj) : Senv A (w.alloc o) := h.below ((Below.refl _ _).alloc (Nat.le_refl _) _)

theorem is_same' (a b : Addr) (w : World) (h : a = b) :
    Calls Tryd.prog 46 #[.iface 155 (.pointer (some a)), .iface 155 (.pointer (some b))] w fun e w' => e = .returned (.bool true) ∧ w' = w := by
  subst h; exact is_same a w

/-- The list that Code makes, cell by cell. -/
def errCells (A : Nat → Addr) : Array Value := #[.iface 155 (.pointer (some (A 0))), .iface 155 (.pointer (some (A 1))), .iface 155 (.pointer (some (A 2))), .iface 155 (.pointer (some (A 3))), .iface 155 (.pointer (some (A 4))), .iface 155 (.pointer (some (A 5))), .iface 155 (.pointer (some (A 6))), .iface 155 (.pointer (some (A 7))), .iface 155 (.pointer (some (A 8))), .iface 155 (.pointer (some (A 9))), .iface 155 (.pointer (some (A 10)))]

theorem errCells_at (A : Nat → Addr) (w : World) (k : Nat) (hk : k < 11) : (w.alloc (.cells (errCells A) 44)).cell? ⟨w.heap.size, k, none⟩ = some (.iface 155 (.pointer (some (A k)))) := by
  rw [World.cell?_alloc_at _ _ _ _ rfl]
  match k, hk with
  | 0, _ => rfl
  | 1, _ => rfl
  | 2, _ => rfl
  | 3, _ => rfl
  | 4, _ => rfl
  | 5, _ => rfl
  | 6, _ => rfl
  | 7, _ => rfl
  | 8, _ => rfl
  | 9, _ => rfl
  | 10, _ => rfl

theorem ret2 {k l : IntKind} {a b c d : Int} (h : a = c) (h' : b = d) : Ending.returned (.tuple #[.int k a, .int l b]) = .returned (.tuple #[.int k c, .int l d]) := by rw [h, h']

/-- Code(nil). -/
theorem code_nil (w : World) : Calls Tryd.prog 34 #[.nilIface] w fun e w' => e = .returned (.tuple #[.int .i64 0, .int .i64 (-1)]) ∧ w' = w := by
  go_enter Tryd.func34, Tryd.ntmps34
  go_wp2
  go_ret2
  exact ⟨rfl, rfl⟩

set_option maxHeartbeats 1000000 in
theorem code_errs (A : Nat → Addr) (a : Addr) (j : Nat) (ca : Array Value) (ta : TypeId) (w : World) (hs : Senv A w) (hj : j ≤ 11) (hlt : ∀ i, i < j → a ≠ A i) (hit : j < 11 → a = A j) (ha : w.heap[a.block]? = some (.cells ca ta (0, 0))) :
    Calls Tryd.prog 34 #[.iface 155 (.pointer (some a))] w fun e w' => e = .returned (.tuple #[.int .i64 (if j < 11 then (j : Int) + 1 else -1), .int .i64 (-1)]) ∧ Below w.heap.size w w' := by
  have hs1 := hs.alloc (.cells #[.pointer none] 93)
  go_enter Tryd.func34, Tryd.ntmps34
  go_wp2_with fail
  refine (as_miss _ _ _ hs1.et).mono ?_
  rintro e w2 ⟨rfl, hb⟩
  obtain ⟨c0, c1, c2, c3, c4, c5, c6, c7, c8, c9, c10, -, hrow, -⟩ := hs1.below hb
  have ha2 := row_below hb (row_below ((Below.refl w.heap.size w).alloc (Nat.le_refl _) (.cells #[.pointer none] 93)) ha)
  have hb1 : Below w.heap.size w w2 := ((Below.refl w.heap.size w).alloc (Nat.le_refl _) _).trans (hb.mono (by simp))
  clear hs hs1 hb ha
  have hcell := errCells_at A w2
  have hrow3 : ∀ i, i < 11 → ∃ c t, (w2.alloc (.cells (errCells A) 44)).heap[(A i).block]? = some (.cells c t (0, 0)) := fun i hi => by
    obtain ⟨c, t, e⟩ := hrow i hi
    exact ⟨c, t, row_below ((Below.refl w2.heap.size w2).alloc (Nat.le_refl _) _) e⟩
  have ha3 := row_below ((Below.refl w2.heap.size w2).alloc (Nat.le_refl _) (.cells (errCells A) 44)) ha2
  have hb3 : Below w.heap.size w (w2.alloc (.cells (errCells A) 44)) := hb1.alloc hb1.size _
  unfold errCells at hcell hrow3 ha3 hb3
  go_wp2_with fail
  clear c0 c1 c2 c3 c4 c5 c6 c7 c8 c9 c10 hrow ha2 hb1
  go_loop [3, 29] (fun at3 i => at3 = .int .i64 (-1) ∧ ∃ k : Nat, k ≤ j ∧ i = .int .i64 k) (fun _ i => 11 - (intOf i).toNat)
  case atStart => exact ⟨rfl, 0, Nat.zero_le _, rfl⟩
  case round =>
    obtain ⟨rfl, k, hk, rfl⟩ := hrel
    by_cases hkj : k < j
    · have hne := hlt k hkj
      have h11 : k < 11 := by omega
      obtain ⟨cb, tb, hrk⟩ := hrow3 k h11
      have hck := hcell k h11
      clear hlt hit hrow3 hcell
      go_wp2_with fail
      refine (is_other _ _ ca cb ta tb _ hne ha3 hrk).mono ?_
      rintro e w' ⟨rfl, rfl⟩
      go_wp2
      go_round
      case rel => exact ⟨rfl, k + 1, by omega, by go_num⟩
      case measure => simp [intOf]; omega
    · have hkj2 : k = j := by omega
      by_cases h11 : k < 11
      · have hsame : a = A k := by rw [hkj2]; exact hit (by omega)
        have HS : Hid (a = A k) := hsame
        have HJ : Hid (k = j) := hkj2
        have hck := hcell k h11
        clear hlt hit hrow3 hcell hsame hkj2
        go_wp2_with fail
        refine (is_same' _ _ _ HS.out).mono ?_
        rintro e w' ⟨rfl, rfl⟩
        go_wp2
        go_ret2
        exact ⟨ret2 (by have hj' := HJ.out; first | omega | (rw [if_pos (by omega)]; omega)) rfl, hb3⟩
      · have HJ : Hid (k = j) := hkj2
        clear hlt hit hrow3 hcell hkj2
        go_wp2
        go_ret2
        exact ⟨ret2 (by have hj' := HJ.out; first | omega | (rw [if_neg (by omega)])) rfl, hb3⟩
set_option maxHeartbeats 1000000 in
theorem code_faults (A : Nat → Addr) (pb po : Nat) (n : Int) (j : Nat) (w : World) (hs : Senv A w) (hj : j < 11) (hn : w.cell? ⟨pb, po, none⟩ = some (.int .i64 n)) (he : w.cell? ⟨pb, po + 1, none⟩ = some (.iface 155 (.pointer (some (A j))))) :
    Calls Tryd.prog 34 #[.iface 93 (.pointer (some ⟨pb, po, none⟩))] w fun e w' => e = .returned (.tuple #[.int .i64 ((j : Int) + 1), .int .i64 n]) ∧ Below w.heap.size w w' := by
  have hs1 := hs.alloc (.cells #[.pointer none] 93)
  go_enter Tryd.func34, Tryd.ntmps34
  have hpl := block_lt hn
  have ht1 : (w.alloc (.cells #[.pointer none] 93)).cell? ⟨w.heap.size, 0, none⟩ = some (.pointer none) := by simp
  have hf1 : (w.alloc (.cells #[.pointer none] 93)).frozen? ⟨w.heap.size, 0, none⟩ = false := by simp
  go_wp2_with fail
  refine (as_hit _ _ _ _ hs1.et ht1 hf1).mono ?_
  rintro e w2 ⟨rfl, hw2⟩
  have hb1 : Below w.heap.size w w2 := by
    rw [hw2]
    refine Below.setCell ?_ (by simp) _
    refine Below.alloc (Below.alloc (Below.alloc (Below.alloc (Below.alloc (Below.refl _ _) (Nat.le_refl _) _) (by simp) _) (by simp; omega) _) (by simp; omega) _) (by simp; omega) _
  have hcf : w2.cell? ⟨w.heap.size, 0, none⟩ = some (.pointer (some ⟨pb, po, none⟩)) := by
    rw [hw2]
    refine World.cell?_setCell_same _ _ _ (u := .pointer none) ?_
    rw [World.cell?_alloc_lt _ _ ⟨w.heap.size, 0, none⟩ (by simp; omega), World.cell?_alloc_lt _ _ ⟨w.heap.size, 0, none⟩ (by simp; omega), World.cell?_alloc_lt _ _ ⟨w.heap.size, 0, none⟩ (by simp; omega), World.cell?_alloc_lt _ _ ⟨w.heap.size, 0, none⟩ (by simp)]
    exact ht1
  obtain ⟨c0, c1, c2, c3, c4, c5, c6, c7, c8, c9, c10, -, hrow, hnes⟩ := hs.below hb1
  have hn2 := cell_below hb1 hn
  have he2 := cell_below hb1 he
  clear hs hs1 hn he ht1 hf1 hw2
  have hcell := errCells_at A w2
  have hrow3 : ∀ i, i < 11 → ∃ c t, (w2.alloc (.cells (errCells A) 44)).heap[(A i).block]? = some (.cells c t (0, 0)) := fun i hi => by
    obtain ⟨c, t, e⟩ := hrow i hi
    exact ⟨c, t, row_below ((Below.refl w2.heap.size w2).alloc (Nat.le_refl _) _) e⟩
  have he3 := cell_below ((Below.refl w2.heap.size w2).alloc (Nat.le_refl _) (.cells (errCells A) 44)) he2
  have hb3 : Below w.heap.size w (w2.alloc (.cells (errCells A) 44)) := hb1.alloc hb1.size _
  unfold errCells at hcell hrow3 he3 hb3
  go_wp2_with fail
  clear c0 c1 c2 c3 c4 c5 c6 c7 c8 c9 c10 hrow hn2 he2 hcf hb1
  go_loop [3, 29] (fun at3 i => at3 = .int .i64 n ∧ ∃ k : Nat, k ≤ j ∧ i = .int .i64 k) (fun _ i => 11 - (intOf i).toNat)
  case atStart => exact ⟨rfl, 0, Nat.zero_le _, rfl⟩
  case round =>
    obtain ⟨rfl, k, hk, rfl⟩ := hrel
    by_cases hkj : k < j
    · have h11 : k < 11 := by omega
      have hne := hnes j k hj h11 (by omega)
      obtain ⟨ca, ta, ha3⟩ := hrow3 j hj
      obtain ⟨cb, tb, hrk⟩ := hrow3 k h11
      have hck := hcell k h11
      clear hnes hrow3 hcell
      go_wp2_with fail
      refine (is_fault_other _ _ _ _ ca cb ta tb _ he3 hne ha3 hrk).mono ?_
      rintro e w' ⟨rfl, rfl⟩
      go_wp2
      go_round
      case rel => exact ⟨rfl, k + 1, by omega, by go_num⟩
      case measure => simp [intOf]; omega
    · have hkj2 : k = j := by omega
      have HJ : Hid (k = j) := hkj2
      have h11 : k < 11 := by omega
      have hck := hcell k h11
      rw [← hkj2] at he3
      clear hnes hrow3 hcell hkj2
      go_wp2_with fail
      refine (is_fault_same _ _ _ _ he3).mono ?_
      rintro e w' ⟨rfl, rfl⟩
      go_wp2
      go_ret2
      exact ⟨ret2 (by have hj' := HJ.out; omega) rfl, hb3⟩

/-- coded(err, code), by Code's own answer. -/
theorem coded_of {err : Value} {code c n : Int} {w : World} {Q : World → Prop} (h : Calls Tryd.prog 34 #[err] w fun e w' => e = .returned (.tuple #[.int .i64 c, .int .i64 n]) ∧ Q w') :
    Calls Tryd.prog 11 #[err, .int .i64 code] w fun e w' => e = .returned (.bool (decide (c = code ∧ n = -1))) ∧ Q w' := by
  by_cases h1 : c = code
  · by_cases h2 : n = -1
    all_goals
      go_enter Tryd.func11, Tryd.ntmps11
      go_wp2_with fail
      refine h.mono ?_
      rintro e w' ⟨rfl, hq⟩
      go_wp2
      go_ret
      exact ⟨by simp [h1, h2], hq⟩
  · go_enter Tryd.func11, Tryd.ntmps11
    go_wp2_with fail
    refine h.mono ?_
    rintro e w' ⟨rfl, hq⟩
    go_wp2
    go_ret
    exact ⟨by simp [h1], hq⟩
/-- coded(sentinel j, code). -/
theorem coded_sent (A : Nat → Addr) (j : Nat) (code : Int) (w : World) (hs : Senv A w) (hj : j < 11) :
    Calls Tryd.prog 11 #[.iface 155 (.pointer (some (A j))), .int .i64 code] w fun e w' => e = .returned (.bool (decide ((j : Int) + 1 = code))) ∧ Below w.heap.size w w' := by
  obtain ⟨c, t, hr⟩ := hs.row j hj
  refine (coded_of (code := code) (code_errs A (A j) j c t w hs (by omega) (fun i hi => hs.ne j i hj (by omega) (by omega)) (fun _ => rfl) hr)).mono ?_
  rintro e w' ⟨rfl, hb⟩
  refine ⟨?_, hb⟩
  rw [if_pos hj]
  simp

/-- coded(nil, code). -/
theorem coded_nil (code : Int) (w : World) :
    Calls Tryd.prog 11 #[.nilIface, .int .i64 code] w fun e w' => e = .returned (.bool (decide (0 = code))) ∧ w' = w := by
  refine (coded_of (code := code) (code_nil w)).mono ?_
  rintro e w' ⟨rfl, hb⟩
  exact ⟨by simp, hb⟩
end Go.Proofs.YtgehlcmancdgcacDoor
