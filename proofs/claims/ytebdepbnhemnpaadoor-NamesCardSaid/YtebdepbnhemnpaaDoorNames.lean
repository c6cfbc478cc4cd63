/-
  nightwatchlaw1.Names told by a contract: it answers true, and nothing that was there turns. Condition: the eleven sentinels are in memory, each another one ('Senv').
-/
import Derived.Test.YtebdepbnhemnpaaDoorCode
import Derived.BigQuiet
import Derived.Deep.QuietTactic
import Derived.WalkSmall
namespace Go.Proofs.YtebdepbnhemnpaaDoor
open Go.RowKit Go.Extern.Stop Go.Stop Go.Extern

set_option maxHeartbeats 400000 in
/-- SameInts of two slices that hold the same numbers. -/
theorem sameInts_same (b1 b2 n c1 c2 : Nat) (zs : Nat → Int) (w : World) (hn : n ≤ 1000000) (h1 : ∀ i, i < n → w.cell? ⟨b1, i, none⟩ = some (.int .i64 (zs i))) (h2 : ∀ i, i < n → w.cell? ⟨b2, i, none⟩ = some (.int .i64 (zs i))) :
    Calls Tryd.prog 13 #[.slice (some ⟨b1, 0, none⟩) n c1, .slice (some ⟨b2, 0, none⟩) n c2] w fun e w' => e = .returned (.bool true) ∧ Below w.heap.size w w' := by
  go_enter Tryd.func13, Tryd.ntmps13
  go_wp2
  go_loopw [5] (fun i wr => ∃ k : Nat, k ≤ n ∧ i = .int .i64 k ∧ Below w.heap.size w wr) (fun i _ => n - (intOf i).toNat)
  case atStart => exact ⟨0, Nat.zero_le _, rfl, Below.refl _ _⟩
  case round =>
    obtain ⟨k, hk, rfl, hb⟩ := hrel
    by_cases hlt : k < n
    · have g1 := cell_below hb (h1 k hlt)
      have g2 := cell_below hb (h2 k hlt)
      have hlt' : (k : Int) < (n : Int) := by omega
      clear h1 h2
      go_wp2_with fail
      go_quiet (fail)
      go_wp2
      go_roundw
      case rel => exact ⟨k + 1, by omega, by go_num, below_drewN hb _⟩
      case measure => simp [intOf]; omega
    · clear h1 h2
      go_wp2
      go_ret
      exact ⟨rfl, hb⟩

/-- errors.New(text). -/
theorem new_any (s : ByteArray) (w : World) :
    Calls Tryd.prog 16 #[.string s] w fun e w' => e = .returned (.iface 95 (.pointer (some ⟨w.heap.size, 0, none⟩))) ∧ w' = w.alloc (.cells #[.string s] 97) := by
  go_enter Tryd.func16, Tryd.ntmps16
  go_wp2
  go_ret
  exact ⟨rfl, rfl⟩

def apiNumbers : Array Value := #[.int .i64 4096, .int .i64 8, .int .i64 17, .int .i64 1099511627776, .int .i64 1000, .int .i64 100, .int .i64 20, .int .i64 20, .int .i64 1000, .int .i64 8, .int .i64 16, .int .i64 8, .int .i64 64, .int .i64 12, .int .i64 8000, .int .i64 3000, .int .i64 100, .int .i64 16, .int .i64 1, .int .i64 2, .int .i64 3]
def apiNumber (i : Nat) : Int := ([4096, 8, 17, 1099511627776, 1000, 100, 20, 20, 1000, 8, 16, 8, 64, 12, 8000, 3000, 100, 16, 1, 2, 3] : List Int).getD i 0
theorem apiNumbers_at (i : Nat) (h : i < 21) : apiNumbers[i]? = some (.int .i64 (apiNumber i)) := by
  match i, h with
  | 0, _ => rfl
  | 1, _ => rfl
  | 2, _ => rfl
  | 3, _ => rfl
  | 4, _ => rfl
  | 5, _ => rfl
  | 6, _ => rfl
  | 7, _ => rfl
  | 8, _ => rfl
  | 9, _ => rfl
  | 10, _ => rfl
  | 11, _ => rfl
  | 12, _ => rfl
  | 13, _ => rfl
  | 14, _ => rfl
  | 15, _ => rfl
  | 16, _ => rfl
  | 17, _ => rfl
  | 18, _ => rfl
  | 19, _ => rfl
  | 20, _ => rfl
  | n + 21, h => exact absurd h (by omega)

set_option maxHeartbeats 2000000 in
theorem names_any (A : Nat → Addr) (w : World) (hs : Senv A w) :
    Calls Tryd.prog 3 #[] w fun e w' => e = .returned (.bool true) ∧ Below w.heap.size w w' := by
  have hb0 : Below w.heap.size w ((w.alloc (.cells apiNumbers 3)).alloc (.cells apiNumbers 3)) := ((Below.refl _ _).alloc (Nat.le_refl _) _).alloc (by simp) _
  have n2 : ∀ i, i < 21 → ((w.alloc (.cells apiNumbers 3)).alloc (.cells apiNumbers 3)).cell? ⟨w.heap.size + 1, i, none⟩ = some (.int .i64 (apiNumber i)) := fun i hi => by
    rw [World.cell?_alloc_at _ _ _ _ (by simp)]; exact apiNumbers_at i hi
  have n1 : ∀ i, i < 21 → ((w.alloc (.cells apiNumbers 3)).alloc (.cells apiNumbers 3)).cell? ⟨w.heap.size, i, none⟩ = some (.int .i64 (apiNumber i)) := fun i hi => by
    rw [World.cell?_alloc_lt _ _ ⟨w.heap.size, i, none⟩ (by simp), World.cell?_alloc_at _ _ _ _ rfl]; exact apiNumbers_at i hi
  have hs0 := hs.below hb0
  unfold apiNumbers at n1 n2 hb0 hs0
  go_enter Tryd.func3, Tryd.ntmps3
  go_wp2_with fail
  refine (sameInts_same _ _ 21 _ _ apiNumber _ (by omega) n1 n2).mono ?_
  rintro e w1 ⟨rfl, hb1⟩
  have hb2 : Below w.heap.size w w1 := hb0.trans (hb1.mono (by simp; omega))
  have hs1 := hs0.below hb1
  clear hb0 hb1 hs0 hs n1 n2
  have hcell := errCells_at A w1
  have hs3 := hs1.alloc (.cells (errCells A) 25)
  have hb3 : Below w.heap.size w (w1.alloc (.cells (errCells A) 25)) := hb2.alloc hb2.size _
  unfold errCells at hcell hb3 hs3
  obtain ⟨c0, c1, c2, c3, c4, c5, c6, c7, c8, c9, c10, -, -, -⟩ := hs1
  go_wp2_with fail
  clear c0 c1 c2 c3 c4 c5 c6 c7 c8 c9 c10
  go_loopw [4] (fun i wr => ∃ k : Nat, k ≤ 11 ∧ i = .int .i64 k ∧ Below w.heap.size w wr ∧ Senv A wr ∧ ∀ i, i < 11 → wr.cell? ⟨w1.heap.size, i, none⟩ = some (.iface 95 (.pointer (some (A i))))) (fun i _ => 11 - (intOf i).toNat)
  case atStart => exact ⟨0, Nat.zero_le _, rfl, hb3, hs3, hcell⟩
  case round =>
    clear hcell hb3 hs3 hb2
    obtain ⟨k, hk, rfl, hb, hse, hc⟩ := hrel
    by_cases hlt : k < 11
    · have hck := hc k hlt
      have HC : Hid _ := hc
      clear hc
      go_wp2_with fail
      refine (code_faults A _ _ 7 k _ (hse.alloc _) hlt (by simp) (by simp)).mono ?_
      rintro e w2 ⟨rfl, hb2⟩
      have hbx : Below wr.heap.size wr w2 := ((Below.refl _ _).alloc (Nat.le_refl _) _).trans (hb2.mono (by simp))
      have hse2 := hse.below hbx
      have hck2 := cell_below hbx hck
      have hc2 : Hid (∀ i, i < 11 → w2.cell? ⟨w1.heap.size, i, none⟩ = some (.iface 95 (.pointer (some (A i))))) := fun i hi => cell_below hbx (HC.out i hi)
      have hb3 : Below w.heap.size w w2 := hb.trans (hbx.mono hb.size)
      have e1 : decide ((k : Int) + 1 = (k : Int) + 1) = true := by simp
      have e2 : ((k : Int) + 1 != (k : Int) + 1) = false := by simp
      clear hb hse hck HC hb2 hbx
      go_wp2_with fail
      refine (coded_sent A k _ _ hse2 hlt).mono ?_
      rintro e w3 ⟨rfl, hb4⟩
      have hse3 := hse2.below hb4
      have hc3 : Hid (∀ i, i < 11 → w3.cell? ⟨w1.heap.size, i, none⟩ = some (.iface 95 (.pointer (some (A i))))) := fun i hi => cell_below hb4 (hc2.out i hi)
      have hb5 : Below w.heap.size w w3 := hb3.trans (hb4.mono hb3.size)
      clear hb3 hb4 hse2 hc2 hck2
      go_wp2
      go_roundw
      case rel => exact ⟨k + 1, by omega, by go_num, hb5, hse3, hc3.out⟩
      case measure => simp [intOf]; omega
    · clear hc
      have hlt2 : ∀ i, i < 11 → (⟨wr.heap.size, 0, none⟩ : Addr) ≠ A i := fun i hi h => by
        obtain ⟨c, t, e⟩ := hse.row i hi
        have := lt_of_row e
        rw [← h] at this
        simp at this
      have hs2 := hse.alloc (.cells #[.string ⟨#[97, 110, 111, 116, 104, 101, 114, 32, 111, 110, 101]⟩] 97)
      have hr2 : (wr.alloc (.cells #[.string ⟨#[97, 110, 111, 116, 104, 101, 114, 32, 111, 110, 101]⟩] 97)).heap[(⟨wr.heap.size, 0, none⟩ : Addr).block]? = some (.cells #[.string ⟨#[97, 110, 111, 116, 104, 101, 114, 32, 111, 110, 101]⟩] 97 (0, 0)) := by
        show (wr.heap.push _)[wr.heap.size]? = _
        simp
      go_wp2_with fail
      refine (new_any _ _).mono ?_
      rintro e w2 ⟨rfl, rfl⟩
      go_wp2_with fail
      refine (code_errs A _ 11 _ _ _ hs2 (Nat.le_refl _) hlt2 (fun h => absurd h (by omega)) hr2).mono ?_
      rintro e w2 ⟨rfl, hb2⟩
      have hb3 : Below w.heap.size w w2 := (hb.alloc hb.size _).trans (hb2.mono (by have := hb.size; simp; omega))
      clear hb hse hlt2 hs2 hr2 hb2
      go_wp2_with fail
      refine (coded_nil _ _).mono ?_
      rintro e w3 ⟨rfl, rfl⟩
      go_wp2
      go_ret
      exact ⟨rfl, hb3⟩
end Go.Proofs.YtebdepbnhemnpaaDoor
