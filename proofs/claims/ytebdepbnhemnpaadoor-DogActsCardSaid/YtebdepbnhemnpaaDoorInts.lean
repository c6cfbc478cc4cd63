/-
  A list of numbers that a law is handed, read: it lies in memory ('IntsAt'). No condition.
-/
import Derived.Test.YtebdepbnhemnpaaDoorWinWalk
import Derived.ProofKit
import Derived.OpenShut
import Derived.Deep.Slices
import Derived.Carry
namespace Go.Proofs.YtebdepbnhemnpaaDoor
open Go.ChangeShapes Go.WideShapes Go.ChangeAt Go.RowKit Go.Deep

theorem Tryd.laidOutI : laidOutB Tryd.prog = true := by kernel_rfl
theorem Tryd.cellsIntI : Tryd.prog.cellsOf 3 = 1 := by kernel_rfl

theorem spotI_none {W : World} {a : Addr} {v : Value} (h : W.cell? a = some v) : a = ⟨a.block, a.off, none⟩ := by
  obtain ⟨b, o, s⟩ := a
  cases s with
  | none => rfl
  | some x =>
    exfalso
    unfold World.cell? at h
    split at h
    · simp at h
    · cases h
theorem addI_plain (b o j : Nat) : (⟨b, o, none⟩ : Addr).add j = ⟨b, o + j, none⟩ := by unfold Addr.add; split <;> simp_all

theorem ints_of_trod {H : Type} {enc : TypeId × Value → H} {W : World} {fuel : Nat} {sa : Option Addr} {len cap : Nat} {x : DataW H × List MemPlace}
    (h : DataW.trod enc Tryd.prog W 0 (fun _ => true) true fuel 22 [.slice sa len cap] = some x) :
    ∃ (g o : Nat) (l : Nat → Int), len ≤ maxLen ∧ (0 < len → sa = some ⟨g, o, none⟩) ∧ IntsAt W g o len l ∧ ∀ i, i < len → -9223372036854775808 ≤ l i ∧ l i ≤ 9223372036854775807 := by
  rcases open_slice Tryd.underlying22 h with ⟨hcs, -⟩ | ⟨a, len', cap', m, n, D, Pl, hcs, -, hlc, hcm, hm, -, hel⟩
  · simp at hcs
    obtain ⟨rfl, rfl, rfl⟩ := hcs
    exact ⟨0, 0, fun _ => 0, Nat.zero_le _, fun h => absurd h (by omega), ⟨fun i h => absurd h (by omega)⟩, fun i h => absurd h (by omega)⟩
  · simp only [List.cons.injEq, Value.slice.injEq, and_true] at hcs
    obtain ⟨rfl, rfl, rfl⟩ := hcs
    simp only [if_true] at hm
    subst hm
    rw [Tryd.cellsIntI] at hel
    have hall : ∀ i, i < len → ∃ z : Int, W.cell? (a.add i) = some (.int .i64 z) ∧ -9223372036854775808 ≤ z ∧ z ≤ 9223372036854775807 := fun i hi => by
      obtain ⟨cs', h1, h2⟩ := hel i (by omega)
      obtain ⟨z, q, -, wz⟩ := DataW.trod_int Tryd.underlying3 h2
      subst q
      refine ⟨z, ?_, bounds_i64 wz⟩
      unfold World.cells? at h1
      rw [if_pos (Nat.zero_le _)] at h1
      have hr : List.range 1 = [0] := by decide
      rw [hr, Nat.mul_one] at h1
      simp only [List.mapM_cons, List.mapM_nil] at h1
      have e0 : (a.add i).add 0 = a.add i := by simp [Addr.add]
      rw [e0] at h1
      cases hc : W.cell? (a.add i) with
      | none => simp [hc] at h1
      | some v => simp [hc] at h1; rw [h1]
    have hex : ∃ f : Nat → Int, ∀ i, i < len → W.cell? (a.add i) = some (.int .i64 (f i)) ∧ -9223372036854775808 ≤ f i ∧ f i ≤ 9223372036854775807 := by
      classical
      refine ⟨fun i => if hi : i < len then Classical.choose (hall i hi) else 0, fun i hi => ?_⟩
      simp only [dif_pos hi]
      exact Classical.choose_spec (hall i hi)
    obtain ⟨l, hl⟩ := hex
    have hsp : 0 < len → a = ⟨a.block, a.off, none⟩ := fun hpos => by
      have h0 := (hl 0 hpos).1
      have e : a.add 0 = a := by simp [Addr.add]
      rw [e] at h0
      exact spotI_none h0
    refine ⟨a.block, a.off, l, Nat.le_trans hlc hcm, fun hpos => congrArg some (hsp hpos), ⟨fun i hi => ?_⟩, fun i hi => (hl i hi).2⟩
    have hc := (hl i hi).1
    rw [hsp (by omega)] at hc
    simp only [addI_plain] at hc
    exact hc
end Go.Proofs.YtebdepbnhemnpaaDoor
