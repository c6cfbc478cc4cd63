/-
  nightwatchlaw2.laterFit and nightwatchlaw2.GapsEnds told by contracts: the last answers true; nothing that was there turns. Conditions: what it is handed lies in memory.
-/
import Derived.Test.YtcnfkdecghdphabGvWalk
import Derived.Test.YtcnfkdecghdphabGeRef
import Derived.Test.YtcnfkdecghdphabCfHeavyE
namespace Go.Proofs.Ytcnfkdecghdphab
open Go.RowKit Go.Extern.Stop Go.Stop Go.Extern

/-- A report as it is handed in. -/
structure RepD where
  pt : Int
  later : Int
  en : Bool
def encR (r : RepD) : List Value := [.int .i64 r.pt, .int .i64 r.later, .bool r.en]
def fitR (r : RepD) : Bool := decide (0 ≤ r.later) && decide (r.later ≤ 1073741824)
def fitL (l : List RepD) : Bool := l.all fitR && decide (l.length ≤ 100)

set_option maxHeartbeats 1000000 in
set_option maxRecDepth 100000 in
theorem later_at (sl : Option Addr) (reps : List RepD) (slc : Nat) (w : World) (hR : SlAt encR 3 w (.slice sl reps.length slc) reps) (hn : reps.length ≤ 9223372036854775807) :
    Calls Try.prog 18 #[.slice sl reps.length slc] w fun e w' => e = .returned (.bool (fitL reps)) ∧ w' = w := by
  have HR : Hid (SlAt encR 3 w (.slice sl reps.length slc) reps) := hR
  clear hR
  go_enter Try.func18, Try.ntmps18
  go_wp2_with fail
  go_loopw [3] (fun i wr => wr = w ∧ ∃ k : Nat, k ≤ reps.length ∧ i = .int .i64 k ∧ ∀ j r, j < k → reps[j]? = some r → fitR r = true) (fun i _ => reps.length - (intOf i).toNat)
  case atStart => exact ⟨rfl, 0, Nat.zero_le _, rfl, fun j r hj => absurd hj (by omega)⟩
  case round =>
    obtain ⟨rfl, k, hk, rfl, hfit⟩ := hrel
    have HF : Hid (∀ j r, j < k → reps[j]? = some r → fitR r = true) := hfit
    clear hfit
    by_cases hlt : k < reps.length
    · have k1 : (k : Int) < (reps.length : Int) := by omega
      obtain ⟨r, hr⟩ : ∃ r, reps[k]? = some r := ⟨_, List.getElem?_eq_getElem hlt⟩
      obtain ⟨sa', cap', hsl, -, hcc⟩ := id HR.out
      cases hsl
      obtain ⟨g, o, rfl, hc0⟩ := hcc (fun h => by rw [h] at hr; simp at hr)
      have c1 := hc0 k _ hr 1 _ rfl
      have HRk : Hid (reps[k]? = some r) := hr
      clear hcc hc0 hr
      have HNo : Hid (fitR r = false → fitL reps = false) := fun h => by
        unfold fitL
        rw [Bool.and_eq_false_iff]
        left
        rw [List.all_eq_false]
        exact ⟨r, List.mem_of_getElem? HRk.out, by rw [h]; simp⟩
      by_cases g1 : r.later < 0
      · have HE : Hid (fitL reps = false) := HNo.out (by unfold fitR; rw [decide_eq_false (by omega)]; rfl)
        go_wp2
        go_ret
        exact ⟨by rw [HE.out]; rfl, rfl⟩
      · by_cases g2 : 1073741824 < r.later
        · have HE : Hid (fitL reps = false) := HNo.out (by unfold fitR; rw [decide_eq_false (p := r.later ≤ _) (by omega), Bool.and_false])
          go_wp2
          go_ret
          exact ⟨by rw [HE.out]; rfl, rfl⟩
        · have HFk : Hid (fitR r = true) := by show _ = _; unfold fitR; rw [decide_eq_true (by omega), decide_eq_true (by omega)]; rfl
          go_wp2_with fail
          go_roundw
          case rel =>
            refine ⟨trivial, k + 1, by omega, by go_num, fun j y hj hy => ?_⟩
            rcases Nat.lt_or_ge j k with h1 | h1
            · exact HF.out j y h1 hy
            · obtain rfl : j = k := by omega
              rw [HRk.out] at hy
              cases hy
              exact HFk.out
          case measure => simp [intOf]; omega
    · have k1 : ¬ (k : Int) < (reps.length : Int) := by omega
      have HE : Hid (fitL reps = decide ((reps.length : Int) ≤ 100)) := by
        show _ = _
        unfold fitL
        rw [show reps.all fitR = true by
          rw [List.all_eq_true]
          intro y hy
          obtain ⟨j, hj⟩ := List.getElem?_of_mem hy
          have hjl : j < reps.length := by
            rcases Nat.lt_or_ge j reps.length with h' | h'
            · exact h'
            · rw [List.getElem?_eq_none h'] at hj; cases hj
          exact HF.out j y (by omega) hj, Bool.true_and]
        by_cases h : reps.length ≤ 100
        · rw [decide_eq_true h, decide_eq_true (by omega)]
        · rw [decide_eq_false h, decide_eq_false (by omega)]
      go_wp2
      go_ret
      exact ⟨by rw [HE.out]; first | rfl | simp, rfl⟩
end Go.Proofs.Ytcnfkdecghdphab
