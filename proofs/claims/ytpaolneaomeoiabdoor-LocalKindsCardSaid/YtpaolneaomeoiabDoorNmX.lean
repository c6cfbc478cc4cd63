/-
  Several texts as one: CfNamP, CfRName. What each holds: CfNamP: Names, pure: what 'isName' asks, byte by byte. No condition. | CfRName: The document's IsName by a contract: 'isName'. Condition: at most a million bytes.
-/
import Derived.Test.YtpaolneaomeoiabDoorMemX
import Derived.BigQuiet
import Derived.Deep.QuietTactic
import Derived.Deep.DeepCutAuto
import Derived.WalkSmall
namespace Go.Proofs.YtpaolneaomeoiabDoor
open Go.RowKit Go.Extern.Stop Go.Stop Go.Extern

theorem byte_at (s : ByteArray) (k : Nat) (h : k < s.size) : s[k] = s.data.toList.getD k 0 := by
  have : k < s.data.toList.length := by rw [Array.length_toList]; exact h
  rw [List.getD_eq_getElem?_getD, List.getElem?_eq_getElem this]
  rfl
theorem isName_no {s : ByteArray} (h : s.size < 1 ∨ 12 < s.size) : isName s = false := by
  unfold isName
  rcases h with h | h
  · have : decide (1 ≤ s.size) = false := decide_eq_false (by omega)
    rw [this]; rfl
  · have : decide (s.size ≤ 12) = false := decide_eq_false (by omega)
    rw [this]; simp
theorem isName_first {s : ByteArray} (h : isLetter (s.data.toList.getD 0 0) = false) : isName s = false := by
  have e : s.data.getD 0 0 = s.data.toList.getD 0 0 := by simp
  unfold isName
  rw [e, h]; simp
theorem isName_bad {s : ByteArray} {k : Nat} (h1 : k < s.size) (h : nameByte (s.data.toList.getD k 0) = false) : isName s = false := by
  have hk : k < s.data.toList.length := by rw [Array.length_toList]; exact h1
  have : s.data.toList.all nameByte = false := by
    rw [List.all_eq_false]
    refine ⟨s.data.toList.getD k 0, ?_, by simpa using h⟩
    rw [List.getD_eq_getElem?_getD, List.getElem?_eq_getElem hk]
    exact List.getElem_mem hk
  unfold isName
  rw [this]; simp
theorem isName_yes {s : ByteArray} (h1 : 1 ≤ s.size) (h2 : s.size ≤ 12) (h3 : isLetter (s.data.toList.getD 0 0) = true) (h : ∀ j, j < s.size → nameByte (s.data.toList.getD j 0) = true) : isName s = true := by
  have e : s.data.getD 0 0 = s.data.toList.getD 0 0 := by simp
  have ha : s.data.toList.all nameByte = true := by
    rw [List.all_eq_true]
    intro b hb
    obtain ⟨j, hj, rfl⟩ := List.getElem_of_mem hb
    have := h j (by rw [Array.length_toList] at hj; exact hj)
    rw [List.getD_eq_getElem?_getD, List.getElem?_eq_getElem hj] at this
    exact this
  unfold isName
  rw [e, h3, ha]; simp [h1, h2]
end Go.Proofs.YtpaolneaomeoiabDoor

namespace Go.Proofs.YtpaolneaomeoiabDoor
open Go.RowKit Go.Extern.Stop Go.Stop Go.Extern

set_option maxHeartbeats 2000000 in
set_option maxRecDepth 100000 in
theorem rName_at (s : ByteArray) (w : World) (hs : s.size ≤ 1000000) : Calls Tryd.prog 38 #[.string s] w fun e w' => e = .returned (.bool (isName s)) ∧ w' = w := by
  by_cases h1 : s.size < 1
  · have HY : Hid (isName s = false) := isName_no (Or.inl h1)
    have g1 : (s.size : Int) < 1 := by omega
    clear h1
    go_enter Tryd.func38, Tryd.ntmps38
    go_wp2
    go_ret
    exact ⟨by first | rfl | (rw [HY.out]; rfl), rfl⟩
  have g1 : ¬ (s.size : Int) < 1 := by omega
  by_cases h2 : 12 < s.size
  · have HY : Hid (isName s = false) := isName_no (Or.inr h2)
    have g2 : (12 : Int) < (s.size : Int) := by omega
    clear h1 h2
    go_enter Tryd.func38, Tryd.ntmps38
    go_wp2
    go_ret
    exact ⟨by first | rfl | (rw [HY.out]; rfl), rfl⟩
  have g2 : ¬ (12 : Int) < (s.size : Int) := by omega
  have HZ : Hid (1 ≤ s.size ∧ s.size ≤ 12) := ⟨by omega, by omega⟩
  clear h1 h2 hs
  go_enter Tryd.func38, Tryd.ntmps38
  go_wp2_with fail
  clear g1 g2
  go_loopw [3, 4, 5] (fun i _ _ wr => ∃ k : Nat, k ≤ s.size ∧ i = .int .i64 k ∧ wr = w ∧ Hid ((∀ j, j < k → nameByte (s.data.toList.getD j 0) = true) ∧ (0 < k → isLetter (s.data.toList.getD 0 0) = true))) (fun i _ _ _ => s.size - (intOf i).toNat)
  case atStart => exact ⟨0, Nat.zero_le _, rfl, rfl, ⟨fun j hj => absurd hj (Nat.not_lt_zero _), fun h => absurd h (Nat.lt_irrefl _)⟩⟩
  case round =>
    obtain ⟨k, hk, rfl, rfl, HA⟩ := hrel
    by_cases hlt : k < s.size
    · have k1 : (k : Int) < (s.size : Int) := by omega
      have k2 : (0 : Int) ≤ (k : Int) := by omega
      have k12 : k < 12 := by have := HZ.out.2; omega
      have HB : Hid (s[k] = s.data.toList.getD k 0) := byte_at s k hlt
      have HY : Hid (nameByte (s.data.toList.getD k 0) = false → isName s = false) := fun h => isName_bad hlt h
      have HY0 : Hid (isLetter (s.data.toList.getD 0 0) = false → isName s = false) := fun h => isName_first h
      have hstep : ∀ (hb : nameByte (s.data.toList.getD k 0) = true) (hl : k = 0 → isLetter (s.data.toList.getD 0 0) = true), (∀ j, j < k + 1 → nameByte (s.data.toList.getD j 0) = true) ∧ (0 < k + 1 → isLetter (s.data.toList.getD 0 0) = true) := fun hb hl => by
        refine ⟨fun j hj => ?_, fun _ => ?_⟩
        · by_cases e : j = k
          · rw [e]; exact hb
          · exact HA.out.1 j (by omega)
        · by_cases e : k = 0
          · exact hl e
          · exact HA.out.2 (by omega)
      have HST : Hid (∀ (hb : nameByte (s.data.toList.getD k 0) = true) (hl : k = 0 → isLetter (s.data.toList.getD 0 0) = true), (∀ j, j < k + 1 → nameByte (s.data.toList.getD j 0) = true) ∧ (0 < k + 1 → isLetter (s.data.toList.getD 0 0) = true)) := hstep
      clear hstep
      generalize hcc : s[k] = c at *
      have HC : Hid (c = s.data.toList.getD k 0) := HB.out
      have hv := c.toNat_lt
      by_cases b1 : 97 ≤ c.toNat ∧ c.toNat ≤ 122
      · have n1 : (97 : Int) ≤ (c.toNat : Int) := by omega
        have n2 : (c.toNat : Int) ≤ 122 := by omega
        have HL : Hid (isLetter c = true) := by show _ = _; simp [isLetter]; omega
        clear b1 hv
        go_wp2
        go_roundw
        case rel =>
          refine ⟨k + 1, by omega, by go_num, by first | trivial | rfl, HST.out ?_ ?_⟩
          · rw [← HC.out]; have := HL.out; simp [nameByte, this]
          · rintro rfl; rw [← HC.out]; exact HL.out
        case measure => simp [intOf]; omega
      · have HL : Hid (isLetter c = false) := by show _ = _; simp [isLetter]; omega
        by_cases q0 : c.toNat < 45
        · have n0 : ¬ (97 : Int) ≤ (c.toNat : Int) := by omega
          have n1 : ¬ (48 : Int) ≤ (c.toNat : Int) := by omega
          have n9 : ((c.toNat : Int) == 45) = false := by rw [beq_eq_false_iff_ne]; omega
          have HO : Hid (nameByte c = false) := by show _ = _; have := HL.out; simp [nameByte, this, isDig]; omega
          clear b1 hv q0
          by_cases hk0 : k = 0
          · have HF : Hid (isName s = false) := HY0.out (by have h2 := HC.out; rw [hk0] at h2; rw [← h2]; exact HL.out)
            have kz : ((k : Int) == 0) = true := by rw [beq_iff_eq]; omega
            clear hk0
            go_wp2
            go_ret
            exact ⟨by first | rfl | (rw [HF.out]; rfl), by first | trivial | rfl⟩
          · have kz : ((k : Int) == 0) = false := by rw [beq_eq_false_iff_ne]; omega
            have HK0 : Hid (¬ k = 0) := hk0
            clear hk0
            have HF : Hid (isName s = false) := HY.out (by rw [← HC.out]; exact HO.out)
            go_wp2
            go_ret
            exact ⟨by first | rfl | (rw [HF.out]; rfl), by first | trivial | rfl⟩
        by_cases q1 : c.toNat = 45
        · have n0 : ¬ (97 : Int) ≤ (c.toNat : Int) := by omega
          have n1 : ¬ (48 : Int) ≤ (c.toNat : Int) := by omega
          have n9 : ((c.toNat : Int) == 45) = true := by rw [beq_iff_eq]; omega
          have HO : Hid (nameByte c = true) := by show _ = _; have := HL.out; simp [nameByte, this, isDig]; omega
          clear b1 hv q0 q1
          by_cases hk0 : k = 0
          · have HF : Hid (isName s = false) := HY0.out (by have h2 := HC.out; rw [hk0] at h2; rw [← h2]; exact HL.out)
            have kz : ((k : Int) == 0) = true := by rw [beq_iff_eq]; omega
            clear hk0
            go_wp2
            go_ret
            exact ⟨by first | rfl | (rw [HF.out]; rfl), by first | trivial | rfl⟩
          · have kz : ((k : Int) == 0) = false := by rw [beq_eq_false_iff_ne]; omega
            have HK0 : Hid (¬ k = 0) := hk0
            clear hk0
            go_wp2
            go_roundw
            case rel => exact ⟨k + 1, by omega, by go_num, by first | trivial | rfl, HST.out (by rw [← HC.out]; exact HO.out) (fun h => absurd h HK0.out)⟩
            case measure => simp [intOf]; omega
        by_cases q2 : c.toNat < 48
        · have n0 : ¬ (97 : Int) ≤ (c.toNat : Int) := by omega
          have n1 : ¬ (48 : Int) ≤ (c.toNat : Int) := by omega
          have n9 : ((c.toNat : Int) == 45) = false := by rw [beq_eq_false_iff_ne]; omega
          have HO : Hid (nameByte c = false) := by show _ = _; have := HL.out; simp [nameByte, this, isDig]; omega
          clear b1 hv q0 q1 q2
          by_cases hk0 : k = 0
          · have HF : Hid (isName s = false) := HY0.out (by have h2 := HC.out; rw [hk0] at h2; rw [← h2]; exact HL.out)
            have kz : ((k : Int) == 0) = true := by rw [beq_iff_eq]; omega
            clear hk0
            go_wp2
            go_ret
            exact ⟨by first | rfl | (rw [HF.out]; rfl), by first | trivial | rfl⟩
          · have kz : ((k : Int) == 0) = false := by rw [beq_eq_false_iff_ne]; omega
            have HK0 : Hid (¬ k = 0) := hk0
            clear hk0
            have HF : Hid (isName s = false) := HY.out (by rw [← HC.out]; exact HO.out)
            go_wp2
            go_ret
            exact ⟨by first | rfl | (rw [HF.out]; rfl), by first | trivial | rfl⟩
        by_cases q3 : c.toNat ≤ 57
        · have n0 : ¬ (97 : Int) ≤ (c.toNat : Int) := by omega
          have n1 : (48 : Int) ≤ (c.toNat : Int) := by omega
          have n2 : (c.toNat : Int) ≤ 57 := by omega
          have HO : Hid (nameByte c = true) := by show _ = _; have := HL.out; simp [nameByte, this, isDig]; omega
          clear b1 hv q0 q1 q2 q3
          by_cases hk0 : k = 0
          · have HF : Hid (isName s = false) := HY0.out (by have h2 := HC.out; rw [hk0] at h2; rw [← h2]; exact HL.out)
            have kz : ((k : Int) == 0) = true := by rw [beq_iff_eq]; omega
            clear hk0
            go_wp2
            go_ret
            exact ⟨by first | rfl | (rw [HF.out]; rfl), by first | trivial | rfl⟩
          · have kz : ((k : Int) == 0) = false := by rw [beq_eq_false_iff_ne]; omega
            have HK0 : Hid (¬ k = 0) := hk0
            clear hk0
            go_wp2
            go_roundw
            case rel => exact ⟨k + 1, by omega, by go_num, by first | trivial | rfl, HST.out (by rw [← HC.out]; exact HO.out) (fun h => absurd h HK0.out)⟩
            case measure => simp [intOf]; omega
        by_cases q4 : c.toNat < 97
        · have n0 : ¬ (97 : Int) ≤ (c.toNat : Int) := by omega
          have n1 : (48 : Int) ≤ (c.toNat : Int) := by omega
          have n2 : ¬ (c.toNat : Int) ≤ 57 := by omega
          have n9 : ((c.toNat : Int) == 45) = false := by rw [beq_eq_false_iff_ne]; omega
          have HO : Hid (nameByte c = false) := by show _ = _; have := HL.out; simp [nameByte, this, isDig]; omega
          clear b1 hv q0 q1 q2 q3 q4
          by_cases hk0 : k = 0
          · have HF : Hid (isName s = false) := HY0.out (by have h2 := HC.out; rw [hk0] at h2; rw [← h2]; exact HL.out)
            have kz : ((k : Int) == 0) = true := by rw [beq_iff_eq]; omega
            clear hk0
            go_wp2
            go_ret
            exact ⟨by first | rfl | (rw [HF.out]; rfl), by first | trivial | rfl⟩
          · have kz : ((k : Int) == 0) = false := by rw [beq_eq_false_iff_ne]; omega
            have HK0 : Hid (¬ k = 0) := hk0
            clear hk0
            have HF : Hid (isName s = false) := HY.out (by rw [← HC.out]; exact HO.out)
            go_wp2
            go_ret
            exact ⟨by first | rfl | (rw [HF.out]; rfl), by first | trivial | rfl⟩
        · have n0 : (97 : Int) ≤ (c.toNat : Int) := by omega
          have n1 : ¬ (c.toNat : Int) ≤ 122 := by omega
          have n2 : (48 : Int) ≤ (c.toNat : Int) := by omega
          have n3 : ¬ (c.toNat : Int) ≤ 57 := by omega
          have n9 : ((c.toNat : Int) == 45) = false := by rw [beq_eq_false_iff_ne]; omega
          have HO : Hid (nameByte c = false) := by show _ = _; have := HL.out; simp [nameByte, this, isDig]; omega
          clear b1 hv q0 q1 q2 q3 q4
          by_cases hk0 : k = 0
          · have HF : Hid (isName s = false) := HY0.out (by have h2 := HC.out; rw [hk0] at h2; rw [← h2]; exact HL.out)
            have kz : ((k : Int) == 0) = true := by rw [beq_iff_eq]; omega
            clear hk0
            go_wp2
            go_ret
            exact ⟨by first | rfl | (rw [HF.out]; rfl), by first | trivial | rfl⟩
          · have kz : ((k : Int) == 0) = false := by rw [beq_eq_false_iff_ne]; omega
            have HK0 : Hid (¬ k = 0) := hk0
            clear hk0
            have HF : Hid (isName s = false) := HY.out (by rw [← HC.out]; exact HO.out)
            go_wp2
            go_ret
            exact ⟨by first | rfl | (rw [HF.out]; rfl), by first | trivial | rfl⟩
    · have k1 : ¬ (k : Int) < (s.size : Int) := by omega
      have HY : Hid (isName s = true) := isName_yes HZ.out.1 HZ.out.2 (HA.out.2 (by have := HZ.out.1; omega)) (fun j hj => HA.out.1 j (by omega))
      go_wp2
      go_ret
      exact ⟨by first | rfl | (rw [HY.out]; rfl), by first | trivial | rfl⟩
end Go.Proofs.YtpaolneaomeoiabDoor
