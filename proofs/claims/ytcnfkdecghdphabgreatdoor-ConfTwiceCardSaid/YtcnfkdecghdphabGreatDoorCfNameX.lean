/-
  Names: conf.isName and the document's IsName by contracts: both answer 'isName'. Condition: at most a million bytes.
-/
import Derived.Test.YtcnfkdecghdphabGreatDoorCfMemX
import Derived.Lib.ConvBytes
import Derived.Lib.BufferWrite
namespace Go.Proofs.YtcnfkdecghdphabGreatDoor
open Go.RowKit Go.Extern.Stop Go.Stop Go.Extern

theorem bytes_madeC (w : World) (t : ByteArray) : ∃ cap W, (convert 9 51 (.string t)).run Tryz.prog w = .ok (.slice (some ⟨w.heap.size, 0, .none⟩) t.size cap) W ∧ Below w.heap.size w W ∧
    (∀ j, j < t.size → W.cell? ⟨w.heap.size, j, .none⟩ = some (.int .u8 ((t.data.toList.getD j 0).toNat : Int))) := by
  exact ⟨_, _, Lib.run_convert_string_bytes w 9 51 5 t Tryz.underlying9 Tryz.underlying51 Tryz.underlying5, ⟨rfl, rfl, rfl, by rw [Lib.bytesWorld_size]; omega, fun i hi => Lib.bytesWorld_at_old w _ t i hi⟩, fun j hj => Lib.bytesWorld_cell w _ t j hj⟩
theorem byte_at (s : ByteArray) (k : Nat) (h : k < s.size) : s[k] = s.data.toList.getD k 0 := by
  have : k < s.data.toList.length := by rw [Array.length_toList]; exact h
  rw [List.getD_eq_getElem?_getD, List.getElem?_eq_getElem this]
  rfl
theorem isName_no {s : ByteArray} (h : s.size < 1 ∨ 12 < s.size) : isName s = false := by
  unfold isName
  rcases h with h | h
  · have : decide (1 ≤ s.size) = false := decide_eq_false (by omega)
    rw [this]; rfl
  · have : decide (s.size ≤ 12) = false := decide_eq_false (by omega)
    rw [this]; simp
theorem isName_first {s : ByteArray} (h : isLetter (s.data.toList.getD 0 0) = false) : isName s = false := by
  have e : s.data.getD 0 0 = s.data.toList.getD 0 0 := by simp
  unfold isName
  rw [e, h]; simp
theorem isName_bad {s : ByteArray} {k : Nat} (h1 : k < s.size) (h : nameByte (s.data.toList.getD k 0) = false) : isName s = false := by
  have hk : k < s.data.toList.length := by rw [Array.length_toList]; exact h1
  have : s.data.toList.all nameByte = false := by
    rw [List.all_eq_false]
    refine ⟨s.data.toList.getD k 0, ?_, by simpa using h⟩
    rw [List.getD_eq_getElem?_getD, List.getElem?_eq_getElem hk]
    exact List.getElem_mem hk
  unfold isName
  rw [this]; simp
theorem isName_yes {s : ByteArray} (h1 : 1 ≤ s.size) (h2 : s.size ≤ 12) (h3 : isLetter (s.data.toList.getD 0 0) = true) (h : ∀ j, j < s.size → nameByte (s.data.toList.getD j 0) = true) : isName s = true := by
  have e : s.data.getD 0 0 = s.data.toList.getD 0 0 := by simp
  have ha : s.data.toList.all nameByte = true := by
    rw [List.all_eq_true]
    intro b hb
    obtain ⟨j, hj, rfl⟩ := List.getElem_of_mem hb
    have := h j (by rw [Array.length_toList] at hj; exact hj)
    rw [List.getD_eq_getElem?_getD, List.getElem?_eq_getElem hj] at this
    exact this
  unfold isName
  rw [e, h3, ha]; simp [h1, h2]

set_option maxHeartbeats 1000000 in
theorem isName_at (s : ByteArray) (w : World) (hs : s.size ≤ 1000000) : Calls Tryz.prog 39 #[.string s] w fun e w' => e = .returned (.bool (isName s)) ∧ Below w.heap.size w w' := by
  by_cases hsz : 1 ≤ s.size ∧ s.size ≤ 12
  · obtain ⟨z1, z2⟩ := hsz
    have hw := within_at (s.size : Int) 1 12 w
    rw [show within (s.size : Int) 1 12 = true by simp [within]; omega] at hw
    have k0 : (0 : Int) < (s.size : Int) := by omega
    have hb0 : Hid (∀ h : 0 < s.size, s[0] = s.data.toList.getD 0 0) := fun h => byte_at s 0 h
    have hl := isLetter_at (s.data.toList.getD 0 0) w
    by_cases hL : isLetter (s.data.toList.getD 0 0) = true
    · rw [hL] at hl
      have HZ : Hid (1 ≤ s.size ∧ s.size ≤ 12 ∧ isLetter (s.data.toList.getD 0 0) = true) := ⟨z1, z2, hL⟩
      clear z1 z2 hL hs
      go_enter Tryz.func39, Tryz.ntmps39
      go_wp2_with fail
      refine hw.mono ?_
      rintro e w' ⟨rfl, rfl⟩
      go_wp2_with fail
      rw [hb0.out]
      refine hl.mono ?_
      rintro e w ⟨rfl, rfl⟩
      clear hl hw hb0 k0
      obtain ⟨cap, W, hcv, hbW, hcell⟩ := bytes_madeC w s
      have HCl : Hid (∀ j, j < s.size → W.cell? ⟨w.heap.size, j, .none⟩ = some (.int .u8 ((s.data.toList.getD j 0).toNat : Int))) := hcell
      have HbW : Hid (Below w.heap.size w W) := hbW
      clear hcell hbW
      go_wp2_with fail
      go_loopw [4, 18] (fun _ i wr => ∃ k : Nat, k ≤ s.size ∧ i = .int .i64 k ∧ wr = W ∧ ∀ j, j < k → nameByte (s.data.toList.getD j 0) = true) (fun _ i _ => s.size - (intOf i).toNat)
      case atStart => exact ⟨0, Nat.zero_le _, rfl, rfl, fun j hj => absurd hj (Nat.not_lt_zero _)⟩
      case round =>
        obtain ⟨k, hk, rfl, rfl, hall⟩ := hrel
        by_cases hlt : k < s.size
        · have hc := HCl.out k hlt
          have HB : Hid (∀ j, j < k → nameByte (s.data.toList.getD j 0) = true) := hall
          have HY : Hid (nameByte (s.data.toList.getD k 0) = false → isName s = false) := fun h => isName_bad hlt h
          have k1 : (k : Int) < (s.size : Int) := by omega
          have k12 : k < 12 := by have := HZ.out.2.1; omega
          have HX : Hid (∀ b : Bool, nameByte (s.data.toList.getD k 0) = b → nameByte (s.data.toList.getD k 0) = b) := fun b h => h
          have HK : Hid (∃ c, c = s.data.toList.getD k 0) := ⟨_, rfl⟩
          clear hall hcv
          obtain ⟨c, hcc⟩ := HK.out
          rw [← hcc] at hc
          have HC : Hid (c = s.data.toList.getD k 0) := hcc
          clear hcc HK HX
          have hd := isDigit_at c
          have hl2 := isLetter_at c
          by_cases b1 : isLetter c = true
          · rw [b1] at hl2
            go_wp2_with fail
            refine (hl2 _).mono ?_
            rintro e w' ⟨rfl, rfl⟩
            go_wp2
            go_roundw
            case rel =>
              refine ⟨k + 1, by omega, by go_num, by first | trivial | rfl, fun j hj => ?_⟩
              by_cases e : j = k
              · rw [e, ← HC.out]; simp [nameByte, b1]
              · exact HB.out j (by omega)
            case measure => simp [intOf]; omega
          · simp only [Bool.not_eq_true] at b1
            rw [b1] at hl2
            by_cases b2 : isDig c = true
            · rw [b2] at hd
              go_wp2_with fail
              refine (hl2 _).mono ?_
              rintro e w' ⟨rfl, rfl⟩
              go_wp2_with fail
              refine (hd _).mono ?_
              rintro e w' ⟨rfl, rfl⟩
              go_wp2
              go_roundw
              case rel =>
                refine ⟨k + 1, by omega, by go_num, by first | trivial | rfl, fun j hj => ?_⟩
                by_cases e : j = k
                · rw [e, ← HC.out]; simp [nameByte, b2]
                · exact HB.out j (by omega)
              case measure => simp [intOf]; omega
            · simp only [Bool.not_eq_true] at b2
              rw [b2] at hd
              by_cases b3 : (c.toNat : Int) = 45
              · have b4 : ((c.toNat : Int) == 45) = true := by simpa using b3
                have HN : Hid (nameByte c = true) := by show _ = _; simp [nameByte]; right; omega
                clear b3
                go_wp2_with fail
                refine (hl2 _).mono ?_
                rintro e w' ⟨rfl, rfl⟩
                go_wp2_with fail
                refine (hd _).mono ?_
                rintro e w' ⟨rfl, rfl⟩
                go_wp2
                go_roundw
                case rel =>
                  refine ⟨k + 1, by omega, by go_num, by first | trivial | rfl, fun j hj => ?_⟩
                  by_cases e : j = k
                  · rw [e, ← HC.out]; exact HN.out
                  · exact HB.out j (by omega)
                case measure => simp [intOf]; omega
              · have HN : Hid (nameByte c = false) := by show _ = _; simp [nameByte, b1, b2]; omega
                go_wp2_with fail
                refine (hl2 _).mono ?_
                rintro e w' ⟨rfl, rfl⟩
                go_wp2_with fail
                refine (hd _).mono ?_
                rintro e w' ⟨rfl, rfl⟩
                go_wp2
                go_ret
                exact ⟨by rw [HY.out (by rw [← HC.out]; exact HN.out)]; rfl, HbW.out⟩
        · have HY : Hid (isName s = true) := isName_yes HZ.out.1 HZ.out.2.1 HZ.out.2.2 (fun j hj => hall j (by omega))
          have k1 : ¬ (k : Int) < (s.size : Int) := by omega
          clear hall hcv
          go_wp2
          go_ret
          exact ⟨by rw [HY.out]; rfl, HbW.out⟩
    · simp only [Bool.not_eq_true] at hL
      rw [hL] at hl
      have HY : Hid (isName s = false) := isName_first hL
      go_enter Tryz.func39, Tryz.ntmps39
      go_wp2_with fail
      refine hw.mono ?_
      rintro e w' ⟨rfl, rfl⟩
      go_wp2_with fail
      rw [hb0.out]
      refine hl.mono ?_
      rintro e w' ⟨rfl, rfl⟩
      go_wp2
      go_ret
      exact ⟨by rw [HY.out]; rfl, Below.refl _ _⟩
  · have hw := within_at (s.size : Int) 1 12 w
    rw [show within (s.size : Int) 1 12 = false by simp [within]; omega] at hw
    have HY : Hid (isName s = false) := isName_no (by omega)
    clear hsz
    go_enter Tryz.func39, Tryz.ntmps39
    go_wp2_with fail
    refine hw.mono ?_
    rintro e w' ⟨rfl, rfl⟩
    go_wp2
    go_ret
    exact ⟨by rw [HY.out]; rfl, Below.refl _ _⟩
end Go.Proofs.YtcnfkdecghdphabGreatDoor
