/-
  (*conf.reader).mayStand and conf.kindOf by contracts ('may', 'kindV'). Conditions: the reader's last kind lies in memory; the keywords do ('KwAt').
-/
import Derived.Test.YtcnfkdecghdphabGreatDoorCfRNum
import Derived.Test.YtcnfkdecghdphabGreatDoorCfWord
namespace Go.Proofs.YtcnfkdecghdphabGreatDoor
open Go.RowKit Go.Extern.Stop Go.Stop Go.Extern

set_option maxHeartbeats 4000000 in
set_option maxRecDepth 100000 in
theorem mayStand_at (rb : Nat) (last : Int) (k : Nat) (w : World) (hk : k < 10) (hc : w.cell? ⟨rb, 5, none⟩ = some (.int .i64 last)) :
    Calls Tryz.prog 48 #[.pointer (some ⟨rb, 0, none⟩), .int .i64 (k : Int)] w fun e w' => e = .returned (.bool (may last k)) ∧ w' = w := by
  match k, hk with
  | 0, _ =>
    go_enter Tryz.func48, Tryz.ntmps48
    go_wp2
    go_ret
    exact ⟨by first | rfl | simp [may], rfl⟩
  | 1, _ =>
    go_enter Tryz.func48, Tryz.ntmps48
    go_wp2
    go_ret
    exact ⟨by first | rfl | simp [may], rfl⟩
  | 2, _ =>
    go_enter Tryz.func48, Tryz.ntmps48
    go_wp2
    go_ret
    exact ⟨by first | rfl | simp [may], rfl⟩
  | 3, _ =>
    go_enter Tryz.func48, Tryz.ntmps48
    go_wp2
    go_ret
    exact ⟨by first | rfl | simp [may], rfl⟩
  | 4, _ =>
    by_cases l1 : 3 ≤ last
    all_goals
      go_enter Tryz.func48, Tryz.ntmps48
      go_wp2
      go_ret
      exact ⟨by first | rfl | (simp [may, l1]; done) | (simp [may]; omega), rfl⟩
  | 5, _ =>
    by_cases l1 : 3 ≤ last
    all_goals
      go_enter Tryz.func48, Tryz.ntmps48
      go_wp2
      go_ret
      exact ⟨by first | rfl | (simp [may, l1]; done) | (simp [may]; omega), rfl⟩
  | 6, _ =>
    by_cases l1 : 3 ≤ last
    all_goals
      go_enter Tryz.func48, Tryz.ntmps48
      go_wp2
      go_ret
      exact ⟨by first | rfl | (simp [may, l1]; done) | (simp [may]; omega), rfl⟩
  | 7, _ =>
    by_cases l1 : 3 ≤ last
    all_goals
      go_enter Tryz.func48, Tryz.ntmps48
      go_wp2
      go_ret
      exact ⟨by first | rfl | (simp [may, l1]; done) | (simp [may]; omega), rfl⟩
  | 8, _ =>
    by_cases l1 : 3 ≤ last
    all_goals
      go_enter Tryz.func48, Tryz.ntmps48
      go_wp2
      go_ret
      exact ⟨by first | rfl | (simp [may, l1]; done) | (simp [may]; omega), rfl⟩
  | 9, _ =>
    by_cases l1 : 3 ≤ last
    all_goals
      go_enter Tryz.func48, Tryz.ntmps48
      go_wp2
      go_ret
      exact ⟨by first | rfl | (simp [may, l1]; done) | (simp [may]; omega), rfl⟩

def kindV (w : Bs) : Int := match kindOf w with
  | some k => (k : Int)
  | none => -1
theorem bytes_n2 {a b : ByteArray} (h : ¬ a = b) : (a.toList == b.toList) = false ∧ ¬ a.toList = b.toList := by
  have h2 : ¬ a.toList = b.toList := fun e => by
    rw [ByteArray.toList_eq, ByteArray.toList_eq] at e
    exact h (bl_inj e)
  exact ⟨by simpa using h2, h2⟩
theorem bytes_y2 {a b : ByteArray} (h : a = b) : (a.toList == b.toList) = true ∧ a.toList = b.toList := by subst h; exact ⟨beq_self_eq_true _, rfl⟩
theorem kindV_none {w : Bs} (h : ∀ j, j < 10 → kw j ≠ w) : kindV w = -1 := by
  have : kindOf w = none := by
    unfold kindOf
    rw [List.find?_eq_none]
    intro j hj
    simp only [List.mem_range] at hj
    simpa using h j hj
  unfold kindV
  rw [this]
set_option maxHeartbeats 4000000 in
set_option maxRecDepth 100000 in
theorem kindOf_at (s : ByteArray) (w : World) (hK : KwAt w) :
    Calls Tryz.prog 47 #[.string s] w fun e w' => e = .returned (.int .i64 (kindV (bl s))) ∧ w' = w := by
  have c0 := hK 0 (by decide)
  have c1 := hK 1 (by decide)
  have c2 := hK 2 (by decide)
  have c3 := hK 3 (by decide)
  have c4 := hK 4 (by decide)
  have c5 := hK 5 (by decide)
  have c6 := hK 6 (by decide)
  have c7 := hK 7 (by decide)
  have c8 := hK 8 (by decide)
  have c9 := hK 9 (by decide)
  clear hK
  go_enter Tryz.func47, Tryz.ntmps47
  go_wp2_with fail
  clear c0 c1 c2 c3 c4 c5 c6 c7 c8 c9
  go_loopw [3, 4, 6] (fun _ _ i wr => ∃ k : Nat, k ≤ 10 ∧ i = .int .i64 k ∧ wr = w ∧ ∀ j, j < k → kw j ≠ bl s) (fun _ _ i _ => 10 - (intOf i).toNat)
  case atStart => exact ⟨0, Nat.zero_le _, rfl, rfl, fun j hj => absurd hj (Nat.not_lt_zero _)⟩
  case round =>
    obtain ⟨k, hk, rfl, rfl, hn⟩ := hrel
    have HN : Hid (∀ j, j < k → kw j ≠ bl s) := hn
    clear hn
    by_cases hlt : k < 10
    · match k, hlt with
      | 0, _ =>
        have ix : ∀ W, (Instr.index 142 (.agg #[.string ⟨(kw 0).toArray⟩, .string ⟨(kw 1).toArray⟩, .string ⟨(kw 2).toArray⟩, .string ⟨(kw 3).toArray⟩, .string ⟨(kw 4).toArray⟩, .string ⟨(kw 5).toArray⟩, .string ⟨(kw 6).toArray⟩, .string ⟨(kw 7).toArray⟩, .string ⟨(kw 8).toArray⟩, .string ⟨(kw 9).toArray⟩]) (.int .i64 0)).run Tryz.prog W = .ok (.string ⟨(kw 0).toArray⟩) W := fun _ => by kernel_rfl
        by_cases h : kw 0 = bl s
        · have HV : Hid (kindV (bl s) = 0) := by show _ = _; rw [← h]; decide
          have y2 : kw 0 = s.toList := by rw [ByteArray.toList_eq]; exact h
          have y1 : (kw 0 == s.toList) = true := by rw [y2]; exact beq_self_eq_true _
          clear y2 h
          go_wp2
          go_ret
          exact ⟨by rw [HV.out]; rfl, rfl⟩
        · have y2 : ¬ kw 0 = s.toList := by rw [ByteArray.toList_eq]; exact h
          have y1 : (kw 0 == s.toList) = false := by simpa using y2
          have HN2 : Hid (∀ j, j < 1 → kw j ≠ bl s) := fun j hj => by
            by_cases e : j = 0
            · rw [e]; exact h
            · exact HN.out j (by omega)
          go_wp2
          go_roundw
          case rel => exact ⟨1, by decide, by first | trivial | rfl, by first | trivial | rfl, HN2.out⟩
          case measure => simp [intOf]
      | 1, _ =>
        have ix : ∀ W, (Instr.index 142 (.agg #[.string ⟨(kw 0).toArray⟩, .string ⟨(kw 1).toArray⟩, .string ⟨(kw 2).toArray⟩, .string ⟨(kw 3).toArray⟩, .string ⟨(kw 4).toArray⟩, .string ⟨(kw 5).toArray⟩, .string ⟨(kw 6).toArray⟩, .string ⟨(kw 7).toArray⟩, .string ⟨(kw 8).toArray⟩, .string ⟨(kw 9).toArray⟩]) (.int .i64 1)).run Tryz.prog W = .ok (.string ⟨(kw 1).toArray⟩) W := fun _ => by kernel_rfl
        by_cases h : kw 1 = bl s
        · have HV : Hid (kindV (bl s) = 1) := by show _ = _; rw [← h]; decide
          have y2 : kw 1 = s.toList := by rw [ByteArray.toList_eq]; exact h
          have y1 : (kw 1 == s.toList) = true := by rw [y2]; exact beq_self_eq_true _
          clear y2 h
          go_wp2
          go_ret
          exact ⟨by rw [HV.out]; rfl, rfl⟩
        · have y2 : ¬ kw 1 = s.toList := by rw [ByteArray.toList_eq]; exact h
          have y1 : (kw 1 == s.toList) = false := by simpa using y2
          have HN2 : Hid (∀ j, j < 2 → kw j ≠ bl s) := fun j hj => by
            by_cases e : j = 1
            · rw [e]; exact h
            · exact HN.out j (by omega)
          go_wp2
          go_roundw
          case rel => exact ⟨2, by decide, by first | trivial | rfl, by first | trivial | rfl, HN2.out⟩
          case measure => simp [intOf]
      | 2, _ =>
        have ix : ∀ W, (Instr.index 142 (.agg #[.string ⟨(kw 0).toArray⟩, .string ⟨(kw 1).toArray⟩, .string ⟨(kw 2).toArray⟩, .string ⟨(kw 3).toArray⟩, .string ⟨(kw 4).toArray⟩, .string ⟨(kw 5).toArray⟩, .string ⟨(kw 6).toArray⟩, .string ⟨(kw 7).toArray⟩, .string ⟨(kw 8).toArray⟩, .string ⟨(kw 9).toArray⟩]) (.int .i64 2)).run Tryz.prog W = .ok (.string ⟨(kw 2).toArray⟩) W := fun _ => by kernel_rfl
        by_cases h : kw 2 = bl s
        · have HV : Hid (kindV (bl s) = 2) := by show _ = _; rw [← h]; decide
          have y2 : kw 2 = s.toList := by rw [ByteArray.toList_eq]; exact h
          have y1 : (kw 2 == s.toList) = true := by rw [y2]; exact beq_self_eq_true _
          clear y2 h
          go_wp2
          go_ret
          exact ⟨by rw [HV.out]; rfl, rfl⟩
        · have y2 : ¬ kw 2 = s.toList := by rw [ByteArray.toList_eq]; exact h
          have y1 : (kw 2 == s.toList) = false := by simpa using y2
          have HN2 : Hid (∀ j, j < 3 → kw j ≠ bl s) := fun j hj => by
            by_cases e : j = 2
            · rw [e]; exact h
            · exact HN.out j (by omega)
          go_wp2
          go_roundw
          case rel => exact ⟨3, by decide, by first | trivial | rfl, by first | trivial | rfl, HN2.out⟩
          case measure => simp [intOf]
      | 3, _ =>
        have ix : ∀ W, (Instr.index 142 (.agg #[.string ⟨(kw 0).toArray⟩, .string ⟨(kw 1).toArray⟩, .string ⟨(kw 2).toArray⟩, .string ⟨(kw 3).toArray⟩, .string ⟨(kw 4).toArray⟩, .string ⟨(kw 5).toArray⟩, .string ⟨(kw 6).toArray⟩, .string ⟨(kw 7).toArray⟩, .string ⟨(kw 8).toArray⟩, .string ⟨(kw 9).toArray⟩]) (.int .i64 3)).run Tryz.prog W = .ok (.string ⟨(kw 3).toArray⟩) W := fun _ => by kernel_rfl
        by_cases h : kw 3 = bl s
        · have HV : Hid (kindV (bl s) = 3) := by show _ = _; rw [← h]; decide
          have y2 : kw 3 = s.toList := by rw [ByteArray.toList_eq]; exact h
          have y1 : (kw 3 == s.toList) = true := by rw [y2]; exact beq_self_eq_true _
          clear y2 h
          go_wp2
          go_ret
          exact ⟨by rw [HV.out]; rfl, rfl⟩
        · have y2 : ¬ kw 3 = s.toList := by rw [ByteArray.toList_eq]; exact h
          have y1 : (kw 3 == s.toList) = false := by simpa using y2
          have HN2 : Hid (∀ j, j < 4 → kw j ≠ bl s) := fun j hj => by
            by_cases e : j = 3
            · rw [e]; exact h
            · exact HN.out j (by omega)
          go_wp2
          go_roundw
          case rel => exact ⟨4, by decide, by first | trivial | rfl, by first | trivial | rfl, HN2.out⟩
          case measure => simp [intOf]
      | 4, _ =>
        have ix : ∀ W, (Instr.index 142 (.agg #[.string ⟨(kw 0).toArray⟩, .string ⟨(kw 1).toArray⟩, .string ⟨(kw 2).toArray⟩, .string ⟨(kw 3).toArray⟩, .string ⟨(kw 4).toArray⟩, .string ⟨(kw 5).toArray⟩, .string ⟨(kw 6).toArray⟩, .string ⟨(kw 7).toArray⟩, .string ⟨(kw 8).toArray⟩, .string ⟨(kw 9).toArray⟩]) (.int .i64 4)).run Tryz.prog W = .ok (.string ⟨(kw 4).toArray⟩) W := fun _ => by kernel_rfl
        by_cases h : kw 4 = bl s
        · have HV : Hid (kindV (bl s) = 4) := by show _ = _; rw [← h]; decide
          have y2 : kw 4 = s.toList := by rw [ByteArray.toList_eq]; exact h
          have y1 : (kw 4 == s.toList) = true := by rw [y2]; exact beq_self_eq_true _
          clear y2 h
          go_wp2
          go_ret
          exact ⟨by rw [HV.out]; rfl, rfl⟩
        · have y2 : ¬ kw 4 = s.toList := by rw [ByteArray.toList_eq]; exact h
          have y1 : (kw 4 == s.toList) = false := by simpa using y2
          have HN2 : Hid (∀ j, j < 5 → kw j ≠ bl s) := fun j hj => by
            by_cases e : j = 4
            · rw [e]; exact h
            · exact HN.out j (by omega)
          go_wp2
          go_roundw
          case rel => exact ⟨5, by decide, by first | trivial | rfl, by first | trivial | rfl, HN2.out⟩
          case measure => simp [intOf]
      | 5, _ =>
        have ix : ∀ W, (Instr.index 142 (.agg #[.string ⟨(kw 0).toArray⟩, .string ⟨(kw 1).toArray⟩, .string ⟨(kw 2).toArray⟩, .string ⟨(kw 3).toArray⟩, .string ⟨(kw 4).toArray⟩, .string ⟨(kw 5).toArray⟩, .string ⟨(kw 6).toArray⟩, .string ⟨(kw 7).toArray⟩, .string ⟨(kw 8).toArray⟩, .string ⟨(kw 9).toArray⟩]) (.int .i64 5)).run Tryz.prog W = .ok (.string ⟨(kw 5).toArray⟩) W := fun _ => by kernel_rfl
        by_cases h : kw 5 = bl s
        · have HV : Hid (kindV (bl s) = 5) := by show _ = _; rw [← h]; decide
          have y2 : kw 5 = s.toList := by rw [ByteArray.toList_eq]; exact h
          have y1 : (kw 5 == s.toList) = true := by rw [y2]; exact beq_self_eq_true _
          clear y2 h
          go_wp2
          go_ret
          exact ⟨by rw [HV.out]; rfl, rfl⟩
        · have y2 : ¬ kw 5 = s.toList := by rw [ByteArray.toList_eq]; exact h
          have y1 : (kw 5 == s.toList) = false := by simpa using y2
          have HN2 : Hid (∀ j, j < 6 → kw j ≠ bl s) := fun j hj => by
            by_cases e : j = 5
            · rw [e]; exact h
            · exact HN.out j (by omega)
          go_wp2
          go_roundw
          case rel => exact ⟨6, by decide, by first | trivial | rfl, by first | trivial | rfl, HN2.out⟩
          case measure => simp [intOf]
      | 6, _ =>
        have ix : ∀ W, (Instr.index 142 (.agg #[.string ⟨(kw 0).toArray⟩, .string ⟨(kw 1).toArray⟩, .string ⟨(kw 2).toArray⟩, .string ⟨(kw 3).toArray⟩, .string ⟨(kw 4).toArray⟩, .string ⟨(kw 5).toArray⟩, .string ⟨(kw 6).toArray⟩, .string ⟨(kw 7).toArray⟩, .string ⟨(kw 8).toArray⟩, .string ⟨(kw 9).toArray⟩]) (.int .i64 6)).run Tryz.prog W = .ok (.string ⟨(kw 6).toArray⟩) W := fun _ => by kernel_rfl
        by_cases h : kw 6 = bl s
        · have HV : Hid (kindV (bl s) = 6) := by show _ = _; rw [← h]; decide
          have y2 : kw 6 = s.toList := by rw [ByteArray.toList_eq]; exact h
          have y1 : (kw 6 == s.toList) = true := by rw [y2]; exact beq_self_eq_true _
          clear y2 h
          go_wp2
          go_ret
          exact ⟨by rw [HV.out]; rfl, rfl⟩
        · have y2 : ¬ kw 6 = s.toList := by rw [ByteArray.toList_eq]; exact h
          have y1 : (kw 6 == s.toList) = false := by simpa using y2
          have HN2 : Hid (∀ j, j < 7 → kw j ≠ bl s) := fun j hj => by
            by_cases e : j = 6
            · rw [e]; exact h
            · exact HN.out j (by omega)
          go_wp2
          go_roundw
          case rel => exact ⟨7, by decide, by first | trivial | rfl, by first | trivial | rfl, HN2.out⟩
          case measure => simp [intOf]
      | 7, _ =>
        have ix : ∀ W, (Instr.index 142 (.agg #[.string ⟨(kw 0).toArray⟩, .string ⟨(kw 1).toArray⟩, .string ⟨(kw 2).toArray⟩, .string ⟨(kw 3).toArray⟩, .string ⟨(kw 4).toArray⟩, .string ⟨(kw 5).toArray⟩, .string ⟨(kw 6).toArray⟩, .string ⟨(kw 7).toArray⟩, .string ⟨(kw 8).toArray⟩, .string ⟨(kw 9).toArray⟩]) (.int .i64 7)).run Tryz.prog W = .ok (.string ⟨(kw 7).toArray⟩) W := fun _ => by kernel_rfl
        by_cases h : kw 7 = bl s
        · have HV : Hid (kindV (bl s) = 7) := by show _ = _; rw [← h]; decide
          have y2 : kw 7 = s.toList := by rw [ByteArray.toList_eq]; exact h
          have y1 : (kw 7 == s.toList) = true := by rw [y2]; exact beq_self_eq_true _
          clear y2 h
          go_wp2
          go_ret
          exact ⟨by rw [HV.out]; rfl, rfl⟩
        · have y2 : ¬ kw 7 = s.toList := by rw [ByteArray.toList_eq]; exact h
          have y1 : (kw 7 == s.toList) = false := by simpa using y2
          have HN2 : Hid (∀ j, j < 8 → kw j ≠ bl s) := fun j hj => by
            by_cases e : j = 7
            · rw [e]; exact h
            · exact HN.out j (by omega)
          go_wp2
          go_roundw
          case rel => exact ⟨8, by decide, by first | trivial | rfl, by first | trivial | rfl, HN2.out⟩
          case measure => simp [intOf]
      | 8, _ =>
        have ix : ∀ W, (Instr.index 142 (.agg #[.string ⟨(kw 0).toArray⟩, .string ⟨(kw 1).toArray⟩, .string ⟨(kw 2).toArray⟩, .string ⟨(kw 3).toArray⟩, .string ⟨(kw 4).toArray⟩, .string ⟨(kw 5).toArray⟩, .string ⟨(kw 6).toArray⟩, .string ⟨(kw 7).toArray⟩, .string ⟨(kw 8).toArray⟩, .string ⟨(kw 9).toArray⟩]) (.int .i64 8)).run Tryz.prog W = .ok (.string ⟨(kw 8).toArray⟩) W := fun _ => by kernel_rfl
        by_cases h : kw 8 = bl s
        · have HV : Hid (kindV (bl s) = 8) := by show _ = _; rw [← h]; decide
          have y2 : kw 8 = s.toList := by rw [ByteArray.toList_eq]; exact h
          have y1 : (kw 8 == s.toList) = true := by rw [y2]; exact beq_self_eq_true _
          clear y2 h
          go_wp2
          go_ret
          exact ⟨by rw [HV.out]; rfl, rfl⟩
        · have y2 : ¬ kw 8 = s.toList := by rw [ByteArray.toList_eq]; exact h
          have y1 : (kw 8 == s.toList) = false := by simpa using y2
          have HN2 : Hid (∀ j, j < 9 → kw j ≠ bl s) := fun j hj => by
            by_cases e : j = 8
            · rw [e]; exact h
            · exact HN.out j (by omega)
          go_wp2
          go_roundw
          case rel => exact ⟨9, by decide, by first | trivial | rfl, by first | trivial | rfl, HN2.out⟩
          case measure => simp [intOf]
      | 9, _ =>
        have ix : ∀ W, (Instr.index 142 (.agg #[.string ⟨(kw 0).toArray⟩, .string ⟨(kw 1).toArray⟩, .string ⟨(kw 2).toArray⟩, .string ⟨(kw 3).toArray⟩, .string ⟨(kw 4).toArray⟩, .string ⟨(kw 5).toArray⟩, .string ⟨(kw 6).toArray⟩, .string ⟨(kw 7).toArray⟩, .string ⟨(kw 8).toArray⟩, .string ⟨(kw 9).toArray⟩]) (.int .i64 9)).run Tryz.prog W = .ok (.string ⟨(kw 9).toArray⟩) W := fun _ => by kernel_rfl
        by_cases h : kw 9 = bl s
        · have HV : Hid (kindV (bl s) = 9) := by show _ = _; rw [← h]; decide
          have y2 : kw 9 = s.toList := by rw [ByteArray.toList_eq]; exact h
          have y1 : (kw 9 == s.toList) = true := by rw [y2]; exact beq_self_eq_true _
          clear y2 h
          go_wp2
          go_ret
          exact ⟨by rw [HV.out]; rfl, rfl⟩
        · have y2 : ¬ kw 9 = s.toList := by rw [ByteArray.toList_eq]; exact h
          have y1 : (kw 9 == s.toList) = false := by simpa using y2
          have HN2 : Hid (∀ j, j < 10 → kw j ≠ bl s) := fun j hj => by
            by_cases e : j = 9
            · rw [e]; exact h
            · exact HN.out j (by omega)
          go_wp2
          go_roundw
          case rel => exact ⟨10, by decide, by first | trivial | rfl, by first | trivial | rfl, HN2.out⟩
          case measure => simp [intOf]
    · obtain rfl : k = 10 := by omega
      have HV : Hid (kindV (bl s) = -1) := kindV_none HN.out
      go_wp2
      go_ret
      exact ⟨by rw [HV.out]; rfl, rfl⟩
end Go.Proofs.YtcnfkdecghdphabGreatDoor
