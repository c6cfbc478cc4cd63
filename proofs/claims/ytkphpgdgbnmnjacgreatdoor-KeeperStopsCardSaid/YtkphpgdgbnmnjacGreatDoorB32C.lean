/-
  Several texts as one: CfRName, CfHeavyE.
-/
import Derived.Test.YtkphpgdgbnmnjacGreatDoorB22C
import Derived.Test.YtkphpgdgbnmnjacGreatDoorB01C
namespace Go.Proofs.YtkphpgdgbnmnjacGreatDoor
open Go.RowKit Go.Extern.Stop Go.Stop Go.Extern

set_option maxHeartbeats 2000000 in
set_option maxRecDepth 100000 in
theorem rName_at (s : ByteArray) (w : World) (hs : s.size ≤ 1000000) : Calls Tryz.prog 76 #[.string s] w fun e w' => e = .returned (.bool (isName s)) ∧ w' = w := by
  by_cases h1 : s.size < 1
  · have HY : Hid (isName s = false) := isName_no (Or.inl h1)
    have g1 : (s.size : Int) < 1 := by omega
    clear h1
    go_enter Tryz.func76, Tryz.ntmps76
    go_wp2
    go_ret
    exact ⟨by first | rfl | (rw [HY.out]; rfl), rfl⟩
  have g1 : ¬ (s.size : Int) < 1 := by omega
  by_cases h2 : 12 < s.size
  · have HY : Hid (isName s = false) := isName_no (Or.inr h2)
    have g2 : (12 : Int) < (s.size : Int) := by omega
    clear h1 h2
    go_enter Tryz.func76, Tryz.ntmps76
    go_wp2
    go_ret
    exact ⟨by first | rfl | (rw [HY.out]; rfl), rfl⟩
  have g2 : ¬ (12 : Int) < (s.size : Int) := by omega
  have HZ : Hid (1 ≤ s.size ∧ s.size ≤ 12) := ⟨by omega, by omega⟩
  clear h1 h2 hs
  go_enter Tryz.func76, Tryz.ntmps76
  go_wp2_with fail
  clear g1 g2
  go_loopw [3, 4, 5] (fun i _ _ wr => ∃ k : Nat, k ≤ s.size ∧ i = .int .i64 k ∧ wr = w ∧ Hid ((∀ j, j < k → nameByte (s.data.toList.getD j 0) = true) ∧ (0 < k → isLetter (s.data.toList.getD 0 0) = true))) (fun i _ _ _ => s.size - (intOf i).toNat)
  case atStart => exact ⟨0, Nat.zero_le _, rfl, rfl, ⟨fun j hj => absurd hj (Nat.not_lt_zero _), fun h => absurd h (Nat.lt_irrefl _)⟩⟩
  case round =>
    obtain ⟨k, hk, rfl, rfl, HA⟩ := hrel
    by_cases hlt : k < s.size
    · have k1 : (k : Int) < (s.size : Int) := by omega
      have k2 : (0 : Int) ≤ (k : Int) := by omega
      have k12 : k < 12 := by have := HZ.out.2; omega
      have HB : Hid (s[k] = s.data.toList.getD k 0) := byte_at s k hlt
      have HY : Hid (nameByte (s.data.toList.getD k 0) = false → isName s = false) := fun h => isName_bad hlt h
      have HY0 : Hid (isLetter (s.data.toList.getD 0 0) = false → isName s = false) := fun h => isName_first h
      have hstep : ∀ (hb : nameByte (s.data.toList.getD k 0) = true) (hl : k = 0 → isLetter (s.data.toList.getD 0 0) = true), (∀ j, j < k + 1 → nameByte (s.data.toList.getD j 0) = true) ∧ (0 < k + 1 → isLetter (s.data.toList.getD 0 0) = true) := fun hb hl => by
        refine ⟨fun j hj => ?_, fun _ => ?_⟩
        · by_cases e : j = k
          · rw [e]; exact hb
          · exact HA.out.1 j (by omega)
        · by_cases e : k = 0
          · exact hl e
          · exact HA.out.2 (by omega)
      have HST : Hid (∀ (hb : nameByte (s.data.toList.getD k 0) = true) (hl : k = 0 → isLetter (s.data.toList.getD 0 0) = true), (∀ j, j < k + 1 → nameByte (s.data.toList.getD j 0) = true) ∧ (0 < k + 1 → isLetter (s.data.toList.getD 0 0) = true)) := hstep
      clear hstep
      generalize hcc : s[k] = c at *
      have HC : Hid (c = s.data.toList.getD k 0) := HB.out
      have hv := c.toNat_lt
      by_cases b1 : 97 ≤ c.toNat ∧ c.toNat ≤ 122
      · have n1 : (97 : Int) ≤ (c.toNat : Int) := by omega
        have n2 : (c.toNat : Int) ≤ 122 := by omega
        have HL : Hid (isLetter c = true) := by show _ = _; simp [isLetter]; omega
        clear b1 hv
        go_wp2
        go_roundw
        case rel =>
          refine ⟨k + 1, by omega, by go_num, by first | trivial | rfl, HST.out ?_ ?_⟩
          · rw [← HC.out]; have := HL.out; simp [nameByte, this]
          · rintro rfl; rw [← HC.out]; exact HL.out
        case measure => simp [intOf]; omega
      · have HL : Hid (isLetter c = false) := by show _ = _; simp [isLetter]; omega
        by_cases q0 : c.toNat < 45
        · have n0 : ¬ (97 : Int) ≤ (c.toNat : Int) := by omega
          have n1 : ¬ (48 : Int) ≤ (c.toNat : Int) := by omega
          have n9 : ((c.toNat : Int) == 45) = false := by rw [beq_eq_false_iff_ne]; omega
          have HO : Hid (nameByte c = false) := by show _ = _; have := HL.out; simp [nameByte, this, isDig]; omega
          clear b1 hv q0
          by_cases hk0 : k = 0
          · have HF : Hid (isName s = false) := HY0.out (by have h2 := HC.out; rw [hk0] at h2; rw [← h2]; exact HL.out)
            have kz : ((k : Int) == 0) = true := by rw [beq_iff_eq]; omega
            clear hk0
            go_wp2
            go_ret
            exact ⟨by first | rfl | (rw [HF.out]; rfl), by first | trivial | rfl⟩
          · have kz : ((k : Int) == 0) = false := by rw [beq_eq_false_iff_ne]; omega
            have HK0 : Hid (¬ k = 0) := hk0
            clear hk0
            have HF : Hid (isName s = false) := HY.out (by rw [← HC.out]; exact HO.out)
            go_wp2
            go_ret
            exact ⟨by first | rfl | (rw [HF.out]; rfl), by first | trivial | rfl⟩
        by_cases q1 : c.toNat = 45
        · have n0 : ¬ (97 : Int) ≤ (c.toNat : Int) := by omega
          have n1 : ¬ (48 : Int) ≤ (c.toNat : Int) := by omega
          have n9 : ((c.toNat : Int) == 45) = true := by rw [beq_iff_eq]; omega
          have HO : Hid (nameByte c = true) := by show _ = _; have := HL.out; simp [nameByte, this, isDig]; omega
          clear b1 hv q0 q1
          by_cases hk0 : k = 0
          · have HF : Hid (isName s = false) := HY0.out (by have h2 := HC.out; rw [hk0] at h2; rw [← h2]; exact HL.out)
            have kz : ((k : Int) == 0) = true := by rw [beq_iff_eq]; omega
            clear hk0
            go_wp2
            go_ret
            exact ⟨by first | rfl | (rw [HF.out]; rfl), by first | trivial | rfl⟩
          · have kz : ((k : Int) == 0) = false := by rw [beq_eq_false_iff_ne]; omega
            have HK0 : Hid (¬ k = 0) := hk0
            clear hk0
            go_wp2
            go_roundw
            case rel => exact ⟨k + 1, by omega, by go_num, by first | trivial | rfl, HST.out (by rw [← HC.out]; exact HO.out) (fun h => absurd h HK0.out)⟩
            case measure => simp [intOf]; omega
        by_cases q2 : c.toNat < 48
        · have n0 : ¬ (97 : Int) ≤ (c.toNat : Int) := by omega
          have n1 : ¬ (48 : Int) ≤ (c.toNat : Int) := by omega
          have n9 : ((c.toNat : Int) == 45) = false := by rw [beq_eq_false_iff_ne]; omega
          have HO : Hid (nameByte c = false) := by show _ = _; have := HL.out; simp [nameByte, this, isDig]; omega
          clear b1 hv q0 q1 q2
          by_cases hk0 : k = 0
          · have HF : Hid (isName s = false) := HY0.out (by have h2 := HC.out; rw [hk0] at h2; rw [← h2]; exact HL.out)
            have kz : ((k : Int) == 0) = true := by rw [beq_iff_eq]; omega
            clear hk0
            go_wp2
            go_ret
            exact ⟨by first | rfl | (rw [HF.out]; rfl), by first | trivial | rfl⟩
          · have kz : ((k : Int) == 0) = false := by rw [beq_eq_false_iff_ne]; omega
            have HK0 : Hid (¬ k = 0) := hk0
            clear hk0
            have HF : Hid (isName s = false) := HY.out (by rw [← HC.out]; exact HO.out)
            go_wp2
            go_ret
            exact ⟨by first | rfl | (rw [HF.out]; rfl), by first | trivial | rfl⟩
        by_cases q3 : c.toNat ≤ 57
        · have n0 : ¬ (97 : Int) ≤ (c.toNat : Int) := by omega
          have n1 : (48 : Int) ≤ (c.toNat : Int) := by omega
          have n2 : (c.toNat : Int) ≤ 57 := by omega
          have HO : Hid (nameByte c = true) := by show _ = _; have := HL.out; simp [nameByte, this, isDig]; omega
          clear b1 hv q0 q1 q2 q3
          by_cases hk0 : k = 0
          · have HF : Hid (isName s = false) := HY0.out (by have h2 := HC.out; rw [hk0] at h2; rw [← h2]; exact HL.out)
            have kz : ((k : Int) == 0) = true := by rw [beq_iff_eq]; omega
            clear hk0
            go_wp2
            go_ret
            exact ⟨by first | rfl | (rw [HF.out]; rfl), by first | trivial | rfl⟩
          · have kz : ((k : Int) == 0) = false := by rw [beq_eq_false_iff_ne]; omega
            have HK0 : Hid (¬ k = 0) := hk0
            clear hk0
            go_wp2
            go_roundw
            case rel => exact ⟨k + 1, by omega, by go_num, by first | trivial | rfl, HST.out (by rw [← HC.out]; exact HO.out) (fun h => absurd h HK0.out)⟩
            case measure => simp [intOf]; omega
        by_cases q4 : c.toNat < 97
        · have n0 : ¬ (97 : Int) ≤ (c.toNat : Int) := by omega
          have n1 : (48 : Int) ≤ (c.toNat : Int) := by omega
          have n2 : ¬ (c.toNat : Int) ≤ 57 := by omega
          have n9 : ((c.toNat : Int) == 45) = false := by rw [beq_eq_false_iff_ne]; omega
          have HO : Hid (nameByte c = false) := by show _ = _; have := HL.out; simp [nameByte, this, isDig]; omega
          clear b1 hv q0 q1 q2 q3 q4
          by_cases hk0 : k = 0
          · have HF : Hid (isName s = false) := HY0.out (by have h2 := HC.out; rw [hk0] at h2; rw [← h2]; exact HL.out)
            have kz : ((k : Int) == 0) = true := by rw [beq_iff_eq]; omega
            clear hk0
            go_wp2
            go_ret
            exact ⟨by first | rfl | (rw [HF.out]; rfl), by first | trivial | rfl⟩
          · have kz : ((k : Int) == 0) = false := by rw [beq_eq_false_iff_ne]; omega
            have HK0 : Hid (¬ k = 0) := hk0
            clear hk0
            have HF : Hid (isName s = false) := HY.out (by rw [← HC.out]; exact HO.out)
            go_wp2
            go_ret
            exact ⟨by first | rfl | (rw [HF.out]; rfl), by first | trivial | rfl⟩
        · have n0 : (97 : Int) ≤ (c.toNat : Int) := by omega
          have n1 : ¬ (c.toNat : Int) ≤ 122 := by omega
          have n2 : (48 : Int) ≤ (c.toNat : Int) := by omega
          have n3 : ¬ (c.toNat : Int) ≤ 57 := by omega
          have n9 : ((c.toNat : Int) == 45) = false := by rw [beq_eq_false_iff_ne]; omega
          have HO : Hid (nameByte c = false) := by show _ = _; have := HL.out; simp [nameByte, this, isDig]; omega
          clear b1 hv q0 q1 q2 q3 q4
          by_cases hk0 : k = 0
          · have HF : Hid (isName s = false) := HY0.out (by have h2 := HC.out; rw [hk0] at h2; rw [← h2]; exact HL.out)
            have kz : ((k : Int) == 0) = true := by rw [beq_iff_eq]; omega
            clear hk0
            go_wp2
            go_ret
            exact ⟨by first | rfl | (rw [HF.out]; rfl), by first | trivial | rfl⟩
          · have kz : ((k : Int) == 0) = false := by rw [beq_eq_false_iff_ne]; omega
            have HK0 : Hid (¬ k = 0) := hk0
            clear hk0
            have HF : Hid (isName s = false) := HY.out (by rw [← HC.out]; exact HO.out)
            go_wp2
            go_ret
            exact ⟨by first | rfl | (rw [HF.out]; rfl), by first | trivial | rfl⟩
    · have k1 : ¬ (k : Int) < (s.size : Int) := by omega
      have HY : Hid (isName s = true) := isName_yes HZ.out.1 HZ.out.2 (HA.out.2 (by have := HZ.out.1; omega)) (fun j hj => HA.out.1 j (by omega))
      go_wp2
      go_ret
      exact ⟨by first | rfl | (rw [HY.out]; rfl), by first | trivial | rfl⟩
end Go.Proofs.YtkphpgdgbnmnjacGreatDoor

namespace Go.Proofs.YtkphpgdgbnmnjacGreatDoor
open Go.RowKit Go.Extern.Stop Go.Stop Go.Extern

def heavyE (e : EntD) : Bool := decide (60 < e.name.size) || decide (30 < e.pts.length) || decide (30 < e.gaps.length) || decide (80 < e.edges.length) || decide (30 < e.first.length) || decide (30 < e.last.length) || e.pts.any (fun p => decide (60 < p.size))
def one01 (b : Bool) : Int := if b then 1 else 0
theorem heavyE_small {e : EntD} (h : heavyE e = false) : SmallE e := by
  unfold heavyE at h
  simp only [Bool.or_eq_false_iff, decide_eq_false_iff_not] at h
  obtain ⟨⟨⟨⟨⟨⟨h1, h2⟩, h3⟩, h4⟩, h5⟩, h6⟩, h7⟩ := h
  refine ⟨by omega, by omega, fun p hp => ?_, by omega, by omega, by omega, by omega⟩
  have := List.any_eq_false.1 h7 p hp
  simp only [decide_eq_true_eq] at this
  omega
set_option maxHeartbeats 2000000 in
set_option maxRecDepth 100000 in
theorem heavyE_at (e : EntD) (pa ga ea fa la : Option Addr) (pc gc ec fc lc : Nat) (w : World) (hp : SlAt encS 1 w (.slice pa e.pts.length pc) e.pts) :
    Calls Tryz.prog 42 #[.agg #[.string e.name, .int .i64 e.tol, .slice pa e.pts.length pc, .int .i64 e.cnt, .int .i64 e.mn, .int .i64 e.mx, .slice ga e.gaps.length gc, .slice ea e.edges.length ec, .slice fa e.first.length fc, .slice la e.last.length lc]] w fun v w' => v = .returned (.int .i64 (one01 (heavyE e))) ∧ Below w.heap.size w w' := by
  have HPt : Hid (SlAt encS 1 w (.slice pa e.pts.length pc) e.pts) := hp
  clear hp
  by_cases h0 : 60 < e.name.size
  · have HV : Hid (heavyE e = true) := by show _ = _; unfold heavyE; simp [h0]
    have g0 : (60 : Int) < (e.name.size : Int) := by omega
    clear h0
    go_enter Tryz.func42, Tryz.ntmps42
    go_wp2
    go_ret
    exact ⟨by first | rfl | (rw [HV.out]; rfl), Below.one _ _⟩
  have g0 : ¬ (60 : Int) < (e.name.size : Int) := by omega
  by_cases h1 : 30 < e.pts.length
  · have HV : Hid (heavyE e = true) := by show _ = _; unfold heavyE; simp [h1]
    have g1 : (30 : Int) < (e.pts.length : Int) := by omega
    clear h0 h1
    go_enter Tryz.func42, Tryz.ntmps42
    go_wp2
    go_ret
    exact ⟨by first | rfl | (rw [HV.out]; rfl), Below.one _ _⟩
  have g1 : ¬ (30 : Int) < (e.pts.length : Int) := by omega
  by_cases h2 : 30 < e.gaps.length
  · have HV : Hid (heavyE e = true) := by show _ = _; unfold heavyE; simp [h2]
    have g2 : (30 : Int) < (e.gaps.length : Int) := by omega
    clear h0 h1 h2
    go_enter Tryz.func42, Tryz.ntmps42
    go_wp2
    go_ret
    exact ⟨by first | rfl | (rw [HV.out]; rfl), Below.one _ _⟩
  have g2 : ¬ (30 : Int) < (e.gaps.length : Int) := by omega
  by_cases h3 : 80 < e.edges.length
  · have HV : Hid (heavyE e = true) := by show _ = _; unfold heavyE; simp [h3]
    have g3 : (80 : Int) < (e.edges.length : Int) := by omega
    clear h0 h1 h2 h3
    go_enter Tryz.func42, Tryz.ntmps42
    go_wp2
    go_ret
    exact ⟨by first | rfl | (rw [HV.out]; rfl), Below.one _ _⟩
  have g3 : ¬ (80 : Int) < (e.edges.length : Int) := by omega
  by_cases h4 : 30 < e.first.length
  · have HV : Hid (heavyE e = true) := by show _ = _; unfold heavyE; simp [h4]
    have g4 : (30 : Int) < (e.first.length : Int) := by omega
    clear h0 h1 h2 h3 h4
    go_enter Tryz.func42, Tryz.ntmps42
    go_wp2
    go_ret
    exact ⟨by first | rfl | (rw [HV.out]; rfl), Below.one _ _⟩
  have g4 : ¬ (30 : Int) < (e.first.length : Int) := by omega
  by_cases h5 : 30 < e.last.length
  · have HV : Hid (heavyE e = true) := by show _ = _; unfold heavyE; simp [h5]
    have g5 : (30 : Int) < (e.last.length : Int) := by omega
    clear h0 h1 h2 h3 h4 h5
    go_enter Tryz.func42, Tryz.ntmps42
    go_wp2
    go_ret
    exact ⟨by first | rfl | (rw [HV.out]; rfl), Below.one _ _⟩
  have g5 : ¬ (30 : Int) < (e.last.length : Int) := by omega
  have HV0 : Hid (heavyE e = e.pts.any (fun p => decide (60 < p.size))) := by show _ = _; unfold heavyE; simp [h0, h1, h2, h3, h4, h5]
  have HLn : Hid (e.pts.length ≤ 30) := by show _ ≤ _; omega
  clear h0 h1 h2 h3 h4 h5
  go_enter Tryz.func42, Tryz.ntmps42
  go_upto_region 3 with fail
  obtain ⟨W0, hW0⟩ : ∃ V, V = w.alloc (.cells #[.string e.name, .int .i64 e.tol, .slice pa e.pts.length pc, .int .i64 e.cnt, .int .i64 e.mn, .int .i64 e.mx, .slice ga e.gaps.length gc, .slice ea e.edges.length ec, .slice fa e.first.length fc, .slice la e.last.length lc] 38) := ⟨_, rfl⟩
  rw [← hW0]
  have p2 : W0.cell? ⟨w.heap.size, 2, none⟩ = some (.slice pa e.pts.length pc) := by rw [hW0, World.cell?_alloc_at _ _ _ _ rfl]; rfl
  have HBl : Hid (Below w.heap.size w W0) := by show Below _ _ _; rw [hW0]; exact Below.one _ _
  clear hW0 g0 g1 g2 g3 g4 g5
  go_wp2_with fail
  go_loopw [3] (fun i wr => ∃ k : Nat, k ≤ e.pts.length ∧ i = .int .i64 k ∧ wr = W0 ∧ Hid (∀ (j : Nat) q, j < k → e.pts[j]? = some q → ¬ 60 < q.size)) (fun i _ => e.pts.length - (intOf i).toNat)
  case atStart => exact ⟨0, Nat.zero_le _, rfl, rfl, fun j q hj => absurd hj (Nat.not_lt_zero _)⟩
  case round =>
    obtain ⟨k, hk, rfl, rfl, hall⟩ := hrel
    by_cases hlt : k < e.pts.length
    · obtain ⟨q, hq⟩ : ∃ q, e.pts[k]? = some q := ⟨_, List.getElem?_eq_getElem hlt⟩
      obtain ⟨sa', cap', hsl, -, hcc⟩ := HPt.out.below HBl.out
      cases hsl
      obtain ⟨b, o, rfl, hc0⟩ := hcc (fun h => by rw [h] at hq; simp at hq)
      have c0 := hc0 k q hq 0 _ rfl
      simp only [Nat.mul_one, Nat.add_zero] at c0
      have HQ : Hid (e.pts[k]? = some q) := hq
      have k1 : (k : Int) < (e.pts.length : Int) := by omega
      have k2 : (0 : Int) ≤ (k : Int) := by omega
      have k0 : k < 30 := by have := HLn.out; omega
      have HM : Hid (60 < q.size → heavyE e = true) := fun h => by rw [HV0.out]; exact List.any_eq_true.2 ⟨q, List.mem_of_getElem? hq, by simpa using h⟩
      clear hq hc0 hcc
      by_cases hs : 60 < q.size
      · have g : (60 : Int) < (q.size : Int) := by omega
        have HS : Hid (60 < q.size) := hs
        clear hs
        go_wp2
        go_ret
        exact ⟨by first | rfl | (rw [HM.out HS.out]; rfl), HBl.out⟩
      · have g : ¬ (60 : Int) < (q.size : Int) := by omega
        have HS : Hid (¬ 60 < q.size) := hs
        clear hs
        go_wp2
        go_roundw
        case rel =>
          refine ⟨k + 1, by omega, by go_num, by first | trivial | rfl, fun j q' hj he => ?_⟩
          by_cases hjk : j = k
          · subst hjk
            have h2 := HQ.out
            rw [h2] at he
            cases he
            exact HS.out
          · exact hall.out j q' (by omega) he
        case measure => simp [intOf]; omega
    · have k1 : ¬ (k : Int) < (e.pts.length : Int) := by omega
      have HN : Hid (heavyE e = false) := by
        show _ = _
        rw [HV0.out, List.any_eq_false]
        intro q hq
        obtain ⟨j, hj, rfl⟩ := List.getElem_of_mem hq
        have := hall.out j _ (by omega) (List.getElem?_eq_getElem hj)
        simpa using this
      go_wp2
      go_ret
      exact ⟨by first | rfl | (rw [HN.out]; rfl), HBl.out⟩
end Go.Proofs.YtkphpgdgbnmnjacGreatDoor
