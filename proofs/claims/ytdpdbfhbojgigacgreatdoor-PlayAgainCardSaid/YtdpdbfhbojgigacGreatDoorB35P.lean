/-
  nightwatchlaw1.HeavyEntity by a contract ('heavyE'). Condition: the entity's points lie in memory.
-/
import Derived.Test.YtdpdbfhbojgigacGreatDoorB01P
namespace Go.Proofs.YtdpdbfhbojgigacGreatDoor
open Go.RowKit Go.Extern.Stop Go.Stop Go.Extern

def heavyE (e : EntD) : Bool := decide (60 < e.name.size) || decide (30 < e.pts.length) || decide (30 < e.gaps.length) || decide (80 < e.edges.length) || decide (30 < e.first.length) || decide (30 < e.last.length) || e.pts.any (fun p => decide (60 < p.size))
def one01 (b : Bool) : Int := if b then 1 else 0
theorem heavyE_small {e : EntD} (h : heavyE e = false) : SmallE e := by
  unfold heavyE at h
  simp only [Bool.or_eq_false_iff, decide_eq_false_iff_not] at h
  obtain ⟨⟨⟨⟨⟨⟨h1, h2⟩, h3⟩, h4⟩, h5⟩, h6⟩, h7⟩ := h
  refine ⟨by omega, by omega, fun p hp => ?_, by omega, by omega, by omega, by omega⟩
  have := List.any_eq_false.1 h7 p hp
  simp only [decide_eq_true_eq] at this
  omega
set_option maxHeartbeats 2000000 in
set_option maxRecDepth 100000 in
theorem heavyE_at (e : EntD) (pa ga ea fa la : Option Addr) (pc gc ec fc lc : Nat) (w : World) (hp : SlAt encS 1 w (.slice pa e.pts.length pc) e.pts) :
    Calls Tryz.prog 50 #[.agg #[.string e.name, .int .i64 e.tol, .slice pa e.pts.length pc, .int .i64 e.cnt, .int .i64 e.mn, .int .i64 e.mx, .slice ga e.gaps.length gc, .slice ea e.edges.length ec, .slice fa e.first.length fc, .slice la e.last.length lc]] w fun v w' => v = .returned (.int .i64 (one01 (heavyE e))) ∧ Below w.heap.size w w' := by
  have HPt : Hid (SlAt encS 1 w (.slice pa e.pts.length pc) e.pts) := hp
  clear hp
  by_cases h0 : 60 < e.name.size
  · have HV : Hid (heavyE e = true) := by show _ = _; unfold heavyE; simp [h0]
    have g0 : (60 : Int) < (e.name.size : Int) := by omega
    clear h0
    go_enter Tryz.func50, Tryz.ntmps50
    go_wp2
    go_ret
    exact ⟨by first | rfl | (rw [HV.out]; rfl), Below.one _ _⟩
  have g0 : ¬ (60 : Int) < (e.name.size : Int) := by omega
  by_cases h1 : 30 < e.pts.length
  · have HV : Hid (heavyE e = true) := by show _ = _; unfold heavyE; simp [h1]
    have g1 : (30 : Int) < (e.pts.length : Int) := by omega
    clear h0 h1
    go_enter Tryz.func50, Tryz.ntmps50
    go_wp2
    go_ret
    exact ⟨by first | rfl | (rw [HV.out]; rfl), Below.one _ _⟩
  have g1 : ¬ (30 : Int) < (e.pts.length : Int) := by omega
  by_cases h2 : 30 < e.gaps.length
  · have HV : Hid (heavyE e = true) := by show _ = _; unfold heavyE; simp [h2]
    have g2 : (30 : Int) < (e.gaps.length : Int) := by omega
    clear h0 h1 h2
    go_enter Tryz.func50, Tryz.ntmps50
    go_wp2
    go_ret
    exact ⟨by first | rfl | (rw [HV.out]; rfl), Below.one _ _⟩
  have g2 : ¬ (30 : Int) < (e.gaps.length : Int) := by omega
  by_cases h3 : 80 < e.edges.length
  · have HV : Hid (heavyE e = true) := by show _ = _; unfold heavyE; simp [h3]
    have g3 : (80 : Int) < (e.edges.length : Int) := by omega
    clear h0 h1 h2 h3
    go_enter Tryz.func50, Tryz.ntmps50
    go_wp2
    go_ret
    exact ⟨by first | rfl | (rw [HV.out]; rfl), Below.one _ _⟩
  have g3 : ¬ (80 : Int) < (e.edges.length : Int) := by omega
  by_cases h4 : 30 < e.first.length
  · have HV : Hid (heavyE e = true) := by show _ = _; unfold heavyE; simp [h4]
    have g4 : (30 : Int) < (e.first.length : Int) := by omega
    clear h0 h1 h2 h3 h4
    go_enter Tryz.func50, Tryz.ntmps50
    go_wp2
    go_ret
    exact ⟨by first | rfl | (rw [HV.out]; rfl), Below.one _ _⟩
  have g4 : ¬ (30 : Int) < (e.first.length : Int) := by omega
  by_cases h5 : 30 < e.last.length
  · have HV : Hid (heavyE e = true) := by show _ = _; unfold heavyE; simp [h5]
    have g5 : (30 : Int) < (e.last.length : Int) := by omega
    clear h0 h1 h2 h3 h4 h5
    go_enter Tryz.func50, Tryz.ntmps50
    go_wp2
    go_ret
    exact ⟨by first | rfl | (rw [HV.out]; rfl), Below.one _ _⟩
  have g5 : ¬ (30 : Int) < (e.last.length : Int) := by omega
  have HV0 : Hid (heavyE e = e.pts.any (fun p => decide (60 < p.size))) := by show _ = _; unfold heavyE; simp [h0, h1, h2, h3, h4, h5]
  have HLn : Hid (e.pts.length ≤ 30) := by show _ ≤ _; omega
  clear h0 h1 h2 h3 h4 h5
  go_enter Tryz.func50, Tryz.ntmps50
  go_upto_region 3 with fail
  obtain ⟨W0, hW0⟩ : ∃ V, V = w.alloc (.cells #[.string e.name, .int .i64 e.tol, .slice pa e.pts.length pc, .int .i64 e.cnt, .int .i64 e.mn, .int .i64 e.mx, .slice ga e.gaps.length gc, .slice ea e.edges.length ec, .slice fa e.first.length fc, .slice la e.last.length lc] 38) := ⟨_, rfl⟩
  rw [← hW0]
  have p2 : W0.cell? ⟨w.heap.size, 2, none⟩ = some (.slice pa e.pts.length pc) := by rw [hW0, World.cell?_alloc_at _ _ _ _ rfl]; rfl
  have HBl : Hid (Below w.heap.size w W0) := by show Below _ _ _; rw [hW0]; exact Below.one _ _
  clear hW0 g0 g1 g2 g3 g4 g5
  go_wp2_with fail
  go_loopw [3] (fun i wr => ∃ k : Nat, k ≤ e.pts.length ∧ i = .int .i64 k ∧ wr = W0 ∧ Hid (∀ (j : Nat) q, j < k → e.pts[j]? = some q → ¬ 60 < q.size)) (fun i _ => e.pts.length - (intOf i).toNat)
  case atStart => exact ⟨0, Nat.zero_le _, rfl, rfl, fun j q hj => absurd hj (Nat.not_lt_zero _)⟩
  case round =>
    obtain ⟨k, hk, rfl, rfl, hall⟩ := hrel
    by_cases hlt : k < e.pts.length
    · obtain ⟨q, hq⟩ : ∃ q, e.pts[k]? = some q := ⟨_, List.getElem?_eq_getElem hlt⟩
      obtain ⟨sa', cap', hsl, -, hcc⟩ := HPt.out.below HBl.out
      cases hsl
      obtain ⟨b, o, rfl, hc0⟩ := hcc (fun h => by rw [h] at hq; simp at hq)
      have c0 := hc0 k q hq 0 _ rfl
      simp only [Nat.mul_one, Nat.add_zero] at c0
      have HQ : Hid (e.pts[k]? = some q) := hq
      have k1 : (k : Int) < (e.pts.length : Int) := by omega
      have k2 : (0 : Int) ≤ (k : Int) := by omega
      have k0 : k < 30 := by have := HLn.out; omega
      have HM : Hid (60 < q.size → heavyE e = true) := fun h => by rw [HV0.out]; exact List.any_eq_true.2 ⟨q, List.mem_of_getElem? hq, by simpa using h⟩
      clear hq hc0 hcc
      by_cases hs : 60 < q.size
      · have g : (60 : Int) < (q.size : Int) := by omega
        have HS : Hid (60 < q.size) := hs
        clear hs
        go_wp2
        go_ret
        exact ⟨by first | rfl | (rw [HM.out HS.out]; rfl), HBl.out⟩
      · have g : ¬ (60 : Int) < (q.size : Int) := by omega
        have HS : Hid (¬ 60 < q.size) := hs
        clear hs
        go_wp2
        go_roundw
        case rel =>
          refine ⟨k + 1, by omega, by go_num, by first | trivial | rfl, fun j q' hj he => ?_⟩
          by_cases hjk : j = k
          · subst hjk
            have h2 := HQ.out
            rw [h2] at he
            cases he
            exact HS.out
          · exact hall.out j q' (by omega) he
        case measure => simp [intOf]; omega
    · have k1 : ¬ (k : Int) < (e.pts.length : Int) := by omega
      have HN : Hid (heavyE e = false) := by
        show _ = _
        rw [HV0.out, List.any_eq_false]
        intro q hq
        obtain ⟨j, hj, rfl⟩ := List.getElem_of_mem hq
        have := hall.out j _ (by omega) (List.getElem?_eq_getElem hj)
        simpa using this
      go_wp2
      go_ret
      exact ⟨by first | rfl | (rw [HN.out]; rfl), HBl.out⟩
end Go.Proofs.YtdpdbfhbojgigacGreatDoor
