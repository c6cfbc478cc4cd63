/-
  The document's Step by a contract: 'bearsE' of FlPure. Conditions: the entity's lists lie in memory, and are not too long.
-/
import Derived.Test.YtpaolneaomeoiacDoorPureX
import Derived.Test.YtpaolneaomeoiacDoorMemX
import Derived.Test.YtpaolneaomeoiacDoorDcHasX
import Derived.Test.YtpaolneaomeoiacDoorEqPairX
import Derived.Test.YtpaolneaomeoiacDoorOrdX
import Derived.BigQuiet
import Derived.Deep.QuietTactic
import Derived.Deep.DeepCutAuto
import Derived.WalkSmall
namespace Go.Proofs.YtpaolneaomeoiacDoor
open Go.RowKit Go.Extern.Stop Go.Stop Go.Extern

theorem any_mem (l : List Int) (p : Int) : (l.any fun y => decide (p = y)) = decide (p ∈ l) := by
  rw [Bool.eq_iff_iff]
  simp
set_option maxHeartbeats 4000000 in
set_option maxRecDepth 100000 in
theorem step_at (e : EntD) (pa ga ea fa la : Option Addr) (pc gc ec fc lc : Nat) (ah p : Int) (w : World) (hP : EntParts w e (.slice pa e.pts.length pc) (.slice ga e.gaps.length gc) (.slice ea e.edges.length ec) (.slice fa e.first.length fc) (.slice la e.last.length lc)) (hS : SmallE e) (hah : ah = -1 ∨ 0 ≤ ah) :
    Calls Tryd.prog 56 #[.agg #[.string e.name, .int .i64 e.tol, .slice pa e.pts.length pc, .int .i64 e.cnt, .int .i64 e.mn, .int .i64 e.mx, .slice ga e.gaps.length gc, .slice ea e.edges.length ec, .slice fa e.first.length fc, .slice la e.last.length lc], .int .i64 ah, .int .i64 p] w fun v w' => v = .returned (.bool (bearsE e ah p)) ∧ Below w.heap.size w w' := by
  have HP : Hid (∀ V, Below w.heap.size w V → EntParts V e (.slice pa e.pts.length pc) (.slice ga e.gaps.length gc) (.slice ea e.edges.length ec) (.slice fa e.first.length fc) (.slice la e.last.length lc)) := fun V hV => hP.below hV
  have HSm : Hid (SmallE e) := hS
  have HA : Hid (ah = -1 ∨ 0 ≤ ah) := hah
  clear hP hS hah
  go_enter Tryd.func56, Tryd.ntmps56
  go_upto_region 1 with fail
  obtain ⟨W, hW⟩ : ∃ V, V = w.alloc (.cells #[.string e.name, .int .i64 e.tol, .slice pa e.pts.length pc, .int .i64 e.cnt, .int .i64 e.mn, .int .i64 e.mx, .slice ga e.gaps.length gc, .slice ea e.edges.length ec, .slice fa e.first.length fc, .slice la e.last.length lc] 27) := ⟨_, rfl⟩
  rw [← hW]
  have HBW : Hid (Below w.heap.size w W) := by show Below _ _ _; rw [hW]; exact Below.one _ _
  have HX : Hid (∀ V, Below W.heap.size W V → ∀ (j : Nat) u, (#[.string e.name, .int .i64 e.tol, .slice pa e.pts.length pc, .int .i64 e.cnt, .int .i64 e.mn, .int .i64 e.mx, .slice ga e.gaps.length gc, .slice ea e.edges.length ec, .slice fa e.first.length fc, .slice la e.last.length lc] : Array Value)[j]? = some u → V.cell? ⟨w.heap.size, j, none⟩ = some u) := fun V hV j u hu => by
    refine cell_below hV ?_
    rw [hW]
    have := ce_at w [.string e.name, .int .i64 e.tol, .slice pa e.pts.length pc, .int .i64 e.cnt, .int .i64 e.mn, .int .i64 e.mx, .slice ga e.gaps.length gc, .slice ea e.edges.length ec, .slice fa e.first.length fc, .slice la e.last.length lc] 27 j u (by simpa using hu)
    rw [addC_plain] at this
    simpa using this
  clear hW
  have p7 := HX.out W (Below.refl _ _) 7 _ rfl
  by_cases h0 : e.edges = []
  · have hz : e.edges.length = 0 := by rw [h0]; rfl
    have HR : Hid (bearsE e ah p = true) := by show _ = _; unfold bearsE; rw [decide_eq_true h0]; rfl
    clear h0
    go_wp2
    go_ret
    exact ⟨by rw [HR.out]; rfl, HBW.out⟩
  have hz : ¬ (e.edges.length : Int) = 0 := by
    have : e.edges.length ≠ 0 := fun h => h0 (List.eq_nil_of_length_eq_zero h)
    omega
  have HD : Hid (bearsE e ah p = (hasP e p && (if ah = -1 then decide (p ∈ e.first) else decide ((ah, p) ∈ e.edges)))) := by show _ = _; unfold bearsE; rw [decide_eq_false h0]; rfl
  clear h0
  have p2 := HX.out W (Below.refl _ _) 2 _ rfl
  by_cases q0 : p < 0
  · have HR : Hid (bearsE e ah p = false) := by show _ = _; rw [HD.out]; unfold hasP; rw [decide_eq_false (by omega)]; rfl
    go_wp2
    go_ret
    exact ⟨by rw [HR.out]; rfl, HBW.out⟩
  by_cases q1 : (e.pts.length : Int) ≤ p
  · have HR : Hid (bearsE e ah p = false) := by show _ = _; rw [HD.out]; unfold hasP; rw [decide_eq_false (p := p < _) (by omega), Bool.and_false]; rfl
    go_wp2
    go_ret
    exact ⟨by rw [HR.out]; rfl, HBW.out⟩
  have HH : Hid (hasP e p = true) := by show _ = _; unfold hasP; rw [decide_eq_true (by omega), decide_eq_true (by omega)]; rfl
  by_cases q2 : ah = -1
  · have HR : Hid (bearsE e ah p = (e.first.any fun y => decide (p = y))) := by show _ = _; rw [HD.out, HH.out, if_pos q2, any_mem]; rfl
    have p8 := HX.out W (Below.refl _ _) 8 _ rfl
    subst q2
    go_wp2_with (go_at_call 31; refine (has_at e.first p _ _ _ (HP.out _ HBW.out).hf HSm.out.hf).mono ?_; rintro v w' ⟨rfl, rfl⟩)
    go_ret
    exact ⟨by rw [HR.out]; rfl, HBW.out⟩
  · have HR : Hid (bearsE e ah p = decide ((ah, p) ∈ e.edges)) := by show _ = _; rw [HD.out, HH.out, if_neg q2]; rfl
    have q3 : ¬ ah < 0 := by rcases HA.out with h | h; exact absurd h q2; omega
    clear HD HH q2 HA
    go_upto_region 7 with fail
    go_cut [7] (fun i wx => i = .int .i64 0 ∧ wx = W)
    case first =>
      go_wp2_with fail
      go_meet
      case rel => exact ⟨rfl, rfl⟩
    obtain ⟨rfl, rfl⟩ := hcut
    rename World => W
    clear p2 p7 hz q0 q1 q3
    go_wp2_with fail
    go_loopw [7] (fun i wr => ∃ k : Nat, k ≤ e.edges.length ∧ i = .int .i64 k ∧ wr = W ∧ ∀ j, j < k → e.edges[j]? ≠ some (ah, p)) (fun i _ => e.edges.length - (intOf i).toNat)
    case atStart => exact ⟨0, Nat.zero_le _, rfl, rfl, fun j hj => absurd hj (by omega)⟩
    case round =>
      obtain ⟨k, hk, rfl, rfl, hno⟩ := hrel
      have HNo : Hid (∀ j, j < k → e.edges[j]? ≠ some (ah, p)) := hno
      clear hno
      have p7 := HX.out _ (Below.refl _ _) 7 _ rfl
      by_cases hlt : k < e.edges.length
      · have k1 : (k : Int) < (e.edges.length : Int) := by omega
        have k2 : k < 1000000 := by have := HSm.out.he; omega
        obtain ⟨x, hx⟩ : ∃ x, e.edges[k]? = some x := ⟨_, List.getElem?_eq_getElem hlt⟩
        have HXk : Hid (e.edges[k]? = some x) := hx
        obtain ⟨sa', cap', hsl, -, hcc⟩ := (HP.out _ HBW.out).he
        cases hsl
        obtain ⟨g, o, rfl, hc0⟩ := hcc (fun h => by rw [h] at hx; simp at hx)
        have c0 := hc0 k _ hx 0 _ rfl
        have c1 := hc0 k _ hx 1 _ rfl
        simp only [Nat.add_zero] at c0
        clear hcc hc0 hx
        have gpf := Tryd.guardPair
        by_cases hxy : x = (ah, p)
        · have eqf : ∀ w, (binOp .eql 58 (.agg #[.int .i64 x.1, .int .i64 x.2]) (.agg #[.int .i64 ah, .int .i64 p])).run Tryd.prog w = .ok (.bool true) w := fun w => by rw [eql_pair, hxy]; simp
          have HE : Hid ((ah, p) ∈ e.edges) := by show _ ∈ _; rw [← hxy]; exact List.mem_of_getElem? HXk.out
          clear hxy
          go_wp2
          go_ret
          exact ⟨by rw [HR.out, decide_eq_true HE.out]; rfl, HBW.out⟩
        · have eqf : ∀ w, (binOp .eql 58 (.agg #[.int .i64 x.1, .int .i64 x.2]) (.agg #[.int .i64 ah, .int .i64 p])).run Tryd.prog w = .ok (.bool false) w := fun w => by
            rw [eql_pair]
            have : ((x.1 == ah) && (x.2 == p)) = false := by
              rw [Bool.eq_false_iff]
              intro h
              simp at h
              exact hxy (Prod.ext h.1 h.2)
            rw [this]
          have HE : Hid (∀ j, j < k + 1 → e.edges[j]? ≠ some (ah, p)) := fun j hj => by
            rcases Nat.lt_or_ge j k with h1 | h1
            · exact HNo.out j h1
            · rw [show j = k by omega, HXk.out]
              intro h
              exact hxy (by simpa using h)
          clear hxy
          go_wp2_with fail
          go_roundw
          case rel => exact ⟨k + 1, by omega, by go_num, trivial, HE.out⟩
          case measure => simp [intOf]; omega
      · have k1 : ¬ (k : Int) < (e.edges.length : Int) := by omega
        have HE : Hid ((ah, p) ∉ e.edges) := by
          show _ ∉ _
          intro h
          obtain ⟨i, hi⟩ := List.getElem?_of_mem h
          have : i < e.edges.length := (List.getElem?_eq_some_iff.1 hi).1
          exact HNo.out i (by omega) hi
        go_wp2
        go_ret
        exact ⟨by rw [HR.out, decide_eq_false HE.out]; rfl, HBW.out⟩
end Go.Proofs.YtpaolneaomeoiacDoor
