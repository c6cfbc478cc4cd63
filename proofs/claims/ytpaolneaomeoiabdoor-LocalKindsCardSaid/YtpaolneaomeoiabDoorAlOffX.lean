/-
  Package alive's Report and End by contracts that tell which block turns. No condition.
-/
import Derived.Test.YtpaolneaomeoiabDoorAlStX
import Derived.Test.YtpaolneaomeoiabDoorMemX
import Derived.Maps.AppendAt
namespace Go.Proofs.YtpaolneaomeoiabDoor
open Go.RowKit Go.Extern.Stop Go.Stop Go.Extern

theorem gr_drewN (w : World) (q : Nat) (r : Option Nat) : w.grownBy (w.drewN q) r := by
  have h := below_drewN (Below.refl w.heap.size w) q
  exact ⟨h.os, h.tape, h.output, h.size, fun k hk _ => h.block k hk⟩
variable {w : World} {b : Nat} {a : ASt}
set_option maxHeartbeats 1000000 in
set_option maxRecDepth 100000 in
theorem al_report2 (p : Int) (h : AlAt w b a) :
    Calls Tryd.prog 53 #[.pointer (some ⟨b, 0, none⟩), .int .i64 p] w fun e w' => e = .returned (.tuple #[]) ∧ AlAt w' b (a.rep p) ∧ w.grownBy w' (some b) := by
  have c0 := h.c0
  have c3 := h.c3
  have f3 := h.frozen 3
  have hn := h.hn
  by_cases h0 : a.pt = -1
  · have HR : Hid (a.rep p = a) := by show _ = _; unfold ASt.rep; rw [if_neg (fun e => e.1 h0)]
    rw [h0] at c0
    have H : Hid (AlAt w b a) := h
    clear h
    go_enter Tryd.func53, Tryd.ntmps53
    go_wp2
    go_end0
    exact ⟨rfl, by rw [HR.out]; exact H.out, World.grownBy.refl _ _⟩
  by_cases h1 : p = a.pt
  · subst h1
    by_cases h2 : a.n < 1000
    · have HR : Hid (a.rep a.pt = { a with n := a.n + 1 }) := by show _ = _; unfold ASt.rep; rw [if_pos ⟨h0, rfl, h2⟩]
      have H : Hid (AlAt w b a) := h
      clear h
      have h3 : (a.n : Int) < 1000 := by omega
      go_enter Tryd.func53, Tryd.ntmps53
      go_wp2
      go_end0
      refine ⟨rfl, ?_, grown_setCell _ _ _ _⟩
      rw [HR.out]
      have := H.out.set (a.n + 1) (by omega)
      simpa using this
    · have HR : Hid (a.rep a.pt = a) := by show _ = _; unfold ASt.rep; rw [if_neg (fun e => h2 e.2.2)]
      have H : Hid (AlAt w b a) := h
      clear h
      have h3 : ¬ (a.n : Int) < 1000 := by omega
      go_enter Tryd.func53, Tryd.ntmps53
      go_wp2
      go_end0
      exact ⟨rfl, by rw [HR.out]; exact H.out, World.grownBy.refl _ _⟩
  · have HR : Hid (a.rep p = a) := by show _ = _; unfold ASt.rep; rw [if_neg (fun e => h1 e.2.1)]
    have H : Hid (AlAt w b a) := h
    clear h
    go_enter Tryd.func53, Tryd.ntmps53
    go_wp2
    go_end0
    exact ⟨rfl, by rw [HR.out]; exact H.out, World.grownBy.refl _ _⟩
set_option maxHeartbeats 2000000 in
set_option maxRecDepth 100000 in
theorem al_end2 (whole : Bool) (h : AlAt w b a) :
    Calls Tryd.prog 51 #[.pointer (some ⟨b, 0, none⟩), .bool whole] w fun e w' => e = .returned (.bool (a.well whole)) ∧ AlAt w' b a.zero ∧ w.grownBy w' (some b) := by
  have c0 := h.c0
  have c1 := h.c1
  have c2 := h.c2
  have c3 := h.c3
  have f3 := h.frozen 3
  have H : Hid (∀ q, AlAt ((w.drewN q).setCell ⟨b, 3, none⟩ (.int .i64 0)) b a.zero ∧ w.grownBy ((w.drewN q).setCell ⟨b, 3, none⟩ (.int .i64 0)) (some b)) := fun q => ⟨(h.drewN q).set 0 (by omega), (gr_drewN w q (some b)).trans (grown_setCell _ _ _ _)⟩
  have d0 : ∀ q, ((w.drewN q).setCell ⟨b, 3, none⟩ (.int .i64 0)).cell? ⟨b, 0, none⟩ = some (.int .i64 a.pt) := fun q => ((h.drewN q).set 0 (by omega)).c0
  clear h
  cases g1 : decide (a.mn ≤ (a.n : Int))
  all_goals cases g2 : decide ((a.n : Int) ≤ a.mx)
  all_goals cases whole
  all_goals cases g3 : decide (a.pt = -1)
  all_goals
    go_enter Tryd.func51, Tryd.ntmps51
    go_wp2_with fail
    go_quiet (fail)
    go_wp2
    go_ret
    exact ⟨by first | (unfold ASt.well; rw [g1, g2, g3]; rfl) | (unfold ASt.well; rw [g1, g2]; rfl), H.out _⟩
end Go.Proofs.YtpaolneaomeoiabDoor
