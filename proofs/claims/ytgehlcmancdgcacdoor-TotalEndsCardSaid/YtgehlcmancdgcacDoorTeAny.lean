/-
  nightwatchlaw2.TotalEnds at any input: true. Conditions: the list lies in memory, the sentinels too; package total's End keeps its contract.
-/
import Derived.Test.YtgehlcmancdgcacDoorTeWalk
import Derived.Test.YtgehlcmancdgcacDoorCode
namespace Go.Proofs.YtgehlcmancdgcacDoor
open Go.RowKit Go.Extern.Stop Go.Stop Go.Extern

set_option maxRecDepth 100000 in
set_option maxHeartbeats 4000000 in
theorem ends9_any (HE : ToEndC) (A : Nat → Addr) (d : Int) (v1 : Value) (ll : List (List ByteArray)) (w : World) (hs : Senv A w) (hl : SlsAt w v1 ll) :
    Calls Tryd.prog 5 #[.int .i64 d, v1] w fun v w' => v = .returned (.bool true) ∧ Below w.heap.size w w' := by
  have HH : Hid ToEndC := HE
  have HSen : Hid (∀ V, Below w.heap.size w V → Senv A V) := fun V hV => hs.below hV
  clear HE hs
  obtain ⟨sl, slc, rfl, -⟩ := id hl
  by_cases g5 : 60 < (ll.length : Int)
  · go_enter Tryd.func5, Tryd.ntmps5
    go_wp2_with fail
    refine (summed_any HH.out _).mono ?_
    rintro v W ⟨rfl, hb0⟩
    have HB0 : Hid (Below w.heap.size w W) := hb0
    clear hb0
    go_wp2
    go_ret
    exact ⟨rfl, HB0.out⟩
  by_cases hd : d < 0 ∨ 20 < d
  · have HD : Hid (d < 0 ∨ 20 < d) := hd
    rcases hd with g1 | g1
    all_goals
      go_enter Tryd.func5, Tryd.ntmps5
      go_wp2_with fail
      refine (summed_any HH.out _).mono ?_
      rintro v W ⟨rfl, hb0⟩
      have HB0 : Hid (Below w.heap.size w W) := hb0
      clear hb0
      go_wp2_with fail
      refine (to_new_bad d _ _ HD.out (HSen.out W HB0.out).c1).mono ?_
      rintro v w1 ⟨rfl, hb1⟩
      have HB1 : Hid (Below w.heap.size w w1) := HB0.out.trans (hb1.mono HB0.out.size)
      clear hb1 HB0
      go_wp2_with fail
      refine (coded_sent A 1 2 _ (HSen.out w1 HB1.out) (by decide)).mono ?_
      rintro v w2 ⟨rfl, hb2⟩
      have HB2 : Hid (Below w.heap.size w w2) := HB1.out.trans (hb2.mono HB1.out.size)
      rw [show decide (((1 : Nat) : Int) + 1 = 2) = true from rfl]
      clear hb2 HB1
      go_wp2
      go_ret
      exact ⟨rfl, HB2.out⟩
  · obtain ⟨d, rfl⟩ := Int.eq_ofNat_of_zero_le (show 0 ≤ d by omega)
    exact ends9_in HH.out d sl ll slc w (by omega) (by omega) hl
end Go.Proofs.YtgehlcmancdgcacDoor
