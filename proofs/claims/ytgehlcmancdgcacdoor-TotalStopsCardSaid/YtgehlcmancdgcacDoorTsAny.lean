/-
  nightwatchlaw2.TotalStops at any input: true. Conditions: the list lies in memory; package total's End keeps its contract.
-/
import Derived.Test.YtgehlcmancdgcacDoorTsWalk
namespace Go.Proofs.YtgehlcmancdgcacDoor
open Go.RowKit Go.Extern.Stop Go.Stop Go.Extern

set_option maxRecDepth 100000 in
set_option maxHeartbeats 4000000 in
theorem stops_any (HE : ToEndC) (d ah : Int) (v2 : Value) (ll : List (List ByteArray)) (w : World) (hl : SlsAt w v2 ll) :
    Calls Tryd.prog 4 #[.int .i64 d, .int .i64 ah, v2] w fun v w' => v = .returned (.bool true) ∧ Below w.heap.size w w' := by
  have HH : Hid ToEndC := HE
  clear HE
  obtain ⟨sl, slc, rfl, -⟩ := id hl
  by_cases g1 : d < 0
  · go_enter Tryd.func4, Tryd.ntmps4
    go_wp2_with fail
    refine (summed_any HH.out _).mono ?_
    rintro v W ⟨rfl, hb0⟩
    have HB0 : Hid (Below w.heap.size w W) := hb0
    clear hb0
    go_wp2
    go_ret
    exact ⟨rfl, HB0.out⟩
  by_cases g2 : 20 < d
  · go_enter Tryd.func4, Tryd.ntmps4
    go_wp2_with fail
    refine (summed_any HH.out _).mono ?_
    rintro v W ⟨rfl, hb0⟩
    have HB0 : Hid (Below w.heap.size w W) := hb0
    clear hb0
    go_wp2
    go_ret
    exact ⟨rfl, HB0.out⟩
  by_cases g3 : ah < 0
  · go_enter Tryd.func4, Tryd.ntmps4
    go_wp2_with fail
    refine (summed_any HH.out _).mono ?_
    rintro v W ⟨rfl, hb0⟩
    have HB0 : Hid (Below w.heap.size w W) := hb0
    clear hb0
    go_wp2
    go_ret
    exact ⟨rfl, HB0.out⟩
  by_cases g4 : 40 < ah
  · go_enter Tryd.func4, Tryd.ntmps4
    go_wp2_with fail
    refine (summed_any HH.out _).mono ?_
    rintro v W ⟨rfl, hb0⟩
    have HB0 : Hid (Below w.heap.size w W) := hb0
    clear hb0
    go_wp2
    go_ret
    exact ⟨rfl, HB0.out⟩
  by_cases g5 : 60 < (ll.length : Int)
  · go_enter Tryd.func4, Tryd.ntmps4
    go_wp2_with fail
    refine (summed_any HH.out _).mono ?_
    rintro v W ⟨rfl, hb0⟩
    have HB0 : Hid (Below w.heap.size w W) := hb0
    clear hb0
    go_wp2
    go_ret
    exact ⟨rfl, HB0.out⟩
  obtain ⟨d, rfl⟩ := Int.eq_ofNat_of_zero_le (show 0 ≤ d by omega)
  obtain ⟨ah, rfl⟩ := Int.eq_ofNat_of_zero_le (show 0 ≤ ah by omega)
  exact stops_in HH.out d ah sl ll slc w (by omega) (by omega) (by omega) hl
end Go.Proofs.YtgehlcmancdgcacDoor
