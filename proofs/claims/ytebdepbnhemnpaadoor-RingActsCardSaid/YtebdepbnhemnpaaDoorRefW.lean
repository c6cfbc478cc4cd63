/-
  nightwatchref1.Cells.Write (the document's answer) told by contracts. No condition but those named.
-/
import Derived.Test.YtebdepbnhemnpaaDoorRef
import Derived.Test.YtebdepbnhemnpaaDoorOrders
import Derived.Laws.Concat
import Derived.Deep.DeepCutAuto
import Derived.RegionTactic
import Derived.BigRegion
namespace Go.Proofs.YtebdepbnhemnpaaDoor
open Go.RowKit Go.Extern.Stop Go.Stop Go.Extern

theorem ModAt.drew {w : World} {b : Nat} {m : MSt} (h : ModAt w b m) : ModAt w.drew b m := ⟨h.heap⟩
def MSt.splice (m : MSt) (p k : Nat) (t : ByteArray) : ByteArray := m.B.extract 0 p ++ t.extract 0 k ++ m.B.extract (p + k) m.B.size

set_option maxHeartbeats 1000000 in
theorem mwrite_no (b : Nat) (m : MSt) (p : Int) (t : ByteArray) (j : Nat) (w : World) (h : ModAt w b m) (hz : m.B.size ≤ 4096) (hp : p ≤ 9223372036854775807) (he : m.err p t.size = j + 1) :
    Calls Tryd.prog 27 #[.pointer (some ⟨b, 0, none⟩), .int .i64 p, .string t] w fun e w' => e = .returned (.int .i64 ((j + 1 : Nat) : Int)) ∧ w' = w := by
  have HE : Hid _ := he
  have hpos : (0 : Int) < ((j + 1 : Nat) : Int) := by omega
  clear he
  go_enter Tryd.func27, Tryd.ntmps27
  go_wp2_with fail
  refine (merr_any b m p t.size _ h hz hp).mono ?_
  rintro e w1 ⟨rfl, rfl⟩
  rw [HE.out]
  go_wp2
  go_ret
  exact ⟨rfl, rfl⟩

set_option maxRecDepth 100000 in
set_option maxHeartbeats 4000000 in
theorem mwrite_cut (b : Nat) (m : MSt) (p : Nat) (t : ByteArray) (w : World) (h : ModAt w b m) (hz : m.B.size ≤ 4096) (he : m.err p t.size = 0) (hc : m.cuts = true) (hl : m.left < t.size) (hw : m.written + t.size ≤ 1099511627776) :
    Calls Tryd.prog 27 #[.pointer (some ⟨b, 0, none⟩), .int .i64 (p : Int), .string t] w fun e w' => e = .returned (.int .i64 8) ∧ ModAt w' b { B := m.splice p m.left t, off := true, left := 0, cuts := true, written := m.written + m.left } ∧ w.grownBy w' (some b) ∧ w'.heap.size = w.heap.size := by
  have hfit : p + t.size ≤ m.B.size := by
    unfold MSt.err at he
    split at he
    · cases he
    · omega
  have HE : Hid _ := he
  clear he
  have hl' : (m.left : Int) < (t.size : Int) := by omega
  have c0 := h.c0
  have c1 := h.c1
  have c2 := h.c2
  have c3 := h.c3
  have c4 := h.c4
  rw [hc] at c3
  have f0 := h.frozen 0
  have f1 := h.frozen 1
  have f2 := h.frozen 2
  have f4 := h.frozen 4
  have hp1 : (0 : Int) ≤ (p : Int) := by omega
  have hp2 : (p : Int) ≤ (m.B.size : Int) := by omega
  have hp3 : (p : Int) + (m.left : Int) ≤ (m.B.size : Int) := by omega
  go_enter Tryd.func27, Tryd.ntmps27
  go_wp2_with fail
  refine (merr_any b m p t.size _ h hz (by omega)).mono ?_
  rintro e w1 ⟨rfl, rfl⟩
  rw [HE.out]
  go_upto_region 8 with fail
  go_region
  go_wp2
  go_ret
  have R := ((((h.set1 true).set0 (m.splice p m.left t)).set4 (m.written + m.left)).set2 0).drew
  have ew : ((m.written + m.left : Nat) : Int) = (m.written : Int) + (m.left : Int) := by omega
  have ez : ((0 : Nat) : Int) = 0 := rfl
  rw [ew, ez] at R
  rw [hc] at R
  exact ⟨rfl, R, grown_below (grown_set (grown_set (grown_set (grown_set (grown_refl _ _) _ _) _ _) _ _) _ _) ((Below.refl _ _).drew), by simp⟩

def MSt.spliceAll (m : MSt) (p : Nat) (t : ByteArray) : ByteArray := m.B.extract 0 p ++ t ++ m.B.extract (p + t.size) m.B.size

set_option maxRecDepth 100000 in
set_option maxHeartbeats 4000000 in
theorem mwrite_nocut (b : Nat) (m : MSt) (p : Nat) (t : ByteArray) (w : World) (h : ModAt w b m) (hz : m.B.size ≤ 4096) (he : m.err p t.size = 0) (hc : m.cuts = false) (hw : m.written + t.size ≤ 1099511627776) :
    Calls Tryd.prog 27 #[.pointer (some ⟨b, 0, none⟩), .int .i64 (p : Int), .string t] w fun e w' => e = .returned (.int .i64 0) ∧ ModAt w' b { m with B := m.spliceAll p t, written := m.written + t.size } ∧ w.grownBy w' (some b) ∧ w'.heap.size = w.heap.size := by
  have hfit : p + t.size ≤ m.B.size ∧ m.off = false := by
    unfold MSt.err at he
    split at he
    · cases he
    · split at he
      · cases he
      · rename_i h1 h2
        exact ⟨by omega, by simpa using h2⟩
  obtain ⟨hfit, hoff⟩ := hfit
  have HE : Hid _ := he
  clear he
  have c0 := h.c0
  have c1 := h.c1
  have c2 := h.c2
  have c3 := h.c3
  have c4 := h.c4
  rw [hoff] at c1
  rw [hc] at c3
  have f0 := h.frozen 0
  have f2 := h.frozen 2
  have f4 := h.frozen 4
  have hp1 : (0 : Int) ≤ (p : Int) := by omega
  have hp2 : (p : Int) ≤ (m.B.size : Int) := by omega
  have hp3 : (p : Int) + (t.size : Int) ≤ (m.B.size : Int) := by omega
  have ew : ((m.written + t.size : Nat) : Int) = (m.written : Int) + (t.size : Int) := by omega
  have R := ((h.set0 (m.spliceAll p t)).set4 (m.written + t.size)).drew
  rw [ew] at R
  have HR : Hid _ := R
  clear hc ew R hoff
  go_enter Tryd.func27, Tryd.ntmps27
  go_wp2_with fail
  refine (merr_any b m p t.size _ h hz (by omega)).mono ?_
  rintro e w1 ⟨rfl, rfl⟩
  rw [HE.out]
  go_upto_region 8 with fail
  go_region
  go_wp2
  go_ret
  exact ⟨rfl, HR, grown_below (grown_set (grown_set (grown_refl _ _) _ _) _ _) ((Below.refl _ _).drew), by simp⟩

set_option maxRecDepth 100000 in
set_option maxHeartbeats 4000000 in
theorem mwrite_room (b : Nat) (m : MSt) (p : Nat) (t : ByteArray) (w : World) (h : ModAt w b m) (hz : m.B.size ≤ 4096) (he : m.err p t.size = 0) (hc : m.cuts = true) (hl : t.size ≤ m.left) (hl3 : m.left ≤ 9223372036854775807) (hw : m.written + t.size ≤ 1099511627776) :
    Calls Tryd.prog 27 #[.pointer (some ⟨b, 0, none⟩), .int .i64 (p : Int), .string t] w fun e w' => e = .returned (.int .i64 0) ∧ ModAt w' b { m with B := m.spliceAll p t, written := m.written + t.size, left := m.left - t.size } ∧ w.grownBy w' (some b) ∧ w'.heap.size = w.heap.size := by
  have hfit : p + t.size ≤ m.B.size ∧ m.off = false := by
    unfold MSt.err at he
    split at he
    · cases he
    · split at he
      · cases he
      · rename_i h1 h2
        exact ⟨by omega, by simpa using h2⟩
  obtain ⟨hfit, hoff⟩ := hfit
  have HE : Hid _ := he
  clear he
  have c0 := h.c0
  have c1 := h.c1
  have c2 := h.c2
  have c3 := h.c3
  have c4 := h.c4
  rw [hoff] at c1
  rw [hc] at c3
  have f0 := h.frozen 0
  have f2 := h.frozen 2
  have f4 := h.frozen 4
  have hp1 : (0 : Int) ≤ (p : Int) := by omega
  have hp2 : (p : Int) ≤ (m.B.size : Int) := by omega
  have hp3 : (p : Int) + (t.size : Int) ≤ (m.B.size : Int) := by omega
  have ew : ((m.written + t.size : Nat) : Int) = (m.written : Int) + (t.size : Int) := by omega
  have el : ((m.left - t.size : Nat) : Int) = (m.left : Int) - (t.size : Int) := by omega
  have hl' : ¬ (m.left : Int) < (t.size : Int) := by omega
  have R := (((h.set0 (m.spliceAll p t)).set4 (m.written + t.size)).set2 (m.left - t.size)).drew
  rw [ew, el] at R
  have HR : Hid _ := R
  clear hc ew el R hoff
  go_enter Tryd.func27, Tryd.ntmps27
  go_wp2_with fail
  refine (merr_any b m p t.size _ h hz (by omega)).mono ?_
  rintro e w1 ⟨rfl, rfl⟩
  rw [HE.out]
  go_upto_region 8 with fail
  go_region
  go_wp2
  go_ret
  exact ⟨rfl, HR, grown_below (grown_set (grown_set (grown_set (grown_refl _ _) _ _) _ _) _ _) ((Below.refl _ _).drew), by simp⟩
end Go.Proofs.YtebdepbnhemnpaaDoor
