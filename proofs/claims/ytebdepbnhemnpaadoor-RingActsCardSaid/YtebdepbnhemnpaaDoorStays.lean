/-
  nightwatchlaw1.stays told by a contract: it answers true; nothing that was there turns. Condition: the sentinels are in memory ('Senv').
-/
import Derived.Test.YtebdepbnhemnpaaDoorCellsMore
namespace Go.Proofs.YtebdepbnhemnpaaDoor
open Go.RowKit Go.Extern.Stop Go.Stop Go.Extern

theorem zeros_take (n m : Nat) (h : m ≤ n) : (zeros n).take m = zeros m := by unfold zeros; rw [List.take_replicate]; congr 1; omega
theorem zeros_drop (n m : Nat) : (zeros n).drop m = zeros (n - m) := by unfold zeros; rw [List.drop_replicate]

/-- The bytes of new cells behind a write. -/
theorem new_puts_bytes (s : CSt) (hz : s.bytes = zeros 4096) (n p : Nat) (l : List UInt8) (h : p + l.length ≤ n) (hn : n ≤ 4096) : (s.puts p l).bytes.take n = zeros p ++ l ++ zeros (n - p - l.length) := by
  rw [CSt.puts_bytes l s p (by rw [hz, zeros_length]; omega), hz, zeros_take _ _ (by omega), zeros_drop]
  rw [List.take_append, List.take_of_length_le (by simp [zeros_length]; omega)]
  congr 1
  rw [zeros_take _ _ (by simp [zeros_length]; omega)]
  congr 1
  simp [zeros_length]
  omega

/-- Write, its answer under a name. -/
theorem write_to (A : Nat → Addr) (b : Nat) (s s' : CSt) (j p : Nat) (t : ByteArray) (w : World) (h : CellsAt w b s) (hs : Senv A w) (hb : 12 ≤ b) (hA : ∀ i, i < 11 → (A i).block ≠ b) (hw : s.written + t.size ≤ 1099511627776) (hl : s.left ≤ 9223372036854775807) (he : s.err p t.size = 0) (hj : s.write p t.data.toList = (s', j)) :
    Calls Tryd.prog 20 #[.pointer (some ⟨b, 0, none⟩), .int .i64 (p : Int), .string t] w fun e w' => e = .returned (errVal A j) ∧ CellsAt w' b s' ∧ w.grownBy w' (some b) ∧ w'.heap.size = w.heap.size := by
  have := write_on A b s p t w h hs hb hA hw hl he
  rw [hj] at this
  exact this

set_option maxHeartbeats 1000000 in
theorem stays_any (A : Nat → Addr) (w : World) (hs : Senv A w) :
    Calls Tryd.prog 17 #[] w fun e w' => e = .returned (.bool true) ∧ Below w.heap.size w w' := by
  have hgm := hs.gm
  have hap := hs.apart w.heap.size (Nat.le_refl _)
  have e1 : (CSt.new 4).err 1 2 = 0 := by decide
  have e2 : (CSt.new 4).write 1 [97, 98] = ((CSt.new 4).puts 1 [97, 98], 0) := rfl
  have e3 : ((CSt.new 4).puts 1 [97, 98]).err 0 4 = 0 := by decide
  have e4 : ((((CSt.new 4).puts 1 [97, 98]).bytes.drop 0).take 4).toArray = #[0, 97, 98, 0] := by
    rw [List.drop_zero, new_puts_bytes (CSt.new 4) rfl 4 1 [97, 98] (by decide) (by decide)]; rfl
  have e5 : ((CSt.new 4).puts 1 [97, 98]).off = false := rfl
  have e6 : ((CSt.new 4).puts 1 [97, 98]).written = 2 := rfl
  have H1 : Hid _ := e1
  have H2 : Hid _ := e2
  have H3 : Hid _ := e3
  have H4 : Hid _ := e4
  have H5 : Hid _ := e5
  have H6 : Hid _ := e6
  clear e1 e2 e3 e4 e5 e6
  go_enter Tryd.func17, Tryd.ntmps17
  go_wp2_with fail
  refine (new_in 4 w (by omega)).mono ?_
  rintro e w1 ⟨rfl, hb1, hat1, -⟩
  have hs1 := hs.below hb1
  go_wp2_with fail
  refine (write_to A _ _ _ _ 1 ⟨#[97, 98]⟩ _ hat1 hs1 hgm hap (by decide) (by decide) H1.out H2.out).mono ?_
  rintro e w2 ⟨rfl, hat2, hg2, -⟩
  have hb2 : Below w.heap.size w w2 := below_grown hb1 hg2 hb1.size (Nat.le_refl _)
  have hs2 := hs.below hb2
  unfold errVal
  clear hb1 hat1 hs1 hg2 H1 H2
  go_wp2_with fail
  refine (read_on A _ _ 0 4 _ hat2 hs2 H3.out).mono ?_
  rintro e w3 ⟨rfl, rfl⟩
  rw [H4.out]
  go_wp2_with fail
  refine (power_any _ _ _ hat2).mono ?_
  rintro e w3 ⟨rfl, rfl⟩
  rw [H5.out]
  go_wp2_with fail
  refine (written_any _ _ _ hat2).mono ?_
  rintro e w3 ⟨rfl, rfl⟩
  rw [H6.out]
  go_wp2
  go_ret
  exact ⟨rfl, hb2⟩
end Go.Proofs.YtebdepbnhemnpaaDoor
