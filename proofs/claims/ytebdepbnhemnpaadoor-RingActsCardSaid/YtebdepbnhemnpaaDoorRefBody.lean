/-
  nightwatchref1.Body and SlotOf (the document's answer) by contracts. Conditions: as named.
-/
import Derived.Test.YtebdepbnhemnpaaDoorRefSum
namespace Go.Proofs.YtebdepbnhemnpaaDoor
open Go.RowKit Go.Extern.Stop Go.Stop Go.Extern

theorem wide_ex (x many : Nat) (w : World) (hx : x ≤ 9223372036854775807 ∧ many ≤ 16) :
    Calls Tryd.prog 80 #[.int .i64 (x : Int), .int .i64 (many : Int)] w fun e w' => ∃ T : ByteArray, e = .returned (.string T) ∧ T.data.toList = be many x ∧ T.size = many ∧ Below w.heap.size w w' :=
  (wide_any x many w hx.1 hx.2).mono fun e w' ⟨h1, h2⟩ => ⟨_, h1, rfl, by show (be many x).toArray.size = many; rw [List.size_toArray, be_length], h2⟩
theorem wide_i (x : Nat) (many : Int) (w : World) (hx : x ≤ 9223372036854775807) (hm : 0 ≤ many ∧ many ≤ 16) :
    Calls Tryd.prog 80 #[.int .i64 (x : Int), .int .i64 many] w fun e w' => ∃ T : ByteArray, e = .returned (.string T) ∧ T.data.toList = be many.toNat x ∧ T.size = many.toNat ∧ Below w.heap.size w w' := by
  obtain ⟨m, rfl⟩ := Int.eq_ofNat_of_zero_le hm.1
  exact wide_ex x m w ⟨hx, by omega⟩

theorem rslot_any (n : Nat) (w : World) (h : 1 ≤ n) (h2 : n < 9223372036854775808) :
    Calls Tryd.prog 40 #[.int .i64 (n : Int)] w fun e w' => e = .returned (.int .i64 (((n - 1) % 9 : Nat) : Int)) ∧ w' = w := by
  obtain ⟨m, rfl⟩ : ∃ m, n = m + 1 := ⟨n - 1, by omega⟩
  have e : ((m + 1 : Nat) : Int) - 1 = (m : Int) := by omega
  go_enter Tryd.func40, Tryd.ntmps40
  go_wp2
  go_ret
  refine ⟨?_, rfl⟩
  show Ending.returned (.int .i64 ((m : Int) % 9)) = _
  rw [show ((m : Int) % 9) = (((m + 1 - 1) % 9 : Nat) : Int) by omega]

set_option maxRecDepth 100000 in
set_option maxHeartbeats 1000000 in
theorem body_any (r : Rec) (w : World) (hr : r.Ok) :
    Calls Tryd.prog 66 #[r.val] w fun e w' => ∃ T : ByteArray, e = .returned (.string T) ∧ T.data.toList = enc16 r ∧ T.size = 16 ∧ Below w.heap.size w w' := by
  have hX := RecAt.new w r 64
  have B1 := (Below.refl w.heap.size w).alloc (Nat.le_refl _) (.cells #[.int .i64 (r.seq : Int), .int .i64 (r.ent : Int), .int .i64 (r.kind : Int), .int .i64 (r.tick : Int)] 64)
  obtain ⟨W, hW⟩ : ∃ W, w.alloc (.cells #[.int .i64 (r.seq : Int), .int .i64 (r.ent : Int), .int .i64 (r.kind : Int), .int .i64 (r.tick : Int)] 64) = W := ⟨_, rfl⟩
  have hsz : W.heap.size = w.heap.size + 1 := by rw [← hW]; simp
  rw [hW] at hX B1
  have HW : Hid _ := hW
  clear hW
  obtain ⟨o1, o2, o3, o4⟩ := hr
  have q1 : r.seq ≤ 9223372036854775807 := by omega
  have q2 : r.ent ≤ 9223372036854775807 := by omega
  have q3 : r.kind ≤ 9223372036854775807 := by omega
  have q4 : r.tick ≤ 9223372036854775807 := by omega
  have R : RecAt W.drew w.heap.size r := ⟨hX.c0, hX.c1, hX.c2, hX.c3⟩
  have hH : w.heap.size < W.drew.heap.size := by show _ < W.heap.size; omega
  have BB : Below w.heap.size w W.drew := B1.drew
  obtain ⟨a0, a1, a2, a3⟩ := R
  unfold Rec.val
  go_enter Tryd.func66, Tryd.ntmps66
  go_upto_region 1 with fail
  rw [HW.out]
  go_region_held3 (fun w' => w'.cell? ⟨w.heap.size, 0, .none⟩ = some (.int .i64 (r.seq : Int)) ∧ w'.cell? ⟨w.heap.size, 1, .none⟩ = some (.int .i64 (r.ent : Int)) ∧ w'.cell? ⟨w.heap.size, 2, .none⟩ = some (.int .i64 (r.kind : Int)) ∧ w'.cell? ⟨w.heap.size, 3, .none⟩ = some (.int .i64 (r.tick : Int))) (exact ⟨a0, a1, a2, a3⟩)
    (first | (go_at_call 80; refine (wide_i _ _ _ ?_ ?_).mono ?_; (first | exact q1 | exact q2 | exact q3 | exact q4); (exact ⟨by decide, by decide⟩); rintro e w1 ⟨T, rfl, hT, hs, hb⟩; have a0 := cell_below hb a0; have a1 := cell_below hb a1; have a2 := cell_below hb a2; have a3 := cell_below hb a3; have BB := BB.trans (hb.mono BB.size)))
  rename_i wA TA hTA hsA hbA x1 x2 x3 x4 x5 wB TB hTB hsB hbB y1 y2 y3 y4 y5 wC TC hTC hsC hbC z1 z2 z3 z4 z5 hHeld
  have HC : Hid ((TA ++ TB ++ TC ++ T).data.toList = enc12 r ∧ (TA ++ TB ++ TC ++ T).size = 12) := by
    have e : (TA ++ TB ++ TC ++ T).data.toList = enc12 r := by
      simp only [ByteArray.data_append, Array.toList_append, hTA, hTB, hTC, hT]; rfl
    refine ⟨e, ?_⟩
    have := congrArg List.length e
    rw [enc12_length] at this
    simp at this ⊢
    omega
  clear hTA hsA hbA x1 x2 x3 x4 x5 hTB hsB hbB y1 y2 y3 y4 y5 hTC hsC hbC z1 z2 z3 z4 z5 hHeld hT hs a0 a1 a2 a3
  generalize TA ++ TB ++ TC ++ T = S at *
  have hS12 := HC.out.2
  have hcl := crc_lt (enc12 r)
  go_wp2_with fail
  refine (rsum_any S w1 (by omega)).mono ?_
  rintro e w5 ⟨rfl, rfl⟩
  rw [HC.out.1]
  go_wp2_with fail
  refine (wide_i _ _ _ (by omega) ⟨by decide, by decide⟩).mono ?_
  rintro e w6 ⟨T6, rfl, hT6, hs6, hb6⟩
  have hs6' : T6.size = 4 := hs6
  clear hs6
  have HT6 : Hid _ := hT6
  clear hT6
  go_wp2
  go_ret
  refine ⟨_, rfl, ?_, ?_, BB.trans (hb6.mono BB.size)⟩
  · simp only [ByteArray.data_append, Array.toList_append, HC.out.1, HT6.out]; rfl
  · simp [hS12, hs6']
end Go.Proofs.YtebdepbnhemnpaaDoor
