/-
  (*ring.Ring).Append by contracts. Conditions: the ring and its cells lie in memory.
-/
import Derived.Test.YtebdepbnhemnpaaDoorRingOps
namespace Go.Proofs.YtebdepbnhemnpaaDoor
open Go.RowKit Go.Extern.Stop Go.Stop Go.Extern

theorem keep_any (B rb bc : Nat) (v : Value) (L : List Rec) (sp : Bool) (x : Rec) (w : World) (h : RingAt w B rb bc v L sp) (hbc : bc < w.heap.size) (hl : L.length ≤ 8) :
    Calls Tryd.prog 64 #[.pointer (some ⟨rb, 0, .none⟩), x.val] w fun e w' => e = .returned (.tuple #[]) ∧ ∃ v', RingAt w' B rb bc v' (keepL L x) sp ∧ Off (fun k => k = rb ∨ v.ownBlock = some k) w w' ∧ ∀ k, v'.ownBlock = some k → v.ownBlock = some k ∨ w.heap.size ≤ k := by
  unfold keepL
  by_cases h8 : L.length = 8
  · rw [if_pos h8]
    cases L with
    | nil => cases h8
    | cons y M => exact keep_full B rb bc v y M sp x w h hbc (by simpa using h8)
  · rw [if_neg h8]
    exact keep_short B rb bc v L sp x w h hbc (by omega)

theorem app_zero (w : World) : ∃ W, w.alloc (.cells #[.int .i64 0, .int .i64 0, .int .i64 0, .int .i64 0] 64) = W ∧ RecRow W w.heap.size .none ∧ Below w.heap.size w W ∧ W.heap.size = w.heap.size + 1 :=
  ⟨_, rfl, RecRow.new w .none, (Below.refl _ _).alloc (Nat.le_refl _) _, by simp⟩

set_option maxRecDepth 100000 in
set_option maxHeartbeats 1000000 in
theorem append_spent (A : Nat → Addr) (B rb bc : Nat) (v : Value) (L : List Rec) (n1 n2 n3 : Int) (w : World) (h : RingAt w B rb bc v L true) (hs : Sen4 A w) :
    Calls Tryd.prog 38 #[.pointer (some ⟨rb, 0, .none⟩), .int .i64 n1, .int .i64 n2, .int .i64 n3] w fun e w' => e = .returned (.tuple #[Rec.none.val, errVal A 8]) ∧ Below w.heap.size w w' := by
  obtain ⟨W, hW, Z1, B1, s1⟩ := app_zero w
  have R1 := h.below B1
  have S1 := hs.below B1
  have HW : Hid _ := hW
  clear hW
  have c2 := R1.c2
  have g7 := S1.c7
  obtain ⟨z0, z1, z2, z3⟩ := Z1.at
  have f0 := Z1.frozen 0
  have f1 := Z1.frozen 1
  have f2 := Z1.frozen 2
  have f3 := Z1.frozen 3
  have n7 : ¬ w.heap.size = 7 := by have := block_lt hs.c7; simp at this; omega
  have n7' : ¬ 7 = w.heap.size := by omega
  go_enter Tryd.func38, Tryd.ntmps38
  go_upto_region 1 with fail
  rw [HW.out]
  go_wp2_with fail
  go_region
  all_goals
    go_wp2_with fail
    refine bodyPost_ret (res_rec rfl _ _ w.heap.size .none rfl (Z1.set4 .none).drew.at) rfl ?_
    exact ⟨rfl, (below_grown B1 (grown_set4 _ _ _ _ _ _) (by omega) (Nat.le_refl _)).drew⟩

set_option maxRecDepth 100000 in
set_option maxHeartbeats 2000000 in
theorem append_bound (A : Nat → Addr) (B rb bc : Nat) (v : Value) (L : List Rec) (n1 n2 n3 : Int) (w : World) (h : RingAt w B rb bc v L false) (hs : Sen4 A w) (hf : fitsB n1 255 = false ∨ fitsB n2 255 = false ∨ fitsB n3 281474976710655 = false) :
    Calls Tryd.prog 38 #[.pointer (some ⟨rb, 0, .none⟩), .int .i64 n1, .int .i64 n2, .int .i64 n3] w fun e w' => e = .returned (.tuple #[Rec.none.val, errVal A 2]) ∧ Below w.heap.size w w' := by
  obtain ⟨W, hW, Z1, B1, s1⟩ := app_zero w
  have R1 := h.below B1
  have S1 := hs.below B1
  have HW : Hid _ := hW
  clear hW
  have c2 := R1.c2
  have g1 := S1.c1
  obtain ⟨z0, z1, z2, z3⟩ := Z1.at
  have f0 := Z1.frozen 0
  have f1 := Z1.frozen 1
  have f2 := Z1.frozen 2
  have f3 := Z1.frozen 3
  have n7 : ¬ w.heap.size = 1 := by have := block_lt hs.c1; simp at this; omega
  have n7' : ¬ 1 = w.heap.size := by omega
  go_enter Tryd.func38, Tryd.ntmps38
  go_upto_region 1 with fail
  rw [HW.out]
  go_wp2_with fail
  refine (fits_any n1 255 W).mono ?_
  rintro e w1 ⟨rfl, rfl⟩
  cases q1 : fitsB n1 255
  · go_wp2_with fail
    go_region
    all_goals
      go_wp2_with fail
      refine bodyPost_ret (res_rec rfl _ _ w.heap.size .none rfl (Z1.set4 .none).drew.at) rfl ?_
      exact ⟨rfl, (below_grown B1 (grown_set4 _ _ _ _ _ _) (by omega) (Nat.le_refl _)).drew⟩
  · go_wp2_with fail
    refine (fits_any n2 255 w1).mono ?_
    rintro e w2 ⟨rfl, rfl⟩
    cases q2 : fitsB n2 255
    · go_wp2_with fail
      go_region
      all_goals
        go_wp2_with fail
        refine bodyPost_ret (res_rec rfl _ _ w.heap.size .none rfl (Z1.set4 .none).drew.at) rfl ?_
        exact ⟨rfl, (below_grown B1 (grown_set4 _ _ _ _ _ _) (by omega) (Nat.le_refl _)).drew⟩
    · have q3 : fitsB n3 281474976710655 = false := by
        rcases hf with e | e | e
        · rw [q1] at e; cases e
        · rw [q2] at e; cases e
        · exact e
      go_wp2_with fail
      refine (fits_any n3 281474976710655 w2).mono ?_
      rintro e w3 ⟨rfl, rfl⟩
      rw [q3]
      clear hf
      go_wp2_with fail
      go_region
      all_goals
        go_wp2_with fail
        refine bodyPost_ret (res_rec rfl _ _ w.heap.size .none rfl (Z1.set4 .none).drew.at) rfl ?_
        exact ⟨rfl, (below_grown B1 (grown_set4 _ _ _ _ _ _) (by omega) (Nat.le_refl _)).drew⟩

set_option maxRecDepth 100000 in
set_option maxHeartbeats 2000000 in
theorem append_full (A : Nat → Addr) (B rb bc : Nat) (v : Value) (L : List Rec) (n1 n2 n3 : Int) (w : World) (h : RingAt w B rb bc v L false) (hs : Sen4 A w) (hl : L.length ≤ 8) (hf1 : fitsB n1 255 = true) (hf2 : fitsB n2 255 = true) (hf3 : fitsB n3 281474976710655 = true) (hq : (lastR L).seq = 4294967295) :
    Calls Tryd.prog 38 #[.pointer (some ⟨rb, 0, .none⟩), .int .i64 n1, .int .i64 n2, .int .i64 n3] w fun e w' => e = .returned (.tuple #[Rec.none.val, errVal A 7]) ∧ Below w.heap.size w w' := by
  obtain ⟨W, hW, Z1, B1, s1⟩ := app_zero w
  have R1 := h.below B1
  have S1 := hs.below B1
  have HW : Hid _ := hW
  clear hW
  have c2 := R1.c2
  have n7 : ¬ w.heap.size = 6 := by have := block_lt hs.c6; simp at this; omega
  have n7' : ¬ 6 = w.heap.size := by omega
  go_enter Tryd.func38, Tryd.ntmps38
  go_upto_region 1 with fail
  rw [HW.out]
  go_wp2_with fail
  refine (fits_any n1 255 W).mono ?_
  rintro e w1 ⟨rfl, rfl⟩
  rw [hf1]
  go_wp2_with fail
  refine (fits_any n2 255 w1).mono ?_
  rintro e w2 ⟨rfl, rfl⟩
  rw [hf2]
  go_wp2_with fail
  refine (fits_any n3 281474976710655 w2).mono ?_
  rintro e w3 ⟨rfl, rfl⟩
  rw [hf3]
  go_wp2_with fail
  refine (last_any B rb bc v L false w3 R1 (by omega)).mono ?_
  rintro e w4 ⟨rfl, hb4⟩
  have hq' : ((lastR L).seq : Int) = 4294967295 := by omega
  unfold Rec.val
  rw [hq']
  have B4 := B1.trans (hb4.mono (by omega))
  have Z4 := Z1.below hb4 Z1.lt
  have S4 := S1.below hb4
  have s4 := hb4.size
  have z4 := Z4.lt
  go_upto_region 6 with fail
  obtain ⟨W5, hW5⟩ : ∃ W5, w4.alloc (.cells #[.int .i64 4294967295, .int .i64 ((lastR L).ent : Int), .int .i64 ((lastR L).kind : Int), .int .i64 ((lastR L).tick : Int)] 64) = W5 := ⟨_, rfl⟩
  have B5 : Below w4.heap.size w4 W5 := by rw [← hW5]; exact (Below.refl _ _).alloc (Nat.le_refl _) _
  have c5 : W5.cell? ⟨w4.heap.size, 0, .none⟩ = some (.int .i64 4294967295) := by rw [← hW5]; exact World.cell?_alloc_at _ _ _ _ rfl
  rw [hW5]
  have Z5 := Z4.below B5 z4
  have g6 := (S4.below B5).c6
  obtain ⟨z0, z1, z2, z3⟩ := Z5.at
  have f0 := Z5.frozen 0
  have f1 := Z5.frozen 1
  have f2 := Z5.frozen 2
  have f3 := Z5.frozen 3
  have s5 := B5.size
  go_wp2_with fail
  go_region
  all_goals
    go_wp2_with fail
    refine bodyPost_ret (res_rec rfl _ _ w.heap.size .none rfl (Z5.set4 .none).drew.at) rfl ?_
    exact ⟨rfl, (below_grown (B4.trans (B5.mono (by omega))) (grown_set4 _ _ _ _ _ _) (by omega) (Nat.le_refl _)).drew⟩
end Go.Proofs.YtebdepbnhemnpaaDoor
