/-
  (*ring.Ring).Last, .Records, ring.fits, ring.Open where it is refused: by contracts. Conditions: the ring lies in memory.
-/
import Derived.Test.YtebdepbnhemnpaaDoorRingKeep
namespace Go.Proofs.YtebdepbnhemnpaaDoor
open Go.RowKit Go.Extern.Stop Go.Stop Go.Extern

theorem open_nil (A : Nat → Addr) (w : World) (hs : Sen4 A w) :
    Calls Tryd.prog 33 #[.pointer .none] w fun e w' => e = .returned (.tuple #[.pointer .none, errVal A 3]) ∧ Below w.heap.size w w' := by
  have c2 := hs.c2
  go_enter Tryd.func33, Tryd.ntmps33
  go_wp2_with fail
  go_quiet (fail)
  go_wp2
  go_ret2
  exact ⟨rfl, below_drewN (Below.refl _ _) _⟩

set_option maxRecDepth 100000 in
set_option maxHeartbeats 1000000 in
theorem open_no (A : Nat → Addr) (bc : Nat) (s : CSt) (j : Nat) (w : World) (h : CellsAt w bc s) (hs : Sen4 A w) (he : s.err 0 153 = j + 1) :
    Calls Tryd.prog 33 #[.pointer (some ⟨bc, 0, .none⟩)] w fun e w' => e = .returned (.tuple #[.pointer .none, errVal A (j + 1)]) ∧ Below w.heap.size w w' := by
  have B1 := (Below.refl w.heap.size w).alloc (Nat.le_refl _) (.cells #[.pointer (some ⟨bc, 0, .none⟩)] 104)
  have HH : Hid _ := held_no A bc s j _ (h.below B1) (hs.below B1) he
  go_enter Tryd.func33, Tryd.ntmps33
  go_wp2_with fail
  refine Calls.mono HH.out ?_
  rintro e w1 ⟨rfl, hb1⟩
  have B2 := B1.trans (hb1.mono (by simp))
  unfold errVal
  have s1 := hb1.size
  simp only [World.size_alloc] at s1
  go_wp2_with (refine wpList_store_row rfl 105 _ _ rfl w1.heap.size _ rfl rfl 105 _ (heap_alloc_new w1 _) (info_recs _ (by simp)) rfl (recs_one _) ?_)
  go_ret2
  exact ⟨rfl, below_setRow (B2.alloc (by omega) _) (by omega) _⟩

def fitsB (n m : Int) : Bool := decide (0 ≤ n ∧ n ≤ m)
theorem fits_any (n m : Int) (w : World) :
    Calls Tryd.prog 62 #[.int .i64 n, .int .i64 m] w fun e w' => e = .returned (.bool (fitsB n m)) ∧ w' = w := by
  by_cases h0 : 0 ≤ n
  · by_cases h1 : n ≤ m
    · have HD : Hid (fitsB n m = true) := decide_eq_true ⟨h0, h1⟩
      go_enter Tryd.func62, Tryd.ntmps62
      go_wp2
      go_ret
      rw [HD.out]
      exact ⟨rfl, rfl⟩
    · have HD : Hid (fitsB n m = false) := decide_eq_false (fun h => h1 h.2)
      go_enter Tryd.func62, Tryd.ntmps62
      go_wp2
      go_ret
      rw [HD.out]
      exact ⟨rfl, rfl⟩
  · have HD : Hid (fitsB n m = false) := decide_eq_false (fun h => h0 h.1)
    go_enter Tryd.func62, Tryd.ntmps62
    go_wp2
    go_ret
    rw [HD.out]
    exact ⟨rfl, rfl⟩

theorem records_any (B rb bc : Nat) (v : Value) (L : List Rec) (sp : Bool) (w : World) (h : RingAt w B rb bc v L sp) (hl : L.length ≤ 100) :
    Calls Tryd.prog 37 #[.pointer (some ⟨rb, 0, .none⟩)] w fun e w' => ∃ v', e = .returned v' ∧ Recs w' w.heap.size v' L ∧ Below w.heap.size w w' := by
  have c1 := h.c1
  go_enter Tryd.func37, Tryd.ntmps37
  go_wp2_with fail
  refine (clone_any B v L _ h.recs hl).mono ?_
  rintro e w1 ⟨v1, rfl, hr, hb⟩
  go_wp2
  go_ret
  exact ⟨_, rfl, hr, hb⟩

theorem RecRow.drew {w : World} {b : Nat} {r : Rec} (h : RecRow w b r) : RecRow w.drew b r := ⟨h.heap⟩
def lastR (L : List Rec) : Rec := L.getLast?.getD .none

set_option maxRecDepth 100000 in
set_option maxHeartbeats 1000000 in
theorem last_any (B rb bc : Nat) (v : Value) (L : List Rec) (sp : Bool) (w : World) (h : RingAt w B rb bc v L sp) (hl : L.length ≤ 100) :
    Calls Tryd.prog 35 #[.pointer (some ⟨rb, 0, .none⟩)] w fun e w' => e = .returned (.tuple #[(lastR L).val, .bool (decide (0 < L.length))]) ∧ Below w.heap.size w w' := by
  have B1 := (Below.refl w.heap.size w).alloc (Nat.le_refl _) (.cells #[.int .i64 ((Rec.none.seq : Nat) : Int), .int .i64 ((Rec.none.ent : Nat) : Int), .int .i64 ((Rec.none.kind : Nat) : Int), .int .i64 ((Rec.none.tick : Nat) : Int)] 64)
  have R1 := h.below B1
  have Z1 := RecRow.new w .none
  have hlt := h.lt
  obtain ⟨W, hW⟩ : ∃ W, w.alloc (.cells #[.int .i64 ((Rec.none.seq : Nat) : Int), .int .i64 ((Rec.none.ent : Nat) : Int), .int .i64 ((Rec.none.kind : Nat) : Int), .int .i64 ((Rec.none.tick : Nat) : Int)] 64) = W := ⟨_, rfl⟩
  rw [hW] at B1 R1 Z1
  have HW : Hid (w.alloc (.cells #[.int .i64 0, .int .i64 0, .int .i64 0, .int .i64 0] 64) = W) := hW
  clear hW
  have c1 := R1.c1
  obtain ⟨z0, z1, z2, z3⟩ := Z1.at
  have f0 := Z1.frozen 0
  have f1 := Z1.frozen 1
  have f2 := Z1.frozen 2
  have f3 := Z1.frozen 3
  have zl := Z1.lt
  rcases R1.recs.row_form with ⟨rfl, rfl⟩ | ⟨g, cap, rfl, hbg, hrow, hlc, hm⟩
  · go_enter Tryd.func35, Tryd.ntmps35
    go_upto_region 1 with fail
    rw [HW.out]
    go_wp2_with fail
    refine bodyPost_ret (res_rec rfl _ _ w.heap.size .none rfl (Z1.set4 .none).at) rfl ?_
    exact ⟨rfl, below_grown B1 (grown_set4 _ _ _ _ _ _) (by omega) (Nat.le_refl _)⟩
  · by_cases h0 : L.length = 0
    · have hnil : L = [] := List.length_eq_zero_iff.1 h0
      subst hnil
      go_enter Tryd.func35, Tryd.ntmps35
      go_upto_region 1 with fail
      rw [HW.out]
      go_wp2_with fail
      refine bodyPost_ret (res_rec rfl _ _ w.heap.size .none rfl (Z1.set4 .none).at) rfl ?_
      exact ⟨rfl, below_grown B1 (grown_set4 _ _ _ _ _ _) (by omega) (Nat.le_refl _)⟩
    · obtain ⟨n, hn⟩ : ∃ n, L.length = n + 1 := ⟨L.length - 1, by omega⟩
      obtain ⟨⟨a0, a1, a2, a3⟩, -⟩ := hrow.cells n (by omega)
      have hx : L[n]'(by omega) = lastR L := by
        unfold lastR
        rw [List.getLast?_eq_getElem?, show L.length - 1 = n by omega, List.getElem?_eq_getElem (by omega)]; rfl
      rw [hx] at a0 a1 a2 a3
      have HD : Hid (decide (0 < L.length) = true) := decide_eq_true (by omega)
      rw [hn] at c1
      have hgn : g ≠ w.heap.size := by
        have := h.recs.lt g rfl
        omega
      have hn1 : ¬ ((n : Int) + 1 = 0) := by omega
      clear hx
      generalize lastR L = x at *
      go_enter Tryd.func35, Tryd.ntmps35
      go_upto_region 1 with fail
      rw [HW.out]
      go_wp2_with fail
      go_region
      go_wp2_with fail
      refine bodyPost_ret (res_rec rfl _ _ w.heap.size x rfl (Z1.set4 x).drew.at) rfl ?_
      rw [HD.out]
      exact ⟨rfl, (below_grown B1 (grown_set4 _ _ _ _ _ _) (by omega) (Nat.le_refl _)).drew⟩
end Go.Proofs.YtebdepbnhemnpaaDoor
