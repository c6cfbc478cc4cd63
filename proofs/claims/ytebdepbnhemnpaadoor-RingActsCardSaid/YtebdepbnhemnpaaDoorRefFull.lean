/-
  (*nightwatchref1.Ring).Append by contracts: the log is full. Conditions: as named.
-/
import Derived.Test.YtebdepbnhemnpaaDoorRefApp
import Derived.Test.YtebdepbnhemnpaaDoorRingAppGo
import Derived.Test.YtebdepbnhemnpaaDoorRefBody
import Derived.BigRegion
namespace Go.Proofs.YtebdepbnhemnpaaDoor
open Go.RowKit Go.Extern.Stop Go.Stop Go.Extern

theorem lastR_at {L : List Rec} {n : Nat} (h : L.length = n + 1) : lastR L = L[n]'(by omega) := by
  unfold lastR
  rw [List.getLast?_eq_getElem?, List.getElem?_eq_getElem (by omega)]
  simp [h]

/-- Append, under way: the record is made. -/
structure MaSt (w wx : World) (B rm bm : Nat) (v : Value) (L : List Rec) (x : Rec) (m : MSt) : Prop where
  ring : MRingAt wx B rm bm v L false
  mod : ModAt wx bm m
  res : RecRow wx w.heap.size .none
  row : RecRow wx (w.heap.size + 1) x
  off : Off (fun k => k = bm) w wx
  size : w.heap.size + 2 ≤ wx.heap.size
  hm : bm < w.heap.size
  hr : rm < w.heap.size
  hv : ∀ k, v.ownBlock = some k → k < w.heap.size
theorem MaSt.below {w wx wx' : World} {B rm bm : Nat} {v : Value} {L : List Rec} {x : Rec} {m : MSt} (h : MaSt w wx B rm bm v L x m) (hb : Below wx.heap.size wx wx') : MaSt w wx' B rm bm v L x m :=
  ⟨h.ring.below hb, h.mod.below hb, h.res.below hb h.res.lt, h.row.below hb h.row.lt, h.off.trans (Off.of_below hb (fun _ => False)) (fun _ _ e => e.elim), Nat.le_trans h.size hb.size, h.hm, h.hr, h.hv⟩
theorem MaSt.write {w wx wx' : World} {B rm bm : Nat} {v : Value} {L : List Rec} {x : Rec} {m m' : MSt} (h : MaSt w wx B rm bm v L x m) (hm : ModAt wx' bm m') (hg : wx.grownBy wx' (some bm)) : MaSt w wx' B rm bm v L x m' := by
  have hb := h.hm
  exact ⟨h.ring.off (Off.of_grown hg) h.ring.ne (fun g e e2 => h.ring.sep.2 (by rw [e, e2])), hm, h.res.off (Off.of_grown hg) (by omega), h.row.off (Off.of_grown hg) (by omega), h.off.trans (Off.of_grown hg) (fun _ _ e => e), Nat.le_trans h.size hg.size, h.hm, h.hr, h.hv⟩

set_option maxRecDepth 100000 in
set_option maxHeartbeats 4000000 in
theorem mappend_full (B rm bm : Nat) (v : Value) (L : List Rec) (m : MSt) (n1 n2 n3 : Nat) (w : World) (h : MRingAt w B rm bm v L false) (hmod : ModAt w bm m) (hf1 : n1 ≤ 255) (hf2 : n2 ≤ 255) (hf3 : n3 ≤ 281474976710655) (hl : L.length ≤ 8) (hq : (lastR L).seq = 4294967295) :
    Calls Tryd.prog 41 #[.pointer (some ⟨rm, 0, .none⟩), .int .i64 (n1 : Int), .int .i64 (n2 : Int), .int .i64 (n3 : Int)] w fun e w' => e = .returned (.tuple #[Rec.none.val, .int .i64 7]) ∧ Off (fun k => k = bm) w w' ∧ ModAt w' bm m ∧ MRingAt w' B rm bm v L false := by
  have hlq : (lastR L).seq ≤ 4294967295 := by omega
  have HQ : Hid _ := hq
  clear hq
  obtain ⟨W, hW, Z1, B1, s1⟩ := app_zero w
  have R1 := h.below B1
  have M1 := hmod.below B1
  have hrm := h.lt
  have hbm := hmod.lt
  have hvl := fun k e => (h.sl.lt k e).2
  have HW : Hid _ := hW
  clear hW
  have c2 := R1.c2
  have g1 : ¬ (n1 : Int) < 0 := by omega
  have g2 : ¬ 255 < (n1 : Int) := by omega
  have g3 : ¬ (n2 : Int) < 0 := by omega
  have g4 : ¬ 255 < (n2 : Int) := by omega
  have g5 : ¬ (n3 : Int) < 0 := by omega
  have g6 : ¬ 281474976710656 ≤ (n3 : Int) := by omega
  go_enter Tryd.func41, Tryd.ntmps41
  go_upto_region 1 with fail
  rw [HW.out]
  go_upto_region 6 with fail
  obtain ⟨W2, hW2⟩ : ∃ W2, W.alloc (.cells #[.int .i64 1, .int .i64 (n1 : Int), .int .i64 (n2 : Int), .int .i64 (n3 : Int)] 64) = W2 := ⟨_, rfl⟩
  have B2 : Below W.heap.size W W2 := by rw [← hW2]; exact (Below.refl _ _).alloc (Nat.le_refl _) _
  have X2 : RecRow W2 (w.heap.size + 1) ⟨1, n1, n2, n3⟩ := by
    refine ⟨?_⟩
    rw [← hW2, ← s1]
    exact heap_alloc_new _ _
  have s2 : W2.heap.size = w.heap.size + 2 := by rw [← hW2, ← Nat.add_assoc (n := w.heap.size) (m := 1) (k := 1), ← s1]; simp
  rw [hW2]
  clear hW2
  have ST2 : MaSt w W2 B rm bm v L ⟨1, n1, n2, n3⟩ m :=
    ⟨R1.below B2, M1.below B2, Z1.below B2 Z1.lt, X2, (Off.of_below (B1.trans (B2.mono (by omega))) (fun k => k = bm)), by omega, hbm, hrm, hvl⟩
  clear R1 M1 Z1 B1 B2 X2 HW c2 g1 g2 g3 g4 g5 g6 s1 s2
  have r1 := ST2.ring.c1
  obtain ⟨sa, c, rfl⟩ := ST2.ring.sl.len
  go_upto_if 52 with fail
  go_cut [9] (fun e wx => e = .int .i64 0 ∧ MaSt w wx B rm bm (.slice sa L.length c) L (nextR L n1 n2 n3) m)
  case first =>
    by_cases hL : L = []
    · subst hL
      go_wp2_with fail
      all_goals
        go_meet
        case rel => exact ⟨rfl, ST2⟩
    · obtain ⟨n, hn⟩ : ∃ n, L.length = n + 1 := ⟨L.length - 1, by have := List.length_pos_iff.2 hL; omega⟩
      obtain ⟨g, o, hsa, hcell⟩ := ST2.ring.sl.reads.2 hL
      have cn := (hcell n (by omega)).1
      rw [← lastR_at hn] at cn
      have x0 := ST2.row.at.c0
      have xf := ST2.row.frozen 0
      have ngx : ¬ g = w.heap.size + 1 := by
        have := ST2.hv g (by rw [hsa]; rfl)
        omega
      have ngr : ¬ rm = w.heap.size + 1 := by omega
      have hST : ∀ q, MaSt w ((W2.drewN q).setCell ⟨w.heap.size + 1, 0, .none⟩ (.int .i64 (((lastR L).seq : Int) + 1))) B rm bm (.slice sa L.length c) L (nextR L n1 n2 n3) m := fun q => by
        have hG : (W2.drewN q).grownBy ((W2.drewN q).setCell ⟨w.heap.size + 1, 0, .none⟩ (.int .i64 (((lastR L).seq : Int) + 1))) (some (w.heap.size + 1)) := grown_set (grown_refl _ _) _ _
        have S3 := ST2.below (below_drewN (Below.refl _ _) q)
        have hz := S3.size
        refine ⟨S3.ring.off (Off.of_grown hG) (by omega) (fun k e e2 => by have := ST2.hv k e; omega), S3.mod.other hG (by omega), S3.res.off (Off.of_grown hG) (by omega), ⟨?_⟩, S3.off.trans (Off.of_grown hG) (fun k hk e => by omega), by simpa using hz, hbm, hrm, ST2.hv⟩
        have hh := S3.row.heap
        simp only [World.setCell, Array.getElem?_modify, hh]
        simp [nextR]
      have HST : Hid _ := hST
      have hlw : IntKind.i64.wrap (((lastR L).seq : Int) + 1) = ((lastR L).seq : Int) + 1 := by rw [IntKind.wrap_i64]; omega
      clear hST hcell ST2
      rw [hn] at r1 ⊢
      subst hsa
      have wn : IntKind.i64.wrap (n : Int) = (n : Int) := by rw [IntKind.wrap_i64]; omega
      have i0 : (0 : Int) ≤ (n : Int) := by omega
      have i1 : (n : Int) < (n : Int) + 1 := by omega
      generalize lastR L = y at *
      go_wp2_with fail
      go_region
      all_goals
        go_wp2_with fail
        go_meet
        case rel => exact ⟨rfl, HST.out 1⟩
  clear ST2 r1
  obtain ⟨rfl, ST⟩ := hcut
  have x0 := ST.row.at.c0
  rw [show ((nextR L n1 n2 n3).seq : Int) = 4294967296 by show (((lastR L).seq + 1 : Nat) : Int) = _; have := HQ.out; omega] at x0
  have Z := ST.res
  obtain ⟨z0, z1, z2, z3⟩ := Z.at
  have f0 := Z.frozen 0
  have f1 := Z.frozen 1
  have f2 := Z.frozen 2
  have f3 := Z.frozen 3
  have hO := ST.off
  have hM := ST.mod
  have hR := ST.ring
  have hVL := ST.hv
  clear ST HQ
  go_wp2_with fail
  refine bodyPost_ret (res_rec rfl _ _ w.heap.size .none rfl (Z.set4 .none).at) rfl ?_
  have G9 := grown_set4 wc w.heap.size (.int .i64 0) (.int .i64 0) (.int .i64 0) (.int .i64 0)
  exact ⟨rfl, hO.trans (Off.of_grown G9) (fun k hk e => by omega), hM.other G9 (by omega), hR.off (Off.of_grown G9) (by omega) (fun k e e2 => by have := hVL k e; omega)⟩
end Go.Proofs.YtebdepbnhemnpaaDoor
