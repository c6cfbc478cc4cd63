/-
  flow.Words out of its bounds, and nightwatchlaw2.FlowWords, told by contracts: FlowWords answers true; nothing that was there turns. Conditions: what it is handed lies in memory, the edges are of int's range; the sentinels are in memory.
-/
import Derived.Test.YtbholbenjalliabDoorFwWords
import Derived.Test.YtbholbenjalliabDoorFwRows
import Derived.Test.YtbholbenjalliabDoorFlOrd
import Derived.Test.YtbholbenjalliabDoorCfHeavyE
import Derived.Test.YtbholbenjalliabDoorCode
namespace Go.Proofs.YtbholbenjalliabDoor
open Go.RowKit Go.Extern.Stop Go.Stop Go.Extern

set_option maxHeartbeats 2000000 in
set_option maxRecDepth 100000 in
theorem words_bad (e : EntD) (pa ga ea fa la : Option Addr) (pc gc ec fc lc : Nat) (n : Int) (ad : Addr) (w : World) (hc : w.cell? ⟨0, 0, none⟩ = some (.iface 96 (.pointer (some ad)))) (hn : n < 0 ∨ 15 < n ∨ 16 < (e.pts.length : Int)) :
    Calls Tryd.prog 11 #[.agg #[.string e.name, .int .i64 e.tol, .slice pa e.pts.length pc, .int .i64 e.cnt, .int .i64 e.mn, .int .i64 e.mx, .slice ga e.gaps.length gc, .slice ea e.edges.length ec, .slice fa e.first.length fc, .slice la e.last.length lc], .int .i64 n] w fun v w' => v = .returned (.tuple #[.int .i64 0, .iface 96 (.pointer (some ad))]) ∧ Below w.heap.size w w' := by
  have c1 : ∀ o, (w.alloc o).cell? ⟨0, 0, none⟩ = some (.iface 96 (.pointer (some ad))) := fun o => cell_below (Below.one _ _) hc
  clear hc
  by_cases g1 : n < 0
  · go_enter Tryd.func11, Tryd.ntmps11
    go_wp2_with fail
    go_quiet (fail)
    go_wp2
    go_ret2
    exact ⟨rfl, below_drewN (Below.one _ _) _⟩
  by_cases g2 : 15 < n
  · go_enter Tryd.func11, Tryd.ntmps11
    go_wp2_with fail
    go_quiet (fail)
    go_wp2
    go_ret2
    exact ⟨rfl, below_drewN (Below.one _ _) _⟩
  have g3 : 16 < (e.pts.length : Int) := by omega
  clear hn
  go_enter Tryd.func11, Tryd.ntmps11
  go_wp2_with fail
  go_quiet (fail)
  go_wp2
  go_ret2
  exact ⟨rfl, below_drewN (Below.one _ _) _⟩
set_option maxHeartbeats 8000000 in
set_option maxRecDepth 100000 in
theorem fwords_in (e : EntD) (pa ga ea fa la : Option Addr) (pc gc ec fc lc : Nat) (n : Nat) (w : World) (hP : EntParts w e (.slice pa e.pts.length pc) (.slice ga e.gaps.length gc) (.slice ea e.edges.length ec) (.slice fa e.first.length fc) (.slice la e.last.length lc)) (hh : heavyE e = false) (hWf : WfE e.edges) (hn : n ≤ 15) (hp : e.pts.length ≤ 16) :
    Calls Tryd.prog 4 #[.agg #[.string e.name, .int .i64 e.tol, .slice pa e.pts.length pc, .int .i64 e.cnt, .int .i64 e.mn, .int .i64 e.mx, .slice ga e.gaps.length gc, .slice ea e.edges.length ec, .slice fa e.first.length fc, .slice la e.last.length lc], .int .i64 (n : Int)] w fun v w' => v = .returned (.bool true) ∧ Below w.heap.size w w' := by
  have HH : Hid (SmallE e) := heavyE_small hh
  have hh0 : one01 (heavyE e) = 0 := by rw [hh]; rfl
  have HP : Hid (∀ V, Below w.heap.size w V → EntParts V e (.slice pa e.pts.length pc) (.slice ga e.gaps.length gc) (.slice ea e.edges.length ec) (.slice fa e.first.length fc) (.slice la e.last.length lc)) := fun V hV => hP.below hV
  have HWf : Hid (WfE e.edges) := hWf
  have HN : Hid (n ≤ 15 ∧ e.pts.length ≤ 16) := ⟨hn, hp⟩
  have g1 : ¬ (n : Int) < 0 := by omega
  have g2 : ¬ 15 < (n : Int) := by omega
  have g3 : ¬ 16 < (e.pts.length : Int) := by omega
  clear hP hh hWf hn hp
  go_enter Tryd.func4, Tryd.ntmps4
  go_wp2_with fail
  refine (ordered_any _).mono ?_
  rintro v w1 ⟨rfl, hb1⟩
  have HX1 : Hid (w1.heap[w.heap.size]? = some (.cells #[.string e.name, .int .i64 e.tol, .slice pa e.pts.length pc, .int .i64 e.cnt, .int .i64 e.mn, .int .i64 e.mx, .slice ga e.gaps.length gc, .slice ea e.edges.length ec, .slice fa e.first.length fc, .slice la e.last.length lc] 27 (0, 0))) := row_below hb1 (al_at rfl)
  have HB1 : Hid (Below w.heap.size w w1) := (Below.one _ _).trans (hb1.mono (by simp))
  clear hb1
  have y : ∀ (j : Nat) u, (#[.string e.name, .int .i64 e.tol, .slice pa e.pts.length pc, .int .i64 e.cnt, .int .i64 e.mn, .int .i64 e.mx, .slice ga e.gaps.length gc, .slice ea e.edges.length ec, .slice fa e.first.length fc, .slice la e.last.length lc] : Array Value)[j]? = some u → w1.cell? ⟨w.heap.size, j, none⟩ = some u := fun j u hu => by simp [World.cell?, HX1.out, hu]
  have y0 := y 0 _ rfl
  have y1 := y 1 _ rfl
  have y2 := y 2 _ rfl
  have y3 := y 3 _ rfl
  have y4 := y 4 _ rfl
  have y5 := y 5 _ rfl
  have y6 := y 6 _ rfl
  have y7 := y 7 _ rfl
  have y8 := y 8 _ rfl
  have y9 := y 9 _ rfl
  clear y
  go_wp2_with fail
  clear y0 y1 y2 y3 y4 y5 y6 y7 y8 y9
  refine (heavyE_at e pa ga ea fa la pc gc ec fc lc _ (HP.out _ HB1.out).hp).mono ?_
  rintro v w2 ⟨rfl, hb2⟩
  rw [hh0]
  have HX2 : Hid (w2.heap[w.heap.size]? = some (.cells #[.string e.name, .int .i64 e.tol, .slice pa e.pts.length pc, .int .i64 e.cnt, .int .i64 e.mn, .int .i64 e.mx, .slice ga e.gaps.length gc, .slice ea e.edges.length ec, .slice fa e.first.length fc, .slice la e.last.length lc] 27 (0, 0))) := row_below hb2 HX1.out
  have HB2 : Hid (Below w.heap.size w w2) := HB1.out.trans (hb2.mono HB1.out.size)
  clear hb2 HX1 HB1
  go_wp2_with (refine wpList_load_row rfl 27 _ rfl w.heap.size rfl _ _ _ _ HX2.out Tryd.underlying27 rfl Tryd.sizeEnt ?_)
  refine (ownEntity_at w2.heap.size e pa ga ea fa la pc gc ec fc lc _ (HP.out _ HB2.out) HH.out (Nat.le_refl _)).mono ?_
  rintro v w3 ⟨⟨npa, npc, nga, ngc, nea, nec, nfa, nfc, nla, nlc, rfl, hown⟩, hb⟩
  have HX3 : Hid (w3.heap[w.heap.size]? = some (.cells #[.string e.name, .int .i64 e.tol, .slice pa e.pts.length pc, .int .i64 e.cnt, .int .i64 e.mn, .int .i64 e.mx, .slice ga e.gaps.length gc, .slice ea e.edges.length ec, .slice fa e.first.length fc, .slice la e.last.length lc] 27 (0, 0))) := row_below hb HX2.out
  have HB3 : Hid (Below w.heap.size w w3) := HB2.out.trans (hb.mono HB2.out.size)
  have HO3 : Hid (EntParts w3 e (.slice npa e.pts.length npc) (.slice nga e.gaps.length ngc) (.slice nea e.edges.length nec) (.slice nfa e.first.length nfc) (.slice nla e.last.length nlc)) := hown.parts
  clear hown hb HX2 HB2
  go_wp2_with fail
  refine (words_ok e npa nga nea nfa nla npc ngc nec nfc nlc n w3 HO3.out HH.out HWf.out HN.out.1 HN.out.2).mono ?_
  rintro v w4 ⟨rfl, hb4⟩
  have HX4 : Hid (w4.heap[w.heap.size]? = some (.cells #[.string e.name, .int .i64 e.tol, .slice pa e.pts.length pc, .int .i64 e.cnt, .int .i64 e.mn, .int .i64 e.mx, .slice ga e.gaps.length gc, .slice ea e.edges.length ec, .slice fa e.first.length fc, .slice la e.last.length lc] 27 (0, 0))) := row_below hb4 HX3.out
  have HB4 : Hid (Below w.heap.size w w4) := HB3.out.trans (hb4.mono HB3.out.size)
  clear hb4 HX3 HB3 HO3
  obtain ⟨r, hr⟩ : ∃ r, r = rowsN e n (-1) := ⟨_, rfl⟩
  have HR : Hid (r = rowsN e n (-1)) := hr
  rw [← hr]
  clear hr
  have y : ∀ (j : Nat) u, (#[.string e.name, .int .i64 e.tol, .slice pa e.pts.length pc, .int .i64 e.cnt, .int .i64 e.mn, .int .i64 e.mx, .slice ga e.gaps.length gc, .slice ea e.edges.length ec, .slice fa e.first.length fc, .slice la e.last.length lc] : Array Value)[j]? = some u → w4.cell? ⟨w.heap.size, j, none⟩ = some u := fun j u hu => by simp [World.cell?, HX4.out, hu]
  have y0 := y 0 _ rfl
  have y1 := y 1 _ rfl
  have y2 := y 2 _ rfl
  have y3 := y 3 _ rfl
  have y4 := y 4 _ rfl
  have y5 := y 5 _ rfl
  have y6 := y 6 _ rfl
  have y7 := y 7 _ rfl
  have y8 := y 8 _ rfl
  have y9 := y 9 _ rfl
  clear y
  go_wp2_with fail
  clear y0 y1 y2 y3 y4 y5 y6 y7 y8 y9
  refine (rowsOf_at e pa ga ea fa la pc gc ec fc lc n w4 (HP.out _ HB4.out) HH.out HN.out.1 HN.out.2).mono ?_
  rw [← HR.out]
  rintro v w5 ⟨rfl, hb5⟩
  go_wp2
  go_ret
  exact ⟨by simp, HB4.out.trans (hb5.mono HB4.out.size)⟩
set_option maxHeartbeats 8000000 in
set_option maxRecDepth 100000 in
theorem fwords_out (A : Nat → Addr) (e : EntD) (pa ga ea fa la : Option Addr) (pc gc ec fc lc : Nat) (n : Int) (w : World) (hs : Senv A w) (hP : EntParts w e (.slice pa e.pts.length pc) (.slice ga e.gaps.length gc) (.slice ea e.edges.length ec) (.slice fa e.first.length fc) (.slice la e.last.length lc)) (hh : heavyE e = false) (hn : n < 0 ∨ 15 < n ∨ 16 < (e.pts.length : Int)) :
    Calls Tryd.prog 4 #[.agg #[.string e.name, .int .i64 e.tol, .slice pa e.pts.length pc, .int .i64 e.cnt, .int .i64 e.mn, .int .i64 e.mx, .slice ga e.gaps.length gc, .slice ea e.edges.length ec, .slice fa e.first.length fc, .slice la e.last.length lc], .int .i64 n] w fun v w' => v = .returned (.bool true) ∧ Below w.heap.size w w' := by
  have HH : Hid (SmallE e) := heavyE_small hh
  have hh0 : one01 (heavyE e) = 0 := by rw [hh]; rfl
  have HP : Hid (∀ V, Below w.heap.size w V → EntParts V e (.slice pa e.pts.length pc) (.slice ga e.gaps.length gc) (.slice ea e.edges.length ec) (.slice fa e.first.length fc) (.slice la e.last.length lc)) := fun V hV => hP.below hV
  have HN : Hid (n < 0 ∨ 15 < n ∨ 16 < (e.pts.length : Int)) := hn
  have HS : Hid (∀ V, Below w.heap.size w V → Senv A V) := fun V hV => hs.below hV
  clear hP hh hn hs
  go_enter Tryd.func4, Tryd.ntmps4
  go_wp2_with fail
  refine (ordered_any _).mono ?_
  rintro v w1 ⟨rfl, hb1⟩
  have HX1 : Hid (w1.heap[w.heap.size]? = some (.cells #[.string e.name, .int .i64 e.tol, .slice pa e.pts.length pc, .int .i64 e.cnt, .int .i64 e.mn, .int .i64 e.mx, .slice ga e.gaps.length gc, .slice ea e.edges.length ec, .slice fa e.first.length fc, .slice la e.last.length lc] 27 (0, 0))) := row_below hb1 (al_at rfl)
  have HB1 : Hid (Below w.heap.size w w1) := (Below.one _ _).trans (hb1.mono (by simp))
  clear hb1
  have y : ∀ (j : Nat) u, (#[.string e.name, .int .i64 e.tol, .slice pa e.pts.length pc, .int .i64 e.cnt, .int .i64 e.mn, .int .i64 e.mx, .slice ga e.gaps.length gc, .slice ea e.edges.length ec, .slice fa e.first.length fc, .slice la e.last.length lc] : Array Value)[j]? = some u → w1.cell? ⟨w.heap.size, j, none⟩ = some u := fun j u hu => by simp [World.cell?, HX1.out, hu]
  have y0 := y 0 _ rfl
  have y1 := y 1 _ rfl
  have y2 := y 2 _ rfl
  have y3 := y 3 _ rfl
  have y4 := y 4 _ rfl
  have y5 := y 5 _ rfl
  have y6 := y 6 _ rfl
  have y7 := y 7 _ rfl
  have y8 := y 8 _ rfl
  have y9 := y 9 _ rfl
  clear y
  go_wp2_with fail
  clear y0 y1 y2 y3 y4 y5 y6 y7 y8 y9
  refine (heavyE_at e pa ga ea fa la pc gc ec fc lc _ (HP.out _ HB1.out).hp).mono ?_
  rintro v w2 ⟨rfl, hb2⟩
  rw [hh0]
  have HX2 : Hid (w2.heap[w.heap.size]? = some (.cells #[.string e.name, .int .i64 e.tol, .slice pa e.pts.length pc, .int .i64 e.cnt, .int .i64 e.mn, .int .i64 e.mx, .slice ga e.gaps.length gc, .slice ea e.edges.length ec, .slice fa e.first.length fc, .slice la e.last.length lc] 27 (0, 0))) := row_below hb2 HX1.out
  have HB2 : Hid (Below w.heap.size w w2) := HB1.out.trans (hb2.mono HB1.out.size)
  clear hb2 HX1 HB1
  go_wp2_with (refine wpList_load_row rfl 27 _ rfl w.heap.size rfl _ _ _ _ HX2.out Tryd.underlying27 rfl Tryd.sizeEnt ?_)
  refine (ownEntity_at w2.heap.size e pa ga ea fa la pc gc ec fc lc _ (HP.out _ HB2.out) HH.out (Nat.le_refl _)).mono ?_
  rintro v w3 ⟨⟨npa, npc, nga, ngc, nea, nec, nfa, nfc, nla, nlc, rfl, hown⟩, hb⟩
  have HX3 : Hid (w3.heap[w.heap.size]? = some (.cells #[.string e.name, .int .i64 e.tol, .slice pa e.pts.length pc, .int .i64 e.cnt, .int .i64 e.mn, .int .i64 e.mx, .slice ga e.gaps.length gc, .slice ea e.edges.length ec, .slice fa e.first.length fc, .slice la e.last.length lc] 27 (0, 0))) := row_below hb HX2.out
  have HB3 : Hid (Below w.heap.size w w3) := HB2.out.trans (hb.mono HB2.out.size)
  have HO3 : Hid (EntParts w3 e (.slice npa e.pts.length npc) (.slice nga e.gaps.length ngc) (.slice nea e.edges.length nec) (.slice nfa e.first.length nfc) (.slice nla e.last.length nlc)) := hown.parts
  clear hown hb HX2 HB2
  go_wp2_with fail
  refine (words_bad e npa nga nea nfa nla npc ngc nec nfc nlc n (A 1) w3 (HS.out _ HB3.out).c1 HN.out).mono ?_
  rintro v w4 ⟨rfl, hb4⟩
  have HX4 : Hid (w4.heap[w.heap.size]? = some (.cells #[.string e.name, .int .i64 e.tol, .slice pa e.pts.length pc, .int .i64 e.cnt, .int .i64 e.mn, .int .i64 e.mx, .slice ga e.gaps.length gc, .slice ea e.edges.length ec, .slice fa e.first.length fc, .slice la e.last.length lc] 27 (0, 0))) := row_below hb4 HX3.out
  have HB4 : Hid (Below w.heap.size w w4) := HB3.out.trans (hb4.mono HB3.out.size)
  clear hb4 HX3 HB3 HO3
  have y2 : w4.cell? ⟨w.heap.size, 2, none⟩ = some (.slice pa e.pts.length pc) := by have := HX4.out; simp [World.cell?, this]
  have HC : Hid _ := coded_sent A 1 2 w4 (HS.out _ HB4.out) (by omega)
  rw [show decide (((1 : Nat) : Int) + 1 = 2) = true from by decide] at HC
  by_cases g1 : n < 0
  · go_wp2_with (go_at_call 12; refine Calls.mono HC.out ?_; rintro v w5 ⟨rfl, hb5⟩)
    go_ret
    exact ⟨rfl, HB4.out.trans (hb5.mono HB4.out.size)⟩
  by_cases g2 : 15 < n
  · go_wp2_with (go_at_call 12; refine Calls.mono HC.out ?_; rintro v w5 ⟨rfl, hb5⟩)
    go_ret
    exact ⟨rfl, HB4.out.trans (hb5.mono HB4.out.size)⟩
  have g3 : 16 < (e.pts.length : Int) := by have := HN.out; omega
  go_wp2_with (go_at_call 12; refine Calls.mono HC.out ?_; rintro v w5 ⟨rfl, hb5⟩)
  go_ret
  exact ⟨rfl, HB4.out.trans (hb5.mono HB4.out.size)⟩
set_option maxHeartbeats 2000000 in
set_option maxRecDepth 100000 in
theorem fwords_any (A : Nat → Addr) (e : EntD) (pa ga ea fa la : Option Addr) (pc gc ec fc lc : Nat) (n : Int) (w : World) (hs : Senv A w) (hP : EntParts w e (.slice pa e.pts.length pc) (.slice ga e.gaps.length gc) (.slice ea e.edges.length ec) (.slice fa e.first.length fc) (.slice la e.last.length lc)) (hWf : WfE e.edges) :
    Calls Tryd.prog 4 #[.agg #[.string e.name, .int .i64 e.tol, .slice pa e.pts.length pc, .int .i64 e.cnt, .int .i64 e.mn, .int .i64 e.mx, .slice ga e.gaps.length gc, .slice ea e.edges.length ec, .slice fa e.first.length fc, .slice la e.last.length lc], .int .i64 n] w fun v w' => v = .returned (.bool true) ∧ Below w.heap.size w w' := by
  by_cases hh : heavyE e = false
  · by_cases hn : n < 0 ∨ 15 < n ∨ 16 < (e.pts.length : Int)
    · exact fwords_out A e pa ga ea fa la pc gc ec fc lc n w hs hP hh hn
    · obtain ⟨n, rfl⟩ := Int.eq_ofNat_of_zero_le (show 0 ≤ n by omega)
      exact fwords_in e pa ga ea fa la pc gc ec fc lc n w hP hh hWf (by omega) (by omega)
  · have HP : Hid (∀ V, Below w.heap.size w V → EntParts V e (.slice pa e.pts.length pc) (.slice ga e.gaps.length gc) (.slice ea e.edges.length ec) (.slice fa e.first.length fc) (.slice la e.last.length lc)) := fun V hV => hP.below hV
    have hh0 : one01 (heavyE e) = 1 := by rw [Bool.not_eq_false] at hh; rw [hh]; rfl
    clear hP hh hs hWf
    go_enter Tryd.func4, Tryd.ntmps4
    go_wp2_with fail
    refine (ordered_any _).mono ?_
    rintro v w1 ⟨rfl, hb1⟩
    have HX1 : Hid (w1.heap[w.heap.size]? = some (.cells #[.string e.name, .int .i64 e.tol, .slice pa e.pts.length pc, .int .i64 e.cnt, .int .i64 e.mn, .int .i64 e.mx, .slice ga e.gaps.length gc, .slice ea e.edges.length ec, .slice fa e.first.length fc, .slice la e.last.length lc] 27 (0, 0))) := row_below hb1 (al_at rfl)
    have HB1 : Hid (Below w.heap.size w w1) := (Below.one _ _).trans (hb1.mono (by simp))
    clear hb1
    have y : ∀ (j : Nat) u, (#[.string e.name, .int .i64 e.tol, .slice pa e.pts.length pc, .int .i64 e.cnt, .int .i64 e.mn, .int .i64 e.mx, .slice ga e.gaps.length gc, .slice ea e.edges.length ec, .slice fa e.first.length fc, .slice la e.last.length lc] : Array Value)[j]? = some u → w1.cell? ⟨w.heap.size, j, none⟩ = some u := fun j u hu => by simp [World.cell?, HX1.out, hu]
    have y0 := y 0 _ rfl
    have y1 := y 1 _ rfl
    have y2 := y 2 _ rfl
    have y3 := y 3 _ rfl
    have y4 := y 4 _ rfl
    have y5 := y 5 _ rfl
    have y6 := y 6 _ rfl
    have y7 := y 7 _ rfl
    have y8 := y 8 _ rfl
    have y9 := y 9 _ rfl
    clear y
    go_wp2_with fail
    clear y0 y1 y2 y3 y4 y5 y6 y7 y8 y9
    refine (heavyE_at e pa ga ea fa la pc gc ec fc lc _ (HP.out _ HB1.out).hp).mono ?_
    rintro v w2 ⟨rfl, hb2⟩
    rw [hh0]
    have HX2 : Hid (w2.heap[w.heap.size]? = some (.cells #[.string e.name, .int .i64 e.tol, .slice pa e.pts.length pc, .int .i64 e.cnt, .int .i64 e.mn, .int .i64 e.mx, .slice ga e.gaps.length gc, .slice ea e.edges.length ec, .slice fa e.first.length fc, .slice la e.last.length lc] 27 (0, 0))) := row_below hb2 HX1.out
    have HB2 : Hid (Below w.heap.size w w2) := HB1.out.trans (hb2.mono HB1.out.size)
    clear hb2 HX1 HB1
    go_wp2
    go_ret
    exact ⟨rfl, HB2.out⟩
end Go.Proofs.YtbholbenjalliabDoor
