/-
  The rules of an entity's parts (conf.partRules), all of them, by contracts. Conditions: its lists lie in memory, and are not too long.
-/
import Derived.Test.YtbholbenjalliaaGreatDoorCfPart1X
namespace Go.Proofs.YtbholbenjalliaaGreatDoor
open Go.RowKit Go.Extern.Stop Go.Stop Go.Extern

set_option maxHeartbeats 400000 in
theorem part9_at (nm : ByteArray) (tol cnt mn mx : Int) (pa ga ea fa la : Option Addr) (pn pc gn gc en ec fn fc ln lc : Nat) (xs : List (Int × Int)) (w : World) (hv : SlAt encP 2 w (.slice ea en ec) xs) (hn : xs.length ≤ 1000000) : Calls Tryz.prog 99 #[.agg #[.string nm, .int .i64 tol, .slice pa pn pc, .int .i64 cnt, .int .i64 mn, .int .i64 mx, .slice ga gn gc, .slice ea en ec, .slice fa fn fc, .slice la ln lc]] w fun e w' => e = .returned (.bool (twice xs)) ∧ Below w.heap.size w w' := by
  have H := twice_pair _ xs _ (hv.below (Below.one w (.cells #[.string nm, .int .i64 tol, .slice pa pn pc, .int .i64 cnt, .int .i64 mn, .int .i64 mx, .slice ga gn gc, .slice ea en ec, .slice fa fn fc, .slice la ln lc] 52))) hn
  have HH : Hid _ := H
  clear H hv hn
  go_enter Tryz.func99, Tryz.ntmps99
  go_wp2_with fail
  refine Calls.mono HH.out ?_
  rintro e w' ⟨rfl, hb⟩
  go_wp2
  go_ret
  exact ⟨rfl, (Below.one _ _).trans (hb.mono (by simp))⟩
set_option maxHeartbeats 400000 in
theorem part10_at (nm : ByteArray) (tol cnt mn mx : Int) (pa ga ea fa la : Option Addr) (pn pc gn gc en ec fn fc ln lc : Nat) (xs : List Int) (w : World) (hv : SlAt encI 1 w (.slice fa fn fc) xs) (hn : xs.length ≤ 1000000) : Calls Tryz.prog 101 #[.agg #[.string nm, .int .i64 tol, .slice pa pn pc, .int .i64 cnt, .int .i64 mn, .int .i64 mx, .slice ga gn gc, .slice ea en ec, .slice fa fn fc, .slice la ln lc]] w fun e w' => e = .returned (.bool (twice xs)) ∧ Below w.heap.size w w' := by
  have H := twice_int _ xs _ (hv.below (Below.one w (.cells #[.string nm, .int .i64 tol, .slice pa pn pc, .int .i64 cnt, .int .i64 mn, .int .i64 mx, .slice ga gn gc, .slice ea en ec, .slice fa fn fc, .slice la ln lc] 52))) hn
  have HH : Hid _ := H
  clear H hv hn
  go_enter Tryz.func101, Tryz.ntmps101
  go_wp2_with fail
  refine Calls.mono HH.out ?_
  rintro e w' ⟨rfl, hb⟩
  go_wp2
  go_ret
  exact ⟨rfl, (Below.one _ _).trans (hb.mono (by simp))⟩
set_option maxHeartbeats 400000 in
theorem part11_at (nm : ByteArray) (tol cnt mn mx : Int) (pa ga ea fa la : Option Addr) (pn pc gn gc en ec fn fc ln lc : Nat) (xs : List Int) (w : World) (hv : SlAt encI 1 w (.slice la ln lc) xs) (hn : xs.length ≤ 1000000) : Calls Tryz.prog 103 #[.agg #[.string nm, .int .i64 tol, .slice pa pn pc, .int .i64 cnt, .int .i64 mn, .int .i64 mx, .slice ga gn gc, .slice ea en ec, .slice fa fn fc, .slice la ln lc]] w fun e w' => e = .returned (.bool (twice xs)) ∧ Below w.heap.size w w' := by
  have H := twice_int _ xs _ (hv.below (Below.one w (.cells #[.string nm, .int .i64 tol, .slice pa pn pc, .int .i64 cnt, .int .i64 mn, .int .i64 mx, .slice ga gn gc, .slice ea en ec, .slice fa fn fc, .slice la ln lc] 52))) hn
  have HH : Hid _ := H
  clear H hv hn
  go_enter Tryz.func103, Tryz.ntmps103
  go_wp2_with fail
  refine Calls.mono HH.out ?_
  rintro e w' ⟨rfl, hb⟩
  go_wp2
  go_ret
  exact ⟨rfl, (Below.one _ _).trans (hb.mono (by simp))⟩
set_option maxHeartbeats 400000 in
theorem part12_at (nm : ByteArray) (tol cnt mn mx : Int) (pa ga ea fa la : Option Addr) (pn pc gn gc en ec fn fc ln lc : Nat)  (w : World) : Calls Tryz.prog 104 #[.agg #[.string nm, .int .i64 tol, .slice pa pn pc, .int .i64 cnt, .int .i64 mn, .int .i64 mx, .slice ga gn gc, .slice ea en ec, .slice fa fn fc, .slice la ln lc]] w fun e w' => e = .returned (.bool (decide (0 < en) && decide (fn = 0))) ∧ Below w.heap.size w w' := by
  by_cases h : 0 < en
  · have g : (0 : Int) < (en : Int) := by omega
    by_cases h2 : fn = 0
    · subst h2
      rw [show (decide (0 < en) && decide ((0 : Nat) = 0)) = true by simp [h]]
      clear h
      go_enter Tryz.func104, Tryz.ntmps104
      go_wp2
      go_ret
      exact ⟨rfl, Below.one _ _⟩
    · have g2 : ((fn : Int) == 0) = false := by rw [beq_eq_false_iff_ne]; omega
      rw [show (decide (0 < en) && decide (fn = 0)) = false by simp [h2]]
      clear h h2
      go_enter Tryz.func104, Tryz.ntmps104
      go_wp2
      go_ret
      exact ⟨rfl, Below.one _ _⟩
  · obtain rfl : en = 0 := by omega
    rw [show (decide (0 < 0) && decide (fn = 0)) = false by simp]
    go_enter Tryz.func104, Tryz.ntmps104
    go_wp2
    go_ret
    exact ⟨rfl, Below.one _ _⟩
set_option maxHeartbeats 400000 in
theorem part13_at (nm : ByteArray) (tol cnt mn mx : Int) (pa ga ea fa la : Option Addr) (pn pc gn gc en ec fn fc ln lc : Nat) (hf : fn ≤ 1000000) (hl : ln ≤ 1000000) (w : World) : Calls Tryz.prog 105 #[.agg #[.string nm, .int .i64 tol, .slice pa pn pc, .int .i64 cnt, .int .i64 mn, .int .i64 mx, .slice ga gn gc, .slice ea en ec, .slice fa fn fc, .slice la ln lc]] w fun e w' => e = .returned (.bool (decide (en = 0) && decide (0 < fn + ln))) ∧ Below w.heap.size w w' := by
  by_cases h : en = 0
  · subst h
    have hw : IntKind.i64.wrap ((fn : Int) + (ln : Int)) = ((fn + ln : Nat) : Int) := by rw [IntKind.wrap_i64]; omega
    rw [show (decide ((0 : Nat) = 0) && decide (0 < fn + ln)) = decide ((0 : Int) < ((fn + ln : Nat) : Int)) by simp only [decide_true, Bool.true_and]; exact decide_eq_decide.2 (by omega)]
    generalize ((fn + ln : Nat) : Int) = q at *
    clear hf hl
    go_enter Tryz.func105, Tryz.ntmps105
    go_wp2
    go_ret
    exact ⟨rfl, Below.one _ _⟩
  · have g : ((en : Int) == 0) = false := by rw [beq_eq_false_iff_ne]; omega
    rw [show (decide (en = 0) && decide (0 < fn + ln)) = false by simp [h]]
    clear h hf hl
    go_enter Tryz.func105, Tryz.ntmps105
    go_wp2
    go_ret
    exact ⟨rfl, Below.one _ _⟩
def partRow (A : Nat → Addr) : Array Value := #[.iface 227 (.pointer (some (A 4))), .func (.func 84) #[] #[], .iface 227 (.pointer (some (A 4))), .func (.func 86) #[] #[], .iface 227 (.pointer (some (A 4))), .func (.func 89) #[] #[], .iface 227 (.pointer (some (A 4))), .func (.func 92) #[] #[], .iface 227 (.pointer (some (A 4))), .func (.func 93) #[] #[], .iface 227 (.pointer (some (A 2))), .func (.func 94) #[] #[], .iface 227 (.pointer (some (A 1))), .func (.func 95) #[] #[], .iface 227 (.pointer (some (A 1))), .func (.func 97) #[] #[], .iface 227 (.pointer (some (A 5))), .func (.func 99) #[] #[], .iface 227 (.pointer (some (A 5))), .func (.func 101) #[] #[], .iface 227 (.pointer (some (A 5))), .func (.func 103) #[] #[], .iface 227 (.pointer (some (A 2))), .func (.func 104) #[] #[], .iface 227 (.pointer (some (A 2))), .func (.func 105) #[] #[]]
set_option maxHeartbeats 1000000 in
theorem partRules_at (A : Nat → Addr) (w : World) (hs : Sen6 A w) : Calls Tryz.prog 57 #[] w fun e w' => e = .returned (.slice (some ⟨w.heap.size, 0, none⟩) 13 13) ∧ w' = w.alloc (.cells (partRow A) 145) := by
  have c1 := hs.c1
  have c2 := hs.c2
  have c4 := hs.c4
  have c5 := hs.c5
  unfold partRow
  go_enter Tryz.func57, Tryz.ntmps57
  go_wp2
  go_ret
  exact ⟨rfl, rfl⟩
def partFns (i : Nat) : Nat := [84, 86, 89, 92, 93, 94, 95, 97, 99, 101, 103, 104, 105].getD i 0
theorem part_rules (A : Nat → Addr) (e : EntD) (pa ga ea fa la : Option Addr) (pc gc ec fc lc : Nat) (r : Nat) (W : World) (hP : EntParts W e (.slice pa e.pts.length pc) (.slice ga e.gaps.length gc) (.slice ea e.edges.length ec) (.slice fa e.first.length fc) (.slice la e.last.length lc)) (hS : SmallE e) (hr : W.heap[r]? = some (.cells (partRow A) 145 (0, 0))) :
    RulesAt A W r (.agg (entRow e (.slice pa e.pts.length pc) (.slice ga e.gaps.length gc) (.slice ea e.edges.length ec) (.slice fa e.first.length fc) (.slice la e.last.length lc))) [
  (decide (e.cnt ≠ -1) && lacks e.pts.length e.cnt, 5),
  (e.gaps.any fun g => lacks e.pts.length g.fr || lacks e.pts.length g.to, 5),
  (e.edges.any fun d => lacks e.pts.length d.1 || lacks e.pts.length d.2, 5),
  (e.first.any fun x => lacks e.pts.length x, 5),
  (e.last.any fun x => lacks e.pts.length x, 5),
  (decide (e.cnt = -1) && (decide (e.mn ≠ 0) || decide (e.mx ≠ 0)), 3),
  (!rise 0 e.mn e.mx 999, 2),
  (e.gaps.any fun g => !rise 0 g.mn g.mx 1099511627776, 2),
  (twice e.edges, 6), (twice e.first, 6), (twice e.last, 6),
  (decide (0 < e.edges.length) && decide (e.first.length = 0), 3),
  (decide (e.edges.length = 0) && decide (0 < e.first.length + e.last.length), 3)] partFns := by
  have hcell : ∀ j v, (partRow A)[j]? = some v → W.cell? ⟨r, j, none⟩ = some v := fun j v e => by simp [World.cell?, hr, e]
  refine ⟨fun i b d e => ?_, fun i b d e => ?_, fun i b d e' V hV => ?_, by simp, fun i b d e => ?_⟩
  · match i, e with
    | 0, e => cases e; exact ⟨hcell 0 _ rfl, hcell 1 _ rfl⟩
    | 1, e => cases e; exact ⟨hcell 2 _ rfl, hcell 3 _ rfl⟩
    | 2, e => cases e; exact ⟨hcell 4 _ rfl, hcell 5 _ rfl⟩
    | 3, e => cases e; exact ⟨hcell 6 _ rfl, hcell 7 _ rfl⟩
    | 4, e => cases e; exact ⟨hcell 8 _ rfl, hcell 9 _ rfl⟩
    | 5, e => cases e; exact ⟨hcell 10 _ rfl, hcell 11 _ rfl⟩
    | 6, e => cases e; exact ⟨hcell 12 _ rfl, hcell 13 _ rfl⟩
    | 7, e => cases e; exact ⟨hcell 14 _ rfl, hcell 15 _ rfl⟩
    | 8, e => cases e; exact ⟨hcell 16 _ rfl, hcell 17 _ rfl⟩
    | 9, e => cases e; exact ⟨hcell 18 _ rfl, hcell 19 _ rfl⟩
    | 10, e => cases e; exact ⟨hcell 20 _ rfl, hcell 21 _ rfl⟩
    | 11, e => cases e; exact ⟨hcell 22 _ rfl, hcell 23 _ rfl⟩
    | 12, e => cases e; exact ⟨hcell 24 _ rfl, hcell 25 _ rfl⟩
    | i + 13, e => cases e
  · match i, e with
    | 0, _ => exact enters_of Tryz.func84 (by kernel_rfl) rfl
    | 1, _ => exact enters_of Tryz.func86 (by kernel_rfl) rfl
    | 2, _ => exact enters_of Tryz.func89 (by kernel_rfl) rfl
    | 3, _ => exact enters_of Tryz.func92 (by kernel_rfl) rfl
    | 4, _ => exact enters_of Tryz.func93 (by kernel_rfl) rfl
    | 5, _ => exact enters_of Tryz.func94 (by kernel_rfl) rfl
    | 6, _ => exact enters_of Tryz.func95 (by kernel_rfl) rfl
    | 7, _ => exact enters_of Tryz.func97 (by kernel_rfl) rfl
    | 8, _ => exact enters_of Tryz.func99 (by kernel_rfl) rfl
    | 9, _ => exact enters_of Tryz.func101 (by kernel_rfl) rfl
    | 10, _ => exact enters_of Tryz.func103 (by kernel_rfl) rfl
    | 11, _ => exact enters_of Tryz.func104 (by kernel_rfl) rfl
    | 12, _ => exact enters_of Tryz.func105 (by kernel_rfl) rfl
    | i + 13, e => cases e
  · match i, e' with
    | 0, e' => cases e'; exact part1_at _ _ _ _ _ _ _ _ _ _ _ _ _ _ _ _ _ _ _ _ _
    | 1, e' => cases e'; exact part2_at _ _ _ _ _ _ _ _ _ _ _ _ _ _ _ _ _ _ _ _ _ _ (hP.hg.below hV) hS.hg
    | 2, e' => cases e'; exact part3_at _ _ _ _ _ _ _ _ _ _ _ _ _ _ _ _ _ _ _ _ _ _ (hP.he.below hV) hS.he
    | 3, e' => cases e'; exact part4_at _ _ _ _ _ _ _ _ _ _ _ _ _ _ _ _ _ _ _ _ _ _ (hP.hf.below hV) hS.hf
    | 4, e' => cases e'; exact part5_at _ _ _ _ _ _ _ _ _ _ _ _ _ _ _ _ _ _ _ _ _ _ (hP.hl.below hV) hS.hl
    | 5, e' => cases e'; exact part6_at _ _ _ _ _ _ _ _ _ _ _ _ _ _ _ _ _ _ _ _ _
    | 6, e' => cases e'; exact part7_at _ _ _ _ _ _ _ _ _ _ _ _ _ _ _ _ _ _ _ _ _
    | 7, e' => cases e'; exact part8_at _ _ _ _ _ _ _ _ _ _ _ _ _ _ _ _ _ _ _ _ _ _ (hP.hg.below hV) hS.hg
    | 8, e' => cases e'; exact part9_at _ _ _ _ _ _ _ _ _ _ _ _ _ _ _ _ _ _ _ _ _ _ (hP.he.below hV) hS.he
    | 9, e' => cases e'; exact part10_at _ _ _ _ _ _ _ _ _ _ _ _ _ _ _ _ _ _ _ _ _ _ (hP.hf.below hV) hS.hf
    | 10, e' => cases e'; exact part11_at _ _ _ _ _ _ _ _ _ _ _ _ _ _ _ _ _ _ _ _ _ _ (hP.hl.below hV) hS.hl
    | 11, e' => cases e'; exact part12_at _ _ _ _ _ _ _ _ _ _ _ _ _ _ _ _ _ _ _ _ _
    | 12, e' => cases e'; exact part13_at _ _ _ _ _ _ _ _ _ _ _ _ _ _ _ _ _ _ _ _ hS.hf hS.hl _
    | i + 13, e' => cases e'
  · match i, e with
    | 0, e => cases e; decide
    | 1, e => cases e; decide
    | 2, e => cases e; decide
    | 3, e => cases e; decide
    | 4, e => cases e; decide
    | 5, e => cases e; decide
    | 6, e => cases e; decide
    | 7, e => cases e; decide
    | 8, e => cases e; decide
    | 9, e => cases e; decide
    | 10, e => cases e; decide
    | 11, e => cases e; decide
    | 12, e => cases e; decide
    | i + 13, e => cases e
end Go.Proofs.YtbholbenjalliaaGreatDoor
