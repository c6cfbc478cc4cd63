/-
  Several texts as one: CfPart2, CfRuled, CfEnt.
-/
import Derived.Test.YtkphpgdgbnmnjacGreatDoorB24C
import Derived.Test.YtkphpgdgbnmnjacGreatDoorB04C
namespace Go.Proofs.YtkphpgdgbnmnjacGreatDoor
open Go.RowKit Go.Extern.Stop Go.Stop Go.Extern

set_option maxHeartbeats 400000 in
theorem part9_at (nm : ByteArray) (tol cnt mn mx : Int) (pa ga ea fa la : Option Addr) (pn pc gn gc en ec fn fc ln lc : Nat) (xs : List (Int × Int)) (w : World) (hv : SlAt encP 2 w (.slice ea en ec) xs) (hn : xs.length ≤ 1000000) : Calls Tryz.prog 192 #[.agg #[.string nm, .int .i64 tol, .slice pa pn pc, .int .i64 cnt, .int .i64 mn, .int .i64 mx, .slice ga gn gc, .slice ea en ec, .slice fa fn fc, .slice la ln lc]] w fun e w' => e = .returned (.bool (twice xs)) ∧ Below w.heap.size w w' := by
  have H := twice_pair _ xs _ (hv.below (Below.one w (.cells #[.string nm, .int .i64 tol, .slice pa pn pc, .int .i64 cnt, .int .i64 mn, .int .i64 mx, .slice ga gn gc, .slice ea en ec, .slice fa fn fc, .slice la ln lc] 38))) hn
  have HH : Hid _ := H
  clear H hv hn
  go_enter Tryz.func192, Tryz.ntmps192
  go_wp2_with fail
  refine Calls.mono HH.out ?_
  rintro e w' ⟨rfl, hb⟩
  go_wp2
  go_ret
  exact ⟨rfl, (Below.one _ _).trans (hb.mono (by simp))⟩
set_option maxHeartbeats 400000 in
theorem part10_at (nm : ByteArray) (tol cnt mn mx : Int) (pa ga ea fa la : Option Addr) (pn pc gn gc en ec fn fc ln lc : Nat) (xs : List Int) (w : World) (hv : SlAt encI 1 w (.slice fa fn fc) xs) (hn : xs.length ≤ 1000000) : Calls Tryz.prog 194 #[.agg #[.string nm, .int .i64 tol, .slice pa pn pc, .int .i64 cnt, .int .i64 mn, .int .i64 mx, .slice ga gn gc, .slice ea en ec, .slice fa fn fc, .slice la ln lc]] w fun e w' => e = .returned (.bool (twice xs)) ∧ Below w.heap.size w w' := by
  have H := twice_int _ xs _ (hv.below (Below.one w (.cells #[.string nm, .int .i64 tol, .slice pa pn pc, .int .i64 cnt, .int .i64 mn, .int .i64 mx, .slice ga gn gc, .slice ea en ec, .slice fa fn fc, .slice la ln lc] 38))) hn
  have HH : Hid _ := H
  clear H hv hn
  go_enter Tryz.func194, Tryz.ntmps194
  go_wp2_with fail
  refine Calls.mono HH.out ?_
  rintro e w' ⟨rfl, hb⟩
  go_wp2
  go_ret
  exact ⟨rfl, (Below.one _ _).trans (hb.mono (by simp))⟩
set_option maxHeartbeats 400000 in
theorem part11_at (nm : ByteArray) (tol cnt mn mx : Int) (pa ga ea fa la : Option Addr) (pn pc gn gc en ec fn fc ln lc : Nat) (xs : List Int) (w : World) (hv : SlAt encI 1 w (.slice la ln lc) xs) (hn : xs.length ≤ 1000000) : Calls Tryz.prog 196 #[.agg #[.string nm, .int .i64 tol, .slice pa pn pc, .int .i64 cnt, .int .i64 mn, .int .i64 mx, .slice ga gn gc, .slice ea en ec, .slice fa fn fc, .slice la ln lc]] w fun e w' => e = .returned (.bool (twice xs)) ∧ Below w.heap.size w w' := by
  have H := twice_int _ xs _ (hv.below (Below.one w (.cells #[.string nm, .int .i64 tol, .slice pa pn pc, .int .i64 cnt, .int .i64 mn, .int .i64 mx, .slice ga gn gc, .slice ea en ec, .slice fa fn fc, .slice la ln lc] 38))) hn
  have HH : Hid _ := H
  clear H hv hn
  go_enter Tryz.func196, Tryz.ntmps196
  go_wp2_with fail
  refine Calls.mono HH.out ?_
  rintro e w' ⟨rfl, hb⟩
  go_wp2
  go_ret
  exact ⟨rfl, (Below.one _ _).trans (hb.mono (by simp))⟩
set_option maxHeartbeats 400000 in
theorem part12_at (nm : ByteArray) (tol cnt mn mx : Int) (pa ga ea fa la : Option Addr) (pn pc gn gc en ec fn fc ln lc : Nat)  (w : World) : Calls Tryz.prog 197 #[.agg #[.string nm, .int .i64 tol, .slice pa pn pc, .int .i64 cnt, .int .i64 mn, .int .i64 mx, .slice ga gn gc, .slice ea en ec, .slice fa fn fc, .slice la ln lc]] w fun e w' => e = .returned (.bool (decide (0 < en) && decide (fn = 0))) ∧ Below w.heap.size w w' := by
  by_cases h : 0 < en
  · have g : (0 : Int) < (en : Int) := by omega
    by_cases h2 : fn = 0
    · subst h2
      rw [show (decide (0 < en) && decide ((0 : Nat) = 0)) = true by simp [h]]
      clear h
      go_enter Tryz.func197, Tryz.ntmps197
      go_wp2
      go_ret
      exact ⟨rfl, Below.one _ _⟩
    · have g2 : ((fn : Int) == 0) = false := by rw [beq_eq_false_iff_ne]; omega
      rw [show (decide (0 < en) && decide (fn = 0)) = false by simp [h2]]
      clear h h2
      go_enter Tryz.func197, Tryz.ntmps197
      go_wp2
      go_ret
      exact ⟨rfl, Below.one _ _⟩
  · obtain rfl : en = 0 := by omega
    rw [show (decide (0 < 0) && decide (fn = 0)) = false by simp]
    go_enter Tryz.func197, Tryz.ntmps197
    go_wp2
    go_ret
    exact ⟨rfl, Below.one _ _⟩
set_option maxHeartbeats 400000 in
theorem part13_at (nm : ByteArray) (tol cnt mn mx : Int) (pa ga ea fa la : Option Addr) (pn pc gn gc en ec fn fc ln lc : Nat) (hf : fn ≤ 1000000) (hl : ln ≤ 1000000) (w : World) : Calls Tryz.prog 198 #[.agg #[.string nm, .int .i64 tol, .slice pa pn pc, .int .i64 cnt, .int .i64 mn, .int .i64 mx, .slice ga gn gc, .slice ea en ec, .slice fa fn fc, .slice la ln lc]] w fun e w' => e = .returned (.bool (decide (en = 0) && decide (0 < fn + ln))) ∧ Below w.heap.size w w' := by
  by_cases h : en = 0
  · subst h
    have hw : IntKind.i64.wrap ((fn : Int) + (ln : Int)) = ((fn + ln : Nat) : Int) := by rw [IntKind.wrap_i64]; omega
    rw [show (decide ((0 : Nat) = 0) && decide (0 < fn + ln)) = decide ((0 : Int) < ((fn + ln : Nat) : Int)) by simp only [decide_true, Bool.true_and]; exact decide_eq_decide.2 (by omega)]
    generalize ((fn + ln : Nat) : Int) = q at *
    clear hf hl
    go_enter Tryz.func198, Tryz.ntmps198
    go_wp2
    go_ret
    exact ⟨rfl, Below.one _ _⟩
  · have g : ((en : Int) == 0) = false := by rw [beq_eq_false_iff_ne]; omega
    rw [show (decide (en = 0) && decide (0 < fn + ln)) = false by simp [h]]
    clear h hf hl
    go_enter Tryz.func198, Tryz.ntmps198
    go_wp2
    go_ret
    exact ⟨rfl, Below.one _ _⟩
def partRow (A : Nat → Addr) : Array Value := #[.iface 292 (.pointer (some (A 4))), .func (.func 177) #[] #[], .iface 292 (.pointer (some (A 4))), .func (.func 179) #[] #[], .iface 292 (.pointer (some (A 4))), .func (.func 182) #[] #[], .iface 292 (.pointer (some (A 4))), .func (.func 185) #[] #[], .iface 292 (.pointer (some (A 4))), .func (.func 186) #[] #[], .iface 292 (.pointer (some (A 2))), .func (.func 187) #[] #[], .iface 292 (.pointer (some (A 1))), .func (.func 188) #[] #[], .iface 292 (.pointer (some (A 1))), .func (.func 190) #[] #[], .iface 292 (.pointer (some (A 5))), .func (.func 192) #[] #[], .iface 292 (.pointer (some (A 5))), .func (.func 194) #[] #[], .iface 292 (.pointer (some (A 5))), .func (.func 196) #[] #[], .iface 292 (.pointer (some (A 2))), .func (.func 197) #[] #[], .iface 292 (.pointer (some (A 2))), .func (.func 198) #[] #[]]
set_option maxHeartbeats 1000000 in
theorem partRules_at (A : Nat → Addr) (w : World) (hs : Sen5 A w) : Calls Tryz.prog 144 #[] w fun e w' => e = .returned (.slice (some ⟨w.heap.size, 0, none⟩) 13 13) ∧ w' = w.alloc (.cells (partRow A) 264) := by
  have c1 := hs.c1
  have c2 := hs.c2
  have c4 := hs.c4
  have c5 := hs.c5
  unfold partRow
  go_enter Tryz.func144, Tryz.ntmps144
  go_wp2
  go_ret
  exact ⟨rfl, rfl⟩
def partFns (i : Nat) : Nat := [177, 179, 182, 185, 186, 187, 188, 190, 192, 194, 196, 197, 198].getD i 0
theorem part_rules (A : Nat → Addr) (e : EntD) (pa ga ea fa la : Option Addr) (pc gc ec fc lc : Nat) (r : Nat) (W : World) (hP : EntParts W e (.slice pa e.pts.length pc) (.slice ga e.gaps.length gc) (.slice ea e.edges.length ec) (.slice fa e.first.length fc) (.slice la e.last.length lc)) (hS : SmallE e) (hr : W.heap[r]? = some (.cells (partRow A) 264 (0, 0))) :
    RulesAt A W r (.agg (entRow e (.slice pa e.pts.length pc) (.slice ga e.gaps.length gc) (.slice ea e.edges.length ec) (.slice fa e.first.length fc) (.slice la e.last.length lc))) [
  (decide (e.cnt ≠ -1) && lacks e.pts.length e.cnt, 5),
  (e.gaps.any fun g => lacks e.pts.length g.fr || lacks e.pts.length g.to, 5),
  (e.edges.any fun d => lacks e.pts.length d.1 || lacks e.pts.length d.2, 5),
  (e.first.any fun x => lacks e.pts.length x, 5),
  (e.last.any fun x => lacks e.pts.length x, 5),
  (decide (e.cnt = -1) && (decide (e.mn ≠ 0) || decide (e.mx ≠ 0)), 3),
  (!rise 0 e.mn e.mx 999, 2),
  (e.gaps.any fun g => !rise 0 g.mn g.mx 1099511627776, 2),
  (twice e.edges, 6), (twice e.first, 6), (twice e.last, 6),
  (decide (0 < e.edges.length) && decide (e.first.length = 0), 3),
  (decide (e.edges.length = 0) && decide (0 < e.first.length + e.last.length), 3)] partFns := by
  have hcell : ∀ j v, (partRow A)[j]? = some v → W.cell? ⟨r, j, none⟩ = some v := fun j v e => by simp [World.cell?, hr, e]
  refine ⟨fun i b d e => ?_, fun i b d e => ?_, fun i b d e' V hV => ?_, by simp, fun i b d e => ?_⟩
  · match i, e with
    | 0, e => cases e; exact ⟨hcell 0 _ rfl, hcell 1 _ rfl⟩
    | 1, e => cases e; exact ⟨hcell 2 _ rfl, hcell 3 _ rfl⟩
    | 2, e => cases e; exact ⟨hcell 4 _ rfl, hcell 5 _ rfl⟩
    | 3, e => cases e; exact ⟨hcell 6 _ rfl, hcell 7 _ rfl⟩
    | 4, e => cases e; exact ⟨hcell 8 _ rfl, hcell 9 _ rfl⟩
    | 5, e => cases e; exact ⟨hcell 10 _ rfl, hcell 11 _ rfl⟩
    | 6, e => cases e; exact ⟨hcell 12 _ rfl, hcell 13 _ rfl⟩
    | 7, e => cases e; exact ⟨hcell 14 _ rfl, hcell 15 _ rfl⟩
    | 8, e => cases e; exact ⟨hcell 16 _ rfl, hcell 17 _ rfl⟩
    | 9, e => cases e; exact ⟨hcell 18 _ rfl, hcell 19 _ rfl⟩
    | 10, e => cases e; exact ⟨hcell 20 _ rfl, hcell 21 _ rfl⟩
    | 11, e => cases e; exact ⟨hcell 22 _ rfl, hcell 23 _ rfl⟩
    | 12, e => cases e; exact ⟨hcell 24 _ rfl, hcell 25 _ rfl⟩
    | i + 13, e => cases e
  · match i, e with
    | 0, _ => exact enters_of Tryz.func177 (by kernel_rfl) rfl
    | 1, _ => exact enters_of Tryz.func179 (by kernel_rfl) rfl
    | 2, _ => exact enters_of Tryz.func182 (by kernel_rfl) rfl
    | 3, _ => exact enters_of Tryz.func185 (by kernel_rfl) rfl
    | 4, _ => exact enters_of Tryz.func186 (by kernel_rfl) rfl
    | 5, _ => exact enters_of Tryz.func187 (by kernel_rfl) rfl
    | 6, _ => exact enters_of Tryz.func188 (by kernel_rfl) rfl
    | 7, _ => exact enters_of Tryz.func190 (by kernel_rfl) rfl
    | 8, _ => exact enters_of Tryz.func192 (by kernel_rfl) rfl
    | 9, _ => exact enters_of Tryz.func194 (by kernel_rfl) rfl
    | 10, _ => exact enters_of Tryz.func196 (by kernel_rfl) rfl
    | 11, _ => exact enters_of Tryz.func197 (by kernel_rfl) rfl
    | 12, _ => exact enters_of Tryz.func198 (by kernel_rfl) rfl
    | i + 13, e => cases e
  · match i, e' with
    | 0, e' => cases e'; exact part1_at _ _ _ _ _ _ _ _ _ _ _ _ _ _ _ _ _ _ _ _ _
    | 1, e' => cases e'; exact part2_at _ _ _ _ _ _ _ _ _ _ _ _ _ _ _ _ _ _ _ _ _ _ (hP.hg.below hV) hS.hg
    | 2, e' => cases e'; exact part3_at _ _ _ _ _ _ _ _ _ _ _ _ _ _ _ _ _ _ _ _ _ _ (hP.he.below hV) hS.he
    | 3, e' => cases e'; exact part4_at _ _ _ _ _ _ _ _ _ _ _ _ _ _ _ _ _ _ _ _ _ _ (hP.hf.below hV) hS.hf
    | 4, e' => cases e'; exact part5_at _ _ _ _ _ _ _ _ _ _ _ _ _ _ _ _ _ _ _ _ _ _ (hP.hl.below hV) hS.hl
    | 5, e' => cases e'; exact part6_at _ _ _ _ _ _ _ _ _ _ _ _ _ _ _ _ _ _ _ _ _
    | 6, e' => cases e'; exact part7_at _ _ _ _ _ _ _ _ _ _ _ _ _ _ _ _ _ _ _ _ _
    | 7, e' => cases e'; exact part8_at _ _ _ _ _ _ _ _ _ _ _ _ _ _ _ _ _ _ _ _ _ _ (hP.hg.below hV) hS.hg
    | 8, e' => cases e'; exact part9_at _ _ _ _ _ _ _ _ _ _ _ _ _ _ _ _ _ _ _ _ _ _ (hP.he.below hV) hS.he
    | 9, e' => cases e'; exact part10_at _ _ _ _ _ _ _ _ _ _ _ _ _ _ _ _ _ _ _ _ _ _ (hP.hf.below hV) hS.hf
    | 10, e' => cases e'; exact part11_at _ _ _ _ _ _ _ _ _ _ _ _ _ _ _ _ _ _ _ _ _ _ (hP.hl.below hV) hS.hl
    | 11, e' => cases e'; exact part12_at _ _ _ _ _ _ _ _ _ _ _ _ _ _ _ _ _ _ _ _ _
    | 12, e' => cases e'; exact part13_at _ _ _ _ _ _ _ _ _ _ _ _ _ _ _ _ _ _ _ _ hS.hf hS.hl _
    | i + 13, e' => cases e'
  · match i, e with
    | 0, e => cases e; decide
    | 1, e => cases e; decide
    | 2, e => cases e; decide
    | 3, e => cases e; decide
    | 4, e => cases e; decide
    | 5, e => cases e; decide
    | 6, e => cases e; decide
    | 7, e => cases e; decide
    | 8, e => cases e; decide
    | 9, e => cases e; decide
    | 10, e => cases e; decide
    | 11, e => cases e; decide
    | 12, e => cases e; decide
    | i + 13, e => cases e
end Go.Proofs.YtkphpgdgbnmnjacGreatDoor

namespace Go.Proofs.YtkphpgdgbnmnjacGreatDoor
open Go.RowKit Go.Extern.Stop Go.Stop Go.Extern

theorem first_size (A : Nat → Addr) (e : EntD) (pa ga ea fa la : Option Addr) (pc gc ec fc lc : Nat) (r : Nat) (W : World) (hr : W.heap[r]? = some (.cells (sizeRow A) 264 (0, 0))) :
    Calls Tryz.prog 142 #[.agg #[.string e.name, .int .i64 e.tol, .slice pa e.pts.length pc, .int .i64 e.cnt, .int .i64 e.mn, .int .i64 e.mx, .slice ga e.gaps.length gc, .slice ea e.edges.length ec, .slice fa e.first.length fc, .slice la e.last.length lc], .slice (some ⟨r, 0, none⟩) 6 6] W fun v w' => v = .returned (errV A (sizeErr e)) ∧ Below W.heap.size W w' :=
  first_ent A _ _ _ _ _ _ _ _ _ _ _ _ _ _ _ _ _ _ _ _ r _ sizeFns W (size_rules A e pa ga ea fa la pc gc ec fc lc r W hr)
theorem first_part (A : Nat → Addr) (e : EntD) (pa ga ea fa la : Option Addr) (pc gc ec fc lc : Nat) (r : Nat) (W : World) (hP : EntParts W e (.slice pa e.pts.length pc) (.slice ga e.gaps.length gc) (.slice ea e.edges.length ec) (.slice fa e.first.length fc) (.slice la e.last.length lc)) (hS : SmallE e) (hr : W.heap[r]? = some (.cells (partRow A) 264 (0, 0))) :
    Calls Tryz.prog 142 #[.agg #[.string e.name, .int .i64 e.tol, .slice pa e.pts.length pc, .int .i64 e.cnt, .int .i64 e.mn, .int .i64 e.mx, .slice ga e.gaps.length gc, .slice ea e.edges.length ec, .slice fa e.first.length fc, .slice la e.last.length lc], .slice (some ⟨r, 0, none⟩) 13 13] W fun v w' => v = .returned (errV A (partErr e)) ∧ Below W.heap.size W w' :=
  first_ent A _ _ _ _ _ _ _ _ _ _ _ _ _ _ _ _ _ _ _ _ r _ partFns W (part_rules A e pa ga ea fa la pc gc ec fc lc r W hP hS hr)
theorem first_whole (A : Nat → Addr) (c : CfgD) (sa : Option Addr) (sc : Nat) (r : Nat) (W : World) (hs : Sen5 A W) (hr : W.heap[r]? = some (.cells (cfgRow A) 208 (0, 0))) :
    Calls Tryz.prog 97 #[.agg #[.int .i64 c.closed, .int .i64 c.opn, .int .i64 c.cycle, .int .i64 c.delay, .slice sa c.ents.length sc], .slice (some ⟨r, 0, none⟩) 5 5] W fun v w' => v = .returned (errV A (wholeErr c)) ∧ Below W.heap.size W w' :=
  first_cfg A _ _ _ _ _ _ _ r _ cfgFns W (cfg_rules A c sa sc r W hs hr)
theorem heap_new (V : World) (c : Array Value) (t : TypeId) : (V.alloc (.cells c t)).heap[V.heap.size]? = some (.cells c t (0, 0)) := by
  show (V.heap.push _)[V.heap.size]? = _
  simp
/-- What the four operations of such a region yield. -/
def ruleS (row : Value) (n : Nat) (rules : Array Value) (t : TypeId) (err : Value) (i : Nat) (v : Value) (W : World) : Prop := match i with
  | 0 => v = row
  | 1 => ∃ r, v = .slice (some ⟨r, 0, none⟩) n n ∧ W.heap[r]? = some (.cells rules t (0, 0))
  | 2 => v = err
  | _ => v = err
theorem ruleS_keeps {row : Value} {n : Nat} {rules : Array Value} {t : TypeId} {err : Value} {w w' : World} (hb : Below w.heap.size w w') : ∀ j v, ruleS row n rules t err j v w → ruleS row n rules t err j v w' := by
  intro j v h
  match j with
  | 0 => exact h
  | 1 => obtain ⟨r, h1, h2⟩ := h; exact ⟨r, h1, row_below hb h2⟩
  | 2 => exact h
  | j + 3 => exact h
end Go.Proofs.YtkphpgdgbnmnjacGreatDoor

namespace Go.Proofs.YtkphpgdgbnmnjacGreatDoor
open Go.RowKit Go.Extern.Stop Go.Stop Go.Extern

theorem errV_pos {A : Nat → Addr} {n : Nat} (h : n ≠ 0) : errV A n = .iface 292 (.pointer (some (A (n - 1)))) := by
  obtain ⟨k, rfl⟩ : ∃ k, n = k + 1 := ⟨n - 1, by omega⟩
  rfl
theorem ptsErr_step {a : List ByteArray} {l : List ByteArray} {k : Nat} {p : ByteArray} (hk : l[k]? = some p) (h : nameErr (a ++ l.take k) p = 0) : ptsErr (a ++ l.take k) (l.drop k) = ptsErr (a ++ l.take (k + 1)) (l.drop (k + 1)) := by
  obtain ⟨hl, e⟩ := List.getElem?_eq_some_iff.1 hk
  rw [List.drop_eq_getElem_cons hl, ptsErr, e, if_pos h, List.take_add_one, hk]
  simp
theorem ptsErr_stop {a : List ByteArray} {l : List ByteArray} {k : Nat} {p : ByteArray} (hk : l[k]? = some p) (h : nameErr (a ++ l.take k) p ≠ 0) : ptsErr (a ++ l.take k) (l.drop k) = nameErr (a ++ l.take k) p := by
  obtain ⟨hl, e⟩ := List.getElem?_eq_some_iff.1 hk
  rw [List.drop_eq_getElem_cons hl, ptsErr, e, if_neg h]

set_option maxRecDepth 100000 in
set_option maxHeartbeats 4000000 in
theorem checkEntity_at (A : Nat → Addr) (e : EntD) (pa ga ea fa la : Option Addr) (pc gc ec fc lc : Nat) (w0 w : World) (rb bx mb : Nat) (a : List ByteArray) (hs0 : Sen5 A w0) (hP : EntParts w0 e (.slice pa e.pts.length pc) (.slice ga e.gaps.length gc) (.slice ea e.edges.length ec) (.slice fa e.first.length fc) (.slice la e.last.length lc)) (hS : SmallE e) (h : NamesIn A w0 w rb bx mb a) (hn : a.length ≤ 1000000) :
    Calls Tryz.prog 100 #[.agg #[.string e.name, .int .i64 e.tol, .slice pa e.pts.length pc, .int .i64 e.cnt, .int .i64 e.mn, .int .i64 e.mx, .slice ga e.gaps.length gc, .slice ea e.edges.length ec, .slice fa e.first.length fc, .slice la e.last.length lc], .slice (some ⟨rb, 0, none⟩) 2 2] w
      fun v w' => v = .returned (errV A (entErr a e)) ∧ Below w0.heap.size w0 w' ∧ (entErr a e = 0 → NamesIn A w0 w' rb bx mb (a ++ [e.name])) := by
  have HF := fun W hW => first_str A w0 W rb bx mb a e.name hW hS.hn hn
  have HFH : Hid _ := HF
  have H : Hid (NamesIn A w0 w rb bx mb a) := h
  have HPH : Hid (EntParts w0 e (.slice pa e.pts.length pc) (.slice ga e.gaps.length gc) (.slice ea e.edges.length ec) (.slice fa e.first.length fc) (.slice la e.last.length lc)) := hP
  have HSH : Hid (SmallE e) := hS
  have Hs0 : Hid (Sen5 A w0) := hs0
  clear HF h hP hS hs0 hn
  go_enter Tryz.func100, Tryz.ntmps100
  go_wp2_with fail
  refine Calls.mono (HFH.out _ (H.out.below (Below.one _ _))) ?_
  rintro v W1 ⟨rfl, hb1, hN1, hkp1⟩
  clear HFH
  by_cases hE : nameErr a e.name = 0
  · have HN1 : Hid (NamesIn A w0 W1 rb bx mb (a ++ [e.name])) := hN1 hE
    have HE1 : Hid (nameErr a e.name = 0) := hE
    have HBX : Hid (BoxAt W1 w.heap.size #[.string e.name, .int .i64 e.tol, .slice pa e.pts.length pc, .int .i64 e.cnt, .int .i64 e.mn, .int .i64 e.mx, .slice ga e.gaps.length gc, .slice ea e.edges.length ec, .slice fa e.first.length fc, .slice la e.last.length lc]) := fun j v ev => hkp1 ⟨w.heap.size, j, none⟩ v (fun h => by have := H.out.own.lt; simp at h; omega) (BoxAt.new w _ _ j v ev)
    have HSv : Hid (Sen5 A W1) := Hs0.out.below hb1
    have HPW1 : Hid (EntParts W1 e (.slice pa e.pts.length pc) (.slice ga e.gaps.length gc) (.slice ea e.edges.length ec) (.slice fa e.first.length fc) (.slice la e.last.length lc)) := HPH.out.below hb1
    rw [hE, show errV A 0 = .nilIface from rfl]
    clear hN1 hE hb1 H hkp1
    go_upto_region 4 with fail
    have hsz : sizeErr e = 0 ∨ sizeErr e ≠ 0 := by omega
    rcases hsz with hz | hz
    · have HE : Hid (errV A (sizeErr e) = .nilIface) := by show _ = _; rw [hz]; rfl
      have HZ : Hid (sizeErr e = 0) := hz
      clear hz
      go_cut [6] (fun r wx => r = .nilIface ∧ Below W1.heap.size W1 wx)
      case first =>
        refine region_spec 4 rfl (ruleS (.agg #[.string e.name, .int .i64 e.tol, .slice pa e.pts.length pc, .int .i64 e.cnt, .int .i64 e.mn, .int .i64 e.mx, .slice ga e.gaps.length gc, .slice ea e.edges.length ec, .slice fa e.first.length fc, .slice la e.last.length lc]) 6 (sizeRow A) 264 (.nilIface)) (fun V => Below W1.heap.size W1 V) (by kernel_rfl) (by kernel_rfl) (below_drew (Below.refl _ _)) ?_ ?_
        · intro i o ho
          match i, ho with
          | 0, ho =>
              obtain rfl := Option.some.inj ho
              refine StepOk.free rfl ?_
              intro a V hC hdep hoth
              have x0 : a.tmps[2]?.getD undef = .pointer (some ⟨w.heap.size, 0, none⟩) := slot_of (hoth 2 (notDst (by kernel_rfl)))
              have b0 : V.cell? ⟨w.heap.size, 0, none⟩ = some (_) := cell_below hC (HBX.out 0 _ rfl)
              have b1 : V.cell? ⟨w.heap.size, 1, none⟩ = some (_) := cell_below hC (HBX.out 1 _ rfl)
              have b2 : V.cell? ⟨w.heap.size, 2, none⟩ = some (_) := cell_below hC (HBX.out 2 _ rfl)
              have b3 : V.cell? ⟨w.heap.size, 3, none⟩ = some (_) := cell_below hC (HBX.out 3 _ rfl)
              have b4 : V.cell? ⟨w.heap.size, 4, none⟩ = some (_) := cell_below hC (HBX.out 4 _ rfl)
              have b5 : V.cell? ⟨w.heap.size, 5, none⟩ = some (_) := cell_below hC (HBX.out 5 _ rfl)
              have b6 : V.cell? ⟨w.heap.size, 6, none⟩ = some (_) := cell_below hC (HBX.out 6 _ rfl)
              have b7 : V.cell? ⟨w.heap.size, 7, none⟩ = some (_) := cell_below hC (HBX.out 7 _ rfl)
              have b8 : V.cell? ⟨w.heap.size, 8, none⟩ = some (_) := cell_below hC (HBX.out 8 _ rfl)
              have b9 : V.cell? ⟨w.heap.size, 9, none⟩ = some (_) := cell_below hC (HBX.out 9 _ rfl)
              exact goodRun.val (c := .agg #[.string e.name, .int .i64 e.tol, .slice pa e.pts.length pc, .int .i64 e.cnt, .int .i64 e.mn, .int .i64 e.mx, .slice ga e.gaps.length gc, .slice ea e.edges.length ec, .slice fa e.first.length fc, .slice la e.last.length lc]) (by clear hdep hoth; go_simp) hC rfl
          | 1, ho =>
              obtain rfl := Option.some.inj ho
              refine StepOk.free rfl ?_
              intro a V hC hdep hoth
              refine goodRun.call (f := 143) (args := #[]) (by clear hdep hoth; go_simp) ?_
              refine (sizeRules_at A _ (HSv.out.below hC)).mono ?_
              rintro v V' ⟨rfl, rfl⟩
              exact ⟨_, rfl, hC.alloc hC.size _, ruleS_keeps (Below.one _ _), ⟨_, rfl, heap_new _ _ _⟩⟩
          | 2, ho =>
              obtain rfl := Option.some.inj ho
              refine StepOk.free rfl ?_
              intro a V hC hdep hoth
              have x1 : a.tmps[18]?.getD undef = .agg #[.string e.name, .int .i64 e.tol, .slice pa e.pts.length pc, .int .i64 e.cnt, .int .i64 e.mn, .int .i64 e.mx, .slice ga e.gaps.length gc, .slice ea e.edges.length ec, .slice fa e.first.length fc, .slice la e.last.length lc] := slot_of (hdep _ 18 (Array.mem_of_getElem? (i := 0) rfl) rfl rfl)
              obtain ⟨r, hr1, hr2⟩ := hdep _ 19 (Array.mem_of_getElem? (i := 1) rfl) rfl rfl
              have x2 : a.tmps[19]?.getD undef = .slice (some ⟨r, 0, none⟩) 6 6 := slot_of hr1
              refine goodRun.call (f := 142) (args := #[.agg #[.string e.name, .int .i64 e.tol, .slice pa e.pts.length pc, .int .i64 e.cnt, .int .i64 e.mn, .int .i64 e.mx, .slice ga e.gaps.length gc, .slice ea e.edges.length ec, .slice fa e.first.length fc, .slice la e.last.length lc], .slice (some ⟨r, 0, none⟩) 6 6]) (by clear hdep hoth hr1; go_simp) ?_
              refine (first_size A e pa ga ea fa la pc gc ec fc lc r _ hr2).mono ?_
              rintro v V' ⟨rfl, hb⟩
              exact ⟨_, rfl, hC.trans (hb.mono hC.size), ruleS_keeps hb, HE.out⟩
          | 3, ho =>
              obtain rfl := Option.some.inj ho
              refine StepOk.free rfl ?_
              intro a V hC hdep hoth
              have x3 : a.tmps[20]?.getD undef = .nilIface := slot_of (hdep _ 20 (Array.mem_of_getElem? (i := 0) rfl) rfl rfl)
              exact goodRun.val (c := .nilIface) (by clear hdep hoth; go_simp) hC rfl
          | n + 4, ho => simp at ho
        · intro vals V hC hS
          have v3 : vals 3 = .nilIface := hS 3 (by decide)
          have HCC : Hid (Below W1.heap.size W1 V) := hC
          clear hS hC
          simp only [fill, dstOf]
          go_simp
          go_wp2_with fail
          go_meet
          case rel => exact ⟨rfl, HCC.out⟩
      obtain ⟨rfl, hb2⟩ := hcut
      rename World => W2
      have HB2 : Hid (Below W1.heap.size W1 W2) := hb2
      clear hb2
      go_wp2_with fail
      refine (nameRules_at A _ (HSv.out.below HB2.out)).mono ?_
      rintro v W3 ⟨rfl, hN3⟩
      have p2 : W3.cell? ⟨w.heap.size, 2, none⟩ = some (.slice pa e.pts.length pc) := cell_below (HB2.out.trans (hN3.bel.mono HB2.out.size)) (HBX.out 2 _ rfl)
      have H3 : Hid (NamesIn A W2 W3 (W2.heap.size + 2) (W2.heap.size + 1) W2.heap.size []) := hN3
      clear hN3
      go_wp2_with fail
      clear p2
      go_loopw [9, 10, 28] (fun _ _ i wr => ∃ k : Nat, k ≤ e.pts.length ∧ i = .int .i64 k ∧ NamesIn A W2 wr (W2.heap.size + 2) (W2.heap.size + 1) W2.heap.size (e.pts.take k) ∧ Hid (ptsErr [] e.pts = ptsErr ([] ++ e.pts.take k) (e.pts.drop k))) (fun _ _ i _ => e.pts.length - (intOf i).toNat)
      case atStart => exact ⟨0, Nat.zero_le _, rfl, by simpa using H3.out, (show _ = _ by simp)⟩
      case round =>
        clear H3
        obtain ⟨k, hk, rfl, hN, HPE⟩ := hrel
        have HN : Hid (NamesIn A W2 wr (W2.heap.size + 2) (W2.heap.size + 1) W2.heap.size (e.pts.take k)) := hN
        have hbr : Below W1.heap.size W1 wr := HB2.out.trans (hN.bel.mono HB2.out.size)
        have HBr : Hid (Below W1.heap.size W1 wr) := hbr
        clear hN
        by_cases hlt : k < e.pts.length
        · obtain ⟨q, hq⟩ : ∃ q, e.pts[k]? = some q := ⟨_, List.getElem?_eq_getElem hlt⟩
          obtain ⟨sa', cap', hsl, -, hcc⟩ := HPW1.out.hp
          cases hsl
          obtain ⟨b, o, rfl, hc0⟩ := hcc (fun h => by rw [h] at hq; simp at hq)
          have c0 := cell_below hbr (hc0 k q hq 0 _ rfl)
          simp only [Nat.mul_one, Nat.add_zero] at c0
          have HQ : Hid (e.pts[k]? = some q) := hq
          have hqm : q ∈ e.pts := List.mem_of_getElem? hq
          have HC : Hid _ := first_str A W2 wr (W2.heap.size + 2) (W2.heap.size + 1) W2.heap.size (e.pts.take k) q HN.out (HSH.out.hs q hqm) (by have := HSH.out.hp; simp; omega)
          have k1 : (k : Int) < (e.pts.length : Int) := by omega
          have k0 : k < 1000000 := by have := HSH.out.hp; omega
          clear hq hc0 hcc hbr hqm
          by_cases hE : nameErr (e.pts.take k) q = 0
          · go_wp2_with fail
            refine Calls.mono HC.out ?_
            rintro v W' ⟨rfl, -, hN', -⟩
            have HN' : Hid (NamesIn A W2 W' (W2.heap.size + 2) (W2.heap.size + 1) W2.heap.size (e.pts.take k ++ [q])) := hN' hE
            have HEE : Hid (nameErr (e.pts.take k) q = 0) := hE
            rw [hE, show errV A 0 = .nilIface from rfl]
            clear hN' hE HC
            go_wp2
            go_roundw
            case rel =>
              refine ⟨k + 1, by omega, by go_num, ?_, ?_⟩
              · rw [List.take_add_one, HQ.out]; exact HN'.out
              · show _ = _
                rw [HPE.out, ptsErr_step HQ.out (by simpa using HEE.out)]
            case measure => simp [intOf]; omega
          · go_wp2_with fail
            refine Calls.mono HC.out ?_
            rintro v W' ⟨rfl, hb', -, -⟩
            have HBz : Hid (Below w0.heap.size w0 W') := (HN1.out.bel.trans (HB2.out.mono HN1.out.bel.size)).trans (hb'.mono (Nat.le_trans HN1.out.bel.size HB2.out.size))
            have HEE : Hid (entErr a e = nameErr (e.pts.take k) q) := by
              show _ = _
              have h1 : ptsErr [] e.pts = nameErr (e.pts.take k) q := by rw [HPE.out, ptsErr_stop HQ.out (by simpa using hE)]; simp
              unfold entErr
              rw [if_neg (by rw [HE1.out]; simp), if_neg (by rw [HZ.out]; simp), if_pos (by rw [h1]; exact hE), h1]
            have HNZ : Hid (nameErr (e.pts.take k) q ≠ 0) := hE
            rw [errV_pos hE]
            clear hb' hE HC
            go_wp2
            go_ret
            exact ⟨by rw [HEE.out, errV_pos HNZ.out]; rfl, HBz.out, fun h => absurd h (by rw [HEE.out]; exact HNZ.out)⟩
        · have k1 : ¬ (k : Int) < (e.pts.length : Int) := by omega
          obtain rfl : k = e.pts.length := by omega
          have HE2 : Hid (entErr a e = partErr e) := by
            show _ = _
            have h1 : ptsErr [] e.pts = 0 := by rw [HPE.out]; simp [ptsErr]
            unfold entErr
            rw [if_neg (by rw [HE1.out]; simp), if_neg (by rw [HZ.out]; simp), if_neg (by rw [h1]; simp)]
          have HBX : Hid (BoxAt wr w.heap.size #[.string e.name, .int .i64 e.tol, .slice pa e.pts.length pc, .int .i64 e.cnt, .int .i64 e.mn, .int .i64 e.mx, .slice ga e.gaps.length gc, .slice ea e.edges.length ec, .slice fa e.first.length fc, .slice la e.last.length lc]) := HBX.out.below HBr.out
          have HSv : Hid (Sen5 A wr) := HSv.out.below HBr.out
          have HPW : Hid (EntParts wr e (.slice pa e.pts.length pc) (.slice ga e.gaps.length gc) (.slice ea e.edges.length ec) (.slice fa e.first.length fc) (.slice la e.last.length lc)) := HPW1.out.below HBr.out
          have HNr : Hid (NamesIn A w0 wr rb bx mb (a ++ [e.name])) := HN1.out.below HBr.out
          have HE : Hid (errV A (partErr e) = errV A (partErr e)) := rfl
          clear hbr HN1 HB2 HPW1 HPE HPH
          go_upto_region 15 with fail
          refine region_spec 4 rfl (ruleS (.agg #[.string e.name, .int .i64 e.tol, .slice pa e.pts.length pc, .int .i64 e.cnt, .int .i64 e.mn, .int .i64 e.mx, .slice ga e.gaps.length gc, .slice ea e.edges.length ec, .slice fa e.first.length fc, .slice la e.last.length lc]) 13 (partRow A) 264 (errV A (partErr e))) (fun V => Below wr.heap.size wr V) (by kernel_rfl) (by kernel_rfl) (below_drew (Below.refl _ _)) ?_ ?_
          · intro i o ho
            match i, ho with
            | 0, ho =>
                obtain rfl := Option.some.inj ho
                refine StepOk.free rfl ?_
                intro a V hC hdep hoth
                have x0 : a.tmps[2]?.getD undef = .pointer (some ⟨w.heap.size, 0, none⟩) := slot_of (hoth 2 (notDst (by kernel_rfl)))
                have b0 : V.cell? ⟨w.heap.size, 0, none⟩ = some (_) := cell_below hC (HBX.out 0 _ rfl)
                have b1 : V.cell? ⟨w.heap.size, 1, none⟩ = some (_) := cell_below hC (HBX.out 1 _ rfl)
                have b2 : V.cell? ⟨w.heap.size, 2, none⟩ = some (_) := cell_below hC (HBX.out 2 _ rfl)
                have b3 : V.cell? ⟨w.heap.size, 3, none⟩ = some (_) := cell_below hC (HBX.out 3 _ rfl)
                have b4 : V.cell? ⟨w.heap.size, 4, none⟩ = some (_) := cell_below hC (HBX.out 4 _ rfl)
                have b5 : V.cell? ⟨w.heap.size, 5, none⟩ = some (_) := cell_below hC (HBX.out 5 _ rfl)
                have b6 : V.cell? ⟨w.heap.size, 6, none⟩ = some (_) := cell_below hC (HBX.out 6 _ rfl)
                have b7 : V.cell? ⟨w.heap.size, 7, none⟩ = some (_) := cell_below hC (HBX.out 7 _ rfl)
                have b8 : V.cell? ⟨w.heap.size, 8, none⟩ = some (_) := cell_below hC (HBX.out 8 _ rfl)
                have b9 : V.cell? ⟨w.heap.size, 9, none⟩ = some (_) := cell_below hC (HBX.out 9 _ rfl)
                exact goodRun.val (c := .agg #[.string e.name, .int .i64 e.tol, .slice pa e.pts.length pc, .int .i64 e.cnt, .int .i64 e.mn, .int .i64 e.mx, .slice ga e.gaps.length gc, .slice ea e.edges.length ec, .slice fa e.first.length fc, .slice la e.last.length lc]) (by clear hdep hoth; go_simp) hC rfl
            | 1, ho =>
                obtain rfl := Option.some.inj ho
                refine StepOk.free rfl ?_
                intro a V hC hdep hoth
                refine goodRun.call (f := 144) (args := #[]) (by clear hdep hoth; go_simp) ?_
                refine (partRules_at A _ (HSv.out.below hC)).mono ?_
                rintro v V' ⟨rfl, rfl⟩
                exact ⟨_, rfl, hC.alloc hC.size _, ruleS_keeps (Below.one _ _), ⟨_, rfl, heap_new _ _ _⟩⟩
            | 2, ho =>
                obtain rfl := Option.some.inj ho
                refine StepOk.free rfl ?_
                intro a V hC hdep hoth
                have x1 : a.tmps[39]?.getD undef = .agg #[.string e.name, .int .i64 e.tol, .slice pa e.pts.length pc, .int .i64 e.cnt, .int .i64 e.mn, .int .i64 e.mx, .slice ga e.gaps.length gc, .slice ea e.edges.length ec, .slice fa e.first.length fc, .slice la e.last.length lc] := slot_of (hdep _ 39 (Array.mem_of_getElem? (i := 0) rfl) rfl rfl)
                obtain ⟨r, hr1, hr2⟩ := hdep _ 40 (Array.mem_of_getElem? (i := 1) rfl) rfl rfl
                have x2 : a.tmps[40]?.getD undef = .slice (some ⟨r, 0, none⟩) 13 13 := slot_of hr1
                refine goodRun.call (f := 142) (args := #[.agg #[.string e.name, .int .i64 e.tol, .slice pa e.pts.length pc, .int .i64 e.cnt, .int .i64 e.mn, .int .i64 e.mx, .slice ga e.gaps.length gc, .slice ea e.edges.length ec, .slice fa e.first.length fc, .slice la e.last.length lc], .slice (some ⟨r, 0, none⟩) 13 13]) (by clear hdep hoth hr1; go_simp) ?_
                refine (first_part A e pa ga ea fa la pc gc ec fc lc r _ (HPW.out.below hC) HSH.out hr2).mono ?_
                rintro v V' ⟨rfl, hb⟩
                exact ⟨_, rfl, hC.trans (hb.mono hC.size), ruleS_keeps hb, HE.out⟩
            | 3, ho =>
                obtain rfl := Option.some.inj ho
                refine StepOk.free rfl ?_
                intro a V hC hdep hoth
                have x3 : a.tmps[41]?.getD undef = errV A (partErr e) := slot_of (hdep _ 41 (Array.mem_of_getElem? (i := 0) rfl) rfl rfl)
                exact goodRun.val (c := errV A (partErr e)) (by clear hdep hoth; go_simp) hC rfl
            | n + 4, ho => simp at ho
          · intro vals V hC hS
            have v3 : vals 3 = errV A (partErr e) := hS 3 (by decide)
            have HCC : Hid (Below wr.heap.size wr V) := hC
            clear hS hC
            simp only [fill, dstOf]
            go_simp
            go_wp2
            go_ret
            exact ⟨by rw [HE2.out]; rfl, HNr.out.bel.trans (HCC.out.mono HNr.out.bel.size), fun _ => HNr.out.below HCC.out⟩

    · have HE : Hid (errV A (sizeErr e) = .iface 292 (.pointer (some (A (sizeErr e - 1))))) := errV_pos hz
      have HE2 : Hid (entErr a e = sizeErr e) := by show _ = _; unfold entErr; rw [if_neg (by rw [HE1.out]; simp), if_pos hz]
      have HZ : Hid (sizeErr e ≠ 0) := hz
      clear hz
      generalize A (sizeErr e - 1) = ad at *
      refine region_spec 4 rfl (ruleS (.agg #[.string e.name, .int .i64 e.tol, .slice pa e.pts.length pc, .int .i64 e.cnt, .int .i64 e.mn, .int .i64 e.mx, .slice ga e.gaps.length gc, .slice ea e.edges.length ec, .slice fa e.first.length fc, .slice la e.last.length lc]) 6 (sizeRow A) 264 (.iface 292 (.pointer (some ad)))) (fun V => Below W1.heap.size W1 V) (by kernel_rfl) (by kernel_rfl) (below_drew (Below.refl _ _)) ?_ ?_
      · intro i o ho
        match i, ho with
        | 0, ho =>
            obtain rfl := Option.some.inj ho
            refine StepOk.free rfl ?_
            intro a V hC hdep hoth
            have x0 : a.tmps[2]?.getD undef = .pointer (some ⟨w.heap.size, 0, none⟩) := slot_of (hoth 2 (notDst (by kernel_rfl)))
            have b0 : V.cell? ⟨w.heap.size, 0, none⟩ = some (_) := cell_below hC (HBX.out 0 _ rfl)
            have b1 : V.cell? ⟨w.heap.size, 1, none⟩ = some (_) := cell_below hC (HBX.out 1 _ rfl)
            have b2 : V.cell? ⟨w.heap.size, 2, none⟩ = some (_) := cell_below hC (HBX.out 2 _ rfl)
            have b3 : V.cell? ⟨w.heap.size, 3, none⟩ = some (_) := cell_below hC (HBX.out 3 _ rfl)
            have b4 : V.cell? ⟨w.heap.size, 4, none⟩ = some (_) := cell_below hC (HBX.out 4 _ rfl)
            have b5 : V.cell? ⟨w.heap.size, 5, none⟩ = some (_) := cell_below hC (HBX.out 5 _ rfl)
            have b6 : V.cell? ⟨w.heap.size, 6, none⟩ = some (_) := cell_below hC (HBX.out 6 _ rfl)
            have b7 : V.cell? ⟨w.heap.size, 7, none⟩ = some (_) := cell_below hC (HBX.out 7 _ rfl)
            have b8 : V.cell? ⟨w.heap.size, 8, none⟩ = some (_) := cell_below hC (HBX.out 8 _ rfl)
            have b9 : V.cell? ⟨w.heap.size, 9, none⟩ = some (_) := cell_below hC (HBX.out 9 _ rfl)
            exact goodRun.val (c := .agg #[.string e.name, .int .i64 e.tol, .slice pa e.pts.length pc, .int .i64 e.cnt, .int .i64 e.mn, .int .i64 e.mx, .slice ga e.gaps.length gc, .slice ea e.edges.length ec, .slice fa e.first.length fc, .slice la e.last.length lc]) (by clear hdep hoth; go_simp) hC rfl
        | 1, ho =>
            obtain rfl := Option.some.inj ho
            refine StepOk.free rfl ?_
            intro a V hC hdep hoth
            refine goodRun.call (f := 143) (args := #[]) (by clear hdep hoth; go_simp) ?_
            refine (sizeRules_at A _ (HSv.out.below hC)).mono ?_
            rintro v V' ⟨rfl, rfl⟩
            exact ⟨_, rfl, hC.alloc hC.size _, ruleS_keeps (Below.one _ _), ⟨_, rfl, heap_new _ _ _⟩⟩
        | 2, ho =>
            obtain rfl := Option.some.inj ho
            refine StepOk.free rfl ?_
            intro a V hC hdep hoth
            have x1 : a.tmps[18]?.getD undef = .agg #[.string e.name, .int .i64 e.tol, .slice pa e.pts.length pc, .int .i64 e.cnt, .int .i64 e.mn, .int .i64 e.mx, .slice ga e.gaps.length gc, .slice ea e.edges.length ec, .slice fa e.first.length fc, .slice la e.last.length lc] := slot_of (hdep _ 18 (Array.mem_of_getElem? (i := 0) rfl) rfl rfl)
            obtain ⟨r, hr1, hr2⟩ := hdep _ 19 (Array.mem_of_getElem? (i := 1) rfl) rfl rfl
            have x2 : a.tmps[19]?.getD undef = .slice (some ⟨r, 0, none⟩) 6 6 := slot_of hr1
            refine goodRun.call (f := 142) (args := #[.agg #[.string e.name, .int .i64 e.tol, .slice pa e.pts.length pc, .int .i64 e.cnt, .int .i64 e.mn, .int .i64 e.mx, .slice ga e.gaps.length gc, .slice ea e.edges.length ec, .slice fa e.first.length fc, .slice la e.last.length lc], .slice (some ⟨r, 0, none⟩) 6 6]) (by clear hdep hoth hr1; go_simp) ?_
            refine (first_size A e pa ga ea fa la pc gc ec fc lc r _ hr2).mono ?_
            rintro v V' ⟨rfl, hb⟩
            exact ⟨_, rfl, hC.trans (hb.mono hC.size), ruleS_keeps hb, HE.out⟩
        | 3, ho =>
            obtain rfl := Option.some.inj ho
            refine StepOk.free rfl ?_
            intro a V hC hdep hoth
            have x3 : a.tmps[20]?.getD undef = .iface 292 (.pointer (some ad)) := slot_of (hdep _ 20 (Array.mem_of_getElem? (i := 0) rfl) rfl rfl)
            exact goodRun.val (c := .iface 292 (.pointer (some ad))) (by clear hdep hoth; go_simp) hC rfl
        | n + 4, ho => simp at ho
      · intro vals V hC hS
        have v3 : vals 3 = .iface 292 (.pointer (some ad)) := hS 3 (by decide)
        have HCC : Hid (Below W1.heap.size W1 V) := hC
        clear hS hC
        simp only [fill, dstOf]
        go_simp
        go_wp2
        go_ret
        exact ⟨by rw [HE2.out, HE.out]; rfl, HN1.out.bel.trans (HCC.out.mono HN1.out.bel.size), fun h => absurd h (by rw [HE2.out]; exact HZ.out)⟩

  · have HE1 : Hid (entErr a e = nameErr a e.name) := by show _ = _; unfold entErr; rw [if_pos hE]
    have HB1 : Hid (Below w0.heap.size w0 W1) := hb1
    have HNE : Hid (nameErr a e.name ≠ 0) := hE
    rw [errV_pos hE]
    clear hN1 hE hb1 H hkp1
    go_wp2
    go_ret
    exact ⟨by rw [HE1.out, errV_pos HNE.out]; rfl, HB1.out, fun h => absurd h (by rw [HE1.out]; exact HNE.out)⟩
end Go.Proofs.YtkphpgdgbnmnjacGreatDoor
