/-
  The rules of an entity's parts (conf.partRules), the first eight, by contracts. Condition: its lists lie in memory.
-/
import Derived.Test.YtbholbenjalliaaGreatDoorSzX
namespace Go.Proofs.YtbholbenjalliaaGreatDoor
open Go.RowKit Go.Extern.Stop Go.Stop Go.Extern

theorem slat1 (w : World) (a : Int) (t : TypeId) : SlAt encI 1 (w.alloc (.cells #[.int .i64 a] t)) (.slice (some ⟨w.heap.size, 0, none⟩) 1 1) [a] := by
  refine ⟨_, _, rfl, Nat.le_refl _, fun _ => ⟨_, _, rfl, fun i x hx j u hu => ?_⟩⟩
  match i, hx with
  | 0, hx =>
    cases hx
    match j, hu with
    | 0, hu => cases hu; simp
    | j + 1, hu => cases hu
  | i + 1, hx => cases hx
theorem slat2 (w : World) (a b : Int) (t : TypeId) : SlAt encI 1 (w.alloc (.cells #[.int .i64 a, .int .i64 b] t)) (.slice (some ⟨w.heap.size, 0, none⟩) 2 2) [a, b] := by
  refine ⟨_, _, rfl, Nat.le_refl _, fun _ => ⟨_, _, rfl, fun i x hx j u hu => ?_⟩⟩
  match i, hx with
  | 0, hx =>
    cases hx
    match j, hu with
    | 0, hu => cases hu; simp
    | j + 1, hu => cases hu
  | 1, hx =>
    cases hx
    match j, hu with
    | 0, hu => cases hu; simp
    | j + 1, hu => cases hu
  | i + 2, hx => cases hx
theorem slat1b (w : World) (o : Obj) (a : Int) (t : TypeId) : SlAt encI 1 ((w.alloc o).alloc (.cells #[.int .i64 a] t)) (.slice (some ⟨w.heap.size + 1, 0, none⟩) 1 1) [a] := by
  rw [show w.heap.size + 1 = (w.alloc o).heap.size by simp]
  exact slat1 _ a t
theorem slat2b (w : World) (o : Obj) (a b : Int) (t : TypeId) : SlAt encI 1 ((w.alloc o).alloc (.cells #[.int .i64 a, .int .i64 b] t)) (.slice (some ⟨w.heap.size + 1, 0, none⟩) 2 2) [a, b] := by
  rw [show w.heap.size + 1 = (w.alloc o).heap.size by simp]
  exact slat2 _ a b t
/-- An entity in a block of its own. -/
def BoxAt (W : World) (B : Nat) (row : Array Value) : Prop := ∀ j v, row[j]? = some v → W.cell? ⟨B, j, none⟩ = some v
theorem BoxAt.below {W W' : World} {B : Nat} {row : Array Value} (h : BoxAt W B row) (hb : Below W.heap.size W W') : BoxAt W' B row := fun j v e => cell_below hb (h j v e)
theorem BoxAt.new (w : World) (row : Array Value) (t : TypeId) : BoxAt (w.alloc (.cells row t)) w.heap.size row := fun j v e => by rw [World.cell?_alloc_at _ _ _ _ rfl]; exact e
set_option maxHeartbeats 400000 in
theorem part1_at (nm : ByteArray) (tol cnt mn mx : Int) (pa ga ea fa la : Option Addr) (pn pc gn gc en ec fn fc ln lc : Nat)  (w : World) : Calls Tryz.prog 84 #[.agg #[.string nm, .int .i64 tol, .slice pa pn pc, .int .i64 cnt, .int .i64 mn, .int .i64 mx, .slice ga gn gc, .slice ea en ec, .slice fa fn fc, .slice la ln lc]] w fun e w' => e = .returned (.bool (decide (cnt ≠ -1) && lacks pn cnt)) ∧ Below w.heap.size w w' := by
  by_cases h : cnt = -1
  · subst h
    go_enter Tryz.func84, Tryz.ntmps84
    go_wp2
    go_ret
    exact ⟨rfl, Below.one _ _⟩
  · have hd : (cnt == -1) = false := by simpa using h
    have hd2 : (cnt != -1) = true := by simpa using h
    have H := lacks_at nm tol cnt mn mx pa ga ea fa la pn pc gn gc en ec fn fc ln lc _ [cnt] _ (slat1b w (.cells #[.string nm, .int .i64 tol, .slice pa pn pc, .int .i64 cnt, .int .i64 mn, .int .i64 mx, .slice ga gn gc, .slice ea en ec, .slice fa fn fc, .slice la ln lc] 52) cnt 3) (by simp)
    simp only [List.any_cons, List.any_nil, Bool.or_false] at H
    have HH : Hid _ := H
    have hr : (decide (cnt ≠ -1) && lacks pn cnt) = lacks pn cnt := by simp [h]
    rw [hr]
    have HD : Hid (cnt ≠ -1) := h
    clear H h hr
    go_enter Tryz.func84, Tryz.ntmps84
    go_wp2_with fail
    refine Calls.mono HH.out ?_
    rintro e w' ⟨rfl, hb⟩
    go_wp2
    go_ret
    exact ⟨rfl, ((Below.one _ _).alloc (by simp) _).trans (hb.mono (by simp; omega))⟩
set_option maxHeartbeats 1000000 in
theorem part21_at (nm : ByteArray) (tol cnt mn mx : Int) (pa ga ea fa la : Option Addr) (pn pc gn gc en ec fn fc ln lc : Nat) (x : GapD) (B : Nat) (W : World) (hB : BoxAt W B #[.string nm, .int .i64 tol, .slice pa pn pc, .int .i64 cnt, .int .i64 mn, .int .i64 mx, .slice ga gn gc, .slice ea en ec, .slice fa fn fc, .slice la ln lc]) : Calls Tryz.prog 88 #[.agg #[.int .i64 x.fr, .int .i64 x.to, .int .i64 x.mn, .int .i64 x.mx], .pointer (some ⟨B, 0, none⟩)] W fun e w' => e = .returned (.bool (lacks pn x.fr || lacks pn x.to)) ∧ Below W.heap.size W w' := by
  have b0 : ∀ o, (W.alloc o).cell? ⟨B, 0, none⟩ = some (.string nm) := fun o => cell_below (Below.one _ _) (hB 0 _ rfl)
  have b1 : ∀ o, (W.alloc o).cell? ⟨B, 1, none⟩ = some (.int .i64 tol) := fun o => cell_below (Below.one _ _) (hB 1 _ rfl)
  have b2 : ∀ o, (W.alloc o).cell? ⟨B, 2, none⟩ = some (.slice pa pn pc) := fun o => cell_below (Below.one _ _) (hB 2 _ rfl)
  have b3 : ∀ o, (W.alloc o).cell? ⟨B, 3, none⟩ = some (.int .i64 cnt) := fun o => cell_below (Below.one _ _) (hB 3 _ rfl)
  have b4 : ∀ o, (W.alloc o).cell? ⟨B, 4, none⟩ = some (.int .i64 mn) := fun o => cell_below (Below.one _ _) (hB 4 _ rfl)
  have b5 : ∀ o, (W.alloc o).cell? ⟨B, 5, none⟩ = some (.int .i64 mx) := fun o => cell_below (Below.one _ _) (hB 5 _ rfl)
  have b6 : ∀ o, (W.alloc o).cell? ⟨B, 6, none⟩ = some (.slice ga gn gc) := fun o => cell_below (Below.one _ _) (hB 6 _ rfl)
  have b7 : ∀ o, (W.alloc o).cell? ⟨B, 7, none⟩ = some (.slice ea en ec) := fun o => cell_below (Below.one _ _) (hB 7 _ rfl)
  have b8 : ∀ o, (W.alloc o).cell? ⟨B, 8, none⟩ = some (.slice fa fn fc) := fun o => cell_below (Below.one _ _) (hB 8 _ rfl)
  have b9 : ∀ o, (W.alloc o).cell? ⟨B, 9, none⟩ = some (.slice la ln lc) := fun o => cell_below (Below.one _ _) (hB 9 _ rfl)
  have H := lacks_at nm tol cnt mn mx pa ga ea fa la pn pc gn gc en ec fn fc ln lc _ [x.fr, x.to] _ (slat2b W (.cells #[.int .i64 x.fr, .int .i64 x.to, .int .i64 x.mn, .int .i64 x.mx] 78) (x.fr) (x.to) 3) (by simp)
  simp only [List.any_cons, List.any_nil, Bool.or_false] at H
  have HH : Hid _ := H
  clear H hB
  go_enter Tryz.func88, Tryz.ntmps88
  go_wp2_with fail
  refine Calls.mono HH.out ?_
  rintro e w' ⟨rfl, hb⟩
  go_wp2
  go_ret
  exact ⟨rfl, ((Below.one _ _).alloc (by simp) _).trans (hb.mono (by simp; omega))⟩
set_option maxHeartbeats 1000000 in
theorem part31_at (nm : ByteArray) (tol cnt mn mx : Int) (pa ga ea fa la : Option Addr) (pn pc gn gc en ec fn fc ln lc : Nat) (x : (Int × Int)) (B : Nat) (W : World) (hB : BoxAt W B #[.string nm, .int .i64 tol, .slice pa pn pc, .int .i64 cnt, .int .i64 mn, .int .i64 mx, .slice ga gn gc, .slice ea en ec, .slice fa fn fc, .slice la ln lc]) : Calls Tryz.prog 91 #[.agg #[.int .i64 x.1, .int .i64 x.2], .pointer (some ⟨B, 0, none⟩)] W fun e w' => e = .returned (.bool (lacks pn x.1 || lacks pn x.2)) ∧ Below W.heap.size W w' := by
  have b0 : ∀ o, (W.alloc o).cell? ⟨B, 0, none⟩ = some (.string nm) := fun o => cell_below (Below.one _ _) (hB 0 _ rfl)
  have b1 : ∀ o, (W.alloc o).cell? ⟨B, 1, none⟩ = some (.int .i64 tol) := fun o => cell_below (Below.one _ _) (hB 1 _ rfl)
  have b2 : ∀ o, (W.alloc o).cell? ⟨B, 2, none⟩ = some (.slice pa pn pc) := fun o => cell_below (Below.one _ _) (hB 2 _ rfl)
  have b3 : ∀ o, (W.alloc o).cell? ⟨B, 3, none⟩ = some (.int .i64 cnt) := fun o => cell_below (Below.one _ _) (hB 3 _ rfl)
  have b4 : ∀ o, (W.alloc o).cell? ⟨B, 4, none⟩ = some (.int .i64 mn) := fun o => cell_below (Below.one _ _) (hB 4 _ rfl)
  have b5 : ∀ o, (W.alloc o).cell? ⟨B, 5, none⟩ = some (.int .i64 mx) := fun o => cell_below (Below.one _ _) (hB 5 _ rfl)
  have b6 : ∀ o, (W.alloc o).cell? ⟨B, 6, none⟩ = some (.slice ga gn gc) := fun o => cell_below (Below.one _ _) (hB 6 _ rfl)
  have b7 : ∀ o, (W.alloc o).cell? ⟨B, 7, none⟩ = some (.slice ea en ec) := fun o => cell_below (Below.one _ _) (hB 7 _ rfl)
  have b8 : ∀ o, (W.alloc o).cell? ⟨B, 8, none⟩ = some (.slice fa fn fc) := fun o => cell_below (Below.one _ _) (hB 8 _ rfl)
  have b9 : ∀ o, (W.alloc o).cell? ⟨B, 9, none⟩ = some (.slice la ln lc) := fun o => cell_below (Below.one _ _) (hB 9 _ rfl)
  have H := lacks_at nm tol cnt mn mx pa ga ea fa la pn pc gn gc en ec fn fc ln lc _ [x.1, x.2] _ (slat2b W (.cells #[.int .i64 x.1, .int .i64 x.2] 79) (x.1) (x.2) 3) (by simp)
  simp only [List.any_cons, List.any_nil, Bool.or_false] at H
  have HH : Hid _ := H
  clear H hB
  go_enter Tryz.func91, Tryz.ntmps91
  go_wp2_with fail
  refine Calls.mono HH.out ?_
  rintro e w' ⟨rfl, hb⟩
  go_wp2
  go_ret
  exact ⟨rfl, ((Below.one _ _).alloc (by simp) _).trans (hb.mono (by simp; omega))⟩
set_option maxHeartbeats 400000 in
theorem part2_at (nm : ByteArray) (tol cnt mn mx : Int) (pa ga ea fa la : Option Addr) (pn pc gn gc en ec fn fc ln lc : Nat) (xs : List GapD) (w : World) (hv : SlAt encG 4 w (.slice ga gn gc) xs) (hn : xs.length ≤ 1000000) : Calls Tryz.prog 86 #[.agg #[.string nm, .int .i64 tol, .slice pa pn pc, .int .i64 cnt, .int .i64 mn, .int .i64 mx, .slice ga gn gc, .slice ea en ec, .slice fa fn fc, .slice la ln lc]] w fun e w' => e = .returned (.bool (xs.any fun x => lacks pn x.fr || lacks pn x.to)) ∧ Below w.heap.size w w' := by
  have H := any_gap _ xs (fun x => lacks pn x.fr || lacks pn x.to) 88 #[.pointer (some ⟨w.heap.size, 0, none⟩)] _ (hv.below (Below.one w (.cells #[.string nm, .int .i64 tol, .slice pa pn pc, .int .i64 cnt, .int .i64 mn, .int .i64 mx, .slice ga gn gc, .slice ea en ec, .slice fa fn fc, .slice la ln lc] 52))) hn (enters_of Tryz.func88 (by kernel_rfl) rfl) (fun W hb x _ => part21_at nm tol cnt mn mx pa ga ea fa la pn pc gn gc en ec fn fc ln lc x w.heap.size W ((BoxAt.new w _ _).below hb))
  have HH : Hid _ := H
  clear H hv hn
  go_enter Tryz.func86, Tryz.ntmps86
  go_wp2_with fail
  refine Calls.mono HH.out ?_
  rintro e w' ⟨rfl, hb⟩
  go_wp2
  go_ret
  exact ⟨rfl, (Below.one _ _).trans (hb.mono (by simp))⟩
set_option maxHeartbeats 400000 in
theorem part3_at (nm : ByteArray) (tol cnt mn mx : Int) (pa ga ea fa la : Option Addr) (pn pc gn gc en ec fn fc ln lc : Nat) (xs : List (Int × Int)) (w : World) (hv : SlAt encP 2 w (.slice ea en ec) xs) (hn : xs.length ≤ 1000000) : Calls Tryz.prog 89 #[.agg #[.string nm, .int .i64 tol, .slice pa pn pc, .int .i64 cnt, .int .i64 mn, .int .i64 mx, .slice ga gn gc, .slice ea en ec, .slice fa fn fc, .slice la ln lc]] w fun e w' => e = .returned (.bool (xs.any fun x => lacks pn x.1 || lacks pn x.2)) ∧ Below w.heap.size w w' := by
  have H := any_pair _ xs (fun x => lacks pn x.1 || lacks pn x.2) 91 #[.pointer (some ⟨w.heap.size, 0, none⟩)] _ (hv.below (Below.one w (.cells #[.string nm, .int .i64 tol, .slice pa pn pc, .int .i64 cnt, .int .i64 mn, .int .i64 mx, .slice ga gn gc, .slice ea en ec, .slice fa fn fc, .slice la ln lc] 52))) hn (enters_of Tryz.func91 (by kernel_rfl) rfl) (fun W hb x _ => part31_at nm tol cnt mn mx pa ga ea fa la pn pc gn gc en ec fn fc ln lc x w.heap.size W ((BoxAt.new w _ _).below hb))
  have HH : Hid _ := H
  clear H hv hn
  go_enter Tryz.func89, Tryz.ntmps89
  go_wp2_with fail
  refine Calls.mono HH.out ?_
  rintro e w' ⟨rfl, hb⟩
  go_wp2
  go_ret
  exact ⟨rfl, (Below.one _ _).trans (hb.mono (by simp))⟩
set_option maxHeartbeats 400000 in
theorem part4_at (nm : ByteArray) (tol cnt mn mx : Int) (pa ga ea fa la : Option Addr) (pn pc gn gc en ec fn fc ln lc : Nat) (xs : List Int) (w : World) (hv : SlAt encI 1 w (.slice fa fn fc) xs) (hn : xs.length ≤ 1000000) : Calls Tryz.prog 92 #[.agg #[.string nm, .int .i64 tol, .slice pa pn pc, .int .i64 cnt, .int .i64 mn, .int .i64 mx, .slice ga gn gc, .slice ea en ec, .slice fa fn fc, .slice la ln lc]] w fun e w' => e = .returned (.bool (xs.any fun x => lacks pn x)) ∧ Below w.heap.size w w' := by
  have H := lacks_at nm tol cnt mn mx pa ga ea fa la pn pc gn gc en ec fn fc ln lc _ xs _ (hv.below (Below.one w (.cells #[.string nm, .int .i64 tol, .slice pa pn pc, .int .i64 cnt, .int .i64 mn, .int .i64 mx, .slice ga gn gc, .slice ea en ec, .slice fa fn fc, .slice la ln lc] 52))) hn
  have HH : Hid _ := H
  clear H hv hn
  go_enter Tryz.func92, Tryz.ntmps92
  go_wp2_with fail
  refine Calls.mono HH.out ?_
  rintro e w' ⟨rfl, hb⟩
  go_wp2
  go_ret
  exact ⟨rfl, (Below.one _ _).trans (hb.mono (by simp))⟩
set_option maxHeartbeats 400000 in
theorem part5_at (nm : ByteArray) (tol cnt mn mx : Int) (pa ga ea fa la : Option Addr) (pn pc gn gc en ec fn fc ln lc : Nat) (xs : List Int) (w : World) (hv : SlAt encI 1 w (.slice la ln lc) xs) (hn : xs.length ≤ 1000000) : Calls Tryz.prog 93 #[.agg #[.string nm, .int .i64 tol, .slice pa pn pc, .int .i64 cnt, .int .i64 mn, .int .i64 mx, .slice ga gn gc, .slice ea en ec, .slice fa fn fc, .slice la ln lc]] w fun e w' => e = .returned (.bool (xs.any fun x => lacks pn x)) ∧ Below w.heap.size w w' := by
  have H := lacks_at nm tol cnt mn mx pa ga ea fa la pn pc gn gc en ec fn fc ln lc _ xs _ (hv.below (Below.one w (.cells #[.string nm, .int .i64 tol, .slice pa pn pc, .int .i64 cnt, .int .i64 mn, .int .i64 mx, .slice ga gn gc, .slice ea en ec, .slice fa fn fc, .slice la ln lc] 52))) hn
  have HH : Hid _ := H
  clear H hv hn
  go_enter Tryz.func93, Tryz.ntmps93
  go_wp2_with fail
  refine Calls.mono HH.out ?_
  rintro e w' ⟨rfl, hb⟩
  go_wp2
  go_ret
  exact ⟨rfl, (Below.one _ _).trans (hb.mono (by simp))⟩
set_option maxHeartbeats 400000 in
theorem part6_at (nm : ByteArray) (tol cnt mn mx : Int) (pa ga ea fa la : Option Addr) (pn pc gn gc en ec fn fc ln lc : Nat)  (w : World) : Calls Tryz.prog 94 #[.agg #[.string nm, .int .i64 tol, .slice pa pn pc, .int .i64 cnt, .int .i64 mn, .int .i64 mx, .slice ga gn gc, .slice ea en ec, .slice fa fn fc, .slice la ln lc]] w fun e w' => e = .returned (.bool (decide (cnt = -1) && (decide (mn ≠ 0) || decide (mx ≠ 0)))) ∧ Below w.heap.size w w' := by
  by_cases h : cnt = -1
  · subst h
    by_cases h1 : mn = 0
    · subst h1
      by_cases h2 : mx = 0
      · subst h2
        go_enter Tryz.func94, Tryz.ntmps94
        go_wp2
        go_ret
        exact ⟨rfl, Below.one _ _⟩
      · have hd : (mx != 0) = true := by simpa using h2
        rw [show (decide ((-1 : Int) = -1) && (decide ((0 : Int) ≠ 0) || decide (mx ≠ 0))) = true by simp [h2]]
        clear h2
        go_enter Tryz.func94, Tryz.ntmps94
        go_wp2
        go_ret
        exact ⟨rfl, Below.one _ _⟩
    · have hd : (mn != 0) = true := by simpa using h1
      rw [show (decide ((-1 : Int) = -1) && (decide (mn ≠ 0) || decide (mx ≠ 0))) = true by simp [h1]]
      clear h1
      go_enter Tryz.func94, Tryz.ntmps94
      go_wp2
      go_ret
      exact ⟨rfl, Below.one _ _⟩
  · have hd : (cnt == -1) = false := by simpa using h
    rw [show (decide (cnt = -1) && (decide (mn ≠ 0) || decide (mx ≠ 0))) = false by simp [h]]
    clear h
    go_enter Tryz.func94, Tryz.ntmps94
    go_wp2
    go_ret
    exact ⟨rfl, Below.one _ _⟩
theorem cell_at1 (w : World) (o : Obj) (row : Array Value) (t : TypeId) (j : Nat) (v : Value) (h : row[j]? = some v) : ((w.alloc o).alloc (.cells row t)).cell? ⟨w.heap.size + 1, j, none⟩ = some v := by
  rw [show w.heap.size + 1 = (w.alloc o).heap.size by simp, World.cell?_alloc_at _ _ _ _ rfl]
  exact h
set_option maxHeartbeats 400000 in
theorem part7_at (nm : ByteArray) (tol cnt mn mx : Int) (pa ga ea fa la : Option Addr) (pn pc gn gc en ec fn fc ln lc : Nat) (w : World) : Calls Tryz.prog 95 #[.agg #[.string nm, .int .i64 tol, .slice pa pn pc, .int .i64 cnt, .int .i64 mn, .int .i64 mx, .slice ga gn gc, .slice ea en ec, .slice fa fn fc, .slice la ln lc]] w fun e w' => e = .returned (.bool (!rise 0 mn mx 999)) ∧ Below w.heap.size w w' := by
  have H := rise_at 0 mn mx 999 (w.heap.size + 1) 4 ((w.alloc (.cells #[.string nm, .int .i64 tol, .slice pa pn pc, .int .i64 cnt, .int .i64 mn, .int .i64 mx, .slice ga gn gc, .slice ea en ec, .slice fa fn fc, .slice la ln lc] 52)).alloc (.cells #[.int .i64 0, .int .i64 mn, .int .i64 mx, .int .i64 999] 3)) (cell_at1 w _ _ _ 0 _ rfl) (cell_at1 w _ _ _ 1 _ rfl) (cell_at1 w _ _ _ 2 _ rfl) (cell_at1 w _ _ _ 3 _ rfl)
  have HH : Hid _ := H
  clear H
  go_enter Tryz.func95, Tryz.ntmps95
  go_wp2_with fail
  refine Calls.mono HH.out ?_
  rintro e w' ⟨rfl, hb⟩
  go_wp2
  go_ret
  exact ⟨rfl, ((Below.one _ _).alloc (by simp) _).trans (hb.mono (by simp; omega))⟩
set_option maxHeartbeats 400000 in
theorem part81_at (x : GapD) (w : World) : Calls Tryz.prog 98 #[.agg #[.int .i64 x.fr, .int .i64 x.to, .int .i64 x.mn, .int .i64 x.mx]] w fun e w' => e = .returned (.bool (!rise 0 x.mn x.mx 1099511627776)) ∧ Below w.heap.size w w' := by
  have H := rise_at 0 x.mn x.mx 1099511627776 (w.heap.size + 1) 4 ((w.alloc (.cells #[.int .i64 x.fr, .int .i64 x.to, .int .i64 x.mn, .int .i64 x.mx] 78)).alloc (.cells #[.int .i64 0, .int .i64 x.mn, .int .i64 x.mx, .int .i64 1099511627776] 3)) (cell_at1 w _ _ _ 0 _ rfl) (cell_at1 w _ _ _ 1 _ rfl) (cell_at1 w _ _ _ 2 _ rfl) (cell_at1 w _ _ _ 3 _ rfl)
  have HH : Hid _ := H
  clear H
  go_enter Tryz.func98, Tryz.ntmps98
  go_wp2_with fail
  refine Calls.mono HH.out ?_
  rintro e w' ⟨rfl, hb⟩
  go_wp2
  go_ret
  exact ⟨rfl, ((Below.one _ _).alloc (by simp) _).trans (hb.mono (by simp; omega))⟩
set_option maxHeartbeats 400000 in
theorem part8_at (nm : ByteArray) (tol cnt mn mx : Int) (pa ga ea fa la : Option Addr) (pn pc gn gc en ec fn fc ln lc : Nat) (xs : List GapD) (w : World) (hv : SlAt encG 4 w (.slice ga gn gc) xs) (hn : xs.length ≤ 1000000) : Calls Tryz.prog 97 #[.agg #[.string nm, .int .i64 tol, .slice pa pn pc, .int .i64 cnt, .int .i64 mn, .int .i64 mx, .slice ga gn gc, .slice ea en ec, .slice fa fn fc, .slice la ln lc]] w fun e w' => e = .returned (.bool (xs.any fun x => !rise 0 x.mn x.mx 1099511627776)) ∧ Below w.heap.size w w' := by
  have H := any_gap _ xs (fun x => !rise 0 x.mn x.mx 1099511627776) 98 #[] _ (hv.below (Below.one w (.cells #[.string nm, .int .i64 tol, .slice pa pn pc, .int .i64 cnt, .int .i64 mn, .int .i64 mx, .slice ga gn gc, .slice ea en ec, .slice fa fn fc, .slice la ln lc] 52))) hn (enters_of Tryz.func98 (by kernel_rfl) rfl) (fun W _ x _ => part81_at x W)
  have HH : Hid _ := H
  clear H hv hn
  go_enter Tryz.func97, Tryz.ntmps97
  go_wp2_with fail
  refine Calls.mono HH.out ?_
  rintro e w' ⟨rfl, hb⟩
  go_wp2
  go_ret
  exact ⟨rfl, (Below.one _ _).trans (hb.mono (by simp))⟩
end Go.Proofs.YtbholbenjalliaaGreatDoor
