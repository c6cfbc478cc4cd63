/-
  Several texts as one: CfTwo, CfSize, CfPart1.
-/
import Derived.Test.YtkphpgdgbnmnjacGreatDoorB23C
import Derived.Deep.RegionHeld3
namespace Go.Proofs.YtkphpgdgbnmnjacGreatDoor
open Go.RowKit Go.Extern.Stop Go.Stop Go.Extern

theorem below_drew {B : Nat} {w w' : World} (h : Below B w w') : Below B w w'.drew := below_drewN h 1

set_option maxHeartbeats 2000000 in
theorem twice_int (v : Value) (xs : List Int) (w : World) (hv : SlAt encI 1 w v xs) (hn : xs.length ≤ 1000000) :
    Calls Tryz.prog 195 #[v] w fun e w' => e = .returned (.bool (twice xs)) ∧ Below w.heap.size w w' := by
  have HV : Hid (SlAt encI 1 w v xs) := hv
  obtain ⟨sa, cap, rfl, hcap0, hcell⟩ := hv
  have HC : Hid (xs ≠ [] → ∃ b o, sa = some ⟨b, o, none⟩ ∧ ∀ (i : Nat) x, xs[i]? = some x → ∀ (j : Nat) u, (encI x)[j]? = some u → w.cell? ⟨b, o + i * 1 + j, none⟩ = some u) := hcell
  have HL : Hid (xs.length ≤ 1000000) := hn
  have HCap : Hid (xs.length ≤ cap) := hcap0
  clear hcell hn hcap0
  go_enter Tryz.func195, Tryz.ntmps195
  go_wp2_with fail
  go_loopw [3, 4, 7] (fun _ _ i wr => ∃ k : Nat, k ≤ xs.length ∧ i = .int .i64 k ∧ Below w.heap.size w wr ∧ Hid (∀ (i : Nat) (y : Int), i < k → xs[i]? = some y → (xs.take i).any (fun z => decide (y = z)) = false)) (fun _ _ i _ => xs.length - (intOf i).toNat)
  case atStart => exact ⟨0, Nat.zero_le _, rfl, Below.refl _ _, fun i b hi => absurd hi (Nat.not_lt_zero _)⟩
  case round =>
    obtain ⟨k, hk, rfl, hbw, hall⟩ := hrel
    by_cases hlt : k < xs.length
    · obtain ⟨x, hx⟩ : ∃ x, xs[k]? = some x := ⟨_, List.getElem?_eq_getElem hlt⟩
      obtain ⟨b, o, rfl, hc0⟩ := HC.out (fun e => by subst e; simp at hx)
      have hc : ∀ (i : Nat) x, xs[i]? = some x → ∀ (j : Nat) u, (encI x)[j]? = some u → wr.cell? ⟨b, o + i * 1 + j, none⟩ = some u := fun i x h j u hu => cell_below hbw (hc0 i x h j u hu)
      have c0 := hc k x hx 0 _ rfl
      simp only [Nat.mul_one, Nat.add_zero] at c0
      have HX : Hid (xs[k]? = some x) := hx
      have HT : Hid (∀ W, Below wr.heap.size wr W → Calls Tryz.prog 206 #[.slice (some ⟨b, o, none⟩) k cap, .int .i64 x] W fun e W' => e = .returned (.bool ((xs.take k).any (fun z => decide (x = z)))) ∧ Below W.heap.size W W') := fun W hW =>
        contains_int _ (xs.take k) x W (((HV.out.below hbw).below hW).take k (by omega) cap (by have := HCap.out; omega)) (by have := HL.out; simp; omega)
      have k1 : (k : Int) < (xs.length : Int) := by omega
      have k2 : (0 : Int) ≤ (k : Int) := by omega
      have k3 : Hid (xs.length ≤ 1000000) := HL.out
      have k0 : k < 1000000 := by have := HL.out; omega
      have HB : Hid (Below w.heap.size w wr) := hbw
      have hcap : k ≤ cap := by have := HCap.out; omega
      clear hx hc0 hc HC hbw HV
      cases hpx : (xs.take k).any (fun z => decide (x = z)) with
      | true =>
        have hct := HT.out
        rw [hpx] at hct
        have HCt : Hid _ := hct
        have HPX : Hid (twice xs = true) := twice_hit xs k x HX.out hpx
        clear hct hpx HT
        go_wp2_with fail
        refine Calls.mono (HCt.out _ (Below.refl _ _)) ?_
        rintro e W' ⟨rfl, hb'⟩
        go_wp2
        go_ret
        exact ⟨by rw [HPX.out]; rfl, HB.out.trans (hb'.mono HB.out.size)⟩
      | false =>
        have hct := HT.out
        rw [hpx] at hct
        have HCt : Hid _ := hct
        have HPX : Hid ((xs.take k).any (fun z => decide (x = z)) = false) := hpx
        clear hct hpx HT
        go_wp2_with fail
        refine Calls.mono (HCt.out _ (Below.refl _ _)) ?_
        rintro e W' ⟨rfl, hb'⟩
        have HW : Hid (Below w.heap.size w W') := HB.out.trans (hb'.mono HB.out.size)
        clear hb'
        go_wp2
        go_roundw
        case rel =>
          refine ⟨k + 1, by omega, by go_num, HW.out, fun i y hi e => ?_⟩
          by_cases hik : i = k
          · subst hik
            have h2 := HX.out
            rw [h2] at e
            cases e
            exact HPX.out
          · exact hall.out i y (by omega) e
        case measure => simp [intOf]; omega
    · have k1 : ¬ (k : Int) < (xs.length : Int) := by omega
      have HN : Hid (twice xs = false) := twice_none xs (fun i x e => hall.out i x (by have := (List.getElem?_eq_some_iff.1 e).1; omega) e)
      clear HC HV
      go_wp2
      go_ret
      exact ⟨by rw [HN.out]; rfl, hbw⟩

set_option maxHeartbeats 2000000 in
theorem twice_pair (v : Value) (xs : List (Int × Int)) (w : World) (hv : SlAt encP 2 w v xs) (hn : xs.length ≤ 1000000) :
    Calls Tryz.prog 193 #[v] w fun e w' => e = .returned (.bool (twice xs)) ∧ Below w.heap.size w w' := by
  have HV : Hid (SlAt encP 2 w v xs) := hv
  obtain ⟨sa, cap, rfl, hcap0, hcell⟩ := hv
  have HC : Hid (xs ≠ [] → ∃ b o, sa = some ⟨b, o, none⟩ ∧ ∀ (i : Nat) x, xs[i]? = some x → ∀ (j : Nat) u, (encP x)[j]? = some u → w.cell? ⟨b, o + i * 2 + j, none⟩ = some u) := hcell
  have HL : Hid (xs.length ≤ 1000000) := hn
  have HCap : Hid (xs.length ≤ cap) := hcap0
  clear hcell hn hcap0
  go_enter Tryz.func193, Tryz.ntmps193
  go_wp2_with fail
  go_loopw [3, 4, 7] (fun _ _ i wr => ∃ k : Nat, k ≤ xs.length ∧ i = .int .i64 k ∧ Below w.heap.size w wr ∧ Hid (∀ (i : Nat) (y : (Int × Int)), i < k → xs[i]? = some y → (xs.take i).any (fun z => decide (y = z)) = false)) (fun _ _ i _ => xs.length - (intOf i).toNat)
  case atStart => exact ⟨0, Nat.zero_le _, rfl, Below.refl _ _, fun i b hi => absurd hi (Nat.not_lt_zero _)⟩
  case round =>
    obtain ⟨k, hk, rfl, hbw, hall⟩ := hrel
    by_cases hlt : k < xs.length
    · obtain ⟨x, hx⟩ : ∃ x, xs[k]? = some x := ⟨_, List.getElem?_eq_getElem hlt⟩
      obtain ⟨b, o, rfl, hc0⟩ := HC.out (fun e => by subst e; simp at hx)
      have hc : ∀ (i : Nat) x, xs[i]? = some x → ∀ (j : Nat) u, (encP x)[j]? = some u → wr.cell? ⟨b, o + i * 2 + j, none⟩ = some u := fun i x h j u hu => cell_below hbw (hc0 i x h j u hu)
      have c0 := hc k x hx 0 _ rfl
      have c1 := hc k x hx 1 _ rfl
      simp only [Nat.add_zero] at c0
      have HX : Hid (xs[k]? = some x) := hx
      have HT : Hid (∀ W, Below wr.heap.size wr W → Calls Tryz.prog 219 #[.slice (some ⟨b, o, none⟩) k cap, .agg #[.int .i64 x.1, .int .i64 x.2]] W fun e W' => e = .returned (.bool ((xs.take k).any (fun z => decide (x = z)))) ∧ Below W.heap.size W W') := fun W hW =>
        contains_pair _ (xs.take k) x W (((HV.out.below hbw).below hW).take k (by omega) cap (by have := HCap.out; omega)) (by have := HL.out; simp; omega)
      have k1 : (k : Int) < (xs.length : Int) := by omega
      have k2 : (0 : Int) ≤ (k : Int) := by omega
      have k3 : Hid (xs.length ≤ 1000000) := HL.out
      have k0 : k < 1000000 := by have := HL.out; omega
      have HB : Hid (Below w.heap.size w wr) := hbw
      have hcap : k ≤ cap := by have := HCap.out; omega
      clear hx hc0 hc HC hbw HV
      cases hpx : (xs.take k).any (fun z => decide (x = z)) with
      | true =>
        have hct := HT.out
        rw [hpx] at hct
        have HCt : Hid _ := hct
        have HPX : Hid (twice xs = true) := twice_hit xs k x HX.out hpx
        clear hct hpx HT
        go_wp2_with fail
        have z0 : (wr.alloc (.cells #[.int .i64 x.1, .int .i64 x.2] 139)).drew.cell? ⟨wr.heap.size, 0, none⟩ = some (.int .i64 x.1) := by simp
        have z1 : (wr.alloc (.cells #[.int .i64 x.1, .int .i64 x.2] 139)).drew.cell? ⟨wr.heap.size, 1, none⟩ = some (.int .i64 x.2) := by simp
        go_region_held3 (fun w' => w'.cell? ⟨wr.heap.size, 0, none⟩ = some (.int .i64 x.1) ∧ w'.cell? ⟨wr.heap.size, 1, none⟩ = some (.int .i64 x.2)) (first | exact ⟨z0, z1⟩ | exact ⟨y0, y1⟩) (first | (go_at_call 219; refine Calls.mono (HCt.out _ (below_drew (Below.one _ _))) ?_; rintro e W' ⟨rfl, hb'⟩; have y0 := cell_below hb' z0; have y1 := cell_below hb' z1))
        go_wp2
        go_ret
        exact ⟨by rw [HPX.out]; rfl, HB.out.trans (((below_drew (Below.one _ _)).mono HB.out.size).trans (hb'.mono (by simp; have := HB.out.size; omega)))⟩
      | false =>
        have hct := HT.out
        rw [hpx] at hct
        have HCt : Hid _ := hct
        have HPX : Hid ((xs.take k).any (fun z => decide (x = z)) = false) := hpx
        clear hct hpx HT
        go_wp2_with fail
        have z0 : (wr.alloc (.cells #[.int .i64 x.1, .int .i64 x.2] 139)).drew.cell? ⟨wr.heap.size, 0, none⟩ = some (.int .i64 x.1) := by simp
        have z1 : (wr.alloc (.cells #[.int .i64 x.1, .int .i64 x.2] 139)).drew.cell? ⟨wr.heap.size, 1, none⟩ = some (.int .i64 x.2) := by simp
        go_region_held3 (fun w' => w'.cell? ⟨wr.heap.size, 0, none⟩ = some (.int .i64 x.1) ∧ w'.cell? ⟨wr.heap.size, 1, none⟩ = some (.int .i64 x.2)) (first | exact ⟨z0, z1⟩ | exact ⟨y0, y1⟩) (first | (go_at_call 219; refine Calls.mono (HCt.out _ (below_drew (Below.one _ _))) ?_; rintro e W' ⟨rfl, hb'⟩; have y0 := cell_below hb' z0; have y1 := cell_below hb' z1))
        have HW : Hid (Below w.heap.size w W') := HB.out.trans (((below_drew (Below.one _ _)).mono HB.out.size).trans (hb'.mono (by simp; have := HB.out.size; omega)))
        clear hb'
        go_wp2
        go_roundw
        case rel =>
          refine ⟨k + 1, by omega, by go_num, HW.out, fun i y hi e => ?_⟩
          by_cases hik : i = k
          · subst hik
            have h2 := HX.out
            rw [h2] at e
            cases e
            exact HPX.out
          · exact hall.out i y (by omega) e
        case measure => simp [intOf]; omega
    · have k1 : ¬ (k : Int) < (xs.length : Int) := by omega
      have HN : Hid (twice xs = false) := twice_none xs (fun i x e => hall.out i x (by have := (List.getElem?_eq_some_iff.1 e).1; omega) e)
      clear HC HV
      go_wp2
      go_ret
      exact ⟨by rw [HN.out]; rfl, hbw⟩
end Go.Proofs.YtkphpgdgbnmnjacGreatDoor

namespace Go.Proofs.YtkphpgdgbnmnjacGreatDoor
open Go.RowKit Go.Extern.Stop Go.Stop Go.Extern

set_option maxHeartbeats 400000 in
theorem size1_at (nm : ByteArray) (tol cnt mn mx : Int) (pa ga ea fa la : Option Addr) (pn pc gn gc en ec fn fc ln lc : Nat)  (w : World) : Calls Tryz.prog 171 #[.agg #[.string nm, .int .i64 tol, .slice pa pn pc, .int .i64 cnt, .int .i64 mn, .int .i64 mx, .slice ga gn gc, .slice ea en ec, .slice fa fn fc, .slice la ln lc]] w fun e w' => e = .returned (.bool (!within tol 0 20)) ∧ Below w.heap.size w w' := by
  go_enter Tryz.func171, Tryz.ntmps171
  go_wp2_with fail
  refine (within_at tol 0 20 _).mono ?_
  rintro e w' ⟨rfl, rfl⟩
  go_wp2
  go_ret
  exact ⟨rfl, Below.one _ _⟩
set_option maxHeartbeats 400000 in
theorem size2_at (nm : ByteArray) (tol cnt mn mx : Int) (pa ga ea fa la : Option Addr) (pn pc gn gc en ec fn fc ln lc : Nat)  (w : World) : Calls Tryz.prog 172 #[.agg #[.string nm, .int .i64 tol, .slice pa pn pc, .int .i64 cnt, .int .i64 mn, .int .i64 mx, .slice ga gn gc, .slice ea en ec, .slice fa fn fc, .slice la ln lc]] w fun e w' => e = .returned (.bool (decide (16 < pn))) ∧ Below w.heap.size w w' := by
  have hd : decide (16 < pn) = decide ((16 : Int) < (pn : Int)) := decide_eq_decide.2 (by omega)
  rw [hd]
  go_enter Tryz.func172, Tryz.ntmps172
  go_wp2
  go_ret
  exact ⟨rfl, Below.one _ _⟩
set_option maxHeartbeats 400000 in
theorem size3_at (nm : ByteArray) (tol cnt mn mx : Int) (pa ga ea fa la : Option Addr) (pn pc gn gc en ec fn fc ln lc : Nat)  (w : World) : Calls Tryz.prog 173 #[.agg #[.string nm, .int .i64 tol, .slice pa pn pc, .int .i64 cnt, .int .i64 mn, .int .i64 mx, .slice ga gn gc, .slice ea en ec, .slice fa fn fc, .slice la ln lc]] w fun e w' => e = .returned (.bool (decide (8 < gn))) ∧ Below w.heap.size w w' := by
  have hd : decide (8 < gn) = decide ((8 : Int) < (gn : Int)) := decide_eq_decide.2 (by omega)
  rw [hd]
  go_enter Tryz.func173, Tryz.ntmps173
  go_wp2
  go_ret
  exact ⟨rfl, Below.one _ _⟩
set_option maxHeartbeats 400000 in
theorem size4_at (nm : ByteArray) (tol cnt mn mx : Int) (pa ga ea fa la : Option Addr) (pn pc gn gc en ec fn fc ln lc : Nat)  (w : World) : Calls Tryz.prog 174 #[.agg #[.string nm, .int .i64 tol, .slice pa pn pc, .int .i64 cnt, .int .i64 mn, .int .i64 mx, .slice ga gn gc, .slice ea en ec, .slice fa fn fc, .slice la ln lc]] w fun e w' => e = .returned (.bool (decide (64 < en))) ∧ Below w.heap.size w w' := by
  have hd : decide (64 < en) = decide ((64 : Int) < (en : Int)) := decide_eq_decide.2 (by omega)
  rw [hd]
  go_enter Tryz.func174, Tryz.ntmps174
  go_wp2
  go_ret
  exact ⟨rfl, Below.one _ _⟩
set_option maxHeartbeats 400000 in
theorem size5_at (nm : ByteArray) (tol cnt mn mx : Int) (pa ga ea fa la : Option Addr) (pn pc gn gc en ec fn fc ln lc : Nat)  (w : World) : Calls Tryz.prog 175 #[.agg #[.string nm, .int .i64 tol, .slice pa pn pc, .int .i64 cnt, .int .i64 mn, .int .i64 mx, .slice ga gn gc, .slice ea en ec, .slice fa fn fc, .slice la ln lc]] w fun e w' => e = .returned (.bool (decide (16 < fn))) ∧ Below w.heap.size w w' := by
  have hd : decide (16 < fn) = decide ((16 : Int) < (fn : Int)) := decide_eq_decide.2 (by omega)
  rw [hd]
  go_enter Tryz.func175, Tryz.ntmps175
  go_wp2
  go_ret
  exact ⟨rfl, Below.one _ _⟩
set_option maxHeartbeats 400000 in
theorem size6_at (nm : ByteArray) (tol cnt mn mx : Int) (pa ga ea fa la : Option Addr) (pn pc gn gc en ec fn fc ln lc : Nat)  (w : World) : Calls Tryz.prog 176 #[.agg #[.string nm, .int .i64 tol, .slice pa pn pc, .int .i64 cnt, .int .i64 mn, .int .i64 mx, .slice ga gn gc, .slice ea en ec, .slice fa fn fc, .slice la ln lc]] w fun e w' => e = .returned (.bool (decide (16 < ln))) ∧ Below w.heap.size w w' := by
  have hd : decide (16 < ln) = decide ((16 : Int) < (ln : Int)) := decide_eq_decide.2 (by omega)
  rw [hd]
  go_enter Tryz.func176, Tryz.ntmps176
  go_wp2
  go_ret
  exact ⟨rfl, Below.one _ _⟩
def sizeRow (A : Nat → Addr) : Array Value := #[.iface 292 (.pointer (some (A 1))), .func (.func 171) #[] #[], .iface 292 (.pointer (some (A 1))), .func (.func 172) #[] #[], .iface 292 (.pointer (some (A 1))), .func (.func 173) #[] #[], .iface 292 (.pointer (some (A 1))), .func (.func 174) #[] #[], .iface 292 (.pointer (some (A 1))), .func (.func 175) #[] #[], .iface 292 (.pointer (some (A 1))), .func (.func 176) #[] #[]]
set_option maxHeartbeats 1000000 in
theorem sizeRules_at (A : Nat → Addr) (w : World) (hs : Sen5 A w) : Calls Tryz.prog 143 #[] w fun e w' => e = .returned (.slice (some ⟨w.heap.size, 0, none⟩) 6 6) ∧ w' = w.alloc (.cells (sizeRow A) 264) := by
  have c1 := hs.c1
  unfold sizeRow
  go_enter Tryz.func143, Tryz.ntmps143
  go_wp2
  go_ret
  exact ⟨rfl, rfl⟩
def sizeFns (i : Nat) : Nat := [171, 172, 173, 174, 175, 176].getD i 0
theorem size_rules (A : Nat → Addr) (e : EntD) (pa ga ea fa la : Option Addr) (pc gc ec fc lc : Nat) (r : Nat) (W : World) (hr : W.heap[r]? = some (.cells (sizeRow A) 264 (0, 0))) :
    RulesAt A W r (.agg (entRow e (.slice pa e.pts.length pc) (.slice ga e.gaps.length gc) (.slice ea e.edges.length ec) (.slice fa e.first.length fc) (.slice la e.last.length lc))) [(!within e.tol 0 20, 2), (decide (16 < e.pts.length), 2), (decide (8 < e.gaps.length), 2), (decide (64 < e.edges.length), 2), (decide (16 < e.first.length), 2), (decide (16 < e.last.length), 2)] sizeFns := by
  have hcell : ∀ j v, (sizeRow A)[j]? = some v → W.cell? ⟨r, j, none⟩ = some v := fun j v e => by simp [World.cell?, hr, e]
  refine ⟨fun i b d e => ?_, fun i b d e => ?_, fun i b d e' V hV => ?_, by simp, fun i b d e => ?_⟩
  · match i, e with
    | 0, e => cases e; exact ⟨hcell 0 _ rfl, hcell 1 _ rfl⟩
    | 1, e => cases e; exact ⟨hcell 2 _ rfl, hcell 3 _ rfl⟩
    | 2, e => cases e; exact ⟨hcell 4 _ rfl, hcell 5 _ rfl⟩
    | 3, e => cases e; exact ⟨hcell 6 _ rfl, hcell 7 _ rfl⟩
    | 4, e => cases e; exact ⟨hcell 8 _ rfl, hcell 9 _ rfl⟩
    | 5, e => cases e; exact ⟨hcell 10 _ rfl, hcell 11 _ rfl⟩
    | i + 6, e => cases e
  · match i, e with
    | 0, _ => exact enters_of Tryz.func171 (by kernel_rfl) rfl
    | 1, _ => exact enters_of Tryz.func172 (by kernel_rfl) rfl
    | 2, _ => exact enters_of Tryz.func173 (by kernel_rfl) rfl
    | 3, _ => exact enters_of Tryz.func174 (by kernel_rfl) rfl
    | 4, _ => exact enters_of Tryz.func175 (by kernel_rfl) rfl
    | 5, _ => exact enters_of Tryz.func176 (by kernel_rfl) rfl
    | i + 6, e => cases e
  · match i, e' with
    | 0, e' => cases e'; exact size1_at _ _ _ _ _ _ _ _ _ _ _ _ _ _ _ _ _ _ _ _ _
    | 1, e' => cases e'; exact size2_at _ _ _ _ _ _ _ _ _ _ _ _ _ _ _ _ _ _ _ _ _
    | 2, e' => cases e'; exact size3_at _ _ _ _ _ _ _ _ _ _ _ _ _ _ _ _ _ _ _ _ _
    | 3, e' => cases e'; exact size4_at _ _ _ _ _ _ _ _ _ _ _ _ _ _ _ _ _ _ _ _ _
    | 4, e' => cases e'; exact size5_at _ _ _ _ _ _ _ _ _ _ _ _ _ _ _ _ _ _ _ _ _
    | 5, e' => cases e'; exact size6_at _ _ _ _ _ _ _ _ _ _ _ _ _ _ _ _ _ _ _ _ _
    | i + 6, e' => cases e'
  · match i, e with
    | 0, e => cases e; decide
    | 1, e => cases e; decide
    | 2, e => cases e; decide
    | 3, e => cases e; decide
    | 4, e => cases e; decide
    | 5, e => cases e; decide
    | i + 6, e => cases e
end Go.Proofs.YtkphpgdgbnmnjacGreatDoor

namespace Go.Proofs.YtkphpgdgbnmnjacGreatDoor
open Go.RowKit Go.Extern.Stop Go.Stop Go.Extern

theorem slat1 (w : World) (a : Int) (t : TypeId) : SlAt encI 1 (w.alloc (.cells #[.int .i64 a] t)) (.slice (some ⟨w.heap.size, 0, none⟩) 1 1) [a] := by
  refine ⟨_, _, rfl, Nat.le_refl _, fun _ => ⟨_, _, rfl, fun i x hx j u hu => ?_⟩⟩
  match i, hx with
  | 0, hx =>
    cases hx
    match j, hu with
    | 0, hu => cases hu; simp
    | j + 1, hu => cases hu
  | i + 1, hx => cases hx
theorem slat2 (w : World) (a b : Int) (t : TypeId) : SlAt encI 1 (w.alloc (.cells #[.int .i64 a, .int .i64 b] t)) (.slice (some ⟨w.heap.size, 0, none⟩) 2 2) [a, b] := by
  refine ⟨_, _, rfl, Nat.le_refl _, fun _ => ⟨_, _, rfl, fun i x hx j u hu => ?_⟩⟩
  match i, hx with
  | 0, hx =>
    cases hx
    match j, hu with
    | 0, hu => cases hu; simp
    | j + 1, hu => cases hu
  | 1, hx =>
    cases hx
    match j, hu with
    | 0, hu => cases hu; simp
    | j + 1, hu => cases hu
  | i + 2, hx => cases hx
theorem slat1b (w : World) (o : Obj) (a : Int) (t : TypeId) : SlAt encI 1 ((w.alloc o).alloc (.cells #[.int .i64 a] t)) (.slice (some ⟨w.heap.size + 1, 0, none⟩) 1 1) [a] := by
  rw [show w.heap.size + 1 = (w.alloc o).heap.size by simp]
  exact slat1 _ a t
theorem slat2b (w : World) (o : Obj) (a b : Int) (t : TypeId) : SlAt encI 1 ((w.alloc o).alloc (.cells #[.int .i64 a, .int .i64 b] t)) (.slice (some ⟨w.heap.size + 1, 0, none⟩) 2 2) [a, b] := by
  rw [show w.heap.size + 1 = (w.alloc o).heap.size by simp]
  exact slat2 _ a b t
/-- An entity in a block of its own. -/
def BoxAt (W : World) (B : Nat) (row : Array Value) : Prop := ∀ j v, row[j]? = some v → W.cell? ⟨B, j, none⟩ = some v
theorem BoxAt.below {W W' : World} {B : Nat} {row : Array Value} (h : BoxAt W B row) (hb : Below W.heap.size W W') : BoxAt W' B row := fun j v e => cell_below hb (h j v e)
theorem BoxAt.new (w : World) (row : Array Value) (t : TypeId) : BoxAt (w.alloc (.cells row t)) w.heap.size row := fun j v e => by rw [World.cell?_alloc_at _ _ _ _ rfl]; exact e
set_option maxHeartbeats 400000 in
theorem part1_at (nm : ByteArray) (tol cnt mn mx : Int) (pa ga ea fa la : Option Addr) (pn pc gn gc en ec fn fc ln lc : Nat)  (w : World) : Calls Tryz.prog 177 #[.agg #[.string nm, .int .i64 tol, .slice pa pn pc, .int .i64 cnt, .int .i64 mn, .int .i64 mx, .slice ga gn gc, .slice ea en ec, .slice fa fn fc, .slice la ln lc]] w fun e w' => e = .returned (.bool (decide (cnt ≠ -1) && lacks pn cnt)) ∧ Below w.heap.size w w' := by
  by_cases h : cnt = -1
  · subst h
    go_enter Tryz.func177, Tryz.ntmps177
    go_wp2
    go_ret
    exact ⟨rfl, Below.one _ _⟩
  · have hd : (cnt == -1) = false := by simpa using h
    have hd2 : (cnt != -1) = true := by simpa using h
    have H := lacks_at nm tol cnt mn mx pa ga ea fa la pn pc gn gc en ec fn fc ln lc _ [cnt] _ (slat1b w (.cells #[.string nm, .int .i64 tol, .slice pa pn pc, .int .i64 cnt, .int .i64 mn, .int .i64 mx, .slice ga gn gc, .slice ea en ec, .slice fa fn fc, .slice la ln lc] 38) cnt 3) (by simp)
    simp only [List.any_cons, List.any_nil, Bool.or_false] at H
    have HH : Hid _ := H
    have hr : (decide (cnt ≠ -1) && lacks pn cnt) = lacks pn cnt := by simp [h]
    rw [hr]
    have HD : Hid (cnt ≠ -1) := h
    clear H h hr
    go_enter Tryz.func177, Tryz.ntmps177
    go_wp2_with fail
    refine Calls.mono HH.out ?_
    rintro e w' ⟨rfl, hb⟩
    go_wp2
    go_ret
    exact ⟨rfl, ((Below.one _ _).alloc (by simp) _).trans (hb.mono (by simp; omega))⟩
set_option maxHeartbeats 1000000 in
theorem part21_at (nm : ByteArray) (tol cnt mn mx : Int) (pa ga ea fa la : Option Addr) (pn pc gn gc en ec fn fc ln lc : Nat) (x : GapD) (B : Nat) (W : World) (hB : BoxAt W B #[.string nm, .int .i64 tol, .slice pa pn pc, .int .i64 cnt, .int .i64 mn, .int .i64 mx, .slice ga gn gc, .slice ea en ec, .slice fa fn fc, .slice la ln lc]) : Calls Tryz.prog 181 #[.agg #[.int .i64 x.fr, .int .i64 x.to, .int .i64 x.mn, .int .i64 x.mx], .pointer (some ⟨B, 0, none⟩)] W fun e w' => e = .returned (.bool (lacks pn x.fr || lacks pn x.to)) ∧ Below W.heap.size W w' := by
  have b0 : ∀ o, (W.alloc o).cell? ⟨B, 0, none⟩ = some (.string nm) := fun o => cell_below (Below.one _ _) (hB 0 _ rfl)
  have b1 : ∀ o, (W.alloc o).cell? ⟨B, 1, none⟩ = some (.int .i64 tol) := fun o => cell_below (Below.one _ _) (hB 1 _ rfl)
  have b2 : ∀ o, (W.alloc o).cell? ⟨B, 2, none⟩ = some (.slice pa pn pc) := fun o => cell_below (Below.one _ _) (hB 2 _ rfl)
  have b3 : ∀ o, (W.alloc o).cell? ⟨B, 3, none⟩ = some (.int .i64 cnt) := fun o => cell_below (Below.one _ _) (hB 3 _ rfl)
  have b4 : ∀ o, (W.alloc o).cell? ⟨B, 4, none⟩ = some (.int .i64 mn) := fun o => cell_below (Below.one _ _) (hB 4 _ rfl)
  have b5 : ∀ o, (W.alloc o).cell? ⟨B, 5, none⟩ = some (.int .i64 mx) := fun o => cell_below (Below.one _ _) (hB 5 _ rfl)
  have b6 : ∀ o, (W.alloc o).cell? ⟨B, 6, none⟩ = some (.slice ga gn gc) := fun o => cell_below (Below.one _ _) (hB 6 _ rfl)
  have b7 : ∀ o, (W.alloc o).cell? ⟨B, 7, none⟩ = some (.slice ea en ec) := fun o => cell_below (Below.one _ _) (hB 7 _ rfl)
  have b8 : ∀ o, (W.alloc o).cell? ⟨B, 8, none⟩ = some (.slice fa fn fc) := fun o => cell_below (Below.one _ _) (hB 8 _ rfl)
  have b9 : ∀ o, (W.alloc o).cell? ⟨B, 9, none⟩ = some (.slice la ln lc) := fun o => cell_below (Below.one _ _) (hB 9 _ rfl)
  have H := lacks_at nm tol cnt mn mx pa ga ea fa la pn pc gn gc en ec fn fc ln lc _ [x.fr, x.to] _ (slat2b W (.cells #[.int .i64 x.fr, .int .i64 x.to, .int .i64 x.mn, .int .i64 x.mx] 138) (x.fr) (x.to) 3) (by simp)
  simp only [List.any_cons, List.any_nil, Bool.or_false] at H
  have HH : Hid _ := H
  clear H hB
  go_enter Tryz.func181, Tryz.ntmps181
  go_wp2_with fail
  refine Calls.mono HH.out ?_
  rintro e w' ⟨rfl, hb⟩
  go_wp2
  go_ret
  exact ⟨rfl, ((Below.one _ _).alloc (by simp) _).trans (hb.mono (by simp; omega))⟩
set_option maxHeartbeats 1000000 in
theorem part31_at (nm : ByteArray) (tol cnt mn mx : Int) (pa ga ea fa la : Option Addr) (pn pc gn gc en ec fn fc ln lc : Nat) (x : (Int × Int)) (B : Nat) (W : World) (hB : BoxAt W B #[.string nm, .int .i64 tol, .slice pa pn pc, .int .i64 cnt, .int .i64 mn, .int .i64 mx, .slice ga gn gc, .slice ea en ec, .slice fa fn fc, .slice la ln lc]) : Calls Tryz.prog 184 #[.agg #[.int .i64 x.1, .int .i64 x.2], .pointer (some ⟨B, 0, none⟩)] W fun e w' => e = .returned (.bool (lacks pn x.1 || lacks pn x.2)) ∧ Below W.heap.size W w' := by
  have b0 : ∀ o, (W.alloc o).cell? ⟨B, 0, none⟩ = some (.string nm) := fun o => cell_below (Below.one _ _) (hB 0 _ rfl)
  have b1 : ∀ o, (W.alloc o).cell? ⟨B, 1, none⟩ = some (.int .i64 tol) := fun o => cell_below (Below.one _ _) (hB 1 _ rfl)
  have b2 : ∀ o, (W.alloc o).cell? ⟨B, 2, none⟩ = some (.slice pa pn pc) := fun o => cell_below (Below.one _ _) (hB 2 _ rfl)
  have b3 : ∀ o, (W.alloc o).cell? ⟨B, 3, none⟩ = some (.int .i64 cnt) := fun o => cell_below (Below.one _ _) (hB 3 _ rfl)
  have b4 : ∀ o, (W.alloc o).cell? ⟨B, 4, none⟩ = some (.int .i64 mn) := fun o => cell_below (Below.one _ _) (hB 4 _ rfl)
  have b5 : ∀ o, (W.alloc o).cell? ⟨B, 5, none⟩ = some (.int .i64 mx) := fun o => cell_below (Below.one _ _) (hB 5 _ rfl)
  have b6 : ∀ o, (W.alloc o).cell? ⟨B, 6, none⟩ = some (.slice ga gn gc) := fun o => cell_below (Below.one _ _) (hB 6 _ rfl)
  have b7 : ∀ o, (W.alloc o).cell? ⟨B, 7, none⟩ = some (.slice ea en ec) := fun o => cell_below (Below.one _ _) (hB 7 _ rfl)
  have b8 : ∀ o, (W.alloc o).cell? ⟨B, 8, none⟩ = some (.slice fa fn fc) := fun o => cell_below (Below.one _ _) (hB 8 _ rfl)
  have b9 : ∀ o, (W.alloc o).cell? ⟨B, 9, none⟩ = some (.slice la ln lc) := fun o => cell_below (Below.one _ _) (hB 9 _ rfl)
  have H := lacks_at nm tol cnt mn mx pa ga ea fa la pn pc gn gc en ec fn fc ln lc _ [x.1, x.2] _ (slat2b W (.cells #[.int .i64 x.1, .int .i64 x.2] 139) (x.1) (x.2) 3) (by simp)
  simp only [List.any_cons, List.any_nil, Bool.or_false] at H
  have HH : Hid _ := H
  clear H hB
  go_enter Tryz.func184, Tryz.ntmps184
  go_wp2_with fail
  refine Calls.mono HH.out ?_
  rintro e w' ⟨rfl, hb⟩
  go_wp2
  go_ret
  exact ⟨rfl, ((Below.one _ _).alloc (by simp) _).trans (hb.mono (by simp; omega))⟩
set_option maxHeartbeats 400000 in
theorem part2_at (nm : ByteArray) (tol cnt mn mx : Int) (pa ga ea fa la : Option Addr) (pn pc gn gc en ec fn fc ln lc : Nat) (xs : List GapD) (w : World) (hv : SlAt encG 4 w (.slice ga gn gc) xs) (hn : xs.length ≤ 1000000) : Calls Tryz.prog 179 #[.agg #[.string nm, .int .i64 tol, .slice pa pn pc, .int .i64 cnt, .int .i64 mn, .int .i64 mx, .slice ga gn gc, .slice ea en ec, .slice fa fn fc, .slice la ln lc]] w fun e w' => e = .returned (.bool (xs.any fun x => lacks pn x.fr || lacks pn x.to)) ∧ Below w.heap.size w w' := by
  have H := any_gap _ xs (fun x => lacks pn x.fr || lacks pn x.to) 181 #[.pointer (some ⟨w.heap.size, 0, none⟩)] _ (hv.below (Below.one w (.cells #[.string nm, .int .i64 tol, .slice pa pn pc, .int .i64 cnt, .int .i64 mn, .int .i64 mx, .slice ga gn gc, .slice ea en ec, .slice fa fn fc, .slice la ln lc] 38))) hn (enters_of Tryz.func181 (by kernel_rfl) rfl) (fun W hb x _ => part21_at nm tol cnt mn mx pa ga ea fa la pn pc gn gc en ec fn fc ln lc x w.heap.size W ((BoxAt.new w _ _).below hb))
  have HH : Hid _ := H
  clear H hv hn
  go_enter Tryz.func179, Tryz.ntmps179
  go_wp2_with fail
  refine Calls.mono HH.out ?_
  rintro e w' ⟨rfl, hb⟩
  go_wp2
  go_ret
  exact ⟨rfl, (Below.one _ _).trans (hb.mono (by simp))⟩
set_option maxHeartbeats 400000 in
theorem part3_at (nm : ByteArray) (tol cnt mn mx : Int) (pa ga ea fa la : Option Addr) (pn pc gn gc en ec fn fc ln lc : Nat) (xs : List (Int × Int)) (w : World) (hv : SlAt encP 2 w (.slice ea en ec) xs) (hn : xs.length ≤ 1000000) : Calls Tryz.prog 182 #[.agg #[.string nm, .int .i64 tol, .slice pa pn pc, .int .i64 cnt, .int .i64 mn, .int .i64 mx, .slice ga gn gc, .slice ea en ec, .slice fa fn fc, .slice la ln lc]] w fun e w' => e = .returned (.bool (xs.any fun x => lacks pn x.1 || lacks pn x.2)) ∧ Below w.heap.size w w' := by
  have H := any_pair _ xs (fun x => lacks pn x.1 || lacks pn x.2) 184 #[.pointer (some ⟨w.heap.size, 0, none⟩)] _ (hv.below (Below.one w (.cells #[.string nm, .int .i64 tol, .slice pa pn pc, .int .i64 cnt, .int .i64 mn, .int .i64 mx, .slice ga gn gc, .slice ea en ec, .slice fa fn fc, .slice la ln lc] 38))) hn (enters_of Tryz.func184 (by kernel_rfl) rfl) (fun W hb x _ => part31_at nm tol cnt mn mx pa ga ea fa la pn pc gn gc en ec fn fc ln lc x w.heap.size W ((BoxAt.new w _ _).below hb))
  have HH : Hid _ := H
  clear H hv hn
  go_enter Tryz.func182, Tryz.ntmps182
  go_wp2_with fail
  refine Calls.mono HH.out ?_
  rintro e w' ⟨rfl, hb⟩
  go_wp2
  go_ret
  exact ⟨rfl, (Below.one _ _).trans (hb.mono (by simp))⟩
set_option maxHeartbeats 400000 in
theorem part4_at (nm : ByteArray) (tol cnt mn mx : Int) (pa ga ea fa la : Option Addr) (pn pc gn gc en ec fn fc ln lc : Nat) (xs : List Int) (w : World) (hv : SlAt encI 1 w (.slice fa fn fc) xs) (hn : xs.length ≤ 1000000) : Calls Tryz.prog 185 #[.agg #[.string nm, .int .i64 tol, .slice pa pn pc, .int .i64 cnt, .int .i64 mn, .int .i64 mx, .slice ga gn gc, .slice ea en ec, .slice fa fn fc, .slice la ln lc]] w fun e w' => e = .returned (.bool (xs.any fun x => lacks pn x)) ∧ Below w.heap.size w w' := by
  have H := lacks_at nm tol cnt mn mx pa ga ea fa la pn pc gn gc en ec fn fc ln lc _ xs _ (hv.below (Below.one w (.cells #[.string nm, .int .i64 tol, .slice pa pn pc, .int .i64 cnt, .int .i64 mn, .int .i64 mx, .slice ga gn gc, .slice ea en ec, .slice fa fn fc, .slice la ln lc] 38))) hn
  have HH : Hid _ := H
  clear H hv hn
  go_enter Tryz.func185, Tryz.ntmps185
  go_wp2_with fail
  refine Calls.mono HH.out ?_
  rintro e w' ⟨rfl, hb⟩
  go_wp2
  go_ret
  exact ⟨rfl, (Below.one _ _).trans (hb.mono (by simp))⟩
set_option maxHeartbeats 400000 in
theorem part5_at (nm : ByteArray) (tol cnt mn mx : Int) (pa ga ea fa la : Option Addr) (pn pc gn gc en ec fn fc ln lc : Nat) (xs : List Int) (w : World) (hv : SlAt encI 1 w (.slice la ln lc) xs) (hn : xs.length ≤ 1000000) : Calls Tryz.prog 186 #[.agg #[.string nm, .int .i64 tol, .slice pa pn pc, .int .i64 cnt, .int .i64 mn, .int .i64 mx, .slice ga gn gc, .slice ea en ec, .slice fa fn fc, .slice la ln lc]] w fun e w' => e = .returned (.bool (xs.any fun x => lacks pn x)) ∧ Below w.heap.size w w' := by
  have H := lacks_at nm tol cnt mn mx pa ga ea fa la pn pc gn gc en ec fn fc ln lc _ xs _ (hv.below (Below.one w (.cells #[.string nm, .int .i64 tol, .slice pa pn pc, .int .i64 cnt, .int .i64 mn, .int .i64 mx, .slice ga gn gc, .slice ea en ec, .slice fa fn fc, .slice la ln lc] 38))) hn
  have HH : Hid _ := H
  clear H hv hn
  go_enter Tryz.func186, Tryz.ntmps186
  go_wp2_with fail
  refine Calls.mono HH.out ?_
  rintro e w' ⟨rfl, hb⟩
  go_wp2
  go_ret
  exact ⟨rfl, (Below.one _ _).trans (hb.mono (by simp))⟩
set_option maxHeartbeats 400000 in
theorem part6_at (nm : ByteArray) (tol cnt mn mx : Int) (pa ga ea fa la : Option Addr) (pn pc gn gc en ec fn fc ln lc : Nat)  (w : World) : Calls Tryz.prog 187 #[.agg #[.string nm, .int .i64 tol, .slice pa pn pc, .int .i64 cnt, .int .i64 mn, .int .i64 mx, .slice ga gn gc, .slice ea en ec, .slice fa fn fc, .slice la ln lc]] w fun e w' => e = .returned (.bool (decide (cnt = -1) && (decide (mn ≠ 0) || decide (mx ≠ 0)))) ∧ Below w.heap.size w w' := by
  by_cases h : cnt = -1
  · subst h
    by_cases h1 : mn = 0
    · subst h1
      by_cases h2 : mx = 0
      · subst h2
        go_enter Tryz.func187, Tryz.ntmps187
        go_wp2
        go_ret
        exact ⟨rfl, Below.one _ _⟩
      · have hd : (mx != 0) = true := by simpa using h2
        rw [show (decide ((-1 : Int) = -1) && (decide ((0 : Int) ≠ 0) || decide (mx ≠ 0))) = true by simp [h2]]
        clear h2
        go_enter Tryz.func187, Tryz.ntmps187
        go_wp2
        go_ret
        exact ⟨rfl, Below.one _ _⟩
    · have hd : (mn != 0) = true := by simpa using h1
      rw [show (decide ((-1 : Int) = -1) && (decide (mn ≠ 0) || decide (mx ≠ 0))) = true by simp [h1]]
      clear h1
      go_enter Tryz.func187, Tryz.ntmps187
      go_wp2
      go_ret
      exact ⟨rfl, Below.one _ _⟩
  · have hd : (cnt == -1) = false := by simpa using h
    rw [show (decide (cnt = -1) && (decide (mn ≠ 0) || decide (mx ≠ 0))) = false by simp [h]]
    clear h
    go_enter Tryz.func187, Tryz.ntmps187
    go_wp2
    go_ret
    exact ⟨rfl, Below.one _ _⟩
theorem cell_at1 (w : World) (o : Obj) (row : Array Value) (t : TypeId) (j : Nat) (v : Value) (h : row[j]? = some v) : ((w.alloc o).alloc (.cells row t)).cell? ⟨w.heap.size + 1, j, none⟩ = some v := by
  rw [show w.heap.size + 1 = (w.alloc o).heap.size by simp, World.cell?_alloc_at _ _ _ _ rfl]
  exact h
set_option maxHeartbeats 400000 in
theorem part7_at (nm : ByteArray) (tol cnt mn mx : Int) (pa ga ea fa la : Option Addr) (pn pc gn gc en ec fn fc ln lc : Nat) (w : World) : Calls Tryz.prog 188 #[.agg #[.string nm, .int .i64 tol, .slice pa pn pc, .int .i64 cnt, .int .i64 mn, .int .i64 mx, .slice ga gn gc, .slice ea en ec, .slice fa fn fc, .slice la ln lc]] w fun e w' => e = .returned (.bool (!rise 0 mn mx 999)) ∧ Below w.heap.size w w' := by
  have H := rise_at 0 mn mx 999 (w.heap.size + 1) 4 ((w.alloc (.cells #[.string nm, .int .i64 tol, .slice pa pn pc, .int .i64 cnt, .int .i64 mn, .int .i64 mx, .slice ga gn gc, .slice ea en ec, .slice fa fn fc, .slice la ln lc] 38)).alloc (.cells #[.int .i64 0, .int .i64 mn, .int .i64 mx, .int .i64 999] 3)) (cell_at1 w _ _ _ 0 _ rfl) (cell_at1 w _ _ _ 1 _ rfl) (cell_at1 w _ _ _ 2 _ rfl) (cell_at1 w _ _ _ 3 _ rfl)
  have HH : Hid _ := H
  clear H
  go_enter Tryz.func188, Tryz.ntmps188
  go_wp2_with fail
  refine Calls.mono HH.out ?_
  rintro e w' ⟨rfl, hb⟩
  go_wp2
  go_ret
  exact ⟨rfl, ((Below.one _ _).alloc (by simp) _).trans (hb.mono (by simp; omega))⟩
set_option maxHeartbeats 400000 in
theorem part81_at (x : GapD) (w : World) : Calls Tryz.prog 191 #[.agg #[.int .i64 x.fr, .int .i64 x.to, .int .i64 x.mn, .int .i64 x.mx]] w fun e w' => e = .returned (.bool (!rise 0 x.mn x.mx 1099511627776)) ∧ Below w.heap.size w w' := by
  have H := rise_at 0 x.mn x.mx 1099511627776 (w.heap.size + 1) 4 ((w.alloc (.cells #[.int .i64 x.fr, .int .i64 x.to, .int .i64 x.mn, .int .i64 x.mx] 138)).alloc (.cells #[.int .i64 0, .int .i64 x.mn, .int .i64 x.mx, .int .i64 1099511627776] 3)) (cell_at1 w _ _ _ 0 _ rfl) (cell_at1 w _ _ _ 1 _ rfl) (cell_at1 w _ _ _ 2 _ rfl) (cell_at1 w _ _ _ 3 _ rfl)
  have HH : Hid _ := H
  clear H
  go_enter Tryz.func191, Tryz.ntmps191
  go_wp2_with fail
  refine Calls.mono HH.out ?_
  rintro e w' ⟨rfl, hb⟩
  go_wp2
  go_ret
  exact ⟨rfl, ((Below.one _ _).alloc (by simp) _).trans (hb.mono (by simp; omega))⟩
set_option maxHeartbeats 400000 in
theorem part8_at (nm : ByteArray) (tol cnt mn mx : Int) (pa ga ea fa la : Option Addr) (pn pc gn gc en ec fn fc ln lc : Nat) (xs : List GapD) (w : World) (hv : SlAt encG 4 w (.slice ga gn gc) xs) (hn : xs.length ≤ 1000000) : Calls Tryz.prog 190 #[.agg #[.string nm, .int .i64 tol, .slice pa pn pc, .int .i64 cnt, .int .i64 mn, .int .i64 mx, .slice ga gn gc, .slice ea en ec, .slice fa fn fc, .slice la ln lc]] w fun e w' => e = .returned (.bool (xs.any fun x => !rise 0 x.mn x.mx 1099511627776)) ∧ Below w.heap.size w w' := by
  have H := any_gap _ xs (fun x => !rise 0 x.mn x.mx 1099511627776) 191 #[] _ (hv.below (Below.one w (.cells #[.string nm, .int .i64 tol, .slice pa pn pc, .int .i64 cnt, .int .i64 mn, .int .i64 mx, .slice ga gn gc, .slice ea en ec, .slice fa fn fc, .slice la ln lc] 38))) hn (enters_of Tryz.func191 (by kernel_rfl) rfl) (fun W _ x _ => part81_at x W)
  have HH : Hid _ := H
  clear H hv hn
  go_enter Tryz.func190, Tryz.ntmps190
  go_wp2_with fail
  refine Calls.mono HH.out ?_
  rintro e w' ⟨rfl, hb⟩
  go_wp2
  go_ret
  exact ⟨rfl, (Below.one _ _).trans (hb.mono (by simp))⟩
end Go.Proofs.YtkphpgdgbnmnjacGreatDoor
