/-
  conf.twice at int and at [2]int by contracts. Condition: the slice lies in memory.
-/
import Derived.Test.YtcnfkdecghdphaaGreatDoorCfTwiceX
import Derived.Deep.RegionHeld3
namespace Go.Proofs.YtcnfkdecghdphaaGreatDoor
open Go.RowKit Go.Extern.Stop Go.Stop Go.Extern

theorem below_drew {B : Nat} {w w' : World} (h : Below B w w') : Below B w w'.drew := below_drewN h 1

set_option maxHeartbeats 2000000 in
theorem twice_int (v : Value) (xs : List Int) (w : World) (hv : SlAt encI 1 w v xs) (hn : xs.length ≤ 1000000) :
    Calls Tryz.prog 102 #[v] w fun e w' => e = .returned (.bool (twice xs)) ∧ Below w.heap.size w w' := by
  have HV : Hid (SlAt encI 1 w v xs) := hv
  obtain ⟨sa, cap, rfl, hcap0, hcell⟩ := hv
  have HC : Hid (xs ≠ [] → ∃ b o, sa = some ⟨b, o, none⟩ ∧ ∀ (i : Nat) x, xs[i]? = some x → ∀ (j : Nat) u, (encI x)[j]? = some u → w.cell? ⟨b, o + i * 1 + j, none⟩ = some u) := hcell
  have HL : Hid (xs.length ≤ 1000000) := hn
  have HCap : Hid (xs.length ≤ cap) := hcap0
  clear hcell hn hcap0
  go_enter Tryz.func102, Tryz.ntmps102
  go_wp2_with fail
  go_loopw [3, 4, 7] (fun _ _ i wr => ∃ k : Nat, k ≤ xs.length ∧ i = .int .i64 k ∧ Below w.heap.size w wr ∧ Hid (∀ (i : Nat) (y : Int), i < k → xs[i]? = some y → (xs.take i).any (fun z => decide (y = z)) = false)) (fun _ _ i _ => xs.length - (intOf i).toNat)
  case atStart => exact ⟨0, Nat.zero_le _, rfl, Below.refl _ _, fun i b hi => absurd hi (Nat.not_lt_zero _)⟩
  case round =>
    obtain ⟨k, hk, rfl, hbw, hall⟩ := hrel
    by_cases hlt : k < xs.length
    · obtain ⟨x, hx⟩ : ∃ x, xs[k]? = some x := ⟨_, List.getElem?_eq_getElem hlt⟩
      obtain ⟨b, o, rfl, hc0⟩ := HC.out (fun e => by subst e; simp at hx)
      have hc : ∀ (i : Nat) x, xs[i]? = some x → ∀ (j : Nat) u, (encI x)[j]? = some u → wr.cell? ⟨b, o + i * 1 + j, none⟩ = some u := fun i x h j u hu => cell_below hbw (hc0 i x h j u hu)
      have c0 := hc k x hx 0 _ rfl
      simp only [Nat.mul_one, Nat.add_zero] at c0
      have HX : Hid (xs[k]? = some x) := hx
      have HT : Hid (∀ W, Below wr.heap.size wr W → Calls Tryz.prog 126 #[.slice (some ⟨b, o, none⟩) k cap, .int .i64 x] W fun e W' => e = .returned (.bool ((xs.take k).any (fun z => decide (x = z)))) ∧ Below W.heap.size W W') := fun W hW =>
        contains_int _ (xs.take k) x W (((HV.out.below hbw).below hW).take k (by omega) cap (by have := HCap.out; omega)) (by have := HL.out; simp; omega)
      have k1 : (k : Int) < (xs.length : Int) := by omega
      have k2 : (0 : Int) ≤ (k : Int) := by omega
      have k3 : Hid (xs.length ≤ 1000000) := HL.out
      have k0 : k < 1000000 := by have := HL.out; omega
      have HB : Hid (Below w.heap.size w wr) := hbw
      have hcap : k ≤ cap := by have := HCap.out; omega
      clear hx hc0 hc HC hbw HV
      cases hpx : (xs.take k).any (fun z => decide (x = z)) with
      | true =>
        have hct := HT.out
        rw [hpx] at hct
        have HCt : Hid _ := hct
        have HPX : Hid (twice xs = true) := twice_hit xs k x HX.out hpx
        clear hct hpx HT
        go_wp2_with fail
        refine Calls.mono (HCt.out _ (Below.refl _ _)) ?_
        rintro e W' ⟨rfl, hb'⟩
        go_wp2
        go_ret
        exact ⟨by rw [HPX.out]; rfl, HB.out.trans (hb'.mono HB.out.size)⟩
      | false =>
        have hct := HT.out
        rw [hpx] at hct
        have HCt : Hid _ := hct
        have HPX : Hid ((xs.take k).any (fun z => decide (x = z)) = false) := hpx
        clear hct hpx HT
        go_wp2_with fail
        refine Calls.mono (HCt.out _ (Below.refl _ _)) ?_
        rintro e W' ⟨rfl, hb'⟩
        have HW : Hid (Below w.heap.size w W') := HB.out.trans (hb'.mono HB.out.size)
        clear hb'
        go_wp2
        go_roundw
        case rel =>
          refine ⟨k + 1, by omega, by go_num, HW.out, fun i y hi e => ?_⟩
          by_cases hik : i = k
          · subst hik
            have h2 := HX.out
            rw [h2] at e
            cases e
            exact HPX.out
          · exact hall.out i y (by omega) e
        case measure => simp [intOf]; omega
    · have k1 : ¬ (k : Int) < (xs.length : Int) := by omega
      have HN : Hid (twice xs = false) := twice_none xs (fun i x e => hall.out i x (by have := (List.getElem?_eq_some_iff.1 e).1; omega) e)
      clear HC HV
      go_wp2
      go_ret
      exact ⟨by rw [HN.out]; rfl, hbw⟩

set_option maxHeartbeats 2000000 in
theorem twice_pair (v : Value) (xs : List (Int × Int)) (w : World) (hv : SlAt encP 2 w v xs) (hn : xs.length ≤ 1000000) :
    Calls Tryz.prog 100 #[v] w fun e w' => e = .returned (.bool (twice xs)) ∧ Below w.heap.size w w' := by
  have HV : Hid (SlAt encP 2 w v xs) := hv
  obtain ⟨sa, cap, rfl, hcap0, hcell⟩ := hv
  have HC : Hid (xs ≠ [] → ∃ b o, sa = some ⟨b, o, none⟩ ∧ ∀ (i : Nat) x, xs[i]? = some x → ∀ (j : Nat) u, (encP x)[j]? = some u → w.cell? ⟨b, o + i * 2 + j, none⟩ = some u) := hcell
  have HL : Hid (xs.length ≤ 1000000) := hn
  have HCap : Hid (xs.length ≤ cap) := hcap0
  clear hcell hn hcap0
  go_enter Tryz.func100, Tryz.ntmps100
  go_wp2_with fail
  go_loopw [3, 4, 7] (fun _ _ i wr => ∃ k : Nat, k ≤ xs.length ∧ i = .int .i64 k ∧ Below w.heap.size w wr ∧ Hid (∀ (i : Nat) (y : (Int × Int)), i < k → xs[i]? = some y → (xs.take i).any (fun z => decide (y = z)) = false)) (fun _ _ i _ => xs.length - (intOf i).toNat)
  case atStart => exact ⟨0, Nat.zero_le _, rfl, Below.refl _ _, fun i b hi => absurd hi (Nat.not_lt_zero _)⟩
  case round =>
    obtain ⟨k, hk, rfl, hbw, hall⟩ := hrel
    by_cases hlt : k < xs.length
    · obtain ⟨x, hx⟩ : ∃ x, xs[k]? = some x := ⟨_, List.getElem?_eq_getElem hlt⟩
      obtain ⟨b, o, rfl, hc0⟩ := HC.out (fun e => by subst e; simp at hx)
      have hc : ∀ (i : Nat) x, xs[i]? = some x → ∀ (j : Nat) u, (encP x)[j]? = some u → wr.cell? ⟨b, o + i * 2 + j, none⟩ = some u := fun i x h j u hu => cell_below hbw (hc0 i x h j u hu)
      have c0 := hc k x hx 0 _ rfl
      have c1 := hc k x hx 1 _ rfl
      simp only [Nat.add_zero] at c0
      have HX : Hid (xs[k]? = some x) := hx
      have HT : Hid (∀ W, Below wr.heap.size wr W → Calls Tryz.prog 125 #[.slice (some ⟨b, o, none⟩) k cap, .agg #[.int .i64 x.1, .int .i64 x.2]] W fun e W' => e = .returned (.bool ((xs.take k).any (fun z => decide (x = z)))) ∧ Below W.heap.size W W') := fun W hW =>
        contains_pair _ (xs.take k) x W (((HV.out.below hbw).below hW).take k (by omega) cap (by have := HCap.out; omega)) (by have := HL.out; simp; omega)
      have k1 : (k : Int) < (xs.length : Int) := by omega
      have k2 : (0 : Int) ≤ (k : Int) := by omega
      have k3 : Hid (xs.length ≤ 1000000) := HL.out
      have k0 : k < 1000000 := by have := HL.out; omega
      have HB : Hid (Below w.heap.size w wr) := hbw
      have hcap : k ≤ cap := by have := HCap.out; omega
      clear hx hc0 hc HC hbw HV
      cases hpx : (xs.take k).any (fun z => decide (x = z)) with
      | true =>
        have hct := HT.out
        rw [hpx] at hct
        have HCt : Hid _ := hct
        have HPX : Hid (twice xs = true) := twice_hit xs k x HX.out hpx
        clear hct hpx HT
        go_wp2_with fail
        have z0 : (wr.alloc (.cells #[.int .i64 x.1, .int .i64 x.2] 79)).drew.cell? ⟨wr.heap.size, 0, none⟩ = some (.int .i64 x.1) := by simp
        have z1 : (wr.alloc (.cells #[.int .i64 x.1, .int .i64 x.2] 79)).drew.cell? ⟨wr.heap.size, 1, none⟩ = some (.int .i64 x.2) := by simp
        go_region_held3 (fun w' => w'.cell? ⟨wr.heap.size, 0, none⟩ = some (.int .i64 x.1) ∧ w'.cell? ⟨wr.heap.size, 1, none⟩ = some (.int .i64 x.2)) (first | exact ⟨z0, z1⟩ | exact ⟨y0, y1⟩) (first | (go_at_call 125; refine Calls.mono (HCt.out _ (below_drew (Below.one _ _))) ?_; rintro e W' ⟨rfl, hb'⟩; have y0 := cell_below hb' z0; have y1 := cell_below hb' z1))
        go_wp2
        go_ret
        exact ⟨by rw [HPX.out]; rfl, HB.out.trans (((below_drew (Below.one _ _)).mono HB.out.size).trans (hb'.mono (by simp; have := HB.out.size; omega)))⟩
      | false =>
        have hct := HT.out
        rw [hpx] at hct
        have HCt : Hid _ := hct
        have HPX : Hid ((xs.take k).any (fun z => decide (x = z)) = false) := hpx
        clear hct hpx HT
        go_wp2_with fail
        have z0 : (wr.alloc (.cells #[.int .i64 x.1, .int .i64 x.2] 79)).drew.cell? ⟨wr.heap.size, 0, none⟩ = some (.int .i64 x.1) := by simp
        have z1 : (wr.alloc (.cells #[.int .i64 x.1, .int .i64 x.2] 79)).drew.cell? ⟨wr.heap.size, 1, none⟩ = some (.int .i64 x.2) := by simp
        go_region_held3 (fun w' => w'.cell? ⟨wr.heap.size, 0, none⟩ = some (.int .i64 x.1) ∧ w'.cell? ⟨wr.heap.size, 1, none⟩ = some (.int .i64 x.2)) (first | exact ⟨z0, z1⟩ | exact ⟨y0, y1⟩) (first | (go_at_call 125; refine Calls.mono (HCt.out _ (below_drew (Below.one _ _))) ?_; rintro e W' ⟨rfl, hb'⟩; have y0 := cell_below hb' z0; have y1 := cell_below hb' z1))
        have HW : Hid (Below w.heap.size w W') := HB.out.trans (((below_drew (Below.one _ _)).mono HB.out.size).trans (hb'.mono (by simp; have := HB.out.size; omega)))
        clear hb'
        go_wp2
        go_roundw
        case rel =>
          refine ⟨k + 1, by omega, by go_num, HW.out, fun i y hi e => ?_⟩
          by_cases hik : i = k
          · subst hik
            have h2 := HX.out
            rw [h2] at e
            cases e
            exact HPX.out
          · exact hall.out i y (by omega) e
        case measure => simp [intOf]; omega
    · have k1 : ¬ (k : Int) < (xs.length : Int) := by omega
      have HN : Hid (twice xs = false) := twice_none xs (fun i x e => hall.out i x (by have := (List.getElem?_eq_some_iff.1 e).1; omega) e)
      clear HC HV
      go_wp2
      go_ret
      exact ⟨by rw [HN.out]; rfl, hbw⟩
end Go.Proofs.YtcnfkdecghdphaaGreatDoor
