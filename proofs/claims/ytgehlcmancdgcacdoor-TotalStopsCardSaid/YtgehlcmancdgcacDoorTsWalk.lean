/-
  nightwatchlaw2.TotalStops within its bounds: true. Conditions: the list lies in memory; package total's End keeps its contract.
-/
import Derived.Test.YtgehlcmancdgcacDoorToSum
import Derived.Test.YtgehlcmancdgcacDoorToList
namespace Go.Proofs.YtgehlcmancdgcacDoor
open Go.RowKit Go.Extern.Stop Go.Stop Go.Extern

section
variable {w0 w1 w w' : World} {b k : Nat} {s s' : TSt}
/-- Behind k cycles that failed. -/
def aheadT (d k : Nat) : TSt := ⟨d, 0, if k = 0 then 0 else 1⟩
theorem aheadT_fin (d k : Nat) : (aheadT d k).fin [⟨#[111, 107]⟩, failedB] = aheadT d (k + 1) := by
  unfold aheadT TSt.fin
  have h1 : ¬ (if k = 0 then 0 else 1) = 3 := by split <;> omega
  have h2 : ¬ (if k = 0 then 0 else 1) = 2 := by split <;> omega
  have hw : worstOf [⟨#[111, 107]⟩, failedB] = 1 := by
    have : hasB [⟨#[111, 107]⟩, failedB] expiredB = false := by unfold hasB; simp [failedB, expiredB]
    unfold worstOf
    rw [this, if_neg (by simp), if_pos (by simp [hasB])]
  rw [if_neg h1, if_neg h2, hw]
  show TSt.cut ⟨d, 0, 1⟩ = ⟨d, 0, if k + 1 = 0 then 0 else 1⟩
  rw [if_neg (by omega)]
  rfl
theorem aheadT_fit {d : Nat} (hd : d ≤ 20) (k : Nat) : TFit (aheadT d k) 0 := ⟨hd, Nat.le_refl _, fun e => by have e' : (if k = 0 then 0 else 1) = 2 := e; split at e' <;> omega, by show (if k = 0 then 0 else 1) ≤ 3; split <;> omega, fun _ => rfl⟩
theorem behind_fit' {d : Nat} (hd : d ≤ 20) (i : Nat) : TFit (behind d i) 20 := by
  unfold behind
  split
  · rename_i h
    exact ⟨hd, by show i ≤ 20; omega, fun _ => h, by show 2 ≤ 3; omega, fun e => by have : (2 : Nat) < 2 := e; omega⟩
  · exact ⟨hd, hd, fun e => by have : (3 : Nat) = 2 := e; omega, Nat.le_refl 3, fun e => by have : (3 : Nat) < 2 := e; omega⟩
def stopB (d i : Nat) : ByteArray := if i < d then ⟨#[101, 120, 112, 105, 114, 101, 100]⟩ else ⟨#[115, 116, 111, 112, 112, 101, 100]⟩
theorem behind_word (d i : Nat) : totB (behind d i).st = stopB d i := by unfold behind stopB; split <;> rfl
theorem behind_may (d i : Nat) : decide ((behind d i).st ≠ 3) = decide (i < d) := by
  unfold behind
  split
  · rename_i h; rw [decide_eq_true h]; rfl
  · rename_i h; rw [decide_eq_false h]; rfl
set_option maxHeartbeats 4000000 in
set_option maxRecDepth 100000 in
theorem stops_in (HE : ToEndC) (d ah : Nat) (sl : Option Addr) (ll : List (List ByteArray)) (slc : Nat) (w : World) (hd : d ≤ 20) (ha : ah ≤ 40) (hn : ll.length ≤ 60) (hl : SlsAt w (.slice sl ll.length slc) ll) :
    Calls Tryd.prog 4 #[.int .i64 (d : Int), .int .i64 (ah : Int), .slice sl ll.length slc] w fun v w' => v = .returned (.bool true) ∧ Below w.heap.size w w' := by
  have HH : Hid ToEndC := HE
  have HL : Hid (∀ V, Below w.heap.size w V → SlsAt V (.slice sl ll.length slc) ll) := fun V hV => hl.below hV
  obtain ⟨i0, hi0, hz0, hz1, hz2⟩ := info_parts Tryd.infoStr
  have g1 : ¬ (d : Int) < 0 := by omega
  have g2 : ¬ 20 < (d : Int) := by omega
  have g3 : ¬ (ah : Int) < 0 := by omega
  have g4 : ¬ 40 < (ah : Int) := by omega
  have g5 : ¬ 60 < (ll.length : Int) := by omega
  clear HE hl
  go_enter Tryd.func4, Tryd.ntmps4
  go_wp2_with fail
  refine (summed_any HH.out _).mono ?_
  rintro v W ⟨rfl, hb0⟩
  have HB0 : Hid (Below w.heap.size w W) := hb0
  clear hb0
  go_wp2_with fail
  refine (to_new d _ hd).mono ?_
  rintro v w1 ⟨b, rfl, hl⟩
  have D1 : ToIn w w1 b (aheadT d 0) := hl.from HB0.out
  clear hl HB0
  go_upto_region 7 with fail
  go_cut [10] (fun v wx => v = .int .i64 0 ∧ wx = w1)
  case first =>
    go_wp2_with fail
    go_meet
    case rel => exact ⟨rfl, rfl⟩
  obtain ⟨rfl, rfl⟩ := hcut
  go_wp2_with fail
  go_loopw [10] (fun i wr => ∃ k : Nat, k ≤ ah ∧ i = .int .i64 k ∧ ToIn w wr b (aheadT d k)) (fun i _ => ah - (intOf i).toNat)
  case atStart => exact ⟨0, Nat.zero_le _, rfl, D1⟩
  case round =>
    clear D1
    obtain ⟨k, hk, rfl, D⟩ := hrel
    by_cases hlt : k < ah
    · have k1 : (k : Int) < (ah : Int) := by omega
      go_wp2_with fail
      have HD : Hid (ToIn w (wr.alloc (.cells #[.string ⟨#[111, 107]⟩, .string ⟨#[102, 97, 105, 108, 101, 100]⟩] 9)) b (aheadT d k)) := D.below (Below.one _ _)
      have hne : wr.heap.size ≠ b := fun e => by have := lt_of_row D.heap; omega
      refine (to_end_to HH.out (k := 0) (x := ⟨#[102, 97, 105, 108, 101, 100]⟩) (l := [⟨#[111, 107]⟩, failedB]) HD.out (aheadT_fit hd k) (by decide) (row_slat (xs := [⟨#[111, 107]⟩, failedB]) (heap_alloc_new wr _) rfl (by decide) hne) (by decide) (aheadT_fin d k) rfl).mono ?_
      rintro v w2 ⟨rfl, D2, -⟩
      clear D HD hne
      go_wp2_with fail
      go_roundw
      case rel => exact ⟨k + 1, by omega, by go_num, D2⟩
      case measure => simp [intOf]; omega
    · have k1 : ¬ (k : Int) < (ah : Int) := by omega
      go_wp2_with fail
      have HD : Hid (ToIn w (wr.alloc (.cells #[.string ⟨#[102, 97, 105, 108, 101, 100]⟩, .string ⟨#[101, 120, 112, 105, 114, 101, 100]⟩, .string ⟨#[111, 107]⟩] 9)) b (aheadT d k)) := D.below (Below.one _ _)
      have hne : wr.heap.size ≠ b := fun e => by have := lt_of_row D.heap; omega
      refine (to_end_to HH.out (k := 0) (l := [failedB, expiredB, ⟨#[111, 107]⟩]) HD.out (aheadT_fit hd k) (by decide) (row_slat (xs := [failedB, expiredB, ⟨#[111, 107]⟩]) (heap_alloc_new wr _) rfl (by decide) hne) (by decide) (first_fin (s := aheadT d k) (by show (if k = 0 then 0 else 1) < 2; split <;> omega) (by simp [hasB])) (behind_word d 0)).mono ?_
      rintro v w2 ⟨rfl, D2, -⟩
      clear D HD hne
      go_upto_region 13 with fail
      go_cut [12] (fun v wx => v = .int .i64 0 ∧ wx = w2)
      case first =>
        go_wp2_with fail
        go_meet
        case rel => exact ⟨rfl, rfl⟩
      obtain ⟨rfl, rfl⟩ := hcut
      go_wp2_with fail
      go_loopw [11, 12, 13, 14] (fun sv i _ _ wr => ∃ j : Nat, j ≤ ll.length ∧ i = .int .i64 j ∧ sv = .string (stopB d j) ∧ ToIn w wr b (behind d j)) (fun _ i _ _ _ => ll.length - (intOf i).toNat)
      case atStart => exact ⟨0, Nat.zero_le _, rfl, rfl, D2⟩
      case round =>
        clear D2 hk hlt k1
        obtain ⟨j, hj, rfl, rfl, D⟩ := hrel
        by_cases hlt : j < ll.length
        · have k1 : (j : Int) < (ll.length : Int) := by omega
          have k2 : j < 60 := by omega
          obtain ⟨x, hx⟩ : ∃ x, ll[j]? = some x := ⟨_, List.getElem?_eq_getElem hlt⟩
          obtain ⟨g, o, xa, xc, rfl, c0, hX⟩ := (HL.out wr D.bel).one hx
          have HX : Hid (∀ V, Below w.heap.size w V → SlAt encS 1 V (.slice xa x.length xc) x) := fun V hV => by
            obtain ⟨g', o', xa', xc', e1, c', hX'⟩ := (HL.out w (Below.refl _ _)).one hx
            cases e1
            have := (cell_below D.bel c').symm.trans c0
            simp only [Option.some.injEq, Value.slice.injEq] at this
            obtain ⟨rfl, -, rfl⟩ := this
            exact hX'.below hV
          clear hX hx
          by_cases hjd : j < d
          · have j1 : ¬ (d : Int) ≤ (j : Int) := by omega
            have j2 : (j : Int) < (d : Int) := by omega
            have hm : decide ((behind d j).st ≠ 3) = true := by rw [behind_may]; exact decide_eq_true hjd
            have hw : stopB d j = ⟨#[101, 120, 112, 105, 114, 101, 100]⟩ := by unfold stopB; rw [if_pos hjd]
            rw [hw]
            clear hw
            go_wp2_with fail
            refine (to_may_to D (behind_fit' hd j).st hm).mono ?_
            rintro v w3 ⟨rfl, rfl⟩
            clear hm
            by_cases h20 : 20 < (x.length : Int)
            · go_wp2
              go_ret
              exact ⟨rfl, D.bel⟩
            go_wp2_with (at_builtin; refine wpList_copy (w := w3) rfl _ _ 22 rfl w3.heap.size 9 i0 (.string ⟨#[]⟩) 1 16 Tryd.underlying22 hi0 hz0 hz1 hz2 rfl (by decide) rfl encS (fun _ => rfl) encT_one _ x rfl (HX.out _ D.bel) (by omega) (by decide) (Nat.le_refl _) ?_; intro pa' pc' w4 hop hb4)
            have D4 := D.below hb4
            have hne : (Value.slice pa' x.length pc').ownBlock ≠ some b := fun e => by have h1 := (hop.lt b e).1; have h2 := lt_of_row D.heap; omega
            refine (to_end_to HH.out (k := 20) (l := x) D4 (behind_fit' hd j) (by decide) (own_slat hop (fun _ => rfl) hne) (by omega) (behind_fin d j x) (behind_word d (j + 1))).mono ?_
            rintro v w5 ⟨rfl, D5, -⟩
            clear D D4 hop hb4 hne c0
            go_wp2_with fail
            go_roundw
            case rel => exact ⟨j + 1, by omega, by go_num, rfl, D5⟩
            case measure => simp [intOf]; omega
          · have j1 : (d : Int) ≤ (j : Int) := by omega
            have j2 : ¬ (j : Int) < (d : Int) := by omega
            have hm : decide ((behind d j).st ≠ 3) = false := by rw [behind_may]; exact decide_eq_false hjd
            have hw : stopB d j = ⟨#[115, 116, 111, 112, 112, 101, 100]⟩ := by unfold stopB; rw [if_neg hjd]
            rw [hw]
            clear hw
            go_wp2_with fail
            refine (to_may_to D (behind_fit' hd j).st hm).mono ?_
            rintro v w3 ⟨rfl, rfl⟩
            clear hm
            by_cases h20 : 20 < (x.length : Int)
            · go_wp2
              go_ret
              exact ⟨rfl, D.bel⟩
            go_wp2_with (at_builtin; refine wpList_copy (w := w3) rfl _ _ 22 rfl w3.heap.size 9 i0 (.string ⟨#[]⟩) 1 16 Tryd.underlying22 hi0 hz0 hz1 hz2 rfl (by decide) rfl encS (fun _ => rfl) encT_one _ x rfl (HX.out _ D.bel) (by omega) (by decide) (Nat.le_refl _) ?_; intro pa' pc' w4 hop hb4)
            have D4 := D.below hb4
            have hne : (Value.slice pa' x.length pc').ownBlock ≠ some b := fun e => by have h1 := (hop.lt b e).1; have h2 := lt_of_row D.heap; omega
            refine (to_end_to HH.out (k := 20) (l := x) D4 (behind_fit' hd j) (by decide) (own_slat hop (fun _ => rfl) hne) (by omega) (behind_fin d j x) (behind_word d (j + 1))).mono ?_
            rintro v w5 ⟨rfl, D5, -⟩
            clear D D4 hop hb4 hne c0
            go_wp2_with fail
            go_roundw
            case rel => exact ⟨j + 1, by omega, by go_num, rfl, D5⟩
            case measure => simp [intOf]; omega
        · have k1 : ¬ (j : Int) < (ll.length : Int) := by omega
          go_wp2
          go_ret
          exact ⟨rfl, D.bel⟩
end
end Go.Proofs.YtgehlcmancdgcacDoor
