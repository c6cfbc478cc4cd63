/-
  flow.Words by a contract: 'rowsN'. Conditions: the entity's lists lie in memory and are not too long, its edges are of int's range; at most 15 reports, at most 16 points.
-/
import Derived.Test.YtbholbenjalliabDoorFwLong
namespace Go.Proofs.YtbholbenjalliabDoor
open Go.RowKit Go.Extern.Stop Go.Stop Go.Extern

theorem first_map (e : EntD) {w : World} : ∃ w', (Instr.mapUpdate 51 (.map (some w.heap.size)) (.int .i64 (-1)) (.int .i64 1)).run Tryd.prog (w.alloc (.map #[] 0)) = .ok () w' ∧ RowsAt e w' w.heap.size first1 ∧ Below w.heap.size w w' := by
  have h0 := World.ownsMap_made w Tryd.prog 3 (plainElem (H := Unit) Tryd.prog 3)
  obtain ⟨w', hrun, ho, hg⟩ := h0.update (Maps.int_keyed Tryd.underlying3) Tryd.underlying51 (by unfold maxLen; omega) (Maps.keyOf_int_mk Tryd.underlying3 (a := -1) (by decide)) (plainElem_int (H := Unit) Tryd.underlying3 (a := 1) (by decide))
  refine ⟨w', hrun, ⟨_, _, ho, rowMap_put (v := 1) (rowMap_nil e) (by simp [sts]) (Nat.le_refl _), ?_⟩, below_grown (Below.one _ _) hg (by simp) (Nat.le_refl _)⟩
  have := wsum_first e one1
  rw [this]
  exact Nat.le_refl _
set_option maxHeartbeats 4000000 in
set_option maxRecDepth 100000 in
theorem words_ok (e : EntD) (pa ga ea fa la : Option Addr) (pc gc ec fc lc : Nat) (n : Nat) (w : World) (hP : EntParts w e (.slice pa e.pts.length pc) (.slice ga e.gaps.length gc) (.slice ea e.edges.length ec) (.slice fa e.first.length fc) (.slice la e.last.length lc)) (hS : SmallE e) (hW : WfE e.edges) (hn : n ≤ 15) (hp : e.pts.length ≤ 16) :
    Calls Tryd.prog 11 #[.agg #[.string e.name, .int .i64 e.tol, .slice pa e.pts.length pc, .int .i64 e.cnt, .int .i64 e.mn, .int .i64 e.mx, .slice ga e.gaps.length gc, .slice ea e.edges.length ec, .slice fa e.first.length fc, .slice la e.last.length lc], .int .i64 (n : Int)] w fun v w' => v = .returned (.tuple #[.int .i64 (rowsN e n (-1) : Int), .nilIface]) ∧ Below w.heap.size w w' := by
  have HP : Hid (EntParts w e (.slice pa e.pts.length pc) (.slice ga e.gaps.length gc) (.slice ea e.edges.length ec) (.slice fa e.first.length fc) (.slice la e.last.length lc)) := hP
  have HSm : Hid (SmallE e) := hS
  have HWE : Hid (WfE e.edges) := hW
  have HN : Hid (n ≤ 15 ∧ e.pts.length ≤ 16) := ⟨hn, hp⟩
  have g1 : ¬ (n : Int) < 0 := by omega
  have g2 : ¬ 15 < (n : Int) := by omega
  have g3 : ¬ 16 < (e.pts.length : Int) := by omega
  clear hP hS hW hn hp
  go_enter Tryd.func11, Tryd.ntmps11
  go_upto_region 1 with fail
  obtain ⟨W, hW⟩ : ∃ V, V = w.alloc (.cells #[.string e.name, .int .i64 e.tol, .slice pa e.pts.length pc, .int .i64 e.cnt, .int .i64 e.mn, .int .i64 e.mx, .slice ga e.gaps.length gc, .slice ea e.edges.length ec, .slice fa e.first.length fc, .slice la e.last.length lc] 27) := ⟨_, rfl⟩
  rw [← hW]
  have HBW : Hid (Below w.heap.size w W) := by show Below _ _ _; rw [hW]; exact Below.one _ _
  have HXr : Hid (W.heap[w.heap.size]? = some (.cells #[.string e.name, .int .i64 e.tol, .slice pa e.pts.length pc, .int .i64 e.cnt, .int .i64 e.mn, .int .i64 e.mx, .slice ga e.gaps.length gc, .slice ea e.edges.length ec, .slice fa e.first.length fc, .slice la e.last.length lc] 27 (0, 0))) := by show _ = _; rw [hW]; exact (MapKept.heap_alloc w _).1
  clear hW
  have p2 : W.cell? ⟨w.heap.size, 2, none⟩ = some (.slice pa e.pts.length pc) := by have := HXr.out; simp [World.cell?, this]
  go_wp2_with (refine wpList_load_row rfl 27 _ rfl w.heap.size rfl _ _ _ _ HXr.out Tryd.underlying27 rfl Tryd.sizeEnt ?_)
  clear p2 g1 g2 g3
  refine (fl_new e pa ga ea fa la pc gc ec fc lc W (HP.out.below HBW.out) HSm.out HWE.out).mono ?_
  rintro v w1 ⟨b, rfl, h1⟩
  have HD1 : Hid (FlIn W w1 b e ⟨-1, false⟩) := h1
  obtain ⟨w2, hup, hr2, hb2⟩ := first_map e (w := w1)
  have HR2 : Hid (RowsAt e w2 w1.heap.size first1) := hr2
  have HB2 : Hid (Below w1.heap.size w1 w2) := hb2
  have hmk : ∀ w : World, (Instr.makeMap 51 none).run Tryd.prog w = .ok (.map (some w.heap.size)) (w.alloc (.map #[] 0)) := fun w => run_makeMap _ w
  clear h1 hr2 hb2
  go_upto_region 5 with fail
  clear hmk hup
  have HD2 : Hid (FlIn W w2 b e ⟨-1, false⟩) := HD1.out.below HB2.out
  clear HD1 HB2
  go_cut [28, 29] (fun p i wx => p = .int .i64 (n : Int) ∧ i = .int .i64 0 ∧ wx = w2)
  case first =>
    go_wp2_with fail
    go_meet
    case rel => exact ⟨rfl, rfl, rfl⟩
  obtain ⟨rfl, rfl, rfl⟩ := hcut
  rename World => w2
  go_wp2_with fail
  go_loopw [7, 29] (fun mv i wr => ∃ (k mr : Nat) (f : Int → Nat), k ≤ n ∧ i = .int .i64 k ∧ mv = .map (some mr) ∧ FlIn W wr b e ⟨-1, false⟩ ∧ RowsAt e wr mr f ∧ FwInv e k f) (fun _ i _ => n - (intOf i).toNat)
  case atStart => exact ⟨0, _, first1, Nat.zero_le _, rfl, rfl, HD2.out, HR2.out, fwInv_zero e⟩
  case round =>
    clear HD2 HR2
    obtain ⟨k, mr, f, hk, rfl, rfl, hD, hR, hI⟩ := hrel
    have HD : Hid (FlIn W wr b e ⟨-1, false⟩) := hD
    have HR : Hid (RowsAt e wr mr f) := hR
    have HI : Hid (FwInv e k f) := hI
    clear hD hR hI
    by_cases hlt : k < n
    · have k1 : (k : Int) < (n : Int) := by omega
      have k2 : k < 15 := by have := HN.out.1; omega
      have HT : Hid (e.pts.length * wsum (sts e) f one1 ≤ 4611686018427387904 ∧ wsum (sts e) f one1 ≤ 4611686018427387904) := by
        have h1 : wsum (sts e) f one1 = rowsN e k (-1) := fwInv_all HI.out
        have h2 := rowsN_le e k (-1)
        have h3 : e.pts.length ^ k ≤ 16 ^ k := Nat.pow_le_pow_left HN.out.2 k
        have h4 : 16 ^ k ≤ 16 ^ 14 := Nat.pow_le_pow_right (by decide) (by omega)
        have h5 : (16 : Nat) ^ 14 = 72057594037927936 := by decide
        have h6 : wsum (sts e) f one1 ≤ 72057594037927936 := by omega
        have h7 : e.pts.length * wsum (sts e) f one1 ≤ 16 * 72057594037927936 := Nat.mul_le_mul HN.out.2 h6
        exact ⟨by omega, by omega⟩
      obtain ⟨hB0, m, nn, D, fv, lv, hA⟩ := id HD.out
      have HA : Hid (FlAt W.heap.size wr b e ⟨-1, false⟩ m nn D fv lv) := hA
      clear hB0 hA
      go_wp2_with fail
      refine (longer_at HA.out mr f HR.out HT.out.1 HT.out.2).mono ?_
      rintro v w3 ⟨mw, f3, rfl, hb3, hr3, hg3⟩
      have HD3 : Hid (FlIn W w3 b e ⟨-1, false⟩) := HD.out.below hb3
      have HR3 : Hid (RowsAt e w3 mw f3) := hr3
      have HI3 : Hid (FwInv e (k + 1) f3) := fwInv_succ HI.out hg3
      clear hb3 hr3 hg3 HD HR HI HA HT
      go_wp2_with fail
      go_roundw
      case rel => exact ⟨k + 1, mw, f3, by omega, by go_num, rfl, HD3.out, HR3.out, HI3.out⟩
      case measure => simp [intOf]; omega
    · have k1 : ¬ (k : Int) < (n : Int) := by omega
      have hkk : k = n := by omega
      have HAll : Hid (wsum (sts e) f one1 = rowsN e n (-1)) := by show _ = _; rw [← hkk]; exact fwInv_all HI.out
      have HBd : Hid (∀ _ : Unit, wsum (sts e) f one1 ≤ 1152921504606846976) := fun _ => by rw [HAll.out]; exact rowsN_bound e n (-1) HN.out.2 HN.out.1
      obtain ⟨nr, Dr, hown, hrm, hnr⟩ := id HR.out
      have HOw : Hid (wr.ownsMap Tryd.prog 3 (plainElem (H := Unit) Tryd.prog 3) mr nr Dr) := hown
      have HRm : Hid (RowMap e Dr f) := hrm
      have HBr : Hid (Below w.heap.size w wr) := HBW.out.trans (HD.out.1.mono HBW.out.size)
      clear hown hrm hnr hkk HI HR HD
      go_upto_region 10 with fail
      go_cut [35, 36] (fun _ p wx => p = .pointer (some ⟨wr.heap.size, 0, none⟩) ∧ Below w.heap.size w wx ∧ wx.ranges Tryd.prog 3 (plainElem (H := Unit) Tryd.prog 3) mr wr.heap.size nr Dr (Maps.has Dr) (Maps.size Dr))
      case first =>
        go_wp2_with (at_range; refine wpList_range_own _ rfl _ 51 rfl 3 3 (Maps.int_keyed Tryd.underlying3) Tryd.underlying51 _ mr nr Dr rfl HOw.out ?_; intro w0 hrg0 hg0 hs0; have HZ0 : Hid (Below w.heap.size w w0 ∧ w0.ranges Tryd.prog 3 (plainElem (H := Unit) Tryd.prog 3) mr wr.heap.size nr Dr (Maps.has Dr) (Maps.size Dr)) := ⟨HBr.out.trans ((below_of_grown hg0).mono HBr.out.size), hrg0⟩; clear hrg0 hg0 hs0)
        (try go_frame)
        go_meet
        case rel => exact ⟨rfl, HZ0.out.1, HZ0.out.2⟩
      obtain ⟨rfl, hb4, hrg4⟩ := hcut
      rename World => w4
      have HB4 : Hid (Below w.heap.size w w4) := hb4
      have HR4 : Hid (w4.ranges Tryd.prog 3 (plainElem (H := Unit) Tryd.prog 3) mr wr.heap.size nr Dr (Maps.has Dr) (Maps.size Dr)) := hrg4
      have HLo : Hid (w.heap.size ≤ wr.heap.size) := HBr.out.size
      clear hb4 hrg4 HOw HBr
      go_wp2_with fail
      go_loopw [8, 10] (fun al _ wx => ∃ (left : Lit → Bool) (cnt : Nat), al = .int .i64 ((wsum (sts e) (thru (fun a => left (.int .i64 a)) f) one1 : Nat) : Int) ∧ Below w.heap.size w wx ∧ wx.ranges Tryd.prog 3 (plainElem (H := Unit) Tryd.prog 3) mr wr.heap.size nr Dr left cnt) (fun _ _ wx => wx.rangeLeft mr wr.heap.size)
      case atStart =>
        refine ⟨_, _, ?_, HB4.out, HR4.out⟩
        rw [thru_all (fun a _ ha => rowMap_zero HRm.out ha)]
        rfl
      case round =>
        clear HB4 HR4
        obtain ⟨left, cnt, rfl, hbx, hrx⟩ := hrel
        rename World => wx
        have HBx : Hid (Below w.heap.size w wx) := hbx
        have HRx : Hid (wx.ranges Tryd.prog 3 (plainElem (H := Unit) Tryd.prog 3) mr wr.heap.size nr Dr left cnt) := hrx
        clear hbx hrx
        go_wp2_with (at_next; refine wpList_next_ranges_ii _ rfl _ rfl 3 3 .i64 .i64 (Maps.int_keyed Tryd.underlying3) Tryd.underlying3 Tryd.underlying3 mr wr.heap.size nr _ _ _ rfl HRx.out ?_ ?_)
        · intro hc0 hl0
          have HE : Hid (wsum (sts e) (thru (fun a => left (.int .i64 a)) f) one1 = rowsN e n (-1)) := by show _ = _; rw [thru_none (fun a _ => hl0 _)]; exact HAll.out
          clear hc0 hl0
          rw [HE.out]
          go_wp2
          go_ret2
          exact ⟨rfl, HBx.out⟩
        · intro x c w5 cnt1 hwx hwc hlx hat hrg1 hlt1 hg1 hs1 hen
          obtain rfl : c = (f x : Int) := by
            have h1 := hat (.lit (.int .i64 0))
            rw [HRm.out.val x] at h1
            simpa using h1.symm
          have hxk := HRm.out.key x (Maps.has_true_of_atKey hat)
          have HSt : Hid (wsum (sts e) (thru (fun a => (fun z => left z && !z.sameKey (.int .i64 x)) (Lit.int .i64 a)) f) one1 = wsum (sts e) (thru (fun a => left (.int .i64 a)) f) one1 + f x) := by
            show _ = _
            rw [left_int, thru_step (sts_nodup e) hxk.1 (left := fun a => left (.int .i64 a)) hlx]
            show _ + f x * 1 = _
            omega
          have hq := thru_room (f := f) (h := one1) (sts_nodup e) hxk.1 (left := fun a => left (.int .i64 a)) hlx (c := 1) (Nat.le_refl _)
          have q0 : ((wsum (sts e) (thru (fun a => left (.int .i64 a)) f) one1 : Nat) : Int) + (f x : Int) ≤ 4611686018427387904 := by have := HBd.out (); omega
          have HB5 : Hid (Below w.heap.size w w5) := below_grown HBx.out hg1 HBx.out.size HLo.out
          have HR5 : Hid (w5.ranges Tryd.prog 3 (plainElem (H := Unit) Tryd.prog 3) mr wr.heap.size nr Dr (fun z => left z && !z.sameKey (.int .i64 x)) cnt1) := hrg1
          have HLt : Hid (cnt1 < cnt) := hlt1
          have HML : Hid (wx.rangeLeft mr wr.heap.size = cnt) := HRx.out.left_eq
          clear hwx hwc hlx hat hrg1 hlt1 hg1 hs1 hxk hq
          go_wp2_with fail
          go_roundw
          case rel => exact ⟨_, cnt1, by rw [HSt.out]; push_cast; rfl, HB5.out, HR5.out⟩
          case measure => rw [HR5.out.left_eq, HML.out]; exact HLt.out
end Go.Proofs.YtbholbenjalliabDoor
