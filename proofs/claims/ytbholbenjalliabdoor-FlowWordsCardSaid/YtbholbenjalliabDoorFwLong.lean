/-
  (*flow.Flow).longer by a contract: the rows of one report more, by the point ahead at their end ('RowMap', 'wsum'). Conditions: as FlSt's; there are not too many rows.
-/
import Derived.Test.YtbholbenjalliabDoorFlNew
import Derived.Test.YtbholbenjalliabDoorFwPure
import Derived.Maps.OwnOps
namespace Go.Proofs.YtbholbenjalliabDoor
open Go.RowKit Go.Extern.Stop Go.Stop Go.Extern

/-- A map's datum that holds numbers by the point ahead. -/
structure RowMap (e : EntD) (D : DataW Unit) (f : Int → Nat) : Prop where
  isMap : Maps.IsMap D
  val : ∀ a : Int, D.atKey (.int .i64 a) (.lit (.int .i64 0)) = .lit (.int .i64 (f a : Int))
  key : ∀ a : Int, Maps.has D (.int .i64 a) = true → a ∈ sts e ∧ 1 ≤ f a
theorem rowMap_nil (e : EntD) : RowMap e (.map []) (fun _ => 0) := ⟨Maps.isMap_empty, fun _ => rfl, fun a h => by simp [Maps.has] at h⟩
theorem rowMap_put {e : EntD} {D : DataW Unit} {f : Int → Nat} (h : RowMap e D f) {b : Int} (hb : b ∈ sts e) {v : Nat} (hv : 1 ≤ v) : RowMap e (D.put (.int .i64 b) (.lit (.int .i64 (v : Int)))) (put1 f b v) := by
  refine ⟨h.isMap.put _ _, fun a => ?_, fun a ha => ?_⟩
  · by_cases e1 : a = b
    · subst e1
      rw [Maps.atKey_put_same h.isMap (by trivial)]
      simp [put1]
    · rw [Maps.atKey_put_other (fun e2 => e1 (by cases e2; rfl)), h.val a]
      unfold put1
      rw [if_neg e1]
  · by_cases e1 : a = b
    · subst e1
      exact ⟨hb, by simp [put1]; exact hv⟩
    · rw [Maps.has_put_other (fun e2 => e1 (by cases e2; rfl))] at ha
      unfold put1
      rw [if_neg e1]
      exact h.key a ha
theorem rowMap_zero {e : EntD} {D : DataW Unit} {f : Int → Nat} (h : RowMap e D f) {a : Int} (ha : Maps.has D (.int .i64 a) = false) : f a = 0 := by
  have h1 := h.val a
  rw [Maps.atKey_of_not_has ha] at h1
  simp at h1
  omega
theorem left_int (left : Lit → Bool) (x : Int) : (fun a : Int => (fun z : Lit => left z && !z.sameKey (.int .i64 x)) (.int .i64 a)) = fun a => left (.int .i64 a) && !decide (a = x) := by
  funext a
  simp [Lit.sameKey]
theorem wf64_big {n : Int} (h0 : 0 ≤ n) (h1 : n ≤ 4611686018427387904) : (Lit.int .i64 n).wf = true := by
  show (decide (IntKind.min .i64 ≤ n) && decide (n ≤ IntKind.max .i64)) = true
  have e1 : IntKind.min .i64 = -9223372036854775808 := by decide
  have e2 : IntKind.max .i64 = 9223372036854775807 := by decide
  rw [e1, e2, decide_eq_true (by omega), decide_eq_true (by omega)]; rfl
theorem Tryd.zeroInt (w : World) : (zeroValue 3).run Tryd.prog w = .ok (.int .i64 0) w := by kernel_rfl
/-- A map of rows in memory. -/
def RowsAt (e : EntD) (w : World) (m : Nat) (f : Int → Nat) : Prop := ∃ n D, w.ownsMap Tryd.prog 3 (plainElem (H := Unit) Tryd.prog 3) m n D ∧ RowMap e D f ∧ n ≤ wsum (sts e) f one1
theorem RowsAt.below {e : EntD} {w w' : World} {m : Nat} {f : Int → Nat} (h : RowsAt e w m f) (hb : Below w.heap.size w w') : RowsAt e w' m f := by
  obtain ⟨n, D, h1, h2⟩ := h
  exact ⟨n, D, ownsMap_below h1 hb, h2⟩
theorem RowsAt.kept {e : EntD} {w w' : World} {m : Nat} {f : Int → Nat} {r : Option Nat} (h : RowsAt e w m f) (hg : w.grownBy w' r) (hr : some m ≠ r) : RowsAt e w' m f := by
  obtain ⟨n, D, h1, h2⟩ := h
  exact ⟨n, D, h1.kept hg hr, h2⟩
/-- What the two loops keep. -/
structure LongIn (e : EntD) (f : Int → Nat) (w wr : World) (mr r nr : Nat) (Dr : DataW Unit) (left : Lit → Bool) (cnt : Nat) (f' : Int → Nat) : Prop where
  bel : Below w.heap.size w wr
  rng : wr.ranges Tryd.prog 3 (plainElem (H := Unit) Tryd.prog 3) mr r nr Dr left cnt
  more : RowsAt e wr w.heap.size f'
theorem LongIn.below {e : EntD} {f f' : Int → Nat} {w wr w' : World} {mr r nr cnt : Nat} {Dr : DataW Unit} {left : Lit → Bool} (h : LongIn e f w wr mr r nr Dr left cnt f') (hb : Below wr.heap.size wr w') : LongIn e f w w' mr r nr Dr left cnt f' :=
  ⟨h.bel.trans (hb.mono h.bel.size), h.rng.kept (row := none) ⟨hb.os, hb.tape, hb.output, hb.size, fun k hk _ => hb.block k hk⟩ (by simp) (by simp), h.more.below hb⟩
section
variable {B b m n : Nat} {w w' : World} {e : EntD} {s : FSt} {D : DataW Unit} {fv lv : Value}
set_option maxHeartbeats 4000000 in
set_option maxRecDepth 100000 in
theorem longer_at (h : FlAt B w b e s m n D fv lv) (mr : Nat) (f : Int → Nat) (hr : RowsAt e w mr f) (hT : e.pts.length * wsum (sts e) f one1 ≤ 4611686018427387904) (hT1 : wsum (sts e) f one1 ≤ 4611686018427387904) :
    Calls Tryd.prog 18 #[.pointer (some ⟨b, 0, none⟩), .map (some mr)] w fun v w' => ∃ mw f', v = .returned (.map (some mw)) ∧ Below w.heap.size w w' ∧ RowsAt e w' mw f' ∧ ∀ g, wsum (sts e) f' g = wsum (sts e) f (fun a => pstep e a g e.pts.length) := by
  obtain ⟨nr, Dr, ho, hm, hnr⟩ := hr
  have H : Hid (FlAt B w b e s m n D fv lv) := h
  have HO : Hid (w.ownsMap Tryd.prog 3 (plainElem (H := Unit) Tryd.prog 3) mr nr Dr) := ho
  have HM : Hid (RowMap e Dr f) := hm
  have HT : Hid (∀ _ : Unit, e.pts.length * wsum (sts e) f one1 ≤ 4611686018427387904 ∧ wsum (sts e) f one1 ≤ 4611686018427387904) := fun _ => ⟨hT, hT1⟩
  clear h ho hm hnr hT hT1
  have hmk : ∀ w : World, (Instr.makeMap 51 none).run Tryd.prog w = .ok (.map (some w.heap.size)) (w.alloc (.map #[] 0)) := fun w => run_makeMap _ w
  go_enter Tryd.func18, Tryd.ntmps18
  go_upto_region 2 with fail
  clear hmk
  have HW0 : Hid (RowsAt e (w.alloc (.map #[] 0)) w.heap.size (fun _ => 0)) := ⟨0, _, World.ownsMap_made w _ _ _, rowMap_nil e, Nat.zero_le _⟩
  go_wp2_with (at_range; refine wpList_range_own _ rfl _ 51 rfl 3 3 (Maps.int_keyed Tryd.underlying3) Tryd.underlying51 _ mr nr Dr rfl (HO.out.alloc _) ?_; intro w0 hrg0 hg0 hs0)
  (try go_frame)
  have HL0 : Hid (LongIn e f w w0 mr (w.heap.size + 1) nr Dr (Maps.has Dr) (Maps.size Dr) (fun _ => 0)) := by
    have hb0 : Below (w.alloc (.map #[] 0)).heap.size (w.alloc (.map #[] 0)) w0 := below_of_grown hg0
    have hb1 : Below w.heap.size w (w.alloc (.map #[] 0)) := Below.one _ _
    refine ⟨hb1.trans (hb0.mono hb1.size), ?_, HW0.out.below hb0⟩
    have := hrg0
    rw [World.size_alloc] at this
    exact this
  clear hrg0 hg0 hs0 HW0
  rw [World.size_alloc]
  go_loopw [6, 7, 8] (fun _ _ _ wr => ∃ left cnt f', LongIn e f w wr mr (w.heap.size + 1) nr Dr left cnt f' ∧ ∀ g, wsum (sts e) f' g = wsum (sts e) (thru (fun a => left (.int .i64 a)) f) (fun a => pstep e a g e.pts.length)) (fun _ _ _ wr => wr.rangeLeft mr (w.heap.size + 1))
  case atStart =>
    refine ⟨_, _, _, HL0.out, fun g => ?_⟩
    rw [thru_all (fun a _ ha => rowMap_zero HM.out ha)]
    have := thru_all (l := sts e) (left := fun _ => false) (f := fun _ => 0) (h := g) (fun _ _ _ => rfl)
    exact this
  case round =>
    clear HL0
    obtain ⟨left, cnt, f', hL, hG⟩ := hrel
    have HL : Hid (LongIn e f w wr mr (w.heap.size + 1) nr Dr left cnt f') := hL
    have HG : Hid (∀ g, wsum (sts e) f' g = wsum (sts e) (thru (fun a => left (.int .i64 a)) f) (fun a => pstep e a g e.pts.length)) := hG
    clear hL hG
    go_wp2_with (at_next; refine wpList_next_ranges_ii _ rfl _ rfl 3 3 .i64 .i64 (Maps.int_keyed Tryd.underlying3) Tryd.underlying3 Tryd.underlying3 mr (w.heap.size + 1) nr _ _ _ rfl HL.out.rng ?_ ?_)
    · intro hc0 hl0
      have HE : Hid (∀ g, wsum (sts e) f' g = wsum (sts e) f (fun a => pstep e a g e.pts.length)) := fun g => by rw [HG.out g, thru_none (fun a _ => hl0 _)]
      clear hc0 hl0
      go_wp2
      go_ret
      exact ⟨_, f', rfl, HL.out.bel, HL.out.more, HE.out⟩
    · intro x c w1 cnt1 hwx hwc hlx hat hrg1 hlt hg1 hs1 hen
      obtain rfl : c = (f x : Int) := by
        have h1 := hat (.lit (.int .i64 0))
        rw [HM.out.val x] at h1
        simpa using h1.symm
      have hxk := HM.out.key x (Maps.has_true_of_atKey hat)
      have HX : Hid (x ∈ sts e ∧ 1 ≤ f x) := hxk
      have HLx : Hid (left (.int .i64 x) = true) := hlx
      have HLt : Hid (cnt1 < cnt) := hlt
      have HL1 : Hid (LongIn e f w w1 mr (w.heap.size + 1) nr Dr (fun z => left z && !z.sameKey (.int .i64 x)) cnt1 f') :=
        ⟨below_grown HL.out.bel hg1 HL.out.bel.size (by omega), hrg1, HL.out.more.kept hg1 (by simp)⟩
      have HRoom : Hid (∀ c, c ≤ pstep e x one1 e.pts.length → wsum (sts e) f' one1 + f x * c ≤ 4611686018427387904) := fun c hc => by
        have h1 := thru_room (f := f) (h := fun a => pstep e a one1 e.pts.length) (sts_nodup e) hxk.1 (left := fun a => left (.int .i64 a)) hlx hc
        rw [← HG.out one1] at h1
        have h2 : wsum (sts e) f (fun a => pstep e a one1 e.pts.length) ≤ wsum (sts e) f (fun a => e.pts.length * one1 a) := wsum_le (fun _ _ => Nat.le_refl _) (fun a _ => by
          have := pstep_le e a one1 1 (fun _ => Nat.le_refl _) e.pts.length
          simpa [one1] using this)
        rw [wsum_scale] at h2
        have h3 := (HT.out ()).1
        omega
      have HNq : Hid (∀ k, k ≤ e.pts.length → wsum (sts e) f' one1 + f x * pstep e x one1 k ≤ 4611686018427387904) := fun k hk => HRoom.out _ (pstep_mono e x one1 hk)
      have f1 : f x ≤ 4611686018427387904 := Nat.le_trans (le_wsum f hxk.1) (HT.out ()).2
      have HF1 : Hid (∀ _ : Unit, f x ≤ 4611686018427387904) := fun _ => f1
      have HStep : Hid (∀ fe, (∀ g, wsum (sts e) fe g = wsum (sts e) f' g + f x * pstep e x g e.pts.length) → ∀ g, wsum (sts e) fe g = wsum (sts e) (thru (fun a => (fun z => left z && !z.sameKey (.int .i64 x)) (Lit.int .i64 a)) f) (fun a => pstep e a g e.pts.length)) := fun fe hfe g => by
        rw [hfe g, HG.out g, left_int, thru_step (sts_nodup e) hxk.1 (left := fun a => left (.int .i64 a)) hlx]
      have HML : Hid (wr.rangeLeft mr (w.heap.size + 1) = cnt) := HL.out.rng.left_eq
      have c0 := (H.out.below HL1.out.bel).cell 0 _ rfl
      clear hat hrg1 hlt hg1 hs1 hwx hwc hlx hxk f1 HL HG
      go_upto_region 5 with fail
      clear hen
      go_cut [17, 18, 19, 20, 21] (fun _ _ _ p i wx => p = .int .i64 (e.pts.length : Int) ∧ i = .int .i64 0 ∧ wx = w1)
      case first =>
        go_wp2_with fail
        go_meet
        case rel => exact ⟨rfl, rfl, rfl⟩
      obtain ⟨rfl, rfl, rfl⟩ := hcut
      rename World => w1
      clear c0
      go_wp2_with fail
      go_loopw [8, 21] (fun _ i wx => ∃ (k : Nat) (fe : Int → Nat), k ≤ e.pts.length ∧ i = .int .i64 k ∧ LongIn e f w wx mr (w.heap.size + 1) nr Dr (fun z => left z && !z.sameKey (.int .i64 x)) cnt1 fe ∧ ∀ g, wsum (sts e) fe g = wsum (sts e) f' g + f x * pstep e x g k) (fun _ i _ => e.pts.length - (intOf i).toNat)
      case atStart => exact ⟨0, f', Nat.zero_le _, rfl, HL1.out, fun g => by simp [pstep]⟩
      case round =>
        clear HL1
        obtain ⟨k, fe, hk, rfl, hLe, hGe⟩ := hrel
        rename World => wx
        have HLe : Hid (LongIn e f w wx mr (w.heap.size + 1) nr Dr (fun z => left z && !z.sameKey (.int .i64 x)) cnt1 fe) := hLe
        have HGe : Hid (∀ g, wsum (sts e) fe g = wsum (sts e) f' g + f x * pstep e x g k) := hGe
        clear hLe hGe
        by_cases hkl : k < e.pts.length
        · have k1 : (k : Int) < (e.pts.length : Int) := by omega
          have k2 : k < 1000000 := by have := H.out.sm.hp; omega
          cases hbr : bearsE e x (k : Int)
          · have HN : Hid (∀ g, wsum (sts e) fe g = wsum (sts e) f' g + f x * pstep e x g (k + 1)) := fun g => by rw [HGe.out g, pstep_succ, hbr]; simp
            go_wp2_with (go_at_call 16; refine (fl_bears x (k : Int) (H.out.below HLe.out.bel) ((mem_sts e x).1 HX.out.1)).mono ?_; rw [hbr]; rintro v w2 ⟨rfl, hg2⟩; have HL2 : Hid (LongIn e f w w2 mr (w.heap.size + 1) nr Dr (fun z => left z && !z.sameKey (.int .i64 x)) cnt1 fe) := HLe.out.below (below_of_grown hg2); clear hg2)
            go_roundw
            case rel => exact ⟨k + 1, fe, by omega, by go_num, HL2.out, HN.out⟩
            case measure => simp [intOf]; omega
          · have HS1 : Hid (∀ g, pstep e x g (k + 1) = pstep e x g k + g (behindE e (k : Int))) := fun g => by rw [pstep_succ, hbr]; rfl
            obtain ⟨bb, hbb⟩ : ∃ bb, bb = behindE e (k : Int) := ⟨_, rfl⟩
            have HBB : Hid (bb = behindE e (k : Int)) := hbb
            have HBs : Hid (bb ∈ sts e) := by show _ ∈ _; rw [hbb]; exact behind_sts e _
            have HBw : Hid (wf64 bb) := ah_wf ((mem_sts e bb).1 HBs.out) H.out.sm.hp
            have hR := HRoom.out (pstep e x one1 (k + 1)) (pstep_mono e x one1 (by omega))
            have hF1 := le_wsum fe HBs.out
            have hfe1 : fe bb + f x ≤ 4611686018427387904 := by
              have h1 := HGe.out one1
              rw [HS1.out one1, Nat.mul_add, show one1 (behindE e (k : Int)) = 1 from rfl, Nat.mul_one] at hR
              omega
            have HFe : Hid (∀ _ : Unit, fe bb + f x ≤ 4611686018427387904) := fun _ => hfe1
            have HN : Hid (∀ g, wsum (sts e) (put1 fe bb (fe bb + f x)) g = wsum (sts e) f' g + f x * pstep e x g (k + 1)) := fun g => by rw [wsum_put (sts_nodup e) _ _ HBs.out, HGe.out g, HS1.out g, hbb, Nat.mul_add]; omega
            clear hR hF1 hfe1 HRoom hbb
            go_upto_region 9 with (go_at_call 16; refine (fl_bears x (k : Int) (H.out.below HLe.out.bel) ((mem_sts e x).1 HX.out.1)).mono ?_; rw [hbr]; rintro v w2 ⟨rfl, hg2⟩; have HL2 : Hid (LongIn e f w w2 mr (w.heap.size + 1) nr Dr (fun z => left z && !z.sameKey (.int .i64 x)) cnt1 fe) := HLe.out.below (below_of_grown hg2); clear hg2)
            obtain ⟨nn, DD, hown, hrm, hnn⟩ := id HL2.out.more
            have HOw : Hid (w2.ownsMap Tryd.prog 3 (plainElem (H := Unit) Tryd.prog 3) w.heap.size nn DD) := hown
            have HRm : Hid (RowMap e DD fe) := hrm
            have HNn : Hid (nn ≤ wsum (sts e) fe one1 ∧ nn < maxLen) := ⟨hnn, by
              have h1 := HGe.out one1
              have h2 := HNq.out k (by omega)
              unfold maxLen
              omega⟩
            clear hown hrm hnn
            obtain ⟨c2, hlk, hat2, -⟩ := HOw.out.lookup_int (Maps.int_keyed Tryd.underlying3) Tryd.underlying51 Tryd.underlying3 (Tryd.zeroInt _) (Maps.keyOf_int_mk Tryd.underlying3 HBw.out)
            obtain rfl : c2 = (fe bb : Int) := by rw [HRm.out.val bb] at hat2; simpa using hat2.symm
            obtain ⟨w3, hup, hown3, hg3⟩ := HOw.out.update (Maps.int_keyed Tryd.underlying3) Tryd.underlying51 HNn.out.2 (Maps.keyOf_int_mk Tryd.underlying3 HBw.out) (plainElem_int (H := Unit) Tryd.underlying3 (a := ((fe bb + f x : Nat) : Int)) (wf64_big (by omega) (by have := HFe.out (); omega)))
            rw [show ((fe bb + f x : Nat) : Int) = (fe bb : Int) + (f x : Int) by omega] at hup
            have HO3 : Hid (w3.ownsMap Tryd.prog 3 (plainElem (H := Unit) Tryd.prog 3) w.heap.size (nn + 1) (DD.put (.int .i64 bb) (.lit (.int .i64 ((fe bb + f x : Nat) : Int))))) := hown3
            have HG3 : Hid (w2.grownBy w3 (some w.heap.size)) := hg3
            have q0 : (fe bb : Int) + (f x : Int) ≤ 4611686018427387904 := by have := HFe.out (); omega
            clear hat2 hown3 hg3
            have HBe : Hid _ := fl_behind (k : Int) (H.out.below HL2.out.bel)
            rw [← HBB.out] at HBe
            go_wp2_with (go_at_call 17; refine Calls.mono HBe.out ?_; rintro v w2' ⟨rfl, rfl⟩)
            have hown3 := HO3.out
            have hg3 := HG3.out
            have HL3 : Hid (LongIn e f w w3 mr (w.heap.size + 1) nr Dr (fun z => left z && !z.sameKey (.int .i64 x)) cnt1 (put1 fe bb (fe bb + f x))) := by
              refine ⟨below_grown HL2.out.bel hg3 HL2.out.bel.size (Nat.le_refl _), HL2.out.rng.kept hg3 ?_ (by simp), nn + 1, _, hown3, rowMap_put HRm.out HBs.out (by have := HX.out.2; omega), ?_⟩
              · intro e2
                cases e2
                exact absurd HO.out.lt (Nat.lt_irrefl _)
              · have h1 := wsum_put (sts_nodup e) fe one1 HBs.out (f x)
                have h2 := HX.out.2
                have h3 := HNn.out.1
                rw [show one1 bb = 1 from rfl, Nat.mul_one] at h1
                omega
            clear hown3 hg3 HL2 HOw HRm HNn
            go_roundw
            case rel => exact ⟨k + 1, _, by omega, by go_num, HL3.out, HN.out⟩
            case measure => simp [intOf]; omega
        · have k1 : ¬ (k : Int) < (e.pts.length : Int) := by omega
          have hkk : k = e.pts.length := by omega
          have HN : Hid (∀ g, wsum (sts e) fe g = wsum (sts e) (thru (fun a => (fun z => left z && !z.sameKey (.int .i64 x)) (Lit.int .i64 a)) f) (fun a => pstep e a g e.pts.length)) := HStep.out fe (fun g => by rw [HGe.out g, hkk])
          go_wp2_with fail
          go_roundw
          case rel => exact ⟨_, cnt1, fe, HLe.out, HN.out⟩
          case measure => rw [HLe.out.rng.left_eq, HML.out]; exact HLt.out
end
end Go.Proofs.YtbholbenjalliabDoor
