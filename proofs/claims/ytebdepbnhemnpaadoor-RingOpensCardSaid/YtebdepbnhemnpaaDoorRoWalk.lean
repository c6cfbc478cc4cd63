/-
  RingOpens, walked: it answers yes. Conditions: the sentinels lie in memory.
-/
import Derived.Test.YtebdepbnhemnpaaDoorRefRecs
import Derived.Test.YtebdepbnhemnpaaDoorRingLogged
import Derived.Test.YtebdepbnhemnpaaDoorBoth
import Derived.Deep.DeepCutAuto
import Derived.Test.YtebdepbnhemnpaaDoorOrders
namespace Go.Proofs.YtebdepbnhemnpaaDoor
open Go.RowKit Go.Extern.Stop Go.Stop Go.Extern

theorem text_bytes (T : ByteArray) : openL (CSt.ofText T.data.toList).bytes = (if 153 ≤ T.size then openL T.data.toList else openL (CSt.ofText T.data.toList).bytes) := by
  by_cases hs : 153 ≤ T.size
  · rw [if_pos hs]
    unfold openL
    have : (CSt.ofText T.data.toList).bytes.take 153 = T.data.toList.take 153 := by
      show (T.data.toList ++ zeros _).take 153 = _
      rw [List.take_append_of_le_length (by simpa using hs)]
    rw [this]
  · rw [if_neg hs]
theorem text_take (T : ByteArray) : (⟨((CSt.ofText T.data.toList).bytes.take (CSt.ofText T.data.toList).size).toArray⟩ : ByteArray) = T := by
  apply ByteArray.ext
  apply Array.toList_inj.1
  show (T.data.toList ++ zeros _).take T.data.toList.length = _
  rw [List.take_left]
theorem newestL_len (L : List Rec) : (newestL L).length ≤ 8 := by unfold newestL; rw [List.length_reverse]; exact chain_len L 8 _

theorem StepOk.no {P : Program} {md : Region.Mode} {ops : Array Oper} {S : Nat → Value → World → Prop} {C : World → Prop} {a0 : Act} {i g : Nat} {o : Oper} {want : Bool} {d : Tmp} (hg : o.guard = some (g, want)) (hdg : dstOf ops g = some d)
    (hno : ∀ (a : Act) (w : World), C w → (∀ e d, e ∈ o.after → Region.binds md e = true → dstOf ops e.on = some d → S e.on (a.eval (.tmp d)) w) → a.eval (.tmp d) = .bool (!want)) (hS : ∀ w, C w → S i undef w) :
    StepOk P md ops S C a0 i o := by
  intro a w hC _ hdep hoth
  have hv := hno a w hC hdep
  have hw : ¬ Region.wanted o (yielded ops a.tmps) = true := by
    unfold Region.wanted
    rw [hg]
    have : yielded ops a.tmps g = some (!want) := by
      unfold yielded
      rw [show (ops[g]?).bind (·.dst) = some d from hdg]
      simp only [Act.eval, Array.getD_eq_getD_getElem?] at hv
      cases ht : a.tmps[d]? with
      | none => rw [ht] at hv; cases hv
      | some x => rw [ht] at hv; simp only [Option.getD_some] at hv; subst hv; simp [ht]
    simp [this]
  rw [if_neg hw]
  exact hS w hC

def roE (rb : Nat) (sa : Option Addr) (c : Nat) (L : List Rec) : Nat → Value → World → Prop
  | 0 => fun v _ => v = .pointer (some ⟨rb, 0, .none⟩)
  | 1 => fun v w => ∃ sb cb, v = .slice sb 0 cb ∧ Reads w sb L
  | 2 => fun v _ => v = .slice sa 0 c
  | 3 => fun v _ => v = .bool true
  | 4 => fun v _ => v = .bool true
  | 5 => fun v _ => v = .bool false
  | 6 => fun v _ => v = .slice sa 0 c
  | 7 => fun v _ => v = .int .i64 0
  | 8 => fun v _ => v = .bool false
  | 9 => fun v _ => v = .bool true
  | 10 => fun v _ => v = .bool true
  | 11 => fun v _ => v = .bool true
  | 12 => fun v _ => v = .bool false
  | 13 => fun v _ => v = .bool true
  | 14 => fun v _ => v = .bool true
  | 15 => fun _ _ => True
  | 16 => fun _ _ => True
  | 17 => fun _ _ => True
  | 18 => fun _ _ => True
  | 19 => fun _ _ => True
  | 20 => fun _ _ => True
  | 21 => fun _ _ => True
  | 22 => fun _ _ => True
  | 23 => fun v _ => v = .bool true
  | 24 => fun v _ => v = .bool true
  | 25 => fun v _ => v = .bool true
  | _ => fun _ _ => True
theorem roE_keeps {rb : Nat} {sa : Option Addr} {c : Nat} {L : List Rec} {w w' : World} (hb : Below w.heap.size w w') : ∀ j v, roE rb sa c L j v w → roE rb sa c L j v w' := by
  intro j v h
  match j, h with
  | 0, h => exact h
  | 1, h => exact ⟨h.choose, h.choose_spec.choose, h.choose_spec.choose_spec.1, h.choose_spec.choose_spec.2.below hb⟩
  | 2, h => exact h
  | 3, h => exact h
  | 4, h => exact h
  | 5, h => exact h
  | 6, h => exact h
  | 7, h => exact h
  | 8, h => exact h
  | 9, h => exact h
  | 10, h => exact h
  | 11, h => exact h
  | 12, h => exact h
  | 13, h => exact h
  | 14, h => exact h
  | 15, h => exact h
  | 16, h => exact h
  | 17, h => exact h
  | 18, h => exact h
  | 19, h => exact h
  | 20, h => exact h
  | 21, h => exact h
  | 22, h => exact h
  | 23, h => exact h
  | 24, h => exact h
  | 25, h => exact h
  | n + 26, h => exact h

def roF (rb g c n : Nat) (x : Rec) (L : List Rec) : Nat → Value → World → Prop
  | 0 => fun v _ => v = .pointer (some ⟨rb, 0, .none⟩)
  | 1 => fun v w => ∃ sb cb, v = .slice sb (n + 1) cb ∧ Reads w sb L
  | 2 => fun v _ => v = .slice (some ⟨g, 0, .none⟩) (n + 1) c
  | 3 => fun v _ => v = .bool true
  | 4 => fun v _ => v = .bool true
  | 5 => fun v _ => v = .bool true
  | 6 => fun v _ => v = .slice (some ⟨g, 0, .none⟩) (n + 1) c
  | 7 => fun v _ => v = .int .i64 ((n : Int) + 1)
  | 8 => fun v _ => v = .bool true
  | 9 => fun v _ => v = .bool true
  | 10 => fun v _ => v = .bool true
  | 11 => fun v _ => v = .bool true
  | 12 => fun v _ => v = .bool true
  | 13 => fun v _ => v = .bool false
  | 14 => fun v _ => v = .bool false
  | 15 => fun v _ => v = .agg #[.int .i64 (x.seq : Int), .int .i64 (x.ent : Int), .int .i64 (x.kind : Int), .int .i64 (x.tick : Int)]
  | 16 => fun v _ => v = .slice (some ⟨g, 0, .none⟩) (n + 1) c
  | 17 => fun v _ => v = .slice (some ⟨g, 0, .none⟩) (n + 1) c
  | 18 => fun v _ => v = .int .i64 ((n : Int) + 1)
  | 19 => fun v _ => v = .int .i64 (n : Int)
  | 20 => fun v _ => v = .pointer (some ⟨g, n * 4, .none⟩)
  | 21 => fun v _ => v = .agg #[.int .i64 (x.seq : Int), .int .i64 (x.ent : Int), .int .i64 (x.kind : Int), .int .i64 (x.tick : Int)]
  | 22 => fun v _ => v = .bool true
  | 23 => fun v _ => v = .bool true
  | 24 => fun v _ => v = .bool true
  | 25 => fun v _ => v = .bool true
  | _ => fun _ _ => True
theorem roF_keeps {rb g c n : Nat} {x : Rec} {L : List Rec} {w w' : World} (hb : Below w.heap.size w w') : ∀ j v, roF rb g c n x L j v w → roF rb g c n x L j v w' := by
  intro j v h
  match j, h with
  | 0, h => exact h
  | 1, h => exact ⟨h.choose, h.choose_spec.choose, h.choose_spec.choose_spec.1, h.choose_spec.choose_spec.2.below hb⟩
  | 2, h => exact h
  | 3, h => exact h
  | 4, h => exact h
  | 5, h => exact h
  | 6, h => exact h
  | 7, h => exact h
  | 8, h => exact h
  | 9, h => exact h
  | 10, h => exact h
  | 11, h => exact h
  | 12, h => exact h
  | 13, h => exact h
  | 14, h => exact h
  | 15, h => exact h
  | 16, h => exact h
  | 17, h => exact h
  | 18, h => exact h
  | 19, h => exact h
  | 20, h => exact h
  | 21, h => exact h
  | 22, h => exact h
  | 23, h => exact h
  | 24, h => exact h
  | 25, h => exact h
  | n + 26, h => exact h

set_option maxRecDepth 100000 in
set_option maxHeartbeats 4000000 in
theorem ringOpens_in (A : Nat → Addr) (T : ByteArray) (w : World) (hs : Senv A w) (h300 : T.size ≤ 300) :
    Calls Tryd.prog 6 #[.string T] w fun e w' => e = .returned (.bool true) ∧ Below w.heap.size w w' := by
  have h300' : ¬ 300 < (T.size : Int) := by omega
  have hgm := hs.gm
  go_enter Tryd.func6, Tryd.ntmps6
  go_wp2_with fail
  refine (logged_any A w hs.four (by omega)).mono ?_
  rintro e w1 ⟨rfl, b1⟩
  have hs1 := hs.below b1
  go_wp2_with fail
  refine (open_nil A w1 hs1.four).mono ?_
  rintro e w2 ⟨rfl, hb2⟩
  have b2 := b1.trans (hb2.mono b1.size)
  have hs2 := hs.below b2
  unfold errVal
  go_wp2_with fail
  refine (coded_same A 3 w2 hs2 (by decide)).mono ?_
  rintro e w3 ⟨rfl, hb3⟩
  have b3 := b2.trans (hb3.mono b2.size)
  have hs3 := hs.below b3
  go_wp2_with fail
  refine (from_in T w3 (by omega)).mono ?_
  rintro e w4 ⟨rfl, hb4, C4⟩
  have b4 := b3.trans (hb4.mono b3.size)
  have hs4 := hs.below b4
  by_cases h153 : T.size < 153
  · have h153' : (T.size : Int) < 153 := by omega
    have he : (CSt.ofText T.data.toList).err 0 153 = 1 + 1 := by
      unfold CSt.err
      rw [if_pos]
      right; right
      show ((T.data.toList.length : Nat) : Int) - 0 < 153
      simp; omega
    have HN : Hid _ := open_no A w3.heap.size _ 1 w4 C4 hs4.four he
    clear he
    go_wp2_with fail
    refine Calls.mono HN.out ?_
    rintro e w5 ⟨rfl, hb5⟩
    have b5 := b4.trans (hb5.mono b4.size)
    unfold errVal
    go_wp2_with fail
    refine (coded_same A 2 w5 (hs.below b5) (by decide)).mono ?_
    rintro e w6 ⟨rfl, hb6⟩
    go_wp2
    go_ret
    exact ⟨rfl, b5.trans (hb6.mono b5.size)⟩
  · have h153' : ¬ (T.size : Int) < 153 := by omega
    have he : (CSt.ofText T.data.toList).err 0 153 = 0 := by
      unfold CSt.err
      rw [if_neg]
      · rfl
      · show ¬ ((0 : Int) < 0 ∨ (153 : Int) < 0 ∨ ((T.data.toList.length : Nat) : Int) - 0 < 153)
        simp; omega
    have HTB : Hid (openL (CSt.ofText T.data.toList).bytes = openL T.data.toList) := by
      show _ = _
      rw [text_bytes T, if_pos (by omega)]
    have HTT : Hid _ := text_take T
    have HTW : Hid ((CSt.ofText T.data.toList).written = 0) := rfl
    have HN : Hid _ := open_on A w3.heap.size _ w4 C4 hs4.four he
    clear he
    generalize CSt.ofText T.data.toList = s at *
    have C4h : Hid _ := C4
    clear C4 hs1 hs2 hs3 hs4 b1 b2 b3 hb2 hb3 hb4
    go_wp2_with fail
    refine Calls.mono HN.out ?_
    rintro e w5 ⟨rb, v, rfl, R5, hb5⟩
    rw [HTB.out] at R5
    have b5 := b4.trans (hb5.mono b4.size)
    have C5 : Hid _ := C4h.out.below hb5
    have R5h : Hid _ := R5
    have H1 : Hid (153 ≤ (T.size : Int)) := by show 153 ≤ (T.size : Int); omega
    clear R5 h300 h153 h300' hgm HTB HN
    go_upto_region 13 with fail
    clear h153'
    go_wp2_with fail
    refine (bytes_any w3.heap.size _ w5 C5.out).mono ?_
    rintro e w6 ⟨rfl, q6, rfl⟩
    rw [HTT.out]
    have C6 : Hid _ := C5.out.drewN q6
    go_wp2_with fail
    refine (written_any w3.heap.size _ (w5.drewN q6) C6.out).mono ?_
    rintro e w7 ⟨rfl, rfl⟩
    rw [HTW.out]
    have b6 : Below w.heap.size w (w5.drewN q6) := below_drewN b5 _
    have R6 := R5h.out.below (below_drewN (Below.refl w5.heap.size w5) q6)
    generalize w5.drewN q6 = W at *
    go_wp2_with fail
    refine (recordsOf_any T W H1.out).mono ?_
    rintro e w8 ⟨v8, rfl, r8, hb8⟩
    have R8 := R6.below hb8
    have b8 := b6.trans (hb8.mono b6.size)
    have hl8 : (openL T.data.toList).length ≤ 8 := newestL_len _
    generalize openL T.data.toList = L at *
    go_wp2_with fail
    refine (last_any _ rb _ v L false w8 R8 (by omega)).mono ?_
    rintro e w9 ⟨rfl, hb9⟩
    have R9 := R8.below hb9
    have r9 := r8.below hb9 (Nat.le_refl _)
    have b9 := b8.trans (hb9.mono b8.size)
    have HSame : Hid (∀ (sa sb : Option Addr) (ca cb m : Nat) (w' : World), m = L.length → Reads w' sa L → Reads w' sb L → Calls Tryd.prog 36 #[.slice sa m ca, .slice sb m cb] w' fun e w'' => e = .returned (.bool true) ∧ Below w'.heap.size w' w'') := fun sa sb ca cb m w' hm h1 h2 => by
      subst hm
      exact same_any sa sb ca cb L w' h1 h2 (by omega)
    have HRec : Hid (∀ (m : Nat) (w' : World), m = L.length → RingAt w' w4.heap.size rb w3.heap.size v L false → Calls Tryd.prog 37 #[.pointer (some ⟨rb, 0, .none⟩)] w' fun e w'' => ∃ sb cb, e = .returned (.slice sb m cb) ∧ Reads w'' sb L ∧ Below w'.heap.size w' w'') := fun m w' hm hr => by
      subst hm
      refine (records_any w4.heap.size rb w3.heap.size v L false w' hr (by omega)).mono ?_
      rintro e w'' ⟨v', rfl, r', hb'⟩
      obtain ⟨sb, cb, rfl⟩ := r'.len
      exact ⟨sb, cb, rfl, r'.reads.1, hb'⟩
    obtain ⟨x, hx⟩ : ∃ x, lastR L = x := ⟨_, rfl⟩
    rw [hx]
    have B10 := (Below.refl w9.heap.size w9).alloc (Nat.le_refl _) (.cells #[.int .i64 (x.seq : Int), .int .i64 (x.ent : Int), .int .i64 (x.kind : Int), .int .i64 (x.tick : Int)] 64)
    have X10 := RecRow.new w9 x
    obtain ⟨W10, hW10⟩ : ∃ W10, w9.alloc (.cells #[.int .i64 (x.seq : Int), .int .i64 (x.ent : Int), .int .i64 (x.kind : Int), .int .i64 (x.tick : Int)] 64) = W10 := ⟨_, rfl⟩
    rw [hW10] at B10 X10
    have HW : Hid _ := hW10
    have R10 := R9.below B10
    have r10 := r9.below B10 (Nat.le_refl _)
    have b10 := b9.trans (B10.mono b9.size)
    have R10d : Hid (RingAt W10.drew w4.heap.size rb w3.heap.size v L false) := R10.below ((Below.refl _ _).drew)
    clear hW10 R9 R8 R6 r8 hb8 hb9 b8 B10 r9
    unfold Rec.val
    by_cases hL : L = []
    · as_aux_lemma =>
      subst hL
      obtain ⟨sa, c, rfl⟩ := r10.len
      have rd10 : Reads W10 sa [] := ⟨fun h => absurd rfl h⟩
      have hD : Hid (decide (0 < ([] : List Rec).length) = false) := rfl
      clear r10
      rw [hD.out]
      go_upto_region 17 with fail
      rw [HW.out]
      refine region_spec 26 rfl (roE rb sa c []) (fun w' => Below W10.heap.size W10 w') (by kernel_rfl) (by kernel_rfl) ((Below.refl _ _).drew) ?_ ?_
      · intro i o ho
        match i, ho with
        | 0, ho =>
          obtain rfl := Option.some.inj ho
          refine StepOk.free rfl ?_
          intro a w hC hdep hoth
          have x8 : a.tmps[8]?.getD undef = .pointer (some ⟨rb, 0, .none⟩) := slot_of (hoth 8 (notDst (by kernel_rfl)))
          exact goodRun.val (c := .pointer (some ⟨rb, 0, .none⟩)) (by clear hdep hoth; go_simp) hC rfl
        | 1, ho =>
          obtain rfl := Option.some.inj ho
          refine StepOk.free rfl ?_
          intro a w hC hdep hoth
          have x81 : a.tmps[81]?.getD undef = .pointer (some ⟨rb, 0, .none⟩) := slot_of (hdep _ 81 (Array.mem_of_getElem? (i := 0) rfl) rfl rfl)
          refine goodRun.call (f := 37) (args := #[.pointer (some ⟨rb, 0, .none⟩)]) (by clear hdep hoth; go_simp) ?_
          refine Calls.mono (HRec.out 0 w rfl (R10.below hC)) ?_
          rintro e w' ⟨sb, cb, rfl, r11, hb11⟩
          exact ⟨_, rfl, hC.trans (hb11.mono hC.size), roE_keeps hb11, sb, cb, rfl, r11⟩
        | 2, ho =>
          obtain rfl := Option.some.inj ho
          refine StepOk.free rfl ?_
          intro a w hC hdep hoth
          have x9 : a.tmps[9]?.getD undef = .slice sa 0 c := slot_of (hoth 9 (notDst (by kernel_rfl)))
          exact goodRun.val (c := .slice sa 0 c) (by clear hdep hoth; go_simp) hC rfl
        | 3, ho =>
          obtain rfl := Option.some.inj ho
          refine StepOk.free rfl ?_
          intro a w hC hdep hoth
          obtain ⟨sb, cb, hv, hr⟩ := hdep _ 82 (Array.mem_of_getElem? (i := 0) rfl) rfl rfl
          have x82 := slot_of hv
          have x83 : a.tmps[83]?.getD undef = .slice sa 0 c := slot_of (hdep _ 83 (Array.mem_of_getElem? (i := 1) rfl) rfl rfl)
          refine goodRun.call (f := 36) (args := #[.slice sb 0 cb, .slice sa 0 c]) (by clear hdep hoth; go_simp) ?_
          refine Calls.mono (HSame.out sb sa cb c 0 w rfl hr (rd10.below hC)) ?_
          rintro e w' ⟨rfl, hb12⟩
          exact ⟨_, rfl, hC.trans (hb12.mono hC.size), roE_keeps hb12, rfl⟩
        | 4, ho =>
          obtain rfl := Option.some.inj ho
          refine StepOk.free rfl ?_
          intro a w hC hdep hoth
          have x84 : a.tmps[84]?.getD undef = .bool true := slot_of (hdep _ 84 (Array.mem_of_getElem? (i := 0) rfl) rfl rfl)
          exact goodRun.val (c := .bool true) (by clear hdep hoth; go_simp) hC rfl
        | 5, ho =>
          obtain rfl := Option.some.inj ho
          refine StepOk.yes (g := 4) (d := 85) rfl rfl (fun a w hC hdep => hdep _ 85 (Array.mem_of_getElem? (i := 0) rfl) rfl rfl) ?_
          intro a w hC hdep hoth
          have x11 : a.tmps[11]?.getD undef = .bool false := slot_of (hoth 11 (notDst (by kernel_rfl)))
          exact goodRun.val (c := .bool false) (by clear hdep hoth; go_simp) hC rfl
        | 6, ho =>
          obtain rfl := Option.some.inj ho
          refine StepOk.yes (g := 4) (d := 85) rfl rfl (fun a w hC hdep => hdep _ 85 (Array.mem_of_getElem? (i := 0) rfl) rfl rfl) ?_
          intro a w hC hdep hoth
          have x9 : a.tmps[9]?.getD undef = .slice sa 0 c := slot_of (hoth 9 (notDst (by kernel_rfl)))
          exact goodRun.val (c := .slice sa 0 c) (by clear hdep hoth; go_simp) hC rfl
        | 7, ho =>
          obtain rfl := Option.some.inj ho
          refine StepOk.yes (g := 4) (d := 85) rfl rfl (fun a w hC hdep => hdep _ 85 (Array.mem_of_getElem? (i := 1) rfl) rfl rfl) ?_
          intro a w hC hdep hoth
          have x87 : a.tmps[87]?.getD undef = .slice sa 0 c := slot_of (hdep _ 87 (Array.mem_of_getElem? (i := 0) rfl) rfl rfl)
          exact goodRun.val (c := .int .i64 0) (by clear hdep hoth; go_simp) hC rfl
        | 8, ho =>
          obtain rfl := Option.some.inj ho
          refine StepOk.yes (g := 4) (d := 85) rfl rfl (fun a w hC hdep => hdep _ 85 (Array.mem_of_getElem? (i := 1) rfl) rfl rfl) ?_
          intro a w hC hdep hoth
          have x88 : a.tmps[88]?.getD undef = .int .i64 0 := slot_of (hdep _ 88 (Array.mem_of_getElem? (i := 0) rfl) rfl rfl)
          exact goodRun.val (c := .bool false) (by clear hdep hoth; go_simp) hC rfl
        | 9, ho =>
          obtain rfl := Option.some.inj ho
          refine StepOk.yes (g := 4) (d := 85) rfl rfl (fun a w hC hdep => hdep _ 85 (Array.mem_of_getElem? (i := 2) rfl) rfl rfl) ?_
          intro a w hC hdep hoth
          have x86 : a.tmps[86]?.getD undef = .bool false := slot_of (hdep _ 86 (Array.mem_of_getElem? (i := 0) rfl) rfl rfl)
          have x89 : a.tmps[89]?.getD undef = .bool false := slot_of (hdep _ 89 (Array.mem_of_getElem? (i := 1) rfl) rfl rfl)
          exact goodRun.val (c := .bool true) (by clear hdep hoth; go_simp) hC rfl
        | 10, ho =>
          obtain rfl := Option.some.inj ho
          refine StepOk.free rfl ?_
          intro a w hC hdep hoth
          have x85 : a.tmps[85]?.getD undef = .bool true := slot_of (hdep _ 85 (Array.mem_of_getElem? (i := 0) rfl) rfl rfl)
          have x90 : a.tmps[90]?.getD undef = .bool true := slot_of (hdep _ 90 (Array.mem_of_getElem? (i := 1) rfl) rfl rfl)
          exact goodRun.val (c := .bool true) (by clear hdep hoth; go_simp) hC rfl
        | 11, ho =>
          obtain rfl := Option.some.inj ho
          refine StepOk.free rfl ?_
          intro a w hC hdep hoth
          have x91 : a.tmps[91]?.getD undef = .bool true := slot_of (hdep _ 91 (Array.mem_of_getElem? (i := 0) rfl) rfl rfl)
          exact goodRun.val (c := .bool true) (by clear hdep hoth; go_simp) hC rfl
        | 12, ho =>
          obtain rfl := Option.some.inj ho
          refine StepOk.yes (g := 11) (d := 92) rfl rfl (fun a w hC hdep => hdep _ 92 (Array.mem_of_getElem? (i := 0) rfl) rfl rfl) ?_
          intro a w hC hdep hoth
          have x11 : a.tmps[11]?.getD undef = .bool false := slot_of (hoth 11 (notDst (by kernel_rfl)))
          exact goodRun.val (c := .bool false) (by clear hdep hoth; go_simp) hC rfl
        | 13, ho =>
          obtain rfl := Option.some.inj ho
          refine StepOk.yes (g := 11) (d := 92) rfl rfl (fun a w hC hdep => hdep _ 92 (Array.mem_of_getElem? (i := 1) rfl) rfl rfl) ?_
          intro a w hC hdep hoth
          have x93 : a.tmps[93]?.getD undef = .bool false := slot_of (hdep _ 93 (Array.mem_of_getElem? (i := 0) rfl) rfl rfl)
          exact goodRun.val (c := .bool true) (by clear hdep hoth; go_simp) hC rfl
        | 14, ho =>
          obtain rfl := Option.some.inj ho
          refine StepOk.yes (g := 11) (d := 92) rfl rfl (fun a w hC hdep => hdep _ 92 (Array.mem_of_getElem? (i := 1) rfl) rfl rfl) ?_
          intro a w hC hdep hoth
          have x94 : a.tmps[94]?.getD undef = .bool true := slot_of (hdep _ 94 (Array.mem_of_getElem? (i := 0) rfl) rfl rfl)
          exact goodRun.val (c := .bool true) (by clear hdep hoth; go_simp) hC rfl
        | 15, ho =>
          obtain rfl := Option.some.inj ho
          exact StepOk.no (g := 14) (d := 95) rfl rfl (fun a w hC hdep => hdep _ 95 (Array.mem_of_getElem? (i := 0) rfl) rfl rfl) (fun w hC => trivial)
        | 16, ho =>
          obtain rfl := Option.some.inj ho
          exact StepOk.no (g := 14) (d := 95) rfl rfl (fun a w hC hdep => hdep _ 95 (Array.mem_of_getElem? (i := 0) rfl) rfl rfl) (fun w hC => trivial)
        | 17, ho =>
          obtain rfl := Option.some.inj ho
          exact StepOk.no (g := 14) (d := 95) rfl rfl (fun a w hC hdep => hdep _ 95 (Array.mem_of_getElem? (i := 0) rfl) rfl rfl) (fun w hC => trivial)
        | 18, ho =>
          obtain rfl := Option.some.inj ho
          exact StepOk.no (g := 14) (d := 95) rfl rfl (fun a w hC hdep => hdep _ 95 (Array.mem_of_getElem? (i := 1) rfl) rfl rfl) (fun w hC => trivial)
        | 19, ho =>
          obtain rfl := Option.some.inj ho
          exact StepOk.no (g := 14) (d := 95) rfl rfl (fun a w hC hdep => hdep _ 95 (Array.mem_of_getElem? (i := 1) rfl) rfl rfl) (fun w hC => trivial)
        | 20, ho =>
          obtain rfl := Option.some.inj ho
          exact StepOk.no (g := 14) (d := 95) rfl rfl (fun a w hC hdep => hdep _ 95 (Array.mem_of_getElem? (i := 2) rfl) rfl rfl) (fun w hC => trivial)
        | 21, ho =>
          obtain rfl := Option.some.inj ho
          exact StepOk.no (g := 14) (d := 95) rfl rfl (fun a w hC hdep => hdep _ 95 (Array.mem_of_getElem? (i := 1) rfl) rfl rfl) (fun w hC => trivial)
        | 22, ho =>
          obtain rfl := Option.some.inj ho
          exact StepOk.no (g := 14) (d := 95) rfl rfl (fun a w hC hdep => hdep _ 95 (Array.mem_of_getElem? (i := 2) rfl) rfl rfl) (fun w hC => trivial)
        | 23, ho =>
          obtain rfl := Option.some.inj ho
          refine StepOk.yes (g := 11) (d := 92) rfl rfl (fun a w hC hdep => hdep _ 92 (Array.mem_of_getElem? (i := 2) rfl) rfl rfl) ?_
          intro a w hC hdep hoth
          have x95 : a.tmps[95]?.getD undef = .bool true := slot_of (hdep _ 95 (Array.mem_of_getElem? (i := 0) rfl) rfl rfl)
          exact goodRun.val (c := .bool true) (by clear hdep hoth; go_simp) hC rfl
        | 24, ho =>
          obtain rfl := Option.some.inj ho
          refine StepOk.free rfl ?_
          intro a w hC hdep hoth
          have x92 : a.tmps[92]?.getD undef = .bool true := slot_of (hdep _ 92 (Array.mem_of_getElem? (i := 0) rfl) rfl rfl)
          have x104 : a.tmps[104]?.getD undef = .bool true := slot_of (hdep _ 104 (Array.mem_of_getElem? (i := 1) rfl) rfl rfl)
          exact goodRun.val (c := .bool true) (by clear hdep hoth; go_simp) hC rfl
        | 25, ho =>
          obtain rfl := Option.some.inj ho
          refine StepOk.free rfl ?_
          intro a w hC hdep hoth
          have x105 : a.tmps[105]?.getD undef = .bool true := slot_of (hdep _ 105 (Array.mem_of_getElem? (i := 0) rfl) rfl rfl)
          exact goodRun.val (c := .bool true) (by clear hdep hoth; go_simp) hC rfl
        | n + 26, ho => simp at ho
      · intro vals w5 hC hS
        have e25 : vals 25 = .bool true := hS 25 (by decide)
        clear hS
        simp only [fill, dstOf]
        go_simp
        go_wp2_with fail
        go_ret
        exact ⟨rfl, b10.trans (hC.mono b10.size)⟩
    · as_aux_lemma =>
      obtain ⟨n, hn⟩ : ∃ n, L.length = n + 1 := ⟨L.length - 1, by have : L.length ≠ 0 := fun e => hL (List.length_eq_zero_iff.1 e); omega⟩
      rcases r10.row_form with ⟨-, e⟩ | ⟨g, c, rfl, -, hrow, -, -⟩
      · exact absurd e hL
      have rd10 : Reads W10 (some ⟨g, 0, .none⟩) L := r10.reads.1
      have hxn : L[n]'(by omega) = x := by
        rw [← hx]
        unfold lastR
        rw [List.getLast?_eq_getElem?, show L.length - 1 = n by omega, List.getElem?_eq_getElem (by omega)]; rfl
      have HCell : Hid (∀ w, Below W10.heap.size W10 w → w.cell? ⟨g, n * 4, .none⟩ = some (.int .i64 (x.seq : Int)) ∧ w.cell? ⟨g, n * 4 + 1, .none⟩ = some (.int .i64 (x.ent : Int)) ∧ w.cell? ⟨g, n * 4 + 2, .none⟩ = some (.int .i64 (x.kind : Int)) ∧ w.cell? ⟨g, n * 4 + 3, .none⟩ = some (.int .i64 (x.tick : Int))) := fun w hC => by
        have := ((hrow.below hC hrow.lt).cells n (by omega)).1
        rw [hxn] at this
        exact this
      have hD : Hid (decide (0 < L.length) = true) := decide_eq_true (by omega)
      have hpos : (0 : Int) < (n : Int) + 1 := by omega
      have n0 : (0 : Int) ≤ (n : Int) := by omega
      have n8 : (n : Int) < 100 := by omega
      have n1 : (n : Int) < (n : Int) + 1 := by omega
      have nw : IntKind.i64.wrap (n : Int) = (n : Int) := wraps_i64 _ (by omega) (by omega)
      clear r10 hrow hxn hx hL hl8
      rw [hD.out, hn]
      go_upto_region 17 with fail
      rw [HW.out]
      refine region_spec 26 rfl (roF rb g c n x L) (fun w' => Below W10.heap.size W10 w') (by kernel_rfl) (by kernel_rfl) ((Below.refl _ _).drew) ?_ ?_
      · intro i o ho
        match i, ho with
        | 0, ho =>
          obtain rfl := Option.some.inj ho
          refine StepOk.free rfl ?_
          intro a w hC hdep hoth
          have x8 : a.tmps[8]?.getD undef = .pointer (some ⟨rb, 0, .none⟩) := slot_of (hoth 8 (notDst (by kernel_rfl)))
          exact goodRun.val (c := .pointer (some ⟨rb, 0, .none⟩)) (by clear hdep hoth; go_simp) hC rfl
        | 1, ho =>
          obtain rfl := Option.some.inj ho
          refine StepOk.free rfl ?_
          intro a w hC hdep hoth
          have x81 : a.tmps[81]?.getD undef = .pointer (some ⟨rb, 0, .none⟩) := slot_of (hdep _ 81 (Array.mem_of_getElem? (i := 0) rfl) rfl rfl)
          refine goodRun.call (f := 37) (args := #[.pointer (some ⟨rb, 0, .none⟩)]) (by clear hdep hoth; go_simp) ?_
          refine Calls.mono (HRec.out (n + 1) w hn.symm (R10.below hC)) ?_
          rintro e w' ⟨sb, cb, rfl, r11, hb11⟩
          exact ⟨_, rfl, hC.trans (hb11.mono hC.size), roF_keeps hb11, sb, cb, rfl, r11⟩
        | 2, ho =>
          obtain rfl := Option.some.inj ho
          refine StepOk.free rfl ?_
          intro a w hC hdep hoth
          have x9 : a.tmps[9]?.getD undef = .slice (some ⟨g, 0, .none⟩) (n + 1) c := slot_of (hoth 9 (notDst (by kernel_rfl)))
          exact goodRun.val (c := .slice (some ⟨g, 0, .none⟩) (n + 1) c) (by clear hdep hoth; go_simp) hC rfl
        | 3, ho =>
          obtain rfl := Option.some.inj ho
          refine StepOk.free rfl ?_
          intro a w hC hdep hoth
          obtain ⟨sb, cb, hv, hr⟩ := hdep _ 82 (Array.mem_of_getElem? (i := 0) rfl) rfl rfl
          have x82 := slot_of hv
          have x83 : a.tmps[83]?.getD undef = .slice (some ⟨g, 0, .none⟩) (n + 1) c := slot_of (hdep _ 83 (Array.mem_of_getElem? (i := 1) rfl) rfl rfl)
          refine goodRun.call (f := 36) (args := #[.slice sb (n + 1) cb, .slice (some ⟨g, 0, .none⟩) (n + 1) c]) (by clear hdep hoth; go_simp) ?_
          refine Calls.mono (HSame.out sb (some ⟨g, 0, .none⟩) cb c (n + 1) w hn.symm hr (rd10.below hC)) ?_
          rintro e w' ⟨rfl, hb12⟩
          exact ⟨_, rfl, hC.trans (hb12.mono hC.size), roF_keeps hb12, rfl⟩
        | 4, ho =>
          obtain rfl := Option.some.inj ho
          refine StepOk.free rfl ?_
          intro a w hC hdep hoth
          have x84 : a.tmps[84]?.getD undef = .bool true := slot_of (hdep _ 84 (Array.mem_of_getElem? (i := 0) rfl) rfl rfl)
          exact goodRun.val (c := .bool true) (by clear hdep hoth; go_simp) hC rfl
        | 5, ho =>
          obtain rfl := Option.some.inj ho
          refine StepOk.yes (g := 4) (d := 85) rfl rfl (fun a w hC hdep => hdep _ 85 (Array.mem_of_getElem? (i := 0) rfl) rfl rfl) ?_
          intro a w hC hdep hoth
          have x11 : a.tmps[11]?.getD undef = .bool true := slot_of (hoth 11 (notDst (by kernel_rfl)))
          exact goodRun.val (c := .bool true) (by clear hdep hoth; go_simp) hC rfl
        | 6, ho =>
          obtain rfl := Option.some.inj ho
          refine StepOk.yes (g := 4) (d := 85) rfl rfl (fun a w hC hdep => hdep _ 85 (Array.mem_of_getElem? (i := 0) rfl) rfl rfl) ?_
          intro a w hC hdep hoth
          have x9 : a.tmps[9]?.getD undef = .slice (some ⟨g, 0, .none⟩) (n + 1) c := slot_of (hoth 9 (notDst (by kernel_rfl)))
          exact goodRun.val (c := .slice (some ⟨g, 0, .none⟩) (n + 1) c) (by clear hdep hoth; go_simp) hC rfl
        | 7, ho =>
          obtain rfl := Option.some.inj ho
          refine StepOk.yes (g := 4) (d := 85) rfl rfl (fun a w hC hdep => hdep _ 85 (Array.mem_of_getElem? (i := 1) rfl) rfl rfl) ?_
          intro a w hC hdep hoth
          have x87 : a.tmps[87]?.getD undef = .slice (some ⟨g, 0, .none⟩) (n + 1) c := slot_of (hdep _ 87 (Array.mem_of_getElem? (i := 0) rfl) rfl rfl)
          exact goodRun.val (c := .int .i64 ((n : Int) + 1)) (by clear hdep hoth; go_simp) hC rfl
        | 8, ho =>
          obtain rfl := Option.some.inj ho
          refine StepOk.yes (g := 4) (d := 85) rfl rfl (fun a w hC hdep => hdep _ 85 (Array.mem_of_getElem? (i := 1) rfl) rfl rfl) ?_
          intro a w hC hdep hoth
          have x88 : a.tmps[88]?.getD undef = .int .i64 ((n : Int) + 1) := slot_of (hdep _ 88 (Array.mem_of_getElem? (i := 0) rfl) rfl rfl)
          exact goodRun.val (c := .bool true) (by clear hdep hoth; go_simp) hC rfl
        | 9, ho =>
          obtain rfl := Option.some.inj ho
          refine StepOk.yes (g := 4) (d := 85) rfl rfl (fun a w hC hdep => hdep _ 85 (Array.mem_of_getElem? (i := 2) rfl) rfl rfl) ?_
          intro a w hC hdep hoth
          have x86 : a.tmps[86]?.getD undef = .bool true := slot_of (hdep _ 86 (Array.mem_of_getElem? (i := 0) rfl) rfl rfl)
          have x89 : a.tmps[89]?.getD undef = .bool true := slot_of (hdep _ 89 (Array.mem_of_getElem? (i := 1) rfl) rfl rfl)
          exact goodRun.val (c := .bool true) (by clear hdep hoth; go_simp) hC rfl
        | 10, ho =>
          obtain rfl := Option.some.inj ho
          refine StepOk.free rfl ?_
          intro a w hC hdep hoth
          have x85 : a.tmps[85]?.getD undef = .bool true := slot_of (hdep _ 85 (Array.mem_of_getElem? (i := 0) rfl) rfl rfl)
          have x90 : a.tmps[90]?.getD undef = .bool true := slot_of (hdep _ 90 (Array.mem_of_getElem? (i := 1) rfl) rfl rfl)
          exact goodRun.val (c := .bool true) (by clear hdep hoth; go_simp) hC rfl
        | 11, ho =>
          obtain rfl := Option.some.inj ho
          refine StepOk.free rfl ?_
          intro a w hC hdep hoth
          have x91 : a.tmps[91]?.getD undef = .bool true := slot_of (hdep _ 91 (Array.mem_of_getElem? (i := 0) rfl) rfl rfl)
          exact goodRun.val (c := .bool true) (by clear hdep hoth; go_simp) hC rfl
        | 12, ho =>
          obtain rfl := Option.some.inj ho
          refine StepOk.yes (g := 11) (d := 92) rfl rfl (fun a w hC hdep => hdep _ 92 (Array.mem_of_getElem? (i := 0) rfl) rfl rfl) ?_
          intro a w hC hdep hoth
          have x11 : a.tmps[11]?.getD undef = .bool true := slot_of (hoth 11 (notDst (by kernel_rfl)))
          exact goodRun.val (c := .bool true) (by clear hdep hoth; go_simp) hC rfl
        | 13, ho =>
          obtain rfl := Option.some.inj ho
          refine StepOk.yes (g := 11) (d := 92) rfl rfl (fun a w hC hdep => hdep _ 92 (Array.mem_of_getElem? (i := 1) rfl) rfl rfl) ?_
          intro a w hC hdep hoth
          have x93 : a.tmps[93]?.getD undef = .bool true := slot_of (hdep _ 93 (Array.mem_of_getElem? (i := 0) rfl) rfl rfl)
          exact goodRun.val (c := .bool false) (by clear hdep hoth; go_simp) hC rfl
        | 14, ho =>
          obtain rfl := Option.some.inj ho
          refine StepOk.yes (g := 11) (d := 92) rfl rfl (fun a w hC hdep => hdep _ 92 (Array.mem_of_getElem? (i := 1) rfl) rfl rfl) ?_
          intro a w hC hdep hoth
          have x94 : a.tmps[94]?.getD undef = .bool false := slot_of (hdep _ 94 (Array.mem_of_getElem? (i := 0) rfl) rfl rfl)
          exact goodRun.val (c := .bool false) (by clear hdep hoth; go_simp) hC rfl
        | 15, ho =>
          obtain rfl := Option.some.inj ho
          refine StepOk.yes (g := 14) (d := 95) rfl rfl (fun a w hC hdep => hdep _ 95 (Array.mem_of_getElem? (i := 0) rfl) rfl rfl) ?_
          intro a w hC hdep hoth
          have x10 : a.tmps[10]?.getD undef = .pointer (some ⟨w9.heap.size, 0, .none⟩) := slot_of (hoth 10 (notDst (by kernel_rfl)))
          obtain ⟨y0, y1, y2, y3⟩ := (X10.below hC X10.lt).at
          exact goodRun.val (c := .agg #[.int .i64 (x.seq : Int), .int .i64 (x.ent : Int), .int .i64 (x.kind : Int), .int .i64 (x.tick : Int)]) (by clear hdep hoth; go_simp) hC rfl
        | 16, ho =>
          obtain rfl := Option.some.inj ho
          refine StepOk.yes (g := 14) (d := 95) rfl rfl (fun a w hC hdep => hdep _ 95 (Array.mem_of_getElem? (i := 0) rfl) rfl rfl) ?_
          intro a w hC hdep hoth
          have x9 : a.tmps[9]?.getD undef = .slice (some ⟨g, 0, .none⟩) (n + 1) c := slot_of (hoth 9 (notDst (by kernel_rfl)))
          exact goodRun.val (c := .slice (some ⟨g, 0, .none⟩) (n + 1) c) (by clear hdep hoth; go_simp) hC rfl
        | 17, ho =>
          obtain rfl := Option.some.inj ho
          refine StepOk.yes (g := 14) (d := 95) rfl rfl (fun a w hC hdep => hdep _ 95 (Array.mem_of_getElem? (i := 0) rfl) rfl rfl) ?_
          intro a w hC hdep hoth
          have x9 : a.tmps[9]?.getD undef = .slice (some ⟨g, 0, .none⟩) (n + 1) c := slot_of (hoth 9 (notDst (by kernel_rfl)))
          exact goodRun.val (c := .slice (some ⟨g, 0, .none⟩) (n + 1) c) (by clear hdep hoth; go_simp) hC rfl
        | 18, ho =>
          obtain rfl := Option.some.inj ho
          refine StepOk.yes (g := 14) (d := 95) rfl rfl (fun a w hC hdep => hdep _ 95 (Array.mem_of_getElem? (i := 1) rfl) rfl rfl) ?_
          intro a w hC hdep hoth
          have x98 : a.tmps[98]?.getD undef = .slice (some ⟨g, 0, .none⟩) (n + 1) c := slot_of (hdep _ 98 (Array.mem_of_getElem? (i := 0) rfl) rfl rfl)
          exact goodRun.val (c := .int .i64 ((n : Int) + 1)) (by clear hdep hoth; go_simp) hC rfl
        | 19, ho =>
          obtain rfl := Option.some.inj ho
          refine StepOk.yes (g := 14) (d := 95) rfl rfl (fun a w hC hdep => hdep _ 95 (Array.mem_of_getElem? (i := 1) rfl) rfl rfl) ?_
          intro a w hC hdep hoth
          have x99 : a.tmps[99]?.getD undef = .int .i64 ((n : Int) + 1) := slot_of (hdep _ 99 (Array.mem_of_getElem? (i := 0) rfl) rfl rfl)
          exact goodRun.val (c := .int .i64 (n : Int)) (by clear hdep hoth; go_simp) hC rfl
        | 20, ho =>
          obtain rfl := Option.some.inj ho
          refine StepOk.yes (g := 14) (d := 95) rfl rfl (fun a w hC hdep => hdep _ 95 (Array.mem_of_getElem? (i := 2) rfl) rfl rfl) ?_
          intro a w hC hdep hoth
          have x97 : a.tmps[97]?.getD undef = .slice (some ⟨g, 0, .none⟩) (n + 1) c := slot_of (hdep _ 97 (Array.mem_of_getElem? (i := 0) rfl) rfl rfl)
          have x100 : a.tmps[100]?.getD undef = .int .i64 (n : Int) := slot_of (hdep _ 100 (Array.mem_of_getElem? (i := 1) rfl) rfl rfl)
          exact goodRun.val (c := .pointer (some ⟨g, n * 4, .none⟩)) (by clear hdep hoth; go_simp) hC rfl
        | 21, ho =>
          obtain rfl := Option.some.inj ho
          refine StepOk.yes (g := 14) (d := 95) rfl rfl (fun a w hC hdep => hdep _ 95 (Array.mem_of_getElem? (i := 1) rfl) rfl rfl) ?_
          intro a w hC hdep hoth
          have x101 : a.tmps[101]?.getD undef = .pointer (some ⟨g, n * 4, .none⟩) := slot_of (hdep _ 101 (Array.mem_of_getElem? (i := 0) rfl) rfl rfl)
          obtain ⟨y0, y1, y2, y3⟩ := HCell.out w hC
          exact goodRun.val (c := .agg #[.int .i64 (x.seq : Int), .int .i64 (x.ent : Int), .int .i64 (x.kind : Int), .int .i64 (x.tick : Int)]) (by clear hdep hoth; go_simp) hC rfl
        | 22, ho =>
          obtain rfl := Option.some.inj ho
          refine StepOk.yes (g := 14) (d := 95) rfl rfl (fun a w hC hdep => hdep _ 95 (Array.mem_of_getElem? (i := 2) rfl) rfl rfl) ?_
          intro a w hC hdep hoth
          have x96 : a.tmps[96]?.getD undef = .agg #[.int .i64 (x.seq : Int), .int .i64 (x.ent : Int), .int .i64 (x.kind : Int), .int .i64 (x.tick : Int)] := slot_of (hdep _ 96 (Array.mem_of_getElem? (i := 0) rfl) rfl rfl)
          have x102 : a.tmps[102]?.getD undef = .agg #[.int .i64 (x.seq : Int), .int .i64 (x.ent : Int), .int .i64 (x.kind : Int), .int .i64 (x.tick : Int)] := slot_of (hdep _ 102 (Array.mem_of_getElem? (i := 1) rfl) rfl rfl)
          exact goodRun.val (c := .bool true) (by clear hdep hoth; go_simp) hC rfl
        | 23, ho =>
          obtain rfl := Option.some.inj ho
          refine StepOk.yes (g := 11) (d := 92) rfl rfl (fun a w hC hdep => hdep _ 92 (Array.mem_of_getElem? (i := 2) rfl) rfl rfl) ?_
          intro a w hC hdep hoth
          have x95 : a.tmps[95]?.getD undef = .bool false := slot_of (hdep _ 95 (Array.mem_of_getElem? (i := 0) rfl) rfl rfl)
          have x103 : a.tmps[103]?.getD undef = .bool true := slot_of (hdep _ 103 (Array.mem_of_getElem? (i := 1) rfl) rfl rfl)
          exact goodRun.val (c := .bool true) (by clear hdep hoth; go_simp) hC rfl
        | 24, ho =>
          obtain rfl := Option.some.inj ho
          refine StepOk.free rfl ?_
          intro a w hC hdep hoth
          have x92 : a.tmps[92]?.getD undef = .bool true := slot_of (hdep _ 92 (Array.mem_of_getElem? (i := 0) rfl) rfl rfl)
          have x104 : a.tmps[104]?.getD undef = .bool true := slot_of (hdep _ 104 (Array.mem_of_getElem? (i := 1) rfl) rfl rfl)
          exact goodRun.val (c := .bool true) (by clear hdep hoth; go_simp) hC rfl
        | 25, ho =>
          obtain rfl := Option.some.inj ho
          refine StepOk.free rfl ?_
          intro a w hC hdep hoth
          have x105 : a.tmps[105]?.getD undef = .bool true := slot_of (hdep _ 105 (Array.mem_of_getElem? (i := 0) rfl) rfl rfl)
          exact goodRun.val (c := .bool true) (by clear hdep hoth; go_simp) hC rfl
        | n + 26, ho => simp at ho
      · intro vals w5 hC hS
        have e25 : vals 25 = .bool true := hS 25 (by decide)
        clear hS
        simp only [fill, dstOf]
        go_simp
        go_wp2_with fail
        go_ret
        exact ⟨rfl, b10.trans (hC.mono b10.size)⟩
end Go.Proofs.YtebdepbnhemnpaaDoor
