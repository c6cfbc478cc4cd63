/-
  Several texts as one: DrRight, DrSt, DrNum, DrCut, DrLook, DrNew, DrParts. What each holds: DrRight: The document's kinds and (*Reader).right by contracts ('may'). Condition: the reader's last word lies in memory. | DrSt: The document's reader of a config in memory ('DrS'), and what its writes leave: facts of memory. No condition. | DrNum: The document's numberOf by a contract ('numD'). Condition: at most a million bytes. | DrCut: The document's cut by a contract: 'cutBy', in memory of its own. Condition: at most a million bytes. | DrLook: The look-up of points by the first one of a name ('lookF'); what fills a line's values, word by word: pure. No condition. | DrNew: The document's reader behind a new entity; its lists, each with one more: facts of memory. No condition. | DrParts: The document's reader in memory: its last entity's lists, each with one more. No condition.
-/
import Derived.Test.YtbholbenjalliaaGreatDoorDc0X
import Derived.Test.YtbholbenjalliaaGreatDoorRd1X
import Derived.Test.YtbholbenjalliaaGreatDoorCfREntX
import Derived.Test.YtbholbenjalliaaGreatDoorNmX
import Derived.Test.YtbholbenjalliaaGreatDoorPureX
import Derived.Test.YtbholbenjalliaaGreatDoorMemX
import Derived.Laws.Concat
import Derived.Test.YtbholbenjalliaaGreatDoorRd2X
import Derived.BigRegion
import Derived.BigQuiet
namespace Go.Proofs.YtbholbenjalliaaGreatDoor
open Go.RowKit Go.Extern.Stop Go.Stop Go.Extern

theorem litN {h : ByteArray} {l : List UInt8} (n : ¬ h = ⟨l.toArray⟩) : (h.toList == l) = false ∧ ¬ h.toList = l := by
  have h2 : ¬ h.toList = l := fun e => by
    rw [ByteArray.toList_eq] at e
    exact n (bl_inj (by rw [bl_mk]; exact e))
  exact ⟨by simpa using h2, h2⟩
theorem litY {h : ByteArray} {l : List UInt8} (n : h = ⟨l.toArray⟩) : (h.toList == l) = true ∧ h.toList = l := by
  have h2 : h.toList = l := by rw [ByteArray.toList_eq, n]
  exact ⟨by simpa using h2, h2⟩
def kwB (k : Nat) : ByteArray := ⟨(kw k).toArray⟩
def kindsL : List ByteArray := [⟨#[101, 110, 116, 105, 116, 121]⟩, ⟨#[112, 111, 105, 110, 116]⟩, ⟨#[99, 111, 117, 110, 116]⟩, ⟨#[103, 97, 112]⟩, ⟨#[101, 100, 103, 101]⟩, ⟨#[102, 105, 114, 115, 116]⟩, ⟨#[108, 97, 115, 116]⟩]
theorem kinds_at (w : World) : Calls Tryz.prog 114 #[] w fun e w' => e = .returned (.slice (some ⟨w.heap.size, 0, none⟩) 7 7) ∧ w' = w.alloc (.cells #[.string ⟨#[101, 110, 116, 105, 116, 121]⟩, .string ⟨#[112, 111, 105, 110, 116]⟩, .string ⟨#[99, 111, 117, 110, 116]⟩, .string ⟨#[103, 97, 112]⟩, .string ⟨#[101, 100, 103, 101]⟩, .string ⟨#[102, 105, 114, 115, 116]⟩, .string ⟨#[108, 97, 115, 116]⟩] 9) := by
  go_enter Tryz.func114, Tryz.ntmps114
  go_wp2
  go_ret
  exact ⟨rfl, rfl⟩
theorem kinds_sl {V V' : World} (h : V = V'.alloc (.cells #[.string ⟨#[101, 110, 116, 105, 116, 121]⟩, .string ⟨#[112, 111, 105, 110, 116]⟩, .string ⟨#[99, 111, 117, 110, 116]⟩, .string ⟨#[103, 97, 112]⟩, .string ⟨#[101, 100, 103, 101]⟩, .string ⟨#[102, 105, 114, 115, 116]⟩, .string ⟨#[108, 97, 115, 116]⟩] 9)) : SlAt encS 1 V (.slice (some ⟨V'.heap.size, 0, none⟩) kindsL.length 7) kindsL := by
  refine ⟨_, _, rfl, by decide, fun _ => ⟨_, _, rfl, fun i x hx j u hu => ?_⟩⟩
  match j, hu with
  | 0, hu =>
    simp [encS] at hu
    subst hu
    rw [h, World.cell?_alloc_at _ _ _ _ rfl]
    match i, hx with
    | 0, hx => cases hx; rfl
    | 1, hx => cases hx; rfl
    | 2, hx => cases hx; rfl
    | 3, hx => cases hx; rfl
    | 4, hx => cases hx; rfl
    | 5, hx => cases hx; rfl
    | 6, hx => cases hx; rfl
    | i + 7, hx => simp [kindsL] at hx
  | j + 1, hu => simp [encS] at hu
/-- The word of the line ahead, by its kind. -/
def lwOf (last : Int) : ByteArray := if last < 0 then ⟨#[]⟩ else kwB last.toNat
theorem idx_kw : ∀ k, k < 10 → idxOf kindsL (kwB k) = if k < 3 then -1 else (k : Int) - 3 := by decide
theorem idx_last (last : Int) (h0 : -1 ≤ last) (h9 : last ≤ 9) : idxOf kindsL (lwOf last) = if last < 3 then -1 else last - 3 := by
  unfold lwOf
  split
  · rw [if_pos (by omega)]; decide
  · obtain ⟨n, rfl⟩ := Int.eq_ofNat_of_zero_le (show 0 ≤ last by omega)
    rw [Int.toNat_natCast, idx_kw n (by omega)]
    by_cases h : n < 3
    · rw [if_pos h, if_pos (by omega)]
    · rw [if_neg h, if_neg (by omega)]
theorem kwB_inj : ∀ j, j < 10 → ∀ k, k < 10 → kwB j = kwB k → j = k := by decide
theorem kwB_ne : ∀ k, k < 10 → kwB k ≠ ⟨#[]⟩ := by decide
theorem lwOf_empty {last : Int} (h9 : last ≤ 9) : lwOf last = ⟨#[]⟩ ↔ last < 0 := by
  unfold lwOf
  split
  · rename_i h; exact ⟨fun _ => h, fun _ => rfl⟩
  · rename_i h; exact ⟨fun e => absurd e (kwB_ne _ (by omega)), fun h2 => absurd h2 h⟩
theorem lwOf_kw {last : Int} (h9 : last ≤ 9) {k : Nat} (hk : k < 10) : lwOf last = kwB k ↔ last = k := by
  unfold lwOf
  split
  · rename_i h; exact ⟨fun e => absurd e.symm (kwB_ne _ hk), fun h2 => by omega⟩
  · rename_i h; exact ⟨fun e => by have := kwB_inj _ (by omega) _ hk e; omega, fun h2 => by rw [h2, Int.toNat_natCast]⟩
theorem idx_other {h : ByteArray} (hn : kindOf (bl h) = none) : idxOf kindsL h = -1 := by
  apply idxOf_no
  intro j x hj hx e
  subst e
  have hx2 : x ∈ kindsL := List.mem_of_getElem? hx
  have : ∀ x ∈ kindsL, kindOf (bl x) ≠ none := by decide
  exact this x hx2 hn
def rightV (a b : Int) (c : Bool) : Bool := if a < 0 ∨ b < 0 then false else decide (a < b) || (decide (a = b) && c)
set_option maxHeartbeats 2000000 in
set_option maxRecDepth 100000 in
theorem right_gen (rb : Nat) (lw h : ByteArray) (w : World) (hc : w.cell? ⟨rb, 5, none⟩ = some (.string lw)) (n0 : ¬ h = ⟨#[119, 105, 110, 100, 111, 119]⟩) (n1 : ¬ h = ⟨#[99, 121, 99, 108, 101]⟩) (n2 : ¬ h = ⟨#[100, 101, 108, 97, 121]⟩) (n3 : ¬ h = ⟨#[101, 110, 116, 105, 116, 121]⟩) :
    Calls Tryz.prog 64 #[.pointer (some ⟨rb, 0, none⟩), .string h] w fun e w' => e = .returned (.bool (rightV (idxOf kindsL lw) (idxOf kindsL h) (!decide (h = ⟨#[99, 111, 117, 110, 116]⟩)))) ∧ Below w.heap.size w w' := by
  have m0 := litN n0
  have m1 := litN n1
  have m2 := litN n2
  have m3 := litN n3
  obtain ⟨p0, q0⟩ := m0
  obtain ⟨p1, q1⟩ := m1
  obtain ⟨p2, q2⟩ := m2
  obtain ⟨p3, q3⟩ := m3
  have HC : Hid (∀ V, Below w.heap.size w V → V.cell? ⟨rb, 5, none⟩ = some (.string lw)) := fun V hV => cell_below hV hc
  have HK : Hid (∀ V, Below w.heap.size w V → Calls Tryz.prog 114 #[] V fun e w' => ∃ g, e = .returned (.slice (some ⟨g, 0, none⟩) 7 7) ∧ SlAt encS 1 w' (.slice (some ⟨g, 0, none⟩) 7 7) kindsL ∧ Below w.heap.size w w') := fun V hV => (kinds_at V).mono (by rintro e w' ⟨rfl, rfl⟩; exact ⟨_, rfl, kinds_sl rfl, hV.alloc hV.size _⟩)
  have HI : Hid (∀ s (V : World) g, SlAt encS 1 V (.slice (some ⟨g, 0, none⟩) 7 7) kindsL → Calls Tryz.prog 37 #[.slice (some ⟨g, 0, none⟩) 7 7, .string s] V fun e w' => e = .returned (.int .i64 (idxOf kindsL s)) ∧ w' = V) := fun s V g hV => index_at kindsL s _ 7 V hV (by decide)
  clear n0 n1 n2 n3
  obtain ⟨a, ha⟩ : ∃ a, a = idxOf kindsL lw := ⟨_, rfl⟩
  obtain ⟨b, hb⟩ : ∃ b, b = idxOf kindsL h := ⟨_, rfl⟩
  rw [← ha, ← hb]
  have HA : Hid (idxOf kindsL lw = a) := ha.symm
  have HBb : Hid (idxOf kindsL h = b) := hb.symm
  have HIl : Hid (∀ (V : World) g, Below w.heap.size w V → SlAt encS 1 V (.slice (some ⟨g, 0, none⟩) 7 7) kindsL → Calls Tryz.prog 37 #[.slice (some ⟨g, 0, none⟩) 7 7, .string lw] V fun e w' => e = .returned (.int .i64 a) ∧ Below w.heap.size w w') := fun V g hb hV => (HI.out lw V g hV).mono (by rw [← ha]; rintro e w' ⟨rfl, rfl⟩; exact ⟨rfl, hb⟩)
  clear ha hb
  go_enter Tryz.func64, Tryz.ntmps64
  go_wp2_with fail
  go_region_held3 (fun w' => w'.cell? ⟨rb, 5, none⟩ = some (.string lw)) (first | exact hc | exact HC.out _ (below_drewN (Below.refl _ _) _) | exact HC.out _ hb1 | exact HC.out _ (below_drewN hb1 _) | exact HC.out _ hb2 | exact HC.out _ (below_drewN hb2 _)) (first | (go_at_call 114; refine Calls.mono (HK.out _ ?_) ?_; (first | exact Below.refl _ _ | exact below_drewN (Below.refl _ _) _); rintro e w1 ⟨g1, rfl, hs1, hb1⟩) | (go_at_call 37; refine Calls.mono (HIl.out _ _ ?_ ?_) ?_; (first | exact hb1 | exact below_drewN hb1 _); (first | exact hs1 | exact hs1.below (below_drewN (Below.refl _ _) _)); rintro e w2 ⟨rfl, hb2⟩))
  all_goals
    have HB2 : Hid (Below w.heap.size w w2) := hb2
    clear hb1 hb2 hs1 hc HC HA
    go_wp2_with fail
    refine Calls.mono (HK.out _ HB2.out) ?_
    rintro e w3 ⟨g3, rfl, hs3, hb3⟩
    have HB3 : Hid (Below w.heap.size w w3) := hb3
    have HI3 := HI.out h w3 g3 hs3
    rw [HBb.out] at HI3
    have HI4 : Hid _ := HI3
    clear HI3 hs3 hb3 HK HI
    go_wp2_with fail
    refine Calls.mono HI4.out ?_
    rintro e w4 ⟨rfl, rfl⟩
    clear HI4
    by_cases a0 : a < 0
    · have HE : Hid (rightV a b (!decide (h = ⟨#[99, 111, 117, 110, 116]⟩)) = false) := by show _ = _; unfold rightV; rw [if_pos (Or.inl a0)]
      go_wp2
      go_ret
      exact ⟨by rw [HE.out]; rfl, HB3.out⟩
    by_cases b0 : b < 0
    · have HE : Hid (rightV a b (!decide (h = ⟨#[99, 111, 117, 110, 116]⟩)) = false) := by show _ = _; unfold rightV; rw [if_pos (Or.inr b0)]
      go_wp2
      go_ret
      exact ⟨by rw [HE.out]; rfl, HB3.out⟩
    by_cases ab : a < b
    · have HE : Hid (rightV a b (!decide (h = ⟨#[99, 111, 117, 110, 116]⟩)) = true) := by show _ = _; unfold rightV; rw [if_neg (by omega), decide_eq_true ab]; rfl
      go_wp2
      go_ret
      exact ⟨by rw [HE.out]; rfl, HB3.out⟩
    by_cases ae : a = b
    · by_cases h5 : h = ⟨#[99, 111, 117, 110, 116]⟩
      · have HE : Hid (rightV a b (!decide (h = ⟨#[99, 111, 117, 110, 116]⟩)) = false) := by show _ = _; unfold rightV; rw [if_neg (by omega), decide_eq_false ab, decide_eq_true h5]; simp
        have HH : Hid (h = ⟨#[99, 111, 117, 110, 116]⟩) := h5
        subst ae
        obtain ⟨e5, e6⟩ := litY h5
        clear h5
        go_wp2
        go_ret
        exact ⟨by rw [HE.out]; rfl, HB3.out⟩
      · have HE : Hid (rightV a b (!decide (h = ⟨#[99, 111, 117, 110, 116]⟩)) = true) := by show _ = _; unfold rightV; rw [if_neg (by omega), decide_eq_true ae, decide_eq_false h5]; simp
        obtain ⟨p5, q5⟩ := litN h5
        subst ae
        clear h5
        go_wp2
        go_ret
        exact ⟨by rw [HE.out]; rfl, HB3.out⟩
    · have HE : Hid (rightV a b (!decide (h = ⟨#[99, 111, 117, 110, 116]⟩)) = decide (a < b)) := by show _ = _; unfold rightV; rw [if_neg (by omega), decide_eq_false ab, decide_eq_false ae]; rfl
      go_wp2
      go_ret
      exact ⟨by rw [HE.out]; rfl, HB3.out⟩
set_option maxRecDepth 100000 in
theorem right_k0 (rb : Nat) (lw : ByteArray) (w : World) (hc : w.cell? ⟨rb, 5, none⟩ = some (.string lw)) :
    Calls Tryz.prog 64 #[.pointer (some ⟨rb, 0, none⟩), .string ⟨#[119, 105, 110, 100, 111, 119]⟩] w fun e w' => e = .returned (.bool (decide (lw = ⟨#[]⟩))) ∧ w' = w := by
  by_cases e : lw = ⟨#[]⟩
  · have HV : Hid (decide (lw = ⟨#[]⟩) = true) := by show _ = _; simp [e]
    obtain ⟨e1, e2⟩ := litY e
    clear e
    go_enter Tryz.func64, Tryz.ntmps64
    go_wp2
    go_ret
    exact ⟨by rw [HV.out]; rfl, rfl⟩
  · have HV : Hid (decide (lw = ⟨#[]⟩) = false) := by show _ = _; simp [e]
    obtain ⟨e1, e2⟩ := litN e
    clear e
    go_enter Tryz.func64, Tryz.ntmps64
    go_wp2
    go_ret
    exact ⟨by rw [HV.out]; rfl, rfl⟩
set_option maxRecDepth 100000 in
theorem right_k1 (rb : Nat) (lw : ByteArray) (w : World) (hc : w.cell? ⟨rb, 5, none⟩ = some (.string lw)) :
    Calls Tryz.prog 64 #[.pointer (some ⟨rb, 0, none⟩), .string ⟨#[99, 121, 99, 108, 101]⟩] w fun e w' => e = .returned (.bool (decide (lw = ⟨#[119, 105, 110, 100, 111, 119]⟩))) ∧ w' = w := by
  by_cases e : lw = ⟨#[119, 105, 110, 100, 111, 119]⟩
  · have HV : Hid (decide (lw = ⟨#[119, 105, 110, 100, 111, 119]⟩) = true) := by show _ = _; simp [e]
    obtain ⟨e1, e2⟩ := litY e
    clear e
    go_enter Tryz.func64, Tryz.ntmps64
    go_wp2
    go_ret
    exact ⟨by rw [HV.out]; rfl, rfl⟩
  · have HV : Hid (decide (lw = ⟨#[119, 105, 110, 100, 111, 119]⟩) = false) := by show _ = _; simp [e]
    obtain ⟨e1, e2⟩ := litN e
    clear e
    go_enter Tryz.func64, Tryz.ntmps64
    go_wp2
    go_ret
    exact ⟨by rw [HV.out]; rfl, rfl⟩
set_option maxRecDepth 100000 in
theorem right_k2 (rb : Nat) (lw : ByteArray) (w : World) (hc : w.cell? ⟨rb, 5, none⟩ = some (.string lw)) :
    Calls Tryz.prog 64 #[.pointer (some ⟨rb, 0, none⟩), .string ⟨#[100, 101, 108, 97, 121]⟩] w fun e w' => e = .returned (.bool (decide (lw = ⟨#[99, 121, 99, 108, 101]⟩))) ∧ w' = w := by
  by_cases e : lw = ⟨#[99, 121, 99, 108, 101]⟩
  · have HV : Hid (decide (lw = ⟨#[99, 121, 99, 108, 101]⟩) = true) := by show _ = _; simp [e]
    obtain ⟨e1, e2⟩ := litY e
    clear e
    go_enter Tryz.func64, Tryz.ntmps64
    go_wp2
    go_ret
    exact ⟨by rw [HV.out]; rfl, rfl⟩
  · have HV : Hid (decide (lw = ⟨#[99, 121, 99, 108, 101]⟩) = false) := by show _ = _; simp [e]
    obtain ⟨e1, e2⟩ := litN e
    clear e
    go_enter Tryz.func64, Tryz.ntmps64
    go_wp2
    go_ret
    exact ⟨by rw [HV.out]; rfl, rfl⟩
def not3 (lw : ByteArray) : Bool := !(decide (lw = ⟨#[]⟩) || decide (lw = ⟨#[119, 105, 110, 100, 111, 119]⟩) || decide (lw = ⟨#[99, 121, 99, 108, 101]⟩))
set_option maxRecDepth 100000 in
theorem right_k3 (rb : Nat) (lw : ByteArray) (w : World) (hc : w.cell? ⟨rb, 5, none⟩ = some (.string lw)) :
    Calls Tryz.prog 64 #[.pointer (some ⟨rb, 0, none⟩), .string ⟨#[101, 110, 116, 105, 116, 121]⟩] w fun e w' => e = .returned (.bool (not3 lw)) ∧ w' = w := by
  by_cases a : lw = ⟨#[]⟩
  · have HV : Hid (not3 lw = false) := by show _ = _; simp [not3, a]
    obtain ⟨e1, e2⟩ := litY a
    clear a
    go_enter Tryz.func64, Tryz.ntmps64
    go_wp2
    go_ret
    exact ⟨by rw [HV.out]; rfl, rfl⟩
  obtain ⟨a1, a2⟩ := litN a
  by_cases b : lw = ⟨#[119, 105, 110, 100, 111, 119]⟩
  · have HV : Hid (not3 lw = false) := by show _ = _; simp [not3, b]
    obtain ⟨e1, e2⟩ := litY b
    clear a b
    go_enter Tryz.func64, Tryz.ntmps64
    go_wp2
    go_ret
    exact ⟨by rw [HV.out]; rfl, rfl⟩
  obtain ⟨b1, b2⟩ := litN b
  by_cases c : lw = ⟨#[99, 121, 99, 108, 101]⟩
  · have HV : Hid (not3 lw = false) := by show _ = _; simp [not3, c]
    obtain ⟨e1, e2⟩ := litY c
    clear a b c
    go_enter Tryz.func64, Tryz.ntmps64
    go_wp2
    go_ret
    exact ⟨by rw [HV.out]; rfl, rfl⟩
  · have HV : Hid (not3 lw = true) := by show _ = _; simp [not3, a, b, c]
    obtain ⟨c1, c2⟩ := litN c
    clear a b c
    go_enter Tryz.func64, Tryz.ntmps64
    go_wp2
    go_ret
    exact ⟨by rw [HV.out]; rfl, rfl⟩
theorem kwB_of {h : ByteArray} {k : Nat} (hk : kindOf (bl h) = some k) : h = kwB k ∧ k < 10 := by
  obtain ⟨h1, h2⟩ := kindOf_some hk
  exact ⟨bl_inj (by rw [h1, kwB, bl_mk]), h2⟩
def rightR (last : Int) (h : ByteArray) : Bool := match kindOf (bl h) with
  | some k => may last k
  | none => false
set_option maxHeartbeats 2000000 in
set_option maxRecDepth 100000 in
theorem right_at (rb : Nat) (last : Int) (h : ByteArray) (w : World) (l0 : -1 ≤ last) (l9 : last ≤ 9) (hc : w.cell? ⟨rb, 5, none⟩ = some (.string (lwOf last))) :
    Calls Tryz.prog 64 #[.pointer (some ⟨rb, 0, none⟩), .string h] w fun e w' => e = .returned (.bool (rightR last h)) ∧ Below w.heap.size w w' := by
  cases hk : kindOf (bl h) with
  | none =>
    have hne : ∀ k, k < 10 → ¬ h = kwB k := fun k h10 e => by rw [e, kwB, bl_mk, kindOf_kw k h10] at hk; cases hk
    refine (right_gen rb (lwOf last) h w hc (hne 0 (by decide)) (hne 1 (by decide)) (hne 2 (by decide)) (hne 3 (by decide))).mono ?_
    rw [idx_other hk, show rightR last h = false by unfold rightR; rw [hk]]
    rintro e w' ⟨rfl, hb⟩
    exact ⟨by unfold rightV; rw [if_pos (Or.inr (by decide))], hb⟩
  | some k =>
    obtain ⟨rfl, k10⟩ := kwB_of hk
    have hR : rightR last (kwB k) = may last k := by unfold rightR; rw [hk]
    have hw := @lwOf_kw last l9
    have he := @lwOf_empty last l9
    rw [hR]
    clear hR
    rcases Nat.lt_or_ge k 4 with h4 | h4
    · match k, h4 with
      | 0, _ =>
        refine (right_k0 rb _ w hc).mono ?_
        rintro e w' ⟨rfl, rfl⟩
        exact ⟨by rw [show may last 0 = decide (lwOf last = ⟨#[]⟩) from by rw [show decide (lwOf last = ⟨#[]⟩) = decide (last < 0) from decide_eq_decide.2 he]; unfold may; rw [if_pos (by decide)]; apply decide_eq_decide.2; omega], Below.refl _ _⟩
      | 1, _ =>
        refine (right_k1 rb _ w hc).mono ?_
        rintro e w' ⟨rfl, rfl⟩
        exact ⟨by rw [show may last 1 = decide (lwOf last = kwB 0) from by rw [show decide (lwOf last = kwB 0) = decide (last = (0 : Nat)) from decide_eq_decide.2 (hw (by decide))]; unfold may; rw [if_pos (by decide)]; apply decide_eq_decide.2; omega]; rfl, Below.refl _ _⟩
      | 2, _ =>
        refine (right_k2 rb _ w hc).mono ?_
        rintro e w' ⟨rfl, rfl⟩
        exact ⟨by rw [show may last 2 = decide (lwOf last = kwB 1) from by rw [show decide (lwOf last = kwB 1) = decide (last = (1 : Nat)) from decide_eq_decide.2 (hw (by decide))]; unfold may; rw [if_pos (by decide)]; apply decide_eq_decide.2; omega]; rfl, Below.refl _ _⟩
      | 3, _ =>
        refine (right_k3 rb _ w hc).mono ?_
        rintro e w' ⟨rfl, rfl⟩
        refine ⟨?_, Below.refl _ _⟩
        have e0 : decide (lwOf last = ⟨#[]⟩) = decide (last < 0) := decide_eq_decide.2 he
        have e1 : decide (lwOf last = kwB 0) = decide (last = (0 : Nat)) := decide_eq_decide.2 (hw (by decide))
        have e2 : decide (lwOf last = kwB 1) = decide (last = (1 : Nat)) := decide_eq_decide.2 (hw (by decide))
        have e3 : not3 (lwOf last) = !(decide (lwOf last = ⟨#[]⟩) || decide (lwOf last = kwB 0) || decide (lwOf last = kwB 1)) := rfl
        rw [e3, e0, e1, e2]
        have e4 : may last 3 = decide (2 ≤ last) := rfl
        rw [e4]
        congr 2
        by_cases q : 2 ≤ last
        · rw [decide_eq_true q, decide_eq_false (show ¬ last < 0 by omega), decide_eq_false (show ¬ last = (0 : Nat) by omega), decide_eq_false (show ¬ last = (1 : Nat) by omega)]; rfl
        · rw [decide_eq_false q]
          rcases (show last < 0 ∨ last = (0 : Nat) ∨ last = (1 : Nat) by omega) with h | h | h
          · rw [decide_eq_true h]; rfl
          · rw [decide_eq_true h]; simp
          · rw [decide_eq_true h]; simp
    · refine (right_gen rb (lwOf last) (kwB k) w hc (fun e => by have := kwB_inj k k10 0 (by decide) e; omega) (fun e => by have := kwB_inj k k10 1 (by decide) e; omega) (fun e => by have := kwB_inj k k10 2 (by decide) e; omega) (fun e => by have := kwB_inj k k10 3 (by decide) e; omega)).mono ?_
      rintro e w' ⟨rfl, hb⟩
      refine ⟨?_, hb⟩
      have e5 : (!decide (kwB k = ⟨#[99, 111, 117, 110, 116]⟩)) = !decide (k = 5) := by
        congr 1
        exact decide_eq_decide.2 ⟨fun h => kwB_inj k k10 5 (by decide) h, fun h => by rw [h]; rfl⟩
      rw [e5, idx_kw k k10, if_neg (by omega), idx_last last l0 l9]
      congr 2
      have hm : may last k = if k = 5 then decide (3 ≤ last) && decide (last < 5) else decide (3 ≤ last) && decide (last ≤ (k : Int)) := by
        unfold may
        rw [if_neg (by omega), if_neg (by omega)]
      rw [hm]
      unfold rightV
      by_cases q : last < 3
      · rw [if_pos q, if_pos (Or.inl (by decide)), decide_eq_false (show ¬ 3 ≤ last by omega)]
        simp
      · rw [if_neg q, if_neg (by omega), decide_eq_true (show 3 ≤ last by omega)]
        by_cases q5 : k = 5
        · subst q5
          rw [if_pos rfl]
          simp
          omega
        · rw [if_neg q5, decide_eq_false q5]
          simp
          by_cases q6 : last < k
          · rw [decide_eq_true (show last ≤ (k : Int) by omega), decide_eq_true q6]; rfl
          · rw [decide_eq_false q6, Bool.false_or]
            exact decide_eq_decide.2 (by omega)
end Go.Proofs.YtbholbenjalliaaGreatDoor

namespace Go.Proofs.YtbholbenjalliaaGreatDoor
open Go.RowKit Go.Extern.Stop Go.Stop Go.Extern Go.Maps

/-- All blocks but the reader's own are as they were. -/
def BlX (rb : Nat) (a b : World) : Prop := a.grownBy b (some rb)
section
variable {rb : Nat} {a b c : World}
theorem BlX.size (h : BlX rb a b) : a.heap.size ≤ b.heap.size := World.grownBy.size h
theorem BlX.refl (rb : Nat) (a : World) : BlX rb a a := ⟨rfl, rfl, rfl, Nat.le_refl _, fun _ _ _ => rfl⟩
theorem BlX.trans (h : BlX rb a b) (h' : Below a.heap.size b c) : BlX rb a c :=
  ⟨h'.os.trans h.os, h'.tape.trans h.tape, h'.output.trans h.output, Nat.le_trans h.size h'.size, fun k hk hne => (h'.block k hk).trans (h.block k hk hne)⟩
theorem BlX.setCell {p : Addr} (h : BlX rb a b) (hp : p.block = rb ∨ a.heap.size ≤ p.block) (v : Value) : BlX rb a (b.setCell p v) :=
  ⟨h.os, h.tape, h.output, by simpa [World.setCell] using h.size, fun k hk hne => (Below.heap_setCell _ _ _ _ (fun e => hp.elim (fun h1 => hne (by rw [e, h1])) (fun h1 => by omega))).trans (h.block k hk hne)⟩
theorem BlX.grown (h : BlX rb a b) {row : Option Nat} (k : b.grownBy c row) (_ : a.heap.size ≤ b.heap.size) (hr : ∀ i, row = some i → a.heap.size ≤ i) : BlX rb a c :=
  ⟨k.os.trans h.os, k.tape.trans h.tape, k.output.trans h.output, Nat.le_trans h.size k.size, fun j hj hne => (k.block j (Nat.lt_of_lt_of_le hj h.size) (fun e => by have := hr j e.symm; omega)).trans (h.block j hj hne)⟩
theorem BlX.drew (h : BlX rb a b) : BlX rb a b.drew := ⟨h.os, h.tape, h.output, h.size, h.block⟩
end
def drRow (c : CfgD) (ev : Value) (lw : ByteArray) : Array Value := #[.int .i64 c.closed, .int .i64 c.opn, .int .i64 c.cycle, .int .i64 c.delay, ev, .string lw]
/-- No entity yet. -/
structure DrN (B rb : Nat) (w : World) (c : CfgD) (lw : ByteArray) : Prop where
  lo : rb = rb ∨ B ≤ rb
  nil : c.ents = []
  row : w.heap[rb]? = some (.cells (drRow c (.slice none 0 0) lw) 86 (0, 0))
/-- With entities: those ahead, and the last; 'old': what the last one's cells hold. -/
structure DrM (B rb L g cap : Nat) (w : World) (c : CfgD) (lw : ByteArray) (es : List EntD) (old : List Value) (e : EntD) (x : PV5) (cells : List Value) : Prop where
  lo : rb = rb ∨ B ≤ rb
  loL : B ≤ L
  row : w.heap[rb]? = some (.cells (drRow c (.slice (some ⟨g, 0, none⟩) (es.length + 1) cap) lw) 86 (0, 0))
  ents : w.ownsRow B 52 10 (.slice (some ⟨g, 0, none⟩) (es.length + 1) cap) (es.length + 1) (cells ++ old)
  olen : old.length = 10
  clen : cells.length = es.length * 10
  olds : ∀ (i : Nat) e', es[i]? = some e' → ∃ x', OwnX B w e' x' ∧ LtX L x' ∧ ∀ (j : Nat) u, (x'.row e')[j]? = some u → cells[i * 10 + j]? = some u
  new : OwnX L w e x
  fl : x.f.ownBlock = none ∨ x.f.ownBlock ≠ x.l.ownBlock
def DrE (B rb L g cap : Nat) (w : World) (c : CfgD) (lw : ByteArray) (es : List EntD) (e : EntD) (x : PV5) (cells : List Value) : Prop := DrM B rb L g cap w c lw es (x.row e).toList e x cells
def DrS (B rb : Nat) (w : World) (c : CfgD) (lw : ByteArray) : Prop := DrN B rb w c lw ∨ ∃ L g cap es e x cells, c.ents = es ++ [e] ∧ L ≤ w.heap.size ∧ DrE B rb L g cap w c lw es e x cells
theorem DrN.below {B rb : Nat} {w w' : World} {c : CfgD} {lw : ByteArray} (h : DrN B rb w c lw) (hb : Below w.heap.size w w') : DrN B rb w' c lw := ⟨h.lo, h.nil, row_below hb h.row⟩
theorem DrM.below {B rb L g cap : Nat} {w w' : World} {c : CfgD} {lw : ByteArray} {es : List EntD} {old : List Value} {e : EntD} {x : PV5} {cells : List Value} (h : DrM B rb L g cap w c lw es old e x cells) (hb : Below w.heap.size w w') : DrM B rb L g cap w' c lw es old e x cells := by
  have hg : w.grownBy w' none := ⟨hb.os, hb.tape, hb.output, hb.size, fun k hk _ => hb.block k hk⟩
  have k : ∀ v : Value, v.ownBlock = none ∨ v.ownBlock ≠ none := fun v => by by_cases e : v.ownBlock = none; exact Or.inl e; exact Or.inr e
  have kx : ∀ {B : Nat} {e : EntD} {x : PV5}, OwnX B w e x → OwnX B w' e x := fun hx => hx.kept hg (k _) (k _) (k _) (k _) (k _)
  refine ⟨h.lo, h.loL, row_below hb h.row, h.ents.kept hg (k _), h.olen, h.clen, fun i e' he => ?_, kx h.new, h.fl⟩
  obtain ⟨x', a, b, d⟩ := h.olds i e' he
  exact ⟨x', kx a, b, d⟩
theorem DrS.below {B rb : Nat} {w w' : World} {c : CfgD} {lw : ByteArray} (h : DrS B rb w c lw) (hb : Below w.heap.size w w') : DrS B rb w' c lw := by
  rcases h with h | ⟨L, g, cap, es, e, x, cells, h1, h2, h3⟩
  · exact Or.inl (h.below hb)
  · exact Or.inr ⟨L, g, cap, es, e, x, cells, h1, Nat.le_trans h2 hb.size, DrM.below h3 hb⟩
theorem DrM.grow {B rb L g cap : Nat} {w : World} {c : CfgD} {lw : ByteArray} {es : List EntD} {old : List Value} {e : EntD} {x : PV5} {cells : List Value} (h : DrM B rb L g cap w c lw es old e x cells) : ∃ cur, w.heap[g]? = some (.cells cur 52 (0, 0)) ∧ B ≤ g := by
  rcases h.ents.2 with ⟨h1, _⟩ | ⟨g', cap', cur, a, b, c', _⟩
  · cases h1
  · simp only [Value.slice.injEq, Option.some.injEq, Addr.mk.injEq, and_true, true_and] at a
    obtain ⟨rfl, rfl⟩ := a
    exact ⟨cur, c', b⟩
theorem DrM.ewcell {B rb L g cap : Nat} {w : World} {c : CfgD} {lw : ByteArray} {es : List EntD} {old : List Value} {e : EntD} {x : PV5} {cells : List Value} (h : DrM B rb L g cap w c lw es old e x cells) {j : Nat} {u : Value} (hu : old[j]? = some u) : w.cell? ⟨g, es.length * 10 + j, none⟩ = some u ∧ w.frozen? ⟨g, es.length * 10 + j, none⟩ = false := by
  obtain ⟨cur, hc, -⟩ := h.grow
  refine ⟨?_, by simp [World.frozen?, hc]⟩
  have := h.ents.cells (g := g) rfl (es.length * 10 + j) u (by rw [List.getElem?_append_right (by rw [h.clen]; omega), h.clen, Nat.add_sub_cancel_left]; exact hu)
  rw [addC_plain] at this
  simpa using this
/-- A cell of the reader's own is written. -/
theorem DrM.setR {B rb L g cap : Nat} {w : World} {c c' : CfgD} {lw lw' : ByteArray} {es : List EntD} {old : List Value} {e : EntD} {x : PV5} {cells : List Value} (h : DrM B rb L g cap w c lw es old e x cells) (j : Nat) (u : Value) (hr : (drRow c (.slice (some ⟨g, 0, none⟩) (es.length + 1) cap) lw).setIfInBounds j u = drRow c' (.slice (some ⟨g, 0, none⟩) (es.length + 1) cap) lw') : DrM B rb L g cap (w.setCell ⟨rb, j, none⟩ u) c' lw' es old e x cells := by
  have hg := grown_cell w rb j u
  refine ⟨h.lo, h.loL, ?_, h.ents.kept hg (Or.inr (own_ne h.ents h.row (by decide))), h.olen, h.clen, fun i e' he => ?_, h.new.other hg h.row (by decide) (by decide) (by decide) (by decide), h.fl⟩
  · simp only [World.setCell, Array.getElem?_modify, h.row]
    simp [hr]
  · obtain ⟨x', a, b, d⟩ := h.olds i e' he
    exact ⟨x', a.other hg h.row (by decide) (by decide) (by decide) (by decide), b, d⟩
theorem DrN.setR {B rb : Nat} {w : World} {c c' : CfgD} {lw lw' : ByteArray} (h : DrN B rb w c lw) (hn : c'.ents = []) (j : Nat) (u : Value) (hr : (drRow c (.slice none 0 0) lw).setIfInBounds j u = drRow c' (.slice none 0 0) lw') : DrN B rb (w.setCell ⟨rb, j, none⟩ u) c' lw' := by
  refine ⟨h.lo, hn, ?_⟩
  simp only [World.setCell, Array.getElem?_modify, h.row]
  simp [hr]
/-- Another block of entities is written. -/
theorem DrM.setB {B rb L g cap : Nat} {w : World} {c : CfgD} {lw : ByteArray} {es : List EntD} {old : List Value} {e : EntD} {x : PV5} {cells : List Value} (h : DrM B rb L g cap w c lw es old e x cells) (b j : Nat) (u : Value) {cs : Array Value} (hb : w.heap[b]? = some (.cells cs 52 (0, 0))) (hg : b ≠ g) : DrM B rb L g cap (w.setCell ⟨b, j, none⟩ u) c lw es old e x cells := by
  have hg1 := grown_cell w b j u
  have hne : rb ≠ b := fun e2 => by rw [← e2, h.row] at hb; simp at hb
  refine ⟨h.lo, h.loL, (hg1.block rb (lt_of_row h.row) (by simpa using hne)).trans h.row, h.ents.kept hg1 (Or.inr (by simp [Value.ownBlock]; exact fun e2 => hg e2.symm)), h.olen, h.clen, fun i e' he => ?_, h.new.other hg1 hb (by decide) (by decide) (by decide) (by decide), h.fl⟩
  obtain ⟨x', a, b', d⟩ := h.olds i e' he
  exact ⟨x', a.other hg1 hb (by decide) (by decide) (by decide) (by decide), b', d⟩
/-- A list of the last entity's has grown. -/
theorem DrM.grown {B rb L g cap : Nat} {w w' : World} {c : CfgD} {lw : ByteArray} {es : List EntD} {old : List Value} {e e' : EntD} {x x' : PV5} {cells : List Value} {r : Option Nat} (h : DrM B rb L g cap w c lw es old e x cells) (hgr : w.grownBy w' r) (hL : ∀ b, r = some b → L ≤ b) (hrb : r ≠ some rb) (hrg : r ≠ some g) (hx : OwnX L w' e' x') (hfl : x'.f.ownBlock = none ∨ x'.f.ownBlock ≠ x'.l.ownBlock) : DrM B rb L g cap w' c lw es old e' x' cells := by
  refine ⟨h.lo, h.loL, (hgr.block rb (lt_of_row h.row) (fun e2 => hrb e2.symm)).trans h.row, h.ents.kept hgr (Or.inr (fun e2 => hrg e2.symm)), h.olen, h.clen, fun i e2 he => ?_, hx, hfl⟩
  obtain ⟨y, a, b, d⟩ := h.olds i e2 he
  exact ⟨y, a.far b hL hgr, b, d⟩
/-- The last entity's cells are written, one behind the other. -/
theorem DrM.put {B rb L g cap : Nat} {w : World} {c : CfgD} {lw : ByteArray} {es : List EntD} {old : List Value} {e : EntD} {x : PV5} {cells : List Value} (h : DrM B rb L g cap w c lw es old e x cells) (j : Nat) (u : Value) : DrM B rb L g cap (w.setCell ⟨g, es.length * 10 + j, none⟩ u) c lw es (old.set j u) e x cells := by
  obtain ⟨cur, hc, hB⟩ := h.grow
  have hg := grown_cell w g (es.length * 10 + j) u
  have hne : rb ≠ g := fun e2 => by rw [← e2, h.row] at hc; simp at hc
  refine ⟨h.lo, h.loL, (hg.block rb (lt_of_row h.row) (by simpa using hne)).trans h.row, ?_, by rw [List.length_set]; exact h.olen, h.clen, fun i e2 he => ?_, h.new.other hg hc (by decide) (by decide) (by decide) (by decide), h.fl⟩
  · have := own_set (i := es.length * 10 + j) h.ents u
    rw [List.set_append_right _ _ (by rw [h.clen]; omega), h.clen, Nat.add_sub_cancel_left] at this
    exact this
  · obtain ⟨y, a, b, d⟩ := h.olds i e2 he
    exact ⟨y, a.other hg hc (by decide) (by decide) (by decide) (by decide), b, d⟩
theorem DrM.toE {B rb L g cap : Nat} {w : World} {c : CfgD} {lw : ByteArray} {es : List EntD} {old : List Value} {e : EntD} {x : PV5} {cells : List Value} (h : DrM B rb L g cap w c lw es old e x cells) (ho : old = (x.row e).toList) : DrE B rb L g cap w c lw es e x cells := by subst ho; exact h
/-- Ten cells are written: the last entity is another one. -/
theorem DrM.put10 {B rb L g cap : Nat} {w : World} {c : CfgD} {lw : ByteArray} {es : List EntD} {old : List Value} {e : EntD} {x : PV5} {cells : List Value} (h : DrM B rb L g cap w c lw es old e x cells) {o : Nat} (ho : o = es.length * 10) {u0 u1 u2 u3 u4 u5 u6 u7 u8 u9 : Value} (hu : [u0, u1, u2, u3, u4, u5, u6, u7, u8, u9] = (x.row e).toList) :
    DrE B rb L g cap ((((((((((w.setCell ⟨g, o, none⟩ u0).setCell ⟨g, o + 1, none⟩ u1).setCell ⟨g, o + 2, none⟩ u2).setCell ⟨g, o + 3, none⟩ u3).setCell ⟨g, o + 4, none⟩ u4).setCell ⟨g, o + 5, none⟩ u5).setCell ⟨g, o + 6, none⟩ u6).setCell ⟨g, o + 7, none⟩ u7).setCell ⟨g, o + 8, none⟩ u8).setCell ⟨g, o + 9, none⟩ u9) c lw es e x cells := by
  subst ho
  have h1 := (((((((((h.put 0 u0).put 1 u1).put 2 u2).put 3 u3).put 4 u4).put 5 u5).put 6 u6).put 7 u7).put 8 u8).put 9 u9
  refine h1.toE ?_
  have hl := h.olen
  obtain ⟨a0, a1, a2, a3, a4, a5, a6, a7, a8, a9, rfl⟩ : ∃ a0 a1 a2 a3 a4 a5 a6 a7 a8 a9, old = [a0, a1, a2, a3, a4, a5, a6, a7, a8, a9] := by
    match old, hl with
    | [a0, a1, a2, a3, a4, a5, a6, a7, a8, a9], _ => exact ⟨a0, a1, a2, a3, a4, a5, a6, a7, a8, a9, rfl⟩
  rw [← hu]
  rfl
end Go.Proofs.YtbholbenjalliaaGreatDoor

namespace Go.Proofs.YtbholbenjalliaaGreatDoor
open Go.RowKit Go.Extern.Stop Go.Stop Go.Extern

/-- A word's number (-1: none). -/
def numD (x : Bs) : Int := match numOf x with
  | some n => (n : Int)
  | none => -1
theorem numD_no {x : Bs} (h : numOf x = none) : numD x = -1 := by unfold numD; rw [h]
theorem numD_yes {x : Bs} {n : Nat} (h : numOf x = some n) : numD x = n := by unfold numD; rw [h]
theorem numOf_empty {w : Bs} (h : w.length = 0) : numOf w = none := by unfold numOf; rw [if_pos (Or.inl h)]
set_option maxHeartbeats 2000000 in
set_option maxRecDepth 100000 in
theorem numberD_at (s : ByteArray) (w : World) :
    Calls Tryz.prog 65 #[.string s] w fun e w' => e = .returned (.int .i64 (numD (bl s))) ∧ w' = w := by
  by_cases h1 : s.size < 1
  · have HN : Hid (numD (bl s) = -1) := numD_no (numOf_empty (by rw [blen]; omega))
    have g1 : (s.size : Int) < 1 := by omega
    clear h1
    go_enter Tryz.func65, Tryz.ntmps65
    go_wp2
    go_ret
    exact ⟨by rw [HN.out]; rfl, rfl⟩
  have g0 : ¬ (s.size : Int) < 1 := by omega
  by_cases h13 : 13 < s.size
  · have HN : Hid (numD (bl s) = -1) := numD_no (numOf_long (by rw [blen]; exact h13))
    have g1 : 13 < (s.size : Int) := by omega
    clear h1 h13
    go_enter Tryz.func65, Tryz.ntmps65
    go_wp2
    go_ret
    exact ⟨by rw [HN.out]; rfl, rfl⟩
  have g1 : ¬ 13 < (s.size : Int) := by omega
  have k0 : (0 : Int) < (s.size : Int) := by omega
  have hp : 0 < s.size := by omega
  have hgd : (bl s).getD 0 0 = s[0] := (byte_at s 0 hp).symm
  by_cases hz : 1 < s.size ∧ s[0] = 48
  · have HN : Hid (numD (bl s) = -1) := numD_no (numOf_zero (by rw [blen]; exact hz.1) (by rw [hgd]; exact hz.2))
    have g2 : 1 < (s.size : Int) := by omega
    have g3 : s[0] = 48 := hz.2
    clear hz hgd h1 h13
    go_enter Tryz.func65, Tryz.ntmps65
    go_wp2
    go_ret
    exact ⟨by rw [HN.out]; rfl, rfl⟩
  have HZ : Hid (1 ≤ s.size ∧ s.size ≤ 13) := ⟨by omega, by omega⟩
  have HE : Hid (∀ k, k < s.size → isDig ((bl s).getD k 0) = false → numD (bl s) = -1) := fun k h2 h3 => numD_no (numOf_bad (by rw [blen]; exact h2) h3)
  have HY : Hid ((∀ j, j < s.size → isDig ((bl s).getD j 0) = true) → numD (bl s) = (valD (bl s) : Nat)) := fun h => numD_yes (numOf_yes (by rw [blen]; omega) (by rw [blen]; omega) (by rw [blen, hgd]; exact hz) (by rw [blen]; exact h))
  have HV : Hid (∀ k, k < s.size → (∀ j, j < k → isDig ((bl s).getD j 0) = true) → valD ((bl s).take k) < 1000000000000 ∧ valD ((bl s).take (k + 1)) = valD ((bl s).take k) * 10 + (((bl s).getD k 0).toNat - 48)) := fun k hk hd => ⟨Nat.lt_of_lt_of_le (valD_take k (by rw [blen]; omega) hd) (Nat.pow_le_pow_right (by decide) (show k ≤ 12 by omega)), valD_step (by rw [blen]; exact hk)⟩
  have hq : ¬ 1 < (s.size : Int) ∨ (1 < (s.size : Int) ∧ ¬ s[0] = 48) := by
    by_cases q : 1 < (s.size : Int)
    · exact Or.inr ⟨q, fun h => hz ⟨by omega, h⟩⟩
    · exact Or.inl q
  clear hz hgd h1 h13
  have hq2 : ¬ 1 < (s.size : Int) ∨ (1 < (s.size : Int) ∧ ((s[0].toNat : Int) == 48) = false) := hq.imp id (fun h => ⟨h.1, by rw [beq_eq_false_iff_ne]; intro h2; exact h.2 (UInt8.toNat_inj.1 (by show _ = 48; omega))⟩)
  clear hq
  rcases hq2 with q1 | ⟨q1, q2⟩
  all_goals
    go_enter Tryz.func65, Tryz.ntmps65
    go_wp2_with fail
    go_loopw [3, 4] (fun m i wr => ∃ k : Nat, k ≤ s.size ∧ i = .int .i64 k ∧ m = .int .i64 (valD ((bl s).take k) : Nat) ∧ wr = w ∧ ∀ j, j < k → isDig ((bl s).getD j 0) = true) (fun _ i _ => s.size - (intOf i).toNat)
    case atStart => exact ⟨0, Nat.zero_le _, rfl, rfl, rfl, fun j hj => absurd hj (Nat.not_lt_zero _)⟩
    case round =>
      obtain ⟨k, hk, rfl, rfl, rfl, hall⟩ := hrel
      by_cases hlt : k < s.size
      · obtain ⟨hv1, hv2⟩ := HV.out k hlt hall
        have HB : Hid (∀ j, j < k → isDig ((bl s).getD j 0) = true) := hall
        have HV2 : Hid (valD ((bl s).take (k + 1)) = valD ((bl s).take k) * 10 + (((bl s).getD k 0).toNat - 48)) := hv2
        have HY2 : Hid (isDig ((bl s).getD k 0) = false → numD (bl s) = -1) := HE.out k hlt
        have HBy : Hid (s[k] = (bl s).getD k 0) := byte_at s k hlt
        have k1 : (k : Int) < (s.size : Int) := by omega
        have k2 : (0 : Int) ≤ (k : Int) := by omega
        have k12 : k < 13 := by have := HZ.out.2; omega
        clear hall hv2
        try clear q2
        clear q1
        generalize hcc : s[k] = b at *
        rw [← HBy.out] at HV2 HY2
        have HC : Hid ((bl s).getD k 0 = b) := HBy.out.symm
        have hbv := b.toNat_lt
        clear HBy
        generalize valD ((bl s).take k) = m at hv1 HV2 ⊢
        by_cases hd : isDig b = true
        · have hb := dig_bnd hd
          have n1 : ¬ (b.toNat : Int) < 48 := by omega
          have n2 : ¬ (57 : Int) < (b.toNat : Int) := by omega
          go_wp2_with fail
          go_roundw
          case rel =>
            refine ⟨k + 1, by omega, by go_num, by rw [HV2.out]; go_num, by first | trivial | rfl, fun j hj => ?_⟩
            by_cases e : j = k
            · rw [e, HC.out]; exact hd
            · exact HB.out j (by omega)
          case measure => simp [intOf]; omega
        · simp only [Bool.not_eq_true] at hd
          have HN : Hid (numD (bl s) = -1) := HY2.out hd
          by_cases n1 : (b.toNat : Int) < 48
          · clear hd
            go_wp2
            go_ret
            exact ⟨by rw [HN.out]; rfl, by first | trivial | rfl⟩
          · have n2 : (57 : Int) < (b.toNat : Int) := by
              unfold isDig at hd
              rcases Nat.lt_or_ge 57 b.toNat with h | h
              · omega
              · exfalso
                rw [decide_eq_true (show 48 ≤ b.toNat by omega), decide_eq_true h] at hd
                cases hd
            clear hd
            go_wp2
            go_ret
            exact ⟨by rw [HN.out]; rfl, by first | trivial | rfl⟩
      · have k1 : ¬ (k : Int) < (s.size : Int) := by omega
        obtain rfl : k = s.size := by omega
        have HR : Hid (numD (bl s) = (valD ((bl s).take s.size) : Nat)) := by
          show _ = _
          rw [HY.out hall, ← blen, List.take_length]
        clear hall
        go_wp2
        go_ret
        exact ⟨by rw [HR.out]; rfl, by first | trivial | rfl⟩
end Go.Proofs.YtbholbenjalliaaGreatDoor

namespace Go.Proofs.YtbholbenjalliaaGreatDoor
open Go.RowKit Go.Extern.Stop Go.Stop Go.Extern

theorem cell_v (w : World) (u : Value) (T : TypeId) : ∀ (j : Nat) x, ([u] : List Value)[j]? = some x → (w.alloc (.cells #[u] T)).cell? ((⟨w.heap.size, 0, none⟩ : Addr).add j) = some x := by
  intro j x hx
  match j, hx with
  | 0, hx =>
    simp at hx
    subst hx
    rw [addC_plain, World.cell?_alloc_at _ _ _ _ rfl]
    rfl
  | j + 1, hx => simp at hx
theorem slice_form {w : World} {B k n : Nat} {T : TypeId} {v : Value} {xs : List Value} (h : w.ownsRow B T k v n xs) : ∃ a c, v = .slice a n c := by
  rcases h.2 with ⟨h1, h2⟩ | ⟨g, cap, cur, h1, _⟩
  · exact ⟨none, 0, by rw [h1, h2]⟩
  · exact ⟨_, cap, h1⟩
theorem some_form {w : World} {B k n : Nat} {T : TypeId} {v : Value} {xs : List Value} (h : w.ownsRow B T k v (n + 1) xs) : ∃ g c, v = .slice (some ⟨g, 0, none⟩) (n + 1) c := by
  rcases h.2 with ⟨h1, h2⟩ | ⟨g, cap, cur, h1, _⟩
  · simp at h2
  · exact ⟨g, cap, h1⟩
/-- What is left to be cut behind a word that has begun. -/
def cutAcc (c : UInt8) (acc : Bs) (t : Bs) : List Bs := match cutBy c t with
  | [] => [acc]
  | h :: r => (acc ++ h) :: r
theorem cutAcc_nil (c : UInt8) (t : Bs) : cutAcc c [] t = cutBy c t := by
  unfold cutAcc
  have := cutBy_ne c t
  cases h : cutBy c t with
  | nil => exact absurd h this
  | cons a r => simp
theorem cutAcc_end (c : UInt8) (acc : Bs) : cutAcc c acc [] = [acc] := by simp [cutAcc, cutBy]
theorem cutAcc_hit (c : UInt8) (acc t : Bs) : cutAcc c acc (c :: t) = acc :: cutAcc c [] t := by
  rw [cutAcc_nil]
  unfold cutAcc
  rw [cutBy, if_pos rfl]
  simp
theorem cutAcc_miss {c b : UInt8} (h : b ≠ c) (acc t : Bs) : cutAcc c acc (b :: t) = cutAcc c (acc ++ [b]) t := by
  unfold cutAcc
  rw [cutBy, if_neg h]
  cases cutBy c t with
  | nil => simp
  | cons a r => simp
theorem drop_at {l : Bs} {k : Nat} (h : k < l.length) : l.drop k = l.getD k 0 :: l.drop (k + 1) := by
  rw [List.drop_eq_getElem_cons h, List.getD_eq_getElem?_getD, List.getElem?_eq_getElem h]
  rfl
theorem one_byte (s : ByteArray) (k : Nat) (h : k < s.size) : bl (s.extract k (k + 1)) = [(bl s).getD k 0] := by
  have hl : k < s.data.toList.length := by rw [Array.length_toList]; exact h
  unfold bl
  rw [Lib.extract_data]
  rw [List.getD_eq_getElem?_getD, List.getElem?_eq_getElem hl]
  rw [show k + 1 - k = 1 by omega, List.drop_eq_getElem_cons hl]
  rfl
theorem str_one (s : ByteArray) (k : Nat) (h : k < s.size) (W : World) : (Instr.slice 9 (.string s) (some (.int .i64 (k : Int))) (some (.int .i64 ((k : Int) + 1))) none).run Tryz.prog W = .ok (.string (s.extract k (k + 1))) W := by
  rw [run_slice_string W 9 s .i64 .i64 (k : Int) ((k : Int) + 1) Tryz.underlying9 (by omega) (by omega) (by omega)]
  rw [show ((k : Int) + 1).toNat = k + 1 by omega, Int.toNat_natCast]
set_option maxHeartbeats 4000000 in
set_option maxRecDepth 100000 in
theorem cutD_at (s : ByteArray) (c : UInt8) (w : World) (hs : s.size ≤ 1000000) :
    Calls Tryz.prog 34 #[.string s, .int .u8 (c.toNat : Int)] w fun e w' => ∃ (ws : List ByteArray) (g cap : Nat), e = .returned (.slice (some ⟨g, 0, none⟩) ws.length cap) ∧ ws.map bl = cutBy c (bl s) ∧ w'.ownsRow w.heap.size 9 1 (.slice (some ⟨g, 0, none⟩) ws.length cap) ws.length (ws.flatMap encS) ∧ Below w.heap.size w w' := by
  obtain ⟨i0, hi, hz0, hz1, hz2⟩ := info_parts Tryz.infoOwnp
  have HZ : Hid (s.size ≤ 1000000) := hs
  clear hs
  go_enter Tryz.func34, Tryz.ntmps34
  go_wp2_with fail
  go_loopw [5, 6, 7] (fun ov wv iv wr => ∃ (k : Nat) (os : List ByteArray) (wd : ByteArray) (va : Option Addr) (vc : Nat), k ≤ s.size ∧ iv = .int .i64 k ∧ wv = .string wd ∧ ov = .slice va os.length vc ∧ os.length ≤ k ∧ wd.size ≤ k ∧ wr.ownsRow w.heap.size 9 1 (.slice va os.length vc) os.length (os.flatMap encS) ∧ Below w.heap.size w wr ∧ cutBy c (bl s) = os.map bl ++ cutAcc c (bl wd) ((bl s).drop k)) (fun _ _ iv _ => s.size - (intOf iv).toNat)
  case atStart => exact ⟨0, [], ⟨#[]⟩, none, 0, Nat.zero_le _, rfl, rfl, rfl, Nat.le_refl _, Nat.le_refl _, World.ownsRow_nil _ _ _ _, Below.refl _ _, by simp [bl, cutAcc_nil]⟩
  case round =>
    obtain ⟨k, os, wd, va, vc, hk, rfl, rfl, rfl, hol, hwl, hown, hb, heq⟩ := hrel
    have HB : Hid (Below w.heap.size w wr) := hb
    have HOwn : Hid (wr.ownsRow w.heap.size 9 1 (.slice va os.length vc) os.length (os.flatMap encS)) := hown
    have HEq : Hid (cutBy c (bl s) = os.map bl ++ cutAcc c (bl wd) ((bl s).drop k)) := heq
    have HL : Hid (os.length ≤ k ∧ wd.size ≤ k ∧ k ≤ s.size) := ⟨hol, hwl, hk⟩
    clear hb hown heq hol hwl hk
    by_cases hlt : k < s.size
    · have k1 : (k : Int) < (s.size : Int) := by omega
      have k2 : (0 : Int) ≤ (k : Int) := by omega
      have k3 : k < 1000000 := by have := HZ.out; omega
      have HBy : Hid (s[k] = (bl s).getD k 0) := byte_at s k hlt
      have HDr : Hid ((bl s).drop k = (bl s).getD k 0 :: (bl s).drop (k + 1)) := drop_at (by unfold bl; rw [Array.length_toList]; exact hlt)
      have HSl : Hid (bl (s.extract k (k + 1)) = [(bl s).getD k 0]) := one_byte s k hlt
      have hsl := str_one s k hlt
      generalize hbb : s[k] = b at *
      by_cases e : b = c
      · subst e
        have HEq2 : Hid (cutBy b (bl s) = (os ++ [wd]).map bl ++ cutAcc b [] ((bl s).drop (k + 1))) := by
          show _ = _
          rw [HEq.out, HDr.out, ← HBy.out, cutAcc_hit, List.map_append, List.append_assoc]
          rfl
        clear HBy HDr HSl hsl HEq
        go_wp2_with (at_builtin; refine wpList_append_own _ rfl _ _ 47 rfl w.heap.size 9 i0 (.string ⟨#[]⟩) 1 16 Tryz.underlying47 hi hz0 hz1 hz2 rfl (by decide) (.slice va os.length vc) os.length (os.flatMap encS) rfl (HOwn.out.alloc _) ⟨wr.heap.size, 0, .none⟩ 1 1 [.string wd] rfl rfl (cell_v _ _ _) (by intro u hu; simp at hu; subst hu; rfl) (by have := HL.out; unfold maxLen; omega) (by have := HL.out; omega) (by have := HB.out.size; simp; omega) ?_; intro v1 w1 hown1 hgrow1 hlt1)
        obtain ⟨ga, gc, rfl⟩ := slice_form hown1
        go_roundw
        case rel => exact ⟨k + 1, os ++ [wd], ⟨#[]⟩, ga, gc, by omega, by go_num, rfl, by simp, by have := HL.out; simp; omega, Nat.zero_le _, by simpa [List.flatMap_append, encS] using hown1, (HB.out.alloc HB.out.size _).grown hgrow1 (by have := HB.out.size; simp; omega) (fun q hq => (HOwn.out.lt q hq).1), HEq2.out⟩
        case measure => simp [intOf]; omega
      · have HEq2 : Hid (cutBy c (bl s) = os.map bl ++ cutAcc c (bl (wd ++ s.extract k (k + 1))) ((bl s).drop (k + 1))) := by
          show _ = _
          rw [HEq.out, HDr.out, ← HBy.out, cutAcc_miss e, show bl (wd ++ s.extract k (k + 1)) = bl wd ++ bl (s.extract k (k + 1)) by simp [bl], HSl.out, ← HBy.out]
        have HSz : Hid ((s.extract k (k + 1)).size = 1) := by
          show _ = _
          have h2 : (bl (s.extract k (k + 1))).length = 1 := by rw [HSl.out]; rfl
          unfold bl at h2
          rw [Array.length_toList] at h2
          exact h2
        have ha := run_string_add_sum (P := Tryz.prog) wr wd (s.extract k (k + 1)) (by have := HL.out; have := HSz.out; omega)
        have e1 : ((b.toNat : Int) == (c.toNat : Int)) = false := by
          rw [beq_eq_false_iff_ne]
          intro h
          exact e (UInt8.toNat_inj.1 (by omega))
        have e2 : ¬ (b.toNat : Int) = (c.toNat : Int) := fun h => e (UInt8.toNat_inj.1 (by omega))
        clear HBy HDr HSl HEq e
        go_wp2_with fail
        go_roundw
        case rel => exact ⟨k + 1, os, wd ++ s.extract k (k + 1), va, vc, by omega, by go_num, rfl, rfl, by have := HL.out; omega, by have := HL.out; have := HSz.out; rw [ByteArray.size_append]; omega, HOwn.out, HB.out, HEq2.out⟩
        case measure => simp [intOf]; omega
    · have k1 : ¬ (k : Int) < (s.size : Int) := by omega
      have HEq2 : Hid ((os ++ [wd]).map bl = cutBy c (bl s)) := by
        show _ = _
        rw [HEq.out, List.drop_eq_nil_of_le (by unfold bl; rw [Array.length_toList]; exact Nat.le_of_not_lt hlt), cutAcc_end, List.map_append]
        rfl
      have k3 : os.length ≤ 1000000 := by have := HL.out; have := HZ.out; omega
      clear HEq hlt
      go_wp2_with (at_builtin; refine wpList_append_own _ rfl _ _ 47 rfl w.heap.size 9 i0 (.string ⟨#[]⟩) 1 16 Tryz.underlying47 hi hz0 hz1 hz2 rfl (by decide) (.slice va os.length vc) os.length (os.flatMap encS) rfl (HOwn.out.alloc _) ⟨wr.heap.size, 0, .none⟩ 1 1 [.string wd] rfl rfl (cell_v _ _ _) (by intro u hu; simp at hu; subst hu; rfl) (by unfold maxLen; omega) (by omega) (by have := HB.out.size; simp; omega) ?_; intro v1 w1 hown1 hgrow1 hlt1)
      obtain ⟨g, cap, hv⟩ := some_form hown1
      subst hv
      go_ret
      exact ⟨os ++ [wd], g, cap, by simp, HEq2.out, by simpa [List.flatMap_append, encS] using hown1, (HB.out.alloc HB.out.size _).grown hgrow1 (by have := HB.out.size; simp; omega) (fun q hq => (HOwn.out.lt q hq).1)⟩
end Go.Proofs.YtbholbenjalliaaGreatDoor

namespace Go.Proofs.YtbholbenjalliaaGreatDoor
open Go.RowKit Go.Extern.Stop Go.Stop Go.Extern Go.Maps

def lookF : Look := fun pts w => pts.findIdx? (fun p => decide (bl p = w))
theorem good_lookF : GoodLook lookF := by
  refine ⟨fun pts w i h => ?_, fun pts w h p hp => ?_⟩
  · unfold lookF at h
    rw [List.findIdx?_eq_some_iff_getElem] at h
    obtain ⟨hlt, h1, -⟩ := h
    exact ⟨pts[i], List.getElem?_eq_getElem hlt, by simpa using h1⟩
  · unfold lookF at h
    rw [List.findIdx?_eq_none_iff] at h
    simpa using h p hp
theorem bl_eq_iff {a b : ByteArray} : a = b ↔ bl a = bl b := ⟨fun h => by rw [h], fun h => bl_inj h⟩
theorem idxOf_look (pts : List ByteArray) (s : ByteArray) : idxOf pts s = match lookF pts (bl s) with
  | some i => (i : Int)
  | none => -1 := by
  unfold idxOf lookF
  rw [show (fun y : ByteArray => decide (y = s)) = (fun p => decide (bl p = bl s)) from funext fun y => decide_eq_decide.2 bl_eq_iff]
  cases List.findIdx? (fun p => decide (bl p = bl s)) pts <;> rfl
theorem bl_empty {s : ByteArray} : bl s = [] ↔ s = ⟨#[]⟩ := ⟨fun h => bl_inj (by rw [h]; rfl), fun h => by rw [h]; rfl⟩
/-- Word by word, as the document's loop goes. -/
theorem word_n {look : Bs → Option Nat} {s : ByteArray} : (wordV look 1 (bl s)).1 = (if numD (bl s) < 0 then 1 else 0) ∧ (0 ≤ numD (bl s) → (wordV look 1 (bl s)).2 = numD (bl s) ∧ ¬ s = ⟨#[]⟩) := by
  cases h : numOf (bl s) with
  | none =>
    rw [numD_no h]
    refine ⟨?_, fun h2 => by omega⟩
    unfold wordV
    split
    · simp
    · rw [h]; simp
  | some n =>
    have h0 := numOf_lt h
    rw [numD_yes h]
    unfold wordV
    rw [if_neg h0]
    simp only [h]
    exact ⟨by rw [if_neg (by omega)], fun _ => ⟨trivial, fun e => h0 (bl_empty.2 e)⟩⟩
theorem word_p {pts : List ByteArray} {s : ByteArray} (hs : ¬ s = ⟨#[]⟩) : (wordV (lookF pts) 2 (bl s)).1 = (if idxOf pts s < 0 then 5 else 0) ∧ (0 ≤ idxOf pts s → (wordV (lookF pts) 2 (bl s)).2 = idxOf pts s) := by
  rw [idxOf_look]
  unfold wordV
  rw [if_neg (fun h => hs (bl_empty.1 h))]
  cases lookF pts (bl s) with
  | none => simp
  | some i => simp only; exact ⟨by rw [if_neg (by omega)], fun _ => trivial⟩
theorem word_s {look : Bs → Option Nat} {s : ByteArray} (hs : ¬ s = ⟨#[]⟩) : wordV look 0 (bl s) = (0, 0) := by
  unfold wordV
  rw [if_neg (fun h => hs (bl_empty.1 h))]
  rfl
theorem word_e {look : Bs → Option Nat} {f : Nat} : (wordV look f []).1 = 1 := by unfold wordV; rw [if_pos rfl]
theorem fill_len {look : Bs → Option Nat} : ∀ (fs : List Nat) (ws : List Bs) (nn : Bool), ws.length ≠ fs.length → (fillV look nn fs ws).1 = 1
  | [], [], _, h => by simp at h
  | [], _ :: _, _, _ => by simp [fillV]
  | _ :: _, [], _, _ => by simp [fillV]
  | f :: fs, w :: ws, nn, h => by
    rw [fillV]
    split
    · rfl
    · exact fill_len fs ws _ (by simpa using h)
/-- How far the loop is: 'nn': a point was not there; 'vs': the values so far. -/
structure FillD (look : Bs → Option Nat) (fs : List Nat) (ws : List Bs) (j : Nat) (nn : Bool) (vs : List Int) : Prop where
  code : (fillV look false fs ws).1 = (fillV look nn (fs.drop j) (ws.drop j)).1
  len : vs.length = j
  vals : nn = false → (fillV look false fs ws).2 = vs ++ (fillV look nn (fs.drop j) (ws.drop j)).2
theorem FillD.start (look : Bs → Option Nat) (fs : List Nat) (ws : List Bs) : FillD look fs ws 0 false [] := ⟨rfl, rfl, fun _ => rfl⟩
theorem FillD.bad {look : Bs → Option Nat} {fs : List Nat} {ws : List Bs} {j : Nat} {nn : Bool} {vs : List Int} (h : FillD look fs ws j nn vs) {f : Nat} {w : Bs} (hf : fs[j]? = some f) (hw : ws[j]? = some w) (h1 : (wordV look f w).1 = 1) : (fillV look false fs ws).1 = 1 := by
  rw [h.code]
  obtain ⟨lf, ef⟩ := List.getElem?_eq_some_iff.1 hf
  obtain ⟨lw, ew⟩ := List.getElem?_eq_some_iff.1 hw
  rw [List.drop_eq_getElem_cons lf, List.drop_eq_getElem_cons lw, ef, ew, fillV, if_pos h1]
theorem FillD.next {look : Bs → Option Nat} {fs : List Nat} {ws : List Bs} {j : Nat} {nn : Bool} {vs : List Int} (h : FillD look fs ws j nn vs) {f : Nat} {w : Bs} (hf : fs[j]? = some f) (hw : ws[j]? = some w) (nn' : Bool) (v : Int) (h1 : (wordV look f w).1 ≠ 1) (hn : nn' = (nn || decide ((wordV look f w).1 = 5))) (hv : nn' = false → v = (wordV look f w).2) : FillD look fs ws (j + 1) nn' (vs ++ [v]) := by
  obtain ⟨lf, ef⟩ := List.getElem?_eq_some_iff.1 hf
  obtain ⟨lw, ew⟩ := List.getElem?_eq_some_iff.1 hw
  have hd : fillV look nn (fs.drop j) (ws.drop j) = ((fillV look nn' (fs.drop (j + 1)) (ws.drop (j + 1))).1, (wordV look f w).2 :: (fillV look nn' (fs.drop (j + 1)) (ws.drop (j + 1))).2) := by
    rw [List.drop_eq_getElem_cons lf, List.drop_eq_getElem_cons lw, ef, ew, fillV, if_neg h1, ← hn]
  refine ⟨by rw [h.code, hd], by rw [List.length_append, h.len]; rfl, fun h0 => ?_⟩
  have hnn : nn = false := by
    rw [h0] at hn
    cases nn with
    | false => rfl
    | true => simp at hn
  rw [h.vals hnn, hd, hv h0]
  simp
theorem FillD.done {look : Bs → Option Nat} {fs : List Nat} {ws : List Bs} {nn : Bool} {vs : List Int} (h : FillD look fs ws fs.length nn vs) (hl : ws.length = fs.length) : (fillV look false fs ws).1 = (if nn then 5 else 0) ∧ (nn = false → (fillV look false fs ws).2 = vs) := by
  have h1 := h.code
  have h2 := h.vals
  rw [List.drop_eq_nil_of_le (Nat.le_refl _), List.drop_eq_nil_of_le (by omega)] at h1 h2
  rw [h1]
  refine ⟨by simp [fillV], fun h0 => ?_⟩
  rw [h2 h0]
  simp [fillV]
/-- What a line of kind k leaves. -/
def lineK (last : Int) (c : CfgD) (k : Nat) (ws : List Bs) : Nat := if may last k = false then 1 else (fillV (lookF (lastPts c.ents)) false (form k) ws).1
theorem lineK_no {last : Int} {c : CfgD} {k : Nat} {ws : List Bs} (h : may last k = false) : lineK last c k ws = 1 := by unfold lineK; rw [if_pos h]
theorem lineK_yes {last : Int} {c : CfgD} {k : Nat} {ws : List Bs} (h : may last k = true) : lineK last c k ws = (fillV (lookF (lastPts c.ents)) false (form k) ws).1 := by unfold lineK; rw [if_neg (by rw [h]; simp)]
theorem lineW_k {last : Int} {c : CfgD} {k : Nat} (hk : k < 10) (ws : List Bs) : (lineW lookF ⟨last, c⟩ (kw k) ws).1 = lineK last c k ws ∧ (lineK last c k ws = 0 → (lineW lookF ⟨last, c⟩ (kw k) ws).2 = ⟨k, updC c k ws (fillV (lookF (lastPts c.ents)) false (form k) ws).2⟩) := by
  unfold lineW lineK
  rw [kindOf_kw k hk]
  simp only
  split
  · exact ⟨rfl, fun h => by simp at h⟩
  · split
    · rename_i h0; exact ⟨h0.symm, fun _ => rfl⟩
    · rename_i h0; exact ⟨rfl, fun h => absurd h h0⟩
/-- The words behind the first, in memory. -/
theorem words_k {wl : List ByteArray} {k : Nat} {ws : List Bs} (h : wl.map bl = kw k :: ws) : ∃ wt, wl = kwB k :: wt ∧ wt.map bl = ws := by
  cases wl with
  | nil => simp at h
  | cons a wt =>
    simp only [List.map_cons, List.cons.injEq] at h
    exact ⟨wt, by rw [show a = kwB k from bl_inj (by rw [h.1, kwB, bl_mk])], h.2⟩
theorem flatS (ws : List ByteArray) : ws.flatMap encS = ws.map Value.string := by
  induction ws with
  | nil => rfl
  | cons a t ih => rw [List.flatMap_cons, List.map_cons, ih]; rfl
theorem flatI (vs : List Int) : vs.flatMap encI = vs.map (Value.int .i64) := by
  induction vs with
  | nil => rfl
  | cons a t ih => rw [List.flatMap_cons, List.map_cons, ih]; rfl
theorem own_word {w : World} {B g n cap : Nat} {ws : List ByteArray} (h : w.ownsRow B 9 1 (.slice (some ⟨g, 0, none⟩) n cap) n (ws.flatMap encS)) (j : Nat) (s : ByteArray) (hj : ws[j]? = some s) : w.cell? ⟨g, j, none⟩ = some (.string s) := by
  have := h.cells (g := g) rfl j (.string s) (by
    rw [flatS]
    simp [hj])
  rw [addC_plain] at this
  simpa using this
theorem own_int {w : World} {B g n cap : Nat} {vs : List Int} (h : w.ownsRow B 3 1 (.slice (some ⟨g, 0, none⟩) n cap) n (vs.flatMap encI)) (j : Nat) (s : Int) (hj : vs[j]? = some s) : w.cell? ⟨g, j, none⟩ = some (.int .i64 s) := by
  have := h.cells (g := g) rfl j (.int .i64 s) (by
    rw [flatI]
    simp [hj])
  rw [addC_plain] at this
  simpa using this
end Go.Proofs.YtbholbenjalliaaGreatDoor

namespace Go.Proofs.YtbholbenjalliaaGreatDoor
open Go.RowKit Go.Extern.Stop Go.Stop Go.Extern Go.Maps

/-- The reader ahead of a line that begins an entity. -/
structure DrV (B rb : Nat) (w : World) (c : CfgD) (lw : ByteArray) (ev : Value) (cells : List Value) : Prop where
  lo : rb = rb ∨ B ≤ rb
  row : w.heap[rb]? = some (.cells (drRow c ev lw) 86 (0, 0))
  ents : w.ownsRow B 52 10 ev c.ents.length cells
  olds : ∀ (i : Nat) e', c.ents[i]? = some e' → ∃ x', OwnX B w e' x' ∧ LtX w.heap.size x' ∧ ∀ (j : Nat) u, (x'.row e')[j]? = some u → cells[i * 10 + j]? = some u
theorem DrS.view {B rb : Nat} {w : World} {c : CfgD} {lw : ByteArray} (h : DrS B rb w c lw) : ∃ ev cells, DrV B rb w c lw ev cells := by
  rcases h with h | ⟨L, g, cap, es, e, x, cells, h1, h2, h3⟩
  · exact ⟨_, [], h.lo, h.row, by rw [h.nil]; exact World.ownsRow_nil _ _ _ _, fun i e' he => by rw [h.nil] at he; simp at he⟩
  · refine ⟨_, cells ++ (x.row e).toList, h3.lo, h3.row, by rw [h1, List.length_append]; exact h3.ents, fun i e' he => ?_⟩
    rw [h1] at he
    rcases Nat.lt_or_ge i es.length with hi | hi
    · rw [List.getElem?_append_left hi] at he
      obtain ⟨x', a, b, d⟩ := h3.olds i e' he
      refine ⟨x', a, b.mono h2, fun j u hu => ?_⟩
      have := d j u hu
      have hlt : i * 10 + j < cells.length := by
        rcases Nat.lt_or_ge (i * 10 + j) cells.length with h' | h'
        · exact h'
        · rw [List.getElem?_eq_none h'] at this; cases this
      rw [List.getElem?_append_left hlt]
      exact this
    · rw [List.getElem?_append_right hi] at he
      have h0 : i = es.length := by
        rcases Nat.eq_zero_or_pos (i - es.length) with h' | h'
        · omega
        · rw [List.getElem?_eq_none (by simp; omega)] at he; cases he
      subst h0
      simp at he
      subst he
      refine ⟨x, h3.new.weak h3.loL, h3.new.ltx, fun j u hu => ?_⟩
      rw [List.getElem?_append_right (by rw [h3.clen]; omega), h3.clen, Nat.add_sub_cancel_left, Array.getElem?_toList]
      exact hu
theorem DrV.below {B rb : Nat} {w w' : World} {c : CfgD} {lw : ByteArray} {ev : Value} {cells : List Value} (h : DrV B rb w c lw ev cells) (hb : Below w.heap.size w w') : DrV B rb w' c lw ev cells :=
  ⟨h.lo, row_below hb h.row, h.ents.kept (row := none) ⟨hb.os, hb.tape, hb.output, hb.size, fun k hk _ => hb.block k hk⟩ (by by_cases e : ev.ownBlock = none; exact Or.inl e; exact Or.inr e), fun i e' he => by
    obtain ⟨x', a, b, d⟩ := h.olds i e' he
    exact ⟨x', OwnParts.below a hb, b.mono hb.size, d⟩⟩
/-- The reader's last word is written. -/
theorem DrV.setW {B rb : Nat} {w : World} {c : CfgD} {lw : ByteArray} {ev : Value} {cells : List Value} (h : DrV B rb w c lw ev cells) (lw' : ByteArray) : DrV B rb (w.setCell ⟨rb, 5, none⟩ (.string lw')) c lw' ev cells := by
  have hg := grown_cell w rb 5 (.string lw')
  refine ⟨h.lo, ?_, h.ents.kept hg (Or.inr (own_ne h.ents h.row (by decide))), fun i e' he => ?_⟩
  · simp only [World.setCell, Array.getElem?_modify, h.row]
    simp [drRow]
  · obtain ⟨x', a, b, d⟩ := h.olds i e' he
    exact ⟨x', a.other hg h.row (by decide) (by decide) (by decide) (by decide), b.mono hg.size, d⟩
/-- What is there behind a new entity. -/
theorem drE_new {B rb g cap : Nat} {V w8 : World} {c : CfgD} {lw : ByteArray} {ev : Value} {cells : List Value} {nm : ByteArray} {z : Int} (h : DrV B rb V c lw ev cells) (hB : B ≤ V.heap.size) (hg : V.grownBy w8 ev.ownBlock)
    (ho : w8.ownsRow B 52 10 (.slice (some ⟨g, 0, none⟩) (c.ents.length + 1) cap) (c.ents.length + 1) (cells ++ (nilX.row (newR nm z)).toList)) :
    DrE B rb V.heap.size g cap (w8.setCell ⟨rb, 4, none⟩ (.slice (some ⟨g, 0, none⟩) (c.ents.length + 1) cap)) c lw c.ents (newR nm z) nilX cells := by
  have hrow8 : w8.heap[rb]? = some (.cells (drRow c ev lw) 86 (0, 0)) := (hg.block rb (lt_of_row h.row) (fun e2 => own_ne h.ents h.row (by decide) e2.symm)).trans h.row
  have g1 := grown_cell w8 rb 4 (.slice (some ⟨g, 0, none⟩) (c.ents.length + 1) cap)
  refine ⟨h.lo, hB, ?_, ho.kept g1 (Or.inr (own_ne ho hrow8 (by decide))), rfl, h.ents.1, fun i e' he => ?_, newR_own _ _ _ _, Or.inl rfl⟩
  · simp only [World.setCell, Array.getElem?_modify, hrow8]
    simp [drRow]
  · obtain ⟨x', a, b, d⟩ := h.olds i e' he
    exact ⟨x', (OwnX.grown a h.ents hg).other g1 hrow8 (by decide) (by decide) (by decide) (by decide), b, d⟩
theorem DrM.cfg {B rb L g cap : Nat} {w : World} {c c' : CfgD} {lw : ByteArray} {es : List EntD} {old : List Value} {e : EntD} {x : PV5} {cells : List Value} (h : DrM B rb L g cap w c lw es old e x cells) (hr : ∀ ev lw, drRow c ev lw = drRow c' ev lw) : DrM B rb L g cap w c' lw es old e x cells :=
  ⟨h.lo, h.loL, by rw [← hr]; exact h.row, h.ents, h.olen, h.clen, h.olds, h.new, h.fl⟩
theorem DrE.cfg {B rb L g cap : Nat} {w : World} {c c' : CfgD} {lw : ByteArray} {es : List EntD} {e : EntD} {x : PV5} {cells : List Value} (h : DrE B rb L g cap w c lw es e x cells) (hr : ∀ ev lw, drRow c ev lw = drRow c' ev lw) : DrE B rb L g cap w c' lw es e x cells := DrM.cfg h hr
end Go.Proofs.YtbholbenjalliaaGreatDoor

namespace Go.Proofs.YtbholbenjalliaaGreatDoor
open Go.RowKit Go.Extern.Stop Go.Stop Go.Extern Go.Maps

theorem DrM.appPts {B rb L g cap : Nat} {w w' : World} {c : CfgD} {lw : ByteArray} {es : List EntD} {old : List Value} {e : EntD} {x : PV5} {cells : List Value} {g' cap' : Nat} (h : DrM B rb L g cap w c lw es old e x cells) (q : ByteArray) (hgr : w.grownBy w' x.p.ownBlock) (hown : w'.ownsRow L 9 1 (.slice (some ⟨g', 0, none⟩) (e.pts.length + 1) cap') (e.pts.length + 1) (e.pts.flatMap encS ++ encS q)) :
    DrM B rb L g cap w' c lw es old { e with pts := e.pts ++ [q] } { x with p := (.slice (some ⟨g', 0, none⟩) (e.pts.length + 1) cap') } cells := by
  obtain ⟨cur, hc, -⟩ := h.grow
  exact h.grown hgr (fun b hb => (h.new.hp.lt b hb).1) (own_ne h.new.hp h.row (by decide)) (own_ne h.new.hp hc (by decide)) ⟨(by show w'.ownsRow _ _ _ _ _ _; simpa [List.flatMap_append] using hown), (World.ownsRow.kept h.new.hg hgr (own_ne2 h.new.hg h.new.hp (by decide))), (World.ownsRow.kept h.new.he hgr (own_ne2 h.new.he h.new.hp (by decide))), (World.ownsRow.kept h.new.hf hgr (own_ne2 h.new.hf h.new.hp (by decide))), (World.ownsRow.kept h.new.hl hgr (own_ne2 h.new.hl h.new.hp (by decide)))⟩ (h.fl)
theorem DrM.appGap {B rb L g cap : Nat} {w w' : World} {c : CfgD} {lw : ByteArray} {es : List EntD} {old : List Value} {e : EntD} {x : PV5} {cells : List Value} {g' cap' : Nat} (h : DrM B rb L g cap w c lw es old e x cells) (q : GapD) (hgr : w.grownBy w' x.g.ownBlock) (hown : w'.ownsRow L 78 4 (.slice (some ⟨g', 0, none⟩) (e.gaps.length + 1) cap') (e.gaps.length + 1) (e.gaps.flatMap encG ++ encG q)) :
    DrM B rb L g cap w' c lw es old { e with gaps := e.gaps ++ [q] } { x with g := (.slice (some ⟨g', 0, none⟩) (e.gaps.length + 1) cap') } cells := by
  obtain ⟨cur, hc, -⟩ := h.grow
  exact h.grown hgr (fun b hb => (h.new.hg.lt b hb).1) (own_ne h.new.hg h.row (by decide)) (own_ne h.new.hg hc (by decide)) ⟨(World.ownsRow.kept h.new.hp hgr (own_ne2 h.new.hp h.new.hg (by decide))), (by show w'.ownsRow _ _ _ _ _ _; simpa [List.flatMap_append] using hown), (World.ownsRow.kept h.new.he hgr (own_ne2 h.new.he h.new.hg (by decide))), (World.ownsRow.kept h.new.hf hgr (own_ne2 h.new.hf h.new.hg (by decide))), (World.ownsRow.kept h.new.hl hgr (own_ne2 h.new.hl h.new.hg (by decide)))⟩ (h.fl)
theorem DrM.appEdge {B rb L g cap : Nat} {w w' : World} {c : CfgD} {lw : ByteArray} {es : List EntD} {old : List Value} {e : EntD} {x : PV5} {cells : List Value} {g' cap' : Nat} (h : DrM B rb L g cap w c lw es old e x cells) (q : (Int × Int)) (hgr : w.grownBy w' x.e.ownBlock) (hown : w'.ownsRow L 79 2 (.slice (some ⟨g', 0, none⟩) (e.edges.length + 1) cap') (e.edges.length + 1) (e.edges.flatMap encP ++ encP q)) :
    DrM B rb L g cap w' c lw es old { e with edges := e.edges ++ [q] } { x with e := (.slice (some ⟨g', 0, none⟩) (e.edges.length + 1) cap') } cells := by
  obtain ⟨cur, hc, -⟩ := h.grow
  exact h.grown hgr (fun b hb => (h.new.he.lt b hb).1) (own_ne h.new.he h.row (by decide)) (own_ne h.new.he hc (by decide)) ⟨(World.ownsRow.kept h.new.hp hgr (own_ne2 h.new.hp h.new.he (by decide))), (World.ownsRow.kept h.new.hg hgr (own_ne2 h.new.hg h.new.he (by decide))), (by show w'.ownsRow _ _ _ _ _ _; simpa [List.flatMap_append] using hown), (World.ownsRow.kept h.new.hf hgr (own_ne2 h.new.hf h.new.he (by decide))), (World.ownsRow.kept h.new.hl hgr (own_ne2 h.new.hl h.new.he (by decide)))⟩ (h.fl)
theorem DrM.appFirst {B rb L g cap : Nat} {w w' : World} {c : CfgD} {lw : ByteArray} {es : List EntD} {old : List Value} {e : EntD} {x : PV5} {cells : List Value} {g' cap' : Nat} (h : DrM B rb L g cap w c lw es old e x cells) (q : Int) (hgr : w.grownBy w' x.f.ownBlock) (hown : w'.ownsRow L 3 1 (.slice (some ⟨g', 0, none⟩) (e.first.length + 1) cap') (e.first.length + 1) (e.first.flatMap encI ++ encI q)) (hne : ∀ b, x.l.ownBlock = some b → b ≠ g') :
    DrM B rb L g cap w' c lw es old { e with first := e.first ++ [q] } { x with f := (.slice (some ⟨g', 0, none⟩) (e.first.length + 1) cap') } cells := by
  obtain ⟨cur, hc, -⟩ := h.grow
  exact h.grown hgr (fun b hb => (h.new.hf.lt b hb).1) (own_ne h.new.hf h.row (by decide)) (own_ne h.new.hf hc (by decide)) ⟨(World.ownsRow.kept h.new.hp hgr (own_ne2 h.new.hp h.new.hf (by decide))), (World.ownsRow.kept h.new.hg hgr (own_ne2 h.new.hg h.new.hf (by decide))), (World.ownsRow.kept h.new.he hgr (own_ne2 h.new.he h.new.hf (by decide))), (by show w'.ownsRow _ _ _ _ _ _; simpa [List.flatMap_append] using hown), (World.ownsRow.kept h.new.hl hgr (fl_sym h.fl))⟩ (Or.inr (fun e1 => hne g' e1.symm rfl))
theorem DrM.appLast {B rb L g cap : Nat} {w w' : World} {c : CfgD} {lw : ByteArray} {es : List EntD} {old : List Value} {e : EntD} {x : PV5} {cells : List Value} {g' cap' : Nat} (h : DrM B rb L g cap w c lw es old e x cells) (q : Int) (hgr : w.grownBy w' x.l.ownBlock) (hown : w'.ownsRow L 3 1 (.slice (some ⟨g', 0, none⟩) (e.last.length + 1) cap') (e.last.length + 1) (e.last.flatMap encI ++ encI q)) (hne : ∀ b, x.f.ownBlock = some b → b ≠ g') :
    DrM B rb L g cap w' c lw es old { e with last := e.last ++ [q] } { x with l := (.slice (some ⟨g', 0, none⟩) (e.last.length + 1) cap') } cells := by
  obtain ⟨cur, hc, -⟩ := h.grow
  exact h.grown hgr (fun b hb => (h.new.hl.lt b hb).1) (own_ne h.new.hl h.row (by decide)) (own_ne h.new.hl hc (by decide)) ⟨(World.ownsRow.kept h.new.hp hgr (own_ne2 h.new.hp h.new.hl (by decide))), (World.ownsRow.kept h.new.hg hgr (own_ne2 h.new.hg h.new.hl (by decide))), (World.ownsRow.kept h.new.he hgr (own_ne2 h.new.he h.new.hl (by decide))), (World.ownsRow.kept h.new.hf hgr h.fl), (by show w'.ownsRow _ _ _ _ _ _; simpa [List.flatMap_append] using hown)⟩ ((by cases e1 : x.f.ownBlock with | none => exact Or.inl rfl | some b => exact Or.inr (fun e2 => hne b e1 (Option.some.inj e2))))
theorem int_apart {w : World} {L g' H : Nat} {e : EntD} {x : PV5} (hX : OwnX L w e x) (hor : x.f.ownBlock = some g' ∨ g' = H) (hfl : x.f.ownBlock = none ∨ x.f.ownBlock ≠ x.l.ownBlock) (hH : w.heap.size ≤ H) : ∀ b, x.l.ownBlock = some b → b ≠ g' := by
  intro b hb e2
  subst e2
  rcases hor with h1 | h1
  · rcases hfl with h3 | h3
    · rw [h3] at h1; cases h1
    · exact h3 (h1.trans hb.symm)
  · have := own_lt hX.hl b hb
    omega
theorem int_apart2 {w : World} {L g' H : Nat} {e : EntD} {x : PV5} (hX : OwnX L w e x) (hor : x.l.ownBlock = some g' ∨ g' = H) (hfl : x.f.ownBlock = none ∨ x.f.ownBlock ≠ x.l.ownBlock) (hH : w.heap.size ≤ H) : ∀ b, x.f.ownBlock = some b → b ≠ g' := by
  intro b hb e2
  subst e2
  rcases hor with h1 | h1
  · rcases hfl with h3 | h3
    · rw [h3] at hb; cases hb
    · exact h3 (hb.trans h1.symm)
  · have := own_lt hX.hf b hb
    omega
/-- A block of one's own that holds an entity is written. -/
theorem row_set {w : World} {b j : Nat} {cs : Array Value} {T : TypeId} (h : w.heap[b]? = some (.cells cs T (0, 0))) (u : Value) : (w.setCell ⟨b, j, none⟩ u).heap[b]? = some (.cells (cs.setIfInBounds j u) T (0, 0)) := by
  simp only [World.setCell, Array.getElem?_modify, h]
  simp
end Go.Proofs.YtbholbenjalliaaGreatDoor
