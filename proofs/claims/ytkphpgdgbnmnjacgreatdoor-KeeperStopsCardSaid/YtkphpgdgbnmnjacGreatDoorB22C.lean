/-
  Several texts as one: CfNamP, CfName, CfFirst, CfCfg, CfNames.
-/
import Derived.Test.YtkphpgdgbnmnjacGreatDoorB01C
import Derived.Test.YtkphpgdgbnmnjacGreatDoorB20C
import Derived.Test.YtkphpgdgbnmnjacGreatDoorB00C
import Derived.BigQuiet
import Derived.Deep.QuietTactic
import Derived.Deep.DeepCutAuto
import Derived.WalkSmall
import Derived.Lib.ConvBytes
import Derived.Lib.BufferWrite
import Derived.Laws.EntriesVeiled
import Derived.Shelf.Abstract
import Derived.Maps.OwnSet
import Derived.StringKeys
namespace Go.Proofs.YtkphpgdgbnmnjacGreatDoor
open Go.RowKit Go.Extern.Stop Go.Stop Go.Extern

theorem byte_at (s : ByteArray) (k : Nat) (h : k < s.size) : s[k] = s.data.toList.getD k 0 := by
  have : k < s.data.toList.length := by rw [Array.length_toList]; exact h
  rw [List.getD_eq_getElem?_getD, List.getElem?_eq_getElem this]
  rfl
theorem isName_no {s : ByteArray} (h : s.size < 1 ∨ 12 < s.size) : isName s = false := by
  unfold isName
  rcases h with h | h
  · have : decide (1 ≤ s.size) = false := decide_eq_false (by omega)
    rw [this]; rfl
  · have : decide (s.size ≤ 12) = false := decide_eq_false (by omega)
    rw [this]; simp
theorem isName_first {s : ByteArray} (h : isLetter (s.data.toList.getD 0 0) = false) : isName s = false := by
  have e : s.data.getD 0 0 = s.data.toList.getD 0 0 := by simp
  unfold isName
  rw [e, h]; simp
theorem isName_bad {s : ByteArray} {k : Nat} (h1 : k < s.size) (h : nameByte (s.data.toList.getD k 0) = false) : isName s = false := by
  have hk : k < s.data.toList.length := by rw [Array.length_toList]; exact h1
  have : s.data.toList.all nameByte = false := by
    rw [List.all_eq_false]
    refine ⟨s.data.toList.getD k 0, ?_, by simpa using h⟩
    rw [List.getD_eq_getElem?_getD, List.getElem?_eq_getElem hk]
    exact List.getElem_mem hk
  unfold isName
  rw [this]; simp
theorem isName_yes {s : ByteArray} (h1 : 1 ≤ s.size) (h2 : s.size ≤ 12) (h3 : isLetter (s.data.toList.getD 0 0) = true) (h : ∀ j, j < s.size → nameByte (s.data.toList.getD j 0) = true) : isName s = true := by
  have e : s.data.getD 0 0 = s.data.toList.getD 0 0 := by simp
  have ha : s.data.toList.all nameByte = true := by
    rw [List.all_eq_true]
    intro b hb
    obtain ⟨j, hj, rfl⟩ := List.getElem_of_mem hb
    have := h j (by rw [Array.length_toList] at hj; exact hj)
    rw [List.getD_eq_getElem?_getD, List.getElem?_eq_getElem hj] at this
    exact this
  unfold isName
  rw [e, h3, ha]; simp [h1, h2]
end Go.Proofs.YtkphpgdgbnmnjacGreatDoor

namespace Go.Proofs.YtkphpgdgbnmnjacGreatDoor
open Go.RowKit Go.Extern.Stop Go.Stop Go.Extern

theorem bytes_madeC (w : World) (t : ByteArray) : ∃ cap W, (convert 9 111 (.string t)).run Tryz.prog w = .ok (.slice (some ⟨w.heap.size, 0, .none⟩) t.size cap) W ∧ Below w.heap.size w W ∧
    (∀ j, j < t.size → W.cell? ⟨w.heap.size, j, .none⟩ = some (.int .u8 ((t.data.toList.getD j 0).toNat : Int))) := by
  exact ⟨_, _, Lib.run_convert_string_bytes w 9 111 5 t Tryz.underlying9 Tryz.underlying111 Tryz.underlying5, ⟨rfl, rfl, rfl, by rw [Lib.bytesWorld_size]; omega, fun i hi => Lib.bytesWorld_at_old w _ t i hi⟩, fun j hj => Lib.bytesWorld_cell w _ t j hj⟩
set_option maxHeartbeats 1000000 in
theorem isName_at (s : ByteArray) (w : World) (hs : s.size ≤ 1000000) : Calls Tryz.prog 139 #[.string s] w fun e w' => e = .returned (.bool (isName s)) ∧ Below w.heap.size w w' := by
  by_cases hsz : 1 ≤ s.size ∧ s.size ≤ 12
  · obtain ⟨z1, z2⟩ := hsz
    have hw := within_at (s.size : Int) 1 12 w
    rw [show within (s.size : Int) 1 12 = true by simp [within]; omega] at hw
    have k0 : (0 : Int) < (s.size : Int) := by omega
    have hb0 : Hid (∀ h : 0 < s.size, s[0] = s.data.toList.getD 0 0) := fun h => byte_at s 0 h
    have hl := isLetter_at (s.data.toList.getD 0 0) w
    by_cases hL : isLetter (s.data.toList.getD 0 0) = true
    · rw [hL] at hl
      have HZ : Hid (1 ≤ s.size ∧ s.size ≤ 12 ∧ isLetter (s.data.toList.getD 0 0) = true) := ⟨z1, z2, hL⟩
      clear z1 z2 hL hs
      go_enter Tryz.func139, Tryz.ntmps139
      go_wp2_with fail
      refine hw.mono ?_
      rintro e w' ⟨rfl, rfl⟩
      go_wp2_with fail
      rw [hb0.out]
      refine hl.mono ?_
      rintro e w ⟨rfl, rfl⟩
      clear hl hw hb0 k0
      obtain ⟨cap, W, hcv, hbW, hcell⟩ := bytes_madeC w s
      have HCl : Hid (∀ j, j < s.size → W.cell? ⟨w.heap.size, j, .none⟩ = some (.int .u8 ((s.data.toList.getD j 0).toNat : Int))) := hcell
      have HbW : Hid (Below w.heap.size w W) := hbW
      clear hcell hbW
      go_wp2_with fail
      go_loopw [4, 18] (fun _ i wr => ∃ k : Nat, k ≤ s.size ∧ i = .int .i64 k ∧ wr = W ∧ ∀ j, j < k → nameByte (s.data.toList.getD j 0) = true) (fun _ i _ => s.size - (intOf i).toNat)
      case atStart => exact ⟨0, Nat.zero_le _, rfl, rfl, fun j hj => absurd hj (Nat.not_lt_zero _)⟩
      case round =>
        obtain ⟨k, hk, rfl, rfl, hall⟩ := hrel
        by_cases hlt : k < s.size
        · have hc := HCl.out k hlt
          have HB : Hid (∀ j, j < k → nameByte (s.data.toList.getD j 0) = true) := hall
          have HY : Hid (nameByte (s.data.toList.getD k 0) = false → isName s = false) := fun h => isName_bad hlt h
          have k1 : (k : Int) < (s.size : Int) := by omega
          have k12 : k < 12 := by have := HZ.out.2.1; omega
          have HX : Hid (∀ b : Bool, nameByte (s.data.toList.getD k 0) = b → nameByte (s.data.toList.getD k 0) = b) := fun b h => h
          have HK : Hid (∃ c, c = s.data.toList.getD k 0) := ⟨_, rfl⟩
          clear hall hcv
          obtain ⟨c, hcc⟩ := HK.out
          rw [← hcc] at hc
          have HC : Hid (c = s.data.toList.getD k 0) := hcc
          clear hcc HK HX
          have hd := isDigit_at c
          have hl2 := isLetter_at c
          by_cases b1 : isLetter c = true
          · rw [b1] at hl2
            go_wp2_with fail
            refine (hl2 _).mono ?_
            rintro e w' ⟨rfl, rfl⟩
            go_wp2
            go_roundw
            case rel =>
              refine ⟨k + 1, by omega, by go_num, by first | trivial | rfl, fun j hj => ?_⟩
              by_cases e : j = k
              · rw [e, ← HC.out]; simp [nameByte, b1]
              · exact HB.out j (by omega)
            case measure => simp [intOf]; omega
          · simp only [Bool.not_eq_true] at b1
            rw [b1] at hl2
            by_cases b2 : isDig c = true
            · rw [b2] at hd
              go_wp2_with fail
              refine (hl2 _).mono ?_
              rintro e w' ⟨rfl, rfl⟩
              go_wp2_with fail
              refine (hd _).mono ?_
              rintro e w' ⟨rfl, rfl⟩
              go_wp2
              go_roundw
              case rel =>
                refine ⟨k + 1, by omega, by go_num, by first | trivial | rfl, fun j hj => ?_⟩
                by_cases e : j = k
                · rw [e, ← HC.out]; simp [nameByte, b2]
                · exact HB.out j (by omega)
              case measure => simp [intOf]; omega
            · simp only [Bool.not_eq_true] at b2
              rw [b2] at hd
              by_cases b3 : (c.toNat : Int) = 45
              · have b4 : ((c.toNat : Int) == 45) = true := by simpa using b3
                have HN : Hid (nameByte c = true) := by show _ = _; simp [nameByte]; right; omega
                clear b3
                go_wp2_with fail
                refine (hl2 _).mono ?_
                rintro e w' ⟨rfl, rfl⟩
                go_wp2_with fail
                refine (hd _).mono ?_
                rintro e w' ⟨rfl, rfl⟩
                go_wp2
                go_roundw
                case rel =>
                  refine ⟨k + 1, by omega, by go_num, by first | trivial | rfl, fun j hj => ?_⟩
                  by_cases e : j = k
                  · rw [e, ← HC.out]; exact HN.out
                  · exact HB.out j (by omega)
                case measure => simp [intOf]; omega
              · have HN : Hid (nameByte c = false) := by show _ = _; simp [nameByte, b1, b2]; omega
                go_wp2_with fail
                refine (hl2 _).mono ?_
                rintro e w' ⟨rfl, rfl⟩
                go_wp2_with fail
                refine (hd _).mono ?_
                rintro e w' ⟨rfl, rfl⟩
                go_wp2
                go_ret
                exact ⟨by rw [HY.out (by rw [← HC.out]; exact HN.out)]; rfl, HbW.out⟩
        · have HY : Hid (isName s = true) := isName_yes HZ.out.1 HZ.out.2.1 HZ.out.2.2 (fun j hj => hall j (by omega))
          have k1 : ¬ (k : Int) < (s.size : Int) := by omega
          clear hall hcv
          go_wp2
          go_ret
          exact ⟨by rw [HY.out]; rfl, HbW.out⟩
    · simp only [Bool.not_eq_true] at hL
      rw [hL] at hl
      have HY : Hid (isName s = false) := isName_first hL
      go_enter Tryz.func139, Tryz.ntmps139
      go_wp2_with fail
      refine hw.mono ?_
      rintro e w' ⟨rfl, rfl⟩
      go_wp2_with fail
      rw [hb0.out]
      refine hl.mono ?_
      rintro e w' ⟨rfl, rfl⟩
      go_wp2
      go_ret
      exact ⟨by rw [HY.out]; rfl, Below.refl _ _⟩
  · have hw := within_at (s.size : Int) 1 12 w
    rw [show within (s.size : Int) 1 12 = false by simp [within]; omega] at hw
    have HY : Hid (isName s = false) := isName_no (by omega)
    clear hsz
    go_enter Tryz.func139, Tryz.ntmps139
    go_wp2_with fail
    refine hw.mono ?_
    rintro e w' ⟨rfl, rfl⟩
    go_wp2
    go_ret
    exact ⟨by rw [HY.out]; rfl, Below.refl _ _⟩
end Go.Proofs.YtkphpgdgbnmnjacGreatDoor

namespace Go.Proofs.YtkphpgdgbnmnjacGreatDoor
open Go.RowKit Go.Extern.Stop Go.Stop Go.Extern

/-- Rules in memory: their errors, and their functions, which answer so of the value v. -/
structure RulesAt (A : Nat → Addr) (w : World) (rb : Nat) (v : Value) (l : List (Bool × Nat)) (g : Nat → Nat) : Prop where
  cell : ∀ i b c, l[i]? = some (b, c) → w.cell? ⟨rb, i * 2, none⟩ = some (errV A c) ∧ w.cell? ⟨rb, i * 2 + 1, none⟩ = some (.func (.func (g i)) #[] #[])
  eg : ∀ i b c, l[i]? = some (b, c) → ∀ args w, (callFunc (g i) args).run Tryz.prog w = .ok (.enter (g i) args) w
  call : ∀ i b c, l[i]? = some (b, c) → ∀ W, Below w.heap.size w W → Calls Tryz.prog (g i) #[v] W fun e W' => e = .returned (.bool b) ∧ Below W.heap.size W W'
  few : l.length ≤ 100
  pos : ∀ (i : Nat) (b : Bool) (c : Nat), l[i]? = some (b, c) → 0 < c
theorem firstOf_at : ∀ (l : List (Bool × Nat)) (k : Nat) (c : Nat), (∀ (i : Nat) (b : Bool) (d : Nat), i < k → l[i]? = some (b, d) → b = false) → l[k]? = some (true, c) → firstOf l = c
  | [], k, c, _, h => by simp at h
  | (b, d) :: t, 0, c, _, h => by simp at h; obtain ⟨rfl, rfl⟩ := h; simp [firstOf]
  | (b, d) :: t, k + 1, c, h, h2 => by
    have := h 0 b d (by omega) rfl
    subst this
    simp [firstOf]
    exact firstOf_at t k c (fun i b d hi e => h (i + 1) b d (by omega) (by simpa using e)) (by simpa using h2)
theorem firstOf_none : ∀ (l : List (Bool × Nat)), (∀ (i : Nat) (b : Bool) (d : Nat), l[i]? = some (b, d) → b = false) → firstOf l = 0
  | [], _ => rfl
  | (b, d) :: t, h => by
    have := h 0 b d rfl
    subst this
    simp [firstOf]
    exact firstOf_none t (fun i b d e => h (i + 1) b d (by simpa using e))

set_option maxHeartbeats 1000000 in
theorem first_cfg (A : Nat → Addr) (x0 x1 x2 x3 : Int) (sa : Option Addr) (sn sc : Nat) (rb : Nat) (l : List (Bool × Nat)) (g : Nat → Nat) (w : World) (h : RulesAt A w rb (.agg #[.int .i64 x0, .int .i64 x1, .int .i64 x2, .int .i64 x3, .slice sa sn sc]) l g) :
    Calls Tryz.prog 97 #[.agg #[.int .i64 x0, .int .i64 x1, .int .i64 x2, .int .i64 x3, .slice sa sn sc], .slice (some ⟨rb, 0, none⟩) l.length l.length] w fun e w' => e = .returned (errV A (firstOf l)) ∧ Below w.heap.size w w' := by
  have hfew : Hid (l.length ≤ 100) := h.few
  have H : Hid (RulesAt A w rb (.agg #[.int .i64 x0, .int .i64 x1, .int .i64 x2, .int .i64 x3, .slice sa sn sc]) l g) := h
  clear h
  go_enter Tryz.func97, Tryz.ntmps97
  go_wp2_with fail
  have HS : Hid (∀ W, Below (w.heap.size + 1) (w.alloc (.cells #[.int .i64 x0, .int .i64 x1, .int .i64 x2, .int .i64 x3, .slice sa sn sc] 24)) W → Below w.heap.size w W ∧ w.heap.size + 1 ≤ W.heap.size ∧ W.cell? ⟨w.heap.size, 0, none⟩ = some (.int .i64 x0) ∧ W.cell? ⟨w.heap.size, 1, none⟩ = some (.int .i64 x1) ∧ W.cell? ⟨w.heap.size, 2, none⟩ = some (.int .i64 x2) ∧ W.cell? ⟨w.heap.size, 3, none⟩ = some (.int .i64 x3) ∧ W.cell? ⟨w.heap.size, 4, none⟩ = some (.slice sa sn sc)) := fun W hb => by
    have hc : ∀ j v, (w.alloc (.cells #[.int .i64 x0, .int .i64 x1, .int .i64 x2, .int .i64 x3, .slice sa sn sc] 24)).cell? ⟨w.heap.size, j, none⟩ = some v → W.cell? ⟨w.heap.size, j, none⟩ = some v := fun j v e => (hb.cell (p := ⟨w.heap.size, j, none⟩) (Nat.lt_succ_self _)).trans e
    exact ⟨((Below.refl _ _).alloc (Nat.le_refl _) _).trans (hb.mono (Nat.le_succ _)), by simpa using hb.size, hc 0 (.int .i64 x0) (by simp), hc 1 (.int .i64 x1) (by simp), hc 2 (.int .i64 x2) (by simp), hc 3 (.int .i64 x3) (by simp), hc 4 (.slice sa sn sc) (by simp)⟩
  go_loopw [6, 9] (fun _ i wr => ∃ k : Nat, k ≤ l.length ∧ i = .int .i64 k ∧ Below (w.heap.size + 1) (w.alloc (.cells #[.int .i64 x0, .int .i64 x1, .int .i64 x2, .int .i64 x3, .slice sa sn sc] 24)) wr ∧ Hid (∀ (i : Nat) (b : Bool) (d : Nat), i < k → l[i]? = some (b, d) → b = false)) (fun _ i _ => l.length - (intOf i).toNat)
  case atStart => exact ⟨0, Nat.zero_le _, rfl, Below.refl _ _, fun i b d hi => absurd hi (Nat.not_lt_zero _)⟩
  case round =>
    obtain ⟨k, hk, rfl, hbw, hall⟩ := hrel
    obtain ⟨hbw1, hsz, p0, p1, p2, p3, p4⟩ := HS.out _ hbw
    by_cases hlt : k < l.length
    · obtain ⟨⟨b, c⟩, hkk⟩ : ∃ x, l[k]? = some x := ⟨_, List.getElem?_eq_getElem hlt⟩
      have c0 := cell_below hbw1 (H.out.cell k b c hkk).1
      have c1 := cell_below hbw1 (H.out.cell k b c hkk).2
      have egk := H.out.eg k b c hkk
      have HC : Hid (∀ W, Below w.heap.size w W → Calls Tryz.prog (g k) #[.agg #[.int .i64 x0, .int .i64 x1, .int .i64 x2, .int .i64 x3, .slice sa sn sc]] W fun e W' => e = .returned (.bool b) ∧ Below W.heap.size W W') := H.out.call k b c hkk
      have HK : Hid (l[k]? = some (b, c)) := hkk
      have hk100 : k < 100 := by have := hfew.out; omega
      have k1 : (k : Int) < (l.length : Int) := by omega
      have HB : Hid (Below (w.heap.size + 1) (w.alloc (.cells #[.int .i64 x0, .int .i64 x1, .int .i64 x2, .int .i64 x3, .slice sa sn sc] 24)) wr) := hbw
      have HB1 : Hid (Below w.heap.size w wr) := hbw1
      have hpos := H.out.pos k b c hkk
      clear hkk hbw hbw1 HS H
      have ha : ∀ (j : Nat) (v : Value), wr.cell? ⟨w.heap.size, j, none⟩ = some v → ∀ o, (wr.alloc o).cell? ⟨w.heap.size, j, none⟩ = some v := fun j v e o => (World.cell?_alloc_lt wr o ⟨w.heap.size, j, none⟩ (block_lt e)).trans e
      have q0 := ha _ _ p0
      have q1 := ha _ _ p1
      have q2 := ha _ _ p2
      have q3 := ha _ _ p3
      have q4 := ha _ _ p4
      clear ha p0 p1 p2 p3 p4
      generalize g k = gk at *
      obtain ⟨c, rfl⟩ : ∃ d, c = d + 1 := ⟨c - 1, by omega⟩
      unfold errV at c0
      clear hpos
      cases b with
      | true =>
        go_wp2_with fail
        refine (HC.out _ (HB1.out.trans (((Below.refl _ _).alloc (Nat.le_refl _) _).mono HB1.out.size))).mono ?_
        rintro e W' ⟨rfl, hb'⟩
        have d0 : W'.cell? ⟨wr.heap.size, 0, none⟩ = some (.iface 292 (.pointer (some (A c)))) := cell_below hb' (by simp)
        have HW : Hid (Below w.heap.size w W') := HB1.out.trans ((((Below.refl _ _).alloc (Nat.le_refl _) _).mono HB1.out.size).trans (hb'.mono (by simp; have := HB1.out.size; omega)))
        clear hb'
        go_wp2
        go_ret
        exact ⟨by rw [firstOf_at l k (c + 1) hall.out HK.out]; rfl, HW.out⟩
      | false =>
        go_wp2_with fail
        refine (HC.out _ (HB1.out.trans (((Below.refl _ _).alloc (Nat.le_refl _) _).mono HB1.out.size))).mono ?_
        rintro e W' ⟨rfl, hb'⟩
        have HW : Hid (Below (w.heap.size + 1) (w.alloc (.cells #[.int .i64 x0, .int .i64 x1, .int .i64 x2, .int .i64 x3, .slice sa sn sc] 24)) W') := HB.out.trans ((((Below.refl _ _).alloc (Nat.le_refl _) _).mono hsz).trans (hb'.mono (by simp; omega)))
        clear hb'
        go_wp2
        go_roundw
        case rel =>
          refine ⟨k + 1, by omega, by go_num, HW.out, fun i b d hi e => ?_⟩
          by_cases hik : i = k
          · subst hik
            have := HK.out
            rw [this] at e
            cases e
            rfl
          · exact hall.out i b d (by omega) e
        case measure => simp [intOf]; omega
    · have HN : Hid (firstOf l = 0) := firstOf_none l (fun i b d e => hall.out i b d (by have := (List.getElem?_eq_some_iff.1 e).1; omega) e)
      have k1 : ¬ (k : Int) < (l.length : Int) := by omega
      clear HS H
      go_wp2
      go_ret
      exact ⟨by rw [HN.out]; rfl, hbw1⟩
set_option maxHeartbeats 1000000 in
theorem first_ent (A : Nat → Addr) (nm : ByteArray) (tol cnt mn mx : Int) (pa ga ea fa la : Option Addr) (pn pc gn gc en ec fn fc ln lc : Nat) (rb : Nat) (l : List (Bool × Nat)) (g : Nat → Nat) (w : World) (h : RulesAt A w rb (.agg #[.string nm, .int .i64 tol, .slice pa pn pc, .int .i64 cnt, .int .i64 mn, .int .i64 mx, .slice ga gn gc, .slice ea en ec, .slice fa fn fc, .slice la ln lc]) l g) :
    Calls Tryz.prog 142 #[.agg #[.string nm, .int .i64 tol, .slice pa pn pc, .int .i64 cnt, .int .i64 mn, .int .i64 mx, .slice ga gn gc, .slice ea en ec, .slice fa fn fc, .slice la ln lc], .slice (some ⟨rb, 0, none⟩) l.length l.length] w fun e w' => e = .returned (errV A (firstOf l)) ∧ Below w.heap.size w w' := by
  have hfew : Hid (l.length ≤ 100) := h.few
  have H : Hid (RulesAt A w rb (.agg #[.string nm, .int .i64 tol, .slice pa pn pc, .int .i64 cnt, .int .i64 mn, .int .i64 mx, .slice ga gn gc, .slice ea en ec, .slice fa fn fc, .slice la ln lc]) l g) := h
  clear h
  go_enter Tryz.func142, Tryz.ntmps142
  go_wp2_with fail
  have HS : Hid (∀ W, Below (w.heap.size + 1) (w.alloc (.cells #[.string nm, .int .i64 tol, .slice pa pn pc, .int .i64 cnt, .int .i64 mn, .int .i64 mx, .slice ga gn gc, .slice ea en ec, .slice fa fn fc, .slice la ln lc] 38)) W → Below w.heap.size w W ∧ w.heap.size + 1 ≤ W.heap.size ∧ W.cell? ⟨w.heap.size, 0, none⟩ = some (.string nm) ∧ W.cell? ⟨w.heap.size, 1, none⟩ = some (.int .i64 tol) ∧ W.cell? ⟨w.heap.size, 2, none⟩ = some (.slice pa pn pc) ∧ W.cell? ⟨w.heap.size, 3, none⟩ = some (.int .i64 cnt) ∧ W.cell? ⟨w.heap.size, 4, none⟩ = some (.int .i64 mn) ∧ W.cell? ⟨w.heap.size, 5, none⟩ = some (.int .i64 mx) ∧ W.cell? ⟨w.heap.size, 6, none⟩ = some (.slice ga gn gc) ∧ W.cell? ⟨w.heap.size, 7, none⟩ = some (.slice ea en ec) ∧ W.cell? ⟨w.heap.size, 8, none⟩ = some (.slice fa fn fc) ∧ W.cell? ⟨w.heap.size, 9, none⟩ = some (.slice la ln lc)) := fun W hb => by
    have hc : ∀ j v, (w.alloc (.cells #[.string nm, .int .i64 tol, .slice pa pn pc, .int .i64 cnt, .int .i64 mn, .int .i64 mx, .slice ga gn gc, .slice ea en ec, .slice fa fn fc, .slice la ln lc] 38)).cell? ⟨w.heap.size, j, none⟩ = some v → W.cell? ⟨w.heap.size, j, none⟩ = some v := fun j v e => (hb.cell (p := ⟨w.heap.size, j, none⟩) (Nat.lt_succ_self _)).trans e
    exact ⟨((Below.refl _ _).alloc (Nat.le_refl _) _).trans (hb.mono (Nat.le_succ _)), by simpa using hb.size, hc 0 (.string nm) (by simp), hc 1 (.int .i64 tol) (by simp), hc 2 (.slice pa pn pc) (by simp), hc 3 (.int .i64 cnt) (by simp), hc 4 (.int .i64 mn) (by simp), hc 5 (.int .i64 mx) (by simp), hc 6 (.slice ga gn gc) (by simp), hc 7 (.slice ea en ec) (by simp), hc 8 (.slice fa fn fc) (by simp), hc 9 (.slice la ln lc) (by simp)⟩
  go_loopw [6, 9] (fun _ i wr => ∃ k : Nat, k ≤ l.length ∧ i = .int .i64 k ∧ Below (w.heap.size + 1) (w.alloc (.cells #[.string nm, .int .i64 tol, .slice pa pn pc, .int .i64 cnt, .int .i64 mn, .int .i64 mx, .slice ga gn gc, .slice ea en ec, .slice fa fn fc, .slice la ln lc] 38)) wr ∧ Hid (∀ (i : Nat) (b : Bool) (d : Nat), i < k → l[i]? = some (b, d) → b = false)) (fun _ i _ => l.length - (intOf i).toNat)
  case atStart => exact ⟨0, Nat.zero_le _, rfl, Below.refl _ _, fun i b d hi => absurd hi (Nat.not_lt_zero _)⟩
  case round =>
    obtain ⟨k, hk, rfl, hbw, hall⟩ := hrel
    obtain ⟨hbw1, hsz, p0, p1, p2, p3, p4, p5, p6, p7, p8, p9⟩ := HS.out _ hbw
    by_cases hlt : k < l.length
    · obtain ⟨⟨b, c⟩, hkk⟩ : ∃ x, l[k]? = some x := ⟨_, List.getElem?_eq_getElem hlt⟩
      have c0 := cell_below hbw1 (H.out.cell k b c hkk).1
      have c1 := cell_below hbw1 (H.out.cell k b c hkk).2
      have egk := H.out.eg k b c hkk
      have HC : Hid (∀ W, Below w.heap.size w W → Calls Tryz.prog (g k) #[.agg #[.string nm, .int .i64 tol, .slice pa pn pc, .int .i64 cnt, .int .i64 mn, .int .i64 mx, .slice ga gn gc, .slice ea en ec, .slice fa fn fc, .slice la ln lc]] W fun e W' => e = .returned (.bool b) ∧ Below W.heap.size W W') := H.out.call k b c hkk
      have HK : Hid (l[k]? = some (b, c)) := hkk
      have hk100 : k < 100 := by have := hfew.out; omega
      have k1 : (k : Int) < (l.length : Int) := by omega
      have HB : Hid (Below (w.heap.size + 1) (w.alloc (.cells #[.string nm, .int .i64 tol, .slice pa pn pc, .int .i64 cnt, .int .i64 mn, .int .i64 mx, .slice ga gn gc, .slice ea en ec, .slice fa fn fc, .slice la ln lc] 38)) wr) := hbw
      have HB1 : Hid (Below w.heap.size w wr) := hbw1
      have hpos := H.out.pos k b c hkk
      clear hkk hbw hbw1 HS H
      have ha : ∀ (j : Nat) (v : Value), wr.cell? ⟨w.heap.size, j, none⟩ = some v → ∀ o, (wr.alloc o).cell? ⟨w.heap.size, j, none⟩ = some v := fun j v e o => (World.cell?_alloc_lt wr o ⟨w.heap.size, j, none⟩ (block_lt e)).trans e
      have q0 := ha _ _ p0
      have q1 := ha _ _ p1
      have q2 := ha _ _ p2
      have q3 := ha _ _ p3
      have q4 := ha _ _ p4
      have q5 := ha _ _ p5
      have q6 := ha _ _ p6
      have q7 := ha _ _ p7
      have q8 := ha _ _ p8
      have q9 := ha _ _ p9
      clear ha p0 p1 p2 p3 p4 p5 p6 p7 p8 p9
      generalize g k = gk at *
      obtain ⟨c, rfl⟩ : ∃ d, c = d + 1 := ⟨c - 1, by omega⟩
      unfold errV at c0
      clear hpos
      cases b with
      | true =>
        go_wp2_with fail
        refine (HC.out _ (HB1.out.trans (((Below.refl _ _).alloc (Nat.le_refl _) _).mono HB1.out.size))).mono ?_
        rintro e W' ⟨rfl, hb'⟩
        have d0 : W'.cell? ⟨wr.heap.size, 0, none⟩ = some (.iface 292 (.pointer (some (A c)))) := cell_below hb' (by simp)
        have HW : Hid (Below w.heap.size w W') := HB1.out.trans ((((Below.refl _ _).alloc (Nat.le_refl _) _).mono HB1.out.size).trans (hb'.mono (by simp; have := HB1.out.size; omega)))
        clear hb'
        go_wp2
        go_ret
        exact ⟨by rw [firstOf_at l k (c + 1) hall.out HK.out]; rfl, HW.out⟩
      | false =>
        go_wp2_with fail
        refine (HC.out _ (HB1.out.trans (((Below.refl _ _).alloc (Nat.le_refl _) _).mono HB1.out.size))).mono ?_
        rintro e W' ⟨rfl, hb'⟩
        have HW : Hid (Below (w.heap.size + 1) (w.alloc (.cells #[.string nm, .int .i64 tol, .slice pa pn pc, .int .i64 cnt, .int .i64 mn, .int .i64 mx, .slice ga gn gc, .slice ea en ec, .slice fa fn fc, .slice la ln lc] 38)) W') := HB.out.trans ((((Below.refl _ _).alloc (Nat.le_refl _) _).mono hsz).trans (hb'.mono (by simp; omega)))
        clear hb'
        go_wp2
        go_roundw
        case rel =>
          refine ⟨k + 1, by omega, by go_num, HW.out, fun i b d hi e => ?_⟩
          by_cases hik : i = k
          · subst hik
            have := HK.out
            rw [this] at e
            cases e
            rfl
          · exact hall.out i b d (by omega) e
        case measure => simp [intOf]; omega
    · have HN : Hid (firstOf l = 0) := firstOf_none l (fun i b d e => hall.out i b d (by have := (List.getElem?_eq_some_iff.1 e).1; omega) e)
      have k1 : ¬ (k : Int) < (l.length : Int) := by omega
      clear HS H
      go_wp2
      go_ret
      exact ⟨by rw [HN.out]; rfl, hbw1⟩
end Go.Proofs.YtkphpgdgbnmnjacGreatDoor

namespace Go.Proofs.YtkphpgdgbnmnjacGreatDoor
open Go.RowKit Go.Extern.Stop Go.Stop Go.Extern

theorem cfg1_at (A : Nat → Addr) (x0 x1 x2 x3 : Int) (sa : Option Addr) (sn sc : Nat) (w : World) (hs : Sen5 A w) : Calls Tryz.prog 131 #[.agg #[.int .i64 x0, .int .i64 x1, .int .i64 x2, .int .i64 x3, .slice sa sn sc]] w fun e w' => e = .returned (.bool (!(within x0 0 1000 && within x1 1 1000))) ∧ Below w.heap.size w w' := by
  have H := isWindow_at A x0 x1 _ (hs.alloc (.cells #[.int .i64 x0, .int .i64 x1, .int .i64 x2, .int .i64 x3, .slice sa sn sc] 24))
  go_enter Tryz.func131, Tryz.ntmps131
  go_wp2_with fail
  refine H.mono ?_
  rintro e w' ⟨rfl, hb⟩
  go_wp2
  go_ret
  exact ⟨by rw [Bool.not_and]; rfl, ((Below.refl _ _).alloc (Nat.le_refl _) _).trans (hb.mono (by simp))⟩
theorem cfg2_at (x0 x1 x2 x3 : Int) (sa : Option Addr) (sn sc : Nat) (w : World) : Calls Tryz.prog 133 #[.agg #[.int .i64 x0, .int .i64 x1, .int .i64 x2, .int .i64 x3, .slice sa sn sc]] w fun e w' => e = .returned (.bool (!within x2 1 100)) ∧ Below w.heap.size w w' := by
  go_enter Tryz.func133, Tryz.ntmps133
  go_wp2_with fail
  refine (within_at x2 1 100 _).mono ?_
  rintro e w' ⟨rfl, rfl⟩
  go_wp2
  go_ret
  exact ⟨rfl, (Below.refl _ _).alloc (Nat.le_refl _) _⟩
theorem cfg3_at (x0 x1 x2 x3 : Int) (sa : Option Addr) (sn sc : Nat) (w : World) : Calls Tryz.prog 135 #[.agg #[.int .i64 x0, .int .i64 x1, .int .i64 x2, .int .i64 x3, .slice sa sn sc]] w fun e w' => e = .returned (.bool (!within x3 0 20)) ∧ Below w.heap.size w w' := by
  go_enter Tryz.func135, Tryz.ntmps135
  go_wp2_with fail
  refine (within_at x3 0 20 _).mono ?_
  rintro e w' ⟨rfl, rfl⟩
  go_wp2
  go_ret
  exact ⟨rfl, (Below.refl _ _).alloc (Nat.le_refl _) _⟩
theorem cfg4_at (x0 x1 x2 x3 : Int) (sa : Option Addr) (sn sc : Nat) (w : World) : Calls Tryz.prog 136 #[.agg #[.int .i64 x0, .int .i64 x1, .int .i64 x2, .int .i64 x3, .slice sa sn sc]] w fun e w' => e = .returned (.bool (decide (8 < sn))) ∧ Below w.heap.size w w' := by
  have hd : decide (8 < sn) = decide ((8 : Int) < (sn : Int)) := decide_eq_decide.2 (by omega)
  rw [hd]
  go_enter Tryz.func136, Tryz.ntmps136
  go_wp2
  go_ret
  exact ⟨rfl, (Below.refl _ _).alloc (Nat.le_refl _) _⟩
theorem cfg5_at (x0 x1 x2 x3 : Int) (sa : Option Addr) (sn sc : Nat) (w : World) : Calls Tryz.prog 137 #[.agg #[.int .i64 x0, .int .i64 x1, .int .i64 x2, .int .i64 x3, .slice sa sn sc]] w fun e w' => e = .returned (.bool (decide (x1 < x2))) ∧ Below w.heap.size w w' := by
  go_enter Tryz.func137, Tryz.ntmps137
  go_wp2
  go_ret
  exact ⟨rfl, (Below.refl _ _).alloc (Nat.le_refl _) _⟩
/-- The list of rules. -/
def cfgRow (A : Nat → Addr) : Array Value := #[.iface 292 (.pointer (some (A 1))), .func (.func 131) #[] #[], .iface 292 (.pointer (some (A 1))), .func (.func 133) #[] #[], .iface 292 (.pointer (some (A 1))), .func (.func 135) #[] #[],
  .iface 292 (.pointer (some (A 1))), .func (.func 136) #[] #[], .iface 292 (.pointer (some (A 2))), .func (.func 137) #[] #[]]
theorem configRules_at (A : Nat → Addr) (w : World) (hs : Sen5 A w) : Calls Tryz.prog 98 #[] w fun e w' => e = .returned (.slice (some ⟨w.heap.size, 0, none⟩) 5 5) ∧ w' = w.alloc (.cells (cfgRow A) 208) := by
  have c1 := hs.c1
  have c2 := hs.c2
  unfold cfgRow
  go_enter Tryz.func98, Tryz.ntmps98
  go_wp2
  go_ret
  exact ⟨rfl, rfl⟩
def cfgFns (i : Nat) : Nat := [131, 133, 135, 136, 137].getD i 0
theorem cfg_rules (A : Nat → Addr) (c : CfgD) (sa : Option Addr) (sc : Nat) (r : Nat) (W : World) (hs : Sen5 A W) (hr : W.heap[r]? = some (.cells (cfgRow A) 208 (0, 0))) :
    RulesAt A W r (.agg #[.int .i64 c.closed, .int .i64 c.opn, .int .i64 c.cycle, .int .i64 c.delay, .slice sa c.ents.length sc])
      [(!(within c.closed 0 1000 && within c.opn 1 1000), 2), (!within c.cycle 1 100, 2), (!within c.delay 0 20, 2), (decide (8 < c.ents.length), 2), (decide (c.opn < c.cycle), 3)] cfgFns := by
  have hcell : ∀ j v, (cfgRow A)[j]? = some v → W.cell? ⟨r, j, none⟩ = some v := fun j v e => by simp [World.cell?, hr, e]
  refine ⟨fun i b d e => ?_, fun i b d e => ?_, fun i b d e V hV => ?_, by simp, fun i b d e => ?_⟩
  · match i, e with
    | 0, e => cases e; exact ⟨hcell 0 _ rfl, hcell 1 _ rfl⟩
    | 1, e => cases e; exact ⟨hcell 2 _ rfl, hcell 3 _ rfl⟩
    | 2, e => cases e; exact ⟨hcell 4 _ rfl, hcell 5 _ rfl⟩
    | 3, e => cases e; exact ⟨hcell 6 _ rfl, hcell 7 _ rfl⟩
    | 4, e => cases e; exact ⟨hcell 8 _ rfl, hcell 9 _ rfl⟩
    | i + 5, e => cases e
  · match i, e with
    | 0, _ => exact enters_of Tryz.func131 (by kernel_rfl) rfl
    | 1, _ => exact enters_of Tryz.func133 (by kernel_rfl) rfl
    | 2, _ => exact enters_of Tryz.func135 (by kernel_rfl) rfl
    | 3, _ => exact enters_of Tryz.func136 (by kernel_rfl) rfl
    | 4, _ => exact enters_of Tryz.func137 (by kernel_rfl) rfl
    | i + 5, e => cases e
  · match i, e with
    | 0, e => cases e; exact cfg1_at A _ _ _ _ _ _ _ _ (hs.below hV)
    | 1, e => cases e; exact cfg2_at _ _ _ _ _ _ _ _
    | 2, e => cases e; exact cfg3_at _ _ _ _ _ _ _ _
    | 3, e => cases e; exact cfg4_at _ _ _ _ _ _ _ _
    | 4, e => cases e; exact cfg5_at _ _ _ _ _ _ _ _
    | i + 5, e => cases e
  · match i, e with
    | 0, e => cases e; decide
    | 1, e => cases e; decide
    | 2, e => cases e; decide
    | 3, e => cases e; decide
    | 4, e => cases e; decide
    | i + 5, e => cases e
end Go.Proofs.YtkphpgdgbnmnjacGreatDoor

namespace Go.Proofs.YtkphpgdgbnmnjacGreatDoor
open Go.RowKit Go.Extern.Stop Go.Stop Go.Extern Go.Maps

def keyL (s : ByteArray) : Lit := .string s.data.toList
def setN (a : List ByteArray) : DataW Unit := setOf (.agg []) (a.map keyL)
theorem has_setN (a : List ByteArray) (s : ByteArray) : Maps.has (setN a) (keyL s) = a.any (fun x => decide (x = s)) := by
  unfold setN
  rw [has_setOf _ _ _ (by intro x hx; simp only [List.mem_map] at hx; obtain ⟨y, -, rfl⟩ := hx; trivial), List.any_map]
  congr 1
  funext x
  show (x.data.toList == s.data.toList) = decide (x = s)
  by_cases h : x = s
  · subst h; simp
  · rw [decide_eq_false h, beq_eq_false_iff_ne]
    exact fun e => h (bl_inj e)
theorem setN_snoc (a : List ByteArray) (s : ByteArray) : setN (a ++ [s]) = (setN a).put (keyL s) (.agg []) := by
  unfold setN
  rw [List.map_append]
  exact setOf_snoc _ _ _
theorem Tryz.lawStr : Keyed Tryz.prog 9 := string_keyed Tryz.underlying9
theorem Tryz.zeroUnit (w : World) : (zeroValue 214).run Tryz.prog w = .ok (.agg #[]) w := by kernel_rfl

/-- A list of names, with its map, in memory of its own behind w0. -/
structure NamesIn (A : Nat → Addr) (w0 w : World) (rb bx mb : Nat) (a : List ByteArray) : Prop where
  bel : Below w0.heap.size w0 w
  lo : w0.heap.size ≤ mb
  nr : rb ≠ mb
  nb : bx ≠ mb
  r0 : w.cell? ⟨rb, 0, none⟩ = some (.iface 292 (.pointer (some (A 3))))
  r1 : w.cell? ⟨rb, 1, none⟩ = some (.func (.func 138) #[] #[])
  r2 : w.cell? ⟨rb, 2, none⟩ = some (.iface 292 (.pointer (some (A 5))))
  r3 : w.cell? ⟨rb, 3, none⟩ = some (.func (.func 140) #[] #[.pointer (some ⟨bx, 0, none⟩)])
  b0 : w.cell? ⟨bx, 0, none⟩ = some (.map (some mb))
  own : w.ownsMap Tryz.prog 9 unitElem mb a.length (setN a)
theorem owns_below {w w' : World} {mb n : Nat} {D : DataW Unit} (h : w.ownsMap Tryz.prog 9 unitElem mb n D) (hb : Below w.heap.size w w') : w'.ownsMap Tryz.prog 9 unitElem mb n D := by
  have hlt := h.lt
  obtain ⟨es, clock, h1, h2⟩ := h
  exact ⟨es, clock, (hb.block mb hlt).trans h1, h2⟩
theorem NamesIn.below {A : Nat → Addr} {w0 w w' : World} {rb bx mb : Nat} {a : List ByteArray} (h : NamesIn A w0 w rb bx mb a) (hb : Below w.heap.size w w') : NamesIn A w0 w' rb bx mb a :=
  ⟨h.bel.trans (hb.mono h.bel.size), h.lo, h.nr, h.nb, cell_below hb h.r0, cell_below hb h.r1, cell_below hb h.r2, cell_below hb h.r3, cell_below hb h.b0, owns_below h.own hb⟩
theorem cell_grown {w w' : World} {mb : Nat} {a : Addr} {v : Value} (hg : w.grownBy w' (some mb)) (hne : a.block ≠ mb) (h : w.cell? a = some v) : w'.cell? a = some v :=
  (World.cell?_of_block (hg.block a.block (block_lt h) (by simpa using hne))).trans h
theorem NamesIn.grown {A : Nat → Addr} {w0 w w' : World} {rb bx mb : Nat} {a a' : List ByteArray} (h : NamesIn A w0 w rb bx mb a) (hg : w.grownBy w' (some mb)) (ho : w'.ownsMap Tryz.prog 9 unitElem mb a'.length (setN a')) : NamesIn A w0 w' rb bx mb a' :=
  ⟨h.bel.grown hg h.bel.size (fun j hj => by cases hj; exact h.lo), h.lo, h.nr, h.nb, cell_grown hg h.nr h.r0, cell_grown hg h.nr h.r1, cell_grown hg h.nr h.r2, cell_grown hg h.nr h.r3, cell_grown hg h.nb h.b0, ho⟩

set_option maxHeartbeats 400000 in
theorem nameRules_at (A : Nat → Addr) (w : World) (hs : Sen5 A w) : Calls Tryz.prog 99 #[] w fun e w' => e = .returned (.slice (some ⟨w.heap.size + 2, 0, none⟩) 2 2) ∧ NamesIn A w w' (w.heap.size + 2) (w.heap.size + 1) w.heap.size [] := by
  have hmm := @run_makeMap Tryz.prog
  have c3 := hs.c3
  have c5 := hs.c5
  have ha : ∀ (g : Nat) (v : Value), w.cell? ⟨g, 0, none⟩ = some v → ∀ o1 o2, ((w.alloc o1).alloc o2).cell? ⟨g, 0, none⟩ = some v := fun g v e o1 o2 => cell_below (((Below.refl _ _).alloc (Nat.le_refl _) _).alloc (by simp) _) e
  have d3 := ha _ _ c3
  have d5 := ha _ _ c5
  clear c3 c5 ha
  go_enter Tryz.func99, Tryz.ntmps99
  go_wp2
  go_ret
  refine ⟨rfl, ⟨(((Below.refl _ _).alloc (Nat.le_refl _) _).alloc (by simp) _).alloc (by simp; omega) _, Nat.le_refl _, by omega, by omega, ?_, ?_, ?_, ?_, ?_, ?_⟩⟩
  iterate 4
    · rw [show w.heap.size + 2 = ((w.alloc (.map #[] 0)).alloc (.cells #[.map (some w.heap.size)] 211)).heap.size by simp, World.cell?_alloc_at _ _ _ _ rfl]
      rfl
  · rw [World.cell?_alloc_lt _ _ ⟨w.heap.size + 1, 0, none⟩ (by simp)]
    have e : w.heap.size + 1 = (w.alloc (.map #[] 0)).heap.size := by simp
    rw [e, World.cell?_alloc_at _ _ _ _ rfl]
    rfl
  · exact ((World.ownsMap_made w Tryz.prog 9 unitElem).alloc _).alloc _

set_option maxHeartbeats 400000 in
theorem names2_at (A : Nat → Addr) (w0 w : World) (rb bx mb : Nat) (a : List ByteArray) (s : ByteArray) (h : NamesIn A w0 w rb bx mb a) (hs : s.size ≤ 1000000) (hn : a.length ≤ 1000000) :
    Calls Tryz.prog 140 #[.string s, .pointer (some ⟨bx, 0, none⟩)] w fun e w' => e = .returned (.bool (a.any (fun x => decide (x = s)))) ∧ NamesIn A w0 w' rb bx mb (a ++ [s]) ∧ ∀ (p : Addr) (v : Value), p.block ≠ mb → w.cell? p = some v → w'.cell? p = some v := by
  have b0 := h.b0
  have b1 : ∀ o, (w.alloc o).cell? ⟨bx, 0, none⟩ = some (.map (some mb)) := fun o => cell_below ((Below.refl _ _).alloc (Nat.le_refl _) _) b0
  have hown := h.own
  have hkey : keyOf Tryz.prog 9 (.string s) = some (keyL s) := Go.WideMaps.keyOf_string_mk Tryz.underlying9 (by unfold maxLen; omega)
  have HA := has_setN a s
  have H : Hid (NamesIn A w0 w rb bx mb a) := h
  clear h
  go_enter Tryz.func140, Tryz.ntmps140
  go_wp2_with (first
    | (at_lookup; refine wpList_lookup_own_unit _ rfl _ _ 211 rfl 9 214 Tryz.lawStr Tryz.underlying211 (Tryz.zeroUnit _) mb a.length _ rfl hown _ _ rfl hkey ?_)
    | (at_mapUpdate; refine wpList_mapUpdate_own _ rfl _ _ _ 211 rfl 9 214 Tryz.lawStr Tryz.underlying211 (unitElem (H := Unit)) mb a.length _ rfl (hown.alloc _) (by unfold maxLen; omega) _ _ _ rfl rfl hkey _ [] unitElem_mk ?_; intro w1 hown1 hgrow1)
    | go_in)
  go_ret
  exact ⟨rfl, (H.out.below ((Below.refl _ _).alloc (Nat.le_refl _) _)).grown hgrow1 (by rw [setN_snoc]; simpa using hown1), fun p v hne e => cell_grown hgrow1 hne (cell_below ((Below.refl _ _).alloc (Nat.le_refl _) _) e)⟩
end Go.Proofs.YtkphpgdgbnmnjacGreatDoor
