/-
  conf.firstBroken at a name, by a contract: 'nameErr'. Conditions: the list of names lies in memory ('NamesIn'), with at most a million of them.
-/
import Derived.Test.YtcnfkdecghdphabGreatDoorCfNamesX
namespace Go.Proofs.YtcnfkdecghdphabGreatDoor
open Go.RowKit Go.Extern.Stop Go.Stop Go.Extern

theorem names1_at (s : ByteArray) (w : World) (hs : s.size ≤ 1000000) : Calls Tryz.prog 38 #[.string s] w fun e w' => e = .returned (.bool (!isName s)) ∧ Below w.heap.size w w' := by
  go_enter Tryz.func38, Tryz.ntmps38
  go_wp2_with fail
  refine (isName_at s _ hs).mono ?_
  rintro e w' ⟨rfl, hb⟩
  go_wp2
  go_ret
  exact ⟨rfl, hb⟩

/-- All cells but those of one block are as they were. -/
def KeptBut (mb : Nat) (w w' : World) : Prop := ∀ (p : Addr) (v : Value), p.block ≠ mb → w.cell? p = some v → w'.cell? p = some v
theorem KeptBut.refl (mb : Nat) (w : World) : KeptBut mb w w := fun _ _ _ h => h
theorem KeptBut.trans {mb : Nat} {w w' w'' : World} (h : KeptBut mb w w') (h2 : KeptBut mb w' w'') : KeptBut mb w w'' := fun p v hn e => h2 p v hn (h p v hn e)
theorem KeptBut.of {mb : Nat} {w w' : World} (h : Below w.heap.size w w') : KeptBut mb w w' := fun _ _ _ e => cell_below h e

set_option maxHeartbeats 2000000 in
theorem first_str (A : Nat → Addr) (w0 w : World) (rb bx mb : Nat) (a : List ByteArray) (s : ByteArray) (h : NamesIn A w0 w rb bx mb a) (hs : s.size ≤ 1000000) (hn : a.length ≤ 1000000) :
    Calls Tryz.prog 41 #[.string s, .slice (some ⟨rb, 0, none⟩) 2 2] w fun e w' => e = .returned (errV A (nameErr a s)) ∧ Below w0.heap.size w0 w' ∧ (nameErr a s = 0 → NamesIn A w0 w' rb bx mb (a ++ [s])) ∧ KeptBut mb w w' := by
  have eg1 := enters_of Tryz.func38 (by kernel_rfl) rfl
  have eg2 := enters_of Tryz.func40 (by kernel_rfl) rfl
  have HN : Hid (∀ W, Calls Tryz.prog 38 #[.string s] W fun e w' => e = .returned (.bool (!isName s)) ∧ Below W.heap.size W w') := fun W => names1_at s W hs
  have HM : Hid (∀ W, NamesIn A w0 W rb bx mb a → Calls Tryz.prog 40 #[.string s, .pointer (some ⟨bx, 0, none⟩)] W fun e w' => e = .returned (.bool (a.any (fun x => decide (x = s)))) ∧ NamesIn A w0 w' rb bx mb (a ++ [s]) ∧ ∀ (p : Addr) (v : Value), p.block ≠ mb → W.cell? p = some v → w'.cell? p = some v) := fun W hW => names2_at A w0 W rb bx mb a s hW hs hn
  go_enter Tryz.func41, Tryz.ntmps41
  go_wp2_with fail
  clear hs hn
  go_loopw [6, 9] (fun _ i wr => KeptBut mb w wr ∧ ((i = .int .i64 0 ∧ NamesIn A w0 wr rb bx mb a) ∨ (i = .int .i64 1 ∧ isName s = true ∧ NamesIn A w0 wr rb bx mb a) ∨ (i = .int .i64 2 ∧ nameErr a s = 0 ∧ NamesIn A w0 wr rb bx mb (a ++ [s])))) (fun _ i _ => 2 - (intOf i).toNat)
  case atStart => exact ⟨KeptBut.refl _ _, Or.inl ⟨rfl, h⟩⟩
  case round =>
    clear h
    obtain ⟨hkp, hrel⟩ := hrel
    have HKP : Hid (KeptBut mb w wr) := hkp
    clear hkp
    rcases hrel with ⟨rfl, h⟩ | ⟨rfl, hN, h⟩ | ⟨rfl, hE, h⟩
    · have r0 := h.r0
      have r1 := h.r1
      have H : Hid (NamesIn A w0 wr rb bx mb a) := h
      clear h
      cases hN : isName s with
      | true =>
        have HN2 := HN.out
        rw [hN] at HN2
        have HN3 : Hid _ := HN2
        clear HN2
        have HNN : Hid (isName s = true) := hN
        clear hN HM HN
        go_wp2_with fail
        refine (HN3.out _).mono ?_
        rintro e W' ⟨rfl, hb'⟩
        have H2 : Hid (NamesIn A w0 W' rb bx mb a) := (H.out.below (Below.one _ _)).below hb'
        have HK2 : Hid (KeptBut mb w W') := (HKP.out.trans (KeptBut.of (Below.one _ _))).trans (KeptBut.of hb')
        clear hb'
        go_wp2
        go_roundw
        case rel => exact ⟨HK2.out, Or.inr (Or.inl ⟨by go_num, by first | trivial | exact HNN.out, H2.out⟩)⟩
        case measure => simp [intOf]
      | false =>
        have HN2 := HN.out
        rw [hN] at HN2
        have HN3 : Hid _ := HN2
        clear HN2
        have HNN : Hid (nameErr a s = 4) := by show _ = _; simp [nameErr, hN]
        clear hN HM HN
        go_wp2_with fail
        refine (HN3.out _).mono ?_
        rintro e W' ⟨rfl, hb'⟩
        have d0 : W'.cell? ⟨wr.heap.size, 0, none⟩ = some (.iface 211 (.pointer (some (A 3)))) := cell_below hb' (by simp)
        have H2 : Hid (NamesIn A w0 W' rb bx mb a) := (H.out.below (Below.one _ _)).below hb'
        have HK2 : Hid (KeptBut mb w W') := (HKP.out.trans (KeptBut.of (Below.one _ _))).trans (KeptBut.of hb')
        clear hb'
        go_wp2
        go_ret
        exact ⟨by rw [HNN.out]; rfl, H2.out.bel, fun e => by (rw [HNN.out] at e; cases e), HK2.out⟩
    · have r2 := h.r2
      have r3 := h.r3
      have H : Hid (NamesIn A w0 wr rb bx mb a) := h
      clear h
      cases hA : a.any (fun x => decide (x = s)) with
      | false =>
        have HM2 := HM.out
        rw [hA] at HM2
        have HM3 : Hid _ := HM2
        have HNN : Hid (nameErr a s = 0) := by show _ = _; simp only [nameErr, hN, hA]; rfl
        clear hA hN HM HN HM2
        go_wp2_with fail
        refine (HM3.out _ (H.out.below (Below.one _ _))).mono ?_
        rintro e W' ⟨rfl, h', hk'⟩
        have H2 : Hid (NamesIn A w0 W' rb bx mb (a ++ [s])) := h'
        have HK2 : Hid (KeptBut mb w W') := (HKP.out.trans (KeptBut.of (Below.one _ _))).trans hk'
        clear h' hk'
        go_wp2
        go_roundw
        case rel => exact ⟨HK2.out, Or.inr (Or.inr ⟨by go_num, HNN.out, H2.out⟩)⟩
        case measure => simp [intOf]
      | true =>
        have HM2 := HM.out
        rw [hA] at HM2
        have HM3 : Hid _ := HM2
        have HNN : Hid (nameErr a s = 6) := by show _ = _; simp only [nameErr, hN, hA]; rfl
        clear hA hN HM HN HM2
        go_wp2_with fail
        refine (HM3.out _ (H.out.below (Below.one _ _))).mono ?_
        rintro e W' ⟨rfl, h', hk'⟩
        have H2 : Hid (NamesIn A w0 W' rb bx mb (a ++ [s])) := h'
        have HK2 : Hid (KeptBut mb w W') := (HKP.out.trans (KeptBut.of (Below.one _ _))).trans hk'
        have d0 : W'.cell? ⟨wr.heap.size, 0, none⟩ = some (.iface 211 (.pointer (some (A 5)))) := hk' ⟨wr.heap.size, 0, none⟩ _ (fun e => by have := H.out.own.lt; simp at e; omega) (by simp)
        clear h' hk'
        go_wp2
        go_ret
        exact ⟨by rw [HNN.out]; rfl, H2.out.bel, fun e => by (rw [HNN.out] at e; cases e), HK2.out⟩
    · have HNN : Hid (nameErr a s = 0) := hE
      have H2 : Hid (NamesIn A w0 wr rb bx mb (a ++ [s])) := h
      clear hE h HM HN
      go_wp2
      go_ret
      exact ⟨by rw [HNN.out]; rfl, H2.out.bel, fun _ => H2.out, HKP.out⟩
end Go.Proofs.YtcnfkdecghdphabGreatDoor
