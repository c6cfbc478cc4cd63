/-
  Several texts as one: DrLineN, DrLineA. What each holds: DrLineN: (*nightwatchref1.Reader).Line by a contract, for lines whose first word is none of the ten: the text is wrong. Conditions: as DrLine0's. | DrLineA: (*nightwatchref1.Reader).Line by a contract, for every line: 'lineR' with the first place of a name ('lookF'). Conditions: the reader lies in memory ('DrS'), the line is not too long.
-/
import Derived.Test.YtbholbenjalliaaGreatDoorDr1X
import Derived.Test.YtbholbenjalliaaGreatDoorDrLX
import Derived.Test.YtbholbenjalliaaGreatDoorDrLine3X
import Derived.Test.YtbholbenjalliaaGreatDoorDrLine4X
import Derived.Test.YtbholbenjalliaaGreatDoorDrLine5X
import Derived.Test.YtbholbenjalliaaGreatDoorDrLine6X
import Derived.Test.YtbholbenjalliaaGreatDoorDrLine7X
import Derived.Test.YtbholbenjalliaaGreatDoorDrLine8X
import Derived.Test.YtbholbenjalliaaGreatDoorDrLine9X
namespace Go.Proofs.YtbholbenjalliaaGreatDoor
open Go.RowKit Go.Extern.Stop Go.Stop Go.Extern Go.Maps

set_option maxHeartbeats 4000000 in
set_option maxRecDepth 100000 in
theorem lineD_none (w0 w : World) (rb : Nat) (c : CfgD) (last : Int) (l : ByteArray) (hd : Bs) (ws : List Bs) (hb0 : BlX rb w0 w) (h : DrS w0.heap.size rb w c (lwOf last)) (hl : l.size ≤ 1000000) (l0 : -1 ≤ last) (l9 : last ≤ 9) (hcut : cutBy 32 (bl l) = hd :: ws) (hk : kindOf hd = none) :
    Calls Tryz.prog 35 #[.pointer (some ⟨rb, 0, none⟩), .string l] w fun v w' => v = .returned (.int .i64 1) ∧ BlX rb w0 w' := by
  have HB0 : Hid (BlX rb w0 w) := hb0
  have HRt : Hid (∀ V, Below w.heap.size w V → ∀ u : ByteArray, bl u = hd → Calls Tryz.prog 64 #[.pointer (some ⟨rb, 0, none⟩), .string u] V fun e w' => e = .returned (.bool false) ∧ Below V.heap.size V w') := fun V hV u hu => by
    have hc : V.cell? ⟨rb, 5, none⟩ = some (.string (lwOf last)) := by
      rcases h.below hV with h1 | ⟨_, _, _, _, _, _, _, _, _, h1⟩
      · have := h1.row; simp [World.cell?, this, drRow]
      · have := h1.row; simp [World.cell?, this, drRow]
    have := right_at rb last u V l0 l9 hc
    rw [show rightR last u = false by unfold rightR; rw [hu, hk]] at this
    exact this
  have HNe : Hid (∀ u : ByteArray, bl u = hd → ∀ k, k < 10 → ¬ u = ⟨(kw k).toArray⟩) := fun u hu k h10 e => by
    have h1 : bl u = kw k := by rw [e]; exact bl_mk _
    rw [hu] at h1
    rw [h1, kindOf_kw k h10] at hk
    cases hk
  have HCut : Hid _ := cutD_at l 32 w hl
  have HHd : Hid (cutBy 32 (bl l) = hd :: ws) := hcut
  clear hb0 h hl l0 l9 hcut hk
  go_enter Tryz.func35, Tryz.ntmps35
  go_wp2_with fail
  refine Calls.mono HCut.out ?_
  rintro v w1 ⟨wl, g, cap, rfl, h1, hown, hb1⟩
  rw [HHd.out] at h1
  cases wl with
  | nil => simp at h1
  | cons u wt =>
    have hu : bl u = hd := by simp at h1; exact h1.1
    have HB1 : Hid (Below w.heap.size w w1) := hb1
    have HU : Hid (bl u = hd) := hu
    have d0 := own_word hown 0 u rfl
    have hne := HNe.out u hu
    obtain ⟨n0a, n0b⟩ := litN (l := [119, 105, 110, 100, 111, 119]) (hne 0 (by decide))
    obtain ⟨n1a, n1b⟩ := litN (l := [99, 121, 99, 108, 101]) (hne 1 (by decide))
    obtain ⟨n2a, n2b⟩ := litN (l := [100, 101, 108, 97, 121]) (hne 2 (by decide))
    obtain ⟨n3a, n3b⟩ := litN (l := [101, 110, 116, 105, 116, 121]) (hne 3 (by decide))
    obtain ⟨n4a, n4b⟩ := litN (l := [112, 111, 105, 110, 116]) (hne 4 (by decide))
    obtain ⟨n5a, n5b⟩ := litN (l := [99, 111, 117, 110, 116]) (hne 5 (by decide))
    obtain ⟨n6a, n6b⟩ := litN (l := [103, 97, 112]) (hne 6 (by decide))
    obtain ⟨n7a, n7b⟩ := litN (l := [101, 100, 103, 101]) (hne 7 (by decide))
    obtain ⟨n8a, n8b⟩ := litN (l := [102, 105, 114, 115, 116]) (hne 8 (by decide))
    obtain ⟨n9a, n9b⟩ := litN (l := [108, 97, 115, 116]) (hne 9 (by decide))
    have s0 : (0 : Int) < (((u :: wt).length : Nat) : Int) := by simp
    clear h1 hown hb1 hu hne HCut HHd
    obtain ⟨m, hm⟩ : ∃ m, m = (u :: wt).length := ⟨_, rfl⟩
    rw [← hm] at s0
    rw [← hm]
    clear hm
    go_wp2_with (go_at_call 64; refine Calls.mono (HRt.out _ HB1.out u HU.out) ?_; rintro v w2 ⟨rfl, hb2⟩)
    go_ret
    exact ⟨rfl, HB0.out.trans ((HB1.out.trans (hb2.mono HB1.out.size)).mono HB0.out.size)⟩
end Go.Proofs.YtbholbenjalliaaGreatDoor

namespace Go.Proofs.YtbholbenjalliaaGreatDoor
open Go.RowKit Go.Extern.Stop Go.Stop Go.Extern Go.Maps

theorem lwOf_nat (k : Nat) : lwOf (k : Int) = kwB k := by unfold lwOf; rw [if_neg (by omega), Int.toNat_natCast]
theorem lineD_at (w0 w : World) (rb : Nat) (c : CfgD) (last : Int) (l : ByteArray) (hb0 : BlX rb w0 w) (h : DrS w0.heap.size rb w c (lwOf last)) (hl : l.size ≤ 1000000) (l0 : -1 ≤ last) (l9 : last ≤ 9) (hO : StOk 1000000 c last) :
    Calls Tryz.prog 35 #[.pointer (some ⟨rb, 0, none⟩), .string l] w fun v w' => v = .returned (.int .i64 (((lineR lookF ⟨last, c⟩ (bl l)).1 : Nat) : Int)) ∧ BlX rb w0 w' ∧ ((lineR lookF ⟨last, c⟩ (bl l)).1 = 0 → DrS w0.heap.size rb w' (lineR lookF ⟨last, c⟩ (bl l)).2.cfg (lwOf (lineR lookF ⟨last, c⟩ (bl l)).2.last) ∧ -1 ≤ (lineR lookF ⟨last, c⟩ (bl l)).2.last ∧ (lineR lookF ⟨last, c⟩ (bl l)).2.last ≤ 9) := by
  obtain ⟨h0, tl, -, hcut0, -⟩ := words_of l ⟨#[32]⟩ rfl
  obtain ⟨ws, hws⟩ : ∃ ws, ws = tl.map bl := ⟨_, rfl⟩
  rw [← hws] at hcut0
  have e1 : lineR lookF ⟨last, c⟩ (bl l) = lineW lookF ⟨last, c⟩ (bl h0) ws := by unfold lineR; rw [hcut0]
  cases hk : kindOf (bl h0) with
  | none =>
    have e2 : lineW lookF ⟨last, c⟩ (bl h0) ws = (1, ⟨last, c⟩) := by unfold lineW; rw [hk]
    rw [e1, e2]
    refine (lineD_none w0 w rb c last l (bl h0) ws hb0 h hl l0 l9 hcut0 hk).mono ?_
    rintro v w' ⟨rfl, hb⟩
    exact ⟨rfl, hb, fun h => by simp at h⟩
  | some k =>
    obtain ⟨h1, k10⟩ := kindOf_some hk
    have hcut : cutBy 32 (bl l) = kw k :: ws := by rw [hcut0, h1]
    rw [e1, h1]
    clear hcut0 hk e1
    have fin : ∀ k, k < 10 → Calls Tryz.prog 35 #[.pointer (some ⟨rb, 0, none⟩), .string l] w (fun v w' => v = .returned (.int .i64 (lineK last c k ws : Nat)) ∧ BlX rb w0 w' ∧ (lineK last c k ws = 0 → DrS w0.heap.size rb w' (updC c k ws (fillV (lookF (lastPts c.ents)) false (form k) ws).2) (kwB k))) →
        Calls Tryz.prog 35 #[.pointer (some ⟨rb, 0, none⟩), .string l] w fun v w' => v = .returned (.int .i64 (((lineW lookF ⟨last, c⟩ (kw k) ws).1 : Nat) : Int)) ∧ BlX rb w0 w' ∧ ((lineW lookF ⟨last, c⟩ (kw k) ws).1 = 0 → DrS w0.heap.size rb w' (lineW lookF ⟨last, c⟩ (kw k) ws).2.cfg (lwOf (lineW lookF ⟨last, c⟩ (kw k) ws).2.last) ∧ -1 ≤ (lineW lookF ⟨last, c⟩ (kw k) ws).2.last ∧ (lineW lookF ⟨last, c⟩ (kw k) ws).2.last ≤ 9) := fun k k10 hc => by
      obtain ⟨a1, a2⟩ := lineW_k (last := last) (c := c) k10 ws
      refine hc.mono ?_
      rintro v w' ⟨rfl, hb, hd⟩
      rw [a1]
      refine ⟨rfl, hb, fun h0 => ?_⟩
      rw [a2 h0]
      exact ⟨by rw [lwOf_nat]; exact hd h0, by show -1 ≤ (k : Int); omega, by show (k : Int) ≤ 9; omega⟩
    match k, k10 with
    | 0, _ => exact fin 0 (by decide) (lineD_k0 w0 w rb c last l ws hb0 h hl l0 l9 hO hcut)
    | 1, _ => exact fin 1 (by decide) (lineD_k1 w0 w rb c last l ws hb0 h hl l0 l9 hO hcut)
    | 2, _ => exact fin 2 (by decide) (lineD_k2 w0 w rb c last l ws hb0 h hl l0 l9 hO hcut)
    | 3, _ => exact fin 3 (by decide) (lineD_k3 w0 w rb c last l ws hb0 h hl l0 l9 hO hcut)
    | 4, _ => exact fin 4 (by decide) (lineD_k4 w0 w rb c last l ws hb0 h hl l0 l9 hO hcut)
    | 5, _ => exact fin 5 (by decide) (lineD_k5 w0 w rb c last l ws hb0 h hl l0 l9 hO hcut)
    | 6, _ => exact fin 6 (by decide) (lineD_k6 w0 w rb c last l ws hb0 h hl l0 l9 hO hcut)
    | 7, _ => exact fin 7 (by decide) (lineD_k7 w0 w rb c last l ws hb0 h hl l0 l9 hO hcut)
    | 8, _ => exact fin 8 (by decide) (lineD_k8 w0 w rb c last l ws hb0 h hl l0 l9 hO hcut)
    | 9, _ => exact fin 9 (by decide) (lineD_k9 w0 w rb c last l ws hb0 h hl l0 l9 hO hcut)
end Go.Proofs.YtbholbenjalliaaGreatDoor
