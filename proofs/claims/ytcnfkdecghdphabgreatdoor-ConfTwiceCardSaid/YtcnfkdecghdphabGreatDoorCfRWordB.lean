/-
  (*conf.reader).word by a contract ('wordV'): the walks. Conditions: as CfRWord says.
-/
import Derived.Test.YtcnfkdecghdphabGreatDoorCfRWord
namespace Go.Proofs.YtcnfkdecghdphabGreatDoor
open Go.RowKit Go.Extern.Stop Go.Stop Go.Extern Go.Maps

theorem Tryz.assertRSS (x : Value) (w : World) : (Instr.typeAssert (.iface 179 x) 20 179 true).run Tryz.prog w = .ok (.tuple #[x, .bool true]) w := by kernel_rfl
theorem Tryz.assertRIS (x : Value) (w : World) : (Instr.typeAssert (.iface 144 x) 20 179 true).run Tryz.prog w = .ok (.tuple #[.pointer none, .bool false]) w := by kernel_rfl
theorem Tryz.assertRII (x : Value) (w : World) : (Instr.typeAssert (.iface 144 x) 20 144 true).run Tryz.prog w = .ok (.tuple #[x, .bool true]) w := by kernel_rfl
theorem Tryz.assertRPS (x : Value) (w : World) : (Instr.typeAssert (.iface 181 x) 20 179 true).run Tryz.prog w = .ok (.tuple #[.pointer none, .bool false]) w := by kernel_rfl
theorem Tryz.assertRPI (x : Value) (w : World) : (Instr.typeAssert (.iface 181 x) 20 144 true).run Tryz.prog w = .ok (.tuple #[.pointer none, .bool false]) w := by kernel_rfl
theorem Tryz.assertRPP (x : Value) (w : World) : (Instr.typeAssert (.iface 181 x) 20 181 true).run Tryz.prog w = .ok (.tuple #[x, .bool true]) w := by kernel_rfl
theorem Tryz.zeroIntE (w : World) : (zeroValue 3).run Tryz.prog w = .ok (.int .i64 0) w := by kernel_rfl
theorem wordV_empty (look : Bs → Option Nat) (f : Nat) : wordV look f [] = (1, 0) := by unfold wordV; rw [if_pos rfl]
theorem bl_nil {s : ByteArray} (h : s.size = 0) : bl s = [] := List.eq_nil_of_length_eq_zero (by rw [blen]; exact h)
theorem bl_cons {s : ByteArray} (h : 1 ≤ s.size) : bl s ≠ [] := fun e => by have := blen s; rw [e] at this; simp at this; omega
theorem ba_nil {s : ByteArray} (h : s.size = 0) : s = ⟨#[]⟩ := bl_inj (by rw [bl_nil h]; rfl)
set_option maxHeartbeats 2000000 in
set_option maxRecDepth 100000 in
theorem rword_nil (A : Nat → Addr) (pts : List ByteArray) (rb f : Nat) (v : Value) (tb tk : Nat) (old : Value) (w : World) (hs : Sen6 A w) (ht : w.cell? ⟨tb, tk, none⟩ = some old) (hT : Typed f old) :
    Calls Tryz.prog 112 #[.pointer (some ⟨rb, 0, none⟩), .string ⟨#[]⟩, v] w (WordPost A pts f ⟨#[]⟩ tb tk w) := by
  have HW : Hid (∀ w', Below w.heap.size w w' → WordPost A pts f ⟨#[]⟩ tb tk w (.returned (errV A 1)) w') := fun w' hb => word_err (c := 1) ht hT (by rw [show bl ⟨#[]⟩ = [] from rfl, wordV_empty]) (by decide) hb
  have c0 := hs.c0
  clear hs ht hT
  go_enter Tryz.func112, Tryz.ntmps112
  go_wp2
  go_ret
  exact HW.out _ (Below.refl _ _)
set_option maxHeartbeats 2000000 in
set_option maxRecDepth 100000 in
theorem rword_str (A : Nat → Addr) (pts : List ByteArray) (rb : Nat) (s : ByteArray) (tb tk : Nat) (old : Value) (w : World) (h1 : 1 ≤ s.size) (hsz : s.size ≤ 1000000) (ht : w.cell? ⟨tb, tk, none⟩ = some old) (hf : w.frozen? ⟨tb, tk, none⟩ = false) :
    Calls Tryz.prog 112 #[.pointer (some ⟨rb, 0, none⟩), .string s, .iface 179 (.pointer (some ⟨tb, tk, none⟩))] w (WordPost A pts 0 s tb tk w) := by
  have HV : Hid (wordV (lookL pts) 0 (bl s) = (0, 0)) := by show _ = _; unfold wordV; rw [if_neg (bl_cons h1)]; rfl
  have y2 : ¬ s.toList = [] := by rw [ByteArray.toList_eq]; exact bl_cons h1
  have y1 : (s.toList == []) = false := by simpa using y2
  clear h1
  have a0 := Tryz.assertRSS
  go_enter Tryz.func112, Tryz.ntmps112
  go_wp2
  go_ret
  refine ⟨by rw [HV.out]; rfl, .string s, ⟨s, rfl, hsz⟩, fun _ => rfl, Below.refl _ _⟩
set_option maxHeartbeats 2000000 in
set_option maxRecDepth 100000 in
theorem rword_num (A : Nat → Addr) (pts : List ByteArray) (rb : Nat) (s : ByteArray) (tb tk : Nat) (old : Value) (w : World) (hs : Sen6 A w) (h1 : 1 ≤ s.size) (hsz : s.size ≤ 1000000) (ht : w.cell? ⟨tb, tk, none⟩ = some old) (hT : Typed 1 old) (hf : w.frozen? ⟨tb, tk, none⟩ = false) :
    Calls Tryz.prog 112 #[.pointer (some ⟨rb, 0, none⟩), .string s, .iface 144 (.pointer (some ⟨tb, tk, none⟩))] w (WordPost A pts 1 s tb tk w) := by
  have HV : Hid (wordV (lookL pts) 1 (bl s) = match numOf (bl s) with | some n => (0, (n : Int)) | none => (1, 0)) := by show _ = _; unfold wordV; rw [if_neg (bl_cons h1)]; rfl
  have y2 : ¬ s.toList = [] := by rw [ByteArray.toList_eq]; exact bl_cons h1
  have y1 : (s.toList == []) = false := by simpa using y2
  have hN := number_at s w h1 hsz
  have HW : Hid (numOf (bl s) = none → ∀ w', Below w.heap.size w w' → WordPost A pts 1 s tb tk w (.returned (errV A 1)) w') := fun hn w' hb => word_err (c := 1) ht hT (by rw [HV.out, hn]) (by decide) hb
  have HS : Hid (Sen6 A w) := hs
  have HT : Hid (w.cell? ⟨tb, tk, none⟩ = some old ∧ w.frozen? ⟨tb, tk, none⟩ = false) := ⟨ht, hf⟩
  clear h1 hs ht hf hT
  have a0 := Tryz.assertRIS
  have a1 := Tryz.assertRII
  cases hn : numOf (bl s) with
  | none =>
    rw [hn] at hN
    go_enter Tryz.func112, Tryz.ntmps112
    go_wp2_with fail
    refine hN.mono ?_
    rintro e w1 ⟨rfl, hb⟩
    have c0 := (HS.out.below hb).c0
    have HB : Hid (Below w.heap.size w w1) := hb
    clear hb
    go_wp2
    go_ret
    exact HW.out hn _ HB.out
  | some n =>
    rw [hn] at hN
    go_enter Tryz.func112, Tryz.ntmps112
    go_wp2_with fail
    refine hN.mono ?_
    rintro e w1 ⟨rfl, hb⟩
    have t0 : w1.cell? ⟨tb, tk, none⟩ = some old := cell_below hb HT.out.1
    have t1 : w1.frozen? ⟨tb, tk, none⟩ = false := by
      have := hb.block tb (block_lt HT.out.1)
      have h2 := HT.out.2
      unfold World.frozen? at h2 ⊢
      rw [this]
      exact h2
    have HB : Hid (Below w.heap.size w w1) := hb
    clear hb
    go_wp2
    go_ret
    refine ⟨by rw [HV.out, hn]; rfl, .int .i64 (n : Int), ⟨_, rfl⟩, fun _ => by rw [HV.out, hn]; rfl, Below.setBoth HB.out _ _⟩
set_option maxHeartbeats 2000000 in
set_option maxRecDepth 100000 in
theorem rword_place (A : Nat → Addr) (pts : List ByteArray) (rb mb : Nat) (s : ByteArray) (tb tk : Nat) (old : Value) (w : World) (hs : Sen6 A w) (h1 : 1 ≤ s.size) (hsz : s.size ≤ 1000000) (hm : MapAt w rb mb pts) (ht : w.cell? ⟨tb, tk, none⟩ = some old) (hT : Typed 2 old) (hf : w.frozen? ⟨tb, tk, none⟩ = false) :
    Calls Tryz.prog 112 #[.pointer (some ⟨rb, 0, none⟩), .string s, .iface 181 (.pointer (some ⟨tb, tk, none⟩))] w (WordPost A pts 2 s tb tk w) := by
  have HV : Hid (wordV (lookL pts) 2 (bl s) = match lookL pts (bl s) with | some n => (0, (n : Int)) | none => (5, 0)) := by show _ = _; unfold wordV; rw [if_neg (bl_cons h1)]; rfl
  have y2 : ¬ s.toList = [] := by rw [ByteArray.toList_eq]; exact bl_cons h1
  have y1 : (s.toList == []) = false := by simpa using y2
  have HW : Hid (lookL pts (bl s) = none → WordPost A pts 2 s tb tk w (.returned (errV A 5)) w) := fun hn => word_err (c := 5) ht hT (by rw [HV.out, hn]) (by decide) (Below.refl _ _)
  have c4 := hs.c4
  have c6 := hm.c6
  obtain ⟨D, hown, hD⟩ := hm.own
  have hkey : keyOf Tryz.prog 9 (.string s) = some (keyL s) := Go.WideMaps.keyOf_string_mk Tryz.underlying9 (by unfold maxLen; omega)
  obtain ⟨hD1, hD2⟩ := hD s
  have HD2 : Hid (D.atKey (keyL s) (.lit (.int .i64 0)) = .lit (.int .i64 (((lookL pts (bl s)).getD 0 : Nat) : Int))) := hD2
  clear h1 hs hT hm hD hD2
  have a0 := Tryz.assertRPS
  have a1 := Tryz.assertRPI
  have a2 := Tryz.assertRPP
  cases hn : lookL pts (bl s) with
  | none =>
    rw [hn] at hD1
    have hD1' : Maps.has D (keyL s) = false := hD1
    clear hD1
    go_enter Tryz.func112, Tryz.ntmps112
    go_wp2_with (first
      | (at_lookup; refine wpList_lookup_own_ok_int _ rfl _ _ 72 rfl 9 3 .i64 Tryz.lawStr Tryz.underlying72 Tryz.underlying3 (Tryz.zeroIntE _) mb pts.length _ rfl hown _ _ rfl hkey ?_; intro c hat hwc)
      | go_in)
    go_ret
    exact HW.out hn
  | some n =>
    rw [hn] at hD1
    have hD1' : Maps.has D (keyL s) = true := hD1
    have HAt : Hid (∀ c, D.atKey (keyL s) (.lit (.int .i64 0)) = .lit (.int .i64 c) → c = (n : Int)) := fun c hc => by
      have := hc.symm.trans HD2.out
      rw [hn] at this
      injection this with h2
      injection h2
    clear hD1
    go_enter Tryz.func112, Tryz.ntmps112
    go_wp2_with (first
      | (at_lookup; refine wpList_lookup_own_ok_int _ rfl _ _ 72 rfl 9 3 .i64 Tryz.lawStr Tryz.underlying72 Tryz.underlying3 (Tryz.zeroIntE _) mb pts.length _ rfl hown _ _ rfl hkey ?_; intro c hat hwc)
      | go_in)
    go_ret
    have hc := HAt.out _ hat
    subst hc
    refine ⟨by rw [HV.out, hn]; rfl, .int .i64 (n : Int), ⟨_, rfl⟩, fun _ => by rw [HV.out, hn]; rfl, Below.refl _ _⟩
end Go.Proofs.YtcnfkdecghdphabGreatDoor
