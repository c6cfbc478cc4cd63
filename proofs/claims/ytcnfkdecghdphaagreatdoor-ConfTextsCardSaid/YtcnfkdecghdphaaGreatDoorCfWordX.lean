/-
  (*conf.page).word by contracts: what is written of a keyword, a text, a number, a point. Conditions: the page lies in memory ('PageAt'); the keywords and the table of powers of ten lie in memory.
-/
import Derived.Test.YtcnfkdecghdphaaGreatDoorCfPageX
import Derived.Test.YtcnfkdecghdphaaGreatDoorPureX
import Derived.Test.YtcnfkdecghdphaaGreatDoorShelfX
import Derived.Deep.RegionHeld3
namespace Go.Proofs.YtcnfkdecghdphaaGreatDoor
open Go.RowKit Go.Extern.Stop Go.Stop Go.Extern

theorem Tryz.assertKK (x : Value) (w : World) : (Instr.typeAssert (.iface 94 x) 20 94 true).run Tryz.prog w = .ok (.tuple #[x, .bool true]) w := by kernel_rfl
theorem Tryz.assertSK (x : Value) (w : World) : (Instr.typeAssert (.iface 9 x) 20 94 true).run Tryz.prog w = .ok (.tuple #[.int .i64 0, .bool false]) w := by kernel_rfl
theorem Tryz.assertSS (x : Value) (w : World) : (Instr.typeAssert (.iface 9 x) 20 9 true).run Tryz.prog w = .ok (.tuple #[x, .bool true]) w := by kernel_rfl
theorem Tryz.assertIK (x : Value) (w : World) : (Instr.typeAssert (.iface 3 x) 20 94 true).run Tryz.prog w = .ok (.tuple #[.int .i64 0, .bool false]) w := by kernel_rfl
theorem Tryz.assertIS (x : Value) (w : World) : (Instr.typeAssert (.iface 3 x) 20 9 true).run Tryz.prog w = .ok (.tuple #[.string ⟨#[]⟩, .bool false]) w := by kernel_rfl
theorem Tryz.assertII (x : Value) (w : World) : (Instr.typeAssert (.iface 3 x) 20 3 true).run Tryz.prog w = .ok (.tuple #[x, .bool true]) w := by kernel_rfl
theorem Tryz.assertPK (x : Value) (w : World) : (Instr.typeAssert (.iface 125 x) 20 94 true).run Tryz.prog w = .ok (.tuple #[.int .i64 0, .bool false]) w := by kernel_rfl
theorem Tryz.assertPS (x : Value) (w : World) : (Instr.typeAssert (.iface 125 x) 20 9 true).run Tryz.prog w = .ok (.tuple #[.string ⟨#[]⟩, .bool false]) w := by kernel_rfl
theorem Tryz.assertPI (x : Value) (w : World) : (Instr.typeAssert (.iface 125 x) 20 3 true).run Tryz.prog w = .ok (.tuple #[.int .i64 0, .bool false]) w := by kernel_rfl
theorem Tryz.assertPP (x : Value) (w : World) : (Instr.typeAssert (.iface 125 x) 20 125 true).run Tryz.prog w = .ok (.tuple #[x, .bool true]) w := by kernel_rfl
def KwAt (w : World) : Prop := ∀ i, i < 10 → w.cell? ⟨12, i, none⟩ = some (.string ⟨(kw i).toArray⟩)
theorem KwAt.below {w w' : World} (h : KwAt w) {B : Nat} (hb : Below B w w') (hB : 12 < B) : KwAt w' := fun i hi => (hb.cell (p := ⟨12, i, none⟩) hB).trans (h i hi)
theorem PageAt.drew {B pb : Nat} {pv : Value} {l : List UInt8} {w : World} (h : PageAt B pb pv l w) : PageAt B pb pv l w.drew := h

set_option maxHeartbeats 1000000 in
set_option maxRecDepth 100000 in
theorem word_str (B pb : Nat) (pv : Value) (l : List UInt8) (s : ByteArray) (w : World) (h : PageAt B pb pv l w) (hl : l.length + s.size ≤ 1000000000) :
    Calls Tryz.prog 68 #[.pointer (some ⟨pb, 0, none⟩), .iface 9 (.string s)] w fun e w' => e = .returned (.tuple #[]) ∧ PageAt B pb pv (l ++ s.data.toList) w' ∧ PFr B pb w w' := by
  have H : Hid _ := bld_str B pb pv l s w h hl
  clear h hl
  have t1 := Tryz.assertSK
  have t2 := Tryz.assertSS
  go_enter Tryz.func68, Tryz.ntmps68
  go_wp2_with fail
  refine Calls.mono H.out ?_
  rintro e w' ⟨rfl, h1, h2⟩
  go_wp2
  go_end0
  exact ⟨rfl, h1, h2⟩
set_option maxHeartbeats 1000000 in
set_option maxRecDepth 100000 in
theorem word_kind (B pb : Nat) (pv : Value) (l : List UInt8) (k : Nat) (w : World) (h : PageAt B pb pv l w) (hl : l.length ≤ 900000000) (hk : k < 10) (hK : KwAt w) (hG : (max 12 16 + 1) ≤ B) :
    Calls Tryz.prog 68 #[.pointer (some ⟨pb, 0, none⟩), .iface 94 (.int .i64 (k : Int))] w fun e w' => e = .returned (.tuple #[]) ∧ PageAt B pb pv (l ++ kw k) w' ∧ PFr B pb w w' := by
  have hkl : (kw k).length ≤ 6 := by
    have : ∀ k, k < 10 → (kw k).length ≤ 6 := by decide
    exact this k hk
  have H0 := bld_str B pb pv l ⟨(kw k).toArray⟩ w.drew h.drew (by show l.length + (kw k).toArray.size ≤ _; simp; omega)
  have H : Hid _ := H0
  have c0 := hK k hk
  have k0 : (0 : Int) ≤ (k : Int) := by omega
  have k1 : (k : Int) < 10 := by omega
  generalize hs : (⟨(kw k).toArray⟩ : ByteArray) = s at *
  have HS : Hid (s.data.toList = kw k) := by show _ = _; rw [← hs]
  clear h hl hK hkl H0 hk hs
  have t1 := Tryz.assertKK
  go_enter Tryz.func68, Tryz.ntmps68
  go_wp2_with fail
  go_region_held3 (fun w' => w'.cell? ⟨12, k, none⟩ = some (.string s)) (first | exact c0 | exact y0) (first | (go_at_call 116; refine Calls.mono H.out ?_; rintro e W' ⟨rfl, h1, h2⟩; have y0 := (h2.bel.cell (p := ⟨12, k, none⟩) (Nat.lt_of_lt_of_le (show 12 < (max 12 16 + 1) by decide) hG)).trans c0))
  go_wp2
  go_end0
  exact ⟨rfl, by rw [← HS.out]; exact h1, (PFr.refl B pb w).drew.trans h2⟩

/-- The table of powers of ten, as start-up lays it. -/
def TabAt (w : World) : Prop := Lib.TabIs Tryz.prog w "internal/strconv.uint64pow10" .u64 Lib.pow10Tab
theorem Tryz.tabNamed : Tryz.prog.globalNamed "internal/strconv.uint64pow10" = some 16 := by kernel_rfl
theorem TabAt.below {B : Nat} {w w' : World} (h : TabAt w) (hb : Below B w w') (hB : (max 12 16 + 1) ≤ B) : TabAt w' := by
  unfold TabAt Lib.TabIs World.var? at h ⊢
  rw [Tryz.tabNamed] at h ⊢
  simp only [Option.bind_some] at h ⊢
  rw [hb.block 16 (Nat.lt_of_lt_of_le (by decide) hB)]
  exact h
theorem decN_lib (u : Nat) : Lib.decDigits u = decN u := by
  induction u using Nat.strongRecOn with
  | ind u ih =>
    rw [Lib.decDigits, decN]
    split
    · rfl
    · rw [ih (u / 10) (by omega)]
theorem itoa_at (n : Int) (h0 : 0 ≤ n) (h1 : n ≤ 1099511627776) (w : World) (hT : TabAt w) : Calls Tryz.prog 117 #[.int .i64 n] w fun e w' => e = .returned (.string ⟨(num n).toArray⟩) ∧ Below w.heap.size w w' := by
  refine (Tryz.strconv_Itoa n (by omega) (by omega) w hT).mono ?_
  rintro e w' ⟨rfl, k, os, rfl⟩
  refine ⟨?_, ?_⟩
  · unfold Lib.itoa num
    rw [if_neg (by omega), decN_lib]
  · refine ⟨rfl, rfl, rfl, (by show w.heap.size ≤ ((w.drewN k).heap ++ os).size; rw [Array.size_append]; exact Nat.le_add_right _ _), fun i hi => ?_⟩
    show ((w.drewN k).heap ++ os)[i]? = _
    rw [Array.getElem?_append_left (by show i < w.heap.size; omega)]
    rfl
set_option maxHeartbeats 1000000 in
set_option maxRecDepth 100000 in
theorem word_int (B pb : Nat) (pv : Value) (l : List UInt8) (n : Int) (w : World) (h : PageAt B pb pv l w) (hl : l.length ≤ 900000000) (h0 : 0 ≤ n) (h1 : n ≤ 1099511627776) (hT : TabAt w) (hG : (max 12 16 + 1) ≤ B) :
    Calls Tryz.prog 68 #[.pointer (some ⟨pb, 0, none⟩), .iface 3 (.int .i64 n)] w fun e w' => e = .returned (.tuple #[]) ∧ PageAt B pb pv (l ++ num n) w' ∧ PFr B pb w w' := by
  have hnl : (num n).length ≤ 13 := by
    obtain ⟨-, -, -, -, hh⟩ := decN_all n.toNat
    exact hh 12 (by omega)
  have HI : Hid (∀ W, Below w.heap.size w W → _) := fun W hW => itoa_at n h0 h1 W (hT.below (hW.mono h.2.1) hG)
  have HW : Hid (∀ W, PageAt B pb pv l W → _) := fun W hW => bld_str B pb pv l ⟨(num n).toArray⟩ W hW (by show l.length + (num n).toArray.size ≤ _; simp; omega)
  have H : Hid (PageAt B pb pv l w) := h
  have t1 := Tryz.assertIK
  have t2 := Tryz.assertIS
  have t3 := Tryz.assertII
  clear h hl h0 h1 hT hnl
  go_enter Tryz.func68, Tryz.ntmps68
  go_wp2_with fail
  go_region_held3 (fun _ => True) (exact trivial) (first | (go_at_call 117; refine Calls.mono (HI.out _ (below_drewN (Below.refl _ _) 1)) ?_; rintro e W1 ⟨rfl, hb1⟩; have hP1 := H.out.drew.below hb1) | (go_at_call 116; refine Calls.mono (HW.out _ hP1) ?_; rintro e W2 ⟨rfl, h1, h2⟩))
  go_wp2
  go_end0
  exact ⟨rfl, h1, ((PFr.refl B pb w).drew.trans (PFr.of_below H.out hb1)).trans h2⟩

set_option maxHeartbeats 1000000 in
set_option maxRecDepth 100000 in
theorem word_place (B pb : Nat) (pa : Option Addr) (pc : Nat) (pts : List ByteArray) (l : List UInt8) (x : Int) (w : World) (h : PageAt B pb (.slice pa pts.length pc) l w) (hl : l.length ≤ 900000000) (hP : ∀ W, Below B w W → SlAt encS 1 W (.slice pa pts.length pc) pts) (h0 : 0 ≤ x) (h1 : x < (pts.length : Int)) (hs : ∀ p ∈ pts, p.size ≤ 1000000) :
    Calls Tryz.prog 68 #[.pointer (some ⟨pb, 0, none⟩), .iface 125 (.int .i64 x)] w fun e w' => e = .returned (.tuple #[]) ∧ PageAt B pb (.slice pa pts.length pc) (l ++ pt pts x) w' ∧ PFr B pb w w' := by
  obtain ⟨q, hq, hqe, hqm⟩ : ∃ q, pts[x.toNat]? = some q ∧ pt pts x = bl q ∧ q ∈ pts := by
    have hlt : x.toNat < pts.length := by omega
    exact ⟨pts[x.toNat], List.getElem?_eq_getElem hlt, by simp [pt, List.getD_eq_getElem?_getD, List.getElem?_eq_getElem hlt], List.getElem_mem hlt⟩
  obtain ⟨k, rfl⟩ := Int.eq_ofNat_of_zero_le h0
  have hk : k < pts.length := by omega
  simp only [Int.toNat_natCast] at hq
  have hP0 := hP
  obtain ⟨sa', cap', hsl, -, hcc⟩ := hP w (Below.refl _ _)
  cases hsl
  obtain ⟨b, o, rfl, hc0⟩ := hcc (fun e => by subst e; simp at hq)
  have HCk : Hid (∀ W, Below B w W → W.cell? ⟨b, o + k, none⟩ = some (.string q)) := fun W hW => by
    obtain ⟨sa2, cap2, hsl2, -, hcc2⟩ := hP0 W hW
    cases hsl2
    obtain ⟨b2, o2, e2, hc2⟩ := hcc2 (fun e => by subst e; simp at hq)
    cases e2
    have := hc2 k q hq 0 _ rfl
    simpa using this
  have H0 := bld_str B pb _ l q w.drew h.drew (by have := hs q hqm; omega)
  have H : Hid _ := H0
  have hcell := HCk.out w (Below.refl _ _)
  have h2c : w.cell? ⟨pb, 2, none⟩ = some (.slice (some ⟨b, o, none⟩) pts.length pc) := by
    obtain ⟨-, -, p, v, -, h4, -⟩ := h
    simp [World.cell?, h4]
  have HQ : Hid (pt pts (k : Int) = bl q) := hqe
  have k0 : (0 : Int) ≤ (k : Int) := by omega
  have k1 : (k : Int) < (pts.length : Int) := by omega
  have t1 := Tryz.assertPK
  have t2 := Tryz.assertPS
  have t3 := Tryz.assertPI
  have t4 := Tryz.assertPP
  have HC2 : Hid (∀ W, PageAt B pb (.slice (some ⟨b, o, none⟩) pts.length pc) (l ++ q.data.toList) W → W.cell? ⟨pb, 2, none⟩ = some (.slice (some ⟨b, o, none⟩) pts.length pc)) := fun W hW => by
    obtain ⟨-, -, p, v, -, h4, -⟩ := hW
    simp [World.cell?, h4]
  clear h hl hP hP0 hs hq hqe hqm hcc hc0 H0 h0 h1 hk
  go_enter Tryz.func68, Tryz.ntmps68
  go_wp2_with fail
  go_region_held3 (fun w' => w'.cell? ⟨b, o + k, none⟩ = some (.string q) ∧ w'.cell? ⟨pb, 2, none⟩ = some (.slice (some ⟨b, o, none⟩) pts.length pc)) (first | exact ⟨hcell, h2c⟩ | exact ⟨y0, y1⟩) (first | (go_at_call 116; refine Calls.mono H.out ?_; rintro e W' ⟨rfl, h1, h2⟩; have y0 := HCk.out W' ((Below.refl B w).drew.trans h2.bel); have y1 := HC2.out _ h1))
  go_wp2
  go_end0
  exact ⟨rfl, by rw [HQ.out]; exact h1, (PFr.refl B pb w).drew.trans h2⟩
end Go.Proofs.YtcnfkdecghdphaaGreatDoor
