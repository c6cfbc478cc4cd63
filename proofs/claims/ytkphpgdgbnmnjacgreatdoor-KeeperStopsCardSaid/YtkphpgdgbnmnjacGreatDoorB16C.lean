/-
  Several texts as one: RingAppGo, RingPure, RingInv, RingMore.
-/
import Derived.Test.YtkphpgdgbnmnjacGreatDoorB15C
namespace Go.Proofs.YtkphpgdgbnmnjacGreatDoor
open Go.RowKit Go.Extern.Stop Go.Stop Go.Extern

theorem RingAt.off {w w' : World} {B rb bc : Nat} {v : Value} {L : List Rec} {sp : Bool} {S : Nat → Prop} (h : RingAt w B rb bc v L sp) (ho : Off S w w') (h1 : ¬ S rb) (h2 : ∀ g, v.ownBlock = some g → ¬ S g) : RingAt w' B rb bc v L sp := by
  refine ⟨(ho.block rb h.lt h1).trans h.heap, ?_, h.sep, h.lo⟩
  rcases h.recs.row_form with ⟨rfl, rfl⟩ | ⟨g, cap, rfl, hbg, hrow, hlc, hm⟩
  · exact World.ownsRow_nil _ _ _ _
  · obtain ⟨cur, hg, k2, k3⟩ := hrow.row
    exact Recs.of_row ⟨⟨cur, (ho.block g hrow.lt (h2 g rfl)).trans hg, k2, k3⟩⟩ hbg hlc hm
theorem RingAt.spent {w : World} {B rb bc : Nat} {v : Value} {L : List Rec} {sp : Bool} (h : RingAt w B rb bc v L sp) : RingAt (w.setCell ⟨rb, 2, .none⟩ (.bool true)) B rb bc v L true := by
  have hgs : w.grownBy (w.setCell ⟨rb, 2, .none⟩ (.bool true)) (some rb) := grown_set (grown_refl _ _) _ _
  refine ⟨by simp [World.setCell, Array.getElem?_modify, h.heap], ?_, h.sep, h.lo⟩
  rcases h.recs.row_form with ⟨rfl, rfl⟩ | ⟨g, cap, rfl, hbg, hrow, hlc, hm⟩
  · exact World.ownsRow_nil _ _ _ _
  · exact Recs.of_row (hrow.grown hgs (fun e => h.sep.1 (by rw [← e]; rfl))) hbg hlc hm
theorem RecRow.off {w w' : World} {b : Nat} {r : Rec} {S : Nat → Prop} (h : RecRow w b r) (ho : Off S w w') (h1 : ¬ S b) : RecRow w' b r := ⟨(ho.block b h.lt h1).trans h.heap⟩
theorem CellsAt.off {w w' : World} {b : Nat} {s : CSt} {S : Nat → Prop} (h : CellsAt w b s) (ho : Off S w w') (h1 : ¬ S b) : CellsAt w' b s := ⟨(ho.block b h.lt h1).trans h.heap, h.len, h.size⟩

/-- The record that Append makes. -/
def nextR (L : List Rec) (e k t : Nat) : Rec := ⟨(lastR L).seq + 1, e, k, t⟩

set_option maxRecDepth 100000 in
set_option maxHeartbeats 4000000 in
theorem append_go (A : Nat → Addr) (B rb bc : Nat) (v : Value) (L : List Rec) (s : CSt) (n1 n2 n3 : Nat) (w : World) (h : RingAt w B rb bc v L false) (hc : CellsAt w bc s) (hs : Sen4 A w) (hgm : 11 ≤ bc) (hrb : rb ≠ bc) (hlow : s.Low 18) (hl : L.length ≤ 8) (hf1 : n1 ≤ 255) (hf2 : n2 ≤ 255) (hf3 : n3 ≤ 281474976710655) (hq : (lastR L).seq < 4294967295) :
    Calls Tryz.prog 118 #[.pointer (some ⟨rb, 0, .none⟩), .int .i64 (n1 : Int), .int .i64 (n2 : Int), .int .i64 (n3 : Int)] w fun e w' =>
      (∃ j, (s.putRec (nextR L n1 n2 n3)).2 = j + 1 ∧ e = .returned (.tuple #[Rec.none.val, errVal A (j + 1)]) ∧ RingAt w' B rb bc v L true ∧ CellsAt w' bc (s.putRec (nextR L n1 n2 n3)).1 ∧ Off (fun k => k = bc ∨ k = rb ∨ v.ownBlock = some k) w w') ∨
      ((s.putRec (nextR L n1 n2 n3)).2 = 0 ∧ e = .returned (.tuple #[(nextR L n1 n2 n3).val, .nilIface]) ∧ (∃ v', RingAt w' B rb bc v' (keepL L (nextR L n1 n2 n3)) false ∧ ∀ k, v'.ownBlock = some k → v.ownBlock = some k ∨ w.heap.size ≤ k) ∧ CellsAt w' bc (s.putRec (nextR L n1 n2 n3)).1 ∧ Off (fun k => k = bc ∨ k = rb ∨ v.ownBlock = some k) w w') := by
  have q1 : fitsB (n1 : Int) 255 = true := decide_eq_true (by omega)
  have q2 : fitsB (n2 : Int) 255 = true := decide_eq_true (by omega)
  have q3 : fitsB (n3 : Int) 281474976710655 = true := decide_eq_true (by omega)
  obtain ⟨W, hW, Z1, B1, s1⟩ := app_zero w
  have hlt := h.lt
  have hclt := hc.lt
  have HRL : Hid _ := h.recs.lt
  have R1 := h.below B1
  have S1 := hs.below B1
  have C1 := hc.below B1
  have HW : Hid _ := hW
  clear hW
  have c2 := R1.c2
  have HPUT : Hid _ := fun w' ha hs' => put_any A bc s (nextR L n1 n2 n3) w' ha hs' hgm hlow (by simp [nextR]) (by simp [nextR]; omega)
  have HPX := HPUT.out
  have HNX : Hid ((nextR L n1 n2 n3).val = .agg #[.int .i64 (((lastR L).seq : Int) + 1), .int .i64 (n1 : Int), .int .i64 (n2 : Int), .int .i64 (n3 : Int)]) := by
    show _ = _
    simp [nextR, Rec.val]
  rw [HNX.out] at HPX
  have HPY : Hid _ := HPX
  clear HPX HPUT
  generalize hxg : nextR L n1 n2 n3 = x at *
  have hx0 : (x.seq : Int) = ((lastR L).seq : Int) + 1 := by rw [← hxg]; simp [nextR]
  have hx1 : x.ent = n1 := by rw [← hxg]; rfl
  have hx2 : x.kind = n2 := by rw [← hxg]; rfl
  have hx3 : x.tick = n3 := by rw [← hxg]; rfl
  clear hxg
  subst hx1 hx2 hx3
  have HX0 : Hid _ := hx0
  clear hx0
  go_enter Tryz.func118, Tryz.ntmps118
  go_upto_region 1 with fail
  rw [HW.out]
  go_wp2_with fail
  refine (fits_any _ 255 W).mono ?_
  rintro e w1 ⟨rfl, rfl⟩
  rw [q1]
  go_wp2_with fail
  refine (fits_any _ 255 w1).mono ?_
  rintro e w2 ⟨rfl, rfl⟩
  rw [q2]
  go_wp2_with fail
  refine (fits_any _ 281474976710655 w2).mono ?_
  rintro e w3 ⟨rfl, rfl⟩
  rw [q3]
  go_wp2_with fail
  refine (last_any B rb bc v L false w3 R1 (by omega)).mono ?_
  rintro e w4 ⟨rfl, hb4⟩
  have hq' : (((lastR L).seq : Int) == 4294967295) = false := by rw [beq_eq_false_iff_ne]; omega
  have HQ : Hid _ := hq
  have hqw : IntKind.i64.wrap (((lastR L).seq : Int) + 1) = ((lastR L).seq : Int) + 1 := by rw [IntKind.wrap_i64]; omega
  clear hq hlow
  unfold Rec.val
  have B4 := B1.trans (hb4.mono (by omega))
  have Z4 := Z1.below hb4 Z1.lt
  have S4 := S1.below hb4
  have C4 := C1.below hb4
  have R4 := R1.below hb4
  have s4 := hb4.size
  clear c2 hb4 B1 Z1 S1 C1 R1
  generalize lastR L = y at *
  go_upto_region 6 with fail
  obtain ⟨W5, hW5⟩ : ∃ W5, w4.alloc (.cells #[.int .i64 (y.seq : Int), .int .i64 (y.ent : Int), .int .i64 (y.kind : Int), .int .i64 (y.tick : Int)] 57) = W5 := ⟨_, rfl⟩
  have B5 : Below w4.heap.size w4 W5 := by rw [← hW5]; exact (Below.refl _ _).alloc (Nat.le_refl _) _
  have c5 : W5.cell? ⟨w4.heap.size, 0, .none⟩ = some (.int .i64 (y.seq : Int)) := by rw [← hW5]; exact World.cell?_alloc_at _ _ _ _ rfl
  rw [hW5]
  clear hW5
  have s5 := B5.size
  go_upto_region 9 with fail
  obtain ⟨W6, hW6⟩ : ∃ W6, W5.alloc (.cells #[.int .i64 ((y.seq : Int) + 1), .int .i64 (x.ent : Int), .int .i64 (x.kind : Int), .int .i64 (x.tick : Int)] 57) = W6 := ⟨_, rfl⟩
  have B6 : Below W5.heap.size W5 W6 := by rw [← hW6]; exact (Below.refl _ _).alloc (Nat.le_refl _) _
  have X6 : RecRow W6 W5.heap.size x := by
    refine ⟨?_⟩
    rw [← hW6, HX0.out]
    exact heap_alloc_new _ _
  rw [hW6]
  have s6 : W6.heap.size = W5.heap.size + 1 := by rw [← hW6]; simp
  clear hW6
  have B46 := B5.trans (B6.mono s5)
  have b6' := B4.trans (B46.mono (by omega))
  have R6 := R4.below B46
  have C6 := C4.below B46
  have S6 := S4.below B46
  have Z6 := Z4.below B46 Z4.lt
  have z4 := Z4.lt
  clear R4 C4 S4 Z4 c5
  obtain ⟨e0, e1, e2, e3⟩ := X6.at
  rw [HX0.out] at e0
  have r0 := R6.c0
  have C6d : CellsAt W6.drew bc s := ⟨C6.heap, C6.len, C6.size⟩
  have S6d : Sen4 A W6.drew := ⟨S6.c1, S6.c2, S6.c6, S6.c7⟩
  have nb1 : W5.heap.size ≠ bc := by omega
  go_region_held3 (fun w' => w'.cell? ⟨rb, 0, .none⟩ = some (.pointer (some ⟨bc, 0, .none⟩)) ∧ w'.cell? ⟨W5.heap.size, 0, .none⟩ = some (.int .i64 ((y.seq : Int) + 1)) ∧ w'.cell? ⟨W5.heap.size, 1, .none⟩ = some (.int .i64 (x.ent : Int)) ∧ w'.cell? ⟨W5.heap.size, 2, .none⟩ = some (.int .i64 (x.kind : Int)) ∧ w'.cell? ⟨W5.heap.size, 3, .none⟩ = some (.int .i64 (x.tick : Int))) (first | exact ⟨r0, e0, e1, e2, e3⟩ | exact ⟨k0, k1, k2, k3, k4⟩) (first | (go_at_call 162; refine Calls.mono (HPY.out _ C6d S6d) ?_; rintro e w7 ⟨rfl, C7, G7⟩; have k0 := grown_cell' G7 (show W6.drew.cell? _ = _ from r0) hrb; have k1 := grown_cell' G7 (show W6.drew.cell? _ = _ from e0) nb1; have k2 := grown_cell' G7 (show W6.drew.cell? _ = _ from e1) nb1; have k3 := grown_cell' G7 (show W6.drew.cell? _ = _ from e2) nb1; have k4 := grown_cell' G7 (show W6.drew.cell? _ = _ from e3) nb1))
  have O7 : Off (fun k => k = bc) W6 w7 := (Off.of_below ((Below.refl _ _).drew) _).trans (Off.of_grown G7) (fun _ _ hs => hs)
  have R7 := R6.off O7 hrb (fun g e1 e2 => R6.sep.2 (by rw [e1, e2]))
  have Z7 := Z6.off O7 (by omega)
  have X7 := X6.off O7 nb1
  have O7w := (Off.of_below b6' (fun k => k = bc ∨ k = rb ∨ v.ownBlock = some k)).trans O7 (fun _ _ hs => Or.inl hs)
  have nrb : ¬ w.heap.size = rb := by omega
  have nrb' : ¬ rb = w.heap.size := by omega
  have s7 := O7.size
  clear k0 k1 k2 k3 k4 e0 e1 e2 e3 r0 R6 Z6 X6 C6 C6d S6d G7 HPY
  generalize hpe : s.putRec x = p at *
  have HPE : Hid _ := hpe
  clear hpe
  cases hp : p.2 with
  | succ j =>
    have c2 := R7.c2
    have f2 := R7.frozen 2
    have G8 : w7.grownBy (w7.setCell ⟨rb, 2, .none⟩ (.bool true)) (some rb) := grown_set (grown_refl _ _) _ _
    have R8 := R7.spent
    have Z8 := Z7.off (Off.of_grown G8) nrb
    have C8 := C7.off (Off.of_grown G8) (fun e => hrb e.symm)
    have z0 := Z8.at.c0
    have z1 := Z8.at.c1
    have z2 := Z8.at.c2
    have z3 := Z8.at.c3
    have g0 := Z8.frozen 0
    have g1 := Z8.frozen 1
    have g2 := Z8.frozen 2
    have g3 := Z8.frozen 3
    unfold errVal
    go_upto_region 12 with fail
    obtain ⟨W8, hW8⟩ : ∃ W8, w7.setCell ⟨rb, 2, .none⟩ (.bool true) = W8 := ⟨_, rfl⟩
    rw [hW8] at R8 Z8 C8 z0 z1 z2 z3 g0 g1 g2 g3 G8
    rw [hW8]
    clear hW8 c2 f2
    go_wp2_with fail
    have G9 := grown_set4 W8 w.heap.size (.int .i64 0) (.int .i64 0) (.int .i64 0) (.int .i64 0)
    refine bodyPost_ret (res_rec rfl _ _ w.heap.size .none rfl (Z8.set4 .none).at) rfl ?_
    rw [HPE.out]
    refine Or.inl ⟨j, hp, rfl, R8.off (Off.of_grown G9) nrb' (fun g e1 e2 => by have := (HRL.out g e1).2; omega), C8.off (Off.of_grown G9) (by omega), ?_⟩
    exact (O7w.trans (Off.of_grown G8) (fun k _ hs => Or.inr (Or.inl hs))).trans (Off.of_grown G9) (fun k hk hs => by omega)
  | zero =>
    have KP := keep_any B rb bc v L false x w7 R7 (by omega) hl
    rw [HNX.out] at KP
    have HKP : Hid _ := KP
    clear KP
    have e0 := X7.at.c0
    rw [HX0.out] at e0
    have e1 := X7.at.c1
    have e2 := X7.at.c2
    have e3 := X7.at.c3
    unfold errVal
    go_wp2_with fail
    refine Calls.mono HKP.out ?_
    rintro e w8 ⟨rfl, v', R8, O8, K8⟩
    have nz : ¬ (w.heap.size = rb ∨ v.ownBlock = some w.heap.size) := by
      rintro (e | e)
      · exact nrb e
      · have := (HRL.out _ e).2; omega
    have nx : ¬ (W5.heap.size = rb ∨ v.ownBlock = some W5.heap.size) := by
      rintro (e | e)
      · omega
      · have := (HRL.out _ e).2; omega
    have nc : ¬ (bc = rb ∨ v.ownBlock = some bc) := by
      rintro (e | e)
      · exact hrb e.symm
      · exact R7.sep.2 e
    have Z8 := Z7.off O8 nz
    have X8 := X7.off O8 nx
    have C8 := C7.off O8 nc
    clear e0 e1 e2 e3 HKP
    have e0 := X8.at.c0
    rw [HX0.out] at e0
    have e1 := X8.at.c1
    have e2 := X8.at.c2
    have e3 := X8.at.c3
    have z0 := Z8.at.c0
    have z1 := Z8.at.c1
    have z2 := Z8.at.c2
    have z3 := Z8.at.c3
    have g0 := Z8.frozen 0
    have g1 := Z8.frozen 1
    have g2 := Z8.frozen 2
    have g3 := Z8.frozen 3
    go_wp2_with fail
    have Z9 := Z8.set4 x
    rw [HX0.out] at Z9
    have G9 := grown_set4 w8 w.heap.size (.int .i64 ((y.seq : Int) + 1)) (.int .i64 (x.ent : Int)) (.int .i64 (x.kind : Int)) (.int .i64 (x.tick : Int))
    refine bodyPost_ret (res_rec rfl _ _ w.heap.size x rfl Z9.at) rfl ?_
    have nv : ∀ g, v'.ownBlock = some g → ¬ g = w.heap.size := fun g e e2 => by
      rcases K8 g e with e3 | e3
      · have := (HRL.out g e3).2; omega
      · omega
    rw [HPE.out]
    refine Or.inr ⟨hp, HNX.out ▸ rfl, ⟨v', R8.off (Off.of_grown G9) nrb' nv, fun k e => (K8 k e).imp id (fun h => by omega)⟩, C8.off (Off.of_grown G9) (by omega), ?_⟩
    exact (O7w.trans O8 (fun k _ hs => Or.inr hs)).trans (Off.of_grown G9) (fun k hk hs => by omega)
end Go.Proofs.YtkphpgdgbnmnjacGreatDoor

namespace Go.Proofs.YtkphpgdgbnmnjacGreatDoor
open Go.RowKit

/-- The bytes of a slot. -/
def sl (s : CSt) (i : Nat) : List UInt8 := (s.bytes.drop (i * 17)).take 17
structure Big (s : CSt) : Prop where
  len : s.bytes.length = 4096
  size : 153 ≤ s.size
  top : s.size ≤ 4096
theorem sl_length {s : CSt} (h : Big s) (i : Nat) (hi : i < 9) : (sl s i).length = 17 := by
  unfold sl; rw [List.length_take, List.length_drop, h.len]; omega
theorem sl_slotB {s : CSt} (i : Nat) (hi : i < 9) : slotB (s.bytes.take 153) i = sl s i := by
  unfold slotB sl
  rw [List.drop_take, List.take_take]
  congr 1
  omega

theorem puts_len0 (l : List UInt8) : ∀ (s : CSt) (p : Nat), (s.puts p l).bytes.length = s.bytes.length := by
  induction l with
  | nil => intro s p; rfl
  | cons y r ih => intro s p; simp only [CSt.puts, ih]; simp [CSt.put]
theorem Big.puts {s : CSt} (h : Big s) (p : Nat) (l : List UInt8) : Big (s.puts p l) := ⟨by rw [puts_len0]; exact h.len, by rw [CSt.puts_size]; exact h.size, by rw [CSt.puts_size]; exact h.top⟩
theorem sl_get {s : CSt} (i k : Nat) (hk : k < 17) : (sl s i)[k]? = s.bytes[i * 17 + k]? := by
  unfold sl
  rw [List.getElem?_take, if_pos hk, List.getElem?_drop]
theorem puts_get (s : CSt) (p : Nat) (l : List UInt8) (hf : p + l.length ≤ s.bytes.length) (k : Nat) : (s.puts p l).bytes[k]? = if p ≤ k ∧ k < p + l.length then l[k - p]? else s.bytes[k]? := by
  rw [CSt.puts_bytes l s p hf]
  have hp : (s.bytes.take p).length = p := by rw [List.length_take]; omega
  by_cases h1 : k < p
  · rw [if_neg (by omega), List.append_assoc, List.getElem?_append_left (by omega), List.getElem?_take, if_pos h1]
  · by_cases h2 : k < p + l.length
    · rw [if_pos ⟨by omega, h2⟩, List.getElem?_append_left (by rw [List.length_append, hp]; omega), List.getElem?_append_right (by omega), hp]
    · rw [if_neg (by omega), List.getElem?_append_right (by rw [List.length_append, hp]; omega), List.getElem?_drop]
      congr 1
      rw [List.length_append, hp]
      omega
theorem sl_puts_other {s : CSt} (h : Big s) (q i p : Nat) (l : List UInt8) (hq : q < 9) (hi : i < 9) (hne : i ≠ q) (h1 : q * 17 ≤ p) (h2 : p + l.length ≤ q * 17 + 17) : sl (s.puts p l) i = sl s i := by
  apply List.ext_getElem?
  intro k
  by_cases hk : k < 17
  · rw [sl_get _ _ hk, sl_get _ _ hk, puts_get _ _ _ (by rw [h.len]; omega), if_neg (by omega)]
  · rw [List.getElem?_eq_none (by rw [sl_length (h.puts p l) i hi]; omega), List.getElem?_eq_none (by rw [sl_length h i hi]; omega)]
theorem sl_puts_same {s : CSt} (h : Big s) (q p k : Nat) (l : List UInt8) (hq : q < 9) (_h1 : q * 17 ≤ p) (h2 : p + l.length ≤ q * 17 + 17) (hk : k < 17) : (sl (s.puts p l) q)[k]? = if p ≤ q * 17 + k ∧ q * 17 + k < p + l.length then l[q * 17 + k - p]? else (sl s q)[k]? := by
  rw [sl_get _ _ hk, sl_get _ _ hk, puts_get _ _ _ (by rw [h.len]; omega)]

/-- What one put leaves: all other slots as they were. -/
structure Others (s s' : CSt) (q : Nat) : Prop where
  big : Big s'
  size : s'.size = s.size
  same : ∀ i, i < 9 → i ≠ q → sl s' i = sl s i
theorem Others.refl {s : CSt} (h : Big s) (q : Nat) : Others s s q := ⟨h, rfl, fun _ _ _ => rfl⟩
theorem Others.trans {a b c : CSt} {q : Nat} (h : Others a b q) (k : Others b c q) : Others a c q := ⟨k.big, k.size.trans h.size, fun i hi hn => (k.same i hi hn).trans (h.same i hi hn)⟩
theorem Others.off {s s' : CSt} {q : Nat} (h : Others s s' q) (x : Bool) : Others s { s' with off := x } q := ⟨⟨h.big.len, h.big.size, h.big.top⟩, h.size, h.same⟩
theorem Others.puts {s : CSt} (h : Big s) (q p : Nat) (l : List UInt8) (hq : q < 9) (h1 : q * 17 ≤ p) (h2 : p + l.length ≤ q * 17 + 17) : Others s (s.puts p l) q :=
  ⟨h.puts p l, CSt.puts_size _ _ _, fun i hi hn => sl_puts_other h q i p l hq hi hn h1 h2⟩

/-- A write inside slot q, power being there: done, or cut. -/
theorem write_in {s : CSt} (h : Big s) (ho : s.off = false) (q p : Nat) (l : List UInt8) (hq : q < 9) (_h1 : q * 17 ≤ p) (h2 : p + l.length ≤ q * 17 + 17) :
    (∃ m, m < l.length ∧ s.writeE p l = ({ s.puts p (l.take m) with off := true }, 8)) ∨ s.writeE p l = (s.puts p l, 0) := by
  have hz := h.size
  have he : s.err p l.length = 0 := by
    unfold CSt.err
    rw [if_neg (by omega), ho]; rfl
  unfold CSt.writeE
  rw [if_pos he]
  unfold CSt.write
  by_cases hc : s.cut = true ∧ s.left < l.length
  · rw [if_pos hc]
    exact Or.inl ⟨s.left, hc.2, rfl⟩
  · rw [if_neg hc]
    exact Or.inr rfl

/-- What a put makes of the slots. -/
theorem put_cases {s : CSt} (h : Big s) (ho : s.off = false) (r : Rec) :
    ((s.putRec r).2 = 0 ∧ Others s (s.putRec r).1 ((r.seq - 1) % 9) ∧ (s.putRec r).1.off = false ∧ sl (s.putRec r).1 ((r.seq - 1) % 9) = enc r) ∨
    ((s.putRec r).2 = 8 ∧ Others s (s.putRec r).1 ((r.seq - 1) % 9) ∧ (sl (s.putRec r).1 ((r.seq - 1) % 9) = sl s ((r.seq - 1) % 9) ∨ (sl (s.putRec r).1 ((r.seq - 1) % 9))[16]? = some 0)) := by
  have hq : (r.seq - 1) % 9 < 9 := Nat.mod_lt _ (by decide)
  unfold CSt.putRec
  generalize (r.seq - 1) % 9 = q at *
  simp only []
  -- the last byte
  have hz : (s.zeroAt (q * 17 + 16) = ({ s.puts (q * 17 + 16) [] with off := true }, 8)) ∨ (∃ a, s.zeroAt (q * 17 + 16) = (a, 0) ∧ Others s a q ∧ a.off = false ∧ (sl a q)[16]? = some 0) := by
    have he : s.err ((q * 17 + 16 : Nat) : Int) 1 = 0 := by
      unfold CSt.err
      have := h.size
      rw [if_neg (by omega), ho]; rfl
    unfold CSt.zeroAt
    rw [if_pos he]
    by_cases hb : s.bytes.getD (q * 17 + 16) 0 = 0
    · rw [if_pos hb]
      refine Or.inr ⟨s, rfl, Others.refl h q, ho, ?_⟩
      rw [sl_get _ _ (by decide)]
      rw [List.getD_eq_getElem?_getD, List.getElem?_eq_getElem (by rw [h.len]; omega)] at hb
      rw [List.getElem?_eq_getElem (by rw [h.len]; omega)]
      exact congrArg some hb
    · rw [if_neg hb]
      rcases write_in h ho q (q * 17 + 16) [0] hq (by omega) (by simp) with ⟨m, hm, e⟩ | e
      · have : m = 0 := by simpa using hm
        subst this
        exact Or.inl e
      · refine Or.inr ⟨_, e, Others.puts h q _ _ hq (by omega) (by simp), by rw [CSt.puts_off]; exact ho, ?_⟩
        rw [sl_puts_same h q _ 16 [0] hq (by omega) (by simp) (by decide), if_pos (by simp)]
        simp
  rcases hz with e | ⟨a, e, oa, ao, al⟩
  · rw [e]
    right
    refine ⟨rfl, (Others.puts h q (q * 17 + 16) [] hq (by omega) (by simp)).off true, Or.inl rfl⟩
  · rw [e]
    rw [if_pos rfl]
    have l16 := enc16_length r
    rcases write_in oa.big ao q (q * 17) (enc16 r) hq (Nat.le_refl _) (by omega) with ⟨m, hm, e2⟩ | e2
    · rw [e2]
      right
      have hl : ((enc16 r).take m).length = m := by rw [List.length_take]; omega
      refine ⟨rfl, (oa.trans (Others.puts oa.big q _ _ hq (Nat.le_refl _) (by omega))).off true, Or.inr ?_⟩
      show (sl (a.puts (q * 17) ((enc16 r).take m)) q)[16]? = _
      rw [sl_puts_same oa.big q _ 16 _ hq (Nat.le_refl _) (by omega) (by decide), if_neg (by omega)]
      exact al
    · rw [e2]
      have ob := Others.puts oa.big q (q * 17) (enc16 r) hq (Nat.le_refl _) (by omega)
      have bo : (a.puts (q * 17) (enc16 r)).off = false := by rw [CSt.puts_off]; exact ao
      have bl : ∀ k, k < 17 → (sl (a.puts (q * 17) (enc16 r)) q)[k]? = if k < 16 then (enc16 r)[k]? else some 0 := by
        intro k hk
        rw [sl_puts_same oa.big q _ k _ hq (Nat.le_refl _) (by omega) hk]
        by_cases h16 : k < 16
        · rw [if_pos (by omega), if_pos h16]
          congr 1
          omega
        · have : k = 16 := by omega
          subst this
          rw [if_neg (by omega), if_neg (by omega)]
          exact al
      rw [if_pos rfl]
      rcases write_in ob.big bo q (q * 17 + 16) [165] hq (by omega) (by simp) with ⟨m, hm, e3⟩ | e3
      · have : m = 0 := by simpa using hm
        subst this
        rw [e3]
        right
        refine ⟨rfl, ((oa.trans ob).trans (Others.puts ob.big q (q * 17 + 16) [] hq (by omega) (by simp))).off true, Or.inr ?_⟩
        show (sl (a.puts (q * 17) (enc16 r)) q)[16]? = _
        rw [bl 16 (by decide)]; rfl
      · rw [e3]
        left
        refine ⟨rfl, (oa.trans ob).trans (Others.puts ob.big q (q * 17 + 16) [165] hq (by omega) (by simp)), by rw [CSt.puts_off]; exact bo, ?_⟩
        apply List.ext_getElem?
        intro k
        by_cases hk : k < 17
        · rw [sl_puts_same ob.big q _ k [165] hq (by omega) (by simp) hk, bl k hk]
          unfold enc
          by_cases h16 : k < 16
          · rw [if_neg (by simp; omega), if_pos h16, List.getElem?_append_left (by omega)]
          · have : k = 16 := by omega
            subst this
            rw [if_pos (by simp), List.getElem?_append_right (by omega), l16]
            simp
        · rw [List.getElem?_eq_none (by rw [sl_length (ob.big.puts _ _) q hq]; omega), List.getElem?_eq_none (by rw [enc_length]; omega)]
end Go.Proofs.YtkphpgdgbnmnjacGreatDoor

namespace Go.Proofs.YtkphpgdgbnmnjacGreatDoor
open Go.RowKit

structure Rec.Fits (r : Rec) : Prop where
  lo : 1 ≤ r.seq
  seq : r.seq < 4294967296
  ent : r.ent < 256
  kind : r.kind < 256
  tick : r.tick < 281474976710656

theorem dec0_enc {r : Rec} (h : r.Fits) : dec0 (enc r) = r := by
  have e : enc r = be 4 r.seq ++ (be 1 r.ent ++ (be 1 r.kind ++ (be 6 r.tick ++ (be 4 (crc (enc12 r)) ++ [165])))) := by
    unfold enc enc16 enc12; simp
  have d4 : (enc r).drop 4 = be 1 r.ent ++ (be 1 r.kind ++ (be 6 r.tick ++ (be 4 (crc (enc12 r)) ++ [165]))) := by
    rw [e, List.drop_append, List.drop_eq_nil_of_le (by rw [be_length]; omega), be_length]; rfl
  have d5 : (enc r).drop 5 = be 1 r.kind ++ (be 6 r.tick ++ (be 4 (crc (enc12 r)) ++ [165])) := by
    rw [show 5 = 4 + 1 from rfl, ← List.drop_drop, d4, List.drop_append, List.drop_eq_nil_of_le (by rw [be_length]; omega), be_length]; rfl
  have d6 : (enc r).drop 6 = be 6 r.tick ++ (be 4 (crc (enc12 r)) ++ [165]) := by
    rw [show 6 = 5 + 1 from rfl, ← List.drop_drop, d5, List.drop_append, List.drop_eq_nil_of_le (by rw [be_length]; omega), be_length]; rfl
  have tk : ∀ (n v : Nat) (l : List UInt8), (be n v ++ l).take n = be n v := fun n v l => by
    rw [List.take_append, be_length, Nat.sub_self, List.take_zero, List.append_nil, List.take_of_length_le (by rw [be_length]; exact Nat.le_refl _)]
  unfold dec0
  rw [d4, d5, d6, tk, tk, tk]
  rw [e, tk]
  have h1 := h.seq
  have h2 := h.ent
  have h3 := h.kind
  have h4 := h.tick
  rw [num_be 4 _ (by omega), num_be 1 _ (by omega), num_be 1 _ (by omega), num_be 6 _ (by omega)]
theorem dec_enc {r : Rec} (h : r.Fits) : decB (enc r) = true ∧ decR (enc r) = r := by
  have e := dec0_enc h
  have : dec (enc r) = some r := by
    unfold dec
    rw [e, if_neg (by have := h.lo; simp; omega)]
  exact ⟨by unfold decB; rw [this]; rfl, by unfold decR; rw [this]; rfl⟩
theorem enc_last (r : Rec) : (enc r)[16]? = some 165 := by
  unfold enc
  rw [List.getElem?_append_right (by rw [enc16_length]; omega), enc16_length]; rfl
theorem dec_zero {l : List UInt8} (h : l[16]? = some 0) : decB l = false := by
  cases hd : decB l with
  | false => rfl
  | true =>
    have e := (dec_seq hd).2.2.2
    rw [← e, enc_last] at h
    cases h

/-- The record that a slot holds. -/
def sr (s : CSt) (i : Nat) : Rec := slotR (s.bytes.take 153) i
theorem sr_eq {s : CSt} {i : Nat} (hi : i < 9) : sr s i = if decB (sl s i) = true ∧ ((decR (sl s i)).seq - 1) % 9 = i then decR (sl s i) else .none := by
  unfold sr slotR
  rw [sl_slotB i hi]
theorem sr_same {s s' : CSt} {i : Nat} (hi : i < 9) (h : sl s' i = sl s i) : sr s' i = sr s i := by rw [sr_eq hi, sr_eq hi, h]
theorem sr_enc {s : CSt} {i : Nat} {r : Rec} (hi : i < 9) (h : sl s i = enc r) (hr : r.Fits) (hs : (r.seq - 1) % 9 = i) : sr s i = r := by
  obtain ⟨e1, e2⟩ := dec_enc hr
  rw [sr_eq hi, h, e2, if_pos ⟨e1, hs⟩]
theorem sr_zero {s : CSt} {i : Nat} (hi : i < 9) (h : (sl s i)[16]? = some 0) : sr s i = .none := by
  rw [sr_eq hi, dec_zero h, if_neg (by simp)]
theorem helds_get (s : CSt) (i : Nat) (hi : i < 9) : (helds (s.bytes.take 153) 9).getD i .none = sr s i := by
  rw [List.getD_eq_getElem?_getD, List.getElem?_eq_getElem (by rw [helds_length]; exact hi)]
  simp [helds, hi, sr]
theorem mem_helds {s : CSt} {r : Rec} (h : r ∈ helds (s.bytes.take 153) 9) : ∃ i, i < 9 ∧ r = sr s i := by
  simp only [helds, List.mem_map, List.mem_range] at h
  obtain ⟨i, hi, rfl⟩ := h
  exact ⟨i, hi, by rw [if_pos hi]; rfl⟩
theorem helds_mem (s : CSt) (i : Nat) (hi : i < 9) : sr s i ∈ helds (s.bytes.take 153) 9 := by
  simp only [helds, List.mem_map, List.mem_range]
  exact ⟨i, hi, by rw [if_pos hi]; rfl⟩

theorem maxFrom_ge (L : List Rec) : ∀ m, m ≤ L.foldl (fun m r => max m r.seq) m := by
  induction L with
  | nil => intro m; exact Nat.le_refl _
  | cons r t ih => intro m; exact Nat.le_trans (Nat.le_max_left _ _) (ih _)
theorem maxFrom_le (L : List Rec) (n : Nat) : ∀ m, m ≤ n → (∀ r ∈ L, r.seq ≤ n) → L.foldl (fun m r => max m r.seq) m ≤ n := by
  induction L with
  | nil => intro m h _; exact h
  | cons r t ih => intro m h h2; exact ih _ (Nat.max_le.2 ⟨h, h2 r (by simp)⟩) (fun x hx => h2 x (by simp [hx]))
theorem maxFrom_mem (L : List Rec) : ∀ m r, r ∈ L → r.seq ≤ L.foldl (fun m r => max m r.seq) m := by
  induction L with
  | nil => intro m r h; cases h
  | cons x t ih =>
    intro m r h
    rcases List.mem_cons.1 h with rfl | h
    · exact Nat.le_trans (Nat.le_max_right m r.seq) (maxFrom_ge t _)
    · exact ih _ r h
theorem maxSeq_eq {L : List Rec} {n : Nat} (h1 : ∀ r ∈ L, r.seq ≤ n) (h2 : n = 0 ∨ ∃ r ∈ L, r.seq = n) : maxSeq L = n := by
  have a := maxFrom_le L n 0 (Nat.zero_le _) h1
  have b : n ≤ maxSeq L := by
    rcases h2 with rfl | ⟨r, hr, rfl⟩
    · exact Nat.zero_le _
    · exact maxFrom_mem L 0 r hr
  exact Nat.le_antisymm a b

/-- The slots are as the records that were appended say. -/
structure Inv (s : CSt) (done : List Rec) : Prop where
  big : Big s
  seq : ∀ i (h : i < done.length), done[i].seq = i + 1
  i1 : ∀ j (h : j < done.length), done.length ≤ j + 8 → sr s (j % 9) = done[j]
  i2 : sr s (done.length % 9) = .none ∨ (9 ≤ done.length ∧ sr s (done.length % 9) = done.getD (done.length - 9) .none)
  i3 : ∀ i, done.length < i → i < 9 → sr s i = .none

theorem Inv.le {s : CSt} {done : List Rec} (h : Inv s done) (i : Nat) (hi : i < 9) : (sr s i).seq ≤ done.length := by
  by_cases h0 : done.length < i
  · rw [h.i3 i h0 hi]; exact Nat.zero_le _
  · by_cases e : i = done.length % 9
    · rw [e]
      rcases h.i2 with e2 | ⟨h9, e2⟩
      · rw [e2]; exact Nat.zero_le _
      · rw [e2, List.getD_eq_getElem?_getD, List.getElem?_eq_getElem (by omega)]
        show (done[done.length - 9]).seq ≤ _
        rw [h.seq]; omega
    · obtain ⟨j, hj, hj2, hj3⟩ : ∃ j, j < done.length ∧ done.length ≤ j + 8 ∧ j % 9 = i := by
        refine ⟨done.length - 1 - (done.length + 8 - i) % 9, ?_, ?_, ?_⟩ <;> omega
      have := h.i1 j hj hj2
      rw [hj3] at this
      rw [this, h.seq]
      omega

theorem Inv.chain {s : CSt} {done : List Rec} (h : Inv s done) : ∀ (m n : Nat), n ≤ done.length → done.length + m ≤ n + 8 → chain (helds (s.bytes.take 153) 9) m n = ((done.take n).drop (n - m)).reverse := by
  intro m
  induction m with
  | zero =>
    intro n hn hm
    rw [Nat.sub_zero, List.drop_eq_nil_of_le (by rw [List.length_take]; omega)]
    rfl
  | succ m ih =>
    intro n hn hm
    cases n with
    | zero => rw [chain_stop _ _ _ (fun h => absurd h.1 (by omega))]; simp
    | succ n =>
      have hlt : n < done.length := by omega
      have hg : (helds (s.bytes.take 153) 9).getD (n % 9) .none = done[n] := by
        rw [helds_get s _ (Nat.mod_lt _ (by decide)), h.i1 n hlt (by omega)]
      have hst := chain_step (helds (s.bytes.take 153) 9) m (n + 1) (by omega) (by rw [Nat.add_sub_cancel, hg, h.seq n hlt])
      rw [Nat.add_sub_cancel, hg] at hst
      rw [hst, ih n (by omega) (by omega), List.take_succ_eq_append_getElem hlt, List.drop_append, List.reverse_append]
      have e1 : n + 1 - (m + 1) = n - m := by omega
      have e2 : n - m - (done.take n).length = 0 := by rw [List.length_take]; omega
      rw [e1, e2, List.drop_zero]
      rfl

theorem Inv.opens {s : CSt} {done : List Rec} (h : Inv s done) : openL s.bytes = done.drop (done.length - 8) := by
  have hm : maxSeq (helds (s.bytes.take 153) 9) = done.length := by
    apply maxSeq_eq
    · intro r hr
      obtain ⟨i, hi, rfl⟩ := mem_helds hr
      exact h.le i hi
    · cases hd : done.length with
      | zero => exact Or.inl rfl
      | succ n =>
        right
        refine ⟨_, helds_mem s (n % 9) (Nat.mod_lt _ (by decide)), ?_⟩
        rw [h.i1 n (by omega) (by omega), h.seq n (by omega)]
  unfold openL newestL
  rw [hm, h.chain 8 done.length (Nat.le_refl _) (by omega), List.reverse_reverse, List.take_length]

theorem mod9_ne {a b : Nat} (h : a < b) (h2 : b < a + 9) : a % 9 ≠ b % 9 := by omega

theorem Inv.step {s s' : CSt} {done : List Rec} {x : Rec} (h : Inv s done) (ho : Others s s' (done.length % 9)) (hx : x.Fits) (hs : x.seq = done.length + 1) (hq : sl s' (done.length % 9) = enc x) : Inv s' (done ++ [x]) := by
  have hl : (done ++ [x]).length = done.length + 1 := by simp
  have hq9 : done.length % 9 < 9 := Nat.mod_lt _ (by decide)
  refine ⟨ho.big, ?_, ?_, ?_, ?_⟩
  · intro i hi
    rw [List.getElem_append]
    split
    · exact h.seq i (by assumption)
    · rw [hl] at hi
      have : i = done.length := by omega
      subst this
      simpa using hs
  · intro j hj hj8
    rw [hl] at hj hj8
    by_cases e : j = done.length
    · subst e
      have := sr_enc (i := done.length % 9) hq9 hq hx (by rw [hs]; simp)
      rw [this]
      simp
    · rw [List.getElem_append_left (by omega), sr_same (Nat.mod_lt _ (by decide)) (ho.same _ (Nat.mod_lt _ (by decide)) (mod9_ne (by omega) (by omega)))]
      exact h.i1 j (by omega) (by omega)
  · rw [hl]
    by_cases h9 : 9 ≤ done.length + 1
    · refine Or.inr ⟨by omega, ?_⟩
      have e : (done.length + 1) % 9 = (done.length - 8) % 9 := by omega
      have := h.i1 (done.length - 8) (by omega) (by omega)
      rw [e, sr_same (Nat.mod_lt _ (by decide)) (ho.same _ (Nat.mod_lt _ (by decide)) (mod9_ne (by omega) (by omega))), this, List.getD_eq_getElem?_getD, List.getElem?_append_left (by omega), show done.length + 1 - 9 = done.length - 8 by omega, List.getElem?_eq_getElem (by omega)]
      rfl
    · left
      have e : (done.length + 1) % 9 = done.length + 1 := by omega
      by_cases e9 : done.length + 1 = 9
      · omega
      · rw [e, sr_same (by omega) (ho.same _ (by omega) (by omega))]
        exact h.i3 _ (by omega) (by omega)
  · intro i hi hi9
    rw [hl] at hi
    rw [sr_same hi9 (ho.same i hi9 (by omega))]
    exact h.i3 i (by omega) hi9

theorem Inv.cut {s s' : CSt} {done : List Rec} (h : Inv s done) (ho : Others s s' (done.length % 9)) (hq : sl s' (done.length % 9) = sl s (done.length % 9) ∨ (sl s' (done.length % 9))[16]? = some 0) : Inv s' done := by
  have hq9 : done.length % 9 < 9 := Nat.mod_lt _ (by decide)
  refine ⟨ho.big, h.seq, ?_, ?_, ?_⟩
  · intro j hj hj8
    rw [sr_same (Nat.mod_lt _ (by decide)) (ho.same _ (Nat.mod_lt _ (by decide)) (mod9_ne (by omega) (by omega)))]
    exact h.i1 j hj hj8
  · rcases hq with e | e
    · rw [sr_same hq9 e]; exact h.i2
    · exact Or.inl (sr_zero hq9 e)
  · intro i hi hi9
    rw [sr_same hi9 (ho.same i hi9 (by omega))]
    exact h.i3 i hi hi9

theorem sl_new (n i : Nat) (hi : i < 9) : (sl (CSt.new n) i)[16]? = some 0 := by
  rw [sl_get _ _ (by decide)]
  show (zeros 4096)[_]? = _
  unfold zeros
  rw [List.getElem?_replicate, if_pos (by omega)]
theorem Inv.new (n : Nat) (h1 : 153 ≤ n) (h2 : n ≤ 4096) : Inv (CSt.new n) [] :=
  ⟨⟨zeros_length _, h1, h2⟩, fun i h => by simp at h, fun j h => by simp at h, Or.inl (sr_zero (by decide) (sl_new n _ (by decide))), fun i _ hi => sr_zero hi (sl_new n i hi)⟩
end Go.Proofs.YtkphpgdgbnmnjacGreatDoor

namespace Go.Proofs.YtkphpgdgbnmnjacGreatDoor
open Go.RowKit

theorem keepL_len {L : List Rec} (x : Rec) (h : L.length ≤ 8) : (keepL L x).length ≤ 8 := by
  unfold keepL
  split
  · rw [List.length_append, List.length_tail, List.length_singleton]; omega
  · rw [List.length_append, List.length_singleton]; omega
theorem keepL_last (L : List Rec) (x : Rec) : lastR (keepL L x) = x := by
  unfold keepL lastR
  simp
theorem putRec_big {s : CSt} (h : Big s) (ho : s.off = false) (r : Rec) : Big (s.putRec r).1 ∧ ((s.putRec r).2 = 0 → (s.putRec r).1.off = false) := by
  rcases put_cases h ho r with ⟨-, e, e2, -⟩ | ⟨e8, e, -⟩
  · exact ⟨e.big, fun _ => e2⟩
  · exact ⟨e.big, fun e0 => by rw [e8] at e0; cases e0⟩
theorem CSt.Low.mono {s : CSt} {n m : Nat} (h : s.Low n) (hm : m ≤ n) : s.Low m := ⟨by have := h.1; omega, h.2⟩
/-- What was opened: its last one's number. -/
theorem chain_lt (L : List Rec) (h : ∀ r ∈ L, r.seq < 4294967296) : ∀ m n, ∀ r ∈ chain L m n, r.seq < 4294967296 := by
  intro m
  induction m with
  | zero => intro n r hr; cases hr
  | succ m ih =>
    intro n r hr
    by_cases hc : 0 < n ∧ (L.getD ((n - 1) % 9) .none).seq = n
    · rw [chain_step L m n hc.1 hc.2] at hr
      rcases List.mem_cons.1 hr with rfl | hr
      · rw [List.getD_eq_getElem?_getD]
        cases hg : L[(n - 1) % 9]? with
        | none => exact (by decide : (0 : Nat) < 4294967296)
        | some x => exact h x (List.mem_of_getElem? hg)
      · exact ih _ r hr
    · rw [chain_stop L (m + 1) n hc] at hr; cases hr
theorem openL_last (l : List UInt8) : (lastR (openL l)).seq ≤ 4294967295 := by
  unfold lastR openL newestL
  cases hg : (chain (helds (l.take 153) 9) 8 (maxSeq (helds (l.take 153) 9))).reverse.getLast? with
  | none => exact (by decide : (0 : Nat) ≤ 4294967295)
  | some x =>
    have hm := List.mem_of_getLast? hg
    rw [List.mem_reverse] at hm
    have := chain_lt _ (helds_lt _) _ _ x hm
    show x.seq ≤ _
    omega
theorem openL_eight (l : List UInt8) : (openL l).length ≤ 8 := by unfold openL newestL; rw [List.length_reverse]; exact chain_len _ 8 _
theorem openL_take (l : List UInt8) (n : Nat) (h : 153 ≤ n) : openL (l.take n) = openL l := by unfold openL; rw [List.take_take, Nat.min_eq_left h]

theorem writeE_off {s : CSt} {p : Nat} {l : List UInt8} (h : (s.writeE p l).2 = 8) : (s.writeE p l).1.off = true := by
  unfold CSt.writeE at h ⊢
  split at h
  · rename_i h0
    rw [if_pos h0]
    unfold CSt.write at h ⊢
    split at h
    · rename_i h1; rw [if_pos h1]
    · cases h
  · rename_i h0
    rw [if_neg h0]
    have h' : s.err p l.length = 8 := h
    unfold CSt.err at h'
    split at h'
    · cases h'
    · split at h'
      · assumption
      · cases h'
theorem zeroAt_off {s : CSt} {p : Nat} (h : (s.zeroAt p).2 = 8) : (s.zeroAt p).1.off = true := by
  unfold CSt.zeroAt at h ⊢
  split at h
  · rename_i h0
    rw [if_pos h0]
    split at h
    · cases h
    · rename_i h1; rw [if_neg h1]; exact writeE_off h
  · rename_i h0
    rw [if_neg h0]
    have h' : s.err p 1 = 8 := h
    unfold CSt.err at h'
    split at h'
    · cases h'
    · split at h'
      · assumption
      · cases h'
/-- A record that is not put: there is no power. -/
theorem putRec_off {s : CSt} {r : Rec} (h : (s.putRec r).2 = 8) : (s.putRec r).1.off = true := by
  unfold CSt.putRec at h ⊢
  simp only [] at h ⊢
  split at h
  · rename_i h0
    rw [if_pos h0]
    split at h
    · rename_i h1; rw [if_pos h1]; exact writeE_off h
    · rename_i h1; rw [if_neg h1]; exact writeE_off h
  · rename_i h0
    rw [if_neg h0]; exact zeroAt_off h
theorem putRec_code {s : CSt} (h : Big s) (ho : s.off = false) (r : Rec) : (s.putRec r).2 = 0 ∨ (s.putRec r).2 = 8 := by
  rcases put_cases h ho r with ⟨e, -⟩ | ⟨e, -⟩
  · exact Or.inl e
  · exact Or.inr e
theorem writeE_writtenM (s : CSt) (p : Nat) (l : List UInt8) : (s.writeE p l).1.written ≤ s.written + l.length := by
  unfold CSt.writeE
  split
  · unfold CSt.write
    split
    · show (s.puts p (l.take s.left)).written ≤ _
      rw [CSt.puts_written, List.length_take]; omega
    · show (s.puts p l).written ≤ _
      rw [CSt.puts_written]; omega
  · show s.written ≤ _; omega
theorem zeroAt_writtenM (s : CSt) (p : Nat) : (s.zeroAt p).1.written ≤ s.written + 1 := by
  unfold CSt.zeroAt
  split
  · split
    · show s.written ≤ _; omega
    · exact writeE_writtenM s p [0]
  · show s.written ≤ _; omega
theorem putRec_written (s : CSt) (r : Rec) : (s.putRec r).1.written ≤ s.written + 18 := by
  have h1 := zeroAt_writtenM s ((r.seq - 1) % 9 * 17 + 16)
  have h2 := writeE_writtenM (s.zeroAt ((r.seq - 1) % 9 * 17 + 16)).1 ((r.seq - 1) % 9 * 17) (enc16 r)
  have h3 := writeE_writtenM ((s.zeroAt ((r.seq - 1) % 9 * 17 + 16)).1.writeE ((r.seq - 1) % 9 * 17) (enc16 r)).1 ((r.seq - 1) % 9 * 17 + 16) [165]
  rw [enc16_length] at h2
  have h4 : ([165] : List UInt8).length = 1 := rfl
  rw [h4] at h3
  unfold CSt.putRec
  simp only []
  split
  · split
    · omega
    · omega
  · omega
theorem putRec_left {s : CSt} (r : Rec) (h : s.left ≤ 9223372036854775807) : (s.putRec r).1.left ≤ 9223372036854775807 := by
  have hz : ∀ (a : CSt) (p : Nat) (l : List UInt8), a.left ≤ 9223372036854775807 → (a.writeE p l).1.left ≤ 9223372036854775807 := fun a p l ha => by
    unfold CSt.writeE
    split
    · unfold CSt.write
      split
      · show (a.puts p (l.take a.left)).left ≤ _
        rw [CSt.puts_left]
        split <;> omega
      · rw [CSt.puts_left]
        split <;> omega
    · exact ha
  have h1 : (s.zeroAt ((r.seq - 1) % 9 * 17 + 16)).1.left ≤ 9223372036854775807 := by
    unfold CSt.zeroAt
    split
    · split
      · exact h
      · exact hz s _ _ h
    · exact h
  unfold CSt.putRec
  simp only []
  split
  · split
    · exact hz _ _ _ (hz _ _ _ h1)
    · exact hz _ _ _ h1
  · exact h1
end Go.Proofs.YtkphpgdgbnmnjacGreatDoor
