/-
  (*ring.Ring).Append where it is not refused, by contracts. Conditions: the ring and its cells lie in memory.
-/
import Derived.Test.YtebdepbnhemnpaaDoorRingApp
namespace Go.Proofs.YtebdepbnhemnpaaDoor
open Go.RowKit Go.Extern.Stop Go.Stop Go.Extern

theorem RingAt.off {w w' : World} {B rb bc : Nat} {v : Value} {L : List Rec} {sp : Bool} {S : Nat → Prop} (h : RingAt w B rb bc v L sp) (ho : Off S w w') (h1 : ¬ S rb) (h2 : ∀ g, v.ownBlock = some g → ¬ S g) : RingAt w' B rb bc v L sp := by
  refine ⟨(ho.block rb h.lt h1).trans h.heap, ?_, h.sep, h.lo⟩
  rcases h.recs.row_form with ⟨rfl, rfl⟩ | ⟨g, cap, rfl, hbg, hrow, hlc, hm⟩
  · exact World.ownsRow_nil _ _ _ _
  · obtain ⟨cur, hg, k2, k3⟩ := hrow.row
    exact Recs.of_row ⟨⟨cur, (ho.block g hrow.lt (h2 g rfl)).trans hg, k2, k3⟩⟩ hbg hlc hm
theorem RingAt.spent {w : World} {B rb bc : Nat} {v : Value} {L : List Rec} {sp : Bool} (h : RingAt w B rb bc v L sp) : RingAt (w.setCell ⟨rb, 2, .none⟩ (.bool true)) B rb bc v L true := by
  have hgs : w.grownBy (w.setCell ⟨rb, 2, .none⟩ (.bool true)) (some rb) := grown_set (grown_refl _ _) _ _
  refine ⟨by simp [World.setCell, Array.getElem?_modify, h.heap], ?_, h.sep, h.lo⟩
  rcases h.recs.row_form with ⟨rfl, rfl⟩ | ⟨g, cap, rfl, hbg, hrow, hlc, hm⟩
  · exact World.ownsRow_nil _ _ _ _
  · exact Recs.of_row (hrow.grown hgs (fun e => h.sep.1 (by rw [← e]; rfl))) hbg hlc hm
theorem RecRow.off {w w' : World} {b : Nat} {r : Rec} {S : Nat → Prop} (h : RecRow w b r) (ho : Off S w w') (h1 : ¬ S b) : RecRow w' b r := ⟨(ho.block b h.lt h1).trans h.heap⟩
theorem CellsAt.off {w w' : World} {b : Nat} {s : CSt} {S : Nat → Prop} (h : CellsAt w b s) (ho : Off S w w') (h1 : ¬ S b) : CellsAt w' b s := ⟨(ho.block b h.lt h1).trans h.heap, h.len, h.size⟩

/-- The record that Append makes. -/
def nextR (L : List Rec) (e k t : Nat) : Rec := ⟨(lastR L).seq + 1, e, k, t⟩

set_option maxRecDepth 100000 in
set_option maxHeartbeats 4000000 in
theorem append_go (A : Nat → Addr) (B rb bc : Nat) (v : Value) (L : List Rec) (s : CSt) (n1 n2 n3 : Nat) (w : World) (h : RingAt w B rb bc v L false) (hc : CellsAt w bc s) (hs : Sen4 A w) (hgm : 8 ≤ bc) (hrb : rb ≠ bc) (hlow : s.Low 18) (hl : L.length ≤ 8) (hf1 : n1 ≤ 255) (hf2 : n2 ≤ 255) (hf3 : n3 ≤ 281474976710655) (hq : (lastR L).seq < 4294967295) :
    Calls Tryd.prog 38 #[.pointer (some ⟨rb, 0, .none⟩), .int .i64 (n1 : Int), .int .i64 (n2 : Int), .int .i64 (n3 : Int)] w fun e w' =>
      (∃ j, (s.putRec (nextR L n1 n2 n3)).2 = j + 1 ∧ e = .returned (.tuple #[Rec.none.val, errVal A (j + 1)]) ∧ RingAt w' B rb bc v L true ∧ CellsAt w' bc (s.putRec (nextR L n1 n2 n3)).1 ∧ Off (fun k => k = bc ∨ k = rb ∨ v.ownBlock = some k) w w') ∨
      ((s.putRec (nextR L n1 n2 n3)).2 = 0 ∧ e = .returned (.tuple #[(nextR L n1 n2 n3).val, .nilIface]) ∧ (∃ v', RingAt w' B rb bc v' (keepL L (nextR L n1 n2 n3)) false ∧ ∀ k, v'.ownBlock = some k → v.ownBlock = some k ∨ w.heap.size ≤ k) ∧ CellsAt w' bc (s.putRec (nextR L n1 n2 n3)).1 ∧ Off (fun k => k = bc ∨ k = rb ∨ v.ownBlock = some k) w w') := by
  have q1 : fitsB (n1 : Int) 255 = true := decide_eq_true (by omega)
  have q2 : fitsB (n2 : Int) 255 = true := decide_eq_true (by omega)
  have q3 : fitsB (n3 : Int) 281474976710655 = true := decide_eq_true (by omega)
  obtain ⟨W, hW, Z1, B1, s1⟩ := app_zero w
  have hlt := h.lt
  have hclt := hc.lt
  have HRL : Hid _ := h.recs.lt
  have R1 := h.below B1
  have S1 := hs.below B1
  have C1 := hc.below B1
  have HW : Hid _ := hW
  clear hW
  have c2 := R1.c2
  have HPUT : Hid _ := fun w' ha hs' => put_any A bc s (nextR L n1 n2 n3) w' ha hs' hgm hlow (by simp [nextR]) (by simp [nextR]; omega)
  have HPX := HPUT.out
  have HNX : Hid ((nextR L n1 n2 n3).val = .agg #[.int .i64 (((lastR L).seq : Int) + 1), .int .i64 (n1 : Int), .int .i64 (n2 : Int), .int .i64 (n3 : Int)]) := by
    show _ = _
    simp [nextR, Rec.val]
  rw [HNX.out] at HPX
  have HPY : Hid _ := HPX
  clear HPX HPUT
  generalize hxg : nextR L n1 n2 n3 = x at *
  have hx0 : (x.seq : Int) = ((lastR L).seq : Int) + 1 := by rw [← hxg]; simp [nextR]
  have hx1 : x.ent = n1 := by rw [← hxg]; rfl
  have hx2 : x.kind = n2 := by rw [← hxg]; rfl
  have hx3 : x.tick = n3 := by rw [← hxg]; rfl
  clear hxg
  subst hx1 hx2 hx3
  have HX0 : Hid _ := hx0
  clear hx0
  go_enter Tryd.func38, Tryd.ntmps38
  go_upto_region 1 with fail
  rw [HW.out]
  go_wp2_with fail
  refine (fits_any _ 255 W).mono ?_
  rintro e w1 ⟨rfl, rfl⟩
  rw [q1]
  go_wp2_with fail
  refine (fits_any _ 255 w1).mono ?_
  rintro e w2 ⟨rfl, rfl⟩
  rw [q2]
  go_wp2_with fail
  refine (fits_any _ 281474976710655 w2).mono ?_
  rintro e w3 ⟨rfl, rfl⟩
  rw [q3]
  go_wp2_with fail
  refine (last_any B rb bc v L false w3 R1 (by omega)).mono ?_
  rintro e w4 ⟨rfl, hb4⟩
  have hq' : (((lastR L).seq : Int) == 4294967295) = false := by rw [beq_eq_false_iff_ne]; omega
  have HQ : Hid _ := hq
  have hqw : IntKind.i64.wrap (((lastR L).seq : Int) + 1) = ((lastR L).seq : Int) + 1 := by rw [IntKind.wrap_i64]; omega
  clear hq hlow
  unfold Rec.val
  have B4 := B1.trans (hb4.mono (by omega))
  have Z4 := Z1.below hb4 Z1.lt
  have S4 := S1.below hb4
  have C4 := C1.below hb4
  have R4 := R1.below hb4
  have s4 := hb4.size
  clear c2 hb4 B1 Z1 S1 C1 R1
  generalize lastR L = y at *
  go_upto_region 6 with fail
  obtain ⟨W5, hW5⟩ : ∃ W5, w4.alloc (.cells #[.int .i64 (y.seq : Int), .int .i64 (y.ent : Int), .int .i64 (y.kind : Int), .int .i64 (y.tick : Int)] 64) = W5 := ⟨_, rfl⟩
  have B5 : Below w4.heap.size w4 W5 := by rw [← hW5]; exact (Below.refl _ _).alloc (Nat.le_refl _) _
  have c5 : W5.cell? ⟨w4.heap.size, 0, .none⟩ = some (.int .i64 (y.seq : Int)) := by rw [← hW5]; exact World.cell?_alloc_at _ _ _ _ rfl
  rw [hW5]
  clear hW5
  have s5 := B5.size
  go_upto_region 9 with fail
  obtain ⟨W6, hW6⟩ : ∃ W6, W5.alloc (.cells #[.int .i64 ((y.seq : Int) + 1), .int .i64 (x.ent : Int), .int .i64 (x.kind : Int), .int .i64 (x.tick : Int)] 64) = W6 := ⟨_, rfl⟩
  have B6 : Below W5.heap.size W5 W6 := by rw [← hW6]; exact (Below.refl _ _).alloc (Nat.le_refl _) _
  have X6 : RecRow W6 W5.heap.size x := by
    refine ⟨?_⟩
    rw [← hW6, HX0.out]
    exact heap_alloc_new _ _
  rw [hW6]
  have s6 : W6.heap.size = W5.heap.size + 1 := by rw [← hW6]; simp
  clear hW6
  have B46 := B5.trans (B6.mono s5)
  have b6' := B4.trans (B46.mono (by omega))
  have R6 := R4.below B46
  have C6 := C4.below B46
  have S6 := S4.below B46
  have Z6 := Z4.below B46 Z4.lt
  have z4 := Z4.lt
  clear R4 C4 S4 Z4 c5
  obtain ⟨e0, e1, e2, e3⟩ := X6.at
  rw [HX0.out] at e0
  have r0 := R6.c0
  have C6d : CellsAt W6.drew bc s := ⟨C6.heap, C6.len, C6.size⟩
  have S6d : Sen4 A W6.drew := ⟨S6.c1, S6.c2, S6.c6, S6.c7⟩
  have nb1 : W5.heap.size ≠ bc := by omega
  go_region_held3 (fun w' => w'.cell? ⟨rb, 0, .none⟩ = some (.pointer (some ⟨bc, 0, .none⟩)) ∧ w'.cell? ⟨W5.heap.size, 0, .none⟩ = some (.int .i64 ((y.seq : Int) + 1)) ∧ w'.cell? ⟨W5.heap.size, 1, .none⟩ = some (.int .i64 (x.ent : Int)) ∧ w'.cell? ⟨W5.heap.size, 2, .none⟩ = some (.int .i64 (x.kind : Int)) ∧ w'.cell? ⟨W5.heap.size, 3, .none⟩ = some (.int .i64 (x.tick : Int))) (first | exact ⟨r0, e0, e1, e2, e3⟩ | exact ⟨k0, k1, k2, k3, k4⟩) (first | (go_at_call 63; refine Calls.mono (HPY.out _ C6d S6d) ?_; rintro e w7 ⟨rfl, C7, G7⟩; have k0 := grown_cell' G7 (show W6.drew.cell? _ = _ from r0) hrb; have k1 := grown_cell' G7 (show W6.drew.cell? _ = _ from e0) nb1; have k2 := grown_cell' G7 (show W6.drew.cell? _ = _ from e1) nb1; have k3 := grown_cell' G7 (show W6.drew.cell? _ = _ from e2) nb1; have k4 := grown_cell' G7 (show W6.drew.cell? _ = _ from e3) nb1))
  have O7 : Off (fun k => k = bc) W6 w7 := (Off.of_below ((Below.refl _ _).drew) _).trans (Off.of_grown G7) (fun _ _ hs => hs)
  have R7 := R6.off O7 hrb (fun g e1 e2 => R6.sep.2 (by rw [e1, e2]))
  have Z7 := Z6.off O7 (by omega)
  have X7 := X6.off O7 nb1
  have O7w := (Off.of_below b6' (fun k => k = bc ∨ k = rb ∨ v.ownBlock = some k)).trans O7 (fun _ _ hs => Or.inl hs)
  have nrb : ¬ w.heap.size = rb := by omega
  have nrb' : ¬ rb = w.heap.size := by omega
  have s7 := O7.size
  clear k0 k1 k2 k3 k4 e0 e1 e2 e3 r0 R6 Z6 X6 C6 C6d S6d G7 HPY
  generalize hpe : s.putRec x = p at *
  have HPE : Hid _ := hpe
  clear hpe
  cases hp : p.2 with
  | succ j =>
    have c2 := R7.c2
    have f2 := R7.frozen 2
    have G8 : w7.grownBy (w7.setCell ⟨rb, 2, .none⟩ (.bool true)) (some rb) := grown_set (grown_refl _ _) _ _
    have R8 := R7.spent
    have Z8 := Z7.off (Off.of_grown G8) nrb
    have C8 := C7.off (Off.of_grown G8) (fun e => hrb e.symm)
    have z0 := Z8.at.c0
    have z1 := Z8.at.c1
    have z2 := Z8.at.c2
    have z3 := Z8.at.c3
    have g0 := Z8.frozen 0
    have g1 := Z8.frozen 1
    have g2 := Z8.frozen 2
    have g3 := Z8.frozen 3
    unfold errVal
    go_upto_region 12 with fail
    obtain ⟨W8, hW8⟩ : ∃ W8, w7.setCell ⟨rb, 2, .none⟩ (.bool true) = W8 := ⟨_, rfl⟩
    rw [hW8] at R8 Z8 C8 z0 z1 z2 z3 g0 g1 g2 g3 G8
    rw [hW8]
    clear hW8 c2 f2
    go_wp2_with fail
    have G9 := grown_set4 W8 w.heap.size (.int .i64 0) (.int .i64 0) (.int .i64 0) (.int .i64 0)
    refine bodyPost_ret (res_rec rfl _ _ w.heap.size .none rfl (Z8.set4 .none).at) rfl ?_
    rw [HPE.out]
    refine Or.inl ⟨j, hp, rfl, R8.off (Off.of_grown G9) nrb' (fun g e1 e2 => by have := (HRL.out g e1).2; omega), C8.off (Off.of_grown G9) (by omega), ?_⟩
    exact (O7w.trans (Off.of_grown G8) (fun k _ hs => Or.inr (Or.inl hs))).trans (Off.of_grown G9) (fun k hk hs => by omega)
  | zero =>
    have KP := keep_any B rb bc v L false x w7 R7 (by omega) hl
    rw [HNX.out] at KP
    have HKP : Hid _ := KP
    clear KP
    have e0 := X7.at.c0
    rw [HX0.out] at e0
    have e1 := X7.at.c1
    have e2 := X7.at.c2
    have e3 := X7.at.c3
    unfold errVal
    go_wp2_with fail
    refine Calls.mono HKP.out ?_
    rintro e w8 ⟨rfl, v', R8, O8, K8⟩
    have nz : ¬ (w.heap.size = rb ∨ v.ownBlock = some w.heap.size) := by
      rintro (e | e)
      · exact nrb e
      · have := (HRL.out _ e).2; omega
    have nx : ¬ (W5.heap.size = rb ∨ v.ownBlock = some W5.heap.size) := by
      rintro (e | e)
      · omega
      · have := (HRL.out _ e).2; omega
    have nc : ¬ (bc = rb ∨ v.ownBlock = some bc) := by
      rintro (e | e)
      · exact hrb e.symm
      · exact R7.sep.2 e
    have Z8 := Z7.off O8 nz
    have X8 := X7.off O8 nx
    have C8 := C7.off O8 nc
    clear e0 e1 e2 e3 HKP
    have e0 := X8.at.c0
    rw [HX0.out] at e0
    have e1 := X8.at.c1
    have e2 := X8.at.c2
    have e3 := X8.at.c3
    have z0 := Z8.at.c0
    have z1 := Z8.at.c1
    have z2 := Z8.at.c2
    have z3 := Z8.at.c3
    have g0 := Z8.frozen 0
    have g1 := Z8.frozen 1
    have g2 := Z8.frozen 2
    have g3 := Z8.frozen 3
    go_wp2_with fail
    have Z9 := Z8.set4 x
    rw [HX0.out] at Z9
    have G9 := grown_set4 w8 w.heap.size (.int .i64 ((y.seq : Int) + 1)) (.int .i64 (x.ent : Int)) (.int .i64 (x.kind : Int)) (.int .i64 (x.tick : Int))
    refine bodyPost_ret (res_rec rfl _ _ w.heap.size x rfl Z9.at) rfl ?_
    have nv : ∀ g, v'.ownBlock = some g → ¬ g = w.heap.size := fun g e e2 => by
      rcases K8 g e with e3 | e3
      · have := (HRL.out g e3).2; omega
      · omega
    rw [HPE.out]
    refine Or.inr ⟨hp, HNX.out ▸ rfl, ⟨v', R8.off (Off.of_grown G9) nrb' nv, fun k e => (K8 k e).imp id (fun h => by omega)⟩, C8.off (Off.of_grown G9) (by omega), ?_⟩
    exact (O7w.trans O8 (fun k _ hs => Or.inr hs)).trans (Off.of_grown G9) (fun k hk hs => by omega)
end Go.Proofs.YtebdepbnhemnpaaDoor
