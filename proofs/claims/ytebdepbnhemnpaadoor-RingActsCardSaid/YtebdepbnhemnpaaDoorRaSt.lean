/-
  RingActs' state from act to act: the ring and the document's, side by side; an append on both. Conditions: as named.
-/
import Derived.Test.YtebdepbnhemnpaaDoorRefAppGo
import Derived.Test.YtebdepbnhemnpaaDoorRcStep
import Derived.Test.YtebdepbnhemnpaaDoorRefRecs
namespace Go.Proofs.YtebdepbnhemnpaaDoor
open Go.RowKit Go.Extern.Stop Go.Stop Go.Extern

structure RaSep (rb bc rm bm : Nat) (v vm : Value) : Prop where
  rbc : rb ≠ bc
  rbm : rb ≠ bm
  rrm : rb ≠ rm
  cbm : bc ≠ bm
  crm : bc ≠ rm
  v1 : v.ownBlock ≠ some bm
  v2 : v.ownBlock ≠ some rm
  m1 : vm.ownBlock ≠ some rb
  m2 : vm.ownBlock ≠ some bc
  vv : ∀ k, v.ownBlock = some k → vm.ownBlock ≠ some k

structure RaSt (w wr : World) (bc rb bm rm : Nat) (v vm : Value) (L L' : List Rec) (s s' : CSt) (m : MSt) (sp sp' : Bool) (k : Nat) : Prop where
  ring : RingAt wr w.heap.size rb bc v L sp
  mring : MRingAt wr w.heap.size rm bm vm L' sp'
  cells : CellsAt wr bc s
  mod : ModAt wr bm m
  sim : Sim s' m
  big : Big s
  off : sp = false → s.off = false
  low : s.Low (18 * (61 - k))
  llen : L.length ≤ 8
  last : (lastR L).seq ≤ 4294967295
  sep : RaSep rb bc rm bm v vm
  lc : w.heap.size ≤ bc
  lm : w.heap.size ≤ bm
  bel : Below w.heap.size w wr
theorem RaSt.below {w wr wr' : World} {bc rb bm rm : Nat} {v vm : Value} {L L' : List Rec} {s s' : CSt} {m : MSt} {sp sp' : Bool} {k : Nat} (h : RaSt w wr bc rb bm rm v vm L L' s s' m sp sp' k) (hb : Below wr.heap.size wr wr') : RaSt w wr' bc rb bm rm v vm L L' s s' m sp sp' k :=
  ⟨h.ring.below hb, h.mring.below hb, h.cells.below hb, h.mod.below hb, h.sim, h.big, h.off, h.low, h.llen, h.last, h.sep, h.lc, h.lm, h.bel.trans (hb.mono h.bel.size)⟩

theorem keepL_len {L : List Rec} (x : Rec) (h : L.length ≤ 8) : (keepL L x).length ≤ 8 := by
  unfold keepL
  split
  · rw [List.length_append, List.length_tail, List.length_singleton]; omega
  · rw [List.length_append, List.length_singleton]; omega
theorem keepL_last (L : List Rec) (x : Rec) : lastR (keepL L x) = x := by
  unfold keepL lastR
  simp
theorem putRec_big {s : CSt} (h : Big s) (ho : s.off = false) (r : Rec) : Big (s.putRec r).1 ∧ ((s.putRec r).2 = 0 → (s.putRec r).1.off = false) := by
  rcases put_cases h ho r with ⟨-, e, e2, -⟩ | ⟨e8, e, -⟩
  · exact ⟨e.big, fun _ => e2⟩
  · exact ⟨e.big, fun e0 => by rw [e8] at e0; cases e0⟩
theorem putRec_err {s : CSt} (h : Big s) (ho : s.off = false) (r : Rec) : (s.putRec r).2 ≤ 11 := by
  rcases put_cases h ho r with ⟨e, -⟩ | ⟨e, -⟩ <;> omega

/-- Behind the ring's own append: all else is as it was. -/
theorem RaSt.first {w wr w3 : World} {bc rb bm rm : Nat} {v v' vm : Value} {L L2 : List Rec} {s s2 : CSt} {m : MSt} {sp sp2 : Bool} {k k2 : Nat} (h : RaSt w wr bc rb bm rm v vm L L s s m sp sp k)
    (hR : RingAt w3 w.heap.size rb bc v' L2 sp2) (hC : CellsAt w3 bc s2) (hO : Off (fun k => k = bc ∨ k = rb ∨ v.ownBlock = some k) wr w3) (hv : ∀ k, v'.ownBlock = some k → v.ownBlock = some k ∨ wr.heap.size ≤ k)
    (hb : Big s2) (ho : sp2 = false → s2.off = false) (hlow : s2.Low (18 * (61 - k2))) (hl : L2.length ≤ 8) (hq : (lastR L2).seq ≤ 4294967295) :
    RaSt w w3 bc rb bm rm v' vm L2 L s2 s m sp2 sp k2 := by
  have p := h.sep
  have hrm := h.mring.lt
  have hbm := h.mod.lt
  have hvm := h.mring.sl.lt
  have nS : ∀ k, k = bm ∨ k = rm ∨ vm.ownBlock = some k → ¬ (k = bc ∨ k = rb ∨ v.ownBlock = some k) := by
    rintro k (rfl | rfl | e) (rfl | rfl | e2)
    · exact p.cbm rfl
    · exact p.rbm rfl
    · exact p.v1 e2
    · exact p.crm rfl
    · exact p.rrm rfl
    · exact p.v2 e2
    · exact p.m2 e
    · exact p.m1 e
    · exact p.vv k e2 e
  refine ⟨hR, h.mring.off hO (nS _ (Or.inr (Or.inl rfl))) (fun g e => nS g (Or.inr (Or.inr e))), hC, ⟨(hO.block bm hbm (nS _ (Or.inl rfl))).trans h.mod.heap⟩, h.sim, hb, ho, hlow, hl, hq, ⟨p.rbc, p.rbm, p.rrm, p.cbm, p.crm, ?_, ?_, p.m1, p.m2, ?_⟩, h.lc, h.lm, ?_⟩
  · intro e
    rcases hv _ e with e2 | e2
    · exact p.v1 e2
    · omega
  · intro e
    rcases hv _ e with e2 | e2
    · exact p.v2 e2
    · omega
  · intro q e e2
    have := (hvm q e2).2
    rcases hv _ e with e3 | e3
    · exact p.vv q e3 e2
    · omega
  · exact Off.below h.bel hO h.bel.size (fun i hi => by
      rcases hi with e | e | e
      · have := h.lc; omega
      · have := h.ring.lo; omega
      · exact (h.ring.recs.lt i e).1)
/-- Behind the document's append. -/
theorem RaSt.second {w wr w3 : World} {bc rb bm rm : Nat} {v vm vm' : Value} {L L2 L3 : List Rec} {s s2 : CSt} {m m' : MSt} {sp sp2 sp3 : Bool} {k : Nat} (h : RaSt w wr bc rb bm rm v vm L L2 s s2 m sp sp2 k)
    (hR : MRingAt w3 w.heap.size rm bm vm' L3 sp3) (hM : ModAt w3 bm m') (hS : Sim s m') (hO : Off (fun k => k = bm ∨ k = rm ∨ vm.ownBlock = some k) wr w3) (hv : ∀ k, vm'.ownBlock = some k → vm.ownBlock = some k ∨ wr.heap.size ≤ k) :
    RaSt w w3 bc rb bm rm v vm' L L3 s s m' sp sp3 k := by
  have p := h.sep
  have hrb := h.ring.lt
  have hbc := h.cells.lt
  have hvv := h.ring.recs.lt
  have nS : ∀ k, k = bc ∨ k = rb ∨ v.ownBlock = some k → ¬ (k = bm ∨ k = rm ∨ vm.ownBlock = some k) := by
    rintro k (rfl | rfl | e) (rfl | rfl | e2)
    · exact p.cbm rfl
    · exact p.crm rfl
    · exact p.m2 e2
    · exact p.rbm rfl
    · exact p.rrm rfl
    · exact p.m1 e2
    · exact p.v1 e
    · exact p.v2 e
    · exact p.vv k e e2
  refine ⟨h.ring.off hO (nS _ (Or.inr (Or.inl rfl))) (fun g e => nS g (Or.inr (Or.inr e))), hR, h.cells.off hO (nS _ (Or.inl rfl)), hM, hS, h.big, h.off, h.low, h.llen, h.last, ⟨p.rbc, p.rbm, p.rrm, p.cbm, p.crm, p.v1, p.v2, ?_, ?_, ?_⟩, h.lc, h.lm, ?_⟩
  · intro e
    rcases hv _ e with e2 | e2
    · exact p.m1 e2
    · omega
  · intro e
    rcases hv _ e with e2 | e2
    · exact p.m2 e2
    · omega
  · intro q e e2
    have := (hvv q e).2
    rcases hv _ e2 with e3 | e3
    · exact p.vv q e e3
    · omega
  · exact Off.below h.bel hO h.bel.size (fun i hi => by
      rcases hi with e | e | e
      · have := h.lm; omega
      · have := h.mring.lo; omega
      · exact (h.mring.sl.lt i e).1)

/-- The act that is at hand, in a block of its own. -/
structure RaBox (wr : World) (bc rb bm rm ab : Nat) (v vm : Value) (a : AppD) : Prop where
  c0 : wr.cell? ⟨ab, 0, .none⟩ = some (.int .i64 a.ent)
  c1 : wr.cell? ⟨ab, 1, .none⟩ = some (.int .i64 a.kind)
  c2 : wr.cell? ⟨ab, 2, .none⟩ = some (.int .i64 a.tick)
  c3 : wr.cell? ⟨ab, 3, .none⟩ = some (.int .i64 a.cut)
  c4 : wr.cell? ⟨ab, 4, .none⟩ = some (.bool a.boot)
  n1 : ab ≠ bc
  n2 : ab ≠ rb
  n3 : ab ≠ bm
  n4 : ab ≠ rm
  n5 : v.ownBlock ≠ some ab
  n6 : vm.ownBlock ≠ some ab
theorem RaBox.lt {wr : World} {bc rb bm rm ab : Nat} {v vm : Value} {a : AppD} (h : RaBox wr bc rb bm rm ab v vm a) : ab < wr.heap.size := block_lt h.c0
theorem RaBox.off {wr w3 : World} {bc rb bm rm ab : Nat} {v vm v' vm' : Value} {a : AppD} {S : Nat → Prop} (h : RaBox wr bc rb bm rm ab v vm a) (hO : Off S wr w3) (hS : ¬ S ab) (h5 : v'.ownBlock ≠ some ab) (h6 : vm'.ownBlock ≠ some ab) : RaBox w3 bc rb bm rm ab v' vm' a := by
  have hb := hO.block ab h.lt hS
  have hc : ∀ {i : Nat} {u : Value}, wr.cell? ⟨ab, i, .none⟩ = some u → w3.cell? ⟨ab, i, .none⟩ = some u := fun {i u} e => (World.cell?_of_block (a := ⟨ab, i, .none⟩) hb).trans e
  exact ⟨hc h.c0, hc h.c1, hc h.c2, hc h.c3, hc h.c4, h.n1, h.n2, h.n3, h.n4, h5, h6⟩
theorem RaBox.below {wr w3 : World} {bc rb bm rm ab : Nat} {v vm : Value} {a : AppD} (h : RaBox wr bc rb bm rm ab v vm a) (hb : Below wr.heap.size wr w3) : RaBox w3 bc rb bm rm ab v vm a :=
  h.off (Off.of_below hb (fun _ => False)) (fun e => e) h.n5 h.n6
theorem RaBox.first {wr w3 : World} {bc rb bm rm ab : Nat} {v v' vm : Value} {a : AppD} (h : RaBox wr bc rb bm rm ab v vm a) (hO : Off (fun k => k = bc ∨ k = rb ∨ v.ownBlock = some k) wr w3) (hv : ∀ k, v'.ownBlock = some k → v.ownBlock = some k ∨ wr.heap.size ≤ k) : RaBox w3 bc rb bm rm ab v' vm a := by
  refine h.off hO ?_ ?_ h.n6
  · rintro (e | e | e)
    · exact h.n1 e
    · exact h.n2 e
    · exact h.n5 e
  · intro e
    rcases hv _ e with e2 | e2
    · exact h.n5 e2
    · have := h.lt; omega
theorem RaBox.second {wr w3 : World} {bc rb bm rm ab : Nat} {v vm vm' : Value} {a : AppD} (h : RaBox wr bc rb bm rm ab v vm a) (hO : Off (fun k => k = bm ∨ k = rm ∨ vm.ownBlock = some k) wr w3) (hv : ∀ k, vm'.ownBlock = some k → vm.ownBlock = some k ∨ wr.heap.size ≤ k) : RaBox w3 bc rb bm rm ab v vm' a := by
  refine h.off hO ?_ h.n5 ?_
  · rintro (e | e | e)
    · exact h.n3 e
    · exact h.n4 e
    · exact h.n6 e
  · intro e
    rcases hv _ e with e2 | e2
    · exact h.n6 e2
    · have := h.lt; omega

/-- An append on both. -/
theorem two_append {A : Nat → Addr} {w wr : World} {bc rb bm rm : Nat} {v vm : Value} {L : List Rec} {s : CSt} {m : MSt} {sp : Bool} {k : Nat} (hs : Senv A w) (h : RaSt w wr bc rb bm rm v vm L L s s m sp sp k) (hk : k < 60) {ab : Nat} {a : AppD} (hbx : RaBox wr bc rb bm rm ab v vm a) (i1 i2 i3 : Int) :
    ∃ (j : Nat) (x : Rec) (L2 : List Rec) (s2 : CSt) (sp2 : Bool), j ≤ 11 ∧
      (Calls Tryd.prog 38 #[.pointer (some ⟨rb, 0, .none⟩), .int .i64 i1, .int .i64 i2, .int .i64 i3] wr fun e w3 => ∃ v', e = .returned (.tuple #[x.val, errVal A j]) ∧ RaSt w w3 bc rb bm rm v' vm L2 L s2 s m sp2 sp (k + 1) ∧ RaBox w3 bc rb bm rm ab v' vm a) ∧
      (∀ w3 v', RaSt w w3 bc rb bm rm v' vm L2 L s2 s m sp2 sp (k + 1) → RaBox w3 bc rb bm rm ab v' vm a → Calls Tryd.prog 41 #[.pointer (some ⟨rm, 0, .none⟩), .int .i64 i1, .int .i64 i2, .int .i64 i3] w3 fun e w4 => ∃ vm' m', e = .returned (.tuple #[x.val, .int .i64 (j : Int)]) ∧ RaSt w w4 bc rb bm rm v' vm' L2 L2 s2 s2 m' sp2 sp2 (k + 1) ∧ RaBox w4 bc rb bm rm ab v' vm' a ∧ Off (fun k => k = bm ∨ k = rm ∨ vm.ownBlock = some k) w3 w4) := by
  have hs4 : Sen4 A wr := (hs.below h.bel).four
  have hlow' : s.Low (18 * (61 - (k + 1))) := h.low.mono (by omega)
  have hno : ∀ w3, Below wr.heap.size wr w3 → RaSt w w3 bc rb bm rm v vm L L s s m sp sp (k + 1) := fun w3 hb => by
    have h3 := h.below hb
    exact ⟨h3.ring, h3.mring, h3.cells, h3.mod, h3.sim, h3.big, h3.off, hlow', h3.llen, h3.last, h3.sep, h3.lc, h3.lm, h3.bel⟩
  cases sp with
  | true =>
    refine ⟨8, .none, L, s, true, by decide, ?_, fun w3 v' h3 b3 => ?_⟩
    · exact (append_spent A w.heap.size rb bc v L i1 i2 i3 wr h.ring hs4).mono fun e w3 ⟨he, hb⟩ => ⟨v, he, hno w3 hb, hbx.below hb⟩
    · exact (mappend_dead w.heap.size rm bm vm L i1 i2 i3 w3 h3.mring).mono fun e w4 ⟨he, hb⟩ => ⟨vm, m, he, h3.below hb, b3.below hb, Off.of_below hb _⟩
  | false =>
    by_cases hf : 0 ≤ i1 ∧ i1 ≤ 255 ∧ 0 ≤ i2 ∧ i2 ≤ 255 ∧ 0 ≤ i3 ∧ i3 < 281474976710656
    · obtain ⟨n1, rfl⟩ := Int.eq_ofNat_of_zero_le hf.1
      obtain ⟨n2, rfl⟩ := Int.eq_ofNat_of_zero_le hf.2.2.1
      obtain ⟨n3, rfl⟩ := Int.eq_ofNat_of_zero_le hf.2.2.2.2.1
      by_cases hq : (lastR L).seq = 4294967295
      · refine ⟨7, .none, L, s, false, by decide, ?_, fun w3 v' h3 b3 => ?_⟩
        · exact (append_full A w.heap.size rb bc v L n1 n2 n3 wr h.ring hs4 h.llen (decide_eq_true (by omega)) (decide_eq_true (by omega)) (decide_eq_true (by omega)) hq).mono fun e w3 ⟨he, hb⟩ => ⟨v, he, hno w3 hb, hbx.below hb⟩
        · refine (mappend_full w.heap.size rm bm vm L m n1 n2 n3 w3 h3.mring h3.mod (by omega) (by omega) (by omega) h.llen hq).mono fun e w4 ⟨he, hO, hM, hR⟩ => ⟨vm, m, he, ?_⟩
          have hO' := hO.mono (T := fun k => k = bm ∨ k = rm ∨ vm.ownBlock = some k) (fun k _ e => Or.inl e)
          exact ⟨h3.second hR hM h3.sim hO' (fun k e => Or.inl e), b3.second hO' (fun k e => Or.inl e), hO'⟩
      · have hoff := h.off rfl
        have hseq : (lastR L).seq < 4294967295 := by have := h.last; omega
        have hgm : 8 ≤ bc := Nat.le_trans (by have := hs.gm; omega) h.lc
        have hbig := putRec_big h.big hoff (nextR L n1 n2 n3)
        have herr := putRec_err h.big hoff (nextR L n1 n2 n3)
        have hlow := put_low (n := 18 * (61 - (k + 1))) (nextR L n1 n2 n3) (h.low.mono (by omega))
        have happ := append_go A w.heap.size rb bc v L s n1 n2 n3 wr h.ring h.cells hs4 hgm h.sep.rbc (h.low.mono (by omega)) h.llen (by omega) (by omega) (by omega) hseq
        have hmapp := fun w3 (hmr : MRingAt w3 w.heap.size rm bm vm L false) (hmm : ModAt w3 bm m) hB => mappend_go w.heap.size rm bm vm L s m n1 n2 n3 w3 hmr hmm h.sim h.big.size hoff (by have := h.low.1; omega) (by omega) (by omega) (by omega) h.llen hseq hB
        have hx : (nextR L n1 n2 n3).seq ≤ 4294967295 := by show (lastR L).seq + 1 ≤ _; omega
        generalize nextR L n1 n2 n3 = x at *
        cases hp : (s.putRec x).2 with
        | succ j =>
          refine ⟨j + 1, .none, L, (s.putRec x).1, true, by omega, ?_, fun w3 v' h3 b3 => ?_⟩
          · refine happ.mono fun e w3 hh => ?_
            rcases hh with ⟨j', hj', he, hR, hC, hO⟩ | ⟨h0, -⟩
            · obtain rfl : j' = j := by omega
              exact ⟨v, he, h.first hR hC hO (fun k e => Or.inl e) hbig.1 (fun e => by cases e) hlow h.llen h.last, hbx.first hO (fun k e => Or.inl e)⟩
            · rw [hp] at h0; cases h0
          · refine (hmapp w3 h3.mring h3.mod h3.bel.size).mono fun e w4 ⟨m', hS, hM, hO, hh⟩ => ?_
            rcases hh with ⟨j', hj', he, hR⟩ | ⟨h0, -⟩
            · obtain rfl : j' = j := by omega
              exact ⟨vm, m', he, h3.second hR hM hS hO (fun k e => Or.inl e), b3.second hO (fun k e => Or.inl e), hO⟩
            · rw [hp] at h0; cases h0
        | zero =>
          refine ⟨0, x, keepL L x, (s.putRec x).1, false, by decide, ?_, fun w3 v' h3 b3 => ?_⟩
          · refine happ.mono fun e w3 hh => ?_
            rcases hh with ⟨j', hj', -⟩ | ⟨-, he, ⟨v', hR, hK⟩, hC, hO⟩
            · rw [hp] at hj'; cases hj'
            · exact ⟨v', he, h.first hR hC hO hK hbig.1 (fun _ => hbig.2 hp) hlow (keepL_len x h.llen) (by rw [keepL_last]; exact hx), hbx.first hO hK⟩
          · refine (hmapp w3 h3.mring h3.mod h3.bel.size).mono fun e w4 ⟨m', hS, hM, hO, hh⟩ => ?_
            rcases hh with ⟨j', hj', -⟩ | ⟨-, he, vm', hR, hK⟩
            · rw [hp] at hj'; cases hj'
            · exact ⟨vm', m', he, h3.second hR hM hS hO hK, b3.second hO hK, hO⟩
    · refine ⟨2, .none, L, s, false, by decide, ?_, fun w3 v' h3 b3 => ?_⟩
      · refine (append_bound A w.heap.size rb bc v L i1 i2 i3 wr h.ring hs4 ?_).mono fun e w3 ⟨he, hb⟩ => ⟨v, he, hno w3 hb, hbx.below hb⟩
        by_cases t1 : 0 ≤ i1 ∧ i1 ≤ 255
        · by_cases t2 : 0 ≤ i2 ∧ i2 ≤ 255
          · exact Or.inr (Or.inr (decide_eq_false (by omega)))
          · exact Or.inr (Or.inl (decide_eq_false t2))
        · exact Or.inl (decide_eq_false t1)
      · exact (mappend_bound w.heap.size rm bm vm L i1 i2 i3 w3 h3.mring hf).mono fun e w4 ⟨he, hb⟩ => ⟨vm, m, he, h3.below hb, b3.below hb, Off.of_below hb _⟩

/-- A cut on both. -/
theorem two_cut (A : Nat → Addr) (bc bm : Nat) (s : CSt) (m : MSt) (n : Int) (hsim : Sim s m) (hn : n ≤ 9223372036854775807) :
    ∃ (s' : CSt) (m' : MSt) (j : Nat), j ≤ 11 ∧ Sim s' m' ∧ (s'.bytes = s.bytes ∧ s'.size = s.size ∧ s'.off = s.off ∧ s'.written = s.written) ∧
      (∀ wa, CellsAt wa bc s → Senv A wa → Calls Tryd.prog 19 #[.pointer (some ⟨bc, 0, .none⟩), .int .i64 n] wa fun e w' => e = .returned (errVal A j) ∧ CellsAt w' bc s' ∧ wa.grownBy w' (some bc)) ∧
      (∀ wb, ModAt wb bm m → Calls Tryd.prog 28 #[.pointer (some ⟨bm, 0, .none⟩), .int .i64 n] wb fun e w' => e = .returned (.int .i64 (j : Int)) ∧ ModAt w' bm m' ∧ wb.grownBy w' (some bm)) := by
  by_cases h0 : n < 0
  · exact ⟨s, m, 2, by decide, hsim, ⟨rfl, rfl, rfl, rfl⟩,
      fun wa h hs => (cut_low A bc n wa hs h0).mono fun e w' ⟨h1, h2⟩ => by subst h2; exact ⟨h1, h, grown_refl _ _⟩,
      fun wb h => (mcut_low bm n wb h0).mono fun e w' ⟨h1, h2⟩ => by subst h2; exact ⟨h1, h, grown_refl _ _⟩⟩
  · cases ho : s.off
    · obtain ⟨q, rfl⟩ := Int.eq_ofNat_of_zero_le (show 0 ≤ n by omega)
      exact ⟨_, _, 0, by decide, hsim.cutAt q (by omega), ⟨rfl, rfl, ho, rfl⟩,
        fun wa h hs => (cut_on bc s q wa h ho).mono fun e w' ⟨h1, h2, h3, _⟩ => ⟨h1, h2, h3⟩,
        fun wb h => (mcut_on bm m q wb h (by rw [hsim.off]; exact ho)).mono fun e w' ⟨h1, h2, h3, _⟩ => ⟨h1, h2, h3⟩⟩
    · exact ⟨s, m, 8, by decide, hsim, ⟨rfl, rfl, ho, rfl⟩,
        fun wa h hs => (cut_off A bc s n wa h hs h0 ho).mono fun e w' ⟨h1, h2⟩ => by subst h2; exact ⟨h1, h, grown_refl _ _⟩,
        fun wb h => (mcut_off bm m n wb h h0 (by rw [hsim.off]; exact ho)).mono fun e w' ⟨h1, h2⟩ => by subst h2; exact ⟨h1, h, grown_refl _ _⟩⟩

/-- What was opened: its last one's number. -/
theorem chain_lt (L : List Rec) (h : ∀ r ∈ L, r.seq < 4294967296) : ∀ m n, ∀ r ∈ chain L m n, r.seq < 4294967296 := by
  intro m
  induction m with
  | zero => intro n r hr; cases hr
  | succ m ih =>
    intro n r hr
    by_cases hc : 0 < n ∧ (L.getD ((n - 1) % 9) .none).seq = n
    · rw [chain_step L m n hc.1 hc.2] at hr
      rcases List.mem_cons.1 hr with rfl | hr
      · rw [List.getD_eq_getElem?_getD]
        cases hg : L[(n - 1) % 9]? with
        | none => exact (by decide : (0 : Nat) < 4294967296)
        | some x => exact h x (List.mem_of_getElem? hg)
      · exact ih _ r hr
    · rw [chain_stop L (m + 1) n hc] at hr; cases hr
theorem openL_last (l : List UInt8) : (lastR (openL l)).seq ≤ 4294967295 := by
  unfold lastR openL newestL
  cases hg : (chain (helds (l.take 153) 9) 8 (maxSeq (helds (l.take 153) 9))).reverse.getLast? with
  | none => exact (by decide : (0 : Nat) ≤ 4294967295)
  | some x =>
    have hm := List.mem_of_getLast? hg
    rw [List.mem_reverse] at hm
    have := chain_lt _ (helds_lt _) _ _ x hm
    show x.seq ≤ _
    omega
theorem openL_eight (l : List UInt8) : (openL l).length ≤ 8 := by unfold openL newestL; rw [List.length_reverse]; exact chain_len _ 8 _
theorem openL_take (l : List UInt8) (n : Nat) (h : 153 ≤ n) : openL (l.take n) = openL l := by unfold openL; rw [List.take_take, Nat.min_eq_left h]
end Go.Proofs.YtebdepbnhemnpaaDoor
