/-
  RingCuts' state from act to act: plain facts. Conditions: as named.
-/
import Derived.Test.YtebdepbnhemnpaaDoorRingLogged
import Derived.Test.YtebdepbnhemnpaaDoorBoth
namespace Go.Proofs.YtebdepbnhemnpaaDoor
open Go.RowKit Go.Extern.Stop Go.Stop Go.Extern

/-- One append of the input. -/
structure AppD where
  ent : Int
  kind : Int
  tick : Int
  cut : Int
  boot : Bool
structure AppsAt (w : World) (g o len : Nat) (l : Nat → AppD) : Prop where
  c0 : ∀ i, i < len → w.cell? ⟨g, o + i * 5, .none⟩ = some (.int .i64 (l i).ent)
  c1 : ∀ i, i < len → w.cell? ⟨g, o + i * 5 + 1, .none⟩ = some (.int .i64 (l i).kind)
  c2 : ∀ i, i < len → w.cell? ⟨g, o + i * 5 + 2, .none⟩ = some (.int .i64 (l i).tick)
  c3 : ∀ i, i < len → w.cell? ⟨g, o + i * 5 + 3, .none⟩ = some (.int .i64 (l i).cut)
  c4 : ∀ i, i < len → w.cell? ⟨g, o + i * 5 + 4, .none⟩ = some (.bool (l i).boot)
theorem AppsAt.below {w w' : World} {g o len : Nat} {l : Nat → AppD} (h : AppsAt w g o len l) (hb : Below w.heap.size w w') : AppsAt w' g o len l :=
  ⟨fun i hi => cell_below hb (h.c0 i hi), fun i hi => cell_below hb (h.c1 i hi), fun i hi => cell_below hb (h.c2 i hi), fun i hi => cell_below hb (h.c3 i hi), fun i hi => cell_below hb (h.c4 i hi)⟩

/-- The last eight. -/
def last8 (D : List Rec) : List Rec := D.drop (D.length - 8)
theorem last8_len (D : List Rec) : (last8 D).length ≤ 8 := by unfold last8; rw [List.length_drop]; omega
theorem last8_keep (D : List Rec) (x : Rec) : keepL (last8 D) x = last8 (D ++ [x]) := by
  unfold keepL last8
  rw [List.length_append, List.length_singleton, List.length_drop]
  by_cases h : 8 ≤ D.length
  · rw [if_pos (by omega), List.tail_drop, List.drop_append, show D.length + 1 - 8 = D.length - 8 + 1 by omega, show D.length - 8 + 1 - D.length = 0 by omega]; rfl
  · rw [if_neg (by omega), show D.length - 8 = 0 by omega, show D.length + 1 - 8 = 0 by omega]; rfl
theorem last8_last {s : CSt} {D : List Rec} (h : Inv s D) : (lastR (last8 D)).seq = D.length := by
  unfold lastR last8
  by_cases h0 : D.length = 0
  · have : D = [] := List.length_eq_zero_iff.1 h0
    subst this; rfl
  · rw [List.getLast?_eq_getElem?, List.length_drop, List.getElem?_drop, show D.length - 8 + (D.length - (D.length - 8) - 1) = D.length - 1 by omega, List.getElem?_eq_getElem (by omega)]
    show (D[D.length - 1]).seq = _
    rw [h.seq]; omega

theorem CSt.Low.mono {s : CSt} {n m : Nat} (h : s.Low n) (hm : m ≤ n) : s.Low m := ⟨by have := h.1; omega, h.2⟩
theorem put_low {s : CSt} {n : Nat} (r : Rec) (h : s.Low (18 + n)) : (s.putRec r).1.Low n := by
  have a : (s.zeroAt ((r.seq - 1) % 9 * 17 + 16)).1.Low (17 + n) := CSt.zeroAt_low _ (h.mono (by omega))
  unfold CSt.putRec
  simp only []
  split
  · have b := CSt.writeE_low (n := 1 + n) ((r.seq - 1) % 9 * 17) (enc16 r) (a.mono (by rw [enc16_length]; omega))
    split
    · exact CSt.writeE_low _ [165] (b.mono (by simp))
    · exact b.mono (by omega)
  · exact a.mono (by omega)
theorem Inv.any {s s' : CSt} {D : List Rec} (h : Inv s D) (hb : s'.bytes = s.bytes) (hz : s'.size = s.size) : Inv s' D := by
  have e : ∀ i, sr s' i = sr s i := fun i => by unfold sr; rw [hb]
  exact ⟨⟨by rw [hb]; exact h.big.len, by rw [hz]; exact h.big.size, by rw [hz]; exact h.big.top⟩, h.seq, fun j a b => by rw [e]; exact h.i1 j a b, by rw [e]; exact h.i2, fun i a b => by rw [e]; exact h.i3 i a b⟩

/-- From act to act. -/
structure RcSt (w wr : World) (bc rb : Nat) (v dv : Value) (D : List Rec) (s : CSt) (k : Nat) : Prop where
  ring : RingAt wr w.heap.size rb bc v (last8 D) false
  cells : CellsAt wr bc s
  inv : Inv s D
  off : s.off = false
  low : s.Low (18 * (61 - k))
  dlen : D.length ≤ k
  recs : Recs wr w.heap.size dv D
  sep : ∀ b, dv.ownBlock = some b → v.ownBlock ≠ some b ∧ b ≠ rb ∧ b ≠ bc
  ne : rb ≠ bc
  lob : w.heap.size ≤ bc
  bel : Below w.heap.size w wr

theorem RcSt.below {w wr wr' : World} {bc rb : Nat} {v dv : Value} {D : List Rec} {s : CSt} {k : Nat} (h : RcSt w wr bc rb v dv D s k) (hb : Below wr.heap.size wr wr') : RcSt w wr' bc rb v dv D s k :=
  ⟨h.ring.below hb, h.cells.below hb, h.inv, h.off, h.low, h.dlen, h.recs.below hb (Nat.le_refl _), h.sep, h.ne, h.lob, h.bel.trans (hb.mono h.bel.size)⟩
theorem Recs.off {w w' : World} {base : Nat} {v : Value} {L : List Rec} {S : Nat → Prop} (h : Recs w base v L) (ho : Off S w w') (h2 : ∀ g, v.ownBlock = some g → ¬ S g) : Recs w' base v L := by
  rcases h.row_form with ⟨rfl, rfl⟩ | ⟨g, cap, rfl, hbg, hrow, hlc, hm⟩
  · exact World.ownsRow_nil _ _ _ _
  · obtain ⟨cur, hg, k2, k3⟩ := hrow.row
    exact Recs.of_row ⟨⟨cur, (ho.block g hrow.lt (h2 g rfl)).trans hg, k2, k3⟩⟩ hbg hlc hm
/-- The power is to be cut. -/
theorem RcSt.cutAt {w wr wr' : World} {bc rb : Nat} {v dv : Value} {D : List Rec} {s : CSt} {k : Nat} (h : RcSt w wr bc rb v dv D s k) (n : Nat) (hn : n ≤ 9223372036854775807) (hc : CellsAt wr' bc { s with cut := true, left := n }) (hg : wr.grownBy wr' (some bc)) : RcSt w wr' bc rb v dv D { s with cut := true, left := n } k :=
  ⟨h.ring.off (Off.of_grown hg) h.ne (fun g e e2 => h.ring.sep.2 (by rw [e, e2])), hc, h.inv.any rfl rfl, h.off, ⟨h.low.1, hn⟩, h.dlen, h.recs.off (Off.of_grown hg) (fun g e e2 => (h.sep g e).2.2 e2), h.sep, h.ne, h.lob,
    below_grown h.bel hg h.bel.size h.lob⟩
end Go.Proofs.YtebdepbnhemnpaaDoor
