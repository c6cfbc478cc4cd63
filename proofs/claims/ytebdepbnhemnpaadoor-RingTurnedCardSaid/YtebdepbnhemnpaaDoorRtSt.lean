/-
  RingTurned's state from append to append; []byte of a text, one byte turned. Conditions: as named.
-/
import Derived.Test.YtebdepbnhemnpaaDoorRtPure
import Derived.Test.YtebdepbnhemnpaaDoorRefBody
import Derived.Test.YtebdepbnhemnpaaDoorCellsFrom
import Derived.Deep.DeepCutAuto
import Derived.Lib.ConvBytes
namespace Go.Proofs.YtebdepbnhemnpaaDoor
open Go.RowKit Go.Extern.Stop Go.Stop Go.Extern

theorem Sen4.gf {A : Nat → Addr} {w : World} (h : Sen4 A w) : 8 ≤ w.heap.size := by
  have h1 := block_lt h.c1
  have h2 := block_lt h.c2
  have h6 := block_lt h.c6
  have h7 := block_lt h.c7
  simp only [] at h1 h2 h6 h7
  omega

/-- From append to append. -/
structure RtSt (w wr : World) (bc rb : Nat) (v : Value) (D : List Rec) (s : CSt) (k : Nat) : Prop where
  ring : RingAt wr w.heap.size rb bc v (last8 D) false
  cells : CellsAt wr bc s
  inv : Inv s D
  off : s.off = false
  cut : s.cut = false
  size : s.size = 153
  low : s.Low (18 * (61 - k))
  dlen : D.length = k
  ne : rb ≠ bc
  lob : w.heap.size ≤ bc
  bel : Below w.heap.size w wr
theorem RtSt.below {w wr wr' : World} {bc rb : Nat} {v : Value} {D : List Rec} {s : CSt} {k : Nat} (h : RtSt w wr bc rb v D s k) (hb : Below wr.heap.size wr wr') : RtSt w wr' bc rb v D s k :=
  ⟨h.ring.below hb, h.cells.below hb, h.inv, h.off, h.cut, h.size, h.low, h.dlen, h.ne, h.lob, h.bel.trans (hb.mono h.bel.size)⟩
theorem RtSt.app {w wc w3 : World} {bc rb n1 n2 n3 : Nat} {v v3 : Value} {D : List Rec} {s : CSt} {k : Nat} (ST : RtSt w wc bc rb v D s k) (hk : k < 60)
    (h1 : n1 ≤ 255) (h2 : n2 ≤ 255) (h3 : n3 ≤ 281474976710655)
    (R3 : RingAt w3 w.heap.size rb bc v3 (keepL (last8 D) (nextR (last8 D) n1 n2 n3)) false) (C3 : CellsAt w3 bc (s.putRec (nextR (last8 D) n1 n2 n3)).1) (O3 : Off (fun k => k = bc ∨ k = rb ∨ v.ownBlock = some k) wc w3) :
    RtSt w w3 bc rb v3 (D ++ [nextR (last8 D) n1 n2 n3]) (s.putRec (nextR (last8 D) n1 n2 n3)).1 (k + 1) := by
  have hd := ST.dlen
  have hfit := next_fits ST.inv n1 n2 n3 h1 h2 h3 (by omega)
  have hseq := next_seq ST.inv n1 n2 n3
  rw [last8_keep] at R3
  have hq : ((nextR (last8 D) n1 n2 n3).seq - 1) % 9 = D.length % 9 := by rw [hseq, Nat.add_sub_cancel]
  have hpc := put_cases ST.inv.big ST.off (nextR (last8 D) n1 n2 n3)
  have hun := put_uncut ST.inv.big ST.off ST.cut (nextR (last8 D) n1 n2 n3)
  rw [hq] at hpc
  have hlow := put_low (n := 18 * (61 - (k + 1))) (nextR (last8 D) n1 n2 n3) (ST.low.mono (by omega))
  have hbel : Below w.heap.size w w3 := Off.below ST.bel O3 ST.bel.size (fun i hi => by
    rcases hi with h | h | h
    · have := ST.lob; omega
    · have := ST.ring.lo; omega
    · exact (ST.ring.recs.lt i h).1)
  generalize nextR (last8 D) n1 n2 n3 = x at *
  rcases hpc with ⟨-, ho, hoff, henc⟩ | ⟨e8, -⟩
  · exact ⟨R3, C3, ST.inv.step ho hfit hseq henc, hoff, hun.2, ho.size.trans ST.size, hlow, by rw [List.length_append, List.length_singleton]; omega, ST.ne, ST.lob, hbel⟩
  · rw [hun.1] at e8; cases e8

theorem append_eq (A : Nat → Addr) (B rb bc : Nat) (v : Value) (L : List Rec) (s : CSt) (n1 n2 n3 : Nat) (i1 i2 i3 : Int) (w : World) (e1 : i1 = n1) (e2 : i2 = n2) (e3 : i3 = n3) (h : RingAt w B rb bc v L false) (hc : CellsAt w bc s) (hs : Sen4 A w) (hgm : 8 ≤ bc) (hrb : rb ≠ bc) (hlow : s.Low 18) (hl : L.length ≤ 8) (hf1 : n1 ≤ 255) (hf2 : n2 ≤ 255) (hf3 : n3 ≤ 281474976710655) (hq : (lastR L).seq < 4294967295) (hp : (s.putRec (nextR L n1 n2 n3)).2 = 0) :
    Calls Tryd.prog 38 #[.pointer (some ⟨rb, 0, .none⟩), .int .i64 i1, .int .i64 i2, .int .i64 i3] w fun e w' =>
      e = .returned (.tuple #[(nextR L n1 n2 n3).val, .nilIface]) ∧ (∃ v', RingAt w' B rb bc v' (keepL L (nextR L n1 n2 n3)) false) ∧ CellsAt w' bc (s.putRec (nextR L n1 n2 n3)).1 ∧ Off (fun k => k = bc ∨ k = rb ∨ v.ownBlock = some k) w w' := by
  subst e1 e2 e3
  refine (append_go A B rb bc v L s n1 n2 n3 w h hc hs hgm hrb hlow hl hf1 hf2 hf3 hq).mono ?_
  rintro e w' (⟨j, hj, -⟩ | ⟨-, h1, ⟨v', h2, -⟩, h3, h4⟩)
  · rw [hp] at hj; cases hj
  · exact ⟨h1, ⟨v', h2⟩, h3, h4⟩

/-- []byte of a text: a row of its own. -/
theorem bytes_made (w : World) (t : ByteArray) : ∃ cap W, (convert 9 41 (.string t)).run Tryd.prog w = .ok (.slice (some ⟨w.heap.size, 0, .none⟩) t.size cap) W ∧ Below w.heap.size w W ∧ W.heap.size = w.heap.size + 1 ∧
    (∀ j, j < t.size → W.cell? ⟨w.heap.size, j, .none⟩ = some (.int .u8 ((t.data.toList.getD j 0).toNat : Int))) ∧ (∀ j, j < t.size → W.frozen? ⟨w.heap.size, j, .none⟩ = false) := by
  refine ⟨_, _, Lib.run_convert_string_bytes w 9 41 5 t Tryd.underlying9 Tryd.underlying41 Tryd.underlying5, ⟨rfl, rfl, rfl, by rw [Lib.bytesWorld_size]; omega, fun i hi => Lib.bytesWorld_at_old w _ t i hi⟩, Lib.bytesWorld_size w _ t, fun j hj => Lib.bytesWorld_cell w _ t j hj, fun j hj => ?_⟩
  have hsz : t.size ≤ (Lib.bytesCells w 5 t).size := by
    unfold Lib.bytesCells
    rw [Array.size_append, Array.size_map]
    exact Nat.le_add_right _ _
  simp only [World.frozen?, Lib.bytesWorld_at_new]
  simp
  omega

theorem u8_xor (a b : Nat) (ha : a < 256) (hb : b < 256) : bits BinOp.xor IntKind.u8 (a : Int) (b : Int) = ((a ^^^ b : Nat) : Int) := by
  have hx : a ^^^ b < 2 ^ 8 := Nat.xor_lt_two_pow (by omega) (by omega)
  have ha' : a % 2 ^ IntKind.u8.bits = a := Nat.mod_eq_of_lt (Nat.lt_of_lt_of_le ha (by decide))
  have hb' : b % 2 ^ IntKind.u8.bits = b := Nat.mod_eq_of_lt (Nat.lt_of_lt_of_le hb (by decide))
  simp only [bits, BitVec.ofInt_natCast, BitVec.toNat_xor, BitVec.toNat_ofNat, ha', hb']
  show IntKind.u8.wrap _ = _
  rw [IntKind.wrap_u8]
  omega
end Go.Proofs.YtebdepbnhemnpaaDoor
