/-
  RingCuts' state behind an append, and behind a cut: plain facts. Conditions: as named.
-/
import Derived.Test.YtebdepbnhemnpaaDoorRcSt
namespace Go.Proofs.YtebdepbnhemnpaaDoor
open Go.RowKit Go.Extern.Stop Go.Stop Go.Extern

theorem next_seq {s : CSt} {D : List Rec} (h : Inv s D) (n1 n2 n3 : Nat) : (nextR (last8 D) n1 n2 n3).seq = D.length + 1 := by
  show (lastR (last8 D)).seq + 1 = _
  rw [last8_last h]
theorem next_fits {s : CSt} {D : List Rec} (h : Inv s D) (n1 n2 n3 : Nat) (h1 : n1 ≤ 255) (h2 : n2 ≤ 255) (h3 : n3 ≤ 281474976710655) (hd : D.length ≤ 60) : (nextR (last8 D) n1 n2 n3).Fits := by
  have e := next_seq h n1 n2 n3
  exact ⟨by rw [e]; omega, by rw [e]; omega, by show n1 < 256; omega, by show n2 < 256; omega, by show n3 < 281474976710656; omega⟩

theorem RcSt.dv3 {w wc w3 : World} {bc rb : Nat} {v dv : Value} {D : List Rec} {s : CSt} {k : Nat} (ST : RcSt w wc bc rb v dv D s k) (O3 : Off (fun k => k = bc ∨ k = rb ∨ v.ownBlock = some k) wc w3) : Recs w3 w.heap.size dv D :=
  ST.recs.off O3 (fun g e hs => by
    obtain ⟨a, b, c⟩ := ST.sep g e
    rcases hs with h | h | h
    · exact c h
    · exact b h
    · exact a h)
theorem RcSt.bel3 {w wc w3 : World} {bc rb : Nat} {v dv : Value} {D : List Rec} {s : CSt} {k : Nat} (ST : RcSt w wc bc rb v dv D s k) (O3 : Off (fun k => k = bc ∨ k = rb ∨ v.ownBlock = some k) wc w3) : Below w.heap.size w w3 :=
  Off.below ST.bel O3 ST.bel.size (fun i hi => by
    rcases hi with h | h | h
    · have := ST.lob; omega
    · have := ST.ring.lo; omega
    · exact (ST.ring.recs.lt i h).1)

theorem RcSt.app {w wc w3 w4 w5 : World} {bc rb g cp n1 n2 n3 : Nat} {v dv v3 : Value} {D : List Rec} {s : CSt} {k : Nat} (ST : RcSt w wc bc rb v dv D s k) (hk : k < 60)
    (h1 : n1 ≤ 255) (h2 : n2 ≤ 255) (h3 : n3 ≤ 281474976710655) (hp : (s.putRec (nextR (last8 D) n1 n2 n3)).2 = 0)
    (R3 : RingAt w3 w.heap.size rb bc v3 (keepL (last8 D) (nextR (last8 D) n1 n2 n3)) false) (K3 : ∀ k, v3.ownBlock = some k → v.ownBlock = some k ∨ wc.heap.size ≤ k) (C3 : CellsAt w3 bc (s.putRec (nextR (last8 D) n1 n2 n3)).1) (O3 : Off (fun k => k = bc ∨ k = rb ∨ v.ownBlock = some k) wc w3)
    (B4 : Below w3.heap.size w3 w4) (hown : w5.ownsRow w.heap.size 64 4 (.slice (some ⟨g, 0, .none⟩) (D.length + 1) cp) (D.length + 1) (recCells D ++ (nextR (last8 D) n1 n2 n3).list)) (hg : w4.grownBy w5 dv.ownBlock) (hor : dv.ownBlock = some g ∨ g = w4.heap.size) :
    RcSt w w5 bc rb v3 (.slice (some ⟨g, 0, .none⟩) (D.length + 1) cp) (D ++ [nextR (last8 D) n1 n2 n3]) (s.putRec (nextR (last8 D) n1 n2 n3)).1 (k + 1) := by
  have hd := ST.dlen
  have hfit := next_fits ST.inv n1 n2 n3 h1 h2 h3 (by omega)
  have hseq := next_seq ST.inv n1 n2 n3
  have hdv : ∀ b, dv.ownBlock = some b → b < wc.heap.size := fun b e => (ST.recs.lt b e).2
  have o5 : Off (fun k => dv.ownBlock = some k) w4 w5 := ⟨hg.os, hg.tape, hg.output, hg.size, fun k hk hn => hg.block k hk (fun e => hn e.symm)⟩
  have R4 := R3.below B4
  have s3 := O3.size
  have s4 := B4.size
  have nv : ∀ b, dv.ownBlock = some b → v3.ownBlock ≠ some b := fun b e e2 => by
    rcases K3 b e2 with e3 | e3
    · exact (ST.sep b e).1 e3
    · have := hdv b e; omega
  have R5 := R4.off o5 (fun e => (ST.sep rb e).2.1 rfl) (fun b e e2 => nv b e2 e)
  have C5 := (C3.below B4).off o5 (fun e => (ST.sep bc e).2.2 rfl)
  rw [last8_keep] at R5
  have hq : ((nextR (last8 D) n1 n2 n3).seq - 1) % 9 = D.length % 9 := by rw [hseq, Nat.add_sub_cancel]
  have hpc := put_cases ST.inv.big ST.off (nextR (last8 D) n1 n2 n3)
  rw [hq] at hpc
  have hlow := put_low (n := 18 * (61 - (k + 1))) (nextR (last8 D) n1 n2 n3) (ST.low.mono (by omega))
  generalize nextR (last8 D) n1 n2 n3 = x at *
  rcases hpc with ⟨-, ho, hoff, henc⟩ | ⟨e8, -⟩
  · refine ⟨R5, C5, ST.inv.step ho hfit hseq henc, hoff, hlow, by rw [List.length_append, List.length_singleton]; omega, ?_, ?_, ST.ne, ST.lob, ?_⟩
    · show w5.ownsRow _ _ _ _ _ _
      rw [recCells_append, List.length_append]
      exact hown
    · intro b e
      have e2 : g = b := by simpa [Value.ownBlock] using e
      subst e2
      rcases hor with e3 | e3
      · exact ⟨nv g e3, (ST.sep g e3).2⟩
      · have l1 := R4.lt
        have l2 := (C3.below B4).lt
        exact ⟨fun e4 => by have := (R4.recs.lt g e4).2; omega, by omega, by omega⟩
    · have b3 := ST.bel3 O3
      have b4 := b3.trans (B4.mono b3.size)
      exact Off.below b4 o5 b4.size (fun i e => (ST.recs.lt i e).1)
  · rw [e8] at hp; cases hp

theorem RcSt.again {w wc w3 w4 w5 w6 : World} {bc rb rb' n1 n2 n3 : Nat} {v dv v' : Value} {D : List Rec} {s : CSt} {k : Nat} (ST : RcSt w wc bc rb v dv D s k) (hk : k < 60)
    (h8 : (s.putRec (nextR (last8 D) n1 n2 n3)).2 ≠ 0)
    (O3 : Off (fun k => k = bc ∨ k = rb ∨ v.ownBlock = some k) wc w3) (B4 : Below w3.heap.size w3 w4) (C5 : CellsAt w5 bc { (s.putRec (nextR (last8 D) n1 n2 n3)).1 with off := false, cut := false, left := 0 }) (hg5 : w4.grownBy w5 (some bc))
    (R6 : RingAt w6 w5.heap.size rb' bc v' (openL (s.putRec (nextR (last8 D) n1 n2 n3)).1.bytes) false) (B6 : Below w5.heap.size w5 w6) :
    (s.putRec (nextR (last8 D) n1 n2 n3)).2 = 8 ∧ RcSt w w6 bc rb' v' dv D { (s.putRec (nextR (last8 D) n1 n2 n3)).1 with off := false, cut := false, left := 0 } (k + 1) := by
  have hseq := next_seq ST.inv n1 n2 n3
  have hq : ((nextR (last8 D) n1 n2 n3).seq - 1) % 9 = D.length % 9 := by rw [hseq, Nat.add_sub_cancel]
  have hpc := put_cases ST.inv.big ST.off (nextR (last8 D) n1 n2 n3)
  rw [hq] at hpc
  have hlow := put_low (n := 18 * (61 - (k + 1))) (nextR (last8 D) n1 n2 n3) (ST.low.mono (by omega))
  generalize nextR (last8 D) n1 n2 n3 = x at *
  rcases hpc with ⟨e0, -⟩ | ⟨e8, ho, hsl⟩
  · exact absurd e0 h8
  · have hI := ST.inv.cut ho hsl
    rw [hI.opens] at R6
    have hd := ST.dlen
    have b3 := ST.bel3 O3
    have b4 := b3.trans (B4.mono b3.size)
    have b5 := below_grown b4 hg5 b4.size ST.lob
    have s3 := O3.size
    have s4 := B4.size
    have s5 := hg5.size
    have D5 : Recs w5 w.heap.size dv D := ((ST.dv3 O3).below B4 (Nat.le_refl _)).off (Off.of_grown hg5) (fun g e e2 => (ST.sep g e).2.2 e2)
    have hl6 := R6.lo
    have hc5 := C5.lt
    refine ⟨e8, ⟨⟨R6.heap, R6.recs.mono b5.size, R6.sep, Nat.le_trans b5.size hl6⟩, C5.below B6, hI.any rfl rfl, rfl, ⟨hlow.1, by show 0 ≤ _; omega⟩, by omega, D5.below B6 (Nat.le_refl _), ?_, by omega, ST.lob, b5.trans (B6.mono b5.size)⟩⟩
    intro b e
    have hb := (ST.recs.lt b e).2
    refine ⟨fun e2 => by have := (R6.recs.lt b e2).1; omega, by omega, (ST.sep b e).2.2⟩
end Go.Proofs.YtebdepbnhemnpaaDoor
