/-
  The document's status of all in memory ('TmIn'), its End told by a contract: TotPure's 'TSt'. Conditions: it lies in memory; the list too, at most a million long.
-/
import Derived.Test.YtgehlcmancdgcacDoorTotPure
import Derived.Test.YtgehlcmancdgcacDoorDcIdx
import Derived.Test.YtgehlcmancdgcacDoorCfCopy
import Derived.Maps.AppendAt
namespace Go.Proofs.YtgehlcmancdgcacDoor
open Go.RowKit Go.Extern.Stop Go.Stop Go.Extern

section
variable {w0 w w' : World} {b : Nat} {s s' : TSt}
def tmRow (s : TSt) : Array Value := #[.int .i64 (s.delay : Int), .int .i64 (s.since : Int), .string (totB s.st)]
structure TmIn (w0 w : World) (b : Nat) (s : TSt) : Prop where
  heap : w.heap[b]? = some (.cells (tmRow s) 61 (0, 0))
  bel : Below w0.heap.size w0 w
  lo : w0.heap.size ≤ b
theorem TmIn.below (h : TmIn w0 w b s) (hb : Below w.heap.size w w') : TmIn w0 w' b s := ⟨row_below hb h.heap, h.bel.trans (hb.mono h.bel.size), h.lo⟩
theorem idx_has (l : List ByteArray) (x : ByteArray) : (0 ≤ idxOf l x) ↔ hasB l x = true := by
  constructor
  · intro h
    cases hb : hasB l x with
    | true => rfl
    | false =>
      have : idxOf l x = -1 := idxOf_no (fun j y _ hy e => by
        have := List.any_eq_false.1 hb y (List.mem_of_getElem? hy)
        simp [e] at this)
      omega
  · intro h
    unfold hasB at h
    obtain ⟨y, hy, he⟩ := List.any_eq_true.1 h
    unfold idxOf
    split
    · omega
    · rename_i hn
      have := List.findIdx?_eq_none_iff.1 hn y hy
      rw [he] at this
      cases this
theorem gr_drewQ (w : World) (q : Nat) (r : Option Nat) : w.grownBy (w.drewN q) r := by
  have h := below_drewN (Below.refl w.heap.size w) q
  exact ⟨h.os, h.tape, h.output, h.size, fun k hk _ => h.block k hk⟩
theorem TmIn.put (h : TmIn w0 w b s) (j : Nat) (u : Value) (hr : (tmRow s).setIfInBounds j u = tmRow s') : TmIn w0 (w.setCell ⟨b, j, none⟩ u) b s' := by
  refine ⟨?_, h.bel.setCell (p := ⟨b, j, none⟩) h.lo _, h.lo⟩
  simp only [World.setCell, Array.getElem?_modify, h.heap]
  simp [← hr]
set_option maxHeartbeats 4000000 in
set_option maxRecDepth 100000 in
theorem tm_end {k : Nat} (l : List ByteArray) (sa : Option Addr) (cap : Nat) (h : TmIn w0 w b s) (hf : TFit s k) (hk : k ≤ 100000) (hl : ∀ V, w.grownBy V (some b) → SlAt encS 1 V (.slice sa l.length cap) l) (hn : l.length ≤ 1000000) :
    Calls Tryd.prog 28 #[.pointer (some ⟨b, 0, none⟩), .slice sa l.length cap] w fun v w' => v = .returned (.tuple #[]) ∧ TmIn w0 w' b (s.fin l) ∧ w.grownBy w' (some b) := by
  have HLs : Hid (∀ V, w.grownBy V (some b) → SlAt encS 1 V (.slice sa l.length cap) l) := hl
  have HN : Hid (l.length ≤ 1000000) := hn
  obtain ⟨d, si, st⟩ := s
  have hr := h.heap
  have c0 : w.cell? ⟨b, 0, none⟩ = some (.int .i64 (d : Int)) := by simp [World.cell?, hr, tmRow]
  have c1 : w.cell? ⟨b, 1, none⟩ = some (.int .i64 (si : Int)) := by simp [World.cell?, hr, tmRow]
  have c2' : w.cell? ⟨b, 2, none⟩ = some (.string (totB st)) := by simp [World.cell?, hr, tmRow]
  have q : ∀ i, w.frozen? ⟨b, i, none⟩ = false := fun i => by simp [World.frozen?, hr]
  have hst : st ≤ 3 := hf.st
  have hsi : si ≤ 100000 := Nat.le_trans hf.s0 hk
  have hz : st < 2 → si = 0 := hf.z
  have H : Hid (TmIn w0 w b ⟨d, si, st⟩) := h
  clear hr h hf hl hn hk
  have go : ∀ x, totB st = x → w.cell? ⟨b, 2, none⟩ = some (.string x) := fun x hx => by rw [← hx]; exact c2'
  clear c2'
  by_cases h3 : st = 3
  · subst h3
    have c2 := go ⟨#[115, 116, 111, 112, 112, 101, 100]⟩ rfl
    clear go
    go_enter Tryd.func28, Tryd.ntmps28
    go_wp2
    (try simp only [Exit.inBlock, Exit.then]); refine bodyPost_ret (results_none rfl _ _ _) rfl ?_
    exact ⟨rfl, H.out, World.grownBy.refl _ _⟩
  by_cases h2 : st = 2
  · subst h2
    have c2 := go ⟨#[101, 120, 112, 105, 114, 101, 100]⟩ rfl
    clear go
    go_enter Tryd.func28, Tryd.ntmps28
    go_upto_region 10 with fail
    obtain ⟨V, hV⟩ : ∃ V, V = w.setCell ⟨b, 1, none⟩ (.int .i64 ((si : Int) + 1)) := ⟨_, rfl⟩
    rw [← hV]
    have HV : Hid (TmIn w0 V b ⟨d, si + 1, 2⟩) := by show TmIn _ _ _ _; rw [hV]; exact H.out.put 1 _ (by simp [tmRow])
    have HG : Hid (w.grownBy V (some b)) := by show World.grownBy _ _ _; rw [hV]; exact grown_setCell _ _ _ _
    clear hV
    have e0 : V.cell? ⟨b, 0, none⟩ = some (.int .i64 (d : Int)) := by have := HV.out.heap; simp [World.cell?, this, tmRow]
    have e1 : V.cell? ⟨b, 1, none⟩ = some (.int .i64 ((si : Int) + 1)) := by have := HV.out.heap; simp [World.cell?, this, tmRow]
    have e2 : V.cell? ⟨b, 2, none⟩ = some (.string ⟨#[101, 120, 112, 105, 114, 101, 100]⟩) := by have := HV.out.heap; simp [World.cell?, this, tmRow, totB, expiredB]
    have q2 : ∀ i, V.frozen? ⟨b, i, none⟩ = false := fun i => by have := HV.out.heap; simp [World.frozen?, this]
    clear c0 c1 c2 q
    by_cases hd : si + 1 = d
    · have hd' : ((si : Int) + 1) = (d : Int) := by omega
      have HE : Hid (TSt.fin ⟨d, si, 2⟩ l = ⟨d, si + 1, 3⟩) := by show _ = _; rw [show TSt.fin ⟨d, si, 2⟩ l = TSt.cut ⟨d, si + 1, 2⟩ from rfl]; unfold TSt.cut; rw [if_pos ⟨rfl, hd⟩]
      go_quiet (fail)
      go_wp2
      go_end0
      exact ⟨rfl, by rw [HE.out]; exact (HV.out.below (below_drewN (Below.refl _ _) _)).put 2 _ rfl, (HG.out.trans (gr_drewQ _ _ _)).trans (grown_setCell _ _ _ _)⟩
    · have hd' : ¬ ((si : Int) + 1) = (d : Int) := by omega
      have HE : Hid (TSt.fin ⟨d, si, 2⟩ l = ⟨d, si + 1, 2⟩) := by show _ = _; rw [show TSt.fin ⟨d, si, 2⟩ l = TSt.cut ⟨d, si + 1, 2⟩ from rfl]; unfold TSt.cut; rw [if_neg (fun x => hd x.2)]
      go_quiet (fail)
      go_wp2
      go_end0
      exact ⟨rfl, by rw [HE.out]; exact HV.out.below (below_drewN (Below.refl _ _) _), HG.out.trans (gr_drewQ _ _ _)⟩
  obtain rfl : si = 0 := hz (by omega)
  have HW : Hid (TSt.fin ⟨d, 0, st⟩ l = TSt.cut ⟨d, 0, worstOf l⟩) := by show _ = _; unfold TSt.fin; rw [if_neg h3, if_neg h2]
  have h01 : st = 0 ∨ st = 1 := by omega
  clear hst h2 h3 hz
  rcases h01 with rfl | rfl
  · have c2 := go ⟨#[111, 107]⟩ rfl
    clear go
    cases hf : hasB l failedB
    · have g1 : ¬ 0 ≤ idxOf l ⟨#[102, 97, 105, 108, 101, 100]⟩ := fun x => by have := (idx_has l failedB).1 x; rw [hf] at this; cases this
      cases hx : hasB l expiredB
      · have g2 : ¬ 0 ≤ idxOf l ⟨#[101, 120, 112, 105, 114, 101, 100]⟩ := fun x => by have := (idx_has l expiredB).1 x; rw [hx] at this; cases this
        have HWo : Hid (worstOf l = 0) := by show _ = _; unfold worstOf; rw [if_neg (by rw [hx]; simp), if_neg (by rw [hf]; simp)]
        clear hf hx
        go_enter Tryd.func28, Tryd.ntmps28
        go_wp2_with fail
        refine (index_at l ⟨#[102, 97, 105, 108, 101, 100]⟩ sa cap _ (HLs.out _ (grown_setCell _ _ _ _)) HN.out).mono ?_
        rintro v w1 ⟨rfl, rfl⟩
        go_wp2_with fail
        refine (index_at l ⟨#[101, 120, 112, 105, 114, 101, 100]⟩ sa cap _ (HLs.out _ (grown_setCell _ _ _ _)) HN.out).mono ?_
        rintro v w2 ⟨rfl, rfl⟩
        go_upto_region 10 with fail
        obtain ⟨V, hV⟩ : ∃ V, V = w.setCell ⟨b, 2, none⟩ (.string ⟨#[111, 107]⟩) := ⟨_, rfl⟩
        rw [← hV]
        have HV : Hid (TmIn w0 V b ⟨d, 0, 0⟩) := by show TmIn _ _ _ _; rw [hV]; exact H.out.put (s' := ⟨d, 0, 0⟩) 2 _ (by simp [tmRow, totB])
        have HG : Hid (w.grownBy V (some b)) := by show World.grownBy _ _ _; rw [hV]; exact grown_setCell _ _ _ _
        clear hV
        have e0 : V.cell? ⟨b, 0, none⟩ = some (.int .i64 (d : Int)) := by have := HV.out.heap; simp [World.cell?, this, tmRow]
        have e1 : V.cell? ⟨b, 1, none⟩ = some (.int .i64 (0)) := by have := HV.out.heap; simp [World.cell?, this, tmRow]
        have e2 : V.cell? ⟨b, 2, none⟩ = some (.string ⟨#[111, 107]⟩) := by have := HV.out.heap; simp [World.cell?, this, tmRow, totB]
        have q2 : ∀ i, V.frozen? ⟨b, i, none⟩ = false := fun i => by have := HV.out.heap; simp [World.frozen?, this]
        clear c0 c1 c2 q
        have HE : Hid (TSt.fin ⟨d, 0, 0⟩ l = ⟨d, 0, 0⟩) := by show _ = _; rw [HW.out, HWo.out]; unfold TSt.cut; rw [if_neg (fun x => by have : (0 : Nat) = 2 := x.1; omega)]
        go_quiet (fail)
        go_wp2
        go_end0
        exact ⟨rfl, by rw [HE.out]; exact HV.out.below (below_drewN (Below.refl _ _) _), HG.out.trans (gr_drewQ _ _ _)⟩
      · have g2 : 0 ≤ idxOf l ⟨#[101, 120, 112, 105, 114, 101, 100]⟩ := (idx_has l expiredB).2 hx
        have HWo : Hid (worstOf l = 2) := by show _ = _; unfold worstOf; rw [if_pos hx]
        clear hf hx
        go_enter Tryd.func28, Tryd.ntmps28
        go_wp2_with fail
        refine (index_at l ⟨#[102, 97, 105, 108, 101, 100]⟩ sa cap _ (HLs.out _ (grown_setCell _ _ _ _)) HN.out).mono ?_
        rintro v w1 ⟨rfl, rfl⟩
        go_wp2_with fail
        refine (index_at l ⟨#[101, 120, 112, 105, 114, 101, 100]⟩ sa cap _ (HLs.out _ (grown_setCell _ _ _ _)) HN.out).mono ?_
        rintro v w2 ⟨rfl, rfl⟩
        go_upto_region 10 with fail
        obtain ⟨V, hV⟩ : ∃ V, V = ((w.setCell ⟨b, 2, none⟩ (.string ⟨#[111, 107]⟩)).setCell ⟨b, 2, none⟩ (.string ⟨#[101, 120, 112, 105, 114, 101, 100]⟩)).setCell ⟨b, 1, none⟩ (.int .i64 0) := ⟨_, rfl⟩
        rw [← hV]
        have HV : Hid (TmIn w0 V b ⟨d, 0, 2⟩) := by show TmIn _ _ _ _; rw [hV]; exact ((H.out.put (s' := ⟨d, 0, 0⟩) 2 _ (by simp [tmRow, totB])).put (s' := ⟨d, 0, 2⟩) 2 _ (by simp [tmRow, totB, expiredB])).put (s' := ⟨d, 0, 2⟩) 1 _ (by simp [tmRow])
        have HG : Hid (w.grownBy V (some b)) := by show World.grownBy _ _ _; rw [hV]; exact ((grown_setCell _ _ _ _).trans (grown_setCell _ _ _ _)).trans (grown_setCell _ _ _ _)
        clear hV
        have e0 : V.cell? ⟨b, 0, none⟩ = some (.int .i64 (d : Int)) := by have := HV.out.heap; simp [World.cell?, this, tmRow]
        have e1 : V.cell? ⟨b, 1, none⟩ = some (.int .i64 (0)) := by have := HV.out.heap; simp [World.cell?, this, tmRow]
        have e2 : V.cell? ⟨b, 2, none⟩ = some (.string ⟨#[101, 120, 112, 105, 114, 101, 100]⟩) := by have := HV.out.heap; simp [World.cell?, this, tmRow, totB, expiredB]
        have q2 : ∀ i, V.frozen? ⟨b, i, none⟩ = false := fun i => by have := HV.out.heap; simp [World.frozen?, this]
        clear c0 c1 c2 q
        by_cases hd : d = 0
        · subst hd
          have HE : Hid (TSt.fin ⟨0, 0, 0⟩ l = ⟨0, 0, 3⟩) := by show _ = _; rw [HW.out, HWo.out]; unfold TSt.cut; rw [if_pos ⟨rfl, rfl⟩]
          simp only [Int.ofNat_zero] at e0
          go_quiet (fail)
          go_wp2
          go_end0
          exact ⟨rfl, by rw [HE.out]; exact (HV.out.below (below_drewN (Below.refl _ _) _)).put 2 _ rfl, (HG.out.trans (gr_drewQ _ _ _)).trans (grown_setCell _ _ _ _)⟩
        · have hd' : ¬ (0 : Int) = (d : Int) := by omega
          have hd2 : ¬ (d : Int) = 0 := by omega
          have HE : Hid (TSt.fin ⟨d, 0, 0⟩ l = ⟨d, 0, 2⟩) := by show _ = _; rw [HW.out, HWo.out]; unfold TSt.cut; rw [if_neg (fun x => hd x.2.symm)]
          go_quiet (fail)
          go_wp2
          go_end0
          exact ⟨rfl, by rw [HE.out]; exact HV.out.below (below_drewN (Below.refl _ _) _), HG.out.trans (gr_drewQ _ _ _)⟩
    · have g1 : 0 ≤ idxOf l ⟨#[102, 97, 105, 108, 101, 100]⟩ := (idx_has l failedB).2 hf
      cases hx : hasB l expiredB
      · have g2 : ¬ 0 ≤ idxOf l ⟨#[101, 120, 112, 105, 114, 101, 100]⟩ := fun x => by have := (idx_has l expiredB).1 x; rw [hx] at this; cases this
        have HWo : Hid (worstOf l = 1) := by show _ = _; unfold worstOf; rw [if_neg (by rw [hx]; simp), if_pos hf]
        clear hf hx
        go_enter Tryd.func28, Tryd.ntmps28
        go_wp2_with fail
        refine (index_at l ⟨#[102, 97, 105, 108, 101, 100]⟩ sa cap _ (HLs.out _ (grown_setCell _ _ _ _)) HN.out).mono ?_
        rintro v w1 ⟨rfl, rfl⟩
        go_wp2_with fail
        refine (index_at l ⟨#[101, 120, 112, 105, 114, 101, 100]⟩ sa cap _ (HLs.out _ ((grown_setCell _ _ _ _).trans (grown_setCell _ _ _ _))) HN.out).mono ?_
        rintro v w2 ⟨rfl, rfl⟩
        go_upto_region 10 with fail
        obtain ⟨V, hV⟩ : ∃ V, V = (w.setCell ⟨b, 2, none⟩ (.string ⟨#[111, 107]⟩)).setCell ⟨b, 2, none⟩ (.string ⟨#[102, 97, 105, 108, 101, 100]⟩) := ⟨_, rfl⟩
        rw [← hV]
        have HV : Hid (TmIn w0 V b ⟨d, 0, 1⟩) := by show TmIn _ _ _ _; rw [hV]; exact (H.out.put (s' := ⟨d, 0, 0⟩) 2 _ (by simp [tmRow, totB])).put (s' := ⟨d, 0, 1⟩) 2 _ (by simp [tmRow, totB, failedB])
        have HG : Hid (w.grownBy V (some b)) := by show World.grownBy _ _ _; rw [hV]; exact (grown_setCell _ _ _ _).trans (grown_setCell _ _ _ _)
        clear hV
        have e0 : V.cell? ⟨b, 0, none⟩ = some (.int .i64 (d : Int)) := by have := HV.out.heap; simp [World.cell?, this, tmRow]
        have e1 : V.cell? ⟨b, 1, none⟩ = some (.int .i64 (0)) := by have := HV.out.heap; simp [World.cell?, this, tmRow]
        have e2 : V.cell? ⟨b, 2, none⟩ = some (.string ⟨#[102, 97, 105, 108, 101, 100]⟩) := by have := HV.out.heap; simp [World.cell?, this, tmRow, totB, failedB]
        have q2 : ∀ i, V.frozen? ⟨b, i, none⟩ = false := fun i => by have := HV.out.heap; simp [World.frozen?, this]
        clear c0 c1 c2 q
        have HE : Hid (TSt.fin ⟨d, 0, 0⟩ l = ⟨d, 0, 1⟩) := by show _ = _; rw [HW.out, HWo.out]; unfold TSt.cut; rw [if_neg (fun x => by have : (1 : Nat) = 2 := x.1; omega)]
        go_quiet (fail)
        go_wp2
        go_end0
        exact ⟨rfl, by rw [HE.out]; exact HV.out.below (below_drewN (Below.refl _ _) _), HG.out.trans (gr_drewQ _ _ _)⟩
      · have g2 : 0 ≤ idxOf l ⟨#[101, 120, 112, 105, 114, 101, 100]⟩ := (idx_has l expiredB).2 hx
        have HWo : Hid (worstOf l = 2) := by show _ = _; unfold worstOf; rw [if_pos hx]
        clear hf hx
        go_enter Tryd.func28, Tryd.ntmps28
        go_wp2_with fail
        refine (index_at l ⟨#[102, 97, 105, 108, 101, 100]⟩ sa cap _ (HLs.out _ (grown_setCell _ _ _ _)) HN.out).mono ?_
        rintro v w1 ⟨rfl, rfl⟩
        go_wp2_with fail
        refine (index_at l ⟨#[101, 120, 112, 105, 114, 101, 100]⟩ sa cap _ (HLs.out _ ((grown_setCell _ _ _ _).trans (grown_setCell _ _ _ _))) HN.out).mono ?_
        rintro v w2 ⟨rfl, rfl⟩
        go_upto_region 10 with fail
        obtain ⟨V, hV⟩ : ∃ V, V = (((w.setCell ⟨b, 2, none⟩ (.string ⟨#[111, 107]⟩)).setCell ⟨b, 2, none⟩ (.string ⟨#[102, 97, 105, 108, 101, 100]⟩)).setCell ⟨b, 2, none⟩ (.string ⟨#[101, 120, 112, 105, 114, 101, 100]⟩)).setCell ⟨b, 1, none⟩ (.int .i64 0) := ⟨_, rfl⟩
        rw [← hV]
        have HV : Hid (TmIn w0 V b ⟨d, 0, 2⟩) := by show TmIn _ _ _ _; rw [hV]; exact (((H.out.put (s' := ⟨d, 0, 0⟩) 2 _ (by simp [tmRow, totB])).put (s' := ⟨d, 0, 1⟩) 2 _ (by simp [tmRow, totB, failedB])).put (s' := ⟨d, 0, 2⟩) 2 _ (by simp [tmRow, totB, expiredB])).put (s' := ⟨d, 0, 2⟩) 1 _ (by simp [tmRow])
        have HG : Hid (w.grownBy V (some b)) := by show World.grownBy _ _ _; rw [hV]; exact (((grown_setCell _ _ _ _).trans (grown_setCell _ _ _ _)).trans (grown_setCell _ _ _ _)).trans (grown_setCell _ _ _ _)
        clear hV
        have e0 : V.cell? ⟨b, 0, none⟩ = some (.int .i64 (d : Int)) := by have := HV.out.heap; simp [World.cell?, this, tmRow]
        have e1 : V.cell? ⟨b, 1, none⟩ = some (.int .i64 (0)) := by have := HV.out.heap; simp [World.cell?, this, tmRow]
        have e2 : V.cell? ⟨b, 2, none⟩ = some (.string ⟨#[101, 120, 112, 105, 114, 101, 100]⟩) := by have := HV.out.heap; simp [World.cell?, this, tmRow, totB, expiredB]
        have q2 : ∀ i, V.frozen? ⟨b, i, none⟩ = false := fun i => by have := HV.out.heap; simp [World.frozen?, this]
        clear c0 c1 c2 q
        by_cases hd : d = 0
        · subst hd
          have HE : Hid (TSt.fin ⟨0, 0, 0⟩ l = ⟨0, 0, 3⟩) := by show _ = _; rw [HW.out, HWo.out]; unfold TSt.cut; rw [if_pos ⟨rfl, rfl⟩]
          simp only [Int.ofNat_zero] at e0
          go_quiet (fail)
          go_wp2
          go_end0
          exact ⟨rfl, by rw [HE.out]; exact (HV.out.below (below_drewN (Below.refl _ _) _)).put 2 _ rfl, (HG.out.trans (gr_drewQ _ _ _)).trans (grown_setCell _ _ _ _)⟩
        · have hd' : ¬ (0 : Int) = (d : Int) := by omega
          have hd2 : ¬ (d : Int) = 0 := by omega
          have HE : Hid (TSt.fin ⟨d, 0, 0⟩ l = ⟨d, 0, 2⟩) := by show _ = _; rw [HW.out, HWo.out]; unfold TSt.cut; rw [if_neg (fun x => hd x.2.symm)]
          go_quiet (fail)
          go_wp2
          go_end0
          exact ⟨rfl, by rw [HE.out]; exact HV.out.below (below_drewN (Below.refl _ _) _), HG.out.trans (gr_drewQ _ _ _)⟩
  · have c2 := go ⟨#[102, 97, 105, 108, 101, 100]⟩ rfl
    clear go
    cases hf : hasB l failedB
    · have g1 : ¬ 0 ≤ idxOf l ⟨#[102, 97, 105, 108, 101, 100]⟩ := fun x => by have := (idx_has l failedB).1 x; rw [hf] at this; cases this
      cases hx : hasB l expiredB
      · have g2 : ¬ 0 ≤ idxOf l ⟨#[101, 120, 112, 105, 114, 101, 100]⟩ := fun x => by have := (idx_has l expiredB).1 x; rw [hx] at this; cases this
        have HWo : Hid (worstOf l = 0) := by show _ = _; unfold worstOf; rw [if_neg (by rw [hx]; simp), if_neg (by rw [hf]; simp)]
        clear hf hx
        go_enter Tryd.func28, Tryd.ntmps28
        go_wp2_with fail
        refine (index_at l ⟨#[102, 97, 105, 108, 101, 100]⟩ sa cap _ (HLs.out _ (grown_setCell _ _ _ _)) HN.out).mono ?_
        rintro v w1 ⟨rfl, rfl⟩
        go_wp2_with fail
        refine (index_at l ⟨#[101, 120, 112, 105, 114, 101, 100]⟩ sa cap _ (HLs.out _ (grown_setCell _ _ _ _)) HN.out).mono ?_
        rintro v w2 ⟨rfl, rfl⟩
        go_upto_region 10 with fail
        obtain ⟨V, hV⟩ : ∃ V, V = w.setCell ⟨b, 2, none⟩ (.string ⟨#[111, 107]⟩) := ⟨_, rfl⟩
        rw [← hV]
        have HV : Hid (TmIn w0 V b ⟨d, 0, 0⟩) := by show TmIn _ _ _ _; rw [hV]; exact H.out.put (s' := ⟨d, 0, 0⟩) 2 _ (by simp [tmRow, totB])
        have HG : Hid (w.grownBy V (some b)) := by show World.grownBy _ _ _; rw [hV]; exact grown_setCell _ _ _ _
        clear hV
        have e0 : V.cell? ⟨b, 0, none⟩ = some (.int .i64 (d : Int)) := by have := HV.out.heap; simp [World.cell?, this, tmRow]
        have e1 : V.cell? ⟨b, 1, none⟩ = some (.int .i64 (0)) := by have := HV.out.heap; simp [World.cell?, this, tmRow]
        have e2 : V.cell? ⟨b, 2, none⟩ = some (.string ⟨#[111, 107]⟩) := by have := HV.out.heap; simp [World.cell?, this, tmRow, totB]
        have q2 : ∀ i, V.frozen? ⟨b, i, none⟩ = false := fun i => by have := HV.out.heap; simp [World.frozen?, this]
        clear c0 c1 c2 q
        have HE : Hid (TSt.fin ⟨d, 0, 1⟩ l = ⟨d, 0, 0⟩) := by show _ = _; rw [HW.out, HWo.out]; unfold TSt.cut; rw [if_neg (fun x => by have : (0 : Nat) = 2 := x.1; omega)]
        go_quiet (fail)
        go_wp2
        go_end0
        exact ⟨rfl, by rw [HE.out]; exact HV.out.below (below_drewN (Below.refl _ _) _), HG.out.trans (gr_drewQ _ _ _)⟩
      · have g2 : 0 ≤ idxOf l ⟨#[101, 120, 112, 105, 114, 101, 100]⟩ := (idx_has l expiredB).2 hx
        have HWo : Hid (worstOf l = 2) := by show _ = _; unfold worstOf; rw [if_pos hx]
        clear hf hx
        go_enter Tryd.func28, Tryd.ntmps28
        go_wp2_with fail
        refine (index_at l ⟨#[102, 97, 105, 108, 101, 100]⟩ sa cap _ (HLs.out _ (grown_setCell _ _ _ _)) HN.out).mono ?_
        rintro v w1 ⟨rfl, rfl⟩
        go_wp2_with fail
        refine (index_at l ⟨#[101, 120, 112, 105, 114, 101, 100]⟩ sa cap _ (HLs.out _ (grown_setCell _ _ _ _)) HN.out).mono ?_
        rintro v w2 ⟨rfl, rfl⟩
        go_upto_region 10 with fail
        obtain ⟨V, hV⟩ : ∃ V, V = ((w.setCell ⟨b, 2, none⟩ (.string ⟨#[111, 107]⟩)).setCell ⟨b, 2, none⟩ (.string ⟨#[101, 120, 112, 105, 114, 101, 100]⟩)).setCell ⟨b, 1, none⟩ (.int .i64 0) := ⟨_, rfl⟩
        rw [← hV]
        have HV : Hid (TmIn w0 V b ⟨d, 0, 2⟩) := by show TmIn _ _ _ _; rw [hV]; exact ((H.out.put (s' := ⟨d, 0, 0⟩) 2 _ (by simp [tmRow, totB])).put (s' := ⟨d, 0, 2⟩) 2 _ (by simp [tmRow, totB, expiredB])).put (s' := ⟨d, 0, 2⟩) 1 _ (by simp [tmRow])
        have HG : Hid (w.grownBy V (some b)) := by show World.grownBy _ _ _; rw [hV]; exact ((grown_setCell _ _ _ _).trans (grown_setCell _ _ _ _)).trans (grown_setCell _ _ _ _)
        clear hV
        have e0 : V.cell? ⟨b, 0, none⟩ = some (.int .i64 (d : Int)) := by have := HV.out.heap; simp [World.cell?, this, tmRow]
        have e1 : V.cell? ⟨b, 1, none⟩ = some (.int .i64 (0)) := by have := HV.out.heap; simp [World.cell?, this, tmRow]
        have e2 : V.cell? ⟨b, 2, none⟩ = some (.string ⟨#[101, 120, 112, 105, 114, 101, 100]⟩) := by have := HV.out.heap; simp [World.cell?, this, tmRow, totB, expiredB]
        have q2 : ∀ i, V.frozen? ⟨b, i, none⟩ = false := fun i => by have := HV.out.heap; simp [World.frozen?, this]
        clear c0 c1 c2 q
        by_cases hd : d = 0
        · subst hd
          have HE : Hid (TSt.fin ⟨0, 0, 1⟩ l = ⟨0, 0, 3⟩) := by show _ = _; rw [HW.out, HWo.out]; unfold TSt.cut; rw [if_pos ⟨rfl, rfl⟩]
          simp only [Int.ofNat_zero] at e0
          go_quiet (fail)
          go_wp2
          go_end0
          exact ⟨rfl, by rw [HE.out]; exact (HV.out.below (below_drewN (Below.refl _ _) _)).put 2 _ rfl, (HG.out.trans (gr_drewQ _ _ _)).trans (grown_setCell _ _ _ _)⟩
        · have hd' : ¬ (0 : Int) = (d : Int) := by omega
          have hd2 : ¬ (d : Int) = 0 := by omega
          have HE : Hid (TSt.fin ⟨d, 0, 1⟩ l = ⟨d, 0, 2⟩) := by show _ = _; rw [HW.out, HWo.out]; unfold TSt.cut; rw [if_neg (fun x => hd x.2.symm)]
          go_quiet (fail)
          go_wp2
          go_end0
          exact ⟨rfl, by rw [HE.out]; exact HV.out.below (below_drewN (Below.refl _ _) _), HG.out.trans (gr_drewQ _ _ _)⟩
    · have g1 : 0 ≤ idxOf l ⟨#[102, 97, 105, 108, 101, 100]⟩ := (idx_has l failedB).2 hf
      cases hx : hasB l expiredB
      · have g2 : ¬ 0 ≤ idxOf l ⟨#[101, 120, 112, 105, 114, 101, 100]⟩ := fun x => by have := (idx_has l expiredB).1 x; rw [hx] at this; cases this
        have HWo : Hid (worstOf l = 1) := by show _ = _; unfold worstOf; rw [if_neg (by rw [hx]; simp), if_pos hf]
        clear hf hx
        go_enter Tryd.func28, Tryd.ntmps28
        go_wp2_with fail
        refine (index_at l ⟨#[102, 97, 105, 108, 101, 100]⟩ sa cap _ (HLs.out _ (grown_setCell _ _ _ _)) HN.out).mono ?_
        rintro v w1 ⟨rfl, rfl⟩
        go_wp2_with fail
        refine (index_at l ⟨#[101, 120, 112, 105, 114, 101, 100]⟩ sa cap _ (HLs.out _ ((grown_setCell _ _ _ _).trans (grown_setCell _ _ _ _))) HN.out).mono ?_
        rintro v w2 ⟨rfl, rfl⟩
        go_upto_region 10 with fail
        obtain ⟨V, hV⟩ : ∃ V, V = (w.setCell ⟨b, 2, none⟩ (.string ⟨#[111, 107]⟩)).setCell ⟨b, 2, none⟩ (.string ⟨#[102, 97, 105, 108, 101, 100]⟩) := ⟨_, rfl⟩
        rw [← hV]
        have HV : Hid (TmIn w0 V b ⟨d, 0, 1⟩) := by show TmIn _ _ _ _; rw [hV]; exact (H.out.put (s' := ⟨d, 0, 0⟩) 2 _ (by simp [tmRow, totB])).put (s' := ⟨d, 0, 1⟩) 2 _ (by simp [tmRow, totB, failedB])
        have HG : Hid (w.grownBy V (some b)) := by show World.grownBy _ _ _; rw [hV]; exact (grown_setCell _ _ _ _).trans (grown_setCell _ _ _ _)
        clear hV
        have e0 : V.cell? ⟨b, 0, none⟩ = some (.int .i64 (d : Int)) := by have := HV.out.heap; simp [World.cell?, this, tmRow]
        have e1 : V.cell? ⟨b, 1, none⟩ = some (.int .i64 (0)) := by have := HV.out.heap; simp [World.cell?, this, tmRow]
        have e2 : V.cell? ⟨b, 2, none⟩ = some (.string ⟨#[102, 97, 105, 108, 101, 100]⟩) := by have := HV.out.heap; simp [World.cell?, this, tmRow, totB, failedB]
        have q2 : ∀ i, V.frozen? ⟨b, i, none⟩ = false := fun i => by have := HV.out.heap; simp [World.frozen?, this]
        clear c0 c1 c2 q
        have HE : Hid (TSt.fin ⟨d, 0, 1⟩ l = ⟨d, 0, 1⟩) := by show _ = _; rw [HW.out, HWo.out]; unfold TSt.cut; rw [if_neg (fun x => by have : (1 : Nat) = 2 := x.1; omega)]
        go_quiet (fail)
        go_wp2
        go_end0
        exact ⟨rfl, by rw [HE.out]; exact HV.out.below (below_drewN (Below.refl _ _) _), HG.out.trans (gr_drewQ _ _ _)⟩
      · have g2 : 0 ≤ idxOf l ⟨#[101, 120, 112, 105, 114, 101, 100]⟩ := (idx_has l expiredB).2 hx
        have HWo : Hid (worstOf l = 2) := by show _ = _; unfold worstOf; rw [if_pos hx]
        clear hf hx
        go_enter Tryd.func28, Tryd.ntmps28
        go_wp2_with fail
        refine (index_at l ⟨#[102, 97, 105, 108, 101, 100]⟩ sa cap _ (HLs.out _ (grown_setCell _ _ _ _)) HN.out).mono ?_
        rintro v w1 ⟨rfl, rfl⟩
        go_wp2_with fail
        refine (index_at l ⟨#[101, 120, 112, 105, 114, 101, 100]⟩ sa cap _ (HLs.out _ ((grown_setCell _ _ _ _).trans (grown_setCell _ _ _ _))) HN.out).mono ?_
        rintro v w2 ⟨rfl, rfl⟩
        go_upto_region 10 with fail
        obtain ⟨V, hV⟩ : ∃ V, V = (((w.setCell ⟨b, 2, none⟩ (.string ⟨#[111, 107]⟩)).setCell ⟨b, 2, none⟩ (.string ⟨#[102, 97, 105, 108, 101, 100]⟩)).setCell ⟨b, 2, none⟩ (.string ⟨#[101, 120, 112, 105, 114, 101, 100]⟩)).setCell ⟨b, 1, none⟩ (.int .i64 0) := ⟨_, rfl⟩
        rw [← hV]
        have HV : Hid (TmIn w0 V b ⟨d, 0, 2⟩) := by show TmIn _ _ _ _; rw [hV]; exact (((H.out.put (s' := ⟨d, 0, 0⟩) 2 _ (by simp [tmRow, totB])).put (s' := ⟨d, 0, 1⟩) 2 _ (by simp [tmRow, totB, failedB])).put (s' := ⟨d, 0, 2⟩) 2 _ (by simp [tmRow, totB, expiredB])).put (s' := ⟨d, 0, 2⟩) 1 _ (by simp [tmRow])
        have HG : Hid (w.grownBy V (some b)) := by show World.grownBy _ _ _; rw [hV]; exact (((grown_setCell _ _ _ _).trans (grown_setCell _ _ _ _)).trans (grown_setCell _ _ _ _)).trans (grown_setCell _ _ _ _)
        clear hV
        have e0 : V.cell? ⟨b, 0, none⟩ = some (.int .i64 (d : Int)) := by have := HV.out.heap; simp [World.cell?, this, tmRow]
        have e1 : V.cell? ⟨b, 1, none⟩ = some (.int .i64 (0)) := by have := HV.out.heap; simp [World.cell?, this, tmRow]
        have e2 : V.cell? ⟨b, 2, none⟩ = some (.string ⟨#[101, 120, 112, 105, 114, 101, 100]⟩) := by have := HV.out.heap; simp [World.cell?, this, tmRow, totB, expiredB]
        have q2 : ∀ i, V.frozen? ⟨b, i, none⟩ = false := fun i => by have := HV.out.heap; simp [World.frozen?, this]
        clear c0 c1 c2 q
        by_cases hd : d = 0
        · subst hd
          have HE : Hid (TSt.fin ⟨0, 0, 1⟩ l = ⟨0, 0, 3⟩) := by show _ = _; rw [HW.out, HWo.out]; unfold TSt.cut; rw [if_pos ⟨rfl, rfl⟩]
          simp only [Int.ofNat_zero] at e0
          go_quiet (fail)
          go_wp2
          go_end0
          exact ⟨rfl, by rw [HE.out]; exact (HV.out.below (below_drewN (Below.refl _ _) _)).put 2 _ rfl, (HG.out.trans (gr_drewQ _ _ _)).trans (grown_setCell _ _ _ _)⟩
        · have hd' : ¬ (0 : Int) = (d : Int) := by omega
          have hd2 : ¬ (d : Int) = 0 := by omega
          have HE : Hid (TSt.fin ⟨d, 0, 1⟩ l = ⟨d, 0, 2⟩) := by show _ = _; rw [HW.out, HWo.out]; unfold TSt.cut; rw [if_neg (fun x => hd x.2.symm)]
          go_quiet (fail)
          go_wp2
          go_end0
          exact ⟨rfl, by rw [HE.out]; exact HV.out.below (below_drewN (Below.refl _ _) _), HG.out.trans (gr_drewQ _ _ _)⟩
end
end Go.Proofs.YtgehlcmancdgcacDoor
