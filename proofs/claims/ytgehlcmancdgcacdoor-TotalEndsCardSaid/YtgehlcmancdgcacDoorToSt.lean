/-
  package total by contracts over the object in memory ('ToIn'): TotPure's 'TSt'. Conditions: it lies in memory; the list too, at most a million long.
-/
import Derived.Test.YtgehlcmancdgcacDoorTotPure
import Derived.Test.YtgehlcmancdgcacDoorDcIdx
import Derived.Test.YtgehlcmancdgcacDoorCfCopy
import Derived.Test.YtgehlcmancdgcacDoorOffs
import Derived.BigQuiet
import Derived.Deep.QuietTactic
import Derived.Deep.DeepCutAuto
import Derived.WalkSmall
import Derived.Maps.AppendAt
namespace Go.Proofs.YtgehlcmancdgcacDoor
open Go.RowKit Go.Extern.Stop Go.Stop Go.Extern

section
variable {w0 w1 w w' : World} {b : Nat} {s s' : TSt}
/-- The status, and how many cycles are left from expired to stopped. -/
def toRow (s : TSt) : Array Value := #[.string (totB s.st), .int .i64 ((s.delay : Int) - (s.since : Int))]
structure ToIn (w0 w : World) (b : Nat) (s : TSt) : Prop where
  heap : w.heap[b]? = some (.cells (toRow s) 87 (0, 0))
  bel : Below w0.heap.size w0 w
  lo : w0.heap.size ≤ b
theorem ToIn.below (h : ToIn w0 w b s) (hb : Below w.heap.size w w') : ToIn w0 w' b s := ⟨row_below hb h.heap, h.bel.trans (hb.mono h.bel.size), h.lo⟩
theorem ToIn.from (h : ToIn w1 w b s) (hb : Below w0.heap.size w0 w1) : ToIn w0 w b s := ⟨h.heap, hb.trans (h.bel.mono hb.size), Nat.le_trans hb.size h.lo⟩
/-- All but package total's own blocks is as it was. -/
def FrTo (w w' : World) : Prop := ∀ (k : Nat) (c : Array Value) (T : TypeId) (fr : Nat × Nat), w.heap[k]? = some (.cells c T fr) → T ≠ 87 → w'.heap[k]? = some (.cells c T fr)
theorem FrTo.refl (w : World) : FrTo w w := fun _ _ _ _ h _ => h
theorem ToIn.frTo (h : ToIn w0 w b s) (hg : w.grownBy w' (some b)) : FrTo w w' := fun k c T fr hk hT => by
  refine (hg.block k (lt_of_row hk) (fun e => ?_)).trans hk
  obtain rfl := Option.some.inj e
  rw [h.heap] at hk
  simp only [Option.some.injEq, Obj.cells.injEq] at hk
  exact hT hk.2.1.symm
/-- Whatever block of another type is written. -/
theorem ToIn.other {b' : Nat} {c : Array Value} {T : TypeId} {fr : Nat × Nat} (h : ToIn w0 w b s) (hg : w.grownBy w' (some b')) (hb : w.heap[b']? = some (.cells c T fr)) (hT : T ≠ 87) (hB : Below w0.heap.size w0 w') : ToIn w0 w' b s := by
  refine ⟨(hg.block b (lt_of_row h.heap) (fun e => ?_)).trans h.heap, hB, h.lo⟩
  obtain rfl := Option.some.inj e
  rw [h.heap] at hb
  simp only [Option.some.injEq, Obj.cells.injEq] at hb
  exact hT hb.2.1.symm
theorem to_new (d : Nat) (w : World) (hd : d ≤ 20) :
    Calls Tryd.prog 24 #[.int .i64 (d : Int)] w fun v w' => ∃ b, v = .returned (.tuple #[.pointer (some ⟨b, 0, none⟩), .nilIface]) ∧ ToIn w w' b (TSt.new d) := by
  have g1 : ¬ (d : Int) < 0 := by omega
  have g2 : ¬ 20 < (d : Int) := by omega
  have e : toRow (TSt.new d) = #[.string ⟨#[111, 107]⟩, .int .i64 (d : Int)] := by simp [toRow, TSt.new, totB]
  have HE : Hid (toRow (TSt.new d) = #[.string ⟨#[111, 107]⟩, .int .i64 (d : Int)]) := e
  clear e
  go_enter Tryd.func24, Tryd.ntmps24
  go_wp2
  go_ret2
  exact ⟨w.heap.size, rfl, by rw [HE.out]; exact heap_alloc_new w _, Below.one _ _, Nat.le_refl _⟩
theorem to_new_bad (d : Int) (x : Value) (w : World) (hd : d < 0 ∨ 20 < d) (hx : w.cell? ⟨3, 0, none⟩ = some x) :
    Calls Tryd.prog 24 #[.int .i64 d] w fun v w' => v = .returned (.tuple #[.pointer none, x]) ∧ Below w.heap.size w w' := by
  by_cases g1 : d < 0
  · go_enter Tryd.func24, Tryd.ntmps24
    go_wp2_with fail
    go_quiet (fail)
    go_wp2
    go_ret2
    exact ⟨rfl, below_drewN (Below.refl _ _) _⟩
  · have g2 : 20 < d := by omega
    go_enter Tryd.func24, Tryd.ntmps24
    go_wp2_with fail
    go_quiet (fail)
    go_wp2
    go_ret2
    exact ⟨rfl, below_drewN (Below.refl _ _) _⟩
theorem to_status (h : ToIn w0 w b s) :
    Calls Tryd.prog 27 #[.pointer (some ⟨b, 0, none⟩)] w fun v w' => v = .returned (.string (totB s.st)) ∧ w' = w := by
  have hr := h.heap
  have c0 : w.cell? ⟨b, 0, none⟩ = some (.string (totB s.st)) := by simp [World.cell?, hr, toRow]
  clear h hr
  go_enter Tryd.func27, Tryd.ntmps27
  go_wp2
  go_ret
  exact ⟨rfl, rfl⟩
theorem to_may (h : ToIn w0 w b s) (hs : s.st ≤ 3) :
    Calls Tryd.prog 26 #[.pointer (some ⟨b, 0, none⟩)] w fun v w' => v = .returned (.bool (decide (s.st ≠ 3))) ∧ w' = w := by
  have hr := h.heap
  have c2 : ∀ x, totB s.st = x → w.cell? ⟨b, 0, none⟩ = some (.string x) := fun x hx => by simp [World.cell?, hr, hx, toRow]
  obtain ⟨d, si, st⟩ := s
  clear h hr
  have hs' : st ≤ 3 := hs
  match st, hs' with
  | 0, _ =>
    have c := c2 ⟨#[111, 107]⟩ rfl
    clear c2
    go_enter Tryd.func26, Tryd.ntmps26
    go_wp2
    go_ret
    exact ⟨rfl, rfl⟩
  | 1, _ =>
    have c := c2 ⟨#[102, 97, 105, 108, 101, 100]⟩ rfl
    clear c2
    go_enter Tryd.func26, Tryd.ntmps26
    go_wp2
    go_ret
    exact ⟨rfl, rfl⟩
  | 2, _ =>
    have c := c2 ⟨#[101, 120, 112, 105, 114, 101, 100]⟩ rfl
    clear c2
    go_enter Tryd.func26, Tryd.ntmps26
    go_wp2
    go_ret
    exact ⟨rfl, rfl⟩
  | 3, _ =>
    have c := c2 ⟨#[115, 116, 111, 112, 112, 101, 100]⟩ rfl
    clear c2
    go_enter Tryd.func26, Tryd.ntmps26
    go_wp2
    go_ret
    exact ⟨rfl, rfl⟩
set_option maxRecDepth 100000 in
theorem sindex_at (l : List ByteArray) (s : ByteArray) (sa : Option Addr) (cap : Nat) (w : World) (h : SlAt encS 1 w (.slice sa l.length cap) l) (hn : l.length ≤ 1000000) :
    Calls Tryd.prog 71 #[.slice sa l.length cap, .string s] w fun e w' => e = .returned (.int .i64 (idxOf l s)) ∧ w' = w := by
  have HL : Hid (SlAt encS 1 w (.slice sa l.length cap) l) := h
  clear h
  go_enter Tryd.func71, Tryd.ntmps71
  go_wp2_with fail
  go_loopw [5, 8] (fun _ i wr => wr = w ∧ ∃ k : Nat, k ≤ l.length ∧ i = .int .i64 k ∧ ∀ j x, j < k → l[j]? = some x → x ≠ s) (fun _ i _ => l.length - (intOf i).toNat)
  case atStart => exact ⟨rfl, 0, Nat.zero_le _, rfl, fun j x hj => absurd hj (by omega)⟩
  case round =>
    obtain ⟨rfl, k, hk, rfl, hno⟩ := hrel
    have HN : Hid (∀ j x, j < k → l[j]? = some x → x ≠ s) := hno
    clear hno
    by_cases hlt : k < l.length
    · have k1 : (k : Int) < (l.length : Int) := by omega
      obtain ⟨x, hx⟩ : ∃ x, l[k]? = some x := ⟨_, List.getElem?_eq_getElem hlt⟩
      have HX : Hid (l[k]? = some x) := hx
      obtain ⟨g, o, rfl, hc⟩ := slatS_cell HL.out hx
      have c0 := hc k x hx
      clear hc hx
      by_cases e : x = s
      · subst e
        have HE : Hid (idxOf l x = k) := idxOf_at HX.out HN.out
        go_wp2
        go_ret
        exact ⟨by rw [HE.out]; rfl, rfl⟩
      · have n1 := (bytesN e).1
        have n2 := (bytesN e).2
        have n3 := (bytesN (fun e' => e e'.symm : ¬ s = x)).1
        have n4 := (bytesN (fun e' => e e'.symm : ¬ s = x)).2
        go_wp2_with fail
        go_roundw
        case rel =>
          refine ⟨trivial, k + 1, by omega, by go_num, fun j y hj hy => ?_⟩
          rcases Nat.lt_or_ge j k with h1 | h1
          · exact HN.out j y h1 hy
          · obtain rfl : j = k := by omega
            rw [HX.out] at hy
            cases hy
            exact e
        case measure => simp [intOf]; omega
    · have k1 : ¬ (k : Int) < (l.length : Int) := by omega
      have HE : Hid (idxOf l s = -1) := idxOf_no (fun j x hj hx => HN.out j x (by omega) hx)
      go_wp2
      go_ret
      exact ⟨by rw [HE.out]; rfl, rfl⟩
theorem idx_has' (l : List ByteArray) (x : ByteArray) : decide (0 ≤ idxOf l x) = hasB l x := by
  cases hb : hasB l x with
  | false =>
    have : idxOf l x = -1 := idxOf_no (fun j y _ hy e => by
      have := List.any_eq_false.1 hb y (List.mem_of_getElem? hy)
      simp [e] at this)
    rw [this]; rfl
  | true =>
    unfold hasB at hb
    obtain ⟨y, hy, he⟩ := List.any_eq_true.1 hb
    unfold idxOf
    split
    · simp
    · rename_i hn
      have := List.findIdx?_eq_none_iff.1 hn y hy
      rw [he] at this
      cases this
theorem shas_at (l : List ByteArray) (s : ByteArray) (sa : Option Addr) (cap : Nat) (w : World) (h : SlAt encS 1 w (.slice sa l.length cap) l) (hn : l.length ≤ 1000000) :
    Calls Tryd.prog 59 #[.slice sa l.length cap, .string s] w fun e w' => e = .returned (.bool (hasB l s)) ∧ w' = w := by
  have H : Hid (Calls Tryd.prog 71 #[.slice sa l.length cap, .string s] w fun e w' => e = .returned (.int .i64 (idxOf l s)) ∧ w' = w) := sindex_at l s sa cap w h hn
  rw [← idx_has']
  clear hn h
  go_enter Tryd.func59, Tryd.ntmps59
  go_wp2_with fail
  refine H.out.mono ?_
  rintro e w' ⟨rfl, rfl⟩
  go_wp2
  go_ret
  exact ⟨rfl, rfl⟩
set_option maxHeartbeats 1000000 in
theorem worst_at (l : List ByteArray) (sa : Option Addr) (cap : Nat) (w : World) (h : SlAt encS 1 w (.slice sa l.length cap) l) (hn : l.length ≤ 1000000) :
    Calls Tryd.prog 39 #[.slice sa l.length cap] w fun e w' => e = .returned (.string (totB (worstOf l))) ∧ w' = w := by
  have HL : Hid (SlAt encS 1 w (.slice sa l.length cap) l) := h
  have HN : Hid (l.length ≤ 1000000) := hn
  clear h hn
  cases hx : hasB l expiredB
  · cases hf : hasB l failedB
    · have HW : Hid (totB (worstOf l) = ⟨#[111, 107]⟩) := by show _ = _; unfold worstOf; rw [if_neg (by rw [hx]; simp), if_neg (by rw [hf]; simp)]; rfl
      have HX : Hid (hasB l ⟨#[101, 120, 112, 105, 114, 101, 100]⟩ = false) := hx
      have HF : Hid (hasB l ⟨#[102, 97, 105, 108, 101, 100]⟩ = false) := hf
      clear hx hf
      go_enter Tryd.func39, Tryd.ntmps39
      go_wp2_with fail
      refine (shas_at l ⟨#[101, 120, 112, 105, 114, 101, 100]⟩ sa cap _ HL.out HN.out).mono ?_
      rintro e w' ⟨rfl, rfl⟩
      rw [HX.out]
      go_wp2_with fail
      refine (shas_at l ⟨#[102, 97, 105, 108, 101, 100]⟩ sa cap _ HL.out HN.out).mono ?_
      rintro e w' ⟨rfl, rfl⟩
      rw [HF.out]
      go_wp2
      go_ret
      exact ⟨by rw [HW.out]; rfl, rfl⟩
    · have HW : Hid (totB (worstOf l) = ⟨#[102, 97, 105, 108, 101, 100]⟩) := by show _ = _; unfold worstOf; rw [if_neg (by rw [hx]; simp), if_pos hf]; rfl
      have HX : Hid (hasB l ⟨#[101, 120, 112, 105, 114, 101, 100]⟩ = false) := hx
      have HF : Hid (hasB l ⟨#[102, 97, 105, 108, 101, 100]⟩ = true) := hf
      clear hx hf
      go_enter Tryd.func39, Tryd.ntmps39
      go_wp2_with fail
      refine (shas_at l ⟨#[101, 120, 112, 105, 114, 101, 100]⟩ sa cap _ HL.out HN.out).mono ?_
      rintro e w' ⟨rfl, rfl⟩
      rw [HX.out]
      go_wp2_with fail
      refine (shas_at l ⟨#[102, 97, 105, 108, 101, 100]⟩ sa cap _ HL.out HN.out).mono ?_
      rintro e w' ⟨rfl, rfl⟩
      rw [HF.out]
      go_wp2
      go_ret
      exact ⟨by rw [HW.out]; rfl, rfl⟩
  · have HW : Hid (totB (worstOf l) = ⟨#[101, 120, 112, 105, 114, 101, 100]⟩) := by show _ = _; unfold worstOf; rw [if_pos hx]; rfl
    have HX : Hid (hasB l ⟨#[101, 120, 112, 105, 114, 101, 100]⟩ = true) := hx
    clear hx
    go_enter Tryd.func39, Tryd.ntmps39
    go_wp2_with fail
    refine (shas_at l ⟨#[101, 120, 112, 105, 114, 101, 100]⟩ sa cap _ HL.out HN.out).mono ?_
    rintro e w' ⟨rfl, rfl⟩
    rw [HX.out]
    go_wp2
    go_ret
    exact ⟨by rw [HW.out]; rfl, rfl⟩
/-- What End's contract says. -/
def ToEndC : Prop := ∀ (w0 w : World) (b k : Nat) (s : TSt) (l : List ByteArray) (sa : Option Addr) (cap : Nat), ToIn w0 w b s → TFit s k → k ≤ 100000 → (∀ V, w.grownBy V (some b) → SlAt encS 1 V (.slice sa l.length cap) l) → l.length ≤ 1000000 →
  Calls Tryd.prog 25 #[.pointer (some ⟨b, 0, none⟩), .slice sa l.length cap] w fun v w' => v = .returned (.string (totB (s.fin l).st)) ∧ ToIn w0 w' b (s.fin l) ∧ FrTo w w'
theorem ToIn.put (h : ToIn w0 w b s) (j : Nat) (u : Value) (hr : (toRow s).setIfInBounds j u = toRow s') : ToIn w0 (w.setCell ⟨b, j, none⟩ u) b s' := by
  refine ⟨?_, h.bel.setCell (p := ⟨b, j, none⟩) h.lo _, h.lo⟩
  simp only [World.setCell, Array.getElem?_modify, h.heap]
  simp [← hr]
theorem gr_drewT (w : World) (q : Nat) (r : Option Nat) : w.grownBy (w.drewN q) r := by
  have h := below_drewN (Below.refl w.heap.size w) q
  exact ⟨h.os, h.tape, h.output, h.size, fun k hk _ => h.block k hk⟩
set_option maxHeartbeats 4000000 in
set_option maxRecDepth 100000 in
theorem to_endC : ToEndC := by
  intro w0 w b k s l sa cap h hf hk hl hn
  have HLs : Hid (∀ V, w.grownBy V (some b) → SlAt encS 1 V (.slice sa l.length cap) l) := hl
  have HN : Hid (l.length ≤ 1000000) := hn
  obtain ⟨d, si, st⟩ := s
  have hr := h.heap
  have c1 : w.cell? ⟨b, 1, none⟩ = some (.int .i64 ((d : Int) - (si : Int))) := by simp [World.cell?, hr, toRow]
  have c0' : w.cell? ⟨b, 0, none⟩ = some (.string (totB st)) := by simp [World.cell?, hr, toRow]
  have q : ∀ i, w.frozen? ⟨b, i, none⟩ = false := fun i => by simp [World.frozen?, hr]
  have hst : st ≤ 3 := hf.st
  have hd20 : d ≤ 20 := hf.d
  have hlt : st = 2 → si < d := hf.lt
  have hz : st < 2 → si = 0 := hf.z
  have HFr : Hid (∀ W, w.grownBy W (some b) → FrTo w W) := fun W hW => h.frTo hW
  have H : Hid (ToIn w0 w b ⟨d, si, st⟩) := h
  clear hr h hf hl hn hk
  have go : ∀ x, totB st = x → w.cell? ⟨b, 0, none⟩ = some (.string x) := fun x hx => by rw [← hx]; exact c0'
  clear c0'
  by_cases h3 : st = 3
  · subst h3
    have c0 := go ⟨#[115, 116, 111, 112, 112, 101, 100]⟩ rfl
    clear go
    go_enter Tryd.func25, Tryd.ntmps25
    go_wp2
    go_ret
    exact ⟨rfl, H.out, FrTo.refl _⟩
  by_cases h2 : st = 2
  · subst h2
    have c0 := go ⟨#[101, 120, 112, 105, 114, 101, 100]⟩ rfl
    clear go
    have hlt' := hlt rfl
    obtain ⟨n, hn⟩ : ∃ n : Nat, d = si + 1 + n := ⟨d - (si + 1), by omega⟩
    have hc1 : ((d : Int) - (si : Int)) = (n : Int) + 1 := by omega
    rw [hc1] at c1
    have hn20 : n ≤ 20 := by omega
    have HV : Hid (∀ V, V = w.setCell ⟨b, 1, none⟩ (.int .i64 (n : Int)) → ToIn w0 V b ⟨d, si + 1, 2⟩ ∧ w.grownBy V (some b)) := fun V hV => by
      rw [hV]
      exact ⟨H.out.put (s' := ⟨d, si + 1, 2⟩) 1 _ (by simp [toRow]; omega), grown_setCell _ _ _ _⟩
    clear hlt hz hst hd20 hc1 hlt' h3
    by_cases hd : n = 0
    · subst hd
      have HE : Hid (TSt.fin ⟨d, si, 2⟩ l = ⟨d, si + 1, 3⟩) := by show _ = _; rw [show TSt.fin ⟨d, si, 2⟩ l = TSt.cut ⟨d, si + 1, 2⟩ from rfl]; unfold TSt.cut; rw [if_pos ⟨rfl, by show si + 1 = d; omega⟩]
      clear hn
      simp only [Int.ofNat_zero, Int.zero_add] at c1 HV
      go_enter Tryd.func25, Tryd.ntmps25
      go_wp2_with fail
      go_ret
      obtain ⟨a1, a2⟩ := HV.out _ rfl
      exact ⟨by rw [HE.out]; rfl, by rw [HE.out]; exact a1.put (s' := ⟨d, si + 1, 3⟩) 0 _ rfl, HFr.out _ (a2.trans (grown_setCell _ _ _ _))⟩
    · have hd' : ¬ (n : Int) = 0 := by omega
      have HE : Hid (TSt.fin ⟨d, si, 2⟩ l = ⟨d, si + 1, 2⟩) := by show _ = _; rw [show TSt.fin ⟨d, si, 2⟩ l = TSt.cut ⟨d, si + 1, 2⟩ from rfl]; unfold TSt.cut; rw [if_neg (fun x => hd (by have : si + 1 = d := x.2; omega))]
      clear hn
      go_enter Tryd.func25, Tryd.ntmps25
      go_wp2_with fail
      go_ret
      obtain ⟨a1, a2⟩ := HV.out _ rfl
      exact ⟨by rw [HE.out]; rfl, by rw [HE.out]; exact a1, HFr.out _ a2⟩
  obtain rfl : si = 0 := hz (by omega)
  have HW : Hid (TSt.fin ⟨d, 0, st⟩ l = TSt.cut ⟨d, 0, worstOf l⟩) := by show _ = _; unfold TSt.fin; rw [if_neg h3, if_neg h2]
  have h01 : st = 0 ∨ st = 1 := by omega
  have hw3 := worst_le l
  have HWa : Hid (∀ x, totB (worstOf l) = x → Calls Tryd.prog 39 #[.slice sa l.length cap] w fun e w' => e = .returned (.string x) ∧ w' = w) := fun x hx => by
    rw [← hx]; exact worst_at l sa cap w (HLs.out w (World.grownBy.refl _ _)) HN.out
  simp only [Int.ofNat_zero, Int.sub_zero] at c1
  clear hst h2 h3 hz hlt HLs HN
  generalize worstOf l = wo at HW hw3 HWa
  rcases h01 with rfl | rfl
  · have c0 := go ⟨#[111, 107]⟩ rfl
    clear go
    match wo, hw3 with
    | 0, _ =>
      obtain ⟨a1, a2⟩ : ToIn w0 (w.setCell ⟨b, 0, none⟩ (.string ⟨#[111, 107]⟩)) b ⟨d, 0, 0⟩ ∧ w.grownBy (w.setCell ⟨b, 0, none⟩ (.string ⟨#[111, 107]⟩)) (some b) := ⟨H.out.put (s' := ⟨d, 0, 0⟩) 0 _ rfl, grown_setCell _ _ _ _⟩
      have HA : Hid (ToIn w0 (w.setCell ⟨b, 0, none⟩ (.string ⟨#[111, 107]⟩)) b ⟨d, 0, 0⟩) := a1
      have HG : Hid (w.grownBy (w.setCell ⟨b, 0, none⟩ (.string ⟨#[111, 107]⟩)) (some b)) := a2
      clear a1 a2
      have HE : Hid (TSt.fin ⟨d, 0, 0⟩ l = ⟨d, 0, 0⟩) := by show _ = _; rw [HW.out]; unfold TSt.cut; rw [if_neg (fun x => by have : (0 : Nat) = 2 := x.1; omega)]
      go_enter Tryd.func25, Tryd.ntmps25
      go_wp2_with fail
      refine (HWa.out ⟨#[111, 107]⟩ rfl).mono ?_
      rintro e w' ⟨rfl, rfl⟩
      go_wp2_with fail
      go_ret
      exact ⟨by rw [HE.out]; rfl, by rw [HE.out]; exact HA.out, HFr.out _ HG.out⟩
    | 1, _ =>
      obtain ⟨a1, a2⟩ : ToIn w0 (w.setCell ⟨b, 0, none⟩ (.string ⟨#[102, 97, 105, 108, 101, 100]⟩)) b ⟨d, 0, 1⟩ ∧ w.grownBy (w.setCell ⟨b, 0, none⟩ (.string ⟨#[102, 97, 105, 108, 101, 100]⟩)) (some b) := ⟨H.out.put (s' := ⟨d, 0, 1⟩) 0 _ rfl, grown_setCell _ _ _ _⟩
      have HA : Hid (ToIn w0 (w.setCell ⟨b, 0, none⟩ (.string ⟨#[102, 97, 105, 108, 101, 100]⟩)) b ⟨d, 0, 1⟩) := a1
      have HG : Hid (w.grownBy (w.setCell ⟨b, 0, none⟩ (.string ⟨#[102, 97, 105, 108, 101, 100]⟩)) (some b)) := a2
      clear a1 a2
      have HE : Hid (TSt.fin ⟨d, 0, 0⟩ l = ⟨d, 0, 1⟩) := by show _ = _; rw [HW.out]; unfold TSt.cut; rw [if_neg (fun x => by have : (1 : Nat) = 2 := x.1; omega)]
      go_enter Tryd.func25, Tryd.ntmps25
      go_wp2_with fail
      refine (HWa.out ⟨#[102, 97, 105, 108, 101, 100]⟩ rfl).mono ?_
      rintro e w' ⟨rfl, rfl⟩
      go_wp2_with fail
      go_ret
      exact ⟨by rw [HE.out]; rfl, by rw [HE.out]; exact HA.out, HFr.out _ HG.out⟩
    | 2, _ =>
      obtain ⟨a1, a2⟩ : ToIn w0 (w.setCell ⟨b, 0, none⟩ (.string ⟨#[101, 120, 112, 105, 114, 101, 100]⟩)) b ⟨d, 0, 2⟩ ∧ w.grownBy (w.setCell ⟨b, 0, none⟩ (.string ⟨#[101, 120, 112, 105, 114, 101, 100]⟩)) (some b) := ⟨H.out.put (s' := ⟨d, 0, 2⟩) 0 _ rfl, grown_setCell _ _ _ _⟩
      have HA : Hid (ToIn w0 (w.setCell ⟨b, 0, none⟩ (.string ⟨#[101, 120, 112, 105, 114, 101, 100]⟩)) b ⟨d, 0, 2⟩) := a1
      have HG : Hid (w.grownBy (w.setCell ⟨b, 0, none⟩ (.string ⟨#[101, 120, 112, 105, 114, 101, 100]⟩)) (some b)) := a2
      clear a1 a2
      by_cases hd : d = 0
      · subst hd
        have HE : Hid (TSt.fin ⟨0, 0, 0⟩ l = ⟨0, 0, 3⟩) := by show _ = _; rw [HW.out]; unfold TSt.cut; rw [if_pos ⟨rfl, rfl⟩]
        simp only [Int.ofNat_zero] at c1
        go_enter Tryd.func25, Tryd.ntmps25
        go_wp2_with fail
        refine (HWa.out ⟨#[101, 120, 112, 105, 114, 101, 100]⟩ rfl).mono ?_
        rintro e w' ⟨rfl, rfl⟩
        go_wp2_with fail
        go_ret
        exact ⟨by rw [HE.out]; rfl, by rw [HE.out]; exact HA.out.put (s' := ⟨0, 0, 3⟩) 0 _ rfl, HFr.out _ (HG.out.trans (grown_setCell _ _ _ _))⟩
      · have hd' : ¬ (d : Int) = 0 := by omega
        have HE : Hid (TSt.fin ⟨d, 0, 0⟩ l = ⟨d, 0, 2⟩) := by show _ = _; rw [HW.out]; unfold TSt.cut; rw [if_neg (fun x => hd x.2.symm)]
        go_enter Tryd.func25, Tryd.ntmps25
        go_wp2_with fail
        refine (HWa.out ⟨#[101, 120, 112, 105, 114, 101, 100]⟩ rfl).mono ?_
        rintro e w' ⟨rfl, rfl⟩
        go_wp2_with fail
        go_ret
        exact ⟨by rw [HE.out]; rfl, by rw [HE.out]; exact HA.out, HFr.out _ HG.out⟩
  · have c0 := go ⟨#[102, 97, 105, 108, 101, 100]⟩ rfl
    clear go
    match wo, hw3 with
    | 0, _ =>
      obtain ⟨a1, a2⟩ : ToIn w0 (w.setCell ⟨b, 0, none⟩ (.string ⟨#[111, 107]⟩)) b ⟨d, 0, 0⟩ ∧ w.grownBy (w.setCell ⟨b, 0, none⟩ (.string ⟨#[111, 107]⟩)) (some b) := ⟨H.out.put (s' := ⟨d, 0, 0⟩) 0 _ rfl, grown_setCell _ _ _ _⟩
      have HA : Hid (ToIn w0 (w.setCell ⟨b, 0, none⟩ (.string ⟨#[111, 107]⟩)) b ⟨d, 0, 0⟩) := a1
      have HG : Hid (w.grownBy (w.setCell ⟨b, 0, none⟩ (.string ⟨#[111, 107]⟩)) (some b)) := a2
      clear a1 a2
      have HE : Hid (TSt.fin ⟨d, 0, 1⟩ l = ⟨d, 0, 0⟩) := by show _ = _; rw [HW.out]; unfold TSt.cut; rw [if_neg (fun x => by have : (0 : Nat) = 2 := x.1; omega)]
      go_enter Tryd.func25, Tryd.ntmps25
      go_wp2_with fail
      refine (HWa.out ⟨#[111, 107]⟩ rfl).mono ?_
      rintro e w' ⟨rfl, rfl⟩
      go_wp2_with fail
      go_ret
      exact ⟨by rw [HE.out]; rfl, by rw [HE.out]; exact HA.out, HFr.out _ HG.out⟩
    | 1, _ =>
      obtain ⟨a1, a2⟩ : ToIn w0 (w.setCell ⟨b, 0, none⟩ (.string ⟨#[102, 97, 105, 108, 101, 100]⟩)) b ⟨d, 0, 1⟩ ∧ w.grownBy (w.setCell ⟨b, 0, none⟩ (.string ⟨#[102, 97, 105, 108, 101, 100]⟩)) (some b) := ⟨H.out.put (s' := ⟨d, 0, 1⟩) 0 _ rfl, grown_setCell _ _ _ _⟩
      have HA : Hid (ToIn w0 (w.setCell ⟨b, 0, none⟩ (.string ⟨#[102, 97, 105, 108, 101, 100]⟩)) b ⟨d, 0, 1⟩) := a1
      have HG : Hid (w.grownBy (w.setCell ⟨b, 0, none⟩ (.string ⟨#[102, 97, 105, 108, 101, 100]⟩)) (some b)) := a2
      clear a1 a2
      have HE : Hid (TSt.fin ⟨d, 0, 1⟩ l = ⟨d, 0, 1⟩) := by show _ = _; rw [HW.out]; unfold TSt.cut; rw [if_neg (fun x => by have : (1 : Nat) = 2 := x.1; omega)]
      go_enter Tryd.func25, Tryd.ntmps25
      go_wp2_with fail
      refine (HWa.out ⟨#[102, 97, 105, 108, 101, 100]⟩ rfl).mono ?_
      rintro e w' ⟨rfl, rfl⟩
      go_wp2_with fail
      go_ret
      exact ⟨by rw [HE.out]; rfl, by rw [HE.out]; exact HA.out, HFr.out _ HG.out⟩
    | 2, _ =>
      obtain ⟨a1, a2⟩ : ToIn w0 (w.setCell ⟨b, 0, none⟩ (.string ⟨#[101, 120, 112, 105, 114, 101, 100]⟩)) b ⟨d, 0, 2⟩ ∧ w.grownBy (w.setCell ⟨b, 0, none⟩ (.string ⟨#[101, 120, 112, 105, 114, 101, 100]⟩)) (some b) := ⟨H.out.put (s' := ⟨d, 0, 2⟩) 0 _ rfl, grown_setCell _ _ _ _⟩
      have HA : Hid (ToIn w0 (w.setCell ⟨b, 0, none⟩ (.string ⟨#[101, 120, 112, 105, 114, 101, 100]⟩)) b ⟨d, 0, 2⟩) := a1
      have HG : Hid (w.grownBy (w.setCell ⟨b, 0, none⟩ (.string ⟨#[101, 120, 112, 105, 114, 101, 100]⟩)) (some b)) := a2
      clear a1 a2
      by_cases hd : d = 0
      · subst hd
        have HE : Hid (TSt.fin ⟨0, 0, 1⟩ l = ⟨0, 0, 3⟩) := by show _ = _; rw [HW.out]; unfold TSt.cut; rw [if_pos ⟨rfl, rfl⟩]
        simp only [Int.ofNat_zero] at c1
        go_enter Tryd.func25, Tryd.ntmps25
        go_wp2_with fail
        refine (HWa.out ⟨#[101, 120, 112, 105, 114, 101, 100]⟩ rfl).mono ?_
        rintro e w' ⟨rfl, rfl⟩
        go_wp2_with fail
        go_ret
        exact ⟨by rw [HE.out]; rfl, by rw [HE.out]; exact HA.out.put (s' := ⟨0, 0, 3⟩) 0 _ rfl, HFr.out _ (HG.out.trans (grown_setCell _ _ _ _))⟩
      · have hd' : ¬ (d : Int) = 0 := by omega
        have HE : Hid (TSt.fin ⟨d, 0, 1⟩ l = ⟨d, 0, 2⟩) := by show _ = _; rw [HW.out]; unfold TSt.cut; rw [if_neg (fun x => hd x.2.symm)]
        go_enter Tryd.func25, Tryd.ntmps25
        go_wp2_with fail
        refine (HWa.out ⟨#[101, 120, 112, 105, 114, 101, 100]⟩ rfl).mono ?_
        rintro e w' ⟨rfl, rfl⟩
        go_wp2_with fail
        go_ret
        exact ⟨by rw [HE.out]; rfl, by rw [HE.out]; exact HA.out, HFr.out _ HG.out⟩
end
end Go.Proofs.YtgehlcmancdgcacDoor
