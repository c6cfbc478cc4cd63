/-
  (*gaps.gap).report, (*gaps.Gaps).Report by contracts. Conditions: as GaSt's.
-/
import Derived.Test.YtpaolneaomeoiabDoorGaStX
namespace Go.Proofs.YtpaolneaomeoiabDoor
open Go.RowKit Go.Extern.Stop Go.Stop Go.Extern

variable {B b cap : Nat} {w0 w w' : World} {sa : Option Addr} {s : GSt} {xs : List WG}
set_option maxHeartbeats 1000000 in
set_option maxRecDepth 100000 in
theorem gap_report {g o : Nat} {x : WG} {p tick : Int} (h : OneW w g o x) (hf : w.frozen? ⟨g, o + 4, none⟩ = false) (hx : -1 ≤ x.t ∧ x.t ≤ 1099511627776) (ht : 0 ≤ tick ∧ tick ≤ 1099511627776) :
    Calls Tryd.prog 62 #[.pointer (some ⟨g, o, none⟩), .int .i64 p, .int .i64 tick] w fun e w' => e = .returned (.bool (x.bad p tick)) ∧ w' = if p = x.g.fr then w.setCell ⟨g, o + 4, none⟩ (.int .i64 tick) else w := by
  have HO : Hid (OneW w g o x) := h
  have HX : Hid (-1 ≤ x.t ∧ x.t ≤ 1099511627776) := hx
  have HT : Hid (0 ≤ tick ∧ tick ≤ 1099511627776) := ht
  have c0 := h 0 _ rfl
  have c1 := h 1 _ rfl
  have c4 := h 4 _ rfl
  simp only [Nat.add_zero] at c0
  clear h hx ht
  by_cases g1 : p = x.g.to
  · by_cases g0 : p = x.g.fr
    · rw [if_pos g0]
      have HR : Hid (x.bad p tick = !x.bears tick) := by show _ = _; unfold WG.bad; rw [decide_eq_true g1]; rfl
      rw [← g1] at c1
      rw [← g0] at c0
      clear g0 g1
      go_enter Tryd.func62, Tryd.ntmps62
      go_wp2_with fail
      refine (bears_at HO.out HX.out HT.out).mono ?_
      rintro v w1 ⟨rfl, rfl⟩
      go_wp2
      go_ret
      exact ⟨by rw [HR.out]; rfl, rfl⟩
    · rw [if_neg g0]
      have HR : Hid (x.bad p tick = !x.bears tick) := by show _ = _; unfold WG.bad; rw [decide_eq_true g1]; rfl
      rw [← g1] at c1
      clear g1
      go_enter Tryd.func62, Tryd.ntmps62
      go_wp2_with fail
      refine (bears_at HO.out HX.out HT.out).mono ?_
      rintro v w1 ⟨rfl, rfl⟩
      go_wp2
      go_ret
      exact ⟨by rw [HR.out]; rfl, rfl⟩
  · have HR : Hid (x.bad p tick = false) := by show _ = _; unfold WG.bad; rw [decide_eq_false g1]; rfl
    by_cases g0 : p = x.g.fr
    · rw [if_pos g0]
      rw [← g0] at c0
      clear g0
      go_enter Tryd.func62, Tryd.ntmps62
      go_wp2
      go_ret
      exact ⟨by rw [HR.out]; rfl, rfl⟩
    · rw [if_neg g0]
      go_enter Tryd.func62, Tryd.ntmps62
      go_wp2
      go_ret
      exact ⟨by rw [HR.out]; rfl, rfl⟩

theorem set_same {α : Type} {l : List α} {k : Nat} {x : α} (h : l[k]? = some x) : l.set k x = l := by
  apply List.ext_getElem?
  intro i
  rw [List.getElem?_set]
  split
  · rename_i e
    subst e
    split
    · exact h.symm
    · rename_i hk
      rw [List.getElem?_eq_none (by omega)] at h
      cases h
  · rfl
/-- One round of Report's loop. -/
theorem GpAt.round {g o k : Nat} {x : WG} {p tick : Int} (h : GpAt B w b (some ⟨g, o, none⟩) cap s) (hx : s.xs[k]? = some x) (ht : 0 ≤ tick ∧ tick ≤ 1099511627776) :
    GpAt B (if p = x.g.fr then w.setCell ⟨g, o + k * 5 + 4, none⟩ (.int .i64 tick) else w) b (some ⟨g, o, none⟩) cap ⟨s.xs.set k (x.rep p tick), s.bad⟩ := by
  unfold WG.rep
  split
  · exact h.setTick hx ⟨by omega, ht.2⟩
  · rw [set_same hx]
    exact h
set_option maxHeartbeats 2000000 in
set_option maxRecDepth 100000 in
theorem gp_report (p tick : Int) (h : GpIn w0 w b s) (hlen : s.xs.length ≤ 1000000) :
    Calls Tryd.prog 54 #[.pointer (some ⟨b, 0, none⟩), .int .i64 p, .int .i64 tick] w fun e w' => e = .returned (.tuple #[]) ∧ GpIn w0 w' b (s.rep p tick) ∧ FrG w w' := by
  have HH : Hid (GpIn w0 w b s) := h
  obtain ⟨hbel, sa, cap, h⟩ := h
  have HBel : Hid (Below w0.heap.size w0 w) := hbel
  have HL : Hid (s.xs.length ≤ 1000000) := hlen
  clear hbel
  by_cases t0 : tick < 0
  · have HR : Hid (s.rep p tick = s) := rep_off (by unfold tickOk; rw [decide_eq_false (by omega)]; rfl)
    clear h
    go_enter Tryd.func54, Tryd.ntmps54
    go_wp2
    (try simp only [Exit.inBlock, Exit.then]); refine bodyPost_ret (results_none rfl _ _ _) rfl ?_
    exact ⟨rfl, by rw [HR.out]; exact HH.out, FrG.refl _⟩
  by_cases t1 : 1099511627776 < tick
  · have HR : Hid (s.rep p tick = s) := rep_off (by unfold tickOk; rw [decide_eq_false (p := tick ≤ 1099511627776) (by omega), Bool.and_false])
    clear h
    go_enter Tryd.func54, Tryd.ntmps54
    go_wp2
    (try simp only [Exit.inBlock, Exit.then]); refine bodyPost_ret (results_none rfl _ _ _) rfl ?_
    exact ⟨rfl, by rw [HR.out]; exact HH.out, FrG.refl _⟩
  have HT : Hid (0 ≤ tick ∧ tick ≤ 1099511627776) := ⟨by omega, by omega⟩
  have HTk : Hid (tickOk tick = true) := by show _ = _; unfold tickOk; rw [decide_eq_true (by omega), decide_eq_true (by omega)]; rfl
  have HG : Hid (GpAt w0.heap.size w b sa cap s) := h
  have c0 := h.c0
  clear h hlen HH
  go_enter Tryd.func54, Tryd.ntmps54
  go_wp2_with fail
  go_loopw [18] (fun i wr => ∃ k : Nat, k ≤ s.xs.length ∧ i = .int .i64 k ∧ Below w0.heap.size w0 wr ∧ FrG w wr ∧ GpAt w0.heap.size wr b sa cap (s.upto p tick k)) (fun i _ => s.xs.length - (intOf i).toNat)
  case atStart => exact ⟨0, Nat.zero_le _, rfl, HBel.out, FrG.refl _, by rw [GSt.upto_zero]; exact HG.out⟩
  case round =>
    clear c0 HG HBel
    obtain ⟨k, hk, rfl, hbk, hfk, hgk⟩ := hrel
    have HFr : Hid (FrG w wr) := hfk
    have HB : Hid (Below w0.heap.size w0 wr) := hbk
    have HG : Hid (GpAt w0.heap.size wr b sa cap (s.upto p tick k)) := hgk
    have c0 := hgk.c0
    rw [GSt.upto_len] at c0
    clear hbk hgk hfk
    by_cases hlt : k < s.xs.length
    · have k1 : (k : Int) < (s.xs.length : Int) := by omega
      have k2 : k < 1000000 := by have := HL.out; omega
      obtain ⟨x, hx⟩ : ∃ x, s.xs[k]? = some x := ⟨_, List.getElem?_eq_getElem hlt⟩
      have HX : Hid (s.xs[k]? = some x) := hx
      have hxu := GSt.upto_at (p := p) (tick := tick) hx
      obtain ⟨g, o, hsa, hgb, hlo, hcc, cur, hff⟩ := HG.out.sl (fun e => by rw [e] at hxu; simp at hxu)
      subst hsa
      have HOne : Hid (OneW wr g (o + k * 5) x) := fun j u hu => hcc k x hxu j u hu
      have HF : Hid (wr.frozen? ⟨g, o + k * 5 + 4, none⟩ = false) := by show _ = _; simp [World.frozen?, hff]
      have HFw : Hid (∀ v, FrG w (wr.setCell ⟨g, o + k * 5 + 4, none⟩ v)) := fun v => HFr.out.trans (FrG.set hff (Or.inr rfl) v)
      have HXt : Hid (-1 ≤ x.t ∧ x.t ≤ 1099511627776) := HG.out.fit x (List.mem_of_getElem? hxu)
      have HLo : Hid (w0.heap.size ≤ g) := hlo
      have HN : Hid (∀ v, (s.upto p tick k).xs.set k (x.rep p tick) = (s.upto p tick (k+1)).xs ∧ (v = (x.bad p tick || (s.upto p tick k).bad) → v = (s.upto p tick (k+1)).bad)) := fun v => by rw [GSt.upto_succ HX.out]; exact ⟨rfl, fun h => h⟩
      clear hx hxu hgb hlo hcc hff
      go_wp2_with fail
      refine (gap_report HOne.out HF.out HXt.out HT.out).mono ?_
      rintro v w1 ⟨rfl, hw1⟩
      have HG1 : Hid (GpAt w0.heap.size w1 b (some ⟨g, o, none⟩) cap ⟨(s.upto p tick k).xs.set k (x.rep p tick), (s.upto p tick k).bad⟩) := by show GpAt _ _ _ _ _ _; rw [hw1]; exact HG.out.round (GSt.upto_at HX.out) HT.out
      have HB1 : Hid (Below w0.heap.size w0 w1) := by
        show Below _ _ _
        rw [hw1]
        split
        · exact HB.out.setCell (p := ⟨g, o + k * 5 + 4, none⟩) HLo.out _
        · exact HB.out
      have HF1 : Hid (FrG w w1) := by
        show FrG _ _
        rw [hw1]
        split
        · exact HFw.out _
        · exact HFr.out
      clear hw1 HG HB c0 HOne HF HFw HFr
      have d1 : w1.cell? ⟨b, 1, none⟩ = some (.bool (s.upto p tick k).bad) := HG1.out.c1
      have f1 := HG1.out.f1
      have HZ : Hid (∀ v : Bool, v = (x.bad p tick || (s.upto p tick k).bad) → Below w0.heap.size w0 (w1.setCell ⟨b, 1, none⟩ (.bool v)) ∧ FrG w (w1.setCell ⟨b, 1, none⟩ (.bool v)) ∧ GpAt w0.heap.size (w1.setCell ⟨b, 1, none⟩ (.bool v)) b (some ⟨g, o, none⟩) cap (s.upto p tick (k + 1))) := fun v hv => by
        refine ⟨HB1.out.setCell (p := ⟨b, 1, none⟩) HG1.out.lo _, HF1.out.trans (FrG.set HG1.out.heap (Or.inl rfl) _), ?_⟩
        have h1 := HG1.out.setBad v
        have h2 := HN.out v
        have : (⟨(s.upto p tick k).xs.set k (x.rep p tick), v⟩ : GSt) = s.upto p tick (k + 1) := by rw [h2.1, h2.2 hv]
        rw [← this]
        exact h1
      clear HG1 HB1 HN HF1
      obtain ⟨ub, hub⟩ : ∃ ub, ub = (s.upto p tick k).bad := ⟨_, rfl⟩
      rw [← hub] at HZ d1
      clear hub
      cases hb : x.bad p tick
      all_goals
        rw [hb] at HZ
        go_wp2_with fail
        go_roundw
        case rel => exact ⟨k + 1, by omega, by go_num, HZ.out _ rfl⟩
        case measure => simp [intOf]; omega
    · have k1 : ¬ (k : Int) < (s.xs.length : Int) := by omega
      have HE : Hid (s.upto p tick k = s.rep p tick) := GSt.upto_all hlt HTk.out
      go_wp2
      go_end0
      refine ⟨rfl, ⟨HB.out, sa, cap, ?_⟩, HFr.out⟩
      rw [← HE.out]
      exact HG.out
end Go.Proofs.YtpaolneaomeoiabDoor
