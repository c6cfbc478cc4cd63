/-
  Package gaps' Report and End by contracts that tell which blocks turn. Conditions: as GaSt's.
-/
import Derived.Test.YtpaolneaomeoiabDoorGaOpsX
import Derived.Test.YtpaolneaomeoiabDoorMemX
namespace Go.Proofs.YtpaolneaomeoiabDoor
open Go.RowKit Go.Extern.Stop Go.Stop Go.Extern

/-- The blocks of a watch over gaps that may turn. -/
def GS (b : Nat) (sa : Option Addr) (n k : Nat) : Prop := k = b ∨ (0 < n ∧ ∃ o, sa = some ⟨k, o, none⟩)
theorem offG_set {w : World} {b : Nat} {sa : Option Addr} {n k : Nat} (hk : GS b sa n k) (j : Nat) (v : Value) : Off (GS b sa n) w (w.setCell ⟨k, j, none⟩ v) :=
  (Off.of_grown (grown_setCell w k j v)).mono (fun i _ e => by subst e; exact hk)
variable {B b cap : Nat} {w0 w w' : World} {sa : Option Addr} {s : GSt} {xs : List WG}
set_option maxHeartbeats 1000000 in
set_option maxRecDepth 100000 in
theorem gp_end2 (h : GpAt B w b sa cap s) :
    Calls Tryd.prog 52 #[.pointer (some ⟨b, 0, none⟩)] w fun e w' => e = .returned (.bool (!s.bad)) ∧ GpAt B w' b sa cap s.zero ∧ Off (GS b sa s.xs.length) w w' := by
  have c1 := h.c1
  have f1 := h.f1
  have H : Hid (GpAt B (w.setCell ⟨b, 1, none⟩ (.bool false)) b sa cap s.zero) := h.setBad false
  have HF : Hid (Off (GS b sa s.xs.length) w (w.setCell ⟨b, 1, none⟩ (.bool false))) := offG_set (Or.inl rfl) _ _
  clear h
  go_enter Tryd.func52, Tryd.ntmps52
  go_wp2
  go_ret
  exact ⟨rfl, H.out, HF.out⟩
set_option maxHeartbeats 2000000 in
set_option maxRecDepth 100000 in
theorem gp_report2 (p tick : Int) (h : GpAt B w b sa cap s) (hlen : s.xs.length ≤ 1000000) :
    Calls Tryd.prog 54 #[.pointer (some ⟨b, 0, none⟩), .int .i64 p, .int .i64 tick] w fun e w' => e = .returned (.tuple #[]) ∧ GpAt B w' b sa cap (s.rep p tick) ∧ Off (GS b sa s.xs.length) w w' := by
  have HH : Hid (GpAt B w b sa cap s) := h
  have HL : Hid (s.xs.length ≤ 1000000) := hlen
  by_cases t0 : tick < 0
  · have HR : Hid (s.rep p tick = s) := rep_off (by unfold tickOk; rw [decide_eq_false (by omega)]; rfl)
    clear h
    go_enter Tryd.func54, Tryd.ntmps54
    go_wp2
    (try simp only [Exit.inBlock, Exit.then]); refine bodyPost_ret (results_none rfl _ _ _) rfl ?_
    exact ⟨rfl, by rw [HR.out]; exact HH.out, Off.refl _ _⟩
  by_cases t1 : 1099511627776 < tick
  · have HR : Hid (s.rep p tick = s) := rep_off (by unfold tickOk; rw [decide_eq_false (p := tick ≤ 1099511627776) (by omega), Bool.and_false])
    clear h
    go_enter Tryd.func54, Tryd.ntmps54
    go_wp2
    (try simp only [Exit.inBlock, Exit.then]); refine bodyPost_ret (results_none rfl _ _ _) rfl ?_
    exact ⟨rfl, by rw [HR.out]; exact HH.out, Off.refl _ _⟩
  have HT : Hid (0 ≤ tick ∧ tick ≤ 1099511627776) := ⟨by omega, by omega⟩
  have HTk : Hid (tickOk tick = true) := by show _ = _; unfold tickOk; rw [decide_eq_true (by omega), decide_eq_true (by omega)]; rfl
  have HG : Hid (GpAt B w b sa cap s) := h
  have c0 := h.c0
  clear h hlen HH
  go_enter Tryd.func54, Tryd.ntmps54
  go_wp2_with fail
  go_loopw [18] (fun i wr => ∃ k : Nat, k ≤ s.xs.length ∧ i = .int .i64 k ∧ Off (GS b sa s.xs.length) w wr ∧ GpAt B wr b sa cap (s.upto p tick k)) (fun i _ => s.xs.length - (intOf i).toNat)
  case atStart => exact ⟨0, Nat.zero_le _, rfl, Off.refl _ _, by rw [GSt.upto_zero]; exact HG.out⟩
  case round =>
    clear c0 HG
    obtain ⟨k, hk, rfl, hfk, hgk⟩ := hrel
    have HFr : Hid (Off (GS b sa s.xs.length) w wr) := hfk
    have HG : Hid (GpAt B wr b sa cap (s.upto p tick k)) := hgk
    have c0 := hgk.c0
    rw [GSt.upto_len] at c0
    clear hgk hfk
    by_cases hlt : k < s.xs.length
    · have k1 : (k : Int) < (s.xs.length : Int) := by omega
      have k2 : k < 1000000 := by have := HL.out; omega
      obtain ⟨x, hx⟩ : ∃ x, s.xs[k]? = some x := ⟨_, List.getElem?_eq_getElem hlt⟩
      have HX : Hid (s.xs[k]? = some x) := hx
      have hxu := GSt.upto_at (p := p) (tick := tick) hx
      obtain ⟨g, o, hsa, hgb, hlo, hcc, cur, hff⟩ := HG.out.sl (fun e => by rw [e] at hxu; simp at hxu)
      subst hsa
      have HOne : Hid (OneW wr g (o + k * 5) x) := fun j u hu => hcc k x hxu j u hu
      have HF : Hid (wr.frozen? ⟨g, o + k * 5 + 4, none⟩ = false) := by show _ = _; simp [World.frozen?, hff]
      have HFw : Hid (∀ v, Off (GS b (some ⟨g, o, none⟩) s.xs.length) w (wr.setCell ⟨g, o + k * 5 + 4, none⟩ v)) := fun v => HFr.out.trans (offG_set (Or.inr ⟨by omega, o, rfl⟩) _ v) (fun _ _ x => x)
      have HXt : Hid (-1 ≤ x.t ∧ x.t ≤ 1099511627776) := HG.out.fit x (List.mem_of_getElem? hxu)
      have HN : Hid (∀ v, (s.upto p tick k).xs.set k (x.rep p tick) = (s.upto p tick (k+1)).xs ∧ (v = (x.bad p tick || (s.upto p tick k).bad) → v = (s.upto p tick (k+1)).bad)) := fun v => by rw [GSt.upto_succ HX.out]; exact ⟨rfl, fun h => h⟩
      clear hx hxu hgb hlo hcc hff
      go_wp2_with fail
      refine (gap_report HOne.out HF.out HXt.out HT.out).mono ?_
      rintro v w1 ⟨rfl, hw1⟩
      have HG1 : Hid (GpAt B w1 b (some ⟨g, o, none⟩) cap ⟨(s.upto p tick k).xs.set k (x.rep p tick), (s.upto p tick k).bad⟩) := by show GpAt _ _ _ _ _ _; rw [hw1]; exact HG.out.round (GSt.upto_at HX.out) HT.out
      have HF1 : Hid (Off (GS b (some ⟨g, o, none⟩) s.xs.length) w w1) := by
        show Off _ _ _
        rw [hw1]
        split
        · exact HFw.out _
        · exact HFr.out
      clear hw1 HG c0 HOne HF HFw HFr
      have d1 : w1.cell? ⟨b, 1, none⟩ = some (.bool (s.upto p tick k).bad) := HG1.out.c1
      have f1 := HG1.out.f1
      have HZ : Hid (∀ v : Bool, v = (x.bad p tick || (s.upto p tick k).bad) → Off (GS b (some ⟨g, o, none⟩) s.xs.length) w (w1.setCell ⟨b, 1, none⟩ (.bool v)) ∧ GpAt B (w1.setCell ⟨b, 1, none⟩ (.bool v)) b (some ⟨g, o, none⟩) cap (s.upto p tick (k + 1))) := fun v hv => by
        refine ⟨HF1.out.trans (offG_set (Or.inl rfl) _ _) (fun _ _ x => x), ?_⟩
        have h1 := HG1.out.setBad v
        have h2 := HN.out v
        have : (⟨(s.upto p tick k).xs.set k (x.rep p tick), v⟩ : GSt) = s.upto p tick (k + 1) := by rw [h2.1, h2.2 hv]
        rw [← this]
        exact h1
      clear HG1 HN HF1
      obtain ⟨ub, hub⟩ : ∃ ub, ub = (s.upto p tick k).bad := ⟨_, rfl⟩
      rw [← hub] at HZ d1
      clear hub
      cases hb : x.bad p tick
      all_goals
        rw [hb] at HZ
        go_wp2_with fail
        go_roundw
        case rel => exact ⟨k + 1, by omega, by go_num, HZ.out _ rfl⟩
        case measure => simp [intOf]; omega
    · have k1 : ¬ (k : Int) < (s.xs.length : Int) := by omega
      have HE : Hid (s.upto p tick k = s.rep p tick) := GSt.upto_all hlt HTk.out
      go_wp2
      go_end0
      refine ⟨rfl, ?_, HFr.out⟩
      rw [← HE.out]
      exact HG.out
end Go.Proofs.YtpaolneaomeoiabDoor
