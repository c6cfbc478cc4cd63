/-
  The document's (*Local).Report told by a contract: LcPure's 'LSt'. Conditions: as LcMod's; fewer than a thousand reports.
-/
import Derived.Test.YtpaolneaomeoiacDoorLcModX
import Derived.Deep.AppendLies
import Derived.Deep.RegionLaw
namespace Go.Proofs.YtpaolneaomeoiacDoor
open Go.RowKit Go.Extern.Stop Go.Stop Go.Extern

/-- All that is neither the document's entity nor a row of its marks is as it was. -/
def FrM (w w' : World) : Prop := ∀ (i : Nat) (o : Obj), w.heap[i]? = some o → (∀ c T fr, o = .cells c T fr → T ≠ 74 ∧ T ≠ 39) → w'.heap[i]? = some o
theorem FrM.refl (w : World) : FrM w w := fun _ _ h _ => h
theorem FrM.trans {w w' w'' : World} (h : FrM w w') (h' : FrM w' w'') : FrM w w'' := fun i o hi ho => h' i o (h i o hi ho) ho
theorem lt_of_obj {w : World} {i : Nat} {o : Obj} (h : w.heap[i]? = some o) : i < w.heap.size := by
  rcases Nat.lt_or_ge i w.heap.size with h1 | h1
  · exact h1
  · rw [Array.getElem?_eq_none h1] at h; cases h
theorem FrM.below {w w' : World} (hb : Below w.heap.size w w') : FrM w w' := fun i _ hi _ => (hb.block i (lt_of_obj hi)).trans hi
theorem FrM.own {w w' : World} {B : Nat} {v : Value} {ms : List MkD} (h : MkOwn B w v ms) (hg : w.grownBy w' v.ownBlock) : FrM w w' := fun i o hi ho => by
  refine (hg.block i (lt_of_obj hi) ?_).trans hi
  intro e2
  rcases h.2 with ⟨rfl, _⟩ | ⟨g, cap, cur, rfl, _, hg', _⟩
  · simp [Value.ownBlock] at e2
  · simp only [Value.ownBlock, Option.some.injEq] at e2
    subst e2
    rw [hg'] at hi
    exact (ho _ _ _ (Option.some.inj hi).symm).1 rfl
theorem FrM.put {w w' : World} {b : Nat} {c : Array Value} {fr : Nat × Nat} (hb : w.heap[b]? = some (.cells c 39 fr)) (hg : w.grownBy w' (some b)) : FrM w w' := fun i o hi ho => by
  refine (hg.block i (lt_of_obj hi) ?_).trans hi
  intro e2
  obtain rfl := Option.some.inj e2
  rw [hb] at hi
  exact (ho _ _ _ (Option.some.inj hi).symm).2 rfl
section
variable {w0 w w' : World} {b : Nat} {e : EntD} {pa ga ea fa la : Option Addr} {pc gc ec fc lc : Nat} {s s' : LSt} {sv sv' : Value}
/-- An error's number of a report. -/
def LSt.repE (e : EntD) (s : LSt) (p : Int) : Int := if s.act then (if hasP e p = true then 0 else 5) else 9
set_option maxHeartbeats 4000000 in
set_option maxRecDepth 100000 in
theorem lm_report (p t : Int) (h : LmIn w0 w b e pa ga ea fa la pc gc ec fc lc s sv) (hn : s.ms.length < 1000) :
    Calls Tryd.prog 17 #[.pointer (some ⟨b, 0, none⟩), .int .i64 p, .int .i64 t] w fun v w' => v = .returned (.int .i64 (s.repE e p)) ∧ (∃ sv', LmIn w0 w' b e pa ga ea fa la pc gc ec fc lc (s.rep e p t) sv') ∧ FrM w w' := by
  obtain ⟨act, since, ms, run, ex⟩ := s
  have c10 : w.cell? ⟨b, 10, none⟩ = some (.bool act) := h.cell 10 _ rfl
  have c2 : w.cell? ⟨b, 2, none⟩ = some (.slice pa e.pts.length pc) := h.cell 2 _ rfl
  have H : Hid (LmIn w0 w b e pa ga ea fa la pc gc ec fc lc ⟨act, since, ms, run, ex⟩ sv) := h
  cases act with
  | false =>
    clear h hn
    go_enter Tryd.func17, Tryd.ntmps17
    go_wp2
    go_ret
    exact ⟨rfl, ⟨sv, H.out⟩, FrM.refl _⟩
  | true =>
    by_cases g0 : p < 0
    · have HP : Hid (hasP e p = false) := by show _ = _; unfold hasP; rw [decide_eq_false (by omega)]; rfl
      clear h hn
      go_enter Tryd.func17, Tryd.ntmps17
      go_wp2
      go_ret
      exact ⟨by unfold LSt.repE; rw [HP.out]; rfl, ⟨sv, by unfold LSt.rep; rw [HP.out]; exact H.out⟩, FrM.refl _⟩
    · by_cases g1 : (e.pts.length : Int) ≤ p
      · have HP : Hid (hasP e p = false) := by show _ = _; unfold hasP; rw [decide_eq_false (p := p < (e.pts.length : Int)) (by omega), Bool.and_false]
        clear h hn
        go_enter Tryd.func17, Tryd.ntmps17
        go_wp2
        go_ret
        exact ⟨by unfold LSt.repE; rw [HP.out]; rfl, ⟨sv, by unfold LSt.rep; rw [HP.out]; exact H.out⟩, FrM.refl _⟩
      · have HP : Hid (hasP e p = true) := by show _ = _; unfold hasP; rw [decide_eq_true (by omega), decide_eq_true (by omega)]; rfl
        obtain ⟨va, vc, rfl⟩ := ow_form h.own
        obtain ⟨i0, hi, hz0, hz1, hz2⟩ := info_parts Tryd.infoMark
        have c11 : w.cell? ⟨b, 11, none⟩ = some (.int .i64 since) := h.cell 11 _ rfl
        have c12 : w.cell? ⟨b, 12, none⟩ = some (.slice va ms.length vc) := h.cell 12 _ rfl
        have q11 : ∀ ob, (w.alloc ob).cell? ⟨b, 11, none⟩ = some (.int .i64 since) := fun ob => cell_below (Below.one _ _) c11
        have q12 : ∀ ob, (w.alloc ob).cell? ⟨b, 12, none⟩ = some (.slice va ms.length vc) := fun ob => cell_below (Below.one _ _) c12
        have hown : w.drew.ownsRow w0.heap.size 74 3 (.slice va ms.length vc) ms.length (ms.flatMap encM) := h.own
        have hLz : w0.heap.size ≤ w.heap.size := h.bel.size
        have hcl : ms.length < 1000 := hn
        have KB : Hid (∀ (ob : Obj) (w8 : World), (w.drew.alloc ob).grownBy w8 (Value.slice va ms.length vc).ownBlock → w8.heap[b]? = some (.cells (lmRow e pa ga ea fa la pc gc ec fc lc ⟨true, since, ms, run, ex⟩ (.slice va ms.length vc)) 39 (0, 0)) ∧ Below w0.heap.size w0 w8 ∧ FrM w w8) := fun ob w8 hg => by
          have bb : Below w.heap.size w (w.drew.alloc ob) := (Below.refl w.heap.size w).drew.alloc (by simp) ob
          have hm := H.out.below bb
          exact ⟨(hg.block b (lt_of_row hm.heap) (fun e2 => ow_ne hm.own hm.heap (by decide) e2.symm)).trans hm.heap, hm.bel.grown hg hm.bel.size (fun k hk => (hm.own.lt k hk).1), (FrM.below bb).trans (FrM.own hm.own hg)⟩
        clear h hn
        go_enter Tryd.func17, Tryd.ntmps17
        go_upto_region 5 with fail
        go_cut [7] (fun v wx => MkOwn w0.heap.size wx v (ms ++ [⟨p, t, since⟩]) ∧ wx.heap[b]? = some (.cells (lmRow e pa ga ea fa la pc gc ec fc lc ⟨true, since, ms, run, ex⟩ (.slice va ms.length vc)) 39 (0, 0)) ∧ Below w0.heap.size w0 wx ∧ FrM w wx)
        case first =>
          go_region_law (refine step_append_lies _ rfl (.tmp 28) (.tmp 36) 37 rfl w0.heap.size 74 i0 (.agg #[.int .i64 0, .int .i64 0, .int .i64 0]) 3 24 Tryd.underlying37 hi hz0 hz1 hz2 rfl (by decide) (.slice va ms.length vc) ms.length (ms.flatMap encM) (by simp [Act.eval]) (hown.alloc _) ⟨w.heap.size, 0, .none⟩ 1 1 [.int .i64 p, .int .i64 t, .int .i64 since] (by simp [Act.eval]) rfl (ce_at w.drew [.int .i64 p, .int .i64 t, .int .i64 since] 74) (encM_one ⟨p, t, since⟩) (by decide) (by unfold maxLen; omega) (by omega) (by simp; omega) (w.heap.size + 1) (by simp) ?_; intro g' cap' w8 hown8 hgrow8 hor hlt8; have r8 := KB.out _ _ hgrow8)
          all_goals
            have H8 : Hid (_ ∧ _ ∧ _) := r8
            have HO8 : Hid (MkOwn w0.heap.size w8 (.slice (some ⟨g', 0, none⟩) (ms.length + 1) cap') (ms ++ [⟨p, t, since⟩])) := by
              show w8.ownsRow _ _ _ _ _ _
              rw [List.length_append, List.flatMap_append]
              simpa [encM] using hown8
            clear hgrow8 hown8 r8 hor q11 q12 hown
            go_wp2_with fail
            go_meet
            case rel => exact ⟨HO8.out, H8.out⟩
        obtain ⟨hO, hR, hB, hF⟩ := hcut
        rename World => w8
        rename_i v8
        obtain ⟨va8, vc8, rfl⟩ := ow_form hO
        have c12 : w8.cell? ⟨b, 12, none⟩ = some (.slice va ms.length vc) := by simp [World.cell?, hR, lmRow]
        have f12 : w8.frozen? ⟨b, 12, none⟩ = false := by simp [World.frozen?, hR]
        have HL : Hid (LmIn w0 (w8.setCell ⟨b, 12, none⟩ (.slice va8 (ms ++ [⟨p, t, since⟩] : List MkD).length vc8)) b e pa ga ea fa la pc gc ec fc lc ⟨true, since, ms ++ [⟨p, t, since⟩], run, ex⟩ (.slice va8 (ms ++ [⟨p, t, since⟩] : List MkD).length vc8)) := ⟨row_put hR _, World.ownsRow.kept hO (grown_setCell _ _ _ _) (Or.inr (ow_ne hO hR (by decide))), hB.setCell (p := ⟨b, 12, none⟩) H.out.lo _, H.out.lo⟩
        have HF : Hid (FrM w (w8.setCell ⟨b, 12, none⟩ (.slice va8 (ms ++ [⟨p, t, since⟩] : List MkD).length vc8))) := hF.trans (FrM.put hR (grown_setCell _ _ _ _))
        rw [show (ms ++ [⟨p, t, since⟩] : List MkD).length = ms.length + 1 by simp] at HL HF
        clear hO hR hB hF q11 q12 hown KB c10 c2 c11
        go_wp2
        go_ret
        exact ⟨by unfold LSt.repE; rw [HP.out]; rfl, ⟨_, by unfold LSt.rep; rw [HP.out, if_pos ⟨rfl, rfl⟩]; exact HL.out⟩, HF.out⟩
end
end Go.Proofs.YtpaolneaomeoiacDoor
