/-
  Several texts as one: LoSteps, LoEnd.
-/
import Derived.Test.YtkphpgdgbnmnjacGreatDoorB08C
namespace Go.Proofs.YtkphpgdgbnmnjacGreatDoor
open Go.RowKit Go.Extern.Stop Go.Stop Go.Extern

section
variable {F F' : Nat → Prop} {w w' w'' : World} {b ba bg bf : Nat} {e : EntD} {E : EA} {s : WSt}
theorem ne_ty {i j : Nat} {c c' : Array Value} {T T' : TypeId} {fr fr' : Nat × Nat} (h1 : w.heap[i]? = some (.cells c T fr)) (h2 : w.heap[j]? = some (.cells c' T' fr')) (hT : T ≠ T') : i ≠ j := by
  rintro rfl
  rw [h1] at h2
  simp only [Option.some.injEq, Obj.cells.injEq] at h2
  exact hT h2.2.1
theorem own_ty {α : Type} {enc : α → List Value} {k B : Nat} {T : TypeId} {v : Value} {xs : List α} (h : SlOwn enc k T B w v xs) {g : Nat} (hg : v.ownBlock = some g) : ∃ c fr, w.heap[g]? = some (.cells c T fr) := by
  rcases h.2 with ⟨rfl, _⟩ | ⟨g', cap, cur, rfl, _, hg', _⟩
  · simp [Value.ownBlock] at hg
  · simp only [Value.ownBlock, Option.some.injEq] at hg
    subst hg
    exact ⟨_, _, hg'⟩
theorem gs_ty {B cap : Nat} {sa : Option Addr} {s : GSt} (h : GpAt B w b sa cap s) {k : Nat} (hk : GS b sa s.xs.length k) : ∃ c T fr, w.heap[k]? = some (.cells c T fr) ∧ (T = 234 ∨ T = 236) := by
  rcases hk with rfl | ⟨h0, o, e1⟩
  · exact ⟨_, _, _, h.heap, Or.inl rfl⟩
  · obtain ⟨g, o', e2, -, -, -, cur, hf⟩ := h.sl (List.length_pos_iff.1 h0)
    rw [e1] at e2
    simp only [Option.some.injEq, Addr.mk.injEq, and_true] at e2
    obtain ⟨rfl, -⟩ := e2
    exact ⟨_, _, _, hf, Or.inr rfl⟩
/-- A flow stays while blocks of other types turn. -/
theorem FlAt.offT {B m n : Nat} {f : FSt} {D : DataW Unit} {fv lv : Value} {S : Nat → Prop} (h : FlAt B w b e f m n D fv lv) (ho : Off S w w') (hS : ∀ k, S k → ∃ c T fr, w.heap[k]? = some (.cells c T fr) ∧ T ≠ 239 ∧ T ≠ 3) : FlAt B w' b e f m n D fv lv := by
  have g : ∀ k, k < w.heap.size → (∀ c T fr, w.heap[k]? = some (.cells c T fr) → T = 239 ∨ T = 3) → w'.heap[k]? = w.heap[k]? := fun k hk hT => by
    refine ho.block k hk (fun hs => ?_)
    obtain ⟨c, T, fr, h1, h2, h3⟩ := hS k hs
    rcases hT c T fr h1 with rfl | rfl
    · exact h2 rfl
    · exact h3 rfl
  refine h.same (g b (lt_of_row h.heap) (fun c T fr hc => ?_)) (g m (map_lt h) (fun c T fr hc => ?_)) (fun k hk => g k (h.hf.lt k hk).2 (fun c T fr hc => ?_)) (fun k hk => g k (h.hl.lt k hk).2 (fun c T fr hc => ?_))
  · rw [h.heap] at hc
    simp only [Option.some.injEq, Obj.cells.injEq] at hc
    exact Or.inl hc.2.1.symm
  · obtain ⟨es, c', hm0, rest⟩ := h.own
    rw [hm0] at hc
    cases hc
  · obtain ⟨c', fr', h1⟩ := own_ty h.hf hk
    rw [h1] at hc
    simp only [Option.some.injEq, Obj.cells.injEq] at hc
    exact Or.inr hc.2.1.symm
  · obtain ⟨c', fr', h1⟩ := own_ty h.hl hk
    rw [h1] at hc
    simp only [Option.some.injEq, Obj.cells.injEq] at hc
    exact Or.inr hc.2.1.symm
theorem WatAt.setA {a : ASt} (h : WatAt F w ba bg bf e s) (hg : w.grownBy w' (some ba)) (ha : AlAt w' ba a) : WatAt F w' ba bg bf e ⟨a, s.g, s.f⟩ := by
  obtain ⟨sa, cap, h1, h2⟩ := h.ga
  obtain ⟨m, n, D, fv, lv, h3, h4, h5, h6, h7⟩ := h.fl
  refine ⟨ha, h.fa, ⟨sa, cap, h1.same (fun k hk => ?_), h2⟩, ⟨m, n, D, fv, lv, h3.offT (Off.of_grown hg) (fun k hk => ?_), h4, h5, h6, h7⟩, h.gl⟩
  · obtain ⟨c, T, fr, h8, h9⟩ := gs_ty h1 hk
    refine hg.block k (lt_of_row h8) (fun e1 => ?_)
    refine ne_ty h8 h.al.heap ?_ (Option.some.inj e1)
    rcases h9 with rfl | rfl <;> decide
  · subst hk
    exact ⟨_, _, _, h.al.heap, by decide, by decide⟩
theorem WatAt.frA (h : WatAt F w ba bg bf e s) (hg : w.grownBy w' (some ba)) : FrL F w w' := FrL.put hg h.al.heap (Or.inr (Or.inl rfl)) h.fa
theorem WatAt.setG {sa : Option Addr} {cap : Nat} {g : GSt} (h : WatAt F w ba bg bf e s) (h1 : GpAt 0 w bg sa cap s.g) (h2 : ∀ k, GS bg sa s.g.xs.length k → F k) (ho : Off (GS bg sa s.g.xs.length) w w') (hg : GpAt 0 w' bg sa cap g) (hl : g.xs.length = s.g.xs.length) : WatAt F w' ba bg bf e ⟨s.a, g, s.f⟩ := by
  obtain ⟨m, n, D, fv, lv, h3, h4, h5, h6, h7⟩ := h.fl
  refine ⟨h.al.same (ho.block ba (lt_of_row h.al.heap) (fun hs => ?_)), h.fa, ⟨sa, cap, hg, fun k hk => h2 k (by rw [← hl]; exact hk)⟩, ⟨m, n, D, fv, lv, h3.offT ho (fun k hk => ?_), h4, h5, h6, h7⟩, hl.trans h.gl⟩
  · obtain ⟨c, T, fr, h8, h9⟩ := gs_ty h1 hs
    refine ne_ty h8 h.al.heap ?_ rfl
    rcases h9 with rfl | rfl <;> decide
  · obtain ⟨c, T, fr, h8, h9⟩ := gs_ty h1 hk
    refine ⟨c, T, fr, h8, ?_, ?_⟩
    · rcases h9 with rfl | rfl <;> decide
    · rcases h9 with rfl | rfl <;> decide
theorem frG {sa : Option Addr} {cap : Nat} {g : GSt} (h1 : GpAt 0 w bg sa cap g) (h2 : ∀ k, GS bg sa g.xs.length k → F k) (ho : Off (GS bg sa g.xs.length) w w') : FrL F w w' := by
  refine FrL.of _ ho (fun k _ hk => ⟨h2 k hk, ?_⟩)
  obtain ⟨c, T, fr, h8, h9⟩ := gs_ty h1 hk
  refine ⟨c, T, fr, h8, ?_⟩
  rcases h9 with rfl | rfl
  · exact Or.inr (Or.inr (Or.inl rfl))
  · exact Or.inr (Or.inr (Or.inr (Or.inl rfl)))
theorem WatAt.setF {m n : Nat} {D : DataW Unit} {fv lv : Value} {f : FSt} (h : WatAt F w ba bg bf e s) (h3 : FlAt 0 w bf e s.f m n D fv lv) (h4 : F bf) (h5 : F m) (h6 : ∀ g, fv.ownBlock = some g → F g) (h7 : ∀ g, lv.ownBlock = some g → F g) (hg : w.grownBy w' (some bf)) (hf : FlAt 0 w' bf e f m n D fv lv) : WatAt F w' ba bg bf e ⟨s.a, s.g, f⟩ := by
  obtain ⟨sa, cap, h1, h2⟩ := h.ga
  refine ⟨h.al.same (hg.block ba (lt_of_row h.al.heap) (fun e1 => ?_)), h.fa, ⟨sa, cap, h1.same (fun k hk => ?_), h2⟩, ⟨m, n, D, fv, lv, hf, h4, h5, h6, h7⟩, h.gl⟩
  · exact ne_ty h.al.heap h3.heap (by decide) (Option.some.inj e1)
  · obtain ⟨c, T, fr, h8, h9⟩ := gs_ty h1 hk
    refine hg.block k (lt_of_row h8) (fun e1 => ?_)
    refine ne_ty h8 h3.heap ?_ (Option.some.inj e1)
    rcases h9 with rfl | rfl <;> decide
theorem frF {m n : Nat} {D : DataW Unit} {fv lv : Value} {f : FSt} (h3 : FlAt 0 w bf e f m n D fv lv) (h4 : F bf) (hg : w.grownBy w' (some bf)) : FrL F w w' := FrL.put hg h3.heap (Or.inr (Or.inr (Or.inr (Or.inr rfl)))) h4
/-- The row of an entity stays while its watches turn. -/
theorem row_offL {c : Array Value} {fr : Nat × Nat} (hb : w.heap[b]? = some (.cells c 147 fr)) {S : Nat → Prop} (ho : Off S w w') (hS : ∀ k, S k → ∃ c T fr, w.heap[k]? = some (.cells c T fr) ∧ T ≠ 147) : w'.heap[b]? = some (.cells c 147 fr) := by
  refine (ho.block b (lt_of_row hb) (fun hs => ?_)).trans hb
  obtain ⟨c', T, fr', h1, h2⟩ := hS b hs
  exact ne_ty h1 hb h2 rfl
theorem WatAt.rowA (h : WatAt F w ba bg bf e s) {c : Array Value} {fr : Nat × Nat} (hb : w.heap[b]? = some (.cells c 147 fr)) (hg : w.grownBy w' (some ba)) : w'.heap[b]? = some (.cells c 147 fr) :=
  row_offL hb (Off.of_grown hg) (fun k hk => by subst hk; exact ⟨_, _, _, h.al.heap, by decide⟩)
theorem rowG {sa : Option Addr} {cap : Nat} {g : GSt} (h1 : GpAt 0 w bg sa cap g) {c : Array Value} {fr : Nat × Nat} (hb : w.heap[b]? = some (.cells c 147 fr)) (ho : Off (GS bg sa g.xs.length) w w') : w'.heap[b]? = some (.cells c 147 fr) :=
  row_offL hb ho (fun k hk => by
    obtain ⟨c, T, fr, h8, h9⟩ := gs_ty h1 hk
    refine ⟨c, T, fr, h8, ?_⟩
    rcases h9 with rfl | rfl <;> decide)
theorem rowF {m n : Nat} {D : DataW Unit} {fv lv : Value} {f : FSt} (h3 : FlAt 0 w bf e f m n D fv lv) {c : Array Value} {fr : Nat × Nat} (hb : w.heap[b]? = some (.cells c 147 fr)) (hg : w.grownBy w' (some bf)) : w'.heap[b]? = some (.cells c 147 fr) :=
  row_offL hb (Off.of_grown hg) (fun k hk => by subst hk; exact ⟨_, _, _, h3.heap, by decide⟩)
/-- What a call upon the watches leaves: the entity's row, and what may turn. -/
structure WatTo (F : Nat → Prop) (w w' : World) (b ba bg bf : Nat) (e : EntD) (s : WSt) (c : Array Value) : Prop where
  wat : WatAt F w' ba bg bf e s
  row : w'.heap[b]? = some (.cells c 147 (0, 0))
  fr : FrL F w w'
set_option maxHeartbeats 2000000 in
set_option maxRecDepth 100000 in
theorem watch_report (p t : Int) (c : Array Value) (h : WatAt F w ba bg bf e s) (hb : w.heap[b]? = some (.cells c 147 (0, 0))) (h0 : c[0]? = some (.pointer (some ⟨ba, 0, none⟩))) (h1 : c[1]? = some (.pointer (some ⟨bg, 0, none⟩))) (h2 : c[2]? = some (.pointer (some ⟨bf, 0, none⟩))) (hS : SmallE e) :
    Calls Tryz.prog 82 #[.pointer (some ⟨b, 0, none⟩), .int .i64 p, .int .i64 t] w fun v w' => v = .returned (.tuple #[]) ∧ WatTo F w w' b ba bg bf e (s.rep e p t) c := by
  have H : Hid (WatAt F w ba bg bf e s) := h
  have HB : Hid (w.heap[b]? = some (.cells c 147 (0, 0))) := hb
  have H1 : Hid (c[1]? = some (.pointer (some ⟨bg, 0, none⟩))) := h1
  have H2 : Hid (c[2]? = some (.pointer (some ⟨bf, 0, none⟩))) := h2
  have HS : Hid (SmallE e) := hS
  have c0 : w.cell? ⟨b, 0, none⟩ = some (.pointer (some ⟨ba, 0, none⟩)) := by simp [World.cell?, hb, h0]
  clear h hb h0 h1 h2 hS
  go_enter Tryz.func82, Tryz.ntmps82
  go_wp2_with fail
  refine (al_report2 p H.out.al).mono ?_
  rintro v w1 ⟨rfl, hA, hg⟩
  have H' : Hid (WatTo F w w1 b ba bg bf e ⟨s.a.rep p, s.g, s.f⟩ c) := ⟨H.out.setA hg hA, H.out.rowA HB.out hg, H.out.frA hg⟩
  have c1 : w1.cell? ⟨b, 1, none⟩ = some (.pointer (some ⟨bg, 0, none⟩)) := by simp [World.cell?, H'.out.row, H1.out]
  clear c0 hA hg
  go_wp2_with fail
  obtain ⟨sa, cap, hG, hGF⟩ := H'.out.wat.ga
  have HG : Hid (GpAt 0 w1 bg sa cap s.g ∧ ∀ k, GS bg sa s.g.xs.length k → F k) := ⟨hG, hGF⟩
  clear hG hGF
  refine (gp_report2 p t HG.out.1 (by have h5 : s.g.xs.length = e.gaps.length := H'.out.wat.gl; have := HS.out.hg; omega)).mono ?_
  rintro v w2 ⟨rfl, hA, hg⟩
  have H3 : Hid (WatTo F w w2 b ba bg bf e ⟨s.a.rep p, s.g.rep p t, s.f⟩ c) := ⟨H'.out.wat.setG HG.out.1 HG.out.2 hg hA (rep_len _ _ _), rowG HG.out.1 H'.out.row hg, H'.out.fr.trans (frG HG.out.1 HG.out.2 hg) (fun _ _ x => x)⟩
  have c2 : w2.cell? ⟨b, 2, none⟩ = some (.pointer (some ⟨bf, 0, none⟩)) := by simp [World.cell?, H3.out.row, H2.out]
  clear c1 hA hg HG H'
  go_wp2_with fail
  obtain ⟨m, n, D, fv, lv, hF3, hF4, hF5, hF6, hF7⟩ := H3.out.wat.fl
  have HF : Hid (FlAt 0 w2 bf e s.f m n D fv lv ∧ F bf ∧ F m ∧ (∀ g, fv.ownBlock = some g → F g) ∧ ∀ g, lv.ownBlock = some g → F g) := ⟨hF3, hF4, hF5, hF6, hF7⟩
  clear hF3 hF4 hF5 hF6 hF7
  refine (fl_report2 p HF.out.1).mono ?_
  rintro v w3 ⟨rfl, hA, hg⟩
  have H4 : Hid (WatTo F w w3 b ba bg bf e (s.rep e p t) c) := ⟨H3.out.wat.setF HF.out.1 HF.out.2.1 HF.out.2.2.1 HF.out.2.2.2.1 HF.out.2.2.2.2 hg hA, rowF HF.out.1 H3.out.row hg, H3.out.fr.trans (frF HF.out.1 HF.out.2.1 hg) (fun _ _ x => x)⟩
  clear hA hg HF H3 c2
  go_wp2
  go_end0
  exact ⟨rfl, H4.out⟩
end
end Go.Proofs.YtkphpgdgbnmnjacGreatDoor

namespace Go.Proofs.YtkphpgdgbnmnjacGreatDoor
open Go.RowKit Go.Extern.Stop Go.Stop Go.Extern

section
variable {F F' : Nat → Prop} {w w' w'' : World} {b ba bg bf : Nat} {e : EntD} {E : EA} {s : WSt}
/-- The watches while end goes on. -/
def stE (s : WSt) (x y z : Bool) : WSt := ⟨if x then s.a.zero else s.a, if y then s.g.zero else s.g, if z then s.f.zero else s.f⟩
theorem stE0 (s : WSt) : stE s false false false = s := rfl
theorem stE1 (s : WSt) : stE s true true true = s.zero := rfl
def wendK (s : WSt) (wh : Bool) (b ba bg bf : Nat) : Nat → Value → Prop
  | 0 => fun v => v = .pointer (some ⟨b, 0, none⟩)
  | 1 => fun v => v = .pointer (some ⟨b, 0, none⟩)
  | 2 => fun v => v = .pointer (some ⟨b, 0, none⟩)
  | 3 => fun v => v = .pointer (some ⟨ba, 0, none⟩)
  | 4 => fun v => v = .bool wh
  | 5 => fun v => v = .bool (s.a.well wh)
  | 6 => fun v => v = .pointer (some ⟨b, 0, none⟩)
  | 7 => fun v => v = .pointer (some ⟨b, 0, none⟩)
  | 8 => fun v => v = .pointer (some ⟨b, 1, none⟩)
  | 9 => fun v => v = .pointer (some ⟨bg, 0, none⟩)
  | 10 => fun v => v = .bool (!s.g.bad)
  | 11 => fun v => v = .pointer (some ⟨b, 0, none⟩)
  | 12 => fun v => v = .pointer (some ⟨b, 0, none⟩)
  | 13 => fun v => v = .pointer (some ⟨b, 2, none⟩)
  | 14 => fun v => v = .pointer (some ⟨bf, 0, none⟩)
  | 15 => fun v => v = .bool (!s.f.bad)
  | 16 => fun v => v = .bool (s.a.well wh)
  | 17 => fun v => v = .bool (!s.g.bad)
  | 18 => fun v => v = .bool (!s.f.bad)
  | _ => fun _ => True
set_option maxHeartbeats 4000000 in
set_option maxRecDepth 100000 in
theorem watch_end (wh : Bool) (c : Array Value) (h : WatAt F w ba bg bf e s) (hb : w.heap[b]? = some (.cells c 147 (0, 0))) (h0 : c[0]? = some (.pointer (some ⟨ba, 0, none⟩))) (h1 : c[1]? = some (.pointer (some ⟨bg, 0, none⟩))) (h2 : c[2]? = some (.pointer (some ⟨bf, 0, none⟩))) :
    Calls Tryz.prog 160 #[.pointer (some ⟨b, 0, none⟩), .bool wh] w fun v w' => v = .returned (.int .i64 (s.kind wh)) ∧ WatTo F w w' b ba bg bf e s.zero c := by
  have HW : Hid (WatTo F w w b ba bg bf e s c) := ⟨h, hb, FrL.refl _ _⟩
  have H0 : Hid (c[0]? = some (.pointer (some ⟨ba, 0, none⟩))) := h0
  have H1 : Hid (c[1]? = some (.pointer (some ⟨bg, 0, none⟩))) := h1
  have H2 : Hid (c[2]? = some (.pointer (some ⟨bf, 0, none⟩))) := h2
  clear h hb h0 h1 h2
  go_enter Tryz.func160, Tryz.ntmps160
  go_wp2_with fail
  refine region_spec2 19 rfl (fun j v _ => wendK s wh b ba bg bf j v) (fun done V => WatTo F w V b ba bg bf e (stE s (done 5) (done 10) (done 15)) c) (by kernel_rfl) (by kernel_rfl) ⟨by show WatAt _ _ _ _ _ _ (stE s false false false); rw [stE0]; exact HW.out.wat.same (fun _ _ => rfl), HW.out.row, FrL.below (Below.refl _ _).drew⟩ ?_ ?_
  · intro i o ho
    match i, ho with
    | 0, ho =>
      obtain rfl := Option.some.inj ho
      refine StepOk2.free rfl ?_
      intro done a V hC hdn hdo hdep hoth
      have x0 : a.tmps[0]?.getD undef = .pointer (some ⟨b, 0, none⟩) := slot_of (hoth 0 (notDst (by kernel_rfl)))
      exact goodRun2.val (c := .pointer (some ⟨b, 0, none⟩)) (by clear hdep hoth hdo hC; go_simp) (by rw [mark_other done (show 5 ≠ 0 by decide), mark_other done (show 10 ≠ 0 by decide), mark_other done (show 15 ≠ 0 by decide)]; exact hC) rfl
    | 1, ho =>
      obtain rfl := Option.some.inj ho
      refine StepOk2.free rfl ?_
      intro done a V hC hdn hdo hdep hoth
      have x8 : a.tmps[8]?.getD undef = .pointer (some ⟨b, 0, none⟩) := slot_of (hdep _ 8 (Array.mem_of_getElem? (i := 0) rfl) rfl rfl)
      exact goodRun2.val (c := .pointer (some ⟨b, 0, none⟩)) (by clear hdep hoth hdo hC; go_simp) (by rw [mark_other done (show 5 ≠ 1 by decide), mark_other done (show 10 ≠ 1 by decide), mark_other done (show 15 ≠ 1 by decide)]; exact hC) rfl
    | 2, ho =>
      obtain rfl := Option.some.inj ho
      refine StepOk2.free rfl ?_
      intro done a V hC hdn hdo hdep hoth
      have x9 : a.tmps[9]?.getD undef = .pointer (some ⟨b, 0, none⟩) := slot_of (hdep _ 9 (Array.mem_of_getElem? (i := 0) rfl) rfl rfl)
      exact goodRun2.val (c := .pointer (some ⟨b, 0, none⟩)) (by clear hdep hoth hdo hC; go_simp) (by rw [mark_other done (show 5 ≠ 2 by decide), mark_other done (show 10 ≠ 2 by decide), mark_other done (show 15 ≠ 2 by decide)]; exact hC) rfl
    | 3, ho =>
      obtain rfl := Option.some.inj ho
      refine StepOk2.free rfl ?_
      intro done a V hC hdn hdo hdep hoth
      have x10 : a.tmps[10]?.getD undef = .pointer (some ⟨b, 0, none⟩) := slot_of (hdep _ 10 (Array.mem_of_getElem? (i := 0) rfl) rfl rfl)
      have c0 : V.cell? ⟨b, 0, none⟩ = some (.pointer (some ⟨ba, 0, none⟩)) := by simp [World.cell?, hC.row, H0.out]
      exact goodRun2.val (c := .pointer (some ⟨ba, 0, none⟩)) (by clear hdep hoth hdo hC; go_simp) (by rw [mark_other done (show 5 ≠ 3 by decide), mark_other done (show 10 ≠ 3 by decide), mark_other done (show 15 ≠ 3 by decide)]; exact hC) rfl
    | 4, ho =>
      obtain rfl := Option.some.inj ho
      refine StepOk2.free rfl ?_
      intro done a V hC hdn hdo hdep hoth
      have x1 : a.tmps[1]?.getD undef = .bool wh := slot_of (hoth 1 (notDst (by kernel_rfl)))
      exact goodRun2.val (c := .bool wh) (by clear hdep hoth hdo hC; go_simp) (by rw [mark_other done (show 5 ≠ 4 by decide), mark_other done (show 10 ≠ 4 by decide), mark_other done (show 15 ≠ 4 by decide)]; exact hC) rfl
    | 5, ho =>
      obtain rfl := Option.some.inj ho
      refine StepOk2.free rfl ?_
      intro done a V hC hdn hdo hdep hoth
      have x11 : a.tmps[11]?.getD undef = .pointer (some ⟨ba, 0, none⟩) := slot_of (hdep _ 11 (Array.mem_of_getElem? (i := 0) rfl) rfl rfl)
      have x12 : a.tmps[12]?.getD undef = .bool wh := slot_of (hdep _ 12 (Array.mem_of_getElem? (i := 1) rfl) rfl rfl)
      refine goodRun2.call (f := 207) (args := #[.pointer (some ⟨ba, 0, none⟩), .bool wh]) (by clear hdep hoth hdo hC; go_simp) ?_
      rw [hdn] at hC
      refine (al_end2 wh hC.wat.al).mono ?_
      rintro v w1 ⟨rfl, hA, hg⟩
      refine ⟨_, rfl, ?_, fun _ _ _ h => h, rfl⟩
      rw [mark_same, mark_other done (show 10 ≠ 5 by decide), mark_other done (show 15 ≠ 5 by decide)]
      exact ⟨hC.wat.setA hg hA, hC.wat.rowA hC.row hg, hC.fr.trans (hC.wat.frA hg) (fun _ _ x => x)⟩
    | 6, ho =>
      obtain rfl := Option.some.inj ho
      refine StepOk2.free rfl ?_
      intro done a V hC hdn hdo hdep hoth
      have x0 : a.tmps[0]?.getD undef = .pointer (some ⟨b, 0, none⟩) := slot_of (hoth 0 (notDst (by kernel_rfl)))
      exact goodRun2.val (c := .pointer (some ⟨b, 0, none⟩)) (by clear hdep hoth hdo hC; go_simp) (by rw [mark_other done (show 5 ≠ 6 by decide), mark_other done (show 10 ≠ 6 by decide), mark_other done (show 15 ≠ 6 by decide)]; exact hC) rfl
    | 7, ho =>
      obtain rfl := Option.some.inj ho
      refine StepOk2.free rfl ?_
      intro done a V hC hdn hdo hdep hoth
      have x14 : a.tmps[14]?.getD undef = .pointer (some ⟨b, 0, none⟩) := slot_of (hdep _ 14 (Array.mem_of_getElem? (i := 0) rfl) rfl rfl)
      exact goodRun2.val (c := .pointer (some ⟨b, 0, none⟩)) (by clear hdep hoth hdo hC; go_simp) (by rw [mark_other done (show 5 ≠ 7 by decide), mark_other done (show 10 ≠ 7 by decide), mark_other done (show 15 ≠ 7 by decide)]; exact hC) rfl
    | 8, ho =>
      obtain rfl := Option.some.inj ho
      refine StepOk2.free rfl ?_
      intro done a V hC hdn hdo hdep hoth
      have x15 : a.tmps[15]?.getD undef = .pointer (some ⟨b, 0, none⟩) := slot_of (hdep _ 15 (Array.mem_of_getElem? (i := 0) rfl) rfl rfl)
      exact goodRun2.val (c := .pointer (some ⟨b, 1, none⟩)) (by clear hdep hoth hdo hC; go_simp) (by rw [mark_other done (show 5 ≠ 8 by decide), mark_other done (show 10 ≠ 8 by decide), mark_other done (show 15 ≠ 8 by decide)]; exact hC) rfl
    | 9, ho =>
      obtain rfl := Option.some.inj ho
      refine StepOk2.free rfl ?_
      intro done a V hC hdn hdo hdep hoth
      have x16 : a.tmps[16]?.getD undef = .pointer (some ⟨b, 1, none⟩) := slot_of (hdep _ 16 (Array.mem_of_getElem? (i := 0) rfl) rfl rfl)
      have c1 : V.cell? ⟨b, 1, none⟩ = some (.pointer (some ⟨bg, 0, none⟩)) := by simp [World.cell?, hC.row, H1.out]
      exact goodRun2.val (c := .pointer (some ⟨bg, 0, none⟩)) (by clear hdep hoth hdo hC; go_simp) (by rw [mark_other done (show 5 ≠ 9 by decide), mark_other done (show 10 ≠ 9 by decide), mark_other done (show 15 ≠ 9 by decide)]; exact hC) rfl
    | 10, ho =>
      obtain rfl := Option.some.inj ho
      refine StepOk2.free rfl ?_
      intro done a V hC hdn hdo hdep hoth
      have x17 : a.tmps[17]?.getD undef = .pointer (some ⟨bg, 0, none⟩) := slot_of (hdep _ 17 (Array.mem_of_getElem? (i := 0) rfl) rfl rfl)
      refine goodRun2.call (f := 208) (args := #[.pointer (some ⟨bg, 0, none⟩)]) (by clear hdep hoth hdo hC; go_simp) ?_
      rw [hdn] at hC
      obtain ⟨sa, cap, hG, hGF⟩ := hC.wat.ga
      refine (gp_end2 hG).mono ?_
      rintro v w1 ⟨rfl, hA, hg⟩
      refine ⟨_, rfl, ?_, fun _ _ _ h => h, rfl⟩
      rw [mark_same, mark_other done (show 5 ≠ 10 by decide), mark_other done (show 15 ≠ 10 by decide)]
      exact ⟨hC.wat.setG hG hGF hg hA rfl, rowG hG hC.row hg, hC.fr.trans (frG hG hGF hg) (fun _ _ x => x)⟩
    | 11, ho =>
      obtain rfl := Option.some.inj ho
      refine StepOk2.free rfl ?_
      intro done a V hC hdn hdo hdep hoth
      have x0 : a.tmps[0]?.getD undef = .pointer (some ⟨b, 0, none⟩) := slot_of (hoth 0 (notDst (by kernel_rfl)))
      exact goodRun2.val (c := .pointer (some ⟨b, 0, none⟩)) (by clear hdep hoth hdo hC; go_simp) (by rw [mark_other done (show 5 ≠ 11 by decide), mark_other done (show 10 ≠ 11 by decide), mark_other done (show 15 ≠ 11 by decide)]; exact hC) rfl
    | 12, ho =>
      obtain rfl := Option.some.inj ho
      refine StepOk2.free rfl ?_
      intro done a V hC hdn hdo hdep hoth
      have x19 : a.tmps[19]?.getD undef = .pointer (some ⟨b, 0, none⟩) := slot_of (hdep _ 19 (Array.mem_of_getElem? (i := 0) rfl) rfl rfl)
      exact goodRun2.val (c := .pointer (some ⟨b, 0, none⟩)) (by clear hdep hoth hdo hC; go_simp) (by rw [mark_other done (show 5 ≠ 12 by decide), mark_other done (show 10 ≠ 12 by decide), mark_other done (show 15 ≠ 12 by decide)]; exact hC) rfl
    | 13, ho =>
      obtain rfl := Option.some.inj ho
      refine StepOk2.free rfl ?_
      intro done a V hC hdn hdo hdep hoth
      have x20 : a.tmps[20]?.getD undef = .pointer (some ⟨b, 0, none⟩) := slot_of (hdep _ 20 (Array.mem_of_getElem? (i := 0) rfl) rfl rfl)
      exact goodRun2.val (c := .pointer (some ⟨b, 2, none⟩)) (by clear hdep hoth hdo hC; go_simp) (by rw [mark_other done (show 5 ≠ 13 by decide), mark_other done (show 10 ≠ 13 by decide), mark_other done (show 15 ≠ 13 by decide)]; exact hC) rfl
    | 14, ho =>
      obtain rfl := Option.some.inj ho
      refine StepOk2.free rfl ?_
      intro done a V hC hdn hdo hdep hoth
      have x21 : a.tmps[21]?.getD undef = .pointer (some ⟨b, 2, none⟩) := slot_of (hdep _ 21 (Array.mem_of_getElem? (i := 0) rfl) rfl rfl)
      have c2 : V.cell? ⟨b, 2, none⟩ = some (.pointer (some ⟨bf, 0, none⟩)) := by simp [World.cell?, hC.row, H2.out]
      exact goodRun2.val (c := .pointer (some ⟨bf, 0, none⟩)) (by clear hdep hoth hdo hC; go_simp) (by rw [mark_other done (show 5 ≠ 14 by decide), mark_other done (show 10 ≠ 14 by decide), mark_other done (show 15 ≠ 14 by decide)]; exact hC) rfl
    | 15, ho =>
      obtain rfl := Option.some.inj ho
      refine StepOk2.free rfl ?_
      intro done a V hC hdn hdo hdep hoth
      have x22 : a.tmps[22]?.getD undef = .pointer (some ⟨bf, 0, none⟩) := slot_of (hdep _ 22 (Array.mem_of_getElem? (i := 0) rfl) rfl rfl)
      refine goodRun2.call (f := 209) (args := #[.pointer (some ⟨bf, 0, none⟩)]) (by clear hdep hoth hdo hC; go_simp) ?_
      rw [hdn] at hC
      obtain ⟨m, n, D, fv, lv, h3, h4, h5, h6, h7⟩ := hC.wat.fl
      refine (fl_end2 h3).mono ?_
      rintro v w1 ⟨rfl, hA, hg⟩
      refine ⟨_, rfl, ?_, fun _ _ _ h => h, rfl⟩
      rw [mark_same, mark_other done (show 5 ≠ 15 by decide), mark_other done (show 10 ≠ 15 by decide)]
      exact ⟨hC.wat.setF h3 h4 h5 h6 h7 hg hA, rowF h3 hC.row hg, hC.fr.trans (frF h3 h4 hg) (fun _ _ x => x)⟩
    | 16, ho =>
      obtain rfl := Option.some.inj ho
      refine StepOk2.free rfl ?_
      intro done a V hC hdn hdo hdep hoth
      have x13 : a.tmps[13]?.getD undef = .bool (s.a.well wh) := slot_of (hdep _ 13 (Array.mem_of_getElem? (i := 0) rfl) rfl rfl)
      exact goodRun2.val (c := .bool (s.a.well wh)) (by clear hdep hoth hdo hC; go_simp) (by rw [mark_other done (show 5 ≠ 16 by decide), mark_other done (show 10 ≠ 16 by decide), mark_other done (show 15 ≠ 16 by decide)]; exact hC) rfl
    | 17, ho =>
      obtain rfl := Option.some.inj ho
      refine StepOk2.free rfl ?_
      intro done a V hC hdn hdo hdep hoth
      have x18 : a.tmps[18]?.getD undef = .bool (!s.g.bad) := slot_of (hdep _ 18 (Array.mem_of_getElem? (i := 0) rfl) rfl rfl)
      exact goodRun2.val (c := .bool (!s.g.bad)) (by clear hdep hoth hdo hC; go_simp) (by rw [mark_other done (show 5 ≠ 17 by decide), mark_other done (show 10 ≠ 17 by decide), mark_other done (show 15 ≠ 17 by decide)]; exact hC) rfl
    | 18, ho =>
      obtain rfl := Option.some.inj ho
      refine StepOk2.free rfl ?_
      intro done a V hC hdn hdo hdep hoth
      have x23 : a.tmps[23]?.getD undef = .bool (!s.f.bad) := slot_of (hdep _ 23 (Array.mem_of_getElem? (i := 0) rfl) rfl rfl)
      exact goodRun2.val (c := .bool (!s.f.bad)) (by clear hdep hoth hdo hC; go_simp) (by rw [mark_other done (show 5 ≠ 18 by decide), mark_other done (show 10 ≠ 18 by decide), mark_other done (show 15 ≠ 18 by decide)]; exact hC) rfl
    | n + 19, ho => simp at ho
  · intro vals V hC hS
    have HC : Hid (WatTo F w V b ba bg bf e s.zero c) := by rw [← stE1]; exact hC
    have v5 : vals 16 = .bool (s.a.well wh) := hS 16 (by decide)
    have v10 : vals 17 = .bool (!s.g.bad) := hS 17 (by decide)
    have v15 : vals 18 = .bool (!s.f.bad) := hS 18 (by decide)
    clear hC hS HW H0 H1 H2
    simp only [fill, dstOf]
    go_simp
    have hk : ∀ x y z, s.a.well wh = x → s.g.bad = y → s.f.bad = z → s.kind wh = if x = false then 1 else if y = true then 2 else if z = true then 3 else 0 := fun x y z h1 h2 h3 => by unfold WSt.kind kindW; rw [h1, h2, h3]
    have HK : Hid _ := hk
    clear hk v5 v10 v15
    cases q1 : s.a.well wh
    · have HR : Hid (s.kind wh = 1) := by show _ = _; have := HK.out false _ _ q1 rfl rfl; simpa using this
      clear HK
      go_wp2
      go_ret
      exact ⟨by rw [HR.out]; rfl, HC.out⟩
    · cases q2 : s.g.bad
      · cases q3 : s.f.bad
        · have HR : Hid (s.kind wh = 0) := by show _ = _; have := HK.out _ _ _ q1 q2 q3; simpa using this
          clear HK
          go_wp2
          go_ret
          exact ⟨by rw [HR.out]; rfl, HC.out⟩
        · have HR : Hid (s.kind wh = 3) := by show _ = _; have := HK.out _ _ _ q1 q2 q3; simpa using this
          clear HK
          go_wp2
          go_ret
          exact ⟨by rw [HR.out]; rfl, HC.out⟩
      · have HR : Hid (s.kind wh = 2) := by show _ = _; have := HK.out _ _ _ q1 q2 rfl; simpa using this
        clear HK
        go_wp2
        go_ret
        exact ⟨by rw [HR.out]; rfl, HC.out⟩
end
end Go.Proofs.YtkphpgdgbnmnjacGreatDoor
