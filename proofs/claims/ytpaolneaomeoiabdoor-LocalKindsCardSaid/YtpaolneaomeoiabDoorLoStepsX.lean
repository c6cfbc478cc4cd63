/-
  One watch of the three turns, the others stay: steps of memory. No condition.
-/
import Derived.Test.YtpaolneaomeoiabDoorLoWatX
namespace Go.Proofs.YtpaolneaomeoiabDoor
open Go.RowKit Go.Extern.Stop Go.Stop Go.Extern

section
variable {F F' : Nat → Prop} {w w' w'' : World} {b ba bg bf : Nat} {e : EntD} {E : EA} {s : WSt}
theorem ne_ty {i j : Nat} {c c' : Array Value} {T T' : TypeId} {fr fr' : Nat × Nat} (h1 : w.heap[i]? = some (.cells c T fr)) (h2 : w.heap[j]? = some (.cells c' T' fr')) (hT : T ≠ T') : i ≠ j := by
  rintro rfl
  rw [h1] at h2
  simp only [Option.some.injEq, Obj.cells.injEq] at h2
  exact hT h2.2.1
theorem own_ty {α : Type} {enc : α → List Value} {k B : Nat} {T : TypeId} {v : Value} {xs : List α} (h : SlOwn enc k T B w v xs) {g : Nat} (hg : v.ownBlock = some g) : ∃ c fr, w.heap[g]? = some (.cells c T fr) := by
  rcases h.2 with ⟨rfl, _⟩ | ⟨g', cap, cur, rfl, _, hg', _⟩
  · simp [Value.ownBlock] at hg
  · simp only [Value.ownBlock, Option.some.injEq] at hg
    subst hg
    exact ⟨_, _, hg'⟩
theorem gs_ty {B cap : Nat} {sa : Option Addr} {s : GSt} (h : GpAt B w b sa cap s) {k : Nat} (hk : GS b sa s.xs.length k) : ∃ c T fr, w.heap[k]? = some (.cells c T fr) ∧ (T = 123 ∨ T = 125) := by
  rcases hk with rfl | ⟨h0, o, e1⟩
  · exact ⟨_, _, _, h.heap, Or.inl rfl⟩
  · obtain ⟨g, o', e2, -, -, -, cur, hf⟩ := h.sl (List.length_pos_iff.1 h0)
    rw [e1] at e2
    simp only [Option.some.injEq, Addr.mk.injEq, and_true] at e2
    obtain ⟨rfl, -⟩ := e2
    exact ⟨_, _, _, hf, Or.inr rfl⟩
/-- A flow stays while blocks of other types turn. -/
theorem FlAt.offT {B m n : Nat} {f : FSt} {D : DataW Unit} {fv lv : Value} {S : Nat → Prop} (h : FlAt B w b e f m n D fv lv) (ho : Off S w w') (hS : ∀ k, S k → ∃ c T fr, w.heap[k]? = some (.cells c T fr) ∧ T ≠ 63 ∧ T ≠ 3) : FlAt B w' b e f m n D fv lv := by
  have g : ∀ k, k < w.heap.size → (∀ c T fr, w.heap[k]? = some (.cells c T fr) → T = 63 ∨ T = 3) → w'.heap[k]? = w.heap[k]? := fun k hk hT => by
    refine ho.block k hk (fun hs => ?_)
    obtain ⟨c, T, fr, h1, h2, h3⟩ := hS k hs
    rcases hT c T fr h1 with rfl | rfl
    · exact h2 rfl
    · exact h3 rfl
  refine h.same (g b (lt_of_row h.heap) (fun c T fr hc => ?_)) (g m (map_lt h) (fun c T fr hc => ?_)) (fun k hk => g k (h.hf.lt k hk).2 (fun c T fr hc => ?_)) (fun k hk => g k (h.hl.lt k hk).2 (fun c T fr hc => ?_))
  · rw [h.heap] at hc
    simp only [Option.some.injEq, Obj.cells.injEq] at hc
    exact Or.inl hc.2.1.symm
  · obtain ⟨es, c', hm0, rest⟩ := h.own
    rw [hm0] at hc
    cases hc
  · obtain ⟨c', fr', h1⟩ := own_ty h.hf hk
    rw [h1] at hc
    simp only [Option.some.injEq, Obj.cells.injEq] at hc
    exact Or.inr hc.2.1.symm
  · obtain ⟨c', fr', h1⟩ := own_ty h.hl hk
    rw [h1] at hc
    simp only [Option.some.injEq, Obj.cells.injEq] at hc
    exact Or.inr hc.2.1.symm
theorem WatAt.setA {a : ASt} (h : WatAt F w ba bg bf e s) (hg : w.grownBy w' (some ba)) (ha : AlAt w' ba a) : WatAt F w' ba bg bf e ⟨a, s.g, s.f⟩ := by
  obtain ⟨sa, cap, h1, h2⟩ := h.ga
  obtain ⟨m, n, D, fv, lv, h3, h4, h5, h6, h7⟩ := h.fl
  refine ⟨ha, h.fa, ⟨sa, cap, h1.same (fun k hk => ?_), h2⟩, ⟨m, n, D, fv, lv, h3.offT (Off.of_grown hg) (fun k hk => ?_), h4, h5, h6, h7⟩, h.gl⟩
  · obtain ⟨c, T, fr, h8, h9⟩ := gs_ty h1 hk
    refine hg.block k (lt_of_row h8) (fun e1 => ?_)
    refine ne_ty h8 h.al.heap ?_ (Option.some.inj e1)
    rcases h9 with rfl | rfl <;> decide
  · subst hk
    exact ⟨_, _, _, h.al.heap, by decide, by decide⟩
theorem WatAt.frA (h : WatAt F w ba bg bf e s) (hg : w.grownBy w' (some ba)) : FrL F w w' := FrL.put hg h.al.heap (Or.inr (Or.inl rfl)) h.fa
theorem WatAt.setG {sa : Option Addr} {cap : Nat} {g : GSt} (h : WatAt F w ba bg bf e s) (h1 : GpAt 0 w bg sa cap s.g) (h2 : ∀ k, GS bg sa s.g.xs.length k → F k) (ho : Off (GS bg sa s.g.xs.length) w w') (hg : GpAt 0 w' bg sa cap g) (hl : g.xs.length = s.g.xs.length) : WatAt F w' ba bg bf e ⟨s.a, g, s.f⟩ := by
  obtain ⟨m, n, D, fv, lv, h3, h4, h5, h6, h7⟩ := h.fl
  refine ⟨h.al.same (ho.block ba (lt_of_row h.al.heap) (fun hs => ?_)), h.fa, ⟨sa, cap, hg, fun k hk => h2 k (by rw [← hl]; exact hk)⟩, ⟨m, n, D, fv, lv, h3.offT ho (fun k hk => ?_), h4, h5, h6, h7⟩, hl.trans h.gl⟩
  · obtain ⟨c, T, fr, h8, h9⟩ := gs_ty h1 hs
    refine ne_ty h8 h.al.heap ?_ rfl
    rcases h9 with rfl | rfl <;> decide
  · obtain ⟨c, T, fr, h8, h9⟩ := gs_ty h1 hk
    refine ⟨c, T, fr, h8, ?_, ?_⟩
    · rcases h9 with rfl | rfl <;> decide
    · rcases h9 with rfl | rfl <;> decide
theorem frG {sa : Option Addr} {cap : Nat} {g : GSt} (h1 : GpAt 0 w bg sa cap g) (h2 : ∀ k, GS bg sa g.xs.length k → F k) (ho : Off (GS bg sa g.xs.length) w w') : FrL F w w' := by
  refine FrL.of _ ho (fun k _ hk => ⟨h2 k hk, ?_⟩)
  obtain ⟨c, T, fr, h8, h9⟩ := gs_ty h1 hk
  refine ⟨c, T, fr, h8, ?_⟩
  rcases h9 with rfl | rfl
  · exact Or.inr (Or.inr (Or.inl rfl))
  · exact Or.inr (Or.inr (Or.inr (Or.inl rfl)))
theorem WatAt.setF {m n : Nat} {D : DataW Unit} {fv lv : Value} {f : FSt} (h : WatAt F w ba bg bf e s) (h3 : FlAt 0 w bf e s.f m n D fv lv) (h4 : F bf) (h5 : F m) (h6 : ∀ g, fv.ownBlock = some g → F g) (h7 : ∀ g, lv.ownBlock = some g → F g) (hg : w.grownBy w' (some bf)) (hf : FlAt 0 w' bf e f m n D fv lv) : WatAt F w' ba bg bf e ⟨s.a, s.g, f⟩ := by
  obtain ⟨sa, cap, h1, h2⟩ := h.ga
  refine ⟨h.al.same (hg.block ba (lt_of_row h.al.heap) (fun e1 => ?_)), h.fa, ⟨sa, cap, h1.same (fun k hk => ?_), h2⟩, ⟨m, n, D, fv, lv, hf, h4, h5, h6, h7⟩, h.gl⟩
  · exact ne_ty h.al.heap h3.heap (by decide) (Option.some.inj e1)
  · obtain ⟨c, T, fr, h8, h9⟩ := gs_ty h1 hk
    refine hg.block k (lt_of_row h8) (fun e1 => ?_)
    refine ne_ty h8 h3.heap ?_ (Option.some.inj e1)
    rcases h9 with rfl | rfl <;> decide
theorem frF {m n : Nat} {D : DataW Unit} {fv lv : Value} {f : FSt} (h3 : FlAt 0 w bf e f m n D fv lv) (h4 : F bf) (hg : w.grownBy w' (some bf)) : FrL F w w' := FrL.put hg h3.heap (Or.inr (Or.inr (Or.inr (Or.inr rfl)))) h4
/-- The row of an entity stays while its watches turn. -/
theorem row_offL {c : Array Value} {fr : Nat × Nat} (hb : w.heap[b]? = some (.cells c 78 fr)) {S : Nat → Prop} (ho : Off S w w') (hS : ∀ k, S k → ∃ c T fr, w.heap[k]? = some (.cells c T fr) ∧ T ≠ 78) : w'.heap[b]? = some (.cells c 78 fr) := by
  refine (ho.block b (lt_of_row hb) (fun hs => ?_)).trans hb
  obtain ⟨c', T, fr', h1, h2⟩ := hS b hs
  exact ne_ty h1 hb h2 rfl
theorem WatAt.rowA (h : WatAt F w ba bg bf e s) {c : Array Value} {fr : Nat × Nat} (hb : w.heap[b]? = some (.cells c 78 fr)) (hg : w.grownBy w' (some ba)) : w'.heap[b]? = some (.cells c 78 fr) :=
  row_offL hb (Off.of_grown hg) (fun k hk => by subst hk; exact ⟨_, _, _, h.al.heap, by decide⟩)
theorem rowG {sa : Option Addr} {cap : Nat} {g : GSt} (h1 : GpAt 0 w bg sa cap g) {c : Array Value} {fr : Nat × Nat} (hb : w.heap[b]? = some (.cells c 78 fr)) (ho : Off (GS bg sa g.xs.length) w w') : w'.heap[b]? = some (.cells c 78 fr) :=
  row_offL hb ho (fun k hk => by
    obtain ⟨c, T, fr, h8, h9⟩ := gs_ty h1 hk
    refine ⟨c, T, fr, h8, ?_⟩
    rcases h9 with rfl | rfl <;> decide)
theorem rowF {m n : Nat} {D : DataW Unit} {fv lv : Value} {f : FSt} (h3 : FlAt 0 w bf e f m n D fv lv) {c : Array Value} {fr : Nat × Nat} (hb : w.heap[b]? = some (.cells c 78 fr)) (hg : w.grownBy w' (some bf)) : w'.heap[b]? = some (.cells c 78 fr) :=
  row_offL hb (Off.of_grown hg) (fun k hk => by subst hk; exact ⟨_, _, _, h3.heap, by decide⟩)
/-- What a call upon the watches leaves: the entity's row, and what may turn. -/
structure WatTo (F : Nat → Prop) (w w' : World) (b ba bg bf : Nat) (e : EntD) (s : WSt) (c : Array Value) : Prop where
  wat : WatAt F w' ba bg bf e s
  row : w'.heap[b]? = some (.cells c 78 (0, 0))
  fr : FrL F w w'
set_option maxHeartbeats 2000000 in
set_option maxRecDepth 100000 in
theorem watch_report (p t : Int) (c : Array Value) (h : WatAt F w ba bg bf e s) (hb : w.heap[b]? = some (.cells c 78 (0, 0))) (h0 : c[0]? = some (.pointer (some ⟨ba, 0, none⟩))) (h1 : c[1]? = some (.pointer (some ⟨bg, 0, none⟩))) (h2 : c[2]? = some (.pointer (some ⟨bf, 0, none⟩))) (hS : SmallE e) :
    Calls Tryd.prog 37 #[.pointer (some ⟨b, 0, none⟩), .int .i64 p, .int .i64 t] w fun v w' => v = .returned (.tuple #[]) ∧ WatTo F w w' b ba bg bf e (s.rep e p t) c := by
  have H : Hid (WatAt F w ba bg bf e s) := h
  have HB : Hid (w.heap[b]? = some (.cells c 78 (0, 0))) := hb
  have H1 : Hid (c[1]? = some (.pointer (some ⟨bg, 0, none⟩))) := h1
  have H2 : Hid (c[2]? = some (.pointer (some ⟨bf, 0, none⟩))) := h2
  have HS : Hid (SmallE e) := hS
  have c0 : w.cell? ⟨b, 0, none⟩ = some (.pointer (some ⟨ba, 0, none⟩)) := by simp [World.cell?, hb, h0]
  clear h hb h0 h1 h2 hS
  go_enter Tryd.func37, Tryd.ntmps37
  go_wp2_with fail
  refine (al_report2 p H.out.al).mono ?_
  rintro v w1 ⟨rfl, hA, hg⟩
  have H' : Hid (WatTo F w w1 b ba bg bf e ⟨s.a.rep p, s.g, s.f⟩ c) := ⟨H.out.setA hg hA, H.out.rowA HB.out hg, H.out.frA hg⟩
  have c1 : w1.cell? ⟨b, 1, none⟩ = some (.pointer (some ⟨bg, 0, none⟩)) := by simp [World.cell?, H'.out.row, H1.out]
  clear c0 hA hg
  go_wp2_with fail
  obtain ⟨sa, cap, hG, hGF⟩ := H'.out.wat.ga
  have HG : Hid (GpAt 0 w1 bg sa cap s.g ∧ ∀ k, GS bg sa s.g.xs.length k → F k) := ⟨hG, hGF⟩
  clear hG hGF
  refine (gp_report2 p t HG.out.1 (by have h5 : s.g.xs.length = e.gaps.length := H'.out.wat.gl; have := HS.out.hg; omega)).mono ?_
  rintro v w2 ⟨rfl, hA, hg⟩
  have H3 : Hid (WatTo F w w2 b ba bg bf e ⟨s.a.rep p, s.g.rep p t, s.f⟩ c) := ⟨H'.out.wat.setG HG.out.1 HG.out.2 hg hA (rep_len _ _ _), rowG HG.out.1 H'.out.row hg, H'.out.fr.trans (frG HG.out.1 HG.out.2 hg) (fun _ _ x => x)⟩
  have c2 : w2.cell? ⟨b, 2, none⟩ = some (.pointer (some ⟨bf, 0, none⟩)) := by simp [World.cell?, H3.out.row, H2.out]
  clear c1 hA hg HG H'
  go_wp2_with fail
  obtain ⟨m, n, D, fv, lv, hF3, hF4, hF5, hF6, hF7⟩ := H3.out.wat.fl
  have HF : Hid (FlAt 0 w2 bf e s.f m n D fv lv ∧ F bf ∧ F m ∧ (∀ g, fv.ownBlock = some g → F g) ∧ ∀ g, lv.ownBlock = some g → F g) := ⟨hF3, hF4, hF5, hF6, hF7⟩
  clear hF3 hF4 hF5 hF6 hF7
  refine (fl_report2 p HF.out.1).mono ?_
  rintro v w3 ⟨rfl, hA, hg⟩
  have H4 : Hid (WatTo F w w3 b ba bg bf e (s.rep e p t) c) := ⟨H3.out.wat.setF HF.out.1 HF.out.2.1 HF.out.2.2.1 HF.out.2.2.2.1 HF.out.2.2.2.2 hg hA, rowF HF.out.1 H3.out.row hg, H3.out.fr.trans (frF HF.out.1 HF.out.2.1 hg) (fun _ _ x => x)⟩
  clear hA hg HF H3 c2
  go_wp2
  go_end0
  exact ⟨rfl, H4.out⟩
end
end Go.Proofs.YtpaolneaomeoiabDoor
