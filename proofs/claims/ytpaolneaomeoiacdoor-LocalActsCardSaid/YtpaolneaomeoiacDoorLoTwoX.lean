/-
  package local's entity and the document's, side by side ('Two'), and each act upon both. Conditions: the entity is right, its lists lie in memory, and are not too long; at most a thousand acts.
-/
import Derived.Test.YtpaolneaomeoiacDoorLoInX
import Derived.Test.YtpaolneaomeoiacDoorLcEndX
import Derived.Test.YtpaolneaomeoiacDoorLcRepX
import Derived.Test.YtpaolneaomeoiacDoorCodesX
namespace Go.Proofs.YtpaolneaomeoiacDoor
open Go.RowKit Go.Extern.Stop Go.Stop Go.Extern

section
variable {F : Nat → Prop} {w0 w w' : World} {b m : Nat} {e : EntD} {E E0 : EA} {so : Option NSt} {s s' : LSt} {sv : Value} {A : Nat → Addr}
/-- A block that the document's calls leave. -/
def Gd (w : World) (k : Nat) : Prop := ∃ o, w.heap[k]? = some o ∧ ∀ c T fr, o = .cells c T fr → T ≠ 74 ∧ T ≠ 39
theorem gd_cells {k : Nat} {c : Array Value} {T : TypeId} {fr : Nat × Nat} (h : w.heap[k]? = some (.cells c T fr)) (h1 : T ≠ 74) (h2 : T ≠ 39) : Gd w k :=
  ⟨_, h, fun c' T' fr' e1 => by cases e1; exact ⟨h1, h2⟩⟩
theorem gd_own {α : Type} {enc : α → List Value} {k : Nat} {T : TypeId} {v : Value} {xs : List α} (h : OwnF enc k T F w v xs) (h1 : T ≠ 74) (h2 : T ≠ 39) : OwnF enc k T (fun k => F k ∧ Gd w k) w v xs :=
  ⟨h.1, fun g hg => by obtain ⟨c, fr, h3⟩ := own_ty h.1 hg; exact ⟨h.2 g hg, gd_cells h3 h1 h2⟩⟩
theorem WatAt.gd {ba bg bf : Nat} {n : WSt} (h : WatAt F w ba bg bf e n) : WatAt (fun k => F k ∧ Gd w k) w ba bg bf e n := by
  obtain ⟨sa, cap, h1, h2⟩ := h.ga
  obtain ⟨mm, nn, D, fv, lv, h3, h4, h5, h6, h7⟩ := h.fl
  refine ⟨h.al, ⟨h.fa, gd_cells h.al.heap (by decide) (by decide)⟩, ⟨sa, cap, h1, fun k hk => ⟨h2 k hk, ?_⟩⟩, ⟨mm, nn, D, fv, lv, h3, ⟨h4, gd_cells h3.heap (by decide) (by decide)⟩, ⟨h5, ?_⟩, fun g hg => ⟨h6 g hg, ?_⟩, fun g hg => ⟨h7 g hg, ?_⟩⟩, h.gl⟩
  · obtain ⟨c, T, fr, h8, h9⟩ := gs_ty h1 hk
    exact gd_cells h8 (by rcases h9 with rfl | rfl <;> decide) (by rcases h9 with rfl | rfl <;> decide)
  · obtain ⟨es, c', hm0, rest⟩ := h3.own
    exact ⟨_, hm0, fun c T fr e1 => by cases e1⟩
  · obtain ⟨c, fr, h8⟩ := own_ty h3.hf hg
    exact gd_cells h8 (by decide) (by decide)
  · obtain ⟨c, fr, h8⟩ := own_ty h3.hl hg
    exact gd_cells h8 (by decide) (by decide)
theorem LoAt.gd (h : LoAt F w b e E so) : LoAt (fun k => F k ∧ Gd w k) w b e E so := by
  have hr := h.row
  refine ⟨⟨gd_own h.parts.hp (by decide) (by decide), gd_own h.parts.hg (by decide) (by decide), gd_own h.parts.he (by decide) (by decide), gd_own h.parts.hf (by decide) (by decide), gd_own h.parts.hl (by decide) (by decide)⟩, ⟨h.fb, ?_⟩, ?_⟩
  · cases so with
    | none => exact gd_cells hr (by decide) (by decide)
    | some n => obtain ⟨ba, bg, bf, h1, -⟩ := hr; exact gd_cells h1 (by decide) (by decide)
  · cases so with
    | none => exact hr
    | some n => obtain ⟨ba, bg, bf, h1, h2⟩ := hr; exact ⟨ba, bg, bf, h1, h2.gd⟩
theorem LoIn.frM (h : LoIn w0 w b e E so) (hf : FrM w w') (hb : Below w0.heap.size w0 w') : LoIn w0 w' b e E so := by
  obtain ⟨F, h1, h2⟩ := h.at'
  exact ⟨⟨_, h1.gd.same (fun k hk => by obtain ⟨o, h3, h4⟩ := hk.2; rw [h3]; exact hf k o h3 h4), fun k hk => h2 k hk.1⟩, hb⟩
/-- The document's entity, where its lists lie as E0 tells. -/
abbrev LmE (w0 w : World) (m : Nat) (e : EntD) (E : EA) (s : LSt) (sv : Value) : Prop := LmIn w0 w m e E.pa E.ga E.ea E.fa E.la E.pc E.gc E.ec E.fc E.lc s sv
theorem LmIn.frT (h : LmE w0 w m e E0 s sv) (hf : FrT w w') (hb : Below w0.heap.size w0 w') : LmE w0 w' m e E0 s sv := by
  refine ⟨hf.ty _ _ _ _ h.heap (by unfold TyL; decide), ?_, hb, h.lo⟩
  refine ⟨h.own.1, ?_⟩
  rcases h.own.2 with hn | ⟨g, cap, cur, rfl, h1, hgg, rest⟩
  · exact .inl hn
  · exact .inr ⟨g, cap, cur, rfl, h1, hf.ty _ _ _ _ hgg (by unfold TyL; decide), rest⟩
/-- Is the one the other? -/
def Sim (e : EntD) : Option NSt → LSt → Prop
  | none, s => s.act = false
  | some n, s => NSim e n s
/-- What is always so of the reports. -/
structure Fits (s : LSt) (k : Nat) : Prop where
  fit : LFit s k
  tick : ∀ x ∈ s.ms, 0 ≤ x.tick ∧ x.tick ≤ 1099511627776
theorem Fits.begin {k : Nat} (h : Fits s k) : Fits s.begin (k + 1) := ⟨h.fit.begin, by unfold LSt.begin; split; exact h.tick; exact fun x hx => by cases hx⟩
theorem Fits.stop {k : Nat} (h : Fits s k) : Fits s.stop (k + 1) := ⟨h.fit.stop, h.tick⟩
theorem Fits.fin {k : Nat} (h : Fits s k) : Fits (s.fin e) (k + 1) := ⟨h.fit.fin, by unfold LSt.fin; split; exact h.tick; exact h.tick⟩
theorem Fits.rep {k : Nat} (h : Fits s k) (p t : Int) (ht : 0 ≤ t ∧ t ≤ 1099511627776) : Fits (s.rep e p t) (k + 1) := by
  refine ⟨h.fit.rep p t, ?_⟩
  unfold LSt.rep
  split
  · intro x hx
    rcases List.mem_append.1 hx with hx | hx
    · exact h.tick x hx
    · rw [List.mem_singleton] at hx; subst hx; exact ht
  · exact h.tick
/-- Both side by side; the first is an act ahead where s' is behind s. -/
structure Half (w0 w : World) (b m : Nat) (e : EntD) (E E0 : EA) (s s' : LSt) (k : Nat) : Prop where
  lo : ∃ so, LoIn w0 w b e E so ∧ Sim e so s'
  lm : ∃ sv, LmE w0 w m e E0 s sv
  fit : Fits s k
abbrev Two (w0 w : World) (b m : Nat) (e : EntD) (E E0 : EA) (s : LSt) (k : Nat) : Prop := Half w0 w b m e E E0 s s k
theorem Half.bel {k : Nat} (h : Half w0 w b m e E E0 s s' k) : Below w0.heap.size w0 w := by obtain ⟨so, h1, -⟩ := h.lo; exact h1.bel
theorem Half.below {k : Nat} (h : Half w0 w b m e E E0 s s' k) (hb : Below w.heap.size w w') : Half w0 w' b m e E E0 s s' k := by
  obtain ⟨so, h1, h2⟩ := h.lo
  obtain ⟨sv, h3⟩ := h.lm
  exact ⟨⟨so, h1.below hb, h2⟩, ⟨sv, h3.below hb⟩, h.fit⟩
/-- What the law needs of the entity. -/
structure Rgt (w0 : World) (e : EntD) (E0 : EA) : Prop where
  parts : PartsE w0 e E0
  small : SmallE e
  wf : WfE e.edges
  cnt : e.cnt < (e.pts.length : Int)
  tol : 0 ≤ e.tol
/-- An error by its number. -/
def errV (A : Nat → Addr) (j : Nat) : Value := if j = 0 then .nilIface else .iface 141 (.pointer (some (A (j - 1))))
theorem coded_err (j : Nat) (x : Int) (hx : x = (j : Int)) (hs : Senv A w) (hj : j ≤ 11) :
    Calls Tryd.prog 9 #[errV A j, .int .i64 x] w fun v w' => v = .returned (.bool true) ∧ Below w.heap.size w w' := by
  subst hx
  unfold errV
  by_cases h0 : j = 0
  · subst h0
    refine (coded_nil 0 w).mono ?_
    rintro v w' ⟨rfl, rfl⟩
    exact ⟨by simp, Below.refl _ _⟩
  · rw [if_neg h0]
    refine (coded_sent A (j - 1) (j : Int) w hs (by omega)).mono ?_
    rintro v w' ⟨rfl, hb⟩
    exact ⟨by rw [decide_eq_true (by omega)], hb⟩
theorem cell_err {g j : Nat} (hj : j ≠ 0) (h : w.cell? ⟨g, 0, none⟩ = some (.iface 141 (.pointer (some (A (j - 1)))))) : w.cell? ⟨g, 0, none⟩ = some (errV A j) := by unfold errV; rw [if_neg hj]; exact h
/-- Begin. -/
def begE (s : LSt) : Nat := if s.act then 10 else 0
theorem two_begin1 {k : Nat} (h : Two w0 w b m e E E0 s k) (hs : Senv A w) (hR : Rgt w0 e E0) :
    Calls Tryd.prog 10 #[.pointer (some ⟨b, 0, none⟩)] w fun v w' => v = .returned (errV A (begE s)) ∧ Half w0 w' b m e E E0 s s.begin k := by
  obtain ⟨so, h1, h2⟩ := h.lo
  obtain ⟨sv, h3⟩ := h.lm
  cases so with
  | none =>
    have ha : s.act = false := h2
    refine (li_begin h1 hR.small hR.wf).mono ?_
    rintro v w' ⟨rfl, h4, h5⟩
    exact ⟨by unfold begE errV; rw [ha]; rfl, ⟨_, h4, NSim.new e s ha⟩, ⟨sv, h3.frT h5 h4.bel⟩, h.fit⟩
  | some n =>
    have ha : s.act = true := h2.act
    refine (li_held _ h1 (cell_err (j := 10) (by decide) hs.c9)).mono ?_
    rintro v w' ⟨rfl, rfl⟩
    have hb : s.begin = s := by unfold LSt.begin; rw [ha]; rfl
    exact ⟨by unfold begE; rw [ha]; rfl, ⟨_, h1, by rw [hb]; exact h2⟩, ⟨sv, h3⟩, h.fit⟩
theorem two_begin2 {k : Nat} (h : Half w0 w b m e E E0 s s.begin k) :
    Calls Tryd.prog 11 #[.pointer (some ⟨m, 0, none⟩)] w fun v w' => v = .returned (.int .i64 (begE s : Int)) ∧ Two w0 w' b m e E E0 s.begin (k + 1) := by
  obtain ⟨so, h1, h2⟩ := h.lo
  obtain ⟨sv, h3⟩ := h.lm
  refine (lm_begin h3).mono ?_
  rintro v w' ⟨rfl, ⟨sv', h4⟩, h5⟩
  exact ⟨by unfold begE; split <;> rfl, ⟨_, h1.frM (FrM.put h3.heap h5) h4.bel, h2⟩, ⟨sv', h4⟩, h.fit.begin⟩
/-- Stop. -/
def stoE (s : LSt) : Nat := if s.act then 0 else 9
theorem two_stop1 {k : Nat} (h : Two w0 w b m e E E0 s k) (hs : Senv A w) :
    Calls Tryd.prog 12 #[.pointer (some ⟨b, 0, none⟩)] w fun v w' => v = .returned (errV A (stoE s)) ∧ Half w0 w' b m e E E0 s s.stop k := by
  obtain ⟨so, h1, h2⟩ := h.lo
  obtain ⟨sv, h3⟩ := h.lm
  cases so with
  | none =>
    have ha : s.act = false := h2
    refine (li_stop_idle _ h1 (cell_err (j := 9) (by decide) hs.c8)).mono ?_
    rintro v w' ⟨rfl, rfl⟩
    exact ⟨by unfold stoE; rw [ha]; rfl, ⟨_, h1, rfl⟩, ⟨sv, h3⟩, h.fit⟩
  | some n =>
    have ha : s.act = true := h2.act
    refine (li_stop h1).mono ?_
    rintro v w' ⟨rfl, h4, h5⟩
    exact ⟨by unfold stoE errV; rw [ha]; rfl, ⟨_, h4, rfl⟩, ⟨sv, h3.frT h5 h4.bel⟩, h.fit⟩
theorem two_stop2 {k : Nat} (h : Half w0 w b m e E E0 s s.stop k) :
    Calls Tryd.prog 13 #[.pointer (some ⟨m, 0, none⟩)] w fun v w' => v = .returned (.int .i64 (stoE s : Int)) ∧ Two w0 w' b m e E E0 s.stop (k + 1) := by
  obtain ⟨so, h1, h2⟩ := h.lo
  obtain ⟨sv, h3⟩ := h.lm
  refine (lm_stop h3).mono ?_
  rintro v w' ⟨rfl, h4, h5⟩
  exact ⟨by unfold stoE; split <;> rfl, ⟨_, h1.frM (FrM.put h3.heap h5) h4.bel, h2⟩, ⟨sv, h4⟩, h.fit.stop⟩
/-- Report. -/
def repN (e : EntD) (s : LSt) (p : Int) : Nat := if s.act then (if hasP e p = true then 0 else 5) else 9
theorem two_report1 {k : Nat} (p t : Int) (h : Two w0 w b m e E E0 s k) (hs : Senv A w) (hR : Rgt w0 e E0) (hk : k < 1000) (ht : 0 ≤ t ∧ t ≤ 1099511627776) :
    Calls Tryd.prog 16 #[.pointer (some ⟨b, 0, none⟩), .int .i64 p, .int .i64 t] w fun v w' => v = .returned (errV A (repN e s p)) ∧ Half w0 w' b m e E E0 s (s.rep e p t) k ∧ FrT w w' := by
  obtain ⟨so, h1, h2⟩ := h.lo
  obtain ⟨sv, h3⟩ := h.lm
  cases so with
  | none =>
    have ha : s.act = false := h2
    refine (li_report_idle _ p t h1 (cell_err (j := 9) (by decide) hs.c8)).mono ?_
    rintro v w' ⟨rfl, rfl⟩
    have hb : s.rep e p t = s := by unfold LSt.rep; rw [if_neg (by rw [ha]; simp)]
    exact ⟨by unfold repN; rw [ha]; rfl, ⟨⟨_, h1, by rw [hb]; exact h2⟩, ⟨sv, h3⟩, h.fit⟩, FrT.refl _⟩
  | some n =>
    have ha : s.act = true := h2.act
    cases hp : hasP e p with
    | false =>
      refine (li_report_none _ p t h1 hp (cell_err (j := 5) (by decide) hs.c4)).mono ?_
      rintro v w' ⟨rfl, rfl⟩
      have hb : s.rep e p t = s := by unfold LSt.rep; rw [if_neg (by rw [hp]; simp)]
      exact ⟨by unfold repN; rw [ha, hp]; rfl, ⟨⟨_, h1, by rw [hb]; exact h2⟩, ⟨sv, h3⟩, h.fit⟩, FrT.refl _⟩
    | true =>
      refine (li_report p t h1 hp hR.small).mono ?_
      rintro v w' ⟨rfl, h4, h5⟩
      have hlen := h.fit.fit.len
      exact ⟨by unfold repN errV; rw [ha, hp]; rfl, ⟨⟨_, h4, NSim.rep h2 p t (by omega) (by unfold tickOk; rw [decide_eq_true ht.1, decide_eq_true ht.2]; rfl)⟩, ⟨sv, h3.frT h5 h4.bel⟩, h.fit⟩, h5⟩
theorem two_report2 {k : Nat} (p t : Int) (h : Half w0 w b m e E E0 s (s.rep e p t) k) (hk : k < 1000) (ht : 0 ≤ t ∧ t ≤ 1099511627776) :
    Calls Tryd.prog 17 #[.pointer (some ⟨m, 0, none⟩), .int .i64 p, .int .i64 t] w fun v w' => v = .returned (.int .i64 (repN e s p : Int)) ∧ Two w0 w' b m e E E0 (s.rep e p t) (k + 1) ∧ FrM w w' := by
  obtain ⟨so, h1, h2⟩ := h.lo
  obtain ⟨sv, h3⟩ := h.lm
  have hlen := h.fit.fit.len
  refine (lm_report p t h3 (by omega)).mono ?_
  rintro v w' ⟨rfl, ⟨sv', h4⟩, h5⟩
  refine ⟨?_, ⟨⟨_, h1.frM h5 h4.bel, h2⟩, ⟨sv', h4⟩, h.fit.rep p t ht⟩, h5⟩
  unfold LSt.repE repN
  split
  · split <;> rfl
  · rfl
/-- End. -/
theorem two_end1 {k : Nat} (h : Two w0 w b m e E E0 s k) (hR : Rgt w0 e E0) (hk : k < 1000) :
    Calls Tryd.prog 14 #[.pointer (some ⟨b, 0, none⟩)] w fun v w' => v = .returned (.tuple #[.int .i64 (s.kind e), .bool (s.turns e)]) ∧ Half w0 w' b m e E E0 s (s.fin e) k := by
  obtain ⟨so, h1, h2⟩ := h.lo
  obtain ⟨sv, h3⟩ := h.lm
  cases so with
  | none =>
    have ha : s.act = false := h2
    refine (li_end_idle h1).mono ?_
    rintro v w' ⟨rfl, rfl⟩
    have hb : s.fin e = s := by unfold LSt.fin; rw [ha]; rfl
    exact ⟨by unfold LSt.kind LSt.turns; rw [ha]; rfl, ⟨_, h1, by rw [hb]; exact h2⟩, ⟨sv, h3⟩, h.fit⟩
  | some n =>
    have h2' : NSim e n s := h2
    have h5 : s.run ≤ s.since := h.fit.fit.r1
    have h6 := h.fit.fit.s1
    have h7 := h2'.run
    refine (li_end h1 (by omega)).mono ?_
    rintro v w' ⟨rfl, h4, h5⟩
    exact ⟨by rw [h2'.kind hR.cnt, h2'.turns hR.cnt hR.tol], ⟨_, h4, h2'.fin hR.cnt hR.tol h.fit.fit.each h.fit.fit.s0⟩, ⟨sv, h3.frT h5 h4.bel⟩, h.fit⟩
theorem two_end2 {k : Nat} (h : Half w0 w b m e E E0 s (s.fin e) k) (hR : Rgt w0 e E0) (hk : k < 1000) :
    Calls Tryd.prog 15 #[.pointer (some ⟨m, 0, none⟩)] w fun v w' => v = .returned (.tuple #[.int .i64 (s.kind e), .bool (s.turns e)]) ∧ Two w0 w' b m e E E0 (s.fin e) (k + 1) := by
  obtain ⟨so, h1, h2⟩ := h.lo
  obtain ⟨sv, h3⟩ := h.lm
  refine (lm_end h3 (hR.parts.below h.bel) hR.small (h.fit.fit.mono (by omega)) h.fit.tick).mono ?_
  rintro v w' ⟨rfl, h4, h5⟩
  exact ⟨rfl, ⟨_, h1.frM (FrM.put h3.heap h5) h4.bel, h2⟩, ⟨sv, h4⟩, h.fit.fin⟩
theorem stWord_is (k : Nat) : stWord k = statB k := by
  match k with
  | 0 => rfl
  | 1 => rfl
  | 2 => rfl
  | n + 3 => rfl
theorem two_stat1 {k : Nat} (h : Two w0 w b m e E E0 s k) :
    Calls Tryd.prog 18 #[.pointer (some ⟨b, 0, none⟩)] w fun v w' => v = .returned (.string (statB s.status)) ∧ w' = w := by
  obtain ⟨so, h1, h2⟩ := h.lo
  cases so with
  | none =>
    have ha : s.act = false := h2
    have hs : s.status = 0 := by unfold LSt.status; rw [ha]; rfl
    rw [hs]
    exact li_status_idle h1
  | some n => exact li_status h1 (by rw [NSim.status h2, stWord_is])
theorem two_stat2 {k : Nat} (h : Two w0 w b m e E E0 s k) :
    Calls Tryd.prog 19 #[.pointer (some ⟨m, 0, none⟩)] w fun v w' => v = .returned (.string (statB s.status)) ∧ w' = w := by
  obtain ⟨sv, h3⟩ := h.lm
  exact lm_status h3
def runOf (s : LSt) : Int := if s.act then s.run else 0
theorem two_run {k : Nat} (h : Two w0 w b m e E E0 s k) :
    Calls Tryd.prog 20 #[.pointer (some ⟨b, 0, none⟩)] w fun v w' => v = .returned (.int .i64 (runOf s)) ∧ w' = w := by
  obtain ⟨so, h1, h2⟩ := h.lo
  cases so with
  | none =>
    have ha : s.act = false := h2
    have hs : runOf s = 0 := by unfold runOf; rw [ha]; rfl
    rw [hs]
    exact li_run_idle h1
  | some n =>
    have hs : runOf s = (n.run : Int) := by unfold runOf; rw [NSim.act h2, ← NSim.run h2]; rfl
    rw [hs]
    exact li_run h1
theorem two_cells {k : Nat} (h : Two w0 w b m e E E0 s k) : w.cell? ⟨m, 10, none⟩ = some (.bool s.act) ∧ w.cell? ⟨m, 13, none⟩ = some (.int .i64 s.run) := by
  obtain ⟨sv, h3⟩ := h.lm
  exact ⟨h3.cell 10 _ rfl, h3.cell 13 _ rfl⟩
end
end Go.Proofs.YtpaolneaomeoiacDoor
