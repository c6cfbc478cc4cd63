/-
  An entity of package local of the law's own ('LoIn': behind all that was in w0), and its calls. Conditions: as LoOps'.
-/
import Derived.Test.YtpaolneaomeoiabDoorLoFinX
namespace Go.Proofs.YtpaolneaomeoiabDoor
open Go.RowKit Go.Extern.Stop Go.Stop Go.Extern

section
variable {F F' : Nat → Prop} {w0 w1 w w' w'' : World} {b : Nat} {e : EntD} {E : EA} {s : Option NSt} {n n' : NSt}
structure LoIn (w0 w : World) (b : Nat) (e : EntD) (E : EA) (s : Option NSt) : Prop where
  at' : ∃ F, LoAt F w b e E s ∧ ∀ k, F k → w0.heap.size ≤ k
  bel : Below w0.heap.size w0 w
/-- All of other types is as it was. -/
structure FrT (w w' : World) : Prop where
  ty : ∀ (k : Nat) (c : Array Value) (T : TypeId) (fr : Nat × Nat), w.heap[k]? = some (.cells c T fr) → ¬ TyL T → w'.heap[k]? = some (.cells c T fr)
  size : w.heap.size ≤ w'.heap.size
theorem FrT.refl (w : World) : FrT w w := ⟨fun _ _ _ _ h _ => h, Nat.le_refl _⟩
theorem FrL.frT (h : FrL F w w') : FrT w w' := ⟨h.ty, h.off.size⟩
theorem LoIn.below (h : LoIn w0 w b e E s) (hb : Below w.heap.size w w') : LoIn w0 w' b e E s := by
  obtain ⟨F, h1, h2⟩ := h.at'
  exact ⟨⟨_, h1.cut.below (fun _ x => x.2) hb, fun k hk => h2 k hk.1⟩, h.bel.trans (hb.mono h.bel.size)⟩
theorem LoIn.from (h : LoIn w1 w b e E s) (hb : Below w0.heap.size w0 w1) : LoIn w0 w b e E s := by
  obtain ⟨F, h1, h2⟩ := h.at'
  exact ⟨⟨F, h1, fun k hk => Nat.le_trans hb.size (h2 k hk)⟩, hb.trans (h.bel.mono hb.size)⟩
theorem li_new (w : World) (e : EntD) (E : EA) (hP : PartsE w e E) (hS : SmallE e) :
    Calls Tryd.prog 18 #[.agg #[.string e.name, .int .i64 e.tol, .slice E.pa e.pts.length E.pc, .int .i64 e.cnt, .int .i64 e.mn, .int .i64 e.mx, .slice E.ga e.gaps.length E.gc, .slice E.ea e.edges.length E.ec, .slice E.fa e.first.length E.fc, .slice E.la e.last.length E.lc]] w fun v w' => ∃ (b : Nat) (E' : EA), v = .returned (.pointer (some ⟨b, 0, none⟩)) ∧ LoIn w w' b e E' none := by
  refine (lo_new w e E hP hS).mono ?_
  rintro v w' ⟨⟨b, E', rfl, h⟩, hb⟩
  exact ⟨b, E', rfl, ⟨_, h, fun _ hk => hk⟩, hb⟩
theorem li_begin (h : LoIn w0 w b e E none) (hS : SmallE e) (hW : WfE e.edges) :
    Calls Tryd.prog 19 #[.pointer (some ⟨b, 0, none⟩)] w fun v w' => v = .returned .nilIface ∧ LoIn w0 w' b e E (some (NSt.new e)) ∧ FrT w w' := by
  obtain ⟨F, h1, h2⟩ := h.at'
  refine (lo_begin h1 hS hW).mono ?_
  rintro v w' ⟨rfl, h3, h4⟩
  refine ⟨rfl, ⟨⟨_, h3, fun k hk => ?_⟩, Off.below h.bel h4.off h.bel.size h2⟩, h4.frT⟩
  rcases hk with hk | hk
  · exact h2 k hk
  · exact Nat.le_trans h.bel.size hk
theorem li_held (x : Value) (h : LoIn w0 w b e E (some n)) (hx : w.cell? ⟨1, 0, none⟩ = some x) :
    Calls Tryd.prog 19 #[.pointer (some ⟨b, 0, none⟩)] w fun v w' => v = .returned x ∧ w' = w := by
  obtain ⟨F, h1, h2⟩ := h.at'
  exact lo_held x h1 hx
theorem li_stop (h : LoIn w0 w b e E (some n)) :
    Calls Tryd.prog 25 #[.pointer (some ⟨b, 0, none⟩)] w fun v w' => v = .returned .nilIface ∧ LoIn w0 w' b e E none ∧ FrT w w' := by
  obtain ⟨F, h1, h2⟩ := h.at'
  refine (lo_stop h1).mono ?_
  rintro v w' ⟨rfl, h3, h4⟩
  exact ⟨rfl, ⟨⟨_, h3, h2⟩, Off.below h.bel h4.off h.bel.size h2⟩, h4.frT⟩
theorem li_stop_idle (x : Value) (h : LoIn w0 w b e E none) (hx : w.cell? ⟨2, 0, none⟩ = some x) :
    Calls Tryd.prog 25 #[.pointer (some ⟨b, 0, none⟩)] w fun v w' => v = .returned x ∧ w' = w := by
  obtain ⟨F, h1, h2⟩ := h.at'
  exact lo_stop_idle x h1 hx
theorem li_report_idle (x : Value) (p t : Int) (h : LoIn w0 w b e E none) (hx : w.cell? ⟨2, 0, none⟩ = some x) :
    Calls Tryd.prog 23 #[.pointer (some ⟨b, 0, none⟩), .int .i64 p, .int .i64 t] w fun v w' => v = .returned x ∧ w' = w := by
  obtain ⟨F, h1, h2⟩ := h.at'
  exact lo_report_idle x p t h1 hx
theorem li_report_none (x : Value) (p t : Int) (h : LoIn w0 w b e E (some n)) (hp : hasP e p = false) (hx : w.cell? ⟨3, 0, none⟩ = some x) :
    Calls Tryd.prog 23 #[.pointer (some ⟨b, 0, none⟩), .int .i64 p, .int .i64 t] w fun v w' => v = .returned x ∧ w' = w := by
  obtain ⟨F, h1, h2⟩ := h.at'
  exact lo_report_none x p t h1 hp hx
theorem li_report (p t : Int) (h : LoIn w0 w b e E (some n)) (hp : hasP e p = true) (hS : SmallE e) :
    Calls Tryd.prog 23 #[.pointer (some ⟨b, 0, none⟩), .int .i64 p, .int .i64 t] w fun v w' => v = .returned .nilIface ∧ LoIn w0 w' b e E (some (n.rep e p t)) ∧ FrT w w' := by
  obtain ⟨F, h1, h2⟩ := h.at'
  refine (lo_report p t h1 hp hS).mono ?_
  rintro v w' ⟨rfl, h3, h4⟩
  exact ⟨rfl, ⟨⟨_, h3, h2⟩, Off.below h.bel h4.off h.bel.size h2⟩, h4.frT⟩
theorem li_end_idle (h : LoIn w0 w b e E none) :
    Calls Tryd.prog 20 #[.pointer (some ⟨b, 0, none⟩)] w fun v w' => v = .returned (.tuple #[.int .i64 0, .bool false]) ∧ w' = w := by
  obtain ⟨F, h1, h2⟩ := h.at'
  exact lo_end_idle h1
theorem li_end (h : LoIn w0 w b e E (some n)) (hn : n.run ≤ 1000000) :
    Calls Tryd.prog 20 #[.pointer (some ⟨b, 0, none⟩)] w fun v w' => v = .returned (.tuple #[.int .i64 n.kind, .bool (n.turns e)]) ∧ LoIn w0 w' b e E (some (n.fin e)) ∧ FrT w w' := by
  obtain ⟨F, h1, h2⟩ := h.at'
  refine (lo_end h1 hn).mono ?_
  rintro v w' ⟨rfl, h3, h4⟩
  exact ⟨rfl, ⟨⟨_, h3, h2⟩, Off.below h.bel h4.off h.bel.size h2⟩, h4.frT⟩
/-- End, what comes of it being known. -/
theorem li_end_to {k : Int} {t : Bool} (h : LoIn w0 w b e E (some n)) (hn : n.run ≤ 1000000) (hk : n.kind = k) (ht : n.turns e = t) (hs : n.fin e = n') :
    Calls Tryd.prog 20 #[.pointer (some ⟨b, 0, none⟩)] w fun v w' => v = .returned (.tuple #[.int .i64 k, .bool t]) ∧ LoIn w0 w' b e E (some n') := by
  refine (li_end h hn).mono ?_
  rintro v w' ⟨rfl, h3, -⟩
  subst hk ht hs
  exact ⟨rfl, h3⟩
theorem li_status_idle (h : LoIn w0 w b e E none) :
    Calls Tryd.prog 21 #[.pointer (some ⟨b, 0, none⟩)] w fun v w' => v = .returned (.string ⟨#[105, 100, 108, 101]⟩) ∧ w' = w := by
  obtain ⟨F, h1, h2⟩ := h.at'
  exact lo_status_idle h1
theorem li_status {x : ByteArray} (h : LoIn w0 w b e E (some n)) (hk : stWord n.status = x) :
    Calls Tryd.prog 21 #[.pointer (some ⟨b, 0, none⟩)] w fun v w' => v = .returned (.string x) ∧ w' = w := by
  obtain ⟨F, h1, h2⟩ := h.at'
  subst hk
  exact lo_status h1
theorem li_run_idle (h : LoIn w0 w b e E none) :
    Calls Tryd.prog 22 #[.pointer (some ⟨b, 0, none⟩)] w fun v w' => v = .returned (.int .i64 0) ∧ w' = w := by
  obtain ⟨F, h1, h2⟩ := h.at'
  exact lo_run_idle h1
theorem li_run (h : LoIn w0 w b e E (some n)) :
    Calls Tryd.prog 22 #[.pointer (some ⟨b, 0, none⟩)] w fun v w' => v = .returned (.int .i64 (n.run : Int)) ∧ w' = w := by
  obtain ⟨F, h1, h2⟩ := h.at'
  exact lo_run h1
theorem row_alat (w : World) (cs : Array Value) (T : TypeId) : (w.alloc (.cells cs T)).heap[w.heap.size]? = some (.cells cs T (0, 0)) := heap_alloc_new w _
theorem slat_cells {α : Type} {enc : α → List Value} {k : Nat} {w : World} {g cap : Nat} {xs : List α} {cs : Array Value} {T : TypeId} {fr : Nat × Nat} (henc : ∀ x, (enc x).length = k) (h : w.heap[g]? = some (.cells cs T fr)) (hcs : cs.toList = xs.flatMap enc) (hcap : xs.length ≤ cap) : SlAt enc k w (.slice (some ⟨g, 0, none⟩) xs.length cap) xs := by
  refine ⟨_, cap, rfl, hcap, fun _ => ⟨g, 0, rfl, fun i x hx j u hu => ?_⟩⟩
  have := flat_at henc xs i j x u hx hu
  simp only [World.cell?, h, Nat.zero_add]
  rw [← this, ← hcs]
  simp
theorem slat_nil {α : Type} {enc : α → List Value} {k : Nat} (w : World) : SlAt enc k w (.slice none 0 0) ([] : List α) := ⟨none, 0, rfl, Nat.le_refl _, fun h => absurd rfl h⟩
/-- The entity of 'lives'. -/
def livE : EntD := ⟨⟨#[]⟩, 0, [⟨#[112]⟩], 0, 1, 1, [], [], [], []⟩
theorem livE_small : SmallE livE := ⟨by decide, by decide, (fun p hp => by simp [livE] at hp; subst hp; decide), by decide, by decide, by decide, by decide⟩
theorem livE_wf : WfE livE.edges := fun p hp => by simp [livE] at hp
set_option maxHeartbeats 2000000 in
set_option maxRecDepth 100000 in
theorem lives_any (w : World) : Calls Tryd.prog 17 #[] w fun v w' => v = .returned (.bool true) ∧ Below w.heap.size w w' := by
  go_enter Tryd.func17, Tryd.ntmps17
  go_wp2_with fail
  have HP : Hid (PartsE (w.alloc (.cells #[.string ⟨#[112]⟩] 9)) livE ⟨some ⟨w.heap.size, 0, none⟩, none, none, none, none, 1, 0, 0, 0, 0⟩) :=
    ⟨slat_cells (enc := encS) (k := 1) (xs := livE.pts) (cap := 1) (fun _ => rfl) (row_alat w _ _) rfl (by decide), slat_nil _, slat_nil _, slat_nil _, slat_nil _⟩
  refine (li_new _ livE _ HP.out livE_small).mono ?_
  rintro v w1 ⟨b, E, rfl, h1⟩
  have D1 : LoIn w w1 b livE E none := h1.from (Below.one _ _)
  clear h1 HP
  go_wp2_with fail
  refine (li_status_idle D1).mono ?_
  rintro v w1' ⟨rfl, rfl⟩
  go_wp2_with fail
  refine (li_begin D1 livE_small livE_wf).mono ?_
  rintro v w2 ⟨rfl, D2, -⟩
  clear D1
  go_wp2_with fail
  refine (li_status (x := ⟨#[111, 107]⟩) D2 rfl).mono ?_
  rintro v w2' ⟨rfl, rfl⟩
  go_wp2_with fail
  refine (li_end_to (k := 0) (t := false) (n' := ⟨WSt.new livE, true, 0, false⟩) D2 (by decide) (by decide) (by decide) rfl).mono ?_
  rintro v w3 ⟨rfl, D3⟩
  clear D2
  go_wp2_with fail
  refine (li_end_to (k := 1) (t := true) (n' := ⟨WSt.new livE, true, 1, true⟩) D3 (by decide) (by decide) (by decide) rfl).mono ?_
  rintro v w4 ⟨rfl, D4⟩
  clear D3
  go_wp2_with fail
  refine (li_status (x := ⟨#[101, 120, 112, 105, 114, 101, 100]⟩) D4 rfl).mono ?_
  rintro v w4' ⟨rfl, rfl⟩
  go_wp2_with fail
  refine (li_stop D4).mono ?_
  rintro v w5 ⟨rfl, D5, -⟩
  clear D4
  go_wp2
  go_ret
  exact ⟨rfl, D5.bel⟩
end
end Go.Proofs.YtpaolneaomeoiabDoor
