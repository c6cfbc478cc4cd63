/-
  local's newWatch, (*watch).report, (*watch).end by contracts. Conditions: the lists lie in memory, and are not too long.
-/
import Derived.Test.YtpaolneaomeoiabDoorLoMemX
import Derived.Test.YtpaolneaomeoiabDoorGaNewX
import Derived.Test.YtpaolneaomeoiabDoorOrdX
namespace Go.Proofs.YtpaolneaomeoiabDoor
open Go.RowKit Go.Extern.Stop Go.Stop Go.Extern

section
variable {F F' : Nat → Prop} {w w' w'' : World} {b ba bg bf : Nat} {e : EntD} {E : EA} {s : WSt}
def entV (e : EntD) (E : EA) : Value := .agg #[.string e.name, .int .i64 e.tol, .slice E.pa e.pts.length E.pc, .int .i64 e.cnt, .int .i64 e.mn, .int .i64 e.mx, .slice E.ga e.gaps.length E.gc, .slice E.ea e.edges.length E.ec, .slice E.fa e.first.length E.fc, .slice E.la e.last.length E.lc]
def PartsE (w : World) (e : EntD) (E : EA) : Prop := EntParts w e (.slice E.pa e.pts.length E.pc) (.slice E.ga e.gaps.length E.gc) (.slice E.ea e.edges.length E.ec) (.slice E.fa e.first.length E.fc) (.slice E.la e.last.length E.lc)
theorem PartsE.below (h : PartsE w e E) (hb : Below w.heap.size w w') : PartsE w' e E := EntParts.below h hb
/-- Pieces of a watch from block B on. -/
def GaF (B : Nat) (w : World) (bg : Nat) (s : GSt) : Prop := ∃ sa cap, GpAt 0 w bg sa cap s ∧ ∀ k, GS bg sa s.xs.length k → B ≤ k
def FlF (B : Nat) (w : World) (bf : Nat) (e : EntD) (s : FSt) : Prop := ∃ m n D fv lv, FlAt 0 w bf e s m n D fv lv ∧ B ≤ bf ∧ B ≤ m ∧ (∀ g, fv.ownBlock = some g → B ≤ g) ∧ ∀ g, lv.ownBlock = some g → B ≤ g
theorem gs_lt {B cap : Nat} {sa : Option Addr} {s : GSt} (h : GpAt B w b sa cap s) {k : Nat} (hk : GS b sa s.xs.length k) : k < w.heap.size := by
  rcases hk with rfl | ⟨h0, o, e1⟩
  · exact lt_of_row h.heap
  · obtain ⟨g, o', e2, -, -, -, cur, hf⟩ := h.sl (List.length_pos_iff.1 h0)
    rw [e1] at e2
    simp only [Option.some.injEq, Addr.mk.injEq, and_true] at e2
    obtain ⟨rfl, -⟩ := e2
    exact lt_of_row hf
theorem map_lt {B m n : Nat} {s : FSt} {D : DataW Unit} {fv lv : Value} (h : FlAt B w b e s m n D fv lv) : m < w.heap.size := by
  obtain ⟨es, c, hm0, rest⟩ := h.own
  exact lt_of_row hm0
theorem GaF.keep {B : Nat} {s : GSt} (h : GaF B w bg s) (hs : ∀ k, B ≤ k → k < w.heap.size → w'.heap[k]? = w.heap[k]?) : GaF B w' bg s := by
  obtain ⟨sa, cap, h1, h2⟩ := h
  exact ⟨sa, cap, h1.same (fun k hk => hs k (h2 k hk) (gs_lt h1 hk)), h2⟩
theorem FlF.keep {B : Nat} {s : FSt} (h : FlF B w bf e s) (hs : ∀ k, B ≤ k → k < w.heap.size → w'.heap[k]? = w.heap[k]?) : FlF B w' bf e s := by
  obtain ⟨m, n, D, fv, lv, h3, h4, h5, h6, h7⟩ := h
  exact ⟨m, n, D, fv, lv, h3.same (hs _ h4 (lt_of_row h3.heap)) (hs _ h5 (map_lt h3)) (fun g hg => hs g (h6 g hg) (h3.hf.lt g hg).2) (fun g hg => hs g (h7 g hg) (h3.hl.lt g hg).2), h4, h5, h6, h7⟩
def AlF (B : Nat) (w : World) (ba : Nat) (a : ASt) : Prop := AlAt w ba a ∧ B ≤ ba
theorem AlF.keep {B : Nat} {a : ASt} (h : AlF B w ba a) (hs : ∀ k, B ≤ k → k < w.heap.size → w'.heap[k]? = w.heap[k]?) : AlF B w' ba a := ⟨h.1.same (hs _ h.2 (lt_of_row h.1.heap)), h.2⟩
/-- What newWatch's statement yields, one by one. -/
def nwS (B r : Nat) (e : EntD) (E : EA) : Nat → Value → World → Prop
  | 0 => fun v _ => v = .agg #[.string e.name, .int .i64 e.tol, .slice E.pa e.pts.length E.pc, .int .i64 e.cnt, .int .i64 e.mn, .int .i64 e.mx, .slice E.ga e.gaps.length E.gc, .slice E.ea e.edges.length E.ec, .slice E.fa e.first.length E.fc, .slice E.la e.last.length E.lc]
  | 1 => fun v w => ∃ ba, v = .pointer (some ⟨ba, 0, none⟩) ∧ AlF B w ba (WSt.new e).a
  | 2 => fun v _ => v = .agg #[.string e.name, .int .i64 e.tol, .slice E.pa e.pts.length E.pc, .int .i64 e.cnt, .int .i64 e.mn, .int .i64 e.mx, .slice E.ga e.gaps.length E.gc, .slice E.ea e.edges.length E.ec, .slice E.fa e.first.length E.fc, .slice E.la e.last.length E.lc]
  | 3 => fun v w => ∃ bg, v = .pointer (some ⟨bg, 0, none⟩) ∧ GaF B w bg (WSt.new e).g
  | 4 => fun v _ => v = .agg #[.string e.name, .int .i64 e.tol, .slice E.pa e.pts.length E.pc, .int .i64 e.cnt, .int .i64 e.mn, .int .i64 e.mx, .slice E.ga e.gaps.length E.gc, .slice E.ea e.edges.length E.ec, .slice E.fa e.first.length E.fc, .slice E.la e.last.length E.lc]
  | 5 => fun v w => ∃ bf, v = .pointer (some ⟨bf, 0, none⟩) ∧ FlF B w bf e (WSt.new e).f
  | 6 => fun v w => ∃ ba bg bf, v = .agg #[.pointer (some ⟨ba, 0, none⟩), .pointer (some ⟨bg, 0, none⟩), .pointer (some ⟨bf, 0, none⟩)] ∧ AlF B w ba (WSt.new e).a ∧ GaF B w bg (WSt.new e).g ∧ FlF B w bf e (WSt.new e).f
  | 7 => fun _ w => ∃ ba bg bf, w.heap[r]? = some (.cells #[.pointer (some ⟨ba, 0, none⟩), .pointer (some ⟨bg, 0, none⟩), .pointer (some ⟨bf, 0, none⟩)] 76 (0, 0)) ∧ AlF B w ba (WSt.new e).a ∧ GaF B w bg (WSt.new e).g ∧ FlF B w bf e (WSt.new e).f
  | _ => fun _ _ => True
theorem nwS_keeps {B r : Nat} (hs : ∀ k, B ≤ k → k < w.heap.size → w'.heap[k]? = w.heap[k]?) : ∀ j v, (j = 7 → w'.heap[r]? = w.heap[r]?) → nwS B r e E j v w → nwS B r e E j v w' := by
  intro j v h7 h
  match j, h7, h with
  | 0, _, h => exact h
  | 1, _, h => obtain ⟨ba, h1, h2⟩ := h; exact ⟨ba, h1, h2.keep hs⟩
  | 2, _, h => exact h
  | 3, _, h => obtain ⟨ba, h1, h2⟩ := h; exact ⟨ba, h1, h2.keep hs⟩
  | 4, _, h => exact h
  | 5, _, h => obtain ⟨ba, h1, h2⟩ := h; exact ⟨ba, h1, h2.keep hs⟩
  | 6, _, h => obtain ⟨ba, bg, bf, h1, h2, h3, h4⟩ := h; exact ⟨ba, bg, bf, h1, h2.keep hs, h3.keep hs, h4.keep hs⟩
  | 7, h7, h => obtain ⟨ba, bg, bf, h1, h2, h3, h4⟩ := h; exact ⟨ba, bg, bf, (h7 rfl).trans h1, h2.keep hs, h3.keep hs, h4.keep hs⟩
  | n + 8, _, h => exact h
theorem GpAt.zero {B cap : Nat} {sa : Option Addr} {s : GSt} (h : GpAt B w b sa cap s) : GpAt 0 w b sa cap s := by
  refine ⟨h.heap, fun hne => ?_, Nat.zero_le _, h.fit⟩
  obtain ⟨g, o, e1, h1, h2, r⟩ := h.sl hne
  exact ⟨g, o, e1, h1, Nat.zero_le _, r⟩
theorem GpAt.gs_lo {B cap : Nat} {sa : Option Addr} {s : GSt} (h : GpAt B w b sa cap s) {k : Nat} (hk : GS b sa s.xs.length k) : B ≤ k := by
  rcases hk with rfl | ⟨h0, o, e1⟩
  · exact h.lo
  · obtain ⟨g, o', e2, -, hB, -⟩ := h.sl (List.length_pos_iff.1 h0)
    rw [e1] at e2
    simp only [Option.some.injEq, Addr.mk.injEq, and_true] at e2
    obtain ⟨rfl, -⟩ := e2
    exact hB
theorem own0 {α : Type} {enc : α → List Value} {k B : Nat} {T : TypeId} {v : Value} {xs : List α} (h : SlOwn enc k T B w v xs) : SlOwn enc k T 0 w v xs := ⟨h.1, h.2.imp id fun ⟨g, cap, cur, h1, _, h3⟩ => ⟨g, cap, cur, h1, Nat.zero_le _, h3⟩⟩
theorem FlAt.zero {B m n : Nat} {s : FSt} {D : DataW Unit} {fv lv : Value} (h : FlAt B w b e s m n D fv lv) : FlAt 0 w b e s m n D fv lv := ⟨h.heap, Nat.zero_le _, h.own, h.edg, own0 h.hf, own0 h.hl, h.fit, h.sm, h.wf⟩
theorem row_put3 {r : Nat} {T : TypeId} {a b c x y z : Value} (hr : w.heap[r]? = some (.cells #[x, y, z] T (0, 0))) : (((w.setCell ⟨r, 0, none⟩ a).setCell ⟨r, 1, none⟩ b).setCell ⟨r, 2, none⟩ c).heap[r]? = some (.cells #[a, b, c] T (0, 0)) := by
  simp [World.setCell, Array.getElem?_modify, hr]
theorem Tryd.sizeWatch : (Tryd.prog.info? 76).map (·.size) = some 3 := by kernel_rfl
set_option maxHeartbeats 4000000 in
set_option maxRecDepth 100000 in
theorem newWatch_at (w : World) (e : EntD) (E : EA) (hP : PartsE w e E) (hS : SmallE e) (hW : WfE e.edges) :
    Calls Tryd.prog 35 #[.agg #[.string e.name, .int .i64 e.tol, .slice E.pa e.pts.length E.pc, .int .i64 e.cnt, .int .i64 e.mn, .int .i64 e.mx, .slice E.ga e.gaps.length E.gc, .slice E.ea e.edges.length E.ec, .slice E.fa e.first.length E.fc, .slice E.la e.last.length E.lc]] w fun v w' => (∃ ba bg bf, v = .returned (.agg #[.pointer (some ⟨ba, 0, none⟩), .pointer (some ⟨bg, 0, none⟩), .pointer (some ⟨bf, 0, none⟩)]) ∧ WatAt (fun k => w.heap.size ≤ k) w' ba bg bf e (WSt.new e)) ∧ Below w.heap.size w w' := by
  have HP : Hid (PartsE w e E) := hP
  have HS : Hid (SmallE e) := hS
  have HW : Hid (WfE e.edges) := hW
  clear hP hS hW
  go_enter Tryd.func35, Tryd.ntmps35
  go_wp2_with fail
  obtain ⟨W, hW⟩ : ∃ V, V = (w.alloc (.cells #[.string e.name, .int .i64 e.tol, .slice E.pa e.pts.length E.pc, .int .i64 e.cnt, .int .i64 e.mn, .int .i64 e.mx, .slice E.ga e.gaps.length E.gc, .slice E.ea e.edges.length E.ec, .slice E.fa e.first.length E.fc, .slice E.la e.last.length E.lc] 27)).alloc (.cells #[.pointer none, .pointer none, .pointer none] 76) := ⟨_, rfl⟩
  rw [← hW]
  have HBW : Hid (Below w.heap.size w W) := by show Below _ _ _; rw [hW]; exact (Below.one _ _).alloc (by simp) _
  have hsz : W.heap.size = w.heap.size + 2 := by rw [hW]; simp
  have HX : Hid (W.heap[w.heap.size]? = some (.cells #[.string e.name, .int .i64 e.tol, .slice E.pa e.pts.length E.pc, .int .i64 e.cnt, .int .i64 e.mn, .int .i64 e.mx, .slice E.ga e.gaps.length E.gc, .slice E.ea e.edges.length E.ec, .slice E.fa e.first.length E.fc, .slice E.la e.last.length E.lc] 27 (0, 0))) := by
    show _ = _
    rw [hW]
    exact row_below (Below.one _ _) (heap_alloc_new w _)
  have HR : Hid (W.heap[w.heap.size + 1]? = some (.cells #[.pointer none, .pointer none, .pointer none] 76 (0, 0))) := by
    show _ = _
    rw [hW]
    have := heap_alloc_new (w.alloc (.cells #[.string e.name, .int .i64 e.tol, .slice E.pa e.pts.length E.pc, .int .i64 e.cnt, .int .i64 e.mn, .int .i64 e.mx, .slice E.ga e.gaps.length E.gc, .slice E.ea e.edges.length E.ec, .slice E.fa e.first.length E.fc, .slice E.la e.last.length E.lc] 27)) (.cells #[.pointer none, .pointer none, .pointer none] 76)
    simpa using this
  have HZ : Hid (W.heap.size = w.heap.size + 2) := hsz
  clear hW hsz
  refine region_spec2 8 rfl (nwS (w.heap.size + 2) (w.heap.size + 1) e E) (fun done V => Below w.heap.size w V ∧ V.heap[w.heap.size]? = some (.cells #[.string e.name, .int .i64 e.tol, .slice E.pa e.pts.length E.pc, .int .i64 e.cnt, .int .i64 e.mn, .int .i64 e.mx, .slice E.ga e.gaps.length E.gc, .slice E.ea e.edges.length E.ec, .slice E.fa e.first.length E.fc, .slice E.la e.last.length E.lc] 27 (0, 0)) ∧ w.heap.size + 2 ≤ V.heap.size ∧ (done 7 = false → V.heap[w.heap.size + 1]? = some (.cells #[.pointer none, .pointer none, .pointer none] 76 (0, 0)))) (by kernel_rfl) (by kernel_rfl) ⟨HBW.out.drew, HX.out, by have := HZ.out; show _ ≤ W.heap.size; omega, fun _ => HR.out⟩ ?_ ?_
  · intro i o ho
    match i, ho with
    | 0, ho =>
      obtain rfl := Option.some.inj ho
      refine StepOk2.free rfl ?_
      intro done a V hC hdn _ hdep hoth
      have x1 : a.tmps[1]?.getD undef = .pointer (some ⟨w.heap.size, 0, none⟩) := slot_of (hoth 1 (notDst (by kernel_rfl)))
      have hrow := hC.2.1
      have c0 : V.cell? ⟨w.heap.size, 0, none⟩ = some (.string e.name) := by simp [World.cell?, hrow]
      have c1 : V.cell? ⟨w.heap.size, 1, none⟩ = some (.int .i64 e.tol) := by simp [World.cell?, hrow]
      have c2 : V.cell? ⟨w.heap.size, 2, none⟩ = some (.slice E.pa e.pts.length E.pc) := by simp [World.cell?, hrow]
      have c3 : V.cell? ⟨w.heap.size, 3, none⟩ = some (.int .i64 e.cnt) := by simp [World.cell?, hrow]
      have c4 : V.cell? ⟨w.heap.size, 4, none⟩ = some (.int .i64 e.mn) := by simp [World.cell?, hrow]
      have c5 : V.cell? ⟨w.heap.size, 5, none⟩ = some (.int .i64 e.mx) := by simp [World.cell?, hrow]
      have c6 : V.cell? ⟨w.heap.size, 6, none⟩ = some (.slice E.ga e.gaps.length E.gc) := by simp [World.cell?, hrow]
      have c7 : V.cell? ⟨w.heap.size, 7, none⟩ = some (.slice E.ea e.edges.length E.ec) := by simp [World.cell?, hrow]
      have c8 : V.cell? ⟨w.heap.size, 8, none⟩ = some (.slice E.fa e.first.length E.fc) := by simp [World.cell?, hrow]
      have c9 : V.cell? ⟨w.heap.size, 9, none⟩ = some (.slice E.la e.last.length E.lc) := by simp [World.cell?, hrow]
      exact goodRun2.val (c := .agg #[.string e.name, .int .i64 e.tol, .slice E.pa e.pts.length E.pc, .int .i64 e.cnt, .int .i64 e.mn, .int .i64 e.mx, .slice E.ga e.gaps.length E.gc, .slice E.ea e.edges.length E.ec, .slice E.fa e.first.length E.fc, .slice E.la e.last.length E.lc]) (by clear hdep hoth hC hrow; go_simp) ⟨hC.1, hC.2.1, hC.2.2.1, by rw [mark_other done (by decide)]; exact hC.2.2.2⟩ rfl
    | 1, ho =>
      obtain rfl := Option.some.inj ho
      refine StepOk2.free rfl ?_
      intro done a V hC hdn _ hdep hoth
      have x3 : a.tmps[3]?.getD undef = .agg #[.string e.name, .int .i64 e.tol, .slice E.pa e.pts.length E.pc, .int .i64 e.cnt, .int .i64 e.mn, .int .i64 e.mx, .slice E.ga e.gaps.length E.gc, .slice E.ea e.edges.length E.ec, .slice E.fa e.first.length E.fc, .slice E.la e.last.length E.lc] := slot_of (hdep _ 3 (Array.mem_of_getElem? (i := 0) rfl) rfl rfl)
      refine goodRun2.call (f := 49) (args := #[.agg #[.string e.name, .int .i64 e.tol, .slice E.pa e.pts.length E.pc, .int .i64 e.cnt, .int .i64 e.mn, .int .i64 e.mx, .slice E.ga e.gaps.length E.gc, .slice E.ea e.edges.length E.ec, .slice E.fa e.first.length E.fc, .slice E.la e.last.length E.lc]]) (by clear hdep hoth hC; go_simp) ?_
      refine (al_new e.name e.tol e.cnt e.mn e.mx _ _ _ _ _ _ _ V).mono ?_
      rintro v V' ⟨b, rfl, hA⟩
      have hb' := hA.bel
      have hk : ∀ k, w.heap.size + 2 ≤ k → k < V.heap.size → V'.heap[k]? = V.heap[k]? := fun k _ h => hb'.block k h
      refine ⟨_, rfl, ⟨hC.1.trans (hb'.mono hC.1.size), row_below hb' hC.2.1, Nat.le_trans hC.2.2.1 hb'.size, fun hd => row_below hb' (hC.2.2.2 (by rwa [mark_other done (by decide)] at hd))⟩, fun j v hj h => nwS_keeps hk j v (fun _ => hb'.block _ (by have := hC.2.2.1; omega)) h, ?_⟩
      exact ⟨b, rfl, hA.at', Nat.le_trans hC.2.2.1 hA.lo⟩
    | 2, ho =>
      obtain rfl := Option.some.inj ho
      refine StepOk2.free rfl ?_
      intro done a V hC hdn _ hdep hoth
      have x1 : a.tmps[1]?.getD undef = .pointer (some ⟨w.heap.size, 0, none⟩) := slot_of (hoth 1 (notDst (by kernel_rfl)))
      have hrow := hC.2.1
      have c0 : V.cell? ⟨w.heap.size, 0, none⟩ = some (.string e.name) := by simp [World.cell?, hrow]
      have c1 : V.cell? ⟨w.heap.size, 1, none⟩ = some (.int .i64 e.tol) := by simp [World.cell?, hrow]
      have c2 : V.cell? ⟨w.heap.size, 2, none⟩ = some (.slice E.pa e.pts.length E.pc) := by simp [World.cell?, hrow]
      have c3 : V.cell? ⟨w.heap.size, 3, none⟩ = some (.int .i64 e.cnt) := by simp [World.cell?, hrow]
      have c4 : V.cell? ⟨w.heap.size, 4, none⟩ = some (.int .i64 e.mn) := by simp [World.cell?, hrow]
      have c5 : V.cell? ⟨w.heap.size, 5, none⟩ = some (.int .i64 e.mx) := by simp [World.cell?, hrow]
      have c6 : V.cell? ⟨w.heap.size, 6, none⟩ = some (.slice E.ga e.gaps.length E.gc) := by simp [World.cell?, hrow]
      have c7 : V.cell? ⟨w.heap.size, 7, none⟩ = some (.slice E.ea e.edges.length E.ec) := by simp [World.cell?, hrow]
      have c8 : V.cell? ⟨w.heap.size, 8, none⟩ = some (.slice E.fa e.first.length E.fc) := by simp [World.cell?, hrow]
      have c9 : V.cell? ⟨w.heap.size, 9, none⟩ = some (.slice E.la e.last.length E.lc) := by simp [World.cell?, hrow]
      exact goodRun2.val (c := .agg #[.string e.name, .int .i64 e.tol, .slice E.pa e.pts.length E.pc, .int .i64 e.cnt, .int .i64 e.mn, .int .i64 e.mx, .slice E.ga e.gaps.length E.gc, .slice E.ea e.edges.length E.ec, .slice E.fa e.first.length E.fc, .slice E.la e.last.length E.lc]) (by clear hdep hoth hC hrow; go_simp) ⟨hC.1, hC.2.1, hC.2.2.1, by rw [mark_other done (by decide)]; exact hC.2.2.2⟩ rfl
    | 3, ho =>
      obtain rfl := Option.some.inj ho
      refine StepOk2.free rfl ?_
      intro done a V hC hdn _ hdep hoth
      have x5 : a.tmps[5]?.getD undef = .agg #[.string e.name, .int .i64 e.tol, .slice E.pa e.pts.length E.pc, .int .i64 e.cnt, .int .i64 e.mn, .int .i64 e.mx, .slice E.ga e.gaps.length E.gc, .slice E.ea e.edges.length E.ec, .slice E.fa e.first.length E.fc, .slice E.la e.last.length E.lc] := slot_of (hdep _ 5 (Array.mem_of_getElem? (i := 0) rfl) rfl rfl)
      refine goodRun2.call (f := 50) (args := #[.agg #[.string e.name, .int .i64 e.tol, .slice E.pa e.pts.length E.pc, .int .i64 e.cnt, .int .i64 e.mn, .int .i64 e.mx, .slice E.ga e.gaps.length E.gc, .slice E.ea e.edges.length E.ec, .slice E.fa e.first.length E.fc, .slice E.la e.last.length E.lc]]) (by clear hdep hoth hC; go_simp) ?_
      refine (gp_new e.name e.tol e.cnt e.mn e.mx _ _ _ _ _ _ e.gaps V (HP.out.below hC.1).hg HS.out.hg).mono ?_
      rintro v V' ⟨b, rfl, hb', sa, cap, hG⟩
      have hk : ∀ k, w.heap.size + 2 ≤ k → k < V.heap.size → V'.heap[k]? = V.heap[k]? := fun k _ h => hb'.block k h
      refine ⟨_, rfl, ⟨hC.1.trans (hb'.mono hC.1.size), row_below hb' hC.2.1, Nat.le_trans hC.2.2.1 hb'.size, fun hd => row_below hb' (hC.2.2.2 (by rwa [mark_other done (by decide)] at hd))⟩, fun j v hj h => nwS_keeps hk j v (fun _ => hb'.block _ (by have := hC.2.2.1; omega)) h, ?_⟩
      refine ⟨b, rfl, sa, cap, hG.zero, fun k hk => ?_⟩
      exact Nat.le_trans hC.2.2.1 (hG.gs_lo hk)
    | 4, ho =>
      obtain rfl := Option.some.inj ho
      refine StepOk2.free rfl ?_
      intro done a V hC hdn _ hdep hoth
      have x1 : a.tmps[1]?.getD undef = .pointer (some ⟨w.heap.size, 0, none⟩) := slot_of (hoth 1 (notDst (by kernel_rfl)))
      have hrow := hC.2.1
      have c0 : V.cell? ⟨w.heap.size, 0, none⟩ = some (.string e.name) := by simp [World.cell?, hrow]
      have c1 : V.cell? ⟨w.heap.size, 1, none⟩ = some (.int .i64 e.tol) := by simp [World.cell?, hrow]
      have c2 : V.cell? ⟨w.heap.size, 2, none⟩ = some (.slice E.pa e.pts.length E.pc) := by simp [World.cell?, hrow]
      have c3 : V.cell? ⟨w.heap.size, 3, none⟩ = some (.int .i64 e.cnt) := by simp [World.cell?, hrow]
      have c4 : V.cell? ⟨w.heap.size, 4, none⟩ = some (.int .i64 e.mn) := by simp [World.cell?, hrow]
      have c5 : V.cell? ⟨w.heap.size, 5, none⟩ = some (.int .i64 e.mx) := by simp [World.cell?, hrow]
      have c6 : V.cell? ⟨w.heap.size, 6, none⟩ = some (.slice E.ga e.gaps.length E.gc) := by simp [World.cell?, hrow]
      have c7 : V.cell? ⟨w.heap.size, 7, none⟩ = some (.slice E.ea e.edges.length E.ec) := by simp [World.cell?, hrow]
      have c8 : V.cell? ⟨w.heap.size, 8, none⟩ = some (.slice E.fa e.first.length E.fc) := by simp [World.cell?, hrow]
      have c9 : V.cell? ⟨w.heap.size, 9, none⟩ = some (.slice E.la e.last.length E.lc) := by simp [World.cell?, hrow]
      exact goodRun2.val (c := .agg #[.string e.name, .int .i64 e.tol, .slice E.pa e.pts.length E.pc, .int .i64 e.cnt, .int .i64 e.mn, .int .i64 e.mx, .slice E.ga e.gaps.length E.gc, .slice E.ea e.edges.length E.ec, .slice E.fa e.first.length E.fc, .slice E.la e.last.length E.lc]) (by clear hdep hoth hC hrow; go_simp) ⟨hC.1, hC.2.1, hC.2.2.1, by rw [mark_other done (by decide)]; exact hC.2.2.2⟩ rfl
    | 5, ho =>
      obtain rfl := Option.some.inj ho
      refine StepOk2.free rfl ?_
      intro done a V hC hdn _ hdep hoth
      have x7 : a.tmps[7]?.getD undef = .agg #[.string e.name, .int .i64 e.tol, .slice E.pa e.pts.length E.pc, .int .i64 e.cnt, .int .i64 e.mn, .int .i64 e.mx, .slice E.ga e.gaps.length E.gc, .slice E.ea e.edges.length E.ec, .slice E.fa e.first.length E.fc, .slice E.la e.last.length E.lc] := slot_of (hdep _ 7 (Array.mem_of_getElem? (i := 0) rfl) rfl rfl)
      refine goodRun2.call (f := 10) (args := #[.agg #[.string e.name, .int .i64 e.tol, .slice E.pa e.pts.length E.pc, .int .i64 e.cnt, .int .i64 e.mn, .int .i64 e.mx, .slice E.ga e.gaps.length E.gc, .slice E.ea e.edges.length E.ec, .slice E.fa e.first.length E.fc, .slice E.la e.last.length E.lc]]) (by clear hdep hoth hC; go_simp) ?_
      refine (fl_new2 e _ _ _ _ _ _ _ _ _ _ V (HP.out.below hC.1) HS.out HW.out).mono ?_
      rintro v V' ⟨b, rfl, hb', m, n, D, fv, lv, hG, hm⟩
      have hk : ∀ k, w.heap.size + 2 ≤ k → k < V.heap.size → V'.heap[k]? = V.heap[k]? := fun k _ h => hb'.block k h
      refine ⟨_, rfl, ⟨hC.1.trans (hb'.mono hC.1.size), row_below hb' hC.2.1, Nat.le_trans hC.2.2.1 hb'.size, fun hd => row_below hb' (hC.2.2.2 (by rwa [mark_other done (by decide)] at hd))⟩, fun j v hj h => nwS_keeps hk j v (fun _ => hb'.block _ (by have := hC.2.2.1; omega)) h, ?_⟩
      have hl := hC.2.2.1
      exact ⟨b, rfl, m, n, D, fv, lv, hG.zero, Nat.le_trans hl hG.lo, Nat.le_trans hl hm, fun g hg => Nat.le_trans hl (hG.hf.lt g hg).1, fun g hg => Nat.le_trans hl (hG.hl.lt g hg).1⟩
    | 6, ho =>
      obtain rfl := Option.some.inj ho
      refine StepOk2.free rfl ?_
      intro done a V hC hdn _ hdep hoth
      obtain ⟨ba, ha1, ha2⟩ := hdep _ 4 (Array.mem_of_getElem? (i := 0) rfl) rfl rfl
      obtain ⟨bg, hg1, hg2⟩ := hdep _ 6 (Array.mem_of_getElem? (i := 1) rfl) rfl rfl
      obtain ⟨bf, hf1, hf2⟩ := hdep _ 8 (Array.mem_of_getElem? (i := 2) rfl) rfl rfl
      have x4 := slot_of ha1
      have x6 := slot_of hg1
      have x8 := slot_of hf1
      exact goodRun2.val (c := .agg #[.pointer (some ⟨ba, 0, none⟩), .pointer (some ⟨bg, 0, none⟩), .pointer (some ⟨bf, 0, none⟩)]) (by clear hdep hoth hC ha1 ha2 hg1 hg2 hf1 hf2; go_simp) ⟨hC.1, hC.2.1, hC.2.2.1, by rw [mark_other done (by decide)]; exact hC.2.2.2⟩ ⟨ba, bg, bf, rfl, ha2, hg2, hf2⟩
    | 7, ho =>
      obtain rfl := Option.some.inj ho
      refine StepOk2.free rfl ?_
      intro done a V hC hdn _ hdep hoth
      have x2 : a.tmps[2]?.getD undef = .pointer (some ⟨w.heap.size + 1, 0, none⟩) := slot_of (hoth 2 (notDst (by kernel_rfl)))
      obtain ⟨ba, bg, bf, hv, h1, h2, h3⟩ := hdep _ 9 (Array.mem_of_getElem? (i := 0) rfl) rfl rfl
      have x9 := slot_of hv
      have hr := hC.2.2.2 hdn
      have c0 : V.cell? ⟨w.heap.size + 1, 0, none⟩ = some (.pointer none) := by simp [World.cell?, hr]
      have c1 : V.cell? ⟨w.heap.size + 1, 1, none⟩ = some (.pointer none) := by simp [World.cell?, hr]
      have c2 : V.cell? ⟨w.heap.size + 1, 2, none⟩ = some (.pointer none) := by simp [World.cell?, hr]
      have f0 : ∀ i, V.frozen? ⟨w.heap.size + 1, i, none⟩ = false := fun i => by simp [World.frozen?, hr]
      have hg : V.grownBy (((V.setCell ⟨w.heap.size + 1, 0, none⟩ (.pointer (some ⟨ba, 0, none⟩))).setCell ⟨w.heap.size + 1, 1, none⟩ (.pointer (some ⟨bg, 0, none⟩))).setCell ⟨w.heap.size + 1, 2, none⟩ (.pointer (some ⟨bf, 0, none⟩))) (some (w.heap.size + 1)) := ((grown_setCell _ _ _ _).trans (grown_setCell _ _ _ _)).trans (grown_setCell _ _ _ _)
      have hk : ∀ k, w.heap.size + 2 ≤ k → k < V.heap.size → (((V.setCell ⟨w.heap.size + 1, 0, none⟩ (.pointer (some ⟨ba, 0, none⟩))).setCell ⟨w.heap.size + 1, 1, none⟩ (.pointer (some ⟨bg, 0, none⟩))).setCell ⟨w.heap.size + 1, 2, none⟩ (.pointer (some ⟨bf, 0, none⟩))).heap[k]? = V.heap[k]? := fun k h1 h => hg.block k h (by simp; omega)
      have hz := hC.2.2.1
      refine goodRun2.skipped (w' := ((V.setCell ⟨w.heap.size + 1, 0, none⟩ (.pointer (some ⟨ba, 0, none⟩))).setCell ⟨w.heap.size + 1, 1, none⟩ (.pointer (some ⟨bg, 0, none⟩))).setCell ⟨w.heap.size + 1, 2, none⟩ (.pointer (some ⟨bf, 0, none⟩))) (by clear hdep hoth hC hv h1 h2 h3 hg hk hr hz; go_simp) ⟨?_, ?_, Nat.le_trans hz hg.size, fun hd => by rw [mark_same] at hd; cases hd⟩ (fun j v hj h => nwS_keeps hk j v (fun e7 => by rw [e7, hdn] at hj; cases hj) h) ⟨ba, bg, bf, ?_, h1.keep hk, h2.keep hk, h3.keep hk⟩
      · exact hC.1.grown hg hC.1.size (fun i hi => by cases hi; omega)
      · exact (hg.block _ (by omega) (by simp)).trans hC.2.1
      · rw [row_put3 hr]
    | n + 8, ho => simp at ho
  · intro vals V hC hS
    obtain ⟨ba, bg, bf, hr, h1, h2, h3⟩ := hS 7 (by decide)
    have HB : Hid (Below w.heap.size w V) := hC.1
    have HRR : Hid (V.heap[w.heap.size + 1]? = some (.cells #[.pointer (some ⟨ba, 0, none⟩), .pointer (some ⟨bg, 0, none⟩), .pointer (some ⟨bf, 0, none⟩)] 76 (0, 0))) := hr
    have HWt : Hid (WatAt (fun k => w.heap.size ≤ k) V ba bg bf e (WSt.new e)) := by
      obtain ⟨sa, cap, g1, g2⟩ := h2
      obtain ⟨m, n, D, fv, lv, f3, f4, f5, f6, f7⟩ := h3
      refine ⟨h1.1, by have := h1.2; show w.heap.size ≤ ba; omega, ⟨sa, cap, g1, fun k hk => by have := g2 k hk; show w.heap.size ≤ k; omega⟩, ⟨m, n, D, fv, lv, f3, by show w.heap.size ≤ bf; omega, by show w.heap.size ≤ m; omega, fun g hg => by have := f6 g hg; show w.heap.size ≤ g; omega, fun g hg => by have := f7 g hg; show w.heap.size ≤ g; omega⟩, by simp [WSt.new, GSt.new]⟩
    clear hS hC hr h1 h2 h3 HP HX HR HBW HZ
    simp only [fill, dstOf]
    go_simp
    go_wp2_with fail
    refine bodyPost_ret (results_cell_row rfl _ _ (w.heap.size + 1) _ _ _ _ rfl HRR.out Tryd.underlying76 rfl Tryd.sizeWatch) rfl ?_
    exact ⟨⟨ba, bg, bf, rfl, HWt.out⟩, HB.out⟩
end
end Go.Proofs.YtpaolneaomeoiabDoor
