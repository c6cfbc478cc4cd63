/-
  Several texts as one: LoNew, LoOps.
-/
import Derived.Test.YtkphpgdgbnmnjacGreatDoorB09C
namespace Go.Proofs.YtkphpgdgbnmnjacGreatDoor
open Go.RowKit Go.Extern.Stop Go.Stop Go.Extern

section
variable {F F' : Nat → Prop} {w w' w'' : World} {b ba bg bf : Nat} {e : EntD} {E : EA} {s : Option NSt}
def loRow (x y z : Value) (e : EntD) (E : EA) (act wh : Bool) (run : Int) (ex : Bool) : Array Value := #[x, y, z, .string e.name, .int .i64 e.tol, .slice E.pa e.pts.length E.pc, .int .i64 e.cnt, .int .i64 e.mn, .int .i64 e.mx, .slice E.ga e.gaps.length E.gc, .slice E.ea e.edges.length E.ec, .slice E.fa e.first.length E.fc, .slice E.la e.last.length E.lc, .bool act, .bool wh, .int .i64 run, .bool ex]
def LoRowAt (F : Nat → Prop) (w : World) (b : Nat) (e : EntD) (E : EA) : Option NSt → Prop
  | none => w.heap[b]? = some (.cells (loRow (.pointer none) (.pointer none) (.pointer none) e E false false 0 false) 147 (0, 0))
  | some n => ∃ ba bg bf, w.heap[b]? = some (.cells (loRow (.pointer (some ⟨ba, 0, none⟩)) (.pointer (some ⟨bg, 0, none⟩)) (.pointer (some ⟨bf, 0, none⟩)) e E true n.whole (n.run : Int) n.ex) 147 (0, 0)) ∧ WatAt F w ba bg bf e n.w
/-- An entity of package local in memory; none: idle. -/
structure LoAt (F : Nat → Prop) (w : World) (b : Nat) (e : EntD) (E : EA) (s : Option NSt) : Prop where
  parts : PartsF F w e E
  fb : F b
  row : LoRowAt F w b e E s
theorem LoAt.same (h : LoAt F w b e E s) (hs : ∀ k, F k → w'.heap[k]? = w.heap[k]?) : LoAt F w' b e E s := by
  refine ⟨h.parts.same hs, h.fb, ?_⟩
  have hr := h.row
  cases s with
  | none => exact (hs b h.fb).trans hr
  | some n => obtain ⟨ba, bg, bf, h1, h2⟩ := hr; exact ⟨ba, bg, bf, (hs b h.fb).trans h1, h2.same hs⟩
theorem WatAt.mono {s : WSt} (h : WatAt F w ba bg bf e s) (hF : ∀ k, k < w.heap.size → F k → F' k) : WatAt F' w ba bg bf e s := by
  obtain ⟨sa, cap, h1, h2⟩ := h.ga
  obtain ⟨m, n, D, fv, lv, h3, h4, h5, h6, h7⟩ := h.fl
  exact ⟨h.al, hF _ (lt_of_row h.al.heap) h.fa, ⟨sa, cap, h1, fun k hk => hF k (gs_lt h1 hk) (h2 k hk)⟩, ⟨m, n, D, fv, lv, h3, hF _ (lt_of_row h3.heap) h4, hF _ (map_lt h3) h5, fun g hg => hF g (h3.hf.lt g hg).2 (h6 g hg), fun g hg => hF g (h3.hl.lt g hg).2 (h7 g hg)⟩, h.gl⟩
theorem LoAt.lt (h : LoAt F w b e E s) : b < w.heap.size := by
  have hr := h.row
  cases s with
  | none => exact lt_of_row hr
  | some n => obtain ⟨ba, bg, bf, h1, -⟩ := hr; exact lt_of_row h1
theorem LoAt.mono (h : LoAt F w b e E s) (hF : ∀ k, k < w.heap.size → F k → F' k) : LoAt F' w b e E s := by
  refine ⟨h.parts.mono hF, hF _ h.lt h.fb, ?_⟩
  have hr := h.row
  cases s with
  | none => exact hr
  | some n => obtain ⟨ba, bg, bf, h1, h2⟩ := hr; exact ⟨ba, bg, bf, h1, h2.mono hF⟩
theorem LoAt.below (h : LoAt F w b e E s) (hF : ∀ k, F k → k < w.heap.size) (hb : Below w.heap.size w w') : LoAt F w' b e E s := h.same (fun k hk => hb.block k (hF k hk))
/-- The blocks that there are. -/
theorem LoAt.cut (h : LoAt F w b e E s) : LoAt (fun k => F k ∧ k < w.heap.size) w b e E s := h.mono (fun _ hk h => ⟨h, hk⟩)
set_option maxHeartbeats 8000000 in
set_option maxRecDepth 100000 in
theorem copyOf_at (w : World) (e : EntD) (E : EA) (hP : PartsE w e E) (hS : SmallE e) :
    Calls Tryz.prog 101 #[.agg #[.string e.name, .int .i64 e.tol, .slice E.pa e.pts.length E.pc, .int .i64 e.cnt, .int .i64 e.mn, .int .i64 e.mx, .slice E.ga e.gaps.length E.gc, .slice E.ea e.edges.length E.ec, .slice E.fa e.first.length E.fc, .slice E.la e.last.length E.lc]] w fun v w' => (∃ E' : EA, v = .returned (entV e E') ∧ PartsF (fun k => w.heap.size ≤ k) w' e E') ∧ Below w.heap.size w w' := by
  have HP : Hid (PartsE w e E) := hP
  have HS : Hid (SmallE e) := hS
  clear hP hS
  go_enter Tryz.func101, Tryz.ntmps101
  go_upto_region 1 with fail
  obtain ⟨V0, hV0⟩ : ∃ V, V = (w.alloc (.cells #[.string e.name, .int .i64 e.tol, .slice E.pa e.pts.length E.pc, .int .i64 e.cnt, .int .i64 e.mn, .int .i64 e.mx, .slice E.ga e.gaps.length E.gc, .slice E.ea e.edges.length E.ec, .slice E.fa e.first.length E.fc, .slice E.la e.last.length E.lc] 38)).alloc (.cells #[.string ⟨#[]⟩, .int .i64 0, .slice none 0 0, .int .i64 0, .int .i64 0, .int .i64 0, .slice none 0 0, .slice none 0 0, .slice none 0 0, .slice none 0 0] 38) := ⟨_, rfl⟩
  rw [← hV0]
  have hs0 : V0.heap.size = w.heap.size + 2 := by rw [hV0]; simp
  have HBl0 : Hid (Below w.heap.size w V0) := by show Below _ _ _; rw [hV0]; exact (Below.one _ _).alloc (by simp) _
  have HO0 : Hid (V0.heap[w.heap.size]? = some (.cells #[.string e.name, .int .i64 e.tol, .slice E.pa e.pts.length E.pc, .int .i64 e.cnt, .int .i64 e.mn, .int .i64 e.mx, .slice E.ga e.gaps.length E.gc, .slice E.ea e.edges.length E.ec, .slice E.fa e.first.length E.fc, .slice E.la e.last.length E.lc] 38 (0, 0))) := by
    show _ = _
    rw [hV0]
    exact row_below (Below.one _ _) (heap_alloc_new w _)
  have HR0 : Hid (V0.heap[w.heap.size + 1]? = some (.cells #[.string ⟨#[]⟩, .int .i64 0, .slice none 0 0, .int .i64 0, .int .i64 0, .int .i64 0, .slice none 0 0, .slice none 0 0, .slice none 0 0, .slice none 0 0] 38 (0, 0))) := by
    show _ = _
    rw [hV0]
    have := heap_alloc_new (w.alloc (.cells #[.string e.name, .int .i64 e.tol, .slice E.pa e.pts.length E.pc, .int .i64 e.cnt, .int .i64 e.mn, .int .i64 e.mx, .slice E.ga e.gaps.length E.gc, .slice E.ea e.edges.length E.ec, .slice E.fa e.first.length E.fc, .slice E.la e.last.length E.lc] 38)) (.cells #[.string ⟨#[]⟩, .int .i64 0, .slice none 0 0, .int .i64 0, .int .i64 0, .int .i64 0, .slice none 0 0, .slice none 0 0, .slice none 0 0, .slice none 0 0] 38)
    simpa using this
  clear hV0 hs0
  have s0 : V0.cell? ⟨w.heap.size, 2, none⟩ = some (.slice E.pa e.pts.length E.pc) := by have := HO0.out; simp [World.cell?, this]
  go_wp2_with fail
  refine (cloneS_at w.heap.size e.pts _ _ V0 (HP.out.below HBl0.out).hp HS.out.hp HBl0.out.size).mono ?_
  rintro v W0 ⟨⟨pa', pc', rfl, hop⟩, hb0⟩
  have d0 : W0.cell? ⟨w.heap.size, 2, none⟩ = some (.slice E.pa e.pts.length E.pc) := by have := row_below hb0 HO0.out; simp [World.cell?, this]
  have q0 : W0.frozen? ⟨w.heap.size, 2, none⟩ = false := by have := row_below hb0 HO0.out; simp [World.frozen?, this]
  have HHo0 : Hid (SlOwn encS 1 9 w.heap.size W0 (.slice pa' e.pts.length pc') e.pts) := hop
  have HHb0 : Hid (Below V0.heap.size V0 W0) := hb0
  clear hop hb0 s0
  go_upto_region 2 with fail
  obtain ⟨V1, hV1⟩ : ∃ V, V = W0.setCell ⟨w.heap.size, 2, none⟩ (.slice pa' e.pts.length pc') := ⟨_, rfl⟩
  rw [← hV1]
  have hg1 : W0.grownBy V1 (some w.heap.size) := by rw [hV1]; exact grown_setCell _ _ _ _
  have HO1 : Hid (V1.heap[w.heap.size]? = some (.cells #[.string e.name, .int .i64 e.tol, .slice pa' e.pts.length pc', .int .i64 e.cnt, .int .i64 e.mn, .int .i64 e.mx, .slice E.ga e.gaps.length E.gc, .slice E.ea e.edges.length E.ec, .slice E.fa e.first.length E.fc, .slice E.la e.last.length E.lc] 38 (0, 0))) := by
    show _ = _
    have := row_below HHb0.out HO0.out
    rw [hV1]
    simp [World.setCell, Array.getElem?_modify, this]
  have HR1 : Hid (V1.heap[w.heap.size + 1]? = some (.cells #[.string ⟨#[]⟩, .int .i64 0, .slice none 0 0, .int .i64 0, .int .i64 0, .int .i64 0, .slice none 0 0, .slice none 0 0, .slice none 0 0, .slice none 0 0] 38 (0, 0))) := (hg1.block _ (lt_of_row (row_below HHb0.out HR0.out)) (by simp)).trans (row_below HHb0.out HR0.out)
  have HBl1 : Hid (Below w.heap.size w V1) := (HBl0.out.trans (HHb0.out.mono HBl0.out.size)).grown hg1 (Nat.le_trans HBl0.out.size HHb0.out.size) (fun k hk => by cases hk; exact Nat.le_refl _)
  have HSp1 : Hid (SlOwn encS 1 9 w.heap.size V1 (.slice pa' e.pts.length pc') e.pts) := HHo0.out.other hg1 (row_below HHb0.out HO0.out) (by decide)
  clear d0 q0 hV1 hg1 HHo0 HHb0 HO0 HR0 HBl0
  have s1 : V1.cell? ⟨w.heap.size, 6, none⟩ = some (.slice E.ga e.gaps.length E.gc) := by have := HO1.out; simp [World.cell?, this]
  go_wp2_with fail
  refine (cloneG_at w.heap.size e.gaps _ _ V1 (HP.out.below HBl1.out).hg HS.out.hg HBl1.out.size).mono ?_
  rintro v W1 ⟨⟨ga', gc', rfl, hog⟩, hb1⟩
  have d1 : W1.cell? ⟨w.heap.size, 6, none⟩ = some (.slice E.ga e.gaps.length E.gc) := by have := row_below hb1 HO1.out; simp [World.cell?, this]
  have q1 : W1.frozen? ⟨w.heap.size, 6, none⟩ = false := by have := row_below hb1 HO1.out; simp [World.frozen?, this]
  have HHo1 : Hid (SlOwn encG 4 138 w.heap.size W1 (.slice ga' e.gaps.length gc') e.gaps) := hog
  have HHb1 : Hid (Below V1.heap.size V1 W1) := hb1
  clear hog hb1 s1
  go_upto_region 3 with fail
  obtain ⟨V2, hV2⟩ : ∃ V, V = W1.setCell ⟨w.heap.size, 6, none⟩ (.slice ga' e.gaps.length gc') := ⟨_, rfl⟩
  rw [← hV2]
  have hg2 : W1.grownBy V2 (some w.heap.size) := by rw [hV2]; exact grown_setCell _ _ _ _
  have HO2 : Hid (V2.heap[w.heap.size]? = some (.cells #[.string e.name, .int .i64 e.tol, .slice pa' e.pts.length pc', .int .i64 e.cnt, .int .i64 e.mn, .int .i64 e.mx, .slice ga' e.gaps.length gc', .slice E.ea e.edges.length E.ec, .slice E.fa e.first.length E.fc, .slice E.la e.last.length E.lc] 38 (0, 0))) := by
    show _ = _
    have := row_below HHb1.out HO1.out
    rw [hV2]
    simp [World.setCell, Array.getElem?_modify, this]
  have HR2 : Hid (V2.heap[w.heap.size + 1]? = some (.cells #[.string ⟨#[]⟩, .int .i64 0, .slice none 0 0, .int .i64 0, .int .i64 0, .int .i64 0, .slice none 0 0, .slice none 0 0, .slice none 0 0, .slice none 0 0] 38 (0, 0))) := (hg2.block _ (lt_of_row (row_below HHb1.out HR1.out)) (by simp)).trans (row_below HHb1.out HR1.out)
  have HBl2 : Hid (Below w.heap.size w V2) := (HBl1.out.trans (HHb1.out.mono HBl1.out.size)).grown hg2 (Nat.le_trans HBl1.out.size HHb1.out.size) (fun k hk => by cases hk; exact Nat.le_refl _)
  have HSp2 : Hid (SlOwn encS 1 9 w.heap.size V2 (.slice pa' e.pts.length pc') e.pts) := (HSp1.out.below HHb1.out).other hg2 (row_below HHb1.out HO1.out) (by decide)
  have HSg2 : Hid (SlOwn encG 4 138 w.heap.size V2 (.slice ga' e.gaps.length gc') e.gaps) := HHo1.out.other hg2 (row_below HHb1.out HO1.out) (by decide)
  clear d1 q1 hV2 hg2 HHo1 HHb1 HO1 HR1 HBl1 HSp1
  have s2 : V2.cell? ⟨w.heap.size, 7, none⟩ = some (.slice E.ea e.edges.length E.ec) := by have := HO2.out; simp [World.cell?, this]
  go_wp2_with fail
  refine (cloneP_at w.heap.size e.edges _ _ V2 (HP.out.below HBl2.out).he HS.out.he HBl2.out.size).mono ?_
  rintro v W2 ⟨⟨ea', ec', rfl, hoe⟩, hb2⟩
  have d2 : W2.cell? ⟨w.heap.size, 7, none⟩ = some (.slice E.ea e.edges.length E.ec) := by have := row_below hb2 HO2.out; simp [World.cell?, this]
  have q2 : W2.frozen? ⟨w.heap.size, 7, none⟩ = false := by have := row_below hb2 HO2.out; simp [World.frozen?, this]
  have HHo2 : Hid (SlOwn encP 2 139 w.heap.size W2 (.slice ea' e.edges.length ec') e.edges) := hoe
  have HHb2 : Hid (Below V2.heap.size V2 W2) := hb2
  clear hoe hb2 s2
  go_upto_region 4 with fail
  obtain ⟨V3, hV3⟩ : ∃ V, V = W2.setCell ⟨w.heap.size, 7, none⟩ (.slice ea' e.edges.length ec') := ⟨_, rfl⟩
  rw [← hV3]
  have hg3 : W2.grownBy V3 (some w.heap.size) := by rw [hV3]; exact grown_setCell _ _ _ _
  have HO3 : Hid (V3.heap[w.heap.size]? = some (.cells #[.string e.name, .int .i64 e.tol, .slice pa' e.pts.length pc', .int .i64 e.cnt, .int .i64 e.mn, .int .i64 e.mx, .slice ga' e.gaps.length gc', .slice ea' e.edges.length ec', .slice E.fa e.first.length E.fc, .slice E.la e.last.length E.lc] 38 (0, 0))) := by
    show _ = _
    have := row_below HHb2.out HO2.out
    rw [hV3]
    simp [World.setCell, Array.getElem?_modify, this]
  have HR3 : Hid (V3.heap[w.heap.size + 1]? = some (.cells #[.string ⟨#[]⟩, .int .i64 0, .slice none 0 0, .int .i64 0, .int .i64 0, .int .i64 0, .slice none 0 0, .slice none 0 0, .slice none 0 0, .slice none 0 0] 38 (0, 0))) := (hg3.block _ (lt_of_row (row_below HHb2.out HR2.out)) (by simp)).trans (row_below HHb2.out HR2.out)
  have HBl3 : Hid (Below w.heap.size w V3) := (HBl2.out.trans (HHb2.out.mono HBl2.out.size)).grown hg3 (Nat.le_trans HBl2.out.size HHb2.out.size) (fun k hk => by cases hk; exact Nat.le_refl _)
  have HSp3 : Hid (SlOwn encS 1 9 w.heap.size V3 (.slice pa' e.pts.length pc') e.pts) := (HSp2.out.below HHb2.out).other hg3 (row_below HHb2.out HO2.out) (by decide)
  have HSg3 : Hid (SlOwn encG 4 138 w.heap.size V3 (.slice ga' e.gaps.length gc') e.gaps) := (HSg2.out.below HHb2.out).other hg3 (row_below HHb2.out HO2.out) (by decide)
  have HSe3 : Hid (SlOwn encP 2 139 w.heap.size V3 (.slice ea' e.edges.length ec') e.edges) := HHo2.out.other hg3 (row_below HHb2.out HO2.out) (by decide)
  clear d2 q2 hV3 hg3 HHo2 HHb2 HO2 HR2 HBl2 HSp2 HSg2
  have s3 : V3.cell? ⟨w.heap.size, 8, none⟩ = some (.slice E.fa e.first.length E.fc) := by have := HO3.out; simp [World.cell?, this]
  go_wp2_with fail
  refine (clone_at w.heap.size e.first _ _ V3 (HP.out.below HBl3.out).hf HS.out.hf HBl3.out.size).mono ?_
  rintro v W3 ⟨⟨fa', fc', rfl, hof⟩, hb3⟩
  have d3 : W3.cell? ⟨w.heap.size, 8, none⟩ = some (.slice E.fa e.first.length E.fc) := by have := row_below hb3 HO3.out; simp [World.cell?, this]
  have q3 : W3.frozen? ⟨w.heap.size, 8, none⟩ = false := by have := row_below hb3 HO3.out; simp [World.frozen?, this]
  have HHo3 : Hid (SlOwn encI 1 3 w.heap.size W3 (.slice fa' e.first.length fc') e.first) := hof
  have HHb3 : Hid (Below V3.heap.size V3 W3) := hb3
  clear hof hb3 s3
  go_upto_region 5 with fail
  obtain ⟨V4, hV4⟩ : ∃ V, V = W3.setCell ⟨w.heap.size, 8, none⟩ (.slice fa' e.first.length fc') := ⟨_, rfl⟩
  rw [← hV4]
  have hg4 : W3.grownBy V4 (some w.heap.size) := by rw [hV4]; exact grown_setCell _ _ _ _
  have HO4 : Hid (V4.heap[w.heap.size]? = some (.cells #[.string e.name, .int .i64 e.tol, .slice pa' e.pts.length pc', .int .i64 e.cnt, .int .i64 e.mn, .int .i64 e.mx, .slice ga' e.gaps.length gc', .slice ea' e.edges.length ec', .slice fa' e.first.length fc', .slice E.la e.last.length E.lc] 38 (0, 0))) := by
    show _ = _
    have := row_below HHb3.out HO3.out
    rw [hV4]
    simp [World.setCell, Array.getElem?_modify, this]
  have HR4 : Hid (V4.heap[w.heap.size + 1]? = some (.cells #[.string ⟨#[]⟩, .int .i64 0, .slice none 0 0, .int .i64 0, .int .i64 0, .int .i64 0, .slice none 0 0, .slice none 0 0, .slice none 0 0, .slice none 0 0] 38 (0, 0))) := (hg4.block _ (lt_of_row (row_below HHb3.out HR3.out)) (by simp)).trans (row_below HHb3.out HR3.out)
  have HBl4 : Hid (Below w.heap.size w V4) := (HBl3.out.trans (HHb3.out.mono HBl3.out.size)).grown hg4 (Nat.le_trans HBl3.out.size HHb3.out.size) (fun k hk => by cases hk; exact Nat.le_refl _)
  have HSp4 : Hid (SlOwn encS 1 9 w.heap.size V4 (.slice pa' e.pts.length pc') e.pts) := (HSp3.out.below HHb3.out).other hg4 (row_below HHb3.out HO3.out) (by decide)
  have HSg4 : Hid (SlOwn encG 4 138 w.heap.size V4 (.slice ga' e.gaps.length gc') e.gaps) := (HSg3.out.below HHb3.out).other hg4 (row_below HHb3.out HO3.out) (by decide)
  have HSe4 : Hid (SlOwn encP 2 139 w.heap.size V4 (.slice ea' e.edges.length ec') e.edges) := (HSe3.out.below HHb3.out).other hg4 (row_below HHb3.out HO3.out) (by decide)
  have HSf4 : Hid (SlOwn encI 1 3 w.heap.size V4 (.slice fa' e.first.length fc') e.first) := HHo3.out.other hg4 (row_below HHb3.out HO3.out) (by decide)
  clear d3 q3 hV4 hg4 HHo3 HHb3 HO3 HR3 HBl3 HSp3 HSg3 HSe3
  have s4 : V4.cell? ⟨w.heap.size, 9, none⟩ = some (.slice E.la e.last.length E.lc) := by have := HO4.out; simp [World.cell?, this]
  go_wp2_with fail
  refine (clone_at w.heap.size e.last _ _ V4 (HP.out.below HBl4.out).hl HS.out.hl HBl4.out.size).mono ?_
  rintro v W4 ⟨⟨la', lc', rfl, hol⟩, hb4⟩
  have d4 : W4.cell? ⟨w.heap.size, 9, none⟩ = some (.slice E.la e.last.length E.lc) := by have := row_below hb4 HO4.out; simp [World.cell?, this]
  have q4 : W4.frozen? ⟨w.heap.size, 9, none⟩ = false := by have := row_below hb4 HO4.out; simp [World.frozen?, this]
  have HHo4 : Hid (SlOwn encI 1 3 w.heap.size W4 (.slice la' e.last.length lc') e.last) := hol
  have HHb4 : Hid (Below V4.heap.size V4 W4) := hb4
  clear hol hb4 s4
  go_upto_region 6 with fail
  obtain ⟨V5, hV5⟩ : ∃ V, V = W4.setCell ⟨w.heap.size, 9, none⟩ (.slice la' e.last.length lc') := ⟨_, rfl⟩
  rw [← hV5]
  have hg5 : W4.grownBy V5 (some w.heap.size) := by rw [hV5]; exact grown_setCell _ _ _ _
  have HO5 : Hid (V5.heap[w.heap.size]? = some (.cells #[.string e.name, .int .i64 e.tol, .slice pa' e.pts.length pc', .int .i64 e.cnt, .int .i64 e.mn, .int .i64 e.mx, .slice ga' e.gaps.length gc', .slice ea' e.edges.length ec', .slice fa' e.first.length fc', .slice la' e.last.length lc'] 38 (0, 0))) := by
    show _ = _
    have := row_below HHb4.out HO4.out
    rw [hV5]
    simp [World.setCell, Array.getElem?_modify, this]
  have HR5 : Hid (V5.heap[w.heap.size + 1]? = some (.cells #[.string ⟨#[]⟩, .int .i64 0, .slice none 0 0, .int .i64 0, .int .i64 0, .int .i64 0, .slice none 0 0, .slice none 0 0, .slice none 0 0, .slice none 0 0] 38 (0, 0))) := (hg5.block _ (lt_of_row (row_below HHb4.out HR4.out)) (by simp)).trans (row_below HHb4.out HR4.out)
  have HBl5 : Hid (Below w.heap.size w V5) := (HBl4.out.trans (HHb4.out.mono HBl4.out.size)).grown hg5 (Nat.le_trans HBl4.out.size HHb4.out.size) (fun k hk => by cases hk; exact Nat.le_refl _)
  have HSp5 : Hid (SlOwn encS 1 9 w.heap.size V5 (.slice pa' e.pts.length pc') e.pts) := (HSp4.out.below HHb4.out).other hg5 (row_below HHb4.out HO4.out) (by decide)
  have HSg5 : Hid (SlOwn encG 4 138 w.heap.size V5 (.slice ga' e.gaps.length gc') e.gaps) := (HSg4.out.below HHb4.out).other hg5 (row_below HHb4.out HO4.out) (by decide)
  have HSe5 : Hid (SlOwn encP 2 139 w.heap.size V5 (.slice ea' e.edges.length ec') e.edges) := (HSe4.out.below HHb4.out).other hg5 (row_below HHb4.out HO4.out) (by decide)
  have HSf5 : Hid (SlOwn encI 1 3 w.heap.size V5 (.slice fa' e.first.length fc') e.first) := (HSf4.out.below HHb4.out).other hg5 (row_below HHb4.out HO4.out) (by decide)
  have HSl5 : Hid (SlOwn encI 1 3 w.heap.size V5 (.slice la' e.last.length lc') e.last) := HHo4.out.other hg5 (row_below HHb4.out HO4.out) (by decide)
  clear d4 q4 hV5 hg5 HHo4 HHb4 HO4 HR4 HBl4 HSp4 HSg4 HSe4 HSf4
  go_wp2_with (first | (refine wpList_load_row rfl 38 _ rfl w.heap.size rfl _ _ _ _ HO5.out Tryz.underlying38 rfl Tryz.sizeEnt ?_) | (refine wpList_store_row rfl 38 _ _ rfl (w.heap.size + 1) #[.string e.name, .int .i64 e.tol, .slice pa' e.pts.length pc', .int .i64 e.cnt, .int .i64 e.mn, .int .i64 e.mx, .slice ga' e.gaps.length gc', .slice ea' e.edges.length ec', .slice fa' e.first.length fc', .slice la' e.last.length lc'] rfl rfl 38 #[.string ⟨#[]⟩, .int .i64 0, .slice none 0 0, .int .i64 0, .int .i64 0, .int .i64 0, .slice none 0 0, .slice none 0 0, .slice none 0 0, .slice none 0 0] HR5.out Tryz.sizeEnt rfl (by simp [Value.oneCell']) ?_))
  have hgr : V5.grownBy (V5.setRow (w.heap.size + 1) #[.string e.name, .int .i64 e.tol, .slice pa' e.pts.length pc', .int .i64 e.cnt, .int .i64 e.mn, .int .i64 e.mx, .slice ga' e.gaps.length gc', .slice ea' e.edges.length ec', .slice fa' e.first.length fc', .slice la' e.last.length lc']) (some (w.heap.size + 1)) := grown_setRow _ _ _
  have hres : (V5.setRow (w.heap.size + 1) #[.string e.name, .int .i64 e.tol, .slice pa' e.pts.length pc', .int .i64 e.cnt, .int .i64 e.mn, .int .i64 e.mx, .slice ga' e.gaps.length gc', .slice ea' e.edges.length ec', .slice fa' e.first.length fc', .slice la' e.last.length lc']).heap[w.heap.size + 1]? = some (.cells #[.string e.name, .int .i64 e.tol, .slice pa' e.pts.length pc', .int .i64 e.cnt, .int .i64 e.mn, .int .i64 e.mx, .slice ga' e.gaps.length gc', .slice ea' e.edges.length ec', .slice fa' e.first.length fc', .slice la' e.last.length lc'] 38 (0, 0)) := heap_setRow _ HR5.out
  refine bodyPost_ret (results_cell_row rfl _ _ (w.heap.size + 1) _ _ _ _ rfl hres Tryz.underlying38 rfl Tryz.sizeEnt) rfl ?_
  exact ⟨⟨⟨pa', ga', ea', fa', la', pc', gc', ec', fc', lc'⟩, rfl, ⟨OwnF.of (HSp5.out.other hgr HR5.out (by decide)) (fun _ h => h), OwnF.of (HSg5.out.other hgr HR5.out (by decide)) (fun _ h => h), OwnF.of (HSe5.out.other hgr HR5.out (by decide)) (fun _ h => h), OwnF.of (HSf5.out.other hgr HR5.out (by decide)) (fun _ h => h), OwnF.of (HSl5.out.other hgr HR5.out (by decide)) (fun _ h => h)⟩⟩, HBl5.out.grown hgr HBl5.out.size (fun k hk => by cases hk; omega)⟩
set_option maxHeartbeats 4000000 in
set_option maxRecDepth 100000 in
theorem lo_new (w : World) (e : EntD) (E : EA) (hP : PartsE w e E) (hS : SmallE e) :
    Calls Tryz.prog 64 #[.agg #[.string e.name, .int .i64 e.tol, .slice E.pa e.pts.length E.pc, .int .i64 e.cnt, .int .i64 e.mn, .int .i64 e.mx, .slice E.ga e.gaps.length E.gc, .slice E.ea e.edges.length E.ec, .slice E.fa e.first.length E.fc, .slice E.la e.last.length E.lc]] w fun v w' => (∃ (b : Nat) (E' : EA), v = .returned (.pointer (some ⟨b, 0, none⟩)) ∧ LoAt (fun k => w.heap.size ≤ k) w' b e E' none) ∧ Below w.heap.size w w' := by
  have HP : Hid (PartsE w e E) := hP
  have HS : Hid (SmallE e) := hS
  clear hP hS
  go_enter Tryz.func64, Tryz.ntmps64
  go_wp2_with fail
  have HB0 : Hid (Below w.heap.size w (w.alloc (.cells #[.string e.name, .int .i64 e.tol, .slice E.pa e.pts.length E.pc, .int .i64 e.cnt, .int .i64 e.mn, .int .i64 e.mx, .slice E.ga e.gaps.length E.gc, .slice E.ea e.edges.length E.ec, .slice E.fa e.first.length E.fc, .slice E.la e.last.length E.lc] 38))) := Below.one _ _
  refine (copyOf_at _ e E (HP.out.below HB0.out) HS.out).mono ?_
  rintro v W ⟨⟨E', rfl, hp⟩, hb⟩
  have HW : Hid (PartsF (fun k => w.heap.size ≤ k) W e E' ∧ Below w.heap.size w W) := ⟨hp.mono (fun k _ h => by simp at h; show w.heap.size ≤ k; omega), HB0.out.trans (hb.mono (by simp))⟩
  clear hp hb HB0 HP
  unfold entV
  go_wp2
  go_ret
  have hb1 : Below W.heap.size W (W.alloc (.cells (loRow (.pointer none) (.pointer none) (.pointer none) e E' false false 0 false) 147)) := Below.one _ _
  refine ⟨⟨W.heap.size, E', rfl, (PartsF.fr HW.out.1 (F' := fun _ => False) (FrL.below hb1)), HW.out.2.size, ?_⟩, HW.out.2.trans (hb1.mono HW.out.2.size)⟩
  exact heap_alloc_new W _
end
end Go.Proofs.YtkphpgdgbnmnjacGreatDoor

namespace Go.Proofs.YtkphpgdgbnmnjacGreatDoor
open Go.RowKit Go.Extern.Stop Go.Stop Go.Extern

section
variable {F F' : Nat → Prop} {w w' w'' : World} {b ba bg bf : Nat} {e : EntD} {E : EA} {s : Option NSt} {n : NSt}
theorem Tryz.sizeLocal : (Tryz.prog.info? 147).map (·.size) = some 17 := by kernel_rfl
set_option maxHeartbeats 4000000 in
set_option maxRecDepth 100000 in
theorem lo_begin (h : LoAt F w b e E none) (hS : SmallE e) (hW : WfE e.edges) :
    Calls Tryz.prog 46 #[.pointer (some ⟨b, 0, none⟩)] w fun v w' => v = .returned .nilIface ∧ LoAt (fun k => F k ∨ w.heap.size ≤ k) w' b e E (some (NSt.new e)) ∧ FrL F w w' := by
  have H : Hid (LoAt F w b e E none) := h
  have HS : Hid (SmallE e) := hS
  have HW : Hid (WfE e.edges) := hW
  have hr : w.heap[b]? = some (.cells (loRow (.pointer none) (.pointer none) (.pointer none) e E false false 0 false) 147 (0, 0)) := h.row
  have HR : Hid (w.heap[b]? = some (.cells (loRow (.pointer none) (.pointer none) (.pointer none) e E false false 0 false) 147 (0, 0))) := hr
  have c13 : w.cell? ⟨b, 13, none⟩ = some (.bool false) := by simp [World.cell?, hr, loRow]
  have c3 : w.cell? ⟨b, 3, none⟩ = some (.string e.name) := by simp [World.cell?, hr, loRow]
  have c4 : w.cell? ⟨b, 4, none⟩ = some (.int .i64 e.tol) := by simp [World.cell?, hr, loRow]
  have c5 : w.cell? ⟨b, 5, none⟩ = some (.slice E.pa e.pts.length E.pc) := by simp [World.cell?, hr, loRow]
  have c6 : w.cell? ⟨b, 6, none⟩ = some (.int .i64 e.cnt) := by simp [World.cell?, hr, loRow]
  have c7 : w.cell? ⟨b, 7, none⟩ = some (.int .i64 e.mn) := by simp [World.cell?, hr, loRow]
  have c8 : w.cell? ⟨b, 8, none⟩ = some (.int .i64 e.mx) := by simp [World.cell?, hr, loRow]
  have c9 : w.cell? ⟨b, 9, none⟩ = some (.slice E.ga e.gaps.length E.gc) := by simp [World.cell?, hr, loRow]
  have c10 : w.cell? ⟨b, 10, none⟩ = some (.slice E.ea e.edges.length E.ec) := by simp [World.cell?, hr, loRow]
  have c11 : w.cell? ⟨b, 11, none⟩ = some (.slice E.fa e.first.length E.fc) := by simp [World.cell?, hr, loRow]
  have c12 : w.cell? ⟨b, 12, none⟩ = some (.slice E.la e.last.length E.lc) := by simp [World.cell?, hr, loRow]
  clear h hS hW hr
  go_enter Tryz.func46, Tryz.ntmps46
  go_wp2_with fail
  refine (newWatch_at _ e E H.out.parts.parts HS.out HW.out).mono ?_
  rintro v W ⟨⟨ba, bg, bf, rfl, hwat⟩, hb⟩
  have hr1 : W.heap[b]? = some (.cells (loRow (.pointer none) (.pointer none) (.pointer none) e E false false 0 false) 147 (0, 0)) := row_below hb HR.out
  have HR1 : Hid (W.heap[b]? = some (.cells (loRow (.pointer none) (.pointer none) (.pointer none) e E false false 0 false) 147 (0, 0))) := hr1
  have HB1 : Hid (Below w.heap.size w W) := hb
  have HWat : Hid (WatAt (fun k => w.heap.size ≤ k) W ba bg bf e (WSt.new e)) := hwat
  have d0 : W.cell? ⟨b, 0, none⟩ = some (.pointer none) := by simp [World.cell?, hr1, loRow]
  have d1 : W.cell? ⟨b, 1, none⟩ = some (.pointer none) := by simp [World.cell?, hr1, loRow]
  have d2 : W.cell? ⟨b, 2, none⟩ = some (.pointer none) := by simp [World.cell?, hr1, loRow]
  have d13 : W.cell? ⟨b, 13, none⟩ = some (.bool false) := by simp [World.cell?, hr1, loRow]
  have q : ∀ i, W.frozen? ⟨b, i, none⟩ = false := fun i => by simp [World.frozen?, hr1]
  clear c3 c4 c5 c6 c7 c8 c9 c10 c11 c12 c13 hwat hb hr1
  go_wp2
  go_ret
  have hg : W.grownBy ((((W.setCell ⟨b, 0, none⟩ (.pointer (some ⟨ba, 0, none⟩))).setCell ⟨b, 1, none⟩ (.pointer (some ⟨bg, 0, none⟩))).setCell ⟨b, 2, none⟩ (.pointer (some ⟨bf, 0, none⟩))).setCell ⟨b, 13, none⟩ (.bool true)) (some b) := (((grown_setCell _ _ _ _).trans (grown_setCell _ _ _ _)).trans (grown_setCell _ _ _ _)).trans (grown_setCell _ _ _ _)
  have hrow : ((((W.setCell ⟨b, 0, none⟩ (.pointer (some ⟨ba, 0, none⟩))).setCell ⟨b, 1, none⟩ (.pointer (some ⟨bg, 0, none⟩))).setCell ⟨b, 2, none⟩ (.pointer (some ⟨bf, 0, none⟩))).setCell ⟨b, 13, none⟩ (.bool true)).heap[b]? = some (.cells (loRow (.pointer (some ⟨ba, 0, none⟩)) (.pointer (some ⟨bg, 0, none⟩)) (.pointer (some ⟨bf, 0, none⟩)) e E true false 0 false) 147 (0, 0)) := by
    have := HR1.out
    simp [World.setCell, Array.getElem?_modify, this, loRow]
  have hf1 : FrL F w W := FrL.below HB1.out
  have hf2 : FrL F W ((((W.setCell ⟨b, 0, none⟩ (.pointer (some ⟨ba, 0, none⟩))).setCell ⟨b, 1, none⟩ (.pointer (some ⟨bg, 0, none⟩))).setCell ⟨b, 2, none⟩ (.pointer (some ⟨bf, 0, none⟩))).setCell ⟨b, 13, none⟩ (.bool true)) := FrL.put hg HR1.out (Or.inl rfl) H.out.fb
  have hff := hf1.trans hf2 (fun _ _ x => x)
  refine ⟨rfl, ⟨(H.out.parts.fr hff).mono (fun _ _ x => Or.inl x), Or.inl H.out.fb, ba, bg, bf, hrow, ?_⟩, hff⟩
  refine WatAt.mono (F := fun k => w.heap.size ≤ k) (HWat.out.same (fun k hk => ?_)) (fun _ _ x => Or.inr x)
  have hbl := lt_of_row HR.out
  have hk' : w.heap.size ≤ k := hk
  have hne : some k ≠ some b := fun e1 => by rw [Option.some.inj e1] at hk'; omega
  rcases Nat.lt_or_ge k W.heap.size with h1 | h1
  · exact hg.block k h1 hne
  · rw [Array.getElem?_eq_none h1, Array.getElem?_eq_none (by simpa [World.setCell] using h1)]
set_option maxHeartbeats 1000000 in
theorem lo_held (x : Value) (h : LoAt F w b e E (some n)) (hx : w.cell? ⟨0, 0, none⟩ = some x) :
    Calls Tryz.prog 46 #[.pointer (some ⟨b, 0, none⟩)] w fun v w' => v = .returned x ∧ w' = w := by
  obtain ⟨ba, bg, bf, hr, -⟩ := h.row
  have c13 : w.cell? ⟨b, 13, none⟩ = some (.bool true) := by simp [World.cell?, hr, loRow]
  clear h hr
  go_enter Tryz.func46, Tryz.ntmps46
  go_wp2
  go_ret
  exact ⟨rfl, rfl⟩
set_option maxHeartbeats 1000000 in
theorem lo_stop_idle (x : Value) (h : LoAt F w b e E none) (hx : w.cell? ⟨4, 0, none⟩ = some x) :
    Calls Tryz.prog 47 #[.pointer (some ⟨b, 0, none⟩)] w fun v w' => v = .returned x ∧ w' = w := by
  have hr : w.heap[b]? = some (.cells (loRow (.pointer none) (.pointer none) (.pointer none) e E false false 0 false) 147 (0, 0)) := h.row
  have c13 : w.cell? ⟨b, 13, none⟩ = some (.bool false) := by simp [World.cell?, hr, loRow]
  clear h hr
  go_enter Tryz.func47, Tryz.ntmps47
  go_wp2
  go_ret
  exact ⟨rfl, rfl⟩
set_option maxHeartbeats 4000000 in
set_option maxRecDepth 100000 in
theorem lo_stop (h : LoAt F w b e E (some n)) :
    Calls Tryz.prog 47 #[.pointer (some ⟨b, 0, none⟩)] w fun v w' => v = .returned .nilIface ∧ LoAt F w' b e E none ∧ FrL F w w' := by
  have H : Hid (LoAt F w b e E (some n)) := h
  obtain ⟨ba, bg, bf, hr, -⟩ := h.row
  have HR : Hid (w.heap[b]? = some (.cells (loRow (.pointer (some ⟨ba, 0, none⟩)) (.pointer (some ⟨bg, 0, none⟩)) (.pointer (some ⟨bf, 0, none⟩)) e E true n.whole (n.run : Int) n.ex) 147 (0, 0))) := hr
  have c13 : w.cell? ⟨b, 13, none⟩ = some (.bool true) := by simp [World.cell?, hr, loRow]
  have c3 : w.cell? ⟨b, 3, none⟩ = some (.string e.name) := by simp [World.cell?, hr, loRow]
  have c4 : w.cell? ⟨b, 4, none⟩ = some (.int .i64 e.tol) := by simp [World.cell?, hr, loRow]
  have c5 : w.cell? ⟨b, 5, none⟩ = some (.slice E.pa e.pts.length E.pc) := by simp [World.cell?, hr, loRow]
  have c6 : w.cell? ⟨b, 6, none⟩ = some (.int .i64 e.cnt) := by simp [World.cell?, hr, loRow]
  have c7 : w.cell? ⟨b, 7, none⟩ = some (.int .i64 e.mn) := by simp [World.cell?, hr, loRow]
  have c8 : w.cell? ⟨b, 8, none⟩ = some (.int .i64 e.mx) := by simp [World.cell?, hr, loRow]
  have c9 : w.cell? ⟨b, 9, none⟩ = some (.slice E.ga e.gaps.length E.gc) := by simp [World.cell?, hr, loRow]
  have c10 : w.cell? ⟨b, 10, none⟩ = some (.slice E.ea e.edges.length E.ec) := by simp [World.cell?, hr, loRow]
  have c11 : w.cell? ⟨b, 11, none⟩ = some (.slice E.fa e.first.length E.fc) := by simp [World.cell?, hr, loRow]
  have c12 : w.cell? ⟨b, 12, none⟩ = some (.slice E.la e.last.length E.lc) := by simp [World.cell?, hr, loRow]
  clear h hr
  go_enter Tryz.func47, Tryz.ntmps47
  go_wp2_with (refine wpList_store_row rfl 147 _ _ rfl b (loRow (.pointer none) (.pointer none) (.pointer none) e E false false 0 false) rfl rfl 147 (loRow (.pointer (some ⟨ba, 0, none⟩)) (.pointer (some ⟨bg, 0, none⟩)) (.pointer (some ⟨bf, 0, none⟩)) e E true n.whole (n.run : Int) n.ex) HR.out Tryz.sizeLocal rfl (by simp [Value.oneCell', loRow]) ?_)
  go_ret
  have hg : w.grownBy (w.setRow b (loRow (.pointer none) (.pointer none) (.pointer none) e E false false 0 false)) (some b) := grown_setRow _ _ _
  have hf : FrL F w (w.setRow b (loRow (.pointer none) (.pointer none) (.pointer none) e E false false 0 false)) := FrL.put hg HR.out (Or.inl rfl) H.out.fb
  exact ⟨rfl, ⟨H.out.parts.fr hf, H.out.fb, heap_setRow _ HR.out⟩, hf⟩
set_option maxHeartbeats 1000000 in
theorem lo_report_idle (x : Value) (p t : Int) (h : LoAt F w b e E none) (hx : w.cell? ⟨4, 0, none⟩ = some x) :
    Calls Tryz.prog 48 #[.pointer (some ⟨b, 0, none⟩), .int .i64 p, .int .i64 t] w fun v w' => v = .returned x ∧ w' = w := by
  have hr : w.heap[b]? = some (.cells (loRow (.pointer none) (.pointer none) (.pointer none) e E false false 0 false) 147 (0, 0)) := h.row
  have c13 : w.cell? ⟨b, 13, none⟩ = some (.bool false) := by simp [World.cell?, hr, loRow]
  clear h hr
  go_enter Tryz.func48, Tryz.ntmps48
  go_wp2
  go_ret
  exact ⟨rfl, rfl⟩
set_option maxHeartbeats 1000000 in
theorem lo_report_none (x : Value) (p t : Int) (h : LoAt F w b e E (some n)) (hp : hasP e p = false) (hx : w.cell? ⟨5, 0, none⟩ = some x) :
    Calls Tryz.prog 48 #[.pointer (some ⟨b, 0, none⟩), .int .i64 p, .int .i64 t] w fun v w' => v = .returned x ∧ w' = w := by
  obtain ⟨ba, bg, bf, hr, -⟩ := h.row
  have c13 : w.cell? ⟨b, 13, none⟩ = some (.bool true) := by simp [World.cell?, hr, loRow]
  have c5 : w.cell? ⟨b, 5, none⟩ = some (.slice E.pa e.pts.length E.pc) := by simp [World.cell?, hr, loRow]
  clear h hr
  by_cases g0 : p < 0
  · clear hp
    go_enter Tryz.func48, Tryz.ntmps48
    go_wp2
    go_ret
    exact ⟨rfl, rfl⟩
  · have g1 : (e.pts.length : Int) ≤ p := by unfold hasP at hp; simp at hp; omega
    clear hp
    go_enter Tryz.func48, Tryz.ntmps48
    go_wp2
    go_ret
    exact ⟨rfl, rfl⟩
set_option maxHeartbeats 2000000 in
set_option maxRecDepth 100000 in
theorem lo_report (p t : Int) (h : LoAt F w b e E (some n)) (hp : hasP e p = true) (hS : SmallE e) :
    Calls Tryz.prog 48 #[.pointer (some ⟨b, 0, none⟩), .int .i64 p, .int .i64 t] w fun v w' => v = .returned .nilIface ∧ LoAt F w' b e E (some (n.rep e p t)) ∧ FrL F w w' := by
  have H : Hid (LoAt F w b e E (some n)) := h
  have HS : Hid (SmallE e) := hS
  have HP : Hid (hasP e p = true) := hp
  obtain ⟨ba, bg, bf, hr, hw⟩ := h.row
  have HR : Hid (w.heap[b]? = some (.cells (loRow (.pointer (some ⟨ba, 0, none⟩)) (.pointer (some ⟨bg, 0, none⟩)) (.pointer (some ⟨bf, 0, none⟩)) e E true n.whole (n.run : Int) n.ex) 147 (0, 0))) := hr
  have HWt : Hid (WatAt F w ba bg bf e n.w) := hw
  have c13 : w.cell? ⟨b, 13, none⟩ = some (.bool true) := by simp [World.cell?, hr, loRow]
  have c5 : w.cell? ⟨b, 5, none⟩ = some (.slice E.pa e.pts.length E.pc) := by simp [World.cell?, hr, loRow]
  have g0 : ¬ p < 0 := by unfold hasP at hp; simp at hp; omega
  have g1 : ¬ (e.pts.length : Int) ≤ p := by unfold hasP at hp; simp at hp; omega
  clear h hr hw hp hS
  go_enter Tryz.func48, Tryz.ntmps48
  go_wp2_with fail
  refine (watch_report p t _ HWt.out HR.out rfl rfl rfl HS.out).mono ?_
  rintro v W ⟨rfl, hto⟩
  have HT : Hid (WatTo F w W b ba bg bf e (n.w.rep e p t) (loRow (.pointer (some ⟨ba, 0, none⟩)) (.pointer (some ⟨bg, 0, none⟩)) (.pointer (some ⟨bf, 0, none⟩)) e E true n.whole (n.run : Int) n.ex)) := hto
  clear hto
  go_wp2
  go_ret
  refine ⟨rfl, ⟨H.out.parts.fr HT.out.fr, H.out.fb, ?_⟩, HT.out.fr⟩
  unfold NSt.rep
  rw [if_pos HP.out]
  exact ⟨ba, bg, bf, HT.out.row, HT.out.wat⟩
/-- The words of the statuses. -/
def stWord : Nat → ByteArray
  | 0 => ⟨#[105, 100, 108, 101]⟩
  | 1 => ⟨#[111, 107]⟩
  | 2 => ⟨#[102, 97, 105, 108, 101, 100]⟩
  | _ => ⟨#[101, 120, 112, 105, 114, 101, 100]⟩
set_option maxHeartbeats 1000000 in
theorem lo_status_idle (h : LoAt F w b e E none) :
    Calls Tryz.prog 86 #[.pointer (some ⟨b, 0, none⟩)] w fun v w' => v = .returned (.string (stWord 0)) ∧ w' = w := by
  have hr : w.heap[b]? = some (.cells (loRow (.pointer none) (.pointer none) (.pointer none) e E false false 0 false) 147 (0, 0)) := h.row
  have c13 : w.cell? ⟨b, 13, none⟩ = some (.bool false) := by simp [World.cell?, hr, loRow]
  clear h hr
  go_enter Tryz.func86, Tryz.ntmps86
  go_wp2
  go_ret
  exact ⟨rfl, rfl⟩
set_option maxHeartbeats 1000000 in
theorem lo_status (h : LoAt F w b e E (some n)) :
    Calls Tryz.prog 86 #[.pointer (some ⟨b, 0, none⟩)] w fun v w' => v = .returned (.string (stWord n.status)) ∧ w' = w := by
  obtain ⟨ba, bg, bf, hr, -⟩ := h.row
  have c13 : w.cell? ⟨b, 13, none⟩ = some (.bool true) := by simp [World.cell?, hr, loRow]
  have c15 : w.cell? ⟨b, 15, none⟩ = some (.int .i64 (n.run : Int)) := by simp [World.cell?, hr, loRow]
  have c16 : w.cell? ⟨b, 16, none⟩ = some (.bool n.ex) := by simp [World.cell?, hr, loRow]
  clear h hr
  obtain ⟨nw, nwh, run, ex⟩ := n
  cases ex with
  | true =>
    go_enter Tryz.func86, Tryz.ntmps86
    go_wp2
    go_ret
    exact ⟨rfl, rfl⟩
  | false =>
    by_cases h0 : run = 0
    · subst h0
      go_enter Tryz.func86, Tryz.ntmps86
      go_wp2
      go_ret
      exact ⟨rfl, rfl⟩
    · have HR : Hid (NSt.status ⟨nw, nwh, run, false⟩ = 2) := by show _ = _; simp [NSt.status, h0]
      have h1 : ¬ ((run : Nat) : Int) = 0 := by omega
      go_enter Tryz.func86, Tryz.ntmps86
      go_wp2
      go_ret
      exact ⟨by rw [HR.out]; rfl, rfl⟩
end
end Go.Proofs.YtkphpgdgbnmnjacGreatDoor
