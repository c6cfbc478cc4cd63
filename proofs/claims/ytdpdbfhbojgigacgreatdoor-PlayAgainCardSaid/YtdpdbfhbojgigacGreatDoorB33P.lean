/-
  Several texts as one: CfOwnC, DcBase.
-/
import Derived.Test.YtdpdbfhbojgigacGreatDoorB10P
import Derived.Test.YtdpdbfhbojgigacGreatDoorB19P
import Derived.Test.YtdpdbfhbojgigacGreatDoorB01P
import Derived.Test.YtdpdbfhbojgigacGreatDoorB11P
import Derived.BigQuiet
import Derived.Deep.QuietTactic
import Derived.Deep.DeepCutAuto
import Derived.WalkSmall
import Derived.Deep.RegionHeld3
namespace Go.Proofs.YtdpdbfhbojgigacGreatDoor
open Go.RowKit Go.Extern.Stop Go.Stop Go.Extern

theorem OwnParts.keep {B : Nat} {w w' : World} {e : EntD} {pv gv ev fv lv v : Value} {n : Nat} {cells : List Value} (h : OwnParts B w e pv gv ev fv lv) (hv : w.ownsRow B 38 10 v n cells) (hg : w.grownBy w' v.ownBlock) : OwnParts B w' e pv gv ev fv lv := by
  rcases hv.2 with ⟨rfl, _⟩ | ⟨g, cap, cur, rfl, _, hg', _⟩
  · have hb : Below w.heap.size w w' := (Below.refl _ _).grown hg (Nat.le_refl _) (fun k hk => by simp [Value.ownBlock] at hk)
    exact h.below hb
  · exact h.other hg hg'
/-- Entities in a row of their own, their lists in rows of their own. -/
def EntsOwn (B : Nat) (w : World) (v : Value) (es : List EntD) : Prop :=
  ∃ cells, w.ownsRow B 38 10 v es.length cells ∧ ∀ i e, es[i]? = some e → ∃ pv gv ev fv lv, OwnParts B w e pv gv ev fv lv ∧ ∀ j u, (entRow e pv gv ev fv lv)[j]? = some u → cells[i * 10 + j]? = some u
theorem EntsOwn.ents {B : Nat} {w : World} {v : Value} {es : List EntD} (h : EntsOwn B w v es) : EntsAt w v es := by
  obtain ⟨cells, ho, hp⟩ := h
  rcases id ho.2 with ⟨rfl, h0⟩ | ⟨g, cap, cur, rfl, hB, r⟩
  · have : es = [] := List.eq_nil_of_length_eq_zero h0
    subst this
    exact ⟨none, 0, rfl, fun e => absurd rfl e⟩
  · refine ⟨_, cap, rfl, fun _ => ⟨g, 0, rfl, fun i e he => ?_⟩⟩
    obtain ⟨pv, gv, ev, fv, lv, h1, h2⟩ := hp i e he
    refine ⟨pv, gv, ev, fv, lv, h1.parts, fun j u hu => ?_⟩
    have := ho.cells (g := g) rfl (i * 10 + j) u (h2 j u hu)
    rw [addC_plain] at this
    rw [Nat.add_assoc]
    exact this
theorem EntsOwn.nil (B : Nat) (w : World) : EntsOwn B w (.slice none 0 0) [] := ⟨[], World.ownsRow_nil _ _ _ _, fun i e h => by simp at h⟩
theorem EntsOwn.below {B : Nat} {w w' : World} {v : Value} {es : List EntD} (h : EntsOwn B w v es) (hb : Below w.heap.size w w') : EntsOwn B w' v es := by
  obtain ⟨cells, ho, hp⟩ := h
  refine ⟨cells, ho.kept (row := none) ⟨hb.os, hb.tape, hb.output, hb.size, fun k hk _ => hb.block k hk⟩ (by by_cases e : v.ownBlock = none; exact Or.inl e; exact Or.inr e), fun i e he => ?_⟩
  obtain ⟨pv, gv, ev, fv, lv, h1, h2⟩ := hp i e he
  exact ⟨pv, gv, ev, fv, lv, h1.below hb, h2⟩
/-- While a config's block is written. -/
theorem EntsOwn.other {B b : Nat} {w w' : World} {v : Value} {es : List EntD} (h : EntsOwn B w v es) (hg : w.grownBy w' (some b)) {c : Array Value} {fr : Nat × Nat} (hb : w.heap[b]? = some (.cells c 24 fr)) : EntsOwn B w' v es := by
  obtain ⟨cells, ho, hp⟩ := h
  have hne : v.ownBlock ≠ some b := by
    rcases ho.2 with ⟨rfl, _⟩ | ⟨g, cap, cur, rfl, _, hg', _⟩
    · simp [Value.ownBlock]
    · intro e
      simp only [Value.ownBlock, Option.some.injEq] at e
      subst e
      rw [hg'] at hb
      simp only [Option.some.injEq, Obj.cells.injEq] at hb
      exact absurd hb.2.1 (by decide)
  refine ⟨cells, ho.kept hg (Or.inr hne), fun i e he => ?_⟩
  obtain ⟨pv, gv, ev, fv, lv, h1, h2⟩ := hp i e he
  exact ⟨pv, gv, ev, fv, lv, ⟨h1.hp.other hg hb (by decide), h1.hg.other hg hb (by decide), h1.he.other hg hb (by decide), h1.hf.other hg hb (by decide), h1.hl.other hg hb (by decide)⟩, h2⟩
theorem EntsOwn.append {B : Nat} {w w' : World} {v v' : Value} {es : List EntD} {e : EntD} {pv gv ev fv lv : Value} {cells : List Value} (ho : w.ownsRow B 38 10 v es.length cells) (hp : ∀ i e, es[i]? = some e → ∃ pv gv ev fv lv, OwnParts B w e pv gv ev fv lv ∧ ∀ j u, (entRow e pv gv ev fv lv)[j]? = some u → cells[i * 10 + j]? = some u)
    (hg : w.grownBy w' v.ownBlock) (ho' : w'.ownsRow B 38 10 v' (es.length + 1) (cells ++ (entRow e pv gv ev fv lv).toList)) (hP : OwnParts B w e pv gv ev fv lv) : EntsOwn B w' v' (es ++ [e]) := by
  refine ⟨_, by rw [List.length_append]; exact ho', fun i x hx => ?_⟩
  have hl : cells.length = es.length * 10 := ho.1
  by_cases hi : i < es.length
  · rw [List.getElem?_append_left hi] at hx
    obtain ⟨a1, a2, a3, a4, a5, h1, h2⟩ := hp i x hx
    refine ⟨a1, a2, a3, a4, a5, h1.keep ho hg, fun j u hu => ?_⟩
    have hj : j < 10 := by have := (Array.getElem?_eq_some_iff.1 hu).1; exact this
    rw [List.getElem?_append_left (by omega)]
    exact h2 j u hu
  · rw [List.getElem?_append_right (by omega)] at hx
    have hi0 : i - es.length = 0 := by
      rcases Nat.eq_zero_or_pos (i - es.length) with h | h
      · exact h
      · rw [List.getElem?_eq_none (by simp; omega)] at hx; cases hx
    rw [hi0] at hx
    simp at hx
    subst hx
    refine ⟨pv, gv, ev, fv, lv, hP.keep ho hg, fun j u hu => ?_⟩
    have hi1 : i = es.length := by omega
    rw [List.getElem?_append_right (by rw [hl, hi1]; omega), hl, hi1, Nat.add_sub_cancel_left, Array.getElem?_toList]
    exact hu
theorem Tryz.infoEnt : (Tryz.prog.info? 38).map (fun i => (i.zero, i.size, i.bytes)) = some (some (.agg #[.string ⟨#[]⟩, .int .i64 0, .slice none 0 0, .int .i64 0, .int .i64 0, .int .i64 0, .slice none 0 0, .slice none 0 0, .slice none 0 0, .slice none 0 0]), 10, 168) := by kernel_rfl
theorem Tryz.sizeCfg : (Tryz.prog.info? 24).map (·.size) = some 5 := by kernel_rfl
set_option maxHeartbeats 8000000 in
set_option maxRecDepth 100000 in
theorem ownConfig_at (c : CfgD) (sa : Option Addr) (sc : Nat) (w : World) (hE : EntsAt w (.slice sa c.ents.length sc) c.ents) (hS : SmallC c) :
    Calls Tryz.prog 37 #[.agg #[.int .i64 c.closed, .int .i64 c.opn, .int .i64 c.cycle, .int .i64 c.delay, .slice sa c.ents.length sc]] w fun v w' => (∃ sa' sc', v = .returned (.agg #[.int .i64 c.closed, .int .i64 c.opn, .int .i64 c.cycle, .int .i64 c.delay, .slice sa' c.ents.length sc']) ∧ EntsOwn w.heap.size w' (.slice sa' c.ents.length sc') c.ents) ∧ Below w.heap.size w w' := by
  obtain ⟨inf, hi, hz0, hz1, hz2⟩ := info_parts Tryz.infoEnt
  have HE : Hid (EntsAt w (.slice sa c.ents.length sc) c.ents) := hE
  have HS : Hid (SmallC c) := hS
  clear hE hS
  go_enter Tryz.func37, Tryz.ntmps37
  go_upto_region 3 with fail
  obtain ⟨V0, hV0⟩ : ∃ V, V = ((w.alloc (.cells #[.int .i64 c.closed, .int .i64 c.opn, .int .i64 c.cycle, .int .i64 c.delay, .slice sa c.ents.length sc] 24)).alloc (.cells #[.int .i64 0, .int .i64 0, .int .i64 0, .int .i64 0, .slice none 0 0] 24)).alloc (.cells #[.int .i64 c.closed, .int .i64 c.opn, .int .i64 c.cycle, .int .i64 c.delay, .slice none 0 0] 24) := ⟨_, rfl⟩
  rw [← hV0]
  have HBl0 : Hid (Below w.heap.size w V0) := by show Below _ _ _; rw [hV0]; exact ((Below.refl _ _).alloc (Nat.le_refl _) _ |>.alloc (by simp) _).alloc (by simp; omega) _
  have HX0 : Hid (V0.heap[w.heap.size]? = some (.cells #[.int .i64 c.closed, .int .i64 c.opn, .int .i64 c.cycle, .int .i64 c.delay, .slice sa c.ents.length sc] 24 (0, 0))) := by
    show _ = _
    rw [hV0]
    exact row_below (((Below.refl _ _).alloc (Nat.le_refl _) _).alloc (by simp) _) (heap_alloc_new w _)
  have HR0 : Hid (V0.heap[w.heap.size + 1]? = some (.cells #[.int .i64 0, .int .i64 0, .int .i64 0, .int .i64 0, .slice none 0 0] 24 (0, 0))) := by
    show _ = _
    rw [hV0]
    exact row_below ((Below.refl _ _).alloc (Nat.le_refl _) _) (by have := heap_alloc_new (w.alloc (.cells #[.int .i64 c.closed, .int .i64 c.opn, .int .i64 c.cycle, .int .i64 c.delay, .slice sa c.ents.length sc] 24)) (.cells #[.int .i64 0, .int .i64 0, .int .i64 0, .int .i64 0, .slice none 0 0] 24); simpa using this)
  have HO0 : Hid (V0.heap[w.heap.size + 2]? = some (.cells #[.int .i64 c.closed, .int .i64 c.opn, .int .i64 c.cycle, .int .i64 c.delay, .slice none 0 0] 24 (0, 0))) := by
    show _ = _
    rw [hV0]
    have := heap_alloc_new ((w.alloc (.cells #[.int .i64 c.closed, .int .i64 c.opn, .int .i64 c.cycle, .int .i64 c.delay, .slice sa c.ents.length sc] 24)).alloc (.cells #[.int .i64 0, .int .i64 0, .int .i64 0, .int .i64 0, .slice none 0 0] 24)) (.cells #[.int .i64 c.closed, .int .i64 c.opn, .int .i64 c.cycle, .int .i64 c.delay, .slice none 0 0] 24)
    simpa using this
  clear hV0
  go_wp2_with fail
  go_loopw [4, 5] (fun i _ wr => ∃ (k : Nat) (sa' : Option Addr) (sc' : Nat), k ≤ c.ents.length ∧ i = .int .i64 k ∧ EntsOwn w.heap.size wr (.slice sa' k sc') (c.ents.take k) ∧ wr.heap[w.heap.size]? = some (.cells #[.int .i64 c.closed, .int .i64 c.opn, .int .i64 c.cycle, .int .i64 c.delay, .slice sa c.ents.length sc] 24 (0, 0)) ∧ wr.heap[w.heap.size + 1]? = some (.cells #[.int .i64 0, .int .i64 0, .int .i64 0, .int .i64 0, .slice none 0 0] 24 (0, 0)) ∧ wr.heap[w.heap.size + 2]? = some (.cells #[.int .i64 c.closed, .int .i64 c.opn, .int .i64 c.cycle, .int .i64 c.delay, .slice sa' k sc'] 24 (0, 0)) ∧ Below w.heap.size w wr) (fun i _ _ => c.ents.length - (intOf i).toNat)
  case atStart => exact ⟨0, none, 0, Nat.zero_le _, rfl, by simpa using EntsOwn.nil _ _, HX0.out, HR0.out, HO0.out, HBl0.out⟩
  case round =>
    clear HX0 HR0 HO0 HBl0
    obtain ⟨k, sa', sc', hk, rfl, hown, hx, hr, ho, hbl⟩ := hrel
    have s4 : wr.cell? ⟨w.heap.size, 4, none⟩ = some (.slice sa c.ents.length sc) := by simp [World.cell?, hx]
    by_cases hlt : k < c.ents.length
    · obtain ⟨e, hq⟩ : ∃ e, c.ents[k]? = some e := ⟨_, List.getElem?_eq_getElem hlt⟩
      obtain ⟨sa2, cap2, hsl, hcc⟩ := HE.out
      cases hsl
      obtain ⟨b, o, rfl, hc0⟩ := hcc (fun h => by rw [h] at hq; simp at hq)
      obtain ⟨pv, gv, ev, fv, lv, hparts, hcell⟩ := hc0 k e hq
      obtain ⟨pa, pc, rfl, -, -⟩ := id hparts.hp
      obtain ⟨ga, gc, rfl, -, -⟩ := id hparts.hg
      obtain ⟨ea, ec, rfl, -, -⟩ := id hparts.he
      obtain ⟨fa, fc, rfl, -, -⟩ := id hparts.hf
      obtain ⟨la, lc, rfl, -, -⟩ := id hparts.hl
      have c0 : wr.cell? ⟨b, o + k * 10, none⟩ = some (.string e.name) := cell_below hbl (hcell 0 _ rfl)
      have c1 : wr.cell? ⟨b, o + k * 10 + 1, none⟩ = some (.int .i64 e.tol) := cell_below hbl (hcell 1 _ rfl)
      have c2 : wr.cell? ⟨b, o + k * 10 + 2, none⟩ = some (.slice pa e.pts.length pc) := cell_below hbl (hcell 2 _ rfl)
      have c3 : wr.cell? ⟨b, o + k * 10 + 3, none⟩ = some (.int .i64 e.cnt) := cell_below hbl (hcell 3 _ rfl)
      have c4 : wr.cell? ⟨b, o + k * 10 + 4, none⟩ = some (.int .i64 e.mn) := cell_below hbl (hcell 4 _ rfl)
      have c5 : wr.cell? ⟨b, o + k * 10 + 5, none⟩ = some (.int .i64 e.mx) := cell_below hbl (hcell 5 _ rfl)
      have c6 : wr.cell? ⟨b, o + k * 10 + 6, none⟩ = some (.slice ga e.gaps.length gc) := cell_below hbl (hcell 6 _ rfl)
      have c7 : wr.cell? ⟨b, o + k * 10 + 7, none⟩ = some (.slice ea e.edges.length ec) := cell_below hbl (hcell 7 _ rfl)
      have c8 : wr.cell? ⟨b, o + k * 10 + 8, none⟩ = some (.slice fa e.first.length fc) := cell_below hbl (hcell 8 _ rfl)
      have c9 : wr.cell? ⟨b, o + k * 10 + 9, none⟩ = some (.slice la e.last.length lc) := cell_below hbl (hcell 9 _ rfl)
      have HQ : Hid (c.ents[k]? = some e) := hq
      have HC : Hid _ := ownEntity_at w.heap.size e pa ga ea fa la pc gc ec fc lc wr (hparts.below hbl) (HS.out.he e (List.mem_of_getElem? hq)) hbl.size
      have HOwn : Hid (EntsOwn w.heap.size wr (.slice sa' k sc') (c.ents.take k)) := hown
      have HX : Hid (wr.heap[w.heap.size]? = some (.cells #[.int .i64 c.closed, .int .i64 c.opn, .int .i64 c.cycle, .int .i64 c.delay, .slice (some ⟨b, o, none⟩) c.ents.length sc] 24 (0, 0))) := hx
      have HR : Hid (wr.heap[w.heap.size + 1]? = some (.cells #[.int .i64 0, .int .i64 0, .int .i64 0, .int .i64 0, .slice none 0 0] 24 (0, 0))) := hr
      have HO : Hid (wr.heap[w.heap.size + 2]? = some (.cells #[.int .i64 c.closed, .int .i64 c.opn, .int .i64 c.cycle, .int .i64 c.delay, .slice sa' k sc'] 24 (0, 0))) := ho
      have HBl : Hid (Below w.heap.size w wr) := hbl
      have k1 : (k : Int) < (c.ents.length : Int) := by omega
      have k0 : k < 1000000 := by have := HS.out.hn; omega
      have HK : Hid ((c.ents.take k).length = k) := by show _ = _; simp; omega
      clear hq hcell hparts hcc hc0 hown hx hr ho hbl
      go_wp2_with fail
      refine Calls.mono HC.out ?_
      rintro v W1 ⟨⟨pa', pc', ga', gc', ea', ec', fa', fc', la', lc', rfl, hOP⟩, hb1⟩
      obtain ⟨W1b, hW1b⟩ : ∃ V, V = (W1.alloc (.cells #[.string e.name, .int .i64 e.tol, .slice pa' e.pts.length pc', .int .i64 e.cnt, .int .i64 e.mn, .int .i64 e.mx, .slice ga' e.gaps.length gc', .slice ea' e.edges.length ec', .slice fa' e.first.length fc', .slice la' e.last.length lc'] 38)).alloc (.cells #[.string e.name, .int .i64 e.tol, .slice pa' e.pts.length pc', .int .i64 e.cnt, .int .i64 e.mn, .int .i64 e.mx, .slice ga' e.gaps.length gc', .slice ea' e.edges.length ec', .slice fa' e.first.length fc', .slice la' e.last.length lc'] 38) := ⟨_, rfl⟩
      have hbb : Below wr.heap.size wr W1b := by rw [hW1b]; exact (hb1.alloc hb1.size _).alloc (by have := hb1.size; simp; omega) _
      have HOb : Hid (W1b.heap[w.heap.size + 2]? = some (.cells #[.int .i64 c.closed, .int .i64 c.opn, .int .i64 c.cycle, .int .i64 c.delay, .slice sa' k sc'] 24 (0, 0))) := row_below hbb HO.out
      have o4 : ∀ o1, (W1.alloc o1).cell? ⟨w.heap.size + 2, 4, none⟩ = some (.slice sa' k sc') := fun o1 => by
        have := row_below (hb1.alloc hb1.size o1) HO.out
        simp [World.cell?, this]
      obtain ⟨cells, hrow, hpp⟩ := HOwn.out.below hbb
      rw [HK.out] at hrow
      have HRow : Hid (W1b.ownsRow w.heap.size 38 10 (.slice sa' k sc') k cells) := hrow
      have HPP : Hid _ := hpp
      have HOP : Hid (OwnParts w.heap.size W1b e (.slice pa' e.pts.length pc') (.slice ga' e.gaps.length gc') (.slice ea' e.edges.length ec') (.slice fa' e.first.length fc') (.slice la' e.last.length lc')) := by
        have : Below W1.heap.size W1 W1b := by rw [hW1b]; exact ((Below.refl _ _).alloc (Nat.le_refl _) _).alloc (by simp) _
        exact hOP.below this
      have HNew : Hid (∀ (j : Nat) u, ([.string e.name, .int .i64 e.tol, .slice pa' e.pts.length pc', .int .i64 e.cnt, .int .i64 e.mn, .int .i64 e.mx, .slice ga' e.gaps.length gc', .slice ea' e.edges.length ec', .slice fa' e.first.length fc', .slice la' e.last.length lc'] : List Value)[j]? = some u → W1b.cell? ((⟨W1.heap.size + 1, 0, none⟩ : Addr).add j) = some u) := fun j u hu => by
        rw [addC_plain, hW1b, show W1.heap.size + 1 = (W1.alloc (.cells #[.string e.name, .int .i64 e.tol, .slice pa' e.pts.length pc', .int .i64 e.cnt, .int .i64 e.mn, .int .i64 e.mx, .slice ga' e.gaps.length gc', .slice ea' e.edges.length ec', .slice fa' e.first.length fc', .slice la' e.last.length lc'] 38)).heap.size by simp, Nat.zero_add, World.cell?_alloc_at _ _ _ _ rfl]
        have e2 : (#[.string e.name, .int .i64 e.tol, .slice pa' e.pts.length pc', .int .i64 e.cnt, .int .i64 e.mn, .int .i64 e.mx, .slice ga' e.gaps.length gc', .slice ea' e.edges.length ec', .slice fa' e.first.length fc', .slice la' e.last.length lc'] : Array Value)[j]? = ([.string e.name, .int .i64 e.tol, .slice pa' e.pts.length pc', .int .i64 e.cnt, .int .i64 e.mn, .int .i64 e.mx, .slice ga' e.gaps.length gc', .slice ea' e.edges.length ec', .slice fa' e.first.length fc', .slice la' e.last.length lc'] : List Value)[j]? := by rw [← Array.getElem?_toList]
        exact e2.trans hu
      have HSz : Hid (w.heap.size ≤ W1b.heap.size ∧ W1b.heap.size = W1.heap.size + 2) := ⟨Nat.le_trans HBl.out.size hbb.size, by rw [hW1b]; simp⟩
      have HBb : Hid (Below wr.heap.size wr W1b) := hbb
      have HW1b : Hid (W1b = (W1.alloc (.cells #[.string e.name, .int .i64 e.tol, .slice pa' e.pts.length pc', .int .i64 e.cnt, .int .i64 e.mn, .int .i64 e.mx, .slice ga' e.gaps.length gc', .slice ea' e.edges.length ec', .slice fa' e.first.length fc', .slice la' e.last.length lc'] 38)).alloc (.cells #[.string e.name, .int .i64 e.tol, .slice pa' e.pts.length pc', .int .i64 e.cnt, .int .i64 e.mn, .int .i64 e.mx, .slice ga' e.gaps.length gc', .slice ea' e.edges.length ec', .slice fa' e.first.length fc', .slice la' e.last.length lc'] 38)) := hW1b
      have HNe : Hid ((Value.slice sa' k sc').ownBlock ≠ some (w.heap.size + 2)) := by
        show _ ≠ _
        rcases HRow.out.2 with ⟨e1, _⟩ | ⟨g, cap, cur, e1, _, hg', _⟩
        · rw [e1]; simp [Value.ownBlock]
        · rw [e1]
          intro e2
          simp only [Value.ownBlock, Option.some.injEq] at e2
          rw [e2, HOb.out] at hg'
          simp only [Option.some.injEq, Obj.cells.injEq] at hg'
          exact absurd hg'.2.1 (by decide)
      clear hbb hrow hpp hOP hb1 hW1b HC
      go_wp2_with (at_builtin; rw [← HW1b.out]; refine wpList_append_own W1b rfl _ _ 22 rfl w.heap.size 38 inf (.agg #[.string ⟨#[]⟩, .int .i64 0, .slice none 0 0, .int .i64 0, .int .i64 0, .int .i64 0, .slice none 0 0, .slice none 0 0, .slice none 0 0, .slice none 0 0]) 10 168 Tryz.underlying22 hi hz0 hz1 hz2 rfl (by decide) (.slice sa' k sc') k cells rfl HRow.out ⟨W1.heap.size + 1, 0, none⟩ 1 1 [.string e.name, .int .i64 e.tol, .slice pa' e.pts.length pc', .int .i64 e.cnt, .int .i64 e.mn, .int .i64 e.mx, .slice ga' e.gaps.length gc', .slice ea' e.edges.length ec', .slice fa' e.first.length fc', .slice la' e.last.length lc'] rfl rfl HNew.out (by simp [Value.oneCell']) (by unfold maxLen; omega) (by omega) HSz.out.1 ?_; intro v' W2 ho2 hg2 hn2; obtain ⟨sa3, sc3, rfl⟩ : ∃ a3 c3, v' = .slice a3 (k + 1) c3 := (by rcases ho2.2 with ⟨_, h0⟩ | ⟨g, cap, cur, hv, _⟩; (exact absurd h0 (by omega)); exact ⟨_, _, hv⟩); have HO2 : Hid (W2.heap[w.heap.size + 2]? = some (.cells #[.int .i64 c.closed, .int .i64 c.opn, .int .i64 c.cycle, .int .i64 c.delay, .slice sa' k sc'] 24 (0, 0))) := (hg2.block _ (lt_of_row HOb.out) (fun e => HNe.out e.symm)).trans HOb.out; have d4 : W2.cell? ⟨w.heap.size + 2, 4, none⟩ = some (.slice sa' k sc') := (by have := HO2.out; simp [World.cell?, this]); have f4 : W2.frozen? ⟨w.heap.size + 2, 4, none⟩ = false := (by have := HO2.out; simp [World.frozen?, this]))
      have HN : Hid (EntsOwn w.heap.size W2 (.slice sa3 (k + 1) sc3) (c.ents.take k ++ [e])) := EntsOwn.append (by rw [HK.out]; exact HRow.out) HPP.out hg2 (by rw [HK.out]; exact ho2) HOP.out
      have HB2 : Hid (Below w.heap.size w W2) := (HBl.out.trans (HBb.out.mono HBl.out.size)).grown hg2 HSz.out.1 (fun g hg => by
        rcases HRow.out.2 with ⟨e1, _⟩ | ⟨g', cap, cur, e1, hB', _⟩
        · rw [e1] at hg; simp [Value.ownBlock] at hg
        · rw [e1] at hg; simp [Value.ownBlock] at hg; omega)
      have keep : ∀ j, j < 2 → W2.heap[w.heap.size + j]? = wr.heap[w.heap.size + j]? := fun j hj => by
        have hlt2 : w.heap.size + j < wr.heap.size := by have := lt_of_row HO.out; omega
        have h1 := HBb.out.block (w.heap.size + j) hlt2
        rw [← h1]
        refine hg2.block _ (by have := HBb.out.size; omega) (fun e2 => ?_)
        rcases HRow.out.2 with ⟨e1, _⟩ | ⟨g', cap, cur, e1, _, hg', _⟩
        · rw [e1] at e2; simp [Value.ownBlock] at e2
        · rw [e1] at e2
          simp only [Value.ownBlock, Option.some.injEq] at e2
          rw [← e2, h1] at hg'
          have : j = 0 ∨ j = 1 := by omega
          rcases this with rfl | rfl
          · rw [Nat.add_zero, HX.out] at hg'
            simp only [Option.some.injEq, Obj.cells.injEq] at hg'
            exact absurd hg'.2.1 (by decide)
          · rw [HR.out] at hg'
            simp only [Option.some.injEq, Obj.cells.injEq] at hg'
            exact absurd hg'.2.1 (by decide)
      have HX2 : Hid (W2.heap[w.heap.size]? = some (.cells #[.int .i64 c.closed, .int .i64 c.opn, .int .i64 c.cycle, .int .i64 c.delay, .slice (some ⟨b, o, none⟩) c.ents.length sc] 24 (0, 0))) := by have := keep 0 (by omega); rw [Nat.add_zero] at this; exact this.trans HX.out
      have HR2 : Hid (W2.heap[w.heap.size + 1]? = some (.cells #[.int .i64 0, .int .i64 0, .int .i64 0, .int .i64 0, .slice none 0 0] 24 (0, 0))) := (keep 1 (by omega)).trans HR.out
      have hgs := grown_setCell W2 (w.heap.size + 2) 4 (.slice sa3 (k + 1) sc3)
      have HFin : Hid (EntsOwn w.heap.size (W2.setCell ⟨w.heap.size + 2, 4, none⟩ (.slice sa3 (k + 1) sc3)) (.slice sa3 (k + 1) sc3) (c.ents.take (k + 1)) ∧ (W2.setCell ⟨w.heap.size + 2, 4, none⟩ (.slice sa3 (k + 1) sc3)).heap[w.heap.size]? = some (.cells #[.int .i64 c.closed, .int .i64 c.opn, .int .i64 c.cycle, .int .i64 c.delay, .slice (some ⟨b, o, none⟩) c.ents.length sc] 24 (0, 0)) ∧ (W2.setCell ⟨w.heap.size + 2, 4, none⟩ (.slice sa3 (k + 1) sc3)).heap[w.heap.size + 1]? = some (.cells #[.int .i64 0, .int .i64 0, .int .i64 0, .int .i64 0, .slice none 0 0] 24 (0, 0)) ∧ (W2.setCell ⟨w.heap.size + 2, 4, none⟩ (.slice sa3 (k + 1) sc3)).heap[w.heap.size + 2]? = some (.cells #[.int .i64 c.closed, .int .i64 c.opn, .int .i64 c.cycle, .int .i64 c.delay, .slice sa3 (k + 1) sc3] 24 (0, 0)) ∧ Below w.heap.size w (W2.setCell ⟨w.heap.size + 2, 4, none⟩ (.slice sa3 (k + 1) sc3))) := by
        refine ⟨?_, (hgs.block _ (lt_of_row HX2.out) (by simp)).trans HX2.out, (hgs.block _ (lt_of_row HR2.out) (by simp)).trans HR2.out, ?_, HB2.out.grown hgs HB2.out.size (fun j hj => by cases hj; omega)⟩
        · rw [List.take_add_one, HQ.out]
          exact HN.out.other hgs HO2.out
        · have := HO2.out
          simp [World.setCell, Array.getElem?_modify, this]
      clear ho2 hg2 hn2 d4 f4 keep hgs
      go_roundw
      case rel => exact ⟨k + 1, sa3, sc3, by omega, by go_num, HFin.out.1, HFin.out.2.1, HFin.out.2.2.1, HFin.out.2.2.2.1, HFin.out.2.2.2.2⟩
      case measure => simp [intOf]; omega
    · have k1 : ¬ (k : Int) < (c.ents.length : Int) := by omega
      obtain rfl : k = c.ents.length := by omega
      rw [List.take_length] at hown
      have HOwn : Hid (EntsOwn w.heap.size wr (.slice sa' c.ents.length sc') c.ents) := hown
      have HR : Hid (wr.heap[w.heap.size + 1]? = some (.cells #[.int .i64 0, .int .i64 0, .int .i64 0, .int .i64 0, .slice none 0 0] 24 (0, 0))) := hr
      have HO : Hid (wr.heap[w.heap.size + 2]? = some (.cells #[.int .i64 c.closed, .int .i64 c.opn, .int .i64 c.cycle, .int .i64 c.delay, .slice sa' c.ents.length sc'] 24 (0, 0))) := ho
      have HBl : Hid (Below w.heap.size w wr) := hbl
      clear hown hx hr ho hbl
      go_wp2_with (first | (refine wpList_load_row rfl 24 _ rfl (w.heap.size + 2) rfl _ _ _ _ HO.out Tryz.underlying24 rfl Tryz.sizeCfg ?_) | (refine wpList_store_row rfl 24 _ _ rfl (w.heap.size + 1) #[.int .i64 c.closed, .int .i64 c.opn, .int .i64 c.cycle, .int .i64 c.delay, .slice sa' c.ents.length sc'] rfl rfl 24 #[.int .i64 0, .int .i64 0, .int .i64 0, .int .i64 0, .slice none 0 0] HR.out Tryz.sizeCfg rfl (by simp [Value.oneCell']) ?_))
      have hgr := grown_setRow wr (w.heap.size + 1) #[.int .i64 c.closed, .int .i64 c.opn, .int .i64 c.cycle, .int .i64 c.delay, .slice sa' c.ents.length sc']
      have hres : (wr.setRow (w.heap.size + 1) #[.int .i64 c.closed, .int .i64 c.opn, .int .i64 c.cycle, .int .i64 c.delay, .slice sa' c.ents.length sc']).heap[w.heap.size + 1]? = some (.cells #[.int .i64 c.closed, .int .i64 c.opn, .int .i64 c.cycle, .int .i64 c.delay, .slice sa' c.ents.length sc'] 24 (0, 0)) := heap_setRow _ HR.out
      refine bodyPost_ret (results_cell_row rfl _ _ (w.heap.size + 1) _ _ _ _ rfl hres Tryz.underlying24 rfl Tryz.sizeCfg) rfl ?_
      exact ⟨⟨sa', sc', rfl, HOwn.out.other hgr HR.out⟩, HBl.out.grown hgr HBl.out.size (fun j hj => by cases hj; omega)⟩
end Go.Proofs.YtdpdbfhbojgigacGreatDoor

namespace Go.Proofs.YtdpdbfhbojgigacGreatDoor
open Go.RowKit Go.Extern.Stop Go.Stop Go.Extern

set_option maxRecDepth 100000 in
theorem twiceI_at (l : List Int) (sa : Option Addr) (cap : Nat) (w : World) (h : SlAt encI 1 w (.slice sa l.length cap) l) (hn : l.length ≤ 1000000) :
    Calls Tryz.prog 87 #[.slice sa l.length cap] w fun e w' => e = .returned (.bool (twice l)) ∧ Below w.heap.size w w' := by
  have HL : Hid (∀ V, Below w.heap.size w V → SlAt encI 1 V (.slice sa l.length cap) l) := fun V hV => h.below hV
  have HC : Hid (l.length ≤ cap) := by obtain ⟨sa', cap', hsl, hle, -⟩ := h; cases hsl; exact hle
  clear h
  go_enter Tryz.func87, Tryz.ntmps87
  go_wp2_with fail
  go_loopw [3] (fun i wr => ∃ k : Nat, k ≤ l.length ∧ i = .int .i64 k ∧ Below w.heap.size w wr ∧ ∀ j x, j < k → l[j]? = some x → ((l.take j).any fun y => decide (x = y)) = false) (fun i _ => l.length - (intOf i).toNat)
  case atStart => exact ⟨0, Nat.zero_le _, rfl, Below.refl _ _, fun j x hj => absurd hj (by omega)⟩
  case round =>
    obtain ⟨k, hk, rfl, hb, hno⟩ := hrel
    have HB : Hid (Below w.heap.size w wr) := hb
    have HN : Hid (∀ j x, j < k → l[j]? = some x → ((l.take j).any fun y => decide (x = y)) = false) := hno
    clear hno hb
    by_cases hlt : k < l.length
    · have k1 : (k : Int) < (l.length : Int) := by omega
      have k3 : (k : Int) ≤ (cap : Int) := by have := HC.out; omega
      have k4 : (0 : Int) ≤ (k : Int) := by omega
      have k5 : ¬ (k : Int) < 0 := by omega
      obtain ⟨x, hx⟩ : ∃ x, l[k]? = some x := ⟨_, List.getElem?_eq_getElem hlt⟩
      have HX : Hid (l[k]? = some x) := hx
      obtain ⟨g, o, rfl, hc⟩ := slatI_cell (HL.out wr HB.out) hx
      have c0 := hc k x hx
      have HS : Hid (∀ q, Calls Tryz.prog 118 #[.slice (some ⟨g, o, none⟩) k cap, .int .i64 x] (wr.drewN q) fun e w' => e = .returned (.bool ((l.take k).any fun y => decide (x = y))) ∧ w' = wr.drewN q) := fun q => by
        have hl : (l.take k).length = k := by simp; omega
        have := has_at (l.take k) x (some ⟨g, o, none⟩) cap (wr.drewN q) ⟨_, cap, rfl, by have := HC.out; omega, fun _ => ⟨g, o, rfl, fun i y hy j u hu => by
          match j, hu with
          | 0, hu =>
            simp [encI] at hu
            subst hu
            have hy2 : l[i]? = some y := by
              rw [List.getElem?_take] at hy
              split at hy
              · exact hy
              · cases hy
            have := hc i y hy2
            simpa using this
          | j + 1, hu => simp [encI] at hu⟩⟩ (by omega)
        rw [hl] at this
        exact this
      clear hc hx
      cases hb : (l.take k).any fun y => decide (x = y)
      · rw [hb] at HS
        go_wp2_with fail
        go_region_held3 (fun w' => w'.cell? ⟨g, o + k, none⟩ = some (.int .i64 x)) (first | exact c0) (first | (go_at_call 118; refine Calls.mono (HS.out _) ?_; rintro e w2 ⟨rfl, rfl⟩))
        all_goals
          go_wp2_with fail
          go_roundw
          case rel =>
            refine ⟨k + 1, by omega, by go_num, below_drewN HB.out _, fun j y hj hy => ?_⟩
            rcases Nat.lt_or_ge j k with h1 | h1
            · exact HN.out j y h1 hy
            · obtain rfl : j = k := by omega
              rw [HX.out] at hy
              cases hy
              exact hb
          case measure => simp [intOf]; omega
      · rw [hb] at HS
        have HE : Hid (twice l = true) := by
          show _ = _
          unfold twice
          rw [List.any_eq_true]
          exact ⟨k, by simpa using hlt, by rw [HX.out]; exact hb⟩
        go_wp2_with fail
        go_region_held3 (fun w' => w'.cell? ⟨g, o + k, none⟩ = some (.int .i64 x)) (first | exact c0) (first | (go_at_call 118; refine Calls.mono (HS.out _) ?_; rintro e w2 ⟨rfl, rfl⟩))
        all_goals
          go_wp2
          go_ret
          exact ⟨by rw [HE.out]; rfl, below_drewN HB.out _⟩
    · have k1 : ¬ (k : Int) < (l.length : Int) := by omega
      have HE : Hid (twice l = false) := by
        show _ = _
        unfold twice
        rw [List.any_eq_false]
        intro i hi
        simp only [List.mem_range] at hi
        rw [List.getElem?_eq_getElem hi]
        show ¬ ((l.take i).any fun y => decide (l[i] = y)) = true
        rw [HN.out i _ (by omega) (List.getElem?_eq_getElem hi)]
        simp
      go_wp2
      go_ret
      exact ⟨by rw [HE.out]; rfl, HB.out⟩
end Go.Proofs.YtdpdbfhbojgigacGreatDoor
