/-
  Several texts as one: CfRPoint, CfRPoint2. What each holds: CfRPoint: (*conf.reader).takePoint by a contract. Conditions: the reader, the words and the sentinels lie in memory. | CfRPoint2: (*conf.reader).takePart by a contract: point. Conditions: the reader, the words and the sentinels lie in memory.
-/
import Derived.Test.YtbholbenjalliaaGreatDoorCfRPartX
namespace Go.Proofs.YtbholbenjalliaaGreatDoor
open Go.RowKit Go.Extern.Stop Go.Stop Go.Extern Go.Maps

theorem cell_str (w : World) (q : ByteArray) (T : TypeId) : ∀ (j : Nat) u, ([.string q] : List Value)[j]? = some u → (w.alloc (.cells #[.string q] T)).cell? ((⟨w.heap.size, 0, none⟩ : Addr).add j) = some u := by
  intro j u hu
  match j, hu with
  | 0, hu =>
    simp at hu
    subst hu
    rw [addC_plain, World.cell?_alloc_at _ _ _ _ rfl]
    rfl
  | j + 1, hu => simp at hu
set_option maxHeartbeats 8000000 in
set_option maxRecDepth 100000 in
theorem takePoint_at (A : Nat → Addr) (w0 w : World) (rb L g cap mb : Nat) (c : CfgD) (last : Int) (es : List EntD) (e : EntD) (x : PV5) (cells : List Value) (sa : Option Addr) (ws : List ByteArray) (wb wo wc : Nat) (hs : Sen6 A w0) (hb0 : Below w0.heap.size w0 w) (h : RdE w0.heap.size rb L g cap mb w c last es e x cells) (hLw : L ≤ w.heap.size) (hW : WordsAt w sa ws wb wo) (hn : e.pts.length ≤ 1000000) :
    Calls Tryz.prog 141 #[.pointer (some ⟨rb, 0, none⟩), .pointer (some ⟨g, es.length * 10, none⟩), .slice sa ws.length wc] w fun v w' => v = .returned (errV A (fillV (lookL e.pts) false [0] (ws.map bl)).1) ∧ Below w0.heap.size w0 w' ∧ ∃ (q : ByteArray) (x' : PV5), ((fillV (lookL e.pts) false [0] (ws.map bl)).1 = 0 → ∀ s, ws[0]? = some s → q = s) ∧ RdE w0.heap.size rb L g cap mb w' c last es { e with pts := e.pts ++ [q] } x' cells ∧ L ≤ w'.heap.size := by
  obtain ⟨i0, hi, hz0, hz1, hz2⟩ := info_parts Tryz.infoOwnp
  obtain ⟨fa, fc, hxf⟩ := own_form h.new.hp
  obtain ⟨o, ho⟩ : ∃ o, o = es.length * 10 := ⟨_, rfl⟩
  have HO : Hid (o = es.length * 10) := ho
  have HS : Hid (Sen6 A w0 ∧ Below w0.heap.size w0 w) := ⟨hs, hb0⟩
  have HR : Hid (RdE w0.heap.size rb L g cap mb w c last es e x cells) := h
  have HW : Hid (WordsAt w sa ws wb wo) := hW
  have HXf : Hid (x.p = .slice fa e.pts.length fc) := hxf
  have HL : Hid (L ≤ w.heap.size) := hLw
  rw [← ho]
  clear ho hs hb0 h hW hxf hLw
  go_enter Tryz.func141, Tryz.ntmps141
  go_upto_region 2 with fail
  obtain ⟨W1, hW1⟩ : ∃ V, V = w.alloc (.cells #[.string ⟨#[]⟩] 9) := ⟨_, rfl⟩
  rw [← hW1]
  have HB1 : Hid (Below w.heap.size w W1) := by show Below _ _ _; rw [hW1]; exact Below.one _ _
  have HZ1 : Hid (W1.heap.size = w.heap.size + 1) := by show _ = _; rw [hW1]; simp
  have HC1 : Hid (W1.cell? ⟨w.heap.size, 0, none⟩ = some (.string ⟨#[]⟩) ∧ W1.frozen? ⟨w.heap.size, 0, none⟩ = false) := by
    refine ⟨by rw [hW1, World.cell?_alloc_at _ _ _ _ rfl]; rfl, ?_⟩
    rw [hW1, frozen?_alloc_cells]
    exact frozen_out w 0 0
  have HFI : Hid (FillIn w0 rb e.pts [0] [(w.heap.size, 0)] ws wb wo W1.heap.size (W1.alloc (.cells #[.iface 199 (.pointer (some ⟨w.heap.size, 0, none⟩))] 20))) := by
    have hbB := Below.one W1 (.cells #[.iface 199 (.pointer (some ⟨w.heap.size, 0, none⟩))] 20)
    have hlt := HW.out.lt
    have hz := HZ1.out
    have hrb := lt_of_row HR.out.row
    have hsz := HS.out.2.size
    refine ⟨HS.out.2.trans ((HB1.out.trans (hbB.mono HB1.out.size)).mono hsz), rfl, by simp, by simp, ?_, ?_, by simp, ?_, fun i s hi => cell_below hbB (cell_below HB1.out (HW.out.wrd i s hi)), HW.out.sz, fun h2 => by simp at h2⟩
    · intro i f t hf ht
      match i, hf, ht with
      | 0, hf, ht =>
        simp at hf ht
        subst hf ht
        exact ⟨⟨_, cell_below hbB HC1.out.1, ⟨_, rfl, by decide⟩⟩, by rw [frozen_below hbB HC1.out.1]; exact HC1.out.2⟩
      | i + 1, hf, _ => simp at hf
    · intro t ht
      simp only [List.mem_singleton] at ht
      subst ht
      exact ⟨by show w0.heap.size ≤ w.heap.size; exact hsz, fun e2 => by have := (Prod.mk.inj e2).1; omega, by show w.heap.size ≠ _; omega, by show w.heap.size ≠ _; omega⟩
    · intro i f t hf ht
      match i, hf, ht with
      | 0, hf, ht =>
        simp at hf ht
        subst hf ht
        rw [World.cell?_alloc_at _ _ _ _ rfl]
        rfl
      | i + 1, hf, _ => simp at hf
  clear hW1
  go_wp2_with fail
  refine (fillR_at A w0 _ rb e.pts [0] [(w.heap.size, 0)] ws sa wb wo wc W1.heap.size HS.out.1 HFI.out HW.out.sa HW.out.few).mono ?_
  rintro v w2 ⟨rfl, us, hul, hut, huv, hub⟩
  obtain ⟨u, rfl⟩ : ∃ u, us = [u] := by
    match us, hul with
    | [u], _ => exact ⟨u, rfl⟩
  obtain ⟨q, rfl, hq⟩ : ∃ q : ByteArray, u = .string q ∧ q.size ≤ 1000000 := hut 0 0 u rfl rfl
  have HV : Hid ((fillV (lookL e.pts) false [0] (ws.map bl)).1 = 0 → ∀ s, ws[0]? = some s → q = s) := fun h0 s hs => by
    have := huv h0 0 0 s _ rfl hs rfl
    unfold valOf at this
    rw [if_pos rfl] at this
    exact Value.string.inj this
  have HB2 : Hid (Below w.heap.size w w2) := sets_new (HB1.out.trans ((Below.one _ _).mono HB1.out.size)) (fun t ht => by simp only [List.mem_singleton] at ht; subst ht; exact Nat.le_refl _) hub
  have cp : w2.cell? ⟨w.heap.size, 0, none⟩ = some (.string q) := by
    have h1 := cell_setSame (u := .string q) (cell_below (Below.one W1 (.cells #[.iface 199 (.pointer (some ⟨w.heap.size, 0, none⟩))] 20)) HC1.out.1)
    have h2 := hub.cell (p := ⟨w.heap.size, 0, none⟩) (by show w.heap.size < _; have := HZ1.out; simp; omega)
    exact h2.trans h1
  clear hul hut huv hub HFI HC1
  have HR2 : Hid (RdE w0.heap.size rb L g cap mb w2 c last es e x cells) := HR.out.below HB2.out
  have HLz : Hid (L ≤ w2.heap.size) := Nat.le_trans HL.out HB2.out.size
  -- the map
  have c2 : w2.cell? ⟨g, o + 2, none⟩ = some (.slice fa e.pts.length fc) := by rw [HO.out, ← HXf.out]; exact (HR2.out.ewcell (j := 2) rfl).1
  have c6 : w2.cell? ⟨rb, 6, none⟩ = some (.map (some mb)) := HR2.out.mapAt.c6
  obtain ⟨D, hD, hDp⟩ := HR2.out.map
  have hkey : keyOf Tryz.prog 9 (.string q) = some (keyL q) := Go.WideMaps.keyOf_string_mk Tryz.underlying9 (by unfold maxLen; omega)
  obtain ⟨w3, hrun, hown3, hturn⟩ := World.ownsMap.store (w := w2.drew) (hD : w2.drew.ownsMap _ _ _ _ _ _) Tryz.lawStr Tryz.underlying114 (by unfold maxLen; omega) hkey (plainElem_int Tryz.underlying3 (a := (e.pts.length : Int)) (by go_wf))
  have HM : Hid (∃ D : DataW Unit, w3.ownsMap Tryz.prog 9 (plainElem Tryz.prog 3) mb (e.pts.length + 1) D ∧ PtsMap D (e.pts ++ [q])) := ⟨_, hown3, ptsMap_put hDp hD.isMap q⟩
  have HT : Hid (w2.drew.grownBy w3 (some mb)) := hturn.grown
  have HR3 : Hid (RdB w0.heap.size rb L g cap mb w3 c last es e x cells) := by
    obtain ⟨ms, cl, h1, h2⟩ := id hD
    exact (HR2.out.toRdB.below (w' := w2.drew) (Below.refl w2.heap.size w2).drew).mapped HT.out h1
  clear hown3 hturn hD hDp hkey
  go_wp2_with fail
  have HB3 : Hid (Below w0.heap.size w0 w3) := ((HS.out.2.trans (HB2.out.mono HS.out.2.size)).drew).grown HT.out (by have := HS.out.2.size; have := HB2.out.size; show _ ≤ w2.heap.size; omega) (fun k hk => by cases hk; exact HR3.out.lom)
  have cs3 : w3.cell? ⟨w.heap.size, 0, none⟩ = some (.string q) := HT.out.cell cp (fun e2 => by
    obtain ⟨D', ⟨ms, cl, h1, -⟩, -⟩ := HR2.out.map
    simp only [Option.some.injEq] at e2
    have h3 : w2.heap[w.heap.size]? = some (.map ms cl) := by rw [e2]; exact h1
    unfold World.cell? at cp
    simp only [h3] at cp
    cases cp)
  have HLz3 : Hid (L ≤ w3.heap.size) := Nat.le_trans HLz.out HT.out.size
  have hLz := HLz3.out
  have c8 : w3.cell? ⟨g, o + 2, none⟩ = some (.slice fa e.pts.length fc) := by rw [HO.out, ← HXf.out]; exact (HR3.out.ewcell (j := 2) rfl).1
  have hown : w3.drew.ownsRow L 9 1 (.slice fa e.pts.length fc) e.pts.length (e.pts.flatMap encS) := by rw [← HXf.out]; exact HR3.out.new.hp
  have KB : Hid (∀ (ob : Obj) (w8 : World), (w3.drew.alloc ob).grownBy w8 (Value.slice fa e.pts.length fc).ownBlock → w8.cell? ⟨g, o + 2, none⟩ = some (.slice fa e.pts.length fc) ∧ w8.frozen? ⟨g, o + 2, none⟩ = false) := fun ob w8 hg => by
    have hR4 := HR3.out.below (w' := w3.drew.alloc ob) ((Below.refl w3.heap.size w3).drew.alloc (by simp) ob)
    obtain ⟨cur, hc, -⟩ := hR4.grow
    rw [← HXf.out] at hg ⊢
    rw [HO.out]
    have e1 := (hg.block g (lt_of_row hc) (fun e2 => own_ne hR4.new.hp hc (by decide) e2.symm))
    have h2 := hR4.ewcell (j := 2) (u := x.p) rfl
    exact ⟨(World.cell?_of_block e1).trans h2.1, by have := h2.2; unfold World.frozen? at this ⊢; simp only at this ⊢; rw [e1]; exact this⟩
  have c8' : ∀ ob, (w3.alloc ob).cell? ⟨g, o + 2, none⟩ = some (.slice fa e.pts.length fc) := fun ob => cell_below (Below.one _ _) c8
  go_region
  all_goals
    clear hrun c2 c6 cp
    go_wp2_with fail
    go_region_law (refine step_append_lies _ rfl (.tmp 28) (.tmp 30) 47 rfl L 9 i0 (.string ⟨#[]⟩) 1 16 Tryz.underlying47 hi hz0 hz1 hz2 rfl (by decide) (.slice fa e.pts.length fc) e.pts.length (e.pts.flatMap encS) (by simp [Act.eval]) (hown.alloc _) ⟨w3.heap.size, 0, .none⟩ 1 1 [.string q] (by simp [Act.eval]) rfl (cell_str w3.drew q 9) (encS_one q) (by decide) (by unfold maxLen; omega) (by omega) (by simp; omega) (w3.heap.size + 1) (by simp) ?_; intro g' cap' w8 hown8 hgrow8 hor hlt8; have r8 := KB.out _ _ hgrow8; have d1 := r8.1; have d2 := r8.2)
  all_goals
    go_wp2
    go_ret
    refine ⟨rfl, ?_, q, { x with p := .slice (some ⟨g', 0, none⟩) (e.pts.length + 1) cap' }, HV.out, ?_, ?_⟩
    · obtain ⟨cur, -, hB⟩ := HR3.out.grow
      have b4 : Below w0.heap.size w0 (w3.drew.alloc (.cells #[.string q] 9)) := HB3.out.trans (((Below.refl w3.heap.size w3).drew.alloc (by simp) _).mono HB3.out.size)
      rw [← HXf.out] at hgrow8
      exact (b4.grown hgrow8 b4.size (fun k hk => Nat.le_trans HR3.out.loL (HR3.out.new.hp.lt k hk).1)).setCell (p := ⟨g, _, none⟩) hB _
    · rw [HO.out]
      obtain ⟨D', m1, m2⟩ := HM.out
      exact (HR3.out.below (w' := w3.drew.alloc _) ((Below.refl w3.heap.size w3).drew.alloc (by simp) _)).appPts q ⟨D', m1.drew.alloc _, m2⟩ (by rw [HXf.out]; exact hgrow8) hown8
    · have h1 := hgrow8.size
      have h2 := HLz3.out
      simp [World.setCell] at h1 ⊢
      omega
end Go.Proofs.YtbholbenjalliaaGreatDoor

namespace Go.Proofs.YtbholbenjalliaaGreatDoor
open Go.RowKit Go.Extern.Stop Go.Stop Go.Extern Go.Maps

set_option maxHeartbeats 4000000 in
set_option maxRecDepth 100000 in
theorem part_pts (A : Nat → Addr) (w0 w : World) (rb L g cap mb : Nat) (c : CfgD) (last : Int) (es : List EntD) (e : EntD) (x : PV5) (cells : List Value) (sa : Option Addr) (ws : List ByteArray) (wb wo wc : Nat) (hs : Sen6 A w0) (hb0 : Below w0.heap.size w0 w) (h : RdE w0.heap.size rb L g cap mb w c last es e x cells) (hLw : L ≤ w.heap.size) (hW : WordsAt w sa ws wb wo) (hn : e.pts.length ≤ 1000000) :
    Calls Tryz.prog 129 #[.pointer (some ⟨rb, 0, none⟩), .pointer (some ⟨g, es.length * 10, none⟩), .int .i64 4, .slice sa ws.length wc] w fun v w' => v = .returned (errV A (fillV (lookL e.pts) false [0] (ws.map bl)).1) ∧ Below w0.heap.size w0 w' ∧ ∃ (q : ByteArray) (x' : PV5), ((fillV (lookL e.pts) false [0] (ws.map bl)).1 = 0 → ∀ s, ws[0]? = some s → q = s) ∧ RdE w0.heap.size rb L g cap mb w' c last es { e with pts := e.pts ++ [q] } x' cells ∧ L ≤ w'.heap.size := by
  have hb1 : Below w.heap.size w ((w.alloc (.cells #[.int .i64 0] 125)).alloc (.cells #[.int .i64 0] 125)) := (Below.one _ _).alloc (by simp) _
  have HC : Hid _ := takePoint_at A w0 _ rb L g cap mb c last es e x cells sa ws wb wo wc hs (hb0.trans (hb1.mono hb0.size)) (h.below hb1) (Nat.le_trans hLw hb1.size) (hW.below hb1) hn
  generalize es.length * 10 = o at HC ⊢
  clear hs hb0 h hLw hW hn hb1
  go_enter Tryz.func129, Tryz.ntmps129
  go_wp2_with fail
  refine Calls.mono HC.out ?_
  rintro v w2 ⟨rfl, h1, h2⟩
  have H1 : Hid (Below w0.heap.size w0 w2) := h1
  have H2 : Hid _ := h2
  clear h1 h2
  go_wp2
  go_ret
  exact ⟨rfl, H1.out, H2.out⟩
end Go.Proofs.YtbholbenjalliaaGreatDoor
