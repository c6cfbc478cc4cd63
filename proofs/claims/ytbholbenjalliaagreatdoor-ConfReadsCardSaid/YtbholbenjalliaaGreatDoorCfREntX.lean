/-
  (*conf.reader).takeEntity by a contract: the reader with the entities so far ('RdA') gets a new one, with its map. Conditions: as takePart's.
-/
import Derived.Test.YtbholbenjalliaaGreatDoorCfRPart2X
namespace Go.Proofs.YtbholbenjalliaaGreatDoor
open Go.RowKit Go.Extern.Stop Go.Stop Go.Extern Go.Maps

/-- The reader ahead of a line that begins an entity. -/
structure RdA (B rb : Nat) (w : World) (c : CfgD) (last : Int) (ev mv : Value) (es : List EntD) (cells : List Value) : Prop where
  lo : B ≤ rb
  row : w.heap[rb]? = some (.cells (rdRow c ev last mv) 116 (0, 0))
  ents : w.ownsRow B 52 10 ev es.length cells
  olds : ∀ (i : Nat) e', es[i]? = some e' → ∃ x', OwnX B w e' x' ∧ LtX w.heap.size x' ∧ ∀ (j : Nat) u, (x'.row e')[j]? = some u → cells[i * 10 + j]? = some u
theorem LtX.mono {L L' : Nat} {x : PV5} (h : LtX L x) (hl : L ≤ L') : LtX L' x := ⟨fun b hb => Nat.lt_of_lt_of_le (h.p b hb) hl, fun b hb => Nat.lt_of_lt_of_le (h.g b hb) hl, fun b hb => Nat.lt_of_lt_of_le (h.e b hb) hl, fun b hb => Nat.lt_of_lt_of_le (h.f b hb) hl, fun b hb => Nat.lt_of_lt_of_le (h.l b hb) hl⟩
theorem RdN.toA {B rb : Nat} {w : World} {c : CfgD} {last : Int} (h : RdN B rb w c last) : RdA B rb w c last (.slice none 0 0) (.map none) [] [] := ⟨h.lo, h.row, World.ownsRow_nil _ _ _ _, fun i e' he => by simp at he⟩
theorem RdE.toA {B rb L g cap mb : Nat} {w : World} {c : CfgD} {last : Int} {es : List EntD} {e : EntD} {x : PV5} {cells : List Value} (h : RdE B rb L g cap mb w c last es e x cells) (hL : L ≤ w.heap.size) : RdA B rb w c last (.slice (some ⟨g, 0, none⟩) (es.length + 1) cap) (.map (some mb)) (es ++ [e]) (cells ++ (x.row e).toList) := by
  refine ⟨h.lo, h.row, by rw [List.length_append]; exact h.ents, fun i e' he => ?_⟩
  rcases Nat.lt_or_ge i es.length with hi | hi
  · rw [List.getElem?_append_left hi] at he
    obtain ⟨x', a, b, d⟩ := h.olds i e' he
    refine ⟨x', a, b.mono hL, fun j u hu => ?_⟩
    have := d j u hu
    have hlt : i * 10 + j < cells.length := by
      rcases Nat.lt_or_ge (i * 10 + j) cells.length with h' | h'
      · exact h'
      · rw [List.getElem?_eq_none h'] at this; cases this
    rw [List.getElem?_append_left hlt]
    exact this
  · rw [List.getElem?_append_right hi] at he
    have h0 : i = es.length := by
      rcases Nat.eq_zero_or_pos (i - es.length) with h' | h'
      · omega
      · rw [List.getElem?_eq_none (by simp; omega)] at he; cases he
    subst h0
    simp at he
    subst he
    refine ⟨x, h.new.weak h.loL, h.new.ltx, fun j u hu => ?_⟩
    rw [List.getElem?_append_right (by rw [h.clen]; omega), h.clen, Nat.add_sub_cancel_left, Array.getElem?_toList]
    exact hu
theorem RdA.below {B rb : Nat} {w w' : World} {c : CfgD} {last : Int} {ev mv : Value} {es : List EntD} {cells : List Value} (h : RdA B rb w c last ev mv es cells) (hb : Below w.heap.size w w') : RdA B rb w' c last ev mv es cells :=
  ⟨h.lo, row_below hb h.row, h.ents.kept (row := none) ⟨hb.os, hb.tape, hb.output, hb.size, fun k hk _ => hb.block k hk⟩ (by by_cases e : ev.ownBlock = none; exact Or.inl e; exact Or.inr e), fun i e' he => by
    obtain ⟨x', a, b, d⟩ := h.olds i e' he
    exact ⟨x', OwnParts.below a hb, b.mono hb.size, d⟩⟩
/-- The entities' row grows. -/
theorem OwnX.grown {B B' n : Nat} {w w' : World} {e : EntD} {x : PV5} {v : Value} {xs : List Value} (h : OwnX B w e x) (ho : w.ownsRow B' 52 10 v n xs) (hg : w.grownBy w' v.ownBlock) : OwnX B w' e x := by
  rcases ho.2 with ⟨rfl, _⟩ | ⟨g, cap, cur, rfl, _, hg', _⟩
  · have em : ∀ o : Option Nat, o = none ∨ o ≠ (Value.slice none 0 0).ownBlock := fun o => by by_cases e : o = none; exact Or.inl e; exact Or.inr e
    exact h.kept hg (em _) (em _) (em _) (em _) (em _)
  · exact h.other hg hg' (by decide) (by decide) (by decide) (by decide)
def nilX : PV5 := ⟨.slice none 0 0, .slice none 0 0, .slice none 0 0, .slice none 0 0, .slice none 0 0⟩
def newR (nm : ByteArray) (z : Int) : EntD := ⟨nm, z, [], -1, 0, 0, [], [], [], []⟩
theorem newR_own (B : Nat) (w : World) (nm : ByteArray) (z : Int) : OwnX B w (newR nm z) nilX := ⟨World.ownsRow_nil _ _ _ _, World.ownsRow_nil _ _ _ _, World.ownsRow_nil _ _ _ _, World.ownsRow_nil _ _ _ _, World.ownsRow_nil _ _ _ _⟩
theorem newE_one (nm : ByteArray) (z : Int) : ∀ u ∈ (nilX.row (newR nm z)).toList, u.oneCell' = true := by
  intro u hu
  simp [PV5.row, entRow, nilX, newR] at hu
  rcases hu with rfl | rfl | rfl | rfl | rfl | rfl <;> rfl
/-- What is there behind takeEntity. -/
theorem rdE_new {B rb g cap H : Nat} {w V w8 : World} {c : CfgD} {last : Int} {ev mv : Value} {es : List EntD} {cells : List Value} {nm : ByteArray} {z : Int} (h : RdA B rb V c last ev mv es cells) (hw : RdA B rb w c last ev mv es cells) (hB : B ≤ w.heap.size) (hBV : Below w.heap.size w V)
    (hg : V.grownBy w8 ev.ownBlock) (ho : w8.ownsRow B 52 10 (.slice (some ⟨g, 0, none⟩) (es.length + 1) cap) (es.length + 1) (cells ++ (nilX.row (newR nm z)).toList)) (hH : H = w8.heap.size) :
    RdE B rb w.heap.size g cap H (((w8.setCell ⟨rb, 4, none⟩ (.slice (some ⟨g, 0, none⟩) (es.length + 1) cap)).alloc (.map #[] 0)).setCell ⟨rb, 6, none⟩ (.map (some H))) c last es (newR nm z) nilX cells := by
  have hrow8 : w8.heap[rb]? = some (.cells (rdRow c ev last mv) 116 (0, 0)) := (hg.block rb (lt_of_row h.row) (fun e2 => own_ne h.ents h.row (by decide) e2.symm)).trans h.row
  have hsz : V.heap.size ≤ w8.heap.size := hg.size
  have hrlt := lt_of_row hrow8
  have hrowA : (w8.setCell ⟨rb, 4, none⟩ (.slice (some ⟨g, 0, none⟩) (es.length + 1) cap)).heap[rb]? = some (.cells (rdRow c (.slice (some ⟨g, 0, none⟩) (es.length + 1) cap) last mv) 116 (0, 0)) := by
    simp only [World.setCell, Array.getElem?_modify, hrow8]
    simp [rdRow]
  have g1 := grown_cell w8 rb 4 (.slice (some ⟨g, 0, none⟩) (es.length + 1) cap)
  obtain ⟨A1, hA1⟩ : ∃ A1, A1 = w8.setCell ⟨rb, 4, none⟩ (.slice (some ⟨g, 0, none⟩) (es.length + 1) cap) := ⟨_, rfl⟩
  rw [← hA1] at hrowA g1 ⊢
  have hs1 : A1.heap.size = H := by rw [hA1, hH]; simp [World.setCell]
  have b2 : Below A1.heap.size A1 (A1.alloc (.map #[] 0)) := Below.one _ _
  have g3 := grown_cell (A1.alloc (.map #[] 0)) rb 6 (.map (some H))
  have hrowB := row_below b2 hrowA
  obtain ⟨A2, hA2⟩ : ∃ A2, A2 = A1.alloc (.map #[] 0) := ⟨_, rfl⟩
  have hmap : A2.ownsMap Tryz.prog 9 (plainElem Tryz.prog 3) H 0 (.map [] : DataW Unit) := by rw [hA2, ← hs1]; exact World.ownsMap_made A1 _ _ _
  rw [← hA2] at b2 g3 hrowB ⊢
  have hHrb : rb ≠ H := by omega
  have keepX : ∀ {e : EntD} {x : PV5}, OwnX B w8 e x → OwnX B (A2.setCell ⟨rb, 6, none⟩ (.map (some H))) e x := fun hx =>
    OwnX.other (OwnParts.below (hx.other g1 hrow8 (by decide) (by decide) (by decide) (by decide)) b2) g3 hrowB (by decide) (by decide) (by decide) (by decide)
  refine ⟨⟨h.lo, hB, by have := hBV.size; omega, ?_, ?_, ?_, fun i e' he => ?_, newR_own _ _ _ _, Or.inl rfl⟩, ?_⟩
  · simp only [World.setCell, Array.getElem?_modify, hrowB]
    simp [rdRow]
  · have o1 := ho.kept g1 (Or.inr (own_ne ho hrow8 (by decide)))
    have o2 : A2.ownsRow B 52 10 (.slice (some ⟨g, 0, none⟩) (es.length + 1) cap) (es.length + 1) (cells ++ (nilX.row (newR nm z)).toList) := o1.kept (row := none) ⟨b2.os, b2.tape, b2.output, b2.size, fun k hk _ => b2.block k hk⟩ (Or.inr (by simp [Value.ownBlock]))
    exact o2.kept g3 (Or.inr (own_ne o2 hrowB (by decide)))
  · exact h.ents.1
  · obtain ⟨x', a, b, d⟩ := hw.olds i e' he
    exact ⟨x', keepX (OwnX.grown (OwnParts.below a hBV) h.ents hg), b, d⟩
  · refine ⟨.map [], ?_, ptsMap_nil⟩
    exact hmap.kept g3 (by simp; exact fun e2 => hHrb e2.symm)
set_option maxHeartbeats 4000000 in
set_option maxRecDepth 100000 in
theorem entityR_at (A : Nat → Addr) (w0 w : World) (rb : Nat) (c : CfgD) (last : Int) (ev mv : Value) (es : List EntD) (cells : List Value) (sa : Option Addr) (ws : List ByteArray) (wb wo wc : Nat) (hs : Sen6 A w0) (hb0 : Below w0.heap.size w0 w) (h : RdA w0.heap.size rb w c last ev mv es cells) (hW : WordsAt w sa ws wb wo) (hn : es.length ≤ 1000000) :
    Calls Tryz.prog 128 #[.pointer (some ⟨rb, 0, none⟩), .slice sa ws.length wc] w fun v w' => v = .returned (errV A (fillV (lookL []) false [0, 1] (ws.map bl)).1) ∧ Below w0.heap.size w0 w' ∧ ∃ (nm : ByteArray) (z : Int) (L g cap mb : Nat), ((fillV (lookL []) false [0, 1] (ws.map bl)).1 = 0 → (∀ s, ws[0]? = some s → nm = s) ∧ (∀ s, ws[1]? = some s → z = (wordV (lookL []) 1 (bl s)).2)) ∧ RdE w0.heap.size rb L g cap mb w' c last es (newR nm z) nilX cells ∧ L ≤ w'.heap.size := by
  obtain ⟨i0, hi, hz0, hz1, hz2⟩ := info_parts Tryz.infoEnt
  obtain ⟨va, vc, rfl⟩ := own_form h.ents
  have HS : Hid (Sen6 A w0 ∧ Below w0.heap.size w0 w) := ⟨hs, hb0⟩
  have HR : Hid (RdA w0.heap.size rb w c last (.slice va es.length vc) mv es cells) := h
  have HW : Hid (WordsAt w sa ws wb wo) := hW
  have hmm := @run_makeMap Tryz.prog
  clear hs hb0 h hW
  go_enter Tryz.func128, Tryz.ntmps128
  go_upto_region 2 with fail
  obtain ⟨W1, hW1⟩ : ∃ V, V = w.alloc (.cells #[.string ⟨#[]⟩, .int .i64 0, .slice none 0 0, .int .i64 (-1), .int .i64 0, .int .i64 0, .slice none 0 0, .slice none 0 0, .slice none 0 0, .slice none 0 0] 52) := ⟨_, rfl⟩
  rw [← hW1]
  have HB1 : Hid (Below w.heap.size w W1) := by show Below _ _ _; rw [hW1]; exact Below.one _ _
  have HZ1 : Hid (W1.heap.size = w.heap.size + 1) := by show _ = _; rw [hW1]; simp
  have HE1 : Hid (W1.heap[w.heap.size]? = some (.cells #[.string ⟨#[]⟩, .int .i64 0, .slice none 0 0, .int .i64 (-1), .int .i64 0, .int .i64 0, .slice none 0 0, .slice none 0 0, .slice none 0 0, .slice none 0 0] 52 (0, 0))) := by show _ = _; rw [hW1]; exact heap_alloc_new w _
  clear hW1
  have HFI : Hid (FillIn w0 rb [] [0, 1] [(w.heap.size, 0), (w.heap.size, 1)] ws wb wo W1.heap.size (W1.alloc (.cells #[.iface 199 (.pointer (some ⟨w.heap.size, 0, none⟩)), .iface 187 (.pointer (some ⟨w.heap.size, 1, none⟩))] 20))) := by
    have hbB := Below.one W1 (.cells #[.iface 199 (.pointer (some ⟨w.heap.size, 0, none⟩)), .iface 187 (.pointer (some ⟨w.heap.size, 1, none⟩))] 20)
    have hlt := HW.out.lt
    have hz := HZ1.out
    have hrb := lt_of_row HR.out.row
    have hsz := HS.out.2.size
    have k := row_below hbB HE1.out
    refine ⟨HS.out.2.trans ((HB1.out.trans (hbB.mono HB1.out.size)).mono hsz), rfl, by simp, by simp, ?_, ?_, by simp, ?_, fun i s hi => cell_below hbB (cell_below HB1.out (HW.out.wrd i s hi)), HW.out.sz, fun h2 => by simp at h2⟩
    · intro i f t hf ht
      match i, hf, ht with
      | 0, hf, ht =>
        simp at hf ht
        subst hf ht
        exact ⟨⟨.string ⟨#[]⟩, by simp [World.cell?, k], ⟨⟨#[]⟩, rfl, by decide⟩⟩, by simp [World.frozen?, k]⟩
      | 1, hf, ht =>
        simp at hf ht
        subst hf ht
        exact ⟨⟨.int .i64 0, by simp [World.cell?, k], ⟨0, rfl⟩⟩, by simp [World.frozen?, k]⟩
      | i + 2, hf, _ => simp at hf
    · intro t ht
      simp only [List.mem_cons, List.not_mem_nil, or_false] at ht
      rcases ht with rfl | rfl
      all_goals exact ⟨by simp only []; omega, fun e2 => by have := (Prod.mk.inj e2).1; omega, by simp only []; omega, by simp only []; omega⟩
    · intro i f t hf ht
      match i, hf, ht with
      | 0, hf, ht =>
        simp at hf ht
        subst hf ht
        rw [World.cell?_alloc_at _ _ _ _ rfl]
        rfl
      | 1, hf, ht =>
        simp at hf ht
        subst hf ht
        rw [World.cell?_alloc_at _ _ _ _ rfl]
        rfl
      | i + 2, hf, _ => simp at hf
  go_wp2_with fail
  refine (fillR_at A w0 _ rb [] [0, 1] [(w.heap.size, 0), (w.heap.size, 1)] ws sa wb wo wc W1.heap.size HS.out.1 HFI.out HW.out.sa HW.out.few).mono ?_
  rintro v w2 ⟨rfl, us, hul, hut, huv, hub⟩
  obtain ⟨u0, u1, rfl⟩ : ∃ u0 u1, us = [u0, u1] := by
    match us, hul with
    | [u0, u1], _ => exact ⟨u0, u1, rfl⟩
  obtain ⟨nm, rfl, -⟩ : ∃ s : ByteArray, u0 = .string s ∧ s.size ≤ 1000000 := hut 0 0 u0 rfl rfl
  obtain ⟨z, rfl⟩ : ∃ z : Int, u1 = .int .i64 z := hut 1 1 u1 rfl rfl
  have HV : Hid ((fillV (lookL []) false [0, 1] (ws.map bl)).1 = 0 → (∀ s, ws[0]? = some s → nm = s) ∧ (∀ s, ws[1]? = some s → z = (wordV (lookL []) 1 (bl s)).2)) := fun h0 => ⟨(fun s hs => by have := huv h0 0 0 s _ rfl hs rfl; unfold valOf at this; rw [if_pos rfl] at this; exact Value.string.inj this), (fun s hs => by have := huv h0 1 1 s _ rfl hs rfl; unfold valOf at this; rw [if_neg (by decide)] at this; exact (Value.int.inj this).2)⟩
  have HB2 : Hid (Below w.heap.size w w2) := sets_new (HB1.out.trans ((Below.one _ _).mono HB1.out.size)) (fun t ht => by
    simp only [List.mem_cons, List.not_mem_nil, or_false] at ht
    rcases ht with rfl | rfl
    all_goals exact Nat.le_refl _) hub
  have HE2 : Hid (w2.heap[w.heap.size]? = some (.cells #[.string nm, .int .i64 z, .slice none 0 0, .int .i64 (-1), .int .i64 0, .int .i64 0, .slice none 0 0, .slice none 0 0, .slice none 0 0, .slice none 0 0] 52 (0, 0))) := by
    show _ = _
    have k := row_below (Below.one W1 (.cells #[.iface 199 (.pointer (some ⟨w.heap.size, 0, none⟩)), .iface 187 (.pointer (some ⟨w.heap.size, 1, none⟩))] 20)) HE1.out
    have k2 : (sets (W1.alloc (.cells #[.iface 199 (.pointer (some ⟨w.heap.size, 0, none⟩)), .iface 187 (.pointer (some ⟨w.heap.size, 1, none⟩))] 20)) [(w.heap.size, 0), (w.heap.size, 1)] [.string nm, .int .i64 z]).heap[w.heap.size]? = some (.cells #[.string nm, .int .i64 z, .slice none 0 0, .int .i64 (-1), .int .i64 0, .int .i64 0, .slice none 0 0, .slice none 0 0, .slice none 0 0, .slice none 0 0] 52 (0, 0)) := by
      simp only [sets, World.setCell, Array.getElem?_modify, k]
      simp
    refine (hub.block w.heap.size ?_).trans k2
    have := HZ1.out
    simp
    omega
  clear hul hut huv hub HFI HE1 HB1 HZ1
  have yy : ∀ (j : Nat) u, (#[.string nm, .int .i64 z, .slice none 0 0, .int .i64 (-1), .int .i64 0, .int .i64 0, .slice none 0 0, .slice none 0 0, .slice none 0 0, .slice none 0 0] : Array Value)[j]? = some u → w2.cell? ⟨w.heap.size, j, none⟩ = some u := fun j u hu => by simp [World.cell?, HE2.out, hu]
  have y0 := yy 0 _ rfl
  have y1 := yy 1 _ rfl
  have y2 := yy 2 _ rfl
  have y3 := yy 3 _ rfl
  have y4 := yy 4 _ rfl
  have y5 := yy 5 _ rfl
  have y6 := yy 6 _ rfl
  have y7 := yy 7 _ rfl
  have y8 := yy 8 _ rfl
  have y9 := yy 9 _ rfl
  clear yy HE2
  have HR2 : Hid (RdA w0.heap.size rb w2 c last (.slice va es.length vc) mv es cells) := HR.out.below HB2.out
  have c4 : w2.cell? ⟨rb, 4, none⟩ = some (.slice va es.length vc) := by have := HR2.out.row; simp [World.cell?, this, rdRow]
  have c4' : ∀ ob, (w2.alloc ob).cell? ⟨rb, 4, none⟩ = some (.slice va es.length vc) := fun ob => cell_below (Below.one _ _) c4
  have hown : w2.drew.ownsRow w0.heap.size 52 10 (.slice va es.length vc) es.length cells := HR2.out.ents
  have hLz : w0.heap.size ≤ w2.heap.size := Nat.le_trans HS.out.2.size HB2.out.size
  have KB : Hid (∀ (ob : Obj) (w8 : World), (w2.drew.alloc ob).grownBy w8 (Value.slice va es.length vc).ownBlock → w8.heap[rb]? = some (.cells (rdRow c (.slice va es.length vc) last mv) 116 (0, 0)) ∧ Below w0.heap.size w0 w8) := fun ob w8 hg => by
    have hR3 := HR2.out.below (w' := w2.drew.alloc ob) ((Below.refl w2.heap.size w2).drew.alloc (by simp) ob)
    have b2 := HS.out.2.trans (HB2.out.mono HS.out.2.size)
    have b3 : Below w0.heap.size w0 (w2.drew.alloc ob) := b2.trans (((Below.refl w2.heap.size w2).drew.alloc (by simp) ob).mono b2.size)
    exact ⟨(hg.block rb (lt_of_row hR3.row) (fun e2 => own_ne hR3.ents hR3.row (by decide) e2.symm)).trans hR3.row, b3.grown hg b3.size (fun k hk => (hR3.ents.lt k hk).1)⟩
  go_wp2_with fail
  go_region_law (refine step_append_lies _ rfl (.tmp 21) (.tmp 23) 22 rfl w0.heap.size 52 i0 (.agg #[.string ⟨#[]⟩, .int .i64 0, .slice none 0 0, .int .i64 0, .int .i64 0, .int .i64 0, .slice none 0 0, .slice none 0 0, .slice none 0 0, .slice none 0 0]) 10 168 Tryz.underlying22 hi hz0 hz1 hz2 rfl (by decide) (.slice va es.length vc) es.length cells (by simp [Act.eval]) (hown.alloc _) ⟨w2.heap.size, 0, .none⟩ 1 1 (nilX.row (newR nm z)).toList (by simp [Act.eval]) rfl (cells_at w2.drew (nilX.row (newR nm z)).toList 52) (newE_one nm z) (by decide) (by unfold maxLen; omega) (by omega) (by simp; omega) (w2.heap.size + 1) (by simp) ?_; intro g' cap' w8 hown8 hgrow8 hor hlt8; have r8 := KB.out _ _ hgrow8; have d8 : w8.cell? ⟨rb, 4, none⟩ = some (.slice va es.length vc) := (by simp [World.cell?, r8.1, rdRow]); have d9 : w8.frozen? ⟨rb, 4, none⟩ = false := (by simp [World.frozen?, r8.1]))
  all_goals
    have HA : Hid (∀ u, (w8.setCell ⟨rb, 4, none⟩ u).heap[rb]? = some (.cells (rdRow c u last mv) 116 (0, 0))) := fun u => by
      simp only [World.setCell, Array.getElem?_modify, r8.1]
      simp [rdRow]
    have HA2 : Hid (∀ u, ((w8.setCell ⟨rb, 4, none⟩ u).alloc (.map #[] 0)).heap[rb]? = some (.cells (rdRow c u last mv) 116 (0, 0))) := fun u => row_below (Below.one _ _) (HA.out u)
    have e6 : ∀ u, ((w8.setCell ⟨rb, 4, none⟩ u).alloc (.map #[] 0)).cell? ⟨rb, 6, none⟩ = some mv := fun u => by simp [World.cell?, HA2.out u, rdRow]
    have f6 : ∀ u, ((w8.setCell ⟨rb, 4, none⟩ u).alloc (.map #[] 0)).frozen? ⟨rb, 6, none⟩ = false := fun u => by simp [World.frozen?, HA2.out u]
    have H8 : Hid (Below w0.heap.size w0 w8) := r8.2
    have Hg8 : Hid _ := hgrow8
    have Ho8 : Hid _ := hown8
    clear hgrow8 hown8 r8 hor y0 y1 y2 y3 y4 y5 y6 y7 y8 y9 c4' c4
    go_wp2
    go_ret
    refine ⟨rfl, ?_, nm, z, w.heap.size, g', cap', w8.heap.size, HV.out, ?_, ?_⟩
    · exact ((H8.out.setCell (p := ⟨rb, 4, none⟩) HR.out.lo _).alloc (by have := H8.out.size; simp [World.setCell]; omega) _).setCell (p := ⟨rb, 6, none⟩) HR.out.lo _
    · exact rdE_new (HR2.out.below ((Below.refl w2.heap.size w2).drew.alloc (by simp) _)) HR.out HS.out.2.size (HB2.out.trans (((Below.refl w2.heap.size w2).drew.alloc (by simp) _).mono HB2.out.size)) Hg8.out Ho8.out rfl
    · have h1 := Hg8.out.size
      have h2 := HB2.out.size
      simp [World.setCell] at h1 ⊢
      omega
end Go.Proofs.YtbholbenjalliaaGreatDoor
