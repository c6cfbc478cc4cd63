/-
  (*conf.reader).fill by a contract ('fillV'). Conditions: the sentinels are in memory; the words, what waits for them, and the map of points lie in memory, each cell another one.
-/
import Derived.Test.YtcnfkdecghdphabGreatDoorCfRWordB
import Derived.Test.YtcnfkdecghdphabGreatDoorCfRKind
namespace Go.Proofs.YtcnfkdecghdphabGreatDoor
open Go.RowKit Go.Extern.Stop Go.Stop Go.Extern Go.Maps

theorem wordV_cases (look : Bs → Option Nat) (f : Nat) (w : Bs) : (wordV look f w).1 = 0 ∨ (wordV look f w).1 = 1 ∨ (wordV look f w).1 = 5 := by
  unfold wordV
  split
  · exact Or.inr (Or.inl rfl)
  · split
    · exact Or.inl rfl
    · split
      · exact Or.inl rfl
      · exact Or.inr (Or.inl rfl)
    · split
      · exact Or.inl rfl
      · exact Or.inr (Or.inr rfl)
theorem fillV_len {look : Bs → Option Nat} : ∀ (fs : List Nat) (ws : List Bs) (nn : Bool), fs.length ≠ ws.length → (fillV look nn fs ws).1 = 1
  | [], [], _, h => absurd rfl h
  | [], _ :: _, _, _ => by simp [fillV]
  | _ :: _, [], _, _ => by simp [fillV]
  | f :: fs, w :: ws, nn, h => by
    unfold fillV
    split
    · rfl
    · exact fillV_len fs ws _ (by simpa using h)
theorem fillV_step {look : Bs → Option Nat} {fs : List Nat} {ws : List Bs} {k f : Nat} {w : Bs} {nn : Bool} (h1 : fs[k]? = some f) (h2 : ws[k]? = some w) : (fillV look nn (fs.drop k) (ws.drop k)).1 = if (wordV look f w).1 = 1 then 1 else (fillV look (nn || decide ((wordV look f w).1 = 5)) (fs.drop (k + 1)) (ws.drop (k + 1))).1 := by
  obtain ⟨a1, a2⟩ := List.getElem?_eq_some_iff.1 h1
  obtain ⟨b1, b2⟩ := List.getElem?_eq_some_iff.1 h2
  rw [List.drop_eq_getElem_cons a1, List.drop_eq_getElem_cons b1, a2, b2]
  rw [fillV]
  split <;> rfl
theorem fillV_end {look : Bs → Option Nat} {fs : List Nat} {ws : List Bs} {k : Nat} {nn : Bool} (h1 : fs.length = k) (h2 : ws.length = k) : (fillV look nn (fs.drop k) (ws.drop k)).1 = if nn then 5 else 0 := by
  rw [← h1, List.drop_length, h1, ← h2, List.drop_length]
  rfl
theorem frozen_below {w w' : World} {b o : Nat} {v : Value} (hb : Below w.heap.size w w') (hc : w.cell? ⟨b, o, none⟩ = some v) : w'.frozen? ⟨b, o, none⟩ = w.frozen? ⟨b, o, none⟩ := by
  have := hb.block b (block_lt hc)
  unfold World.frozen?
  simp only
  rw [this]
theorem sets_append : ∀ (w : World) (as' bs : List (Nat × Nat)) (us vs : List Value), as'.length = us.length → sets w (as' ++ bs) (us ++ vs) = sets (sets w as' us) bs vs
  | w, [], bs, [], vs, _ => rfl
  | w, a :: as', bs, u :: us, vs, h => by
    simp only [List.cons_append, sets]
    exact sets_append _ as' bs us vs (by simpa using h)
theorem sets_same : ∀ (w : World) (bs : List (Nat × Nat)) (vs : List Value), (∀ (i : Nat) b v, bs[i]? = some b → vs[i]? = some v → w.cell? ⟨b.1, b.2, none⟩ = some v) → sets w bs vs = w
  | w, [], vs, _ => sets_nil _ _
  | w, _ :: _, [], _ => sets_nil' _ _
  | w, b :: bs, v :: vs, h => by
    rw [sets, setCell_same (h 0 b v rfl rfl)]
    exact sets_same w bs vs (fun i b' v' h1 h2 => h (i + 1) b' v' (by simpa using h1) (by simpa using h2))

/-- What a line's words leave. -/
def FillPost (A : Nat → Addr) (pts : List ByteArray) (fs : List Nat) (tg : List (Nat × Nat)) (ws : List ByteArray) (w : World) (v : Ending) (w' : World) : Prop :=
  v = .returned (errV A (fillV (lookL pts) false fs (ws.map bl)).1) ∧ ∃ us : List Value, us.length = tg.length ∧ (∀ (i : Nat) f u, fs[i]? = some f → us[i]? = some u → Typed f u) ∧ ((fillV (lookL pts) false fs (ws.map bl)).1 = 0 → ∀ (i : Nat) f s u, fs[i]? = some f → ws[i]? = some s → us[i]? = some u → u = valOf f s (wordV (lookL pts) f (bl s)).2) ∧ Below w.heap.size (sets w tg us) w'
/-- What fill asks. -/
structure FillIn (w0 : World) (rb : Nat) (pts : List ByteArray) (fs : List Nat) (tg : List (Nat × Nat)) (ws : List ByteArray) (wb wo ib : Nat) (w : World) : Prop where
  bel : Below w0.heap.size w0 w
  len : fs.length = tg.length
  f3 : ∀ f ∈ fs, f < 3
  few : fs.length ≤ 4
  tgt : ∀ (i : Nat) f t, fs[i]? = some f → tg[i]? = some t → (∃ old, w.cell? ⟨t.1, t.2, none⟩ = some old ∧ Typed f old) ∧ w.frozen? ⟨t.1, t.2, none⟩ = false
  lo : ∀ t ∈ tg, w0.heap.size ≤ t.1 ∧ t ≠ (rb, 6) ∧ t.1 ≠ ib ∧ t.1 ≠ wb
  nd : tg.Nodup
  into : ∀ (i : Nat) f t, fs[i]? = some f → tg[i]? = some t → w.cell? ⟨ib, i, none⟩ = some (.iface (tgtTy f) (.pointer (some ⟨t.1, t.2, none⟩)))
  wrd : ∀ (i : Nat) s, ws[i]? = some s → w.cell? ⟨wb, wo + i, none⟩ = some (.string s)
  wsz : ∀ s ∈ ws, s.size ≤ 1000000
  map : 2 ∈ fs → ∃ mb, MapAt w rb mb pts
/-- A round's beginning: what is in memory then. -/
structure FillAt (A : Nat → Addr) (rb : Nat) (pts : List ByteArray) (f : Nat) (s : ByteArray) (t : Nat × Nat) (V : World) : Prop where
  senv : Sen6 A V
  tgt : ∃ old, V.cell? ⟨t.1, t.2, none⟩ = some old ∧ Typed f old
  fz : V.frozen? ⟨t.1, t.2, none⟩ = false
  map : f = 2 → ∃ mb, MapAt V rb mb pts
  f3 : f < 3
  ssz : s.size ≤ 1000000
theorem cell_sets {w V : World} {tg : List (Nat × Nat)} {k : Nat} {us : List Value} (hV : Below w.heap.size (sets w (tg.take k) us) V) {b o : Nat} {v : Value} (hc : w.cell? ⟨b, o, none⟩ = some v) (hn : ∀ t ∈ tg.take k, t ≠ (b, o)) : V.cell? ⟨b, o, none⟩ = some v := by
  have h1 := sets_cell w (tg.take k) us b o hn
  exact (hV.cell (p := ⟨b, o, none⟩) (block_lt hc)).trans (h1.trans hc)
theorem take_ne {tg : List (Nat × Nat)} (hd : tg.Nodup) {k : Nat} {t : Nat × Nat} (ht : tg[k]? = some t) : ∀ x ∈ tg.take k, x ≠ t := by
  intro x hx e
  subst e
  obtain ⟨j, hj, e⟩ := List.getElem_of_mem hx
  have hj2 : j < k := by simp at hj; omega
  obtain ⟨k1, k2⟩ := List.getElem?_eq_some_iff.1 ht
  have e2 : tg[j]'(by omega) = tg[k] := by rw [k2, ← e]; simp
  have := (List.getElem_inj hd).1 e2
  omega
theorem FillIn.at' {A : Nat → Addr} {w0 w V : World} {rb : Nat} {pts : List ByteArray} {fs : List Nat} {tg : List (Nat × Nat)} {ws : List ByteArray} {wb wo ib : Nat} (h : FillIn w0 rb pts fs tg ws wb wo ib w) (hs : Sen6 A w0) {k f : Nat} {s : ByteArray} {t : Nat × Nat} {us : List Value} (hV : Below w.heap.size (sets w (tg.take k) us) V) (h1 : fs[k]? = some f) (h2 : tg[k]? = some t) (h3 : ws[k]? = some s) :
    FillAt A rb pts f s t V ∧ V.cell? ⟨wb, wo + k, none⟩ = some (.string s) ∧ V.cell? ⟨ib, k, none⟩ = some (.iface (tgtTy f) (.pointer (some ⟨t.1, t.2, none⟩))) := by
  have hlo : ∀ x ∈ tg.take k, w0.heap.size ≤ x.1 ∧ x ≠ (rb, 6) ∧ x.1 ≠ ib ∧ x.1 ≠ wb := fun x hx => h.lo x (List.mem_of_mem_take hx)
  have hbW : Below w0.heap.size w0 V := h.bel.trans ((sets_below w0.heap.size w (tg.take k) us (fun x hx => (hlo x hx).1)).trans (hV.mono h.bel.size))
  obtain ⟨⟨old, ho, hT⟩, hf⟩ := h.tgt k f t h1 h2
  have ht := cell_sets hV ho (take_ne h.nd h2)
  refine ⟨⟨hs.below hbW, ⟨old, ht, hT⟩, ?_, ?_, h.f3 f (List.mem_of_getElem? h1), h.wsz s (List.mem_of_getElem? h3)⟩, ?_, ?_⟩
  · have e1 := sets_frozen w (tg.take k) us ⟨t.1, t.2, none⟩
    have e2 : (sets w (tg.take k) us).cell? ⟨t.1, t.2, none⟩ = some old := (sets_cell w (tg.take k) us t.1 t.2 (take_ne h.nd h2)).trans ho
    rw [frozen_below (by rw [sets_size]; exact hV) e2, e1]
    exact hf
  · rintro rfl
    obtain ⟨mb, hm⟩ := h.map (List.mem_of_getElem? h1)
    obtain ⟨D, ⟨es, clock, g1, g2⟩, hD⟩ := hm.own
    refine ⟨mb, cell_sets hV hm.c6 (fun x hx => (hlo x hx).2.1), D, ⟨es, clock, ?_, g2⟩, hD⟩
    have hmb : mb < w.heap.size := lt_of_row g1
    rw [hV.block mb hmb, sets_heap w (tg.take k) us mb, g1]
    intro x hx e
    obtain ⟨j, hj, e2⟩ := List.getElem_of_mem hx
    have hj2 : tg[j]? = some x := by
      have : j < tg.length := by simp at hj; omega
      rw [List.getElem?_eq_getElem this, ← e2]
      simp
    have hjf : j < fs.length := by rw [h.len]; exact (List.getElem?_eq_some_iff.1 hj2).1
    obtain ⟨⟨o2, ho2, -⟩, -⟩ := h.tgt j fs[j] x (List.getElem?_eq_getElem hjf) hj2
    unfold World.cell? at ho2
    simp only [e, g1] at ho2
    cases ho2
  · exact cell_sets hV (h.wrd k s h3) (fun x hx e => (hlo x hx).2.2.2 (by rw [e]))
  · exact cell_sets hV (h.into k f t h1 h2) (fun x hx e => (hlo x hx).2.2.1 (by rw [e]))
/-- One word, whatever it waits for. -/
theorem rword_at {A : Nat → Addr} {rb : Nat} {pts : List ByteArray} {f : Nat} {s : ByteArray} {t : Nat × Nat} {V : World} (h : FillAt A rb pts f s t V) :
    Calls Tryz.prog 112 #[.pointer (some ⟨rb, 0, none⟩), .string s, .iface (tgtTy f) (.pointer (some ⟨t.1, t.2, none⟩))] V (WordPost A pts f s t.1 t.2 V) := by
  obtain ⟨old, ht, hT⟩ := h.tgt
  by_cases h0 : s.size = 0
  · have := ba_nil h0
    subst this
    exact rword_nil A pts rb f _ t.1 t.2 old V h.senv ht hT
  · have h1 : 1 ≤ s.size := by omega
    match f, h.f3, hT, h with
    | 0, _, _, h => exact rword_str A pts rb s t.1 t.2 old V h1 h.ssz ht h.fz
    | 1, _, hT, h => exact rword_num A pts rb s t.1 t.2 old V h.senv h1 h.ssz ht hT h.fz
    | 2, _, hT, h =>
      obtain ⟨mb, hm⟩ := h.map rfl
      exact rword_place A pts rb mb s t.1 t.2 old V h.senv h1 h.ssz hm ht hT h.fz
end Go.Proofs.YtcnfkdecghdphabGreatDoor
