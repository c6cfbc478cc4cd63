/-
  (*conf.reader).fill by a contract: the walk. Conditions: as CfRFill says.
-/
import Derived.Test.YtcnfkdecghdphabGreatDoorCfRFill
namespace Go.Proofs.YtcnfkdecghdphabGreatDoor
open Go.RowKit Go.Extern.Stop Go.Stop Go.Extern Go.Maps

/-- What holds at the beginning of round k. -/
structure FillRel (A : Nat → Addr) (pts : List ByteArray) (fs : List Nat) (tg : List (Nat × Nat)) (ws : List ByteArray) (w : World) (k : Nat) (nn : Bool) (V : World) : Prop where
  us : ∃ us : List Value, us.length = k ∧ (∀ (i : Nat) f u, fs[i]? = some f → us[i]? = some u → Typed f u) ∧ (nn = false → ∀ (i : Nat) f s u, fs[i]? = some f → ws[i]? = some s → us[i]? = some u → u = valOf f s (wordV (lookL pts) f (bl s)).2) ∧ Below w.heap.size (sets w (tg.take k) us) V
  code : (fillV (lookL pts) false fs (ws.map bl)).1 = (fillV (lookL pts) nn (fs.drop k) ((ws.map bl).drop k)).1
theorem fill_start {A : Nat → Addr} {pts : List ByteArray} {fs : List Nat} {tg : List (Nat × Nat)} {ws : List ByteArray} {w : World} : FillRel A pts fs tg ws w 0 false w :=
  ⟨⟨[], rfl, fun i f u _ h => by simp at h, fun _ i f s u _ _ h => by simp at h, Below.refl _ _⟩, rfl⟩
/-- One more word that is well, or whose point is none. -/
theorem fill_next {A : Nat → Addr} {w V V' : World} {pts : List ByteArray} {fs : List Nat} {tg : List (Nat × Nat)} {ws : List ByteArray} {k f : Nat} {nn : Bool} {s : ByteArray} {t : Nat × Nat} {u : Value} (h : FillRel A pts fs tg ws w k nn V) (h1 : fs[k]? = some f) (h2 : tg[k]? = some t) (h3 : ws[k]? = some s)
    (hT : Typed f u) (hv : (wordV (lookL pts) f (bl s)).1 = 0 → u = valOf f s (wordV (lookL pts) f (bl s)).2) (hb : Below V.heap.size (V.setCell ⟨t.1, t.2, none⟩ u) V') (hc : (wordV (lookL pts) f (bl s)).1 ≠ 1) : FillRel A pts fs tg ws w (k + 1) (nn || decide ((wordV (lookL pts) f (bl s)).1 = 5)) V' := by
  obtain ⟨us, e0, e1, e2, e3⟩ := h.us
  have hk : k < tg.length := (List.getElem?_eq_some_iff.1 h2).1
  refine ⟨⟨us ++ [u], by simp [e0], fun i g x hg hx => ?_, fun hn i g y x hg hy hx => ?_, ?_⟩, ?_⟩
  · by_cases hi : i < us.length
    · rw [List.getElem?_append_left hi] at hx
      exact e1 i g x hg hx
    · rw [List.getElem?_append_right (by omega)] at hx
      have : i = us.length := by
        have := (List.getElem?_eq_some_iff.1 hx).1
        simp at this
        omega
      subst this
      simp at hx
      subst hx
      rw [e0, h1] at hg
      cases hg
      exact hT
  · rw [Bool.or_eq_false_iff, decide_eq_false_iff_not] at hn
    by_cases hi : i < us.length
    · rw [List.getElem?_append_left hi] at hx
      exact e2 hn.1 i g y x hg hy hx
    · rw [List.getElem?_append_right (by omega)] at hx
      have : i = us.length := by
        have := (List.getElem?_eq_some_iff.1 hx).1
        simp at this
        omega
      subst this
      simp at hx
      subst hx
      rw [e0, h1] at hg
      cases hg
      rw [e0, h3] at hy
      cases hy
      refine hv ?_
      rcases wordV_cases (lookL pts) f (bl s) with h | h | h
      · exact h
      · exact absurd h hc
      · exact absurd h hn.2
  · have ht : tg.take (k + 1) = tg.take k ++ [t] := by rw [List.take_add_one, h2]; rfl
    rw [ht, sets_snoc _ _ _ _ _ (by rw [List.length_take, e0]; omega)]
    have := Below.setBoth e3 ⟨t.1, t.2, none⟩ u
    refine this.trans (hb.mono ?_)
    have := e3.size
    rw [sets_size] at this
    exact this
  · rw [h.code, fillV_step h1 (by rw [List.getElem?_map, h3]; rfl), if_neg hc]
theorem fill_ret {A : Nat → Addr} {w0 w V V' : World} {rb : Nat} {pts : List ByteArray} {fs : List Nat} {tg : List (Nat × Nat)} {ws : List ByteArray} {wb wo ib k f : Nat} {nn : Bool} {s : ByteArray} {t : Nat × Nat} {u : Value} (hF : FillIn w0 rb pts fs tg ws wb wo ib w) (h : FillRel A pts fs tg ws w k nn V) (h1 : fs[k]? = some f) (h2 : tg[k]? = some t) (h3 : ws[k]? = some s)
    (hT : Typed f u) (hb : Below V.heap.size (V.setCell ⟨t.1, t.2, none⟩ u) V') (hc : (wordV (lookL pts) f (bl s)).1 = 1) : FillPost A pts fs tg ws w (.returned (errV A 1)) V' := by
  have hcode : (fillV (lookL pts) false fs (ws.map bl)).1 = 1 := by rw [h.code, fillV_step h1 (by rw [List.getElem?_map, h3]; rfl), if_pos hc]
  obtain ⟨us, e0, e1, e2, e3⟩ := h.us
  have hk : k < tg.length := (List.getElem?_eq_some_iff.1 h2).1
  -- what waits behind this word keeps what it had
  have hold : ∀ i, ∃ o : Value, ∀ g x, fs[k + 1 + i]? = some g → tg[k + 1 + i]? = some x → w.cell? ⟨x.1, x.2, none⟩ = some o ∧ Typed g o := fun i => by
    by_cases hi : k + 1 + i < tg.length
    · have hi2 : k + 1 + i < fs.length := by rw [hF.len]; exact hi
      obtain ⟨⟨o, a1, a2⟩, -⟩ := hF.tgt (k + 1 + i) _ _ (List.getElem?_eq_getElem hi2) (List.getElem?_eq_getElem hi)
      refine ⟨o, fun g x hg hx => ?_⟩
      rw [List.getElem?_eq_getElem hi2] at hg
      rw [List.getElem?_eq_getElem hi] at hx
      cases hg
      cases hx
      exact ⟨a1, a2⟩
    · refine ⟨undef, fun g x _ hx => ?_⟩
      rw [List.getElem?_eq_none (by omega)] at hx
      cases hx
  obtain ⟨ov, hov⟩ := Classical.axiomOfChoice hold
  obtain ⟨vs, hvs⟩ : ∃ vs : List Value, vs = (List.range (tg.length - (k + 1))).map ov := ⟨_, rfl⟩
  have hvl : vs.length = tg.length - (k + 1) := by rw [hvs]; simp
  have hvi : ∀ i x, vs[i]? = some x → x = ov i ∧ i < tg.length - (k + 1) := fun i x hx => by
    have hi := (List.getElem?_eq_some_iff.1 hx).1
    rw [hvl] at hi
    rw [hvs, List.getElem?_map, List.getElem?_range hi] at hx
    simp at hx
    exact ⟨hx.symm, hi⟩
  refine ⟨by rw [hcode], us ++ ([u] ++ vs), ?_, fun i g x hg hx => ?_, (fun hz => by rw [hcode] at hz; cases hz), ?_⟩
  · simp [e0, hvl]; omega
  · by_cases hi : i < us.length
    · rw [List.getElem?_append_left hi] at hx
      exact e1 i g x hg hx
    · rw [List.getElem?_append_right (by omega), e0] at hx
      by_cases hi2 : i = k
      · subst hi2
        simp at hx
        subst hx
        rw [h1] at hg
        cases hg
        exact hT
      · rw [List.getElem?_append_right (by simp; omega)] at hx
        obtain ⟨rfl, q⟩ := hvi _ _ hx
        have hii : k + 1 + (i - k - 1) = i := by omega
        have hit : i < tg.length := by simp at q; omega
        exact (hov (i - k - 1) g _ (by rw [hii]; exact hg) (by rw [hii]; exact List.getElem?_eq_getElem hit)).2
  · have ht : tg = (tg.take k ++ [t]) ++ tg.drop (k + 1) := by
      have : tg.take (k + 1) = tg.take k ++ [t] := by rw [List.take_add_one, h2]; rfl
      rw [← this, List.take_append_drop]
    have hl : (tg.take k).length = us.length := by rw [List.length_take, e0]; omega
    have hse : sets w tg (us ++ ([u] ++ vs)) = (sets w (tg.take k) us).setCell ⟨t.1, t.2, none⟩ u := by
      conv => lhs; rw [ht]
      rw [← List.append_assoc us [u] vs, sets_append _ _ _ _ _ (by simp [hl]), sets_snoc _ _ _ _ _ hl]
      refine sets_same _ _ _ (fun i b v hb' hv' => ?_)
      obtain ⟨rfl, q⟩ := hvi _ _ hv'
      rw [List.getElem?_drop] at hb'
      have hif : k + 1 + i < fs.length := by rw [hF.len]; omega
      obtain ⟨a1, -⟩ := hov i _ _ (List.getElem?_eq_getElem hif) hb'
      have hne := take_ne hF.nd hb'
      have hnt : t ≠ b := hne t (by
        have : tg.take (k + 1 + i) = tg.take (k + 1) ++ (tg.drop (k + 1)).take i := by rw [List.take_add]
        rw [this, List.take_add_one, h2]
        simp)
      rw [cell_setOther (by
        by_cases e : t.1 = b.1
        · exact Or.inr (fun e2 => hnt (Prod.ext e e2))
        · exact Or.inl e) rfl rfl, sets_cell _ _ _ _ _ (fun x hx => hne x (by
          have : tg.take (k + 1 + i) = tg.take k ++ (tg.drop k).take (1 + i) := by rw [Nat.add_assoc, List.take_add]
          rw [this]
          exact List.mem_append_left _ hx))]
      exact a1
    rw [hse]
    have := Below.setBoth e3 ⟨t.1, t.2, none⟩ u
    refine this.trans (hb.mono ?_)
    have := e3.size
    rw [sets_size] at this
    exact this
theorem fill_done {A : Nat → Addr} {w0 w V : World} {rb : Nat} {pts : List ByteArray} {fs : List Nat} {tg : List (Nat × Nat)} {ws : List ByteArray} {wb wo ib k : Nat} {nn : Bool} (hF : FillIn w0 rb pts fs tg ws wb wo ib w) (h : FillRel A pts fs tg ws w k nn V) (h1 : fs.length = k) (h2 : ws.length = k) : FillPost A pts fs tg ws w (.returned (errV A (if nn then 5 else 0))) V := by
  obtain ⟨us, e0, e1, e2, e3⟩ := h.us
  have hc := h.code
  rw [fillV_end h1 (by rw [List.length_map]; exact h2)] at hc
  have hk : tg.take k = tg := List.take_of_length_le (by rw [← hF.len]; omega)
  rw [hk] at e3
  refine ⟨by rw [hc], us, by rw [e0, ← hF.len]; omega, e1, fun hz => ?_, e3⟩
  cases nn
  · exact e2 rfl
  · rw [hc] at hz; cases hz
/-- The loop's relation. -/
structure FillLoop (A : Nat → Addr) (pts : List ByteArray) (fs : List Nat) (tg : List (Nat × Nat)) (ws : List ByteArray) (w : World) (m i : Value) (wr : World) : Prop where
  ex : ∃ (k : Nat) (nn : Bool), k ≤ ws.length ∧ i = .int .i64 k ∧ m = errV A (if nn then 5 else 0) ∧ FillRel A pts fs tg ws w k nn wr
set_option maxHeartbeats 4000000 in
set_option maxRecDepth 100000 in
theorem fillR_at (A : Nat → Addr) (w0 w : World) (rb : Nat) (pts : List ByteArray) (fs : List Nat) (tg : List (Nat × Nat)) (ws : List ByteArray) (sa : Option Addr) (wb wo wc ib : Nat) (hs : Sen6 A w0) (hF : FillIn w0 rb pts fs tg ws wb wo ib w) (hsa : ws ≠ [] → sa = some ⟨wb, wo, none⟩) (hn : ws.length ≤ 1000000) :
    Calls Tryz.prog 93 #[.pointer (some ⟨rb, 0, none⟩), .slice sa ws.length wc, .slice (some ⟨ib, 0, none⟩) fs.length fs.length] w (FillPost A pts fs tg ws w) := by
  have HF : Hid (FillIn w0 rb pts fs tg ws wb wo ib w) := hF
  have HS : Hid (Sen6 A w0) := hs
  clear hF hs
  by_cases hl : fs.length = ws.length
  · have l2 : ws.length ≤ 4 := by have := HF.out.few; omega
    have HL : Hid (fs.length = ws.length) := hl
    rw [hl]
    clear hl
    go_enter Tryz.func93, Tryz.ntmps93
    go_wp2_with fail
    go_loopw [6, 7, 8, 9, 10, 19] (fun _ m _ _ _ i wr => FillLoop A pts fs tg ws w m i wr) (fun _ _ _ _ _ i _ => ws.length - (intOf i).toNat)
    case atStart => exact ⟨⟨0, false, Nat.zero_le _, rfl, rfl, fill_start⟩⟩
    case round =>
      obtain ⟨k, nn, hk, rfl, hm, hR⟩ := hrel.ex
      have HM : Hid (u7 = errV A (if nn then 5 else 0)) := hm
      clear hm
      have HR : Hid (FillRel A pts fs tg ws w k nn wr) := hR
      clear hR
      by_cases hlt : k < ws.length
      · have k1 : (k : Int) < (ws.length : Int) := by omega
        have k2 : k < 4 := by omega
        have hsa' := hsa (fun e => by rw [e] at hlt; simp at hlt)
        subst hsa'
        obtain ⟨f, hf⟩ : ∃ f, fs[k]? = some f := ⟨_, List.getElem?_eq_getElem (by have := HL.out; omega)⟩
        obtain ⟨t, ht⟩ : ∃ t, tg[k]? = some t := ⟨_, List.getElem?_eq_getElem (by have := HF.out.len; have := HL.out; omega)⟩
        obtain ⟨s, hss⟩ : ∃ s, ws[k]? = some s := ⟨_, List.getElem?_eq_getElem hlt⟩
        have hat : FillAt A rb pts f s t wr ∧ wr.cell? ⟨wb, wo + k, none⟩ = some (.string s) ∧ wr.cell? ⟨ib, k, none⟩ = some (.iface (tgtTy f) (.pointer (some ⟨t.1, t.2, none⟩))) := by
          obtain ⟨us, -, -, -, e3⟩ := HR.out.us
          exact HF.out.at' HS.out e3 hf ht hss
        obtain ⟨hat, c1, c2⟩ := hat
        have HAt : Hid (FillAt A rb pts f s t wr) := hat
        have HK : Hid (fs[k]? = some f ∧ tg[k]? = some t ∧ ws[k]? = some s) := ⟨hf, ht, hss⟩
        clear hat hf ht hss hsa
        go_wp2_with fail
        refine (rword_at HAt.out).mono ?_
        rintro v V1 ⟨rfl, u, hT, hv, hb⟩
        have HU : Hid (Typed f u ∧ ((wordV (lookL pts) f (bl s)).1 = 0 → u = valOf f s (wordV (lookL pts) f (bl s)).2) ∧ Below wr.heap.size (wr.setCell ⟨t.1, t.2, none⟩ u) V1) := ⟨hT, hv, hb⟩
        have HE : Hid (Sen6 A V1) := by
          have h1 := (HF.out.lo t (List.mem_of_getElem? HK.out.2.1)).1
          obtain ⟨us, -, -, -, e3⟩ := HR.out.us
          have hw : Below w0.heap.size w0 wr := HF.out.bel.trans ((sets_below w0.heap.size w (tg.take k) us (fun x hx => (HF.out.lo x (List.mem_of_mem_take hx)).1)).trans (e3.mono HF.out.bel.size))
          exact HS.out.below (hw.trans (((Below.refl _ wr).setCell (p := ⟨t.1, t.2, none⟩) h1 u).trans (hb.mono hw.size)))
        clear hT hv hb c1 c2 HAt
        have d0 := HE.out.c0
        have d4 := HE.out.c4
        obtain ⟨ie, hie, hcmp⟩ := Option.map_eq_some_iff.1 Tryz.isComp
        obtain ⟨je, hje, hjs⟩ := Option.map_eq_some_iff.1 Tryz.isSize
        rcases wordV_cases (lookL pts) f (bl s) with hc | hc | hc
        · have e1 : errV A (wordV (lookL pts) f (bl s)).1 = .nilIface := by rw [hc]; rfl
          rw [e1]
          have n0 := run_eql_iface_nil_left (P := Tryz.prog) (w := V1) 211 (.pointer (some (A 0))) Tryz.underlying27
          have n4 := run_eql_iface_nil_left (P := Tryz.prog) (w := V1) 211 (.pointer (some (A 4))) Tryz.underlying27
          have HN : Hid (FillRel A pts fs tg ws w (k + 1) nn V1) := by
            have := fill_next HR.out HK.out.1 HK.out.2.1 HK.out.2.2 HU.out.1 HU.out.2.1 HU.out.2.2 (by rw [hc]; decide)
            rw [hc] at this
            show FillRel _ _ _ _ _ _ _ _ _
            simpa using this
          clear e1 hc
          go_wp2
          go_roundw
          case rel =>
            exact ⟨⟨k + 1, nn, by omega, by go_num, HM.out, HN.out⟩⟩
          case measure => simp [intOf]; omega
        · have e1 : errV A (wordV (lookL pts) f (bl s)).1 = .iface 211 (.pointer (some (A 0))) := by rw [hc]; rfl
          rw [e1]
          have n0 := run_eql_iface_ptr_same (P := Tryz.prog) (w := V1) (A 0) Tryz.underlying27 Tryz.underlying211 hie hcmp hje
          have HP : Hid (FillPost A pts fs tg ws w (.returned (errV A 1)) V1) := fill_ret HF.out HR.out HK.out.1 HK.out.2.1 HK.out.2.2 HU.out.1 HU.out.2.2 hc
          clear e1 hc
          go_wp2
          go_ret
          exact HP.out
        · have e1 : errV A (wordV (lookL pts) f (bl s)).1 = .iface 211 (.pointer (some (A 4))) := by rw [hc]; rfl
          rw [e1]
          obtain ⟨ca, ta, ha⟩ := HE.out.row 4 (by decide)
          obtain ⟨cb, tb, hb⟩ := HE.out.row 0 (by decide)
          have n0 := run_eql_iface_ptr_other (P := Tryz.prog) V1 Tryz.underlying27 Tryz.underlying211 hie hcmp hje (by rw [hjs]; decide) (HE.out.ne 4 0 (by decide) (by decide) (by decide)) ha hb
          have n4 := run_eql_iface_ptr_same (P := Tryz.prog) (w := V1) (A 4) Tryz.underlying27 Tryz.underlying211 hie hcmp hje
          have HN : Hid (FillRel A pts fs tg ws w (k + 1) true V1) := by
            have := fill_next HR.out HK.out.1 HK.out.2.1 HK.out.2.2 HU.out.1 HU.out.2.1 HU.out.2.2 (by rw [hc]; decide)
            rw [hc] at this
            show FillRel _ _ _ _ _ _ _ _ _
            simpa using this
          clear e1 hc ha hb
          go_wp2
          go_roundw
          case rel =>
            exact ⟨⟨k + 1, true, by omega, by go_num, rfl, HN.out⟩⟩
          case measure => simp [intOf]; omega
      · have k1 : ¬ (k : Int) < (ws.length : Int) := by omega
        obtain rfl : k = ws.length := by omega
        have HP : Hid (FillPost A pts fs tg ws w (.returned u7) wr) := by
          show FillPost _ _ _ _ _ _ _ _
          rw [HM.out]
          exact fill_done HF.out HR.out HL.out rfl
        go_wp2
        go_ret
        exact HP.out
  · have l1 : ¬ (ws.length : Int) = (fs.length : Int) := by omega
    have c0 := (HS.out.below HF.out.bel).c0
    have HP : Hid (FillPost A pts fs tg ws w (.returned (errV A 1)) w) := by
      have hcode : (fillV (lookL pts) false fs (ws.map bl)).1 = 1 := fillV_len _ _ _ (by rw [List.length_map]; exact hl)
      have hold : ∀ i : Nat, ∃ o : Value, ∀ (g : Nat) (x : Nat × Nat), fs[i]? = some g → tg[i]? = some x → w.cell? ⟨x.1, x.2, none⟩ = some o ∧ Typed g o := fun i => by
        by_cases hi : i < tg.length
        · have hi2 : i < fs.length := by rw [HF.out.len]; exact hi
          obtain ⟨⟨o, a1, a2⟩, -⟩ := HF.out.tgt i _ _ (List.getElem?_eq_getElem hi2) (List.getElem?_eq_getElem hi)
          refine ⟨o, fun g x hg hx => ?_⟩
          rw [List.getElem?_eq_getElem hi2] at hg
          rw [List.getElem?_eq_getElem hi] at hx
          cases hg
          cases hx
          exact ⟨a1, a2⟩
        · refine ⟨undef, fun g x _ hx => ?_⟩
          rw [List.getElem?_eq_none (by omega)] at hx
          cases hx
      obtain ⟨ov, hov⟩ := Classical.axiomOfChoice hold
      have hvi : ∀ (i : Nat) x, ((List.range tg.length).map ov)[i]? = some x → x = ov i ∧ i < tg.length := fun i x hx => by
        have hi := (List.getElem?_eq_some_iff.1 hx).1
        simp at hi
        rw [List.getElem?_map, List.getElem?_range hi] at hx
        simp at hx
        exact ⟨hx.symm, hi⟩
      refine ⟨by rw [hcode], (List.range tg.length).map ov, by simp, fun i g x hg hx => ?_, (fun hz => by rw [hcode] at hz; cases hz), ?_⟩
      · obtain ⟨rfl, q⟩ := hvi _ _ hx
        exact (hov i g _ hg (List.getElem?_eq_getElem q)).2
      · rw [sets_same _ _ _ (fun i b v hb hv => by
          obtain ⟨rfl, q⟩ := hvi _ _ hv
          have hif : i < fs.length := by rw [HF.out.len]; exact q
          exact (hov i _ _ (List.getElem?_eq_getElem hif) hb).1)]
        exact Below.refl _ _
    clear hsa
    go_enter Tryz.func93, Tryz.ntmps93
    go_wp2
    go_ret
    exact HP.out
end Go.Proofs.YtcnfkdecghdphabGreatDoor
