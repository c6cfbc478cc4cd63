/-
  gaps.New by a contract. Conditions: as GaSt's; the entity's gaps lie in memory, at most a million of them.
-/
import Derived.Test.YtpaolneaomeoiabDoorGaOpsX
import Derived.Test.YtpaolneaomeoiabDoorMemX
namespace Go.Proofs.YtpaolneaomeoiabDoor
open Go.RowKit Go.Extern.Stop Go.Stop Go.Extern

theorem Tryd.infoGap : (Tryd.prog.info? 125).map (fun i => (i.zero, i.size, i.bytes)) = some (some (.agg #[.int .i64 0, .int .i64 0, .int .i64 0, .int .i64 0, .int .i64 0]), 5, 40) := by kernel_rfl
/-- 'make(T, 0, n)', for the walk. -/
theorem wpList_make0 {w : World} {ops : Array Oper} {rest : List Oper} {o : Oper} {a : Act} {Q : Exit → Act → World → Prop} (hgd : o.guard = none) (l c : Operand) (t : TypeId)
    (ho : o.op = Op.makeSlice t l c) (B : Nat) (e : TypeId) (i : TypeInfo) (z : Value) (size bytes : Nat) (ht : Tryd.prog.underlying t = some (.slice e)) (hi : Tryd.prog.info? e = some i) (hz : i.zero = some z) (hsize : i.size = size) (hby : i.bytes = bytes) (n : Nat)
    (hl : a.eval l = .int .i64 0) (hc : a.eval c = .int .i64 (n : Int)) (hn : n ≤ 1000000) (hbb : bytes ≤ 1000) (hB : B ≤ w.heap.size)
    (h : ∀ w', w'.ownsRow B e size (.slice (some ⟨w.heap.size, 0, none⟩) 0 n) 0 [] → Below w.heap.size w w' → w'.heap.size = w.heap.size + 1 → wpList Tryd.prog ops Q rest (a.put o.dst (.slice (some ⟨w.heap.size, 0, none⟩) 0 n)) w') : wpList Tryd.prog ops Q (o :: rest) a w := by
  refine wpList_plain hgd fun K hK => ?_
  have hm : i.bytes * n ≤ 1000 * 1000000 := Nat.mul_le_mul (by omega) hn
  have hr := run_make (P := Tryd.prog) w t e i z ht hi hz .i64 .i64 0 n (Int.le_refl _) (by omega) (by have : ((i.bytes * n : Nat) : Int) ≤ 281474976710656 := (by omega); rwa [Int.natCast_mul] at this) (by omega)
  simp only [Int.toNat_zero, Int.toNat_natCast] at hr
  unfold Oper.wp execOp
  simp only [ho, hl, hc, Sem.run_bind, Sem.run_pure, Result.andThen_ok, hr]
  refine hK _ _ (h _ ?_ (Below.one _ _) (by simp))
  have := World.ownsRow_made (e := e) (size := size) w (madeCells z.cells (n * i.size)) n hB (by unfold maxLen; omega) (by rw [size_madeCells, hsize])
  exact this

variable {B b cap : Nat} {w0 w w' : World} {sa : Option Addr} {s : GSt} {xs : List WG}
theorem gp_of_own {v : Value} {xs : List WG} {bad : Bool} (hb : w.heap[b]? = some (.cells #[v, .bool bad] 123 (0, 0))) (ho : SlOwn encW 5 125 B w v xs) (hlo : B ≤ b) (hf : GSt.fit ⟨xs, bad⟩) : ∃ sa cap, GpAt B w b sa cap ⟨xs, bad⟩ := by
  rcases ho.2 with ⟨rfl, h0⟩ | ⟨g, cap, cur, rfl, hB, hg, hle, -⟩
  · have : xs = [] := List.eq_nil_of_length_eq_zero h0
    subst this
    exact ⟨none, 0, hb, fun e => absurd rfl e, hlo, hf⟩
  · refine ⟨_, cap, hb, fun hne => ⟨g, 0, rfl, fun e => ?_, hB, fun i x hx j u hu => ?_, cur, hg⟩, hlo, hf⟩
    · subst e
      rw [hg] at hb
      simp only [Option.some.injEq, Obj.cells.injEq] at hb
      exact absurd hb.2.1 (by decide)
    · have := ho.cells (g := g) rfl (i * 5 + j) u (flat_at encW_len xs i j x u hx hu)
      rw [addC_plain] at this
      rw [Nat.add_assoc]
      exact this
set_option maxHeartbeats 2000000 in
set_option maxRecDepth 100000 in
theorem gp_new (name : ByteArray) (tol cnt mn mx : Int) (pv ev fv lv : Value) (ga : Option Addr) (gc : Nat) (gs : List GapD) (w : World) (hg : SlAt encG 4 w (.slice ga gs.length gc) gs) (hlen : gs.length ≤ 1000000) :
    Calls Tryd.prog 50 #[.agg #[.string name, .int .i64 tol, pv, .int .i64 cnt, .int .i64 mn, .int .i64 mx, .slice ga gs.length gc, ev, fv, lv]] w fun v w' => ∃ b, v = .returned (.pointer (some ⟨b, 0, none⟩)) ∧ GpIn w w' b (GSt.new gs) := by
  obtain ⟨i0, hi, hz0, hz1, hz2⟩ := info_parts Tryd.infoGap
  have HG : Hid (SlAt encG 4 w (.slice ga gs.length gc) gs) := hg
  have HL : Hid (gs.length ≤ 1000000) := hlen
  clear hg hlen
  go_enter Tryd.func50, Tryd.ntmps50
  go_upto_region 2 with (refine wpList_make0 rfl _ _ 121 rfl w.heap.size 125 i0 (.agg #[.int .i64 0, .int .i64 0, .int .i64 0, .int .i64 0, .int .i64 0]) 5 40 Tryd.underlying121 hi hz0 hz1 hz2 gs.length rfl rfl HL.out (by decide) (by simp) ?_; intro w1 hown1 hb1 hs1)
  obtain ⟨W, hW⟩ : ∃ V, V = w1.alloc (.cells #[.slice (some ⟨w.heap.size + 1, 0, none⟩) 0 gs.length, .bool false] 123) := ⟨_, rfl⟩
  have hs1' : w1.heap.size = w.heap.size + 2 := by rw [hs1]; simp
  clear hs1
  have hBl : Below w.heap.size w W := by rw [hW]; exact (((Below.refl _ _).alloc (Nat.le_refl _) _).trans (hb1.mono (by simp))).alloc (by omega) _
  have HBW : Hid (Below w.heap.size w W) := hBl
  have HG0 : Hid (W.heap[w.heap.size + 2]? = some (.cells #[.slice (some ⟨w.heap.size + 1, 0, none⟩) 0 gs.length, .bool false] 123 (0, 0))) := by
    show _ = _
    rw [hW, ← hs1']
    exact heap_alloc_new w1 _
  have e6 : W.cell? ⟨w.heap.size, 6, none⟩ = some (.slice ga gs.length gc) := by
    have h1 := row_below hb1 (heap_alloc_new w (.cells #[.string name, .int .i64 tol, pv, .int .i64 cnt, .int .i64 mn, .int .i64 mx, .slice ga gs.length gc, ev, fv, lv] 27))
    have h2 := row_below (Below.one w1 (.cells #[.slice (some ⟨w.heap.size + 1, 0, none⟩) 0 gs.length, .bool false] 123)) h1
    rw [hW]
    simp [World.cell?, h2]
  have HOw : Hid (W.ownsRow w.heap.size 125 5 (.slice (some ⟨w.heap.size + 1, 0, none⟩) 0 gs.length) 0 []) := by
    show World.ownsRow _ _ _ _ _ _ _
    have h3 := hown1
    simp only [World.size_alloc] at h3
    rw [hW]
    exact h3.alloc _
  have HSW : Hid (W.heap.size = w.heap.size + 3) := by show _ = _; rw [hW, World.size_alloc]; omega
  rw [← hW, show w.heap.size + 1 + 1 = w.heap.size + 2 from rfl]
  clear hW hown1 hb1 hs1' hBl
  go_wp2_with fail
  go_loopw [15, 5] (fun i _ wr => ∃ k : Nat, k ≤ gs.length ∧ i = .int .i64 k ∧ Below w.heap.size w wr ∧ ∃ va vc, wr.heap[w.heap.size + 2]? = some (.cells #[.slice va k vc, .bool false] 123 (0, 0)) ∧ wr.ownsRow w.heap.size 125 5 (.slice va k vc) k (((gs.take k).map WG.new).flatMap encW)) (fun i _ _ => gs.length - (intOf i).toNat)
  case atStart => exact ⟨0, Nat.zero_le _, rfl, HBW.out, _, _, HG0.out, by simpa using HOw.out⟩
  case round =>
    clear e6 HG0 HOw HBW HSW
    obtain ⟨k, hk, rfl, hbk, va, vc, hgk, hok⟩ := hrel
    have HB : Hid (Below w.heap.size w wr) := hbk
    have HGk : Hid (wr.heap[w.heap.size + 2]? = some (.cells #[.slice va k vc, .bool false] 123 (0, 0))) := hgk
    have HOk : Hid (wr.ownsRow w.heap.size 125 5 (.slice va k vc) k (((gs.take k).map WG.new).flatMap encW)) := hok
    clear hbk hgk hok
    by_cases hlt : k < gs.length
    · have k1 : (k : Int) < (gs.length : Int) := by omega
      have k2 : k < 1000000 := by have := HL.out; omega
      obtain ⟨x, hx⟩ : ∃ x, gs[k]? = some x := ⟨_, List.getElem?_eq_getElem hlt⟩
      have HX : Hid (((gs.take (k + 1)).map WG.new).flatMap encW = ((gs.take k).map WG.new).flatMap encW ++ [.int .i64 x.fr, .int .i64 x.to, .int .i64 x.mn, .int .i64 x.mx, .int .i64 (-1)]) := by
        show _ = _
        rw [List.take_add_one, hx]
        simp [encW, WG.new]
      obtain ⟨sa', cap', hsl, -, hcc⟩ := id HG.out
      cases hsl
      obtain ⟨g, o, rfl, hc0⟩ := hcc (fun h => by rw [h] at hx; simp at hx)
      have c0 : wr.cell? ⟨g, o + k * 4, none⟩ = some (.int .i64 x.fr) := cell_below HB.out (hc0 k _ hx 0 _ rfl)
      have c1 : wr.cell? ⟨g, o + k * 4 + 1, none⟩ = some (.int .i64 x.to) := cell_below HB.out (hc0 k _ hx 1 _ rfl)
      have c2 : wr.cell? ⟨g, o + k * 4 + 2, none⟩ = some (.int .i64 x.mn) := cell_below HB.out (hc0 k _ hx 2 _ rfl)
      have c3 : wr.cell? ⟨g, o + k * 4 + 3, none⟩ = some (.int .i64 x.mx) := cell_below HB.out (hc0 k _ hx 3 _ rfl)
      clear hcc hc0 hx
      go_upto_region 5 with fail
      obtain ⟨V, hV⟩ : ∃ V, V = wr.alloc (.cells #[.int .i64 x.fr, .int .i64 x.to, .int .i64 x.mn, .int .i64 x.mx] 86) := ⟨_, rfl⟩
      rw [← hV]
      have HBV : Hid (Below wr.heap.size wr V) := by show Below _ _ _; rw [hV]; exact Below.one _ _
      have HSV : Hid (V.heap.size = wr.heap.size + 1) := by show _ = _; rw [hV, World.size_alloc]
      have dd : ∀ (j : Nat) u, ([.int .i64 x.fr, .int .i64 x.to, .int .i64 x.mn, .int .i64 x.mx] : List Value)[j]? = some u → V.cell? ⟨wr.heap.size, 0 + j, none⟩ = some u := fun j u hu => by
        rw [hV]
        have := ce_at wr [.int .i64 x.fr, .int .i64 x.to, .int .i64 x.mn, .int .i64 x.mx] 86 j u hu
        rwa [addC_plain] at this
      have d0 := dd 0 _ rfl
      have d1 := dd 1 _ rfl
      have d2 := dd 2 _ rfl
      have d3 := dd 3 _ rfl
      simp only [Nat.zero_add] at d0 d1 d2 d3
      clear hV c0 c1 c2 c3 dd
      have HGv : Hid (V.heap[w.heap.size + 2]? = some (.cells #[.slice va k vc, .bool false] 123 (0, 0))) := row_below HBV.out HGk.out
      have HOv : Hid (V.ownsRow w.heap.size 125 5 (.slice va k vc) k (((gs.take k).map WG.new).flatMap encW)) := SlOwnR.below HOk.out HBV.out
      have hown : V.drew.ownsRow w.heap.size 125 5 (.slice va k vc) k (((gs.take k).map WG.new).flatMap encW) := HOv.out
      have hLz : w.heap.size ≤ V.heap.size := Nat.le_trans HB.out.size (by have := HSV.out; omega)
      have c8 : V.cell? ⟨w.heap.size + 2, 0, none⟩ = some (.slice va k vc) := by simp [World.cell?, HGv.out]
      have c8' : ∀ ob, (V.alloc ob).cell? ⟨w.heap.size + 2, 0, none⟩ = some (.slice va k vc) := fun ob => cell_below (Below.one _ _) c8
      have d0' : ∀ ob, (V.alloc ob).cell? ⟨wr.heap.size, 0, none⟩ = some (.int .i64 x.fr) := fun ob => cell_below (Below.one _ _) d0
      have KB : Hid (∀ (ob : Obj) (w8 : World), (V.drew.alloc ob).grownBy w8 (Value.slice va k vc).ownBlock → w8.heap[w.heap.size + 2]? = some (.cells #[.slice va k vc, .bool false] 123 (0, 0))) := fun ob w8 hg => by
        have h1 : (V.drew.alloc ob).heap[w.heap.size + 2]? = some (.cells #[.slice va k vc, .bool false] 123 (0, 0)) := row_below (w := V.drew) (Below.one _ _) HGv.out
        exact (hg.block _ (lt_of_row h1) (fun e2 => ow_ne (w := V.drew) hown HGv.out (by decide) e2.symm)).trans h1
      have KL : Hid (∀ (ob : Obj) (w8 : World), (V.drew.alloc ob).grownBy w8 (Value.slice va k vc).ownBlock → Below w.heap.size w w8) := fun ob w8 hg => by
        have h1 : Below w.heap.size w (V.drew.alloc ob) := (HB.out.trans (HBV.out.mono HB.out.size)).drew.alloc (by simp; omega) _
        exact h1.grown hg h1.size (fun i hi => (hown.lt i hi).1)
      go_wp2_with fail
      go_region_law (refine step_append_lies _ rfl (.tmp 23) (.tmp 26) 121 rfl w.heap.size 125 i0 (.agg #[.int .i64 0, .int .i64 0, .int .i64 0, .int .i64 0, .int .i64 0]) 5 40 Tryd.underlying121 hi hz0 hz1 hz2 rfl (by decide) (.slice va k vc) k (((gs.take k).map WG.new).flatMap encW) (by simp [Act.eval]) (hown.alloc _) ⟨V.heap.size, 0, .none⟩ 1 1 [.int .i64 x.fr, .int .i64 x.to, .int .i64 x.mn, .int .i64 x.mx, .int .i64 (-1)] (by simp [Act.eval]) rfl (ce_at V.drew [.int .i64 x.fr, .int .i64 x.to, .int .i64 x.mn, .int .i64 x.mx, .int .i64 (-1)] 125) (encW_one ⟨x, -1⟩) (by decide) (by unfold maxLen; omega) (by omega) (by simp; omega) (V.heap.size + 1) (by simp) ?_; intro g' cap' w8 hown8 hgrow8 hor hlt8; have r8 := KB.out _ _ hgrow8; have d8 : w8.cell? ⟨w.heap.size + 2, 0, none⟩ = some (.slice va k vc) := (by simp [World.cell?, r8]); have d9 : w8.frozen? ⟨w.heap.size + 2, 0, none⟩ = false := (by simp [World.frozen?, r8]))
      all_goals
        go_wp2_with fail
        go_roundw
        case rel =>
          refine ⟨k + 1, by omega, by go_num, ?_, some ⟨g', 0, none⟩, cap', ?_, ?_⟩
          · exact (KL.out _ _ hgrow8).setCell (p := ⟨w.heap.size + 2, 0, none⟩) (by simp) _
          · simp [World.setCell, Array.getElem?_modify, r8]
          · rw [HX.out]
            exact hown8.kept (grown_setCell w8 _ _ _) (Or.inr (fun e2 => ow_ne hown8 r8 (by decide) e2))
        case measure => simp [intOf]; omega
    · have k1 : ¬ (k : Int) < (gs.length : Int) := by omega
      have hkk : k = gs.length := by omega
      have HF : Hid (∃ sa cap, GpAt w.heap.size wr (w.heap.size + 2) sa cap ⟨(gs.take k).map WG.new, false⟩) := gp_of_own HGk.out (by
        have := HOk.out
        show World.ownsRow _ _ _ _ _ _ _
        rw [show ((gs.take k).map WG.new).length = k by simp; omega]
        exact this) (by omega) (by rw [hkk, List.take_length]; exact GSt.fit_new gs)
      have HE : Hid (GSt.new gs = ⟨(gs.take k).map WG.new, false⟩) := by show _ = _; rw [hkk, List.take_length]; rfl
      go_wp2
      go_ret
      refine ⟨_, rfl, HB.out, ?_⟩
      rw [HE.out]
      exact HF.out
end Go.Proofs.YtpaolneaomeoiabDoor
