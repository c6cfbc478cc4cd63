/-
  Several texts as one: GaNew, LoWat.
-/
import Derived.Test.YtkphpgdgbnmnjacGreatDoorB07C
import Derived.Test.YtkphpgdgbnmnjacGreatDoorB03C
import Derived.Test.YtkphpgdgbnmnjacGreatDoorB05C
namespace Go.Proofs.YtkphpgdgbnmnjacGreatDoor
open Go.RowKit Go.Extern.Stop Go.Stop Go.Extern

theorem Tryz.infoGap : (Tryz.prog.info? 236).map (fun i => (i.zero, i.size, i.bytes)) = some (some (.agg #[.int .i64 0, .int .i64 0, .int .i64 0, .int .i64 0, .int .i64 0]), 5, 40) := by kernel_rfl
/-- 'make(T, 0, n)', for the walk. -/
theorem wpList_make0 {w : World} {ops : Array Oper} {rest : List Oper} {o : Oper} {a : Act} {Q : Exit → Act → World → Prop} (hgd : o.guard = none) (l c : Operand) (t : TypeId)
    (ho : o.op = Op.makeSlice t l c) (B : Nat) (e : TypeId) (i : TypeInfo) (z : Value) (size bytes : Nat) (ht : Tryz.prog.underlying t = some (.slice e)) (hi : Tryz.prog.info? e = some i) (hz : i.zero = some z) (hsize : i.size = size) (hby : i.bytes = bytes) (n : Nat)
    (hl : a.eval l = .int .i64 0) (hc : a.eval c = .int .i64 (n : Int)) (hn : n ≤ 1000000) (hbb : bytes ≤ 1000) (hB : B ≤ w.heap.size)
    (h : ∀ w', w'.ownsRow B e size (.slice (some ⟨w.heap.size, 0, none⟩) 0 n) 0 [] → Below w.heap.size w w' → w'.heap.size = w.heap.size + 1 → wpList Tryz.prog ops Q rest (a.put o.dst (.slice (some ⟨w.heap.size, 0, none⟩) 0 n)) w') : wpList Tryz.prog ops Q (o :: rest) a w := by
  refine wpList_plain hgd fun K hK => ?_
  have hm : i.bytes * n ≤ 1000 * 1000000 := Nat.mul_le_mul (by omega) hn
  have hr := run_make (P := Tryz.prog) w t e i z ht hi hz .i64 .i64 0 n (Int.le_refl _) (by omega) (by have : ((i.bytes * n : Nat) : Int) ≤ 281474976710656 := (by omega); rwa [Int.natCast_mul] at this) (by omega)
  simp only [Int.toNat_zero, Int.toNat_natCast] at hr
  unfold Oper.wp execOp
  simp only [ho, hl, hc, Sem.run_bind, Sem.run_pure, Result.andThen_ok, hr]
  refine hK _ _ (h _ ?_ (Below.one _ _) (by simp))
  have := World.ownsRow_made (e := e) (size := size) w (madeCells z.cells (n * i.size)) n hB (by unfold maxLen; omega) (by rw [size_madeCells, hsize])
  exact this

variable {B b cap : Nat} {w0 w w' : World} {sa : Option Addr} {s : GSt} {xs : List WG}
theorem gp_of_own {v : Value} {xs : List WG} {bad : Bool} (hb : w.heap[b]? = some (.cells #[v, .bool bad] 234 (0, 0))) (ho : SlOwn encW 5 236 B w v xs) (hlo : B ≤ b) (hf : GSt.fit ⟨xs, bad⟩) : ∃ sa cap, GpAt B w b sa cap ⟨xs, bad⟩ := by
  rcases ho.2 with ⟨rfl, h0⟩ | ⟨g, cap, cur, rfl, hB, hg, hle, -⟩
  · have : xs = [] := List.eq_nil_of_length_eq_zero h0
    subst this
    exact ⟨none, 0, hb, fun e => absurd rfl e, hlo, hf⟩
  · refine ⟨_, cap, hb, fun hne => ⟨g, 0, rfl, fun e => ?_, hB, fun i x hx j u hu => ?_, cur, hg⟩, hlo, hf⟩
    · subst e
      rw [hg] at hb
      simp only [Option.some.injEq, Obj.cells.injEq] at hb
      exact absurd hb.2.1 (by decide)
    · have := ho.cells (g := g) rfl (i * 5 + j) u (flat_at encW_len xs i j x u hx hu)
      rw [addC_plain] at this
      rw [Nat.add_assoc]
      exact this
set_option maxHeartbeats 2000000 in
set_option maxRecDepth 100000 in
theorem gp_new (name : ByteArray) (tol cnt mn mx : Int) (pv ev fv lv : Value) (ga : Option Addr) (gc : Nat) (gs : List GapD) (w : World) (hg : SlAt encG 4 w (.slice ga gs.length gc) gs) (hlen : gs.length ≤ 1000000) :
    Calls Tryz.prog 111 #[.agg #[.string name, .int .i64 tol, pv, .int .i64 cnt, .int .i64 mn, .int .i64 mx, .slice ga gs.length gc, ev, fv, lv]] w fun v w' => ∃ b, v = .returned (.pointer (some ⟨b, 0, none⟩)) ∧ GpIn w w' b (GSt.new gs) := by
  obtain ⟨i0, hi, hz0, hz1, hz2⟩ := info_parts Tryz.infoGap
  have HG : Hid (SlAt encG 4 w (.slice ga gs.length gc) gs) := hg
  have HL : Hid (gs.length ≤ 1000000) := hlen
  clear hg hlen
  go_enter Tryz.func111, Tryz.ntmps111
  go_upto_region 2 with (refine wpList_make0 rfl _ _ 232 rfl w.heap.size 236 i0 (.agg #[.int .i64 0, .int .i64 0, .int .i64 0, .int .i64 0, .int .i64 0]) 5 40 Tryz.underlying232 hi hz0 hz1 hz2 gs.length rfl rfl HL.out (by decide) (by simp) ?_; intro w1 hown1 hb1 hs1)
  obtain ⟨W, hW⟩ : ∃ V, V = w1.alloc (.cells #[.slice (some ⟨w.heap.size + 1, 0, none⟩) 0 gs.length, .bool false] 234) := ⟨_, rfl⟩
  have hs1' : w1.heap.size = w.heap.size + 2 := by rw [hs1]; simp
  clear hs1
  have hBl : Below w.heap.size w W := by rw [hW]; exact (((Below.refl _ _).alloc (Nat.le_refl _) _).trans (hb1.mono (by simp))).alloc (by omega) _
  have HBW : Hid (Below w.heap.size w W) := hBl
  have HG0 : Hid (W.heap[w.heap.size + 2]? = some (.cells #[.slice (some ⟨w.heap.size + 1, 0, none⟩) 0 gs.length, .bool false] 234 (0, 0))) := by
    show _ = _
    rw [hW, ← hs1']
    exact heap_alloc_new w1 _
  have e6 : W.cell? ⟨w.heap.size, 6, none⟩ = some (.slice ga gs.length gc) := by
    have h1 := row_below hb1 (heap_alloc_new w (.cells #[.string name, .int .i64 tol, pv, .int .i64 cnt, .int .i64 mn, .int .i64 mx, .slice ga gs.length gc, ev, fv, lv] 38))
    have h2 := row_below (Below.one w1 (.cells #[.slice (some ⟨w.heap.size + 1, 0, none⟩) 0 gs.length, .bool false] 234)) h1
    rw [hW]
    simp [World.cell?, h2]
  have HOw : Hid (W.ownsRow w.heap.size 236 5 (.slice (some ⟨w.heap.size + 1, 0, none⟩) 0 gs.length) 0 []) := by
    show World.ownsRow _ _ _ _ _ _ _
    have h3 := hown1
    simp only [World.size_alloc] at h3
    rw [hW]
    exact h3.alloc _
  have HSW : Hid (W.heap.size = w.heap.size + 3) := by show _ = _; rw [hW, World.size_alloc]; omega
  rw [← hW, show w.heap.size + 1 + 1 = w.heap.size + 2 from rfl]
  clear hW hown1 hb1 hs1' hBl
  go_wp2_with fail
  go_loopw [15, 5] (fun i _ wr => ∃ k : Nat, k ≤ gs.length ∧ i = .int .i64 k ∧ Below w.heap.size w wr ∧ ∃ va vc, wr.heap[w.heap.size + 2]? = some (.cells #[.slice va k vc, .bool false] 234 (0, 0)) ∧ wr.ownsRow w.heap.size 236 5 (.slice va k vc) k (((gs.take k).map WG.new).flatMap encW)) (fun i _ _ => gs.length - (intOf i).toNat)
  case atStart => exact ⟨0, Nat.zero_le _, rfl, HBW.out, _, _, HG0.out, by simpa using HOw.out⟩
  case round =>
    clear e6 HG0 HOw HBW HSW
    obtain ⟨k, hk, rfl, hbk, va, vc, hgk, hok⟩ := hrel
    have HB : Hid (Below w.heap.size w wr) := hbk
    have HGk : Hid (wr.heap[w.heap.size + 2]? = some (.cells #[.slice va k vc, .bool false] 234 (0, 0))) := hgk
    have HOk : Hid (wr.ownsRow w.heap.size 236 5 (.slice va k vc) k (((gs.take k).map WG.new).flatMap encW)) := hok
    clear hbk hgk hok
    by_cases hlt : k < gs.length
    · have k1 : (k : Int) < (gs.length : Int) := by omega
      have k2 : k < 1000000 := by have := HL.out; omega
      obtain ⟨x, hx⟩ : ∃ x, gs[k]? = some x := ⟨_, List.getElem?_eq_getElem hlt⟩
      have HX : Hid (((gs.take (k + 1)).map WG.new).flatMap encW = ((gs.take k).map WG.new).flatMap encW ++ [.int .i64 x.fr, .int .i64 x.to, .int .i64 x.mn, .int .i64 x.mx, .int .i64 (-1)]) := by
        show _ = _
        rw [List.take_add_one, hx]
        simp [encW, WG.new]
      obtain ⟨sa', cap', hsl, -, hcc⟩ := id HG.out
      cases hsl
      obtain ⟨g, o, rfl, hc0⟩ := hcc (fun h => by rw [h] at hx; simp at hx)
      have c0 : wr.cell? ⟨g, o + k * 4, none⟩ = some (.int .i64 x.fr) := cell_below HB.out (hc0 k _ hx 0 _ rfl)
      have c1 : wr.cell? ⟨g, o + k * 4 + 1, none⟩ = some (.int .i64 x.to) := cell_below HB.out (hc0 k _ hx 1 _ rfl)
      have c2 : wr.cell? ⟨g, o + k * 4 + 2, none⟩ = some (.int .i64 x.mn) := cell_below HB.out (hc0 k _ hx 2 _ rfl)
      have c3 : wr.cell? ⟨g, o + k * 4 + 3, none⟩ = some (.int .i64 x.mx) := cell_below HB.out (hc0 k _ hx 3 _ rfl)
      clear hcc hc0 hx
      go_upto_region 5 with fail
      obtain ⟨V, hV⟩ : ∃ V, V = wr.alloc (.cells #[.int .i64 x.fr, .int .i64 x.to, .int .i64 x.mn, .int .i64 x.mx] 138) := ⟨_, rfl⟩
      rw [← hV]
      have HBV : Hid (Below wr.heap.size wr V) := by show Below _ _ _; rw [hV]; exact Below.one _ _
      have HSV : Hid (V.heap.size = wr.heap.size + 1) := by show _ = _; rw [hV, World.size_alloc]
      have dd : ∀ (j : Nat) u, ([.int .i64 x.fr, .int .i64 x.to, .int .i64 x.mn, .int .i64 x.mx] : List Value)[j]? = some u → V.cell? ⟨wr.heap.size, 0 + j, none⟩ = some u := fun j u hu => by
        rw [hV]
        have := ce_at wr [.int .i64 x.fr, .int .i64 x.to, .int .i64 x.mn, .int .i64 x.mx] 138 j u hu
        rwa [addC_plain] at this
      have d0 := dd 0 _ rfl
      have d1 := dd 1 _ rfl
      have d2 := dd 2 _ rfl
      have d3 := dd 3 _ rfl
      simp only [Nat.zero_add] at d0 d1 d2 d3
      clear hV c0 c1 c2 c3 dd
      have HGv : Hid (V.heap[w.heap.size + 2]? = some (.cells #[.slice va k vc, .bool false] 234 (0, 0))) := row_below HBV.out HGk.out
      have HOv : Hid (V.ownsRow w.heap.size 236 5 (.slice va k vc) k (((gs.take k).map WG.new).flatMap encW)) := SlOwnR.below HOk.out HBV.out
      have hown : V.drew.ownsRow w.heap.size 236 5 (.slice va k vc) k (((gs.take k).map WG.new).flatMap encW) := HOv.out
      have hLz : w.heap.size ≤ V.heap.size := Nat.le_trans HB.out.size (by have := HSV.out; omega)
      have c8 : V.cell? ⟨w.heap.size + 2, 0, none⟩ = some (.slice va k vc) := by simp [World.cell?, HGv.out]
      have c8' : ∀ ob, (V.alloc ob).cell? ⟨w.heap.size + 2, 0, none⟩ = some (.slice va k vc) := fun ob => cell_below (Below.one _ _) c8
      have d0' : ∀ ob, (V.alloc ob).cell? ⟨wr.heap.size, 0, none⟩ = some (.int .i64 x.fr) := fun ob => cell_below (Below.one _ _) d0
      have KB : Hid (∀ (ob : Obj) (w8 : World), (V.drew.alloc ob).grownBy w8 (Value.slice va k vc).ownBlock → w8.heap[w.heap.size + 2]? = some (.cells #[.slice va k vc, .bool false] 234 (0, 0))) := fun ob w8 hg => by
        have h1 : (V.drew.alloc ob).heap[w.heap.size + 2]? = some (.cells #[.slice va k vc, .bool false] 234 (0, 0)) := row_below (w := V.drew) (Below.one _ _) HGv.out
        exact (hg.block _ (lt_of_row h1) (fun e2 => ow_ne (w := V.drew) hown HGv.out (by decide) e2.symm)).trans h1
      have KL : Hid (∀ (ob : Obj) (w8 : World), (V.drew.alloc ob).grownBy w8 (Value.slice va k vc).ownBlock → Below w.heap.size w w8) := fun ob w8 hg => by
        have h1 : Below w.heap.size w (V.drew.alloc ob) := (HB.out.trans (HBV.out.mono HB.out.size)).drew.alloc (by simp; omega) _
        exact h1.grown hg h1.size (fun i hi => (hown.lt i hi).1)
      go_wp2_with fail
      go_region_law (refine step_append_lies _ rfl (.tmp 23) (.tmp 26) 232 rfl w.heap.size 236 i0 (.agg #[.int .i64 0, .int .i64 0, .int .i64 0, .int .i64 0, .int .i64 0]) 5 40 Tryz.underlying232 hi hz0 hz1 hz2 rfl (by decide) (.slice va k vc) k (((gs.take k).map WG.new).flatMap encW) (by simp [Act.eval]) (hown.alloc _) ⟨V.heap.size, 0, .none⟩ 1 1 [.int .i64 x.fr, .int .i64 x.to, .int .i64 x.mn, .int .i64 x.mx, .int .i64 (-1)] (by simp [Act.eval]) rfl (ce_at V.drew [.int .i64 x.fr, .int .i64 x.to, .int .i64 x.mn, .int .i64 x.mx, .int .i64 (-1)] 236) (encW_one ⟨x, -1⟩) (by decide) (by unfold maxLen; omega) (by omega) (by simp; omega) (V.heap.size + 1) (by simp) ?_; intro g' cap' w8 hown8 hgrow8 hor hlt8; have r8 := KB.out _ _ hgrow8; have d8 : w8.cell? ⟨w.heap.size + 2, 0, none⟩ = some (.slice va k vc) := (by simp [World.cell?, r8]); have d9 : w8.frozen? ⟨w.heap.size + 2, 0, none⟩ = false := (by simp [World.frozen?, r8]))
      all_goals
        go_wp2_with fail
        go_roundw
        case rel =>
          refine ⟨k + 1, by omega, by go_num, ?_, some ⟨g', 0, none⟩, cap', ?_, ?_⟩
          · exact (KL.out _ _ hgrow8).setCell (p := ⟨w.heap.size + 2, 0, none⟩) (by simp) _
          · simp [World.setCell, Array.getElem?_modify, r8]
          · rw [HX.out]
            exact hown8.kept (grown_setCell w8 _ _ _) (Or.inr (fun e2 => ow_ne hown8 r8 (by decide) e2))
        case measure => simp [intOf]; omega
    · have k1 : ¬ (k : Int) < (gs.length : Int) := by omega
      have hkk : k = gs.length := by omega
      have HF : Hid (∃ sa cap, GpAt w.heap.size wr (w.heap.size + 2) sa cap ⟨(gs.take k).map WG.new, false⟩) := gp_of_own HGk.out (by
        have := HOk.out
        show World.ownsRow _ _ _ _ _ _ _
        rw [show ((gs.take k).map WG.new).length = k by simp; omega]
        exact this) (by omega) (by rw [hkk, List.take_length]; exact GSt.fit_new gs)
      have HE : Hid (GSt.new gs = ⟨(gs.take k).map WG.new, false⟩) := by show _ = _; rw [hkk, List.take_length]; rfl
      go_wp2
      go_ret
      refine ⟨_, rfl, HB.out, ?_⟩
      rw [HE.out]
      exact HF.out
end Go.Proofs.YtkphpgdgbnmnjacGreatDoor

namespace Go.Proofs.YtkphpgdgbnmnjacGreatDoor
open Go.RowKit Go.Extern.Stop Go.Stop Go.Extern

section
variable {F F' : Nat → Prop} {w w' w'' : World} {b ba bg bf : Nat} {e : EntD} {E : EA} {s : WSt}
def entV (e : EntD) (E : EA) : Value := .agg #[.string e.name, .int .i64 e.tol, .slice E.pa e.pts.length E.pc, .int .i64 e.cnt, .int .i64 e.mn, .int .i64 e.mx, .slice E.ga e.gaps.length E.gc, .slice E.ea e.edges.length E.ec, .slice E.fa e.first.length E.fc, .slice E.la e.last.length E.lc]
def PartsE (w : World) (e : EntD) (E : EA) : Prop := EntParts w e (.slice E.pa e.pts.length E.pc) (.slice E.ga e.gaps.length E.gc) (.slice E.ea e.edges.length E.ec) (.slice E.fa e.first.length E.fc) (.slice E.la e.last.length E.lc)
theorem PartsE.below (h : PartsE w e E) (hb : Below w.heap.size w w') : PartsE w' e E := EntParts.below h hb
/-- Pieces of a watch from block B on. -/
def GaF (B : Nat) (w : World) (bg : Nat) (s : GSt) : Prop := ∃ sa cap, GpAt 0 w bg sa cap s ∧ ∀ k, GS bg sa s.xs.length k → B ≤ k
def FlF (B : Nat) (w : World) (bf : Nat) (e : EntD) (s : FSt) : Prop := ∃ m n D fv lv, FlAt 0 w bf e s m n D fv lv ∧ B ≤ bf ∧ B ≤ m ∧ (∀ g, fv.ownBlock = some g → B ≤ g) ∧ ∀ g, lv.ownBlock = some g → B ≤ g
theorem gs_lt {B cap : Nat} {sa : Option Addr} {s : GSt} (h : GpAt B w b sa cap s) {k : Nat} (hk : GS b sa s.xs.length k) : k < w.heap.size := by
  rcases hk with rfl | ⟨h0, o, e1⟩
  · exact lt_of_row h.heap
  · obtain ⟨g, o', e2, -, -, -, cur, hf⟩ := h.sl (List.length_pos_iff.1 h0)
    rw [e1] at e2
    simp only [Option.some.injEq, Addr.mk.injEq, and_true] at e2
    obtain ⟨rfl, -⟩ := e2
    exact lt_of_row hf
theorem map_lt {B m n : Nat} {s : FSt} {D : DataW Unit} {fv lv : Value} (h : FlAt B w b e s m n D fv lv) : m < w.heap.size := by
  obtain ⟨es, c, hm0, rest⟩ := h.own
  exact lt_of_row hm0
theorem GaF.keep {B : Nat} {s : GSt} (h : GaF B w bg s) (hs : ∀ k, B ≤ k → k < w.heap.size → w'.heap[k]? = w.heap[k]?) : GaF B w' bg s := by
  obtain ⟨sa, cap, h1, h2⟩ := h
  exact ⟨sa, cap, h1.same (fun k hk => hs k (h2 k hk) (gs_lt h1 hk)), h2⟩
theorem FlF.keep {B : Nat} {s : FSt} (h : FlF B w bf e s) (hs : ∀ k, B ≤ k → k < w.heap.size → w'.heap[k]? = w.heap[k]?) : FlF B w' bf e s := by
  obtain ⟨m, n, D, fv, lv, h3, h4, h5, h6, h7⟩ := h
  exact ⟨m, n, D, fv, lv, h3.same (hs _ h4 (lt_of_row h3.heap)) (hs _ h5 (map_lt h3)) (fun g hg => hs g (h6 g hg) (h3.hf.lt g hg).2) (fun g hg => hs g (h7 g hg) (h3.hl.lt g hg).2), h4, h5, h6, h7⟩
def AlF (B : Nat) (w : World) (ba : Nat) (a : ASt) : Prop := AlAt w ba a ∧ B ≤ ba
theorem AlF.keep {B : Nat} {a : ASt} (h : AlF B w ba a) (hs : ∀ k, B ≤ k → k < w.heap.size → w'.heap[k]? = w.heap[k]?) : AlF B w' ba a := ⟨h.1.same (hs _ h.2 (lt_of_row h.1.heap)), h.2⟩
/-- What newWatch's statement yields, one by one. -/
def nwS (B r : Nat) (e : EntD) (E : EA) : Nat → Value → World → Prop
  | 0 => fun v _ => v = .agg #[.string e.name, .int .i64 e.tol, .slice E.pa e.pts.length E.pc, .int .i64 e.cnt, .int .i64 e.mn, .int .i64 e.mx, .slice E.ga e.gaps.length E.gc, .slice E.ea e.edges.length E.ec, .slice E.fa e.first.length E.fc, .slice E.la e.last.length E.lc]
  | 1 => fun v w => ∃ ba, v = .pointer (some ⟨ba, 0, none⟩) ∧ AlF B w ba (WSt.new e).a
  | 2 => fun v _ => v = .agg #[.string e.name, .int .i64 e.tol, .slice E.pa e.pts.length E.pc, .int .i64 e.cnt, .int .i64 e.mn, .int .i64 e.mx, .slice E.ga e.gaps.length E.gc, .slice E.ea e.edges.length E.ec, .slice E.fa e.first.length E.fc, .slice E.la e.last.length E.lc]
  | 3 => fun v w => ∃ bg, v = .pointer (some ⟨bg, 0, none⟩) ∧ GaF B w bg (WSt.new e).g
  | 4 => fun v _ => v = .agg #[.string e.name, .int .i64 e.tol, .slice E.pa e.pts.length E.pc, .int .i64 e.cnt, .int .i64 e.mn, .int .i64 e.mx, .slice E.ga e.gaps.length E.gc, .slice E.ea e.edges.length E.ec, .slice E.fa e.first.length E.fc, .slice E.la e.last.length E.lc]
  | 5 => fun v w => ∃ bf, v = .pointer (some ⟨bf, 0, none⟩) ∧ FlF B w bf e (WSt.new e).f
  | 6 => fun v w => ∃ ba bg bf, v = .agg #[.pointer (some ⟨ba, 0, none⟩), .pointer (some ⟨bg, 0, none⟩), .pointer (some ⟨bf, 0, none⟩)] ∧ AlF B w ba (WSt.new e).a ∧ GaF B w bg (WSt.new e).g ∧ FlF B w bf e (WSt.new e).f
  | 7 => fun _ w => ∃ ba bg bf, w.heap[r]? = some (.cells #[.pointer (some ⟨ba, 0, none⟩), .pointer (some ⟨bg, 0, none⟩), .pointer (some ⟨bf, 0, none⟩)] 145 (0, 0)) ∧ AlF B w ba (WSt.new e).a ∧ GaF B w bg (WSt.new e).g ∧ FlF B w bf e (WSt.new e).f
  | _ => fun _ _ => True
theorem nwS_keeps {B r : Nat} (hs : ∀ k, B ≤ k → k < w.heap.size → w'.heap[k]? = w.heap[k]?) : ∀ j v, (j = 7 → w'.heap[r]? = w.heap[r]?) → nwS B r e E j v w → nwS B r e E j v w' := by
  intro j v h7 h
  match j, h7, h with
  | 0, _, h => exact h
  | 1, _, h => obtain ⟨ba, h1, h2⟩ := h; exact ⟨ba, h1, h2.keep hs⟩
  | 2, _, h => exact h
  | 3, _, h => obtain ⟨ba, h1, h2⟩ := h; exact ⟨ba, h1, h2.keep hs⟩
  | 4, _, h => exact h
  | 5, _, h => obtain ⟨ba, h1, h2⟩ := h; exact ⟨ba, h1, h2.keep hs⟩
  | 6, _, h => obtain ⟨ba, bg, bf, h1, h2, h3, h4⟩ := h; exact ⟨ba, bg, bf, h1, h2.keep hs, h3.keep hs, h4.keep hs⟩
  | 7, h7, h => obtain ⟨ba, bg, bf, h1, h2, h3, h4⟩ := h; exact ⟨ba, bg, bf, (h7 rfl).trans h1, h2.keep hs, h3.keep hs, h4.keep hs⟩
  | n + 8, _, h => exact h
theorem GpAt.zero {B cap : Nat} {sa : Option Addr} {s : GSt} (h : GpAt B w b sa cap s) : GpAt 0 w b sa cap s := by
  refine ⟨h.heap, fun hne => ?_, Nat.zero_le _, h.fit⟩
  obtain ⟨g, o, e1, h1, h2, r⟩ := h.sl hne
  exact ⟨g, o, e1, h1, Nat.zero_le _, r⟩
theorem GpAt.gs_lo {B cap : Nat} {sa : Option Addr} {s : GSt} (h : GpAt B w b sa cap s) {k : Nat} (hk : GS b sa s.xs.length k) : B ≤ k := by
  rcases hk with rfl | ⟨h0, o, e1⟩
  · exact h.lo
  · obtain ⟨g, o', e2, -, hB, -⟩ := h.sl (List.length_pos_iff.1 h0)
    rw [e1] at e2
    simp only [Option.some.injEq, Addr.mk.injEq, and_true] at e2
    obtain ⟨rfl, -⟩ := e2
    exact hB
theorem own0 {α : Type} {enc : α → List Value} {k B : Nat} {T : TypeId} {v : Value} {xs : List α} (h : SlOwn enc k T B w v xs) : SlOwn enc k T 0 w v xs := ⟨h.1, h.2.imp id fun ⟨g, cap, cur, h1, _, h3⟩ => ⟨g, cap, cur, h1, Nat.zero_le _, h3⟩⟩
theorem FlAt.zero {B m n : Nat} {s : FSt} {D : DataW Unit} {fv lv : Value} (h : FlAt B w b e s m n D fv lv) : FlAt 0 w b e s m n D fv lv := ⟨h.heap, Nat.zero_le _, h.own, h.edg, own0 h.hf, own0 h.hl, h.fit, h.sm, h.wf⟩
theorem row_put3 {r : Nat} {T : TypeId} {a b c x y z : Value} (hr : w.heap[r]? = some (.cells #[x, y, z] T (0, 0))) : (((w.setCell ⟨r, 0, none⟩ a).setCell ⟨r, 1, none⟩ b).setCell ⟨r, 2, none⟩ c).heap[r]? = some (.cells #[a, b, c] T (0, 0)) := by
  simp [World.setCell, Array.getElem?_modify, hr]
theorem Tryz.sizeWatch : (Tryz.prog.info? 145).map (·.size) = some 3 := by kernel_rfl
set_option maxHeartbeats 4000000 in
set_option maxRecDepth 100000 in
theorem newWatch_at (w : World) (e : EntD) (E : EA) (hP : PartsE w e E) (hS : SmallE e) (hW : WfE e.edges) :
    Calls Tryz.prog 81 #[.agg #[.string e.name, .int .i64 e.tol, .slice E.pa e.pts.length E.pc, .int .i64 e.cnt, .int .i64 e.mn, .int .i64 e.mx, .slice E.ga e.gaps.length E.gc, .slice E.ea e.edges.length E.ec, .slice E.fa e.first.length E.fc, .slice E.la e.last.length E.lc]] w fun v w' => (∃ ba bg bf, v = .returned (.agg #[.pointer (some ⟨ba, 0, none⟩), .pointer (some ⟨bg, 0, none⟩), .pointer (some ⟨bf, 0, none⟩)]) ∧ WatAt (fun k => w.heap.size ≤ k) w' ba bg bf e (WSt.new e)) ∧ Below w.heap.size w w' := by
  have HP : Hid (PartsE w e E) := hP
  have HS : Hid (SmallE e) := hS
  have HW : Hid (WfE e.edges) := hW
  clear hP hS hW
  go_enter Tryz.func81, Tryz.ntmps81
  go_wp2_with fail
  obtain ⟨W, hW⟩ : ∃ V, V = (w.alloc (.cells #[.string e.name, .int .i64 e.tol, .slice E.pa e.pts.length E.pc, .int .i64 e.cnt, .int .i64 e.mn, .int .i64 e.mx, .slice E.ga e.gaps.length E.gc, .slice E.ea e.edges.length E.ec, .slice E.fa e.first.length E.fc, .slice E.la e.last.length E.lc] 38)).alloc (.cells #[.pointer none, .pointer none, .pointer none] 145) := ⟨_, rfl⟩
  rw [← hW]
  have HBW : Hid (Below w.heap.size w W) := by show Below _ _ _; rw [hW]; exact (Below.one _ _).alloc (by simp) _
  have hsz : W.heap.size = w.heap.size + 2 := by rw [hW]; simp
  have HX : Hid (W.heap[w.heap.size]? = some (.cells #[.string e.name, .int .i64 e.tol, .slice E.pa e.pts.length E.pc, .int .i64 e.cnt, .int .i64 e.mn, .int .i64 e.mx, .slice E.ga e.gaps.length E.gc, .slice E.ea e.edges.length E.ec, .slice E.fa e.first.length E.fc, .slice E.la e.last.length E.lc] 38 (0, 0))) := by
    show _ = _
    rw [hW]
    exact row_below (Below.one _ _) (heap_alloc_new w _)
  have HR : Hid (W.heap[w.heap.size + 1]? = some (.cells #[.pointer none, .pointer none, .pointer none] 145 (0, 0))) := by
    show _ = _
    rw [hW]
    have := heap_alloc_new (w.alloc (.cells #[.string e.name, .int .i64 e.tol, .slice E.pa e.pts.length E.pc, .int .i64 e.cnt, .int .i64 e.mn, .int .i64 e.mx, .slice E.ga e.gaps.length E.gc, .slice E.ea e.edges.length E.ec, .slice E.fa e.first.length E.fc, .slice E.la e.last.length E.lc] 38)) (.cells #[.pointer none, .pointer none, .pointer none] 145)
    simpa using this
  have HZ : Hid (W.heap.size = w.heap.size + 2) := hsz
  clear hW hsz
  refine region_spec2 8 rfl (nwS (w.heap.size + 2) (w.heap.size + 1) e E) (fun done V => Below w.heap.size w V ∧ V.heap[w.heap.size]? = some (.cells #[.string e.name, .int .i64 e.tol, .slice E.pa e.pts.length E.pc, .int .i64 e.cnt, .int .i64 e.mn, .int .i64 e.mx, .slice E.ga e.gaps.length E.gc, .slice E.ea e.edges.length E.ec, .slice E.fa e.first.length E.fc, .slice E.la e.last.length E.lc] 38 (0, 0)) ∧ w.heap.size + 2 ≤ V.heap.size ∧ (done 7 = false → V.heap[w.heap.size + 1]? = some (.cells #[.pointer none, .pointer none, .pointer none] 145 (0, 0)))) (by kernel_rfl) (by kernel_rfl) ⟨HBW.out.drew, HX.out, by have := HZ.out; show _ ≤ W.heap.size; omega, fun _ => HR.out⟩ ?_ ?_
  · intro i o ho
    match i, ho with
    | 0, ho =>
      obtain rfl := Option.some.inj ho
      refine StepOk2.free rfl ?_
      intro done a V hC hdn _ hdep hoth
      have x1 : a.tmps[1]?.getD undef = .pointer (some ⟨w.heap.size, 0, none⟩) := slot_of (hoth 1 (notDst (by kernel_rfl)))
      have hrow := hC.2.1
      have c0 : V.cell? ⟨w.heap.size, 0, none⟩ = some (.string e.name) := by simp [World.cell?, hrow]
      have c1 : V.cell? ⟨w.heap.size, 1, none⟩ = some (.int .i64 e.tol) := by simp [World.cell?, hrow]
      have c2 : V.cell? ⟨w.heap.size, 2, none⟩ = some (.slice E.pa e.pts.length E.pc) := by simp [World.cell?, hrow]
      have c3 : V.cell? ⟨w.heap.size, 3, none⟩ = some (.int .i64 e.cnt) := by simp [World.cell?, hrow]
      have c4 : V.cell? ⟨w.heap.size, 4, none⟩ = some (.int .i64 e.mn) := by simp [World.cell?, hrow]
      have c5 : V.cell? ⟨w.heap.size, 5, none⟩ = some (.int .i64 e.mx) := by simp [World.cell?, hrow]
      have c6 : V.cell? ⟨w.heap.size, 6, none⟩ = some (.slice E.ga e.gaps.length E.gc) := by simp [World.cell?, hrow]
      have c7 : V.cell? ⟨w.heap.size, 7, none⟩ = some (.slice E.ea e.edges.length E.ec) := by simp [World.cell?, hrow]
      have c8 : V.cell? ⟨w.heap.size, 8, none⟩ = some (.slice E.fa e.first.length E.fc) := by simp [World.cell?, hrow]
      have c9 : V.cell? ⟨w.heap.size, 9, none⟩ = some (.slice E.la e.last.length E.lc) := by simp [World.cell?, hrow]
      exact goodRun2.val (c := .agg #[.string e.name, .int .i64 e.tol, .slice E.pa e.pts.length E.pc, .int .i64 e.cnt, .int .i64 e.mn, .int .i64 e.mx, .slice E.ga e.gaps.length E.gc, .slice E.ea e.edges.length E.ec, .slice E.fa e.first.length E.fc, .slice E.la e.last.length E.lc]) (by clear hdep hoth hC hrow; go_simp) ⟨hC.1, hC.2.1, hC.2.2.1, by rw [mark_other done (by decide)]; exact hC.2.2.2⟩ rfl
    | 1, ho =>
      obtain rfl := Option.some.inj ho
      refine StepOk2.free rfl ?_
      intro done a V hC hdn _ hdep hoth
      have x3 : a.tmps[3]?.getD undef = .agg #[.string e.name, .int .i64 e.tol, .slice E.pa e.pts.length E.pc, .int .i64 e.cnt, .int .i64 e.mn, .int .i64 e.mx, .slice E.ga e.gaps.length E.gc, .slice E.ea e.edges.length E.ec, .slice E.fa e.first.length E.fc, .slice E.la e.last.length E.lc] := slot_of (hdep _ 3 (Array.mem_of_getElem? (i := 0) rfl) rfl rfl)
      refine goodRun2.call (f := 110) (args := #[.agg #[.string e.name, .int .i64 e.tol, .slice E.pa e.pts.length E.pc, .int .i64 e.cnt, .int .i64 e.mn, .int .i64 e.mx, .slice E.ga e.gaps.length E.gc, .slice E.ea e.edges.length E.ec, .slice E.fa e.first.length E.fc, .slice E.la e.last.length E.lc]]) (by clear hdep hoth hC; go_simp) ?_
      refine (al_new e.name e.tol e.cnt e.mn e.mx _ _ _ _ _ _ _ V).mono ?_
      rintro v V' ⟨b, rfl, hA⟩
      have hb' := hA.bel
      have hk : ∀ k, w.heap.size + 2 ≤ k → k < V.heap.size → V'.heap[k]? = V.heap[k]? := fun k _ h => hb'.block k h
      refine ⟨_, rfl, ⟨hC.1.trans (hb'.mono hC.1.size), row_below hb' hC.2.1, Nat.le_trans hC.2.2.1 hb'.size, fun hd => row_below hb' (hC.2.2.2 (by rwa [mark_other done (by decide)] at hd))⟩, fun j v hj h => nwS_keeps hk j v (fun _ => hb'.block _ (by have := hC.2.2.1; omega)) h, ?_⟩
      exact ⟨b, rfl, hA.at', Nat.le_trans hC.2.2.1 hA.lo⟩
    | 2, ho =>
      obtain rfl := Option.some.inj ho
      refine StepOk2.free rfl ?_
      intro done a V hC hdn _ hdep hoth
      have x1 : a.tmps[1]?.getD undef = .pointer (some ⟨w.heap.size, 0, none⟩) := slot_of (hoth 1 (notDst (by kernel_rfl)))
      have hrow := hC.2.1
      have c0 : V.cell? ⟨w.heap.size, 0, none⟩ = some (.string e.name) := by simp [World.cell?, hrow]
      have c1 : V.cell? ⟨w.heap.size, 1, none⟩ = some (.int .i64 e.tol) := by simp [World.cell?, hrow]
      have c2 : V.cell? ⟨w.heap.size, 2, none⟩ = some (.slice E.pa e.pts.length E.pc) := by simp [World.cell?, hrow]
      have c3 : V.cell? ⟨w.heap.size, 3, none⟩ = some (.int .i64 e.cnt) := by simp [World.cell?, hrow]
      have c4 : V.cell? ⟨w.heap.size, 4, none⟩ = some (.int .i64 e.mn) := by simp [World.cell?, hrow]
      have c5 : V.cell? ⟨w.heap.size, 5, none⟩ = some (.int .i64 e.mx) := by simp [World.cell?, hrow]
      have c6 : V.cell? ⟨w.heap.size, 6, none⟩ = some (.slice E.ga e.gaps.length E.gc) := by simp [World.cell?, hrow]
      have c7 : V.cell? ⟨w.heap.size, 7, none⟩ = some (.slice E.ea e.edges.length E.ec) := by simp [World.cell?, hrow]
      have c8 : V.cell? ⟨w.heap.size, 8, none⟩ = some (.slice E.fa e.first.length E.fc) := by simp [World.cell?, hrow]
      have c9 : V.cell? ⟨w.heap.size, 9, none⟩ = some (.slice E.la e.last.length E.lc) := by simp [World.cell?, hrow]
      exact goodRun2.val (c := .agg #[.string e.name, .int .i64 e.tol, .slice E.pa e.pts.length E.pc, .int .i64 e.cnt, .int .i64 e.mn, .int .i64 e.mx, .slice E.ga e.gaps.length E.gc, .slice E.ea e.edges.length E.ec, .slice E.fa e.first.length E.fc, .slice E.la e.last.length E.lc]) (by clear hdep hoth hC hrow; go_simp) ⟨hC.1, hC.2.1, hC.2.2.1, by rw [mark_other done (by decide)]; exact hC.2.2.2⟩ rfl
    | 3, ho =>
      obtain rfl := Option.some.inj ho
      refine StepOk2.free rfl ?_
      intro done a V hC hdn _ hdep hoth
      have x5 : a.tmps[5]?.getD undef = .agg #[.string e.name, .int .i64 e.tol, .slice E.pa e.pts.length E.pc, .int .i64 e.cnt, .int .i64 e.mn, .int .i64 e.mx, .slice E.ga e.gaps.length E.gc, .slice E.ea e.edges.length E.ec, .slice E.fa e.first.length E.fc, .slice E.la e.last.length E.lc] := slot_of (hdep _ 5 (Array.mem_of_getElem? (i := 0) rfl) rfl rfl)
      refine goodRun2.call (f := 111) (args := #[.agg #[.string e.name, .int .i64 e.tol, .slice E.pa e.pts.length E.pc, .int .i64 e.cnt, .int .i64 e.mn, .int .i64 e.mx, .slice E.ga e.gaps.length E.gc, .slice E.ea e.edges.length E.ec, .slice E.fa e.first.length E.fc, .slice E.la e.last.length E.lc]]) (by clear hdep hoth hC; go_simp) ?_
      refine (gp_new e.name e.tol e.cnt e.mn e.mx _ _ _ _ _ _ e.gaps V (HP.out.below hC.1).hg HS.out.hg).mono ?_
      rintro v V' ⟨b, rfl, hb', sa, cap, hG⟩
      have hk : ∀ k, w.heap.size + 2 ≤ k → k < V.heap.size → V'.heap[k]? = V.heap[k]? := fun k _ h => hb'.block k h
      refine ⟨_, rfl, ⟨hC.1.trans (hb'.mono hC.1.size), row_below hb' hC.2.1, Nat.le_trans hC.2.2.1 hb'.size, fun hd => row_below hb' (hC.2.2.2 (by rwa [mark_other done (by decide)] at hd))⟩, fun j v hj h => nwS_keeps hk j v (fun _ => hb'.block _ (by have := hC.2.2.1; omega)) h, ?_⟩
      refine ⟨b, rfl, sa, cap, hG.zero, fun k hk => ?_⟩
      exact Nat.le_trans hC.2.2.1 (hG.gs_lo hk)
    | 4, ho =>
      obtain rfl := Option.some.inj ho
      refine StepOk2.free rfl ?_
      intro done a V hC hdn _ hdep hoth
      have x1 : a.tmps[1]?.getD undef = .pointer (some ⟨w.heap.size, 0, none⟩) := slot_of (hoth 1 (notDst (by kernel_rfl)))
      have hrow := hC.2.1
      have c0 : V.cell? ⟨w.heap.size, 0, none⟩ = some (.string e.name) := by simp [World.cell?, hrow]
      have c1 : V.cell? ⟨w.heap.size, 1, none⟩ = some (.int .i64 e.tol) := by simp [World.cell?, hrow]
      have c2 : V.cell? ⟨w.heap.size, 2, none⟩ = some (.slice E.pa e.pts.length E.pc) := by simp [World.cell?, hrow]
      have c3 : V.cell? ⟨w.heap.size, 3, none⟩ = some (.int .i64 e.cnt) := by simp [World.cell?, hrow]
      have c4 : V.cell? ⟨w.heap.size, 4, none⟩ = some (.int .i64 e.mn) := by simp [World.cell?, hrow]
      have c5 : V.cell? ⟨w.heap.size, 5, none⟩ = some (.int .i64 e.mx) := by simp [World.cell?, hrow]
      have c6 : V.cell? ⟨w.heap.size, 6, none⟩ = some (.slice E.ga e.gaps.length E.gc) := by simp [World.cell?, hrow]
      have c7 : V.cell? ⟨w.heap.size, 7, none⟩ = some (.slice E.ea e.edges.length E.ec) := by simp [World.cell?, hrow]
      have c8 : V.cell? ⟨w.heap.size, 8, none⟩ = some (.slice E.fa e.first.length E.fc) := by simp [World.cell?, hrow]
      have c9 : V.cell? ⟨w.heap.size, 9, none⟩ = some (.slice E.la e.last.length E.lc) := by simp [World.cell?, hrow]
      exact goodRun2.val (c := .agg #[.string e.name, .int .i64 e.tol, .slice E.pa e.pts.length E.pc, .int .i64 e.cnt, .int .i64 e.mn, .int .i64 e.mx, .slice E.ga e.gaps.length E.gc, .slice E.ea e.edges.length E.ec, .slice E.fa e.first.length E.fc, .slice E.la e.last.length E.lc]) (by clear hdep hoth hC hrow; go_simp) ⟨hC.1, hC.2.1, hC.2.2.1, by rw [mark_other done (by decide)]; exact hC.2.2.2⟩ rfl
    | 5, ho =>
      obtain rfl := Option.some.inj ho
      refine StepOk2.free rfl ?_
      intro done a V hC hdn _ hdep hoth
      have x7 : a.tmps[7]?.getD undef = .agg #[.string e.name, .int .i64 e.tol, .slice E.pa e.pts.length E.pc, .int .i64 e.cnt, .int .i64 e.mn, .int .i64 e.mx, .slice E.ga e.gaps.length E.gc, .slice E.ea e.edges.length E.ec, .slice E.fa e.first.length E.fc, .slice E.la e.last.length E.lc] := slot_of (hdep _ 7 (Array.mem_of_getElem? (i := 0) rfl) rfl rfl)
      refine goodRun2.call (f := 112) (args := #[.agg #[.string e.name, .int .i64 e.tol, .slice E.pa e.pts.length E.pc, .int .i64 e.cnt, .int .i64 e.mn, .int .i64 e.mx, .slice E.ga e.gaps.length E.gc, .slice E.ea e.edges.length E.ec, .slice E.fa e.first.length E.fc, .slice E.la e.last.length E.lc]]) (by clear hdep hoth hC; go_simp) ?_
      refine (fl_new2 e _ _ _ _ _ _ _ _ _ _ V (HP.out.below hC.1) HS.out HW.out).mono ?_
      rintro v V' ⟨b, rfl, hb', m, n, D, fv, lv, hG, hm⟩
      have hk : ∀ k, w.heap.size + 2 ≤ k → k < V.heap.size → V'.heap[k]? = V.heap[k]? := fun k _ h => hb'.block k h
      refine ⟨_, rfl, ⟨hC.1.trans (hb'.mono hC.1.size), row_below hb' hC.2.1, Nat.le_trans hC.2.2.1 hb'.size, fun hd => row_below hb' (hC.2.2.2 (by rwa [mark_other done (by decide)] at hd))⟩, fun j v hj h => nwS_keeps hk j v (fun _ => hb'.block _ (by have := hC.2.2.1; omega)) h, ?_⟩
      have hl := hC.2.2.1
      exact ⟨b, rfl, m, n, D, fv, lv, hG.zero, Nat.le_trans hl hG.lo, Nat.le_trans hl hm, fun g hg => Nat.le_trans hl (hG.hf.lt g hg).1, fun g hg => Nat.le_trans hl (hG.hl.lt g hg).1⟩
    | 6, ho =>
      obtain rfl := Option.some.inj ho
      refine StepOk2.free rfl ?_
      intro done a V hC hdn _ hdep hoth
      obtain ⟨ba, ha1, ha2⟩ := hdep _ 4 (Array.mem_of_getElem? (i := 0) rfl) rfl rfl
      obtain ⟨bg, hg1, hg2⟩ := hdep _ 6 (Array.mem_of_getElem? (i := 1) rfl) rfl rfl
      obtain ⟨bf, hf1, hf2⟩ := hdep _ 8 (Array.mem_of_getElem? (i := 2) rfl) rfl rfl
      have x4 := slot_of ha1
      have x6 := slot_of hg1
      have x8 := slot_of hf1
      exact goodRun2.val (c := .agg #[.pointer (some ⟨ba, 0, none⟩), .pointer (some ⟨bg, 0, none⟩), .pointer (some ⟨bf, 0, none⟩)]) (by clear hdep hoth hC ha1 ha2 hg1 hg2 hf1 hf2; go_simp) ⟨hC.1, hC.2.1, hC.2.2.1, by rw [mark_other done (by decide)]; exact hC.2.2.2⟩ ⟨ba, bg, bf, rfl, ha2, hg2, hf2⟩
    | 7, ho =>
      obtain rfl := Option.some.inj ho
      refine StepOk2.free rfl ?_
      intro done a V hC hdn _ hdep hoth
      have x2 : a.tmps[2]?.getD undef = .pointer (some ⟨w.heap.size + 1, 0, none⟩) := slot_of (hoth 2 (notDst (by kernel_rfl)))
      obtain ⟨ba, bg, bf, hv, h1, h2, h3⟩ := hdep _ 9 (Array.mem_of_getElem? (i := 0) rfl) rfl rfl
      have x9 := slot_of hv
      have hr := hC.2.2.2 hdn
      have c0 : V.cell? ⟨w.heap.size + 1, 0, none⟩ = some (.pointer none) := by simp [World.cell?, hr]
      have c1 : V.cell? ⟨w.heap.size + 1, 1, none⟩ = some (.pointer none) := by simp [World.cell?, hr]
      have c2 : V.cell? ⟨w.heap.size + 1, 2, none⟩ = some (.pointer none) := by simp [World.cell?, hr]
      have f0 : ∀ i, V.frozen? ⟨w.heap.size + 1, i, none⟩ = false := fun i => by simp [World.frozen?, hr]
      have hg : V.grownBy (((V.setCell ⟨w.heap.size + 1, 0, none⟩ (.pointer (some ⟨ba, 0, none⟩))).setCell ⟨w.heap.size + 1, 1, none⟩ (.pointer (some ⟨bg, 0, none⟩))).setCell ⟨w.heap.size + 1, 2, none⟩ (.pointer (some ⟨bf, 0, none⟩))) (some (w.heap.size + 1)) := ((grown_setCell _ _ _ _).trans (grown_setCell _ _ _ _)).trans (grown_setCell _ _ _ _)
      have hk : ∀ k, w.heap.size + 2 ≤ k → k < V.heap.size → (((V.setCell ⟨w.heap.size + 1, 0, none⟩ (.pointer (some ⟨ba, 0, none⟩))).setCell ⟨w.heap.size + 1, 1, none⟩ (.pointer (some ⟨bg, 0, none⟩))).setCell ⟨w.heap.size + 1, 2, none⟩ (.pointer (some ⟨bf, 0, none⟩))).heap[k]? = V.heap[k]? := fun k h1 h => hg.block k h (by simp; omega)
      have hz := hC.2.2.1
      refine goodRun2.skipped (w' := ((V.setCell ⟨w.heap.size + 1, 0, none⟩ (.pointer (some ⟨ba, 0, none⟩))).setCell ⟨w.heap.size + 1, 1, none⟩ (.pointer (some ⟨bg, 0, none⟩))).setCell ⟨w.heap.size + 1, 2, none⟩ (.pointer (some ⟨bf, 0, none⟩))) (by clear hdep hoth hC hv h1 h2 h3 hg hk hr hz; go_simp) ⟨?_, ?_, Nat.le_trans hz hg.size, fun hd => by rw [mark_same] at hd; cases hd⟩ (fun j v hj h => nwS_keeps hk j v (fun e7 => by rw [e7, hdn] at hj; cases hj) h) ⟨ba, bg, bf, ?_, h1.keep hk, h2.keep hk, h3.keep hk⟩
      · exact hC.1.grown hg hC.1.size (fun i hi => by cases hi; omega)
      · exact (hg.block _ (by omega) (by simp)).trans hC.2.1
      · rw [row_put3 hr]
    | n + 8, ho => simp at ho
  · intro vals V hC hS
    obtain ⟨ba, bg, bf, hr, h1, h2, h3⟩ := hS 7 (by decide)
    have HB : Hid (Below w.heap.size w V) := hC.1
    have HRR : Hid (V.heap[w.heap.size + 1]? = some (.cells #[.pointer (some ⟨ba, 0, none⟩), .pointer (some ⟨bg, 0, none⟩), .pointer (some ⟨bf, 0, none⟩)] 145 (0, 0))) := hr
    have HWt : Hid (WatAt (fun k => w.heap.size ≤ k) V ba bg bf e (WSt.new e)) := by
      obtain ⟨sa, cap, g1, g2⟩ := h2
      obtain ⟨m, n, D, fv, lv, f3, f4, f5, f6, f7⟩ := h3
      refine ⟨h1.1, by have := h1.2; show w.heap.size ≤ ba; omega, ⟨sa, cap, g1, fun k hk => by have := g2 k hk; show w.heap.size ≤ k; omega⟩, ⟨m, n, D, fv, lv, f3, by show w.heap.size ≤ bf; omega, by show w.heap.size ≤ m; omega, fun g hg => by have := f6 g hg; show w.heap.size ≤ g; omega, fun g hg => by have := f7 g hg; show w.heap.size ≤ g; omega⟩, by simp [WSt.new, GSt.new]⟩
    clear hS hC hr h1 h2 h3 HP HX HR HBW HZ
    simp only [fill, dstOf]
    go_simp
    go_wp2_with fail
    refine bodyPost_ret (results_cell_row rfl _ _ (w.heap.size + 1) _ _ _ _ rfl HRR.out Tryz.underlying145 rfl Tryz.sizeWatch) rfl ?_
    exact ⟨⟨ba, bg, bf, rfl, HWt.out⟩, HB.out⟩
end
end Go.Proofs.YtkphpgdgbnmnjacGreatDoor
