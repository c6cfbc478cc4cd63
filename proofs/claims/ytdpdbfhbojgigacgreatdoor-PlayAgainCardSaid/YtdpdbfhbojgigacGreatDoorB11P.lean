/-
  Several texts as one: GaSt, GaOps, GaNew, DcHas, EqPair, LcMod, LcRep, KpPure.
-/
import Derived.Test.YtdpdbfhbojgigacGreatDoorB00P
import Derived.Test.YtdpdbfhbojgigacGreatDoorB10P
import Derived.Test.YtdpdbfhbojgigacGreatDoorB01P
import Derived.Test.YtdpdbfhbojgigacGreatDoorB08P
import Derived.Test.YtdpdbfhbojgigacGreatDoorB09P
import Derived.WalkSmall
import Derived.Laws.MakeOwn
import Derived.BigQuiet
import Derived.Deep.QuietTactic
import Derived.Deep.DeepCutAuto
import Derived.Deep.AppendLies
import Derived.Deep.RegionLaw
import Derived.Deep.RegionHeld3
import Derived.Laws.StructEq
namespace Go.Proofs.YtdpdbfhbojgigacGreatDoor
open Go.RowKit Go.Extern.Stop Go.Stop Go.Extern

def encW (x : WG) : List Value := [.int .i64 x.g.fr, .int .i64 x.g.to, .int .i64 x.g.mn, .int .i64 x.g.mx, .int .i64 x.t]
theorem encW_len (x : WG) : (encW x).length = 5 := rfl
theorem encW_one : ∀ (x : WG), ∀ u ∈ encW x, u.oneCell' = true := by intro x u hu; simp [encW] at hu; rcases hu with rfl | rfl | rfl | rfl | rfl <;> rfl
/-- The gaps' own cells: none lies in block b, none below B. -/
def WgAt (B b : Nat) (w : World) (sa : Option Addr) (xs : List WG) : Prop :=
  xs ≠ [] → ∃ g o, sa = some ⟨g, o, none⟩ ∧ g ≠ b ∧ B ≤ g ∧ (∀ i x, xs[i]? = some x → ∀ j u, (encW x)[j]? = some u → w.cell? ⟨g, o + i * 5 + j, none⟩ = some u) ∧ ∃ cur, w.heap[g]? = some (.cells cur 242 (0, 0))
/-- All blocks of other types are as they were. -/
def FrG (w w' : World) : Prop := ∀ (i : Nat) (c : Array Value) (T : TypeId) (fr : Nat × Nat), w.heap[i]? = some (.cells c T fr) → T ≠ 240 → T ≠ 242 → w'.heap[i]? = some (.cells c T fr)
theorem FrG.refl (w : World) : FrG w w := fun _ _ _ _ h _ _ => h
theorem FrG.trans {w w' w'' : World} (h : FrG w w') (h' : FrG w' w'') : FrG w w'' := fun i c T fr a b d => h' i c T fr (h i c T fr a b d) b d
theorem FrG.set {w : World} {b o : Nat} {c : Array Value} {T : TypeId} {fr : Nat × Nat} (hb : w.heap[b]? = some (.cells c T fr)) (hT : T = 240 ∨ T = 242) (v : Value) : FrG w (w.setCell ⟨b, o, none⟩ v) := fun i c' T' fr' h h1 h2 => by
  simp only [World.setCell, Array.getElem?_modify]
  rw [if_neg]
  · exact h
  · rintro rfl
    rw [hb] at h
    simp only [Option.some.injEq, Obj.cells.injEq] at h
    rcases hT with rfl | rfl
    · exact h1 h.2.1.symm
    · exact h2 h.2.1.symm
structure GpAt (B : Nat) (w : World) (b : Nat) (sa : Option Addr) (cap : Nat) (s : GSt) : Prop where
  heap : w.heap[b]? = some (.cells #[.slice sa s.xs.length cap, .bool s.bad] 240 (0, 0))
  sl : WgAt B b w sa s.xs
  lo : B ≤ b
  fit : s.fit
/-- A watch of the law's own, behind all that was in w0. -/
def GpIn (w0 w : World) (b : Nat) (s : GSt) : Prop := Below w0.heap.size w0 w ∧ ∃ sa cap, GpAt w0.heap.size w b sa cap s
variable {B b cap : Nat} {w0 w w' : World} {sa : Option Addr} {s : GSt} {xs : List WG}
theorem WgAt.below (h : WgAt B b w sa xs) (hb : Below w.heap.size w w') : WgAt B b w' sa xs := fun hne => by
  obtain ⟨g, o, e, h1, h2, hc, cur, hf⟩ := h hne
  exact ⟨g, o, e, h1, h2, fun i x hx j u hu => cell_below hb (hc i x hx j u hu), cur, row_below hb hf⟩
theorem GpAt.below (h : GpAt B w b sa cap s) (hb : Below w.heap.size w w') : GpAt B w' b sa cap s := ⟨row_below hb h.heap, h.sl.below hb, h.lo, h.fit⟩
theorem GpIn.below (h : GpIn w0 w b s) (hb : Below w.heap.size w w') : GpIn w0 w' b s := by
  obtain ⟨h0, sa, cap, h⟩ := h
  exact ⟨h0.trans (hb.mono h0.size), sa, cap, h.below hb⟩
theorem GpIn.from {w1 : World} (h : GpIn w1 w b s) (hb : Below w0.heap.size w0 w1) : GpIn w0 w b s := by
  obtain ⟨h0, sa, cap, h⟩ := h
  refine ⟨hb.trans (h0.mono hb.size), sa, cap, h.heap, fun hne => ?_, Nat.le_trans hb.size h.lo, h.fit⟩
  obtain ⟨g, o, e, h1, h2, r⟩ := h.sl hne
  exact ⟨g, o, e, h1, Nat.le_trans hb.size h2, r⟩
theorem drewN_below (w : World) (q : Nat) : Below w.heap.size w (w.drewN q) := below_drewN (Below.refl _ _) q
theorem GpIn.drewN (h : GpIn w0 w b s) (q : Nat) : GpIn w0 (w.drewN q) b s := h.below (drewN_below w q)
/-- 'bad' is set. -/
theorem GpAt.setBad (h : GpAt B w b sa cap s) (v : Bool) : GpAt B (w.setCell ⟨b, 1, none⟩ (.bool v)) b sa cap ⟨s.xs, v⟩ := by
  refine ⟨?_, fun hne => ?_, h.lo, h.fit⟩
  · simp only [World.setCell, Array.getElem?_modify, h.heap]
    simp
  · obtain ⟨g, o, e, h1, h2, hc, cur, hf⟩ := h.sl hne
    refine ⟨g, o, e, h1, h2, fun i x hx j u hu => (World.cell?_setCell_other _ _ _ _ (fun e => h1 (congrArg Addr.block e).symm)).trans (hc i x hx j u hu), cur, ?_⟩
    simp only [World.setCell, Array.getElem?_modify]
    rw [if_neg (fun e => h1 e.symm)]
    exact hf
theorem GpIn.setBad (h : GpIn w0 w b s) (v : Bool) : GpIn w0 (w.setCell ⟨b, 1, none⟩ (.bool v)) b ⟨s.xs, v⟩ := by
  obtain ⟨h0, sa, cap, h⟩ := h
  exact ⟨h0.setCell (p := ⟨b, 1, none⟩) h.lo _, sa, cap, h.setBad v⟩
/-- The tick of one gap is set. -/
theorem GpAt.setTick {g o k : Nat} {x : WG} {t : Int} (h : GpAt B w b (some ⟨g, o, none⟩) cap s) (hx : s.xs[k]? = some x) (ht : -1 ≤ t ∧ t ≤ 1099511627776) : GpAt B (w.setCell ⟨g, o + k * 5 + 4, none⟩ (.int .i64 t)) b (some ⟨g, o, none⟩) cap ⟨s.xs.set k ⟨x.g, t⟩, s.bad⟩ := by
  have hne : s.xs ≠ [] := fun e => by rw [e] at hx; simp at hx
  obtain ⟨g', o', e, h1, h2, hc, cur, hf⟩ := h.sl hne
  obtain ⟨rfl, rfl⟩ : g = g' ∧ o = o' := by simpa using e
  refine ⟨?_, fun _ => ⟨g, o, rfl, h1, h2, fun i y hy j u hu => ?_, cur.setIfInBounds (o + k * 5 + 4) (.int .i64 t), ?_⟩, h.lo, fun y hy => ?_⟩
  · simp only [World.setCell, Array.getElem?_modify]
    rw [if_neg h1, List.length_set]
    exact h.heap
  · simp only [List.getElem?_set] at hy
    split at hy
    · rename_i e1
      subst e1
      split at hy
      · cases hy
        have hj : j < 5 := by
          rcases Nat.lt_or_ge j 5 with h' | h'
          · exact h'
          · rw [List.getElem?_eq_none (by rw [encW_len]; exact h')] at hu; cases hu
        by_cases e4 : j = 4
        · subst e4
          have : u = .int .i64 t := by simpa [encW] using hu.symm
          subst this
          exact World.cell?_setCell_same _ _ _ (hc k x hx 4 _ rfl)
        · rw [World.cell?_setCell_other _ _ _ _ (by intro e; simp only [Addr.mk.injEq] at e; omega)]
          refine hc k x hx j u ?_
          match j, hj, e4 with
          | 0, _, _ => exact hu
          | 1, _, _ => exact hu
          | 2, _, _ => exact hu
          | 3, _, _ => exact hu
          | 4, _, h4 => exact absurd rfl h4
      · cases hy
    · rename_i e1
      have hj : j < 5 := by
        rcases Nat.lt_or_ge j 5 with h' | h'
        · exact h'
        · rw [List.getElem?_eq_none (by rw [encW_len]; exact h')] at hu; cases hu
      rw [World.cell?_setCell_other _ _ _ _ (by intro e; simp only [Addr.mk.injEq] at e; omega)]
      exact hc i y hy j u hu
  · simp [World.setCell, Array.getElem?_modify, hf]
  · rcases List.mem_or_eq_of_mem_set hy with h' | rfl
    · exact h.fit y h'
    · exact ht
theorem GpAt.c0 (h : GpAt B w b sa cap s) : w.cell? ⟨b, 0, none⟩ = some (.slice sa s.xs.length cap) := by simp [World.cell?, h.heap]
theorem GpAt.c1 (h : GpAt B w b sa cap s) : w.cell? ⟨b, 1, none⟩ = some (.bool s.bad) := by simp [World.cell?, h.heap]
theorem GpAt.f1 (h : GpAt B w b sa cap s) : w.frozen? ⟨b, 1, none⟩ = false := by simp [World.frozen?, h.heap]

/-- One gap's cells. -/
def OneW (w : World) (g o : Nat) (x : WG) : Prop := ∀ j u, (encW x)[j]? = some u → w.cell? ⟨g, o + j, none⟩ = some u
set_option maxHeartbeats 1000000 in
set_option maxRecDepth 100000 in
theorem bears_at {g o : Nat} {x : WG} {tick : Int} (h : OneW w g o x) (hx : -1 ≤ x.t ∧ x.t ≤ 1099511627776) (ht : 0 ≤ tick ∧ tick ≤ 1099511627776) :
    Calls Tryz.prog 214 #[.pointer (some ⟨g, o, none⟩), .int .i64 tick] w fun e w' => e = .returned (.bool (x.bears tick)) ∧ w' = w := by
  have c2 := h 2 _ rfl
  have c3 := h 3 _ rfl
  have c4 := h 4 _ rfl
  obtain ⟨hx0, hx1⟩ := hx
  obtain ⟨ht0, ht1⟩ := ht
  clear h
  by_cases g0 : x.t = -1
  · have HR : Hid (x.bears tick = false) := by show _ = _; unfold WG.bears; rw [g0]; rfl
    rw [g0] at c4
    clear hx0 hx1 c2 c3
    go_enter Tryz.func214, Tryz.ntmps214
    go_wp2
    go_ret
    exact ⟨by rw [HR.out]; first | rfl | (show Ending.returned (Value.bool (x.t != -1)) = _; simp [g0]), rfl⟩
  by_cases g1 : x.g.mn ≤ tick - x.t
  · by_cases g2 : tick - x.t ≤ x.g.mx
    · have HR : Hid (x.bears tick = true) := by show _ = _; unfold WG.bears; simp [g0, g1, g2]
      go_enter Tryz.func214, Tryz.ntmps214
      go_wp2
      go_ret
      exact ⟨by rw [HR.out]; first | rfl | (show Ending.returned (Value.bool (x.t != -1)) = _; simp [g0]), rfl⟩
    · have HR : Hid (x.bears tick = false) := by show _ = _; unfold WG.bears; simp [g0, g1, g2]
      go_enter Tryz.func214, Tryz.ntmps214
      go_wp2
      go_ret
      exact ⟨by rw [HR.out]; first | rfl | (show Ending.returned (Value.bool (x.t != -1)) = _; simp [g0]), rfl⟩
  · have HR : Hid (x.bears tick = false) := by show _ = _; unfold WG.bears; simp [g0, g1]
    go_enter Tryz.func214, Tryz.ntmps214
    go_wp2
    go_ret
    exact ⟨by rw [HR.out]; first | rfl | (show Ending.returned (Value.bool (x.t != -1)) = _; simp [g0]), rfl⟩
end Go.Proofs.YtdpdbfhbojgigacGreatDoor

namespace Go.Proofs.YtdpdbfhbojgigacGreatDoor
open Go.RowKit Go.Extern.Stop Go.Stop Go.Extern

variable {B b cap : Nat} {w0 w w' : World} {sa : Option Addr} {s : GSt} {xs : List WG}
set_option maxHeartbeats 1000000 in
set_option maxRecDepth 100000 in
theorem gap_report {g o : Nat} {x : WG} {p tick : Int} (h : OneW w g o x) (hf : w.frozen? ⟨g, o + 4, none⟩ = false) (hx : -1 ≤ x.t ∧ x.t ≤ 1099511627776) (ht : 0 ≤ tick ∧ tick ≤ 1099511627776) :
    Calls Tryz.prog 167 #[.pointer (some ⟨g, o, none⟩), .int .i64 p, .int .i64 tick] w fun e w' => e = .returned (.bool (x.bad p tick)) ∧ w' = if p = x.g.fr then w.setCell ⟨g, o + 4, none⟩ (.int .i64 tick) else w := by
  have HO : Hid (OneW w g o x) := h
  have HX : Hid (-1 ≤ x.t ∧ x.t ≤ 1099511627776) := hx
  have HT : Hid (0 ≤ tick ∧ tick ≤ 1099511627776) := ht
  have c0 := h 0 _ rfl
  have c1 := h 1 _ rfl
  have c4 := h 4 _ rfl
  simp only [Nat.add_zero] at c0
  clear h hx ht
  by_cases g1 : p = x.g.to
  · by_cases g0 : p = x.g.fr
    · rw [if_pos g0]
      have HR : Hid (x.bad p tick = !x.bears tick) := by show _ = _; unfold WG.bad; rw [decide_eq_true g1]; rfl
      rw [← g1] at c1
      rw [← g0] at c0
      clear g0 g1
      go_enter Tryz.func167, Tryz.ntmps167
      go_wp2_with fail
      refine (bears_at HO.out HX.out HT.out).mono ?_
      rintro v w1 ⟨rfl, rfl⟩
      go_wp2
      go_ret
      exact ⟨by rw [HR.out]; rfl, rfl⟩
    · rw [if_neg g0]
      have HR : Hid (x.bad p tick = !x.bears tick) := by show _ = _; unfold WG.bad; rw [decide_eq_true g1]; rfl
      rw [← g1] at c1
      clear g1
      go_enter Tryz.func167, Tryz.ntmps167
      go_wp2_with fail
      refine (bears_at HO.out HX.out HT.out).mono ?_
      rintro v w1 ⟨rfl, rfl⟩
      go_wp2
      go_ret
      exact ⟨by rw [HR.out]; rfl, rfl⟩
  · have HR : Hid (x.bad p tick = false) := by show _ = _; unfold WG.bad; rw [decide_eq_false g1]; rfl
    by_cases g0 : p = x.g.fr
    · rw [if_pos g0]
      rw [← g0] at c0
      clear g0
      go_enter Tryz.func167, Tryz.ntmps167
      go_wp2
      go_ret
      exact ⟨by rw [HR.out]; rfl, rfl⟩
    · rw [if_neg g0]
      go_enter Tryz.func167, Tryz.ntmps167
      go_wp2
      go_ret
      exact ⟨by rw [HR.out]; rfl, rfl⟩

theorem set_same {α : Type} {l : List α} {k : Nat} {x : α} (h : l[k]? = some x) : l.set k x = l := by
  apply List.ext_getElem?
  intro i
  rw [List.getElem?_set]
  split
  · rename_i e
    subst e
    split
    · exact h.symm
    · rename_i hk
      rw [List.getElem?_eq_none (by omega)] at h
      cases h
  · rfl
/-- One round of Report's loop. -/
theorem GpAt.round {g o k : Nat} {x : WG} {p tick : Int} (h : GpAt B w b (some ⟨g, o, none⟩) cap s) (hx : s.xs[k]? = some x) (ht : 0 ≤ tick ∧ tick ≤ 1099511627776) :
    GpAt B (if p = x.g.fr then w.setCell ⟨g, o + k * 5 + 4, none⟩ (.int .i64 tick) else w) b (some ⟨g, o, none⟩) cap ⟨s.xs.set k (x.rep p tick), s.bad⟩ := by
  unfold WG.rep
  split
  · exact h.setTick hx ⟨by omega, ht.2⟩
  · rw [set_same hx]
    exact h
end Go.Proofs.YtdpdbfhbojgigacGreatDoor

namespace Go.Proofs.YtdpdbfhbojgigacGreatDoor
open Go.RowKit Go.Extern.Stop Go.Stop Go.Extern

theorem Tryz.infoGap : (Tryz.prog.info? 242).map (fun i => (i.zero, i.size, i.bytes)) = some (some (.agg #[.int .i64 0, .int .i64 0, .int .i64 0, .int .i64 0, .int .i64 0]), 5, 40) := by kernel_rfl
/-- 'make(T, 0, n)', for the walk. -/
theorem wpList_make0 {w : World} {ops : Array Oper} {rest : List Oper} {o : Oper} {a : Act} {Q : Exit → Act → World → Prop} (hgd : o.guard = none) (l c : Operand) (t : TypeId)
    (ho : o.op = Op.makeSlice t l c) (B : Nat) (e : TypeId) (i : TypeInfo) (z : Value) (size bytes : Nat) (ht : Tryz.prog.underlying t = some (.slice e)) (hi : Tryz.prog.info? e = some i) (hz : i.zero = some z) (hsize : i.size = size) (hby : i.bytes = bytes) (n : Nat)
    (hl : a.eval l = .int .i64 0) (hc : a.eval c = .int .i64 (n : Int)) (hn : n ≤ 1000000) (hbb : bytes ≤ 1000) (hB : B ≤ w.heap.size)
    (h : ∀ w', w'.ownsRow B e size (.slice (some ⟨w.heap.size, 0, none⟩) 0 n) 0 [] → Below w.heap.size w w' → w'.heap.size = w.heap.size + 1 → wpList Tryz.prog ops Q rest (a.put o.dst (.slice (some ⟨w.heap.size, 0, none⟩) 0 n)) w') : wpList Tryz.prog ops Q (o :: rest) a w := by
  refine wpList_plain hgd fun K hK => ?_
  have hm : i.bytes * n ≤ 1000 * 1000000 := Nat.mul_le_mul (by omega) hn
  have hr := run_make (P := Tryz.prog) w t e i z ht hi hz .i64 .i64 0 n (Int.le_refl _) (by omega) (by have : ((i.bytes * n : Nat) : Int) ≤ 281474976710656 := (by omega); rwa [Int.natCast_mul] at this) (by omega)
  simp only [Int.toNat_zero, Int.toNat_natCast] at hr
  unfold Oper.wp execOp
  simp only [ho, hl, hc, Sem.run_bind, Sem.run_pure, Result.andThen_ok, hr]
  refine hK _ _ (h _ ?_ (Below.one _ _) (by simp))
  have := World.ownsRow_made (e := e) (size := size) w (madeCells z.cells (n * i.size)) n hB (by unfold maxLen; omega) (by rw [size_madeCells, hsize])
  exact this

variable {B b cap : Nat} {w0 w w' : World} {sa : Option Addr} {s : GSt} {xs : List WG}
theorem gp_of_own {v : Value} {xs : List WG} {bad : Bool} (hb : w.heap[b]? = some (.cells #[v, .bool bad] 240 (0, 0))) (ho : SlOwn encW 5 242 B w v xs) (hlo : B ≤ b) (hf : GSt.fit ⟨xs, bad⟩) : ∃ sa cap, GpAt B w b sa cap ⟨xs, bad⟩ := by
  rcases ho.2 with ⟨rfl, h0⟩ | ⟨g, cap, cur, rfl, hB, hg, hle, -⟩
  · have : xs = [] := List.eq_nil_of_length_eq_zero h0
    subst this
    exact ⟨none, 0, hb, fun e => absurd rfl e, hlo, hf⟩
  · refine ⟨_, cap, hb, fun hne => ⟨g, 0, rfl, fun e => ?_, hB, fun i x hx j u hu => ?_, cur, hg⟩, hlo, hf⟩
    · subst e
      rw [hg] at hb
      simp only [Option.some.injEq, Obj.cells.injEq] at hb
      exact absurd hb.2.1 (by decide)
    · have := ho.cells (g := g) rfl (i * 5 + j) u (flat_at encW_len xs i j x u hx hu)
      rw [addC_plain] at this
      rw [Nat.add_assoc]
      exact this
set_option maxHeartbeats 2000000 in
set_option maxRecDepth 100000 in
theorem gp_new (name : ByteArray) (tol cnt mn mx : Int) (pv ev fv lv : Value) (ga : Option Addr) (gc : Nat) (gs : List GapD) (w : World) (hg : SlAt encG 4 w (.slice ga gs.length gc) gs) (hlen : gs.length ≤ 1000000) :
    Calls Tryz.prog 120 #[.agg #[.string name, .int .i64 tol, pv, .int .i64 cnt, .int .i64 mn, .int .i64 mx, .slice ga gs.length gc, ev, fv, lv]] w fun v w' => ∃ b, v = .returned (.pointer (some ⟨b, 0, none⟩)) ∧ GpIn w w' b (GSt.new gs) := by
  obtain ⟨i0, hi, hz0, hz1, hz2⟩ := info_parts Tryz.infoGap
  have HG : Hid (SlAt encG 4 w (.slice ga gs.length gc) gs) := hg
  have HL : Hid (gs.length ≤ 1000000) := hlen
  clear hg hlen
  go_enter Tryz.func120, Tryz.ntmps120
  go_upto_region 2 with (refine wpList_make0 rfl _ _ 238 rfl w.heap.size 242 i0 (.agg #[.int .i64 0, .int .i64 0, .int .i64 0, .int .i64 0, .int .i64 0]) 5 40 Tryz.underlying238 hi hz0 hz1 hz2 gs.length rfl rfl HL.out (by decide) (by simp) ?_; intro w1 hown1 hb1 hs1)
  obtain ⟨W, hW⟩ : ∃ V, V = w1.alloc (.cells #[.slice (some ⟨w.heap.size + 1, 0, none⟩) 0 gs.length, .bool false] 240) := ⟨_, rfl⟩
  have hs1' : w1.heap.size = w.heap.size + 2 := by rw [hs1]; simp
  clear hs1
  have hBl : Below w.heap.size w W := by rw [hW]; exact (((Below.refl _ _).alloc (Nat.le_refl _) _).trans (hb1.mono (by simp))).alloc (by omega) _
  have HBW : Hid (Below w.heap.size w W) := hBl
  have HG0 : Hid (W.heap[w.heap.size + 2]? = some (.cells #[.slice (some ⟨w.heap.size + 1, 0, none⟩) 0 gs.length, .bool false] 240 (0, 0))) := by
    show _ = _
    rw [hW, ← hs1']
    exact heap_alloc_new w1 _
  have e6 : W.cell? ⟨w.heap.size, 6, none⟩ = some (.slice ga gs.length gc) := by
    have h1 := row_below hb1 (heap_alloc_new w (.cells #[.string name, .int .i64 tol, pv, .int .i64 cnt, .int .i64 mn, .int .i64 mx, .slice ga gs.length gc, ev, fv, lv] 38))
    have h2 := row_below (Below.one w1 (.cells #[.slice (some ⟨w.heap.size + 1, 0, none⟩) 0 gs.length, .bool false] 240)) h1
    rw [hW]
    simp [World.cell?, h2]
  have HOw : Hid (W.ownsRow w.heap.size 242 5 (.slice (some ⟨w.heap.size + 1, 0, none⟩) 0 gs.length) 0 []) := by
    show World.ownsRow _ _ _ _ _ _ _
    have h3 := hown1
    simp only [World.size_alloc] at h3
    rw [hW]
    exact h3.alloc _
  have HSW : Hid (W.heap.size = w.heap.size + 3) := by show _ = _; rw [hW, World.size_alloc]; omega
  rw [← hW, show w.heap.size + 1 + 1 = w.heap.size + 2 from rfl]
  clear hW hown1 hb1 hs1' hBl
  go_wp2_with fail
  go_loopw [15, 5] (fun i _ wr => ∃ k : Nat, k ≤ gs.length ∧ i = .int .i64 k ∧ Below w.heap.size w wr ∧ ∃ va vc, wr.heap[w.heap.size + 2]? = some (.cells #[.slice va k vc, .bool false] 240 (0, 0)) ∧ wr.ownsRow w.heap.size 242 5 (.slice va k vc) k (((gs.take k).map WG.new).flatMap encW)) (fun i _ _ => gs.length - (intOf i).toNat)
  case atStart => exact ⟨0, Nat.zero_le _, rfl, HBW.out, _, _, HG0.out, by simpa using HOw.out⟩
  case round =>
    clear e6 HG0 HOw HBW HSW
    obtain ⟨k, hk, rfl, hbk, va, vc, hgk, hok⟩ := hrel
    have HB : Hid (Below w.heap.size w wr) := hbk
    have HGk : Hid (wr.heap[w.heap.size + 2]? = some (.cells #[.slice va k vc, .bool false] 240 (0, 0))) := hgk
    have HOk : Hid (wr.ownsRow w.heap.size 242 5 (.slice va k vc) k (((gs.take k).map WG.new).flatMap encW)) := hok
    clear hbk hgk hok
    by_cases hlt : k < gs.length
    · have k1 : (k : Int) < (gs.length : Int) := by omega
      have k2 : k < 1000000 := by have := HL.out; omega
      obtain ⟨x, hx⟩ : ∃ x, gs[k]? = some x := ⟨_, List.getElem?_eq_getElem hlt⟩
      have HX : Hid (((gs.take (k + 1)).map WG.new).flatMap encW = ((gs.take k).map WG.new).flatMap encW ++ [.int .i64 x.fr, .int .i64 x.to, .int .i64 x.mn, .int .i64 x.mx, .int .i64 (-1)]) := by
        show _ = _
        rw [List.take_add_one, hx]
        simp [encW, WG.new]
      obtain ⟨sa', cap', hsl, -, hcc⟩ := id HG.out
      cases hsl
      obtain ⟨g, o, rfl, hc0⟩ := hcc (fun h => by rw [h] at hx; simp at hx)
      have c0 : wr.cell? ⟨g, o + k * 4, none⟩ = some (.int .i64 x.fr) := cell_below HB.out (hc0 k _ hx 0 _ rfl)
      have c1 : wr.cell? ⟨g, o + k * 4 + 1, none⟩ = some (.int .i64 x.to) := cell_below HB.out (hc0 k _ hx 1 _ rfl)
      have c2 : wr.cell? ⟨g, o + k * 4 + 2, none⟩ = some (.int .i64 x.mn) := cell_below HB.out (hc0 k _ hx 2 _ rfl)
      have c3 : wr.cell? ⟨g, o + k * 4 + 3, none⟩ = some (.int .i64 x.mx) := cell_below HB.out (hc0 k _ hx 3 _ rfl)
      clear hcc hc0 hx
      go_upto_region 5 with fail
      obtain ⟨V, hV⟩ : ∃ V, V = wr.alloc (.cells #[.int .i64 x.fr, .int .i64 x.to, .int .i64 x.mn, .int .i64 x.mx] 145) := ⟨_, rfl⟩
      rw [← hV]
      have HBV : Hid (Below wr.heap.size wr V) := by show Below _ _ _; rw [hV]; exact Below.one _ _
      have HSV : Hid (V.heap.size = wr.heap.size + 1) := by show _ = _; rw [hV, World.size_alloc]
      have dd : ∀ (j : Nat) u, ([.int .i64 x.fr, .int .i64 x.to, .int .i64 x.mn, .int .i64 x.mx] : List Value)[j]? = some u → V.cell? ⟨wr.heap.size, 0 + j, none⟩ = some u := fun j u hu => by
        rw [hV]
        have := ce_at wr [.int .i64 x.fr, .int .i64 x.to, .int .i64 x.mn, .int .i64 x.mx] 145 j u hu
        rwa [addC_plain] at this
      have d0 := dd 0 _ rfl
      have d1 := dd 1 _ rfl
      have d2 := dd 2 _ rfl
      have d3 := dd 3 _ rfl
      simp only [Nat.zero_add] at d0 d1 d2 d3
      clear hV c0 c1 c2 c3 dd
      have HGv : Hid (V.heap[w.heap.size + 2]? = some (.cells #[.slice va k vc, .bool false] 240 (0, 0))) := row_below HBV.out HGk.out
      have HOv : Hid (V.ownsRow w.heap.size 242 5 (.slice va k vc) k (((gs.take k).map WG.new).flatMap encW)) := SlOwnR.below HOk.out HBV.out
      have hown : V.drew.ownsRow w.heap.size 242 5 (.slice va k vc) k (((gs.take k).map WG.new).flatMap encW) := HOv.out
      have hLz : w.heap.size ≤ V.heap.size := Nat.le_trans HB.out.size (by have := HSV.out; omega)
      have c8 : V.cell? ⟨w.heap.size + 2, 0, none⟩ = some (.slice va k vc) := by simp [World.cell?, HGv.out]
      have c8' : ∀ ob, (V.alloc ob).cell? ⟨w.heap.size + 2, 0, none⟩ = some (.slice va k vc) := fun ob => cell_below (Below.one _ _) c8
      have d0' : ∀ ob, (V.alloc ob).cell? ⟨wr.heap.size, 0, none⟩ = some (.int .i64 x.fr) := fun ob => cell_below (Below.one _ _) d0
      have KB : Hid (∀ (ob : Obj) (w8 : World), (V.drew.alloc ob).grownBy w8 (Value.slice va k vc).ownBlock → w8.heap[w.heap.size + 2]? = some (.cells #[.slice va k vc, .bool false] 240 (0, 0))) := fun ob w8 hg => by
        have h1 : (V.drew.alloc ob).heap[w.heap.size + 2]? = some (.cells #[.slice va k vc, .bool false] 240 (0, 0)) := row_below (w := V.drew) (Below.one _ _) HGv.out
        exact (hg.block _ (lt_of_row h1) (fun e2 => ow_ne (w := V.drew) hown HGv.out (by decide) e2.symm)).trans h1
      have KL : Hid (∀ (ob : Obj) (w8 : World), (V.drew.alloc ob).grownBy w8 (Value.slice va k vc).ownBlock → Below w.heap.size w w8) := fun ob w8 hg => by
        have h1 : Below w.heap.size w (V.drew.alloc ob) := (HB.out.trans (HBV.out.mono HB.out.size)).drew.alloc (by simp; omega) _
        exact h1.grown hg h1.size (fun i hi => (hown.lt i hi).1)
      go_wp2_with fail
      go_region_law (refine step_append_lies _ rfl (.tmp 23) (.tmp 26) 238 rfl w.heap.size 242 i0 (.agg #[.int .i64 0, .int .i64 0, .int .i64 0, .int .i64 0, .int .i64 0]) 5 40 Tryz.underlying238 hi hz0 hz1 hz2 rfl (by decide) (.slice va k vc) k (((gs.take k).map WG.new).flatMap encW) (by simp [Act.eval]) (hown.alloc _) ⟨V.heap.size, 0, .none⟩ 1 1 [.int .i64 x.fr, .int .i64 x.to, .int .i64 x.mn, .int .i64 x.mx, .int .i64 (-1)] (by simp [Act.eval]) rfl (ce_at V.drew [.int .i64 x.fr, .int .i64 x.to, .int .i64 x.mn, .int .i64 x.mx, .int .i64 (-1)] 242) (encW_one ⟨x, -1⟩) (by decide) (by unfold maxLen; omega) (by omega) (by simp; omega) (V.heap.size + 1) (by simp) ?_; intro g' cap' w8 hown8 hgrow8 hor hlt8; have r8 := KB.out _ _ hgrow8; have d8 : w8.cell? ⟨w.heap.size + 2, 0, none⟩ = some (.slice va k vc) := (by simp [World.cell?, r8]); have d9 : w8.frozen? ⟨w.heap.size + 2, 0, none⟩ = false := (by simp [World.frozen?, r8]))
      all_goals
        go_wp2_with fail
        go_roundw
        case rel =>
          refine ⟨k + 1, by omega, by go_num, ?_, some ⟨g', 0, none⟩, cap', ?_, ?_⟩
          · exact (KL.out _ _ hgrow8).setCell (p := ⟨w.heap.size + 2, 0, none⟩) (by simp) _
          · simp [World.setCell, Array.getElem?_modify, r8]
          · rw [HX.out]
            exact hown8.kept (grown_setCell w8 _ _ _) (Or.inr (fun e2 => ow_ne hown8 r8 (by decide) e2))
        case measure => simp [intOf]; omega
    · have k1 : ¬ (k : Int) < (gs.length : Int) := by omega
      have hkk : k = gs.length := by omega
      have HF : Hid (∃ sa cap, GpAt w.heap.size wr (w.heap.size + 2) sa cap ⟨(gs.take k).map WG.new, false⟩) := gp_of_own HGk.out (by
        have := HOk.out
        show World.ownsRow _ _ _ _ _ _ _
        rw [show ((gs.take k).map WG.new).length = k by simp; omega]
        exact this) (by omega) (by rw [hkk, List.take_length]; exact GSt.fit_new gs)
      have HE : Hid (GSt.new gs = ⟨(gs.take k).map WG.new, false⟩) := by show _ = _; rw [hkk, List.take_length]; rfl
      go_wp2
      go_ret
      refine ⟨_, rfl, HB.out, ?_⟩
      rw [HE.out]
      exact HF.out
end Go.Proofs.YtdpdbfhbojgigacGreatDoor

namespace Go.Proofs.YtdpdbfhbojgigacGreatDoor
open Go.RowKit Go.Extern.Stop Go.Stop Go.Extern

theorem slatI_cell {w : World} {sa : Option Addr} {cap : Nat} {l : List Int} (h : SlAt encI 1 w (.slice sa l.length cap) l) {k : Nat} {x : Int} (hx : l[k]? = some x) : ∃ g o, sa = some ⟨g, o, none⟩ ∧ ∀ i x, l[i]? = some x → w.cell? ⟨g, o + i, none⟩ = some (.int .i64 x) := by
  obtain ⟨sa', cap', hsl, -, hcc⟩ := h
  cases hsl
  obtain ⟨g, o, rfl, hc0⟩ := hcc (fun h => by rw [h] at hx; simp at hx)
  exact ⟨g, o, rfl, fun i x hx => by have := hc0 i x hx 0 _ rfl; simpa using this⟩
set_option maxRecDepth 100000 in
theorem has_at (l : List Int) (n : Int) (sa : Option Addr) (cap : Nat) (w : World) (h : SlAt encI 1 w (.slice sa l.length cap) l) (hn : l.length ≤ 1000000) :
    Calls Tryz.prog 118 #[.slice sa l.length cap, .int .i64 n] w fun e w' => e = .returned (.bool (l.any fun y => decide (n = y))) ∧ w' = w := by
  have HL : Hid (SlAt encI 1 w (.slice sa l.length cap) l) := h
  clear h
  go_enter Tryz.func118, Tryz.ntmps118
  go_wp2_with fail
  go_loopw [5] (fun i wr => wr = w ∧ ∃ k : Nat, k ≤ l.length ∧ i = .int .i64 k ∧ ∀ j x, j < k → l[j]? = some x → n ≠ x) (fun i _ => l.length - (intOf i).toNat)
  case atStart => exact ⟨rfl, 0, Nat.zero_le _, rfl, fun j x hj => absurd hj (by omega)⟩
  case round =>
    obtain ⟨rfl, k, hk, rfl, hno⟩ := hrel
    have HN : Hid (∀ j x, j < k → l[j]? = some x → n ≠ x) := hno
    clear hno
    by_cases hlt : k < l.length
    · have k1 : (k : Int) < (l.length : Int) := by omega
      obtain ⟨x, hx⟩ : ∃ x, l[k]? = some x := ⟨_, List.getElem?_eq_getElem hlt⟩
      have HX : Hid (l[k]? = some x) := hx
      obtain ⟨g, o, rfl, hc⟩ := slatI_cell HL.out hx
      have c0 := hc k x hx
      clear hc hx
      by_cases e : x = n
      · subst e
        have HE : Hid ((l.any fun y => decide (x = y)) = true) := by show _ = _; rw [List.any_eq_true]; exact ⟨x, List.mem_of_getElem? HX.out, by simp⟩
        go_wp2
        go_ret
        exact ⟨by rw [HE.out]; rfl, rfl⟩
      · go_wp2_with fail
        go_roundw
        case rel =>
          refine ⟨trivial, k + 1, by omega, by go_num, fun j y hj hy => ?_⟩
          rcases Nat.lt_or_ge j k with h1 | h1
          · exact HN.out j y h1 hy
          · obtain rfl : j = k := by omega
            rw [HX.out] at hy
            cases hy
            exact fun e2 => e e2.symm
        case measure => simp [intOf]; omega
    · have k1 : ¬ (k : Int) < (l.length : Int) := by omega
      have HE : Hid ((l.any fun y => decide (n = y)) = false) := by
        show _ = _
        rw [List.any_eq_false]
        intro y hy
        obtain ⟨j, hj⟩ := List.getElem?_of_mem hy
        have hjl : j < l.length := by
          rcases Nat.lt_or_ge j l.length with h' | h'
          · exact h'
          · rw [List.getElem?_eq_none h'] at hj; cases hj
        simpa using HN.out j y (by omega) hj
      go_wp2
      go_ret
      exact ⟨by rw [HE.out]; rfl, rfl⟩
end Go.Proofs.YtdpdbfhbojgigacGreatDoor

namespace Go.Proofs.YtdpdbfhbojgigacGreatDoor
open Go.RowKit Go.Extern.Stop Go.Stop Go.Extern

theorem eqlIn_pair (a b c d : Int) (w : World) : (Op.equalIn 10000 146 (.agg #[.int .i64 a, .int .i64 b]) (.agg #[.int .i64 c, .int .i64 d])).run Tryz.prog w = .ok ((a == c) && (b == d)) w := by
  rw [show (10000 : Nat) = 9998 + 2 from rfl, Op.equalIn]
  simp only [Sem.run_bind, run_underlying Tryz.underlying146, Result.andThen_ok, Tryz.sizeOf3, Std.Legacy.Range.forIn_eq_forIn_range', Std.Legacy.Range.size, Nat.sub_zero, Nat.add_sub_cancel, Nat.div_one]
  have p0 : ∀ x y : Int, (part 3 #[.int .i64 x, .int .i64 y] (0 * 1)).run Tryz.prog w = .ok (.int .i64 x) w := fun x y => by simp [part, isAgg, run_underlying Tryz.underlying3]
  have p1 : ∀ x y : Int, (part 3 #[.int .i64 x, .int .i64 y] (1 * 1)).run Tryz.prog w = .ok (.int .i64 y) w := fun x y => by simp [part, isAgg, run_underlying Tryz.underlying3]
  have pe : ∀ x y : Int, (Op.equalIn (9998 + 1) 3 (.int .i64 x) (.int .i64 y)).run Tryz.prog w = .ok (x == y) w := fun x y => run_equalIn_int w 9998 3 .i64 .i64 _ _ Tryz.underlying3
  have hr : List.range' 0 2 1 = [0, 1] := by decide
  rw [hr]
  simp only [List.forIn_cons, List.forIn_nil, Sem.run_bind, p0, pe, Result.andThen_ok]
  cases h1 : (a == c)
  · simp
  · simp only [Bool.not_true, Bool.false_eq_true, if_false, Sem.run_pure, Result.andThen_ok, Bool.true_and, Sem.run_bind, p1, pe]
    cases h2 : (b == d) <;> simp
theorem eql_pair (a b c d : Int) (w : World) : (binOp .eql 146 (.agg #[.int .i64 a, .int .i64 b]) (.agg #[.int .i64 c, .int .i64 d])).run Tryz.prog w = .ok (.bool ((a == c) && (b == d))) w := by
  rw [run_eql_struct, eqlIn_pair]; rfl
theorem Tryz.guardPair : Tryz.prog.eqGuardType Tryz.prog.depth 146 = false := by kernel_rfl
end Go.Proofs.YtdpdbfhbojgigacGreatDoor

namespace Go.Proofs.YtdpdbfhbojgigacGreatDoor
open Go.RowKit Go.Extern.Stop Go.Stop Go.Extern

theorem row_put {w : World} {b j : Nat} {cs : Array Value} {T : TypeId} (h : w.heap[b]? = some (.cells cs T (0, 0))) (u : Value) : (w.setCell ⟨b, j, none⟩ u).heap[b]? = some (.cells (cs.setIfInBounds j u) T (0, 0)) := by
  simp only [World.setCell, Array.getElem?_modify, h]
  simp
section
variable {w0 w w' : World} {b : Nat} {e : EntD} {pa ga ea fa la : Option Addr} {pc gc ec fc lc : Nat} {s s' : LSt} {sv sv' : Value}
def lmRow (e : EntD) (pa ga ea fa la : Option Addr) (pc gc ec fc lc : Nat) (s : LSt) (sv : Value) : Array Value := #[.string e.name, .int .i64 e.tol, .slice pa e.pts.length pc, .int .i64 e.cnt, .int .i64 e.mn, .int .i64 e.mx, .slice ga e.gaps.length gc, .slice ea e.edges.length ec, .slice fa e.first.length fc, .slice la e.last.length lc, .bool s.act, .int .i64 s.since, sv, .int .i64 s.run, .bool s.ex]
structure LmIn (w0 w : World) (b : Nat) (e : EntD) (pa ga ea fa la : Option Addr) (pc gc ec fc lc : Nat) (s : LSt) (sv : Value) : Prop where
  heap : w.heap[b]? = some (.cells (lmRow e pa ga ea fa la pc gc ec fc lc s sv) 185 (0, 0))
  own : MkOwn w0.heap.size w sv s.ms
  bel : Below w0.heap.size w0 w
  lo : w0.heap.size ≤ b
theorem LmIn.cell (h : LmIn w0 w b e pa ga ea fa la pc gc ec fc lc s sv) (j : Nat) (u : Value) (hu : (lmRow e pa ga ea fa la pc gc ec fc lc s sv)[j]? = some u) : w.cell? ⟨b, j, none⟩ = some u := by
  simp [World.cell?, h.heap, hu]
theorem LmIn.frozen (h : LmIn w0 w b e pa ga ea fa la pc gc ec fc lc s sv) (j : Nat) : w.frozen? ⟨b, j, none⟩ = false := by simp [World.frozen?, h.heap]
theorem LmIn.below (h : LmIn w0 w b e pa ga ea fa la pc gc ec fc lc s sv) (hb : Below w.heap.size w w') : LmIn w0 w' b e pa ga ea fa la pc gc ec fc lc s sv := ⟨row_below hb h.heap, h.own.below hb, h.bel.trans (hb.mono h.bel.size), h.lo⟩
theorem LmIn.put (h : LmIn w0 w b e pa ga ea fa la pc gc ec fc lc s sv) (j : Nat) (u : Value) (hr : (lmRow e pa ga ea fa la pc gc ec fc lc s sv).setIfInBounds j u = lmRow e pa ga ea fa la pc gc ec fc lc s' sv') (ho : MkOwn w0.heap.size w sv' s'.ms) : LmIn w0 (w.setCell ⟨b, j, none⟩ u) b e pa ga ea fa la pc gc ec fc lc s' sv' :=
  ⟨by rw [← hr]; exact row_put h.heap u, World.ownsRow.kept ho (grown_setCell w b j u) (Or.inr (ow_ne ho h.heap (by decide))), h.bel.setCell (p := ⟨b, j, none⟩) h.lo _, h.lo⟩
/-- The words of the statuses. -/
def statB : Nat → ByteArray
  | 0 => ⟨#[105, 100, 108, 101]⟩
  | 1 => ⟨#[111, 107]⟩
  | 2 => ⟨#[102, 97, 105, 108, 101, 100]⟩
  | _ => ⟨#[101, 120, 112, 105, 114, 101, 100]⟩
end
end Go.Proofs.YtdpdbfhbojgigacGreatDoor

namespace Go.Proofs.YtdpdbfhbojgigacGreatDoor
open Go.RowKit Go.Extern.Stop Go.Stop Go.Extern

/-- All that is neither the document's entity nor a row of its marks is as it was. -/
def FrM (w w' : World) : Prop := ∀ (i : Nat) (o : Obj), w.heap[i]? = some o → (∀ c T fr, o = .cells c T fr → T ≠ 232 ∧ T ≠ 185) → w'.heap[i]? = some o
theorem FrM.refl (w : World) : FrM w w := fun _ _ h _ => h
theorem FrM.trans {w w' w'' : World} (h : FrM w w') (h' : FrM w' w'') : FrM w w'' := fun i o hi ho => h' i o (h i o hi ho) ho
theorem lt_of_obj {w : World} {i : Nat} {o : Obj} (h : w.heap[i]? = some o) : i < w.heap.size := by
  rcases Nat.lt_or_ge i w.heap.size with h1 | h1
  · exact h1
  · rw [Array.getElem?_eq_none h1] at h; cases h
theorem FrM.below {w w' : World} (hb : Below w.heap.size w w') : FrM w w' := fun i _ hi _ => (hb.block i (lt_of_obj hi)).trans hi
theorem FrM.own {w w' : World} {B : Nat} {v : Value} {ms : List MkD} (h : MkOwn B w v ms) (hg : w.grownBy w' v.ownBlock) : FrM w w' := fun i o hi ho => by
  refine (hg.block i (lt_of_obj hi) ?_).trans hi
  intro e2
  rcases h.2 with ⟨rfl, _⟩ | ⟨g, cap, cur, rfl, _, hg', _⟩
  · simp [Value.ownBlock] at e2
  · simp only [Value.ownBlock, Option.some.injEq] at e2
    subst e2
    rw [hg'] at hi
    exact (ho _ _ _ (Option.some.inj hi).symm).1 rfl
theorem FrM.put {w w' : World} {b : Nat} {c : Array Value} {fr : Nat × Nat} (hb : w.heap[b]? = some (.cells c 185 fr)) (hg : w.grownBy w' (some b)) : FrM w w' := fun i o hi ho => by
  refine (hg.block i (lt_of_obj hi) ?_).trans hi
  intro e2
  obtain rfl := Option.some.inj e2
  rw [hb] at hi
  exact (ho _ _ _ (Option.some.inj hi).symm).2 rfl
section
variable {w0 w w' : World} {b : Nat} {e : EntD} {pa ga ea fa la : Option Addr} {pc gc ec fc lc : Nat} {s s' : LSt} {sv sv' : Value}
end
end Go.Proofs.YtdpdbfhbojgigacGreatDoor

namespace Go.Proofs.YtdpdbfhbojgigacGreatDoor
open Go

/-- Cells, dog, the log's records, is the ring spent, the entities, the status of all. -/
structure KSt where
  c : CSt
  d : DSt
  L : List Rec
  sp : Bool
  ls : List LSt
  t : TSt
/-- Power and no reset: an error's number. -/
def KSt.on (K : KSt) : Nat := if K.c.off = true then 8 else if K.d.reset = true then 11 else 0
def KSt.setL (K : KSt) (i : Nat) (s : LSt) : KSt := { K with ls := K.ls.set i s }
/-- Errors of one entity. -/
def LSt.begN (s : LSt) : Nat := if s.act then 10 else 0
def LSt.stopN (s : LSt) : Nat := if s.act then 0 else 9
def LSt.repN (e : EntD) (s : LSt) (p : Int) : Nat := if s.act then (if hasP e p = true then 0 else 5) else 9
/-- Begin, Stop, Report of entity i. -/
def KSt.begin (K : KSt) (i : Int) : KSt × Nat :=
  if K.on ≠ 0 then (K, K.on) else if i < 0 then (K, 5) else match K.ls[i.toNat]? with
  | none => (K, 5)
  | some s => (K.setL i.toNat s.begin, s.begN)
def KSt.stop (K : KSt) (i : Int) : KSt × Nat :=
  if K.on ≠ 0 then (K, K.on) else if i < 0 then (K, 5) else match K.ls[i.toNat]? with
  | none => (K, 5)
  | some s => (K.setL i.toNat s.stop, s.stopN)
def noEnt : EntD := ⟨⟨#[]⟩, 0, [], 0, 0, 0, [], [], [], []⟩
def KSt.report (c : CfgD) (K : KSt) (i p : Int) : KSt × Nat :=
  if K.on ≠ 0 then (K, K.on) else if i < 0 then (K, 5) else match K.ls[i.toNat]? with
  | none => (K, 5)
  | some s => (K.setL i.toNat (s.rep (c.ents.getD i.toNat noEnt) p (K.d.now : Int)), s.repN (c.ents.getD i.toNat noEnt) p)
/-- One record more. -/
def KSt.app (K : KSt) (e k t : Nat) : KSt × Nat :=
  if K.sp = true then (K, 8) else if (lastR K.L).seq = 4294967295 then (K, 7)
  else if (K.c.putRec (nextR K.L e k t)).2 = 0 then ({ K with c := (K.c.putRec (nextR K.L e k t)).1, L := keepL K.L (nextR K.L e k t) }, 0)
  else ({ K with c := (K.c.putRec (nextR K.L e k t)).1, sp := true }, (K.c.putRec (nextR K.L e k t)).2)
/-- The end of a cycle of entity i. -/
def KSt.endOne (c : CfgD) (K : KSt) (i : Nat) : KSt × Nat := match K.ls[i]? with
  | none => (K, 0)
  | some s => if s.turns (c.ents.getD i noEnt) = true then (K.setL i (s.fin (c.ents.getD i noEnt))).app i (s.kind (c.ents.getD i noEnt)).toNat K.d.now else (K.setL i (s.fin (c.ents.getD i noEnt)), 0)
/-- The end of a cycle of the first n. -/
def KSt.ends (c : CfgD) (K : KSt) : Nat → KSt × Nat
  | 0 => (K, 0)
  | n + 1 => if (K.ends c n).2 = 0 then (K.ends c n).1.endOne c n else K.ends c n
/-- Behind them all: the status of all, a kick. -/
def KSt.last (K : KSt) : KSt :=
  let K1 := { K with t := K.t.fin (K.ls.map fun s => statB s.status) }
  if K1.t.st ≠ 3 ∧ K1.d.isOpen = true then { K1 with d := K1.d.kick } else K1
def KSt.ticked (K : KSt) : KSt := { K with d := K.d.tick }
def KSt.tick (c : CfgD) (K : KSt) : KSt × Nat :=
  if K.on ≠ 0 then (K, K.on)
  else if K.ticked.d.reset = true then (K.ticked, 11)
  else if K.ticked.d.now % c.cycle.toNat ≠ 0 then (K.ticked, 0)
  else if (K.ticked.ends c c.ents.length).2 = 0 then ((K.ticked.ends c c.ents.length).1.last, 0)
  else K.ticked.ends c c.ents.length
/-- Locals, total, ring as at the beginning. -/
def KSt.opened (c : CfgD) (K : KSt) : KSt := ⟨K.c, K.d, openL (K.c.bytes.take K.c.size), false, c.ents.map fun _ => LSt.new, TSt.new c.delay.toNat⟩
def KSt.new (c : CfgD) (s : CSt) : KSt := KSt.opened c ⟨s, DSt.new c.closed.toNat c.opn.toNat, [], false, [], TSt.new 0⟩
def KSt.boot (c : CfgD) (K : KSt) : KSt × Nat :=
  if K.on = 0 then (K, 10) else (KSt.opened c { K with c := { K.c with off := false, cut := false, left := 0 }, d := K.d.start }, 0)
def KSt.ticks (c : CfgD) (K : KSt) : Nat → KSt × Nat
  | 0 => (K, 0)
  | n + 1 => if (K.tick c).2 = 0 then (K.tick c).1.ticks c n else K.tick c
def KSt.cut (K : KSt) (n : Int) : KSt × Nat := if n < 0 then (K, 2) else if K.c.off = true then (K, 8) else ({ K with c := { K.c with cut := true, left := n.toNat } }, 0)
/-- What is always so, behind at most k acts, W bytes written. -/
structure KFit (c : CfgD) (K : KSt) (k W : Nat) : Prop where
  big : Big K.c
  left : K.c.left ≤ 9223372036854775807
  wr : K.c.written ≤ W
  sp : K.sp = true → K.c.off = true
  llen : K.L.length ≤ 8
  last : (lastR K.L).seq ≤ 4294967295
  len : K.ls.length = c.ents.length
  each : ∀ s ∈ K.ls, LFit s (k + K.d.now) ∧ s.ms.length ≤ k ∧ ∀ m ∈ s.ms, 0 ≤ m.tick ∧ m.tick ≤ 1099511627776
  tot : TFit K.t 20
  now : K.d.now ≤ 1099511627776
  win : K.d.closed ≤ 1000 ∧ K.d.opn ≤ 1000 ∧ K.d.kicks ≤ K.d.begun ∧ K.d.begun ≤ K.d.now
end Go.Proofs.YtdpdbfhbojgigacGreatDoor
