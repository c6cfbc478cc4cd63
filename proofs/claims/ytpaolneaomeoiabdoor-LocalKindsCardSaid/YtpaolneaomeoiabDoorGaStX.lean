/-
  Package gaps by contracts over the object in memory ('GpIn'): one that lies behind all that was there. Conditions: the ticks that are kept are none (-1) or from 0 to MaxTick, which New and Report keep.
-/
import Derived.Test.YtpaolneaomeoiabDoorPureX
import Derived.Test.YtpaolneaomeoiabDoorMemX
import Derived.Laws.MakeOwn
import Derived.BigQuiet
import Derived.Deep.QuietTactic
import Derived.Deep.DeepCutAuto
import Derived.Deep.AppendLies
import Derived.Deep.RegionLaw
import Derived.WalkSmall
namespace Go.Proofs.YtpaolneaomeoiabDoor
open Go.RowKit Go.Extern.Stop Go.Stop Go.Extern

def encW (x : WG) : List Value := [.int .i64 x.g.fr, .int .i64 x.g.to, .int .i64 x.g.mn, .int .i64 x.g.mx, .int .i64 x.t]
theorem encW_len (x : WG) : (encW x).length = 5 := rfl
theorem encW_one : ∀ (x : WG), ∀ u ∈ encW x, u.oneCell' = true := by intro x u hu; simp [encW] at hu; rcases hu with rfl | rfl | rfl | rfl | rfl <;> rfl
/-- The gaps' own cells: none lies in block b, none below B. -/
def WgAt (B b : Nat) (w : World) (sa : Option Addr) (xs : List WG) : Prop :=
  xs ≠ [] → ∃ g o, sa = some ⟨g, o, none⟩ ∧ g ≠ b ∧ B ≤ g ∧ (∀ i x, xs[i]? = some x → ∀ j u, (encW x)[j]? = some u → w.cell? ⟨g, o + i * 5 + j, none⟩ = some u) ∧ ∃ cur, w.heap[g]? = some (.cells cur 125 (0, 0))
/-- All blocks of other types are as they were. -/
def FrG (w w' : World) : Prop := ∀ (i : Nat) (c : Array Value) (T : TypeId) (fr : Nat × Nat), w.heap[i]? = some (.cells c T fr) → T ≠ 123 → T ≠ 125 → w'.heap[i]? = some (.cells c T fr)
theorem FrG.refl (w : World) : FrG w w := fun _ _ _ _ h _ _ => h
theorem FrG.trans {w w' w'' : World} (h : FrG w w') (h' : FrG w' w'') : FrG w w'' := fun i c T fr a b d => h' i c T fr (h i c T fr a b d) b d
theorem FrG.set {w : World} {b o : Nat} {c : Array Value} {T : TypeId} {fr : Nat × Nat} (hb : w.heap[b]? = some (.cells c T fr)) (hT : T = 123 ∨ T = 125) (v : Value) : FrG w (w.setCell ⟨b, o, none⟩ v) := fun i c' T' fr' h h1 h2 => by
  simp only [World.setCell, Array.getElem?_modify]
  rw [if_neg]
  · exact h
  · rintro rfl
    rw [hb] at h
    simp only [Option.some.injEq, Obj.cells.injEq] at h
    rcases hT with rfl | rfl
    · exact h1 h.2.1.symm
    · exact h2 h.2.1.symm
structure GpAt (B : Nat) (w : World) (b : Nat) (sa : Option Addr) (cap : Nat) (s : GSt) : Prop where
  heap : w.heap[b]? = some (.cells #[.slice sa s.xs.length cap, .bool s.bad] 123 (0, 0))
  sl : WgAt B b w sa s.xs
  lo : B ≤ b
  fit : s.fit
/-- A watch of the law's own, behind all that was in w0. -/
def GpIn (w0 w : World) (b : Nat) (s : GSt) : Prop := Below w0.heap.size w0 w ∧ ∃ sa cap, GpAt w0.heap.size w b sa cap s
variable {B b cap : Nat} {w0 w w' : World} {sa : Option Addr} {s : GSt} {xs : List WG}
theorem WgAt.below (h : WgAt B b w sa xs) (hb : Below w.heap.size w w') : WgAt B b w' sa xs := fun hne => by
  obtain ⟨g, o, e, h1, h2, hc, cur, hf⟩ := h hne
  exact ⟨g, o, e, h1, h2, fun i x hx j u hu => cell_below hb (hc i x hx j u hu), cur, row_below hb hf⟩
theorem GpAt.below (h : GpAt B w b sa cap s) (hb : Below w.heap.size w w') : GpAt B w' b sa cap s := ⟨row_below hb h.heap, h.sl.below hb, h.lo, h.fit⟩
theorem GpIn.below (h : GpIn w0 w b s) (hb : Below w.heap.size w w') : GpIn w0 w' b s := by
  obtain ⟨h0, sa, cap, h⟩ := h
  exact ⟨h0.trans (hb.mono h0.size), sa, cap, h.below hb⟩
theorem GpIn.from {w1 : World} (h : GpIn w1 w b s) (hb : Below w0.heap.size w0 w1) : GpIn w0 w b s := by
  obtain ⟨h0, sa, cap, h⟩ := h
  refine ⟨hb.trans (h0.mono hb.size), sa, cap, h.heap, fun hne => ?_, Nat.le_trans hb.size h.lo, h.fit⟩
  obtain ⟨g, o, e, h1, h2, r⟩ := h.sl hne
  exact ⟨g, o, e, h1, Nat.le_trans hb.size h2, r⟩
theorem drewN_below (w : World) (q : Nat) : Below w.heap.size w (w.drewN q) := below_drewN (Below.refl _ _) q
theorem GpIn.drewN (h : GpIn w0 w b s) (q : Nat) : GpIn w0 (w.drewN q) b s := h.below (drewN_below w q)
/-- 'bad' is set. -/
theorem GpAt.setBad (h : GpAt B w b sa cap s) (v : Bool) : GpAt B (w.setCell ⟨b, 1, none⟩ (.bool v)) b sa cap ⟨s.xs, v⟩ := by
  refine ⟨?_, fun hne => ?_, h.lo, h.fit⟩
  · simp only [World.setCell, Array.getElem?_modify, h.heap]
    simp
  · obtain ⟨g, o, e, h1, h2, hc, cur, hf⟩ := h.sl hne
    refine ⟨g, o, e, h1, h2, fun i x hx j u hu => (World.cell?_setCell_other _ _ _ _ (fun e => h1 (congrArg Addr.block e).symm)).trans (hc i x hx j u hu), cur, ?_⟩
    simp only [World.setCell, Array.getElem?_modify]
    rw [if_neg (fun e => h1 e.symm)]
    exact hf
theorem GpIn.setBad (h : GpIn w0 w b s) (v : Bool) : GpIn w0 (w.setCell ⟨b, 1, none⟩ (.bool v)) b ⟨s.xs, v⟩ := by
  obtain ⟨h0, sa, cap, h⟩ := h
  exact ⟨h0.setCell (p := ⟨b, 1, none⟩) h.lo _, sa, cap, h.setBad v⟩
/-- The tick of one gap is set. -/
theorem GpAt.setTick {g o k : Nat} {x : WG} {t : Int} (h : GpAt B w b (some ⟨g, o, none⟩) cap s) (hx : s.xs[k]? = some x) (ht : -1 ≤ t ∧ t ≤ 1099511627776) : GpAt B (w.setCell ⟨g, o + k * 5 + 4, none⟩ (.int .i64 t)) b (some ⟨g, o, none⟩) cap ⟨s.xs.set k ⟨x.g, t⟩, s.bad⟩ := by
  have hne : s.xs ≠ [] := fun e => by rw [e] at hx; simp at hx
  obtain ⟨g', o', e, h1, h2, hc, cur, hf⟩ := h.sl hne
  obtain ⟨rfl, rfl⟩ : g = g' ∧ o = o' := by simpa using e
  refine ⟨?_, fun _ => ⟨g, o, rfl, h1, h2, fun i y hy j u hu => ?_, cur.setIfInBounds (o + k * 5 + 4) (.int .i64 t), ?_⟩, h.lo, fun y hy => ?_⟩
  · simp only [World.setCell, Array.getElem?_modify]
    rw [if_neg h1, List.length_set]
    exact h.heap
  · simp only [List.getElem?_set] at hy
    split at hy
    · rename_i e1
      subst e1
      split at hy
      · cases hy
        have hj : j < 5 := by
          rcases Nat.lt_or_ge j 5 with h' | h'
          · exact h'
          · rw [List.getElem?_eq_none (by rw [encW_len]; exact h')] at hu; cases hu
        by_cases e4 : j = 4
        · subst e4
          have : u = .int .i64 t := by simpa [encW] using hu.symm
          subst this
          exact World.cell?_setCell_same _ _ _ (hc k x hx 4 _ rfl)
        · rw [World.cell?_setCell_other _ _ _ _ (by intro e; simp only [Addr.mk.injEq] at e; omega)]
          refine hc k x hx j u ?_
          match j, hj, e4 with
          | 0, _, _ => exact hu
          | 1, _, _ => exact hu
          | 2, _, _ => exact hu
          | 3, _, _ => exact hu
          | 4, _, h4 => exact absurd rfl h4
      · cases hy
    · rename_i e1
      have hj : j < 5 := by
        rcases Nat.lt_or_ge j 5 with h' | h'
        · exact h'
        · rw [List.getElem?_eq_none (by rw [encW_len]; exact h')] at hu; cases hu
      rw [World.cell?_setCell_other _ _ _ _ (by intro e; simp only [Addr.mk.injEq] at e; omega)]
      exact hc i y hy j u hu
  · simp [World.setCell, Array.getElem?_modify, hf]
  · rcases List.mem_or_eq_of_mem_set hy with h' | rfl
    · exact h.fit y h'
    · exact ht
theorem GpAt.c0 (h : GpAt B w b sa cap s) : w.cell? ⟨b, 0, none⟩ = some (.slice sa s.xs.length cap) := by simp [World.cell?, h.heap]
theorem GpAt.c1 (h : GpAt B w b sa cap s) : w.cell? ⟨b, 1, none⟩ = some (.bool s.bad) := by simp [World.cell?, h.heap]
theorem GpAt.f1 (h : GpAt B w b sa cap s) : w.frozen? ⟨b, 1, none⟩ = false := by simp [World.frozen?, h.heap]

set_option maxHeartbeats 1000000 in
set_option maxRecDepth 100000 in
theorem gp_end (h : GpIn w0 w b s) :
    Calls Tryd.prog 52 #[.pointer (some ⟨b, 0, none⟩)] w fun e w' => e = .returned (.bool (!s.bad)) ∧ GpIn w0 w' b s.zero ∧ FrG w w' := by
  obtain ⟨h0, sa, cap, h⟩ := h
  have c1 := h.c1
  have f1 := h.f1
  have H : Hid (GpIn w0 (w.setCell ⟨b, 1, none⟩ (.bool false)) b s.zero) := GpIn.setBad ⟨h0, sa, cap, h⟩ false
  have HF : Hid (FrG w (w.setCell ⟨b, 1, none⟩ (.bool false))) := FrG.set h.heap (Or.inl rfl) _
  clear h h0
  go_enter Tryd.func52, Tryd.ntmps52
  go_wp2
  go_ret
  exact ⟨rfl, H.out, HF.out⟩
/-- One gap's cells. -/
def OneW (w : World) (g o : Nat) (x : WG) : Prop := ∀ j u, (encW x)[j]? = some u → w.cell? ⟨g, o + j, none⟩ = some u
set_option maxHeartbeats 1000000 in
set_option maxRecDepth 100000 in
theorem bears_at {g o : Nat} {x : WG} {tick : Int} (h : OneW w g o x) (hx : -1 ≤ x.t ∧ x.t ≤ 1099511627776) (ht : 0 ≤ tick ∧ tick ≤ 1099511627776) :
    Calls Tryd.prog 65 #[.pointer (some ⟨g, o, none⟩), .int .i64 tick] w fun e w' => e = .returned (.bool (x.bears tick)) ∧ w' = w := by
  have c2 := h 2 _ rfl
  have c3 := h 3 _ rfl
  have c4 := h 4 _ rfl
  obtain ⟨hx0, hx1⟩ := hx
  obtain ⟨ht0, ht1⟩ := ht
  clear h
  by_cases g0 : x.t = -1
  · have HR : Hid (x.bears tick = false) := by show _ = _; unfold WG.bears; rw [g0]; rfl
    rw [g0] at c4
    clear hx0 hx1 c2 c3
    go_enter Tryd.func65, Tryd.ntmps65
    go_wp2
    go_ret
    exact ⟨by rw [HR.out]; first | rfl | (show Ending.returned (Value.bool (x.t != -1)) = _; simp [g0]), rfl⟩
  by_cases g1 : x.g.mn ≤ tick - x.t
  · by_cases g2 : tick - x.t ≤ x.g.mx
    · have HR : Hid (x.bears tick = true) := by show _ = _; unfold WG.bears; simp [g0, g1, g2]
      go_enter Tryd.func65, Tryd.ntmps65
      go_wp2
      go_ret
      exact ⟨by rw [HR.out]; first | rfl | (show Ending.returned (Value.bool (x.t != -1)) = _; simp [g0]), rfl⟩
    · have HR : Hid (x.bears tick = false) := by show _ = _; unfold WG.bears; simp [g0, g1, g2]
      go_enter Tryd.func65, Tryd.ntmps65
      go_wp2
      go_ret
      exact ⟨by rw [HR.out]; first | rfl | (show Ending.returned (Value.bool (x.t != -1)) = _; simp [g0]), rfl⟩
  · have HR : Hid (x.bears tick = false) := by show _ = _; unfold WG.bears; simp [g0, g1]
    go_enter Tryd.func65, Tryd.ntmps65
    go_wp2
    go_ret
    exact ⟨by rw [HR.out]; first | rfl | (show Ending.returned (Value.bool (x.t != -1)) = _; simp [g0]), rfl⟩
end Go.Proofs.YtpaolneaomeoiabDoor
