/-
  Package flow by contracts over the object in memory ('FlIn'): one that lies behind all that was there. Conditions: its lists are not too long, its edges are of int's range, which New keeps.
-/
import Derived.Test.YtpaolneaomeoiabDoorPureX
import Derived.Test.YtpaolneaomeoiabDoorFlKeyX
import Derived.Test.YtpaolneaomeoiabDoorMemX
import Derived.BigQuiet
import Derived.Deep.QuietTactic
import Derived.Deep.DeepCutAuto
import Derived.Maps.RangeWalk
import Derived.WalkSmall
namespace Go.Proofs.YtpaolneaomeoiabDoor
open Go.RowKit Go.Extern.Stop Go.Stop Go.Extern

structure FlAt (B : Nat) (w : World) (b : Nat) (e : EntD) (s : FSt) (m n : Nat) (D : DataW Unit) (fv lv : Value) : Prop where
  heap : w.heap[b]? = some (.cells #[.int .i64 (e.pts.length : Int), .map (some m), fv, lv, .int .i64 s.ah, .bool s.bad] 63 (0, 0))
  lo : B ≤ b
  own : w.ownsMap Tryd.prog 59 unitElem m n D
  edg : EdgeMap D e.edges
  hf : SlOwn encI 1 3 B w fv e.first
  hl : SlOwn encI 1 3 B w lv e.last
  fit : s.ah = -1 ∨ (0 ≤ s.ah ∧ s.ah < (e.pts.length : Int))
  sm : SmallE e
  wf : WfE e.edges
/-- A flow of the law's own, behind all that was in w0. -/
def FlIn (w0 w : World) (b : Nat) (e : EntD) (s : FSt) : Prop := Below w0.heap.size w0 w ∧ ∃ m n D fv lv, FlAt w0.heap.size w b e s m n D fv lv
variable {B b m n : Nat} {w0 w w' : World} {e : EntD} {s : FSt} {D : DataW Unit} {fv lv : Value}
theorem FlAt.mne (h : FlAt B w b e s m n D fv lv) : m ≠ b := by
  obtain ⟨es, c, hm, -⟩ := h.own
  intro e
  subst e
  rw [h.heap] at hm
  cases hm
theorem ownsMap_below {k : TypeId} {R : Value → Option (DataW Unit × List MemPlace)} (h : w.ownsMap Tryd.prog k R m n D) (hb : Below w.heap.size w w') : w'.ownsMap Tryd.prog k R m n D :=
  h.kept (row := none) ⟨hb.os, hb.tape, hb.output, hb.size, fun k hk _ => hb.block k hk⟩ (by simp)
theorem FlAt.below (h : FlAt B w b e s m n D fv lv) (hb : Below w.heap.size w w') : FlAt B w' b e s m n D fv lv :=
  ⟨row_below hb h.heap, h.lo, ownsMap_below h.own hb, h.edg, h.hf.below hb, h.hl.below hb, h.fit, h.sm, h.wf⟩
theorem FlIn.below (h : FlIn w0 w b e s) (hb : Below w.heap.size w w') : FlIn w0 w' b e s := by
  obtain ⟨h0, m, n, D, fv, lv, h⟩ := h
  exact ⟨h0.trans (hb.mono h0.size), m, n, D, fv, lv, h.below hb⟩
theorem ownB {w1 : World} {T : TypeId} {v : Value} {l : List Int} (h : SlOwn encI 1 T w1.heap.size w v l) (hb : w0.heap.size ≤ w1.heap.size) : SlOwn encI 1 T w0.heap.size w v l := by
  refine ⟨h.1, ?_⟩
  rcases h.2 with h | ⟨g, cap, cur, h1, h2, r⟩
  · exact Or.inl h
  · exact Or.inr ⟨g, cap, cur, h1, Nat.le_trans hb h2, r⟩
theorem FlIn.from {w1 : World} (h : FlIn w1 w b e s) (hb : Below w0.heap.size w0 w1) : FlIn w0 w b e s := by
  obtain ⟨h0, m, n, D, fv, lv, h⟩ := h
  exact ⟨hb.trans (h0.mono hb.size), m, n, D, fv, lv, h.heap, Nat.le_trans hb.size h.lo, h.own, h.edg, ownB h.hf hb.size, ownB h.hl hb.size, h.fit, h.sm, h.wf⟩
theorem FlIn.drewN (h : FlIn w0 w b e s) (q : Nat) : FlIn w0 (w.drewN q) b e s := h.below (below_drewN (Below.refl _ _) q)
/-- While a row of another type is written. -/
theorem FlIn.grown {v : Value} {B' : Nat} {T : TypeId} {k c : Nat} {xs : List Value} (h : FlIn w0 w b e s) (ho : w.ownsRow B' T k v c xs) (hB : w0.heap.size ≤ B') (hT : T ≠ 3) (hT' : T ≠ 63) (hg : w.grownBy w' v.ownBlock) : FlIn w0 w' b e s := by
  obtain ⟨h0, m, n, D, fv, lv, h⟩ := h
  have hbel : Below w0.heap.size w0 w' := h0.grown hg h0.size (fun i hi => Nat.le_trans hB (ho.lt i hi).1)
  have hno : ∀ g cs fr, v.ownBlock = some g → w.heap[g]? = some (.cells cs T fr) → True := fun _ _ _ _ _ => trivial
  have hcase : v.ownBlock = none ∨ ∃ g cs, v.ownBlock = some g ∧ w.heap[g]? = some (.cells cs T (0, 0)) := by
    rcases ho.2 with ⟨rfl, _⟩ | ⟨g, cap, cur, rfl, _, hg', _⟩
    · exact Or.inl rfl
    · exact Or.inr ⟨g, cur, rfl, hg'⟩
  rcases hcase with hn | ⟨g, cs, hn, hgr⟩
  · rw [hn] at hg
    have hb : Below w.heap.size w w' := ⟨hg.os, hg.tape, hg.output, hg.size, fun k hk => hg.block k hk (by simp)⟩
    exact ⟨hbel, m, n, D, fv, lv, h.below hb⟩
  · rw [hn] at hg
    refine ⟨hbel, m, n, D, fv, lv, ?_, h.lo, h.own.kept hg ?_, h.edg, h.hf.other hg hgr hT, h.hl.other hg hgr hT, h.fit, h.sm, h.wf⟩
    · refine (hg.block b (lt_of_row h.heap) ?_).trans h.heap
      intro e2
      cases e2
      have := h.heap
      rw [hgr] at this
      simp only [Option.some.injEq, Obj.cells.injEq] at this
      exact hT' this.2.1
    · intro e2
      cases e2
      obtain ⟨es, c, hm, -⟩ := h.own
      rw [hgr] at hm
      cases hm
theorem FlAt.setCell (h : FlAt B w b e s m n D fv lv) (i : Nat) (u : Value) {s' : FSt} (hr : (#[.int .i64 (e.pts.length : Int), .map (some m), fv, lv, .int .i64 s.ah, .bool s.bad] : Array Value).setIfInBounds i u = #[.int .i64 (e.pts.length : Int), .map (some m), fv, lv, .int .i64 s'.ah, .bool s'.bad]) (hf : s'.ah = -1 ∨ (0 ≤ s'.ah ∧ s'.ah < (e.pts.length : Int))) : FlAt B (w.setCell ⟨b, i, none⟩ u) b e s' m n D fv lv := by
  refine ⟨?_, h.lo, h.own.setCell (a := ⟨b, i, none⟩) h.mne u, h.edg, h.hf.other (grown_setCell w b i u) h.heap (by decide), h.hl.other (grown_setCell w b i u) h.heap (by decide), hf, h.sm, h.wf⟩
  simp only [World.setCell, Array.getElem?_modify, h.heap]
  simp [← hr]
theorem FlAt.setAh (h : FlAt B w b e s m n D fv lv) {a : Int} (hf : a = -1 ∨ (0 ≤ a ∧ a < (e.pts.length : Int))) : FlAt B (w.setCell ⟨b, 4, none⟩ (.int .i64 a)) b e ⟨a, s.bad⟩ m n D fv lv := h.setCell 4 _ (by simp) hf
theorem FlAt.setBad (h : FlAt B w b e s m n D fv lv) (v : Bool) : FlAt B (w.setCell ⟨b, 5, none⟩ (.bool v)) b e ⟨s.ah, v⟩ m n D fv lv := h.setCell 5 _ (by simp) h.fit
theorem FlAt.cell (h : FlAt B w b e s m n D fv lv) (i : Nat) (u : Value) (hu : (#[.int .i64 (e.pts.length : Int), .map (some m), fv, lv, .int .i64 s.ah, .bool s.bad] : Array Value)[i]? = some u) : w.cell? ⟨b, i, none⟩ = some u := by simp [World.cell?, h.heap, hu]
theorem FlAt.frozen (h : FlAt B w b e s m n D fv lv) (i : Nat) : w.frozen? ⟨b, i, none⟩ = false := by simp [World.frozen?, h.heap]

set_option maxHeartbeats 1000000 in
theorem sidx_at (l : List Int) (x : Int) (sa : Option Addr) (cap : Nat) (w : World) (hl : SlAt encI 1 w (.slice sa l.length cap) l) (hn : l.length ≤ 1000000) :
    Calls Tryd.prog 55 #[.slice sa l.length cap, .int .i64 x] w fun v w' => (∃ i : Int, v = .returned (.int .i64 i) ∧ (0 ≤ i ↔ x ∈ l)) ∧ w' = w := by
  have HL : Hid (SlAt encI 1 w (.slice sa l.length cap) l) := hl
  have HN : Hid (l.length ≤ 1000000) := hn
  clear hl hn
  go_enter Tryd.func55, Tryd.ntmps55
  go_wp2
  go_loop [5, 8] (fun _ i => ∃ k : Nat, k ≤ l.length ∧ i = .int .i64 k ∧ ∀ j, j < k → l[j]? ≠ some x) (fun _ i => l.length - (intOf i).toNat)
  case atStart => exact ⟨0, Nat.zero_le _, rfl, fun j hj => absurd hj (by omega)⟩
  case round =>
    obtain ⟨k, hk, rfl, hno⟩ := hrel
    have HNo : Hid (∀ j, j < k → l[j]? ≠ some x) := hno
    clear hno
    by_cases hlt : k < l.length
    · have k1 : (k : Int) < (l.length : Int) := by omega
      have k2 : k < 1000000 := by have := HN.out; omega
      obtain ⟨y, hy⟩ : ∃ y, l[k]? = some y := ⟨_, List.getElem?_eq_getElem hlt⟩
      have HY : Hid (l[k]? = some y) := hy
      obtain ⟨sa', cap', hsl, -, hcc⟩ := id HL.out
      cases hsl
      obtain ⟨g, o, rfl, hc0⟩ := hcc (fun h => by rw [h] at hy; simp at hy)
      have c0 := hc0 k _ hy 0 _ rfl
      simp only [Nat.mul_one, Nat.add_zero] at c0
      clear hcc hc0 hy
      by_cases hxy : x = y
      · have HX : Hid (x ∈ l) := by show _ ∈ _; rw [hxy]; exact List.mem_of_getElem? HY.out
        subst hxy
        go_wp2
        go_ret
        exact ⟨⟨_, rfl, ⟨fun _ => HX.out, fun _ => by omega⟩⟩, rfl⟩
      · have HX : Hid (∀ j, j < k + 1 → l[j]? ≠ some x) := fun j hj => by
          rcases Nat.lt_or_ge j k with h1 | h1
          · exact HNo.out j h1
          · rw [show j = k by omega, HY.out]
            intro h
            exact hxy (by simpa using h.symm)
        go_wp2
        go_round
        case rel => exact ⟨k + 1, by omega, by go_num, HX.out⟩
        case measure => simp [intOf]; omega
    · have k1 : ¬ (k : Int) < (l.length : Int) := by omega
      have HX : Hid (x ∉ l) := by
        show _ ∉ _
        intro h
        obtain ⟨i, hi⟩ := List.getElem?_of_mem h
        have : i < l.length := (List.getElem?_eq_some_iff.1 hi).1
        exact HNo.out i (by omega) hi
      go_wp2
      go_ret
      exact ⟨⟨_, rfl, ⟨fun h => absurd h (by omega), fun h => absurd h HX.out⟩⟩, rfl⟩
set_option maxHeartbeats 1000000 in
theorem scontains_at (l : List Int) (x : Int) (sa : Option Addr) (cap : Nat) (w : World) (hl : SlAt encI 1 w (.slice sa l.length cap) l) (hn : l.length ≤ 1000000) :
    Calls Tryd.prog 43 #[.slice sa l.length cap, .int .i64 x] w fun v w' => v = .returned (.bool (decide (x ∈ l))) ∧ w' = w := by
  have HC : Hid _ := sidx_at l x sa cap w hl hn
  clear hl hn
  go_enter Tryd.func43, Tryd.ntmps43
  go_wp2_with fail
  refine Calls.mono HC.out ?_
  rintro v w' ⟨⟨i, rfl, hi⟩, rfl⟩
  have HI : Hid (decide (0 ≤ i) = decide (x ∈ l)) := decide_eq_decide.2 hi
  clear hi HC
  go_wp2
  go_ret
  exact ⟨by rw [← HI.out]; first | rfl | simp, rfl⟩
set_option maxHeartbeats 1000000 in
theorem fl_has (p : Int) (h : FlAt B w b e s m n D fv lv) :
    Calls Tryd.prog 42 #[.pointer (some ⟨b, 0, none⟩), .int .i64 p] w fun v w' => v = .returned (.bool (hasP e p)) ∧ w' = w := by
  have c0 := h.cell 0 _ rfl
  clear h
  by_cases g0 : 0 ≤ p
  · have HR : Hid (hasP e p = decide (p < (e.pts.length : Int))) := by show _ = _; unfold hasP; rw [decide_eq_true g0]; rfl
    go_enter Tryd.func42, Tryd.ntmps42
    go_wp2
    go_ret
    exact ⟨by rw [HR.out]; first | rfl | simp, rfl⟩
  · have HR : Hid (hasP e p = false) := by show _ = _; unfold hasP; rw [decide_eq_false g0]; rfl
    go_enter Tryd.func42, Tryd.ntmps42
    go_wp2
    go_ret
    exact ⟨by rw [HR.out]; first | rfl | simp, rfl⟩
set_option maxHeartbeats 1000000 in
theorem fl_end (h : FlIn w0 w b e s) :
    Calls Tryd.prog 13 #[.pointer (some ⟨b, 0, none⟩)] w fun z w' => z = .returned (.bool (!s.bad)) ∧ FlIn w0 w' b e s.zero ∧ w.grownBy w' (some b) := by
  obtain ⟨h0, m, n, D, fv, lv, h⟩ := h
  have c5 := h.cell 5 _ rfl
  have f5 := h.frozen 5
  have HF : Hid (FlIn w0 (w.setCell ⟨b, 5, none⟩ (.bool false)) b e s.zero) := ⟨h0.setCell (p := ⟨b, 5, none⟩) h.lo _, m, n, D, fv, lv, h.setBad false⟩
  clear h h0
  go_enter Tryd.func13, Tryd.ntmps13
  go_wp2
  go_ret
  exact ⟨rfl, HF.out, grown_setCell _ _ _ _⟩
end Go.Proofs.YtpaolneaomeoiabDoor
