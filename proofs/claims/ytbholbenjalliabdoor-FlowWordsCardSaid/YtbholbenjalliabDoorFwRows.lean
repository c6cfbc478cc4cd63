/-
  The document's RowsOf by a contract: 'rowsN'. Conditions: the entity's lists lie in memory and are not too long; at most 15 reports, at most 16 points.
-/
import Derived.Test.YtbholbenjalliabDoorFwPure
import Derived.Test.YtbholbenjalliabDoorFlStep
import Derived.Deep.OwnRows
import Derived.BigRegion
namespace Go.Proofs.YtbholbenjalliabDoor
open Go.RowKit Go.Extern.Stop Go.Stop Go.Extern

/-- A row of L numbers. -/
def tabOf (L : Nat) (c : Nat → Nat) : Array Value := ((List.range L).map fun i => Value.int .i64 (c i : Int)).toArray
def putN (c : Nat → Nat) (i v : Nat) : Nat → Nat := fun j => if j = i then v else c j
theorem tabOf_at {L : Nat} {c : Nat → Nat} {i : Nat} (h : i < L) : (tabOf L c)[i]? = some (.int .i64 (c i : Int)) := by simp [tabOf, h]
theorem tab_congr {L : Nat} {c c' : Nat → Nat} (h : ∀ i, i < L → c i = c' i) : tabOf L c = tabOf L c' := by
  unfold tabOf
  congr 1
  exact List.map_congr_left fun i hi => by rw [h i (by simpa using hi)]
section
variable {w : World} {g L i : Nat} {c : Nat → Nat} {T : TypeId}
theorem tab_cell (h : w.heap[g]? = some (.cells (tabOf L c) T (0, 0))) (hi : i < L) : w.cell? ⟨g, i, none⟩ = some (.int .i64 (c i : Int)) := by simp [World.cell?, h, tabOf_at hi]
theorem tab_frozen (h : w.heap[g]? = some (.cells (tabOf L c) T (0, 0))) : w.frozen? ⟨g, i, none⟩ = false := by simp [World.frozen?, h]
theorem tab_set (h : w.heap[g]? = some (.cells (tabOf L c) T (0, 0))) (v : Nat) : (w.setCell ⟨g, i, none⟩ (.int .i64 (v : Int))).heap[g]? = some (.cells (tabOf L (putN c i v)) T (0, 0)) := by
  simp only [World.setCell, Array.getElem?_modify, h]
  simp only [if_true, Option.map_some, Option.some.injEq, Obj.cells.injEq, and_true, Option.isSome_none, Bool.false_eq_true, if_false]
  apply Array.ext_getElem?
  intro j
  rw [Array.getElem?_setIfInBounds]
  have hs : (tabOf L c).size = L := by simp [tabOf]
  by_cases hj : j < L
  · rw [tabOf_at hj, tabOf_at hj, hs]
    unfold putN
    by_cases e : i = j
    · subst e
      simp [hj]
    · simp [e, Ne.symm e]
  · have hn : ∀ c, (tabOf L c)[j]? = none := fun c => by simp [tabOf]; omega
    rw [hn, hn, hs]
    split
    · rw [if_neg (by omega)]
    · rfl
theorem tab_other {b : Nat} {o : Nat} {u : Value} (h : w.heap[g]? = some (.cells (tabOf L c) T (0, 0))) (hne : g ≠ b) : (w.setCell ⟨b, o, none⟩ u).heap[g]? = some (.cells (tabOf L c) T (0, 0)) := by
  simp only [World.setCell, Array.getElem?_modify]
  rw [if_neg (fun e => hne e.symm)]
  exact h
end
theorem tab_made (L : Nat) : madeCells #[.int .i64 0] L = tabOf L (fun _ => 0) := by
  apply Array.ext_getElem?
  intro j
  by_cases hj : j < L
  · rw [tabOf_at hj]
    simp [madeCells, hj, Nat.mod_one]
  · rw [Array.getElem?_eq_none (by rw [size_madeCells]; omega), Array.getElem?_eq_none (by simp [tabOf]; omega)]
theorem Tryd.infoInt : (Tryd.prog.info? 3).map (fun i => (i.zero, i.size, i.bytes)) = some (some (.int .i64 0), 1, 8) := by kernel_rfl
/-- What rows[i] is, k reports from the end. -/
def rowC (e : EntD) (k : Nat) : Nat → Nat := fun i => rowsN e k ((i : Int) - 1)
/-- What next[j] is while its i-th is summed up, p points through. -/
def nextC (e : EntD) (k i p : Nat) : Nat → Nat := fun j => if j < i then rowC e (k + 1) j else if j = i then pstep e ((i : Int) - 1) (rowsN e k) p else 0
def onesC (k : Nat) : Nat → Nat := fun i => if i < k then 1 else 0
theorem onesC_put (k j : Nat) : putN (onesC k) k 1 j = onesC (k + 1) j := by
  unfold putN onesC
  by_cases e : j = k
  · subst e
    rw [if_pos rfl, if_pos (by omega)]
  · rw [if_neg e]
    by_cases h : j < k
    · rw [if_pos h, if_pos (by omega)]
    · rw [if_neg h, if_neg (by omega)]
theorem nextC_zero (e : EntD) (k j : Nat) : nextC e k 0 0 j = 0 := by
  unfold nextC
  rw [if_neg (by omega)]
  split
  · simp [pstep]
  · rfl
theorem nextC_same {e : EntD} {k i p : Nat} (h : pstep e ((i : Int) - 1) (rowsN e k) (p + 1) = pstep e ((i : Int) - 1) (rowsN e k) p) (j : Nat) : nextC e k i (p + 1) j = nextC e k i p j := by
  unfold nextC
  rw [h]
theorem nextC_row (e : EntD) (k i : Nat) : ∀ j, nextC e k i e.pts.length j = nextC e k (i + 1) 0 j := fun j => by
  unfold nextC
  by_cases h1 : j < i
  · rw [if_pos h1, if_pos (by omega)]
  · rw [if_neg h1]
    by_cases h2 : j = i
    · subst h2
      rw [if_pos rfl, if_pos (by omega)]
      rfl
    · rw [if_neg h2, if_neg (by omega)]
      split
      · simp [pstep]
      · rfl
theorem nextC_put {e : EntD} {k i p : Nat} {v : Nat} (hv : v = pstep e ((i : Int) - 1) (rowsN e k) (p + 1)) : ∀ j, putN (nextC e k i p) i v j = nextC e k i (p + 1) j := fun j => by
  unfold putN nextC
  by_cases h2 : j = i
  · subst h2
    rw [if_pos rfl, if_neg (by omega), if_pos rfl, hv]
  · rw [if_neg h2]
    split
    · rfl
    · rfl
theorem nextC_at (e : EntD) (k i p : Nat) : nextC e k i p i = pstep e ((i : Int) - 1) (rowsN e k) p := by unfold nextC; rw [if_neg (by omega), if_pos rfl]
theorem rowsC_bound {e : EntD} {k : Nat} (hk : k < 15) (hp : e.pts.length ≤ 16) (i : Nat) {p : Nat} (h : p ≤ e.pts.length) : pstep e ((i : Int) - 1) (rowsN e k) p ≤ 1152921504606846976 :=
  Nat.le_trans (pstep_mono e _ _ h) (rowsN_bound e (k + 1) ((i : Int) - 1) hp (by omega))
set_option maxHeartbeats 8000000 in
set_option maxRecDepth 100000 in
theorem rowsOf_at (e : EntD) (pa ga ea fa la : Option Addr) (pc gc ec fc lc : Nat) (n : Nat) (w : World) (hP : EntParts w e (.slice pa e.pts.length pc) (.slice ga e.gaps.length gc) (.slice ea e.edges.length ec) (.slice fa e.first.length fc) (.slice la e.last.length lc)) (hS : SmallE e) (hn : n ≤ 15) (hp : e.pts.length ≤ 16) :
    Calls Tryd.prog 13 #[.agg #[.string e.name, .int .i64 e.tol, .slice pa e.pts.length pc, .int .i64 e.cnt, .int .i64 e.mn, .int .i64 e.mx, .slice ga e.gaps.length gc, .slice ea e.edges.length ec, .slice fa e.first.length fc, .slice la e.last.length lc], .int .i64 (-1), .int .i64 (n : Int)] w fun v w' => v = .returned (.int .i64 (rowsN e n (-1) : Int)) ∧ Below w.heap.size w w' := by
  have HP : Hid (∀ V, Below w.heap.size w V → EntParts V e (.slice pa e.pts.length pc) (.slice ga e.gaps.length gc) (.slice ea e.edges.length ec) (.slice fa e.first.length fc) (.slice la e.last.length lc)) := fun V hV => hP.below hV
  have HSm : Hid (SmallE e) := hS
  have HN : Hid (n ≤ 15 ∧ e.pts.length ≤ 16) := ⟨hn, hp⟩
  clear hP hS hn hp
  obtain ⟨L, hL⟩ : ∃ L, L = e.pts.length + 1 := ⟨_, rfl⟩
  have HLL : Hid (L = e.pts.length + 1) := hL
  have hLi : (e.pts.length : Int) + 1 = (L : Int) := by omega
  have L17 : L ≤ 17 := by have := HN.out.2; omega
  have L0 : 0 < L := by omega
  clear hL
  have hmk : ∀ w : World, (Instr.makeSlice 25 (.int .i64 (L : Int)) (.int .i64 (L : Int))).run Tryd.prog w = .ok (.slice (some ⟨w.heap.size, 0, none⟩) L L) (w.alloc (.cells (tabOf L (fun _ => 0)) 3)) := fun w => by
    rw [← tab_made]
    exact run_make_row' (P := Tryd.prog) 25 3 (.int .i64 0) 8 Tryd.underlying25 Tryd.infoInt rfl .i64 .i64 L (by omega) (by omega) w
  have HMk : Hid (∀ w : World, (Instr.makeSlice 25 (.int .i64 (L : Int)) (.int .i64 (L : Int))).run Tryd.prog w = .ok (.slice (some ⟨w.heap.size, 0, none⟩) L L) (w.alloc (.cells (tabOf L (fun _ => 0)) 3))) := hmk
  go_enter Tryd.func13, Tryd.ntmps13
  go_upto_region 1 with fail
  obtain ⟨W, hW⟩ : ∃ V, V = w.alloc (.cells #[.string e.name, .int .i64 e.tol, .slice pa e.pts.length pc, .int .i64 e.cnt, .int .i64 e.mn, .int .i64 e.mx, .slice ga e.gaps.length gc, .slice ea e.edges.length ec, .slice fa e.first.length fc, .slice la e.last.length lc] 27) := ⟨_, rfl⟩
  rw [← hW]
  have HBW : Hid (Below w.heap.size w W) := by show Below _ _ _; rw [hW]; exact Below.one _ _
  have HXr : Hid (W.heap[w.heap.size]? = some (.cells #[.string e.name, .int .i64 e.tol, .slice pa e.pts.length pc, .int .i64 e.cnt, .int .i64 e.mn, .int .i64 e.mx, .slice ga e.gaps.length gc, .slice ea e.edges.length ec, .slice fa e.first.length fc, .slice la e.last.length lc] 27 (0, 0))) := by show _ = _; rw [hW]; exact (MapKept.heap_alloc w _).1
  have HX : Hid (∀ V, Below W.heap.size W V → ∀ (j : Nat) u, (#[.string e.name, .int .i64 e.tol, .slice pa e.pts.length pc, .int .i64 e.cnt, .int .i64 e.mn, .int .i64 e.mx, .slice ga e.gaps.length gc, .slice ea e.edges.length ec, .slice fa e.first.length fc, .slice la e.last.length lc] : Array Value)[j]? = some u → V.cell? ⟨w.heap.size, j, none⟩ = some u) := fun V hV j u hu => by
    have := row_below hV HXr.out
    simp [World.cell?, this, hu]
  clear hW
  have p2 := HX.out W (Below.refl _ _) 2 _ rfl
  have q1 : (e.pts.length : Int) ≤ 16 := by have := HN.out.2; omega
  go_upto_region 2 with fail
  clear hmk p2 hLi
  have HT0 : Hid ((W.alloc (.cells (tabOf L (fun _ => 0)) 3)).heap[W.heap.size]? = some (.cells (tabOf L (onesC 0)) 3 (0, 0))) := by
    show _ = _
    rw [show tabOf L (onesC 0) = tabOf L (fun _ => 0) from tab_congr (fun i _ => by simp [onesC])]
    exact (MapKept.heap_alloc W _).1
  have HB0 : Hid (Below W.heap.size W (W.alloc (.cells (tabOf L (fun _ => 0)) 3))) := Below.one _ _
  obtain ⟨W1, hW1⟩ : ∃ V, V = W.alloc (.cells (tabOf L (fun _ => 0)) 3) := ⟨_, rfl⟩
  rw [← hW1]
  rw [← hW1] at HT0 HB0
  clear hW1
  obtain ⟨g0, hg0⟩ : ∃ g, g = W.heap.size := ⟨_, rfl⟩
  rw [← hg0] at HT0
  rw [← hg0]
  have HG0 : Hid (W.heap.size ≤ g0) := by show _ ≤ _; omega
  clear hg0
  go_cut [8] (fun i wx => i = .int .i64 0 ∧ wx = W1)
  case first =>
    go_wp2_with fail
    go_meet
    case rel => exact ⟨rfl, rfl⟩
  obtain ⟨rfl, rfl⟩ := hcut
  rename World => W1
  go_wp2_with fail
  go_loopw [8] (fun i wr => ∃ k : Nat, k ≤ L ∧ i = .int .i64 k ∧ Below W.heap.size W wr ∧ wr.heap[g0]? = some (.cells (tabOf L (onesC k)) 3 (0, 0))) (fun i _ => L - (intOf i).toNat)
  case atStart => exact ⟨0, Nat.zero_le _, rfl, HB0.out, HT0.out⟩
  case round =>
    clear HT0 HB0
    obtain ⟨k, hk, rfl, hbk, htk⟩ := hrel
    have HB : Hid (Below W.heap.size W wr) := hbk
    have HTk : Hid (wr.heap[g0]? = some (.cells (tabOf L (onesC k)) 3 (0, 0))) := htk
    clear hbk htk
    by_cases hlt : k < L
    · have k1 : (k : Int) < (L : Int) := by omega
      have c0 := tab_cell HTk.out hlt
      have f0 : wr.frozen? ⟨g0, k, none⟩ = false := tab_frozen HTk.out
      have HN1 : Hid ((wr.setCell ⟨g0, k, none⟩ (.int .i64 1)).heap[g0]? = some (.cells (tabOf L (onesC (k + 1))) 3 (0, 0))) := by
        show _ = _
        have := tab_set (i := k) HTk.out 1
        rw [show tabOf L (putN (onesC k) k 1) = tabOf L (onesC (k + 1)) from tab_congr (fun j _ => onesC_put k j)] at this
        exact this
      have HB1 : Hid (Below W.heap.size W (wr.setCell ⟨g0, k, none⟩ (.int .i64 1))) := HB.out.setCell (p := ⟨g0, k, none⟩) HG0.out _
      go_wp2_with fail
      go_roundw
      case rel => exact ⟨k + 1, by omega, by go_num, HB1.out, HN1.out⟩
      case measure => simp [intOf]; omega
    · have k1 : ¬ (k : Int) < (L : Int) := by omega
      have HT1 : Hid (wr.heap[g0]? = some (.cells (tabOf L (rowC e 0)) 3 (0, 0))) := by
        show _ = _
        rw [HTk.out, show tabOf L (onesC k) = tabOf L (rowC e 0) from tab_congr (fun j hj => by unfold onesC; rw [if_pos (by omega)]; rfl)]
      clear HTk
      go_upto_region 6 with fail
      go_cut [9] (fun i wx => i = .int .i64 0 ∧ wx = wr)
      case first =>
        go_wp2_with fail
        go_meet
        case rel => exact ⟨rfl, rfl⟩
      obtain ⟨rfl, rfl⟩ := hcut
      rename World => W2
      clear k1 hlt hk
      go_wp2_with fail
      go_loopw [7, 9, 10, 11, 12, 13, 14] (fun rv kv _ _ _ _ _ wr => ∃ (k g : Nat), k ≤ n ∧ kv = .int .i64 k ∧ rv = .slice (some ⟨g, 0, none⟩) L L ∧ W.heap.size ≤ g ∧ Below W.heap.size W wr ∧ wr.heap[g]? = some (.cells (tabOf L (rowC e k)) 3 (0, 0))) (fun _ k _ _ _ _ _ _ => n - (intOf k).toNat)
      case atStart => exact ⟨0, g0, Nat.zero_le _, rfl, rfl, HG0.out, HB.out, HT1.out⟩
      case round =>
        clear HT1 HB HG0
        obtain ⟨k, g, hk, rfl, rfl, hgl, hbk, htk⟩ := hrel
        have HGl : Hid (W.heap.size ≤ g) := hgl
        have HB : Hid (Below W.heap.size W wr) := hbk
        have HTk : Hid (wr.heap[g]? = some (.cells (tabOf L (rowC e k)) 3 (0, 0))) := htk
        clear hgl hbk htk
        by_cases hlt : k < n
        · have k1 : (k : Int) < (n : Int) := by omega
          have k2 : k < 15 := by have := HN.out.1; omega
          have hmk := HMk.out
          go_upto_region 10 with fail
          clear hmk
          have HT2 : Hid ((wr.alloc (.cells (tabOf L (fun _ => 0)) 3)).heap[wr.heap.size]? = some (.cells (tabOf L (nextC e k 0 0)) 3 (0, 0))) := by
            show _ = _
            rw [show tabOf L (nextC e k 0 0) = tabOf L (fun _ => 0) from tab_congr (fun j _ => nextC_zero e k j)]
            exact (MapKept.heap_alloc wr _).1
          have HB2 : Hid (Below W.heap.size W (wr.alloc (.cells (tabOf L (fun _ => 0)) 3))) := HB.out.alloc HB.out.size _
          have HT2g : Hid ((wr.alloc (.cells (tabOf L (fun _ => 0)) 3)).heap[g]? = some (.cells (tabOf L (rowC e k)) 3 (0, 0))) := row_below (Below.one _ _) HTk.out
          obtain ⟨V1, hV1⟩ : ∃ V, V = wr.alloc (.cells (tabOf L (fun _ => 0)) 3) := ⟨_, rfl⟩
          rw [← hV1]
          rw [← hV1] at HT2 HB2 HT2g
          have HNe : Hid (g ≠ wr.heap.size) := by
            intro h
            have := lt_of_row HTk.out
            omega
          obtain ⟨g2, hg2⟩ : ∃ g2, g2 = wr.heap.size := ⟨_, rfl⟩
          have HG2 : Hid (W.heap.size ≤ g2) := by show _ ≤ _; rw [hg2]; exact HB.out.size
          rw [← hg2] at HT2 HNe
          rw [← hg2]
          clear hV1 hg2 HTk HB
          go_cut [11] (fun i wx => i = .int .i64 0 ∧ wx = V1)
          case first =>
            go_wp2_with fail
            go_meet
            case rel => exact ⟨rfl, rfl⟩
          obtain ⟨rfl, rfl⟩ := hcut
          rename World => V1
          go_wp2_with fail
          go_loopw [11, 12, 13, 14] (fun iv _ _ _ wx => ∃ i : Nat, i ≤ L ∧ iv = .int .i64 i ∧ Below W.heap.size W wx ∧ wx.heap[g]? = some (.cells (tabOf L (rowC e k)) 3 (0, 0)) ∧ wx.heap[g2]? = some (.cells (tabOf L (nextC e k i 0)) 3 (0, 0))) (fun i _ _ _ _ => L - (intOf i).toNat)
          case atStart => exact ⟨0, Nat.zero_le _, rfl, HB2.out, HT2g.out, HT2.out⟩
          case round =>
            clear HT2 HB2 HT2g
            obtain ⟨i, hi, rfl, hbi, htg, ht2⟩ := hrel
            rename World => wx
            have HBi : Hid (Below W.heap.size W wx) := hbi
            have HTg : Hid (wx.heap[g]? = some (.cells (tabOf L (rowC e k)) 3 (0, 0))) := htg
            have HT2 : Hid (wx.heap[g2]? = some (.cells (tabOf L (nextC e k i 0)) 3 (0, 0))) := ht2
            clear hbi htg ht2
            by_cases hil : i < L
            · have i1 : (i : Int) < (L : Int) := by omega
              go_upto_region 13 with fail
              go_cut [12] (fun p wy => p = .int .i64 0 ∧ wy = wx)
              case first =>
                go_wp2_with fail
                go_meet
                case rel => exact ⟨rfl, rfl⟩
              obtain ⟨rfl, rfl⟩ := hcut
              rename World => wx
              go_wp2_with fail
              go_loopw [12, 13, 14] (fun pv _ _ wy => ∃ p : Nat, p ≤ e.pts.length ∧ pv = .int .i64 p ∧ Below W.heap.size W wy ∧ wy.heap[g]? = some (.cells (tabOf L (rowC e k)) 3 (0, 0)) ∧ wy.heap[g2]? = some (.cells (tabOf L (nextC e k i p)) 3 (0, 0))) (fun p _ _ _ => e.pts.length - (intOf p).toNat)
              case atStart => exact ⟨0, Nat.zero_le _, rfl, HBi.out, HTg.out, HT2.out⟩
              case round =>
                clear HBi HTg HT2
                obtain ⟨p, hpp, rfl, hby, htg, ht2⟩ := hrel
                rename World => wy
                have HBy : Hid (Below W.heap.size W wy) := hby
                have HTg : Hid (wy.heap[g]? = some (.cells (tabOf L (rowC e k)) 3 (0, 0))) := htg
                have HT2 : Hid (wy.heap[g2]? = some (.cells (tabOf L (nextC e k i p)) 3 (0, 0))) := ht2
                clear hby htg ht2
                have p2 := HX.out wy HBy.out 2 _ rfl
                by_cases hpl : p < e.pts.length
                · have p1 : (p : Int) < (e.pts.length : Int) := by omega
                  have p17 : p < 16 := by have := HN.out.2; omega
                  have HPy : Hid (EntParts wy e (.slice pa e.pts.length pc) (.slice ga e.gaps.length gc) (.slice ea e.edges.length ec) (.slice fa e.first.length fc) (.slice la e.last.length lc)) := HP.out wy (HBW.out.trans (HBy.out.mono HBW.out.size))
                  have HXy : Hid (wy.heap[w.heap.size]? = some (.cells #[.string e.name, .int .i64 e.tol, .slice pa e.pts.length pc, .int .i64 e.cnt, .int .i64 e.mn, .int .i64 e.mx, .slice ga e.gaps.length gc, .slice ea e.edges.length ec, .slice fa e.first.length fc, .slice la e.last.length lc] 27 (0, 0))) := row_below HBy.out HXr.out
                  have HPs : Hid (∀ b, pstep e ((i : Int) - 1) (rowsN e k) (p + 1) = pstep e ((i : Int) - 1) (rowsN e k) p + (if bearsE e ((i : Int) - 1) (p : Int) = b then (if b then rowsN e k (behindE e (p : Int)) else 0) else (if b then 0 else rowsN e k (behindE e (p : Int))))) := fun b => by
                    rw [pstep_succ]
                    cases bearsE e ((i : Int) - 1) (p : Int) <;> cases b <;> simp
                  cases hbr : bearsE e ((i : Int) - 1) (p : Int)
                  · have HN2 : Hid (∀ V : World, Below wy.heap.size wy V → V.heap[g2]? = some (.cells (tabOf L (nextC e k i (p + 1))) 3 (0, 0))) := fun V hV => by
                      have h1 := HPs.out true
                      rw [hbr] at h1
                      simp at h1
                      rw [show tabOf L (nextC e k i (p + 1)) = tabOf L (nextC e k i p) from tab_congr (fun j _ => nextC_same h1 j)]
                      exact row_below hV HT2.out
                    go_upto_region 16 with fail
                    clear p2
                    go_wp2_with (first | (refine wpList_load_row rfl 27 _ rfl w.heap.size rfl _ _ _ _ HXy.out Tryd.underlying27 rfl Tryd.sizeEnt ?_) | (go_at_call 20; refine (step_at e pa ga ea fa la pc gc ec fc lc ((i : Int) - 1) (p : Int) wy HPy.out HSm.out (by omega)).mono ?_; rw [hbr]; rintro v wz ⟨rfl, hbz⟩; have HBz : Hid (Below wy.heap.size wy wz) := hbz; clear hbz))
                    go_roundw
                    case rel => exact ⟨p + 1, by omega, by go_num, HBy.out.trans (HBz.out.mono HBy.out.size), row_below HBz.out HTg.out, HN2.out _ HBz.out⟩
                    case measure => simp [intOf]; omega
                  · have h1 := HPs.out true
                    rw [hbr] at h1
                    simp only [if_true] at h1
                    have HS1 : Hid (pstep e ((i : Int) - 1) (rowsN e k) (p + 1) = pstep e ((i : Int) - 1) (rowsN e k) p + rowsN e k (behindE e (p : Int))) := h1
                    have hbd := rowsC_bound (e := e) k2 HN.out.2 i (p := p + 1) (by omega)
                    rw [h1] at hbd
                    have HBd : Hid (∀ _ : Unit, pstep e ((i : Int) - 1) (rowsN e k) p + rowsN e k (behindE e (p : Int)) ≤ 1152921504606846976) := fun _ => hbd
                    have HH : Hid (hasP e (p : Int) = true) := by show _ = _; unfold hasP; rw [decide_eq_true (by omega), decide_eq_true (by omega)]; rfl
                    obtain ⟨old, hold⟩ : ∃ old, old = pstep e ((i : Int) - 1) (rowsN e k) p := ⟨_, rfl⟩
                    obtain ⟨ad, had⟩ : ∃ ad, ad = rowsN e k (behindE e (p : Int)) := ⟨_, rfl⟩
                    rw [← hold, ← had] at HBd HS1
                    have HFin : Hid (∀ Z : World, Below wy.heap.size wy Z → ∀ V : World, V.heap = Z.heap → Below W.heap.size W V → Below W.heap.size W (V.setCell ⟨g2, i, none⟩ (.int .i64 ((old : Int) + (ad : Int)))) ∧ (V.setCell ⟨g2, i, none⟩ (.int .i64 ((old : Int) + (ad : Int)))).heap[g]? = some (.cells (tabOf L (rowC e k)) 3 (0, 0)) ∧ (V.setCell ⟨g2, i, none⟩ (.int .i64 ((old : Int) + (ad : Int)))).heap[g2]? = some (.cells (tabOf L (nextC e k i (p + 1))) 3 (0, 0))) := fun Z hZ V hV hb => by
                      refine ⟨hb.setCell (p := ⟨g2, i, none⟩) HG2.out _, tab_other (by rw [hV]; exact row_below hZ HTg.out) HNe.out, ?_⟩
                      have h2 := tab_set (w := V) (i := i) (by rw [hV]; exact row_below hZ HT2.out) (old + ad)
                      rw [show tabOf L (putN (nextC e k i p) i (old + ad)) = tabOf L (nextC e k i (p + 1)) from tab_congr (fun j _ => nextC_put HS1.out.symm j)] at h2
                      rw [show (old : Int) + (ad : Int) = ((old + ad : Nat) : Int) by omega]
                      exact h2
                    have HC2 : Hid (∀ Z : World, Below wy.heap.size wy Z → Z.cell? ⟨g2, i, none⟩ = some (.int .i64 (old : Int)) ∧ Z.frozen? ⟨g2, i, none⟩ = false) := fun Z hZ => by
                      have h2 := tab_cell (row_below hZ HT2.out) hil
                      rw [nextC_at, ← hold] at h2
                      exact ⟨h2, tab_frozen (row_below hZ HT2.out)⟩
                    have HC1 : Hid (∀ Z : World, Below wy.heap.size wy Z → ∀ tt : Nat, tt < L → rowC e k tt = ad → Z.cell? ⟨g, tt, none⟩ = some (.int .i64 (ad : Int))) := fun Z hZ tt hto ht => by
                      have h2 := tab_cell (row_below hZ HTg.out) hto
                      rw [ht] at h2
                      exact h2
                    have q0 : (old : Int) + (ad : Int) ≤ 1152921504606846976 := by have := HBd.out (); omega
                    have p17 : p + 1 < L := by have := HLL.out; omega
                    have p18 : (p : Int) + 1 < (L : Int) := by omega
                    have HNx : Hid (g ≠ g2) := HNe.out
                    by_cases hpl2 : (p : Int) ∈ e.last
                    · have hd : (e.last.any fun y => decide ((p : Int) = y)) = true := by rw [any_mem]; exact decide_eq_true hpl2
                      have HA0 : Hid (rowC e k 0 = ad) := by
                        show _ = _
                        rw [had]
                        unfold rowC behindE
                        rw [if_neg (fun h => h.2 hpl2)]
                        rfl
                      clear hpl2 h1 hbd hold had HS1 HBd HPs HH
                      go_upto_region 16 with fail
                      clear p2
                      go_upto_region 19 with (first | (refine wpList_load_row rfl 27 _ rfl w.heap.size rfl _ _ _ _ HXy.out Tryd.underlying27 rfl Tryd.sizeEnt ?_) | (go_at_call 20; refine (step_at e pa ga ea fa la pc gc ec fc lc ((i : Int) - 1) (p : Int) wy HPy.out HSm.out (by omega)).mono ?_; rw [hbr]; rintro v wz ⟨rfl, hbz⟩; have HBz : Hid (Below wy.heap.size wy wz) := hbz; clear hbz))
                      have HBzW : Hid (Below W.heap.size W wz) := HBy.out.trans (HBz.out.mono HBy.out.size)
                      have p9 := HX.out wz HBzW.out 9 _ rfl
                      have HPz : Hid (EntParts wz e (.slice pa e.pts.length pc) (.slice ga e.gaps.length gc) (.slice ea e.edges.length ec) (.slice fa e.first.length fc) (.slice la e.last.length lc)) := HPy.out.below HBz.out
                      go_upto_region 21 with (go_at_call 21; refine (has_at e.last (p : Int) _ _ _ HPz.out.hl HSm.out.hl).mono ?_; rw [hd]; rintro v w' ⟨rfl, rfl⟩)
                      clear p9
                      rename World => wz
                      have c2 := (HC2.out _ HBz.out).1
                      have f2 := (HC2.out _ HBz.out).2
                      have c1 := HC1.out _ HBz.out 0 L0 HA0.out
                      go_region
                      all_goals
                        clear c1 c2 f2
                        go_wp2_with fail
                        go_roundw
                        case rel => exact ⟨p + 1, by omega, by go_num, HFin.out _ HBz.out wz.drew rfl HBzW.out.drew⟩
                        case measure => simp [intOf]; omega
                    · have hd : (e.last.any fun y => decide ((p : Int) = y)) = false := by rw [any_mem]; exact decide_eq_false hpl2
                      have HA0 : Hid (rowC e k (p + 1) = ad) := by
                        show _ = _
                        rw [had]
                        unfold rowC behindE
                        rw [if_pos ⟨HH.out, hpl2⟩, show (((p + 1 : Nat) : Int) - 1) = (p : Int) by omega]
                      clear hpl2 h1 hbd hold had HS1 HBd HPs HH
                      go_upto_region 16 with fail
                      clear p2
                      go_upto_region 19 with (first | (refine wpList_load_row rfl 27 _ rfl w.heap.size rfl _ _ _ _ HXy.out Tryd.underlying27 rfl Tryd.sizeEnt ?_) | (go_at_call 20; refine (step_at e pa ga ea fa la pc gc ec fc lc ((i : Int) - 1) (p : Int) wy HPy.out HSm.out (by omega)).mono ?_; rw [hbr]; rintro v wz ⟨rfl, hbz⟩; have HBz : Hid (Below wy.heap.size wy wz) := hbz; clear hbz))
                      have HBzW : Hid (Below W.heap.size W wz) := HBy.out.trans (HBz.out.mono HBy.out.size)
                      have p9 := HX.out wz HBzW.out 9 _ rfl
                      have HPz : Hid (EntParts wz e (.slice pa e.pts.length pc) (.slice ga e.gaps.length gc) (.slice ea e.edges.length ec) (.slice fa e.first.length fc) (.slice la e.last.length lc)) := HPy.out.below HBz.out
                      go_upto_region 21 with (go_at_call 21; refine (has_at e.last (p : Int) _ _ _ HPz.out.hl HSm.out.hl).mono ?_; rw [hd]; rintro v w' ⟨rfl, rfl⟩)
                      clear p9
                      rename World => wz
                      have c2 := (HC2.out _ HBz.out).1
                      have f2 := (HC2.out _ HBz.out).2
                      have c1 := HC1.out _ HBz.out (p + 1) p17 HA0.out
                      go_region
                      all_goals
                        clear c1 c2 f2
                        go_wp2_with fail
                        go_roundw
                        case rel => exact ⟨p + 1, by omega, by go_num, HFin.out _ HBz.out wz.drew rfl HBzW.out.drew⟩
                        case measure => simp [intOf]; omega
                · have p1 : ¬ (p : Int) < (e.pts.length : Int) := by omega
                  have hpe : p = e.pts.length := by omega
                  have HN2 : Hid (wy.heap[g2]? = some (.cells (tabOf L (nextC e k (i + 1) 0)) 3 (0, 0))) := by
                    show _ = _
                    rw [HT2.out, hpe, show tabOf L (nextC e k i e.pts.length) = tabOf L (nextC e k (i + 1) 0) from tab_congr (fun j _ => nextC_row e k i j)]
                  go_wp2_with fail
                  go_roundw
                  case rel => exact ⟨i + 1, by omega, by go_num, HBy.out, HTg.out, HN2.out⟩
                  case measure => simp [intOf]; omega
            · have i1 : ¬ (i : Int) < (L : Int) := by omega
              have HN2 : Hid (wx.heap[g2]? = some (.cells (tabOf L (rowC e (k + 1))) 3 (0, 0))) := by
                show _ = _
                rw [HT2.out, show tabOf L (nextC e k i 0) = tabOf L (rowC e (k + 1)) from tab_congr (fun j hj => by unfold nextC; rw [if_pos (by omega)])]
              go_wp2_with fail
              go_roundw
              case rel => exact ⟨k + 1, g2, by omega, by go_num, rfl, HG2.out, HBi.out, HN2.out⟩
              case measure => simp [intOf]; omega
        · have k1 : ¬ (k : Int) < (n : Int) := by omega
          have hkk : k = n := by omega
          have c0 := tab_cell (i := 0) HTk.out L0
          have HR : Hid (rowC e k 0 = rowsN e n (-1)) := by show _ = _; rw [hkk]; rfl
          rw [HR.out] at c0
          have HBr : Hid (Below w.heap.size w wr) := HBW.out.trans (HB.out.mono HBW.out.size)
          go_wp2
          go_ret
          exact ⟨rfl, HBr.out⟩
end Go.Proofs.YtbholbenjalliabDoor
