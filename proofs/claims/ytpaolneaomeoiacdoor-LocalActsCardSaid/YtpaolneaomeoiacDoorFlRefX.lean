/-
  The document's Ahead, Step and FlowBad by contracts: 'aheadOf', 'bearsE', 'flowBad' of FlPure. Conditions: the entity's lists and the reports lie in memory, and are not too long.
-/
import Derived.Test.YtpaolneaomeoiacDoorPureX
import Derived.Test.YtpaolneaomeoiacDoorMemX
import Derived.Test.YtpaolneaomeoiacDoorFlStepX
import Derived.Test.YtpaolneaomeoiacDoorDcHasX
import Derived.Test.YtpaolneaomeoiacDoorEqPairX
import Derived.Test.YtpaolneaomeoiacDoorOrdX
import Derived.BigQuiet
import Derived.Deep.QuietTactic
import Derived.Deep.DeepCutAuto
import Derived.WalkSmall
namespace Go.Proofs.YtpaolneaomeoiacDoor
open Go.RowKit Go.Extern.Stop Go.Stop Go.Extern

set_option maxHeartbeats 2000000 in
set_option maxRecDepth 100000 in
theorem ahead_at (e : EntD) (pa ga ea fa la : Option Addr) (pc gc ec fc lc : Nat) (l : List MkD) (k : Nat) (sa : Option Addr) (cap : Nat) (w : World) (hP : EntParts w e (.slice pa e.pts.length pc) (.slice ga e.gaps.length gc) (.slice ea e.edges.length ec) (.slice fa e.first.length fc) (.slice la e.last.length lc)) (hS : SmallE e) (hl : SlAt encM 3 w (.slice sa l.length cap) l) (hn : l.length ≤ 1000) (hk : k ≤ l.length) :
    Calls Tryd.prog 57 #[.agg #[.string e.name, .int .i64 e.tol, .slice pa e.pts.length pc, .int .i64 e.cnt, .int .i64 e.mn, .int .i64 e.mx, .slice ga e.gaps.length gc, .slice ea e.edges.length ec, .slice fa e.first.length fc, .slice la e.last.length lc], .slice sa l.length cap, .int .i64 (k : Int)] w fun v w' => v = .returned (.int .i64 (aheadOf e (l.take k))) ∧ Below w.heap.size w w' := by
  have HP : Hid (∀ V, Below w.heap.size w V → EntParts V e (.slice pa e.pts.length pc) (.slice ga e.gaps.length gc) (.slice ea e.edges.length ec) (.slice fa e.first.length fc) (.slice la e.last.length lc)) := fun V hV => hP.below hV
  have HSm : Hid (SmallE e) := hS
  have HL : Hid (SlAt encM 3 w (.slice sa l.length cap) l) := hl
  clear hP hS hl
  cases k with
  | zero =>
    have HR : Hid (aheadOf e (l.take 0) = -1) := rfl
    go_enter Tryd.func57, Tryd.ntmps57
    go_wp2
    go_ret
    exact ⟨by rw [HR.out]; rfl, Below.one _ _⟩
  | succ k =>
    obtain ⟨m, hm⟩ : ∃ m, l[k]? = some m := ⟨_, List.getElem?_eq_getElem (by omega)⟩
    have HR : Hid (aheadOf e (l.take (k + 1)) = behindE e m.pt) := aheadOf_take hm
    obtain ⟨sa', cap', hsl, -, hcc⟩ := id HL.out
    cases hsl
    obtain ⟨gb, o, rfl, hc0⟩ := hcc (fun h => by rw [h] at hm; simp at hm)
    have HC0 : Hid (w.cell? ⟨gb, o + k * 3, none⟩ = some (.int .i64 m.pt)) := hc0 k m hm 0 _ rfl
    have k1 : k < 1000 := by omega
    have k2 : (k : Int) < (l.length : Int) := by omega
    have e1 : ((k + 1 : Nat) : Int) = (k : Int) + 1 := by omega
    rw [e1]
    clear hcc hc0 hm e1 hk hn HL
    go_enter Tryd.func57, Tryd.ntmps57
    go_upto_region 3 with fail
    all_goals (try (exfalso; omega))
    obtain ⟨W, hW⟩ : ∃ V, V = w.alloc (.cells #[.string e.name, .int .i64 e.tol, .slice pa e.pts.length pc, .int .i64 e.cnt, .int .i64 e.mn, .int .i64 e.mx, .slice ga e.gaps.length gc, .slice ea e.edges.length ec, .slice fa e.first.length fc, .slice la e.last.length lc] 27) := ⟨_, rfl⟩
    rw [← hW]
    have HBW : Hid (Below w.heap.size w W) := by show Below _ _ _; rw [hW]; exact Below.one _ _
    have HX : Hid (∀ V, Below W.heap.size W V → ∀ (j : Nat) u, (#[.string e.name, .int .i64 e.tol, .slice pa e.pts.length pc, .int .i64 e.cnt, .int .i64 e.mn, .int .i64 e.mx, .slice ga e.gaps.length gc, .slice ea e.edges.length ec, .slice fa e.first.length fc, .slice la e.last.length lc] : Array Value)[j]? = some u → V.cell? ⟨w.heap.size, j, none⟩ = some u) := fun V hV j u hu => by
      refine cell_below hV ?_
      rw [hW]
      have := ce_at w [.string e.name, .int .i64 e.tol, .slice pa e.pts.length pc, .int .i64 e.cnt, .int .i64 e.mn, .int .i64 e.mx, .slice ga e.gaps.length gc, .slice ea e.edges.length ec, .slice fa e.first.length fc, .slice la e.last.length lc] 27 j u (by simpa using hu)
      rw [addC_plain] at this
      simpa using this
    clear hW
    have c0 : W.cell? ⟨gb, o + k * 3, none⟩ = some (.int .i64 m.pt) := cell_below HBW.out HC0.out
    have p2 := HX.out W (Below.refl _ _) 2 _ rfl
    have p9 := HX.out W (Below.refl _ _) 9 _ rfl
    by_cases q0 : m.pt < 0
    · have HQ : Hid (behindE e m.pt = -1) := by show _ = _; unfold behindE hasP; rw [if_neg (by rw [decide_eq_false (by omega)]; simp)]
      go_wp2
      go_ret
      exact ⟨by rw [HR.out, HQ.out]; rfl, HBW.out⟩
    by_cases q1 : (e.pts.length : Int) ≤ m.pt
    · have HQ : Hid (behindE e m.pt = -1) := by show _ = _; unfold behindE hasP; rw [if_neg (by rw [decide_eq_false (p := m.pt < _) (by omega)]; simp)]
      go_wp2
      go_ret
      exact ⟨by rw [HR.out, HQ.out]; rfl, HBW.out⟩
    have HH : Hid (hasP e m.pt = true) := by show _ = _; unfold hasP; rw [decide_eq_true (by omega), decide_eq_true (by omega)]; rfl
    by_cases q2 : m.pt ∈ e.last
    · have HQ : Hid (behindE e m.pt = -1) := by show _ = _; unfold behindE; rw [if_neg (fun h => h.2 q2)]
      have hd : (e.last.any fun y => decide (m.pt = y)) = true := by rw [any_mem]; exact decide_eq_true q2
      clear q2
      go_wp2_with (go_at_call 31; refine (has_at e.last m.pt _ _ _ (HP.out _ HBW.out).hl HSm.out.hl).mono ?_; rw [hd]; rintro v w' ⟨rfl, rfl⟩)
      go_ret
      exact ⟨by rw [HR.out, HQ.out]; rfl, HBW.out⟩
    · have HQ : Hid (behindE e m.pt = m.pt) := by show _ = _; unfold behindE; rw [if_pos ⟨HH.out, q2⟩]
      have hd : (e.last.any fun y => decide (m.pt = y)) = false := by rw [any_mem]; exact decide_eq_false q2
      clear q2
      go_wp2_with (go_at_call 31; refine (has_at e.last m.pt _ _ _ (HP.out _ HBW.out).hl HSm.out.hl).mono ?_; rw [hd]; rintro v w' ⟨rfl, rfl⟩)
      go_ret
      exact ⟨by rw [HR.out, HQ.out]; rfl, HBW.out⟩
def fbS (e : EntD) (pa ga ea fa la : Option Addr) (pc gc ec fc lc : Nat) (gb o cap k : Nat) (l : List MkD) (m : MkD) : Nat → Value → World → Prop
  | 0 => fun v _ => v = .agg #[.string e.name, .int .i64 e.tol, .slice pa e.pts.length pc, .int .i64 e.cnt, .int .i64 e.mn, .int .i64 e.mx, .slice ga e.gaps.length gc, .slice ea e.edges.length ec, .slice fa e.first.length fc, .slice la e.last.length lc]
  | 1 => fun v _ => v = .agg #[.string e.name, .int .i64 e.tol, .slice pa e.pts.length pc, .int .i64 e.cnt, .int .i64 e.mn, .int .i64 e.mx, .slice ga e.gaps.length gc, .slice ea e.edges.length ec, .slice fa e.first.length fc, .slice la e.last.length lc]
  | 2 => fun v _ => v = .slice (some ⟨gb, o, none⟩) l.length cap
  | 3 => fun v _ => v = .int .i64 (k : Int)
  | 4 => fun v _ => v = .int .i64 (aheadOf e (l.take k))
  | 5 => fun v _ => v = .slice (some ⟨gb, o, none⟩) l.length cap
  | 6 => fun v _ => v = .int .i64 (k : Int)
  | 7 => fun v _ => v = .pointer (some ⟨gb, o + k * 3, none⟩)
  | 8 => fun v _ => v = .pointer (some ⟨gb, o + k * 3, none⟩)
  | 9 => fun v _ => v = .int .i64 m.pt
  | 10 => fun v _ => v = .bool (bearsE e (aheadOf e (l.take k)) m.pt)
  | 11 => fun v _ => v = .bool (bearsE e (aheadOf e (l.take k)) m.pt)
  | _ => fun _ _ => True
theorem fbS_keeps {e : EntD} {pa ga ea fa la : Option Addr} {pc gc ec fc lc : Nat} {gb o cap k : Nat} {l : List MkD} {m : MkD} {w w' : World} : ∀ j v, fbS e pa ga ea fa la pc gc ec fc lc gb o cap k l m j v w → fbS e pa ga ea fa la pc gc ec fc lc gb o cap k l m j v w' := by
  intro j v h
  match j, h with
  | 0, h => exact h
  | 1, h => exact h
  | 2, h => exact h
  | 3, h => exact h
  | 4, h => exact h
  | 5, h => exact h
  | 6, h => exact h
  | 7, h => exact h
  | 8, h => exact h
  | 9, h => exact h
  | 10, h => exact h
  | 11, h => exact h
  | n + 12, h => exact h
set_option maxHeartbeats 4000000 in
set_option maxRecDepth 100000 in
theorem flowBad_at (e : EntD) (pa ga ea fa la : Option Addr) (pc gc ec fc lc : Nat) (l : List MkD) (cyc : Int) (sa : Option Addr) (cap : Nat) (w : World) (hP : EntParts w e (.slice pa e.pts.length pc) (.slice ga e.gaps.length gc) (.slice ea e.edges.length ec) (.slice fa e.first.length fc) (.slice la e.last.length lc)) (hS : SmallE e) (hl : SlAt encM 3 w (.slice sa l.length cap) l) (hn : l.length ≤ 1000) :
    Calls Tryd.prog 46 #[.agg #[.string e.name, .int .i64 e.tol, .slice pa e.pts.length pc, .int .i64 e.cnt, .int .i64 e.mn, .int .i64 e.mx, .slice ga e.gaps.length gc, .slice ea e.edges.length ec, .slice fa e.first.length fc, .slice la e.last.length lc], .slice sa l.length cap, .int .i64 cyc] w fun v w' => v = .returned (.bool (flowBad e l cyc)) ∧ Below w.heap.size w w' := by
  have HP : Hid (∀ V, Below w.heap.size w V → EntParts V e (.slice pa e.pts.length pc) (.slice ga e.gaps.length gc) (.slice ea e.edges.length ec) (.slice fa e.first.length fc) (.slice la e.last.length lc)) := fun V hV => hP.below hV
  have HSm : Hid (SmallE e) := hS
  have HL : Hid (∀ V, Below w.heap.size w V → SlAt encM 3 V (.slice sa l.length cap) l) := fun V hV => hl.below hV
  have HN : Hid (l.length ≤ 1000) := hn
  clear hP hS hl hn
  go_enter Tryd.func46, Tryd.ntmps46
  go_upto_region 1 with fail
  obtain ⟨W, hW⟩ : ∃ V, V = w.alloc (.cells #[.string e.name, .int .i64 e.tol, .slice pa e.pts.length pc, .int .i64 e.cnt, .int .i64 e.mn, .int .i64 e.mx, .slice ga e.gaps.length gc, .slice ea e.edges.length ec, .slice fa e.first.length fc, .slice la e.last.length lc] 27) := ⟨_, rfl⟩
  rw [← hW]
  have HBW : Hid (Below w.heap.size w W) := by show Below _ _ _; rw [hW]; exact Below.one _ _
  have HX : Hid (∀ V, Below W.heap.size W V → ∀ (j : Nat) u, (#[.string e.name, .int .i64 e.tol, .slice pa e.pts.length pc, .int .i64 e.cnt, .int .i64 e.mn, .int .i64 e.mx, .slice ga e.gaps.length gc, .slice ea e.edges.length ec, .slice fa e.first.length fc, .slice la e.last.length lc] : Array Value)[j]? = some u → V.cell? ⟨w.heap.size, j, none⟩ = some u) := fun V hV j u hu => by
    refine cell_below hV ?_
    rw [hW]
    have := ce_at w [.string e.name, .int .i64 e.tol, .slice pa e.pts.length pc, .int .i64 e.cnt, .int .i64 e.mn, .int .i64 e.mx, .slice ga e.gaps.length gc, .slice ea e.edges.length ec, .slice fa e.first.length fc, .slice la e.last.length lc] 27 j u (by simpa using hu)
    rw [addC_plain] at this
    simpa using this
  clear hW
  go_cut [7] (fun i wx => i = .int .i64 0 ∧ wx = W)
  case first =>
    go_wp2_with fail
    go_meet
    case rel => exact ⟨rfl, rfl⟩
  obtain ⟨rfl, rfl⟩ := hcut
  rename World => W
  go_wp2_with fail
  go_loopw [7, 8] (fun i _ wr => ∃ k : Nat, k ≤ l.length ∧ i = .int .i64 k ∧ Below W.heap.size W wr ∧ ∀ j, j < k → fbadI e l cyc j = false) (fun i _ _ => l.length - (intOf i).toNat)
  case atStart => exact ⟨0, Nat.zero_le _, rfl, Below.refl _ _, fun j hj => absurd hj (by omega)⟩
  case round =>
    obtain ⟨k, hk, rfl, hbk, hbad⟩ := hrel
    have HB : Hid (Below W.heap.size W wr) := hbk
    have HBw : Hid (Below w.heap.size w wr) := HBW.out.trans (hbk.mono HBW.out.size)
    have HBad : Hid (∀ j, j < k → fbadI e l cyc j = false) := hbad
    clear hbk hbad
    by_cases hlt : k < l.length
    · have k1 : (k : Int) < (l.length : Int) := by omega
      have k2 : k < 1000 := by have := HN.out; omega
      obtain ⟨m, hm⟩ : ∃ m, l[k]? = some m := ⟨_, List.getElem?_eq_getElem hlt⟩
      have HM : Hid (l[k]? = some m) := hm
      obtain ⟨sa', cap', hsl, -, hcc⟩ := HL.out wr HBw.out
      cases hsl
      obtain ⟨gb, o, rfl, hc0⟩ := hcc (fun h => by rw [h] at hm; simp at hm)
      have HC0 : Hid (wr.cell? ⟨gb, o + k * 3, none⟩ = some (.int .i64 m.pt)) := hc0 k m hm 0 _ rfl
      have HC2 : Hid (wr.cell? ⟨gb, o + k * 3 + 2, none⟩ = some (.int .i64 m.cyc)) := hc0 k m hm 2 _ rfl
      have HXr : Hid (∀ (j : Nat) u, (#[.string e.name, .int .i64 e.tol, .slice pa e.pts.length pc, .int .i64 e.cnt, .int .i64 e.mn, .int .i64 e.mx, .slice ga e.gaps.length gc, .slice ea e.edges.length ec, .slice fa e.first.length fc, .slice la e.last.length lc] : Array Value)[j]? = some u → wr.cell? ⟨w.heap.size, j, none⟩ = some u) := HX.out wr HB.out
      have HPr : Hid (∀ V, Below wr.heap.size wr V → EntParts V e (.slice pa e.pts.length pc) (.slice ga e.gaps.length gc) (.slice ea e.edges.length ec) (.slice fa e.first.length fc) (.slice la e.last.length lc)) := fun V hV => HP.out V (HBw.out.trans (hV.mono HBw.out.size))
      have HLr : Hid (∀ V, Below wr.heap.size wr V → SlAt encM 3 V (.slice (some ⟨gb, o, none⟩) l.length cap) l) := fun V hV => HL.out V (HBw.out.trans (hV.mono HBw.out.size))
      clear hcc hc0 hm
      go_upto_region 4 with fail
      go_cut [8, 15, 16, 17, 18, 19, 20, 21, 22, 23, 24, 25] (fun v _ _ _ _ _ _ _ _ _ _ _ wx => v = .bool (bearsE e (aheadOf e (l.take k)) m.pt) ∧ Below wr.heap.size wr wx)
      case first =>
        refine region_spec 12 rfl (fbS e pa ga ea fa la pc gc ec fc lc gb o cap k l m) (fun V => Below wr.heap.size wr V) (by kernel_rfl) (by kernel_rfl) (Below.refl _ _).drew ?_ ?_
        · intro i o ho
          match i, ho with
          | 0, ho =>
            obtain rfl := Option.some.inj ho
            refine StepOk.free rfl ?_
            intro a V hC hdep hoth
            have x3 : a.tmps[3]?.getD undef = .pointer (some ⟨w.heap.size, 0, none⟩) := slot_of (hoth 3 (notDst (by kernel_rfl)))
            have b0 : V.cell? ⟨w.heap.size, 0, none⟩ = some (_) := cell_below hC (HXr.out 0 _ rfl)
            have b1 : V.cell? ⟨w.heap.size, 1, none⟩ = some (_) := cell_below hC (HXr.out 1 _ rfl)
            have b2 : V.cell? ⟨w.heap.size, 2, none⟩ = some (_) := cell_below hC (HXr.out 2 _ rfl)
            have b3 : V.cell? ⟨w.heap.size, 3, none⟩ = some (_) := cell_below hC (HXr.out 3 _ rfl)
            have b4 : V.cell? ⟨w.heap.size, 4, none⟩ = some (_) := cell_below hC (HXr.out 4 _ rfl)
            have b5 : V.cell? ⟨w.heap.size, 5, none⟩ = some (_) := cell_below hC (HXr.out 5 _ rfl)
            have b6 : V.cell? ⟨w.heap.size, 6, none⟩ = some (_) := cell_below hC (HXr.out 6 _ rfl)
            have b7 : V.cell? ⟨w.heap.size, 7, none⟩ = some (_) := cell_below hC (HXr.out 7 _ rfl)
            have b8 : V.cell? ⟨w.heap.size, 8, none⟩ = some (_) := cell_below hC (HXr.out 8 _ rfl)
            have b9 : V.cell? ⟨w.heap.size, 9, none⟩ = some (_) := cell_below hC (HXr.out 9 _ rfl)
            exact goodRun.val (c := .agg #[.string e.name, .int .i64 e.tol, .slice pa e.pts.length pc, .int .i64 e.cnt, .int .i64 e.mn, .int .i64 e.mx, .slice ga e.gaps.length gc, .slice ea e.edges.length ec, .slice fa e.first.length fc, .slice la e.last.length lc]) (by clear hdep hoth; go_simp) hC rfl
          | 1, ho =>
            obtain rfl := Option.some.inj ho
            refine StepOk.free rfl ?_
            intro a V hC hdep hoth
            have x3 : a.tmps[3]?.getD undef = .pointer (some ⟨w.heap.size, 0, none⟩) := slot_of (hoth 3 (notDst (by kernel_rfl)))
            have b0 : V.cell? ⟨w.heap.size, 0, none⟩ = some (_) := cell_below hC (HXr.out 0 _ rfl)
            have b1 : V.cell? ⟨w.heap.size, 1, none⟩ = some (_) := cell_below hC (HXr.out 1 _ rfl)
            have b2 : V.cell? ⟨w.heap.size, 2, none⟩ = some (_) := cell_below hC (HXr.out 2 _ rfl)
            have b3 : V.cell? ⟨w.heap.size, 3, none⟩ = some (_) := cell_below hC (HXr.out 3 _ rfl)
            have b4 : V.cell? ⟨w.heap.size, 4, none⟩ = some (_) := cell_below hC (HXr.out 4 _ rfl)
            have b5 : V.cell? ⟨w.heap.size, 5, none⟩ = some (_) := cell_below hC (HXr.out 5 _ rfl)
            have b6 : V.cell? ⟨w.heap.size, 6, none⟩ = some (_) := cell_below hC (HXr.out 6 _ rfl)
            have b7 : V.cell? ⟨w.heap.size, 7, none⟩ = some (_) := cell_below hC (HXr.out 7 _ rfl)
            have b8 : V.cell? ⟨w.heap.size, 8, none⟩ = some (_) := cell_below hC (HXr.out 8 _ rfl)
            have b9 : V.cell? ⟨w.heap.size, 9, none⟩ = some (_) := cell_below hC (HXr.out 9 _ rfl)
            exact goodRun.val (c := .agg #[.string e.name, .int .i64 e.tol, .slice pa e.pts.length pc, .int .i64 e.cnt, .int .i64 e.mn, .int .i64 e.mx, .slice ga e.gaps.length gc, .slice ea e.edges.length ec, .slice fa e.first.length fc, .slice la e.last.length lc]) (by clear hdep hoth; go_simp) hC rfl
          | 2, ho =>
            obtain rfl := Option.some.inj ho
            refine StepOk.free rfl ?_
            intro a V hC hdep hoth
            have x1 : a.tmps[1]?.getD undef = .slice (some ⟨gb, o, none⟩) l.length cap := slot_of (hoth 1 (notDst (by kernel_rfl)))
            exact goodRun.val (c := .slice (some ⟨gb, o, none⟩) l.length cap) (by clear hdep hoth; go_simp) hC rfl
          | 3, ho =>
            obtain rfl := Option.some.inj ho
            refine StepOk.free rfl ?_
            intro a V hC hdep hoth
            have x7 : a.tmps[7]?.getD undef = .int .i64 (k : Int) := slot_of (hoth 7 (notDst (by kernel_rfl)))
            exact goodRun.val (c := .int .i64 (k : Int)) (by clear hdep hoth; go_simp) hC rfl
          | 4, ho =>
            obtain rfl := Option.some.inj ho
            refine StepOk.free rfl ?_
            intro a V hC hdep hoth
            have x16 : a.tmps[16]?.getD undef = .agg #[.string e.name, .int .i64 e.tol, .slice pa e.pts.length pc, .int .i64 e.cnt, .int .i64 e.mn, .int .i64 e.mx, .slice ga e.gaps.length gc, .slice ea e.edges.length ec, .slice fa e.first.length fc, .slice la e.last.length lc] := slot_of (hdep _ 16 (Array.mem_of_getElem? (i := 0) rfl) rfl rfl)
            have x17 : a.tmps[17]?.getD undef = .slice (some ⟨gb, o, none⟩) l.length cap := slot_of (hdep _ 17 (Array.mem_of_getElem? (i := 1) rfl) rfl rfl)
            have x18 : a.tmps[18]?.getD undef = .int .i64 (k : Int) := slot_of (hdep _ 18 (Array.mem_of_getElem? (i := 2) rfl) rfl rfl)
            refine goodRun.call (f := 57) (args := #[.agg #[.string e.name, .int .i64 e.tol, .slice pa e.pts.length pc, .int .i64 e.cnt, .int .i64 e.mn, .int .i64 e.mx, .slice ga e.gaps.length gc, .slice ea e.edges.length ec, .slice fa e.first.length fc, .slice la e.last.length lc], .slice (some ⟨gb, o, none⟩) l.length cap, .int .i64 (k : Int)]) (by clear hdep hoth; go_simp) ?_
            refine (ahead_at e pa ga ea fa la pc gc ec fc lc l k _ _ V (HPr.out V hC) HSm.out (HLr.out V hC) HN.out (by omega)).mono ?_
            rintro v V' ⟨rfl, hb⟩
            exact ⟨_, rfl, hC.trans (hb.mono hC.size), fbS_keeps, rfl⟩
          | 5, ho =>
            obtain rfl := Option.some.inj ho
            refine StepOk.free rfl ?_
            intro a V hC hdep hoth
            have x1 : a.tmps[1]?.getD undef = .slice (some ⟨gb, o, none⟩) l.length cap := slot_of (hoth 1 (notDst (by kernel_rfl)))
            exact goodRun.val (c := .slice (some ⟨gb, o, none⟩) l.length cap) (by clear hdep hoth; go_simp) hC rfl
          | 6, ho =>
            obtain rfl := Option.some.inj ho
            refine StepOk.free rfl ?_
            intro a V hC hdep hoth
            have x7 : a.tmps[7]?.getD undef = .int .i64 (k : Int) := slot_of (hoth 7 (notDst (by kernel_rfl)))
            exact goodRun.val (c := .int .i64 (k : Int)) (by clear hdep hoth; go_simp) hC rfl
          | 7, ho =>
            obtain rfl := Option.some.inj ho
            refine StepOk.free rfl ?_
            intro a V hC hdep hoth
            have x20 : a.tmps[20]?.getD undef = .slice (some ⟨gb, o, none⟩) l.length cap := slot_of (hdep _ 20 (Array.mem_of_getElem? (i := 0) rfl) rfl rfl)
            have x21 : a.tmps[21]?.getD undef = .int .i64 (k : Int) := slot_of (hdep _ 21 (Array.mem_of_getElem? (i := 1) rfl) rfl rfl)
            exact goodRun.val (c := .pointer (some ⟨gb, o + k * 3, none⟩)) (by clear hdep hoth; go_simp) hC rfl
          | 8, ho =>
            obtain rfl := Option.some.inj ho
            refine StepOk.free rfl ?_
            intro a V hC hdep hoth
            have x22 : a.tmps[22]?.getD undef = .pointer (some ⟨gb, o + k * 3, none⟩) := slot_of (hdep _ 22 (Array.mem_of_getElem? (i := 0) rfl) rfl rfl)
            exact goodRun.val (c := .pointer (some ⟨gb, o + k * 3, none⟩)) (by clear hdep hoth; go_simp) hC rfl
          | 9, ho =>
            obtain rfl := Option.some.inj ho
            refine StepOk.free rfl ?_
            intro a V hC hdep hoth
            have x23 : a.tmps[23]?.getD undef = .pointer (some ⟨gb, o + k * 3, none⟩) := slot_of (hdep _ 23 (Array.mem_of_getElem? (i := 0) rfl) rfl rfl)
            have c0 : V.cell? ⟨gb, o + k * 3, none⟩ = some (.int .i64 m.pt) := cell_below hC HC0.out
            exact goodRun.val (c := .int .i64 m.pt) (by clear hdep hoth; go_simp) hC rfl
          | 10, ho =>
            obtain rfl := Option.some.inj ho
            refine StepOk.free rfl ?_
            intro a V hC hdep hoth
            have x15 : a.tmps[15]?.getD undef = .agg #[.string e.name, .int .i64 e.tol, .slice pa e.pts.length pc, .int .i64 e.cnt, .int .i64 e.mn, .int .i64 e.mx, .slice ga e.gaps.length gc, .slice ea e.edges.length ec, .slice fa e.first.length fc, .slice la e.last.length lc] := slot_of (hdep _ 15 (Array.mem_of_getElem? (i := 0) rfl) rfl rfl)
            have x19 : a.tmps[19]?.getD undef = .int .i64 (aheadOf e (l.take k)) := slot_of (hdep _ 19 (Array.mem_of_getElem? (i := 1) rfl) rfl rfl)
            have x24 : a.tmps[24]?.getD undef = .int .i64 m.pt := slot_of (hdep _ 24 (Array.mem_of_getElem? (i := 2) rfl) rfl rfl)
            refine goodRun.call (f := 56) (args := #[.agg #[.string e.name, .int .i64 e.tol, .slice pa e.pts.length pc, .int .i64 e.cnt, .int .i64 e.mn, .int .i64 e.mx, .slice ga e.gaps.length gc, .slice ea e.edges.length ec, .slice fa e.first.length fc, .slice la e.last.length lc], .int .i64 (aheadOf e (l.take k)), .int .i64 m.pt]) (by clear hdep hoth; go_simp) ?_
            refine (step_at e pa ga ea fa la pc gc ec fc lc (aheadOf e (l.take k)) m.pt V (HPr.out V hC) HSm.out (by rcases aheadOf_fit e (l.take k) with h | h; exact Or.inl h; exact Or.inr h.1)).mono ?_
            rintro v V' ⟨rfl, hb⟩
            exact ⟨_, rfl, hC.trans (hb.mono hC.size), fbS_keeps, rfl⟩
          | 11, ho =>
            obtain rfl := Option.some.inj ho
            refine StepOk.free rfl ?_
            intro a V hC hdep hoth
            have x25 : a.tmps[25]?.getD undef = .bool (bearsE e (aheadOf e (l.take k)) m.pt) := slot_of (hdep _ 25 (Array.mem_of_getElem? (i := 0) rfl) rfl rfl)
            exact goodRun.val (c := .bool (bearsE e (aheadOf e (l.take k)) m.pt)) (by clear hdep hoth; go_simp) hC rfl
          | n + 12, ho => simp at ho
        · intro vals V hC hS
          have v11 : vals 11 = .bool (bearsE e (aheadOf e (l.take k)) m.pt) := hS 11 (by decide)
          have HCC : Hid (Below wr.heap.size wr V) := hC
          clear hS hC
          simp only [fill, dstOf]
          go_simp
          go_wp2_with fail
          go_meet
          case rel => exact ⟨rfl, HCC.out⟩
      obtain ⟨rfl, hb2⟩ := hcut
      rename World => W2
      have HB2 : Hid (Below wr.heap.size wr W2) := hb2
      have c2 : W2.cell? ⟨gb, o + k * 3 + 2, none⟩ = some (.int .i64 m.cyc) := cell_below hb2 HC2.out
      clear hb2 HXr HPr HLr
      have HI : Hid (fbadI e l cyc k = (decide (m.cyc = cyc) && !bearsE e (aheadOf e (l.take k)) m.pt)) := by show _ = _; unfold fbadI; rw [HM.out]; rfl
      have HNext : Hid (fbadI e l cyc k = false → ∀ j, j < k + 1 → fbadI e l cyc j = false) := fun h j hj => by
        rcases Nat.lt_or_ge j k with h1 | h1
        · exact HBad.out j h1
        · rw [show j = k by omega]; exact h
      by_cases g1 : m.cyc = cyc
      · cases g2 : bearsE e (aheadOf e (l.take k)) m.pt
        · have HT : Hid (flowBad e l cyc = true) := flowBad_of hlt (by rw [HI.out, decide_eq_true g1, g2]; rfl)
          go_wp2
          go_ret
          exact ⟨by rw [HT.out]; rfl, HBw.out.trans (HB2.out.mono HBw.out.size)⟩
        · have HF : Hid (fbadI e l cyc k = false) := by show _ = _; rw [HI.out, g2, Bool.not_true, Bool.and_false]
          go_wp2_with fail
          go_roundw
          case rel => exact ⟨k + 1, by omega, by go_num, HB.out.trans (HB2.out.mono HB.out.size), HNext.out HF.out⟩
          case measure => simp [intOf]; omega
      · have HF : Hid (fbadI e l cyc k = false) := by show _ = _; rw [HI.out, decide_eq_false g1]; rfl
        go_wp2_with fail
        go_roundw
        case rel => exact ⟨k + 1, by omega, by go_num, HB.out.trans (HB2.out.mono HB.out.size), HNext.out HF.out⟩
        case measure => simp [intOf]; omega
    · have k1 : ¬ (k : Int) < (l.length : Int) := by omega
      have HF : Hid (flowBad e l cyc = false) := flowBad_no fun j hj => HBad.out j (by omega)
      go_wp2
      go_ret
      exact ⟨by rw [HF.out]; rfl, HBw.out⟩
end Go.Proofs.YtpaolneaomeoiacDoor
