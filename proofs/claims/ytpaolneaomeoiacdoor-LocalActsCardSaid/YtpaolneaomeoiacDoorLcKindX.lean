/-
  nightwatchref2.KindOf told by a contract: 'kindOf' of LcPure. Conditions: the entity and the reports lie in memory, at most a thousand; their ticks are from 0 to 2^40.
-/
import Derived.Test.YtpaolneaomeoiacDoorLcCountX
import Derived.Test.YtpaolneaomeoiacDoorGeRefX
import Derived.Test.YtpaolneaomeoiacDoorFlRefX
namespace Go.Proofs.YtpaolneaomeoiacDoor
open Go.RowKit Go.Extern.Stop Go.Stop Go.Extern

def aliveBad (e : EntD) (l : List MkD) (cyc : Int) : Bool := decide (0 ≤ e.cnt ∧ 0 < cyc ∧ ((countIn e.cnt l cyc : Int) < e.mn ∨ e.mx < (countIn e.cnt l cyc : Int)))
theorem kindOf_1 {e : EntD} {l : List MkD} {cyc : Int} (h : aliveBad e l cyc = true) : kindOf e l cyc = 1 := by
  unfold kindOf; rw [if_pos (of_decide_eq_true h)]
theorem kindOf_2 {e : EntD} {l : List MkD} {cyc : Int} (h : aliveBad e l cyc = false) {k : Nat} {g : GapD} (hg : e.gaps[k]? = some g) (hb : gapBad g l cyc = true) : kindOf e l cyc = 2 := by
  unfold kindOf; rw [if_neg (of_decide_eq_false h), if_pos (List.any_eq_true.2 ⟨g, List.mem_of_getElem? hg, hb⟩)]
theorem kindOf_3 {e : EntD} {l : List MkD} {cyc : Int} (h : aliveBad e l cyc = false) (hg : ∀ (k : Nat) g, e.gaps[k]? = some g → gapBad g l cyc = false) : kindOf e l cyc = if flowBad e l cyc = true then 3 else 0 := by
  unfold kindOf
  rw [if_neg (of_decide_eq_false h), if_neg]
  intro h1
  obtain ⟨g, hm, hb⟩ := List.any_eq_true.1 h1
  obtain ⟨k, hk⟩ := List.getElem?_of_mem hm
  rw [hg k g hk] at hb
  cases hb
set_option maxHeartbeats 4000000 in
set_option maxRecDepth 100000 in
theorem kindOf_at (e : EntD) (pa ga ea fa la : Option Addr) (pc gc ec fc lc : Nat) (l : List MkD) (cyc : Int) (sa : Option Addr) (cap : Nat) (w : World) (hP : EntParts w e (.slice pa e.pts.length pc) (.slice ga e.gaps.length gc) (.slice ea e.edges.length ec) (.slice fa e.first.length fc) (.slice la e.last.length lc)) (hS : SmallE e) (hl : SlAt encM 3 w (.slice sa l.length cap) l) (hn : l.length ≤ 1000) (ht : ∀ m ∈ l, 0 ≤ m.tick ∧ m.tick ≤ 1099511627776) :
    Calls Tryd.prog 29 #[.agg #[.string e.name, .int .i64 e.tol, .slice pa e.pts.length pc, .int .i64 e.cnt, .int .i64 e.mn, .int .i64 e.mx, .slice ga e.gaps.length gc, .slice ea e.edges.length ec, .slice fa e.first.length fc, .slice la e.last.length lc], .slice sa l.length cap, .int .i64 cyc] w fun v w' => v = .returned (.int .i64 (kindOf e l cyc)) ∧ Below w.heap.size w w' := by
  have HP : Hid (∀ V, Below w.heap.size w V → EntParts V e (.slice pa e.pts.length pc) (.slice ga e.gaps.length gc) (.slice ea e.edges.length ec) (.slice fa e.first.length fc) (.slice la e.last.length lc)) := fun V hV => hP.below hV
  have HSm : Hid (SmallE e) := hS
  have HL : Hid (∀ V, Below w.heap.size w V → SlAt encM 3 V (.slice sa l.length cap) l) := fun V hV => hl.below hV
  have HN : Hid (l.length ≤ 1000) := hn
  have HT : Hid (∀ m ∈ l, 0 ≤ m.tick ∧ m.tick ≤ 1099511627776) := ht
  clear hP hS hl hn ht
  go_enter Tryd.func29, Tryd.ntmps29
  go_upto_region 1 with fail
  obtain ⟨W, hW⟩ : ∃ V, V = w.alloc (.cells #[.string e.name, .int .i64 e.tol, .slice pa e.pts.length pc, .int .i64 e.cnt, .int .i64 e.mn, .int .i64 e.mx, .slice ga e.gaps.length gc, .slice ea e.edges.length ec, .slice fa e.first.length fc, .slice la e.last.length lc] 27) := ⟨_, rfl⟩
  rw [← hW]
  have HBW : Hid (Below w.heap.size w W) := by show Below _ _ _; rw [hW]; exact Below.one _ _
  have HX : Hid (∀ V, Below W.heap.size W V → V.heap[w.heap.size]? = some (.cells #[.string e.name, .int .i64 e.tol, .slice pa e.pts.length pc, .int .i64 e.cnt, .int .i64 e.mn, .int .i64 e.mx, .slice ga e.gaps.length gc, .slice ea e.edges.length ec, .slice fa e.first.length fc, .slice la e.last.length lc] 27 (0, 0))) := fun V hV => row_below hV (by rw [hW]; exact heap_alloc_new w _)
  clear hW
  go_wp2_with (refine wpList_load_row rfl 27 _ rfl w.heap.size rfl _ _ _ _ (HX.out W (Below.refl _ _)) Tryd.underlying27 rfl Tryd.sizeEnt ?_)
  refine (countIn_at e pa ga ea fa la pc gc ec fc lc l cyc sa cap W (HL.out W HBW.out) HN.out).mono ?_
  rintro v w1 ⟨rfl, hb1⟩
  have HB1 : Hid (Below W.heap.size W w1) := hb1
  clear hb1
  have HA : Hid (aliveBad e l cyc = decide (0 ≤ e.cnt ∧ 0 < cyc ∧ ((countIn e.cnt l cyc : Int) < e.mn ∨ e.mx < (countIn e.cnt l cyc : Int)))) := rfl
  obtain ⟨B, hB⟩ : ∃ B, B = aliveBad e l cyc := ⟨_, rfl⟩
  have HBd : Hid (B = aliveBad e l cyc) := hB
  rw [← hB] at HA
  clear hB
  have hcn : countIn e.cnt l cyc ≤ 1000 := Nat.le_trans (countIn_le _ _ _) HN.out
  generalize countIn e.cnt l cyc = n at *
  have x3 : w1.cell? ⟨w.heap.size, 3, none⟩ = some (.int .i64 e.cnt) := by have := HX.out w1 HB1.out; simp [World.cell?, this]
  have x4 : w1.cell? ⟨w.heap.size, 4, none⟩ = some (.int .i64 e.mn) := by have := HX.out w1 HB1.out; simp [World.cell?, this]
  have x5 : w1.cell? ⟨w.heap.size, 5, none⟩ = some (.int .i64 e.mx) := by have := HX.out w1 HB1.out; simp [World.cell?, this]
  go_upto_region 2 with fail
  go_cut [33] (fun v wx => v = .bool B ∧ wx = w1)
  case first =>
    by_cases h0 : 0 ≤ e.cnt
    · by_cases h1 : 0 < cyc
      · by_cases h2 : (n : Int) < e.mn
        · have HV : Hid (B = true) := by show _ = _; rw [HA.out]; exact decide_eq_true ⟨h0, h1, Or.inl h2⟩
          go_wp2_with fail
          go_meet
          case rel => exact ⟨by rw [HV.out], rfl⟩
        · by_cases h3 : e.mx < (n : Int)
          · have HV : Hid (B = true) := by show _ = _; rw [HA.out]; exact decide_eq_true ⟨h0, h1, Or.inr h3⟩
            go_wp2_with fail
            go_meet
            case rel => exact ⟨by rw [HV.out], rfl⟩
          · have HV : Hid (B = false) := by show _ = _; rw [HA.out]; exact decide_eq_false (fun x => x.2.2.elim h2 h3)
            go_wp2_with fail
            go_meet
            case rel => exact ⟨by rw [HV.out], rfl⟩
      · have HV : Hid (B = false) := by show _ = _; rw [HA.out]; exact decide_eq_false (fun x => h1 x.2.1)
        go_wp2_with fail
        go_meet
        case rel => exact ⟨by rw [HV.out], rfl⟩
    · have HV : Hid (B = false) := by show _ = _; rw [HA.out]; exact decide_eq_false (fun x => h0 x.1)
      go_wp2_with fail
      go_meet
      case rel => exact ⟨by rw [HV.out], rfl⟩
  obtain ⟨rfl, rfl⟩ := hcut
  rename World => w1
  have HBw1 : Hid (Below w.heap.size w w1) := HBW.out.trans (HB1.out.mono HBW.out.size)
  clear x3 x4 x5 HA hcn
  cases B with
  | true =>
    have HE : Hid (kindOf e l cyc = 1) := kindOf_1 HBd.out.symm
    clear HBd
    go_wp2
    go_ret
    exact ⟨by rw [HE.out]; rfl, HBw1.out⟩
  | false =>
    have HA : Hid (aliveBad e l cyc = false) := HBd.out.symm
    clear HBd
    go_upto_region 4 with fail
    go_cut [8] (fun i wx => i = .int .i64 0 ∧ wx = w1)
    case first =>
      go_wp2_with fail
      go_meet
      case rel => exact ⟨rfl, rfl⟩
    obtain ⟨rfl, rfl⟩ := hcut
    rename World => w1
    go_wp2_with fail
    go_loopw [8, 9] (fun iv _ wr => ∃ k : Nat, k ≤ e.gaps.length ∧ iv = .int .i64 k ∧ Below w1.heap.size w1 wr ∧ ∀ (j : Nat) g, j < k → e.gaps[j]? = some g → gapBad g l cyc = false) (fun iv _ _ => e.gaps.length - (intOf iv).toNat)
    case atStart => exact ⟨0, Nat.zero_le _, rfl, Below.refl _ _, fun j g hj => absurd hj (by omega)⟩
    case round =>
      obtain ⟨k, hk, rfl, hbk, hbad⟩ := hrel
      have HB : Hid (Below w1.heap.size w1 wr) := hbk
      have HBw : Hid (Below w.heap.size w wr) := HBw1.out.trans (hbk.mono HBw1.out.size)
      have HBx : Hid (Below W.heap.size W wr) := HB1.out.trans (hbk.mono HB1.out.size)
      have HBad : Hid (∀ (j : Nat) g, j < k → e.gaps[j]? = some g → gapBad g l cyc = false) := hbad
      have x6 : wr.cell? ⟨w.heap.size, 6, none⟩ = some (.slice ga e.gaps.length gc) := by have := HX.out wr HBx.out; simp [World.cell?, this]
      have HGl : Hid (e.gaps.length ≤ 1000000) := HSm.out.hg
      clear hbk hbad
      by_cases hlt : k < e.gaps.length
      · have k1 : (k : Int) < (e.gaps.length : Int) := by omega
        have k2 : k < 1000000 := by have := HGl.out; omega
        obtain ⟨g, hg⟩ : ∃ g, e.gaps[k]? = some g := ⟨_, List.getElem?_eq_getElem hlt⟩
        have HG : Hid (e.gaps[k]? = some g) := hg
        obtain ⟨sa', cap', hsl, -, hcc⟩ := (HP.out wr HBw.out).hg
        cases hsl
        obtain ⟨gb, o, rfl, hc0⟩ := hcc (fun h => by rw [h] at hg; simp at hg)
        have c0 : wr.cell? ⟨gb, o + k * 4, none⟩ = some (.int .i64 g.fr) := hc0 k g hg 0 _ rfl
        have c1 : wr.cell? ⟨gb, o + k * 4 + 1, none⟩ = some (.int .i64 g.to) := hc0 k g hg 1 _ rfl
        have c2 : wr.cell? ⟨gb, o + k * 4 + 2, none⟩ = some (.int .i64 g.mn) := hc0 k g hg 2 _ rfl
        have c3 : wr.cell? ⟨gb, o + k * 4 + 3, none⟩ = some (.int .i64 g.mx) := hc0 k g hg 3 _ rfl
        clear hcc hc0 hg
        go_wp2_with fail
        refine (gapBad_at g l cyc sa cap wr (HL.out wr HBw.out) HN.out HT.out).mono ?_
        rintro v w2 ⟨rfl, hb2⟩
        have HB2 : Hid (Below w1.heap.size w1 w2) := HB.out.trans (hb2.mono HB.out.size)
        have HB2w : Hid (Below w.heap.size w w2) := HBw.out.trans (hb2.mono HBw.out.size)
        clear hb2 c0 c1 c2 c3 x6
        cases hgb : gapBad g l cyc with
        | true =>
          have HE : Hid (kindOf e l cyc = 2) := kindOf_2 HA.out HG.out hgb
          clear hgb
          go_wp2
          go_ret
          exact ⟨by rw [HE.out]; rfl, HB2w.out⟩
        | false =>
          have HNx : Hid (∀ (j : Nat) g', j < k + 1 → e.gaps[j]? = some g' → gapBad g' l cyc = false) := fun j g' hj hg' => by
            rcases Nat.lt_or_ge j k with h1 | h1
            · exact HBad.out j g' h1 hg'
            · obtain rfl : j = k := by omega
              obtain rfl := Option.some.inj (HG.out.symm.trans hg')
              exact hgb
          clear hgb
          go_wp2_with fail
          go_roundw
          case rel => exact ⟨k + 1, hlt, rfl, HB2.out, HNx.out⟩
          case measure => simp [intOf]; omega
      · have k1 : ¬ (k : Int) < (e.gaps.length : Int) := by omega
        have HE : Hid (kindOf e l cyc = if flowBad e l cyc = true then 3 else 0) := kindOf_3 HA.out (fun j g hj => HBad.out j g (by have := (List.getElem?_eq_some_iff.1 hj).1; omega) hj)
        go_wp2_with (refine wpList_load_row rfl 27 _ rfl w.heap.size rfl _ _ _ _ (HX.out wr HBx.out) Tryd.underlying27 rfl Tryd.sizeEnt ?_)
        refine (flowBad_at e pa ga ea fa la pc gc ec fc lc l cyc sa cap wr (HP.out wr HBw.out) HSm.out (HL.out wr HBw.out) HN.out).mono ?_
        rintro v w2 ⟨rfl, hb2⟩
        have HB2w : Hid (Below w.heap.size w w2) := HBw.out.trans (hb2.mono HBw.out.size)
        clear hb2 x6
        cases hfb : flowBad e l cyc with
        | true =>
          have HE2 : Hid (kindOf e l cyc = 3) := by show _ = _; rw [HE.out, hfb]; rfl
          clear hfb HE
          go_wp2
          go_ret
          exact ⟨by rw [HE2.out]; rfl, HB2w.out⟩
        | false =>
          have HE2 : Hid (kindOf e l cyc = 0) := by show _ = _; rw [HE.out, hfb]; rfl
          clear hfb HE
          go_wp2
          go_ret
          exact ⟨by rw [HE2.out]; rfl, HB2w.out⟩
end Go.Proofs.YtpaolneaomeoiacDoor
