/-
  Several texts as one: DcSame, DcSameC. What each holds: DcSame: The document's SameTexts, SameInts, SameEntity, SameConfig by contracts, for two that hold the same. Conditions: both lie in memory, not too great. | DcSameC: The document's SameConfig by a contract, for two that hold the same. Conditions: both lie in memory, not too great.
-/
import Derived.Test.YtbholbenjalliaaGreatDoorDc0X
import Derived.Test.YtbholbenjalliaaGreatDoorNmX
import Derived.Test.YtbholbenjalliaaGreatDoorMemX
import Derived.Deep.RegionHeld3
namespace Go.Proofs.YtbholbenjalliaaGreatDoor
open Go.RowKit Go.Extern.Stop Go.Stop Go.Extern

theorem Tryz.guardGap : Tryz.prog.eqGuardType Tryz.prog.depth 78 = false := by kernel_rfl
set_option maxRecDepth 100000 in
theorem sameTexts_at (l : List ByteArray) (sa sb : Option Addr) (ca cb : Nat) (w : World) (ha : SlAt encS 1 w (.slice sa l.length ca) l) (hb : SlAt encS 1 w (.slice sb l.length cb) l) (hn : l.length ≤ 1000000) :
    Calls Tryz.prog 62 #[.slice sa l.length ca, .slice sb l.length cb] w fun e w' => e = .returned (.bool true) ∧ Below w.heap.size w w' := by
  have HA : Hid (SlAt encS 1 w (.slice sa l.length ca) l) := ha
  have HB : Hid (SlAt encS 1 w (.slice sb l.length cb) l) := hb
  clear ha hb
  go_enter Tryz.func62, Tryz.ntmps62
  go_wp2_with fail
  go_loopw [5] (fun i wr => ∃ k : Nat, k ≤ l.length ∧ i = .int .i64 k ∧ Below w.heap.size w wr) (fun i _ => l.length - (intOf i).toNat)
  case atStart => exact ⟨0, Nat.zero_le _, rfl, Below.refl _ _⟩
  case round =>
    obtain ⟨k, hk, rfl, hbr⟩ := hrel
    have HR : Hid (Below w.heap.size w wr) := hbr
    clear hbr
    by_cases hlt : k < l.length
    · have k1 : (k : Int) < (l.length : Int) := by omega
      obtain ⟨x, hx⟩ : ∃ x, l[k]? = some x := ⟨_, List.getElem?_eq_getElem hlt⟩
      obtain ⟨g, o, rfl, hc⟩ := slatS_cell (HA.out.below HR.out) hx
      have c0 := hc k x hx
      obtain ⟨g2, o2, rfl, hc2⟩ := slatS_cell (HB.out.below HR.out) hx
      have c1 := hc2 k x hx
      clear hc hc2 hx
      go_wp2_with fail
      go_quiet (fail)
      go_wp2_with fail
      go_roundw
      case rel => exact ⟨k + 1, by omega, by go_num, below_drewN HR.out _⟩
      case measure => simp [intOf]; omega
    · have k1 : ¬ (k : Int) < (l.length : Int) := by omega
      go_wp2
      go_ret
      exact ⟨rfl, HR.out⟩
set_option maxRecDepth 100000 in
theorem sameInts_at (l : List Int) (sa sb : Option Addr) (ca cb : Nat) (w : World) (ha : SlAt encI 1 w (.slice sa l.length ca) l) (hb : SlAt encI 1 w (.slice sb l.length cb) l) (hn : l.length ≤ 1000000) :
    Calls Tryz.prog 63 #[.slice sa l.length ca, .slice sb l.length cb] w fun e w' => e = .returned (.bool true) ∧ Below w.heap.size w w' := by
  have HA : Hid (SlAt encI 1 w (.slice sa l.length ca) l) := ha
  have HB : Hid (SlAt encI 1 w (.slice sb l.length cb) l) := hb
  clear ha hb
  go_enter Tryz.func63, Tryz.ntmps63
  go_wp2_with fail
  go_loopw [5] (fun i wr => ∃ k : Nat, k ≤ l.length ∧ i = .int .i64 k ∧ Below w.heap.size w wr) (fun i _ => l.length - (intOf i).toNat)
  case atStart => exact ⟨0, Nat.zero_le _, rfl, Below.refl _ _⟩
  case round =>
    obtain ⟨k, hk, rfl, hbr⟩ := hrel
    have HR : Hid (Below w.heap.size w wr) := hbr
    clear hbr
    by_cases hlt : k < l.length
    · have k1 : (k : Int) < (l.length : Int) := by omega
      obtain ⟨x, hx⟩ : ∃ x, l[k]? = some x := ⟨_, List.getElem?_eq_getElem hlt⟩
      obtain ⟨g, o, rfl, hc⟩ := slatI_cell (HA.out.below HR.out) hx
      have c0 := hc k x hx
      obtain ⟨g2, o2, rfl, hc2⟩ := slatI_cell (HB.out.below HR.out) hx
      have c1 := hc2 k x hx
      clear hc hc2 hx
      go_wp2_with fail
      go_quiet (fail)
      go_wp2_with fail
      go_roundw
      case rel => exact ⟨k + 1, by omega, by go_num, below_drewN HR.out _⟩
      case measure => simp [intOf]; omega
    · have k1 : ¬ (k : Int) < (l.length : Int) := by omega
      go_wp2
      go_ret
      exact ⟨rfl, HR.out⟩
set_option maxHeartbeats 4000000 in
set_option maxRecDepth 100000 in
theorem sameEnt_at (e : EntD) (pa ga ea fa la pb gb eb fb lb : Option Addr) (pc gc ec fc lc pd gd ed fd ld : Nat) (w : World) (hA : EntParts w e (.slice pa e.pts.length pc) (.slice ga e.gaps.length gc) (.slice ea e.edges.length ec) (.slice fa e.first.length fc) (.slice la e.last.length lc)) (hB : EntParts w e (.slice pb e.pts.length pd) (.slice gb e.gaps.length gd) (.slice eb e.edges.length ed) (.slice fb e.first.length fd) (.slice lb e.last.length ld)) (hS : SmallE e) :
    Calls Tryz.prog 33 #[.agg #[.string e.name, .int .i64 e.tol, .slice pa e.pts.length pc, .int .i64 e.cnt, .int .i64 e.mn, .int .i64 e.mx, .slice ga e.gaps.length gc, .slice ea e.edges.length ec, .slice fa e.first.length fc, .slice la e.last.length lc], .agg #[.string e.name, .int .i64 e.tol, .slice pb e.pts.length pd, .int .i64 e.cnt, .int .i64 e.mn, .int .i64 e.mx, .slice gb e.gaps.length gd, .slice eb e.edges.length ed, .slice fb e.first.length fd, .slice lb e.last.length ld]] w fun v w' => v = .returned (.bool true) ∧ Below w.heap.size w w' := by
  obtain ⟨W, hW⟩ : ∃ V, V = (w.alloc (.cells #[.string e.name, .int .i64 e.tol, .slice pa e.pts.length pc, .int .i64 e.cnt, .int .i64 e.mn, .int .i64 e.mx, .slice ga e.gaps.length gc, .slice ea e.edges.length ec, .slice fa e.first.length fc, .slice la e.last.length lc] 52)).alloc (.cells #[.string e.name, .int .i64 e.tol, .slice pb e.pts.length pd, .int .i64 e.cnt, .int .i64 e.mn, .int .i64 e.mx, .slice gb e.gaps.length gd, .slice eb e.edges.length ed, .slice fb e.first.length fd, .slice lb e.last.length ld] 52) := ⟨_, rfl⟩
  have HBW : Hid (Below w.heap.size w W) := by show Below _ _ _; rw [hW]; exact (Below.one _ _).alloc (by simp) _
  have HF : Hid (∀ V, Below W.heap.size W V → Below w.heap.size w V) := fun V hV => HBW.out.trans (hV.mono HBW.out.size)
  have HX : Hid (∀ V, Below W.heap.size W V → ∀ (j : Nat) u, (#[.string e.name, .int .i64 e.tol, .slice pa e.pts.length pc, .int .i64 e.cnt, .int .i64 e.mn, .int .i64 e.mx, .slice ga e.gaps.length gc, .slice ea e.edges.length ec, .slice fa e.first.length fc, .slice la e.last.length lc] : Array Value)[j]? = some u → V.cell? ⟨w.heap.size, j, none⟩ = some u) := fun V hV j u hu => by
    have := row_below hV (show W.heap[w.heap.size]? = _ by rw [hW]; exact row_below (Below.one _ _) (heap_alloc_new w _))
    simp [World.cell?, this, hu]
  have HY : Hid (∀ V, Below W.heap.size W V → ∀ (j : Nat) u, (#[.string e.name, .int .i64 e.tol, .slice pb e.pts.length pd, .int .i64 e.cnt, .int .i64 e.mn, .int .i64 e.mx, .slice gb e.gaps.length gd, .slice eb e.edges.length ed, .slice fb e.first.length fd, .slice lb e.last.length ld] : Array Value)[j]? = some u → V.cell? ⟨w.heap.size + 1, j, none⟩ = some u) := fun V hV j u hu => by
    have := row_below hV (show W.heap[w.heap.size + 1]? = some (.cells #[.string e.name, .int .i64 e.tol, .slice pb e.pts.length pd, .int .i64 e.cnt, .int .i64 e.mn, .int .i64 e.mx, .slice gb e.gaps.length gd, .slice eb e.edges.length ed, .slice fb e.first.length fd, .slice lb e.last.length ld] 52 (0, 0)) by rw [hW]; have := heap_alloc_new (w.alloc (.cells #[.string e.name, .int .i64 e.tol, .slice pa e.pts.length pc, .int .i64 e.cnt, .int .i64 e.mn, .int .i64 e.mx, .slice ga e.gaps.length gc, .slice ea e.edges.length ec, .slice fa e.first.length fc, .slice la e.last.length lc] 52)) (.cells #[.string e.name, .int .i64 e.tol, .slice pb e.pts.length pd, .int .i64 e.cnt, .int .i64 e.mn, .int .i64 e.mx, .slice gb e.gaps.length gd, .slice eb e.edges.length ed, .slice fb e.first.length fd, .slice lb e.last.length ld] 52); simpa using this)
    simp [World.cell?, this, hu]
  have HA : Hid (∀ V, Below W.heap.size W V → EntParts V e (.slice pa e.pts.length pc) (.slice ga e.gaps.length gc) (.slice ea e.edges.length ec) (.slice fa e.first.length fc) (.slice la e.last.length lc)) := fun V hV => hA.below (HF.out V hV)
  have HB : Hid (∀ V, Below W.heap.size W V → EntParts V e (.slice pb e.pts.length pd) (.slice gb e.gaps.length gd) (.slice eb e.edges.length ed) (.slice fb e.first.length fd) (.slice lb e.last.length ld)) := fun V hV => hB.below (HF.out V hV)
  have HS : Hid (SmallE e) := hS
  clear hA hB hS
  have x0 := HX.out W (Below.refl _ _) 0 _ rfl
  have y0 := HY.out W (Below.refl _ _) 0 _ rfl
  have x1 := HX.out W (Below.refl _ _) 1 _ rfl
  have y1 := HY.out W (Below.refl _ _) 1 _ rfl
  have x2 := HX.out W (Below.refl _ _) 2 _ rfl
  have y2 := HY.out W (Below.refl _ _) 2 _ rfl
  have x3 := HX.out W (Below.refl _ _) 3 _ rfl
  have y3 := HY.out W (Below.refl _ _) 3 _ rfl
  have x4 := HX.out W (Below.refl _ _) 4 _ rfl
  have y4 := HY.out W (Below.refl _ _) 4 _ rfl
  have x5 := HX.out W (Below.refl _ _) 5 _ rfl
  have y5 := HY.out W (Below.refl _ _) 5 _ rfl
  go_enter Tryz.func33, Tryz.ntmps33
  go_upto_region 1 with fail
  rw [← hW]
  clear hW
  go_upto_region 3 with fail
  clear x0 x1 x3 x4 x5 y0 y1 y3 y4 y5
  go_wp2_with fail
  refine (sameTexts_at e.pts pa pb pc pd W (HA.out W (Below.refl _ _)).hp (HB.out W (Below.refl _ _)).hp HS.out.hp).mono ?_
  rintro v w1 ⟨rfl, hb1⟩
  have HB1 : Hid (Below W.heap.size W w1) := hb1
  clear hb1 x2 y2
  have x8 := HX.out w1 HB1.out 8 _ rfl
  have y8 := HY.out w1 HB1.out 8 _ rfl
  go_wp2_with fail
  refine (sameInts_at e.first fa fb fc fd w1 (HA.out w1 HB1.out).hf (HB.out w1 HB1.out).hf HS.out.hf).mono ?_
  rintro v w2 ⟨rfl, hb2⟩
  have HB2 : Hid (Below W.heap.size W w2) := HB1.out.trans (hb2.mono HB1.out.size)
  clear hb2 x8 y8
  have x9 := HX.out w2 HB2.out 9 _ rfl
  have y9 := HY.out w2 HB2.out 9 _ rfl
  go_wp2_with fail
  refine (sameInts_at e.last la lb lc ld w2 (HA.out w2 HB2.out).hl (HB.out w2 HB2.out).hl HS.out.hl).mono ?_
  rintro v w3 ⟨rfl, hb3⟩
  have HB3 : Hid (Below W.heap.size W w3) := HB2.out.trans (hb3.mono HB2.out.size)
  clear hb3 x9 y9
  have x6 := HX.out w3 HB3.out 6 _ rfl
  have y6 := HY.out w3 HB3.out 6 _ rfl
  have x7 := HX.out w3 HB3.out 7 _ rfl
  have y7 := HY.out w3 HB3.out 7 _ rfl
  go_upto_region 5 with fail
  clear x6 y6 x7 y7
  go_cut [5] (fun i wv => i = .int .i64 0 ∧ wv = w3)
  case first =>
    go_wp2_with fail
    go_meet
    case rel => exact ⟨rfl, rfl⟩
  obtain ⟨rfl, rfl⟩ := hcut
  rename World => w3
  go_wp2_with fail
  go_loopw [5] (fun i wr => ∃ k : Nat, k ≤ e.gaps.length ∧ i = .int .i64 k ∧ Below W.heap.size W wr) (fun i _ => e.gaps.length - (intOf i).toNat)
  case atStart => exact ⟨0, Nat.zero_le _, rfl, HB3.out⟩
  case round =>
    clear HB3
    obtain ⟨k, hk, rfl, hbr⟩ := hrel
    have HR : Hid (Below W.heap.size W wr) := hbr
    clear hbr
    have x6 := HX.out wr HR.out 6 _ rfl
    have y6 := HY.out wr HR.out 6 _ rfl
    by_cases hlt : k < e.gaps.length
    · have k1 : (k : Int) < (e.gaps.length : Int) := by omega
      have k2 : k < 1000000 := by have := HS.out.hg; omega
      obtain ⟨q, hq⟩ : ∃ q, e.gaps[k]? = some q := ⟨_, List.getElem?_eq_getElem hlt⟩
      obtain ⟨sa', cap', hsl, -, hcc⟩ := (HA.out wr HR.out).hg
      cases hsl
      obtain ⟨g, o, rfl, hc0⟩ := hcc (fun h => by rw [h] at hq; simp at hq)
      obtain ⟨sa', cap', hsl, -, hdd⟩ := (HB.out wr HR.out).hg
      cases hsl
      obtain ⟨g2, o2, rfl, hd0⟩ := hdd (fun h => by rw [h] at hq; simp at hq)
      have c0 : wr.cell? ⟨g, o + k * 4, none⟩ = some (.int .i64 q.fr) := hc0 k _ hq 0 _ rfl
      have c1 : wr.cell? ⟨g, o + k * 4 + 1, none⟩ = some (.int .i64 q.to) := hc0 k _ hq 1 _ rfl
      have c2 : wr.cell? ⟨g, o + k * 4 + 2, none⟩ = some (.int .i64 q.mn) := hc0 k _ hq 2 _ rfl
      have c3 : wr.cell? ⟨g, o + k * 4 + 3, none⟩ = some (.int .i64 q.mx) := hc0 k _ hq 3 _ rfl
      have d0 : wr.cell? ⟨g2, o2 + k * 4, none⟩ = some (.int .i64 q.fr) := hd0 k _ hq 0 _ rfl
      have d1 : wr.cell? ⟨g2, o2 + k * 4 + 1, none⟩ = some (.int .i64 q.to) := hd0 k _ hq 1 _ rfl
      have d2 : wr.cell? ⟨g2, o2 + k * 4 + 2, none⟩ = some (.int .i64 q.mn) := hd0 k _ hq 2 _ rfl
      have d3 : wr.cell? ⟨g2, o2 + k * 4 + 3, none⟩ = some (.int .i64 q.mx) := hd0 k _ hq 3 _ rfl
      clear hcc hc0 hdd hd0 hq
      go_wp2_with fail
      go_quiet (fail)
      go_wp2_with fail
      go_roundw
      case rel => exact ⟨k + 1, by omega, by go_num, below_drewN HR.out _⟩
      case measure => simp [intOf]; omega
    · have k1 : ¬ (k : Int) < (e.gaps.length : Int) := by omega
      go_upto_region 10 with fail
      clear x6 y6 k1 hlt hk
      go_cut [6] (fun i wv => i = .int .i64 0 ∧ wv = wr)
      case first =>
        go_wp2_with fail
        go_meet
        case rel => exact ⟨rfl, rfl⟩
      obtain ⟨rfl, rfl⟩ := hcut
      rename World => wr
      go_wp2_with fail
      go_loopw [6] (fun i wr => ∃ k : Nat, k ≤ e.edges.length ∧ i = .int .i64 k ∧ Below W.heap.size W wr) (fun i _ => e.edges.length - (intOf i).toNat)
      case atStart => exact ⟨0, Nat.zero_le _, rfl, HR.out⟩
      case round =>
        clear HR
        obtain ⟨k, hk, rfl, hbr⟩ := hrel
        rename World => wr
        have HR : Hid (Below W.heap.size W wr) := hbr
        clear hbr
        have x7 := HX.out wr HR.out 7 _ rfl
        have y7 := HY.out wr HR.out 7 _ rfl
        by_cases hlt : k < e.edges.length
        · have k1 : (k : Int) < (e.edges.length : Int) := by omega
          have k2 : k < 1000000 := by have := HS.out.he; omega
          obtain ⟨q, hq⟩ : ∃ q, e.edges[k]? = some q := ⟨_, List.getElem?_eq_getElem hlt⟩
          obtain ⟨sa', cap', hsl, -, hcc⟩ := (HA.out wr HR.out).he
          cases hsl
          obtain ⟨g, o, rfl, hc0⟩ := hcc (fun h => by rw [h] at hq; simp at hq)
          obtain ⟨sa', cap', hsl, -, hdd⟩ := (HB.out wr HR.out).he
          cases hsl
          obtain ⟨g2, o2, rfl, hd0⟩ := hdd (fun h => by rw [h] at hq; simp at hq)
          have c0 : wr.cell? ⟨g, o + k * 2, none⟩ = some (.int .i64 q.1) := hc0 k _ hq 0 _ rfl
          have c1 : wr.cell? ⟨g, o + k * 2 + 1, none⟩ = some (.int .i64 q.2) := hc0 k _ hq 1 _ rfl
          have d0 : wr.cell? ⟨g2, o2 + k * 2, none⟩ = some (.int .i64 q.1) := hd0 k _ hq 0 _ rfl
          have d1 : wr.cell? ⟨g2, o2 + k * 2 + 1, none⟩ = some (.int .i64 q.2) := hd0 k _ hq 1 _ rfl
          have eqf : ∀ w, (binOp .neq 79 (.agg #[.int .i64 q.1, .int .i64 q.2]) (.agg #[.int .i64 q.1, .int .i64 q.2])).run Tryz.prog w = .ok (.bool false) w := fun w => by rw [neq_pair]; simp
          have gpf := Tryz.guardPair
          clear hcc hc0 hdd hd0 hq
          go_wp2_with fail
          go_quiet (fail)
          go_wp2_with fail
          go_roundw
          case rel => exact ⟨k + 1, by omega, by go_num, below_drewN HR.out _⟩
          case measure => simp [intOf]; omega
        · have k1 : ¬ (k : Int) < (e.edges.length : Int) := by omega
          go_wp2
          go_ret
          exact ⟨rfl, HF.out _ HR.out⟩
end Go.Proofs.YtbholbenjalliaaGreatDoor

namespace Go.Proofs.YtbholbenjalliaaGreatDoor
open Go.RowKit Go.Extern.Stop Go.Stop Go.Extern

set_option maxHeartbeats 8000000 in
set_option maxRecDepth 100000 in
theorem sameCfg_at (c : CfgD) (sa sb : Option Addr) (ca cb : Nat) (w : World) (hA : EntsAt w (.slice sa c.ents.length ca) c.ents) (hB : EntsAt w (.slice sb c.ents.length cb) c.ents) (hS : SmallC c) :
    Calls Tryz.prog 15 #[.agg #[.int .i64 c.closed, .int .i64 c.opn, .int .i64 c.cycle, .int .i64 c.delay, .slice sa c.ents.length ca], .agg #[.int .i64 c.closed, .int .i64 c.opn, .int .i64 c.cycle, .int .i64 c.delay, .slice sb c.ents.length cb]] w fun v w' => v = .returned (.bool true) ∧ Below w.heap.size w w' := by
  obtain ⟨W, hW⟩ : ∃ V, V = (w.alloc (.cells #[.int .i64 c.closed, .int .i64 c.opn, .int .i64 c.cycle, .int .i64 c.delay, .slice sa c.ents.length ca] 24)).alloc (.cells #[.int .i64 c.closed, .int .i64 c.opn, .int .i64 c.cycle, .int .i64 c.delay, .slice sb c.ents.length cb] 24) := ⟨_, rfl⟩
  have HBW : Hid (Below w.heap.size w W) := by show Below _ _ _; rw [hW]; exact (Below.one _ _).alloc (by simp) _
  have HF : Hid (∀ V, Below W.heap.size W V → Below w.heap.size w V) := fun V hV => HBW.out.trans (hV.mono HBW.out.size)
  have HX : Hid (∀ V, Below W.heap.size W V → ∀ (j : Nat) u, (#[.int .i64 c.closed, .int .i64 c.opn, .int .i64 c.cycle, .int .i64 c.delay, .slice sa c.ents.length ca] : Array Value)[j]? = some u → V.cell? ⟨w.heap.size, j, none⟩ = some u) := fun V hV j u hu => by
    have := row_below hV (show W.heap[w.heap.size]? = _ by rw [hW]; exact row_below (Below.one _ _) (heap_alloc_new w _))
    simp [World.cell?, this, hu]
  have HY : Hid (∀ V, Below W.heap.size W V → ∀ (j : Nat) u, (#[.int .i64 c.closed, .int .i64 c.opn, .int .i64 c.cycle, .int .i64 c.delay, .slice sb c.ents.length cb] : Array Value)[j]? = some u → V.cell? ⟨w.heap.size + 1, j, none⟩ = some u) := fun V hV j u hu => by
    have := row_below hV (show W.heap[w.heap.size + 1]? = some (.cells #[.int .i64 c.closed, .int .i64 c.opn, .int .i64 c.cycle, .int .i64 c.delay, .slice sb c.ents.length cb] 24 (0, 0)) by rw [hW]; have := heap_alloc_new (w.alloc (.cells #[.int .i64 c.closed, .int .i64 c.opn, .int .i64 c.cycle, .int .i64 c.delay, .slice sa c.ents.length ca] 24)) (.cells #[.int .i64 c.closed, .int .i64 c.opn, .int .i64 c.cycle, .int .i64 c.delay, .slice sb c.ents.length cb] 24); simpa using this)
    simp [World.cell?, this, hu]
  have HA : Hid (∀ V, Below W.heap.size W V → EntsAt V (.slice sa c.ents.length ca) c.ents) := fun V hV => hA.below (HF.out V hV)
  have HB : Hid (∀ V, Below W.heap.size W V → EntsAt V (.slice sb c.ents.length cb) c.ents) := fun V hV => hB.below (HF.out V hV)
  have HS : Hid (SmallC c) := hS
  clear hA hB hS
  have x0 := HX.out W (Below.refl _ _) 0 _ rfl
  have y0 := HY.out W (Below.refl _ _) 0 _ rfl
  have x1 := HX.out W (Below.refl _ _) 1 _ rfl
  have y1 := HY.out W (Below.refl _ _) 1 _ rfl
  have x2 := HX.out W (Below.refl _ _) 2 _ rfl
  have y2 := HY.out W (Below.refl _ _) 2 _ rfl
  have x3 := HX.out W (Below.refl _ _) 3 _ rfl
  have y3 := HY.out W (Below.refl _ _) 3 _ rfl
  have x4 := HX.out W (Below.refl _ _) 4 _ rfl
  have y4 := HY.out W (Below.refl _ _) 4 _ rfl
  go_enter Tryz.func15, Tryz.ntmps15
  go_upto_region 1 with fail
  rw [← hW]
  clear hW
  go_upto_region 3 with fail
  clear x0 x1 x2 x3 x4 y0 y1 y2 y3 y4
  go_cut [5] (fun i wv => i = .int .i64 0 ∧ wv = W)
  case first =>
    go_wp2_with fail
    go_meet
    case rel => exact ⟨rfl, rfl⟩
  obtain ⟨rfl, rfl⟩ := hcut
  rename World => W
  go_wp2_with fail
  go_loopw [5, 6] (fun i _ wr => ∃ k : Nat, k ≤ c.ents.length ∧ i = .int .i64 k ∧ Below W.heap.size W wr) (fun i _ _ => c.ents.length - (intOf i).toNat)
  case atStart => exact ⟨0, Nat.zero_le _, rfl, Below.refl _ _⟩
  case round =>
    obtain ⟨k, hk, rfl, hbr⟩ := hrel
    have HR : Hid (Below W.heap.size W wr) := hbr
    clear hbr
    by_cases hlt : k < c.ents.length
    · have k1 : (k : Int) < (c.ents.length : Int) := by omega
      have k2 : k < 1000000 := by have := HS.out.hn; omega
      obtain ⟨e, he⟩ : ∃ e, c.ents[k]? = some e := ⟨_, List.getElem?_eq_getElem hlt⟩
      have HSe : Hid (SmallE e) := HS.out.he e (List.mem_of_getElem? he)
      obtain ⟨sa', cap', hsl, hcc⟩ := HA.out wr HR.out
      cases hsl
      obtain ⟨g, o, rfl, hc0⟩ := hcc (fun h => by rw [h] at he; simp at he)
      obtain ⟨pv, gv, ev, fv, lv, hP, hcell⟩ := hc0 k e he
      obtain ⟨pa, pc, rfl, -⟩ := id hP.hp
      obtain ⟨ga, gc, rfl, -⟩ := id hP.hg
      obtain ⟨ea, ec, rfl, -⟩ := id hP.he
      obtain ⟨fa, fc, rfl, -⟩ := id hP.hf
      obtain ⟨la, lc, rfl, -⟩ := id hP.hl
      obtain ⟨sa', cap', hsl, hdd⟩ := HB.out wr HR.out
      cases hsl
      obtain ⟨g2, o2, rfl, hd0⟩ := hdd (fun h => by rw [h] at he; simp at he)
      obtain ⟨pv, gv, ev, fv, lv, hQ, hdell⟩ := hd0 k e he
      obtain ⟨pb, pd, rfl, -⟩ := id hQ.hp
      obtain ⟨gb, gd, rfl, -⟩ := id hQ.hg
      obtain ⟨eb, ed, rfl, -⟩ := id hQ.he
      obtain ⟨fb, fd, rfl, -⟩ := id hQ.hf
      obtain ⟨lb, ld, rfl, -⟩ := id hQ.hl
      have HK : Hid (∀ V, Below wr.heap.size wr V → V.cell? ⟨w.heap.size, 4, none⟩ = some (.slice (some ⟨g, o, none⟩) c.ents.length ca) ∧ V.cell? ⟨w.heap.size + 1, 4, none⟩ = some (.slice (some ⟨g2, o2, none⟩) c.ents.length cb) ∧ V.cell? ⟨g, o + k * 10, none⟩ = some (.string e.name) ∧ V.cell? ⟨g, o + k * 10 + 1, none⟩ = some (.int .i64 e.tol) ∧ V.cell? ⟨g, o + k * 10 + 2, none⟩ = some (.slice pa e.pts.length pc) ∧ V.cell? ⟨g, o + k * 10 + 3, none⟩ = some (.int .i64 e.cnt) ∧ V.cell? ⟨g, o + k * 10 + 4, none⟩ = some (.int .i64 e.mn) ∧ V.cell? ⟨g, o + k * 10 + 5, none⟩ = some (.int .i64 e.mx) ∧ V.cell? ⟨g, o + k * 10 + 6, none⟩ = some (.slice ga e.gaps.length gc) ∧ V.cell? ⟨g, o + k * 10 + 7, none⟩ = some (.slice ea e.edges.length ec) ∧ V.cell? ⟨g, o + k * 10 + 8, none⟩ = some (.slice fa e.first.length fc) ∧ V.cell? ⟨g, o + k * 10 + 9, none⟩ = some (.slice la e.last.length lc) ∧ V.cell? ⟨g2, o2 + k * 10, none⟩ = some (.string e.name) ∧ V.cell? ⟨g2, o2 + k * 10 + 1, none⟩ = some (.int .i64 e.tol) ∧ V.cell? ⟨g2, o2 + k * 10 + 2, none⟩ = some (.slice pb e.pts.length pd) ∧ V.cell? ⟨g2, o2 + k * 10 + 3, none⟩ = some (.int .i64 e.cnt) ∧ V.cell? ⟨g2, o2 + k * 10 + 4, none⟩ = some (.int .i64 e.mn) ∧ V.cell? ⟨g2, o2 + k * 10 + 5, none⟩ = some (.int .i64 e.mx) ∧ V.cell? ⟨g2, o2 + k * 10 + 6, none⟩ = some (.slice gb e.gaps.length gd) ∧ V.cell? ⟨g2, o2 + k * 10 + 7, none⟩ = some (.slice eb e.edges.length ed) ∧ V.cell? ⟨g2, o2 + k * 10 + 8, none⟩ = some (.slice fb e.first.length fd) ∧ V.cell? ⟨g2, o2 + k * 10 + 9, none⟩ = some (.slice lb e.last.length ld)) := fun V hV => by
        have b1 := HR.out.trans (hV.mono HR.out.size)
        exact ⟨HX.out V b1 4 _ rfl, HY.out V b1 4 _ rfl, cell_below hV (by have := hcell 0 (.string e.name) rfl; simpa using this), cell_below hV (by have := hcell 1 (.int .i64 e.tol) rfl; simpa using this), cell_below hV (by have := hcell 2 (.slice pa e.pts.length pc) rfl; simpa using this), cell_below hV (by have := hcell 3 (.int .i64 e.cnt) rfl; simpa using this), cell_below hV (by have := hcell 4 (.int .i64 e.mn) rfl; simpa using this), cell_below hV (by have := hcell 5 (.int .i64 e.mx) rfl; simpa using this), cell_below hV (by have := hcell 6 (.slice ga e.gaps.length gc) rfl; simpa using this), cell_below hV (by have := hcell 7 (.slice ea e.edges.length ec) rfl; simpa using this), cell_below hV (by have := hcell 8 (.slice fa e.first.length fc) rfl; simpa using this), cell_below hV (by have := hcell 9 (.slice la e.last.length lc) rfl; simpa using this), cell_below hV (by have := hdell 0 (.string e.name) rfl; simpa using this), cell_below hV (by have := hdell 1 (.int .i64 e.tol) rfl; simpa using this), cell_below hV (by have := hdell 2 (.slice pb e.pts.length pd) rfl; simpa using this), cell_below hV (by have := hdell 3 (.int .i64 e.cnt) rfl; simpa using this), cell_below hV (by have := hdell 4 (.int .i64 e.mn) rfl; simpa using this), cell_below hV (by have := hdell 5 (.int .i64 e.mx) rfl; simpa using this), cell_below hV (by have := hdell 6 (.slice gb e.gaps.length gd) rfl; simpa using this), cell_below hV (by have := hdell 7 (.slice eb e.edges.length ed) rfl; simpa using this), cell_below hV (by have := hdell 8 (.slice fb e.first.length fd) rfl; simpa using this), cell_below hV (by have := hdell 9 (.slice lb e.last.length ld) rfl; simpa using this)⟩
      have hk0 := HK.out wr (Below.refl _ _)
      have HC : Hid (∀ n, Calls Tryz.prog 33 #[.agg #[.string e.name, .int .i64 e.tol, .slice pa e.pts.length pc, .int .i64 e.cnt, .int .i64 e.mn, .int .i64 e.mx, .slice ga e.gaps.length gc, .slice ea e.edges.length ec, .slice fa e.first.length fc, .slice la e.last.length lc], .agg #[.string e.name, .int .i64 e.tol, .slice pb e.pts.length pd, .int .i64 e.cnt, .int .i64 e.mn, .int .i64 e.mx, .slice gb e.gaps.length gd, .slice eb e.edges.length ed, .slice fb e.first.length fd, .slice lb e.last.length ld]] (wr.drewN n) fun v w' => v = .returned (.bool true) ∧ Below wr.heap.size wr w') := fun n => by
        refine (sameEnt_at e pa ga ea fa la pb gb eb fb lb pc gc ec fc lc pd gd ed fd ld (wr.drewN n) (hP.below (below_drewN (Below.refl _ _) n)) (hQ.below (below_drewN (Below.refl _ _) n)) HSe.out).mono fun v w' h => ⟨h.1, (below_drewN (Below.refl _ _) n).trans h.2⟩
      clear hP hQ hcell hdell hc0 hd0 hcc hdd he
      obtain ⟨s0, s1, s2, s3, s4, s5, s6, s7, s8, s9, s10, s11, s12, s13, s14, s15, s16, s17, s18, s19, s20, s21⟩ := hk0
      go_wp2_with fail
      go_region_held3 (fun w' => w'.cell? ⟨w.heap.size, 4, none⟩ = some (.slice (some ⟨g, o, none⟩) c.ents.length ca) ∧ w'.cell? ⟨w.heap.size + 1, 4, none⟩ = some (.slice (some ⟨g2, o2, none⟩) c.ents.length cb) ∧ w'.cell? ⟨g, o + k * 10, none⟩ = some (.string e.name) ∧ w'.cell? ⟨g, o + k * 10 + 1, none⟩ = some (.int .i64 e.tol) ∧ w'.cell? ⟨g, o + k * 10 + 2, none⟩ = some (.slice pa e.pts.length pc) ∧ w'.cell? ⟨g, o + k * 10 + 3, none⟩ = some (.int .i64 e.cnt) ∧ w'.cell? ⟨g, o + k * 10 + 4, none⟩ = some (.int .i64 e.mn) ∧ w'.cell? ⟨g, o + k * 10 + 5, none⟩ = some (.int .i64 e.mx) ∧ w'.cell? ⟨g, o + k * 10 + 6, none⟩ = some (.slice ga e.gaps.length gc) ∧ w'.cell? ⟨g, o + k * 10 + 7, none⟩ = some (.slice ea e.edges.length ec) ∧ w'.cell? ⟨g, o + k * 10 + 8, none⟩ = some (.slice fa e.first.length fc) ∧ w'.cell? ⟨g, o + k * 10 + 9, none⟩ = some (.slice la e.last.length lc) ∧ w'.cell? ⟨g2, o2 + k * 10, none⟩ = some (.string e.name) ∧ w'.cell? ⟨g2, o2 + k * 10 + 1, none⟩ = some (.int .i64 e.tol) ∧ w'.cell? ⟨g2, o2 + k * 10 + 2, none⟩ = some (.slice pb e.pts.length pd) ∧ w'.cell? ⟨g2, o2 + k * 10 + 3, none⟩ = some (.int .i64 e.cnt) ∧ w'.cell? ⟨g2, o2 + k * 10 + 4, none⟩ = some (.int .i64 e.mn) ∧ w'.cell? ⟨g2, o2 + k * 10 + 5, none⟩ = some (.int .i64 e.mx) ∧ w'.cell? ⟨g2, o2 + k * 10 + 6, none⟩ = some (.slice gb e.gaps.length gd) ∧ w'.cell? ⟨g2, o2 + k * 10 + 7, none⟩ = some (.slice eb e.edges.length ed) ∧ w'.cell? ⟨g2, o2 + k * 10 + 8, none⟩ = some (.slice fb e.first.length fd) ∧ w'.cell? ⟨g2, o2 + k * 10 + 9, none⟩ = some (.slice lb e.last.length ld)) (first | exact ⟨s0, s1, s2, s3, s4, s5, s6, s7, s8, s9, s10, s11, s12, s13, s14, s15, s16, s17, s18, s19, s20, s21⟩ | exact HK.out _ hb2) (first | (go_at_call 33; refine Calls.mono (HC.out _) ?_; rintro v w2 ⟨rfl, hb2⟩))
      all_goals
        have HB2 : Hid (Below W.heap.size W w2) := HR.out.trans (hb2.mono HR.out.size)
        clear hb2 s0 s1 s2 s3 s4 s5 s6 s7 s8 s9 s10 s11 s12 s13 s14 s15 s16 s17 s18 s19 s20 s21
        go_wp2_with fail
        go_roundw
        case rel => exact ⟨k + 1, by omega, by go_num, HB2.out⟩
        case measure => simp [intOf]; omega
    · have k1 : ¬ (k : Int) < (c.ents.length : Int) := by omega
      have x4 := HX.out wr HR.out 4 _ rfl
      go_wp2
      go_ret
      exact ⟨rfl, HF.out _ HR.out⟩
end Go.Proofs.YtbholbenjalliaaGreatDoor
