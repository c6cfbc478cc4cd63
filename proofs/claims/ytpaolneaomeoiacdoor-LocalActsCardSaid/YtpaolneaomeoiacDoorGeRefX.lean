/-
  nightwatchref2.GapBad told by a contract: 'gapBad' of GaPure. Conditions: the reports lie in memory, at most a thousand; their ticks are from 0 to 2^40.
-/
import Derived.Test.YtpaolneaomeoiacDoorGaNewX
import Derived.Test.YtpaolneaomeoiacDoorMemX
namespace Go.Proofs.YtpaolneaomeoiacDoor
open Go.RowKit Go.Extern.Stop Go.Stop Go.Extern

theorem badI_pt {g : GapD} {l : List MkD} {cyc : Int} {k : Nat} {m : MkD} (hm : l[k]? = some m) (h : m.cyc ≠ cyc ∨ m.pt ≠ g.to) : badI g l cyc k = false := by
  unfold badI
  rw [hm]
  simp only
  rcases h with h | h
  · rw [decide_eq_false h]; rfl
  · unfold badM WG.bad
    rw [decide_eq_false h]
    simp
theorem badI_in {g : GapD} {l : List MkD} {cyc : Int} {k : Nat} {m : MkD} (hm : l[k]? = some m) (h1 : m.cyc = cyc) (h2 : m.pt = g.to) : badI g l cyc k = !(WG.mk g (lat g.fr (l.take k))).bears m.tick := by
  unfold badI
  rw [hm]
  simp only
  rw [decide_eq_true h1]
  unfold badM WG.bad
  rw [decide_eq_true h2]
  rfl
theorem bears_none {g : GapD} {t : Int} : (WG.mk g (-1)).bears t = false := rfl
theorem bears_some {g : GapD} {t u d : Int} (hu : 0 ≤ u) (hd : d = t - u) : (WG.mk g u).bears t = (decide (g.mn ≤ d) && decide (d ≤ g.mx)) := by
  subst hd
  unfold WG.bears
  simp only
  rw [decide_eq_true (p := u ≠ -1) (by omega)]
  rfl

set_option maxHeartbeats 4000000 in
set_option maxRecDepth 100000 in
theorem gapBad_at (g : GapD) (l : List MkD) (cyc : Int) (sa : Option Addr) (cap : Nat) (w : World) (hl : SlAt encM 3 w (.slice sa l.length cap) l) (hn : l.length ≤ 1000) (ht : ∀ m ∈ l, 0 ≤ m.tick ∧ m.tick ≤ 1099511627776) :
    Calls Tryd.prog 45 #[.agg #[.int .i64 g.fr, .int .i64 g.to, .int .i64 g.mn, .int .i64 g.mx], .slice sa l.length cap, .int .i64 cyc] w fun e w' => e = .returned (.bool (gapBad g l cyc)) ∧ Below w.heap.size w w' := by
  have HL : Hid (SlAt encM 3 w (.slice sa l.length cap) l) := hl
  have HN : Hid (l.length ≤ 1000) := hn
  have HT : Hid (∀ m ∈ l, 0 ≤ m.tick ∧ m.tick ≤ 1099511627776) := ht
  clear hl hn ht
  go_enter Tryd.func45, Tryd.ntmps45
  go_upto_region 1 with fail
  obtain ⟨W, hW⟩ : ∃ V, V = w.alloc (.cells #[.int .i64 g.fr, .int .i64 g.to, .int .i64 g.mn, .int .i64 g.mx] 57) := ⟨_, rfl⟩
  rw [← hW]
  have HBW : Hid (Below w.heap.size w W) := by show Below _ _ _; rw [hW]; exact Below.one _ _
  have HGc : Hid (∀ V, Below W.heap.size W V → ∀ (j : Nat) u, ([.int .i64 g.fr, .int .i64 g.to, .int .i64 g.mn, .int .i64 g.mx] : List Value)[j]? = some u → V.cell? ⟨w.heap.size, j, none⟩ = some u) := fun V hV j u hu => by
    refine cell_below hV ?_
    rw [hW]
    have := ce_at w [.int .i64 g.fr, .int .i64 g.to, .int .i64 g.mn, .int .i64 g.mx] 57 j u hu
    rw [addC_plain] at this
    simpa using this
  have HLc : Hid (∀ V, Below W.heap.size W V → SlAt encM 3 V (.slice sa l.length cap) l) := fun V hV => HL.out.below (HBW.out.trans (hV.mono HBW.out.size))
  clear hW HL
  go_cut [7] (fun i wx => i = .int .i64 0 ∧ wx = W)
  case first =>
    go_wp2_with fail
    go_meet
    case rel => exact ⟨rfl, rfl⟩
  obtain ⟨rfl, rfl⟩ := hcut
  rename World => W
  go_wp2_with fail
  go_loopw [7, 8, 9] (fun i _ _ wr => ∃ k : Nat, k ≤ l.length ∧ i = .int .i64 k ∧ Below W.heap.size W wr ∧ ∀ j, j < k → badI g l cyc j = false) (fun i _ _ _ => l.length - (intOf i).toNat)
  case atStart => exact ⟨0, Nat.zero_le _, rfl, Below.refl _ _, fun j hj => absurd hj (by omega)⟩
  case round =>
    obtain ⟨k, hk, rfl, hbk, hbad⟩ := hrel
    have HB : Hid (Below W.heap.size W wr) := hbk
    have HBad : Hid (∀ j, j < k → badI g l cyc j = false) := hbad
    clear hbk hbad
    by_cases hlt : k < l.length
    · have k1 : (k : Int) < (l.length : Int) := by omega
      have k2 : k < 1000 := by have := HN.out; omega
      obtain ⟨m, hm⟩ : ∃ m, l[k]? = some m := ⟨_, List.getElem?_eq_getElem hlt⟩
      have HM : Hid (l[k]? = some m) := hm
      obtain ⟨sa', cap', hsl, -, hcc⟩ := HLc.out W (Below.refl _ _)
      cases hsl
      obtain ⟨gb, o, rfl, hc0⟩ := hcc (fun h => by rw [h] at hm; simp at hm)
      have HC : Hid (∀ V, Below W.heap.size W V → MksAt V gb o l) := fun V hV i m hm j u hu => cell_below hV (hc0 i m hm j u hu)
      clear hcc hc0 hm
      have c0 := HC.out wr HB.out k m HM.out 0 _ rfl
      have c2 := HC.out wr HB.out k m HM.out 2 _ rfl
      have p1 := HGc.out wr HB.out 1 _ rfl
      simp only [Nat.add_zero] at c0
      have HNext : Hid (badI g l cyc k = false → ∀ j, j < k + 1 → badI g l cyc j = false) := fun h j hj => by
        rcases Nat.lt_or_ge j k with h1 | h1
        · exact HBad.out j h1
        · rw [show j = k by omega]; exact h
      by_cases g1 : m.cyc = cyc
      · by_cases g2 : m.pt = g.to
        · have HI : Hid (badI g l cyc k = !(WG.mk g (lat g.fr (l.take k))).bears m.tick) := badI_in HM.out g1 g2
          have t0 := (HT.out m (List.mem_of_getElem? HM.out)).1
          have t1 := (HT.out m (List.mem_of_getElem? HM.out)).2
          have k3 : -9 ≤ (k : Int) - 1 := by omega
          go_wp2_with fail
          go_quiet (fail)
          go_upto_region 5 with fail
          go_cut [8] (fun j wx => j = .int .i64 ((k : Int) - 1) ∧ Below W.heap.size W wx)
          case first =>
            go_wp2_with fail
            go_meet
            case rel => exact ⟨rfl, below_drewN HB.out _⟩
          clear HB c0 c2 p1
          obtain ⟨rfl, hbc⟩ := hcut
          rename World => W2
          have HB2 : Hid (Below W.heap.size W W2) := hbc
          clear hbc
          go_wp2_with fail
          go_loopw [8] (fun j wx => ∃ kk : Nat, kk ≤ k ∧ j = .int .i64 ((kk : Int) - 1) ∧ Below W.heap.size W wx ∧ ∀ jj m, kk ≤ jj → jj < k → l[jj]? = some m → m.pt ≠ g.fr) (fun j _ => (intOf j + 1).toNat)
          case atStart => exact ⟨k, Nat.le_refl _, rfl, HB2.out, fun jj m h1 h2 => absurd h2 (by omega)⟩
          case round =>
            clear HB2
            obtain ⟨kk, hkk, rfl, hbx, hno⟩ := hrel
            rename World => W3
            have HB3 : Hid (Below W.heap.size W W3) := hbx
            have HNo : Hid (∀ jj m, kk ≤ jj → jj < k → l[jj]? = some m → m.pt ≠ g.fr) := hno
            clear hbx hno
            match kk, hkk, HNo with
            | 0, hkk, HNo =>
              have HE : Hid (gapBad g l cyc = true) := gapBad_of hlt (by rw [HI.out, lat_none (by omega) HNo.out, bears_none]; rfl)
              rw [show (((0 : Nat) : Int) - 1) = -1 from rfl]
              go_wp2_with fail
              go_quiet (fail)
              go_wp2
              go_ret
              exact ⟨by rw [HE.out]; rfl, HBW.out.trans ((below_drewN HB3.out _).mono HBW.out.size)⟩
            | n + 1, hkk, HNo =>
              rw [show (((n + 1 : Nat) : Int) - 1) = (n : Int) by omega]
              obtain ⟨m2, hm2⟩ : ∃ m, l[n]? = some m := ⟨_, List.getElem?_eq_getElem (by omega)⟩
              have HM2 : Hid (l[n]? = some m2) := hm2
              have e0 := HC.out W3 HB3.out n m2 hm2 0 _ rfl
              have e1 := HC.out W3 HB3.out n m2 hm2 1 _ rfl
              have c1 := HC.out W3 HB3.out k m HM.out 1 _ rfl
              have u0 := (HT.out m2 (List.mem_of_getElem? hm2)).1
              have u1 := (HT.out m2 (List.mem_of_getElem? hm2)).2
              have p0 := HGc.out W3 HB3.out 0 _ rfl
              have p2 := HGc.out W3 HB3.out 2 _ rfl
              have p3 := HGc.out W3 HB3.out 3 _ rfl
              simp only [Nat.add_zero] at e0
              have n1 : n < l.length := by omega
              have n2 : (n : Int) < (l.length : Int) := by omega
              have n3 : n < 1000 := by omega
              clear hm2
              by_cases q0 : m2.pt = g.fr
              · have HLat : Hid (badI g l cyc k = !(decide (g.mn ≤ m.tick - m2.tick) && decide (m.tick - m2.tick ≤ g.mx))) := by
                  show _ = _
                  rw [HI.out, lat_here (by omega) (by omega) HNo.out HM2.out q0, bears_some u0 rfl]
                rw [← q0] at p0
                clear q0
                go_wp2_with fail
                go_quiet (fail)
                go_wp2_with fail
                go_quiet (fail)
                by_cases d1 : m.tick - m2.tick < g.mn
                · have HE : Hid (gapBad g l cyc = true) := gapBad_of hlt (by rw [HLat.out, decide_eq_false (p := g.mn ≤ _) (by omega)]; rfl)
                  go_wp2
                  go_ret
                  exact ⟨by rw [HE.out]; rfl, HBW.out.trans ((below_drewN HB3.out _).mono HBW.out.size)⟩
                · by_cases d2 : g.mx < m.tick - m2.tick
                  · have HE : Hid (gapBad g l cyc = true) := gapBad_of hlt (by rw [HLat.out, decide_eq_false (p := _ ≤ g.mx) (by omega), Bool.and_false]; rfl)
                    go_wp2
                    go_ret
                    exact ⟨by rw [HE.out]; rfl, HBW.out.trans ((below_drewN HB3.out _).mono HBW.out.size)⟩
                  · have HF : Hid (badI g l cyc k = false) := by show _ = _; rw [HLat.out, decide_eq_true (p := g.mn ≤ _) (by omega), decide_eq_true (p := _ ≤ g.mx) (by omega)]; rfl
                    go_wp2_with fail
                    go_roundw
                    case rel => exact ⟨k + 1, by omega, by go_num, below_drewN HB3.out _, HNext.out HF.out⟩
                    case measure => simp [intOf]; omega
              · go_wp2_with fail
                go_quiet (fail)
                go_wp2_with fail
                go_roundw
                case rel =>
                  refine ⟨n, by omega, by go_num, below_drewN HB3.out _, fun jj y h1 h2 h3 => ?_⟩
                  rcases Nat.lt_or_ge n jj with h4 | h4
                  · exact HNo.out jj y h4 h2 h3
                  · obtain rfl : jj = n := by omega
                    rw [HM2.out] at h3
                    cases h3
                    exact q0
                case measure => simp [intOf]
        · have HF : Hid (badI g l cyc k = false) := badI_pt HM.out (Or.inr g2)
          go_wp2_with fail
          go_quiet (fail)
          go_wp2_with fail
          go_roundw
          case rel => exact ⟨k + 1, by omega, by go_num, below_drewN HB.out _, HNext.out HF.out⟩
          case measure => simp [intOf]; omega
      · have HF : Hid (badI g l cyc k = false) := badI_pt HM.out (Or.inl g1)
        go_wp2_with fail
        go_quiet (fail)
        go_wp2_with fail
        go_roundw
        case rel => exact ⟨k + 1, by omega, by go_num, below_drewN HB.out _, HNext.out HF.out⟩
        case measure => simp [intOf]; omega
    · have k1 : ¬ (k : Int) < (l.length : Int) := by omega
      have HE : Hid (gapBad g l cyc = false) := gapBad_no (fun j hj => HBad.out j (by omega))
      go_wp2
      go_ret
      exact ⟨by rw [HE.out]; rfl, HBW.out.trans (HB.out.mono HBW.out.size)⟩
end Go.Proofs.YtpaolneaomeoiacDoor
