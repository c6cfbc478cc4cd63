/-
  nightwatchlaw3.KeeperStops by a contract: it answers true. Condition: the sentinels lie in memory.
-/
import Derived.Test.YtkphpgdgbnmnjacGreatDoorB02S
import Derived.Test.YtkphpgdgbnmnjacGreatDoorB00C
import Derived.Test.YtkphpgdgbnmnjacGreatDoorB01C
import Derived.Test.YtkphpgdgbnmnjacGreatDoorB02C
import Derived.Test.YtkphpgdgbnmnjacGreatDoorB03C
import Derived.Test.YtkphpgdgbnmnjacGreatDoorB04C
import Derived.Test.YtkphpgdgbnmnjacGreatDoorB05C
import Derived.Test.YtkphpgdgbnmnjacGreatDoorB06C
import Derived.Test.YtkphpgdgbnmnjacGreatDoorB07C
import Derived.Test.YtkphpgdgbnmnjacGreatDoorB08C
import Derived.Test.YtkphpgdgbnmnjacGreatDoorB09C
import Derived.Test.YtkphpgdgbnmnjacGreatDoorB10C
import Derived.Test.YtkphpgdgbnmnjacGreatDoorB11C
import Derived.Test.YtkphpgdgbnmnjacGreatDoorB12C
import Derived.Test.YtkphpgdgbnmnjacGreatDoorB13C
import Derived.Test.YtkphpgdgbnmnjacGreatDoorB14C
import Derived.Test.YtkphpgdgbnmnjacGreatDoorB15C
import Derived.Test.YtkphpgdgbnmnjacGreatDoorB16C
import Derived.Test.YtkphpgdgbnmnjacGreatDoorB17C
import Derived.Test.YtkphpgdgbnmnjacGreatDoorB18C
import Derived.Test.YtkphpgdgbnmnjacGreatDoorB19C
import Derived.Test.YtkphpgdgbnmnjacGreatDoorB20C
import Derived.Test.YtkphpgdgbnmnjacGreatDoorB31C
import Derived.Test.YtkphpgdgbnmnjacGreatDoorB22C
import Derived.Test.YtkphpgdgbnmnjacGreatDoorB32C
import Derived.Test.YtkphpgdgbnmnjacGreatDoorB33C
import Derived.Test.YtkphpgdgbnmnjacGreatDoorB21C
import Derived.Test.YtkphpgdgbnmnjacGreatDoorB23C
import Derived.Test.YtkphpgdgbnmnjacGreatDoorB24C
import Derived.Test.YtkphpgdgbnmnjacGreatDoorB25C
import Derived.Test.YtkphpgdgbnmnjacGreatDoorB26C
import Derived.Test.YtkphpgdgbnmnjacGreatDoorB27C
import Derived.Test.YtkphpgdgbnmnjacGreatDoorB28C
import Derived.Test.YtkphpgdgbnmnjacGreatDoorB29C
import Derived.Test.YtkphpgdgbnmnjacGreatDoorB30C
import Derived.Test.YtkphpgdgbnmnjacGreatDoorB34C
import Derived.Test.YtkphpgdgbnmnjacGreatDoorB35C
import Derived.Laws.StructEq
namespace Go.Proofs.YtkphpgdgbnmnjacGreatDoor
open Go.RowKit Go.Extern.Stop Go.Stop Go.Extern

set_option maxRecDepth 100000 in
set_option maxHeartbeats 8000000 in
theorem ks_in (A : Nat → Addr) (cl op cy dl tol : Int) (w : World) (hsv : Senv A w) :
    Calls Tryz.prog 4 #[.int .i64 cl, .int .i64 op, .int .i64 cy, .int .i64 dl, .int .i64 tol] w fun v w' => v = .returned (.bool true) ∧ Below w.heap.size w w' := by
  have hs := hsv.ten
  have HSe : Hid (∀ V, Below w.heap.size w V → Senv A V) := fun V hV => hsv.below hV
  have HWa : Hid _ := watched_at A w hs
  clear hsv hs
  go_enter Tryz.func4, Tryz.ntmps4
  go_wp2_with fail
  refine Calls.mono HWa.out ?_
  rintro u w1 ⟨rfl, hb1⟩
  have HB1 : Hid (Below w.heap.size w w1) := hb1
  clear hb1 HWa
  go_upto_region 4 with fail
  obtain ⟨W, hW, hbW, hEW, hYW⟩ := ks_mem w1 cl op cy dl tol
  rw [hW]
  clear hW
  have HBW : Hid (Below w.heap.size w W) := HB1.out.trans (hbW.mono HB1.out.size)
  have HE : Hid (EntsAt W (.slice (some ⟨w1.heap.size + 1 + 1, 0, none⟩) 1 1) [entS tol]) := hEW
  have HY : Hid (∀ V, Below W.heap.size W V → _) := hYW
  clear hbW hEW hYW HB1
  have HSm : Hid (SmallC (cfgS cl op cy dl tol)) := smallS _ _ _ _ _
  obtain ⟨c, hc⟩ : ∃ c, c = cfgS cl op cy dl tol := ⟨_, rfl⟩
  have HC : Hid (c = cfgS cl op cy dl tol) := hc
  have HCf : Hid (Calls Tryz.prog 10 #[.agg #[.int .i64 cl, .int .i64 op, .int .i64 cy, .int .i64 dl, .slice (some ⟨w1.heap.size + 1 + 1, 0, none⟩) 1 1]] W fun v w' => v = .returned (.agg #[.int .i64 ((cfgErr c).1 : Int), .int .i64 (cfgErr c).2]) ∧ Below W.heap.size W w') := by
    rw [hc]
    exact cfault_at (cfgS cl op cy dl tol) (some ⟨w1.heap.size + 1 + 1, 0, none⟩) 1 W HE.out HSm.out
  clear hc
  generalize w1.heap.size + 1 + 1 = ge at HE HY HCf ⊢
  generalize w1.heap.size = gc at HY ⊢
  obtain ⟨y0, y1, y2, y3, y4⟩ := HY.out W (Below.refl _ _)
  go_wp2_with fail
  clear y0 y1 y2 y3 y4
  refine Calls.mono HCf.out ?_
  rintro u w3 ⟨rfl, hb3⟩
  have HB3 : Hid (Below w.heap.size w w3) := HBW.out.trans (hb3.mono HBW.out.size)
  have HE3 : Hid (EntsAt w3 (.slice (some ⟨ge, 0, none⟩) 1 1) [entS tol]) := HE.out.below hb3
  have HY3 : Hid _ := HY.out w3 hb3
  clear hb3 HBW HE HY HCf
  obtain ⟨code, hcode⟩ : ∃ n, n = (cfgErr c).1 := ⟨_, rfl⟩
  rw [← hcode]
  have hfl := fld_fault (code : Int) (cfgErr c).2 w3
  have HCo : Hid (code = (cfgErr c).1) := hcode
  clear hcode
  by_cases hc0 : code = 0
  · subst hc0
    simp only [Int.ofNat_zero] at hfl ⊢
    by_cases h1 : 60 < cl
    · go_wp2
      go_ret
      exact ⟨rfl, HB3.out⟩
    by_cases h2 : 60 < op
    · go_wp2
      go_ret
      exact ⟨rfl, HB3.out⟩
    by_cases h3 : 10 < tol
    · go_wp2
      go_ret
      exact ⟨rfl, HB3.out⟩
    have h0 : (cfgErr c).1 = 0 := HCo.out.symm
    have HR : Hid (KRt c) := krt_of h0
    have hcl := HR.out.cl
    have hop := HR.out.op
    have hcy := HR.out.cy
    have hde := HR.out.de
    have hle := HR.out.le
    have hto := (HR.out.each (entS tol) (by rw [HC.out]; exact List.mem_singleton.2 rfl)).2.2.1
    have HFr : Hid (Calls Tryz.prog 13 #[.agg #[.int .i64 cl, .int .i64 op, .int .i64 cy, .int .i64 dl, .slice (some ⟨ge, 0, none⟩) 1 1]] w3 fun u w' => FrOut w3 c u w') := by
      have e := HC.out
      rw [e] at h0 ⊢
      exact fresh_at A (cfgS cl op cy dl tol) (some ⟨ge, 0, none⟩) 1 w3 (HSe.out w3 HB3.out).ten h0 HE3.out HSm.out
    rw [HC.out] at hcl hop hcy hde hle
    have hcl : 0 ≤ cl ∧ cl ≤ 1000 := hcl
    have hop : 1 ≤ op ∧ op ≤ 1000 := hop
    have hcy : 1 ≤ cy ∧ cy ≤ 100 := hcy
    have hde : 0 ≤ dl ∧ dl ≤ 20 := hde
    have hle : cy ≤ op := hle
    have hto : 0 ≤ tol := hto
    obtain ⟨cl, rfl⟩ : ∃ n : Nat, cl = (n : Int) := ⟨cl.toNat, by omega⟩
    obtain ⟨op, rfl⟩ : ∃ n : Nat, op = (n : Int) := ⟨op.toNat, by omega⟩
    obtain ⟨cy, rfl⟩ : ∃ n : Nat, cy = (n : Int) := ⟨cy.toNat, by omega⟩
    obtain ⟨dl, rfl⟩ : ∃ n : Nat, dl = (n : Int) := ⟨dl.toNat, by omega⟩
    obtain ⟨T, rfl⟩ : ∃ n : Nat, tol = (n : Int) := ⟨tol.toNat, by omega⟩
    have HCv : Hid (c.closed.toNat = cl ∧ c.opn.toNat = op ∧ c.cycle.toNat = cy ∧ c.delay.toNat = dl ∧ c.ents = [entS (T : Int)]) := by show _ ∧ _; rw [HC.out]; exact ⟨rfl, rfl, rfl, rfl, rfl⟩
    have HB : Hid (cl ≤ 60 ∧ op ≤ 60 ∧ 1 ≤ cy ∧ cy ≤ op ∧ dl ≤ 20 ∧ T ≤ 10) := ⟨by omega, by omega, by omega, by omega, by omega, by omega⟩
    clear h0 HCo HSm HC hde hle hto hcl hop hcy
    clear hcl hop hcy hde hle hto
    obtain ⟨y0, y1, y2, y3, y4⟩ := HY3.out
    go_wp2_with fail
    clear y0 y1 y2 y3 y4 hfl
    refine Calls.mono HFr.out ?_
    rintro u w4 ⟨kb, bc, F, rfl, hat, hb4, hF4⟩
    have HSw : Hid (SenK A w3) := (HSe.out w3 HB3.out).ten
    obtain ⟨n0, n1, n2, n3, n4⟩ := ks_new (T := T) HCv.out.2.2.2.2
    have HBg : Hid _ := ke_begin 0 hat HSw.out HR.out
    obtain ⟨K0, hK0⟩ : ∃ K, K = ((KSt.new c (CSt.new 4096)).begin 0).1 := ⟨_, rfl⟩
    have hfb := (kfit_new HR.out).begin 0
    rw [← hK0] at HBg n1 n2 n3 n4 hfb
    rw [n0, show errVal A 0 = .nilIface from rfl] at HBg
    have HM0 : Hid (∀ wr', KePost F w3 w4 c kb bc K0 wr' → KsM (fun _ => False) w3 wr' c kb bc K0 ∧ StopK c T K0 ∧ Calm K0 (8 * K0.d.now)) := fun wr' hp => by
      refine ⟨⟨(ks_post (G := fun _ => False) (fun k hk => ⟨(hF4 k hk).1, (hF4 k hk).2, id⟩) hb4.size (fun _ h => h.elim) hp).1, ⟨[], n3, Nat.zero_le _⟩, by rw [n4]; exact hfb⟩, n1, n2.mono (Nat.zero_le _)⟩
    have HN0 : Hid (K0.d.now = 0) := n4
    clear hat hb4 hF4 HFr HY3 HE3 n0 n1 n2 n3 n4 hfb hK0 h1 h2 h3
    go_wp2_with fail
    refine Calls.mono HBg.out ?_
    rintro u w5 ⟨rfl, hp5⟩
    have HI5 : Hid _ := HM0.out w5 hp5
    clear hp5 HM0 HBg
    have hT10 : T ≤ 10 := HB.out.2.2.2.2.2
    obtain ⟨E, hE⟩ : ∃ n, n = (T + 2) * cy := ⟨_, rfl⟩
    obtain ⟨P, hP⟩ : ∃ n, n = dl * cy := ⟨_, rfl⟩
    have hE1 : E ≤ 720 := by have := HB.out; rw [hE]; exact Nat.mul_le_mul (show T + 2 ≤ 12 by omega) (show cy ≤ 60 by omega)
    have hP1 : P ≤ 1200 := by have := HB.out; rw [hP]; exact Nat.mul_le_mul (show dl ≤ 20 by omega) (show cy ≤ 60 by omega)
    have hw1 : IntKind.i64.wrap (((T : Int) + 2) * (cy : Int)) = (E : Int) := by
      have e : ((T : Int) + 2) * (cy : Int) = (E : Int) := by rw [hE]; push_cast; rfl
      rw [e, IntKind.wrap_i64]; omega
    have hw2 : IntKind.i64.wrap ((dl : Int) * (cy : Int)) = (P : Int) := by
      have e : (dl : Int) * (cy : Int) = (P : Int) := by rw [hP]; push_cast; rfl
      rw [e, IntKind.wrap_i64]; omega
    have HEP : Hid ((T + 2) * c.cycle.toNat = E ∧ (T + 2 + c.delay.toNat) * c.cycle.toNat = E + P) := by
      show _ ∧ _
      rw [HCv.out.2.2.1, HCv.out.2.2.2.1, hE, hP, ← Nat.add_mul]
      exact ⟨rfl, rfl⟩
    clear hE hP
    go_upto_region 10 with fail
    go_cut [17] (fun s wx => s = .int .i64 ((E : Int) + (P : Int)) ∧ wx = w5)
    case first =>
      go_wp2_with fail
      go_meet
      case rel => exact ⟨rfl, rfl⟩
    obtain ⟨rfl, rfl⟩ := hcut
    rename World => w5
    clear hw1 hw2 hT10
    go_wp2_with fail
    go_loopw [] (fun wr => ∃ K : KSt, K.d.now ≤ E ∧ Hid (KsM (fun _ => False) w3 wr c kb bc K ∧ StopK c T K ∧ Calm K (8 * K.d.now))) (fun wr => E - nowAt wr kb)
    case atStart => exact ⟨K0, by rw [HN0.out]; exact Nat.zero_le _, HI5.out⟩
    case round =>
      clear HI5 HN0
      obtain ⟨K, hKn, HI⟩ := hrel
      obtain ⟨F, hat, hF⟩ := HI.out.1.at'
      have HNw : Hid _ := kat_now hat
      have hna := hat.nowAt
      obtain ⟨nw, hnw⟩ : ∃ n, n = K.d.now := ⟨_, rfl⟩
      have HNn : Hid (nw = K.d.now) := hnw
      have HFt : Hid (KFit c K 1 (144 * K.d.now)) := HI.out.1.fit
      have HNa : Hid (nowAt wr kb = nw) := hna.trans hnw.symm
      have HLg : Hid _ := ke_log hat HFt.out.llen
      rw [← hnw] at HNw hKn
      clear hna hnw
      by_cases hlt : nw < E
      · have g1 : (nw : Int) < (E : Int) := by omega
        have hL : K.L = [] := HI.out.2.1.L0 HR.out (by rw [HEP.out.1, ← HNn.out]; exact hlt)
        rw [hL] at HLg
        have HTk : Hid (∀ w6 wr', Below wr.heap.size wr w6 → KePost F w3 w6 c kb bc (K.tick c).1 wr' → _) := fun w6 wr' hb hp => ks_tick HI.out.1 HI.out.2.1 HI.out.2.2 HR.out HCv.out.2.2.2.2 (onlyS T) (by rw [← HNn.out]; omega) (HI.out.2.1.fed HR.out (by rw [HEP.out.2, ← HNn.out]; omega)) (ks_post (fun k hk => ⟨(hF k hk).1, Nat.lt_of_lt_of_le (hF k hk).2.1 hb.size, (hF k hk).2.2⟩) (Nat.le_trans hat.bel.size hb.size) (fun _ h => h.elim) hp).1
        have HX : Hid (∀ w6, Below wr.heap.size wr w6 → _) := fun w6 hb => ke_tick (hat.below hb) HSw.out HR.out HFt.out (by rw [← HNn.out]; omega)
        clear hat hF hL
        go_wp2_with fail
        refine Calls.mono HNw.out ?_
        rintro u w6 ⟨rfl, rfl⟩
        go_wp2_with fail
        refine Calls.mono HLg.out ?_
        rintro u w6 ⟨lv, rfl, hrec, hb6⟩
        obtain ⟨sa6, ca6, rfl⟩ := recs_nil hrec
        have HX6 : Hid _ := HX.out w6 hb6
        have HT6 : Hid _ := HTk.out w6
        have HB6 : Hid _ := hb6
        clear hrec hb6 HX HTk HLg HNw
        go_wp2_with fail
        refine Calls.mono HX6.out ?_
        rintro u w7 ⟨rfl, hp7⟩
        obtain ⟨t1, t2, t3, t4, t5⟩ := HT6.out w7 HB6.out hp7
        rw [t1, show errVal A 0 = .nilIface from rfl]
        have HI7 : Hid (KsM (fun _ => False) w3 w7 c kb bc (K.tick c).1 ∧ StopK c T (K.tick c).1 ∧ Calm (K.tick c).1 (8 * (K.tick c).1.d.now)) := ⟨t3, t4, t5⟩
        have HN7 : Hid ((K.tick c).1.d.now = nw + 1 ∧ nowAt w7 kb = nw + 1) := by
          obtain ⟨F7, h7, -⟩ := t3.at'
          have e := h7.nowAt
          rw [t2, ← HNn.out] at e
          exact ⟨by rw [t2, HNn.out], e⟩
        clear t1 t2 t3 t4 t5 hp7 HX6 HT6 HB6
        go_wp2_with fail
        go_roundw
        case rel => exact ⟨(K.tick c).1, by rw [HN7.out.1]; omega, HI7.out⟩
        case measure => rw [HN7.out.2, HNa.out]; omega
      · have g1 : ¬ (nw : Int) < (E : Int) := by omega
        have hnE : nw = E := by omega
        have hL : K.L = [⟨1, 0, 1, E⟩] := by rw [HI.out.2.1.L1 HR.out (by rw [HEP.out.1, ← HNn.out]; omega), HEP.out.1]
        rw [hL] at HLg
        clear hat hF hL
        go_wp2_with fail
        refine Calls.mono HNw.out ?_
        rintro u wr ⟨rfl, rfl⟩
        go_wp2_with fail
        refine Calls.mono HLg.out ?_
        rintro u w6 ⟨lv, rfl, hrec, hb6⟩
        obtain ⟨g, cap, rfl, hg, hrow, hlc, -⟩ : ∃ g cap, lv = .slice (some ⟨g, 0, .none⟩) 1 cap ∧ wr.heap.size ≤ g ∧ SlRow w6 g cap [⟨1, 0, 1, E⟩] ∧ 1 ≤ cap ∧ cap ≤ maxLen := by
          rcases hrec.row_form with ⟨-, e⟩ | h
          · cases e
          · exact h
        have HI6 : Hid (KsM (fun k => k = g) w3 w6 c kb bc K ∧ StopK c T K ∧ Calm K (8 * K.d.now)) := ⟨HI.out.1.apart hg hb6, HI.out.2⟩
        have HRow : Hid (SlRow w6 g cap [⟨1, 0, 1, E⟩]) := hrow
        have HRc : Hid (∀ V, SlRow V g cap [⟨1, 0, 1, E⟩] → V.cell? ⟨g, 0, none⟩ = some (.int .i64 1) ∧ V.cell? ⟨g, 1, none⟩ = some (.int .i64 0) ∧ V.cell? ⟨g, 2, none⟩ = some (.int .i64 1) ∧ V.cell? ⟨g, 3, none⟩ = some (.int .i64 (E : Int))) := fun V h => (h.cells 0 (by simp)).1
        obtain ⟨r0, r1, r2, r3⟩ := HRc.out w6 hrow
        clear hrow hrec hlc hb6 HLg HNw hg
        go_upto_region 15 with fail
        go_cut [102] (fun b wx => b = .bool false ∧ wx = w6)
        case first =>
          go_wp2_with fail
          go_meet
          case rel => exact ⟨rfl, rfl⟩
        obtain ⟨rfl, rfl⟩ := hcut
        rename World => w6
        clear r0 r1 r2 r3
        go_wp2_with fail
        go_loopw [] (fun wr => ∃ K : KSt, E ≤ K.d.now ∧ K.d.now ≤ E + P ∧ Hid (KsM (fun k => k = g) w3 wr c kb bc K ∧ StopK c T K ∧ Calm K (8 * K.d.now)) ∧ Hid (SlRow wr g cap [⟨1, 0, 1, E⟩])) (fun wr => E + P - nowAt wr kb)
        case atStart => exact ⟨K, by rw [← HNn.out]; omega, by rw [← HNn.out]; omega, HI6.out, HRow.out⟩
        case round =>
          clear HI6 HRow HI HNn HNa HFt hKn g1 hnE
          obtain ⟨K, hK1, hK2, HI, HRo⟩ := hrel
          obtain ⟨F, hat, hF⟩ := HI.out.1.at'
          have HNw : Hid _ := kat_now hat
          have HTo : Hid _ := kat_total hat
          have HKi : Hid _ := kat_kicks hat
          have hna := hat.nowAt
          obtain ⟨nw, hnw⟩ : ∃ n, n = K.d.now := ⟨_, rfl⟩
          have HNn : Hid (nw = K.d.now) := hnw
          have HFt : Hid (KFit c K 1 (144 * K.d.now)) := HI.out.1.fit
          have HNa : Hid (nowAt wr kb = nw) := hna.trans hnw.symm
          rw [← hnw] at HNw hK1 hK2
          clear hna hnw
          by_cases hlt : nw < E + P
          · have g1 : (nw : Int) < (E : Int) + (P : Int) := by omega
            have ht2 : K.t.st = 2 := HI.out.2.1.t2 HR.out (by rw [HEP.out.1, ← HNn.out]; exact hK1) (by rw [HEP.out.2, ← HNn.out]; exact hlt)
            rw [ht2, show totB 2 = ⟨#[101, 120, 112, 105, 114, 101, 100]⟩ from rfl] at HTo
            have HTk : Hid (∀ wr', KePost F w3 wr c kb bc (K.tick c).1 wr' → _ ∧ SlRow wr' g cap [⟨1, 0, 1, E⟩]) := fun wr' hp => ⟨ks_tick HI.out.1 HI.out.2.1 HI.out.2.2 HR.out HCv.out.2.2.2.2 (onlyS T) (by rw [← HNn.out]; omega) (HI.out.2.1.fed HR.out (by rw [HEP.out.2, ← HNn.out]; exact hlt)) (ks_post hF hat.bel.size (fun k e => by rw [e]; exact HRo.out.lt) hp).1, HRo.out.same ((ks_post hF hat.bel.size (fun k e => by rw [e]; exact HRo.out.lt) hp).2 g rfl)⟩
            have HX : Hid _ := ke_tick hat HSw.out HR.out HFt.out (by rw [← HNn.out]; omega)
            clear hat hF ht2 HKi
            go_wp2_with fail
            refine Calls.mono HNw.out ?_
            rintro u w6 ⟨rfl, rfl⟩
            go_wp2_with fail
            refine Calls.mono HTo.out ?_
            rintro u w6 ⟨rfl, rfl⟩
            go_wp2_with fail
            refine Calls.mono HX.out ?_
            rintro u w7 ⟨rfl, hp7⟩
            obtain ⟨⟨t1, t2, t3, t4, t5⟩, t6⟩ := HTk.out w7 hp7
            rw [t1, show errVal A 0 = .nilIface from rfl]
            have HI7 : Hid (KsM (fun k => k = g) w3 w7 c kb bc (K.tick c).1 ∧ StopK c T (K.tick c).1 ∧ Calm (K.tick c).1 (8 * (K.tick c).1.d.now)) := ⟨t3, t4, t5⟩
            have HR7 : Hid (SlRow w7 g cap [⟨1, 0, 1, E⟩]) := t6
            have HN7 : Hid ((K.tick c).1.d.now = nw + 1 ∧ nowAt w7 kb = nw + 1) := by
              obtain ⟨F7, h7, -⟩ := t3.at'
              have e := h7.nowAt
              rw [t2, ← HNn.out] at e
              exact ⟨by rw [t2, HNn.out], e⟩
            clear t1 t2 t3 t4 t5 t6 hp7 HX HTk HTo HNw
            go_wp2_with fail
            go_roundw
            case rel => exact ⟨(K.tick c).1, by rw [HN7.out.1]; omega, by rw [HN7.out.1]; omega, HI7.out, HR7.out⟩
            case measure => rw [HN7.out.2, HNa.out]; omega
          · have g1 : ¬ (nw : Int) < (E : Int) + (P : Int) := by omega
            have hnE : nw = E + P := by omega
            have ht3 : K.t.st = 3 := HI.out.2.1.t3 HR.out (by rw [HEP.out.2, ← HNn.out]; omega)
            rw [ht3, show totB 3 = ⟨#[115, 116, 111, 112, 112, 101, 100]⟩ from rfl] at HTo
            obtain ⟨kk, hkk⟩ : ∃ n, n = (qk c.closed.toNat c.cycle.toNat (T + 1 + c.delay.toNat)).1 := ⟨_, rfl⟩
            have HKk : Hid (∀ K' : KSt, StopK c T K' → E + P ≤ K'.d.now → K'.d.kicks = kk ∧ K'.d.begun < E + P ∧ E + P - K'.d.begun ≤ cl + cy) := fun K' h hn => by
              have := h.end3 HR.out (by rw [HEP.out.2]; exact hn)
              rw [HEP.out.2, ← hkk, HCv.out.1, HCv.out.2.2.1] at this
              exact this
            have hk1 := (HKk.out K HI.out.2.1 (by rw [← HNn.out]; omega)).1
            rw [hk1] at HKi
            have HA : Hid (KsM (fun k => k = g) w3 wr c kb bc K ∧ StopK c T K ∧ Calm K (8 * K.d.now) ∧ K.d.now = E + P + 0 ∧ K.d.now - K.d.begun ≤ cl + op) := by
              refine ⟨HI.out.1, HI.out.2.1, HI.out.2.2, by rw [← HNn.out]; omega, ?_⟩
              have h1 := (HKk.out K HI.out.2.1 (by rw [← HNn.out]; omega)).2.2
              have h2 := HB.out.2.2.2.1
              have h3 := HNn.out
              omega
            clear hat hF ht3 hkk hk1
            go_wp2_with fail
            refine Calls.mono HNw.out ?_
            rintro u wr ⟨rfl, rfl⟩
            go_wp2_with fail
            refine Calls.mono HKi.out ?_
            rintro u wr ⟨rfl, rfl⟩
            go_wp2_with fail
            refine Calls.mono HTo.out ?_
            rintro u wr ⟨rfl, rfl⟩
            have hcl : cl ≤ 60 := HB.out.1
            have hop : op ≤ 60 := HB.out.2.1
            go_upto_region 23 with fail
            go_cut [20] (fun i wx => i = .int .i64 0 ∧ wx = wr)
            case first =>
              go_wp2_with fail
              go_meet
              case rel => exact ⟨rfl, rfl⟩
            obtain ⟨rfl, rfl⟩ := hcut
            rename World => wr
            go_wp2_with fail
            go_loopw [20] (fun i wr => ∃ (n : Nat) (K : KSt), i = .int .i64 n ∧ n ≤ cl + op ∧ Hid (K.d.kicks = kk ∧ K.L = [⟨1, 0, 1, E⟩] ∧ K.d.now ≤ E + P + n) ∧ Hid (SlRow wr g cap [⟨1, 0, 1, E⟩]) ∧ (Hid (KsM (fun k => k = g) w3 wr c kb bc K ∧ StopK c T K ∧ Calm K (8 * K.d.now) ∧ K.d.now = E + P + n ∧ K.d.now - K.d.begun ≤ cl + op) ∨ Hid (KsR (fun k => k = g) w3 wr c kb bc K))) (fun i _ => cl + op + 1 - (intOf i).toNat)
            case atStart => exact ⟨0, K, rfl, Nat.zero_le _, ⟨(HKk.out K HA.out.2.1 (by rw [HA.out.2.2.2.1]; omega)).1, by rw [HA.out.2.1.L1 HR.out (by rw [HEP.out.1, HA.out.2.2.2.1]; omega), HEP.out.1], by rw [HA.out.2.2.2.1]; exact Nat.le_refl _⟩, HRo.out, Or.inl HA.out⟩
            case round =>
              clear HA HRo HI HNn HNa HFt hK1 hK2 g1 hnE
              obtain ⟨n, K, rfl, hn, HKL, HRo, hAB⟩ := hrel
              rcases hAB with HA | HA
              · obtain ⟨F, hat, hF⟩ := HA.out.1.at'
                have hbg := (HKk.out K HA.out.2.1 (by rw [HA.out.2.2.2.1]; omega)).2.1
                have hnow := HA.out.2.2.2.1
                have hdif := HA.out.2.2.2.2
                have hn1 : n < cl + op := by omega
                have g1 : (n : Int) ≤ (cl : Int) + (op : Int) := by omega
                have HSt : Hid _ := kat_state hat
                have hon : K.on = 0 := KSt.on_zero.2 ⟨HA.out.2.2.1.off, HA.out.2.1.res⟩
                rw [hon, show stateB 0 = ⟨#[111, 110]⟩ from rfl] at HSt
                have HX : Hid _ := ke_tick hat HSw.out HR.out HA.out.1.fit (by omega)
                have HTk : Hid (∀ wr', KePost F w3 wr c kb bc (K.tick c).1 wr' → SlRow wr' g cap [⟨1, 0, 1, E⟩] ∧ ((K.tick c).1.d.kicks = kk ∧ (K.tick c).1.L = [⟨1, 0, 1, E⟩] ∧ (K.tick c).1.d.now ≤ E + P + (n + 1)) ∧ ((KsM (fun k => k = g) w3 wr' c kb bc (K.tick c).1 ∧ StopK c T (K.tick c).1 ∧ Calm (K.tick c).1 (8 * (K.tick c).1.d.now) ∧ (K.tick c).1.d.now = E + P + (n + 1) ∧ (K.tick c).1.d.now - (K.tick c).1.d.begun ≤ cl + op) ∨ KsR (fun k => k = g) w3 wr' c kb bc (K.tick c).1)) := fun wr' hp => by
                  obtain ⟨p1, p2⟩ := ks_post hF hat.bel.size (fun k e => by rw [e]; exact HRo.out.lt) hp
                  refine ⟨HRo.out.same (p2 g rfl), ?_⟩
                  by_cases late : K.d.closed + K.d.opn < K.d.now + 1 - K.d.begun
                  · obtain ⟨q1, q2, q3, q4⟩ := ks_lateR HA.out.1 HA.out.2.1 HA.out.2.2.1 (by omega) late p1
                    exact ⟨⟨q2.trans HKL.out.1, q3.trans HKL.out.2.1, by omega⟩, Or.inr q1⟩
                  · obtain ⟨q1, q2, q3, q4, q5⟩ := ks_tick HA.out.1 HA.out.2.1 HA.out.2.2.1 HR.out HCv.out.2.2.2.2 (onlyS T) (by omega) late p1
                    obtain ⟨k1, k2, -⟩ := HKk.out _ q4 (by omega)
                    have kb2 := (HA.out.2.1.unfed (stop_div HR.out (by rw [HEP.out.2]; omega)))
                    have kb3 := (q4.unfed (stop_div HR.out (by rw [HEP.out.2]; omega)))
                    have kb4 : (K.tick c).1.d.begun = K.d.begun := by
                      have := kb3.trans kb2.symm
                      exact (Prod.mk.inj this).2
                    have hw := HA.out.2.1.cl
                    have hw2 := HA.out.2.1.op
                    rw [HCv.out.1] at hw
                    rw [HCv.out.2.1] at hw2
                    refine ⟨⟨k1, by rw [q4.L1 HR.out (by rw [HEP.out.1]; omega), HEP.out.1], by omega⟩, Or.inl ⟨q3, q4, q5, by omega, by rw [kb4, q2]; omega⟩⟩
                clear hat hF hbg hnow hdif hon
                go_wp2_with fail
                refine Calls.mono HSt.out ?_
                rintro u w6 ⟨rfl, rfl⟩
                go_wp2_with fail
                refine Calls.mono HX.out ?_
                rintro u w7 ⟨rfl, hp7⟩
                obtain ⟨q1, q2, q3⟩ := HTk.out w7 hp7
                have HQ : Hid _ := q1
                have HQ2 : Hid _ := q2
                have HQ3 : Hid _ := q3
                clear q1 q2 q3 hp7 HX HTk HSt
                go_wp2_with fail
                go_roundw
                case rel =>
                  refine ⟨n + 1, (K.tick c).1, by go_num, by omega, HQ2.out, HQ.out, ?_⟩
                  rcases HQ3.out with h | h
                  · exact Or.inl h
                  · exact Or.inr h
                case measure => simp [intOf]; omega
              · have g1 : (n : Int) ≤ (cl : Int) + (op : Int) := by omega
                have HBl : Hid (∀ V, Below w3.heap.size w3 V → Below w.heap.size w V) := fun V hV => HB3.out.trans (hV.mono HB3.out.size)
                obtain ⟨F, hat, hF⟩ := HA.out.m.at'
                have HSt : Hid _ := kat_state hat
                rw [HA.out.on, show stateB 11 = ⟨#[114, 101, 115, 101, 116]⟩ from rfl] at HSt
                have HKi : Hid _ := kat_kicks hat
                rw [HKL.out.1] at HKi
                have HX : Hid _ := ke_tick hat HSw.out HR.out HA.out.m.fit (by have := HKL.out.2.2; omega)
                rw [HA.out.tick, show errVal A 11 = .iface 292 (.pointer (some (A 10))) from rfl] at HX
                have HTk : Hid (∀ wr', KePost F w3 wr c kb bc K wr' → KsR (fun k => k = g) w3 wr' c kb bc K ∧ SlRow wr' g cap [⟨1, 0, 1, E⟩]) := fun wr' hp => by
                  obtain ⟨p1, p2⟩ := ks_post hF hat.bel.size (fun k e => by rw [e]; exact HRo.out.lt) hp
                  exact ⟨⟨⟨p1, HA.out.m.inv, HA.out.m.fit⟩, HA.out.off, HA.out.res⟩, HRo.out.same (p2 g rfl)⟩
                clear hat hF
                go_wp2_with fail
                refine Calls.mono HSt.out ?_
                rintro u wr ⟨rfl, rfl⟩
                go_wp2_with fail
                refine Calls.mono HSt.out ?_
                rintro u wr ⟨rfl, rfl⟩
                go_wp2_with fail
                refine Calls.mono HKi.out ?_
                rintro u wr ⟨rfl, rfl⟩
                go_wp2_with fail
                refine Calls.mono HX.out ?_
                rintro u w7 ⟨rfl, hp7⟩
                have HA7 : Hid (KsR (fun k => k = g) w3 w7 c kb bc K ∧ SlRow w7 g cap [⟨1, 0, 1, E⟩]) := HTk.out w7 hp7
                clear hp7 HX HTk HKi HSt HA HRo
                go_wp2_with fail
                refine Calls.mono (coded_reset A w7 (HSe.out w7 (HBl.out w7 HA7.out.1.m.bel))) ?_
                rintro u w8 ⟨rfl, hb8⟩
                have HA8 : Hid (KsR (fun k => k = g) w3 w8 c kb bc K ∧ SlRow w8 g cap [⟨1, 0, 1, E⟩]) := ⟨HA7.out.1.below hb8, HA7.out.2.same (hb8.block g HA7.out.2.lt)⟩
                clear hb8 HA7
                obtain ⟨F, hat, hF⟩ := HA8.out.1.m.at'
                have HX : Hid _ := ke_begin 0 hat HSw.out HR.out
                rw [HA8.out.1.begin, show errVal A 11 = .iface 292 (.pointer (some (A 10))) from rfl] at HX
                have HTk : Hid (∀ wr', KePost F w3 w8 c kb bc K wr' → KsR (fun k => k = g) w3 wr' c kb bc K ∧ SlRow wr' g cap [⟨1, 0, 1, E⟩]) := fun wr' hp => by
                  obtain ⟨p1, p2⟩ := ks_post hF hat.bel.size (fun k e => by rw [e]; exact HA8.out.2.lt) hp
                  exact ⟨⟨⟨p1, HA8.out.1.m.inv, HA8.out.1.m.fit⟩, HA8.out.1.off, HA8.out.1.res⟩, HA8.out.2.same (p2 g rfl)⟩
                clear hat hF
                go_wp2_with fail
                refine Calls.mono HX.out ?_
                rintro u w9 ⟨rfl, hp9⟩
                have HA9 : Hid (KsR (fun k => k = g) w3 w9 c kb bc K ∧ SlRow w9 g cap [⟨1, 0, 1, E⟩]) := HTk.out w9 hp9
                clear hp9 HX HTk HA8
                go_wp2_with fail
                refine Calls.mono (coded_reset A w9 (HSe.out w9 (HBl.out w9 HA9.out.1.m.bel))) ?_
                rintro u wa ⟨rfl, hba⟩
                have HAa : Hid (KsR (fun k => k = g) w3 wa c kb bc K ∧ SlRow wa g cap [⟨1, 0, 1, E⟩]) := ⟨HA9.out.1.below hba, HA9.out.2.same (hba.block g HA9.out.2.lt)⟩
                clear hba HA9
                obtain ⟨F, hat, hF⟩ := HAa.out.1.m.at'
                have HX : Hid _ := ke_boot hat HSw.out HR.out HAa.out.1.m.fit
                obtain ⟨b1, b2, b3, b4, b5⟩ := HAa.out.1.boot
                obtain ⟨Kb, hKb⟩ : ∃ k, k = (K.boot c).1 := ⟨_, rfl⟩
                rw [← hKb] at HX b2 b3 b4 b5
                rw [b1, show errVal A 0 = .nilIface from rfl] at HX
                rw [HKL.out.2.1] at b5
                have HTk : Hid (∀ wr', KePost F w3 wa c kb bc Kb wr' → SlRow wr' g cap [⟨1, 0, 1, E⟩]) := fun wr' hp => HAa.out.2.same ((ks_post hF hat.bel.size (fun k e => by rw [e]; exact HAa.out.2.lt) hp).2 g rfl)
                have HKb : Hid (Kb.on = 0 ∧ Kb.t.st = 0 ∧ Kb.c.off = false ∧ Kb.L = [⟨1, 0, 1, E⟩]) := ⟨b2, b3, b4, b5⟩
                clear hat hF b1 b2 b3 b4 b5 hKb
                go_wp2_with fail
                refine Calls.mono HX.out ?_
                rintro u wb ⟨rfl, hpb⟩
                have HSt : Hid _ := kat_state hpb.1
                have HTo : Hid _ := kat_total hpb.1
                have HPo : Hid _ := power_any bc Kb.c wb hpb.1.cellsAt
                have HCa : Hid _ := ke_cause hpb.1 (by rw [HKb.out.2.2.2]; show 1 ≤ 8; decide)
                rw [HKb.out.1, show stateB 0 = ⟨#[111, 110]⟩ from rfl] at HSt
                rw [HKb.out.2.1, show totB 0 = ⟨#[111, 107]⟩ from rfl] at HTo
                rw [HKb.out.2.2.1] at HPo
                rw [HKb.out.2.2.2, show decide (0 < ([⟨1, 0, 1, E⟩] : List Rec).length) = true from rfl, show lastR [⟨1, 0, 1, E⟩] = ⟨1, 0, 1, E⟩ from rfl] at HCa
                have HRb : Hid (SlRow wb g cap [⟨1, 0, 1, E⟩] ∧ Below w3.heap.size w3 wb) := ⟨HTk.out wb hpb, hpb.1.bel⟩
                clear hpb HX HTk HAa HKb
                go_wp2_with fail
                refine Calls.mono HSt.out ?_
                rintro u wb ⟨rfl, rfl⟩
                go_wp2_with fail
                refine Calls.mono HTo.out ?_
                rintro u wb ⟨rfl, rfl⟩
                go_wp2_with fail
                refine Calls.mono HPo.out ?_
                rintro u wb ⟨rfl, rfl⟩
                go_wp2_with fail
                refine Calls.mono HCa.out ?_
                rintro u wd ⟨rfl, hbd⟩
                have HRd : Hid (SlRow wd g cap [⟨1, 0, 1, E⟩] ∧ Below w3.heap.size w3 wd) := ⟨HRb.out.1.same (hbd.block g HRb.out.1.lt), HRb.out.2.trans (hbd.mono HRb.out.2.size)⟩
                clear hbd HRb HSt HTo HPo HCa
                unfold Rec.val
                go_upto_region 32 with fail
                obtain ⟨W9, hW9⟩ : ∃ X, X = wd.alloc (.cells #[.int .i64 1, .int .i64 0, .int .i64 1, .int .i64 (E : Int)] 57) := ⟨_, rfl⟩
                rw [← hW9]
                have B9 : Below wd.heap.size wd W9 := by rw [hW9]; exact Below.one _ _
                have Rx : RecRow W9 wd.heap.size ⟨1, 0, 1, E⟩ := by rw [hW9]; exact RecRow.new wd ⟨1, 0, 1, E⟩
                have HBf9 : Hid (Below w.heap.size w W9) := HBl.out W9 (HRd.out.2.trans (B9.mono HRd.out.2.size))
                obtain ⟨r0, r1, r2, r3⟩ := HRc.out W9 (HRd.out.1.same (B9.block g HRd.out.1.lt))
                clear hW9 B9 HRd
                generalize wd.heap.size = xb at Rx ⊢
                have x0 : W9.cell? ⟨xb, 0, none⟩ = some (.int .i64 1) := Rx.at.1
                have x1 : W9.cell? ⟨xb, 1, none⟩ = some (.int .i64 0) := Rx.at.2
                have x2 : W9.cell? ⟨xb, 2, none⟩ = some (.int .i64 1) := Rx.at.3
                have x3 : W9.cell? ⟨xb, 3, none⟩ = some (.int .i64 (E : Int)) := Rx.at.4
                clear Rx
                go_quiet (fail)
                go_wp2
                go_ret
                exact ⟨rfl, below_drewN HBf9.out _⟩
  · have g0 : 0 < (code : Int) := by omega
    go_wp2
    go_ret
    exact ⟨rfl, HB3.out⟩
end Go.Proofs.YtkphpgdgbnmnjacGreatDoor
