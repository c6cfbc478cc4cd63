/-
  nightwatchlaw3.KeeperKicks by a contract: it answers true. Conditions: the sentinels, the config and the acts lie in memory.
-/
import Derived.Test.YtkphpgdgbnmnjacGreatDoorB35K
import Derived.Test.YtkphpgdgbnmnjacGreatDoorB02K
import Derived.Test.YtkphpgdgbnmnjacGreatDoorB21K
import Derived.Test.YtkphpgdgbnmnjacGreatDoorB36K
import Derived.Deep.RegionHeld3
namespace Go.Proofs.YtkphpgdgbnmnjacGreatDoor
open Go.RowKit Go.Extern.Stop Go.Stop Go.Extern

theorem coded_reset (A : Nat → Addr) (w : World) (hs : Senv A w) : Calls Tryz.prog 24 #[.iface 292 (.pointer (some (A 10))), .int .i64 11] w fun e w' => e = .returned (.bool true) ∧ Below w.heap.size w w' := by
  refine (coded_sent A 10 11 w hs (by decide)).mono ?_
  rintro e w' ⟨rfl, hb⟩
  exact ⟨rfl, hb⟩
/-- Behind some acts, whatever they were. -/
structure KkI (w0 wr : World) (c : CfgD) (kb bc k T : Nat) (K : KSt) : Prop where
  at' : ∃ F, KeAt F w0 wr c kb bc K ∧ ∀ k, F k → w0.heap.size ≤ k
  calm : Calm K (8 * K.d.now)
  inv : ∃ D, KInv K D ∧ D.length ≤ 8 * K.d.now
  fit : KFit c K k (144 * K.d.now)
  win : K.d.closed = c.closed.toNat ∧ K.d.opn = c.opn.toNat
  now : K.d.now ≤ T
section
variable {w0 wr wr' : World} {c : CfgD} {kb bc k T : Nat} {K K' : KSt} {F : Nat → Prop}
theorem KkI.below (h : KkI w0 wr c kb bc k T K) (hb : Below wr.heap.size wr wr') : KkI w0 wr' c kb bc k T K := by
  obtain ⟨F, h1, h2⟩ := h.at'
  exact ⟨⟨F, h1.below hb, h2⟩, h.calm, h.inv, h.fit, h.win, h.now⟩
theorem KkI.mono (h : KkI w0 wr c kb bc k T K) {k' T' : Nat} (hk : k ≤ k') (hT : T ≤ T') : KkI w0 wr c kb bc k' T' K := ⟨h.at', h.calm, h.inv, h.fit.mono hk (Nat.le_refl _), h.win, Nat.le_trans h.now hT⟩
theorem KkI.bel (h : KkI w0 wr c kb bc k T K) : Below w0.heap.size w0 wr := by obtain ⟨F, h1, -⟩ := h.at'; exact h1.bel
theorem kpost_at (hF : ∀ k, F k → w0.heap.size ≤ k) (hz : w0.heap.size ≤ wr.heap.size) (hp : KePost F w0 wr c kb bc K' wr') : ∃ F, KeAt F w0 wr' c kb bc K' ∧ ∀ k, F k → w0.heap.size ≤ k :=
  ⟨_, hp.1, fun k hk => by
    rcases hk with hk | ⟨hk, _⟩
    · exact hF k hk
    · exact Nat.le_trans hz hk⟩
/-- One tick. -/
theorem KkI.tick (h : KkI w0 wr c kb bc k T K) (hr : KRt c) (hn : K.d.now < 100000) (hre : K.d.reset = false) (ha : ∃ F, KeAt F w0 wr' c kb bc (K.tick c).1 ∧ ∀ k, F k → w0.heap.size ≤ k) : TickF c K (K.tick c).1 (K.tick c).2 ∧ KkI w0 wr' c kb bc k (T + 1) (K.tick c).1 := by
  obtain ⟨D, d1, d2⟩ := h.inv
  obtain ⟨t1, t2⟩ := h.calm.tick h.fit hr (by omega) hre (by omega)
  obtain ⟨D', e1, e2, e3⟩ := d1.tick h.fit hr (by omega) (by omega)
  have hnow := t1.now
  refine ⟨t1, ha, ?_, ⟨D', e1, by omega⟩, h.fit.tick hr (by omega), ⟨t1.win.1.trans h.win.1, t1.win.2.trans h.win.2⟩, by have := h.now; omega⟩
  rw [hnow]
  exact t2.mono (by omega)
theorem KkI.reset (h : KkI w0 wr c kb bc k T K) (hre : K.d.reset = true) : K.tick c = (K, 11) ∧ K.on = 11 := by
  have h1 : K.on = 11 := by unfold KSt.on; rw [h.calm.off, hre]; rfl
  refine ⟨?_, h1⟩
  unfold KSt.tick
  rw [if_pos (by omega), h1]
theorem KkI.on (h : KkI w0 wr c kb bc k T K) (hre : K.d.reset = false) : K.on = 0 := KSt.on_zero.2 ⟨h.calm.off, hre⟩
end
set_option maxRecDepth 100000 in
set_option maxHeartbeats 8000000 in
theorem kk_in (A : Nat → Addr) (c : CfgD) (sa : Option Addr) (sc : Nat) (acts : List ActK) (sl : Option Addr) (slc : Nat) (w : World) (hsv : Senv A w) (hE : EntsAt w (.slice sa c.ents.length sc) c.ents) (hAct : SlAt encK 4 w (.slice sl acts.length slc) acts) (hlen : acts.length ≤ 9223372036854775807) :
    Calls Tryz.prog 6 #[.agg #[.int .i64 c.closed, .int .i64 c.opn, .int .i64 c.cycle, .int .i64 c.delay, .slice sa c.ents.length sc], .slice sl acts.length slc] w fun v w' => v = .returned (.bool true) ∧ Below w.heap.size w w' := by
  have hs := hsv.ten
  have HSe : Hid (∀ V, Below w.heap.size w V → Senv A V) := fun V hV => hsv.below hV
  clear hsv
  obtain ⟨W0, hW0⟩ : ∃ X, X = w.alloc (.cells #[.int .i64 c.closed, .int .i64 c.opn, .int .i64 c.cycle, .int .i64 c.delay, .slice sa c.ents.length sc] 24) := ⟨_, rfl⟩
  have b0 : Below w.heap.size w W0 := by rw [hW0]; exact Below.one _ _
  have r0 : W0.heap[w.heap.size]? = some (.cells #[.int .i64 c.closed, .int .i64 c.opn, .int .i64 c.cycle, .int .i64 c.delay, .slice sa c.ents.length sc] 24 (0, 0)) := by rw [hW0]; exact heap_alloc_new w _
  have y : ∀ V, Below W0.heap.size W0 V → (V.cell? ⟨w.heap.size, 0, none⟩ = some (.int .i64 c.closed) ∧ V.cell? ⟨w.heap.size, 1, none⟩ = some (.int .i64 c.opn) ∧ V.cell? ⟨w.heap.size, 2, none⟩ = some (.int .i64 c.cycle) ∧ V.cell? ⟨w.heap.size, 3, none⟩ = some (.int .i64 c.delay) ∧ V.cell? ⟨w.heap.size, 4, none⟩ = some (.slice sa c.ents.length sc)) := fun V hV => by
    have := row_below hV r0
    refine ⟨?_, ?_, ?_, ?_, ?_⟩ <;> simp [World.cell?, this]
  have HY : Hid _ := y
  have HB0 : Hid _ := b0
  have HWa : Hid _ := watched_at A W0 (hs.below b0)
  have HE : Hid (∀ V, Below w.heap.size w V → EntsAt V (.slice sa c.ents.length sc) c.ents) := fun V hV => hE.below hV
  have HSv : Hid (∀ V, Below w.heap.size w V → SenK A V) := fun V hV => hs.below hV
  have HAc : Hid (∀ V, Below w.heap.size w V → SlAt encK 4 V (.slice sl acts.length slc) acts) := fun V hV => hAct.below hV
  have HLn : Hid (acts.length ≤ 9223372036854775807) := hlen
  clear hs hE hAct hlen b0 r0 y
  go_enter Tryz.func6, Tryz.ntmps6
  go_upto_region 1 with fail
  rw [← hW0]
  clear hW0
  go_wp2_with fail
  refine Calls.mono HWa.out ?_
  rintro u w1 ⟨rfl, hb1⟩
  have HBb1 : Hid (Below W0.heap.size W0 w1) := hb1
  have HB1 : Hid (Below w.heap.size w w1) := HB0.out.trans (hb1.mono HB0.out.size)
  clear hb1 HWa
  obtain ⟨y0, y1, y2, y3, y4⟩ := HY.out w1 HBb1.out
  go_wp2_with fail
  clear y0 y1 y2 y3 y4
  refine Calls.mono (heavyC_at c sa sc w1 (HE.out w1 HB1.out)) ?_
  rintro u w2 ⟨rfl, hb2⟩
  have HBb2 : Hid (Below W0.heap.size W0 w2) := HBb1.out.trans (hb2.mono HBb1.out.size)
  have HB2 : Hid (Below w.heap.size w w2) := HB1.out.trans (hb2.mono HB1.out.size)
  clear hb2
  cases hh : heavyC c
  · rw [show one01 false = 0 from rfl]
    have HSm : Hid (SmallC c) := heavyC_small hh
    clear hh
    have HFi : Hid _ := fit_at acts sl slc 80 w2 (HAc.out w2 HB2.out) HLn.out
    go_wp2_with fail
    refine Calls.mono HFi.out ?_
    rintro u w2 ⟨b, rfl, rfl, hfit⟩
    clear HFi
    cases b
    · go_wp2
      go_ret
      exact ⟨rfl, HB2.out⟩
    have HFt : Hid (Fits1 acts 80) := hfit rfl
    clear hfit
    obtain ⟨y0, y1, y2, y3, y4⟩ := HY.out w2 HBb2.out
    go_wp2_with fail
    clear y0 y1 y2 y3 y4
    refine Calls.mono (cfault_at c sa sc w2 (HE.out w2 HB2.out) HSm.out) ?_
    rintro u w3 ⟨rfl, hb3⟩
    have HBb3 : Hid (Below W0.heap.size W0 w3) := HBb2.out.trans (hb3.mono HBb2.out.size)
    have HB3 : Hid (Below w.heap.size w w3) := HB2.out.trans (hb3.mono HB2.out.size)
    clear hb3
    obtain ⟨code, hcode⟩ : ∃ x, x = (cfgErr c).1 := ⟨_, rfl⟩
    rw [← hcode]
    have hfl := fld_fault (code : Int) (cfgErr c).2 w3
    have HCo : Hid (code = (cfgErr c).1) := hcode
    clear hcode
    by_cases hc0 : code = 0
    · subst hc0
      simp only [Int.ofNat_zero] at hfl ⊢
      have h0 : (cfgErr c).1 = 0 := HCo.out.symm
      have HR : Hid (KRt c) := krt_of h0
      have HFr : Hid _ := fresh_at A c sa sc w3 (HSv.out w3 HB3.out) h0 (HE.out w3 HB3.out) HSm.out
      clear h0
      obtain ⟨y0, y1, y2, y3, y4⟩ := HY.out w3 HBb3.out
      go_wp2_with fail
      clear y0 y1 y2 y3 y4
      clear hfl
      refine Calls.mono HFr.out ?_
      rintro u w4 ⟨kb, bc, F, rfl, hat, hb4, hF4⟩
      have HI : Hid (KkI w3 w4 c kb bc 0 0 (KSt.new c (CSt.new 4096))) := ⟨⟨F, hat, fun k hk => (hF4 k hk).1⟩, Calm.new, ⟨[], KInv.new, Nat.le_refl _⟩, kfit_new HR.out, ⟨rfl, rfl⟩, Nat.zero_le _⟩
      have HBl : Hid (∀ V, Below w3.heap.size w3 V → Below w.heap.size w V ∧ Below W0.heap.size W0 V) := fun V hV => ⟨HB3.out.trans (hV.mono HB3.out.size), HBb3.out.trans (hV.mono HBb3.out.size)⟩
      have HSw : Hid (SenK A w3) := HSv.out w3 HB3.out
      obtain ⟨cl, hcl⟩ : ∃ x : Nat, c.closed = (x : Int) := ⟨c.closed.toNat, by have := HR.out.cl; omega⟩
      obtain ⟨op, hop⟩ : ∃ x : Nat, c.opn = (x : Int) := ⟨c.opn.toNat, by have := HR.out.op; omega⟩
      obtain ⟨cy, hcy⟩ : ∃ x : Nat, c.cycle = (x : Int) := ⟨c.cycle.toNat, by have := HR.out.cy; omega⟩
      have HCn : Hid (c.closed.toNat = cl ∧ c.opn.toNat = op ∧ c.cycle.toNat = cy ∧ cl ≤ 1000 ∧ op ≤ 1000 ∧ 1 ≤ cy) := by have h1 := HR.out.cl; have h2 := HR.out.op; have h3 := HR.out.cy; exact ⟨by omega, by omega, by omega, by omega, by omega, by omega⟩
      have HYc : Hid (∀ V, Below W0.heap.size W0 V → V.cell? ⟨w.heap.size, 0, none⟩ = some (.int .i64 (cl : Int)) ∧ V.cell? ⟨w.heap.size, 1, none⟩ = some (.int .i64 (op : Int)) ∧ V.cell? ⟨w.heap.size, 2, none⟩ = some (.int .i64 (cy : Int))) := fun V hV => by
        obtain ⟨a1, a2, a3, -, -⟩ := HY.out V hV
        rw [hcl] at a1; rw [hop] at a2; rw [hcy] at a3
        exact ⟨a1, a2, a3⟩
      clear hat hb4 hF4 HFr HSv HE HBb1 HB1 HBb2 HB2 HBb3 hcl hop hcy HY
      go_upto_region 8 with fail
      go_cut [9, 10] (fun la i wx => la = .int .i64 0 ∧ i = .int .i64 0 ∧ wx = w4)
      case first =>
        go_wp2_with fail
        go_meet
        case rel => exact ⟨rfl, rfl, rfl⟩
      obtain ⟨rfl, rfl, rfl⟩ := hcut
      rename World => w4
      go_wp2_with fail
      go_loopw [9, 10, 11, 12, 13, 14, 15] (fun la i _ _ _ _ _ wr => ∃ (k : Nat) (K : KSt), k ≤ acts.length ∧ i = .int .i64 k ∧ la = .int .i64 (K.d.begun : Int) ∧ Hid (KkI w3 wr c kb bc k (ticksOf (acts.take k)) K)) (fun _ i _ _ _ _ _ _ => acts.length - (intOf i).toNat)
      case atStart => exact ⟨0, _, Nat.zero_le _, rfl, rfl, HI.out⟩
      case round =>
        clear HI
        obtain ⟨k, K, hk, rfl, rfl, HI⟩ := hrel
        obtain ⟨F, hat, hF⟩ := HI.out.at'
        have HBf : Hid (Below w3.heap.size w3 wr) := hat.bel
        have hl80 : acts.length ≤ 80 := by have := HFt.out.len; omega
        have hts : ticksOf acts ≤ 1500 := HFt.out.sum
        have hnw : K.d.now ≤ 1500 := by have h1 := HI.out.now; have h2 := ticksOf_le acts k; omega
        by_cases hlt : k < acts.length
        · obtain ⟨a, ha⟩ : ∃ a, acts[k]? = some a := ⟨_, List.getElem?_eq_getElem hlt⟩
          obtain ⟨ab, ao, rfl, c0, c1, c2, c3⟩ := act_cells (HAc.out wr (HBl.out wr HBf.out).1) ha
          have k1 : (k : Int) < (acts.length : Int) := by omega
          have hsum := ticksOf_take ha
          have hsl := ticksOf_le acts (k + 1)
          have hmono : ticksOf (acts.take k) ≤ ticksOf (acts.take (k + 1)) := by omega
          have HSame : Hid (KkI w3 wr c kb bc (k + 1) (ticksOf (acts.take (k + 1))) K) := HI.out.mono (by omega) hmono
          have HCe : Hid (∀ V, Below w3.heap.size w3 V → V.cell? ⟨ab, ao + k * 4 + 1, none⟩ = some (.int .i64 a.e) ∧ V.cell? ⟨ab, ao + k * 4 + 2, none⟩ = some (.int .i64 a.p) ∧ V.cell? ⟨ab, ao + k * 4 + 3, none⟩ = some (.int .i64 a.n)) := fun V hV => by
            obtain ⟨ab', ao', e1, -, d1, d2, d3⟩ := act_cells (HAc.out V (HBl.out V hV).1) ha
            cases e1
            exact ⟨d1, d2, d3⟩
          have hca := HI.out.calm
          have hft := HI.out.fit
          have hno := HI.out.now
          have hwi := HI.out.win
          obtain ⟨D, hD1, hD2⟩ := HI.out.inv
          cases p1 : (a.kind.toList == [98, 101, 103, 105, 110])
          · cases p2 : (a.kind.toList == [115, 116, 111, 112])
            · cases p3 : (a.kind.toList == [114, 101, 112, 111, 114, 116])
              · cases p4 : (a.kind.toList == [98, 111, 111, 116])
                · cases p5 : (a.kind.toList == [116, 105, 99, 107])
                  · clear hca hft hno hwi hD1 hD2 hsum hsl hat c1 c2 c3 HCe
                    go_wp2_with fail
                    go_roundw
                    case rel => exact ⟨k + 1, K, by omega, by go_num, rfl, HSame.out⟩
                    case measure => simp [intOf]; omega
                  · have htk : a.tick = true := p5
                    rw [htk, if_pos rfl] at hsum
                    have hn10 : a.n ≤ 10000 := HFt.out.each a (List.mem_of_getElem? ha)
                    obtain ⟨T0, hT0⟩ : ∃ x, x = ticksOf (acts.take k) := ⟨_, rfl⟩
                    rw [← hT0] at hsum hno
                    have HT : Hid (ticksOf (acts.take (k + 1)) = T0 + a.n.toNat ∧ T0 + a.n.toNat ≤ 1500) := by have := hsum; exact ⟨by omega, by omega⟩
                    have HI0 : Hid (KkI w3 wr c kb bc k T0 K) := by show KkI _ _ _ _ _ _ _ _; rw [hT0]; exact HI.out
                    clear hca hft hno hwi hD1 hD2 hsum hsl hat c1 c2 c3 htk HSame hT0 HI hF hmono hnw HBf
                    go_upto_region 22 with fail
                    go_cut [11] (fun i wx => i = .int .i64 0 ∧ wx = wr)
                    case first =>
                      go_wp2_with fail
                      go_meet
                      case rel => exact ⟨rfl, rfl⟩
                    obtain ⟨rfl, rfl⟩ := hcut
                    rename World => wr
                    go_wp2_with fail
                    go_loopw [9, 11, 12, 13, 14, 15] (fun la i _ _ _ _ wr => ∃ (j : Nat) (K : KSt), (j : Int) ≤ max a.n 0 ∧ i = .int .i64 j ∧ la = .int .i64 (K.d.begun : Int) ∧ Hid (KkI w3 wr c kb bc k (T0 + j) K)) (fun _ i _ _ _ _ _ => a.n.toNat - (intOf i).toNat)
                    case atStart => exact ⟨0, K, by omega, rfl, rfl, HI0.out⟩
                    case round =>
                      clear HI0
                      obtain ⟨j, K, hj, rfl, rfl, HI⟩ := hrel
                      obtain ⟨c1, c2, c3⟩ := HCe.out wr HI.out.bel
                      by_cases hjn : (j : Int) < a.n
                      · have hjt : T0 + j < 1500 := by have := HT.out.2; omega
                        have hnow := HI.out.now
                        have hbg := HI.out.fit.win
                        obtain ⟨F, hat, hF⟩ := HI.out.at'
                        have HX : Hid _ := ke_tick hat HSw.out HR.out HI.out.fit (by omega)
                        have HKi : Hid _ := kat_kicks hat
                        have HSt : Hid _ := kat_state hat
                        have hzf : w3.heap.size ≤ wr.heap.size := hat.bel.size
                        cases hre : K.d.reset
                        · have HTk : Hid (∀ wr', KePost F w3 wr c kb bc (K.tick c).1 wr' → TickF c K (K.tick c).1 (K.tick c).2 ∧ KkI w3 wr' c kb bc k (T0 + (j + 1)) (K.tick c).1) := fun wr' hp => HI.out.tick HR.out (by omega) hre (kpost_at hF hzf hp)
                          have hon : K.on = 0 := HI.out.on hre
                          have hwi := HI.out.win
                          rw [hon, show stateB 0 = ⟨#[111, 110]⟩ from rfl] at HSt
                          obtain ⟨K', hK'⟩ : ∃ x, x = (K.tick c).1 := ⟨_, rfl⟩
                          rw [← hK'] at HX HTk
                          by_cases hla : cl + op < K.d.now + 1 - K.d.begun
                          · have HTt : Hid (∀ wr', KePost F w3 wr c kb bc K' wr' → (K.tick c).2 = 11 ∧ K'.on = 11 ∧ K'.d.now = K.d.now + 1 ∧ K'.d.kicks = K.d.kicks ∧ K'.d.begun = K.d.begun ∧ KkI w3 wr' c kb bc k (T0 + (j + 1)) K') := fun wr' hp => by
                              obtain ⟨t1, t2⟩ := HTk.out wr' hp
                              have q : K.d.closed + K.d.opn < K.d.now + 1 - K.d.begun := by rw [hwi.1, hwi.2, HCn.out.1, HCn.out.2.1]; exact hla
                              have hrs : K'.d.reset = true := by rw [t1.reset]; exact decide_eq_true q
                              refine ⟨by rw [t1.code, if_pos q], (t2.reset hrs).2, t1.now, ?_, ?_, t2⟩
                              · rcases t1.kick with h | h
                                · exact h.1
                                · exact absurd q h.2.2.2.2
                              · rcases t1.kick with h | h
                                · exact h.2
                                · exact absurd q h.2.2.2.2
                            have hg1 : (cl : Int) + (op : Int) < (K.d.now : Int) + 1 - (K.d.begun : Int) := by omega
                            clear HTk hat hK' hF hon hre hwi hla
                            go_wp2_with fail
                            refine Calls.mono HKi.out ?_
                            rintro u w6 ⟨rfl, rfl⟩
                            go_wp2_with fail
                            refine Calls.mono HSt.out ?_
                            rintro u w6 ⟨rfl, rfl⟩
                            go_wp2_with fail
                            refine Calls.mono HX.out ?_
                            rintro u w7 ⟨rfl, hp7⟩
                            obtain ⟨t1, t2, t3, t4, t5, t6⟩ := HTt.out w7 hp7
                            rw [t1, show errVal A 11 = .iface 292 (.pointer (some (A 10))) from rfl]
                            have HI7 : Hid _ := t6
                            have HB7 : Hid _ := HBl.out w7 t6.bel
                            obtain ⟨y0, y1, -⟩ := HYc.out w7 HB7.out.2
                            have HNo : Hid (∀ q, Calls Tryz.prog 20 #[.pointer (some ⟨kb, 0, none⟩)] (w7.drewN q) fun e w' => e = .returned (.int .i64 ((K.d.now : Int) + 1)) ∧ w' = w7.drewN q) := fun q => by
                              have := kat_now (hp7.1.below (below_drewN (Below.refl _ _) q))
                              rw [t3] at this
                              exact this
                            have HS7 : Hid (∀ q, Calls Tryz.prog 18 #[.pointer (some ⟨kb, 0, none⟩)] (w7.drewN q) fun e w' => e = .returned (.string ⟨#[114, 101, 115, 101, 116]⟩) ∧ w' = w7.drewN q) := fun q => by
                              have := kat_state (hp7.1.below (below_drewN (Below.refl _ _) q))
                              rw [t2] at this
                              exact this
                            have HT5 : Hid (K'.d.begun = K.d.begun ∧ K'.d.kicks = K.d.kicks) := ⟨t5, t4⟩
                            clear hp7 t1 t2 t3 t4 t5 t6 HX HKi HSt HTt
                            obtain ⟨nw, hnw⟩ : ∃ x, x = K.d.now := ⟨_, rfl⟩
                            obtain ⟨bg, hbgE⟩ : ∃ x, x = K.d.begun := ⟨_, rfl⟩
                            obtain ⟨kk, hkk⟩ : ∃ x, x = K.d.kicks := ⟨_, rfl⟩
                            rw [← hnw] at HNo hg1 hnow hbg
                            rw [← hbgE] at HT5 hg1 hbg ⊢
                            rw [← hkk] at HT5 hbg ⊢
                            clear hnw hbgE hkk
                            have hcn := HCn.out
                            have hw1 : IntKind.i64.wrap ((nw : Int) + 1 - (bg : Int)) = (nw : Int) + 1 - (bg : Int) := by rw [IntKind.wrap_i64]; omega
                            have hw2 : IntKind.i64.wrap ((cl : Int) + (op : Int)) = (cl : Int) + (op : Int) := by rw [IntKind.wrap_i64]; omega
                            have hbn : bg ≤ nw := hbg.2.2.2
                            have hj15 : j < 1500 := by omega
                            clear hcn hbg hnow hjt hzf hl80 hts hn10
                            go_wp2_with fail
                            go_quiet (first | (go_at_call 20; exact Calls.quiet_of_same (HNo.out _)))
                            go_wp2_with fail
                            refine Calls.mono (HS7.out _) ?_
                            rintro u w8 ⟨rfl, rfl⟩
                            have HI8 := HI7.out.below (below_drewN (Below.refl w7.heap.size w7) nq)
                            go_wp2_with fail
                            refine Calls.mono (coded_reset A _ (HSe.out _ (HBl.out _ HI8.bel).1)) ?_
                            rintro u w9 ⟨rfl, hb9⟩
                            have HI9 : Hid _ := HI8.below hb9
                            clear hb9 HI8 HI7 HNo HS7 y0 y1
                            obtain ⟨F9, hat9, -⟩ := HI9.out.at'
                            have hki := kat_kicks hat9
                            rw [HT5.out.2] at hki
                            have HKi : Hid _ := hki
                            clear hat9 hki
                            go_wp2_with fail
                            refine Calls.mono HKi.out ?_
                            rintro u w10 ⟨rfl, rfl⟩
                            go_wp2_with fail
                            go_roundw
                            case rel => have hq := HT.out.2; exact ⟨j + 1, K', by omega, by go_num, by rw [HT5.out.1], HI9.out⟩
                            case measure => have hq := HT.out.2; simp [intOf]; omega
                          · have HTt : Hid (∀ wr', KePost F w3 wr c kb bc K' wr' → (K.tick c).2 = 0 ∧ K'.on = 0 ∧ K'.d.now = K.d.now + 1 ∧ ((K'.d.kicks = K.d.kicks ∧ K'.d.begun = K.d.begun) ∨ (K'.d.kicks = K.d.kicks + 1 ∧ K'.d.begun = K.d.now + 1 ∧ (K.d.now + 1) % cy = 0 ∧ cl < K.d.now + 1 - K.d.begun)) ∧ KkI w3 wr' c kb bc k (T0 + (j + 1)) K') := fun wr' hp => by
                              obtain ⟨t1, t2⟩ := HTk.out wr' hp
                              have q : ¬ K.d.closed + K.d.opn < K.d.now + 1 - K.d.begun := by rw [hwi.1, hwi.2, HCn.out.1, HCn.out.2.1]; exact hla
                              have hrs : K'.d.reset = false := by rw [t1.reset]; exact decide_eq_false q
                              refine ⟨by rw [t1.code, if_neg q], t2.on hrs, t1.now, ?_, t2⟩
                              rcases t1.kick with h | ⟨h1, h2, h3, h4, -⟩
                              · exact Or.inl h
                              · rw [HCn.out.2.2.1] at h3
                                rw [hwi.1, HCn.out.1] at h4
                                exact Or.inr ⟨h1, h2, h3, h4⟩
                            have hg1 : ¬ (cl : Int) + (op : Int) < (K.d.now : Int) + 1 - (K.d.begun : Int) := by omega
                            clear HTk hat hK' hF hon hre hwi hla
                            go_wp2_with fail
                            refine Calls.mono HKi.out ?_
                            rintro u w6 ⟨rfl, rfl⟩
                            go_wp2_with fail
                            refine Calls.mono HSt.out ?_
                            rintro u w6 ⟨rfl, rfl⟩
                            go_wp2_with fail
                            refine Calls.mono HX.out ?_
                            rintro u w7 ⟨rfl, hp7⟩
                            obtain ⟨t1, t2, t3, t4, t6⟩ := HTt.out w7 hp7
                            rw [t1, show errVal A 0 = .nilIface from rfl]
                            have HI7 : Hid _ := t6
                            have HB7 : Hid _ := HBl.out w7 t6.bel
                            obtain ⟨y0, y1, y2⟩ := HYc.out w7 HB7.out.2
                            have HNo : Hid (∀ V, Below w7.heap.size w7 V → Calls Tryz.prog 20 #[.pointer (some ⟨kb, 0, none⟩)] V fun e w' => e = .returned (.int .i64 ((K.d.now : Int) + 1)) ∧ w' = V) := fun V hV => by
                              have := kat_now (hp7.1.below hV)
                              rw [t3] at this
                              exact this
                            have HS7 : Hid (∀ q, Calls Tryz.prog 18 #[.pointer (some ⟨kb, 0, none⟩)] (w7.drewN q) fun e w' => e = .returned (.string ⟨#[111, 110]⟩) ∧ w' = w7.drewN q) := fun q => by
                              have := kat_state (hp7.1.below (below_drewN (Below.refl _ _) q))
                              rw [t2] at this
                              exact this
                            have HK7 : Hid (∀ V, Below w7.heap.size w7 V → Calls Tryz.prog 21 #[.pointer (some ⟨kb, 0, none⟩)] V fun e w' => e = .returned (.int .i64 (K'.d.kicks : Int)) ∧ w' = V) := fun V hV => kat_kicks (hp7.1.below hV)
                            have HT4 : Hid _ := t4
                            clear hp7 t1 t2 t3 t4 t6 HX HKi HSt HTt
                            obtain ⟨nw, hnw⟩ : ∃ x, x = K.d.now := ⟨_, rfl⟩
                            obtain ⟨bg, hbgE⟩ : ∃ x, x = K.d.begun := ⟨_, rfl⟩
                            obtain ⟨kk, hkk⟩ : ∃ x, x = K.d.kicks := ⟨_, rfl⟩
                            rw [← hnw] at HNo hg1 hnow hbg HT4
                            rw [← hbgE] at HT4 hg1 hbg ⊢
                            rw [← hkk] at HT4 hbg ⊢
                            clear hnw hbgE hkk
                            have hcn := HCn.out
                            have hw1 : IntKind.i64.wrap ((nw : Int) + 1 - (bg : Int)) = (nw : Int) + 1 - (bg : Int) := by rw [IntKind.wrap_i64]; omega
                            have hw2 : IntKind.i64.wrap ((cl : Int) + (op : Int)) = (cl : Int) + (op : Int) := by rw [IntKind.wrap_i64]; omega
                            have hw3 : IntKind.i64.wrap ((kk : Int) + 1) = (kk : Int) + 1 := by rw [IntKind.wrap_i64]; omega
                            have z0 : ¬ (cy : Int) = 0 := by omega
                            have hbn : bg ≤ nw := hbg.2.2.2
                            have hj15 : j < 1500 := by omega
                            clear hcn hbg hnow hjt hzf hl80 hts hn10
                            go_wp2_with fail
                            go_quiet (first | (go_at_call 20; exact Calls.quiet_of_same (HNo.out _ (by first | exact below_drewN (Below.refl _ _) _ | exact below_drewN (below_drewN (Below.refl _ _) _) _))))
                            go_wp2_with fail
                            refine Calls.mono (HS7.out _) ?_
                            rintro u w8 ⟨rfl, rfl⟩
                            rcases HT4.out with ⟨e1, e2⟩ | ⟨e1, e2, e3, e4⟩
                            · rw [e1] at HK7
                              have HE2 : Hid (K'.d.begun = bg) := e2
                              clear e1 e2 HT4
                              go_wp2_with fail
                              refine Calls.mono (HK7.out _ (by first | exact below_drewN (Below.refl _ _) _ | exact below_drewN (below_drewN (Below.refl _ _) _) _)) ?_
                              rintro u w9 ⟨rfl, rfl⟩
                              have HI9 : Hid _ := HI7.out.below (below_drewN (Below.refl w7.heap.size w7) nq)
                              go_wp2_with fail
                              go_roundw
                              case rel => have hq := HT.out.2; exact ⟨j + 1, K', by omega, by go_num, by rw [HE2.out], HI9.out⟩
                              case measure => have hq := HT.out.2; simp [intOf]; omega
                            · rw [e1] at HK7
                              have HE2 : Hid (K'.d.begun = nw + 1) := e2
                              have hk2 : ((kk + 1 : Nat) : Int) = (kk : Int) + 1 := by omega
                              rw [hk2] at HK7
                              have g3 : Int.tmod ((nw : Int) + 1) (cy : Int) = 0 := by rw [Int.tmod_eq_emod_of_nonneg (by omega), show (nw : Int) + 1 = ((nw + 1 : Nat) : Int) by omega, ← Int.natCast_emod, e3]; rfl
                              have g4 : ¬ (nw : Int) + 1 - (bg : Int) ≤ (cl : Int) := by omega
                              have g5 : ¬ (kk : Int) + 1 = (kk : Int) := by omega
                              clear e1 e2 e3 e4 HT4 hk2
                              go_wp2_with fail
                              refine Calls.mono (HK7.out _ (by first | exact below_drewN (Below.refl _ _) _ | exact below_drewN (below_drewN (Below.refl _ _) _) _)) ?_
                              rintro u w9 ⟨rfl, rfl⟩
                              go_wp2_with fail
                              have HNo2 : Hid (∀ q, Calls Tryz.prog 20 #[.pointer (some ⟨kb, 0, none⟩)] ((w7.drewN nq).drewN q) fun e w' => e = .returned (.int .i64 ((nw : Int) + 1)) ∧ w' = (w7.drewN nq).drewN q) := fun q => HNo.out _ (below_drewN (below_drewN (Below.refl _ _) nq) q)
                              have HK2 : Hid (∀ q, Calls Tryz.prog 21 #[.pointer (some ⟨kb, 0, none⟩)] ((w7.drewN nq).drewN q) fun e w' => e = .returned (.int .i64 ((kk : Int) + 1)) ∧ w' = (w7.drewN nq).drewN q) := fun q => HK7.out _ (below_drewN (below_drewN (Below.refl _ _) nq) q)
                              have HI2 : Hid (∀ q, KkI w3 ((w7.drewN nq).drewN q) c kb bc k (T0 + (j + 1)) K') := fun q => HI7.out.below (below_drewN (below_drewN (Below.refl w7.heap.size w7) nq) q)
                              have hyz := HYc.out _ (HBl.out _ (HI7.out.below (below_drewN (Below.refl w7.heap.size w7) nq)).bel).2
                              clear HNo HK7 HI7 y0 y1 y2 HS7
                              generalize w7.drewN nq = wz at HNo2 HK2 HI2 hyz ⊢
                              obtain ⟨y0, y1, y2⟩ := hyz
                              go_quiet (first | (go_at_call 20; exact Calls.quiet_of_same (HNo2.out _)) | (go_at_call 21; exact Calls.quiet_of_same (HK2.out _)))
                              go_wp2_with fail
                              refine Calls.mono (HNo2.out _) ?_
                              rintro u w10 ⟨rfl, rfl⟩
                              go_wp2_with fail
                              go_roundw
                              case rel => have hq := HT.out.2; exact ⟨j + 1, K', by omega, by go_num, by rw [HE2.out]; go_num, HI2.out _⟩
                              case measure => have hq := HT.out.2; simp [intOf]; omega
                        · obtain ⟨htk, hon⟩ := HI.out.reset hre
                          have HTk : Hid (∀ wr', KePost F w3 wr c kb bc K wr' → KkI w3 wr' c kb bc k (T0 + (j + 1)) K) := fun wr' hp => ⟨kpost_at hF hzf hp, HI.out.calm, HI.out.inv, HI.out.fit, HI.out.win, by have := HI.out.now; omega⟩
                          rw [htk, show errVal A 11 = .iface 292 (.pointer (some (A 10))) from rfl] at HX
                          rw [hon, show stateB 11 = ⟨#[114, 101, 115, 101, 116]⟩ from rfl] at HSt
                          clear hat hF htk hon hre hbg
                          go_wp2_with fail
                          refine Calls.mono HKi.out ?_
                          rintro u w6 ⟨rfl, rfl⟩
                          go_wp2_with fail
                          refine Calls.mono HSt.out ?_
                          rintro u w6 ⟨rfl, rfl⟩
                          go_wp2_with fail
                          refine Calls.mono HX.out ?_
                          rintro u w7 ⟨rfl, hp7⟩
                          have HI7 : Hid _ := HTk.out w7 hp7
                          clear hp7 HX HKi HSt HTk
                          go_wp2_with fail
                          refine Calls.mono (coded_reset A w7 (HSe.out w7 (HBl.out w7 HI7.out.bel).1)) ?_
                          rintro u w8 ⟨rfl, hb8⟩
                          have HI8 : Hid _ := HI7.out.below hb8
                          clear hb8 HI7
                          obtain ⟨F8, hat8, -⟩ := HI8.out.at'
                          have HKi : Hid _ := kat_kicks hat8
                          clear hat8
                          go_wp2_with fail
                          refine Calls.mono HKi.out ?_
                          rintro u w9 ⟨rfl, rfl⟩
                          go_wp2_with fail
                          go_roundw
                          case rel => have hq := HT.out.2; exact ⟨j + 1, K, by omega, by go_num, rfl, HI8.out⟩
                          case measure => have hq := HT.out.2; simp [intOf]; omega
                      · have HN : Hid (KkI w3 wr c kb bc (k + 1) (ticksOf (acts.take (k + 1))) K) := HI.out.mono (by omega) (by rw [HT.out.1]; omega)
                        clear HI
                        go_wp2_with fail
                        go_roundw
                        case rel => exact ⟨k + 1, K, by omega, by go_num, rfl, HN.out⟩
                        case measure => simp [intOf]; omega
                · have HX : Hid _ := ke_boot hat HSw.out HR.out hft
                  have HKp : Hid (∀ wr', KePost F w3 wr c kb bc (K.boot c).1 wr' → KkI w3 wr' c kb bc (k + 1) (ticksOf (acts.take (k + 1))) (K.boot c).1) := fun wr' hp => ⟨kpost_at hF HBf.out.size hp, by rw [boot_now]; exact hca.boot hD1, ⟨D, hD1.boot, by rw [boot_now]; exact hD2⟩, by rw [boot_now]; exact (hft.boot HR.out).mono (by omega) (Nat.le_refl _), by unfold KSt.boot; split; exact hwi; exact hwi, by rw [boot_now]; omega⟩
                  have HBg : Hid (((K.boot c).2 = 0 ∧ (K.boot c).1.d.begun = (K.boot c).1.d.now) ∨ ((K.boot c).2 = 10 ∧ (K.boot c).1 = K)) := by
                    show _ ∨ _
                    unfold KSt.boot
                    split
                    · exact Or.inr ⟨rfl, rfl⟩
                    · exact Or.inl ⟨rfl, rfl⟩
                  obtain ⟨K', hK'⟩ : ∃ x, x = (K.boot c).1 := ⟨_, rfl⟩
                  obtain ⟨cd, hcd⟩ : ∃ x, x = (K.boot c).2 := ⟨_, rfl⟩
                  rw [← hK', ← hcd] at HX HBg
                  rw [← hK'] at HKp
                  clear hca hft hno hwi hD1 hD2 hsum hsl hat c1 c2 c3 HSame HCe hK' hcd hF hmono hnw HBf
                  rcases HBg.out with ⟨e1, e2⟩ | ⟨e1, e2⟩
                  · rw [e1, show errVal A 0 = .nilIface from rfl] at HX
                    have HE2 : Hid (K'.d.begun = K'.d.now) := e2
                    clear e1 e2 HBg
                    go_wp2_with fail
                    refine Calls.mono HX.out ?_
                    rintro u w6 ⟨rfl, hp6⟩
                    have HNo : Hid _ := kat_now hp6.1
                    have HN : Hid _ := HKp.out w6 hp6
                    clear hp6 HKp HX
                    go_wp2_with fail
                    refine Calls.mono HNo.out ?_
                    rintro u w7 ⟨rfl, rfl⟩
                    go_wp2_with fail
                    go_roundw
                    case rel => exact ⟨k + 1, K', by omega, by go_num, by rw [HE2.out], HN.out⟩
                    case measure => simp [intOf]; omega
                  · rw [e1, show errVal A 10 = .iface 292 (.pointer (some (A 9))) from rfl] at HX
                    have HE2 : Hid (K' = K) := e2
                    clear e1 e2 HBg
                    go_wp2_with fail
                    refine Calls.mono HX.out ?_
                    rintro u w6 ⟨rfl, hp6⟩
                    have HN : Hid _ := HKp.out w6 hp6
                    clear hp6 HKp HX
                    go_wp2_with fail
                    go_roundw
                    case rel => exact ⟨k + 1, K', by omega, by go_num, by rw [HE2.out], HN.out⟩
                    case measure => simp [intOf]; omega
              · have HX : Hid _ := ke_report a.e a.p (hat.below (below_drewN (Below.refl _ _) 1 : Below wr.heap.size wr wr.drew)) HSw.out HR.out hft (by omega)
                have HKp : Hid (∀ wr', KePost F w3 wr.drew c kb bc (K.report c a.e a.p).1 wr' → KkI w3 wr' c kb bc (k + 1) (ticksOf (acts.take (k + 1))) (K.report c a.e a.p).1) := fun wr' hp => ⟨kpost_at hF HBf.out.size (hp.from (below_drewN (Below.refl _ _) 1)), by rw [report_now]; exact hca.report a.e a.p, ⟨D, hD1.report a.e a.p, by rw [report_now]; exact hD2⟩, by rw [report_now]; exact hft.report a.e a.p, by rw [report_now]; exact hwi, by rw [report_now]; omega⟩
                have HBg : Hid ((K.report c a.e a.p).1.d.begun = K.d.begun) := by show _ = _; rw [report_now]
                have HCe2 : Hid (∀ V, Below w3.heap.size w3 V → V.cell? ⟨ab, ao + k * 4 + 1, none⟩ = some (.int .i64 a.e) ∧ V.cell? ⟨ab, ao + k * 4 + 2, none⟩ = some (.int .i64 a.p)) := fun V hV => ⟨(HCe.out V hV).1, (HCe.out V hV).2.1⟩
                clear hca hft hno hwi hD1 hD2 hsum hsl hat c3 HSame HCe ha hF hmono hnw HBf
                go_upto_region 17 with fail
                go_region_held3 (fun V => V.cell? ⟨ab, ao + k * 4 + 1, none⟩ = some (.int .i64 a.e) ∧ V.cell? ⟨ab, ao + k * 4 + 2, none⟩ = some (.int .i64 a.p)) (first | exact ⟨c1, c2⟩ | exact d12) (first | (go_at_call 16; refine Calls.mono HX.out ?_; rintro u w6 ⟨rfl, hp6⟩; have HN := HKp.out w6 hp6; have d12 := HCe2.out w6 hp6.1.bel))
                have HN' : Hid _ := HN
                clear HN hp6 d12 HKp HX HCe2
                go_wp2_with fail
                go_roundw
                case rel => exact ⟨k + 1, _, by omega, by go_num, by rw [HBg.out], HN'.out⟩
                case measure => simp [intOf]; omega
            · have HX : Hid _ := ke_stop a.e hat HSw.out HR.out
              have HKp : Hid (∀ wr', KePost F w3 wr c kb bc (K.stop a.e).1 wr' → KkI w3 wr' c kb bc (k + 1) (ticksOf (acts.take (k + 1))) (K.stop a.e).1) := fun wr' hp => ⟨kpost_at hF HBf.out.size hp, by rw [stop_now]; exact hca.stop a.e, ⟨D, hD1.stop a.e, by rw [stop_now]; exact hD2⟩, by rw [stop_now]; exact hft.stop a.e, by rw [stop_now]; exact hwi, by rw [stop_now]; omega⟩
              have HBg : Hid ((K.stop a.e).1.d.begun = K.d.begun) := by show _ = _; rw [stop_now]
              clear hca hft hno hwi hD1 hD2 hsum hsl hat c2 c3 HSame HCe hF hmono hnw HBf
              go_wp2_with fail
              refine Calls.mono HX.out ?_
              rintro u w6 ⟨rfl, hp6⟩
              have HN : Hid _ := HKp.out w6 hp6
              clear hp6 HKp HX
              go_wp2_with fail
              go_roundw
              case rel => exact ⟨k + 1, _, by omega, by go_num, by rw [HBg.out], HN.out⟩
              case measure => simp [intOf]; omega
          · have HX : Hid _ := ke_begin a.e hat HSw.out HR.out
            have HKp : Hid (∀ wr', KePost F w3 wr c kb bc (K.begin a.e).1 wr' → KkI w3 wr' c kb bc (k + 1) (ticksOf (acts.take (k + 1))) (K.begin a.e).1) := fun wr' hp => ⟨kpost_at hF HBf.out.size hp, by rw [begin_now]; exact hca.begin a.e, ⟨D, hD1.begin a.e, by rw [begin_now]; exact hD2⟩, by rw [begin_now]; exact hft.begin a.e, by rw [begin_now]; exact hwi, by rw [begin_now]; omega⟩
            have HBg : Hid ((K.begin a.e).1.d.begun = K.d.begun) := by show _ = _; rw [begin_now]
            clear hca hft hno hwi hD1 hD2 hsum hsl hat c2 c3 HSame HCe hF hmono hnw HBf
            go_wp2_with fail
            refine Calls.mono HX.out ?_
            rintro u w6 ⟨rfl, hp6⟩
            have HN : Hid _ := HKp.out w6 hp6
            clear hp6 HKp HX
            go_wp2_with fail
            go_roundw
            case rel => exact ⟨k + 1, _, by omega, by go_num, by rw [HBg.out], HN.out⟩
            case measure => simp [intOf]; omega
        · have k1 : ¬ (k : Int) < (acts.length : Int) := by omega
          have HBe : Hid (Below w.heap.size w wr) := (HBl.out wr HBf.out).1
          clear hat hF HI
          go_wp2
          go_ret
          exact ⟨rfl, HBe.out⟩
    · have g0 : 0 < (code : Int) := by omega
      go_wp2
      go_ret
      exact ⟨rfl, HB3.out⟩
  · rw [show one01 true = 1 from rfl]
    go_wp2
    go_ret
    exact ⟨rfl, HB2.out⟩
end Go.Proofs.YtkphpgdgbnmnjacGreatDoor
