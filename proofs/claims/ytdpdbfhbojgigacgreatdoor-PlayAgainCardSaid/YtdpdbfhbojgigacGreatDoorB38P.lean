/-
  Several texts as one: PaTwo, RingSm, CfHeavy, PlSl, PaWalk.
-/
import Derived.Test.YtdpdbfhbojgigacGreatDoorB37P
import Derived.Test.YtdpdbfhbojgigacGreatDoorB08P
import Derived.Test.YtdpdbfhbojgigacGreatDoorB33P
import Derived.Test.YtdpdbfhbojgigacGreatDoorB35P
import Derived.Test.YtdpdbfhbojgigacGreatDoorB25P
import Derived.Test.YtdpdbfhbojgigacGreatDoorB30P
import Derived.Test.YtdpdbfhbojgigacGreatDoorB23P
import Derived.Test.YtdpdbfhbojgigacGreatDoorB34P
import Derived.Laws.StructEq
import Derived.Deep.CutBlock
namespace Go.Proofs.YtdpdbfhbojgigacGreatDoor
open Go.RowKit Go.Extern.Stop Go.Stop Go.Extern

/-- Two watches, a with cells x, b with cells y; blocks of P are nobody's. -/
structure PaS (w0 V : World) (c : CfgD) (a x b y : Nat) (Ka Kb : KSt) (P : Nat → Prop) : Prop where
  ex : ∃ Fa Fb : Nat → Prop, KeAt Fa w0 V c a x Ka ∧ KeAt Fb w0 V c b y Kb ∧ (∀ k, Fa k → ¬ Fb k) ∧ (∀ k, Fa k → w0.heap.size ≤ k ∧ k < V.heap.size) ∧ (∀ k, Fb k → w0.heap.size ≤ k ∧ k < V.heap.size) ∧ ∀ k, P k → k < V.heap.size ∧ ¬ Fa k ∧ ¬ Fb k
section
variable {A : Nat → Addr} {w0 V V' : World} {c : CfgD} {a x b y k : Nat} {Ka Kb : KSt} {P P' : Nat → Prop}
theorem PaS.symm (h : PaS w0 V c a x b y Ka Kb P) : PaS w0 V c b y a x Kb Ka P := by
  obtain ⟨Fa, Fb, h1, h2, h3, h4, h5, h6⟩ := h.ex
  exact ⟨⟨Fb, Fa, h2, h1, fun k hb ha => h3 k ha hb, h5, h4, fun k hk => ⟨(h6 k hk).1, (h6 k hk).2.2, (h6 k hk).2.1⟩⟩⟩
theorem PaS.bel (h : PaS w0 V c a x b y Ka Kb P) : Below w0.heap.size w0 V := by
  obtain ⟨Fa, Fb, h1, -⟩ := h.ex
  exact h1.bel
theorem PaS.mono (h : PaS w0 V c a x b y Ka Kb P) (hP : ∀ k, P' k → P k) : PaS w0 V c a x b y Ka Kb P' := by
  obtain ⟨Fa, Fb, h1, h2, h3, h4, h5, h6⟩ := h.ex
  exact ⟨⟨Fa, Fb, h1, h2, h3, h4, h5, fun k hk => h6 k (hP k hk)⟩⟩
/-- Blocks are made. -/
theorem PaS.add (h : PaS w0 V c a x b y Ka Kb P) (hb : Below V.heap.size V V') (hP : ∀ k, P' k → P k ∨ (V.heap.size ≤ k ∧ k < V'.heap.size)) : PaS w0 V' c a x b y Ka Kb P' := by
  obtain ⟨Fa, Fb, h1, h2, h3, h4, h5, h6⟩ := h.ex
  refine ⟨⟨Fa, Fb, h1.below hb, h2.below hb, h3, fun k hk => ⟨(h4 k hk).1, Nat.lt_of_lt_of_le (h4 k hk).2 hb.size⟩, fun k hk => ⟨(h5 k hk).1, Nat.lt_of_lt_of_le (h5 k hk).2 hb.size⟩, fun k hk => ?_⟩⟩
  rcases hP k hk with h7 | ⟨h7, h8⟩
  · exact ⟨Nat.lt_of_lt_of_le (h6 k h7).1 hb.size, (h6 k h7).2⟩
  · exact ⟨h8, fun e => by have := (h4 k e).2; omega, fun e => by have := (h5 k e).2; omega⟩
/-- A block of nobody's is written, blocks are made. -/
theorem PaS.write (h : PaS w0 V c a x b y Ka Kb P) {S : Nat → Prop} (ho : Off S V V') (hS : ∀ k, S k → P k ∧ w0.heap.size ≤ k) (hP : ∀ k, P' k → P k ∨ (V.heap.size ≤ k ∧ k < V'.heap.size)) : PaS w0 V' c a x b y Ka Kb P' := by
  obtain ⟨Fa, Fb, h1, h2, h3, h4, h5, h6⟩ := h.ex
  refine ⟨⟨Fa, Fb, h1.off ho (fun k hk e => (h6 k (hS k e).1).2.1 hk) (fun k hk => (hS k hk).2), h2.off ho (fun k hk e => (h6 k (hS k e).1).2.2 hk) (fun k hk => (hS k hk).2), h3, fun k hk => ⟨(h4 k hk).1, Nat.lt_of_lt_of_le (h4 k hk).2 ho.size⟩, fun k hk => ⟨(h5 k hk).1, Nat.lt_of_lt_of_le (h5 k hk).2 ho.size⟩, fun k hk => ?_⟩⟩
  rcases hP k hk with h7 | ⟨h7, h8⟩
  · exact ⟨Nat.lt_of_lt_of_le (h6 k h7).1 ho.size, (h6 k h7).2⟩
  · exact ⟨h8, fun e => by have := (h4 k e).2; omega, fun e => by have := (h5 k e).2; omega⟩
/-- What a play of a leaves. -/
def PaOut (w0 V : World) (c : CfgD) (a x b y : Nat) (Ka Kb : KSt) (P : Nat → Prop) (l : List Int) (u : Ending) (V' : World) : Prop :=
  ∃ av, u = .returned av ∧ PaS w0 V' c a x b y (runK c Ka l) Kb (fun k => P k ∨ av.ownBlock = some k) ∧ SlOwn encI 1 3 V.heap.size V' av (ansK c Ka l) ∧ (∀ k, P k ∨ k < w0.heap.size → V'.heap[k]? = V.heap[k]?) ∧ V.heap.size ≤ V'.heap.size
theorem pa_run (l : List Int) (sa : Option Addr) (sc : Nat) (h : PaS w0 V c a x b y Ka Kb P) (hs : Senv A w0) (hr : KRt c) (hf : KFit c Ka k (144 * Ka.d.now)) (hn : k + Ka.d.now + 20 * l.length + 20 ≤ 800000) (hk : k + l.length < 1000)
    (hl : ∀ V', (∀ k, P k ∨ k < w0.heap.size → V'.heap[k]? = V.heap[k]?) → V.heap.size ≤ V'.heap.size → SlAt encI 1 V' (.slice sa l.length sc) l) (hv : ∀ v ∈ l, v ≤ 9223372036854775807) :
    Calls Tryz.prog 44 #[.pointer (some ⟨a, 0, none⟩), .pointer (some ⟨x, 0, none⟩), .slice sa l.length sc] V fun u V' => PaOut w0 V c a x b y Ka Kb P l u V' := by
  obtain ⟨Fa, Fb, h1, h2, h3, h4, h5, h6⟩ := h.ex
  have hz := h1.bel.size
  have keep : ∀ U, Off Fa V U → ∀ k, P k ∨ k < w0.heap.size → U.heap[k]? = V.heap[k]? := fun U hU k hk => by
    rcases hk with hk | hk
    · exact hU.block k (h6 k hk).1 (h6 k hk).2.1
    · exact hU.block k (by omega) (fun e => by have := (h4 k e).1; omega)
  refine (pl_run (A := A) l sa sc h1 (fun k hk => (h4 k hk).2) hs hr hf hn hk (fun U hU => hl U (keep U hU) hU.size) hv).mono ?_
  rintro u U ⟨av, rfl, hL⟩
  obtain ⟨G, g1, g2, g3⟩ := hL.at'
  have hof := hL.off
  refine ⟨av, rfl, ⟨⟨G, Fb, g1, h2.off hof (fun k hb ha => h3 k ha hb) (fun k hk => (h4 k hk).1), fun k hg hb => ?_, fun k hg => ?_, fun k hb => ⟨(h5 k hb).1, Nat.lt_of_lt_of_le (h5 k hb).2 hof.size⟩, fun k hk => ?_⟩⟩, hL.own, keep U hof, hof.size⟩
  · rcases g2 k hg with h7 | ⟨h7, _⟩
    · exact h3 k h7 hb
    · have := (h5 k hb).2; omega
  · rcases g2 k hg with h7 | ⟨h7, h8⟩
    · exact ⟨(h4 k h7).1, Nat.lt_of_lt_of_le (h4 k h7).2 hof.size⟩
    · exact ⟨by omega, h8⟩
  · rcases hk with hk | hk
    · refine ⟨Nat.lt_of_lt_of_le (h6 k hk).1 hof.size, fun hg => ?_, (h6 k hk).2.2⟩
      rcases g2 k hg with h7 | ⟨h7, _⟩
      · exact (h6 k hk).2.1 h7
      · have := (h6 k hk).1; omega
    · exact ⟨(hL.own.lt k hk).2, g3 k hk, fun hb => by have := (h5 k hb).2; have := (hL.own.lt k hk).1; omega⟩
end
end Go.Proofs.YtdpdbfhbojgigacGreatDoor

namespace Go.Proofs.YtdpdbfhbojgigacGreatDoor
open Go.RowKit Go.Extern.Stop Go.Stop Go.Extern

/-- Records that can be read at an address. -/
structure Reads (w : World) (sa : Option Addr) (L : List Rec) : Prop where
  at' : L ≠ [] → ∃ g o, sa = some ⟨g, o, .none⟩ ∧ ∀ i (h : i < L.length), w.cell? ⟨g, o + i * 4, .none⟩ = some (.int .i64 (L[i].seq : Int)) ∧ w.cell? ⟨g, o + i * 4 + 1, .none⟩ = some (.int .i64 (L[i].ent : Int)) ∧ w.cell? ⟨g, o + i * 4 + 2, .none⟩ = some (.int .i64 (L[i].kind : Int)) ∧ w.cell? ⟨g, o + i * 4 + 3, .none⟩ = some (.int .i64 (L[i].tick : Int))
theorem Recs.reads {w : World} {B : Nat} {sa : Option Addr} {n c : Nat} {L : List Rec} (h : Recs w B (.slice sa n c) L) : Reads w sa L ∧ n = L.length := by
  rcases h.row_form with ⟨e, rfl⟩ | ⟨g, cap, e, -, hrow, -, -⟩
  · cases e; exact ⟨⟨fun h => absurd rfl h⟩, rfl⟩
  · simp only [Value.slice.injEq] at e
    obtain ⟨rfl, rfl, rfl⟩ := e
    refine ⟨⟨fun _ => ⟨g, 0, rfl, fun i hi => ?_⟩⟩, rfl⟩
    simp only [Nat.zero_add]
    exact (hrow.cells i hi).1
theorem Reads.drewN {w : World} {sa : Option Addr} {L : List Rec} (h : Reads w sa L) (q : Nat) : Reads (w.drewN q) sa L := ⟨h.at'⟩
theorem Reads.below {w w' : World} {sa : Option Addr} {L : List Rec} (h : Reads w sa L) (hb : Below w.heap.size w w') : Reads w' sa L :=
  ⟨fun hn => by
    obtain ⟨g, o, e, hc⟩ := h.at' hn
    exact ⟨g, o, e, fun i hi => ⟨cell_below hb (hc i hi).1, cell_below hb (hc i hi).2.1, cell_below hb (hc i hi).2.2.1, cell_below hb (hc i hi).2.2.2⟩⟩⟩

set_option maxRecDepth 100000 in
set_option maxHeartbeats 1000000 in
theorem same_any (sa sb : Option Addr) (ca cb : Nat) (L : List Rec) (w : World) (ha : Reads w sa L) (hb : Reads w sb L) (hl : L.length ≤ 100) :
    Calls Tryz.prog 47 #[.slice sa L.length ca, .slice sb L.length cb] w fun e w' => e = .returned (.bool true) ∧ Below w.heap.size w w' := by
  go_enter Tryz.func47, Tryz.ntmps47
  go_wp2_with fail
  go_loopw [5] (fun i wr => ∃ k : Nat, k ≤ L.length ∧ i = .int .i64 k ∧ Below w.heap.size w wr) (fun i _ => L.length - (intOf i).toNat)
  case atStart => exact ⟨0, Nat.zero_le _, rfl, Below.refl _ _⟩
  case round =>
    obtain ⟨k, hk, rfl, hbl⟩ := hrel
    by_cases hlt : k < L.length
    · obtain ⟨ga, oa, rfl, hca⟩ := (ha.below hbl).at' (by intro e; rw [e] at hlt; simp at hlt)
      obtain ⟨gb, ob, rfl, hcb⟩ := (hb.below hbl).at' (by intro e; rw [e] at hlt; simp at hlt)
      obtain ⟨a0, a1, a2, a3⟩ := hca k hlt
      obtain ⟨b0, b1, b2, b3⟩ := hcb k hlt
      have k0 : (0 : Int) ≤ (k : Int) := by omega
      have k1 : (k : Int) < (L.length : Int) := by omega
      clear hca hcb
      generalize L[k] = x at *
      go_wp2_with fail
      go_quiet (fail)
      go_wp2_with fail
      exact ⟨⟨k + 1, by omega, by go_num, below_drewN hbl _⟩, by simp [intOf]; omega⟩
    · go_wp2
      go_ret
      exact ⟨rfl, hbl⟩
end Go.Proofs.YtdpdbfhbojgigacGreatDoor

namespace Go.Proofs.YtdpdbfhbojgigacGreatDoor
open Go.RowKit Go.Extern.Stop Go.Stop Go.Extern

def heavyC (c : CfgD) : Bool := decide (12 < c.ents.length) || c.ents.any heavyE
theorem heavyC_small {c : CfgD} (h : heavyC c = false) : SmallC c := by
  unfold heavyC at h
  simp only [Bool.or_eq_false_iff, decide_eq_false_iff_not] at h
  exact ⟨by omega, fun e he => heavyE_small (by simpa using List.any_eq_false.1 h.2 e he)⟩
set_option maxHeartbeats 2000000 in
set_option maxRecDepth 100000 in
theorem heavyC_at (c : CfgD) (sa : Option Addr) (sc : Nat) (w : World) (hE : EntsAt w (.slice sa c.ents.length sc) c.ents) :
    Calls Tryz.prog 11 #[.agg #[.int .i64 c.closed, .int .i64 c.opn, .int .i64 c.cycle, .int .i64 c.delay, .slice sa c.ents.length sc]] w fun v w' => v = .returned (.int .i64 (one01 (heavyC c))) ∧ Below w.heap.size w w' := by
  have HE : Hid (EntsAt w (.slice sa c.ents.length sc) c.ents) := hE
  clear hE
  by_cases h0 : 12 < c.ents.length
  · have HV : Hid (heavyC c = true) := by show _ = _; unfold heavyC; simp [h0]
    have g0 : (12 : Int) < (c.ents.length : Int) := by omega
    clear h0
    go_enter Tryz.func11, Tryz.ntmps11
    go_wp2
    go_ret
    exact ⟨by first | rfl | (rw [HV.out]; rfl), Below.one _ _⟩
  have g0 : ¬ (12 : Int) < (c.ents.length : Int) := by omega
  have HV0 : Hid (heavyC c = c.ents.any heavyE) := by show _ = _; unfold heavyC; simp [h0]
  have HLn : Hid (c.ents.length ≤ 12) := by show _ ≤ _; omega
  clear h0
  go_enter Tryz.func11, Tryz.ntmps11
  go_upto_region 3 with fail
  obtain ⟨W0, hW0⟩ : ∃ V, V = w.alloc (.cells #[.int .i64 c.closed, .int .i64 c.opn, .int .i64 c.cycle, .int .i64 c.delay, .slice sa c.ents.length sc] 24) := ⟨_, rfl⟩
  rw [← hW0]
  have HX : Hid (W0.heap[w.heap.size]? = some (.cells #[.int .i64 c.closed, .int .i64 c.opn, .int .i64 c.cycle, .int .i64 c.delay, .slice sa c.ents.length sc] 24 (0, 0))) := by show _ = _; rw [hW0]; exact heap_alloc_new w _
  have HBl0 : Hid (Below w.heap.size w W0) := by show Below _ _ _; rw [hW0]; exact Below.one _ _
  clear hW0 g0
  go_wp2_with fail
  go_loopw [3] (fun i wr => ∃ k : Nat, k ≤ c.ents.length ∧ i = .int .i64 k ∧ Below W0.heap.size W0 wr ∧ Hid (∀ (j : Nat) q, j < k → c.ents[j]? = some q → heavyE q = false)) (fun i _ => c.ents.length - (intOf i).toNat)
  case atStart => exact ⟨0, Nat.zero_le _, rfl, Below.refl _ _, fun j q hj => absurd hj (Nat.not_lt_zero _)⟩
  case round =>
    obtain ⟨k, hk, rfl, hb0, hall⟩ := hrel
    have hbl : Below w.heap.size w wr := HBl0.out.trans (hb0.mono HBl0.out.size)
    have s4 : wr.cell? ⟨w.heap.size, 4, none⟩ = some (.slice sa c.ents.length sc) := by have := row_below hb0 HX.out; simp [World.cell?, this]
    have HB : Hid (Below W0.heap.size W0 wr) := hb0
    by_cases hlt : k < c.ents.length
    · obtain ⟨e, hq⟩ : ∃ e, c.ents[k]? = some e := ⟨_, List.getElem?_eq_getElem hlt⟩
      obtain ⟨sa2, cap2, hsl, hcc⟩ := HE.out
      cases hsl
      obtain ⟨b, o, rfl, hc0⟩ := hcc (fun h => by rw [h] at hq; simp at hq)
      obtain ⟨pv, gv, ev, fv, lv, hparts, hcell⟩ := hc0 k e hq
      obtain ⟨pa, pc, rfl, -, -⟩ := id hparts.hp
      obtain ⟨ga, gc, rfl, -, -⟩ := id hparts.hg
      obtain ⟨ea, ec, rfl, -, -⟩ := id hparts.he
      obtain ⟨fa, fc, rfl, -, -⟩ := id hparts.hf
      obtain ⟨la, lc, rfl, -, -⟩ := id hparts.hl
      have c0 : wr.cell? ⟨b, o + k * 10, none⟩ = some (.string e.name) := cell_below hbl (hcell 0 _ rfl)
      have c1 : wr.cell? ⟨b, o + k * 10 + 1, none⟩ = some (.int .i64 e.tol) := cell_below hbl (hcell 1 _ rfl)
      have c2 : wr.cell? ⟨b, o + k * 10 + 2, none⟩ = some (.slice pa e.pts.length pc) := cell_below hbl (hcell 2 _ rfl)
      have c3 : wr.cell? ⟨b, o + k * 10 + 3, none⟩ = some (.int .i64 e.cnt) := cell_below hbl (hcell 3 _ rfl)
      have c4 : wr.cell? ⟨b, o + k * 10 + 4, none⟩ = some (.int .i64 e.mn) := cell_below hbl (hcell 4 _ rfl)
      have c5 : wr.cell? ⟨b, o + k * 10 + 5, none⟩ = some (.int .i64 e.mx) := cell_below hbl (hcell 5 _ rfl)
      have c6 : wr.cell? ⟨b, o + k * 10 + 6, none⟩ = some (.slice ga e.gaps.length gc) := cell_below hbl (hcell 6 _ rfl)
      have c7 : wr.cell? ⟨b, o + k * 10 + 7, none⟩ = some (.slice ea e.edges.length ec) := cell_below hbl (hcell 7 _ rfl)
      have c8 : wr.cell? ⟨b, o + k * 10 + 8, none⟩ = some (.slice fa e.first.length fc) := cell_below hbl (hcell 8 _ rfl)
      have c9 : wr.cell? ⟨b, o + k * 10 + 9, none⟩ = some (.slice la e.last.length lc) := cell_below hbl (hcell 9 _ rfl)
      have HQ : Hid (c.ents[k]? = some e) := hq
      have HC0 := heavyE_at e pa ga ea fa la pc gc ec fc lc wr (hparts.hp.below hbl)
      have k1 : (k : Int) < (c.ents.length : Int) := by omega
      have k2 : (0 : Int) ≤ (k : Int) := by omega
      have k0 : k < 12 := by have := HLn.out; omega
      cases hh : heavyE e with
      | true =>
        rw [hh, show one01 true = 1 from rfl] at HC0
        have HC : Hid _ := HC0
        have HM : Hid (heavyC c = true) := by show _ = _; rw [HV0.out]; exact List.any_eq_true.2 ⟨e, List.mem_of_getElem? hq, hh⟩
        have HBl : Hid (Below w.heap.size w wr) := hbl
        clear HC0 hh hq hcell hparts hcc hc0 hb0 hbl
        go_wp2_with fail
        refine Calls.mono HC.out ?_
        rintro v W1 ⟨rfl, hb1⟩
        go_wp2
        go_ret
        exact ⟨by first | rfl | (rw [HM.out]; rfl), HBl.out.trans (hb1.mono HBl.out.size)⟩
      | false =>
        rw [hh, show one01 false = 0 from rfl] at HC0
        have HC : Hid _ := HC0
        have HH : Hid (heavyE e = false) := hh
        clear HC0 hh hq hcell hparts hcc hc0 hb0 hbl
        go_wp2_with fail
        refine Calls.mono HC.out ?_
        rintro v W1 ⟨rfl, hb1⟩
        have HB1 : Hid (Below W0.heap.size W0 W1) := HB.out.trans (hb1.mono HB.out.size)
        clear hb1
        go_wp2
        go_roundw
        case rel =>
          refine ⟨k + 1, by omega, by go_num, HB1.out, fun j q' hj he => ?_⟩
          by_cases hjk : j = k
          · subst hjk
            have h2 := HQ.out
            rw [h2] at he
            cases he
            exact HH.out
          · exact hall.out j q' (by omega) he
        case measure => simp [intOf]; omega
    · have k1 : ¬ (k : Int) < (c.ents.length : Int) := by omega
      have HN : Hid (heavyC c = false) := by
        show _ = _
        rw [HV0.out, List.any_eq_false]
        intro q hq
        obtain ⟨j, hj, rfl⟩ := List.getElem_of_mem hq
        have := hall.out j _ (by omega) (List.getElem?_eq_getElem hj)
        simpa using this
      have HBl : Hid (Below w.heap.size w wr) := hbl
      clear hb0 hbl
      go_wp2
      go_ret
      exact ⟨by first | rfl | (rw [HN.out]; rfl), HBl.out⟩
end Go.Proofs.YtdpdbfhbojgigacGreatDoor

namespace Go.Proofs.YtdpdbfhbojgigacGreatDoor
open Go.RowKit Go.Extern.Stop Go.Stop Go.Extern

theorem own_base {α : Type} {enc : α → List Value} {k : Nat} {T : TypeId} {B B' : Nat} {w : World} {v : Value} {xs : List α} (h : SlOwn enc k T B w v xs) (hB : B' ≤ B) : SlOwn enc k T B' w v xs := by
  rcases h with ⟨h1, h2 | ⟨g, cap, cur, h3, h4, h5⟩⟩
  · exact ⟨h1, Or.inl h2⟩
  · exact ⟨h1, Or.inr ⟨g, cap, cur, h3, Nat.le_trans hB h4, h5⟩⟩
section
variable {w : World} {sl : Option Addr} {slc n : Nat} {l : List Int}
theorem slat_facts (h : SlAt encI 1 w (.slice sl l.length slc) l) (n : Nat) : l.length ≤ slc ∧ Option.map (fun x : Addr => x.add 0) sl = sl ∧ ∃ S2, (if slc = n then sl else Option.map (fun x : Addr => x.add n) sl) = S2 := by
  obtain ⟨sa', cap', h1, h2, -⟩ := h
  cases h1
  exact ⟨h2, by cases sl with | none => rfl | some a => simp [add_zero'], _, rfl⟩
theorem slat_take (h : SlAt encI 1 w (.slice sl l.length slc) l) (hn : n ≤ l.length) : SlAt encI 1 w (.slice sl n slc) (l.take n) := by
  obtain ⟨sa', cap', h1, h2, h3⟩ := h
  cases h1
  refine ⟨sl, slc, by rw [List.length_take, Nat.min_eq_left hn], by rw [List.length_take]; omega, fun hne => ?_⟩
  obtain ⟨b, o, e, hc⟩ := h3 (fun e => hne (by rw [e, List.take_nil]))
  refine ⟨b, o, e, fun i y hy j u hu => hc i y ?_ j u hu⟩
  rw [List.getElem?_take] at hy
  split at hy
  · exact hy
  · cases hy
theorem slat_low {V : World} {v : Value} (h : SlAt encI 1 w v l) (hV : ∀ k, k < w.heap.size → V.heap[k]? = w.heap[k]?) : SlAt encI 1 V v l := by
  obtain ⟨sa, cap, rfl, hle, hc⟩ := h
  refine ⟨sa, cap, rfl, hle, fun hne => ?_⟩
  obtain ⟨b, o, e, hc2⟩ := hc hne
  refine ⟨b, o, e, fun i y hy j u hu => ?_⟩
  have h1 := hc2 i y hy j u hu
  rw [← h1]
  exact World.cell?_of_block (hV b (block_lt h1))
theorem slat_drop (h : SlAt encI 1 w (.slice sl l.length slc) l) (hn : n ≤ l.length) : SlAt encI 1 w (.slice (if slc = n then sl else Option.map (fun x : Addr => x.add n) sl) (l.length - n) (slc - n)) (l.drop n) := by
  obtain ⟨sa', cap', h1, h2, h3⟩ := h
  cases h1
  refine ⟨_, slc - n, by rw [List.length_drop], by rw [List.length_drop]; omega, fun hne => ?_⟩
  have hlt : n < l.length := by
    rcases Nat.lt_or_ge n l.length with h | h
    · exact h
    · exact absurd (List.drop_eq_nil_of_le h) hne
  obtain ⟨b, o, e, hc⟩ := h3 (fun e => by rw [e] at hlt; cases hlt)
  subst e
  have ea : (⟨b, o, none⟩ : Addr).add n = ⟨b, o + n, none⟩ := by unfold Addr.add; split <;> simp_all
  refine ⟨b, o + n, by rw [if_neg (by omega)]; exact congrArg some ea, fun i y hy j u hu => ?_⟩
  rw [List.getElem?_drop] at hy
  have := hc (n + i) y hy j u hu
  rw [show o + n + i * 1 + j = o + (n + i) * 1 + j by omega]
  exact this
end
end Go.Proofs.YtdpdbfhbojgigacGreatDoor

namespace Go.Proofs.YtdpdbfhbojgigacGreatDoor
open Go.RowKit Go.Extern.Stop Go.Stop Go.Extern

set_option maxRecDepth 100000 in
set_option maxHeartbeats 8000000 in
theorem pa_in (A : Nat → Addr) (c : CfgD) (sa : Option Addr) (sc : Nat) (l : List Int) (sl : Option Addr) (slc : Nat) (cut : Int) (w : World) (hs : Senv A w) (hE : EntsAt w (.slice sa c.ents.length sc) c.ents) (hI : SlAt encI 1 w (.slice sl l.length slc) l) (hlen : l.length ≤ 9223372036854775807) (hv : ∀ v ∈ l, v ≤ 9223372036854775807) :
    Calls Tryz.prog 8 #[.agg #[.int .i64 c.closed, .int .i64 c.opn, .int .i64 c.cycle, .int .i64 c.delay, .slice sa c.ents.length sc], .slice sl l.length slc, .int .i64 cut] w fun v w' => v = .returned (.bool true) ∧ Below w.heap.size w w' := by
  obtain ⟨i0, hi0, hz0, hz1, hz2⟩ := info_parts Tryz.infoIntP
  obtain ⟨W0, hW0⟩ : ∃ X, X = w.alloc (.cells #[.int .i64 c.closed, .int .i64 c.opn, .int .i64 c.cycle, .int .i64 c.delay, .slice sa c.ents.length sc] 24) := ⟨_, rfl⟩
  have b0 : Below w.heap.size w W0 := by rw [hW0]; exact Below.one _ _
  have r0 : W0.heap[w.heap.size]? = some (.cells #[.int .i64 c.closed, .int .i64 c.opn, .int .i64 c.cycle, .int .i64 c.delay, .slice sa c.ents.length sc] 24 (0, 0)) := by rw [hW0]; exact heap_alloc_new w _
  have y : ∀ V, Below W0.heap.size W0 V → (V.cell? ⟨w.heap.size, 0, none⟩ = some (.int .i64 c.closed) ∧ V.cell? ⟨w.heap.size, 1, none⟩ = some (.int .i64 c.opn) ∧ V.cell? ⟨w.heap.size, 2, none⟩ = some (.int .i64 c.cycle) ∧ V.cell? ⟨w.heap.size, 3, none⟩ = some (.int .i64 c.delay) ∧ V.cell? ⟨w.heap.size, 4, none⟩ = some (.slice sa c.ents.length sc)) := fun V hV => by
    have := row_below hV r0
    refine ⟨?_, ?_, ?_, ?_, ?_⟩ <;> simp [World.cell?, this]
  have HY : Hid _ := y
  have HB0 : Hid _ := b0
  have HWa : Hid _ := played_at A W0 (hs.below b0)
  have HE : Hid (∀ V, Below w.heap.size w V → EntsAt V (.slice sa c.ents.length sc) c.ents) := fun V hV => hE.below hV
  have HSv : Hid (∀ V, Below w.heap.size w V → Senv A V) := fun V hV => hs.below hV
  have HI : Hid (∀ V, Below w.heap.size w V → SlAt encI 1 V (.slice sl l.length slc) l) := fun V hV => hI.below hV
  have HVl : Hid (∀ v ∈ l, v ≤ 9223372036854775807) := hv
  have hlen' : (l.length : Int) ≤ 9223372036854775807 := by omega
  clear hs hE hI hv b0 r0 y
  go_enter Tryz.func8, Tryz.ntmps8
  go_upto_region 1 with fail
  rw [← hW0]
  clear hW0
  go_wp2_with fail
  refine Calls.mono HWa.out ?_
  rintro u w1 ⟨rfl, hb1⟩
  have HBb1 : Hid (Below W0.heap.size W0 w1) := hb1
  have HB1 : Hid (Below w.heap.size w w1) := HB0.out.trans (hb1.mono HB0.out.size)
  clear hb1 HWa
  obtain ⟨y0, y1, y2, y3, y4⟩ := HY.out w1 HBb1.out
  go_wp2_with fail
  clear y0 y1 y2 y3 y4
  refine Calls.mono (heavyC_at c sa sc w1 (HE.out w1 HB1.out)) ?_
  rintro u w2 ⟨rfl, hb2⟩
  have HBb2 : Hid (Below W0.heap.size W0 w2) := HBb1.out.trans (hb2.mono HBb1.out.size)
  have HB2 : Hid (Below w.heap.size w w2) := HB1.out.trans (hb2.mono HB1.out.size)
  clear hb2
  cases hh : heavyC c
  · rw [show one01 false = 0 from rfl]
    have HSm : Hid (SmallC c) := heavyC_small hh
    clear hh
    by_cases hl0 : 200 < l.length
    · have g1 : (200 : Int) < (l.length : Int) := by omega
      go_wp2
      go_ret
      exact ⟨rfl, HB2.out⟩
    have g1 : ¬ (200 : Int) < (l.length : Int) := by omega
    by_cases hcn : cut < 0
    · go_wp2
      go_ret
      exact ⟨rfl, HB2.out⟩
    by_cases hcl : (l.length : Int) < cut
    · go_wp2
      go_ret
      exact ⟨rfl, HB2.out⟩
    obtain ⟨y0, y1, y2, y3, y4⟩ := HY.out w2 HBb2.out
    go_wp2_with fail
    clear y0 y1 y2 y3 y4
    refine Calls.mono (cfault_at c sa sc w2 (HE.out w2 HB2.out) HSm.out) ?_
    rintro u w3 ⟨rfl, hb3⟩
    have HBb3 : Hid (Below W0.heap.size W0 w3) := HBb2.out.trans (hb3.mono HBb2.out.size)
    have HB3 : Hid (Below w.heap.size w w3) := HB2.out.trans (hb3.mono HB2.out.size)
    clear hb3
    obtain ⟨code, hcode⟩ : ∃ x, x = (cfgErr c).1 := ⟨_, rfl⟩
    rw [← hcode]
    have hfl := fld_fault (code : Int) (cfgErr c).2 w3
    have HCo : Hid (code = (cfgErr c).1) := hcode
    clear hcode
    by_cases hc0 : code = 0
    · subst hc0
      simp only [Int.ofNat_zero] at hfl ⊢
      have h0 : (cfgErr c).1 = 0 := HCo.out.symm
      have HR : Hid (KRt c) := krt_of h0
      have HC0 : Hid ((cfgErr c).1 = 0) := h0
      have HFr : Hid _ := fresh_at A c sa sc w3 (HSv.out w3 HB3.out).ten h0 (HE.out w3 HB3.out) HSm.out
      clear h0
      obtain ⟨y0, y1, y2, y3, y4⟩ := HY.out w3 HBb3.out
      go_wp2_with fail
      clear y0 y1 y2 y3 y4
      clear hfl
      refine Calls.mono HFr.out ?_
      rintro u w4 ⟨a, x, Fa, rfl, hat, hb4, hF4⟩
      have HB34 : Hid (Below w3.heap.size w3 w4) := hb4
      have HBb4 : Hid (Below W0.heap.size W0 w4) := HBb3.out.trans (hb4.mono HBb3.out.size)
      have HB4 : Hid (Below w.heap.size w w4) := HB3.out.trans (hb4.mono HB3.out.size)
      have HKa : Hid (KeAt Fa w3 w4 c a x (KSt.new c (CSt.new 4096))) := hat
      have HFa : Hid (∀ k, Fa k → w3.heap.size ≤ k ∧ k < w4.heap.size) := hF4
      have HFr2 : Hid _ := fresh_at A c sa sc w4 (HSv.out w4 HB4.out).ten HC0.out (HE.out w4 HB4.out) HSm.out
      clear hat hb4 hF4 HFr HBb1 HB1 HBb2 HB2 HSm
      obtain ⟨y0, y1, y2, y3, y4⟩ := HY.out w4 HBb4.out
      go_wp2_with fail
      clear y0 y1 y2 y3 y4
      refine Calls.mono HFr2.out ?_
      rintro u w5 ⟨b, y, Fb, rfl, hat, hb5, hF5⟩
      have HP5 : Hid (PaS w3 w5 c a x b y (KSt.new c (CSt.new 4096)) (KSt.new c (CSt.new 4096)) (fun _ => False)) := ⟨⟨Fa, Fb, KeAt.below HKa.out hb5, KeAt.rebase hat HB34.out, fun k h1 h2 => by have := (HFa.out k h1).2; have := (hF5 k h2).1; omega, fun k hk => ⟨(HFa.out k hk).1, Nat.lt_of_lt_of_le (HFa.out k hk).2 hb5.size⟩, fun k hk => ⟨Nat.le_trans HB34.out.size (hF5 k hk).1, (hF5 k hk).2⟩, fun k hk => hk.elim⟩⟩
      have HB5 : Hid (Below w.heap.size w w5) := HB4.out.trans (hb5.mono HB4.out.size)
      clear hat hb5 hF5 HFr2 HKa HFa HBb4 HB34
      obtain ⟨n, rfl⟩ : ∃ n : Nat, cut = (n : Int) := ⟨cut.toNat, by omega⟩
      have hnl : n ≤ l.length := by omega
      have hl2 : l.length ≤ 200 := by omega
      have HS3 : Hid (Senv A w3) := HSv.out w3 HB3.out
      have HK0 : Hid _ := kfit_new HR.out
      obtain ⟨K0, hK0⟩ : ∃ K0, K0 = KSt.new c (CSt.new 4096) := ⟨_, rfl⟩
      have hn0 : K0.d.now = 0 := by rw [hK0]; rfl
      rw [← hK0] at HP5 HK0
      clear hK0
      go_upto_region 10 with fail
      go_wp2_with (at_builtin; refine wpList_copy (w := w5) rfl _ _ 36 rfl w5.heap.size 3 i0 (.int .i64 0) 1 8 Tryz.underlying36 hi0 hz0 hz1 hz2 rfl (by decide) rfl encI (fun _ => rfl) encI_one (.slice sl l.length slc) (l) rfl (HI.out w5 HB5.out) (by omega) (by decide) (Nat.le_refl _) ?_; intro s6 c6 w6 hown6 hb6)
      have HP6 : Hid (PaS w3 w6 c a x b y K0 K0 (fun k => (Value.slice s6 l.length c6).ownBlock = some k)) := HP5.out.add hb6 (fun k hk => Or.inr (hown6.lt k hk))
      have HX : Hid _ := pa_run (A := A) l s6 c6 HP6.out HS3.out HR.out HK0.out (by omega) (by omega) (fun V hV _ => (SlOwn.same hown6 (fun g hg => hV g (Or.inl hg))).slat (fun _ => rfl)) HVl.out
      clear hown6 hb6 HP5 HB5
      go_wp2_with fail
      refine Calls.mono HX.out ?_
      rintro u w7 ⟨av, rfl, hp7, ho7, hk7, hz7⟩
      have HP7 : Hid (PaS w3 w7 c a x b y (runK c K0 l) K0 (fun k => av.ownBlock = some k)) := hp7.mono (fun k hk => Or.inr hk)
      have HO7 : Hid (SlOwn encI 1 3 w3.heap.size w7 av (ansK c K0 l)) := own_base ho7 (Nat.le_trans HP6.out.bel.size (Nat.le_refl _))
      have HB7 : Hid (Below w.heap.size w w7) := HB3.out.trans (hp7.bel.mono HB3.out.size)
      clear hp7 ho7 hk7 hz7 HX HP6
      -- the first part
      obtain ⟨hcap, hmap, S2, hS2⟩ := slat_facts (HI.out w7 HB7.out) n
      have HS2 : Hid (S2 = if slc = n then sl else Option.map (fun x : Addr => x.add n) sl) := hS2.symm
      have hcap2 : n ≤ slc := by omega
      obtain ⟨l1, hl1⟩ : ∃ l1, l1 = l.take n := ⟨_, rfl⟩
      obtain ⟨l2, hl2'⟩ : ∃ l2, l2 = l.drop n := ⟨_, rfl⟩
      have hT : l1.length = n := by rw [hl1, List.length_take]; omega
      have HT : Hid (l1.length = n) := hT
      have HT2 : Hid (l2.length = l.length - n) := by show _ = _; rw [hl2', List.length_drop]
      have HLL : Hid (l = l1 ++ l2) := by show _ = _; rw [hl1, hl2', List.take_append_drop]
      have HTa : Hid (∀ V, Below w.heap.size w V → SlAt encI 1 V (.slice sl n slc) l1) := fun V hV => by rw [hl1]; exact slat_take (HI.out V hV) hnl
      have HDr : Hid (SlAt encI 1 w (.slice S2 (l.length - n) (slc - n)) l2) := by show SlAt _ _ _ _ _; rw [HS2.out, hl2']; exact slat_drop (HI.out w (Below.refl _ _)) hnl
      have HV1 : Hid (∀ v ∈ l1, v ≤ 9223372036854775807) := fun v hv => HVl.out v (by rw [HLL.out]; exact List.mem_append_left _ hv)
      have HV2 : Hid (∀ v ∈ l2, v ≤ 9223372036854775807) := fun v hv => HVl.out v (by rw [HLL.out]; exact List.mem_append_right _ hv)
      clear hl1 hl2' hT
      go_upto_region 11 with fail
      go_wp2_with (at_builtin; refine wpList_copy (w := w7) rfl _ _ 36 rfl w7.heap.size 3 i0 (.int .i64 0) 1 8 Tryz.underlying36 hi0 hz0 hz1 hz2 rfl (by decide) rfl encI (fun _ => rfl) encI_one (.slice sl n slc) (l1) rfl (HTa.out w7 HB7.out) (by have := HT.out; omega) (by decide) (Nat.le_refl _) ?_; intro s8 c8 w8 hown8 hb8)
      have HP8 : Hid (PaS w3 w8 c b y a x K0 (runK c K0 l) (fun k => av.ownBlock = some k ∨ (Value.slice s8 l1.length c8).ownBlock = some k)) := (HP7.out.add hb8 (fun k hk => hk.imp id (fun h => hown8.lt k h))).symm
      have HO8 : Hid (SlOwn encI 1 3 w3.heap.size w8 av (ansK c K0 l)) := SlOwn.below HO7.out hb8
      have HX : Hid _ := pa_run (A := A) l1 s8 c8 HP8.out HS3.out HR.out HK0.out (by have := HT.out; omega) (by have := HT.out; omega) (fun V hV _ => (SlOwn.same hown8 (fun g hg => hV g (Or.inl (Or.inr hg)))).slat (fun _ => rfl)) HV1.out
      have HZ8 : Hid (∀ k, av.ownBlock = some k → k < w8.heap.size) := fun k hk => (World.ownsRow.lt HO8.out k hk).2
      clear hown8 hb8 HO7
      go_wp2_with fail
      refine Calls.mono HX.out ?_
      rintro u w9 ⟨av2, rfl, hp9, ho9, hk9, hz9⟩
      have HP9 : Hid (PaS w3 w9 c b y a x (runK c K0 l1) (runK c K0 l) (fun k => av.ownBlock = some k ∨ av2.ownBlock = some k)) := hp9.mono (fun k hk => hk.imp Or.inl id)
      have HO9 : Hid (SlOwn encI 1 3 w3.heap.size w9 av (ansK c K0 l)) := SlOwn.same HO8.out (fun g hg => hk9 g (Or.inl (Or.inl hg)))
      have HA9 : Hid (SlOwn encI 1 3 w3.heap.size w9 av2 (ansK c K0 l1)) := own_base ho9 HP8.out.bel.size
      have HNe : Hid (∀ k, av.ownBlock = some k → av2.ownBlock ≠ some k) := fun k h1 h2 => by have a1 := HZ8.out k h1; have a2 := (ho9.lt k h2).1; omega
      have HB9 : Hid (Below w.heap.size w w9) := HB3.out.trans (hp9.bel.mono HB3.out.size)
      obtain ⟨f1, f2⟩ := runK_fit HR.out l1 K0 0 HK0.out (by have := HT.out; omega)
      have HX2 : Hid _ := pa_run (A := A) (k := 0 + l1.length) l2 S2 (slc - n) HP9.out HS3.out HR.out f1 (by have := HT.out; have := HT2.out; omega) (by have := HT.out; have := HT2.out; omega) (fun V hV _ => by
        rw [HT2.out]
        exact slat_low HDr.out (fun k hk => (hV k (Or.inr (Nat.lt_of_lt_of_le hk HB3.out.size))).trans (HB9.out.block k hk))) HV2.out
      rw [HT2.out] at HX2
      clear hp9 ho9 hk9 hz9 HX HP8 HO8 HZ8 f1 f2
      have HKK : Hid (runK c (runK c K0 l1) l2 = runK c K0 l ∧ ansK c K0 l = ansK c K0 l1 ++ ansK c (runK c K0 l1) l2) := ⟨by rw [← runK_append, ← HLL.out], by rw [← ansK_append, ← HLL.out]⟩
      have hal : (ansK c K0 l1).length ≤ 200 := by rw [ansK_length]; have := HT.out; omega
      have ha2 : (ansK c (runK c K0 l1) l2).length ≤ 200 := by rw [ansK_length]; have := HT2.out; omega
      have hL8 : (runK c K0 l).L.length ≤ 8 := (runK_fit HR.out l K0 0 HK0.out (by omega)).1.llen
      have hA0 : (ansK c K0 l).length ≤ 1000 := by rw [ansK_length]; omega
      generalize runK c K0 l1 = K1 at HP9 HX2 HKK ha2
      generalize runK c K0 l = K2 at HP7 HP9 HX2 HKK hL8
      generalize ansK c K0 l = AL at HO9 HKK hA0
      generalize ansK c K0 l1 = A1 at HA9 HKK hal
      go_upto_region 12 with fail
      go_wp2_with fail
      refine Calls.mono HX2.out ?_
      rintro u w10 ⟨av3, rfl, hp10, ho10, hk10, hz10⟩
      rw [HKK.out.1] at hp10
      have HP10 : Hid _ := hp10
      generalize ansK c K1 l2 = A2 at ho10 HKK ha2
      obtain ⟨va, vc, rfl⟩ := ow_form HA9.out
      have HO10 : Hid (SlOwn encI 1 3 w3.heap.size w10 av AL) := SlOwn.same HO9.out (fun g hg => hk10 g (Or.inl (Or.inl hg)))
      have HA10 : Hid (SlOwn encI 1 3 w3.heap.size w10 (.slice va A1.length vc) A1) := SlOwn.same HA9.out (fun g hg => hk10 g (Or.inl (Or.inr hg)))
      have HAv3 : Hid (SlAt encI 1 w10 av3 A2) := ho10.slat (fun _ => rfl)
      have hz3 : w3.heap.size ≤ w10.heap.size := hp10.bel.size
      have HEq : Hid (AL = A1 ++ A2) := HKK.out.2
      clear hp10 ho10 hk10 hz10 HX2 HP9 HO9 HA9 HKK
      go_wp2_with (at_builtin; refine wpList_appends (w := w10) rfl _ _ 36 rfl w3.heap.size 3 i0 (.int .i64 0) 1 8 Tryz.underlying36 hi0 hz0 hz1 hz2 rfl (by decide) encI (fun _ => rfl) encI_one va vc A1 rfl HA10.out av3 A2 rfl HAv3.out (by omega) (by omega) (by decide) hz3 ?_; intro s11 c11 w11 hown11 hg11; generalize A1 ++ A2 = A3 at HEq hown11 ⊢)
      obtain rfl : AL = A3 := HEq.out
      have hof : Off (fun k => (Value.slice va A1.length vc).ownBlock = some k) w10 w11 := ⟨hg11.os, hg11.tape, hg11.output, hg11.size, fun k hk hn => hg11.block k hk (fun e => hn e.symm)⟩
      have HP11 : Hid (PaS w3 w11 c b y a x K2 K2 (fun _ => False)) := HP10.out.write hof (fun k hk => ⟨Or.inl (Or.inr hk), (World.ownsRow.lt HA10.out k hk).1⟩) (fun k hk => hk.elim)
      obtain ⟨sv, ac, rfl⟩ := ow_form HO10.out
      have HO11 : Hid (SlOwn encI 1 3 w3.heap.size w11 (.slice sv AL.length ac) AL) := SlOwn.same HO10.out (fun g hg => hof.block g (World.ownsRow.lt HO10.out g hg).2 (HNe.out g hg))
      have HX3 : Hid _ := sameInts_at AL sv s11 ac c11 w11 (SlOwn.slat HO11.out (fun _ => rfl)) (SlOwn.slat hown11 (fun _ => rfl)) (by omega)
      clear hown11 hg11 hof HP10 HA10 HAv3 HO10 HO11 HEq HNe
      go_wp2_with fail
      refine Calls.mono HX3.out ?_
      rintro u w12 ⟨rfl, hb12⟩
      obtain ⟨Fb, Fa, q1, q2, -⟩ := HP11.out.ex
      have HKa : Hid (∀ V, Below w12.heap.size w12 V → KeAt Fa w3 V c a x K2) := fun V hV => (KeAt.below q2 hb12).below hV
      have HKb : Hid (∀ V, Below w12.heap.size w12 V → KeAt Fb w3 V c b y K2) := fun V hV => (KeAt.below q1 hb12).below hV
      have HB12 : Hid (Below w.heap.size w w12) := HB3.out.trans ((KeAt.below q1 hb12).bel.mono HB3.out.size)
      have HBx : Hid (∀ V, Below w12.heap.size w12 V → Calls Tryz.prog 46 #[.pointer (some ⟨x, 0, none⟩)] V fun e w' => e = .returned (.string ⟨(K2.c.bytes.take K2.c.size).toArray⟩) ∧ Below V.heap.size V w') := fun V hV => (bytes_any x K2.c V (KeAt.cellsAt (HKa.out V hV))).mono (by rintro e w' ⟨rfl, q, rfl⟩; exact ⟨rfl, below_drewN (Below.refl _ _) _⟩)
      have HBy : Hid (∀ V, Below w12.heap.size w12 V → Calls Tryz.prog 46 #[.pointer (some ⟨y, 0, none⟩)] V fun e w' => e = .returned (.string ⟨(K2.c.bytes.take K2.c.size).toArray⟩) ∧ Below V.heap.size V w') := fun V hV => (bytes_any y K2.c V (KeAt.cellsAt (HKb.out V hV))).mono (by rintro e w' ⟨rfl, q, rfl⟩; exact ⟨rfl, below_drewN (Below.refl _ _) _⟩)
      have HSa : Hid (∀ V, Below w12.heap.size w12 V → Calls Tryz.prog 20 #[.pointer (some ⟨a, 0, none⟩)] V fun e w' => e = .returned (.string (stateB K2.on)) ∧ w' = V) := fun V hV => kat_state (HKa.out V hV)
      have HSb : Hid (∀ V, Below w12.heap.size w12 V → Calls Tryz.prog 20 #[.pointer (some ⟨b, 0, none⟩)] V fun e w' => e = .returned (.string (stateB K2.on)) ∧ w' = V) := fun V hV => kat_state (HKb.out V hV)
      generalize (⟨(K2.c.bytes.take K2.c.size).toArray⟩ : ByteArray) = X at HBx HBy
      generalize stateB K2.on = Y at HSa HSb
      have HL8 : Hid (K2.L.length ≤ 8) := hL8
      clear q1 q2 hb12 HX3 HP11
      go_wp2_with fail
      refine Calls.mono (HBx.out w12 (Below.refl _ _)) ?_
      rintro u w13 ⟨rfl, hb13⟩
      have HB13 : Hid (Below w12.heap.size w12 w13) := hb13
      clear hb13
      go_wp2_with fail
      refine Calls.mono (HBy.out w13 HB13.out) ?_
      rintro u w14 ⟨rfl, hb14⟩
      have HB14 : Hid (Below w12.heap.size w12 w14) := HB13.out.trans (hb14.mono HB13.out.size)
      clear hb14 HB13
      go_wp2_with fail
      refine Calls.mono (HSa.out w14 HB14.out) ?_
      rintro u w14 ⟨rfl, rfl⟩
      go_wp2_with fail
      refine Calls.mono (HSb.out w14 HB14.out) ?_
      rintro u w14 ⟨rfl, rfl⟩
      go_wp2_with fail
      refine Calls.mono (ke_log (HKa.out w14 HB14.out) HL8.out) ?_
      rintro u w15 ⟨v15, rfl, hr15, hb15⟩
      have HB15 : Hid (Below w12.heap.size w12 w15) := HB14.out.trans (hb15.mono HB14.out.size)
      obtain ⟨s15, c15, rfl⟩ := hr15.len
      have HR15 : Hid (Reads w15 s15 K2.L) := hr15.reads.1
      clear hb15 hr15 HB14
      go_wp2_with fail
      refine Calls.mono (ke_log (HKb.out w15 HB15.out) HL8.out) ?_
      rintro u w16 ⟨v16, rfl, hr16, hb16⟩
      have HB16 : Hid (Below w12.heap.size w12 w16) := HB15.out.trans (hb16.mono HB15.out.size)
      obtain ⟨s16, c16, rfl⟩ := hr16.len
      have HX5 : Hid _ := same_any s15 s16 c15 c16 K2.L w16 (HR15.out.below hb16) hr16.reads.1 (by have := HL8.out; omega)
      clear hb16 hr16 HB15
      go_wp2_with fail
      refine Calls.mono HX5.out ?_
      rintro u w17 ⟨rfl, hb17⟩
      have HB17 : Hid (Below w.heap.size w w17) := HB12.out.trans ((HB16.out.trans (hb17.mono HB16.out.size)).mono HB12.out.size)
      clear hb17 HX5
      go_wp2
      go_ret
      exact ⟨rfl, HB17.out⟩
    · have g0 : 0 < (code : Int) := by omega
      go_wp2
      go_ret
      exact ⟨rfl, HB3.out⟩
  · rw [show one01 true = 1 from rfl]
    go_wp2
    go_ret
    exact ⟨rfl, HB2.out⟩
end Go.Proofs.YtdpdbfhbojgigacGreatDoor
