/-
  Proved: nightwatchlaw1.CellsActs answers true for every text, size and list of acts; each argument reads afterwards as it read before. Conditions: those of the given card alone (the api's sentinels and errors.errorType are as the program's own text lays them).
-/
import Derived.Test.YtebdepbnhemnpaaDoorCards
import Derived.Test.YtebdepbnhemnpaaDoorTie
import Derived.Test.YtebdepbnhemnpaaDoorLaid
import Derived.Test.YtebdepbnhemnpaaDoorActs
import Derived.Test.YtebdepbnhemnpaaDoorActsLong
import Derived.ProofKit
import Derived.OpenShut
import Derived.Stop.Joined
import Derived.SevenTiedAt
import Derived.Deep.Slices
import Derived.Carry
namespace Go.Proofs.YtebdepbnhemnpaaDoor
open Go.ChangeShapes Go.WideShapes Go.ChangeAt Go.RowKit Go.Deep
open Go.ChangeMaps (open_string shut_string)

set_option maxRecDepth 100000 in
set_option maxHeartbeats 2000000 in
theorem cellsActs_any (A : Nat → Addr) (t : ByteArray) (size : Int) (sa : Option Addr) (g o len cap : Nat) (l : Nat → ActD) (w : World) (hs : Senv A w) (hsa : 0 < len → sa = some ⟨g, o, none⟩) (hl : ActsAt w g o len l) (ht : t.size ≤ maxLen) (hlen : len ≤ maxLen)
    (hok : ∀ i, i < len → (l i).b.size ≤ maxLen ∧ (l i).kind.size ≤ maxLen ∧ -9223372036854775808 ≤ (l i).p ∧ (l i).p ≤ 9223372036854775807 ∧ -9223372036854775808 ≤ (l i).n ∧ (l i).n ≤ 9223372036854775807) :
    Calls Tryd.prog 5 #[.string t, .int .i64 size, .slice sa len cap] w fun e w' => e = .returned (.bool true) ∧ Below w.heap.size w w' := by
  by_cases h60 : len ≤ 60
  · by_cases h200 : t.size ≤ 200
    · exact cellsActs_in A t size sa g o len cap l w hs hsa hl h200 h60 hok
    by_cases h4 : 4096 < t.size
    · by_cases h6 : t.size ≤ 6000
      · exact cellsActs_long A t size sa len cap w hs h4 h6 h60
      · unfold maxLen at ht hlen
        have t1 : 200 < (t.size : Int) := by omega
        have t1' : ¬ (t.size : Int) ≤ 4096 := by omega
        have t2 : 6000 < (t.size : Int) := by omega
        clear hok hl hsa
        go_enter Tryd.func5, Tryd.ntmps5
        go_wp2_with fail
        refine (stays_any A _ hs).mono ?_
        rintro e w1 ⟨rfl, hb1⟩
        go_wp2
        go_ret
        exact ⟨rfl, hb1⟩
    · unfold maxLen at ht hlen
      have t1 : 200 < (t.size : Int) := by omega
      have t1' : (t.size : Int) ≤ 4096 := by omega
      clear hok hl hsa
      go_enter Tryd.func5, Tryd.ntmps5
      go_wp2_with fail
      refine (stays_any A _ hs).mono ?_
      rintro e w1 ⟨rfl, hb1⟩
      go_wp2
      go_ret
      exact ⟨rfl, hb1⟩
  · unfold maxLen at ht hlen
    have t3 : 60 < (len : Int) := by omega
    clear hok hl hsa
    by_cases t1 : 200 < (t.size : Int)
    · by_cases t1' : (t.size : Int) ≤ 4096
      · go_enter Tryd.func5, Tryd.ntmps5
        go_wp2_with fail
        refine (stays_any A _ hs).mono ?_
        rintro e w1 ⟨rfl, hb1⟩
        go_wp2
        go_ret
        exact ⟨rfl, hb1⟩
      · by_cases t2 : 6000 < (t.size : Int)
        all_goals
          go_enter Tryd.func5, Tryd.ntmps5
          go_wp2_with fail
          refine (stays_any A _ hs).mono ?_
          rintro e w1 ⟨rfl, hb1⟩
          go_wp2
          go_ret
          exact ⟨rfl, hb1⟩
    · have t2 : ¬ 6000 < (t.size : Int) := by omega
      go_enter Tryd.func5, Tryd.ntmps5
      go_wp2_with fail
      refine (stays_any A _ hs).mono ?_
      rintro e w1 ⟨rfl, hb1⟩
      go_wp2
      go_ret
      exact ⟨rfl, hb1⟩

theorem Tryd.laidOut : laidOutB Tryd.prog = true := by kernel_rfl
theorem Tryd.cellsAct : Tryd.prog.cellsOf 52 = 4 := by kernel_rfl
theorem Tryd.cellsStr1 : Tryd.prog.cellsOf 9 = 1 := by kernel_rfl
theorem Tryd.cellsInt1 : Tryd.prog.cellsOf 3 = 1 := by kernel_rfl

theorem choose_acts {n : Nat} {p : Nat → ActD → Prop} (h : ∀ i, i < n → ∃ x, p i x) : ∃ f : Nat → ActD, ∀ i, i < n → p i (f i) := by
  classical
  refine ⟨fun i => if hi : i < n then Classical.choose (h i hi) else ⟨⟨#[]⟩, ⟨#[]⟩, 0, 0⟩, fun i hi => ?_⟩
  simp only [dif_pos hi]
  exact Classical.choose_spec (h i hi)

set_option maxRecDepth 100000 in
/-- One act, read. -/
theorem act_of_trod {H : Type} {enc : TypeId × Value → H} {W : World} {n : Nat} {cs : List Value} {x : DataW H × List MemPlace}
    (h : DataW.trod enc Tryd.prog W 0 (fun _ => true) true n 52 cs = some x) :
    ∃ d : ActD, cs = [.string d.kind, .string d.b, .int .i64 d.p, .int .i64 d.n] ∧ d.b.size ≤ maxLen ∧ d.kind.size ≤ maxLen ∧ -9223372036854775808 ≤ d.p ∧ d.p ≤ 9223372036854775807 ∧ -9223372036854775808 ≤ d.n ∧ d.n ≤ 9223372036854775807 := by
  obtain ⟨xs, m, -, -, hl, hxs, hf⟩ := DataW.trod_struct Tryd.underlying52 h
  rw [Tryd.cellsAct] at hl
  match cs, hl with
  | [c0, c1, c2, c3], _ =>
    have g : ∀ i, i < 4 → ∃ y, xs[i]? = some y := fun i hi => ⟨xs[i]'(by rw [hxs]; exact hi), List.getElem?_eq_getElem _⟩
    obtain ⟨y0, k0⟩ := g 0 (by decide)
    obtain ⟨y1, k1⟩ := g 1 (by decide)
    obtain ⟨y2, k2⟩ := g 2 (by decide)
    obtain ⟨y3, k3⟩ := g 3 (by decide)
    have e0 : DataW.trod enc Tryd.prog W 0 (fun _ => true) true m 9 [c0] = some y0 := by have e := hf 0 _ rfl; rw [k0] at e; simpa [Tryd.cellsStr1] using e
    have e1 : DataW.trod enc Tryd.prog W 0 (fun _ => true) true m 9 [c1] = some y1 := by have e := hf 1 _ rfl; rw [k1] at e; simpa [Tryd.cellsStr1] using e
    have e2 : DataW.trod enc Tryd.prog W 0 (fun _ => true) true m 3 [c2] = some y2 := by have e := hf 2 _ rfl; rw [k2] at e; simpa [Tryd.cellsInt1] using e
    have e3 : DataW.trod enc Tryd.prog W 0 (fun _ => true) true m 3 [c3] = some y3 := by have e := hf 3 _ rfl; rw [k3] at e; simpa [Tryd.cellsInt1] using e
    obtain ⟨s0, q0, -, z0⟩ := DataW.trod_string Tryd.underlying9 e0
    obtain ⟨s1, q1, -, z1⟩ := DataW.trod_string Tryd.underlying9 e1
    obtain ⟨n2, q2, -, z2⟩ := DataW.trod_int Tryd.underlying3 e2
    obtain ⟨n3, q3, -, z3⟩ := DataW.trod_int Tryd.underlying3 e3
    simp at q0 q1 q2 q3
    subst q0 q1 q2 q3
    have b2 := bounds_i64 z2
    have b3 := bounds_i64 z3
    exact ⟨⟨s0, s1, n2, n3⟩, rfl, z1, z0, b2.1, b2.2, b3.1, b3.2⟩

theorem cells4 {W : World} {a : Addr} {c0 c1 c2 c3 : Value} (h : W.cells? 0 a 4 = some [c0, c1, c2, c3]) : W.cell? a = some c0 ∧ W.cell? (a.add 1) = some c1 ∧ W.cell? (a.add 2) = some c2 ∧ W.cell? (a.add 3) = some c3 := by
  unfold World.cells? at h
  rw [if_pos (Nat.zero_le _)] at h
  have e0 : a.add 0 = a := by simp [Addr.add]
  have hr : List.range 4 = [0, 1, 2, 3] := by decide
  rw [hr] at h
  simp only [List.mapM_cons, List.mapM_nil, e0] at h
  cases h0 : W.cell? a with
  | none => simp [h0] at h
  | some v0 =>
    cases h1 : W.cell? (a.add 1) with
    | none => simp [h0, h1] at h
    | some v1 =>
      cases h2 : W.cell? (a.add 2) with
      | none => simp [h0, h1, h2] at h
      | some v2 =>
        cases h3 : W.cell? (a.add 3) with
        | none => simp [h0, h1, h2, h3] at h
        | some v3 =>
          simp [h0, h1, h2, h3] at h
          obtain ⟨rfl, rfl, rfl, rfl⟩ := h
          exact ⟨rfl, rfl, rfl, rfl⟩

theorem spot_none {W : World} {a : Addr} {v : Value} (h : W.cell? a = some v) : a = ⟨a.block, a.off, none⟩ := by
  obtain ⟨b, o, s⟩ := a
  cases s with
  | none => rfl
  | some x =>
    exfalso
    unfold World.cell? at h
    split at h
    · simp at h
    · cases h
theorem add_plain (b o j : Nat) : (⟨b, o, none⟩ : Addr).add j = ⟨b, o + j, none⟩ := by unfold Addr.add; split <;> simp_all

/-- The acts, read: they lie in memory. -/
theorem acts_of_trod {H : Type} {enc : TypeId × Value → H} {W : World} {fuel : Nat} {sa : Option Addr} {len cap : Nat} {x : DataW H × List MemPlace}
    (h : DataW.trod enc Tryd.prog W 0 (fun _ => true) true fuel 46 [.slice sa len cap] = some x) :
    ∃ (g o : Nat) (l : Nat → ActD), len ≤ maxLen ∧ (0 < len → sa = some ⟨g, o, none⟩) ∧ ActsAt W g o len l ∧
      ∀ i, i < len → (l i).b.size ≤ maxLen ∧ (l i).kind.size ≤ maxLen ∧ -9223372036854775808 ≤ (l i).p ∧ (l i).p ≤ 9223372036854775807 ∧ -9223372036854775808 ≤ (l i).n ∧ (l i).n ≤ 9223372036854775807 := by
  rcases open_slice Tryd.underlying46 h with ⟨hcs, -⟩ | ⟨a, len', cap', m, n, D, Pl, hcs, -, hlc, hcm, hm, -, hel⟩
  · simp at hcs
    obtain ⟨rfl, rfl, rfl⟩ := hcs
    exact ⟨0, 0, fun _ => ⟨⟨#[]⟩, ⟨#[]⟩, 0, 0⟩, Nat.zero_le _, fun h => absurd h (by omega), ⟨fun i h => absurd h (by omega), fun i h => absurd h (by omega), fun i h => absurd h (by omega), fun i h => absurd h (by omega)⟩, fun i h => absurd h (by omega)⟩
  · simp only [List.cons.injEq, Value.slice.injEq, and_true] at hcs
    obtain ⟨rfl, rfl, rfl⟩ := hcs
    simp only [if_true] at hm
    subst hm
    rw [Tryd.cellsAct] at hel
    have hall : ∀ i, i < len → ∃ d : ActD, W.cells? 0 (a.add (i * 4)) 4 = some [.string d.kind, .string d.b, .int .i64 d.p, .int .i64 d.n] ∧ (d.b.size ≤ maxLen ∧ d.kind.size ≤ maxLen ∧ -9223372036854775808 ≤ d.p ∧ d.p ≤ 9223372036854775807 ∧ -9223372036854775808 ≤ d.n ∧ d.n ≤ 9223372036854775807) := fun i hi => by
      obtain ⟨cs', h1, h2⟩ := hel i (by omega)
      obtain ⟨d, rfl, hd⟩ := act_of_trod h2
      exact ⟨d, h1, hd⟩
    obtain ⟨l, hl⟩ := choose_acts hall
    have hsp : 0 < len → a = ⟨a.block, a.off, none⟩ := fun hpos => by
      have h0 := (cells4 (hl 0 hpos).1).1
      have e : a.add (0 * 4) = a := by simp [Addr.add]
      rw [e] at h0
      exact spot_none h0
    refine ⟨a.block, a.off, l, Nat.le_trans hlc hcm, fun hpos => congrArg some (hsp hpos), ?_, fun i hi => (hl i hi).2⟩
    have key : ∀ i, i < len → W.cell? ⟨a.block, a.off + i * 4, none⟩ = some (.string (l i).kind) ∧ W.cell? ⟨a.block, a.off + i * 4 + 1, none⟩ = some (.string (l i).b) ∧ W.cell? ⟨a.block, a.off + i * 4 + 2, none⟩ = some (.int .i64 (l i).p) ∧ W.cell? ⟨a.block, a.off + i * 4 + 3, none⟩ = some (.int .i64 (l i).n) := fun i hi => by
      have hc := cells4 (hl i hi).1
      rw [hsp (by omega)] at hc
      simp only [add_plain] at hc
      exact hc
    exact ⟨fun i hi => (key i hi).1, fun i hi => (key i hi).2.1, fun i hi => (key i hi).2.2.1, fun i hi => (key i hi).2.2.2⟩

set_option maxRecDepth 100000 in
theorem cellsActs_lifted (os : Os) (started : os.Started) (H : Type) (enc : TypeId × Value → H) :
    ReturnsInHanded {} Tryd.checked os 5 .any (fun w args => (Rows.cellsActsSpec.pre enc Tryd.prog Tryd.f5 [] false w args ∧ laidMetH Tryd.prog seatLaid w) ∧ sizedMet enc Tryd.prog Tryd.f5 (OpenSpec.ofChange Rows.cellsActsSpec) false w args)
      (Rows.cellsActsSpec.post enc Tryd.prog Tryd.f5 false true false false) := by
  refine returnsInHanded_of_change_and (C := Tryd.checked) (X := fun w _ => laidMetH Tryd.prog seatLaid w) (fun _ _ _ hh h => h.of_heap hh) own started (by kernel_rfl) Tryd.func5
    (ChangeSpec.witness_shaped (enc := enc) (C := Tryd.checked) (os := os) (X := fun w _ => laidMetH Tryd.prog seatLaid w) false (World.doorLaid Tryd.prog 400 os) #[.string ⟨#[]⟩, .int .i64 0, .slice none 0 0] 8 rfl (World.shaped_of_RefB (by kernel_rfl) (by kernel_rfl)) (by kernel_rfl) (by kernel_rfl) (by kernel_rfl) (door_met os _)) ?_
  intro W base args ds gs before hval0 hW _ _ hL _
  have hval : ∀ (j : Nat) t v, Tryd.f5.params[j]? = some t → args[j]? = some v → Value.okWide Tryd.prog W .any base t v := hval0
  have hW' := hW
  obtain ⟨p, q, hA0, hV, rfl, hfz, hnd⟩ := hW
  have hA : DataW.TrodAll enc Tryd.prog W 0 (fun _ => true) true Tryd.f5.params.toList args.toList ds p := hA0
  rw [Tryd.params5] at hA hval
  obtain ⟨v0, v1, v2, d0, d1, d2, p0, p1, p2, rfl, rfl, rfl, h0, h1, h2⟩ := trodAll_three hA
  obtain ⟨rfl, rfl⟩ := trodVars_none hV
  obtain ⟨s0, rfl, rfl, rfl, hs0⟩ := open_string Tryd.underlying9 (hval 0 9 v0 rfl rfl) h0
  obtain ⟨x1, rfl, rfl, rfl, wx1⟩ := open_int Tryd.underlying3 (hval 1 3 v1 rfl rfl) h1
  obtain ⟨sa, len, cap, rfl⟩ := okWide_slice Tryd.underlying46 (hval 2 46 v2 rfl rfl)
  obtain ⟨A, hs⟩ := senv_of_laid hL
  have h2k := h2
  obtain ⟨fuel, hf⟩ := h2
  obtain ⟨g, o, l, hlen, hsa, hacts, hok⟩ := acts_of_trod (by simpa [Value.cells] using hf)
  clear hA0 hval0
  simp only [List.append_nil, List.nil_append] at hW'
  have hlt : ∀ x ∈ p2, x.block < W.heap.size := fun x hx => by simpa using hW'.lt x hx
  refine (cellsActs_any A s0 x1 sa g o len cap l W hs hsa hacts hs0 hlen hok).mono fun e W' ⟨he, hb⟩ => ?_
  subst he
  have hargs : DataW.Trod enc Tryd.prog W' 0 (fun b => decide (b < W.heap.size)) true 46 (.slice sa len cap) d2 p2 := Below.trod Tryd.laidOut (by kernel_rfl) (of_decide_eq_true (by kernel_rfl)) h2k hb hlt
  exact ⟨_, rfl, _, _, _, [], p2, [], hW', trodAll_mk1 (shut_bool Tryd.underlying4 true), trodAll_mk3 (shut_string Tryd.underlying9 hs0) (shut_int Tryd.underlying3 wx1) hargs, rfl, hb.frame _, fun h => by cases h⟩

theorem cellsActs_said : Rows.CellsActsSaid :=
  OpenClaim.holds_of_wide 5 Tryd.f5 rfl rfl rfl rfl rfl rfl rfl ⟨rfl, rfl, rfl, rfl, rfl⟩ rfl rfl rfl rfl rfl (by kernel_rfl) Tryd.func5 (by kernel_rfl)
    (of_decide_eq_true (by kernel_rfl)) (by unfold Func.isWrapper; rw [if_neg (of_decide_eq_false (by kernel_rfl))]; exact ⟨rfl, rfl⟩)
    (fun os started H enc _ => cellsActs_lifted os started H enc)

theorem cellsActs_plain (f : FuncId) (fn : Func) (hf : Tryd.pinned.checked.prog.funcNamed "nightwatch/nightwatchlaw1.CellsActs" = some f) (hfn : Tryd.pinned.checked.prog.funcs[f]? = some fn) :
    true = Tryd.pinned.checked.prog.looks [] ∧ ∀ (j : Nat) t, fn.params[j]? = some t → Tryd.pinned.checked.prog.wantsStandIn t = false := by
  obtain rfl : f = 5 := Option.some.inj ((show Tryd.prog.funcNamed "nightwatch/nightwatchlaw1.CellsActs" = some 5 by kernel_rfl).symm.trans hf) |>.symm
  obtain rfl : fn = Tryd.f5 := (Option.some.inj (Tryd.func5.symm.trans hfn)).symm
  refine ⟨by kernel_rfl, fun j t ht => ?_⟩
  rw [Tryd.params5] at ht
  have hm : t ∈ [9, 3, 46] := by simpa using Array.mem_of_getElem? ht
  have hall : ([9, 3, 46].all fun u => !Tryd.prog.wantsStandIn u) = true := by kernel_rfl
  exact (show Tryd.prog.wantsStandIn t = false by simpa using List.all_eq_true.1 hall t hm)

/-- The card. -/
theorem cellsActs_card : Rows.CellsActsCardSaid :=
  Claim7.holds_tied_plain_at .later [] _ _ _ _ cellsActs_said (fun _ h => by cases h) (by kernel_rfl) (fun _ h => by cases h) cellsActs_row_tie rfl ⟨rfl, rfl⟩ (by kernel_rfl) rfl cellsActs_plain (by kernel_rfl)
#print axioms cellsActs_card
end Go.Proofs.YtebdepbnhemnpaaDoor
