/-
  Proved: nightwatchlaw1.RingCuts answers true for every list of appends; the argument reads afterwards as it read before. Conditions: those of the given card alone (the api's sentinels and errors.errorType are as the program's own text lays them).
-/
import Derived.Test.YtebdepbnhemnpaaDoorCards
import Derived.Test.YtebdepbnhemnpaaDoorTie
import Derived.Test.YtebdepbnhemnpaaDoorLaid
import Derived.Test.YtebdepbnhemnpaaDoorRcWalk
import Derived.ProofKit
import Derived.OpenShut
import Derived.Stop.Joined
import Derived.SevenTiedAt
import Derived.Deep.Slices
import Derived.Carry
namespace Go.Proofs.YtebdepbnhemnpaaDoor
open Go.ChangeShapes Go.WideShapes Go.ChangeAt Go.RowKit Go.Deep

set_option maxRecDepth 100000 in
set_option maxHeartbeats 2000000 in
theorem ringCuts_any (A : Nat → Addr) (sa : Option Addr) (g o len cap : Nat) (l : Nat → AppD) (w : World) (hs : Senv A w) (hsa : 0 < len → sa = some ⟨g, o, none⟩) (hl : AppsAt w g o len l) (hlen : len ≤ maxLen)
    (hok : ∀ i, i < len → (l i).cut ≤ 9223372036854775807) :
    Calls Tryd.prog 7 #[.slice sa len cap] w fun e w' => e = .returned (.bool true) ∧ Below w.heap.size w w' := by
  by_cases h60 : len ≤ 60
  · exact ringCuts_in A sa g o len cap l w hs hsa hl h60 hok
  · unfold maxLen at hlen
    have t3 : 60 < (len : Int) := by omega
    clear hok hl hsa
    go_enter Tryd.func7, Tryd.ntmps7
    go_wp2_with fail
    refine (logged_any A w hs.four (by have := hs.gm; omega)).mono ?_
    rintro e w1 ⟨rfl, hb1⟩
    go_wp2
    go_ret
    exact ⟨rfl, hb1⟩

theorem Tryd.laidOut : laidOutB Tryd.prog = true := by kernel_rfl
theorem Tryd.cellsApp : Tryd.prog.cellsOf 72 = 5 := by kernel_rfl
theorem Tryd.cellsInt1 : Tryd.prog.cellsOf 3 = 1 := by kernel_rfl
theorem Tryd.cellsBool1 : Tryd.prog.cellsOf 4 = 1 := by kernel_rfl

theorem choose_apps {n : Nat} {p : Nat → AppD → Prop} (h : ∀ i, i < n → ∃ x, p i x) : ∃ f : Nat → AppD, ∀ i, i < n → p i (f i) := by
  classical
  refine ⟨fun i => if hi : i < n then Classical.choose (h i hi) else ⟨0, 0, 0, 0, false⟩, fun i hi => ?_⟩
  simp only [dif_pos hi]
  exact Classical.choose_spec (h i hi)

set_option maxRecDepth 100000 in
/-- One append, read. -/
theorem app_of_trod {H : Type} {enc : TypeId × Value → H} {W : World} {n : Nat} {cs : List Value} {x : DataW H × List MemPlace}
    (h : DataW.trod enc Tryd.prog W 0 (fun _ => true) true n 72 cs = some x) :
    ∃ d : AppD, cs = [.int .i64 d.ent, .int .i64 d.kind, .int .i64 d.tick, .int .i64 d.cut, .bool d.boot] ∧ d.cut ≤ 9223372036854775807 := by
  obtain ⟨xs, m, -, -, hl, hxs, hf⟩ := DataW.trod_struct Tryd.underlying72 h
  rw [Tryd.cellsApp] at hl
  match cs, hl with
  | [c0, c1, c2, c3, c4], _ =>
    have g : ∀ i, i < 5 → ∃ y, xs[i]? = some y := fun i hi => ⟨xs[i]'(by rw [hxs]; exact hi), List.getElem?_eq_getElem _⟩
    obtain ⟨y0, k0⟩ := g 0 (by decide)
    obtain ⟨y1, k1⟩ := g 1 (by decide)
    obtain ⟨y2, k2⟩ := g 2 (by decide)
    obtain ⟨y3, k3⟩ := g 3 (by decide)
    obtain ⟨y4, k4⟩ := g 4 (by decide)
    have e0 : DataW.trod enc Tryd.prog W 0 (fun _ => true) true m 3 [c0] = some y0 := by have e := hf 0 _ rfl; rw [k0] at e; simpa [Tryd.cellsInt1] using e
    have e1 : DataW.trod enc Tryd.prog W 0 (fun _ => true) true m 3 [c1] = some y1 := by have e := hf 1 _ rfl; rw [k1] at e; simpa [Tryd.cellsInt1] using e
    have e2 : DataW.trod enc Tryd.prog W 0 (fun _ => true) true m 3 [c2] = some y2 := by have e := hf 2 _ rfl; rw [k2] at e; simpa [Tryd.cellsInt1] using e
    have e3 : DataW.trod enc Tryd.prog W 0 (fun _ => true) true m 3 [c3] = some y3 := by have e := hf 3 _ rfl; rw [k3] at e; simpa [Tryd.cellsInt1] using e
    have e4 : DataW.trod enc Tryd.prog W 0 (fun _ => true) true m 4 [c4] = some y4 := by have e := hf 4 _ rfl; rw [k4] at e; simpa [Tryd.cellsBool1] using e
    obtain ⟨n0, q0, -, z0⟩ := DataW.trod_int Tryd.underlying3 e0
    obtain ⟨n1, q1, -, z1⟩ := DataW.trod_int Tryd.underlying3 e1
    obtain ⟨n2, q2, -, z2⟩ := DataW.trod_int Tryd.underlying3 e2
    obtain ⟨n3, q3, -, z3⟩ := DataW.trod_int Tryd.underlying3 e3
    obtain ⟨n4, q4, -⟩ := DataW.trod_bool Tryd.underlying4 e4
    simp at q0 q1 q2 q3 q4
    subst q0 q1 q2 q3 q4
    exact ⟨⟨n0, n1, n2, n3, n4⟩, rfl, (bounds_i64 z3).2⟩

theorem cells5 {W : World} {a : Addr} {c0 c1 c2 c3 c4 : Value} (h : W.cells? 0 a 5 = some [c0, c1, c2, c3, c4]) : W.cell? a = some c0 ∧ W.cell? (a.add 1) = some c1 ∧ W.cell? (a.add 2) = some c2 ∧ W.cell? (a.add 3) = some c3 ∧ W.cell? (a.add 4) = some c4 := by
  unfold World.cells? at h
  rw [if_pos (Nat.zero_le _)] at h
  have e0 : a.add 0 = a := by simp [Addr.add]
  have hr : List.range 5 = [0, 1, 2, 3, 4] := by decide
  rw [hr] at h
  simp only [List.mapM_cons, List.mapM_nil, e0] at h
  cases h0 : W.cell? a with
  | none => simp [h0] at h
  | some v0 =>
    cases h1 : W.cell? (a.add 1) with
    | none => simp [h0, h1] at h
    | some v1 =>
      cases h2 : W.cell? (a.add 2) with
      | none => simp [h0, h1, h2] at h
      | some v2 =>
        cases h3 : W.cell? (a.add 3) with
        | none => simp [h0, h1, h2, h3] at h
        | some v3 =>
          cases h4 : W.cell? (a.add 4) with
          | none => simp [h0, h1, h2, h3, h4] at h
          | some v4 =>
            simp [h0, h1, h2, h3, h4] at h
            obtain ⟨rfl, rfl, rfl, rfl, rfl⟩ := h
            exact ⟨rfl, rfl, rfl, rfl, rfl⟩

theorem spot_none {W : World} {a : Addr} {v : Value} (h : W.cell? a = some v) : a = ⟨a.block, a.off, none⟩ := by
  obtain ⟨b, o, s⟩ := a
  cases s with
  | none => rfl
  | some x =>
    exfalso
    unfold World.cell? at h
    split at h
    · simp at h
    · cases h
theorem add_plain (b o j : Nat) : (⟨b, o, none⟩ : Addr).add j = ⟨b, o + j, none⟩ := by unfold Addr.add; split <;> simp_all

/-- The appends, read: they lie in memory. -/
theorem apps_of_trod {H : Type} {enc : TypeId × Value → H} {W : World} {fuel : Nat} {sa : Option Addr} {len cap : Nat} {x : DataW H × List MemPlace}
    (h : DataW.trod enc Tryd.prog W 0 (fun _ => true) true fuel 70 [.slice sa len cap] = some x) :
    ∃ (g o : Nat) (l : Nat → AppD), len ≤ maxLen ∧ (0 < len → sa = some ⟨g, o, none⟩) ∧ AppsAt W g o len l ∧ ∀ i, i < len → (l i).cut ≤ 9223372036854775807 := by
  rcases open_slice Tryd.underlying70 h with ⟨hcs, -⟩ | ⟨a, len', cap', m, n, D, Pl, hcs, -, hlc, hcm, hm, -, hel⟩
  · simp at hcs
    obtain ⟨rfl, rfl, rfl⟩ := hcs
    exact ⟨0, 0, fun _ => ⟨0, 0, 0, 0, false⟩, Nat.zero_le _, fun h => absurd h (by omega), ⟨fun i h => absurd h (by omega), fun i h => absurd h (by omega), fun i h => absurd h (by omega), fun i h => absurd h (by omega), fun i h => absurd h (by omega)⟩, fun i h => absurd h (by omega)⟩
  · simp only [List.cons.injEq, Value.slice.injEq, and_true] at hcs
    obtain ⟨rfl, rfl, rfl⟩ := hcs
    simp only [if_true] at hm
    subst hm
    rw [Tryd.cellsApp] at hel
    have hall : ∀ i, i < len → ∃ d : AppD, W.cells? 0 (a.add (i * 5)) 5 = some [.int .i64 d.ent, .int .i64 d.kind, .int .i64 d.tick, .int .i64 d.cut, .bool d.boot] ∧ d.cut ≤ 9223372036854775807 := fun i hi => by
      obtain ⟨cs', h1, h2⟩ := hel i (by omega)
      obtain ⟨d, rfl, hd⟩ := app_of_trod h2
      exact ⟨d, h1, hd⟩
    obtain ⟨l, hl⟩ := choose_apps hall
    have hsp : 0 < len → a = ⟨a.block, a.off, none⟩ := fun hpos => by
      have h0 := (cells5 (hl 0 hpos).1).1
      have e : a.add (0 * 5) = a := by simp [Addr.add]
      rw [e] at h0
      exact spot_none h0
    refine ⟨a.block, a.off, l, Nat.le_trans hlc hcm, fun hpos => congrArg some (hsp hpos), ?_, fun i hi => (hl i hi).2⟩
    have key : ∀ i, i < len → W.cell? ⟨a.block, a.off + i * 5, none⟩ = some (.int .i64 (l i).ent) ∧ W.cell? ⟨a.block, a.off + i * 5 + 1, none⟩ = some (.int .i64 (l i).kind) ∧ W.cell? ⟨a.block, a.off + i * 5 + 2, none⟩ = some (.int .i64 (l i).tick) ∧ W.cell? ⟨a.block, a.off + i * 5 + 3, none⟩ = some (.int .i64 (l i).cut) ∧ W.cell? ⟨a.block, a.off + i * 5 + 4, none⟩ = some (.bool (l i).boot) := fun i hi => by
      have hc := cells5 (hl i hi).1
      rw [hsp (by omega)] at hc
      simp only [add_plain] at hc
      exact hc
    exact ⟨fun i hi => (key i hi).1, fun i hi => (key i hi).2.1, fun i hi => (key i hi).2.2.1, fun i hi => (key i hi).2.2.2.1, fun i hi => (key i hi).2.2.2.2⟩

set_option maxRecDepth 100000 in
theorem ringCuts_lifted (os : Os) (started : os.Started) (H : Type) (enc : TypeId × Value → H) :
    ReturnsInHanded {} Tryd.checked os 7 .any (fun w args => (Rows.ringCutsSpec.pre enc Tryd.prog Tryd.f7 [] false w args ∧ laidMetH Tryd.prog seatLaid w) ∧ sizedMet enc Tryd.prog Tryd.f7 (OpenSpec.ofChange Rows.ringCutsSpec) false w args)
      (Rows.ringCutsSpec.post enc Tryd.prog Tryd.f7 false true false false) := by
  refine returnsInHanded_of_change_and (C := Tryd.checked) (X := fun w _ => laidMetH Tryd.prog seatLaid w) (fun _ _ _ hh h => h.of_heap hh) own started (by kernel_rfl) Tryd.func7
    (ChangeSpec.witness_shaped (enc := enc) (C := Tryd.checked) (os := os) (X := fun w _ => laidMetH Tryd.prog seatLaid w) false (World.doorLaid Tryd.prog 400 os) #[.slice none 0 0] 8 rfl (World.shaped_of_RefB (by kernel_rfl) (by kernel_rfl)) (by kernel_rfl) (by kernel_rfl) (by kernel_rfl) (door_met os _)) ?_
  intro W base args ds gs before hval0 hW _ _ hL _
  have hval : ∀ (j : Nat) t v, Tryd.f7.params[j]? = some t → args[j]? = some v → Value.okWide Tryd.prog W .any base t v := hval0
  have hW' := hW
  obtain ⟨p, q, hA0, hV, rfl, hfz, hnd⟩ := hW
  have hA : DataW.TrodAll enc Tryd.prog W 0 (fun _ => true) true Tryd.f7.params.toList args.toList ds p := hA0
  rw [Tryd.params7] at hA hval
  obtain ⟨v2, d2, rfl, rfl, h2⟩ := trodAll_one hA
  obtain ⟨rfl, rfl⟩ := trodVars_none hV
  obtain ⟨sa, len, cap, rfl⟩ := okWide_slice Tryd.underlying70 (hval 0 70 v2 rfl rfl)
  obtain ⟨A, hs⟩ := senv_of_laid hL
  have h2k := h2
  obtain ⟨fuel, hf⟩ := h2
  obtain ⟨g, o, l, hlen, hsa, hacts, hok⟩ := apps_of_trod (by simpa [Value.cells] using hf)
  clear hA0 hval0
  simp only [List.append_nil] at hW'
  have hlt : ∀ x ∈ p, x.block < W.heap.size := fun x hx => by simpa using hW'.lt x hx
  refine (ringCuts_any A sa g o len cap l W hs hsa hacts hlen hok).mono fun e W' ⟨he, hb⟩ => ?_
  subst he
  have hargs : DataW.Trod enc Tryd.prog W' 0 (fun b => decide (b < W.heap.size)) true 70 (.slice sa len cap) d2 p := Below.trod Tryd.laidOut (by kernel_rfl) (of_decide_eq_true (by kernel_rfl)) h2k hb hlt
  exact ⟨_, rfl, _, _, _, [], p, [], hW', trodAll_mk1 (shut_bool Tryd.underlying4 true), trodAll_mk1 hargs, rfl, hb.frame _, fun h => by cases h⟩

theorem ringCuts_said : Rows.RingCutsSaid :=
  OpenClaim.holds_of_wide 7 Tryd.f7 rfl rfl rfl rfl rfl rfl rfl ⟨rfl, rfl, rfl, rfl, rfl⟩ rfl rfl rfl rfl rfl (by kernel_rfl) Tryd.func7 (by kernel_rfl)
    (of_decide_eq_true (by kernel_rfl)) (by unfold Func.isWrapper; rw [if_neg (of_decide_eq_false (by kernel_rfl))]; exact ⟨rfl, rfl⟩)
    (fun os started H enc _ => ringCuts_lifted os started H enc)

theorem ringCuts_plain (f : FuncId) (fn : Func) (hf : Tryd.pinned.checked.prog.funcNamed "nightwatch/nightwatchlaw1.RingCuts" = some f) (hfn : Tryd.pinned.checked.prog.funcs[f]? = some fn) :
    true = Tryd.pinned.checked.prog.looks [] ∧ ∀ (j : Nat) t, fn.params[j]? = some t → Tryd.pinned.checked.prog.wantsStandIn t = false := by
  obtain rfl : f = 7 := Option.some.inj ((show Tryd.prog.funcNamed "nightwatch/nightwatchlaw1.RingCuts" = some 7 by kernel_rfl).symm.trans hf) |>.symm
  obtain rfl : fn = Tryd.f7 := (Option.some.inj (Tryd.func7.symm.trans hfn)).symm
  refine ⟨by kernel_rfl, fun j t ht => ?_⟩
  rw [Tryd.params7] at ht
  have hm : t = 70 := by simpa using Array.mem_of_getElem? ht
  subst hm
  exact (show Tryd.prog.wantsStandIn 70 = false by kernel_rfl)

/-- The card. -/
theorem ringCuts_card : Rows.RingCutsCardSaid :=
  Claim7.holds_tied_plain_at .later [] _ _ _ _ ringCuts_said (fun _ h => by cases h) (by kernel_rfl) (fun _ h => by cases h) ringCuts_row_tie rfl ⟨rfl, rfl⟩ (by kernel_rfl) rfl ringCuts_plain (by kernel_rfl)
#print axioms ringCuts_card
end Go.Proofs.YtebdepbnhemnpaaDoor
