/-
  Proved: nightwatchlaw2.TotalEnds answers true for every number and every list of lists; each argument reads afterwards as it read before. Conditions: those of the given card alone (the api's sentinels and errors.errorType are as the program's own text lays them).
-/
import Derived.Test.YtgehlcmancdgcacDoorCards
import Derived.Test.YtgehlcmancdgcacDoorTie
import Derived.Test.YtgehlcmancdgcacDoorLaid
import Derived.Test.YtgehlcmancdgcacDoorCfArgB
import Derived.Test.YtgehlcmancdgcacDoorTeAny
import Derived.WalkKit
import Derived.ProofKit
import Derived.OpenShut
import Derived.Deep.Slices
import Derived.Stop.Joined
import Derived.SevenTiedAt
import Derived.Carry
import Derived.LaidLaws
import Derived.LaidMore
namespace Go.Proofs.YtgehlcmancdgcacDoor
open Go.ChangeShapes Go.WideShapes Go.ChangeAt Go.RowKit Go.Deep

theorem lists_of_trod {H : Type} {enc : TypeId × Value → H} {W : World} {fuel : Nat} {v : Value} {x : DataW H × List MemPlace} (h : DataW.trod enc Tryd.prog W 0 (fun _ => true) true fuel 53 [v] = some x) : ∃ ll : List (List ByteArray), SlsAt W v ll := by
  obtain ⟨sa, cap, xs, hcs, hl, hx⟩ := sl_gen ([] : List ByteArray) (Q := fun cs a => ∃ u, cs = [u] ∧ SlAt encS 1 W u a) Tryd.underlying53 (show Tryd.prog.cellsOf 22 = 1 by kernel_rfl) (by decide) (fun n cs y hy => by
    obtain ⟨sa, cap, xs, hcs, -⟩ := sl_gen (⟨#[]⟩ : ByteArray) (Q := fun cs a => cs = encS a) Tryd.underlying22 (show Tryd.prog.cellsOf 9 = 1 by kernel_rfl) (by decide) str_of_trod hy
    subst hcs
    obtain ⟨ys, hys⟩ := sl_of_trod (⟨#[]⟩ : ByteArray) (ec := encS) Tryd.underlying22 (show Tryd.prog.cellsOf 9 = 1 by kernel_rfl) (by decide) str_of_trod hy
    exact ⟨ys, _, rfl, hys⟩) h
  simp only [List.cons.injEq, and_true] at hcs
  refine ⟨xs, sa, cap, hcs, hl, fun hne => ?_⟩
  obtain ⟨b, o, h1, h2⟩ := hx hne
  refine ⟨b, o, h1, fun i y hy => ?_⟩
  obtain ⟨cs', ⟨u, rfl, hu⟩, h3⟩ := h2 i y hy
  have := h3 0 u rfl
  simp only [Nat.mul_one, Nat.add_zero] at this
  exact ⟨u, this, hu⟩

set_option maxRecDepth 100000 in
theorem totalEnds_lifted (os : Os) (started : os.Started) (H : Type) (enc : TypeId × Value → H) :
    ReturnsInHanded {} Tryd.checked os 5 .any (fun w args => (Rows.totalEndsSpec.pre enc Tryd.prog Tryd.f5 [] false w args ∧ laidMetH Tryd.prog seatLaid w) ∧ sizedMet enc Tryd.prog Tryd.f5 (OpenSpec.ofChange Rows.totalEndsSpec) false w args)
      (Rows.totalEndsSpec.post enc Tryd.prog Tryd.f5 false true false false) := by
  refine returnsInHanded_of_change_and (C := Tryd.checked) (X := fun w _ => laidMetH Tryd.prog seatLaid w) (fun _ _ _ hh h => h.of_heap hh) own started (by kernel_rfl) Tryd.func5
    (ChangeSpec.witness_shaped (enc := enc) (C := Tryd.checked) (os := os) (X := fun w _ => laidMetH Tryd.prog seatLaid w) false (World.doorLaid Tryd.prog 400 os) #[.int .i64 0, .slice none 0 0] 8 rfl (World.shaped_of_RefB (by kernel_rfl) (by kernel_rfl)) (by kernel_rfl) (by kernel_rfl) (by kernel_rfl) (door_met os _)) ?_
  intro W base args ds gs before hval0 hW _ _ hL _
  have hval : ∀ (j : Nat) t v, Tryd.f5.params[j]? = some t → args[j]? = some v → Value.okWide Tryd.prog W .any base t v := hval0
  have hW' := hW
  obtain ⟨p, q, hA0, hV, rfl, hfz, hnd⟩ := hW
  have hA : DataW.TrodAll enc Tryd.prog W 0 (fun _ => true) true Tryd.f5.params.toList args.toList ds p := hA0
  rw [Tryd.params5] at hA hval
  obtain ⟨v0, vs0, d0, ds0, p0, q0, hargs, rfl, rfl, h0, r0⟩ := trodAll_cons hA
  obtain ⟨v1, vs1, d1, ds1, p1, q1, rfl, rfl, rfl, h1, r1⟩ := trodAll_cons r0
  obtain ⟨rfl, rfl, rfl⟩ := trodAll_nil r1
  obtain rfl : args = #[v0, v1] := by cases args; simp_all
  obtain ⟨rfl, rfl⟩ := trodVars_none hV
  obtain ⟨x0, rfl, rfl, rfl, wx0⟩ := open_int Tryd.underlying3 (hval 0 3 v0 rfl rfl) h0
  obtain ⟨sa1, len1, cap1, rfl⟩ := okWide_slice Tryd.underlying53 (hval 1 53 v1 rfl rfl)
  have h1k := h1
  obtain ⟨fuel1, hf1⟩ := h1
  obtain ⟨xs1, hxs1⟩ := lists_of_trod (by simpa [Value.cells] using hf1)
  obtain ⟨A, hs⟩ := senv_of_laid hL
  clear hA0 hval0
  simp only [List.append_nil] at hW'
  refine (ends9_any to_endC A x0 _ xs1 W hs hxs1).mono fun e W' ⟨he, hb⟩ => ?_
  subst he
  have hlt1 : ∀ x ∈ p1, x.block < W.heap.size := fun x hx => hW'.lt x (by simp [hx])
  have hargs1 : DataW.Trod enc Tryd.prog W' 0 (fun b => decide (b < W.heap.size)) true 53 (.slice sa1 len1 cap1) d1 p1 := Below.trod Tryd.laidOut (by kernel_rfl) (of_decide_eq_true (by kernel_rfl)) h1k hb hlt1
  have hAll : DataW.TrodAll enc Tryd.prog W' 0 (fun b => decide (b < W.heap.size)) true [3, 53] [.int .i64 x0, .slice sa1 len1 cap1] _ _ := (trodAll_cons_mk (shut_int Tryd.underlying3 wx0) (trodAll_cons_mk hargs1 trodAll_mk0))
  simp only [List.append_nil] at hAll
  exact ⟨_, rfl, _, _, _, [], p1, [], hW', trodAll_mk1 (shut_bool Tryd.underlying4 true), hAll, rfl, hb.frame _, fun h => by cases h⟩

theorem totalEnds_said : Rows.TotalEndsSaid :=
  OpenClaim.holds_of_wide 5 Tryd.f5 rfl rfl rfl rfl rfl rfl rfl ⟨rfl, rfl, rfl, rfl, rfl⟩ rfl rfl rfl rfl rfl (by kernel_rfl) Tryd.func5 (by kernel_rfl)
    (of_decide_eq_true (by kernel_rfl)) (by unfold Func.isWrapper; rw [if_neg (of_decide_eq_false (by kernel_rfl))]; exact ⟨rfl, rfl⟩)
    (fun os started H enc _ => totalEnds_lifted os started H enc)

theorem totalEnds_plain (f : FuncId) (fn : Func) (hf : Tryd.pinned.checked.prog.funcNamed "nightwatch/nightwatchlaw2.TotalEnds" = some f) (hfn : Tryd.pinned.checked.prog.funcs[f]? = some fn) :
    true = Tryd.pinned.checked.prog.looks [] ∧ ∀ (j : Nat) t, fn.params[j]? = some t → Tryd.pinned.checked.prog.wantsStandIn t = false := by
  obtain rfl : f = 5 := Option.some.inj ((show Tryd.prog.funcNamed "nightwatch/nightwatchlaw2.TotalEnds" = some 5 by kernel_rfl).symm.trans hf) |>.symm
  obtain rfl : fn = Tryd.f5 := (Option.some.inj (Tryd.func5.symm.trans hfn)).symm
  refine ⟨by kernel_rfl, fun j t ht => ?_⟩
  rw [Tryd.params5] at ht
  have hm : t ∈ [3, 53] := by simpa using Array.mem_of_getElem? ht
  have hall : ([3, 53].all fun u => !Tryd.prog.wantsStandIn u) = true := by kernel_rfl
  exact (show Tryd.prog.wantsStandIn t = false by simpa using List.all_eq_true.1 hall t hm)

/-- The card. -/
theorem totalEnds_card : Rows.TotalEndsCardSaid :=
  Claim7.holds_tied_plain_at .later [] _ _ _ _ totalEnds_said (fun _ h => by cases h) (by kernel_rfl) (fun _ h => by cases h) totalEnds_row_tie rfl ⟨rfl, rfl⟩ (by kernel_rfl) rfl totalEnds_plain (by kernel_rfl)
#print axioms totalEnds_card
end Go.Proofs.YtgehlcmancdgcacDoor
