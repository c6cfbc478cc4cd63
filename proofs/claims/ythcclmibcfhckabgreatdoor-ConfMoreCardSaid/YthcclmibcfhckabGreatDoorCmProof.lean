/-
  Proved: nightwatchlaw1.ConfMore answers true for every config, name and tolerance; each argument reads afterwards as it read before. Conditions: those of the given card alone (the api's sentinels, errors.errorType, conf.keywords and the tables are as the program's own text lays them).
-/
import Derived.Test.YthcclmibcfhckabGreatDoorCards
import Derived.Test.YthcclmibcfhckabGreatDoorTie
import Derived.Test.YthcclmibcfhckabGreatDoorCmLaid
import Derived.Test.YthcclmibcfhckabGreatDoorCfArg
import Derived.Test.YthcclmibcfhckabGreatDoorCfMore
import Derived.ProofKit
import Derived.OpenShut
import Derived.Stop.Joined
import Derived.SevenTiedAt
import Derived.Carry
namespace Go.Proofs.YthcclmibcfhckabGreatDoor
open Go.ChangeShapes Go.WideShapes Go.ChangeAt Go.RowKit Go.Deep
open Go.ChangeMaps (open_string shut_string)

theorem lt_of_cell {W : World} {b o : Nat} {v : Value} (h : W.cell? ⟨b, o, none⟩ = some v) : b < W.heap.size := by
  rcases Nat.lt_or_ge b W.heap.size with h0 | h0
  · exact h0
  · exfalso
    unfold World.cell? at h
    simp [Array.getElem?_eq_none h0] at h
theorem globals_in {W : World} (hK : KwAt W) (hT : TabAt W) : max 12 16 + 1 ≤ W.heap.size := by
  have h1 := lt_of_cell (hK 0 (by decide))
  have h2 := lt_of_cell (Lib.TabIs.cell hT Tryz.tabNamed 0 (by decide))
  omega

set_option maxRecDepth 100000 in
theorem confMore_lifted (os : Os) (started : os.Started) (H : Type) (enc : TypeId × Value → H) :
    ReturnsInHanded {} Tryz.checked os 4 .any (fun w args => (Rows.confMoreSpec.pre enc Tryz.prog Tryz.f4 [] false w args ∧ laidMetH Tryz.prog seatLaid w) ∧ sizedMet enc Tryz.prog Tryz.f4 (OpenSpec.ofChange Rows.confMoreSpec) false w args)
      (Rows.confMoreSpec.post enc Tryz.prog Tryz.f4 false true false false) := by
  refine returnsInHanded_of_change_and (C := Tryz.checked) (X := fun w _ => laidMetH Tryz.prog seatLaid w) (fun _ _ _ hh h => h.of_heap hh) own started (by kernel_rfl) Tryz.func4
    (ChangeSpec.witness_shaped (enc := enc) (C := Tryz.checked) (os := os) (X := fun w _ => laidMetH Tryz.prog seatLaid w) false (World.doorLaid Tryz.prog 400 os) #[.agg #[.int .i64 0, .int .i64 0, .int .i64 0, .int .i64 0, .slice none 0 0], .string ⟨#[]⟩, .int .i64 0] 8 rfl (World.shaped_of_RefB (by kernel_rfl) (by kernel_rfl)) (by kernel_rfl) (by kernel_rfl) (by kernel_rfl) (door_met os _)) ?_
  intro W base args ds gs before hval0 hW _ _ hL _
  have hval : ∀ (j : Nat) t v, Tryz.f4.params[j]? = some t → args[j]? = some v → Value.okWide Tryz.prog W .any base t v := hval0
  have hW' := hW
  obtain ⟨p, q, hA0, hV, rfl, hfz, hnd⟩ := hW
  have hA : DataW.TrodAll enc Tryz.prog W 0 (fun _ => true) true Tryz.f4.params.toList args.toList ds p := hA0
  rw [Tryz.params4] at hA hval
  obtain ⟨v0, v1, v2, d0, d1, d2, p0, p1, p2, rfl, rfl, rfl, h0, h1, h2⟩ := trodAll_three hA
  obtain ⟨rfl, rfl⟩ := trodVars_none hV
  obtain ⟨cs0, rfl, hsz0⟩ := okWide_struct Tryz.underlying25 (hval 0 25 v0 rfl rfl)
  obtain ⟨s1, rfl, rfl, rfl, hs1⟩ := open_string Tryz.underlying9 (hval 1 9 v1 rfl rfl) h1
  obtain ⟨x2, rfl, rfl, rfl, wx2⟩ := open_int Tryz.underlying3 (hval 2 3 v2 rfl rfl) h2
  obtain ⟨A, hs⟩ := senv_of_laid hL
  have h0k := h0
  obtain ⟨fuel0, hf0⟩ := h0
  obtain ⟨c0, sa0, sc0, hcs0, hE0⟩ := cfg_of_trod (by simpa [Value.cells] using hf0)
  obtain rfl : cs0 = #[.int .i64 c0.closed, .int .i64 c0.opn, .int .i64 c0.cycle, .int .i64 c0.delay, .slice sa0 c0.ents.length sc0] := Array.ext' hcs0
  clear hA0 hval0
  simp only [List.append_nil] at hW'
  have hlt : ∀ x ∈ p0, x.block < W.heap.size := fun x hx => by simpa using hW'.lt x hx
  refine (more_at A c0 sa0 sc0 s1 x2 W hs.1 hs.2.1 hs.2.2 (globals_in hs.2.1 hs.2.2) hE0).mono fun e W' ⟨he, hb⟩ => ?_
  subst he
  have hargs0 : DataW.Trod enc Tryz.prog W' 0 (fun b => decide (b < W.heap.size)) true 25 (.agg #[.int .i64 c0.closed, .int .i64 c0.opn, .int .i64 c0.cycle, .int .i64 c0.delay, .slice sa0 c0.ents.length sc0]) d0 p0 := Below.trod Tryz.laidOut (by kernel_rfl) (of_decide_eq_true (by kernel_rfl)) h0k hb hlt
  have hAll := trodAll_mk3 hargs0 (shut_string Tryz.underlying9 hs1) (shut_int Tryz.underlying3 wx2)
  simp only [List.append_nil] at hAll
  exact ⟨_, rfl, _, _, _, [], p0, [], hW', trodAll_mk1 (shut_bool Tryz.underlying4 true), hAll, rfl, hb.frame _, fun h => by cases h⟩

theorem confMore_said : Rows.ConfMoreSaid :=
  OpenClaim.holds_of_wide 4 Tryz.f4 rfl rfl rfl rfl rfl rfl rfl ⟨rfl, rfl, rfl, rfl, rfl⟩ rfl rfl rfl rfl rfl (by kernel_rfl) Tryz.func4 (by kernel_rfl)
    (of_decide_eq_true (by kernel_rfl)) (by unfold Func.isWrapper; rw [if_neg (of_decide_eq_false (by kernel_rfl))]; exact ⟨rfl, rfl⟩)
    (fun os started H enc _ => confMore_lifted os started H enc)

theorem confMore_plain (f : FuncId) (fn : Func) (hf : Tryz.pinned.checked.prog.funcNamed "nightwatch/nightwatchlaw1.ConfMore" = some f) (hfn : Tryz.pinned.checked.prog.funcs[f]? = some fn) :
    true = Tryz.pinned.checked.prog.looks [] ∧ ∀ (j : Nat) t, fn.params[j]? = some t → Tryz.pinned.checked.prog.wantsStandIn t = false := by
  obtain rfl : f = 4 := Option.some.inj ((show Tryz.prog.funcNamed "nightwatch/nightwatchlaw1.ConfMore" = some 4 by kernel_rfl).symm.trans hf) |>.symm
  obtain rfl : fn = Tryz.f4 := (Option.some.inj (Tryz.func4.symm.trans hfn)).symm
  refine ⟨by kernel_rfl, fun j t ht => ?_⟩
  rw [Tryz.params4] at ht
  have hm : t ∈ [25, 9, 3] := by simpa using Array.mem_of_getElem? ht
  have hall : ([25, 9, 3].all fun u => !Tryz.prog.wantsStandIn u) = true := by kernel_rfl
  exact (show Tryz.prog.wantsStandIn t = false by simpa using List.all_eq_true.1 hall t hm)

/-- The card. -/
theorem confMore_card : Rows.ConfMoreCardSaid :=
  Claim7.holds_tied_plain_at .later [] _ _ _ _ confMore_said (fun _ h => by cases h) (by kernel_rfl) (fun _ h => by cases h) confMore_row_tie rfl ⟨rfl, rfl⟩ (by kernel_rfl) rfl confMore_plain (by kernel_rfl)
#print axioms confMore_card
end Go.Proofs.YthcclmibcfhckabGreatDoor
