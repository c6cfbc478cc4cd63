/-
  Proved: nightwatchlaw2.LocalKinds answers true for every entity and every list of acts; each argument reads afterwards as it read before. Conditions: those of the given card alone (ErrNone, ErrIdle and ErrHeld are as the program's own text lays them).
-/
import Derived.Test.YtpaolneaomeoiabDoorCards
import Derived.Test.YtpaolneaomeoiabDoorTie
import Derived.Test.YtpaolneaomeoiabDoorLaidX
import Derived.Test.YtpaolneaomeoiabDoorCfArgEX
import Derived.Test.YtpaolneaomeoiabDoorLkWalkX
import Derived.WalkKit
import Derived.ProofKit
import Derived.OpenShut
import Derived.Deep.Slices
import Derived.Stop.Joined
import Derived.SevenTiedAt
import Derived.Carry
import Derived.LaidLaws
import Derived.LaidMore
namespace Go.Proofs.YtpaolneaomeoiabDoor
open Go.ChangeShapes Go.WideShapes Go.ChangeAt Go.RowKit Go.Deep

theorem ent_args {H : Type} {enc : TypeId × Value → H} {W : World} {fuel : Nat} {cs : List Value} {x : DataW H × List MemPlace} (h : DataW.trod enc Tryd.prog W 0 (fun _ => true) true fuel 27 cs = some x) :
    ∃ e : EntD, ∃ pa ga ea fa la pc gc ec fc lc, cs = (#[.string e.name, .int .i64 e.tol, .slice pa e.pts.length pc, .int .i64 e.cnt, .int .i64 e.mn, .int .i64 e.mx, .slice ga e.gaps.length gc, .slice ea e.edges.length ec, .slice fa e.first.length fc, .slice la e.last.length lc] : Array Value).toList ∧ EntParts W e (.slice pa e.pts.length pc) (.slice ga e.gaps.length gc) (.slice ea e.edges.length ec) (.slice fa e.first.length fc) (.slice la e.last.length lc) ∧ WfE e.edges := by
  obtain ⟨e, pv, gv, ev, fv, lv, h1, h2, h3⟩ := ent_of_trod2 fuel cs x h
  obtain ⟨pa, pc, rfl, -⟩ := id h2.hp
  obtain ⟨ga, gc, rfl, -⟩ := id h2.hg
  obtain ⟨ea, ec, rfl, -⟩ := id h2.he
  obtain ⟨fa, fc, rfl, -⟩ := id h2.hf
  obtain ⟨la, lc, rfl, -⟩ := id h2.hl
  exact ⟨e, pa, ga, ea, fa, la, pc, gc, ec, fc, lc, h1, h2, h3⟩
def seatLaid3 : List (String × DataW Unit) := [("nightwatch/api.ErrNone", Rows.laid_nightwatch_api_ErrNone), ("nightwatch/api.ErrIdle", Rows.laid_nightwatch_api_ErrIdle), ("nightwatch/api.ErrHeld", Rows.laid_nightwatch_api_ErrHeld)]
theorem laid3_split (W : World) : laidMetH Tryd.prog seatLaid3 W = laidMet Tryd.prog seatLaid3 W := MakeChecks.laidMetH_plain _ _ _ (by kernel_rfl)
theorem door_met3 (os : Os) (args : Array Value) : laidMetH Tryd.prog seatLaid3 ((World.doorLaid Tryd.prog 400 os).forCall (fun _ _ => 0) ⟨#[], args, []⟩).memory := by
  rw [laid3_split]
  exact laidMet_of_run' 8 (by kernel_rfl) (by kernel_rfl)
def names3 : List (String × List UInt8) := [("nightwatch/api.ErrNone", [110, 105, 103, 104, 116, 119, 97, 116, 99, 104, 58, 32, 110, 111, 110, 101]), ("nightwatch/api.ErrIdle", [110, 105, 103, 104, 116, 119, 97, 116, 99, 104, 58, 32, 105, 100, 108, 101]), ("nightwatch/api.ErrHeld", [110, 105, 103, 104, 116, 119, 97, 116, 99, 104, 58, 32, 104, 101, 108, 100])]
theorem Tryd.gErrs3 : (names3.map fun x => (Tryd.prog.globalNamed x.1).bind fun g => (Tryd.prog.globals[g]?).map (·.type)) = List.replicate 3 (some 35) := by kernel_rfl
theorem none_of_laid {W : World} (h : laidMetH Tryd.prog seatLaid3 W) : ∃ x, W.cell? ⟨3, 0, none⟩ = some x := by
  rw [laid3_split] at h
  obtain ⟨ps, hl, hnd, hrows⟩ := h
  have hgs : ∀ x, x ∈ names3 → ∃ g, Tryd.prog.globalNamed x.1 = some g ∧ (Tryd.prog.globals[g]?).map (·.type) = some 35 := fun x hx => by
    have h1 : ((Tryd.prog.globalNamed x.1).bind fun g => (Tryd.prog.globals[g]?).map (·.type)) ∈ List.replicate 3 (some 35) := by
      rw [← Tryd.gErrs3]; exact List.mem_map_of_mem hx
    have h2 := List.eq_of_mem_replicate h1
    simp only [Option.bind_eq_some_iff] at h2
    obtain ⟨g, a, b⟩ := h2
    exact ⟨g, a, b⟩
  obtain ⟨A, hv, -⟩ := sents Tryd.underlying35 Tryd.oneErr Tryd.underlying141 Tryd.underlying161 rfl rfl Tryd.underlying9 Tryd.cellsES Tryd.cellsStr names3 ps hgs hl hnd hrows
  exact ⟨_, by simpa using World.var?_cell Tryd.g4 (hv 0 _ rfl) 0⟩
set_option maxRecDepth 100000 in
theorem act_of_trod {H : Type} {enc : TypeId × Value → H} {W : World} (n : Nat) (cs : List Value) (x : DataW H × List MemPlace) (h : DataW.trod enc Tryd.prog W 0 (fun _ => true) true n 56 cs = some x) : ∃ r : ActD, cs = encA r := by
  obtain ⟨xs, m, -, -, hl, hxs, hf⟩ := DataW.trod_struct Tryd.underlying56 h
  rw [show Tryd.prog.cellsOf 56 = 3 by kernel_rfl] at hl
  match cs, hl with
  | [c0, c1, c2], _ =>
    have g : ∀ i, i < 3 → ∃ y, xs[i]? = some y := fun i hi => ⟨xs[i]'(by rw [hxs]; exact hi), List.getElem?_eq_getElem _⟩
    obtain ⟨y0, k0⟩ := g 0 (by decide)
    obtain ⟨y1, k1⟩ := g 1 (by decide)
    obtain ⟨y2, k2⟩ := g 2 (by decide)
    have e0 : DataW.trod enc Tryd.prog W 0 (fun _ => true) true m 9 [c0] = some y0 := by have e := hf 0 _ rfl; rw [k0] at e; simpa [Tryd.cellsOne] using e
    have e1 : DataW.trod enc Tryd.prog W 0 (fun _ => true) true m 3 [c1] = some y1 := by have e := hf 1 _ rfl; rw [k1] at e; simpa [Tryd.cellsOne] using e
    have e2 : DataW.trod enc Tryd.prog W 0 (fun _ => true) true m 3 [c2] = some y2 := by have e := hf 2 _ rfl; rw [k2] at e; simpa [Tryd.cellsOne] using e
    obtain ⟨n0, q0⟩ := str_of_trod m [c0] y0 e0
    obtain ⟨n1, q1⟩ := int_of_trod m [c1] y1 e1
    obtain ⟨n2, q2⟩ := int_of_trod m [c2] y2 e2
    simp only [encS, encI, List.cons.injEq, and_true] at q0 q1 q2
    subst q0 q1 q2
    exact ⟨⟨n0, n1, n2⟩, rfl⟩
set_option maxRecDepth 100000 in
theorem acts_of_trod {H : Type} {enc : TypeId × Value → H} {W : World} {fuel : Nat} {v : Value} {x : DataW H × List MemPlace} (h : DataW.trod enc Tryd.prog W 0 (fun _ => true) true fuel 51 [v] = some x) : ∃ l : List ActD, SlAt encA 3 W v l :=
  sl_of_trod (⟨⟨#[]⟩, 0, 0⟩ : ActD) (ec := encA) Tryd.underlying51 (show Tryd.prog.cellsOf 56 = 3 by kernel_rfl) (by decide) act_of_trod h
set_option maxRecDepth 100000 in
set_option maxHeartbeats 8000000 in
theorem kinds_heavy (e : EntD) (E0 : EA) (v1 : Value) (w : World) (hP : PartsE w e E0) (hh : heavyE e = true) :
    Calls Tryd.prog 6 #[.agg #[.string e.name, .int .i64 e.tol, .slice E0.pa e.pts.length E0.pc, .int .i64 e.cnt, .int .i64 e.mn, .int .i64 e.mx, .slice E0.ga e.gaps.length E0.gc, .slice E0.ea e.edges.length E0.ec, .slice E0.fa e.first.length E0.fc, .slice E0.la e.last.length E0.lc], v1] w fun v w' => v = .returned (.bool true) ∧ Below w.heap.size w w' := by
  have HP : Hid (∀ V, Below w.heap.size w V → PartsE V e E0) := fun V hV => hP.below hV
  have hh0 : one01 (heavyE e) = 1 := by rw [hh]; rfl
  clear hP hh
  go_enter Tryd.func6, Tryd.ntmps6
  go_wp2_with fail
  refine (lives_any _).mono ?_
  rintro v w1 ⟨rfl, hb1⟩
  have HX1 : Hid (w1.heap[w.heap.size]? = some (.cells #[.string e.name, .int .i64 e.tol, .slice E0.pa e.pts.length E0.pc, .int .i64 e.cnt, .int .i64 e.mn, .int .i64 e.mx, .slice E0.ga e.gaps.length E0.gc, .slice E0.ea e.edges.length E0.ec, .slice E0.fa e.first.length E0.fc, .slice E0.la e.last.length E0.lc] 27 (0, 0))) := row_below hb1 (row_alat _ _ _)
  have HB1 : Hid (Below w.heap.size w w1) := (Below.one _ _).trans (hb1.mono (by simp))
  clear hb1
  have y : ∀ (j : Nat) u, (#[.string e.name, .int .i64 e.tol, .slice E0.pa e.pts.length E0.pc, .int .i64 e.cnt, .int .i64 e.mn, .int .i64 e.mx, .slice E0.ga e.gaps.length E0.gc, .slice E0.ea e.edges.length E0.ec, .slice E0.fa e.first.length E0.fc, .slice E0.la e.last.length E0.lc] : Array Value)[j]? = some u → w1.cell? ⟨w.heap.size, j, none⟩ = some u := fun j u hu => by simp [World.cell?, HX1.out, hu]
  have y0 := y 0 _ rfl
  have y1 := y 1 _ rfl
  have y2 := y 2 _ rfl
  have y3 := y 3 _ rfl
  have y4 := y 4 _ rfl
  have y5 := y 5 _ rfl
  have y6 := y 6 _ rfl
  have y7 := y 7 _ rfl
  have y8 := y 8 _ rfl
  have y9 := y 9 _ rfl
  clear y
  go_wp2_with fail
  clear y0 y1 y2 y3 y4 y5 y6 y7 y8 y9
  refine (heavyE_at e _ _ _ _ _ _ _ _ _ _ _ (HP.out _ HB1.out).hp).mono ?_
  rintro v w2 ⟨rfl, hb2⟩
  rw [hh0]
  have HX2 : Hid (w2.heap[w.heap.size]? = some (.cells #[.string e.name, .int .i64 e.tol, .slice E0.pa e.pts.length E0.pc, .int .i64 e.cnt, .int .i64 e.mn, .int .i64 e.mx, .slice E0.ga e.gaps.length E0.gc, .slice E0.ea e.edges.length E0.ec, .slice E0.fa e.first.length E0.fc, .slice E0.la e.last.length E0.lc] 27 (0, 0))) := row_below hb2 HX1.out
  have HB2 : Hid (Below w.heap.size w w2) := HB1.out.trans (hb2.mono HB1.out.size)
  clear hb2 HX1 HB1
  go_wp2
  go_ret
  exact ⟨rfl, HB2.out⟩
set_option maxRecDepth 100000 in
set_option maxHeartbeats 8000000 in
theorem kinds_many (e : EntD) (E0 : EA) (sl : Option Addr) (n slc : Nat) (w : World) (hP : PartsE w e E0) (hh : heavyE e = false) (hn : 60 < n) :
    Calls Tryd.prog 6 #[.agg #[.string e.name, .int .i64 e.tol, .slice E0.pa e.pts.length E0.pc, .int .i64 e.cnt, .int .i64 e.mn, .int .i64 e.mx, .slice E0.ga e.gaps.length E0.gc, .slice E0.ea e.edges.length E0.ec, .slice E0.fa e.first.length E0.fc, .slice E0.la e.last.length E0.lc], .slice sl n slc] w fun v w' => v = .returned (.bool true) ∧ Below w.heap.size w w' := by
  have HP : Hid (∀ V, Below w.heap.size w V → PartsE V e E0) := fun V hV => hP.below hV
  have hh0 : one01 (heavyE e) = 0 := by rw [hh]; rfl
  have g3 : 60 < (n : Int) := by omega
  clear hP hh
  go_enter Tryd.func6, Tryd.ntmps6
  go_wp2_with fail
  refine (lives_any _).mono ?_
  rintro v w1 ⟨rfl, hb1⟩
  have HX1 : Hid (w1.heap[w.heap.size]? = some (.cells #[.string e.name, .int .i64 e.tol, .slice E0.pa e.pts.length E0.pc, .int .i64 e.cnt, .int .i64 e.mn, .int .i64 e.mx, .slice E0.ga e.gaps.length E0.gc, .slice E0.ea e.edges.length E0.ec, .slice E0.fa e.first.length E0.fc, .slice E0.la e.last.length E0.lc] 27 (0, 0))) := row_below hb1 (row_alat _ _ _)
  have HB1 : Hid (Below w.heap.size w w1) := (Below.one _ _).trans (hb1.mono (by simp))
  clear hb1
  have y : ∀ (j : Nat) u, (#[.string e.name, .int .i64 e.tol, .slice E0.pa e.pts.length E0.pc, .int .i64 e.cnt, .int .i64 e.mn, .int .i64 e.mx, .slice E0.ga e.gaps.length E0.gc, .slice E0.ea e.edges.length E0.ec, .slice E0.fa e.first.length E0.fc, .slice E0.la e.last.length E0.lc] : Array Value)[j]? = some u → w1.cell? ⟨w.heap.size, j, none⟩ = some u := fun j u hu => by simp [World.cell?, HX1.out, hu]
  have y0 := y 0 _ rfl
  have y1 := y 1 _ rfl
  have y2 := y 2 _ rfl
  have y3 := y 3 _ rfl
  have y4 := y 4 _ rfl
  have y5 := y 5 _ rfl
  have y6 := y 6 _ rfl
  have y7 := y 7 _ rfl
  have y8 := y 8 _ rfl
  have y9 := y 9 _ rfl
  clear y
  go_wp2_with fail
  clear y0 y1 y2 y3 y4 y5 y6 y7 y8 y9
  refine (heavyE_at e _ _ _ _ _ _ _ _ _ _ _ (HP.out _ HB1.out).hp).mono ?_
  rintro v w2 ⟨rfl, hb2⟩
  rw [hh0]
  have HX2 : Hid (w2.heap[w.heap.size]? = some (.cells #[.string e.name, .int .i64 e.tol, .slice E0.pa e.pts.length E0.pc, .int .i64 e.cnt, .int .i64 e.mn, .int .i64 e.mx, .slice E0.ga e.gaps.length E0.gc, .slice E0.ea e.edges.length E0.ec, .slice E0.fa e.first.length E0.fc, .slice E0.la e.last.length E0.lc] 27 (0, 0))) := row_below hb2 HX1.out
  have HB2 : Hid (Below w.heap.size w w2) := HB1.out.trans (hb2.mono HB1.out.size)
  clear hb2 HX1 HB1
  go_wp2
  go_ret
  exact ⟨rfl, HB2.out⟩
set_option maxRecDepth 100000 in
set_option maxHeartbeats 8000000 in
theorem kinds_wrong (e : EntD) (E0 : EA) (sl : Option Addr) (n slc : Nat) (w : World) (hP : PartsE w e E0) (hh : heavyE e = false) (hn : n ≤ 60) (z0 : Nat) (hz : entErr [] e = z0) (hz0 : z0 ≠ 0) :
    Calls Tryd.prog 6 #[.agg #[.string e.name, .int .i64 e.tol, .slice E0.pa e.pts.length E0.pc, .int .i64 e.cnt, .int .i64 e.mn, .int .i64 e.mx, .slice E0.ga e.gaps.length E0.gc, .slice E0.ea e.edges.length E0.ec, .slice E0.fa e.first.length E0.fc, .slice E0.la e.last.length E0.lc], .slice sl n slc] w fun v w' => v = .returned (.bool true) ∧ Below w.heap.size w w' := by
  have HP : Hid (∀ V, Below w.heap.size w V → PartsE V e E0) := fun V hV => hP.below hV
  have HS : Hid (SmallE e) := heavyE_small hh
  have HE : Hid ((entErr (([e].take 0).map (·.name)) e : Int) = (z0 : Int)) := by show ((entErr [] e : Nat) : Int) = z0; rw [hz]
  have hh0 : one01 (heavyE e) = 0 := by rw [hh]; rfl
  have g3 : ¬ 60 < (n : Int) := by omega
  have g4 : 0 < (z0 : Int) := by omega
  clear hP hh hz
  go_enter Tryd.func6, Tryd.ntmps6
  go_wp2_with fail
  refine (lives_any _).mono ?_
  rintro v w1 ⟨rfl, hb1⟩
  have HX1 : Hid (w1.heap[w.heap.size]? = some (.cells #[.string e.name, .int .i64 e.tol, .slice E0.pa e.pts.length E0.pc, .int .i64 e.cnt, .int .i64 e.mn, .int .i64 e.mx, .slice E0.ga e.gaps.length E0.gc, .slice E0.ea e.edges.length E0.ec, .slice E0.fa e.first.length E0.fc, .slice E0.la e.last.length E0.lc] 27 (0, 0))) := row_below hb1 (row_alat _ _ _)
  have HB1 : Hid (Below w.heap.size w w1) := (Below.one _ _).trans (hb1.mono (by simp))
  clear hb1
  have y : ∀ (j : Nat) u, (#[.string e.name, .int .i64 e.tol, .slice E0.pa e.pts.length E0.pc, .int .i64 e.cnt, .int .i64 e.mn, .int .i64 e.mx, .slice E0.ga e.gaps.length E0.gc, .slice E0.ea e.edges.length E0.ec, .slice E0.fa e.first.length E0.fc, .slice E0.la e.last.length E0.lc] : Array Value)[j]? = some u → w1.cell? ⟨w.heap.size, j, none⟩ = some u := fun j u hu => by simp [World.cell?, HX1.out, hu]
  have y0 := y 0 _ rfl
  have y1 := y 1 _ rfl
  have y2 := y 2 _ rfl
  have y3 := y 3 _ rfl
  have y4 := y 4 _ rfl
  have y5 := y 5 _ rfl
  have y6 := y 6 _ rfl
  have y7 := y 7 _ rfl
  have y8 := y 8 _ rfl
  have y9 := y 9 _ rfl
  clear y
  go_wp2_with fail
  clear y0 y1 y2 y3 y4 y5 y6 y7 y8 y9
  refine (heavyE_at e _ _ _ _ _ _ _ _ _ _ _ (HP.out _ HB1.out).hp).mono ?_
  rintro v w2 ⟨rfl, hb2⟩
  rw [hh0]
  have HX2 : Hid (w2.heap[w.heap.size]? = some (.cells #[.string e.name, .int .i64 e.tol, .slice E0.pa e.pts.length E0.pc, .int .i64 e.cnt, .int .i64 e.mn, .int .i64 e.mx, .slice E0.ga e.gaps.length E0.gc, .slice E0.ea e.edges.length E0.ec, .slice E0.fa e.first.length E0.fc, .slice E0.la e.last.length E0.lc] 27 (0, 0))) := row_below hb2 HX1.out
  have HB2 : Hid (Below w.heap.size w w2) := HB1.out.trans (hb2.mono HB1.out.size)
  clear hb2 HX1 HB1
  have y : ∀ (j : Nat) u, (#[.string e.name, .int .i64 e.tol, .slice E0.pa e.pts.length E0.pc, .int .i64 e.cnt, .int .i64 e.mn, .int .i64 e.mx, .slice E0.ga e.gaps.length E0.gc, .slice E0.ea e.edges.length E0.ec, .slice E0.fa e.first.length E0.fc, .slice E0.la e.last.length E0.lc] : Array Value)[j]? = some u → w2.cell? ⟨w.heap.size, j, none⟩ = some u := fun j u hu => by simp [World.cell?, HX2.out, hu]
  have y0 := y 0 _ rfl
  have y1 := y 1 _ rfl
  have y2 := y 2 _ rfl
  have y3 := y 3 _ rfl
  have y4 := y 4 _ rfl
  have y5 := y 5 _ rfl
  have y6 := y 6 _ rfl
  have y7 := y 7 _ rfl
  have y8 := y 8 _ rfl
  have y9 := y 9 _ rfl
  clear y
  go_wp2_with fail
  clear y0 y1 y2 y3 y4 y5 y6 y7 y8 y9
  have HBA : Hid (Below w.heap.size w (w2.alloc (.cells #[.string e.name, .int .i64 e.tol, .slice E0.pa e.pts.length E0.pc, .int .i64 e.cnt, .int .i64 e.mn, .int .i64 e.mx, .slice E0.ga e.gaps.length E0.gc, .slice E0.ea e.edges.length E0.ec, .slice E0.fa e.first.length E0.fc, .slice E0.la e.last.length E0.lc] 27))) := HB2.out.trans ((Below.one _ _).mono HB2.out.size)
  refine (entErr_at [e] _ 1 0 e _ (ents_one (row_alat w2 _ _) (HP.out _ HBA.out)) rfl (fun x hx => by rw [List.mem_singleton] at hx; subst hx; exact HS.out) (by simp)).mono ?_
  rintro v w3 ⟨rfl, hb3⟩
  rw [show (entErr (([e].take 0).map (·.name)) e : Int) = (z0 : Int) from HE.out]
  have HX3 : Hid (w3.heap[w.heap.size]? = some (.cells #[.string e.name, .int .i64 e.tol, .slice E0.pa e.pts.length E0.pc, .int .i64 e.cnt, .int .i64 e.mn, .int .i64 e.mx, .slice E0.ga e.gaps.length E0.gc, .slice E0.ea e.edges.length E0.ec, .slice E0.fa e.first.length E0.fc, .slice E0.la e.last.length E0.lc] 27 (0, 0))) := row_below hb3 (row_below (Below.one _ _) HX2.out)
  have HB3 : Hid (Below w.heap.size w w3) := HBA.out.trans (hb3.mono HBA.out.size)
  clear hb3 HX2 HB2 HBA
  go_wp2
  go_ret
  exact ⟨rfl, HB3.out⟩
theorem kinds_any (e : EntD) (pa ga ea fa la : Option Addr) (pc gc ec fc lc : Nat) (v1 : Value) (acts : List ActD) (w : World) (hs : ∃ x, w.cell? ⟨3, 0, none⟩ = some x) (hP : EntParts w e (.slice pa e.pts.length pc) (.slice ga e.gaps.length gc) (.slice ea e.edges.length ec) (.slice fa e.first.length fc) (.slice la e.last.length lc)) (hWf : WfE e.edges) (hA : SlAt encA 3 w v1 acts) :
    Calls Tryd.prog 6 #[.agg #[.string e.name, .int .i64 e.tol, .slice pa e.pts.length pc, .int .i64 e.cnt, .int .i64 e.mn, .int .i64 e.mx, .slice ga e.gaps.length gc, .slice ea e.edges.length ec, .slice fa e.first.length fc, .slice la e.last.length lc], v1] w fun v w' => v = .returned (.bool true) ∧ Below w.heap.size w w' := by
  have hP' : PartsE w e ⟨pa, ga, ea, fa, la, pc, gc, ec, fc, lc⟩ := hP
  cases hh : heavyE e with
  | true => exact kinds_heavy e ⟨pa, ga, ea, fa, la, pc, gc, ec, fc, lc⟩ v1 w hP' hh
  | false =>
    obtain ⟨sl, slc, rfl, -⟩ := id hA
    by_cases hn : acts.length ≤ 60
    · by_cases he : entErr [] e = 0
      · exact kinds_in e ⟨pa, ga, ea, fa, la, pc, gc, ec, fc, lc⟩ sl acts slc w hs hP' hWf hA hh hn he
      · exact kinds_wrong e ⟨pa, ga, ea, fa, la, pc, gc, ec, fc, lc⟩ sl acts.length slc w hP' hh hn _ rfl he
    · exact kinds_many e ⟨pa, ga, ea, fa, la, pc, gc, ec, fc, lc⟩ sl acts.length slc w hP' hh (by omega)

set_option maxRecDepth 100000 in
theorem localKinds_lifted (os : Os) (started : os.Started) (H : Type) (enc : TypeId × Value → H) :
    ReturnsInHanded {} Tryd.checked os 6 .any (fun w args => (Rows.localKindsSpec.pre enc Tryd.prog Tryd.f6 [] false w args ∧ laidMetH Tryd.prog seatLaid3 w) ∧ sizedMet enc Tryd.prog Tryd.f6 (OpenSpec.ofChange Rows.localKindsSpec) false w args)
      (Rows.localKindsSpec.post enc Tryd.prog Tryd.f6 false true false false) := by
  refine returnsInHanded_of_change_and (C := Tryd.checked) (X := fun w _ => laidMetH Tryd.prog seatLaid3 w) (fun _ _ _ hh h => h.of_heap hh) own started (by kernel_rfl) Tryd.func6
    (ChangeSpec.witness_shaped (enc := enc) (C := Tryd.checked) (os := os) (X := fun w _ => laidMetH Tryd.prog seatLaid3 w) false (World.doorLaid Tryd.prog 400 os) #[.agg #[.string ⟨#[]⟩, .int .i64 0, .slice none 0 0, .int .i64 0, .int .i64 0, .int .i64 0, .slice none 0 0, .slice none 0 0, .slice none 0 0, .slice none 0 0], .slice none 0 0] 8 rfl (World.shaped_of_RefB (by kernel_rfl) (by kernel_rfl)) (by kernel_rfl) (by kernel_rfl) (by kernel_rfl) (door_met3 os _)) ?_
  intro W base args ds gs before hval0 hW _ _ hL _
  have hval : ∀ (j : Nat) t v, Tryd.f6.params[j]? = some t → args[j]? = some v → Value.okWide Tryd.prog W .any base t v := hval0
  have hW' := hW
  obtain ⟨p, q, hA0, hV, rfl, hfz, hnd⟩ := hW
  have hA : DataW.TrodAll enc Tryd.prog W 0 (fun _ => true) true Tryd.f6.params.toList args.toList ds p := hA0
  rw [Tryd.params6] at hA hval
  obtain ⟨v0, vs0, d0, ds0, p0, q0, hargs, rfl, rfl, h0, r0⟩ := trodAll_cons hA
  obtain ⟨v1, vs1, d1, ds1, p1, q1, rfl, rfl, rfl, h1, r1⟩ := trodAll_cons r0
  obtain ⟨rfl, rfl, rfl⟩ := trodAll_nil r1
  obtain rfl : args = #[v0, v1] := by cases args; simp_all
  obtain ⟨rfl, rfl⟩ := trodVars_none hV
  obtain ⟨cs0, rfl, hsz0⟩ := okWide_struct Tryd.underlying27 (hval 0 27 v0 rfl rfl)
  have h0k := h0
  obtain ⟨fuel0, hf0⟩ := h0
  obtain ⟨c0, pa0, ga0, ea0, fa0, la0, pc0, gc0, ec0, fc0, lc0, hcs0, hP0, hWf0⟩ := ent_args (by simpa [Value.cells] using hf0)
  obtain rfl : cs0 = #[.string c0.name, .int .i64 c0.tol, .slice pa0 c0.pts.length pc0, .int .i64 c0.cnt, .int .i64 c0.mn, .int .i64 c0.mx, .slice ga0 c0.gaps.length gc0, .slice ea0 c0.edges.length ec0, .slice fa0 c0.first.length fc0, .slice la0 c0.last.length lc0] := Array.ext' hcs0
  obtain ⟨sa1, len1, cap1, rfl⟩ := okWide_slice Tryd.underlying51 (hval 1 51 v1 rfl rfl)
  have h1k := h1
  obtain ⟨fuel1, hf1⟩ := h1
  obtain ⟨xs1, hxs1⟩ := acts_of_trod (by simpa [Value.cells] using hf1)
  have hs := none_of_laid hL
  clear hA0 hval0
  simp only [List.append_nil] at hW'
  refine (kinds_any c0 pa0 ga0 ea0 fa0 la0 pc0 gc0 ec0 fc0 lc0 _ xs1 W hs hP0 hWf0 hxs1).mono fun e W' ⟨he, hb⟩ => ?_
  subst he
  have hlt0 : ∀ x ∈ p0, x.block < W.heap.size := fun x hx => hW'.lt x (by simp [hx])
  have hargs0 : DataW.Trod enc Tryd.prog W' 0 (fun b => decide (b < W.heap.size)) true 27 (.agg #[.string c0.name, .int .i64 c0.tol, .slice pa0 c0.pts.length pc0, .int .i64 c0.cnt, .int .i64 c0.mn, .int .i64 c0.mx, .slice ga0 c0.gaps.length gc0, .slice ea0 c0.edges.length ec0, .slice fa0 c0.first.length fc0, .slice la0 c0.last.length lc0]) d0 p0 := Below.trod Tryd.laidOut (by kernel_rfl) (of_decide_eq_true (by kernel_rfl)) h0k hb hlt0
  have hlt1 : ∀ x ∈ p1, x.block < W.heap.size := fun x hx => hW'.lt x (by simp [hx])
  have hargs1 : DataW.Trod enc Tryd.prog W' 0 (fun b => decide (b < W.heap.size)) true 51 (.slice sa1 len1 cap1) d1 p1 := Below.trod Tryd.laidOut (by kernel_rfl) (of_decide_eq_true (by kernel_rfl)) h1k hb hlt1
  have hAll : DataW.TrodAll enc Tryd.prog W' 0 (fun b => decide (b < W.heap.size)) true [27, 51] [.agg #[.string c0.name, .int .i64 c0.tol, .slice pa0 c0.pts.length pc0, .int .i64 c0.cnt, .int .i64 c0.mn, .int .i64 c0.mx, .slice ga0 c0.gaps.length gc0, .slice ea0 c0.edges.length ec0, .slice fa0 c0.first.length fc0, .slice la0 c0.last.length lc0], .slice sa1 len1 cap1] _ _ := (trodAll_cons_mk hargs0 (trodAll_cons_mk hargs1 trodAll_mk0))
  simp only [List.append_nil] at hAll
  exact ⟨_, rfl, _, _, _, [], p0 ++ p1, [], hW', trodAll_mk1 (shut_bool Tryd.underlying4 true), hAll, rfl, hb.frame _, fun h => by cases h⟩

theorem localKinds_said : Rows.LocalKindsSaid :=
  OpenClaim.holds_of_wide 6 Tryd.f6 rfl rfl rfl rfl rfl rfl rfl ⟨rfl, rfl, rfl, rfl, rfl⟩ rfl rfl rfl rfl rfl (by kernel_rfl) Tryd.func6 (by kernel_rfl)
    (of_decide_eq_true (by kernel_rfl)) (by unfold Func.isWrapper; rw [if_neg (of_decide_eq_false (by kernel_rfl))]; exact ⟨rfl, rfl⟩)
    (fun os started H enc _ => localKinds_lifted os started H enc)

theorem localKinds_plain (f : FuncId) (fn : Func) (hf : Tryd.pinned.checked.prog.funcNamed "nightwatch/nightwatchlaw2.LocalKinds" = some f) (hfn : Tryd.pinned.checked.prog.funcs[f]? = some fn) :
    true = Tryd.pinned.checked.prog.looks [] ∧ ∀ (j : Nat) t, fn.params[j]? = some t → Tryd.pinned.checked.prog.wantsStandIn t = false := by
  obtain rfl : f = 6 := Option.some.inj ((show Tryd.prog.funcNamed "nightwatch/nightwatchlaw2.LocalKinds" = some 6 by kernel_rfl).symm.trans hf) |>.symm
  obtain rfl : fn = Tryd.f6 := (Option.some.inj (Tryd.func6.symm.trans hfn)).symm
  refine ⟨by kernel_rfl, fun j t ht => ?_⟩
  rw [Tryd.params6] at ht
  have hm : t ∈ [27, 51] := by simpa using Array.mem_of_getElem? ht
  have hall : ([27, 51].all fun u => !Tryd.prog.wantsStandIn u) = true := by kernel_rfl
  exact (show Tryd.prog.wantsStandIn t = false by simpa using List.all_eq_true.1 hall t hm)

/-- The card. -/
theorem localKinds_card : Rows.LocalKindsCardSaid :=
  Claim7.holds_tied_plain_at .later [] _ _ _ _ localKinds_said (fun _ h => by cases h) (by kernel_rfl) (fun _ h => by cases h) localKinds_row_tie rfl ⟨rfl, rfl⟩ (by kernel_rfl) rfl localKinds_plain (by kernel_rfl)
#print axioms localKinds_card
end Go.Proofs.YtpaolneaomeoiabDoor
