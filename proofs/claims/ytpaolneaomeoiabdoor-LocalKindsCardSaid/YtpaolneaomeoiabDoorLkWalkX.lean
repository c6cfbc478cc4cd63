/-
  nightwatchlaw2.LocalKinds for an entity that is not heavy, and at most sixty acts: true. Conditions: what it is handed lies in memory, the edges are of int's range, ErrNone is in memory.
-/
import Derived.Test.YtpaolneaomeoiabDoorLkMadeX
import Derived.Test.YtpaolneaomeoiabDoorLkHeadX
namespace Go.Proofs.YtpaolneaomeoiabDoor
open Go.RowKit Go.Extern.Stop Go.Stop Go.Extern

theorem Kin.more {e : EntD} {ns : Nat → NSt} {r : Nat} {wh : Bool} (h : Kin e ns r wh) : Kin e ns (r + 1) wh := ⟨h.wh, fun i hi => Nat.le_trans (h.run i hi) (by omega), h.a1, h.g1, h.f1, h.a2, h.g2, h.f2, h.a3, h.g3, h.f3⟩
/-- The kinds so far stay while an entity's cycle ends. -/
theorem own_frL {w w' : World} {N k n : Nat} {v : Value} {xs : List Value} {G : Nat → Prop} (h : w.ownsRow N 3 k v n xs) (hf : FrL G w w') : w'.ownsRow N 3 k v n xs := by
  refine ⟨h.1, ?_⟩
  rcases h.2 with hn | ⟨g, cap, cur, rfl, h1, hgg, rest⟩
  · exact .inl hn
  · exact .inr ⟨g, cap, cur, rfl, h1, hf.ty _ _ _ _ hgg (by unfold TyL; decide), rest⟩
theorem Four4.append {w0 w w' : World} {N : Nat} {F : Nat → Nat → Prop} {e : EntD} {bs : Nat → Nat} {Es : Nat → EA} {ra : Nat} {ss : Nat → Option NSt} {o : Obj} {v : Value} {n : Nat} {xs : List Value} (h : Four4 w0 w N F e bs Es ra ss) (ho : w.ownsRow N 3 1 v n xs) (hg : (w.alloc o).grownBy w' v.ownBlock) : Four4 w0 w' N F e bs Es ra ss := by
  have hb : Below w.heap.size w (w.alloc o) := Below.one _ _
  have h1 := h.below hb
  have hlt : ∀ k, v.ownBlock = some k → N ≤ k := fun k hk => (ho.lt k hk).1
  refine ⟨h1.all.keep (fun k hk => hg.block k (Nat.lt_of_lt_of_le hk h1.all.top) (fun e1 => ?_)) hg.size (h1.all.bel.grown hg h1.all.bel.size (fun k hk => ?_)), ?_⟩
  · have := hlt k e1.symm
    omega
  · have h2 := hlt k hk
    have h3 := (h.all.lo 0 (by decide) (bs 0) (h.all.at' 0 (by decide)).fb)
    omega
  · refine (hg.block ra (lt_of_row h1.row) (fun e1 => ?_)).trans h1.row
    obtain ⟨c, fr, h2⟩ : ∃ c fr, w.heap[ra]? = some (.cells c 3 fr) := by
      rcases ho.2 with ⟨rfl, _⟩ | ⟨g, cap, cur, rfl, _, hg', _⟩
      · simp [Value.ownBlock] at e1
      · simp only [Value.ownBlock, Option.some.injEq] at e1
        subst e1
        exact ⟨_, _, hg'⟩
    exact ne_ty h2 h.row (by decide) rfl
theorem kinds_snoc {w : World} {N j : Nat} {ns : Nat → NSt} {v : Value} {kd : Int} (hj : j < 4) (hkd : kd = (ns j).kind) (h : w.ownsRow N 3 1 v (j + 1) ((((List.range 4).take j).map fun q => .int .i64 (ns q).kind) ++ [.int .i64 kd])) : w.ownsRow N 3 1 v (j + 1) (((List.range 4).take (j + 1)).map fun q => .int .i64 (ns q).kind) := by
  subst hkd
  have : ((List.range 4).take (j + 1)).map (fun q => Value.int .i64 (ns q).kind) = (((List.range 4).take j).map fun q => Value.int .i64 (ns q).kind) ++ [.int .i64 (ns j).kind] := by
    rw [List.take_add_one, List.map_append]
    congr 1
    rw [List.getElem?_range hj]
    rfl
  rw [this]
  exact h
theorem four_form {w : World} {N n : Nat} {T : TypeId} {sa : Option Addr} {vc : Nat} {xs : List Value} (h : w.ownsRow N T 1 (.slice sa (n + 1) vc) (n + 1) xs) : ∃ g, sa = some ⟨g, 0, none⟩ := by
  rcases h.2 with ⟨hv, h0⟩ | ⟨g, cap, cur, hv, _⟩
  · omega
  · cases hv
    exact ⟨g, rfl⟩
theorem own_cell {w : World} {N n g vc : Nat} {T : TypeId} {xs : List Value} (h : w.ownsRow N T 1 (.slice (some ⟨g, 0, none⟩) n vc) n xs) (i : Nat) {u : Value} (hu : xs[i]? = some u) : w.cell? ⟨g, i, none⟩ = some u := by
  have := h.cells (g := g) rfl i u hu
  rw [addC_plain] at this
  simpa using this
def lkrepK (x : ActD) (bs : Nat → Nat) (ra g o j k n slc : Nat) (T : Int) : Nat → Value → Prop
  | 0 => fun v => v = .slice (some ⟨ra, 0, none⟩) 4 4
  | 1 => fun v => v = .int .i64 (j : Int)
  | 2 => fun v => v = .pointer (some ⟨ra, j, none⟩)
  | 3 => fun v => v = .pointer (some ⟨bs j, 0, none⟩)
  | 4 => fun v => v = .slice (some ⟨g, o, none⟩) n slc
  | 5 => fun v => v = .int .i64 (k : Int)
  | 6 => fun v => v = .pointer (some ⟨g, o + k * 3, none⟩)
  | 7 => fun v => v = .pointer (some ⟨g, o + k * 3 + 1, none⟩)
  | 8 => fun v => v = .int .i64 x.pt
  | 9 => fun v => v = .int .i64 T
  | _ => fun _ => True
def einK (a b c d : EA) : Nat → EA
  | 0 => a
  | 1 => b
  | 2 => c
  | _ => d
set_option maxHeartbeats 16000000 in
set_option maxRecDepth 100000 in
theorem kinds_in (e : EntD) (E0 : EA) (sl : Option Addr) (acts : List ActD) (slc : Nat) (w : World) (hs : ∃ x, w.cell? ⟨3, 0, none⟩ = some x) (hP : PartsE w e E0) (hWf : WfE e.edges) (hA : SlAt encA 3 w (.slice sl acts.length slc) acts) (hh : heavyE e = false) (hn : acts.length ≤ 60) (he : entErr [] e = 0) :
    Calls Tryd.prog 6 #[.agg #[.string e.name, .int .i64 e.tol, .slice E0.pa e.pts.length E0.pc, .int .i64 e.cnt, .int .i64 e.mn, .int .i64 e.mx, .slice E0.ga e.gaps.length E0.gc, .slice E0.ea e.edges.length E0.ec, .slice E0.fa e.first.length E0.fc, .slice E0.la e.last.length E0.lc], .slice sl acts.length slc] w fun v w' => v = .returned (.bool true) ∧ Below w.heap.size w w' := by
  have HS : Hid (SmallE e) := heavyE_small hh
  have hh0 : one01 (heavyE e) = 0 := by rw [hh]; rfl
  have HP : Hid (∀ V, Below w.heap.size w V → PartsE V e E0) := fun V hV => hP.below hV
  have HSen : Hid (∀ V, Below w.heap.size w V → ∃ x, V.cell? ⟨3, 0, none⟩ = some x) := fun V hV => by obtain ⟨x, hx⟩ := hs; exact ⟨x, cell_below hV hx⟩
  have HSK : Hid (SmallK e) := ⟨heavyE_small hh, hWf⟩
  have HA : Hid (SlAt encA 3 w (.slice sl acts.length slc) acts) := hA
  have HE : Hid ((entErr (([e].take 0).map (·.name)) e : Int) = (0 : Int)) := by show ((entErr [] e : Nat) : Int) = 0; rw [he]; rfl
  have g3 : ¬ 60 < (acts.length : Int) := by omega
  clear hP hs hWf hA hh he
  go_enter Tryd.func6, Tryd.ntmps6
  go_wp2_with fail
  refine (lives_any _).mono ?_
  rintro v w1 ⟨rfl, hb1⟩
  have HX1 : Hid (w1.heap[w.heap.size]? = some (.cells #[.string e.name, .int .i64 e.tol, .slice E0.pa e.pts.length E0.pc, .int .i64 e.cnt, .int .i64 e.mn, .int .i64 e.mx, .slice E0.ga e.gaps.length E0.gc, .slice E0.ea e.edges.length E0.ec, .slice E0.fa e.first.length E0.fc, .slice E0.la e.last.length E0.lc] 27 (0, 0))) := row_below hb1 (row_alat _ _ _)
  have HB1 : Hid (Below w.heap.size w w1) := (Below.one _ _).trans (hb1.mono (by simp))
  clear hb1
  have y : ∀ (j : Nat) u, (#[.string e.name, .int .i64 e.tol, .slice E0.pa e.pts.length E0.pc, .int .i64 e.cnt, .int .i64 e.mn, .int .i64 e.mx, .slice E0.ga e.gaps.length E0.gc, .slice E0.ea e.edges.length E0.ec, .slice E0.fa e.first.length E0.fc, .slice E0.la e.last.length E0.lc] : Array Value)[j]? = some u → w1.cell? ⟨w.heap.size, j, none⟩ = some u := fun j u hu => by simp [World.cell?, HX1.out, hu]
  have y0 := y 0 _ rfl
  have y1 := y 1 _ rfl
  have y2 := y 2 _ rfl
  have y3 := y 3 _ rfl
  have y4 := y 4 _ rfl
  have y5 := y 5 _ rfl
  have y6 := y 6 _ rfl
  have y7 := y 7 _ rfl
  have y8 := y 8 _ rfl
  have y9 := y 9 _ rfl
  clear y
  go_wp2_with fail
  clear y0 y1 y2 y3 y4 y5 y6 y7 y8 y9
  refine (heavyE_at e _ _ _ _ _ _ _ _ _ _ _ (HP.out _ HB1.out).hp).mono ?_
  rintro v w2 ⟨rfl, hb2⟩
  rw [hh0]
  have HX2 : Hid (w2.heap[w.heap.size]? = some (.cells #[.string e.name, .int .i64 e.tol, .slice E0.pa e.pts.length E0.pc, .int .i64 e.cnt, .int .i64 e.mn, .int .i64 e.mx, .slice E0.ga e.gaps.length E0.gc, .slice E0.ea e.edges.length E0.ec, .slice E0.fa e.first.length E0.fc, .slice E0.la e.last.length E0.lc] 27 (0, 0))) := row_below hb2 HX1.out
  have HB2 : Hid (Below w.heap.size w w2) := HB1.out.trans (hb2.mono HB1.out.size)
  clear hb2 HX1 HB1
  have y : ∀ (j : Nat) u, (#[.string e.name, .int .i64 e.tol, .slice E0.pa e.pts.length E0.pc, .int .i64 e.cnt, .int .i64 e.mn, .int .i64 e.mx, .slice E0.ga e.gaps.length E0.gc, .slice E0.ea e.edges.length E0.ec, .slice E0.fa e.first.length E0.fc, .slice E0.la e.last.length E0.lc] : Array Value)[j]? = some u → w2.cell? ⟨w.heap.size, j, none⟩ = some u := fun j u hu => by simp [World.cell?, HX2.out, hu]
  have y0 := y 0 _ rfl
  have y1 := y 1 _ rfl
  have y2 := y 2 _ rfl
  have y3 := y 3 _ rfl
  have y4 := y 4 _ rfl
  have y5 := y 5 _ rfl
  have y6 := y 6 _ rfl
  have y7 := y 7 _ rfl
  have y8 := y 8 _ rfl
  have y9 := y 9 _ rfl
  clear y
  go_wp2_with fail
  clear y0 y1 y2 y3 y4 y5 y6 y7 y8 y9
  have HBA : Hid (Below w.heap.size w (w2.alloc (.cells #[.string e.name, .int .i64 e.tol, .slice E0.pa e.pts.length E0.pc, .int .i64 e.cnt, .int .i64 e.mn, .int .i64 e.mx, .slice E0.ga e.gaps.length E0.gc, .slice E0.ea e.edges.length E0.ec, .slice E0.fa e.first.length E0.fc, .slice E0.la e.last.length E0.lc] 27))) := HB2.out.trans ((Below.one _ _).mono HB2.out.size)
  refine (entErr_at [e] _ 1 0 e _ (ents_one (row_alat w2 _ _) (HP.out _ HBA.out)) rfl (fun x hx => by rw [List.mem_singleton] at hx; subst hx; exact HS.out) (by simp)).mono ?_
  rintro v w3 ⟨rfl, hb3⟩
  rw [show (entErr (([e].take 0).map (·.name)) e : Int) = (0 : Int) from HE.out]
  have HX3 : Hid (w3.heap[w.heap.size]? = some (.cells #[.string e.name, .int .i64 e.tol, .slice E0.pa e.pts.length E0.pc, .int .i64 e.cnt, .int .i64 e.mn, .int .i64 e.mx, .slice E0.ga e.gaps.length E0.gc, .slice E0.ea e.edges.length E0.ec, .slice E0.fa e.first.length E0.fc, .slice E0.la e.last.length E0.lc] 27 (0, 0))) := row_below hb3 (row_below (Below.one _ _) HX2.out)
  have HB3 : Hid (Below w.heap.size w w3) := HBA.out.trans (hb3.mono HBA.out.size)
  clear hb3 HX2 HB2 HBA
  have y : ∀ (j : Nat) u, (#[.string e.name, .int .i64 e.tol, .slice E0.pa e.pts.length E0.pc, .int .i64 e.cnt, .int .i64 e.mn, .int .i64 e.mx, .slice E0.ga e.gaps.length E0.gc, .slice E0.ea e.edges.length E0.ec, .slice E0.fa e.first.length E0.fc, .slice E0.la e.last.length E0.lc] : Array Value)[j]? = some u → w3.cell? ⟨w.heap.size, j, none⟩ = some u := fun j u hu => by simp [World.cell?, HX3.out, hu]
  have y0 := y 0 _ rfl
  have y1 := y 1 _ rfl
  have y2 := y 2 _ rfl
  have y3 := y 3 _ rfl
  have y4 := y 4 _ rfl
  have y5 := y 5 _ rfl
  have y6 := y 6 _ rfl
  have y7 := y 7 _ rfl
  have y8 := y 8 _ rfl
  have y9 := y 9 _ rfl
  clear y
  go_wp2_with fail
  clear y0 y1 y2 y3 y4 y5 y6 y7 y8 y9
  refine (ownEntity_at w3.heap.size e _ _ _ _ _ _ _ _ _ _ _ (HP.out _ HB3.out) HS.out (Nat.le_refl _)).mono ?_
  rintro v w4 ⟨⟨pa1, pc1, ga1, gc1, ea1, ec1, fa1, fc1, la1, lc1, rfl, hown⟩, hb4⟩
  have HO1 : Hid (PartsE w4 e ⟨pa1, ga1, ea1, fa1, la1, pc1, gc1, ec1, fc1, lc1⟩) := hown.parts
  have HX4 : Hid (w4.heap[w.heap.size]? = some (.cells #[.string e.name, .int .i64 e.tol, .slice E0.pa e.pts.length E0.pc, .int .i64 e.cnt, .int .i64 e.mn, .int .i64 e.mx, .slice E0.ga e.gaps.length E0.gc, .slice E0.ea e.edges.length E0.ec, .slice E0.fa e.first.length E0.fc, .slice E0.la e.last.length E0.lc] 27 (0, 0))) := row_below hb4 HX3.out
  have HB4 : Hid (Below w.heap.size w w4) := HB3.out.trans (hb4.mono HB3.out.size)
  have Hb4 : Hid (Below w3.heap.size w3 w4) := hb4
  clear hb4 hown HX3 HB3
  go_upto_region 9 with fail
  obtain ⟨w5, hw5⟩ : ∃ V, V = w4.alloc (.cells #[.string e.name, .int .i64 e.tol, .slice pa1 e.pts.length pc1, .int .i64 e.cnt, .int .i64 e.mn, .int .i64 e.mx, .slice none 0 0, .slice none 0 0, .slice none 0 0, .slice none 0 0] 27) := ⟨_, rfl⟩
  rw [← hw5]
  obtain ⟨r1, hr1⟩ : ∃ r, r = w4.heap.size := ⟨_, rfl⟩
  rw [← hr1]
  have Hb5 : Hid (Below w4.heap.size w4 w5) := by show Below _ _ _; rw [hw5]; exact Below.one _ _
  have HRow1 : Hid (w5.heap[r1]? = some (.cells #[.string e.name, .int .i64 e.tol, .slice pa1 e.pts.length pc1, .int .i64 e.cnt, .int .i64 e.mn, .int .i64 e.mx, .slice none 0 0, .slice none 0 0, .slice none 0 0, .slice none 0 0] 27 (0, 0))) := by show _ = _; rw [hw5, hr1]; exact row_alat _ _ _
  have HPt1 : Hid (PartsE w5 (ke e 1) ⟨pa1, none, none, none, none, pc1, 0, 0, 0, 0⟩) := PartsE.below (w := w4) (e := ke e 1) (E := ⟨pa1, none, none, none, none, pc1, 0, 0, 0, 0⟩) ⟨HO1.out.hp, slat_nil _, slat_nil _, slat_nil _, slat_nil _⟩ Hb5.out
  have HX5 : Hid (w5.heap[w.heap.size]? = some (.cells #[.string e.name, .int .i64 e.tol, .slice E0.pa e.pts.length E0.pc, .int .i64 e.cnt, .int .i64 e.mn, .int .i64 e.mx, .slice E0.ga e.gaps.length E0.gc, .slice E0.ea e.edges.length E0.ec, .slice E0.fa e.first.length E0.fc, .slice E0.la e.last.length E0.lc] 27 (0, 0))) := row_below Hb5.out HX4.out
  have HB5 : Hid (Below w.heap.size w w5) := HB4.out.trans (Hb5.out.mono HB4.out.size)
  clear hw5 hr1 HO1 HX4 HB4 Hb4 Hb5
  have y : ∀ (j : Nat) u, (#[.string e.name, .int .i64 e.tol, .slice E0.pa e.pts.length E0.pc, .int .i64 e.cnt, .int .i64 e.mn, .int .i64 e.mx, .slice E0.ga e.gaps.length E0.gc, .slice E0.ea e.edges.length E0.ec, .slice E0.fa e.first.length E0.fc, .slice E0.la e.last.length E0.lc] : Array Value)[j]? = some u → w5.cell? ⟨w.heap.size, j, none⟩ = some u := fun j u hu => by simp [World.cell?, HX5.out, hu]
  have y0 := y 0 _ rfl
  have y1 := y 1 _ rfl
  have y2 := y 2 _ rfl
  have y3 := y 3 _ rfl
  have y4 := y 4 _ rfl
  have y5 := y 5 _ rfl
  have y6 := y 6 _ rfl
  have y7 := y 7 _ rfl
  have y8 := y 8 _ rfl
  have y9 := y 9 _ rfl
  clear y
  go_wp2_with fail
  clear y0 y1 y2 y3 y4 y5 y6 y7 y8 y9
  refine (ownEntity_at w5.heap.size e _ _ _ _ _ _ _ _ _ _ _ (HP.out _ HB5.out) HS.out (Nat.le_refl _)).mono ?_
  rintro v w6 ⟨⟨pa2, pc2, ga2, gc2, ea2, ec2, fa2, fc2, la2, lc2, rfl, hown⟩, hb6⟩
  have HO2 : Hid (PartsE w6 e ⟨pa2, ga2, ea2, fa2, la2, pc2, gc2, ec2, fc2, lc2⟩) := hown.parts
  have HX6 : Hid (w6.heap[w.heap.size]? = some (.cells #[.string e.name, .int .i64 e.tol, .slice E0.pa e.pts.length E0.pc, .int .i64 e.cnt, .int .i64 e.mn, .int .i64 e.mx, .slice E0.ga e.gaps.length E0.gc, .slice E0.ea e.edges.length E0.ec, .slice E0.fa e.first.length E0.fc, .slice E0.la e.last.length E0.lc] 27 (0, 0))) := row_below hb6 HX5.out
  have HB6 : Hid (Below w.heap.size w w6) := HB5.out.trans (hb6.mono HB5.out.size)
  have Hb6 : Hid (Below w5.heap.size w5 w6) := hb6
  clear hb6 hown HX5 HB5
  have HRow1b : Hid (w6.heap[r1]? = some (.cells #[.string e.name, .int .i64 e.tol, .slice pa1 e.pts.length pc1, .int .i64 e.cnt, .int .i64 e.mn, .int .i64 e.mx, .slice none 0 0, .slice none 0 0, .slice none 0 0, .slice none 0 0] 27 (0, 0))) := row_below Hb6.out HRow1.out
  have HPt1b : Hid (PartsE w6 (ke e 1) ⟨pa1, none, none, none, none, pc1, 0, 0, 0, 0⟩) := HPt1.out.below Hb6.out
  clear HRow1 HPt1
  rename Hid (w6.heap[r1]? = _) => HRow1
  rename Hid (PartsE w6 (ke e 1) _) => HPt1
  go_upto_region 16 with fail
  obtain ⟨w7, hw7⟩ : ∃ V, V = w6.alloc (.cells #[.string e.name, .int .i64 e.tol, .slice pa2 e.pts.length pc2, .int .i64 (-1), .int .i64 0, .int .i64 0, .slice ga2 e.gaps.length gc2, .slice none 0 0, .slice none 0 0, .slice none 0 0] 27) := ⟨_, rfl⟩
  rw [← hw7]
  obtain ⟨r2, hr2⟩ : ∃ r, r = w6.heap.size := ⟨_, rfl⟩
  rw [← hr2]
  have Hb7 : Hid (Below w6.heap.size w6 w7) := by show Below _ _ _; rw [hw7]; exact Below.one _ _
  have HRow2 : Hid (w7.heap[r2]? = some (.cells #[.string e.name, .int .i64 e.tol, .slice pa2 e.pts.length pc2, .int .i64 (-1), .int .i64 0, .int .i64 0, .slice ga2 e.gaps.length gc2, .slice none 0 0, .slice none 0 0, .slice none 0 0] 27 (0, 0))) := by show _ = _; rw [hw7, hr2]; exact row_alat _ _ _
  have HPt2 : Hid (PartsE w7 (ke e 2) ⟨pa2, ga2, none, none, none, pc2, gc2, 0, 0, 0⟩) := PartsE.below (w := w6) (e := ke e 2) (E := ⟨pa2, ga2, none, none, none, pc2, gc2, 0, 0, 0⟩) ⟨HO2.out.hp, HO2.out.hg, slat_nil _, slat_nil _, slat_nil _⟩ Hb7.out
  have HX7 : Hid (w7.heap[w.heap.size]? = some (.cells #[.string e.name, .int .i64 e.tol, .slice E0.pa e.pts.length E0.pc, .int .i64 e.cnt, .int .i64 e.mn, .int .i64 e.mx, .slice E0.ga e.gaps.length E0.gc, .slice E0.ea e.edges.length E0.ec, .slice E0.fa e.first.length E0.fc, .slice E0.la e.last.length E0.lc] 27 (0, 0))) := row_below Hb7.out HX6.out
  have HB7 : Hid (Below w.heap.size w w7) := HB6.out.trans (Hb7.out.mono HB6.out.size)
  have HRow1b : Hid (w7.heap[r1]? = some (.cells #[.string e.name, .int .i64 e.tol, .slice pa1 e.pts.length pc1, .int .i64 e.cnt, .int .i64 e.mn, .int .i64 e.mx, .slice none 0 0, .slice none 0 0, .slice none 0 0, .slice none 0 0] 27 (0, 0))) := row_below Hb7.out HRow1.out
  have HPt1b : Hid (PartsE w7 (ke e 1) ⟨pa1, none, none, none, none, pc1, 0, 0, 0, 0⟩) := HPt1.out.below Hb7.out
  clear HRow1 HPt1
  rename Hid (w7.heap[r1]? = _) => HRow1
  rename Hid (PartsE w7 (ke e 1) _) => HPt1
  clear hw7 hr2 HO2 HX6 HB6 Hb6 Hb7
  have y : ∀ (j : Nat) u, (#[.string e.name, .int .i64 e.tol, .slice E0.pa e.pts.length E0.pc, .int .i64 e.cnt, .int .i64 e.mn, .int .i64 e.mx, .slice E0.ga e.gaps.length E0.gc, .slice E0.ea e.edges.length E0.ec, .slice E0.fa e.first.length E0.fc, .slice E0.la e.last.length E0.lc] : Array Value)[j]? = some u → w7.cell? ⟨w.heap.size, j, none⟩ = some u := fun j u hu => by simp [World.cell?, HX7.out, hu]
  have y0 := y 0 _ rfl
  have y1 := y 1 _ rfl
  have y2 := y 2 _ rfl
  have y3 := y 3 _ rfl
  have y4 := y 4 _ rfl
  have y5 := y 5 _ rfl
  have y6 := y 6 _ rfl
  have y7 := y 7 _ rfl
  have y8 := y 8 _ rfl
  have y9 := y 9 _ rfl
  clear y
  go_wp2_with fail
  clear y0 y1 y2 y3 y4 y5 y6 y7 y8 y9
  refine (ownEntity_at w7.heap.size e _ _ _ _ _ _ _ _ _ _ _ (HP.out _ HB7.out) HS.out (Nat.le_refl _)).mono ?_
  rintro v w8 ⟨⟨pa3, pc3, ga3, gc3, ea3, ec3, fa3, fc3, la3, lc3, rfl, hown⟩, hb8⟩
  have HO3 : Hid (PartsE w8 e ⟨pa3, ga3, ea3, fa3, la3, pc3, gc3, ec3, fc3, lc3⟩) := hown.parts
  have HX8 : Hid (w8.heap[w.heap.size]? = some (.cells #[.string e.name, .int .i64 e.tol, .slice E0.pa e.pts.length E0.pc, .int .i64 e.cnt, .int .i64 e.mn, .int .i64 e.mx, .slice E0.ga e.gaps.length E0.gc, .slice E0.ea e.edges.length E0.ec, .slice E0.fa e.first.length E0.fc, .slice E0.la e.last.length E0.lc] 27 (0, 0))) := row_below hb8 HX7.out
  have HB8 : Hid (Below w.heap.size w w8) := HB7.out.trans (hb8.mono HB7.out.size)
  have Hb8 : Hid (Below w7.heap.size w7 w8) := hb8
  clear hb8 hown HX7 HB7
  have HRow1b : Hid (w8.heap[r1]? = some (.cells #[.string e.name, .int .i64 e.tol, .slice pa1 e.pts.length pc1, .int .i64 e.cnt, .int .i64 e.mn, .int .i64 e.mx, .slice none 0 0, .slice none 0 0, .slice none 0 0, .slice none 0 0] 27 (0, 0))) := row_below Hb8.out HRow1.out
  have HPt1b : Hid (PartsE w8 (ke e 1) ⟨pa1, none, none, none, none, pc1, 0, 0, 0, 0⟩) := HPt1.out.below Hb8.out
  clear HRow1 HPt1
  rename Hid (w8.heap[r1]? = _) => HRow1
  rename Hid (PartsE w8 (ke e 1) _) => HPt1
  have HRow2b : Hid (w8.heap[r2]? = some (.cells #[.string e.name, .int .i64 e.tol, .slice pa2 e.pts.length pc2, .int .i64 (-1), .int .i64 0, .int .i64 0, .slice ga2 e.gaps.length gc2, .slice none 0 0, .slice none 0 0, .slice none 0 0] 27 (0, 0))) := row_below Hb8.out HRow2.out
  have HPt2b : Hid (PartsE w8 (ke e 2) ⟨pa2, ga2, none, none, none, pc2, gc2, 0, 0, 0⟩) := HPt2.out.below Hb8.out
  clear HRow2 HPt2
  rename Hid (w8.heap[r2]? = _) => HRow2
  rename Hid (PartsE w8 (ke e 2) _) => HPt2
  go_upto_region 21 with fail
  obtain ⟨w9, hw9⟩ : ∃ V, V = w8.alloc (.cells #[.string e.name, .int .i64 e.tol, .slice pa3 e.pts.length pc3, .int .i64 (-1), .int .i64 0, .int .i64 0, .slice none 0 0, .slice ea3 e.edges.length ec3, .slice fa3 e.first.length fc3, .slice la3 e.last.length lc3] 27) := ⟨_, rfl⟩
  rw [← hw9]
  obtain ⟨r3, hr3⟩ : ∃ r, r = w8.heap.size := ⟨_, rfl⟩
  rw [← hr3]
  have Hb9 : Hid (Below w8.heap.size w8 w9) := by show Below _ _ _; rw [hw9]; exact Below.one _ _
  have HRow3 : Hid (w9.heap[r3]? = some (.cells #[.string e.name, .int .i64 e.tol, .slice pa3 e.pts.length pc3, .int .i64 (-1), .int .i64 0, .int .i64 0, .slice none 0 0, .slice ea3 e.edges.length ec3, .slice fa3 e.first.length fc3, .slice la3 e.last.length lc3] 27 (0, 0))) := by show _ = _; rw [hw9, hr3]; exact row_alat _ _ _
  have HPt3 : Hid (PartsE w9 (ke e 3) ⟨pa3, none, ea3, fa3, la3, pc3, 0, ec3, fc3, lc3⟩) := PartsE.below (w := w8) (e := ke e 3) (E := ⟨pa3, none, ea3, fa3, la3, pc3, 0, ec3, fc3, lc3⟩) ⟨HO3.out.hp, slat_nil _, HO3.out.he, HO3.out.hf, HO3.out.hl⟩ Hb9.out
  have HX9 : Hid (w9.heap[w.heap.size]? = some (.cells #[.string e.name, .int .i64 e.tol, .slice E0.pa e.pts.length E0.pc, .int .i64 e.cnt, .int .i64 e.mn, .int .i64 e.mx, .slice E0.ga e.gaps.length E0.gc, .slice E0.ea e.edges.length E0.ec, .slice E0.fa e.first.length E0.fc, .slice E0.la e.last.length E0.lc] 27 (0, 0))) := row_below Hb9.out HX8.out
  have HB9 : Hid (Below w.heap.size w w9) := HB8.out.trans (Hb9.out.mono HB8.out.size)
  have HRow1b : Hid (w9.heap[r1]? = some (.cells #[.string e.name, .int .i64 e.tol, .slice pa1 e.pts.length pc1, .int .i64 e.cnt, .int .i64 e.mn, .int .i64 e.mx, .slice none 0 0, .slice none 0 0, .slice none 0 0, .slice none 0 0] 27 (0, 0))) := row_below Hb9.out HRow1.out
  have HPt1b : Hid (PartsE w9 (ke e 1) ⟨pa1, none, none, none, none, pc1, 0, 0, 0, 0⟩) := HPt1.out.below Hb9.out
  clear HRow1 HPt1
  rename Hid (w9.heap[r1]? = _) => HRow1
  rename Hid (PartsE w9 (ke e 1) _) => HPt1
  have HRow2b : Hid (w9.heap[r2]? = some (.cells #[.string e.name, .int .i64 e.tol, .slice pa2 e.pts.length pc2, .int .i64 (-1), .int .i64 0, .int .i64 0, .slice ga2 e.gaps.length gc2, .slice none 0 0, .slice none 0 0, .slice none 0 0] 27 (0, 0))) := row_below Hb9.out HRow2.out
  have HPt2b : Hid (PartsE w9 (ke e 2) ⟨pa2, ga2, none, none, none, pc2, gc2, 0, 0, 0⟩) := HPt2.out.below Hb9.out
  clear HRow2 HPt2
  rename Hid (w9.heap[r2]? = _) => HRow2
  rename Hid (PartsE w9 (ke e 2) _) => HPt2
  clear hw9 hr3 HO3 HX8 HB8 Hb8 Hb9
  refine region_spec3 11 rfl (MadeC w9 e (einK E0 ⟨pa1, none, none, none, none, pc1, 0, 0, 0, 0⟩ ⟨pa2, ga2, none, none, none, pc2, gc2, 0, 0, 0⟩ ⟨pa3, none, ea3, fa3, la3, pc3, 0, ec3, fc3, lc3⟩)) (by kernel_rfl) (by kernel_rfl) (made_none _ _ _ _ (Below.refl _ _).drew) ?_ ?_
  · intro i o ho
    match i, ho with
    | 0, ho =>
      obtain rfl := Option.some.inj ho
      refine StepOk3.free rfl ?_
      intro vals a V hC hn hdep hoth
      have x2 : a.tmps[2]?.getD undef = .pointer (some ⟨w.heap.size, 0, none⟩) := slot_of (hoth 2 (notDst (by kernel_rfl)))
      have hrow := row_below hC.bel HX9.out
      have c0 : V.cell? ⟨w.heap.size, 0, none⟩ = some (.string e.name) := by simp [World.cell?, hrow]
      have c1 : V.cell? ⟨w.heap.size, 1, none⟩ = some (.int .i64 e.tol) := by simp [World.cell?, hrow]
      have c2 : V.cell? ⟨w.heap.size, 2, none⟩ = some (.slice E0.pa e.pts.length E0.pc) := by simp [World.cell?, hrow]
      have c3 : V.cell? ⟨w.heap.size, 3, none⟩ = some (.int .i64 e.cnt) := by simp [World.cell?, hrow]
      have c4 : V.cell? ⟨w.heap.size, 4, none⟩ = some (.int .i64 e.mn) := by simp [World.cell?, hrow]
      have c5 : V.cell? ⟨w.heap.size, 5, none⟩ = some (.int .i64 e.mx) := by simp [World.cell?, hrow]
      have c6 : V.cell? ⟨w.heap.size, 6, none⟩ = some (.slice E0.ga e.gaps.length E0.gc) := by simp [World.cell?, hrow]
      have c7 : V.cell? ⟨w.heap.size, 7, none⟩ = some (.slice E0.ea e.edges.length E0.ec) := by simp [World.cell?, hrow]
      have c8 : V.cell? ⟨w.heap.size, 8, none⟩ = some (.slice E0.fa e.first.length E0.fc) := by simp [World.cell?, hrow]
      have c9 : V.cell? ⟨w.heap.size, 9, none⟩ = some (.slice E0.la e.last.length E0.lc) := by simp [World.cell?, hrow]
      exact goodRun3.val (w := V) (c := .agg #[.string e.name, .int .i64 e.tol, .slice E0.pa e.pts.length E0.pc, .int .i64 e.cnt, .int .i64 e.mn, .int .i64 e.mx, .slice E0.ga e.gaps.length E0.gc, .slice E0.ea e.edges.length E0.ec, .slice E0.fa e.first.length E0.fc, .slice E0.la e.last.length E0.lc]) (by clear hdep hoth hC hrow hn; go_simp) (hC.load (i := 0) (by decide) hn rfl)
    | 1, ho =>
      obtain rfl := Option.some.inj ho
      refine StepOk3.free rfl ?_
      intro vals a V hC hn hdep hoth
      obtain ⟨v, hv, hev⟩ := hdep _ (Array.mem_of_getElem? (i := 0) rfl) rfl
      have hx := hev 59 rfl
      clear hev
      obtain ⟨los, his, bs', Es', hI⟩ := id hC
      have hv2 := hI.ld 0 (by decide) v hv
      subst hv2
      have x59 : a.tmps[59]?.getD undef = .agg #[.string e.name, .int .i64 e.tol, .slice E0.pa e.pts.length E0.pc, .int .i64 e.cnt, .int .i64 e.mn, .int .i64 e.mx, .slice E0.ga e.gaps.length E0.gc, .slice E0.ea e.edges.length E0.ec, .slice E0.fa e.first.length E0.fc, .slice E0.la e.last.length E0.lc] := slot_of hx
      clear hI hx
      refine goodRun3.call (w := V) (f := 11) (args := #[.agg #[.string e.name, .int .i64 e.tol, .slice E0.pa e.pts.length E0.pc, .int .i64 e.cnt, .int .i64 e.mn, .int .i64 e.mx, .slice E0.ga e.gaps.length E0.gc, .slice E0.ea e.edges.length E0.ec, .slice E0.fa e.first.length E0.fc, .slice E0.la e.last.length E0.lc]]) (by clear hdep hoth hC hn hv; go_simp) ?_
      refine (ownEntity_at V.heap.size e _ _ _ _ _ _ _ _ _ _ V (HP.out _ (HB9.out.trans (hC.bel.mono HB9.out.size))) HS.out (Nat.le_refl _)).mono ?_
      rintro v V' ⟨⟨pa0, pc0, ga0, gc0, ea0, ec0, fa0, fc0, la0, lc0, rfl, hown⟩, hb⟩
      exact ⟨_, rfl, (hC.below hb).owned (E' := ⟨pa0, ga0, ea0, fa0, la0, pc0, gc0, ec0, fc0, lc0⟩) hown.parts rfl⟩
    | 2, ho =>
      obtain rfl := Option.some.inj ho
      refine StepOk3.free rfl ?_
      intro vals a V hC hn hdep hoth
      obtain ⟨v, hv, hev⟩ := hdep _ (Array.mem_of_getElem? (i := 0) rfl) rfl
      have hx := hev 60 rfl
      clear hev
      obtain ⟨los, his, bs', Es', hI⟩ := id hC
      obtain ⟨E', rfl, hPE⟩ := hI.own v hv
      have x60 : a.tmps[60]?.getD undef = .agg #[.string e.name, .int .i64 e.tol, .slice E'.pa e.pts.length E'.pc, .int .i64 e.cnt, .int .i64 e.mn, .int .i64 e.mx, .slice E'.ga e.gaps.length E'.gc, .slice E'.ea e.edges.length E'.ec, .slice E'.fa e.first.length E'.fc, .slice E'.la e.last.length E'.lc] := slot_of hx
      clear hI hx
      refine goodRun3.call (w := V) (f := 18) (args := #[.agg #[.string e.name, .int .i64 e.tol, .slice E'.pa e.pts.length E'.pc, .int .i64 e.cnt, .int .i64 e.mn, .int .i64 e.mx, .slice E'.ga e.gaps.length E'.gc, .slice E'.ea e.edges.length E'.ec, .slice E'.fa e.first.length E'.fc, .slice E'.la e.last.length E'.lc]]) (by clear hdep hoth hC hn hPE hv; go_simp) ?_
      refine (lo_new V e E' hPE HS.out).mono ?_
      rintro v V' ⟨⟨b, E2, rfl, hL⟩, hb⟩
      exact ⟨_, rfl, hC.made (i := 0) (by decide) hn (fun j hj => by omega) hL hb⟩
    | 3, ho =>
      obtain rfl := Option.some.inj ho
      refine StepOk3.free rfl ?_
      intro vals a V hC hn hdep hoth
      have x6 : a.tmps[6]?.getD undef = .pointer (some ⟨r1, 0, none⟩) := slot_of (hoth 6 (notDst (by kernel_rfl)))
      have hrow := row_below hC.bel HRow1.out
      have c0 : V.cell? ⟨r1, 0, none⟩ = some (.string e.name) := by simp [World.cell?, hrow]
      have c1 : V.cell? ⟨r1, 1, none⟩ = some (.int .i64 e.tol) := by simp [World.cell?, hrow]
      have c2 : V.cell? ⟨r1, 2, none⟩ = some (.slice pa1 e.pts.length pc1) := by simp [World.cell?, hrow]
      have c3 : V.cell? ⟨r1, 3, none⟩ = some (.int .i64 e.cnt) := by simp [World.cell?, hrow]
      have c4 : V.cell? ⟨r1, 4, none⟩ = some (.int .i64 e.mn) := by simp [World.cell?, hrow]
      have c5 : V.cell? ⟨r1, 5, none⟩ = some (.int .i64 e.mx) := by simp [World.cell?, hrow]
      have c6 : V.cell? ⟨r1, 6, none⟩ = some (.slice none 0 0) := by simp [World.cell?, hrow]
      have c7 : V.cell? ⟨r1, 7, none⟩ = some (.slice none 0 0) := by simp [World.cell?, hrow]
      have c8 : V.cell? ⟨r1, 8, none⟩ = some (.slice none 0 0) := by simp [World.cell?, hrow]
      have c9 : V.cell? ⟨r1, 9, none⟩ = some (.slice none 0 0) := by simp [World.cell?, hrow]
      exact goodRun3.val (w := V) (c := .agg #[.string e.name, .int .i64 e.tol, .slice pa1 e.pts.length pc1, .int .i64 e.cnt, .int .i64 e.mn, .int .i64 e.mx, .slice none 0 0, .slice none 0 0, .slice none 0 0, .slice none 0 0]) (by clear hdep hoth hC hrow hn; go_simp) (hC.load (i := 1) (by decide) hn rfl)
    | 4, ho =>
      obtain rfl := Option.some.inj ho
      refine StepOk3.free rfl ?_
      intro vals a V hC hn hdep hoth
      obtain ⟨v, hv, hev⟩ := hdep _ (Array.mem_of_getElem? (i := 0) rfl) rfl
      have hx := hev 62 rfl
      clear hev
      obtain ⟨vp, hvp, -⟩ := hdep _ (Array.mem_of_getElem? (i := 1) rfl) rfl
      obtain ⟨los, his, bs', Es', hI⟩ := id hC
      have hv2 := hI.ld 1 (by decide) v hv
      subst hv2
      have x62 : a.tmps[62]?.getD undef = .agg #[.string e.name, .int .i64 e.tol, .slice pa1 e.pts.length pc1, .int .i64 e.cnt, .int .i64 e.mn, .int .i64 e.mx, .slice none 0 0, .slice none 0 0, .slice none 0 0, .slice none 0 0] := slot_of hx
      clear hI hx
      refine goodRun3.call (w := V) (f := 18) (args := #[.agg #[.string e.name, .int .i64 e.tol, .slice pa1 e.pts.length pc1, .int .i64 e.cnt, .int .i64 e.mn, .int .i64 e.mx, .slice none 0 0, .slice none 0 0, .slice none 0 0, .slice none 0 0]]) (by clear hdep hoth hC hn hv hvp; go_simp) ?_
      refine (lo_new V (ke e 1) ⟨pa1, none, none, none, none, pc1, 0, 0, 0, 0⟩ (HPt1.out.below hC.bel) (ke_small HS.out 1)).mono ?_
      rintro v V' ⟨⟨b, E2, rfl, hL⟩, hb⟩
      exact ⟨_, rfl, hC.made (i := 1) (by decide) hn (fun j hj hnn => by obtain rfl : j = 0 := (by omega); cases hvp.symm.trans hnn) hL hb⟩
    | 5, ho =>
      obtain rfl := Option.some.inj ho
      refine StepOk3.free rfl ?_
      intro vals a V hC hn hdep hoth
      have x7 : a.tmps[7]?.getD undef = .pointer (some ⟨r2, 0, none⟩) := slot_of (hoth 7 (notDst (by kernel_rfl)))
      have hrow := row_below hC.bel HRow2.out
      have c0 : V.cell? ⟨r2, 0, none⟩ = some (.string e.name) := by simp [World.cell?, hrow]
      have c1 : V.cell? ⟨r2, 1, none⟩ = some (.int .i64 e.tol) := by simp [World.cell?, hrow]
      have c2 : V.cell? ⟨r2, 2, none⟩ = some (.slice pa2 e.pts.length pc2) := by simp [World.cell?, hrow]
      have c3 : V.cell? ⟨r2, 3, none⟩ = some (.int .i64 (-1)) := by simp [World.cell?, hrow]
      have c4 : V.cell? ⟨r2, 4, none⟩ = some (.int .i64 0) := by simp [World.cell?, hrow]
      have c5 : V.cell? ⟨r2, 5, none⟩ = some (.int .i64 0) := by simp [World.cell?, hrow]
      have c6 : V.cell? ⟨r2, 6, none⟩ = some (.slice ga2 e.gaps.length gc2) := by simp [World.cell?, hrow]
      have c7 : V.cell? ⟨r2, 7, none⟩ = some (.slice none 0 0) := by simp [World.cell?, hrow]
      have c8 : V.cell? ⟨r2, 8, none⟩ = some (.slice none 0 0) := by simp [World.cell?, hrow]
      have c9 : V.cell? ⟨r2, 9, none⟩ = some (.slice none 0 0) := by simp [World.cell?, hrow]
      exact goodRun3.val (w := V) (c := .agg #[.string e.name, .int .i64 e.tol, .slice pa2 e.pts.length pc2, .int .i64 (-1), .int .i64 0, .int .i64 0, .slice ga2 e.gaps.length gc2, .slice none 0 0, .slice none 0 0, .slice none 0 0]) (by clear hdep hoth hC hrow hn; go_simp) (hC.load (i := 2) (by decide) hn rfl)
    | 6, ho =>
      obtain rfl := Option.some.inj ho
      refine StepOk3.free rfl ?_
      intro vals a V hC hn hdep hoth
      obtain ⟨v, hv, hev⟩ := hdep _ (Array.mem_of_getElem? (i := 0) rfl) rfl
      have hx := hev 64 rfl
      clear hev
      obtain ⟨vp, hvp, -⟩ := hdep _ (Array.mem_of_getElem? (i := 1) rfl) rfl
      obtain ⟨los, his, bs', Es', hI⟩ := id hC
      have hv2 := hI.ld 2 (by decide) v hv
      subst hv2
      have x64 : a.tmps[64]?.getD undef = .agg #[.string e.name, .int .i64 e.tol, .slice pa2 e.pts.length pc2, .int .i64 (-1), .int .i64 0, .int .i64 0, .slice ga2 e.gaps.length gc2, .slice none 0 0, .slice none 0 0, .slice none 0 0] := slot_of hx
      clear hI hx
      refine goodRun3.call (w := V) (f := 18) (args := #[.agg #[.string e.name, .int .i64 e.tol, .slice pa2 e.pts.length pc2, .int .i64 (-1), .int .i64 0, .int .i64 0, .slice ga2 e.gaps.length gc2, .slice none 0 0, .slice none 0 0, .slice none 0 0]]) (by clear hdep hoth hC hn hv hvp; go_simp) ?_
      refine (lo_new V (ke e 2) ⟨pa2, ga2, none, none, none, pc2, gc2, 0, 0, 0⟩ (HPt2.out.below hC.bel) (ke_small HS.out 2)).mono ?_
      rintro v V' ⟨⟨b, E2, rfl, hL⟩, hb⟩
      exact ⟨_, rfl, hC.made (i := 2) (by decide) hn (fun j hj hnn => by obtain rfl : j = 1 := (by omega); cases hvp.symm.trans hnn) hL hb⟩
    | 7, ho =>
      obtain rfl := Option.some.inj ho
      refine StepOk3.free rfl ?_
      intro vals a V hC hn hdep hoth
      have x8 : a.tmps[8]?.getD undef = .pointer (some ⟨r3, 0, none⟩) := slot_of (hoth 8 (notDst (by kernel_rfl)))
      have hrow := row_below hC.bel HRow3.out
      have c0 : V.cell? ⟨r3, 0, none⟩ = some (.string e.name) := by simp [World.cell?, hrow]
      have c1 : V.cell? ⟨r3, 1, none⟩ = some (.int .i64 e.tol) := by simp [World.cell?, hrow]
      have c2 : V.cell? ⟨r3, 2, none⟩ = some (.slice pa3 e.pts.length pc3) := by simp [World.cell?, hrow]
      have c3 : V.cell? ⟨r3, 3, none⟩ = some (.int .i64 (-1)) := by simp [World.cell?, hrow]
      have c4 : V.cell? ⟨r3, 4, none⟩ = some (.int .i64 0) := by simp [World.cell?, hrow]
      have c5 : V.cell? ⟨r3, 5, none⟩ = some (.int .i64 0) := by simp [World.cell?, hrow]
      have c6 : V.cell? ⟨r3, 6, none⟩ = some (.slice none 0 0) := by simp [World.cell?, hrow]
      have c7 : V.cell? ⟨r3, 7, none⟩ = some (.slice ea3 e.edges.length ec3) := by simp [World.cell?, hrow]
      have c8 : V.cell? ⟨r3, 8, none⟩ = some (.slice fa3 e.first.length fc3) := by simp [World.cell?, hrow]
      have c9 : V.cell? ⟨r3, 9, none⟩ = some (.slice la3 e.last.length lc3) := by simp [World.cell?, hrow]
      exact goodRun3.val (w := V) (c := .agg #[.string e.name, .int .i64 e.tol, .slice pa3 e.pts.length pc3, .int .i64 (-1), .int .i64 0, .int .i64 0, .slice none 0 0, .slice ea3 e.edges.length ec3, .slice fa3 e.first.length fc3, .slice la3 e.last.length lc3]) (by clear hdep hoth hC hrow hn; go_simp) (hC.load (i := 3) (by decide) hn rfl)
    | 8, ho =>
      obtain rfl := Option.some.inj ho
      refine StepOk3.free rfl ?_
      intro vals a V hC hn hdep hoth
      obtain ⟨v, hv, hev⟩ := hdep _ (Array.mem_of_getElem? (i := 0) rfl) rfl
      have hx := hev 66 rfl
      clear hev
      obtain ⟨vp, hvp, -⟩ := hdep _ (Array.mem_of_getElem? (i := 1) rfl) rfl
      obtain ⟨los, his, bs', Es', hI⟩ := id hC
      have hv2 := hI.ld 3 (by decide) v hv
      subst hv2
      have x66 : a.tmps[66]?.getD undef = .agg #[.string e.name, .int .i64 e.tol, .slice pa3 e.pts.length pc3, .int .i64 (-1), .int .i64 0, .int .i64 0, .slice none 0 0, .slice ea3 e.edges.length ec3, .slice fa3 e.first.length fc3, .slice la3 e.last.length lc3] := slot_of hx
      clear hI hx
      refine goodRun3.call (w := V) (f := 18) (args := #[.agg #[.string e.name, .int .i64 e.tol, .slice pa3 e.pts.length pc3, .int .i64 (-1), .int .i64 0, .int .i64 0, .slice none 0 0, .slice ea3 e.edges.length ec3, .slice fa3 e.first.length fc3, .slice la3 e.last.length lc3]]) (by clear hdep hoth hC hn hv hvp; go_simp) ?_
      refine (lo_new V (ke e 3) ⟨pa3, none, ea3, fa3, la3, pc3, 0, ec3, fc3, lc3⟩ (HPt3.out.below hC.bel) (ke_small HS.out 3)).mono ?_
      rintro v V' ⟨⟨b, E2, rfl, hL⟩, hb⟩
      exact ⟨_, rfl, hC.made (i := 3) (by decide) hn (fun j hj hnn => by obtain rfl : j = 2 := (by omega); cases hvp.symm.trans hnn) hL hb⟩
    | 9, ho =>
      obtain rfl := Option.some.inj ho
      refine StepOk3.free rfl ?_
      intro vals a V hC hn hdep hoth
      obtain ⟨v0, hv0, he0⟩ := hdep _ (Array.mem_of_getElem? (i := 0) rfl) rfl
      obtain ⟨v1, hv1, he1⟩ := hdep _ (Array.mem_of_getElem? (i := 1) rfl) rfl
      obtain ⟨v2, hv2, he2⟩ := hdep _ (Array.mem_of_getElem? (i := 2) rfl) rfl
      obtain ⟨v3, hv3, he3⟩ := hdep _ (Array.mem_of_getElem? (i := 3) rfl) rfl
      obtain ⟨bs, hbs⟩ := hC.ptrs (fun h8 => by cases hv3.symm.trans h8)
      obtain rfl := Option.some.inj (hv0.symm.trans (hbs 0 (by decide)))
      obtain rfl := Option.some.inj (hv1.symm.trans (hbs 1 (by decide)))
      obtain rfl := Option.some.inj (hv2.symm.trans (hbs 2 (by decide)))
      obtain rfl := Option.some.inj (hv3.symm.trans (hbs 3 (by decide)))
      have x61 := slot_of (he0 61 rfl)
      have x63 := slot_of (he1 63 rfl)
      have x65 := slot_of (he2 65 rfl)
      have x67 := slot_of (he3 67 rfl)
      exact goodRun3.val (c := .slice (some ⟨V.heap.size, 0, none⟩) 4 4) (w := V.alloc (.cells #[.pointer (some ⟨bs 0, 0, none⟩), .pointer (some ⟨bs 1, 0, none⟩), .pointer (some ⟨bs 2, 0, none⟩), .pointer (some ⟨bs 3, 0, none⟩)] 42)) (by clear hdep hoth hC hbs hv0 hv1 hv2 hv3 he0 he1 he2 he3 hn; go_simp) (hC.rowed hbs hn)
    | 10, ho =>
      obtain rfl := Option.some.inj ho
      refine StepOk3.free rfl ?_
      intro vals a V hC hn hdep hoth
      obtain ⟨v0, hv0, he0⟩ := hdep _ (Array.mem_of_getElem? (i := 0) rfl) rfl
      have x68 := slot_of (he0 68 rfl)
      exact goodRun3.val (w := V) (c := v0) (by clear hdep hoth hC hv0 he0 hn; go_simp) (hC.assign hv0)
    | n + 11, ho => simp at ho
  · intro vals V hC hS
    obtain ⟨u0, e0⟩ := Option.isSome_iff_exists.1 (hS 0 (by decide))
    obtain ⟨u1, e1⟩ := Option.isSome_iff_exists.1 (hS 1 (by decide))
    obtain ⟨u2, e2⟩ := Option.isSome_iff_exists.1 (hS 2 (by decide))
    obtain ⟨u3, e3⟩ := Option.isSome_iff_exists.1 (hS 3 (by decide))
    obtain ⟨u4, e4⟩ := Option.isSome_iff_exists.1 (hS 4 (by decide))
    obtain ⟨u5, e5⟩ := Option.isSome_iff_exists.1 (hS 5 (by decide))
    obtain ⟨u6, e6⟩ := Option.isSome_iff_exists.1 (hS 6 (by decide))
    obtain ⟨u7, e7⟩ := Option.isSome_iff_exists.1 (hS 7 (by decide))
    obtain ⟨u8, e8⟩ := Option.isSome_iff_exists.1 (hS 8 (by decide))
    obtain ⟨u9, e9⟩ := Option.isSome_iff_exists.1 (hS 9 (by decide))
    obtain ⟨u10, e10⟩ := Option.isSome_iff_exists.1 (hS 10 (by decide))
    obtain ⟨F0, bs, Es, ra, hu, h4⟩ := hC.all (w0 := w) (by rw [e8]; simp) e9 HB9.out
    obtain rfl : u10 = u9 := by
      obtain ⟨los, his, bs', Es', hI⟩ := hC
      have := hI.asg u10 e10
      rw [e9] at this
      exact (Option.some.inj this).symm
    subst hu
    have H4 : Hid (Four4 w V V.heap.size F0 e bs Es ra (fun _ => none)) := h4
    clear hC hS h4 HX9 HB9 HRow1 HRow2 HRow3 HPt1 HPt2 HPt3
    simp only [fill, dstOf, e0, e1, e2, e3, e4, e5, e6, e7, e8, e9, e10]
    clear e0 e1 e2 e3 e4 e5 e6 e7 e8 e9 e10
    go_simp
    go_upto_region 22 with fail
    go_cut [10] (fun v wx => v = .int .i64 0 ∧ wx = V)
    case first =>
      go_wp2_with fail
      go_meet
      case rel => exact ⟨rfl, rfl⟩
    obtain ⟨rfl, rfl⟩ := hcut
    go_wp2_with fail
    go_loopw [10] (fun i wr => ∃ (k : Nat) (F : Nat → Nat → Prop) (N : Nat), k ≤ 4 ∧ i = .int .i64 k ∧ Four4 w wr N F e bs Es ra (upS (fun j => some (NSt.new (ke e j))) (fun _ => none) k)) (fun i _ => 4 - (intOf i).toNat)
    case atStart => exact ⟨0, F0, _, by omega, rfl, by rw [upS_zero]; exact H4.out⟩
    case round =>
      clear H4
      obtain ⟨k, F, N, hk, rfl, D⟩ := hrel
      by_cases hlt : k < 4
      · have k1 : (k : Int) < 4 := by omega
        have c0 := D.row.cell hlt
        go_wp2_with fail
        refine (four_begin D hlt (upS_at _ _ _) HSK.out).mono ?_
        rintro v w10 ⟨rfl, F', N', D2⟩
        rw [upS_set] at D2
        clear D c0
        go_wp2_with fail
        go_roundw
        case rel => exact ⟨k + 1, F', N', by omega, by go_num, D2⟩
        case measure => simp [intOf]; omega
      · have k1 : ¬ (k : Int) < 4 := by omega
        obtain rfl : k = 4 := by omega
        have D0 := D.all4
        clear D
        go_upto_region 28 with fail
        go_cut [12] (fun v wx => v = .int .i64 0 ∧ wx = wr)
        case first =>
          go_wp2_with fail
          go_meet
          case rel => exact ⟨rfl, rfl⟩
        obtain ⟨rfl, rfl⟩ := hcut
        go_wp2_with fail
        go_loopw [11, 12, 13, 14, 15, 16, 17, 18] (fun t i _ _ _ _ _ _ wr => ∃ (k : Nat) (tk : Int) (ns : Nat → NSt) (wh : Bool), k ≤ acts.length ∧ i = .int .i64 k ∧ t = .int .i64 tk ∧ 0 ≤ tk ∧ tk ≤ (k : Int) * 1073741824 ∧ Four4 w wr N F e bs Es ra (fun j => some (ns j)) ∧ Kin e ns k wh) (fun _ i _ _ _ _ _ _ _ => acts.length - (intOf i).toNat)
        case atStart => exact ⟨0, 0, fun j => NSt.new (ke e j), false, Nat.zero_le _, rfl, rfl, by omega, by omega, D0, Kin.new e⟩
        case round =>
          clear D0 hk k1 hlt
          obtain ⟨k, tk, ns, wh, hk, rfl, rfl, ht0, ht1, D1, hK⟩ := hrel
          have HKin : Hid (Kin e ns k wh) := hK
          clear hK
          by_cases hlt : k < acts.length
          · have k1 : (k : Int) < (acts.length : Int) := by omega
            have k2 : k < 60 := by omega
            obtain ⟨x, hx⟩ : ∃ x, acts[k]? = some x := ⟨_, List.getElem?_eq_getElem hlt⟩
            obtain ⟨sa', cap', hsl, -, hcc⟩ := id HA.out
            cases hsl
            obtain ⟨g, o, rfl, hc0⟩ := hcc (fun h => by rw [h] at hx; simp at hx)
            have HC1 : Hid (∀ V, Below w.heap.size w V → V.cell? ⟨g, o + k * 3 + 1, none⟩ = some (.int .i64 x.pt)) := fun V hV => cell_below hV (hc0 k _ hx 1 _ rfl)
            have d0 : wr.cell? ⟨g, o + k * 3, none⟩ = some (.string x.kind) := cell_below D1.all.bel (hc0 k _ hx 0 _ rfl)
            have d2 : wr.cell? ⟨g, o + k * 3 + 2, none⟩ = some (.int .i64 x.later) := cell_below D1.all.bel (hc0 k _ hx 2 _ rfl)
            clear hcc hc0 hx
            by_cases q1 : x.later < 0
            · go_wp2
              go_ret
              exact ⟨rfl, D1.all.bel⟩
            by_cases q2 : 1073741824 < x.later
            · go_wp2
              go_ret
              exact ⟨rfl, D1.all.bel⟩
            have hw : IntKind.i64.wrap (tk + x.later) = tk + x.later := by rw [IntKind.wrap_i64]; omega
            cases p3 : (x.kind.toList == [101, 110, 100])
            · go_upto_region 35 with fail
              clear d0 d2
              go_cut [13] (fun v wx => v = .int .i64 0 ∧ wx = wr)
              case first =>
                go_wp2_with fail
                go_meet
                case rel => exact ⟨rfl, rfl⟩
              obtain ⟨rfl, rfl⟩ := hcut
              go_wp2_with fail
              go_loopw [13] (fun i wr => ∃ j : Nat, j ≤ 4 ∧ i = .int .i64 j ∧ Four4 w wr N F e bs Es ra (upS (fun q => some ((ns q).rep (ke e q) x.pt (tk + x.later))) (fun q => some (ns q)) j)) (fun i _ => 4 - (intOf i).toNat)
              case atStart => exact ⟨0, by omega, rfl, by rw [upS_zero]; exact D1⟩
              case round =>
                clear D1
                obtain ⟨j, hj, rfl, D2⟩ := hrel
                by_cases hjl : j < 4
                · have j1 : (j : Int) < 4 := by omega
                  obtain ⟨T, hT⟩ : ∃ T, T = tk + x.later := ⟨_, rfl⟩
                  rw [← hT] at D2
                  have HD2 : Hid (Four4 w wr N F e bs Es ra (upS (fun q => some ((ns q).rep (ke e q) x.pt T)) (fun q => some (ns q)) j)) := D2
                  have HJ : Hid (j < 4) := hjl
                  clear D2
                  go_wp2_with fail
                  rw [← hT]
                  refine region_spec2 11 rfl (fun q v _ => lkrepK x bs ra g o j k acts.length slc T q v) (fun done V => Four4 w V N F e bs Es ra (if done 10 = true then upS (fun q => some ((ns q).rep (ke e q) x.pt T)) (fun q => some (ns q)) (j + 1) else upS (fun q => some ((ns q).rep (ke e q) x.pt T)) (fun q => some (ns q)) j)) (by kernel_rfl) (by kernel_rfl) (by rw [if_neg (by simp)]; exact HD2.out.below (Below.refl _ _).drew) ?_ ?_
                  · intro i o ho
                    match i, ho with
                    | 0, ho =>
                      obtain rfl := Option.some.inj ho
                      refine StepOk2.free rfl ?_
                      intro done a V hC hdn hdo hdep hoth
                      have x9 : a.tmps[9]?.getD undef = .slice (some ⟨ra, 0, none⟩) 4 4 := slot_of (hoth 9 (notDst (by kernel_rfl)))
                      exact goodRun2.val (c := .slice (some ⟨ra, 0, none⟩) 4 4) (by clear hdep hoth hdo hC; go_simp) (by rw [mark_other done (show 10 ≠ 0 by decide)]; exact hC) rfl
                    | 1, ho =>
                      obtain rfl := Option.some.inj ho
                      refine StepOk2.free rfl ?_
                      intro done a V hC hdn hdo hdep hoth
                      have x13 : a.tmps[13]?.getD undef = .int .i64 (j : Int) := slot_of (hoth 13 (notDst (by kernel_rfl)))
                      exact goodRun2.val (c := .int .i64 (j : Int)) (by clear hdep hoth hdo hC; go_simp) (by rw [mark_other done (show 10 ≠ 1 by decide)]; exact hC) rfl
                    | 2, ho =>
                      obtain rfl := Option.some.inj ho
                      refine StepOk2.free rfl ?_
                      intro done a V hC hdn hdo hdep hoth
                      have x123 : a.tmps[123]?.getD undef = .slice (some ⟨ra, 0, none⟩) 4 4 := slot_of (hdep _ 123 (Array.mem_of_getElem? (i := 0) rfl) rfl rfl)
                      have x124 : a.tmps[124]?.getD undef = .int .i64 (j : Int) := slot_of (hdep _ 124 (Array.mem_of_getElem? (i := 1) rfl) rfl rfl)
                      have j1 : (j : Int) < 4 := by have := HJ.out; omega
                      have j2 : (j : Int).toNat = j := by omega
                      exact goodRun2.val (c := .pointer (some ⟨ra, j, none⟩)) (by clear hdep hoth hdo hC; go_simp) (by rw [mark_other done (show 10 ≠ 2 by decide)]; exact hC) rfl
                    | 3, ho =>
                      obtain rfl := Option.some.inj ho
                      refine StepOk2.free rfl ?_
                      intro done a V hC hdn hdo hdep hoth
                      have x125 : a.tmps[125]?.getD undef = .pointer (some ⟨ra, j, none⟩) := slot_of (hdep _ 125 (Array.mem_of_getElem? (i := 0) rfl) rfl rfl)
                      have c0 := hC.row.cell HJ.out
                      exact goodRun2.val (c := .pointer (some ⟨bs j, 0, none⟩)) (by clear hdep hoth hdo hC; go_simp) (by rw [mark_other done (show 10 ≠ 3 by decide)]; exact hC) rfl
                    | 4, ho =>
                      obtain rfl := Option.some.inj ho
                      refine StepOk2.free rfl ?_
                      intro done a V hC hdn hdo hdep hoth
                      have x1 : a.tmps[1]?.getD undef = .slice (some ⟨g, o, none⟩) acts.length slc := slot_of (hoth 1 (notDst (by kernel_rfl)))
                      exact goodRun2.val (c := .slice (some ⟨g, o, none⟩) acts.length slc) (by clear hdep hoth hdo hC; go_simp) (by rw [mark_other done (show 10 ≠ 4 by decide)]; exact hC) rfl
                    | 5, ho =>
                      obtain rfl := Option.some.inj ho
                      refine StepOk2.free rfl ?_
                      intro done a V hC hdn hdo hdep hoth
                      have x12 : a.tmps[12]?.getD undef = .int .i64 (k : Int) := slot_of (hoth 12 (notDst (by kernel_rfl)))
                      exact goodRun2.val (c := .int .i64 (k : Int)) (by clear hdep hoth hdo hC; go_simp) (by rw [mark_other done (show 10 ≠ 5 by decide)]; exact hC) rfl
                    | 6, ho =>
                      obtain rfl := Option.some.inj ho
                      refine StepOk2.free rfl ?_
                      intro done a V hC hdn hdo hdep hoth
                      have x127 : a.tmps[127]?.getD undef = .slice (some ⟨g, o, none⟩) acts.length slc := slot_of (hdep _ 127 (Array.mem_of_getElem? (i := 0) rfl) rfl rfl)
                      have x128 : a.tmps[128]?.getD undef = .int .i64 (k : Int) := slot_of (hdep _ 128 (Array.mem_of_getElem? (i := 1) rfl) rfl rfl)
                      have k1' : (k : Int) < (acts.length : Int) := k1
                      exact goodRun2.val (c := .pointer (some ⟨g, o + k * 3, none⟩)) (by clear hdep hoth hdo hC; go_simp) (by rw [mark_other done (show 10 ≠ 6 by decide)]; exact hC) rfl
                    | 7, ho =>
                      obtain rfl := Option.some.inj ho
                      refine StepOk2.free rfl ?_
                      intro done a V hC hdn hdo hdep hoth
                      have x129 : a.tmps[129]?.getD undef = .pointer (some ⟨g, o + k * 3, none⟩) := slot_of (hdep _ 129 (Array.mem_of_getElem? (i := 0) rfl) rfl rfl)
                      exact goodRun2.val (c := .pointer (some ⟨g, o + k * 3 + 1, none⟩)) (by clear hdep hoth hdo hC; go_simp) (by rw [mark_other done (show 10 ≠ 7 by decide)]; exact hC) rfl
                    | 8, ho =>
                      obtain rfl := Option.some.inj ho
                      refine StepOk2.free rfl ?_
                      intro done a V hC hdn hdo hdep hoth
                      have x130 : a.tmps[130]?.getD undef = .pointer (some ⟨g, o + k * 3 + 1, none⟩) := slot_of (hdep _ 130 (Array.mem_of_getElem? (i := 0) rfl) rfl rfl)
                      have c1 := HC1.out V hC.all.bel
                      exact goodRun2.val (c := .int .i64 x.pt) (by clear hdep hoth hdo hC; go_simp) (by rw [mark_other done (show 10 ≠ 8 by decide)]; exact hC) rfl
                    | 9, ho =>
                      obtain rfl := Option.some.inj ho
                      refine StepOk2.free rfl ?_
                      intro done a V hC hdn hdo hdep hoth
                      have x11 : a.tmps[11]?.getD undef = .int .i64 T := slot_of (hoth 11 (notDst (by kernel_rfl)))
                      exact goodRun2.val (c := .int .i64 T) (by clear hdep hoth hdo hC; go_simp) (by rw [mark_other done (show 10 ≠ 9 by decide)]; exact hC) rfl
                    | 10, ho =>
                      obtain rfl := Option.some.inj ho
                      refine StepOk2.free rfl ?_
                      intro done a V hC hdn hdo hdep hoth
                      have x126 : a.tmps[126]?.getD undef = .pointer (some ⟨bs j, 0, none⟩) := slot_of (hdep _ 126 (Array.mem_of_getElem? (i := 0) rfl) rfl rfl)
                      have x131 : a.tmps[131]?.getD undef = .int .i64 x.pt := slot_of (hdep _ 131 (Array.mem_of_getElem? (i := 1) rfl) rfl rfl)
                      have x132 : a.tmps[132]?.getD undef = .int .i64 T := slot_of (hdep _ 132 (Array.mem_of_getElem? (i := 2) rfl) rfl rfl)
                      refine goodRun2.call (f := 23) (args := #[.pointer (some ⟨bs j, 0, none⟩), .int .i64 x.pt, .int .i64 T]) (by clear hdep hoth hdo hC; go_simp) ?_
                      rw [if_neg (by rw [hdn]; simp)] at hC
                      obtain ⟨z, hz⟩ := HSen.out V hC.all.bel
                      refine (four_report x.pt T z hC HJ.out (upS_at _ _ _) HSK.out hz).mono ?_
                      rintro v w4 ⟨y, rfl, D3⟩
                      rw [upS_set] at D3
                      exact ⟨_, rfl, by rw [mark_same, if_pos rfl]; exact D3, fun _ _ _ h => h, trivial⟩
                    | n + 11, ho => simp at ho
                  · intro vals V hC hS
                    have D3 : Four4 w V N F e bs Es ra (upS (fun q => some ((ns q).rep (ke e q) x.pt T)) (fun q => some (ns q)) (j + 1)) := hC
                    clear hC hS HD2
                    subst hT
                    simp only [fill, dstOf]
                    go_simp
                    go_wp2_with fail
                    go_roundw
                    case rel => exact ⟨j + 1, by omega, by go_num, D3⟩
                    case measure => simp [intOf]; omega
                · have j1 : ¬ (j : Int) < 4 := by omega
                  obtain rfl : j = 4 := by omega
                  have D3 := D2.all4
                  clear D2
                  go_wp2_with fail
                  go_roundw
                  case rel => exact ⟨k + 1, _, fun q => (ns q).rep (ke e q) x.pt (tk + x.later), wh, by omega, by go_num, rfl, by omega, by omega, D3, (HKin.out.rep x.pt (tk + x.later)).more⟩
                  case measure => simp [intOf]; omega
            · go_upto_region 40 with fail
              clear d0 d2 HC1
              go_cut [15] (fun v wx => v = .int .i64 0 ∧ wx = wr)
              case first =>
                go_wp2_with fail
                go_meet
                case rel => exact ⟨rfl, rfl⟩
              obtain ⟨rfl, rfl⟩ := hcut
              go_wp2_with fail
              obtain ⟨i0, hi0, hz0, hz1, hz2⟩ := info_parts Tryd.infoOwnf
              go_loopw [14, 15, 16, 17] (fun kv i _ _ wr => ∃ j : Nat, j ≤ 4 ∧ i = .int .i64 j ∧ Four4 w wr N F e bs Es ra (upS (fun q => some ((ns q).fin (ke e q))) (fun q => some (ns q)) j) ∧ wr.ownsRow N 3 1 kv j (((List.range 4).take j).map fun q => .int .i64 (ns q).kind)) (fun _ i _ _ _ => 4 - (intOf i).toNat)
              case atStart => exact ⟨0, by omega, rfl, by rw [upS_zero]; exact D1, World.ownsRow_nil _ _ _ _⟩
              case round =>
                clear D1
                obtain ⟨j, hj, rfl, D2, hO⟩ := hrel
                obtain ⟨va, vc, rfl⟩ := ow_form hO
                by_cases hjl : j < 4
                · have j1 : (j : Int) < 4 := by omega
                  have c0 := D2.row.cell hjl
                  go_wp2_with fail
                  refine (four_end D2 hjl (upS_at _ _ _) (by have := HKin.out.run j hjl; omega)).mono ?_
                  rintro v w11 ⟨rfl, D3, hfr⟩
                  rw [upS_set] at D3
                  have hO2 := own_frL hO hfr
                  clear D2 c0 hO hfr
                  have hNz : N ≤ w11.heap.size := D3.all.top
                  have HD3 : Hid (Four4 w w11 N F e bs Es ra (upS (fun q => some ((ns q).fin (ke e q))) (fun q => some (ns q)) (j + 1))) := D3
                  clear D3
                  go_wp2_with (at_builtin; refine wpList_append_own _ rfl _ _ 25 rfl N 3 i0 (.int .i64 0) 1 8 Tryd.underlying25 hi0 hz0 hz1 hz2 rfl (by decide) (.slice va j vc) j (((List.range 4).take j).map fun q => .int .i64 (ns q).kind) rfl (hO2.alloc _) ⟨w11.heap.size, 0, none⟩ 1 1 [.int .i64 (ns j).kind] rfl rfl (ce_at w11 [.int .i64 (ns j).kind] 3) (fun u hu => by rw [List.mem_singleton] at hu; subst hu; rfl) (by unfold maxLen; omega) (by omega) (by simp; omega) ?_; intro v' w12 hown hg hn; obtain ⟨va', vc', rfl⟩ := ow_form hown; have D4 := HD3.out.append hO2 hg; have hO4 := kinds_snoc hjl rfl hown)
                  clear hown hg hn hO2 HD3
                  go_roundw
                  case rel => exact ⟨j + 1, by omega, by go_num, D4, hO4⟩
                  case measure => simp [intOf]; omega
                · have j1 : ¬ (j : Int) < 4 := by omega
                  obtain rfl : j = 4 := by omega
                  have D3 := D2.all4
                  have HKk : Hid _ := HKin.out.kind
                  have HO4 : Hid (wr.ownsRow N 3 1 (.slice va 4 vc) 4 [.int .i64 (ns 0).kind, .int .i64 (ns 1).kind, .int .i64 (ns 2).kind, .int .i64 (ns 3).kind]) := hO
                  obtain ⟨gb, rfl⟩ := four_form hO
                  have z0 : wr.cell? ⟨gb, 0, none⟩ = some (.int .i64 (ns 0).kind) := own_cell HO4.out 0 rfl
                  have z1 : wr.cell? ⟨gb, 1, none⟩ = some (.int .i64 (ns 1).kind) := own_cell HO4.out 1 rfl
                  have z2 : wr.cell? ⟨gb, 2, none⟩ = some (.int .i64 (ns 2).kind) := own_cell HO4.out 2 rfl
                  have z3 : wr.cell? ⟨gb, 3, none⟩ = some (.int .i64 (ns 3).kind) := own_cell HO4.out 3 rfl
                  clear D2 hO HO4
                  by_cases n1 : (ns 1).kind = 0
                  · by_cases n2 : (ns 2).kind = 0
                    · have n0 : (ns 0).kind = (ns 3).kind := by rw [HKk.out, if_pos n1, if_pos n2]
                      rw [n0] at z0
                      go_wp2_with fail
                      go_roundw
                      case rel => exact ⟨k + 1, _, fun q => (ns q).fin (ke e q), true, by omega, by go_num, rfl, by omega, by omega, D3, HKin.out.fin⟩
                      case measure => simp [intOf]; omega
                    · have n0 : (ns 0).kind = (ns 2).kind := by rw [HKk.out, if_pos n1, if_neg n2]
                      rw [n0] at z0
                      go_wp2_with fail
                      go_roundw
                      case rel => exact ⟨k + 1, _, fun q => (ns q).fin (ke e q), true, by omega, by go_num, rfl, by omega, by omega, D3, HKin.out.fin⟩
                      case measure => simp [intOf]; omega
                  · have n0 : (ns 0).kind = (ns 1).kind := by rw [HKk.out, if_neg n1]
                    rw [n0] at z0
                    go_wp2_with fail
                    go_roundw
                    case rel => exact ⟨k + 1, _, fun q => (ns q).fin (ke e q), true, by omega, by go_num, rfl, by omega, by omega, D3, HKin.out.fin⟩
                    case measure => simp [intOf]; omega
          · have k1 : ¬ (k : Int) < (acts.length : Int) := by omega
            go_wp2
            go_ret
            exact ⟨rfl, D1.all.bel⟩
end Go.Proofs.YtpaolneaomeoiabDoor
