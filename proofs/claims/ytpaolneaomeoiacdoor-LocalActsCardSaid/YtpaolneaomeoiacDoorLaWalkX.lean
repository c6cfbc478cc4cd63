/-
  nightwatchlaw2.LocalActs for a right entity that is not heavy, and at most eighty acts: true. Conditions: what it is handed lies in memory, the edges are of int's range, the sentinels are in memory.
-/
import Derived.Test.YtpaolneaomeoiacDoorLoTwoX
import Derived.Test.YtpaolneaomeoiacDoorLkHeadX
namespace Go.Proofs.YtpaolneaomeoiacDoor
open Go.RowKit Go.Extern.Stop Go.Stop Go.Extern

section
variable {w0 w w' : World} {b m : Nat} {e : EntD} {E E0 : EA} {s : LSt} {A : Nat → Addr}
theorem repN_le (e : EntD) (s : LSt) (p : Int) : repN e s p ≤ 11 := by unfold repN; split; split <;> omega; omega
/-- Both while a report goes on: which of the two have it. -/
structure Rep3 (w0 w : World) (b m : Nat) (e : EntD) (E E0 : EA) (s : LSt) (k : Nat) (p t : Int) (ab : Nat) (row : Array Value) (d1 d2 : Bool) : Prop where
  st : if d2 = true then Two w0 w b m e E E0 (s.rep e p t) (k + 1) else if d1 = true then Half w0 w b m e E E0 s (s.rep e p t) k else Two w0 w b m e E E0 s k
  act : w.heap[ab]? = some (.cells row 41 (0, 0))
section
variable {k ab : Nat} {p t : Int} {row : Array Value} {d1 d2 : Bool} {done : Nat → Bool}
theorem Rep3.bel (h : Rep3 w0 w b m e E E0 s k p t ab row d1 d2) : Below w0.heap.size w0 w := by
  have := h.st
  split at this
  · exact this.bel
  · split at this
    · exact this.bel
    · exact this.bel
theorem Rep3.below (h : Rep3 w0 w b m e E E0 s k p t ab row d1 d2) (hb : Below w.heap.size w w') : Rep3 w0 w' b m e E E0 s k p t ab row d1 d2 := by
  refine ⟨?_, row_below hb h.act⟩
  have := h.st
  split
  · rename_i h1; rw [if_pos h1] at this; exact this.below hb
  · rename_i h1
    rw [if_neg h1] at this
    split
    · rename_i h2; rw [if_pos h2] at this; exact this.below hb
    · rename_i h2; rw [if_neg h2] at this; exact this.below hb
/-- As the operations 4 and 9 are done. -/
def RepC (w0 : World) (b m : Nat) (e : EntD) (E E0 : EA) (s : LSt) (k : Nat) (p t : Int) (ab : Nat) (row : Array Value) (done : Nat → Bool) (w : World) : Prop := (done 9 = true → done 4 = true) ∧ Rep3 w0 w b m e E E0 s k p t ab row (done 4) (done 9)
theorem rep3_other {i : Nat} (done : Nat → Bool) (h4 : 4 ≠ i) (h9 : 9 ≠ i) : RepC w0 b m e E E0 s k p t ab row (mark done i) w = RepC w0 b m e E E0 s k p t ab row done w := by
  unfold RepC
  rw [mark_other done h4, mark_other done h9]
theorem RepC.act (h : RepC w0 b m e E E0 s k p t ab row done w) : w.heap[ab]? = some (.cells row 41 (0, 0)) := h.2.act
theorem RepC.bel (h : RepC w0 b m e E E0 s k p t ab row done w) : Below w0.heap.size w0 w := h.2.bel
theorem RepC.below (h : RepC w0 b m e E E0 s k p t ab row done w) (hb : Below w.heap.size w w') : RepC w0 b m e E E0 s k p t ab row done w' := ⟨h.1, h.2.below hb⟩
theorem RepC.first (h : RepC w0 b m e E E0 s k p t ab row done w) (hd : done 4 = false) : Two w0 w b m e E E0 s k := by
  have h9 : done 9 = false := by
    cases h9 : done 9 with
    | false => rfl
    | true => rw [h.1 h9] at hd; cases hd
  have := h.2.st
  rw [h9, hd] at this
  exact this
theorem RepC.step1 (h : RepC w0 b m e E E0 s k p t ab row done w) (hd : done 4 = false) (hh : Half w0 w' b m e E E0 s (s.rep e p t) k) (hf : FrT w w') : RepC w0 b m e E E0 s k p t ab row (mark done 4) w' := by
  have h9 : done 9 = false := by
    cases h9 : done 9 with
    | false => rfl
    | true => rw [h.1 h9] at hd; cases hd
  unfold RepC
  rw [mark_same, mark_other done (show 9 ≠ 4 by decide), h9]
  exact ⟨fun x => Bool.noConfusion x, ⟨hh, hf.ty _ _ _ _ h.act (by unfold TyL; decide)⟩⟩
theorem RepC.second (h : RepC w0 b m e E E0 s k p t ab row done w) (hd4 : done 4 = true) (hd : done 9 = false) : Half w0 w b m e E E0 s (s.rep e p t) k := by
  have := h.2.st
  rw [hd, hd4] at this
  exact this
theorem RepC.step2 (h : RepC w0 b m e E E0 s k p t ab row done w) (hd4 : done 4 = true) (hh : Two w0 w' b m e E E0 (s.rep e p t) (k + 1)) (hf : FrM w w') : RepC w0 b m e E E0 s k p t ab row (mark done 9) w' := by
  unfold RepC
  rw [mark_same, mark_other done (show 4 ≠ 9 by decide), hd4]
  exact ⟨fun _ => rfl, ⟨hh, hf _ _ h.act (fun c T fr e1 => by cases e1; decide)⟩⟩
end
end
def larepK (A : Nat → Addr) (e : EntD) (s : LSt) (x : ActD) (b m ab : Nat) (T : Int) : Nat → Value → Prop
  | 0 => fun v => v = .pointer (some ⟨b, 0, none⟩)
  | 1 => fun v => v = .pointer (some ⟨ab, 1, none⟩)
  | 2 => fun v => v = .int .i64 x.pt
  | 3 => fun v => v = .int .i64 T
  | 4 => fun v => v = errV A (repN e s x.pt)
  | 5 => fun v => v = .pointer (some ⟨m, 0, none⟩)
  | 6 => fun v => v = .pointer (some ⟨ab, 1, none⟩)
  | 7 => fun v => v = .int .i64 x.pt
  | 8 => fun v => v = .int .i64 T
  | 9 => fun v => v = .int .i64 (repN e s x.pt : Int)
  | 10 => fun v => v = .bool true
  | 11 => fun v => v = .bool false
  | _ => fun _ => True
set_option maxHeartbeats 16000000 in
set_option maxRecDepth 100000 in
theorem acts_in (A : Nat → Addr) (e : EntD) (E0 : EA) (sl : Option Addr) (acts : List ActD) (slc : Nat) (w : World) (hs : Senv A w) (hP : PartsE w e E0) (hWf : WfE e.edges) (hA : SlAt encA 3 w (.slice sl acts.length slc) acts) (hh : heavyE e = false) (hn : acts.length ≤ 80) (he : entErr [] e = 0) :
    Calls Tryd.prog 3 #[.agg #[.string e.name, .int .i64 e.tol, .slice E0.pa e.pts.length E0.pc, .int .i64 e.cnt, .int .i64 e.mn, .int .i64 e.mx, .slice E0.ga e.gaps.length E0.gc, .slice E0.ea e.edges.length E0.ec, .slice E0.fa e.first.length E0.fc, .slice E0.la e.last.length E0.lc], .slice sl acts.length slc] w fun v w' => v = .returned (.bool true) ∧ Below w.heap.size w w' := by
  have HS : Hid (SmallE e) := heavyE_small hh
  have hh0 : one01 (heavyE e) = 0 := by rw [hh]; rfl
  have HP : Hid (∀ V, Below w.heap.size w V → PartsE V e E0) := fun V hV => hP.below hV
  have HSen : Hid (∀ V, Below w.heap.size w V → Senv A V) := fun V hV => hs.below hV
  have HWf : Hid (WfE e.edges) := hWf
  have HR : Hid (Rgt w e E0) := ⟨hP, heavyE_small hh, hWf, (right_bounds he).1, (right_bounds he).2⟩
  have HA : Hid (SlAt encA 3 w (.slice sl acts.length slc) acts) := hA
  have HE : Hid ((entErr (([e].take 0).map (·.name)) e : Int) = (0 : Int)) := by show ((entErr [] e : Nat) : Int) = 0; rw [he]; rfl
  have g3 : ¬ 80 < (acts.length : Int) := by omega
  clear hP hs hWf hA hh he
  go_enter Tryd.func3, Tryd.ntmps3
  go_wp2_with fail
  refine (lives_any _).mono ?_
  rintro v w1 ⟨rfl, hb1⟩
  have HX1 : Hid (w1.heap[w.heap.size]? = some (.cells #[.string e.name, .int .i64 e.tol, .slice E0.pa e.pts.length E0.pc, .int .i64 e.cnt, .int .i64 e.mn, .int .i64 e.mx, .slice E0.ga e.gaps.length E0.gc, .slice E0.ea e.edges.length E0.ec, .slice E0.fa e.first.length E0.fc, .slice E0.la e.last.length E0.lc] 27 (0, 0))) := row_below hb1 (row_alat _ _ _)
  have HB1 : Hid (Below w.heap.size w w1) := (Below.one _ _).trans (hb1.mono (by simp))
  clear hb1
  have y : ∀ (j : Nat) u, (#[.string e.name, .int .i64 e.tol, .slice E0.pa e.pts.length E0.pc, .int .i64 e.cnt, .int .i64 e.mn, .int .i64 e.mx, .slice E0.ga e.gaps.length E0.gc, .slice E0.ea e.edges.length E0.ec, .slice E0.fa e.first.length E0.fc, .slice E0.la e.last.length E0.lc] : Array Value)[j]? = some u → w1.cell? ⟨w.heap.size, j, none⟩ = some u := fun j u hu => by simp [World.cell?, HX1.out, hu]
  have y0 := y 0 _ rfl
  have y1 := y 1 _ rfl
  have y2 := y 2 _ rfl
  have y3 := y 3 _ rfl
  have y4 := y 4 _ rfl
  have y5 := y 5 _ rfl
  have y6 := y 6 _ rfl
  have y7 := y 7 _ rfl
  have y8 := y 8 _ rfl
  have y9 := y 9 _ rfl
  clear y
  go_wp2_with fail
  clear y0 y1 y2 y3 y4 y5 y6 y7 y8 y9
  refine (heavyE_at e _ _ _ _ _ _ _ _ _ _ _ (HP.out _ HB1.out).hp).mono ?_
  rintro v w2 ⟨rfl, hb2⟩
  rw [hh0]
  have HX2 : Hid (w2.heap[w.heap.size]? = some (.cells #[.string e.name, .int .i64 e.tol, .slice E0.pa e.pts.length E0.pc, .int .i64 e.cnt, .int .i64 e.mn, .int .i64 e.mx, .slice E0.ga e.gaps.length E0.gc, .slice E0.ea e.edges.length E0.ec, .slice E0.fa e.first.length E0.fc, .slice E0.la e.last.length E0.lc] 27 (0, 0))) := row_below hb2 HX1.out
  have HB2 : Hid (Below w.heap.size w w2) := HB1.out.trans (hb2.mono HB1.out.size)
  clear hb2 HX1 HB1
  have y : ∀ (j : Nat) u, (#[.string e.name, .int .i64 e.tol, .slice E0.pa e.pts.length E0.pc, .int .i64 e.cnt, .int .i64 e.mn, .int .i64 e.mx, .slice E0.ga e.gaps.length E0.gc, .slice E0.ea e.edges.length E0.ec, .slice E0.fa e.first.length E0.fc, .slice E0.la e.last.length E0.lc] : Array Value)[j]? = some u → w2.cell? ⟨w.heap.size, j, none⟩ = some u := fun j u hu => by simp [World.cell?, HX2.out, hu]
  have y0 := y 0 _ rfl
  have y1 := y 1 _ rfl
  have y2 := y 2 _ rfl
  have y3 := y 3 _ rfl
  have y4 := y 4 _ rfl
  have y5 := y 5 _ rfl
  have y6 := y 6 _ rfl
  have y7 := y 7 _ rfl
  have y8 := y 8 _ rfl
  have y9 := y 9 _ rfl
  clear y
  go_wp2_with fail
  clear y0 y1 y2 y3 y4 y5 y6 y7 y8 y9
  have HBA : Hid (Below w.heap.size w (w2.alloc (.cells #[.string e.name, .int .i64 e.tol, .slice E0.pa e.pts.length E0.pc, .int .i64 e.cnt, .int .i64 e.mn, .int .i64 e.mx, .slice E0.ga e.gaps.length E0.gc, .slice E0.ea e.edges.length E0.ec, .slice E0.fa e.first.length E0.fc, .slice E0.la e.last.length E0.lc] 27))) := HB2.out.trans ((Below.one _ _).mono HB2.out.size)
  refine (entErr_at [e] _ 1 0 e _ (ents_one (row_alat w2 _ _) (HP.out _ HBA.out)) rfl (fun x hx => by rw [List.mem_singleton] at hx; subst hx; exact HS.out) (by simp)).mono ?_
  rintro v w3 ⟨rfl, hb3⟩
  rw [show (entErr (([e].take 0).map (·.name)) e : Int) = (0 : Int) from HE.out]
  have HX3 : Hid (w3.heap[w.heap.size]? = some (.cells #[.string e.name, .int .i64 e.tol, .slice E0.pa e.pts.length E0.pc, .int .i64 e.cnt, .int .i64 e.mn, .int .i64 e.mx, .slice E0.ga e.gaps.length E0.gc, .slice E0.ea e.edges.length E0.ec, .slice E0.fa e.first.length E0.fc, .slice E0.la e.last.length E0.lc] 27 (0, 0))) := row_below hb3 (row_below (Below.one _ _) HX2.out)
  have HB3 : Hid (Below w.heap.size w w3) := HBA.out.trans (hb3.mono HBA.out.size)
  clear hb3 HX2 HB2 HBA
  have y : ∀ (j : Nat) u, (#[.string e.name, .int .i64 e.tol, .slice E0.pa e.pts.length E0.pc, .int .i64 e.cnt, .int .i64 e.mn, .int .i64 e.mx, .slice E0.ga e.gaps.length E0.gc, .slice E0.ea e.edges.length E0.ec, .slice E0.fa e.first.length E0.fc, .slice E0.la e.last.length E0.lc] : Array Value)[j]? = some u → w3.cell? ⟨w.heap.size, j, none⟩ = some u := fun j u hu => by simp [World.cell?, HX3.out, hu]
  have y0 := y 0 _ rfl
  have y1 := y 1 _ rfl
  have y2 := y 2 _ rfl
  have y3 := y 3 _ rfl
  have y4 := y 4 _ rfl
  have y5 := y 5 _ rfl
  have y6 := y 6 _ rfl
  have y7 := y 7 _ rfl
  have y8 := y 8 _ rfl
  have y9 := y 9 _ rfl
  clear y
  go_wp2_with fail
  clear y0 y1 y2 y3 y4 y5 y6 y7 y8 y9
  refine (ownEntity_at w3.heap.size e _ _ _ _ _ _ _ _ _ _ _ (HP.out _ HB3.out) HS.out (Nat.le_refl _)).mono ?_
  rintro v w4 ⟨⟨npa, npc, nga, ngc, nea, nec, nfa, nfc, nla, nlc, rfl, hown⟩, hb4⟩
  have HX4 : Hid (w4.heap[w.heap.size]? = some (.cells #[.string e.name, .int .i64 e.tol, .slice E0.pa e.pts.length E0.pc, .int .i64 e.cnt, .int .i64 e.mn, .int .i64 e.mx, .slice E0.ga e.gaps.length E0.gc, .slice E0.ea e.edges.length E0.ec, .slice E0.fa e.first.length E0.fc, .slice E0.la e.last.length E0.lc] 27 (0, 0))) := row_below hb4 HX3.out
  have HB4 : Hid (Below w.heap.size w w4) := HB3.out.trans (hb4.mono HB3.out.size)
  have HO4 : Hid (PartsE w4 e ⟨npa, nga, nea, nfa, nla, npc, ngc, nec, nfc, nlc⟩) := hown.parts
  clear hb4 hown HX3 HB3
  go_wp2_with fail
  refine (li_new w4 e _ HO4.out HS.out).mono ?_
  rintro v w5 ⟨b, E, rfl, hl⟩
  have HX5 : Hid (w5.heap[w.heap.size]? = some (.cells #[.string e.name, .int .i64 e.tol, .slice E0.pa e.pts.length E0.pc, .int .i64 e.cnt, .int .i64 e.mn, .int .i64 e.mx, .slice E0.ga e.gaps.length E0.gc, .slice E0.ea e.edges.length E0.ec, .slice E0.fa e.first.length E0.fc, .slice E0.la e.last.length E0.lc] 27 (0, 0))) := row_below hl.bel HX4.out
  have HL5 : Hid (LoIn w w5 b e E none) := hl.from HB4.out
  clear hl HX4 HB4 HO4
  have y : ∀ (j : Nat) u, (#[.string e.name, .int .i64 e.tol, .slice E0.pa e.pts.length E0.pc, .int .i64 e.cnt, .int .i64 e.mn, .int .i64 e.mx, .slice E0.ga e.gaps.length E0.gc, .slice E0.ea e.edges.length E0.ec, .slice E0.fa e.first.length E0.fc, .slice E0.la e.last.length E0.lc] : Array Value)[j]? = some u → w5.cell? ⟨w.heap.size, j, none⟩ = some u := fun j u hu => by simp [World.cell?, HX5.out, hu]
  have y0 := y 0 _ rfl
  have y1 := y 1 _ rfl
  have y2 := y 2 _ rfl
  have y3 := y 3 _ rfl
  have y4 := y 4 _ rfl
  have y5 := y 5 _ rfl
  have y6 := y 6 _ rfl
  have y7 := y 7 _ rfl
  have y8 := y 8 _ rfl
  have y9 := y 9 _ rfl
  clear y
  go_upto_region 8 with fail
  clear y0 y1 y2 y3 y4 y5 y6 y7 y8 y9
  obtain ⟨W6, hW6⟩ : ∃ V, V = w5.alloc (.cells (lmRow e E0.pa E0.ga E0.ea E0.fa E0.la E0.pc E0.gc E0.ec E0.fc E0.lc LSt.new (.slice none 0 0)) 39) := ⟨_, rfl⟩
  have hW6' : W6 = w5.alloc (.cells #[.string e.name, .int .i64 e.tol, .slice E0.pa e.pts.length E0.pc, .int .i64 e.cnt, .int .i64 e.mn, .int .i64 e.mx, .slice E0.ga e.gaps.length E0.gc, .slice E0.ea e.edges.length E0.ec, .slice E0.fa e.first.length E0.fc, .slice E0.la e.last.length E0.lc, .bool false, .int .i64 0, .slice none 0 0, .int .i64 0, .bool false] 39) := hW6
  rw [← hW6']
  obtain ⟨m, hm⟩ : ∃ m, m = w5.heap.size := ⟨_, rfl⟩
  rw [← hm]
  have T0 : Two w W6 b m e E E0 LSt.new 0 := by
    have hb : Below w5.heap.size w5 W6 := by rw [hW6]; exact Below.one _ _
    refine ⟨⟨none, HL5.out.below hb, rfl⟩, ⟨.slice none 0 0, ?_, World.ownsRow_nil _ _ _ _, HL5.out.bel.trans (hb.mono HL5.out.bel.size), by rw [hm]; exact HL5.out.bel.size⟩, LFit.new, fun x hx => by cases hx⟩
    rw [hm, hW6]
    exact row_alat _ _ _
  clear hW6 hW6' hm HX5 HL5
  go_upto_region 9 with fail
  go_cut [9] (fun v wx => v = .int .i64 0 ∧ wx = W6)
  case first =>
    go_wp2_with fail
    go_meet
    case rel => exact ⟨rfl, rfl⟩
  obtain ⟨rfl, rfl⟩ := hcut
  go_wp2_with fail
  go_loopw [8, 9, 10, 11, 12, 13, 14, 15] (fun t i _ _ _ _ _ _ wr => ∃ (k : Nat) (tk : Int) (s : LSt), k ≤ acts.length ∧ i = .int .i64 k ∧ t = .int .i64 tk ∧ 0 ≤ tk ∧ tk ≤ (k : Int) * 1073741824 ∧ Two w wr b m e E E0 s k) (fun _ i _ _ _ _ _ _ _ => acts.length - (intOf i).toNat)
  case atStart => exact ⟨0, 0, LSt.new, Nat.zero_le _, rfl, rfl, by omega, by omega, T0⟩
  case round =>
    clear T0
    obtain ⟨k, tk, s, hk, rfl, rfl, ht0, ht1, T1⟩ := hrel
    by_cases hlt : k < acts.length
    · have k1 : (k : Int) < (acts.length : Int) := by omega
      have HK : Hid (k < 80) := by show _ < _; omega
      have k2 : k < 80 := HK.out
      obtain ⟨x, hx⟩ : ∃ x, acts[k]? = some x := ⟨_, List.getElem?_eq_getElem hlt⟩
      obtain ⟨sa', cap', hsl, -, hcc⟩ := id HA.out
      cases hsl
      obtain ⟨g, o, rfl, hc0⟩ := hcc (fun h => by rw [h] at hx; simp at hx)
      have d0 : wr.cell? ⟨g, o + k * 3, none⟩ = some (.string x.kind) := cell_below T1.bel (hc0 k _ hx 0 _ rfl)
      have d1 : wr.cell? ⟨g, o + k * 3 + 1, none⟩ = some (.int .i64 x.pt) := cell_below T1.bel (hc0 k _ hx 1 _ rfl)
      have d2 : wr.cell? ⟨g, o + k * 3 + 2, none⟩ = some (.int .i64 x.later) := cell_below T1.bel (hc0 k _ hx 2 _ rfl)
      clear hcc hc0 hx
      go_upto_region 13 with fail
      obtain ⟨V, hV⟩ : ∃ V, V = wr.alloc (.cells #[.string x.kind, .int .i64 x.pt, .int .i64 x.later] 41) := ⟨_, rfl⟩
      rw [← hV]
      obtain ⟨ab, hab⟩ : ∃ ab, ab = wr.heap.size := ⟨_, rfl⟩
      rw [← hab]
      have HAct : Hid (V.heap[ab]? = some (.cells #[.string x.kind, .int .i64 x.pt, .int .i64 x.later] 41 (0, 0))) := by show _ = _; rw [hV, hab]; exact row_alat _ _ _
      have T2 : Two w V b m e E E0 s k := T1.below (by rw [hV]; exact Below.one _ _)
      have a0 : V.cell? ⟨ab, 0, none⟩ = some (.string x.kind) := by simp [World.cell?, HAct.out]
      have a2 : V.cell? ⟨ab, 2, none⟩ = some (.int .i64 x.later) := by simp [World.cell?, HAct.out]
      clear hV hab T1 d0 d1 d2
      by_cases q1 : x.later < 0
      · go_wp2
        go_ret
        exact ⟨rfl, T2.bel⟩
      by_cases q2 : 1073741824 < x.later
      · go_wp2
        go_ret
        exact ⟨rfl, T2.bel⟩
      have hw : IntKind.i64.wrap (tk + x.later) = tk + x.later := by rw [IntKind.wrap_i64]; omega
      have HT : Hid (0 ≤ tk + x.later ∧ tk + x.later ≤ 1099511627776) := by show _ ∧ _; omega
      cases p1 : (x.kind.toList == [98, 101, 103, 105, 110])
      · cases p2 : (x.kind.toList == [115, 116, 111, 112])
        · cases p3 : (x.kind.toList == [101, 110, 100])
          · go_upto_region 17 with fail
            clear a0 a2
            obtain ⟨T, hTT⟩ : ∃ T, T = tk + x.later := ⟨_, rfl⟩
            rw [← hTT] at HT
            rw [← hTT]
            refine region_spec2 12 rfl (fun j v _ => larepK A e s x b m ab T j v) (RepC w b m e E E0 s k x.pt T ab #[.string x.kind, .int .i64 x.pt, .int .i64 x.later]) (by kernel_rfl) (by kernel_rfl) ⟨fun z => Bool.noConfusion z, ⟨T2.below (Below.refl _ _).drew, HAct.out⟩⟩ ?_ ?_
            · intro i o ho
              match i, ho with
              | 0, ho =>
                obtain rfl := Option.some.inj ho
                refine StepOk2.free rfl ?_
                intro done a V hC hdn hdo hdep hoth
                have x6 : a.tmps[6]?.getD undef = .pointer (some ⟨b, 0, none⟩) := slot_of (hoth 6 (notDst (by kernel_rfl)))
                exact goodRun2.val (c := .pointer (some ⟨b, 0, none⟩)) (by clear hdep hoth hdo hC; go_simp) (by rw [rep3_other done (show 4 ≠ 0 by decide) (show 9 ≠ 0 by decide)]; exact hC) rfl
              | 1, ho =>
                obtain rfl := Option.some.inj ho
                refine StepOk2.free rfl ?_
                intro done a V hC hdn hdo hdep hoth
                have x10 : a.tmps[10]?.getD undef = .pointer (some ⟨ab, 0, none⟩) := slot_of (hoth 10 (notDst (by kernel_rfl)))
                exact goodRun2.val (c := .pointer (some ⟨ab, 1, none⟩)) (by clear hdep hoth hdo hC; go_simp) (by rw [rep3_other done (show 4 ≠ 1 by decide) (show 9 ≠ 1 by decide)]; exact hC) rfl
              | 2, ho =>
                obtain rfl := Option.some.inj ho
                refine StepOk2.free rfl ?_
                intro done a V hC hdn hdo hdep hoth
                have x69 : a.tmps[69]?.getD undef = .pointer (some ⟨ab, 1, none⟩) := slot_of (hdep _ 69 (Array.mem_of_getElem? (i := 0) rfl) rfl rfl)
                have c1 : V.cell? ⟨ab, 1, none⟩ = some (.int .i64 x.pt) := by have := hC.act; simp [World.cell?, this]
                exact goodRun2.val (c := .int .i64 x.pt) (by clear hdep hoth hdo hC; go_simp) (by rw [rep3_other done (show 4 ≠ 2 by decide) (show 9 ≠ 2 by decide)]; exact hC) rfl
              | 3, ho =>
                obtain rfl := Option.some.inj ho
                refine StepOk2.free rfl ?_
                intro done a V hC hdn hdo hdep hoth
                have x8 : a.tmps[8]?.getD undef = .int .i64 T := slot_of (hoth 8 (notDst (by kernel_rfl)))
                exact goodRun2.val (c := .int .i64 T) (by clear hdep hoth hdo hC; go_simp) (by rw [rep3_other done (show 4 ≠ 3 by decide) (show 9 ≠ 3 by decide)]; exact hC) rfl
              | 4, ho =>
                obtain rfl := Option.some.inj ho
                refine StepOk2.free rfl ?_
                intro done a V hC hdn hdo hdep hoth
                have x68 : a.tmps[68]?.getD undef = .pointer (some ⟨b, 0, none⟩) := slot_of (hdep _ 68 (Array.mem_of_getElem? (i := 0) rfl) rfl rfl)
                have x70 : a.tmps[70]?.getD undef = .int .i64 x.pt := slot_of (hdep _ 70 (Array.mem_of_getElem? (i := 1) rfl) rfl rfl)
                have x71 : a.tmps[71]?.getD undef = .int .i64 T := slot_of (hdep _ 71 (Array.mem_of_getElem? (i := 2) rfl) rfl rfl)
                refine goodRun2.call (f := 16) (args := #[.pointer (some ⟨b, 0, none⟩), .int .i64 x.pt, .int .i64 T]) (by clear hdep hoth hdo hC; go_simp) ?_
                have hT := hC.first hdn
                refine (two_report1 x.pt T hT (HSen.out V hT.bel) HR.out (by have := HK.out; omega) HT.out).mono ?_
                rintro v w4 ⟨rfl, hh, hf⟩
                exact ⟨_, rfl, hC.step1 hdn hh hf, fun _ _ _ h => h, rfl⟩
              | 5, ho =>
                obtain rfl := Option.some.inj ho
                refine StepOk2.free rfl ?_
                intro done a V hC hdn hdo hdep hoth
                have x7 : a.tmps[7]?.getD undef = .pointer (some ⟨m, 0, none⟩) := slot_of (hoth 7 (notDst (by kernel_rfl)))
                exact goodRun2.val (c := .pointer (some ⟨m, 0, none⟩)) (by clear hdep hoth hdo hC; go_simp) (by rw [rep3_other done (show 4 ≠ 5 by decide) (show 9 ≠ 5 by decide)]; exact hC) rfl
              | 6, ho =>
                obtain rfl := Option.some.inj ho
                refine StepOk2.free rfl ?_
                intro done a V hC hdn hdo hdep hoth
                have x10 : a.tmps[10]?.getD undef = .pointer (some ⟨ab, 0, none⟩) := slot_of (hoth 10 (notDst (by kernel_rfl)))
                exact goodRun2.val (c := .pointer (some ⟨ab, 1, none⟩)) (by clear hdep hoth hdo hC; go_simp) (by rw [rep3_other done (show 4 ≠ 6 by decide) (show 9 ≠ 6 by decide)]; exact hC) rfl
              | 7, ho =>
                obtain rfl := Option.some.inj ho
                refine StepOk2.free rfl ?_
                intro done a V hC hdn hdo hdep hoth
                have x74 : a.tmps[74]?.getD undef = .pointer (some ⟨ab, 1, none⟩) := slot_of (hdep _ 74 (Array.mem_of_getElem? (i := 0) rfl) rfl rfl)
                have c1 : V.cell? ⟨ab, 1, none⟩ = some (.int .i64 x.pt) := by have := hC.act; simp [World.cell?, this]
                exact goodRun2.val (c := .int .i64 x.pt) (by clear hdep hoth hdo hC; go_simp) (by rw [rep3_other done (show 4 ≠ 7 by decide) (show 9 ≠ 7 by decide)]; exact hC) rfl
              | 8, ho =>
                obtain rfl := Option.some.inj ho
                refine StepOk2.free rfl ?_
                intro done a V hC hdn hdo hdep hoth
                have x8 : a.tmps[8]?.getD undef = .int .i64 T := slot_of (hoth 8 (notDst (by kernel_rfl)))
                exact goodRun2.val (c := .int .i64 T) (by clear hdep hoth hdo hC; go_simp) (by rw [rep3_other done (show 4 ≠ 8 by decide) (show 9 ≠ 8 by decide)]; exact hC) rfl
              | 9, ho =>
                obtain rfl := Option.some.inj ho
                refine StepOk2.free rfl ?_
                intro done a V hC hdn hdo hdep hoth
                have x73 : a.tmps[73]?.getD undef = .pointer (some ⟨m, 0, none⟩) := slot_of (hdep _ 73 (Array.mem_of_getElem? (i := 0) rfl) rfl rfl)
                have x75 : a.tmps[75]?.getD undef = .int .i64 x.pt := slot_of (hdep _ 75 (Array.mem_of_getElem? (i := 1) rfl) rfl rfl)
                have x76 : a.tmps[76]?.getD undef = .int .i64 T := slot_of (hdep _ 76 (Array.mem_of_getElem? (i := 2) rfl) rfl rfl)
                refine goodRun2.call (f := 17) (args := #[.pointer (some ⟨m, 0, none⟩), .int .i64 x.pt, .int .i64 T]) (by clear hdep hoth hdo hC; go_simp) ?_
                have hd4 : done 4 = true := hdo _ (Array.mem_of_getElem? (i := 3) rfl) rfl
                refine (two_report2 x.pt T (hC.second hd4 hdn) (by have := HK.out; omega) HT.out).mono ?_
                rintro v w4 ⟨rfl, hh, hf⟩
                exact ⟨_, rfl, hC.step2 hd4 hh hf, fun _ _ _ h => h, rfl⟩
              | 10, ho =>
                obtain rfl := Option.some.inj ho
                refine StepOk2.free rfl ?_
                intro done a V hC hdn hdo hdep hoth
                have x72 : a.tmps[72]?.getD undef = errV A (repN e s x.pt) := slot_of (hdep _ 72 (Array.mem_of_getElem? (i := 0) rfl) rfl rfl)
                have x77 : a.tmps[77]?.getD undef = .int .i64 (repN e s x.pt : Int) := slot_of (hdep _ 77 (Array.mem_of_getElem? (i := 1) rfl) rfl rfl)
                refine goodRun2.call (f := 9) (args := #[errV A (repN e s x.pt), .int .i64 (repN e s x.pt : Int)]) (by clear hdep hoth hdo hC; go_simp) ?_
                have hd9 : done 9 = true := hdo _ (Array.mem_of_getElem? (i := 1) rfl) rfl
                refine (coded_err _ _ rfl (HSen.out V hC.bel) (repN_le e s x.pt)).mono ?_
                rintro v w4 ⟨rfl, hb⟩
                refine ⟨_, rfl, ?_, fun _ _ _ h => h, rfl⟩
                rw [rep3_other done (show 4 ≠ 10 by decide) (show 9 ≠ 10 by decide)]
                exact hC.below hb
              | 11, ho =>
                obtain rfl := Option.some.inj ho
                refine StepOk2.free rfl ?_
                intro done a V hC hdn hdo hdep hoth
                have x78 : a.tmps[78]?.getD undef = .bool true := slot_of (hdep _ 78 (Array.mem_of_getElem? (i := 0) rfl) rfl rfl)
                exact goodRun2.val (c := .bool false) (by clear hdep hoth hdo hC; go_simp) (by rw [rep3_other done (show 4 ≠ 11 by decide) (show 9 ≠ 11 by decide)]; exact hC) rfl
              | n + 12, ho => simp at ho
            · intro vals W9 hC hS
              have v11 : vals 11 = .bool false := hS 11 (by decide)
              have T9 : Two w W9 b m e E E0 (s.rep e x.pt T) (k + 1) := hC.2.st
              clear hC hS T2 HAct
              simp only [fill, dstOf]
              go_simp
              go_upto_region 30 with fail
              obtain ⟨c10, c13⟩ := two_cells T9
              obtain ⟨s9, hs9⟩ : ∃ s9, s9 = s.rep e x.pt T := ⟨_, rfl⟩
              rw [← hs9] at T9 c10 c13
              clear hs9
              cases hact : s9.act
              · rw [hact] at c10
                have HRun : Hid (runOf s9 = 0) := by show _ = _; unfold runOf; rw [hact]; rfl
                go_wp2_with fail
                refine (two_stat1 T9).mono ?_
                rintro v w10 ⟨rfl, rfl⟩
                go_wp2_with fail
                refine (two_stat2 T9).mono ?_
                rintro v w11 ⟨rfl, rfl⟩
                go_wp2_with fail
                refine (two_run T9).mono ?_
                rintro v w12 ⟨rfl, rfl⟩
                rw [HRun.out]
                go_wp2_with fail
                go_roundw
                case rel => exact ⟨k + 1, _, s9, by omega, by go_num, rfl, by omega, by omega, T9⟩
                case measure => simp [intOf]; omega
              · rw [hact] at c10
                have HRun : Hid (runOf s9 = s9.run) := by show _ = _; unfold runOf; rw [hact]; rfl
                go_wp2_with fail
                refine (two_stat1 T9).mono ?_
                rintro v w10 ⟨rfl, rfl⟩
                go_wp2_with fail
                refine (two_stat2 T9).mono ?_
                rintro v w11 ⟨rfl, rfl⟩
                go_wp2_with fail
                refine (two_run T9).mono ?_
                rintro v w12 ⟨rfl, rfl⟩
                rw [HRun.out]
                go_wp2_with fail
                go_roundw
                case rel => exact ⟨k + 1, _, s9, by omega, by go_num, rfl, by omega, by omega, T9⟩
                case measure => simp [intOf]; omega
          · go_wp2_with fail
            refine (two_end1 T2 HR.out (by have := HK.out; omega)).mono ?_
            rintro v w8 ⟨rfl, T3⟩
            clear T2 a0 a2 HAct
            go_wp2_with fail
            refine (two_end2 T3 HR.out (by have := HK.out; omega)).mono ?_
            rintro v W9 ⟨rfl, T9⟩
            clear T3
            obtain ⟨kd, hkd⟩ : ∃ z, z = s.kind e := ⟨_, rfl⟩
            obtain ⟨tn, htn⟩ : ∃ z, z = s.turns e := ⟨_, rfl⟩
            rw [← hkd, ← htn]
            clear hkd htn
            go_upto_region 30 with fail
            obtain ⟨c10, c13⟩ := two_cells T9
            obtain ⟨s9, hs9⟩ : ∃ s9, s9 = s.fin e := ⟨_, rfl⟩
            rw [← hs9] at T9 c10 c13
            clear hs9
            cases hact : s9.act
            · rw [hact] at c10
              have HRun : Hid (runOf s9 = 0) := by show _ = _; unfold runOf; rw [hact]; rfl
              go_wp2_with fail
              refine (two_stat1 T9).mono ?_
              rintro v w10 ⟨rfl, rfl⟩
              go_wp2_with fail
              refine (two_stat2 T9).mono ?_
              rintro v w11 ⟨rfl, rfl⟩
              go_wp2_with fail
              refine (two_run T9).mono ?_
              rintro v w12 ⟨rfl, rfl⟩
              rw [HRun.out]
              go_wp2_with fail
              go_roundw
              case rel => exact ⟨k + 1, _, s9, by omega, by go_num, rfl, by omega, by omega, T9⟩
              case measure => simp [intOf]; omega
            · rw [hact] at c10
              have HRun : Hid (runOf s9 = s9.run) := by show _ = _; unfold runOf; rw [hact]; rfl
              go_wp2_with fail
              refine (two_stat1 T9).mono ?_
              rintro v w10 ⟨rfl, rfl⟩
              go_wp2_with fail
              refine (two_stat2 T9).mono ?_
              rintro v w11 ⟨rfl, rfl⟩
              go_wp2_with fail
              refine (two_run T9).mono ?_
              rintro v w12 ⟨rfl, rfl⟩
              rw [HRun.out]
              go_wp2_with fail
              go_roundw
              case rel => exact ⟨k + 1, _, s9, by omega, by go_num, rfl, by omega, by omega, T9⟩
              case measure => simp [intOf]; omega
        · go_wp2_with fail
          refine (two_stop1 T2 (HSen.out _ T2.bel)).mono ?_
          rintro v w7 ⟨rfl, T3⟩
          clear T2 a0 a2 HAct
          go_wp2_with fail
          refine (two_stop2 T3).mono ?_
          rintro v w8 ⟨rfl, T4⟩
          clear T3
          go_wp2_with fail
          refine (coded_err _ _ rfl (HSen.out _ T4.bel) (by unfold stoE; split <;> omega)).mono ?_
          rintro v W9 ⟨rfl, hb9⟩
          have T9 := T4.below hb9
          clear T4 hb9
          go_upto_region 30 with fail
          obtain ⟨c10, c13⟩ := two_cells T9
          obtain ⟨s9, hs9⟩ : ∃ s9, s9 = s.stop := ⟨_, rfl⟩
          rw [← hs9] at T9 c10 c13
          clear hs9
          cases hact : s9.act
          · rw [hact] at c10
            have HRun : Hid (runOf s9 = 0) := by show _ = _; unfold runOf; rw [hact]; rfl
            go_wp2_with fail
            refine (two_stat1 T9).mono ?_
            rintro v w10 ⟨rfl, rfl⟩
            go_wp2_with fail
            refine (two_stat2 T9).mono ?_
            rintro v w11 ⟨rfl, rfl⟩
            go_wp2_with fail
            refine (two_run T9).mono ?_
            rintro v w12 ⟨rfl, rfl⟩
            rw [HRun.out]
            go_wp2_with fail
            go_roundw
            case rel => exact ⟨k + 1, _, s9, by omega, by go_num, rfl, by omega, by omega, T9⟩
            case measure => simp [intOf]; omega
          · rw [hact] at c10
            have HRun : Hid (runOf s9 = s9.run) := by show _ = _; unfold runOf; rw [hact]; rfl
            go_wp2_with fail
            refine (two_stat1 T9).mono ?_
            rintro v w10 ⟨rfl, rfl⟩
            go_wp2_with fail
            refine (two_stat2 T9).mono ?_
            rintro v w11 ⟨rfl, rfl⟩
            go_wp2_with fail
            refine (two_run T9).mono ?_
            rintro v w12 ⟨rfl, rfl⟩
            rw [HRun.out]
            go_wp2_with fail
            go_roundw
            case rel => exact ⟨k + 1, _, s9, by omega, by go_num, rfl, by omega, by omega, T9⟩
            case measure => simp [intOf]; omega
      · go_wp2_with fail
        refine (two_begin1 T2 (HSen.out _ T2.bel) HR.out).mono ?_
        rintro v w7 ⟨rfl, T3⟩
        clear T2 a0 a2 HAct
        go_wp2_with fail
        refine (two_begin2 T3).mono ?_
        rintro v w8 ⟨rfl, T4⟩
        clear T3
        go_wp2_with fail
        refine (coded_err _ _ rfl (HSen.out _ T4.bel) (by unfold begE; split <;> omega)).mono ?_
        rintro v W9 ⟨rfl, hb9⟩
        have T9 := T4.below hb9
        clear T4 hb9
        go_upto_region 30 with fail
        obtain ⟨c10, c13⟩ := two_cells T9
        obtain ⟨s9, hs9⟩ : ∃ s9, s9 = s.begin := ⟨_, rfl⟩
        rw [← hs9] at T9 c10 c13
        clear hs9
        cases hact : s9.act
        · rw [hact] at c10
          have HRun : Hid (runOf s9 = 0) := by show _ = _; unfold runOf; rw [hact]; rfl
          go_wp2_with fail
          refine (two_stat1 T9).mono ?_
          rintro v w10 ⟨rfl, rfl⟩
          go_wp2_with fail
          refine (two_stat2 T9).mono ?_
          rintro v w11 ⟨rfl, rfl⟩
          go_wp2_with fail
          refine (two_run T9).mono ?_
          rintro v w12 ⟨rfl, rfl⟩
          rw [HRun.out]
          go_wp2_with fail
          go_roundw
          case rel => exact ⟨k + 1, _, s9, by omega, by go_num, rfl, by omega, by omega, T9⟩
          case measure => simp [intOf]; omega
        · rw [hact] at c10
          have HRun : Hid (runOf s9 = s9.run) := by show _ = _; unfold runOf; rw [hact]; rfl
          go_wp2_with fail
          refine (two_stat1 T9).mono ?_
          rintro v w10 ⟨rfl, rfl⟩
          go_wp2_with fail
          refine (two_stat2 T9).mono ?_
          rintro v w11 ⟨rfl, rfl⟩
          go_wp2_with fail
          refine (two_run T9).mono ?_
          rintro v w12 ⟨rfl, rfl⟩
          rw [HRun.out]
          go_wp2_with fail
          go_roundw
          case rel => exact ⟨k + 1, _, s9, by omega, by go_num, rfl, by omega, by omega, T9⟩
          case measure => simp [intOf]; omega
    · have k1 : ¬ (k : Int) < (acts.length : Int) := by omega
      go_wp2
      go_ret
      exact ⟨rfl, T1.bel⟩
end Go.Proofs.YtpaolneaomeoiacDoor
