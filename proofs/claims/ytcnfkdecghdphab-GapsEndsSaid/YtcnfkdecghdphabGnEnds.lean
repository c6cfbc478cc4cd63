/-
  nightwatchlaw2.GapsEnds told by a contract: it answers true; nothing that was there turns. Conditions: what it is handed lies in memory.
-/
import Derived.Test.YtcnfkdecghdphabGnWalk
namespace Go.Proofs.Ytcnfkdecghdphab
open Go.RowKit Go.Extern.Stop Go.Stop Go.Extern

theorem Try.infoMark : (Try.prog.info? 51).map (fun i => (i.zero, i.size, i.bytes)) = some (some (.agg #[.int .i64 0, .int .i64 0, .int .i64 0]), 3, 24) := by kernel_rfl
/-- The reports so far, owned. -/
def MkOwn (B : Nat) (w : World) (v : Value) (ms : List MkD) : Prop := w.ownsRow B 51 3 v ms.length (ms.flatMap encM)
theorem MkOwn.frame {B : Nat} {w w' : World} {v : Value} {ms : List MkD} (h : MkOwn B w v ms) (hf : FrG w w') : MkOwn B w' v ms := by
  refine ⟨h.1, ?_⟩
  rcases h.2 with h0 | ⟨g, cap, cur, e, hB, hg, r⟩
  · exact Or.inl h0
  · exact Or.inr ⟨g, cap, cur, e, hB, hf g _ _ _ hg (by decide) (by decide), r⟩
theorem MkOwn.below {B : Nat} {w w' : World} {v : Value} {ms : List MkD} (h : MkOwn B w v ms) (hb : Below w.heap.size w w') : MkOwn B w' v ms := SlOwnR.below h hb
theorem MkOwn.slat {B : Nat} {w : World} {v : Value} {ms : List MkD} (h : MkOwn B w v ms) : SlAt encM 3 w v ms := SlOwn.slat (enc := encM) h encM_len
/-- A watch, while the reports' row grows. -/
theorem GpIn.grown {w0 w w' : World} {b B : Nat} {s : GSt} {v : Value} {ms : List MkD} (h : GpIn w0 w b s) (ho : MkOwn B w v ms) (hB : w0.heap.size ≤ B) (hg : w.grownBy w' v.ownBlock) : GpIn w0 w' b s := by
  obtain ⟨h0, sa, cap, h⟩ := h
  have keep : ∀ {i : Nat} {c : Array Value} {T : TypeId} {fr : Nat × Nat}, w.heap[i]? = some (.cells c T fr) → T ≠ 51 → w'.heap[i]? = some (.cells c T fr) := fun hi hT =>
    (hg.block _ (lt_of_row hi) (fun e2 => ow_ne ho hi hT e2.symm)).trans hi
  refine ⟨h0.grown hg h0.size (fun i hi => Nat.le_trans hB (ho.lt i hi).1), sa, cap, keep h.heap (by decide), fun hne => ?_, h.lo, h.fit⟩
  obtain ⟨g, o, e, h1, h2, hc, cur, hf⟩ := h.sl hne
  have k1 := keep hf (by decide)
  refine ⟨g, o, e, h1, h2, fun i x hx j u hu => ?_, cur, k1⟩
  have := hc i x hx j u hu
  simp only [World.cell?, hf, k1] at this ⊢
  exact this
theorem ow_form {w : World} {B k n : Nat} {T : TypeId} {v : Value} {xs : List Value} (h : w.ownsRow B T k v n xs) : ∃ sa c, v = .slice sa n c := by
  rcases h.2 with ⟨rfl, rfl⟩ | ⟨g, cap, cur, rfl, _⟩
  · exact ⟨_, _, rfl⟩
  · exact ⟨_, _, rfl⟩
/-- What the loop keeps: the reports, their bounds. -/
structure MkFit (ms : List MkD) (k : Nat) (T C : Int) : Prop where
  len : ms.length ≤ k
  each : ∀ m ∈ ms, 0 ≤ m.tick ∧ m.tick ≤ 1099511627776 ∧ m.cyc ≤ C
  t0 : 0 ≤ T
  t1 : T ≤ (k : Int) * 1073741824
  c0 : 0 ≤ C
  c1 : C ≤ (k : Int)
/-- No gap of the first k is bad. -/
def wellTo (gs : List GapD) (ms : List MkD) (C : Int) (k : Nat) : Bool := !((gs.take k).any fun g => gapBad g ms C)
theorem wellTo_zero (gs : List GapD) (ms : List MkD) (C : Int) : wellTo gs ms C 0 = true := by simp [wellTo]
theorem wellTo_all {gs : List GapD} {ms : List MkD} {C : Int} {k : Nat} (h : ¬ k < gs.length) : wellTo gs ms C k = !(simG gs ms C).bad := by
  unfold wellTo simG
  rw [List.take_of_length_le (by omega)]
theorem wellTo_succ {gs : List GapD} {ms : List MkD} {C : Int} {k : Nat} {g : GapD} (h : gs[k]? = some g) : wellTo gs ms C (k + 1) = (wellTo gs ms C k && !gapBad g ms C) := by
  unfold wellTo
  rw [List.take_add_one, h, List.any_append]
  simp [Bool.not_or]
set_option maxHeartbeats 8000000 in
set_option maxRecDepth 100000 in
theorem gends_in (e : EntD) (pa ga ea fa la : Option Addr) (pc gc ec fc lc : Nat) (sl : Option Addr) (reps : List RepD) (slc : Nat) (w : World) (hP : EntParts w e (.slice pa e.pts.length pc) (.slice ga e.gaps.length gc) (.slice ea e.edges.length ec) (.slice fa e.first.length fc) (.slice la e.last.length lc))
    (hR : SlAt encR 3 w (.slice sl reps.length slc) reps) (hh : heavyE e = false) (hl : fitL reps = true) :
    Calls Try.prog 6 #[.agg #[.string e.name, .int .i64 e.tol, .slice pa e.pts.length pc, .int .i64 e.cnt, .int .i64 e.mn, .int .i64 e.mx, .slice ga e.gaps.length gc, .slice ea e.edges.length ec, .slice fa e.first.length fc, .slice la e.last.length lc], .slice sl reps.length slc] w fun v w' => v = .returned (.bool true) ∧ Below w.heap.size w w' := by
  obtain ⟨i0, hi, hz0, hz1, hz2⟩ := info_parts Try.infoMark
  have HH : Hid (SmallE e) := heavyE_small hh
  have hh0 : one01 (heavyE e) = 0 := by rw [hh]; rfl
  have HP : Hid (∀ V, Below w.heap.size w V → EntParts V e (.slice pa e.pts.length pc) (.slice ga e.gaps.length gc) (.slice ea e.edges.length ec) (.slice fa e.first.length fc) (.slice la e.last.length lc)) := fun V hV => hP.below hV
  have HR : Hid (SlAt encR 3 w (.slice sl reps.length slc) reps) := hR
  have hl100 : reps.length ≤ 100 := by
    unfold fitL at hl
    simp at hl
    exact hl.2
  have HL : Hid (reps.length ≤ 100 ∧ ∀ r ∈ reps, 0 ≤ r.later ∧ r.later ≤ 1073741824) := ⟨hl100, fun r hr => by
    unfold fitL at hl
    rw [Bool.and_eq_true, List.all_eq_true] at hl
    have := hl.1 r hr
    unfold fitR at this
    simp at this
    exact this⟩
  have HFL : Hid (fitL reps = true) := hl
  clear hP hR hh hl hl100
  go_enter Try.func6, Try.ntmps6
  go_wp2_with fail
  refine (spaced_any _).mono ?_
  rintro v w1 ⟨rfl, hb1⟩
  have HX1 : Hid (w1.heap[w.heap.size]? = some (.cells #[.string e.name, .int .i64 e.tol, .slice pa e.pts.length pc, .int .i64 e.cnt, .int .i64 e.mn, .int .i64 e.mx, .slice ga e.gaps.length gc, .slice ea e.edges.length ec, .slice fa e.first.length fc, .slice la e.last.length lc] 30 (0, 0))) := row_below hb1 (by show (w.heap.push _)[w.heap.size]? = _; simp)
  have HB1 : Hid (Below w.heap.size w w1) := (Below.one _ _).trans (hb1.mono (by simp))
  clear hb1
  have y : ∀ (j : Nat) u, (#[.string e.name, .int .i64 e.tol, .slice pa e.pts.length pc, .int .i64 e.cnt, .int .i64 e.mn, .int .i64 e.mx, .slice ga e.gaps.length gc, .slice ea e.edges.length ec, .slice fa e.first.length fc, .slice la e.last.length lc] : Array Value)[j]? = some u → w1.cell? ⟨w.heap.size, j, none⟩ = some u := fun j u hu => by simp [World.cell?, HX1.out, hu]
  have y0 := y 0 _ rfl
  have y1 := y 1 _ rfl
  have y2 := y 2 _ rfl
  have y3 := y 3 _ rfl
  have y4 := y 4 _ rfl
  have y5 := y 5 _ rfl
  have y6 := y 6 _ rfl
  have y7 := y 7 _ rfl
  have y8 := y 8 _ rfl
  have y9 := y 9 _ rfl
  clear y
  go_wp2_with fail
  clear y0 y1 y2 y3 y4 y5 y6 y7 y8 y9
  refine (heavyE_at e pa ga ea fa la pc gc ec fc lc _ (HP.out _ HB1.out).hp).mono ?_
  rintro v w2 ⟨rfl, hb2⟩
  rw [hh0]
  have HX2 : Hid (w2.heap[w.heap.size]? = some (.cells #[.string e.name, .int .i64 e.tol, .slice pa e.pts.length pc, .int .i64 e.cnt, .int .i64 e.mn, .int .i64 e.mx, .slice ga e.gaps.length gc, .slice ea e.edges.length ec, .slice fa e.first.length fc, .slice la e.last.length lc] 30 (0, 0))) := row_below hb2 HX1.out
  have HB2 : Hid (Below w.heap.size w w2) := HB1.out.trans (hb2.mono HB1.out.size)
  clear hb2 HX1 HB1
  go_wp2_with fail
  refine (later_at sl reps slc _ (HR.out.below HB2.out) (by have := HL.out.1; omega)).mono ?_
  rintro v w2' ⟨rfl, rfl⟩
  rw [HFL.out]
  rename World => w2
  go_wp2_with (refine wpList_load_row rfl 30 _ rfl w.heap.size rfl _ _ _ _ HX2.out Try.underlying30 rfl Try.sizeEnt ?_)
  refine (ownEntity_at w2.heap.size e pa ga ea fa la pc gc ec fc lc _ (HP.out _ HB2.out) HH.out (Nat.le_refl _)).mono ?_
  rintro v w3 ⟨⟨pa', pc', ga', gc', ea', ec', fa', fc', la', lc', rfl, hown3⟩, hb3⟩
  have HX3 : Hid (w3.heap[w.heap.size]? = some (.cells #[.string e.name, .int .i64 e.tol, .slice pa e.pts.length pc, .int .i64 e.cnt, .int .i64 e.mn, .int .i64 e.mx, .slice ga e.gaps.length gc, .slice ea e.edges.length ec, .slice fa e.first.length fc, .slice la e.last.length lc] 30 (0, 0))) := row_below hb3 HX2.out
  have HB3 : Hid (Below w.heap.size w w3) := HB2.out.trans (hb3.mono HB2.out.size)
  have HG3 : Hid (SlAt encG 4 w3 (.slice ga' e.gaps.length gc') e.gaps) := hown3.parts.hg
  have HGl : Hid (e.gaps.length ≤ 1000000) := HH.out.hg
  clear hb3 HX2 HB2 hown3
  go_wp2_with fail
  refine (gp_new _ _ _ _ _ _ _ _ _ _ _ e.gaps _ HG3.out HGl.out).mono ?_
  rintro v w4 ⟨b, rfl, h4⟩
  have HD4 : Hid (GpIn w3 w4 b (simG e.gaps [] 0)) := by show GpIn _ _ _ _; rw [← sim_new]; exact h4
  have HBW : Hid (∀ V, Below w3.heap.size w3 V → Below w.heap.size w V) := fun V hV => HB3.out.trans (hV.mono HB3.out.size)
  have HXW : Hid (∀ V, Below w3.heap.size w3 V → V.cell? ⟨w.heap.size, 6, none⟩ = some (.slice ga e.gaps.length gc)) := fun V hV => by
    have := row_below hV HX3.out
    simp [World.cell?, this]
  clear h4 HX3 HB3 HG3
  go_upto_region 10 with fail
  go_cut [10] (fun i wx => i = .int .i64 0 ∧ wx = w4)
  case first =>
    go_wp2_with fail
    go_meet
    case rel => exact ⟨rfl, rfl⟩
  obtain ⟨rfl, rfl⟩ := hcut
  rename World => w4
  go_wp2_with fail
  go_loopw [7, 8, 9, 10, 11, 12, 13] (fun mv tv cv iv _ _ _ wr => ∃ (k : Nat) (T C : Int) (ms : List MkD) (va : Option Addr) (vc : Nat), k ≤ reps.length ∧ tv = .int .i64 T ∧ cv = .int .i64 C ∧ iv = .int .i64 k ∧ mv = .slice va ms.length vc ∧ MkFit ms k T C ∧ MkOwn w3.heap.size wr (.slice va ms.length vc) ms ∧ GpIn w3 wr b (simG e.gaps ms C)) (fun _ _ _ i _ _ _ _ => reps.length - (intOf i).toNat)
  case atStart => exact ⟨0, 0, 0, [], none, 0, Nat.zero_le _, rfl, rfl, rfl, rfl, ⟨Nat.le_refl _, fun m hm => (by simp at hm), Int.le_refl _, (by simp), Int.le_refl _, (by simp)⟩, World.ownsRow_nil _ _ _ _, HD4.out⟩
  case round =>
    clear HD4
    obtain ⟨k, T, C, ms, va, vc, hk, rfl, rfl, rfl, rfl, hF, hO, hD⟩ := hrel
    have HF : Hid (MkFit ms k T C) := hF
    have HO : Hid (MkOwn w3.heap.size wr (.slice va ms.length vc) ms) := hO
    have HD : Hid (GpIn w3 wr b (simG e.gaps ms C)) := hD
    clear hF hO hD
    by_cases hlt : k < reps.length
    · have k1 : (k : Int) < (reps.length : Int) := by omega
      have k2 : k < 100 := by have := HL.out.1; omega
      obtain ⟨r, hr⟩ : ∃ r, reps[k]? = some r := ⟨_, List.getElem?_eq_getElem hlt⟩
      have HRl : Hid (0 ≤ r.later ∧ r.later ≤ 1073741824) := HL.out.2 r (List.mem_of_getElem? hr)
      obtain ⟨sa', cap', hsl, -, hcc⟩ := id HR.out
      cases hsl
      obtain ⟨g, o, rfl, hc0⟩ := hcc (fun h => by rw [h] at hr; simp at hr)
      obtain ⟨rp, rl, re⟩ := r
      have HCl : Hid (∀ V, Below w3.heap.size w3 V → V.cell? ⟨g, o + k * 3, none⟩ = some (.int .i64 rp) ∧ V.cell? ⟨g, o + k * 3 + 1, none⟩ = some (.int .i64 rl) ∧ V.cell? ⟨g, o + k * 3 + 2, none⟩ = some (.bool re)) := fun V hV => ⟨cell_below (HBW.out V hV) (hc0 k _ hr 0 _ rfl), cell_below (HBW.out V hV) (hc0 k _ hr 1 _ rfl), cell_below (HBW.out V hV) (hc0 k _ hr 2 _ rfl)⟩
      have c0 := (HCl.out wr HD.out.1).1
      have c1 := (HCl.out wr HD.out.1).2.1
      have c2 := (HCl.out wr HD.out.1).2.2
      have r0 : 0 ≤ rl := HRl.out.1
      have r1 : rl ≤ 1073741824 := HRl.out.2
      have t0 := HF.out.t0
      have t1 : T ≤ 200000000000 := by have := HF.out.t1; omega
      have C0 := HF.out.c0
      have C1 : C ≤ 100 := by have := HF.out.c1; omega
      have HTk : Hid (tickOk (T + rl) = true) := by show _ = _; unfold tickOk; rw [decide_eq_true (by omega), decide_eq_true (by omega)]; rfl
      clear hcc hc0 hr
      cases re
      · obtain ⟨m, hm⟩ : ∃ m : MkD, m = ⟨rp, T + rl, C⟩ := ⟨_, rfl⟩
        have HLs : Hid (∀ l c, (simG e.gaps l c).xs.length ≤ 1000000) := fun l c => by simp only [simG, List.length_map]; exact HGl.out
        go_wp2_with fail
        refine (gp_report rp (T + rl) HD.out (HLs.out _ _)).mono ?_
        rintro v w5 ⟨rfl, h5, f5⟩
        have HD5 : Hid (GpIn w3 w5 b (simG e.gaps (ms ++ [m]) C)) := by show GpIn _ _ _ _; rw [hm, ← sim_rep _ _ _ _ _ HTk.out]; exact h5
        have HO5 : Hid (MkOwn w3.heap.size w5 (.slice va ms.length vc) ms) := HO.out.frame f5
        clear h5 f5 HD HO c0 c1 c2
        have c0 := (HCl.out w5 HD5.out.1).1
        go_wp2_with fail
        refine (gp_report rp (-1) HD5.out (HLs.out _ _)).mono ?_
        rintro v w6 ⟨rfl, h6, f6⟩
        have HD6 : Hid (GpIn w3 w6 b (simG e.gaps (ms ++ [m]) C)) := by rw [rep_off rfl] at h6; exact h6
        have HO6 : Hid (MkOwn w3.heap.size w6 (.slice va ms.length vc) ms) := HO5.out.frame f6
        clear h6 f6 HD5 HO5 c0
        have c0 := (HCl.out w6 HD6.out.1).1
        go_wp2_with fail
        refine (gp_report rp 1099511627777 HD6.out (HLs.out _ _)).mono ?_
        rintro v w7 ⟨rfl, h7, f7⟩
        have HD7 : Hid (GpIn w3 w7 b (simG e.gaps (ms ++ [m]) C)) := by rw [rep_off rfl] at h7; exact h7
        have HO7 : Hid (MkOwn w3.heap.size w7 (.slice va ms.length vc) ms) := HO6.out.frame f7
        clear h7 f7 HD6 HO6 c0
        have c0 := (HCl.out w7 HD7.out.1).1
        have HZ7 : Hid (w3.heap.size ≤ w7.heap.size ∧ ms.length ≤ 100) := ⟨HD7.out.1.size, by have := HF.out.len; omega⟩
        go_wp2_with (at_builtin; refine wpList_append_own (w7.alloc (.cells #[.int .i64 rp, .int .i64 (T + rl), .int .i64 C] 51)) rfl _ _ 49 rfl w3.heap.size 51 i0 (.agg #[.int .i64 0, .int .i64 0, .int .i64 0]) 3 24 Try.underlying49 hi hz0 hz1 hz2 rfl (by decide) (.slice va ms.length vc) ms.length (ms.flatMap encM) rfl (HO7.out.alloc _) ⟨w7.heap.size, 0, none⟩ 1 1 [.int .i64 rp, .int .i64 (T + rl), .int .i64 C] rfl rfl (ce_at w7 [.int .i64 rp, .int .i64 (T + rl), .int .i64 C] 51) (encM_one ⟨rp, T + rl, C⟩) (by have := HZ7.out.2; unfold maxLen; omega) (by have := HZ7.out.2; omega) (by have := HZ7.out.1; simp; omega) ?_; intro v8 w8 hown8 hg8 hn8; obtain ⟨va8, vc8, rfl⟩ := ow_form hown8)
        go_roundw
        case rel =>
          refine ⟨k + 1, T + rl, C, ms ++ [m], va8, vc8, by omega, rfl, rfl, by go_num, by simp, ⟨?_, fun y hy => ?_, by omega, ?_, C0, ?_⟩, ?_, ?_⟩
          · have := HF.out.len; simp; omega
          · rw [List.mem_append] at hy
            rcases hy with hy | hy
            · exact HF.out.each y hy
            · simp only [List.mem_singleton] at hy
              subst hy
              subst hm
              exact ⟨by show 0 ≤ T + rl; omega, by show T + rl ≤ _; omega, Int.le_refl _⟩
          · have := HF.out.t1; push_cast; omega
          · have := HF.out.c1; push_cast; omega
          · subst hm
            unfold MkOwn
            rw [List.length_append, List.flatMap_append]
            simpa [encM] using hown8
          · exact (HD7.out.below (Below.one _ _)).grown (HO7.out.below (Below.one _ _)) (Nat.le_refl _) hg8
        case measure => simp [intOf]; omega
      · go_upto_region 20 with fail
        go_cut [12] (fun i wx => i = .int .i64 0 ∧ wx = wr)
        case first =>
          go_wp2_with fail
          go_meet
          case rel => exact ⟨rfl, rfl⟩
        clear c0 c1 c2
        obtain ⟨rfl, rfl⟩ := hcut
        rename World => wr
        go_wp2_with fail
        go_loopw [11, 12, 13] (fun wl jv _ wx => ∃ (j : Nat) (z : Bool), j ≤ e.gaps.length ∧ jv = .int .i64 j ∧ wl = .bool z ∧ z = wellTo e.gaps ms C j ∧ Below wr.heap.size wr wx) (fun _ j _ _ => e.gaps.length - (intOf j).toNat)
        case atStart => exact ⟨0, true, Nat.zero_le _, rfl, rfl, (wellTo_zero _ _ _).symm, Below.refl _ _⟩
        case round =>
          obtain ⟨j, z, hj, rfl, rfl, hz, hbx⟩ := hrel
          rename World => wx
          have HZ : Hid (z = wellTo e.gaps ms C j) := hz
          have HBx : Hid (Below wr.heap.size wr wx) := hbx
          have HDx : Hid (GpIn w3 wx b (simG e.gaps ms C)) := HD.out.below hbx
          have HOx : Hid (MkOwn w3.heap.size wx (.slice va ms.length vc) ms) := HO.out.below hbx
          clear hz hbx
          have x6 := HXW.out wx HDx.out.1
          by_cases hjl : j < e.gaps.length
          · have j1 : (j : Int) < (e.gaps.length : Int) := by omega
            have j2 : j < 1000000 := by have := HGl.out; omega
            obtain ⟨gg, hgg⟩ : ∃ gg, e.gaps[j]? = some gg := ⟨_, List.getElem?_eq_getElem hjl⟩
            have HGg : Hid (e.gaps[j]? = some gg) := hgg
            obtain ⟨sa', cap', hsl, -, hcc⟩ := (HP.out wx (HBW.out wx HDx.out.1)).hg
            cases hsl
            obtain ⟨g2, o2, rfl, hd0⟩ := hcc (fun h => by rw [h] at hgg; simp at hgg)
            have p0 := hd0 j _ hgg 0 _ rfl
            have p1 := hd0 j _ hgg 1 _ rfl
            have p2 := hd0 j _ hgg 2 _ rfl
            have p3 := hd0 j _ hgg 3 _ rfl
            simp only [Nat.add_zero] at p0
            clear hcc hd0 hgg
            go_wp2_with fail
            refine (gapBad_at gg ms C va vc wx HOx.out.slat (by have := HF.out.len; omega) (fun m hm => ⟨(HF.out.each m hm).1, (HF.out.each m hm).2.1⟩)).mono ?_
            rintro v w5 ⟨rfl, hb5⟩
            have HB5 : Hid (Below wr.heap.size wr w5) := HBx.out.trans (hb5.mono HBx.out.size)
            clear hb5 x6 p0 p1 p2 p3
            cases hb : gapBad gg ms C
            · have HN : Hid (z = wellTo e.gaps ms C (j + 1)) := by show _ = _; rw [wellTo_succ HGg.out, hb, HZ.out]; simp
              go_wp2_with fail
              go_roundw
              case rel => exact ⟨j + 1, z, by omega, by go_num, rfl, HN.out, HB5.out⟩
              case measure => simp [intOf]; omega
            · have HN : Hid (false = wellTo e.gaps ms C (j + 1)) := by show _ = _; rw [wellTo_succ HGg.out, hb]; simp
              go_wp2_with fail
              go_roundw
              case rel => exact ⟨j + 1, false, by omega, by go_num, rfl, HN.out, HB5.out⟩
              case measure => simp [intOf]; omega
          · have j1 : ¬ (j : Int) < (e.gaps.length : Int) := by omega
            have HW : Hid ((!(simG e.gaps ms C).bad) = z) := by show _ = _; rw [HZ.out, wellTo_all hjl]
            go_wp2_with fail
            refine (gp_end HDx.out).mono ?_
            rintro v w5 ⟨rfl, h5, f5⟩
            have HD5 : Hid (GpIn w3 w5 b (simG e.gaps ms (C + 1))) := by show GpIn _ _ _ _; rw [← sim_end (fun m hm => (HF.out.each m hm).2.2)]; exact h5
            have HO5 : Hid (MkOwn w3.heap.size w5 (.slice va ms.length vc) ms) := HOx.out.frame f5
            clear h5 f5 x6
            rw [HW.out]
            cases z
            all_goals
              go_wp2_with fail
              go_roundw
              case rel =>
                refine ⟨k + 1, T + rl, C + 1, ms, va, vc, by omega, rfl, by go_num, by go_num, rfl, ⟨?_, fun y hy => ?_, by omega, ?_, by omega, ?_⟩, HO5.out, HD5.out⟩
                · have := HF.out.len; omega
                · have := HF.out.each y hy; exact ⟨this.1, this.2.1, by omega⟩
                · have := HF.out.t1; push_cast; omega
                · have := HF.out.c1; push_cast; omega
              case measure => simp [intOf]; omega
    · have k1 : ¬ (k : Int) < (reps.length : Int) := by omega
      go_wp2
      go_ret
      exact ⟨rfl, HBW.out _ HD.out.1⟩
end Go.Proofs.Ytcnfkdecghdphab
