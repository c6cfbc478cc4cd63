/-
  nightwatchlaw1.ConfReads told by a contract: it answers true; nothing that was there turns. Conditions: the sentinels, the keywords and the table of powers of ten lie in memory; so does strings.Split's variable.
-/
import Derived.Test.YtbholbenjalliaaGreatDoorDrOfX
import Derived.Test.YtbholbenjalliaaGreatDoorDc2X
import Derived.Test.YtbholbenjalliaaGreatDoorCfHeavyX
import Derived.Test.YtbholbenjalliaaGreatDoorRd2X
import Derived.Test.YtbholbenjalliaaGreatDoorCfTextAllX
import Derived.Test.YtbholbenjalliaaGreatDoorPureX
namespace Go.Proofs.YtbholbenjalliaaGreatDoor
open Go.RowKit Go.Extern.Stop Go.Stop Go.Extern Go.Maps

theorem faulted_read (A : Nat → Addr) (r : Value) (f : Nat × Int) (code place : Int) (V : World) (hc : code = (f.1 : Int)) (hp : code ≠ 0 → place = f.2) (hs : Senv A V) (h : ErrAt A V r f) : Calls Tryz.prog 10 #[r, .agg #[.int .i64 code, .int .i64 place]] V fun e w' => e = .returned (.bool true) ∧ Below V.heap.size V w' := by
  refine (faulted_at A r f code place V hs h).mono ?_
  rintro v w' ⟨rfl, hb⟩
  refine ⟨?_, hb⟩
  have : (f.1 : Int) = code ∧ (f.1 = 0 ∨ f.2 = place) := by
    refine ⟨hc.symm, ?_⟩
    by_cases h0 : f.1 = 0
    · exact Or.inl h0
    · exact Or.inr (hp (by rw [hc]; omega)).symm
  rw [decide_eq_true this]
set_option maxHeartbeats 4000000 in
set_option maxRecDepth 100000 in
theorem reads_in (A : Nat → Addr) (s : ByteArray) (w : World) (hs : Senv A w) (hK : KwAt w) (hT : TabAt w) (hM : MxAt w) (hG : (max 12 16 + 1) ≤ w.heap.size) :
    Calls Tryz.prog 4 #[.string s] w fun v w' => v = .returned (.bool true) ∧ Below w.heap.size w w' := by
  have kl : 12 < (max 12 16 + 1) := by decide
  have HT : Hid _ := told_at A w hs.six hK hT hG
  have HR : Hid (s.size ≤ 2000 → ∀ W, Below w.heap.size w W → Calls Tryz.prog 13 #[.string s] W _) := fun hn W hW => read_at A s W (hs.six.below hW) (hK.below hW (Nat.lt_of_lt_of_le kl hG)) (hM.below hW) (by omega)
  have HO : Hid (s.size ≤ 2000 → ∀ W, Calls Tryz.prog 16 #[.string s] W (OfPost s W)) := fun hn W => confOf_at s W (by omega)
  have HFa : Hid (∀ r f code place V, Below w.heap.size w V → code = ((f : Nat × Int).1 : Int) → (code ≠ 0 → place = f.2) → ErrAt A V r f → Calls Tryz.prog 10 #[r, .agg #[.int .i64 code, .int .i64 place]] V fun v w' => v = .returned (.bool true) ∧ Below V.heap.size V w') := fun r f code place V hV h1 h2 h => faulted_read A r f code place V h1 h2 (hs.below hV) h
  clear hs hK hT hM hG kl
  go_enter Tryz.func4, Tryz.ntmps4
  go_wp2_with fail
  refine Calls.mono HT.out ?_
  rintro v w1 ⟨rfl, hb1⟩
  have HB1 : Hid (Below w.heap.size w w1) := hb1
  clear hb1 HT
  by_cases hl : s.size ≤ 2000
  · have HL : Hid (s.size ≤ 2000) := hl
    have l1 : ¬ (2000 : Int) < (s.size : Int) := by omega
    clear hl
    go_wp2_with fail
    refine Calls.mono (HR.out HL.out w1 HB1.out) ?_
    rintro v w2 ⟨c, sv, ev, rfl, hb2, hc, ⟨B', hE⟩, hErr, hSm⟩
    obtain ⟨va, vc, rfl, -⟩ := id hE.ents
    obtain ⟨V, hV⟩ : ∃ V, V = w2.alloc (.cells #[.int .i64 c.closed, .int .i64 c.opn, .int .i64 c.cycle, .int .i64 c.delay, .slice va c.ents.length vc] 24) := ⟨_, rfl⟩
    obtain ⟨xb, hxb⟩ : ∃ b, b = w2.heap.size := ⟨_, rfl⟩
    have HB2 : Hid (Below w.heap.size w V) := by show Below _ _ _; rw [hV]; exact (HB1.out.trans (hb2.mono HB1.out.size)).trans ((Below.one _ _).mono (HB1.out.trans (hb2.mono HB1.out.size)).size)
    have HC : Hid (c = (readR lookL (bl s)).2) := hc
    have HX : Hid (V.heap[xb]? = some (.cells #[.int .i64 c.closed, .int .i64 c.opn, .int .i64 c.cycle, .int .i64 c.delay, .slice va c.ents.length vc] 24 (0, 0))) := by show _ = _; rw [hV, hxb]; exact heap_alloc_new w2 _
    have HE : Hid (EntsOwn B' V (.slice va c.ents.length vc) c.ents ∧ SmallC c) := ⟨by rw [hV]; exact hE.below (Below.one _ _), hSm⟩
    have HErr : Hid (ErrAt A V ev (readR lookL (bl s)).1) := by show ErrAt _ _ _ _; rw [hV]; exact hErr.below (Below.one _ _)
    clear hb2 hc hE hErr hSm HR l1 HB1
    go_upto_region 5 with fail
    rw [← hV, ← hxb]
    clear hV hxb
    go_wp2_with fail
    refine Calls.mono (HO.out HL.out V) ?_
    rintro v w3 ⟨c2, sv2, code, place, rfl, hb3, hc2, hcode, hplace, B2, hE2⟩
    obtain ⟨vb, vd, rfl, -⟩ := id hE2.ents
    have hsame : readR lookL (bl s) = readR lookF (bl s) := read_same good_lookL good_lookF _
    rw [← hsame] at hc2 hcode hplace
    obtain rfl : c2 = c := hc2.trans HC.out.symm
    obtain ⟨U, hU⟩ : ∃ U, U = (w3.alloc (.cells #[.int .i64 c2.closed, .int .i64 c2.opn, .int .i64 c2.cycle, .int .i64 c2.delay, .slice vb c2.ents.length vd] 24)).alloc (.cells #[.int .i64 code, .int .i64 place] 28) := ⟨_, rfl⟩
    obtain ⟨yb, hyb⟩ : ∃ b, b = w3.heap.size := ⟨_, rfl⟩
    have hbU : Below V.heap.size V U := by rw [hU]; exact (hb3.alloc hb3.size _).alloc (by simp; have := hb3.size; omega) _
    have HBU : Hid (Below w.heap.size w U) := HB2.out.trans (hbU.mono HB2.out.size)
    have hx := row_below hbU HX.out
    have hy : U.heap[yb]? = some (.cells #[.int .i64 c2.closed, .int .i64 c2.opn, .int .i64 c2.cycle, .int .i64 c2.delay, .slice vb c2.ents.length vd] 24 (0, 0)) := by rw [hU, hyb]; exact row_below (Below.one _ _) (heap_alloc_new w3 _)
    have hf : U.heap[yb + 1]? = some (.cells #[.int .i64 code, .int .i64 place] 28 (0, 0)) := by
      have := heap_alloc_new (w3.alloc (.cells #[.int .i64 c2.closed, .int .i64 c2.opn, .int .i64 c2.cycle, .int .i64 c2.delay, .slice vb c2.ents.length vd] 24)) (.cells #[.int .i64 code, .int .i64 place] 28)
      rw [hU, hyb]
      simpa using this
    have HRows : Hid (∀ Z, Below U.heap.size U Z → Z.heap[xb]? = some (.cells #[.int .i64 c2.closed, .int .i64 c2.opn, .int .i64 c2.cycle, .int .i64 c2.delay, .slice va c2.ents.length vc] 24 (0, 0)) ∧ Z.heap[yb]? = some (.cells #[.int .i64 c2.closed, .int .i64 c2.opn, .int .i64 c2.cycle, .int .i64 c2.delay, .slice vb c2.ents.length vd] 24 (0, 0))) := fun Z hZ => ⟨row_below hZ hx, row_below hZ hy⟩
    have HEs : Hid (∀ Z, Below U.heap.size U Z → EntsAt Z (.slice va c2.ents.length vc) c2.ents ∧ EntsAt Z (.slice vb c2.ents.length vd) c2.ents) := fun Z hZ => ⟨(HE.out.1.ents.below (hbU.trans (hZ.mono hbU.size))), by
      have hb : Below w3.heap.size w3 U := by rw [hU]; exact (Below.one _ _).alloc (by simp) _
      exact hE2.ents.below (hb.trans (hZ.mono hb.size))⟩
    have f0 : U.cell? ⟨yb + 1, 0, none⟩ = some (.int .i64 code) := by simp [World.cell?, hf]
    have f1 : U.cell? ⟨yb + 1, 1, none⟩ = some (.int .i64 place) := by simp [World.cell?, hf]
    have HFc : Hid (Calls Tryz.prog 10 #[ev, .agg #[.int .i64 code, .int .i64 place]] U fun v w' => v = .returned (.bool true) ∧ Below U.heap.size U w') := HFa.out ev (readR lookL (bl s)).1 code place U HBU.out hcode hplace (HErr.out.below hbU)
    have HSm : Hid (SmallC c2) := HE.out.2
    clear hb3 hc2 hcode hplace hE2 hsame hbU hx hy hf HFa HErr HE HX HB2 HO
    go_upto_region 6 with fail
    rw [← hU, ← hyb]
    clear hU hyb
    go_wp2_with fail
    refine Calls.mono HFc.out ?_
    rintro v w4 ⟨rfl, hb4⟩
    have HB4 : Hid (Below U.heap.size U w4) := hb4
    clear hb4 HFc f0 f1
    obtain ⟨hx, hy⟩ := HRows.out w4 HB4.out
    have x0 : w4.cell? ⟨xb, 0, none⟩ = some (.int .i64 c2.closed) := by simp [World.cell?, hx]
    have x1 : w4.cell? ⟨xb, 1, none⟩ = some (.int .i64 c2.opn) := by simp [World.cell?, hx]
    have x2 : w4.cell? ⟨xb, 2, none⟩ = some (.int .i64 c2.cycle) := by simp [World.cell?, hx]
    have x3 : w4.cell? ⟨xb, 3, none⟩ = some (.int .i64 c2.delay) := by simp [World.cell?, hx]
    have x4 : w4.cell? ⟨xb, 4, none⟩ = some (.slice va c2.ents.length vc) := by simp [World.cell?, hx]
    have y0 : w4.cell? ⟨yb, 0, none⟩ = some (.int .i64 c2.closed) := by simp [World.cell?, hy]
    have y1 : w4.cell? ⟨yb, 1, none⟩ = some (.int .i64 c2.opn) := by simp [World.cell?, hy]
    have y2 : w4.cell? ⟨yb, 2, none⟩ = some (.int .i64 c2.cycle) := by simp [World.cell?, hy]
    have y3 : w4.cell? ⟨yb, 3, none⟩ = some (.int .i64 c2.delay) := by simp [World.cell?, hy]
    have y4 : w4.cell? ⟨yb, 4, none⟩ = some (.slice vb c2.ents.length vd) := by simp [World.cell?, hy]
    clear hx hy
    go_wp2_with fail
    refine Calls.mono (sameCfg_at c2 va vb vc vd w4 (HEs.out w4 HB4.out).1 (HEs.out w4 HB4.out).2 HSm.out) ?_
    rintro v w5 ⟨rfl, hb5⟩
    have HB5 : Hid (Below w.heap.size w w5) := HBU.out.trans ((HB4.out.trans (hb5.mono HB4.out.size)).mono HBU.out.size)
    clear hb5 x0 x1 x2 x3 x4 y0 y1 y2 y3 y4
    go_wp2
    go_ret
    exact ⟨rfl, HB5.out⟩
  · have l1 : (2000 : Int) < (s.size : Int) := by omega
    clear hl
    go_wp2
    go_ret
    exact ⟨rfl, HB1.out⟩
end Go.Proofs.YtbholbenjalliaaGreatDoor
