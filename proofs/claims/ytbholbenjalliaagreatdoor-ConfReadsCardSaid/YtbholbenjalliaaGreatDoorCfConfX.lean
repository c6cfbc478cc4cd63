/-
  (*conf.page).config by a contract: the first three lines, and those of each entity as (*conf.page).entity writes them. Conditions: the page and the config lie in memory, with numbers from 0 to 2^40; the keywords and the table of powers of ten lie in memory; what entity writes.
-/
import Derived.Test.YtbholbenjalliaaGreatDoorCfLineX
import Derived.Test.YtbholbenjalliaaGreatDoorPureX
namespace Go.Proofs.YtbholbenjalliaaGreatDoor
open Go.RowKit Go.Extern.Stop Go.Stop Go.Extern

theorem wordOk_kind {B pb : Nat} {pv : Value} {w : World} (k : Nat) (hk : k < 10) (hK : KwAt w) (hG : (max 12 16 + 1) ≤ B) : WordOk B pb pv w (.iface 94 (.int .i64 (k : Int)), kw k) :=
  fun W l hfr hp hle => word_kind B pb pv l k W hp (by omega) hk (hK.below hfr.bel (Nat.lt_of_lt_of_le (show 12 < (max 12 16 + 1) by decide) hG)) hG
theorem wordOk_int {B pb : Nat} {pv : Value} {w : World} (n : Int) (h0 : 0 ≤ n) (h1 : n ≤ 1099511627776) (hT : TabAt w) (hG : (max 12 16 + 1) ≤ B) : WordOk B pb pv w (.iface 3 (.int .i64 n), num n) :=
  fun W l hfr hp hle => word_int B pb pv l n W hp (by omega) h0 h1 (hT.below hfr.bel hG) hG
theorem wordOk_str {B pb : Nat} {pv : Value} {w : World} (s : ByteArray) (hs : s.size ≤ 1000000) : WordOk B pb pv w (.iface 9 (.string s), bl s) :=
  fun W l _ hp hle => word_str B pb pv l s W hp (by omega)
theorem wordOk_place {B pb : Nat} {pa : Option Addr} {pc : Nat} {pts : List ByteArray} {w : World} (x : Int) (hB : ∀ W, Below B w W → SlAt encS 1 W (.slice pa pts.length pc) pts) (h0 : 0 ≤ x) (h1 : x < (pts.length : Int)) (hs : ∀ p ∈ pts, p.size ≤ 1000000) : WordOk B pb (.slice pa pts.length pc) w (.iface 125 (.int .i64 x), pt pts x) :=
  fun W l hfr hp hle => word_place B pb pa pc pts l x W hp (by omega) (fun V hV => hB V (hfr.bel.trans hV)) h0 h1 hs
theorem line_kw (B pb : Nat) (pv : Value) (l : List UInt8) (vb k : Nat) (ws : List (Value × Bs)) (w : World) (h : PageAt B pb pv l w) (hv : w.heap[vb]? = some (.cells (.iface 94 (.int .i64 (k : Int)) :: ws.map (·.1)).toArray 20 (0, 0))) (hne : vb ≠ pb) (hk : k < 10) (hK : KwAt w) (hG : (max 12 16 + 1) ≤ B) (hw : ∀ x ∈ ws, WordOk B pb pv w x) (hn : ws.length ≤ 20) (hl : l.length + (kwLine k (ws.map (·.2))).length ≤ 700000000) :
    Calls Tryz.prog 40 #[.pointer (some ⟨pb, 0, none⟩), .slice (some ⟨vb, 0, none⟩) (ws.length + 1) (ws.length + 1)] w fun e w' => e = .returned (.tuple #[]) ∧ PageAt B pb pv (l ++ (kwLine k (ws.map (·.2)) ++ [10])) w' ∧ PFr B pb w w' := by
  have e : preW (((.iface 94 (.int .i64 (k : Int)), kw k) :: ws).map (·.2)) ((.iface 94 (.int .i64 (k : Int)), kw k) :: ws).length = kwLine k (ws.map (·.2)) := by
    have := preW_all (kw k) (ws.map (·.2))
    rw [kwLine_join, ← this]
    simp
  have := line_at B pb pv l vb ((.iface 94 (.int .i64 (k : Int)), kw k) :: ws) w h hv hne (fun x hx => by
    rcases List.mem_cons.1 hx with rfl | hx
    · exact wordOk_kind k hk hK hG
    · exact hw x hx) (by simp; omega) (by rw [e]; exact hl)
  rw [e] at this
  exact this
theorem num_le (n : Int) (h1 : n ≤ 1099511627776) : (num n).length ≤ 13 := by
  obtain ⟨-, -, -, -, hh⟩ := decN_all n.toNat
  exact hh 12 (by omega)
theorem heap_newC (V : World) (c : Array Value) (t : TypeId) : (V.alloc (.cells c t)).heap[V.heap.size]? = some (.cells c t (0, 0)) := by
  show (V.heap.push _)[V.heap.size]? = _
  simp
theorem Below.oneC (w : World) (o : Obj) : Below w.heap.size w (w.alloc o) := (Below.refl _ _).alloc (Nat.le_refl _) _
/-- What entity writes of each. -/
def EntOk (B : Nat) (pb : Nat) (w0 w : World) (e : EntD) : Prop := ∀ (W : World) (l : List UInt8) (pv : Value) (pa ga ea fa la : Option Addr) (pc gc ec fc lc : Nat), PFr B pb w W → PageAt B pb pv l W → l.length ≤ 500000000 →
  EntParts w0 e (.slice pa e.pts.length pc) (.slice ga e.gaps.length gc) (.slice ea e.edges.length ec) (.slice fa e.first.length fc) (.slice la e.last.length lc) →
  Calls Tryz.prog 41 #[.pointer (some ⟨pb, 0, none⟩), .agg (entRow e (.slice pa e.pts.length pc) (.slice ga e.gaps.length gc) (.slice ea e.edges.length ec) (.slice fa e.first.length fc) (.slice la e.last.length lc))] W fun v W' => v = .returned (.tuple #[]) ∧ (∃ pv', PageAt B pb pv' (l ++ (entLines e).flatMap (fun x => x ++ [10])) W') ∧ PFr B pb W W'
set_option maxHeartbeats 4000000 in
set_option maxRecDepth 100000 in
theorem config_at (B pb : Nat) (pv : Value) (c : CfgD) (sa : Option Addr) (sc : Nat) (w0 w : World) (hb0 : Below w0.heap.size w0 w) (hw0 : w0.heap.size ≤ B) (h : PageAt B pb pv [] w) (hK : KwAt w) (hT : TabAt w) (hG : (max 12 16 + 1) ≤ B) (h1 : 0 ≤ c.closed ∧ c.closed ≤ 1099511627776) (h2 : 0 ≤ c.opn ∧ c.opn ≤ 1099511627776) (h3 : 0 ≤ c.cycle ∧ c.cycle ≤ 1099511627776) (h4 : 0 ≤ c.delay ∧ c.delay ≤ 1099511627776)
    (hE : EntsAt w0 (.slice sa c.ents.length sc) c.ents) (hO : ∀ e ∈ c.ents, EntOk B pb w0 w e) (hn : c.ents.length ≤ 1000000) (hl : ((c.ents.flatMap entLines).flatMap (fun x => x ++ [10])).length ≤ 400000000) :
    Calls Tryz.prog 21 #[.pointer (some ⟨pb, 0, none⟩), .agg #[.int .i64 c.closed, .int .i64 c.opn, .int .i64 c.cycle, .int .i64 c.delay, .slice sa c.ents.length sc]] w fun e w' => e = .returned (.tuple #[]) ∧ (∃ pv', PageAt B pb pv' (confText c) w') ∧ PFr B pb w w' := by
  have hpb := h.lt
  have HK : Hid (KwAt w) := hK
  have HT : Hid (TabAt w) := hT
  have HG : Hid ((max 12 16 + 1) ≤ B) := hG
  have HBw : Hid (B ≤ w.heap.size) := h.2.1
  have Hpb : Hid (pb < w.heap.size) := hpb
  have HN : Hid ((0 ≤ c.closed ∧ c.closed ≤ 1099511627776) ∧ (0 ≤ c.opn ∧ c.opn ≤ 1099511627776) ∧ (0 ≤ c.cycle ∧ c.cycle ≤ 1099511627776) ∧ (0 ≤ c.delay ∧ c.delay ≤ 1099511627776)) := ⟨h1, h2, h3, h4⟩
  have HE : Hid (EntsAt w0 (.slice sa c.ents.length sc) c.ents) := hE
  have HO : Hid (∀ e ∈ c.ents, EntOk B pb w0 w e) := hO
  have HB0 : Hid (∀ W, PFr B pb w W → Below w0.heap.size w0 W) := fun W hW => hb0.trans (hW.bel.mono hw0)
  have HM : Hid (c.ents.length ≤ 1000000) := hn
  have HL : Hid (((c.ents.flatMap entLines).flatMap (fun x => x ++ [10])).length ≤ 400000000) := hl
  have H0 : Hid (PageAt B pb pv [] (w.alloc (.cells #[.int .i64 c.closed, .int .i64 c.opn, .int .i64 c.cycle, .int .i64 c.delay, .slice sa c.ents.length sc] 24))) := h.below (Below.oneC _ _)
  have HF0 : Hid (PFr B pb w (w.alloc (.cells #[.int .i64 c.closed, .int .i64 c.opn, .int .i64 c.cycle, .int .i64 c.delay, .slice sa c.ents.length sc] 24))) := (PFr.refl B pb w).alloc h.2.1 _
  have HX0 : Hid (∀ W, PFr B pb (w.alloc (.cells #[.int .i64 c.closed, .int .i64 c.opn, .int .i64 c.cycle, .int .i64 c.delay, .slice sa c.ents.length sc] 24)) W → ∀ j v, (#[.int .i64 c.closed, .int .i64 c.opn, .int .i64 c.cycle, .int .i64 c.delay, .slice sa c.ents.length sc] : Array Value)[j]? = some v → W.cell? ⟨w.heap.size, j, none⟩ = some v) := fun W hW j v e => by
    have hb := hW.box (heap_newC w _ _) (by omega) (by decide)
    simp [World.cell?, hb, e]
  clear h hpb hK hT hG h1 h2 h3 h4 hE hO hn hl hb0 hw0
  go_enter Tryz.func21, Tryz.ntmps21
  go_upto_region 1 with fail
  obtain ⟨W0, hW0⟩ : ∃ W0, W0 = w.alloc (.cells #[.int .i64 c.closed, .int .i64 c.opn, .int .i64 c.cycle, .int .i64 c.delay, .slice sa c.ents.length sc] 24) := ⟨_, rfl⟩
  rw [← hW0] at H0 HF0 HX0 ⊢
  clear hW0
  have HP0 : Hid (PageAt B pb pv [] W0) := H0.out
  have HG0 : Hid (PFr B pb W0 W0) := PFr.refl _ _ _
  have p0 : W0.cell? ⟨w.heap.size, 0, none⟩ = some (.int .i64 c.closed) := HX0.out W0 HG0.out 0 _ rfl
  have p1 : W0.cell? ⟨w.heap.size, 1, none⟩ = some (.int .i64 c.opn) := HX0.out W0 HG0.out 1 _ rfl
  have HC0 : Hid (Calls Tryz.prog 40 #[.pointer (some ⟨pb, 0, none⟩), .slice (some ⟨W0.heap.size, 0, none⟩) 3 3] (W0.alloc (.cells #[.iface 94 (.int .i64 0), .iface 3 (.int .i64 c.closed), .iface 3 (.int .i64 c.opn)] 20)) fun e w' => e = .returned (.tuple #[]) ∧ PageAt B pb pv ([] ++ (kwLine 0 [num c.closed, num c.opn] ++ [10])) w' ∧ PFr B pb (W0.alloc (.cells #[.iface 94 (.int .i64 0), .iface 3 (.int .i64 c.closed), .iface 3 (.int .i64 c.opn)] 20)) w') :=
    line_kw B pb pv ([]) W0.heap.size 0 [(.iface 3 (.int .i64 c.closed), num c.closed), (.iface 3 (.int .i64 c.opn), num c.opn)] _ (HP0.out.below (Below.oneC _ _)) (heap_newC _ _ _) (by have := HF0.out.bel.size; have := Hpb.out; omega) (by decide) (HK.out.below (HF0.out.bel.alloc (Nat.le_trans HBw.out HF0.out.bel.size) _) (Nat.lt_of_lt_of_le (show 12 < (max 12 16 + 1) by decide) HG.out)) HG.out
    (fun x hx => by
    simp only [List.mem_cons, List.not_mem_nil, or_false] at hx
    rcases hx with rfl | rfl
    · exact wordOk_int _ (HN.out.1).1 (HN.out.1).2 (HT.out.below (HF0.out.bel.alloc (Nat.le_trans HBw.out HF0.out.bel.size) _) HG.out) HG.out
    · exact wordOk_int _ (HN.out.2.1).1 (HN.out.2.1).2 (HT.out.below (HF0.out.bel.alloc (Nat.le_trans HBw.out HF0.out.bel.size) _) HG.out) HG.out) (by simp) (by simp [kwLine, kw]; have := num_le _ HN.out.1.2; have := num_le _ HN.out.2.1.2; have := num_le _ HN.out.2.2.1.2; have := num_le _ HN.out.2.2.2.2; omega)
  go_wp2_with fail
  refine Calls.mono HC0.out ?_
  rintro e W1 ⟨rfl, hp, hf⟩
  have HP1 : Hid (PageAt B pb pv ([] ++ (kwLine 0 [num c.closed, num c.opn] ++ [10])) W1) := hp
  have HF1 : Hid (PFr B pb w W1) := (HF0.out.alloc (Nat.le_trans HBw.out HF0.out.bel.size) _).trans hf
  have HG1 : Hid (PFr B pb W0 W1) := (HG0.out.alloc (Nat.le_trans HBw.out HF0.out.bel.size) _).trans hf
  clear hp hf HC0
  clear p0 p1
  have p2 : W1.cell? ⟨w.heap.size, 2, none⟩ = some (.int .i64 c.cycle) := HX0.out W1 HG1.out 2 _ rfl
  have HC1 : Hid (Calls Tryz.prog 40 #[.pointer (some ⟨pb, 0, none⟩), .slice (some ⟨W1.heap.size, 0, none⟩) 2 2] (W1.alloc (.cells #[.iface 94 (.int .i64 1), .iface 3 (.int .i64 c.cycle)] 20)) fun e w' => e = .returned (.tuple #[]) ∧ PageAt B pb pv ([] ++ (kwLine 0 [num c.closed, num c.opn] ++ [10]) ++ (kwLine 1 [num c.cycle] ++ [10])) w' ∧ PFr B pb (W1.alloc (.cells #[.iface 94 (.int .i64 1), .iface 3 (.int .i64 c.cycle)] 20)) w') :=
    line_kw B pb pv ([] ++ (kwLine 0 [num c.closed, num c.opn] ++ [10])) W1.heap.size 1 [(.iface 3 (.int .i64 c.cycle), num c.cycle)] _ (HP1.out.below (Below.oneC _ _)) (heap_newC _ _ _) (by have := HF1.out.bel.size; have := Hpb.out; omega) (by decide) (HK.out.below (HF1.out.bel.alloc (Nat.le_trans HBw.out HF1.out.bel.size) _) (Nat.lt_of_lt_of_le (show 12 < (max 12 16 + 1) by decide) HG.out)) HG.out
    (fun x hx => by
    simp only [List.mem_singleton] at hx
    subst hx
    exact wordOk_int _ (HN.out.2.2.1).1 (HN.out.2.2.1).2 (HT.out.below (HF1.out.bel.alloc (Nat.le_trans HBw.out HF1.out.bel.size) _) HG.out) HG.out) (by simp) (by simp [kwLine, kw]; have := num_le _ HN.out.1.2; have := num_le _ HN.out.2.1.2; have := num_le _ HN.out.2.2.1.2; have := num_le _ HN.out.2.2.2.2; omega)
  go_wp2_with fail
  refine Calls.mono HC1.out ?_
  rintro e W2 ⟨rfl, hp, hf⟩
  have HP2 : Hid (PageAt B pb pv ([] ++ (kwLine 0 [num c.closed, num c.opn] ++ [10]) ++ (kwLine 1 [num c.cycle] ++ [10])) W2) := hp
  have HF2 : Hid (PFr B pb w W2) := (HF1.out.alloc (Nat.le_trans HBw.out HF1.out.bel.size) _).trans hf
  have HG2 : Hid (PFr B pb W0 W2) := (HG1.out.alloc (Nat.le_trans HBw.out HF1.out.bel.size) _).trans hf
  clear hp hf HC1
  clear p2
  have p3 : W2.cell? ⟨w.heap.size, 3, none⟩ = some (.int .i64 c.delay) := HX0.out W2 HG2.out 3 _ rfl
  have HC2 : Hid (Calls Tryz.prog 40 #[.pointer (some ⟨pb, 0, none⟩), .slice (some ⟨W2.heap.size, 0, none⟩) 2 2] (W2.alloc (.cells #[.iface 94 (.int .i64 2), .iface 3 (.int .i64 c.delay)] 20)) fun e w' => e = .returned (.tuple #[]) ∧ PageAt B pb pv ([] ++ (kwLine 0 [num c.closed, num c.opn] ++ [10]) ++ (kwLine 1 [num c.cycle] ++ [10]) ++ (kwLine 2 [num c.delay] ++ [10])) w' ∧ PFr B pb (W2.alloc (.cells #[.iface 94 (.int .i64 2), .iface 3 (.int .i64 c.delay)] 20)) w') :=
    line_kw B pb pv ([] ++ (kwLine 0 [num c.closed, num c.opn] ++ [10]) ++ (kwLine 1 [num c.cycle] ++ [10])) W2.heap.size 2 [(.iface 3 (.int .i64 c.delay), num c.delay)] _ (HP2.out.below (Below.oneC _ _)) (heap_newC _ _ _) (by have := HF2.out.bel.size; have := Hpb.out; omega) (by decide) (HK.out.below (HF2.out.bel.alloc (Nat.le_trans HBw.out HF2.out.bel.size) _) (Nat.lt_of_lt_of_le (show 12 < (max 12 16 + 1) by decide) HG.out)) HG.out
    (fun x hx => by
    simp only [List.mem_singleton] at hx
    subst hx
    exact wordOk_int _ (HN.out.2.2.2).1 (HN.out.2.2.2).2 (HT.out.below (HF2.out.bel.alloc (Nat.le_trans HBw.out HF2.out.bel.size) _) HG.out) HG.out) (by simp) (by simp [kwLine, kw]; have := num_le _ HN.out.1.2; have := num_le _ HN.out.2.1.2; have := num_le _ HN.out.2.2.1.2; have := num_le _ HN.out.2.2.2.2; omega)
  go_wp2_with fail
  refine Calls.mono HC2.out ?_
  rintro e W3 ⟨rfl, hp, hf⟩
  have HP3 : Hid (PageAt B pb pv ([] ++ (kwLine 0 [num c.closed, num c.opn] ++ [10]) ++ (kwLine 1 [num c.cycle] ++ [10]) ++ (kwLine 2 [num c.delay] ++ [10])) W3) := hp
  have HF3 : Hid (PFr B pb w W3) := (HF2.out.alloc (Nat.le_trans HBw.out HF2.out.bel.size) _).trans hf
  have HG3 : Hid (PFr B pb W0 W3) := (HG2.out.alloc (Nat.le_trans HBw.out HF2.out.bel.size) _).trans hf
  clear hp hf HC2
  clear p3
  have p4 : W3.cell? ⟨w.heap.size, 4, none⟩ = some (.slice sa c.ents.length sc) := HX0.out W3 HG3.out 4 _ rfl
  go_wp2_with fail
  clear p4
  have HT3 : Hid ([] ++ (kwLine 0 [num c.closed, num c.opn] ++ [10]) ++ (kwLine 1 [num c.cycle] ++ [10]) ++ (kwLine 2 [num c.delay] ++ [10]) = (kwLine 0 [num c.closed, num c.opn] :: kwLine 1 [num c.cycle] :: kwLine 2 [num c.delay] :: (c.ents.take 0).flatMap entLines).flatMap (fun x => x ++ [10])) := by show _ = _; simp
  have HH : Hid ((kwLine 0 [num c.closed, num c.opn]).length ≤ 100 ∧ (kwLine 1 [num c.cycle]).length ≤ 100 ∧ (kwLine 2 [num c.delay]).length ≤ 100) := by
    have a1 := num_le _ HN.out.1.2; have a2 := num_le _ HN.out.2.1.2; have a3 := num_le _ HN.out.2.2.1.2; have a4 := num_le _ HN.out.2.2.2.2
    refine ⟨?_, ?_, ?_⟩ <;> (simp [kwLine, kw]; omega)
  go_loopw [5, 33] (fun _ i wr => ∃ k : Nat, k ≤ c.ents.length ∧ i = .int .i64 k ∧ (∃ pv', PageAt B pb pv' ((kwLine 0 [num c.closed, num c.opn] :: kwLine 1 [num c.cycle] :: kwLine 2 [num c.delay] :: (c.ents.take k).flatMap entLines).flatMap (fun x => x ++ [10])) wr) ∧ PFr B pb w wr ∧ PFr B pb W0 wr) (fun _ i _ => c.ents.length - (intOf i).toNat)
  case atStart => exact ⟨0, Nat.zero_le _, rfl, ⟨pv, by rw [← HT3.out]; exact HP3.out⟩, HF3.out, HG3.out⟩
  case round =>
    clear HP0 HP1 HP2 HP3 HF0 HF1 HF2 HF3 HG0 HG1 HG2 HG3 HT3 H0
    obtain ⟨k, hk, rfl, ⟨pv', hpg⟩, hfr, hg0⟩ := hrel
    by_cases hlt : k < c.ents.length
    · obtain ⟨e, hq⟩ : ∃ e, c.ents[k]? = some e := ⟨_, List.getElem?_eq_getElem hlt⟩
      obtain ⟨sa', cap', hsl, hcc⟩ := HE.out
      cases hsl
      obtain ⟨b, o, rfl, hc0⟩ := hcc (fun h => by rw [h] at hq; simp at hq)
      obtain ⟨pv1, gv, ev, fv, lv, hparts, hcell⟩ := hc0 k e hq
      obtain ⟨pa, pc, rfl, -, -⟩ := id hparts.hp
      obtain ⟨ga, gc, rfl, -, -⟩ := id hparts.hg
      obtain ⟨ea, ec, rfl, -, -⟩ := id hparts.he
      obtain ⟨fa, fc, rfl, -, -⟩ := id hparts.hf
      obtain ⟨la, lc, rfl, -, -⟩ := id hparts.hl
      have c0 : wr.cell? ⟨b, o + k * 10, none⟩ = some (.string e.name) := cell_below (HB0.out wr hfr) (hcell 0 _ rfl)
      have c1 : wr.cell? ⟨b, o + k * 10 + 1, none⟩ = some (.int .i64 e.tol) := cell_below (HB0.out wr hfr) (hcell 1 _ rfl)
      have c2 : wr.cell? ⟨b, o + k * 10 + 2, none⟩ = some (.slice pa e.pts.length pc) := cell_below (HB0.out wr hfr) (hcell 2 _ rfl)
      have c3 : wr.cell? ⟨b, o + k * 10 + 3, none⟩ = some (.int .i64 e.cnt) := cell_below (HB0.out wr hfr) (hcell 3 _ rfl)
      have c4 : wr.cell? ⟨b, o + k * 10 + 4, none⟩ = some (.int .i64 e.mn) := cell_below (HB0.out wr hfr) (hcell 4 _ rfl)
      have c5 : wr.cell? ⟨b, o + k * 10 + 5, none⟩ = some (.int .i64 e.mx) := cell_below (HB0.out wr hfr) (hcell 5 _ rfl)
      have c6 : wr.cell? ⟨b, o + k * 10 + 6, none⟩ = some (.slice ga e.gaps.length gc) := cell_below (HB0.out wr hfr) (hcell 6 _ rfl)
      have c7 : wr.cell? ⟨b, o + k * 10 + 7, none⟩ = some (.slice ea e.edges.length ec) := cell_below (HB0.out wr hfr) (hcell 7 _ rfl)
      have c8 : wr.cell? ⟨b, o + k * 10 + 8, none⟩ = some (.slice fa e.first.length fc) := cell_below (HB0.out wr hfr) (hcell 8 _ rfl)
      have c9 : wr.cell? ⟨b, o + k * 10 + 9, none⟩ = some (.slice la e.last.length lc) := cell_below (HB0.out wr hfr) (hcell 9 _ rfl)
      have HQ : Hid (c.ents[k]? = some e) := hq
      have HPG : Hid (PageAt B pb pv' ((kwLine 0 [num c.closed, num c.opn] :: kwLine 1 [num c.cycle] :: kwLine 2 [num c.delay] :: (c.ents.take k).flatMap entLines).flatMap (fun x => x ++ [10])) wr) := hpg
      have HFR : Hid (PFr B pb w wr) := hfr
      have HG0 : Hid (PFr B pb W0 wr) := hg0
      have HLE : Hid (((kwLine 0 [num c.closed, num c.opn] :: kwLine 1 [num c.cycle] :: kwLine 2 [num c.delay] :: (c.ents.take k).flatMap entLines).flatMap (fun x => x ++ [10])).length ≤ 500000000) := by
        show _ ≤ _
        have hl := HL.out
        have e1 : c.ents.flatMap entLines = (c.ents.take k).flatMap entLines ++ (c.ents.drop k).flatMap entLines := by rw [← List.flatMap_append, List.take_append_drop]
        rw [e1, List.flatMap_append, List.length_append] at hl
        have := HH.out
        simp only [List.flatMap_cons, List.length_append, List.length_cons, List.length_nil]
        omega
      have HP2 : Hid (EntParts w0 e (.slice pa e.pts.length pc) (.slice ga e.gaps.length gc) (.slice ea e.edges.length ec) (.slice fa e.first.length fc) (.slice la e.last.length lc)) := hparts
      have k1 : (k : Int) < (c.ents.length : Int) := by omega
      have k0 : k < 1000000 := by have := HM.out; omega
      have HCE : Hid (∀ W, PFr B pb wr W → PageAt B pb pv' ((kwLine 0 [num c.closed, num c.opn] :: kwLine 1 [num c.cycle] :: kwLine 2 [num c.delay] :: (c.ents.take k).flatMap entLines).flatMap (fun x => x ++ [10])) W → _) := fun W hW hPW => HO.out e (List.mem_of_getElem? hq) W _ pv' pa ga ea fa la pc gc ec fc lc (HFR.out.trans hW) hPW HLE.out HP2.out
      unfold entRow at HCE
      clear hq hcell hparts hcc hc0 hpg hfr hg0
      go_wp2_with fail
      refine Calls.mono (HCE.out _ ((PFr.refl B pb wr).alloc HPG.out.2.1 _) (HPG.out.below (Below.oneC _ _))) ?_
      rintro v W' ⟨rfl, hp', hf'⟩
      have HR : Hid ((∃ pv', PageAt B pb pv' ((kwLine 0 [num c.closed, num c.opn] :: kwLine 1 [num c.cycle] :: kwLine 2 [num c.delay] :: (c.ents.take (k + 1)).flatMap entLines).flatMap (fun x => x ++ [10])) W') ∧ PFr B pb w W' ∧ PFr B pb W0 W') := by
        have hf2 := ((PFr.refl B pb wr).alloc HPG.out.2.1 _).trans hf'
        refine ⟨?_, HFR.out.trans hf2, HG0.out.trans hf2⟩
        obtain ⟨pv2, hp2⟩ := hp'
        refine ⟨pv2, ?_⟩
        have e1 : (c.ents.take (k + 1)).flatMap entLines = (c.ents.take k).flatMap entLines ++ entLines e := by rw [List.take_add_one, HQ.out, List.flatMap_append]; simp
        rw [e1]
        simpa [List.flatMap_append] using hp2
      clear hp' hf' HCE
      go_wp2
      go_roundw
      case rel => exact ⟨k + 1, by omega, by go_num, HR.out.1, HR.out.2.1, HR.out.2.2⟩
      case measure => simp [intOf]; omega
    · have k1 : ¬ (k : Int) < (c.ents.length : Int) := by omega
      obtain rfl : k = c.ents.length := by omega
      have HR : Hid ((∃ pv', PageAt B pb pv' (confText c) wr) ∧ PFr B pb w wr) := ⟨⟨pv', by unfold confText confLines; rw [List.take_length] at hpg; exact hpg⟩, hfr⟩
      clear hpg hfr hg0
      go_wp2
      go_end0
      exact ⟨rfl, HR.out.1, HR.out.2⟩
end Go.Proofs.YtbholbenjalliaaGreatDoor
