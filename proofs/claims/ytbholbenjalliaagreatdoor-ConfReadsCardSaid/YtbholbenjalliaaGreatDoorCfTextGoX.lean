/-
  conf.Text by contracts, and the law's told. Conditions: the config lies in memory; the sentinels, the keywords and the table of powers of ten lie in memory; what (*conf.page).entity writes.
-/
import Derived.Test.YtbholbenjalliaaGreatDoorCfConfX
import Derived.Test.YtbholbenjalliaaGreatDoorCfCheckX
import Derived.Test.YtbholbenjalliaaGreatDoorPureX
namespace Go.Proofs.YtbholbenjalliaaGreatDoor
open Go.RowKit Go.Extern.Stop Go.Stop Go.Extern

theorem ErrAt.nil {A : Nat → Addr} {w : World} {r : Value} {f : Nat × Int} (h : ErrAt A w r f) (h0 : f.1 = 0) : r = .nilIface := by
  obtain ⟨-, h1 | ⟨h1, -⟩⟩ := h
  · rw [h1.2, h0]; rfl
  · omega
theorem ErrAt.some {A : Nat → Addr} {w : World} {r : Value} {f : Nat × Int} (h : ErrAt A w r f) (h0 : f.1 ≠ 0) : ∃ t x, r = .iface t x := by
  obtain ⟨-, h1 | ⟨-, b, h1, -⟩⟩ := h
  · rw [h1.2, errV_pos h0]; exact ⟨_, _, rfl⟩
  · exact ⟨_, _, h1⟩
theorem confText_ne (c : CfgD) : confText c ≠ [] := by unfold confText confLines; simp [kwLine, kw]
set_option maxHeartbeats 2000000 in
set_option maxRecDepth 100000 in
theorem text_ok (A : Nat → Addr) (c : CfgD) (sa : Option Addr) (sc : Nat) (w : World) (hs : Sen6 A w) (hK : KwAt w) (hT : TabAt w) (hG : (max 12 16 + 1) ≤ w.heap.size) (hE : EntsAt w (.slice sa c.ents.length sc) c.ents) (hS : SmallC c) (h0 : (cfgErr c).1 = 0)
    (hO : ∀ (B pb : Nat) (w' : World), Below w.heap.size w w' → w.heap.size ≤ B → ∀ e ∈ c.ents, EntOk B pb w w' e) (hl : ((c.ents.flatMap entLines).flatMap (fun x => x ++ [10])).length ≤ 400000000) :
    Calls Tryz.prog 8 #[.agg #[.int .i64 c.closed, .int .i64 c.opn, .int .i64 c.cycle, .int .i64 c.delay, .slice sa c.ents.length sc]] w fun e w' => e = .returned (.tuple #[.string ⟨(confText c).toArray⟩, .nilIface]) ∧ Below w.heap.size w w' := by
  have hok := okC_of h0
  have HC : Hid _ := check_at A c sa sc _ (hs.alloc (.cells #[.int .i64 c.closed, .int .i64 c.opn, .int .i64 c.cycle, .int .i64 c.delay, .slice sa c.ents.length sc] 24)) (hE.below (Below.one _ _)) hS
  have H0 : Hid ((cfgErr c).1 = 0) := h0
  have HP : Hid (∀ W, Below w.heap.size w W → Calls Tryz.prog 21 #[.pointer (some ⟨W.heap.size, 0, none⟩), .agg #[.int .i64 c.closed, .int .i64 c.opn, .int .i64 c.cycle, .int .i64 c.delay, .slice sa c.ents.length sc]] (W.alloc (.cells #[.pointer none, .slice none 0 0, .slice none 0 0] 61)) fun e w' => e = .returned (.tuple #[]) ∧ (∃ pv', PageAt W.heap.size W.heap.size pv' (confText c) w') ∧ PFr W.heap.size W.heap.size (W.alloc (.cells #[.pointer none, .slice none 0 0, .slice none 0 0] 61)) w') := fun W hW => by
    have hW' : Below w.heap.size w (W.alloc (.cells #[.pointer none, .slice none 0 0, .slice none 0 0] 61)) := hW.alloc hW.size _
    exact config_at W.heap.size W.heap.size _ c sa sc w _ hW' hW.size (PageAt.new W) (hK.below hW' (Nat.lt_of_lt_of_le (show 12 < (max 12 16 + 1) by decide) hG)) (hT.below hW' hG) (Nat.le_trans hG hW.size) ⟨hok.closed.1, by have := hok.closed.2; omega⟩ ⟨by have := hok.opn.1; omega, by have := hok.opn.2; omega⟩ ⟨by have := hok.cycle.1; omega, by have := hok.cycle.2; omega⟩ ⟨hok.delay.1, by have := hok.delay.2; omega⟩ hE (hO _ _ _ hW' hW.size) hS.hn hl
  have HS : Hid (∀ W pv', PageAt W.heap.size W.heap.size pv' (confText c) W → True) := fun _ _ _ => trivial
  clear hs hK hT hG hE hS h0 hO hl hok HS
  go_enter Tryz.func8, Tryz.ntmps8
  go_wp2_with fail
  refine Calls.mono HC.out ?_
  rintro v W1 ⟨r, rfl, he, hb⟩
  obtain rfl := he.nil H0.out
  have HB1 : Hid (Below w.heap.size w W1) := (Below.one _ _).trans (hb.mono (by simp))
  have q : ∀ j v, (#[.int .i64 c.closed, .int .i64 c.opn, .int .i64 c.cycle, .int .i64 c.delay, .slice sa c.ents.length sc] : Array Value)[j]? = some v → ∀ o, (W1.alloc o).cell? ⟨w.heap.size, j, none⟩ = some v := fun j v e o => cell_below ((Below.refl _ _).alloc (Nat.le_refl _) _) (cell_below hb (by rw [World.cell?_alloc_at _ _ _ _ rfl]; exact e))
  have q0 := q 0 _ rfl
  have q1 := q 1 _ rfl
  have q2 := q 2 _ rfl
  have q3 := q 3 _ rfl
  have q4 := q 4 _ rfl
  clear q hb he HC
  go_wp2_with fail
  refine Calls.mono (HP.out W1 HB1.out) ?_
  rintro v W2 ⟨rfl, ⟨pv', hp2⟩, hf2⟩
  have HB2 : Hid (Below W1.heap.size W1 W2) := ((Below.refl _ _).alloc (Nat.le_refl _) _).trans hf2.bel
  have HSt : Hid _ := bld_string W1.heap.size W1.heap.size pv' (confText c) W2 hp2 (confText_ne c)
  clear hp2 hf2 q0 q1 q2 q3 q4 HP
  go_wp2_with fail
  refine Calls.mono HSt.out ?_
  rintro v W3 ⟨rfl, hb3⟩
  go_wp2
  go_ret2
  exact ⟨rfl, HB1.out.trans ((HB2.out.trans hb3).mono HB1.out.size)⟩
set_option maxHeartbeats 2000000 in
set_option maxRecDepth 100000 in
theorem text_bad (A : Nat → Addr) (c : CfgD) (sa : Option Addr) (sc : Nat) (w : World) (hs : Sen6 A w) (hE : EntsAt w (.slice sa c.ents.length sc) c.ents) (hS : SmallC c) (h0 : (cfgErr c).1 ≠ 0) :
    Calls Tryz.prog 8 #[.agg #[.int .i64 c.closed, .int .i64 c.opn, .int .i64 c.cycle, .int .i64 c.delay, .slice sa c.ents.length sc]] w fun e w' => ∃ r, e = .returned (.tuple #[.string ⟨#[]⟩, r]) ∧ ErrAt A w' r (cfgErr c) ∧ Below w.heap.size w w' := by
  have HC : Hid _ := check_at A c sa sc _ (hs.alloc (.cells #[.int .i64 c.closed, .int .i64 c.opn, .int .i64 c.cycle, .int .i64 c.delay, .slice sa c.ents.length sc] 24)) (hE.below (Below.one _ _)) hS
  have H0 : Hid ((cfgErr c).1 ≠ 0) := h0
  clear hs hE hS h0
  go_enter Tryz.func8, Tryz.ntmps8
  go_wp2_with fail
  refine Calls.mono HC.out ?_
  rintro v W1 ⟨r, rfl, he, hb⟩
  have HE : Hid (ErrAt A W1 r (cfgErr c)) := he
  obtain ⟨t, x, rfl⟩ := he.some H0.out
  have HB1 : Hid (Below w.heap.size w W1) := (Below.one _ _).trans (hb.mono (by simp))
  clear hb he HC
  go_wp2
  go_ret2
  exact ⟨_, rfl, HE.out, HB1.out⟩
def toldC : CfgD := ⟨1, 2, 1, 0, []⟩
theorem told_text : confText toldC = [119, 105, 110, 100, 111, 119, 32, 49, 32, 50, 10, 99, 121, 99, 108, 101, 32, 49, 10, 100, 101, 108, 97, 121, 32, 48, 10] := by
  have d0 : num 0 = [48] := by unfold num; rw [decN_small (by decide)]; rfl
  have d1 : num 1 = [49] := by unfold num; rw [decN_small (by decide)]; rfl
  have d2 : num 2 = [50] := by unfold num; rw [decN_small (by decide)]; rfl
  simp [confText, confLines, toldC, d0, d1, d2, kwLine, kw]
set_option maxHeartbeats 2000000 in
set_option maxRecDepth 100000 in
theorem told_at (A : Nat → Addr) (w : World) (hs : Sen6 A w) (hK : KwAt w) (hT : TabAt w) (hG : (max 12 16 + 1) ≤ w.heap.size) :
    Calls Tryz.prog 5 #[] w fun e w' => e = .returned (.bool true) ∧ Below w.heap.size w w' := by
  have H := text_ok A toldC none 0 w hs hK hT hG ⟨_, _, rfl, fun h => absurd rfl h⟩ ⟨by decide, fun e he => by cases he⟩ (by decide) (fun _ _ _ _ _ e he => by cases he) (by decide)
  rw [told_text] at H
  have HH : Hid _ := H
  clear H hs hK hT hG
  go_enter Tryz.func5, Tryz.ntmps5
  go_wp2_with fail
  refine Calls.mono HH.out ?_
  rintro v W1 ⟨rfl, hb⟩
  go_wp2
  go_ret
  exact ⟨rfl, hb⟩
end Go.Proofs.YtbholbenjalliaaGreatDoor
