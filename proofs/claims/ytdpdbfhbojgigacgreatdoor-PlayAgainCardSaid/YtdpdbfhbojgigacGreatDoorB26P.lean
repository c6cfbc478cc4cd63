/-
  Several texts as one: CfCfg, CfNames, CfFirstS, CfAny.
-/
import Derived.Test.YtdpdbfhbojgigacGreatDoorB25P
import Derived.Test.YtdpdbfhbojgigacGreatDoorB00P
import Derived.Shelf.Abstract
import Derived.Maps.OwnSet
import Derived.StringKeys
namespace Go.Proofs.YtdpdbfhbojgigacGreatDoor
open Go.RowKit Go.Extern.Stop Go.Stop Go.Extern

theorem cfg1_at (A : Nat → Addr) (x0 x1 x2 x3 : Int) (sa : Option Addr) (sn sc : Nat) (w : World) (hs : Sen5 A w) : Calls Tryz.prog 140 #[.agg #[.int .i64 x0, .int .i64 x1, .int .i64 x2, .int .i64 x3, .slice sa sn sc]] w fun e w' => e = .returned (.bool (!(within x0 0 1000 && within x1 1 1000))) ∧ Below w.heap.size w w' := by
  have H := isWindow_at A x0 x1 _ (hs.alloc (.cells #[.int .i64 x0, .int .i64 x1, .int .i64 x2, .int .i64 x3, .slice sa sn sc] 24))
  go_enter Tryz.func140, Tryz.ntmps140
  go_wp2_with fail
  refine H.mono ?_
  rintro e w' ⟨rfl, hb⟩
  go_wp2
  go_ret
  exact ⟨by rw [Bool.not_and]; rfl, ((Below.refl _ _).alloc (Nat.le_refl _) _).trans (hb.mono (by simp))⟩
theorem cfg2_at (x0 x1 x2 x3 : Int) (sa : Option Addr) (sn sc : Nat) (w : World) : Calls Tryz.prog 142 #[.agg #[.int .i64 x0, .int .i64 x1, .int .i64 x2, .int .i64 x3, .slice sa sn sc]] w fun e w' => e = .returned (.bool (!within x2 1 100)) ∧ Below w.heap.size w w' := by
  go_enter Tryz.func142, Tryz.ntmps142
  go_wp2_with fail
  refine (within_at x2 1 100 _).mono ?_
  rintro e w' ⟨rfl, rfl⟩
  go_wp2
  go_ret
  exact ⟨rfl, (Below.refl _ _).alloc (Nat.le_refl _) _⟩
theorem cfg3_at (x0 x1 x2 x3 : Int) (sa : Option Addr) (sn sc : Nat) (w : World) : Calls Tryz.prog 144 #[.agg #[.int .i64 x0, .int .i64 x1, .int .i64 x2, .int .i64 x3, .slice sa sn sc]] w fun e w' => e = .returned (.bool (!within x3 0 20)) ∧ Below w.heap.size w w' := by
  go_enter Tryz.func144, Tryz.ntmps144
  go_wp2_with fail
  refine (within_at x3 0 20 _).mono ?_
  rintro e w' ⟨rfl, rfl⟩
  go_wp2
  go_ret
  exact ⟨rfl, (Below.refl _ _).alloc (Nat.le_refl _) _⟩
theorem cfg4_at (x0 x1 x2 x3 : Int) (sa : Option Addr) (sn sc : Nat) (w : World) : Calls Tryz.prog 145 #[.agg #[.int .i64 x0, .int .i64 x1, .int .i64 x2, .int .i64 x3, .slice sa sn sc]] w fun e w' => e = .returned (.bool (decide (8 < sn))) ∧ Below w.heap.size w w' := by
  have hd : decide (8 < sn) = decide ((8 : Int) < (sn : Int)) := decide_eq_decide.2 (by omega)
  rw [hd]
  go_enter Tryz.func145, Tryz.ntmps145
  go_wp2
  go_ret
  exact ⟨rfl, (Below.refl _ _).alloc (Nat.le_refl _) _⟩
theorem cfg5_at (x0 x1 x2 x3 : Int) (sa : Option Addr) (sn sc : Nat) (w : World) : Calls Tryz.prog 146 #[.agg #[.int .i64 x0, .int .i64 x1, .int .i64 x2, .int .i64 x3, .slice sa sn sc]] w fun e w' => e = .returned (.bool (decide (x1 < x2))) ∧ Below w.heap.size w w' := by
  go_enter Tryz.func146, Tryz.ntmps146
  go_wp2
  go_ret
  exact ⟨rfl, (Below.refl _ _).alloc (Nat.le_refl _) _⟩
/-- The list of rules. -/
def cfgRow (A : Nat → Addr) : Array Value := #[.iface 298 (.pointer (some (A 1))), .func (.func 140) #[] #[], .iface 298 (.pointer (some (A 1))), .func (.func 142) #[] #[], .iface 298 (.pointer (some (A 1))), .func (.func 144) #[] #[],
  .iface 298 (.pointer (some (A 1))), .func (.func 145) #[] #[], .iface 298 (.pointer (some (A 2))), .func (.func 146) #[] #[]]
theorem configRules_at (A : Nat → Addr) (w : World) (hs : Sen5 A w) : Calls Tryz.prog 106 #[] w fun e w' => e = .returned (.slice (some ⟨w.heap.size, 0, none⟩) 5 5) ∧ w' = w.alloc (.cells (cfgRow A) 215) := by
  have c1 := hs.c1
  have c2 := hs.c2
  unfold cfgRow
  go_enter Tryz.func106, Tryz.ntmps106
  go_wp2
  go_ret
  exact ⟨rfl, rfl⟩
def cfgFns (i : Nat) : Nat := [140, 142, 144, 145, 146].getD i 0
theorem cfg_rules (A : Nat → Addr) (c : CfgD) (sa : Option Addr) (sc : Nat) (r : Nat) (W : World) (hs : Sen5 A W) (hr : W.heap[r]? = some (.cells (cfgRow A) 215 (0, 0))) :
    RulesAt A W r (.agg #[.int .i64 c.closed, .int .i64 c.opn, .int .i64 c.cycle, .int .i64 c.delay, .slice sa c.ents.length sc])
      [(!(within c.closed 0 1000 && within c.opn 1 1000), 2), (!within c.cycle 1 100, 2), (!within c.delay 0 20, 2), (decide (8 < c.ents.length), 2), (decide (c.opn < c.cycle), 3)] cfgFns := by
  have hcell : ∀ j v, (cfgRow A)[j]? = some v → W.cell? ⟨r, j, none⟩ = some v := fun j v e => by simp [World.cell?, hr, e]
  refine ⟨fun i b d e => ?_, fun i b d e => ?_, fun i b d e V hV => ?_, by simp, fun i b d e => ?_⟩
  · match i, e with
    | 0, e => cases e; exact ⟨hcell 0 _ rfl, hcell 1 _ rfl⟩
    | 1, e => cases e; exact ⟨hcell 2 _ rfl, hcell 3 _ rfl⟩
    | 2, e => cases e; exact ⟨hcell 4 _ rfl, hcell 5 _ rfl⟩
    | 3, e => cases e; exact ⟨hcell 6 _ rfl, hcell 7 _ rfl⟩
    | 4, e => cases e; exact ⟨hcell 8 _ rfl, hcell 9 _ rfl⟩
    | i + 5, e => cases e
  · match i, e with
    | 0, _ => exact enters_of Tryz.func140 (by kernel_rfl) rfl
    | 1, _ => exact enters_of Tryz.func142 (by kernel_rfl) rfl
    | 2, _ => exact enters_of Tryz.func144 (by kernel_rfl) rfl
    | 3, _ => exact enters_of Tryz.func145 (by kernel_rfl) rfl
    | 4, _ => exact enters_of Tryz.func146 (by kernel_rfl) rfl
    | i + 5, e => cases e
  · match i, e with
    | 0, e => cases e; exact cfg1_at A _ _ _ _ _ _ _ _ (hs.below hV)
    | 1, e => cases e; exact cfg2_at _ _ _ _ _ _ _ _
    | 2, e => cases e; exact cfg3_at _ _ _ _ _ _ _ _
    | 3, e => cases e; exact cfg4_at _ _ _ _ _ _ _ _
    | 4, e => cases e; exact cfg5_at _ _ _ _ _ _ _ _
    | i + 5, e => cases e
  · match i, e with
    | 0, e => cases e; decide
    | 1, e => cases e; decide
    | 2, e => cases e; decide
    | 3, e => cases e; decide
    | 4, e => cases e; decide
    | i + 5, e => cases e
end Go.Proofs.YtdpdbfhbojgigacGreatDoor

namespace Go.Proofs.YtdpdbfhbojgigacGreatDoor
open Go.RowKit Go.Extern.Stop Go.Stop Go.Extern Go.Maps

def keyL (s : ByteArray) : Lit := .string s.data.toList
def setN (a : List ByteArray) : DataW Unit := setOf (.agg []) (a.map keyL)
theorem has_setN (a : List ByteArray) (s : ByteArray) : Maps.has (setN a) (keyL s) = a.any (fun x => decide (x = s)) := by
  unfold setN
  rw [has_setOf _ _ _ (by intro x hx; simp only [List.mem_map] at hx; obtain ⟨y, -, rfl⟩ := hx; trivial), List.any_map]
  congr 1
  funext x
  show (x.data.toList == s.data.toList) = decide (x = s)
  by_cases h : x = s
  · subst h; simp
  · rw [decide_eq_false h, beq_eq_false_iff_ne]
    exact fun e => h (bl_inj e)
theorem setN_snoc (a : List ByteArray) (s : ByteArray) : setN (a ++ [s]) = (setN a).put (keyL s) (.agg []) := by
  unfold setN
  rw [List.map_append]
  exact setOf_snoc _ _ _
theorem Tryz.lawStr : Keyed Tryz.prog 9 := string_keyed Tryz.underlying9
theorem Tryz.zeroUnit (w : World) : (zeroValue 221).run Tryz.prog w = .ok (.agg #[]) w := by kernel_rfl

/-- A list of names, with its map, in memory of its own behind w0. -/
structure NamesIn (A : Nat → Addr) (w0 w : World) (rb bx mb : Nat) (a : List ByteArray) : Prop where
  bel : Below w0.heap.size w0 w
  lo : w0.heap.size ≤ mb
  nr : rb ≠ mb
  nb : bx ≠ mb
  r0 : w.cell? ⟨rb, 0, none⟩ = some (.iface 298 (.pointer (some (A 3))))
  r1 : w.cell? ⟨rb, 1, none⟩ = some (.func (.func 147) #[] #[])
  r2 : w.cell? ⟨rb, 2, none⟩ = some (.iface 298 (.pointer (some (A 5))))
  r3 : w.cell? ⟨rb, 3, none⟩ = some (.func (.func 149) #[] #[.pointer (some ⟨bx, 0, none⟩)])
  b0 : w.cell? ⟨bx, 0, none⟩ = some (.map (some mb))
  own : w.ownsMap Tryz.prog 9 unitElem mb a.length (setN a)
theorem owns_below {w w' : World} {mb n : Nat} {D : DataW Unit} (h : w.ownsMap Tryz.prog 9 unitElem mb n D) (hb : Below w.heap.size w w') : w'.ownsMap Tryz.prog 9 unitElem mb n D := by
  have hlt := h.lt
  obtain ⟨es, clock, h1, h2⟩ := h
  exact ⟨es, clock, (hb.block mb hlt).trans h1, h2⟩
theorem NamesIn.below {A : Nat → Addr} {w0 w w' : World} {rb bx mb : Nat} {a : List ByteArray} (h : NamesIn A w0 w rb bx mb a) (hb : Below w.heap.size w w') : NamesIn A w0 w' rb bx mb a :=
  ⟨h.bel.trans (hb.mono h.bel.size), h.lo, h.nr, h.nb, cell_below hb h.r0, cell_below hb h.r1, cell_below hb h.r2, cell_below hb h.r3, cell_below hb h.b0, owns_below h.own hb⟩
theorem cell_grown {w w' : World} {mb : Nat} {a : Addr} {v : Value} (hg : w.grownBy w' (some mb)) (hne : a.block ≠ mb) (h : w.cell? a = some v) : w'.cell? a = some v :=
  (World.cell?_of_block (hg.block a.block (block_lt h) (by simpa using hne))).trans h
theorem NamesIn.grown {A : Nat → Addr} {w0 w w' : World} {rb bx mb : Nat} {a a' : List ByteArray} (h : NamesIn A w0 w rb bx mb a) (hg : w.grownBy w' (some mb)) (ho : w'.ownsMap Tryz.prog 9 unitElem mb a'.length (setN a')) : NamesIn A w0 w' rb bx mb a' :=
  ⟨h.bel.grown hg h.bel.size (fun j hj => by cases hj; exact h.lo), h.lo, h.nr, h.nb, cell_grown hg h.nr h.r0, cell_grown hg h.nr h.r1, cell_grown hg h.nr h.r2, cell_grown hg h.nr h.r3, cell_grown hg h.nb h.b0, ho⟩

set_option maxHeartbeats 400000 in
theorem nameRules_at (A : Nat → Addr) (w : World) (hs : Sen5 A w) : Calls Tryz.prog 107 #[] w fun e w' => e = .returned (.slice (some ⟨w.heap.size + 2, 0, none⟩) 2 2) ∧ NamesIn A w w' (w.heap.size + 2) (w.heap.size + 1) w.heap.size [] := by
  have hmm := @run_makeMap Tryz.prog
  have c3 := hs.c3
  have c5 := hs.c5
  have ha : ∀ (g : Nat) (v : Value), w.cell? ⟨g, 0, none⟩ = some v → ∀ o1 o2, ((w.alloc o1).alloc o2).cell? ⟨g, 0, none⟩ = some v := fun g v e o1 o2 => cell_below (((Below.refl _ _).alloc (Nat.le_refl _) _).alloc (by simp) _) e
  have d3 := ha _ _ c3
  have d5 := ha _ _ c5
  clear c3 c5 ha
  go_enter Tryz.func107, Tryz.ntmps107
  go_wp2
  go_ret
  refine ⟨rfl, ⟨(((Below.refl _ _).alloc (Nat.le_refl _) _).alloc (by simp) _).alloc (by simp; omega) _, Nat.le_refl _, by omega, by omega, ?_, ?_, ?_, ?_, ?_, ?_⟩⟩
  iterate 4
    · rw [show w.heap.size + 2 = ((w.alloc (.map #[] 0)).alloc (.cells #[.map (some w.heap.size)] 218)).heap.size by simp, World.cell?_alloc_at _ _ _ _ rfl]
      rfl
  · rw [World.cell?_alloc_lt _ _ ⟨w.heap.size + 1, 0, none⟩ (by simp)]
    have e : w.heap.size + 1 = (w.alloc (.map #[] 0)).heap.size := by simp
    rw [e, World.cell?_alloc_at _ _ _ _ rfl]
    rfl
  · exact ((World.ownsMap_made w Tryz.prog 9 unitElem).alloc _).alloc _

set_option maxHeartbeats 400000 in
theorem names2_at (A : Nat → Addr) (w0 w : World) (rb bx mb : Nat) (a : List ByteArray) (s : ByteArray) (h : NamesIn A w0 w rb bx mb a) (hs : s.size ≤ 1000000) (hn : a.length ≤ 1000000) :
    Calls Tryz.prog 149 #[.string s, .pointer (some ⟨bx, 0, none⟩)] w fun e w' => e = .returned (.bool (a.any (fun x => decide (x = s)))) ∧ NamesIn A w0 w' rb bx mb (a ++ [s]) ∧ ∀ (p : Addr) (v : Value), p.block ≠ mb → w.cell? p = some v → w'.cell? p = some v := by
  have b0 := h.b0
  have b1 : ∀ o, (w.alloc o).cell? ⟨bx, 0, none⟩ = some (.map (some mb)) := fun o => cell_below ((Below.refl _ _).alloc (Nat.le_refl _) _) b0
  have hown := h.own
  have hkey : keyOf Tryz.prog 9 (.string s) = some (keyL s) := Go.WideMaps.keyOf_string_mk Tryz.underlying9 (by unfold maxLen; omega)
  have HA := has_setN a s
  have H : Hid (NamesIn A w0 w rb bx mb a) := h
  clear h
  go_enter Tryz.func149, Tryz.ntmps149
  go_wp2_with (first
    | (at_lookup; refine wpList_lookup_own_unit _ rfl _ _ 218 rfl 9 221 Tryz.lawStr Tryz.underlying218 (Tryz.zeroUnit _) mb a.length _ rfl hown _ _ rfl hkey ?_)
    | (at_mapUpdate; refine wpList_mapUpdate_own _ rfl _ _ _ 218 rfl 9 221 Tryz.lawStr Tryz.underlying218 (unitElem (H := Unit)) mb a.length _ rfl (hown.alloc _) (by unfold maxLen; omega) _ _ _ rfl rfl hkey _ [] unitElem_mk ?_; intro w1 hown1 hgrow1)
    | go_in)
  go_ret
  exact ⟨rfl, (H.out.below ((Below.refl _ _).alloc (Nat.le_refl _) _)).grown hgrow1 (by rw [setN_snoc]; simpa using hown1), fun p v hne e => cell_grown hgrow1 hne (cell_below ((Below.refl _ _).alloc (Nat.le_refl _) _) e)⟩
end Go.Proofs.YtdpdbfhbojgigacGreatDoor

namespace Go.Proofs.YtdpdbfhbojgigacGreatDoor
open Go.RowKit Go.Extern.Stop Go.Stop Go.Extern

theorem names1_at (s : ByteArray) (w : World) (hs : s.size ≤ 1000000) : Calls Tryz.prog 147 #[.string s] w fun e w' => e = .returned (.bool (!isName s)) ∧ Below w.heap.size w w' := by
  go_enter Tryz.func147, Tryz.ntmps147
  go_wp2_with fail
  refine (isName_at s _ hs).mono ?_
  rintro e w' ⟨rfl, hb⟩
  go_wp2
  go_ret
  exact ⟨rfl, hb⟩

/-- All cells but those of one block are as they were. -/
def KeptBut (mb : Nat) (w w' : World) : Prop := ∀ (p : Addr) (v : Value), p.block ≠ mb → w.cell? p = some v → w'.cell? p = some v
theorem KeptBut.refl (mb : Nat) (w : World) : KeptBut mb w w := fun _ _ _ h => h
theorem KeptBut.trans {mb : Nat} {w w' w'' : World} (h : KeptBut mb w w') (h2 : KeptBut mb w' w'') : KeptBut mb w w'' := fun p v hn e => h2 p v hn (h p v hn e)
theorem KeptBut.of {mb : Nat} {w w' : World} (h : Below w.heap.size w w') : KeptBut mb w w' := fun _ _ _ e => cell_below h e

set_option maxHeartbeats 2000000 in
theorem first_str (A : Nat → Addr) (w0 w : World) (rb bx mb : Nat) (a : List ByteArray) (s : ByteArray) (h : NamesIn A w0 w rb bx mb a) (hs : s.size ≤ 1000000) (hn : a.length ≤ 1000000) :
    Calls Tryz.prog 150 #[.string s, .slice (some ⟨rb, 0, none⟩) 2 2] w fun e w' => e = .returned (errV A (nameErr a s)) ∧ Below w0.heap.size w0 w' ∧ (nameErr a s = 0 → NamesIn A w0 w' rb bx mb (a ++ [s])) ∧ KeptBut mb w w' := by
  have eg1 := enters_of Tryz.func147 (by kernel_rfl) rfl
  have eg2 := enters_of Tryz.func149 (by kernel_rfl) rfl
  have HN : Hid (∀ W, Calls Tryz.prog 147 #[.string s] W fun e w' => e = .returned (.bool (!isName s)) ∧ Below W.heap.size W w') := fun W => names1_at s W hs
  have HM : Hid (∀ W, NamesIn A w0 W rb bx mb a → Calls Tryz.prog 149 #[.string s, .pointer (some ⟨bx, 0, none⟩)] W fun e w' => e = .returned (.bool (a.any (fun x => decide (x = s)))) ∧ NamesIn A w0 w' rb bx mb (a ++ [s]) ∧ ∀ (p : Addr) (v : Value), p.block ≠ mb → W.cell? p = some v → w'.cell? p = some v) := fun W hW => names2_at A w0 W rb bx mb a s hW hs hn
  go_enter Tryz.func150, Tryz.ntmps150
  go_wp2_with fail
  clear hs hn
  go_loopw [6, 9] (fun _ i wr => KeptBut mb w wr ∧ ((i = .int .i64 0 ∧ NamesIn A w0 wr rb bx mb a) ∨ (i = .int .i64 1 ∧ isName s = true ∧ NamesIn A w0 wr rb bx mb a) ∨ (i = .int .i64 2 ∧ nameErr a s = 0 ∧ NamesIn A w0 wr rb bx mb (a ++ [s])))) (fun _ i _ => 2 - (intOf i).toNat)
  case atStart => exact ⟨KeptBut.refl _ _, Or.inl ⟨rfl, h⟩⟩
  case round =>
    clear h
    obtain ⟨hkp, hrel⟩ := hrel
    have HKP : Hid (KeptBut mb w wr) := hkp
    clear hkp
    rcases hrel with ⟨rfl, h⟩ | ⟨rfl, hN, h⟩ | ⟨rfl, hE, h⟩
    · have r0 := h.r0
      have r1 := h.r1
      have H : Hid (NamesIn A w0 wr rb bx mb a) := h
      clear h
      cases hN : isName s with
      | true =>
        have HN2 := HN.out
        rw [hN] at HN2
        have HN3 : Hid _ := HN2
        clear HN2
        have HNN : Hid (isName s = true) := hN
        clear hN HM HN
        go_wp2_with fail
        refine (HN3.out _).mono ?_
        rintro e W' ⟨rfl, hb'⟩
        have H2 : Hid (NamesIn A w0 W' rb bx mb a) := (H.out.below (Below.one _ _)).below hb'
        have HK2 : Hid (KeptBut mb w W') := (HKP.out.trans (KeptBut.of (Below.one _ _))).trans (KeptBut.of hb')
        clear hb'
        go_wp2
        go_roundw
        case rel => exact ⟨HK2.out, Or.inr (Or.inl ⟨by go_num, by first | trivial | exact HNN.out, H2.out⟩)⟩
        case measure => simp [intOf]
      | false =>
        have HN2 := HN.out
        rw [hN] at HN2
        have HN3 : Hid _ := HN2
        clear HN2
        have HNN : Hid (nameErr a s = 4) := by show _ = _; simp [nameErr, hN]
        clear hN HM HN
        go_wp2_with fail
        refine (HN3.out _).mono ?_
        rintro e W' ⟨rfl, hb'⟩
        have d0 : W'.cell? ⟨wr.heap.size, 0, none⟩ = some (.iface 298 (.pointer (some (A 3)))) := cell_below hb' (by simp)
        have H2 : Hid (NamesIn A w0 W' rb bx mb a) := (H.out.below (Below.one _ _)).below hb'
        have HK2 : Hid (KeptBut mb w W') := (HKP.out.trans (KeptBut.of (Below.one _ _))).trans (KeptBut.of hb')
        clear hb'
        go_wp2
        go_ret
        exact ⟨by rw [HNN.out]; rfl, H2.out.bel, fun e => by (rw [HNN.out] at e; cases e), HK2.out⟩
    · have r2 := h.r2
      have r3 := h.r3
      have H : Hid (NamesIn A w0 wr rb bx mb a) := h
      clear h
      cases hA : a.any (fun x => decide (x = s)) with
      | false =>
        have HM2 := HM.out
        rw [hA] at HM2
        have HM3 : Hid _ := HM2
        have HNN : Hid (nameErr a s = 0) := by show _ = _; simp only [nameErr, hN, hA]; rfl
        clear hA hN HM HN HM2
        go_wp2_with fail
        refine (HM3.out _ (H.out.below (Below.one _ _))).mono ?_
        rintro e W' ⟨rfl, h', hk'⟩
        have H2 : Hid (NamesIn A w0 W' rb bx mb (a ++ [s])) := h'
        have HK2 : Hid (KeptBut mb w W') := (HKP.out.trans (KeptBut.of (Below.one _ _))).trans hk'
        clear h' hk'
        go_wp2
        go_roundw
        case rel => exact ⟨HK2.out, Or.inr (Or.inr ⟨by go_num, HNN.out, H2.out⟩)⟩
        case measure => simp [intOf]
      | true =>
        have HM2 := HM.out
        rw [hA] at HM2
        have HM3 : Hid _ := HM2
        have HNN : Hid (nameErr a s = 6) := by show _ = _; simp only [nameErr, hN, hA]; rfl
        clear hA hN HM HN HM2
        go_wp2_with fail
        refine (HM3.out _ (H.out.below (Below.one _ _))).mono ?_
        rintro e W' ⟨rfl, h', hk'⟩
        have H2 : Hid (NamesIn A w0 W' rb bx mb (a ++ [s])) := h'
        have HK2 : Hid (KeptBut mb w W') := (HKP.out.trans (KeptBut.of (Below.one _ _))).trans hk'
        have d0 : W'.cell? ⟨wr.heap.size, 0, none⟩ = some (.iface 298 (.pointer (some (A 5)))) := hk' ⟨wr.heap.size, 0, none⟩ _ (fun e => by have := H.out.own.lt; simp at e; omega) (by simp)
        clear h' hk'
        go_wp2
        go_ret
        exact ⟨by rw [HNN.out]; rfl, H2.out.bel, fun e => by (rw [HNN.out] at e; cases e), HK2.out⟩
    · have HNN : Hid (nameErr a s = 0) := hE
      have H2 : Hid (NamesIn A w0 wr rb bx mb (a ++ [s])) := h
      clear hE h HM HN
      go_wp2
      go_ret
      exact ⟨by rw [HNN.out]; rfl, H2.out.bel, fun _ => H2.out, HKP.out⟩
end Go.Proofs.YtdpdbfhbojgigacGreatDoor

namespace Go.Proofs.YtdpdbfhbojgigacGreatDoor
open Go.RowKit Go.Extern.Stop Go.Stop Go.Extern

/-- The place of the first one that is so; -1: none. -/
def idxP {α : Type} (p : α → Bool) : List α → Int
  | [] => -1
  | x :: t => if p x then 0 else if idxP p t < 0 then -1 else idxP p t + 1
theorem idxP_none {α : Type} (p : α → Bool) : ∀ (xs : List α), (∀ (i : Nat) (x : α), xs[i]? = some x → p x = false) → idxP p xs = -1
  | [], _ => rfl
  | x :: t, h => by
    have h0 := h 0 x rfl
    have := idxP_none p t (fun i y e => h (i + 1) y (by simpa using e))
    simp [idxP, h0, this]
theorem idxP_hit {α : Type} (p : α → Bool) : ∀ (xs : List α) (k : Nat) (x : α), (∀ (i : Nat) (y : α), i < k → xs[i]? = some y → p y = false) → xs[k]? = some x → p x = true → idxP p xs = (k : Int)
  | [], k, x, _, h, _ => by simp at h
  | y :: t, 0, x, _, h, hp => by simp at h; subst h; simp [idxP, hp]
  | y :: t, k + 1, x, h, h2, hp => by
    have h0 := h 0 y (by omega) rfl
    have := idxP_hit p t k x (fun i z hi e => h (i + 1) z (by omega) (by simpa using e)) (by simpa using h2) hp
    simp only [idxP, h0, this]
    rw [if_neg (by simp), if_neg (by omega)]
    omega
theorem idxP_any {α : Type} (p : α → Bool) : ∀ (xs : List α), decide (0 ≤ idxP p xs) = xs.any p
  | [] => rfl
  | x :: t => by
    have := idxP_any p t
    unfold idxP
    by_cases h : p x = true
    · simp [h]
    · simp only [Bool.not_eq_true] at h
      rw [List.any_cons, h, Bool.false_or, ← this]
      simp only [Bool.false_eq_true, if_false]
      by_cases h2 : idxP p t < 0
      · rw [if_pos h2]; exact decide_eq_decide.2 (by omega)
      · rw [if_neg h2]; exact decide_eq_decide.2 (by omega)

set_option maxHeartbeats 1000000 in
theorem idx_int (v : Value) (xs : List Int) (p : Int → Bool) (g : Nat) (lb : Array Value) (w : World) (hv : SlAt encI 1 w v xs) (hn : xs.length ≤ 1000000) (eg : ∀ args w, (callFunc g args).run Tryz.prog w = .ok (.enter g args) w)
    (hp : ∀ W, Below w.heap.size w W → ∀ x, x ∈ xs → Calls Tryz.prog g (#[.int .i64 x] ++ lb) W fun e W' => e = .returned (.bool (p x)) ∧ Below W.heap.size W W') :
    Calls Tryz.prog 237 #[v, .func (.func g) #[] lb] w fun e w' => e = .returned (.int .i64 (idxP p xs)) ∧ Below w.heap.size w w' := by
  obtain ⟨sa, cap, rfl, -, hcell⟩ := hv
  have HC : Hid (xs ≠ [] → ∃ b o, sa = some ⟨b, o, none⟩ ∧ ∀ (i : Nat) x, xs[i]? = some x → ∀ (j : Nat) u, (encI x)[j]? = some u → w.cell? ⟨b, o + i * 1 + j, none⟩ = some u) := hcell
  have HP : Hid (∀ W, Below w.heap.size w W → ∀ x, x ∈ xs → Calls Tryz.prog g (#[.int .i64 x] ++ lb) W fun e W' => e = .returned (.bool (p x)) ∧ Below W.heap.size W W') := hp
  have HL : Hid (xs.length ≤ 1000000) := hn
  clear hcell hp hn
  go_enter Tryz.func237, Tryz.ntmps237
  go_wp2_with fail
  go_loopw [5, 8] (fun _ i wr => ∃ k : Nat, k ≤ xs.length ∧ i = .int .i64 k ∧ Below w.heap.size w wr ∧ Hid (∀ (i : Nat) (y : Int), i < k → xs[i]? = some y → p y = false)) (fun _ i _ => xs.length - (intOf i).toNat)
  case atStart => exact ⟨0, Nat.zero_le _, rfl, Below.refl _ _, fun i b hi => absurd hi (Nat.not_lt_zero _)⟩
  case round =>
    obtain ⟨k, hk, rfl, hbw, hall⟩ := hrel
    by_cases hlt : k < xs.length
    · obtain ⟨x, hx⟩ : ∃ x, xs[k]? = some x := ⟨_, List.getElem?_eq_getElem hlt⟩
      obtain ⟨b, o, rfl, hc0⟩ := HC.out (fun e => by subst e; simp at hx)
      have hc : ∀ (i : Nat) x, xs[i]? = some x → ∀ (j : Nat) u, (encI x)[j]? = some u → wr.cell? ⟨b, o + i * 1 + j, none⟩ = some u := fun i x h j u hu => cell_below hbw (hc0 i x h j u hu)
      have c0 := hc k x hx 0 _ rfl
      simp only [Nat.mul_one, Nat.add_zero] at c0
      have HX : Hid (xs[k]? = some x) := hx
      have hm := HP.out _ hbw x (List.mem_of_getElem? hx)
      have k1 : (k : Int) < (xs.length : Int) := by omega
      have k0 : k < 1000000 := by have := HL.out; omega
      have HB : Hid (Below w.heap.size w wr) := hbw
      clear hx hc0 hc HC HP hbw
      cases hpx : p x with
      | true =>
        rw [hpx] at hm
        have HM : Hid _ := hm
        have HPX : Hid (p x = true) := hpx
        clear hm hpx
        go_wp2_with fail
        refine Calls.mono HM.out ?_
        rintro e W' ⟨rfl, hb'⟩
        go_wp2
        go_ret
        exact ⟨by rw [idxP_hit p xs k x hall.out HX.out HPX.out]; rfl, HB.out.trans (hb'.mono HB.out.size)⟩
      | false =>
        rw [hpx] at hm
        have HM : Hid _ := hm
        have HPX : Hid (p x = false) := hpx
        clear hm hpx
        go_wp2_with fail
        refine Calls.mono HM.out ?_
        rintro e W' ⟨rfl, hb'⟩
        have HW : Hid (Below w.heap.size w W') := HB.out.trans (hb'.mono HB.out.size)
        clear hb'
        go_wp2
        go_roundw
        case rel =>
          refine ⟨k + 1, by omega, by go_num, HW.out, fun i y hi e => ?_⟩
          by_cases hik : i = k
          · subst hik
            have h2 := HX.out
            rw [h2] at e
            cases e
            exact HPX.out
          · exact hall.out i y (by omega) e
        case measure => simp [intOf]; omega
    · have k1 : ¬ (k : Int) < (xs.length : Int) := by omega
      have HN : Hid (idxP p xs = -1) := idxP_none p xs (fun i x e => hall.out i x (by have := (List.getElem?_eq_some_iff.1 e).1; omega) e)
      clear HC HP
      go_wp2
      go_ret
      exact ⟨by rw [HN.out]; rfl, hbw⟩
theorem any_int (v : Value) (xs : List Int) (p : Int → Bool) (g : Nat) (lb : Array Value) (w : World) (hv : SlAt encI 1 w v xs) (hn : xs.length ≤ 1000000) (eg : ∀ args w, (callFunc g args).run Tryz.prog w = .ok (.enter g args) w)
    (hp : ∀ W, Below w.heap.size w W → ∀ x, x ∈ xs → Calls Tryz.prog g (#[.int .i64 x] ++ lb) W fun e W' => e = .returned (.bool (p x)) ∧ Below W.heap.size W W') :
    Calls Tryz.prog 224 #[v, .func (.func g) #[] lb] w fun e w' => e = .returned (.bool (xs.any p)) ∧ Below w.heap.size w w' := by
  have H := idx_int v xs p g lb w hv hn eg hp
  rw [← idxP_any]
  obtain ⟨sa, cap, rfl, -⟩ := hv
  clear hp hn
  go_enter Tryz.func224, Tryz.ntmps224
  go_wp2_with fail
  refine H.mono ?_
  rintro e w' ⟨rfl, hb⟩
  go_wp2
  go_ret
  exact ⟨rfl, hb⟩

set_option maxHeartbeats 1000000 in
theorem idx_pair (v : Value) (xs : List (Int × Int)) (p : (Int × Int) → Bool) (g : Nat) (lb : Array Value) (w : World) (hv : SlAt encP 2 w v xs) (hn : xs.length ≤ 1000000) (eg : ∀ args w, (callFunc g args).run Tryz.prog w = .ok (.enter g args) w)
    (hp : ∀ W, Below w.heap.size w W → ∀ x, x ∈ xs → Calls Tryz.prog g (#[.agg #[.int .i64 x.1, .int .i64 x.2]] ++ lb) W fun e W' => e = .returned (.bool (p x)) ∧ Below W.heap.size W W') :
    Calls Tryz.prog 227 #[v, .func (.func g) #[] lb] w fun e w' => e = .returned (.int .i64 (idxP p xs)) ∧ Below w.heap.size w w' := by
  obtain ⟨sa, cap, rfl, -, hcell⟩ := hv
  have HC : Hid (xs ≠ [] → ∃ b o, sa = some ⟨b, o, none⟩ ∧ ∀ (i : Nat) x, xs[i]? = some x → ∀ (j : Nat) u, (encP x)[j]? = some u → w.cell? ⟨b, o + i * 2 + j, none⟩ = some u) := hcell
  have HP : Hid (∀ W, Below w.heap.size w W → ∀ x, x ∈ xs → Calls Tryz.prog g (#[.agg #[.int .i64 x.1, .int .i64 x.2]] ++ lb) W fun e W' => e = .returned (.bool (p x)) ∧ Below W.heap.size W W') := hp
  have HL : Hid (xs.length ≤ 1000000) := hn
  clear hcell hp hn
  go_enter Tryz.func227, Tryz.ntmps227
  go_wp2_with fail
  go_loopw [5, 8] (fun _ i wr => ∃ k : Nat, k ≤ xs.length ∧ i = .int .i64 k ∧ Below w.heap.size w wr ∧ Hid (∀ (i : Nat) (y : (Int × Int)), i < k → xs[i]? = some y → p y = false)) (fun _ i _ => xs.length - (intOf i).toNat)
  case atStart => exact ⟨0, Nat.zero_le _, rfl, Below.refl _ _, fun i b hi => absurd hi (Nat.not_lt_zero _)⟩
  case round =>
    obtain ⟨k, hk, rfl, hbw, hall⟩ := hrel
    by_cases hlt : k < xs.length
    · obtain ⟨x, hx⟩ : ∃ x, xs[k]? = some x := ⟨_, List.getElem?_eq_getElem hlt⟩
      obtain ⟨b, o, rfl, hc0⟩ := HC.out (fun e => by subst e; simp at hx)
      have hc : ∀ (i : Nat) x, xs[i]? = some x → ∀ (j : Nat) u, (encP x)[j]? = some u → wr.cell? ⟨b, o + i * 2 + j, none⟩ = some u := fun i x h j u hu => cell_below hbw (hc0 i x h j u hu)
      have c0 := hc k x hx 0 _ rfl
      have c1 := hc k x hx 1 _ rfl
      simp only [Nat.add_zero] at c0
      have HX : Hid (xs[k]? = some x) := hx
      have hm := HP.out _ hbw x (List.mem_of_getElem? hx)
      have k1 : (k : Int) < (xs.length : Int) := by omega
      have k0 : k < 1000000 := by have := HL.out; omega
      have HB : Hid (Below w.heap.size w wr) := hbw
      clear hx hc0 hc HC HP hbw
      cases hpx : p x with
      | true =>
        rw [hpx] at hm
        have HM : Hid _ := hm
        have HPX : Hid (p x = true) := hpx
        clear hm hpx
        go_wp2_with fail
        refine Calls.mono HM.out ?_
        rintro e W' ⟨rfl, hb'⟩
        go_wp2
        go_ret
        exact ⟨by rw [idxP_hit p xs k x hall.out HX.out HPX.out]; rfl, HB.out.trans (hb'.mono HB.out.size)⟩
      | false =>
        rw [hpx] at hm
        have HM : Hid _ := hm
        have HPX : Hid (p x = false) := hpx
        clear hm hpx
        go_wp2_with fail
        refine Calls.mono HM.out ?_
        rintro e W' ⟨rfl, hb'⟩
        have HW : Hid (Below w.heap.size w W') := HB.out.trans (hb'.mono HB.out.size)
        clear hb'
        go_wp2
        go_roundw
        case rel =>
          refine ⟨k + 1, by omega, by go_num, HW.out, fun i y hi e => ?_⟩
          by_cases hik : i = k
          · subst hik
            have h2 := HX.out
            rw [h2] at e
            cases e
            exact HPX.out
          · exact hall.out i y (by omega) e
        case measure => simp [intOf]; omega
    · have k1 : ¬ (k : Int) < (xs.length : Int) := by omega
      have HN : Hid (idxP p xs = -1) := idxP_none p xs (fun i x e => hall.out i x (by have := (List.getElem?_eq_some_iff.1 e).1; omega) e)
      clear HC HP
      go_wp2
      go_ret
      exact ⟨by rw [HN.out]; rfl, hbw⟩
theorem any_pair (v : Value) (xs : List (Int × Int)) (p : (Int × Int) → Bool) (g : Nat) (lb : Array Value) (w : World) (hv : SlAt encP 2 w v xs) (hn : xs.length ≤ 1000000) (eg : ∀ args w, (callFunc g args).run Tryz.prog w = .ok (.enter g args) w)
    (hp : ∀ W, Below w.heap.size w W → ∀ x, x ∈ xs → Calls Tryz.prog g (#[.agg #[.int .i64 x.1, .int .i64 x.2]] ++ lb) W fun e W' => e = .returned (.bool (p x)) ∧ Below W.heap.size W W') :
    Calls Tryz.prog 193 #[v, .func (.func g) #[] lb] w fun e w' => e = .returned (.bool (xs.any p)) ∧ Below w.heap.size w w' := by
  have H := idx_pair v xs p g lb w hv hn eg hp
  rw [← idxP_any]
  obtain ⟨sa, cap, rfl, -⟩ := hv
  clear hp hn
  go_enter Tryz.func193, Tryz.ntmps193
  go_wp2_with fail
  refine H.mono ?_
  rintro e w' ⟨rfl, hb⟩
  go_wp2
  go_ret
  exact ⟨rfl, hb⟩

set_option maxHeartbeats 1000000 in
theorem idx_gap (v : Value) (xs : List GapD) (p : GapD → Bool) (g : Nat) (lb : Array Value) (w : World) (hv : SlAt encG 4 w v xs) (hn : xs.length ≤ 1000000) (eg : ∀ args w, (callFunc g args).run Tryz.prog w = .ok (.enter g args) w)
    (hp : ∀ W, Below w.heap.size w W → ∀ x, x ∈ xs → Calls Tryz.prog g (#[.agg #[.int .i64 x.fr, .int .i64 x.to, .int .i64 x.mn, .int .i64 x.mx]] ++ lb) W fun e W' => e = .returned (.bool (p x)) ∧ Below W.heap.size W W') :
    Calls Tryz.prog 226 #[v, .func (.func g) #[] lb] w fun e w' => e = .returned (.int .i64 (idxP p xs)) ∧ Below w.heap.size w w' := by
  obtain ⟨sa, cap, rfl, -, hcell⟩ := hv
  have HC : Hid (xs ≠ [] → ∃ b o, sa = some ⟨b, o, none⟩ ∧ ∀ (i : Nat) x, xs[i]? = some x → ∀ (j : Nat) u, (encG x)[j]? = some u → w.cell? ⟨b, o + i * 4 + j, none⟩ = some u) := hcell
  have HP : Hid (∀ W, Below w.heap.size w W → ∀ x, x ∈ xs → Calls Tryz.prog g (#[.agg #[.int .i64 x.fr, .int .i64 x.to, .int .i64 x.mn, .int .i64 x.mx]] ++ lb) W fun e W' => e = .returned (.bool (p x)) ∧ Below W.heap.size W W') := hp
  have HL : Hid (xs.length ≤ 1000000) := hn
  clear hcell hp hn
  go_enter Tryz.func226, Tryz.ntmps226
  go_wp2_with fail
  go_loopw [5, 8] (fun _ i wr => ∃ k : Nat, k ≤ xs.length ∧ i = .int .i64 k ∧ Below w.heap.size w wr ∧ Hid (∀ (i : Nat) (y : GapD), i < k → xs[i]? = some y → p y = false)) (fun _ i _ => xs.length - (intOf i).toNat)
  case atStart => exact ⟨0, Nat.zero_le _, rfl, Below.refl _ _, fun i b hi => absurd hi (Nat.not_lt_zero _)⟩
  case round =>
    obtain ⟨k, hk, rfl, hbw, hall⟩ := hrel
    by_cases hlt : k < xs.length
    · obtain ⟨x, hx⟩ : ∃ x, xs[k]? = some x := ⟨_, List.getElem?_eq_getElem hlt⟩
      obtain ⟨b, o, rfl, hc0⟩ := HC.out (fun e => by subst e; simp at hx)
      have hc : ∀ (i : Nat) x, xs[i]? = some x → ∀ (j : Nat) u, (encG x)[j]? = some u → wr.cell? ⟨b, o + i * 4 + j, none⟩ = some u := fun i x h j u hu => cell_below hbw (hc0 i x h j u hu)
      have c0 := hc k x hx 0 _ rfl
      have c1 := hc k x hx 1 _ rfl
      have c2 := hc k x hx 2 _ rfl
      have c3 := hc k x hx 3 _ rfl
      simp only [Nat.add_zero] at c0
      have HX : Hid (xs[k]? = some x) := hx
      have hm := HP.out _ hbw x (List.mem_of_getElem? hx)
      have k1 : (k : Int) < (xs.length : Int) := by omega
      have k0 : k < 1000000 := by have := HL.out; omega
      have HB : Hid (Below w.heap.size w wr) := hbw
      clear hx hc0 hc HC HP hbw
      cases hpx : p x with
      | true =>
        rw [hpx] at hm
        have HM : Hid _ := hm
        have HPX : Hid (p x = true) := hpx
        clear hm hpx
        go_wp2_with fail
        refine Calls.mono HM.out ?_
        rintro e W' ⟨rfl, hb'⟩
        go_wp2
        go_ret
        exact ⟨by rw [idxP_hit p xs k x hall.out HX.out HPX.out]; rfl, HB.out.trans (hb'.mono HB.out.size)⟩
      | false =>
        rw [hpx] at hm
        have HM : Hid _ := hm
        have HPX : Hid (p x = false) := hpx
        clear hm hpx
        go_wp2_with fail
        refine Calls.mono HM.out ?_
        rintro e W' ⟨rfl, hb'⟩
        have HW : Hid (Below w.heap.size w W') := HB.out.trans (hb'.mono HB.out.size)
        clear hb'
        go_wp2
        go_roundw
        case rel =>
          refine ⟨k + 1, by omega, by go_num, HW.out, fun i y hi e => ?_⟩
          by_cases hik : i = k
          · subst hik
            have h2 := HX.out
            rw [h2] at e
            cases e
            exact HPX.out
          · exact hall.out i y (by omega) e
        case measure => simp [intOf]; omega
    · have k1 : ¬ (k : Int) < (xs.length : Int) := by omega
      have HN : Hid (idxP p xs = -1) := idxP_none p xs (fun i x e => hall.out i x (by have := (List.getElem?_eq_some_iff.1 e).1; omega) e)
      clear HC HP
      go_wp2
      go_ret
      exact ⟨by rw [HN.out]; rfl, hbw⟩
theorem any_gap (v : Value) (xs : List GapD) (p : GapD → Bool) (g : Nat) (lb : Array Value) (w : World) (hv : SlAt encG 4 w v xs) (hn : xs.length ≤ 1000000) (eg : ∀ args w, (callFunc g args).run Tryz.prog w = .ok (.enter g args) w)
    (hp : ∀ W, Below w.heap.size w W → ∀ x, x ∈ xs → Calls Tryz.prog g (#[.agg #[.int .i64 x.fr, .int .i64 x.to, .int .i64 x.mn, .int .i64 x.mx]] ++ lb) W fun e W' => e = .returned (.bool (p x)) ∧ Below W.heap.size W W') :
    Calls Tryz.prog 190 #[v, .func (.func g) #[] lb] w fun e w' => e = .returned (.bool (xs.any p)) ∧ Below w.heap.size w w' := by
  have H := idx_gap v xs p g lb w hv hn eg hp
  rw [← idxP_any]
  obtain ⟨sa, cap, rfl, -⟩ := hv
  clear hp hn
  go_enter Tryz.func190, Tryz.ntmps190
  go_wp2_with fail
  refine H.mono ?_
  rintro e w' ⟨rfl, hb⟩
  go_wp2
  go_ret
  exact ⟨rfl, hb⟩
end Go.Proofs.YtdpdbfhbojgigacGreatDoor
