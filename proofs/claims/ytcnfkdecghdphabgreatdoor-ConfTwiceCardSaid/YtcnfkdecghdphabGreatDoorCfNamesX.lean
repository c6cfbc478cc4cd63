/-
  A list of names that knows which were ahead (conf.nameRules, with its map) by contracts ('NamesIn'). Conditions: the sentinels are in memory; at most a million names of at most a million bytes.
-/
import Derived.Test.YtcnfkdecghdphabGreatDoorCfCfgX
import Derived.Test.YtcnfkdecghdphabGreatDoorPureX
import Derived.Maps.OwnSet
import Derived.StringKeys
namespace Go.Proofs.YtcnfkdecghdphabGreatDoor
open Go.RowKit Go.Extern.Stop Go.Stop Go.Extern Go.Maps

def keyL (s : ByteArray) : Lit := .string s.data.toList
def setN (a : List ByteArray) : DataW Unit := setOf (.agg []) (a.map keyL)
theorem has_setN (a : List ByteArray) (s : ByteArray) : Maps.has (setN a) (keyL s) = a.any (fun x => decide (x = s)) := by
  unfold setN
  rw [has_setOf _ _ _ (by intro x hx; simp only [List.mem_map] at hx; obtain ⟨y, -, rfl⟩ := hx; trivial), List.any_map]
  congr 1
  funext x
  show (x.data.toList == s.data.toList) = decide (x = s)
  by_cases h : x = s
  · subst h; simp
  · rw [decide_eq_false h, beq_eq_false_iff_ne]
    exact fun e => h (bl_inj e)
theorem setN_snoc (a : List ByteArray) (s : ByteArray) : setN (a ++ [s]) = (setN a).put (keyL s) (.agg []) := by
  unfold setN
  rw [List.map_append]
  exact setOf_snoc _ _ _
theorem Tryz.lawStr : Keyed Tryz.prog 9 := string_keyed Tryz.underlying9
theorem Tryz.zeroUnit (w : World) : (zeroValue 89).run Tryz.prog w = .ok (.agg #[]) w := by kernel_rfl

/-- A list of names, with its map, in memory of its own behind w0. -/
structure NamesIn (A : Nat → Addr) (w0 w : World) (rb bx mb : Nat) (a : List ByteArray) : Prop where
  bel : Below w0.heap.size w0 w
  lo : w0.heap.size ≤ mb
  nr : rb ≠ mb
  nb : bx ≠ mb
  r0 : w.cell? ⟨rb, 0, none⟩ = some (.iface 211 (.pointer (some (A 3))))
  r1 : w.cell? ⟨rb, 1, none⟩ = some (.func (.func 38) #[] #[])
  r2 : w.cell? ⟨rb, 2, none⟩ = some (.iface 211 (.pointer (some (A 5))))
  r3 : w.cell? ⟨rb, 3, none⟩ = some (.func (.func 40) #[] #[.pointer (some ⟨bx, 0, none⟩)])
  b0 : w.cell? ⟨bx, 0, none⟩ = some (.map (some mb))
  own : w.ownsMap Tryz.prog 9 unitElem mb a.length (setN a)
theorem owns_below {w w' : World} {mb n : Nat} {D : DataW Unit} (h : w.ownsMap Tryz.prog 9 unitElem mb n D) (hb : Below w.heap.size w w') : w'.ownsMap Tryz.prog 9 unitElem mb n D := by
  have hlt := h.lt
  obtain ⟨es, clock, h1, h2⟩ := h
  exact ⟨es, clock, (hb.block mb hlt).trans h1, h2⟩
theorem NamesIn.below {A : Nat → Addr} {w0 w w' : World} {rb bx mb : Nat} {a : List ByteArray} (h : NamesIn A w0 w rb bx mb a) (hb : Below w.heap.size w w') : NamesIn A w0 w' rb bx mb a :=
  ⟨h.bel.trans (hb.mono h.bel.size), h.lo, h.nr, h.nb, cell_below hb h.r0, cell_below hb h.r1, cell_below hb h.r2, cell_below hb h.r3, cell_below hb h.b0, owns_below h.own hb⟩
theorem cell_grown {w w' : World} {mb : Nat} {a : Addr} {v : Value} (hg : w.grownBy w' (some mb)) (hne : a.block ≠ mb) (h : w.cell? a = some v) : w'.cell? a = some v :=
  (World.cell?_of_block (hg.block a.block (block_lt h) (by simpa using hne))).trans h
theorem NamesIn.grown {A : Nat → Addr} {w0 w w' : World} {rb bx mb : Nat} {a a' : List ByteArray} (h : NamesIn A w0 w rb bx mb a) (hg : w.grownBy w' (some mb)) (ho : w'.ownsMap Tryz.prog 9 unitElem mb a'.length (setN a')) : NamesIn A w0 w' rb bx mb a' :=
  ⟨h.bel.grown hg h.bel.size (fun j hj => by cases hj; exact h.lo), h.lo, h.nr, h.nb, cell_grown hg h.nr h.r0, cell_grown hg h.nr h.r1, cell_grown hg h.nr h.r2, cell_grown hg h.nr h.r3, cell_grown hg h.nb h.b0, ho⟩

set_option maxHeartbeats 400000 in
theorem nameRules_at (A : Nat → Addr) (w : World) (hs : Sen6 A w) : Calls Tryz.prog 22 #[] w fun e w' => e = .returned (.slice (some ⟨w.heap.size + 2, 0, none⟩) 2 2) ∧ NamesIn A w w' (w.heap.size + 2) (w.heap.size + 1) w.heap.size [] := by
  have hmm := @run_makeMap Tryz.prog
  have c3 := hs.c3
  have c5 := hs.c5
  have ha : ∀ (g : Nat) (v : Value), w.cell? ⟨g, 0, none⟩ = some v → ∀ o1 o2, ((w.alloc o1).alloc o2).cell? ⟨g, 0, none⟩ = some v := fun g v e o1 o2 => cell_below (((Below.refl _ _).alloc (Nat.le_refl _) _).alloc (by simp) _) e
  have d3 := ha _ _ c3
  have d5 := ha _ _ c5
  clear c3 c5 ha
  go_enter Tryz.func22, Tryz.ntmps22
  go_wp2
  go_ret
  refine ⟨rfl, ⟨(((Below.refl _ _).alloc (Nat.le_refl _) _).alloc (by simp) _).alloc (by simp; omega) _, Nat.le_refl _, by omega, by omega, ?_, ?_, ?_, ?_, ?_, ?_⟩⟩
  iterate 4
    · rw [show w.heap.size + 2 = ((w.alloc (.map #[] 0)).alloc (.cells #[.map (some w.heap.size)] 86)).heap.size by simp, World.cell?_alloc_at _ _ _ _ rfl]
      rfl
  · rw [World.cell?_alloc_lt _ _ ⟨w.heap.size + 1, 0, none⟩ (by simp)]
    have e : w.heap.size + 1 = (w.alloc (.map #[] 0)).heap.size := by simp
    rw [e, World.cell?_alloc_at _ _ _ _ rfl]
    rfl
  · exact ((World.ownsMap_made w Tryz.prog 9 unitElem).alloc _).alloc _

set_option maxHeartbeats 400000 in
theorem names2_at (A : Nat → Addr) (w0 w : World) (rb bx mb : Nat) (a : List ByteArray) (s : ByteArray) (h : NamesIn A w0 w rb bx mb a) (hs : s.size ≤ 1000000) (hn : a.length ≤ 1000000) :
    Calls Tryz.prog 40 #[.string s, .pointer (some ⟨bx, 0, none⟩)] w fun e w' => e = .returned (.bool (a.any (fun x => decide (x = s)))) ∧ NamesIn A w0 w' rb bx mb (a ++ [s]) ∧ ∀ (p : Addr) (v : Value), p.block ≠ mb → w.cell? p = some v → w'.cell? p = some v := by
  have b0 := h.b0
  have b1 : ∀ o, (w.alloc o).cell? ⟨bx, 0, none⟩ = some (.map (some mb)) := fun o => cell_below ((Below.refl _ _).alloc (Nat.le_refl _) _) b0
  have hown := h.own
  have hkey : keyOf Tryz.prog 9 (.string s) = some (keyL s) := Go.WideMaps.keyOf_string_mk Tryz.underlying9 (by unfold maxLen; omega)
  have HA := has_setN a s
  have H : Hid (NamesIn A w0 w rb bx mb a) := h
  clear h
  go_enter Tryz.func40, Tryz.ntmps40
  go_wp2_with (first
    | (at_lookup; refine wpList_lookup_own_unit _ rfl _ _ 86 rfl 9 89 Tryz.lawStr Tryz.underlying86 (Tryz.zeroUnit _) mb a.length _ rfl hown _ _ rfl hkey ?_)
    | (at_mapUpdate; refine wpList_mapUpdate_own _ rfl _ _ _ 86 rfl 9 89 Tryz.lawStr Tryz.underlying86 (unitElem (H := Unit)) mb a.length _ rfl (hown.alloc _) (by unfold maxLen; omega) _ _ _ rfl rfl hkey _ [] unitElem_mk ?_; intro w1 hown1 hgrow1)
    | go_in)
  go_ret
  exact ⟨rfl, (H.out.below ((Below.refl _ _).alloc (Nat.le_refl _) _)).grown hgrow1 (by rw [setN_snoc]; simpa using hown1), fun p v hne e => cell_grown hgrow1 hne (cell_below ((Below.refl _ _).alloc (Nat.le_refl _) _) e)⟩
end Go.Proofs.YtcnfkdecghdphabGreatDoor
