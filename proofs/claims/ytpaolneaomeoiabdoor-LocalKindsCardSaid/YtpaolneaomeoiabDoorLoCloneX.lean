/-
  slices.Clone of texts, gaps and edges by contracts. Conditions: the list lies in memory, with at most a million elements.
-/
import Derived.Test.YtpaolneaomeoiabDoorFlNewX
namespace Go.Proofs.YtpaolneaomeoiabDoor
open Go.RowKit Go.Extern.Stop Go.Stop Go.Extern

set_option maxHeartbeats 1000000 in
set_option maxRecDepth 100000 in
theorem cloneS_at (B : Nat) (l : List (ByteArray)) (sa : Option Addr) (cap : Nat) (w : World) (hl : SlAt encS 1 w (.slice sa l.length cap) l) (hn : l.length ≤ 1000000) (hB : B ≤ w.heap.size) :
    Calls Tryd.prog 46 #[.slice sa l.length cap] w fun v w' => (∃ sa' cap', v = .returned (.slice sa' l.length cap') ∧ SlOwn encS 1 9 B w' (.slice sa' l.length cap') l) ∧ Below w.heap.size w w' := by
  obtain ⟨i0, hi, hz0, hz1, hz2⟩ := info_parts Tryd.infoOwnp
  have HL : Hid (SlAt encS 1 w (.slice sa l.length cap) l) := hl
  have HN : Hid (l.length ≤ 1000000) := hn
  have HB : Hid (B ≤ w.heap.size) := hB
  clear hl hn hB
  cases sa with
  | none =>
    have h0 : l = [] := by
      obtain ⟨sa', cap', hsl, -, hcc⟩ := HL.out
      cases hsl
      by_cases e : l = []
      · exact e
      · obtain ⟨b, o, h, -⟩ := hcc e
        cases h
    subst h0
    clear HL HN
    have he : ∀ w : World, (binOp .eql 22 (.slice none 0 cap) (.slice none 0 0)).run Tryd.prog w = .ok (.bool true) w := fun w => run_eql_slice_nil w _ _ none 0 cap Tryd.underlying22
    go_enter Tryd.func46, Tryd.ntmps46
    go_wp2
    go_ret
    exact ⟨⟨none, 0, rfl, World.ownsRow_nil _ _ _ _⟩, Below.refl _ _⟩
  | some a =>
    have he : ∀ w : World, (binOp .eql 22 (.slice (some a) l.length cap) (.slice none 0 0)).run Tryd.prog w = .ok (.bool false) w := fun w => run_eql_slice_nil w _ _ (some a) _ cap Tryd.underlying22
    have HC : Hid (∀ V, Below w.heap.size w V → ∀ j u, (l.flatMap encS)[j]? = some u → V.cell? (a.add j) = some u) := fun V hV j u hu => by
      obtain ⟨sa', cap', hsl, -, hcc⟩ := HL.out
      cases hsl
      have hne : l ≠ [] := fun h => by rw [h] at hu; simp at hu
      obtain ⟨b, o, hbo, hc⟩ := hcc hne
      cases hbo
      obtain ⟨i', j', y, e1, h2, h3⟩ := flat_of (enc := encS) (k := 1) (fun _ => rfl) l j u hu
      have := hc i' y h2 j' u h3
      rw [e1, addC_plain, ← Nat.add_assoc]
      exact cell_below hV this
    go_enter Tryd.func46, Tryd.ntmps46
    go_wp2_with (at_builtin; refine wpList_append_own _ rfl _ _ 22 rfl B 9 i0 (.string ⟨#[]⟩) 1 16 Tryd.underlying22 hi hz0 hz1 hz2 rfl (by decide) (.slice (some ⟨w.heap.size, 0, none⟩) 0 0) 0 [] rfl (World.ownsRow_made w #[] 0 HB.out (by unfold maxLen; omega) rfl) a l.length cap (l.flatMap encS) rfl (flat_len (enc := encS) (k := 1) (fun _ => rfl) l) (HC.out _ (Below.one _ _)) (fun u hu => by simp only [List.mem_flatMap] at hu; obtain ⟨y, -, hy⟩ := hu; exact encS_one y u hy) (by have := HN.out; unfold maxLen; omega) (by have := HN.out; omega) (by have := HB.out; simp; omega) ?_; intro v' w1 hown hg hn; obtain ⟨va, vc, rfl⟩ := ow_form hown)
    go_ret
    simp only [Nat.zero_add] at hown
    refine ⟨⟨va, vc, by simp, by simpa [SlOwn] using hown⟩, ?_⟩
    have h1 : Below w.heap.size w (w.alloc (.cells #[] 9)) := Below.one _ _
    exact h1.grown hg h1.size (fun i hi => by simp [Value.ownBlock] at hi; omega)
set_option maxHeartbeats 1000000 in
set_option maxRecDepth 100000 in
theorem cloneG_at (B : Nat) (l : List (GapD)) (sa : Option Addr) (cap : Nat) (w : World) (hl : SlAt encG 4 w (.slice sa l.length cap) l) (hn : l.length ≤ 1000000) (hB : B ≤ w.heap.size) :
    Calls Tryd.prog 47 #[.slice sa l.length cap] w fun v w' => (∃ sa' cap', v = .returned (.slice sa' l.length cap') ∧ SlOwn encG 4 86 B w' (.slice sa' l.length cap') l) ∧ Below w.heap.size w w' := by
  obtain ⟨i0, hi, hz0, hz1, hz2⟩ := info_parts Tryd.infoOwng
  have HL : Hid (SlAt encG 4 w (.slice sa l.length cap) l) := hl
  have HN : Hid (l.length ≤ 1000000) := hn
  have HB : Hid (B ≤ w.heap.size) := hB
  clear hl hn hB
  cases sa with
  | none =>
    have h0 : l = [] := by
      obtain ⟨sa', cap', hsl, -, hcc⟩ := HL.out
      cases hsl
      by_cases e : l = []
      · exact e
      · obtain ⟨b, o, h, -⟩ := hcc e
        cases h
    subst h0
    clear HL HN
    have he : ∀ w : World, (binOp .eql 23 (.slice none 0 cap) (.slice none 0 0)).run Tryd.prog w = .ok (.bool true) w := fun w => run_eql_slice_nil w _ _ none 0 cap Tryd.underlying23
    go_enter Tryd.func47, Tryd.ntmps47
    go_wp2
    go_ret
    exact ⟨⟨none, 0, rfl, World.ownsRow_nil _ _ _ _⟩, Below.refl _ _⟩
  | some a =>
    have he : ∀ w : World, (binOp .eql 23 (.slice (some a) l.length cap) (.slice none 0 0)).run Tryd.prog w = .ok (.bool false) w := fun w => run_eql_slice_nil w _ _ (some a) _ cap Tryd.underlying23
    have HC : Hid (∀ V, Below w.heap.size w V → ∀ j u, (l.flatMap encG)[j]? = some u → V.cell? (a.add j) = some u) := fun V hV j u hu => by
      obtain ⟨sa', cap', hsl, -, hcc⟩ := HL.out
      cases hsl
      have hne : l ≠ [] := fun h => by rw [h] at hu; simp at hu
      obtain ⟨b, o, hbo, hc⟩ := hcc hne
      cases hbo
      obtain ⟨i', j', y, e1, h2, h3⟩ := flat_of (enc := encG) (k := 4) (fun _ => rfl) l j u hu
      have := hc i' y h2 j' u h3
      rw [e1, addC_plain, ← Nat.add_assoc]
      exact cell_below hV this
    go_enter Tryd.func47, Tryd.ntmps47
    go_wp2_with (at_builtin; refine wpList_append_own _ rfl _ _ 23 rfl B 86 i0 (.agg #[.int .i64 0, .int .i64 0, .int .i64 0, .int .i64 0]) 4 32 Tryd.underlying23 hi hz0 hz1 hz2 rfl (by decide) (.slice (some ⟨w.heap.size, 0, none⟩) 0 0) 0 [] rfl (World.ownsRow_made w #[] 0 HB.out (by unfold maxLen; omega) rfl) a l.length cap (l.flatMap encG) rfl (flat_len (enc := encG) (k := 4) (fun _ => rfl) l) (HC.out _ (Below.one _ _)) (fun u hu => by simp only [List.mem_flatMap] at hu; obtain ⟨y, -, hy⟩ := hu; exact encG_one y u hy) (by have := HN.out; unfold maxLen; omega) (by have := HN.out; omega) (by have := HB.out; simp; omega) ?_; intro v' w1 hown hg hn; obtain ⟨va, vc, rfl⟩ := ow_form hown)
    go_ret
    simp only [Nat.zero_add] at hown
    refine ⟨⟨va, vc, by simp, by simpa [SlOwn] using hown⟩, ?_⟩
    have h1 : Below w.heap.size w (w.alloc (.cells #[] 86)) := Below.one _ _
    exact h1.grown hg h1.size (fun i hi => by simp [Value.ownBlock] at hi; omega)
set_option maxHeartbeats 1000000 in
set_option maxRecDepth 100000 in
theorem cloneP_at (B : Nat) (l : List (Int × Int)) (sa : Option Addr) (cap : Nat) (w : World) (hl : SlAt encP 2 w (.slice sa l.length cap) l) (hn : l.length ≤ 1000000) (hB : B ≤ w.heap.size) :
    Calls Tryd.prog 48 #[.slice sa l.length cap] w fun v w' => (∃ sa' cap', v = .returned (.slice sa' l.length cap') ∧ SlOwn encP 2 59 B w' (.slice sa' l.length cap') l) ∧ Below w.heap.size w w' := by
  obtain ⟨i0, hi, hz0, hz1, hz2⟩ := info_parts Tryd.infoOwne
  have HL : Hid (SlAt encP 2 w (.slice sa l.length cap) l) := hl
  have HN : Hid (l.length ≤ 1000000) := hn
  have HB : Hid (B ≤ w.heap.size) := hB
  clear hl hn hB
  cases sa with
  | none =>
    have h0 : l = [] := by
      obtain ⟨sa', cap', hsl, -, hcc⟩ := HL.out
      cases hsl
      by_cases e : l = []
      · exact e
      · obtain ⟨b, o, h, -⟩ := hcc e
        cases h
    subst h0
    clear HL HN
    have he : ∀ w : World, (binOp .eql 24 (.slice none 0 cap) (.slice none 0 0)).run Tryd.prog w = .ok (.bool true) w := fun w => run_eql_slice_nil w _ _ none 0 cap Tryd.underlying24
    go_enter Tryd.func48, Tryd.ntmps48
    go_wp2
    go_ret
    exact ⟨⟨none, 0, rfl, World.ownsRow_nil _ _ _ _⟩, Below.refl _ _⟩
  | some a =>
    have he : ∀ w : World, (binOp .eql 24 (.slice (some a) l.length cap) (.slice none 0 0)).run Tryd.prog w = .ok (.bool false) w := fun w => run_eql_slice_nil w _ _ (some a) _ cap Tryd.underlying24
    have HC : Hid (∀ V, Below w.heap.size w V → ∀ j u, (l.flatMap encP)[j]? = some u → V.cell? (a.add j) = some u) := fun V hV j u hu => by
      obtain ⟨sa', cap', hsl, -, hcc⟩ := HL.out
      cases hsl
      have hne : l ≠ [] := fun h => by rw [h] at hu; simp at hu
      obtain ⟨b, o, hbo, hc⟩ := hcc hne
      cases hbo
      obtain ⟨i', j', y, e1, h2, h3⟩ := flat_of (enc := encP) (k := 2) (fun _ => rfl) l j u hu
      have := hc i' y h2 j' u h3
      rw [e1, addC_plain, ← Nat.add_assoc]
      exact cell_below hV this
    go_enter Tryd.func48, Tryd.ntmps48
    go_wp2_with (at_builtin; refine wpList_append_own _ rfl _ _ 24 rfl B 59 i0 (.agg #[.int .i64 0, .int .i64 0]) 2 16 Tryd.underlying24 hi hz0 hz1 hz2 rfl (by decide) (.slice (some ⟨w.heap.size, 0, none⟩) 0 0) 0 [] rfl (World.ownsRow_made w #[] 0 HB.out (by unfold maxLen; omega) rfl) a l.length cap (l.flatMap encP) rfl (flat_len (enc := encP) (k := 2) (fun _ => rfl) l) (HC.out _ (Below.one _ _)) (fun u hu => by simp only [List.mem_flatMap] at hu; obtain ⟨y, -, hy⟩ := hu; exact encP_one y u hy) (by have := HN.out; unfold maxLen; omega) (by have := HN.out; omega) (by have := HB.out; simp; omega) ?_; intro v' w1 hown hg hn; obtain ⟨va, vc, rfl⟩ := ow_form hown)
    go_ret
    simp only [Nat.zero_add] at hown
    refine ⟨⟨va, vc, by simp, by simpa [SlOwn] using hown⟩, ?_⟩
    have h1 : Below w.heap.size w (w.alloc (.cells #[] 59)) := Below.one _ _
    exact h1.grown hg h1.size (fun i hi => by simp [Value.ownBlock] at hi; omega)
end Go.Proofs.YtpaolneaomeoiabDoor
