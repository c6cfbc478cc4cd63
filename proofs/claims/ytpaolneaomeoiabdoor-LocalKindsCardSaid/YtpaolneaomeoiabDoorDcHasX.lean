/-
  The document's Has by a contract. Conditions: the list lies in memory, at most a million long.
-/
import Derived.Test.YtpaolneaomeoiabDoorMemX
import Derived.Deep.RegionHeld3
namespace Go.Proofs.YtpaolneaomeoiabDoor
open Go.RowKit Go.Extern.Stop Go.Stop Go.Extern

theorem slatI_cell {w : World} {sa : Option Addr} {cap : Nat} {l : List Int} (h : SlAt encI 1 w (.slice sa l.length cap) l) {k : Nat} {x : Int} (hx : l[k]? = some x) : ∃ g o, sa = some ⟨g, o, none⟩ ∧ ∀ i x, l[i]? = some x → w.cell? ⟨g, o + i, none⟩ = some (.int .i64 x) := by
  obtain ⟨sa', cap', hsl, -, hcc⟩ := h
  cases hsl
  obtain ⟨g, o, rfl, hc0⟩ := hcc (fun h => by rw [h] at hx; simp at hx)
  exact ⟨g, o, rfl, fun i x hx => by have := hc0 i x hx 0 _ rfl; simpa using this⟩
set_option maxRecDepth 100000 in
theorem has_at (l : List Int) (n : Int) (sa : Option Addr) (cap : Nat) (w : World) (h : SlAt encI 1 w (.slice sa l.length cap) l) (hn : l.length ≤ 1000000) :
    Calls Tryd.prog 33 #[.slice sa l.length cap, .int .i64 n] w fun e w' => e = .returned (.bool (l.any fun y => decide (n = y))) ∧ w' = w := by
  have HL : Hid (SlAt encI 1 w (.slice sa l.length cap) l) := h
  clear h
  go_enter Tryd.func33, Tryd.ntmps33
  go_wp2_with fail
  go_loopw [5] (fun i wr => wr = w ∧ ∃ k : Nat, k ≤ l.length ∧ i = .int .i64 k ∧ ∀ j x, j < k → l[j]? = some x → n ≠ x) (fun i _ => l.length - (intOf i).toNat)
  case atStart => exact ⟨rfl, 0, Nat.zero_le _, rfl, fun j x hj => absurd hj (by omega)⟩
  case round =>
    obtain ⟨rfl, k, hk, rfl, hno⟩ := hrel
    have HN : Hid (∀ j x, j < k → l[j]? = some x → n ≠ x) := hno
    clear hno
    by_cases hlt : k < l.length
    · have k1 : (k : Int) < (l.length : Int) := by omega
      obtain ⟨x, hx⟩ : ∃ x, l[k]? = some x := ⟨_, List.getElem?_eq_getElem hlt⟩
      have HX : Hid (l[k]? = some x) := hx
      obtain ⟨g, o, rfl, hc⟩ := slatI_cell HL.out hx
      have c0 := hc k x hx
      clear hc hx
      by_cases e : x = n
      · subst e
        have HE : Hid ((l.any fun y => decide (x = y)) = true) := by show _ = _; rw [List.any_eq_true]; exact ⟨x, List.mem_of_getElem? HX.out, by simp⟩
        go_wp2
        go_ret
        exact ⟨by rw [HE.out]; rfl, rfl⟩
      · go_wp2_with fail
        go_roundw
        case rel =>
          refine ⟨trivial, k + 1, by omega, by go_num, fun j y hj hy => ?_⟩
          rcases Nat.lt_or_ge j k with h1 | h1
          · exact HN.out j y h1 hy
          · obtain rfl : j = k := by omega
            rw [HX.out] at hy
            cases hy
            exact fun e2 => e e2.symm
        case measure => simp [intOf]; omega
    · have k1 : ¬ (k : Int) < (l.length : Int) := by omega
      have HE : Hid ((l.any fun y => decide (n = y)) = false) := by
        show _ = _
        rw [List.any_eq_false]
        intro y hy
        obtain ⟨j, hj⟩ := List.getElem?_of_mem hy
        have hjl : j < l.length := by
          rcases Nat.lt_or_ge j l.length with h' | h'
          · exact h'
          · rw [List.getElem?_eq_none h'] at hj; cases hj
        simpa using HN.out j y (by omega) hj
      go_wp2
      go_ret
      exact ⟨by rw [HE.out]; rfl, rfl⟩
/-- The first place of a text (-1: none). -/
def idxOf (l : List ByteArray) (s : ByteArray) : Int := match l.findIdx? (fun y => decide (y = s)) with
  | some i => (i : Int)
  | none => -1
end Go.Proofs.YtpaolneaomeoiabDoor
