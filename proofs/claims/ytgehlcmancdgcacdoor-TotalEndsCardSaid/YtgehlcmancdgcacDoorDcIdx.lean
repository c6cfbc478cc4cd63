/-
  nightwatchref1.Index by a contract. No condition.
-/
import Derived.Test.YtgehlcmancdgcacDoorCfMem0
import Derived.BigQuiet
import Derived.Deep.QuietTactic
import Derived.Deep.DeepCutAuto
import Derived.WalkSmall
import Derived.Deep.RegionHeld3
namespace Go.Proofs.YtgehlcmancdgcacDoor
open Go.RowKit Go.Extern.Stop Go.Stop Go.Extern

/-- The first place of a text (-1: none). -/
def idxOf (l : List ByteArray) (s : ByteArray) : Int := match l.findIdx? (fun y => decide (y = s)) with
  | some i => (i : Int)
  | none => -1
theorem slatS_cell {w : World} {sa : Option Addr} {cap : Nat} {l : List ByteArray} (h : SlAt encS 1 w (.slice sa l.length cap) l) {k : Nat} {x : ByteArray} (hx : l[k]? = some x) : ∃ g o, sa = some ⟨g, o, none⟩ ∧ ∀ i x, l[i]? = some x → w.cell? ⟨g, o + i, none⟩ = some (.string x) := by
  obtain ⟨sa', cap', hsl, -, hcc⟩ := h
  cases hsl
  obtain ⟨g, o, rfl, hc0⟩ := hcc (fun h => by rw [h] at hx; simp at hx)
  exact ⟨g, o, rfl, fun i x hx => by have := hc0 i x hx 0 _ rfl; simpa using this⟩
theorem bytesN {a b : ByteArray} (h : ¬ a = b) : (a.toList == b.toList) = false ∧ ¬ a.toList = b.toList := by
  have h2 : ¬ a.toList = b.toList := fun e => by
    rw [ByteArray.toList_eq, ByteArray.toList_eq] at e
    apply h
    obtain ⟨⟨a⟩⟩ := a; obtain ⟨⟨b⟩⟩ := b
    simp at e
    subst e; rfl
  exact ⟨by simpa using h2, h2⟩
theorem idxOf_at {l : List ByteArray} {s : ByteArray} {k : Nat} (hk : l[k]? = some s) (h : ∀ j x, j < k → l[j]? = some x → x ≠ s) : idxOf l s = k := by
  have : l.findIdx? (fun y => decide (y = s)) = some k := by
    rw [List.findIdx?_eq_some_iff_getElem]
    obtain ⟨hlt, e⟩ := List.getElem?_eq_some_iff.1 hk
    exact ⟨hlt, by simp [e], fun j hj => by simpa using h j _ hj (List.getElem?_eq_getElem (by omega))⟩
  unfold idxOf; rw [this]
theorem idxOf_no {l : List ByteArray} {s : ByteArray} (h : ∀ j x, j < l.length → l[j]? = some x → x ≠ s) : idxOf l s = -1 := by
  have : l.findIdx? (fun y => decide (y = s)) = none := by
    rw [List.findIdx?_eq_none_iff]
    intro y hy
    obtain ⟨j, hj⟩ := List.getElem?_of_mem hy
    have hjl : j < l.length := by
      rcases Nat.lt_or_ge j l.length with h' | h'
      · exact h'
      · rw [List.getElem?_eq_none h'] at hj; cases hj
    simpa using h j y hjl hj
  unfold idxOf; rw [this]
set_option maxRecDepth 100000 in
theorem index_at (l : List ByteArray) (s : ByteArray) (sa : Option Addr) (cap : Nat) (w : World) (h : SlAt encS 1 w (.slice sa l.length cap) l) (hn : l.length ≤ 1000000) :
    Calls Tryd.prog 30 #[.slice sa l.length cap, .string s] w fun e w' => e = .returned (.int .i64 (idxOf l s)) ∧ w' = w := by
  have HL : Hid (SlAt encS 1 w (.slice sa l.length cap) l) := h
  clear h
  go_enter Tryd.func30, Tryd.ntmps30
  go_wp2_with fail
  go_loopw [5] (fun i wr => wr = w ∧ ∃ k : Nat, k ≤ l.length ∧ i = .int .i64 k ∧ ∀ j x, j < k → l[j]? = some x → x ≠ s) (fun i _ => l.length - (intOf i).toNat)
  case atStart => exact ⟨rfl, 0, Nat.zero_le _, rfl, fun j x hj => absurd hj (by omega)⟩
  case round =>
    obtain ⟨rfl, k, hk, rfl, hno⟩ := hrel
    have HN : Hid (∀ j x, j < k → l[j]? = some x → x ≠ s) := hno
    clear hno
    by_cases hlt : k < l.length
    · have k1 : (k : Int) < (l.length : Int) := by omega
      obtain ⟨x, hx⟩ : ∃ x, l[k]? = some x := ⟨_, List.getElem?_eq_getElem hlt⟩
      have HX : Hid (l[k]? = some x) := hx
      obtain ⟨g, o, rfl, hc⟩ := slatS_cell HL.out hx
      have c0 := hc k x hx
      clear hc hx
      by_cases e : x = s
      · subst e
        have HE : Hid (idxOf l x = k) := idxOf_at HX.out HN.out
        go_wp2
        go_ret
        exact ⟨by rw [HE.out]; rfl, rfl⟩
      · have n1 := (bytesN e).1
        have n2 := (bytesN e).2
        go_wp2_with fail
        go_roundw
        case rel =>
          refine ⟨trivial, k + 1, by omega, by go_num, fun j y hj hy => ?_⟩
          rcases Nat.lt_or_ge j k with h1 | h1
          · exact HN.out j y h1 hy
          · obtain rfl : j = k := by omega
            rw [HX.out] at hy
            cases hy
            exact e
        case measure => simp [intOf]; omega
    · have k1 : ¬ (k : Int) < (l.length : Int) := by omega
      have HE : Hid (idxOf l s = -1) := idxOf_no (fun j x hj hx => HN.out j x (by omega) hx)
      go_wp2
      go_ret
      exact ⟨by rw [HE.out]; rfl, rfl⟩
end Go.Proofs.YtgehlcmancdgcacDoor
