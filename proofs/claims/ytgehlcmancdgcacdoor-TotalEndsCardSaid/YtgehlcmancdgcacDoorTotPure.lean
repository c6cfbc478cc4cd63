/-
  All entities together, pure: the status of all ('TSt'), a cycle's end ('TSt.fin'), and what comes behind expired ('behind'). No condition.
-/
import Derived.Test.YtgehlcmancdgcacDoorCfPure
namespace Go.Proofs.YtgehlcmancdgcacDoor
open Go

/-- Delay, cycles since it expired, the status (0 ok, 1 failed, 2 expired, 3 stopped). -/
structure TSt where
  delay : Nat
  since : Nat
  st : Nat
def failedB : ByteArray := ⟨#[102, 97, 105, 108, 101, 100]⟩
def expiredB : ByteArray := ⟨#[101, 120, 112, 105, 114, 101, 100]⟩
def totB : Nat → ByteArray
  | 0 => ⟨#[111, 107]⟩
  | 1 => failedB
  | 2 => expiredB
  | _ => ⟨#[115, 116, 111, 112, 112, 101, 100]⟩
def hasB (l : List ByteArray) (x : ByteArray) : Bool := l.any fun y => decide (y = x)
def worstOf (l : List ByteArray) : Nat := if hasB l expiredB = true then 2 else if hasB l failedB = true then 1 else 0
def TSt.new (d : Nat) : TSt := ⟨d, 0, 0⟩
/-- Expired becomes stopped, when it is time. -/
def TSt.cut (s : TSt) : TSt := if s.st = 2 ∧ s.since = s.delay then { s with st := 3 } else s
def TSt.fin (s : TSt) (l : List ByteArray) : TSt :=
  if s.st = 3 then s else if s.st = 2 then TSt.cut ⟨s.delay, s.since + 1, 2⟩ else TSt.cut ⟨s.delay, 0, worstOf l⟩
structure TFit (s : TSt) (k : Nat) : Prop where
  d : s.delay ≤ 20
  s0 : s.since ≤ k
  lt : s.st = 2 → s.since < s.delay
  st : s.st ≤ 3
  z : s.st < 2 → s.since = 0
theorem worst_le (l : List ByteArray) : worstOf l ≤ 2 := by unfold worstOf; split; omega; split <;> omega
theorem TFit.new {d : Nat} (h : d ≤ 20) : TFit (TSt.new d) 0 := ⟨h, Nat.le_refl _, fun e => absurd e (show ¬ (0 : Nat) = 2 by decide), Nat.zero_le _, fun _ => rfl⟩
theorem TFit.fin {s : TSt} {k : Nat} (h : TFit s k) (l : List ByteArray) : TFit (s.fin l) (k + 1) := by
  unfold TSt.fin
  split
  · exact ⟨h.d, Nat.le_trans h.s0 (by omega), h.lt, h.st, h.z⟩
  · split
    · rename_i h2
      have h3 := h.lt h2
      have h4 := h.s0
      unfold TSt.cut
      split
      · exact ⟨h.d, by show s.since + 1 ≤ _; omega, fun e => absurd e (show ¬ (3 : Nat) = 2 by decide), Nat.le_refl 3, fun e => by have : (3 : Nat) < 2 := e; omega⟩
      · rename_i h5
        exact ⟨h.d, by show s.since + 1 ≤ _; omega, fun _ => by show s.since + 1 < s.delay; simp only [true_and] at h5; omega, by show 2 ≤ 3; omega, fun e => by have : (2 : Nat) < 2 := e; omega⟩
    · have hw := worst_le l
      unfold TSt.cut
      split
      · exact ⟨h.d, Nat.zero_le _, fun e => absurd e (show ¬ (3 : Nat) = 2 by decide), Nat.le_refl 3, fun e => by have : (3 : Nat) < 2 := e; omega⟩
      · rename_i h5
        exact ⟨h.d, Nat.zero_le _, fun e => by show 0 < s.delay; have e' : worstOf l = 2 := e; simp only [e', true_and] at h5; omega, by show worstOf l ≤ 3; omega, fun _ => rfl⟩
/-- i cycles behind the one at which it expired. -/
def behind (d i : Nat) : TSt := if i < d then ⟨d, i, 2⟩ else ⟨d, d, 3⟩
theorem behind_fin (d i : Nat) (l : List ByteArray) : (behind d i).fin l = behind d (i + 1) := by
  unfold behind
  by_cases h1 : i < d
  · rw [if_pos h1]
    unfold TSt.fin
    rw [if_neg (show ¬ (2 : Nat) = 3 by decide), if_pos rfl]
    unfold TSt.cut
    by_cases h2 : i + 1 < d
    · rw [if_pos h2]
      show (if (2 : Nat) = 2 ∧ i + 1 = d then (⟨d, i + 1, 3⟩ : TSt) else ⟨d, i + 1, 2⟩) = _
      rw [if_neg (by omega)]
    · obtain rfl : i + 1 = d := by omega
      rw [if_neg h2]
      show (if (2 : Nat) = 2 ∧ i + 1 = i + 1 then (⟨i + 1, i + 1, 3⟩ : TSt) else ⟨i + 1, i + 1, 2⟩) = _
      rw [if_pos ⟨rfl, rfl⟩]
  · rw [if_neg h1, if_neg (by omega)]
    unfold TSt.fin
    rw [if_pos rfl]
theorem first_fin {s : TSt} (h : s.st < 2) {l : List ByteArray} (hl : hasB l expiredB = true) : s.fin l = behind s.delay 0 := by
  unfold TSt.fin behind
  rw [if_neg (by omega), if_neg (by omega)]
  have : worstOf l = 2 := by unfold worstOf; rw [if_pos hl]
  rw [this]
  unfold TSt.cut
  by_cases h2 : 0 < s.delay
  · rw [if_pos h2]
    show (if (2 : Nat) = 2 ∧ 0 = s.delay then (⟨s.delay, 0, 3⟩ : TSt) else ⟨s.delay, 0, 2⟩) = _
    rw [if_neg (by omega)]
  · rw [if_neg h2]
    have : s.delay = 0 := by omega
    rw [this]
    rfl
end Go.Proofs.YtgehlcmancdgcacDoor
