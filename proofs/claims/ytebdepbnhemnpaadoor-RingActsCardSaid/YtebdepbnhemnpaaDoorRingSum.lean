/-
  The sum of a record's bytes: plain numbers, and ring.sum's contract. Condition: the bytes lie in memory.
-/
import Derived.Test.YtebdepbnhemnpaaDoorCellsMore
import Derived.Laws.BitsAllLaws
namespace Go.Proofs.YtebdepbnhemnpaaDoor
open Go.RowKit Go.Extern.Stop Go.Stop Go.Extern

def crcStep (s : Nat) : Nat := (s / 2) ^^^ (3988292384 * (s % 2))
def crcSteps : Nat → Nat → Nat
  | 0, s => s
  | k + 1, s => crcSteps k (crcStep s)
def crcFrom (s : Nat) (l : List UInt8) : Nat := l.foldl (fun s v => crcSteps 8 (s ^^^ v.toNat)) s
def crc (l : List UInt8) : Nat := 4294967295 ^^^ crcFrom 4294967295 l

theorem crcStep_lt {s : Nat} (h : s < 4294967296) : crcStep s < 4294967296 :=
  Nat.xor_lt_two_pow (n := 32) (by omega) (by omega)
theorem crcSteps_lt (k : Nat) : ∀ {s : Nat}, s < 4294967296 → crcSteps k s < 4294967296 := by
  induction k with
  | zero => intro s h; exact h
  | succ k ih => intro s h; exact ih (crcStep_lt h)
theorem crcByte_lt {s : Nat} (h : s < 4294967296) (v : UInt8) : s ^^^ v.toNat < 4294967296 :=
  Nat.xor_lt_two_pow (n := 32) h (by have := v.toNat_lt; omega)
theorem crcFrom_lt (l : List UInt8) : ∀ {s : Nat}, s < 4294967296 → crcFrom s l < 4294967296 := by
  induction l with
  | nil => intro s h; exact h
  | cons v r ih => intro s h; exact ih (crcSteps_lt 8 (crcByte_lt h v))
theorem crc_lt (l : List UInt8) : crc l < 4294967296 := Nat.xor_lt_two_pow (n := 32) (by decide) (crcFrom_lt l (by decide))

theorem xor_byte (n : Nat) (v : UInt8) (hn : n < 4294967296) : bits BinOp.xor IntKind.u32 (n : Int) ((v.toNat : Int) % 4294967296) = ((n ^^^ v.toNat : Nat) : Int) := by
  have := v.toNat_lt
  rw [show ((v.toNat : Int) % 4294967296) = ((v.toNat : Nat) : Int) by omega]
  exact u32_xor_nat n v.toNat hn (by omega)
theorem and_one (m : Nat) : m &&& 1 = m % 2 := by rw [show (1:Nat) = 2 ^ 1 - 1 from rfl, Nat.and_two_pow_sub_one_eq_mod]
theorem step_val (m : Nat) (hm : m < 4294967296) : bits BinOp.xor IntKind.u32 ((m : Int) / 2) (3988292384 * bits BinOp.and IntKind.u32 (m : Int) 1 % 4294967296) = ((crcStep m : Nat) : Int) := by
  have h1 : bits BinOp.and IntKind.u32 (m : Int) 1 = ((m % 2 : Nat) : Int) := by
    have := u32_and_nat m 1 hm (by decide)
    rw [and_one] at this
    exact this
  rw [h1, show ((m : Int) / 2) = ((m / 2 : Nat) : Int) by omega, show ((3988292384 * ((m % 2 : Nat) : Int)) % 4294967296) = ((3988292384 * (m % 2) : Nat) : Int) by omega]
  exact u32_xor_nat _ _ (by omega) (by omega)

set_option maxHeartbeats 1000000 in
theorem sum_any (a : Addr) (c : Nat) (l : List UInt8) (w : World) (hc : ∀ i (hi : i < l.length), w.cell? (a.add i) = some (.int .u8 (l[i].toNat : Int))) (hl : l.length ≤ 4096) :
    Calls Tryd.prog 86 #[.slice (some a) l.length c] w fun e w' => e = .returned (.int .u32 (crc l : Nat)) ∧ w' = w := by
  go_enter Tryd.func86, Tryd.ntmps86
  go_wp2_with fail
  go_loopw [3, 8] (fun s i wr => ∃ (k n : Nat), k ≤ l.length ∧ n < 4294967296 ∧ i = .int .i64 k ∧ s = .int .u32 (n : Int) ∧ crcFrom n (l.drop k) = crcFrom 4294967295 l ∧ wr = w) (fun _ i _ => l.length - (intOf i).toNat)
  case atStart => exact ⟨0, 4294967295, Nat.zero_le _, by decide, rfl, rfl, by simp, rfl⟩
  case round =>
    obtain ⟨k, n, hk, hn, rfl, rfl, hcr, rfl⟩ := hrel
    by_cases hlt : k < l.length
    · have hcell := hc k hlt
      have HB : Hid (n ^^^ l[k].toNat < 4294967296) := crcByte_lt hn _
      have HX : Hid _ := xor_byte n l[k] hn
      have HN : Hid (crcFrom (crcSteps 8 (n ^^^ l[k].toNat)) (l.drop (k + 1)) = crcFrom 4294967295 l) := by
        show _ = _
        rw [← hcr, List.drop_eq_getElem_cons hlt]; rfl
      clear hcr
      go_wp2_with fail
      rw [HX.out]
      go_loopw [3, 16] (fun s i wx => ∃ (j m : Nat), j ≤ 8 ∧ m < 4294967296 ∧ i = .int .i64 j ∧ s = .int .u32 (m : Int) ∧ crcSteps (8 - j) m = crcSteps 8 (n ^^^ l[k].toNat) ∧ wx = wr) (fun _ i _ => 8 - (intOf i).toNat)
      case atStart => exact ⟨0, _, Nat.zero_le _, HB.out, rfl, rfl, rfl, rfl⟩
      case round =>
        obtain ⟨j, m, hj, hm, rfl, rfl, hst, rfl⟩ := hrel
        by_cases hj8 : j < 8
        · have HS : Hid _ := step_val m hm
          have HM : Hid (crcStep m < 4294967296) := crcStep_lt hm
          have HT : Hid (crcSteps (8 - (j + 1)) (crcStep m) = crcSteps 8 (n ^^^ l[k].toNat)) := by
            show _ = _
            rw [← hst, show 8 - j = 8 - (j + 1) + 1 by omega]; rfl
          clear hst hm
          go_wp2_with fail
          rw [HS.out]
          go_roundw
          case rel => exact ⟨j + 1, crcStep m, by omega, HM.out, by go_num, rfl, HT.out, trivial⟩
          case measure => simp [intOf]; omega
        · have ej : j = 8 := by omega
          subst ej
          have HT : Hid (m = crcSteps 8 (n ^^^ l[k].toNat)) := hst
          clear hst
          go_wp2_with fail
          go_roundw
          case rel => exact ⟨k + 1, m, by omega, hm, by go_num, rfl, by rw [HT.out]; exact HN.out, trivial⟩
          case measure => simp [intOf]; omega
    · have HR : Hid (((n ^^^ 4294967295 : Nat) : Int) = ((crc l : Nat) : Int)) := by
        show _ = _
        have : l.drop k = [] := List.drop_eq_nil_of_le (by omega)
        rw [this] at hcr
        unfold crc
        rw [← hcr, Nat.xor_comm]; rfl
      clear hcr
      have HX : Hid (bits BinOp.xor IntKind.u32 IntKind.u32.max (n : Int) = ((crc l : Nat) : Int)) := by
        show _ = _
        rw [show IntKind.u32.max = ((4294967295 : Nat) : Int) from rfl, u32_xor_nat _ _ (by decide) hn, Nat.xor_comm]
        exact HR.out
      go_wp2
      go_ret
      rw [HX.out]
      exact ⟨rfl, rfl⟩
end Go.Proofs.YtebdepbnhemnpaaDoor
