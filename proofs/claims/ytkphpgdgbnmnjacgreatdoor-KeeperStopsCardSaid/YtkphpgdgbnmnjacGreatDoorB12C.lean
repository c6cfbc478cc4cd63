/-
  Several texts as one: CellsMore, RingSum, RingNum, RingEnc, RingDec.
-/
import Derived.Test.YtkphpgdgbnmnjacGreatDoorB11C
import Derived.Laws.IdiomStrings
import Derived.Laws.BitsAllLaws
import Derived.Laws.ShiftsVarLaws
import Derived.Deep.AppendLies
import Derived.Laws.MakeOwn
import Derived.Deep.DeepCutAuto
import Derived.Lib.BufferWrite
import Derived.Deep.RegionHeld3
import Derived.Laws.ResultCell
namespace Go.Proofs.YtkphpgdgbnmnjacGreatDoor
open Go.RowKit Go.Extern.Stop Go.Stop Go.Extern

set_option maxHeartbeats 1000000 in
theorem write_no4 (A : Nat → Addr) (b : Nat) (s : CSt) (p : Int) (t : ByteArray) (j : Nat) (w : World) (h : CellsAt w b s) (hs : Sen4 A w) (hp : p ≤ 9223372036854775807) (he : s.err p t.size = j + 1) :
    Calls Tryz.prog 211 #[.pointer (some ⟨b, 0, none⟩), .int .i64 p, .string t] w fun e w' => e = .returned (errVal A (j + 1)) ∧ w' = w := by
  have HE : Hid (s.err p t.size = j + 1) := he
  clear he
  go_enter Tryz.func211, Tryz.ntmps211
  go_wp2_with fail
  refine (check_any4 A b s p t.size _ h hs hp).mono ?_
  rintro e w1 ⟨rfl, rfl⟩
  rw [HE.out]
  unfold errVal
  go_wp2
  go_ret
  exact ⟨rfl, rfl⟩

set_option maxHeartbeats 1000000 in
theorem cut_on (b : Nat) (s : CSt) (n : Nat) (w : World) (h : CellsAt w b s) (ho : s.off = false) :
    Calls Tryz.prog 28 #[.pointer (some ⟨b, 0, none⟩), .int .i64 (n : Int)] w fun e w' => e = .returned .nilIface ∧ CellsAt w' b { s with cut := true, left := n } ∧ w.grownBy w' (some b) ∧ w'.heap.size = w.heap.size := by
  have c2 := h.c2
  have c3 := h.c3
  have c4 := h.c4
  have f3 := h.frozen 4099
  have f4 := h.frozen 4100
  have g0 : ¬ (n : Int) < 0 := by omega
  rw [ho] at c2
  have R := (h.set3 true).set4 n
  clear h ho
  go_enter Tryz.func28, Tryz.ntmps28
  go_wp2
  go_ret
  exact ⟨rfl, R, grown_set (grown_set (grown_refl _ _) _ _) _ _, by simp⟩
theorem cut_low4 (A : Nat → Addr) (b : Nat) (n : Int) (w : World) (hs : Sen4 A w) (hn : n < 0) :
    Calls Tryz.prog 28 #[.pointer (some ⟨b, 0, none⟩), .int .i64 n] w fun e w' => e = .returned (errVal A 2) ∧ w' = w := by
  have g1 := hs.c1
  go_enter Tryz.func28, Tryz.ntmps28
  go_wp2
  go_ret
  exact ⟨rfl, rfl⟩
theorem cut_off4 (A : Nat → Addr) (b : Nat) (s : CSt) (n : Int) (w : World) (h : CellsAt w b s) (hs : Sen4 A w) (hn : ¬ n < 0) (ho : s.off = true) :
    Calls Tryz.prog 28 #[.pointer (some ⟨b, 0, none⟩), .int .i64 n] w fun e w' => e = .returned (errVal A 8) ∧ w' = w := by
  have g7 := hs.c7
  have c2 := h.c2
  rw [ho] at c2
  go_enter Tryz.func28, Tryz.ntmps28
  go_wp2
  go_ret
  exact ⟨rfl, rfl⟩

theorem Tryz.arrT : Tryz.prog.underlying 100 = some (.array (Tryz.prog.arrayLen 100) (Tryz.prog.elem 100)) := by kernel_rfl
theorem Tryz.arrN : Tryz.prog.arrayLen 100 = 4096 := by kernel_rfl
theorem Tryz.arrE (W : World) : (sizeOf (Tryz.prog.elem 100)).run Tryz.prog W = .ok 1 W := by kernel_rfl
theorem slice_part (b p q : Nat) (hp : p ≤ q) (hq : q ≤ 4096) (W : World) : ∃ a c, (Instr.sliceAt 100 (.pointer (some ⟨b, 0, none⟩)) (some (.int .i64 (p : Int))) (some (.int .i64 (q : Int))) none).run Tryz.prog W = .ok (.slice (some a) (q - p) c) W ∧ (a = ⟨b, p, none⟩ ∨ p = 4096) := by
  refine ⟨if 4096 = p then ⟨b, 0, none⟩ else (⟨b, 0, none⟩ : Addr).add p, 4096 - p, ?_, ?_⟩
  · rw [run_sliceAt_array_lh W _ _ Tryz.arrT .i64 .i64 (p : Int) (q : Int) (by omega) (by omega) (by rw [Tryz.arrN]; omega), Tryz.arrE, Tryz.arrN]
    simp [Result.andThen, slicedAt]
  · by_cases h : 4096 = p
    · exact Or.inr h.symm
    · left; rw [if_neg h]; unfold Addr.add; split <;> simp_all

theorem conv_part (b : Nat) (s : CSt) (p n c : Nat) (w : World) (h : CellsAt w b s) (hf : p + n ≤ 4096) :
    (convert 111 9 (.slice (some ⟨b, p, none⟩) n c)).run Tryz.prog w = .ok (.string ⟨((s.bytes.drop p).take n).toArray⟩) w := by
  have hl : ((s.bytes.drop p).take n).length = n := by rw [List.length_take, List.length_drop, h.len]; omega
  have := run_convert_bytes_back (P := Tryz.prog) w 111 9 5 ⟨b, p, none⟩ c ((s.bytes.drop p).take n) Tryz.underlying111 Tryz.underlying5 Tryz.underlying9 (fun j hj => by
    have hj' : j < n := by rw [hl] at hj; exact hj
    have e := h.byte (p + j) (by omega)
    have ea : (⟨b, p, none⟩ : Addr).add j = ⟨b, p + j, none⟩ := by unfold Addr.add; split <;> simp_all
    rw [ea, e]
    simp)
  rw [hl] at this
  exact this

theorem conv_none (a : Addr) (c : Nat) (w : World) :
    (convert 111 9 (.slice (some a) 0 c)).run Tryz.prog w = .ok (.string ⟨#[]⟩) w :=
  run_convert_bytes_back (P := Tryz.prog) w 111 9 5 a c [] Tryz.underlying111 Tryz.underlying5 Tryz.underlying9 (fun j hj => by simp at hj)

theorem CellsAt.drewN {w : World} {b : Nat} {s : CSt} (h : CellsAt w b s) (q : Nat) : CellsAt (w.drewN q) b s := ⟨h.heap, h.len, h.size⟩

set_option maxHeartbeats 1000000 in
/-- Read(p, n), where check lets it. -/
theorem read_on4 (A : Nat → Addr) (b : Nat) (s : CSt) (p n : Nat) (w : World) (h : CellsAt w b s) (hs : Sen4 A w) (he : s.err p n = 0) :
    Calls Tryz.prog 93 #[.pointer (some ⟨b, 0, none⟩), .int .i64 (p : Int), .int .i64 (n : Int)] w fun e w' => e = .returned (.tuple #[.string ⟨((s.bytes.drop p).take n).toArray⟩, .nilIface]) ∧ w' = w := by
  have hfit : p + n ≤ s.size := by
    unfold CSt.err at he
    split at he
    · cases he
    · omega
  have hz := h.size
  have HE : Hid (s.err p n = 0) := he
  clear he
  obtain ⟨a, c, sl, ha⟩ := slice_part b p (p + n) (by omega) (by omega) w
  have en : p + n - p = n := by omega
  have ep : ((p + n : Nat) : Int) = (p : Int) + (n : Int) := by omega
  rw [en, ep] at sl
  have cv : (convert 111 9 (.slice (some a) n c)).run Tryz.prog w = .ok (.string ⟨((s.bytes.drop p).take n).toArray⟩) w := by
    rcases ha with rfl | hp
    · exact conv_part b s p n c w h (by omega)
    · have hn : n = 0 := by omega
      subst hn
      rw [conv_none]; simp
  clear ep en ha
  go_enter Tryz.func93, Tryz.ntmps93
  go_wp2_with fail
  refine (check_any4 A b s p n _ h hs (by omega)).mono ?_
  rintro e w1 ⟨rfl, rfl⟩
  rw [HE.out]
  unfold errVal
  go_wp2
  go_ret2
  exact ⟨rfl, rfl⟩

set_option maxHeartbeats 1000000 in
theorem read_no4 (A : Nat → Addr) (b : Nat) (s : CSt) (p n : Int) (j : Nat) (w : World) (h : CellsAt w b s) (hs : Sen4 A w) (hp : p ≤ 9223372036854775807) (he : s.err p n = j + 1) :
    Calls Tryz.prog 93 #[.pointer (some ⟨b, 0, none⟩), .int .i64 p, .int .i64 n] w fun e w' => e = .returned (.tuple #[.string ⟨#[]⟩, errVal A (j + 1)]) ∧ w' = w := by
  have HE : Hid (s.err p n = j + 1) := he
  clear he
  go_enter Tryz.func93, Tryz.ntmps93
  go_wp2_with fail
  refine (check_any4 A b s p n _ h hs hp).mono ?_
  rintro e w1 ⟨rfl, rfl⟩
  rw [HE.out]
  unfold errVal
  go_wp2
  go_ret2
  exact ⟨rfl, rfl⟩
end Go.Proofs.YtkphpgdgbnmnjacGreatDoor

namespace Go.Proofs.YtkphpgdgbnmnjacGreatDoor
open Go.RowKit Go.Extern.Stop Go.Stop Go.Extern

def crcStep (s : Nat) : Nat := (s / 2) ^^^ (3988292384 * (s % 2))
def crcSteps : Nat → Nat → Nat
  | 0, s => s
  | k + 1, s => crcSteps k (crcStep s)
def crcFrom (s : Nat) (l : List UInt8) : Nat := l.foldl (fun s v => crcSteps 8 (s ^^^ v.toNat)) s
def crc (l : List UInt8) : Nat := 4294967295 ^^^ crcFrom 4294967295 l

theorem crcStep_lt {s : Nat} (h : s < 4294967296) : crcStep s < 4294967296 :=
  Nat.xor_lt_two_pow (n := 32) (by omega) (by omega)
theorem crcSteps_lt (k : Nat) : ∀ {s : Nat}, s < 4294967296 → crcSteps k s < 4294967296 := by
  induction k with
  | zero => intro s h; exact h
  | succ k ih => intro s h; exact ih (crcStep_lt h)
theorem crcByte_lt {s : Nat} (h : s < 4294967296) (v : UInt8) : s ^^^ v.toNat < 4294967296 :=
  Nat.xor_lt_two_pow (n := 32) h (by have := v.toNat_lt; omega)
theorem crcFrom_lt (l : List UInt8) : ∀ {s : Nat}, s < 4294967296 → crcFrom s l < 4294967296 := by
  induction l with
  | nil => intro s h; exact h
  | cons v r ih => intro s h; exact ih (crcSteps_lt 8 (crcByte_lt h v))
theorem crc_lt (l : List UInt8) : crc l < 4294967296 := Nat.xor_lt_two_pow (n := 32) (by decide) (crcFrom_lt l (by decide))

theorem xor_byte (n : Nat) (v : UInt8) (hn : n < 4294967296) : bits BinOp.xor IntKind.u32 (n : Int) ((v.toNat : Int) % 4294967296) = ((n ^^^ v.toNat : Nat) : Int) := by
  have := v.toNat_lt
  rw [show ((v.toNat : Int) % 4294967296) = ((v.toNat : Nat) : Int) by omega]
  exact u32_xor_nat n v.toNat hn (by omega)
theorem and_one (m : Nat) : m &&& 1 = m % 2 := by rw [show (1:Nat) = 2 ^ 1 - 1 from rfl, Nat.and_two_pow_sub_one_eq_mod]
theorem step_val (m : Nat) (hm : m < 4294967296) : bits BinOp.xor IntKind.u32 ((m : Int) / 2) (3988292384 * bits BinOp.and IntKind.u32 (m : Int) 1 % 4294967296) = ((crcStep m : Nat) : Int) := by
  have h1 : bits BinOp.and IntKind.u32 (m : Int) 1 = ((m % 2 : Nat) : Int) := by
    have := u32_and_nat m 1 hm (by decide)
    rw [and_one] at this
    exact this
  rw [h1, show ((m : Int) / 2) = ((m / 2 : Nat) : Int) by omega, show ((3988292384 * ((m % 2 : Nat) : Int)) % 4294967296) = ((3988292384 * (m % 2) : Nat) : Int) by omega]
  exact u32_xor_nat _ _ (by omega) (by omega)

set_option maxHeartbeats 1000000 in
theorem sum_any (a : Addr) (c : Nat) (l : List UInt8) (w : World) (hc : ∀ i (hi : i < l.length), w.cell? (a.add i) = some (.int .u8 (l[i].toNat : Int))) (hl : l.length ≤ 4096) :
    Calls Tryz.prog 168 #[.slice (some a) l.length c] w fun e w' => e = .returned (.int .u32 (crc l : Nat)) ∧ w' = w := by
  go_enter Tryz.func168, Tryz.ntmps168
  go_wp2_with fail
  go_loopw [3, 8] (fun s i wr => ∃ (k n : Nat), k ≤ l.length ∧ n < 4294967296 ∧ i = .int .i64 k ∧ s = .int .u32 (n : Int) ∧ crcFrom n (l.drop k) = crcFrom 4294967295 l ∧ wr = w) (fun _ i _ => l.length - (intOf i).toNat)
  case atStart => exact ⟨0, 4294967295, Nat.zero_le _, by decide, rfl, rfl, by simp, rfl⟩
  case round =>
    obtain ⟨k, n, hk, hn, rfl, rfl, hcr, rfl⟩ := hrel
    by_cases hlt : k < l.length
    · have hcell := hc k hlt
      have HB : Hid (n ^^^ l[k].toNat < 4294967296) := crcByte_lt hn _
      have HX : Hid _ := xor_byte n l[k] hn
      have HN : Hid (crcFrom (crcSteps 8 (n ^^^ l[k].toNat)) (l.drop (k + 1)) = crcFrom 4294967295 l) := by
        show _ = _
        rw [← hcr, List.drop_eq_getElem_cons hlt]; rfl
      clear hcr
      go_wp2_with fail
      rw [HX.out]
      go_loopw [3, 16] (fun s i wx => ∃ (j m : Nat), j ≤ 8 ∧ m < 4294967296 ∧ i = .int .i64 j ∧ s = .int .u32 (m : Int) ∧ crcSteps (8 - j) m = crcSteps 8 (n ^^^ l[k].toNat) ∧ wx = wr) (fun _ i _ => 8 - (intOf i).toNat)
      case atStart => exact ⟨0, _, Nat.zero_le _, HB.out, rfl, rfl, rfl, rfl⟩
      case round =>
        obtain ⟨j, m, hj, hm, rfl, rfl, hst, rfl⟩ := hrel
        by_cases hj8 : j < 8
        · have HS : Hid _ := step_val m hm
          have HM : Hid (crcStep m < 4294967296) := crcStep_lt hm
          have HT : Hid (crcSteps (8 - (j + 1)) (crcStep m) = crcSteps 8 (n ^^^ l[k].toNat)) := by
            show _ = _
            rw [← hst, show 8 - j = 8 - (j + 1) + 1 by omega]; rfl
          clear hst hm
          go_wp2_with fail
          rw [HS.out]
          go_roundw
          case rel => exact ⟨j + 1, crcStep m, by omega, HM.out, by go_num, rfl, HT.out, trivial⟩
          case measure => simp [intOf]; omega
        · have ej : j = 8 := by omega
          subst ej
          have HT : Hid (m = crcSteps 8 (n ^^^ l[k].toNat)) := hst
          clear hst
          go_wp2_with fail
          go_roundw
          case rel => exact ⟨k + 1, m, by omega, hm, by go_num, rfl, by rw [HT.out]; exact HN.out, trivial⟩
          case measure => simp [intOf]; omega
    · have HR : Hid (((n ^^^ 4294967295 : Nat) : Int) = ((crc l : Nat) : Int)) := by
        show _ = _
        have : l.drop k = [] := List.drop_eq_nil_of_le (by omega)
        rw [this] at hcr
        unfold crc
        rw [← hcr, Nat.xor_comm]; rfl
      clear hcr
      have HX : Hid (bits BinOp.xor IntKind.u32 IntKind.u32.max (n : Int) = ((crc l : Nat) : Int)) := by
        show _ = _
        rw [show IntKind.u32.max = ((4294967295 : Nat) : Int) from rfl, u32_xor_nat _ _ (by decide) hn, Nat.xor_comm]
        exact HR.out
      go_wp2
      go_ret
      rw [HX.out]
      exact ⟨rfl, rfl⟩
end Go.Proofs.YtkphpgdgbnmnjacGreatDoor

namespace Go.Proofs.YtkphpgdgbnmnjacGreatDoor
open Go.RowKit Go.Extern.Stop Go.Stop Go.Extern

def numB (l : List UInt8) : Nat := l.foldl (fun a b => a * 256 + b.toNat) 0
/-- A number in n bytes, the highest first. -/
def be : Nat → Nat → List UInt8
  | 0, _ => []
  | n + 1, v => UInt8.ofNat (v / 256 ^ n) :: be n v
theorem be_length (n v : Nat) : (be n v).length = n := by induction n with
  | zero => rfl
  | succ n ih => simp [be, ih]
theorem num_from (l : List UInt8) : ∀ a, l.foldl (fun a b => a * 256 + b.toNat) a = a * 256 ^ l.length + numB l := by
  induction l with
  | nil => intro a; simp [numB]
  | cons x r ih =>
    intro a
    have e : numB (x :: r) = x.toNat * 256 ^ r.length + numB r := by
      show r.foldl _ (0 * 256 + x.toNat) = _
      rw [ih, Nat.zero_mul, Nat.zero_add]
    simp only [List.foldl_cons, ih, e, List.length_cons, Nat.pow_succ, Nat.add_mul]
    rw [Nat.mul_assoc, Nat.mul_comm 256 (256 ^ r.length)]
    omega
theorem num_cons (x : UInt8) (r : List UInt8) : numB (x :: r) = x.toNat * 256 ^ r.length + numB r := by
  show r.foldl _ (0 * 256 + x.toNat) = _
  rw [num_from, Nat.zero_mul, Nat.zero_add]
theorem num_snoc (l : List UInt8) (x : UInt8) : numB (l ++ [x]) = numB l * 256 + x.toNat := by simp [numB, List.foldl_append]
theorem num_lt (l : List UInt8) : numB l < 256 ^ l.length := by
  induction l with
  | nil => simp [numB]
  | cons x r ih =>
    rw [num_cons, List.length_cons, Nat.pow_succ, Nat.mul_comm (256 ^ r.length)]
    have h := x.toNat_lt
    have : x.toNat * 256 ^ r.length ≤ 255 * 256 ^ r.length := Nat.mul_le_mul_right _ (by omega)
    omega
theorem be_mod (n : Nat) : ∀ v k, n ≤ k → be n (v % 256 ^ k) = be n v := by
  induction n with
  | zero => intro v k h; rfl
  | succ n ih =>
    intro v k h
    have e : UInt8.ofNat (v % 256 ^ k / 256 ^ n) = UInt8.ofNat (v / 256 ^ n) := by
      apply UInt8.toNat_inj.1
      simp only [UInt8.toNat_ofNat']
      obtain ⟨d, rfl⟩ : ∃ d, k = n + 1 + d := ⟨k - (n + 1), by omega⟩
      rw [show 256 ^ (n + 1 + d) = 256 ^ n * (256 * 256 ^ d) by rw [Nat.pow_add, Nat.pow_succ, Nat.mul_assoc], Nat.mod_mul_right_div_self, Nat.mod_mul_right_mod]
    simp only [be, e, ih v k (by omega)]
theorem num_be (n : Nat) : ∀ v, v < 256 ^ n → numB (be n v) = v := by
  induction n with
  | zero => intro v h; simp at h; subst h; rfl
  | succ n ih =>
    intro v h
    rw [Nat.pow_succ] at h
    have h1 : v / 256 ^ n < 256 := Nat.div_lt_of_lt_mul h
    simp only [be, num_cons, be_length, UInt8.toNat_ofNat', Nat.mod_eq_of_lt h1]
    rw [← be_mod n v n (Nat.le_refl _), ih _ (Nat.mod_lt _ (Nat.pow_pos (by decide)))]
    exact Nat.div_add_mod' v (256 ^ n)

theorem wraps_i64 (n : Int) (h₀ : 0 ≤ n) (h₁ : n < 2 ^ 63) : IntKind.i64.wrap n = n := by
  simp only [IntKind.wrap, IntKind.bits, IntKind.signed]
  simp
  omega
theorem w64 (n : Int) (h : -9223372036854775808 ≤ n ∧ n ≤ 9223372036854775807) : wrap64 n = n := by unfold wrap64; omega
theorem or_low (v : Nat) (x : UInt8) (h : v < 1099511627776) : bits BinOp.or IntKind.i64 (wrap64 ((v : Int) * 256)) (wrap64 (x.toNat : Int)) = ((v * 256 + x.toNat : Nat) : Int) := by
  have hx := x.toNat_lt
  rw [w64 _ (by omega), w64 _ (by omega), bits_join .i64 63 (by decide) wraps_i64 8 ((v : Int) * 256) (x.toNat : Int) (by omega) (by omega) (by omega) (by omega) (by omega) (by omega)]
  omega

set_option maxHeartbeats 1000000 in
theorem number_any (t : ByteArray) (w : World) (hl : t.size ≤ 6) :
    Calls Tryz.prog 129 #[.string t] w fun e w' => e = .returned (.int .i64 (numB t.data.toList : Nat)) ∧ w' = w := by
  go_enter Tryz.func129, Tryz.ntmps129
  go_wp2_with fail
  go_loopw [3, 7] (fun s i wr => ∃ (k : Nat), k ≤ t.size ∧ i = .int .i64 k ∧ s = .int .i64 (numB (t.data.toList.take k) : Nat) ∧ wr = w) (fun _ i _ => t.size - (intOf i).toNat)
  case atStart => exact ⟨0, Nat.zero_le _, rfl, rfl, rfl⟩
  case round =>
    obtain ⟨k, hk, rfl, rfl, rfl⟩ := hrel
    by_cases hlt : k < t.size
    · have HV : Hid (numB (t.data.toList.take k) < 1099511627776) := by
        show _ < _
        have h1 := num_lt (t.data.toList.take k)
        have h2 : (t.data.toList.take k).length ≤ 5 := by rw [List.length_take]; simp; omega
        have h3 : 256 ^ (t.data.toList.take k).length ≤ 256 ^ 5 := Nat.pow_le_pow_right (by decide) h2
        omega
      have HN : Hid (numB (t.data.toList.take (k + 1)) = numB (t.data.toList.take k) * 256 + t[k].toNat) := by
        show _ = _
        rw [take_snoc t k hlt, num_snoc]
      go_wp2_with fail
      rw [or_low _ _ HV.out, ← HN.out]
      exact ⟨⟨k + 1, by omega, by go_num, rfl, trivial⟩, by simp [intOf]; omega⟩
    · have HT : Hid (t.data.toList.take k = t.data.toList) := List.take_of_length_le (by simp; omega)
      go_wp2
      go_ret
      rw [HT.out]
      exact ⟨rfl, rfl⟩

theorem Tryz.infoByte : ∃ i : TypeInfo, Tryz.prog.info? 5 = some i ∧ i.zero = some (.int .u8 0) ∧ i.size = 1 ∧ i.bytes = 1 := by
  have h : (Tryz.prog.info? 5).map (fun i => (i.zero, i.size, i.bytes)) = some (some (.int .u8 0), 1, 1) := by kernel_rfl
  obtain ⟨i, hi, he⟩ := Option.map_eq_some_iff.1 h
  simp only [Prod.mk.injEq] at he
  exact ⟨i, hi, he.1, he.2.1, he.2.2⟩

theorem add_val (x j : Nat) : byteVal (UInt8.ofNat (x / 256 ^ j)) = .int .u8 ((x : Int) / 2 ^ (8 * j) % 256) := by
  unfold byteVal
  rw [UInt8.toNat_ofNat', Int.pow_mul]
  have : ((256 ^ j : Nat) : Int) = (2 ^ 8 : Int) ^ j := by rw [Int.natCast_pow]; rfl
  rw [← this]
  congr 1
theorem cell_one (w : World) (u : Value) (ty : TypeId) : ∀ j x, [u][j]? = some x → (w.alloc (.cells #[u] ty)).cell? ((⟨w.heap.size, 0, none⟩ : Addr).add j) = some x := by
  intro j x hj
  match j, hj with
  | 0, hj =>
    have e : x = u := by simpa using hj.symm
    subst e
    exact World.cell?_alloc_at _ _ _ _ rfl
set_option maxRecDepth 100000 in
set_option maxHeartbeats 1000000 in
theorem add_any (base : Nat) (v : Value) (n : Nat) (l : List UInt8) (x many : Nat) (w : World) (hown : w.ownsRow base 5 1 v n (l.map byteVal)) (hb : base ≤ w.heap.size) (hn : n + many ≤ 100) (hm : many ≤ 7) :
    Calls Tryz.prog 167 #[v, .int .i64 (x : Int), .int .i64 (many : Int)] w fun e w' => ∃ v', e = .returned v' ∧ w'.ownsRow base 5 1 v' (n + many) ((l ++ be many x).map byteVal) ∧ Below base w w' := by
  obtain ⟨i0, hi, hz0, hz1, hz2⟩ := Tryz.infoByte
  go_enter Tryz.func167, Tryz.ntmps167
  go_wp2_with fail
  go_loopw [0, 7] (fun u i wr => ∃ (j : Nat) (pre : List UInt8), j ≤ many ∧ i = .int .i64 ((j : Int) - 1) ∧ l ++ be many x = pre ++ be j x ∧ wr.ownsRow base 5 1 u (n + many - j) (pre.map byteVal) ∧ Below base w wr) (fun _ i _ => (intOf i + 1).toNat)
  case atStart => exact ⟨many, l, Nat.le_refl _, rfl, rfl, by rw [Nat.add_sub_cancel]; exact hown, Below.refl _ _⟩
  case round =>
    obtain ⟨j, pre, hj, rfl, hpre, hown', hbel⟩ := hrel
    cases j with
    | succ j =>
      rw [show (((j + 1 : Nat) : Int) - 1) = (j : Int) by omega]
      have HV : Hid _ := add_val x j
      have hsz := hbel.size
      have HP : Hid (l ++ be many x = (pre ++ [UInt8.ofNat (x / 256 ^ j)]) ++ be j x) := by
        show _ = _
        rw [hpre]; simp [be]
      have HM : Hid ((pre ++ [UInt8.ofNat (x / 256 ^ j)]).map byteVal = pre.map byteVal ++ [.int .u8 ((x : Int) / 2 ^ (8 * j) % 256)]) := by
        show _ = _
        rw [List.map_append, List.map_cons, List.map_nil, HV.out]
      clear hpre
      go_wp2_with (at_builtin; refine wpList_append_own _ rfl (.tmp 14) (.tmp 20) 111 rfl base 5 i0 (.int .u8 0) 1 1 Tryz.underlying111 hi hz0 hz1 hz2 rfl (by decide) _ _ _ rfl (hown'.alloc _) ⟨wr.heap.size, 0, none⟩ 1 1 [.int .u8 ((x : Int) / 2 ^ (8 * j) % 256)] rfl rfl (cell_one _ _ _) (by intro u hu; simp at hu; subst hu; rfl) (by unfold maxLen; omega) (by omega) (by simp; omega) ?_; intro v1 w1 hown1 hgrow1 hlt1)
      go_roundw
      case rel => exact ⟨j, pre ++ [UInt8.ofNat (x / 256 ^ j)], by omega, by go_num, HP.out, by rw [HM.out, show n + many - j = n + many - (j + 1) + 1 by omega]; exact hown1, (hbel.alloc (by omega) _).grown hgrow1 (by simp; omega) (fun k hk => (hown'.lt k hk).1)⟩
      case measure => simp [intOf]
    | zero =>
      go_wp2
      go_ret
      simp only [be, List.append_nil] at hpre
      exact ⟨_, rfl, by rw [hpre]; exact hown', hbel⟩
end Go.Proofs.YtkphpgdgbnmnjacGreatDoor

namespace Go.Proofs.YtkphpgdgbnmnjacGreatDoor
open Go.RowKit Go.Extern.Stop Go.Stop Go.Extern

structure Rec where
  seq : Nat
  ent : Nat
  kind : Nat
  tick : Nat
def Rec.list (r : Rec) : List Value := [.int .i64 (r.seq : Int), .int .i64 (r.ent : Int), .int .i64 (r.kind : Int), .int .i64 (r.tick : Int)]
def Rec.val (r : Rec) : Value := .agg #[.int .i64 (r.seq : Int), .int .i64 (r.ent : Int), .int .i64 (r.kind : Int), .int .i64 (r.tick : Int)]
def Rec.none : Rec := ⟨0, 0, 0, 0⟩
structure RecAt (w : World) (b : Nat) (r : Rec) : Prop where
  c0 : w.cell? ⟨b, 0, .none⟩ = some (.int .i64 (r.seq : Int))
  c1 : w.cell? ⟨b, 1, .none⟩ = some (.int .i64 (r.ent : Int))
  c2 : w.cell? ⟨b, 2, .none⟩ = some (.int .i64 (r.kind : Int))
  c3 : w.cell? ⟨b, 3, .none⟩ = some (.int .i64 (r.tick : Int))
theorem RecAt.below {w w' : World} {b B : Nat} {r : Rec} (h : RecAt w b r) (hb : Below B w w') (hlt : b < B) : RecAt w' b r :=
  ⟨(hb.cell (by exact hlt)).trans h.c0, (hb.cell (by exact hlt)).trans h.c1, (hb.cell (by exact hlt)).trans h.c2, (hb.cell (by exact hlt)).trans h.c3⟩
theorem RecAt.new (w : World) (r : Rec) (ty : TypeId) : RecAt (w.alloc (.cells #[.int .i64 (r.seq : Int), .int .i64 (r.ent : Int), .int .i64 (r.kind : Int), .int .i64 (r.tick : Int)] ty)) w.heap.size r :=
  ⟨World.cell?_alloc_at _ _ _ _ rfl, World.cell?_alloc_at _ _ _ _ rfl, World.cell?_alloc_at _ _ _ _ rfl, World.cell?_alloc_at _ _ _ _ rfl⟩

def enc12 (r : Rec) : List UInt8 := be 4 r.seq ++ be 1 r.ent ++ be 1 r.kind ++ be 6 r.tick
def enc16 (r : Rec) : List UInt8 := enc12 r ++ be 4 (crc (enc12 r))
def enc (r : Rec) : List UInt8 := enc16 r ++ [165]
theorem enc12_length (r : Rec) : (enc12 r).length = 12 := by simp [enc12, be_length]
theorem enc16_length (r : Rec) : (enc16 r).length = 16 := by simp [enc16, enc12_length, be_length]
theorem enc_length (r : Rec) : (enc r).length = 17 := by simp [enc, enc16_length]

/-- What a row of bytes that is owned tells, one by one. -/
theorem own_form {w : World} {base n : Nat} {v : Value} {l : List UInt8} (h : w.ownsRow base 5 1 v n (l.map byteVal)) (hn : 0 < n) :
    ∃ g c, v = .slice (some ⟨g, 0, .none⟩) l.length c ∧ l.length = n ∧ ∀ i (hi : i < l.length), w.cell? ((⟨g, 0, .none⟩ : Addr).add i) = some (.int .u8 (l[i].toNat : Int)) := by
  obtain ⟨hl, h | ⟨g, c, cur, rfl, -, hg, hnc, -, hcs, hx⟩⟩ := h
  · omega
  · have hln : l.length = n := by simpa using hl
    refine ⟨g, c, by rw [hln], hln, fun i hi => ?_⟩
    have e : cur[i]? = some (byteVal l[i]) := by
      have := congrArg (fun z => z[i]?) hx
      simp only [List.getElem?_take, List.getElem?_map, List.getElem?_eq_getElem hi, Nat.mul_one, Array.getElem?_toList, if_pos (show i < n by omega)] at this
      simpa using this
    have ea : (⟨g, 0, .none⟩ : Addr).add i = ⟨g, i, .none⟩ := by unfold Addr.add; split <;> simp_all
    rw [ea]
    simp only [World.cell?, hg]
    simpa [byteVal] using e
theorem conv_own {w : World} {base n : Nat} {v : Value} {l : List UInt8} (h : w.ownsRow base 5 1 v n (l.map byteVal)) (hn : 0 < n) :
    (convert 111 9 v).run Tryz.prog w = .ok (.string ⟨l.toArray⟩) w := by
  obtain ⟨g, c, rfl, -, hc⟩ := own_form h hn
  exact run_convert_bytes_back (P := Tryz.prog) w 111 9 5 ⟨g, 0, .none⟩ c l Tryz.underlying111 Tryz.underlying5 Tryz.underlying9 hc

set_option maxRecDepth 100000 in
set_option maxHeartbeats 2000000 in
theorem encode_any (r : Rec) (w : World) :
    Calls Tryz.prog 130 #[r.val] w fun e w' => e = .returned (.string ⟨(enc r).toArray⟩) ∧ Below w.heap.size w w' := by
  obtain ⟨i0, hi, hz0, hz1, hz2⟩ := Tryz.infoByte
  have R0 := RecAt.new w r 57
  unfold Rec.val
  go_enter Tryz.func130, Tryz.ntmps130
  go_upto_region 2 with (at_make; refine wpList_make_own _ rfl _ _ 111 rfl (w.heap.size + 1) 5 i0 (.int .u8 0) 1 Tryz.underlying111 hi hz0 hz1 .i64 .i64 17 17 rfl rfl rfl (by rw [hz2]; omega) (by unfold maxLen; omega) (by simp) ?_; intro w0 hown0 hgrow0)
  have R1 := R0.below ((Below.refl (w.heap.size + 1) _).grown hgrow0 (by simp) (fun k h => by cases h)) (Nat.lt_succ_self _)
  have B1 := ((Below.refl w.heap.size w).alloc (Nat.le_refl _) (.cells #[.int .i64 (r.seq : Int), .int .i64 (r.ent : Int), .int .i64 (r.kind : Int), .int .i64 (r.tick : Int)] 57)).grown hgrow0 (by simp) (fun k h => by cases h)
  have s1 := hgrow0.size
  simp only [World.size_alloc] at s1 hown0
  have q0 := R1.c0
  go_wp2_with fail
  refine (add_any (w.heap.size + 1) _ 0 [] r.seq 4 _ hown0 s1 (by omega) (by omega)).mono ?_
  rintro e w2 ⟨v2, rfl, hown2, hb2⟩
  have R2 := R1.below hb2 (Nat.lt_succ_self _)
  have s2 := hb2.size
  have q1 := R2.c1
  go_wp2_with fail
  refine (add_any (w.heap.size + 1) v2 _ _ r.ent 1 _ hown2 (by omega) (by omega) (by omega)).mono ?_
  rintro e w3 ⟨v3, rfl, hown3, hb3⟩
  have R3 := R2.below hb3 (Nat.lt_succ_self _)
  have s3 := hb3.size
  have q2 := R3.c2
  go_wp2_with fail
  refine (add_any (w.heap.size + 1) v3 _ _ r.kind 1 _ hown3 (by omega) (by omega) (by omega)).mono ?_
  rintro e w4 ⟨v4, rfl, hown4, hb4⟩
  have R4 := R3.below hb4 (Nat.lt_succ_self _)
  have s4 := hb4.size
  have q3 := R4.c3
  go_wp2_with fail
  refine (add_any (w.heap.size + 1) v4 _ _ r.tick 6 _ hown4 (by omega) (by omega) (by omega)).mono ?_
  rintro e w5 ⟨v5, rfl, hown5, hb5⟩
  have s5 := hb5.size
  have E12 : [] ++ be 4 r.seq ++ be 1 r.ent ++ be 1 r.kind ++ be 6 r.tick = enc12 r := by unfold enc12; rw [List.nil_append]
  rw [E12] at hown5
  obtain ⟨g, c, rfl, hlen, hcells⟩ := own_form hown5 (by omega)
  go_wp2_with fail
  refine (sum_any _ c (enc12 r) _ hcells (by rw [enc12_length]; omega)).mono ?_
  rintro e w6 ⟨rfl, rfl⟩
  have HW : Hid (wrap64 ((crc (enc12 r) : Nat) : Int) = ((crc (enc12 r) : Nat) : Int)) := w64 _ (by have := crc_lt (enc12 r); omega)
  have HM : Hid ((enc r).map byteVal = (enc12 r ++ be 4 (crc (enc12 r))).map byteVal ++ [.int .u8 165]) := by
    show _ = _
    unfold enc enc16
    rw [List.map_append]; rfl
  go_wp2_with fail
  rw [HW.out]
  refine (add_any (w.heap.size + 1) _ _ _ (crc (enc12 r)) 4 _ hown5 (by omega) (by omega) (by omega)).mono ?_
  rintro e w7 ⟨v7, rfl, hown7, hb7⟩
  have s7 := hb7.size
  go_wp2_with (at_builtin; refine wpList_append_own _ rfl (.tmp 26) (.tmp 27) 111 rfl (w.heap.size + 1) 5 i0 (.int .u8 0) 1 1 Tryz.underlying111 hi hz0 hz1 hz2 rfl (by decide) _ _ _ rfl (hown7.alloc _) ⟨w7.heap.size, 0, .none⟩ 1 1 [.int .u8 165] rfl rfl (cell_one _ _ _) (by intro u hu; simp at hu; subst hu; rfl) (by unfold maxLen; omega) (by omega) (by simp; omega) ?_; intro v8 w8 hown8 hgrow8 hlt8; rw [← HM.out] at hown8; have cv := conv_own hown8 (by omega))
  go_ret
  refine ⟨rfl, ?_⟩
  have B5 := (((B1.trans (hb2.mono (by omega))).trans (hb3.mono (by omega))).trans (hb4.mono (by omega))).trans (hb5.mono (by omega))
  have B7 := B5.trans (hb7.mono (by omega))
  exact (B7.alloc (by omega) _).grown hgrow8 (by simp; omega) (fun k hk => by have := (hown7.lt k hk).1; omega)
end Go.Proofs.YtkphpgdgbnmnjacGreatDoor

namespace Go.Proofs.YtkphpgdgbnmnjacGreatDoor
open Go.RowKit Go.Extern.Stop Go.Stop Go.Extern

structure RecRow (w : World) (b : Nat) (r : Rec) : Prop where
  heap : w.heap[b]? = some (.cells #[.int .i64 (r.seq : Int), .int .i64 (r.ent : Int), .int .i64 (r.kind : Int), .int .i64 (r.tick : Int)] 57 (0, 0))
theorem RecRow.at {w : World} {b : Nat} {r : Rec} (h : RecRow w b r) : RecAt w b r := by
  refine ⟨?_, ?_, ?_, ?_⟩ <;> simp [World.cell?, h.heap]
theorem RecRow.frozen {w : World} {b : Nat} {r : Rec} (h : RecRow w b r) (i : Nat) : w.frozen? ⟨b, i, .none⟩ = false := by simp [World.frozen?, h.heap]
theorem RecRow.below {w w' : World} {b B : Nat} {r : Rec} (h : RecRow w b r) (hb : Below B w w') (hlt : b < B) : RecRow w' b r := ⟨(hb.block b hlt).trans h.heap⟩
theorem RecRow.lt {w : World} {b : Nat} {r : Rec} (h : RecRow w b r) : b < w.heap.size := lt_of_row h.heap

theorem res_rec {fn : Func} {p u : Tmp} (h : fn.results = #[.cell p 57, .tmp u]) (tmps : Array Value) (w : World) (b : Nat) (r : Rec) (hp : tmps.getD p undef = .pointer (some ⟨b, 0, .none⟩)) (hr : RecAt w b r) :
    (results fn tmps).run Tryz.prog w = .ok (.tuple #[r.val, tmps.getD u undef]) w := by
  obtain ⟨c0, c1, c2, c3⟩ := hr
  rw [results_cell_tmp h, hp]
  go_simp
  rfl
theorem RecRow.set4 {w : World} {b : Nat} {r0 : Rec} (h : RecRow w b r0) (r : Rec) :
    RecRow ((((w.setCell ⟨b, 0, .none⟩ (.int .i64 (r.seq : Int))).setCell ⟨b, 1, .none⟩ (.int .i64 (r.ent : Int))).setCell ⟨b, 2, .none⟩ (.int .i64 (r.kind : Int))).setCell ⟨b, 3, .none⟩ (.int .i64 (r.tick : Int))) b r := by
  refine ⟨?_⟩
  simp [World.setCell, Array.getElem?_modify, h.heap]
theorem grown_set4 (w : World) (b : Nat) (v0 v1 v2 v3 : Value) :
    w.grownBy ((((w.setCell ⟨b, 0, .none⟩ v0).setCell ⟨b, 1, .none⟩ v1).setCell ⟨b, 2, .none⟩ v2).setCell ⟨b, 3, .none⟩ v3) (some b) :=
  grown_set (grown_set (grown_set (grown_set (grown_refl _ _) _ _) _ _) _ _) _ _
theorem RecRow.new (w : World) (r : Rec) : RecRow (w.alloc (.cells #[.int .i64 (r.seq : Int), .int .i64 (r.ent : Int), .int .i64 (r.kind : Int), .int .i64 (r.tick : Int)] 57)) w.heap.size r :=
  ⟨heap_alloc_new w _⟩

theorem text_inj {a b : ByteArray} (h : a.toList = b.toList) : a = b := by
  rw [ByteArray.toList_eq, ByteArray.toList_eq] at h
  exact ByteArray.ext (Array.toList_inj.1 h)
theorem two_new1 (w : World) (a b : Obj) : ((w.alloc a).alloc b).drew.heap[w.heap.size + 1]? = some b := by
  have := heap_alloc_new (w.alloc a) b
  simp only [World.size_alloc] at this
  exact this
theorem two_new0 (w : World) (a b : Obj) : ((w.alloc a).alloc b).drew.heap[w.heap.size]? = some a :=
  (((Below.refl (w.heap.size + 1) (w.alloc a)).alloc (by simp) b).block w.heap.size (Nat.lt_succ_self _)).trans (heap_alloc_new w a)

def dec0 (l : List UInt8) : Rec := ⟨numB (l.take 4), numB ((l.drop 4).take 1), numB ((l.drop 5).take 1), numB ((l.drop 6).take 6)⟩
open Classical in
def dec (l : List UInt8) : Option Rec := if (dec0 l).seq < 1 ∨ enc (dec0 l) ≠ l then none else some (dec0 l)
def decR (l : List UInt8) : Rec := (dec l).getD .none
def decB (l : List UInt8) : Bool := (dec l).isSome

theorem number_ext (t : ByteArray) (p q : Nat) (w : World) (h : p ≤ q ∧ q ≤ p + 6 ∧ q ≤ t.size) :
    Calls Tryz.prog 129 #[.string (t.extract p q)] w fun e w' => e = .returned (.int .i64 (numB ((t.data.toList.drop p).take (q - p)) : Nat)) ∧ w' = w := by
  have h := number_any (t.extract p q) w (by simp; omega)
  rw [Lib.extract_data] at h
  exact h

set_option maxRecDepth 100000 in
set_option maxHeartbeats 2000000 in
theorem decode_any (t : ByteArray) (w : World) (ht : t.size = 17) :
    Calls Tryz.prog 94 #[.string t] w fun e w' => e = .returned (.tuple #[(decR t.data.toList).val, .bool (decB t.data.toList)]) ∧ Below w.heap.size w w' := by
  have ht' : (t.size : Int) = 17 := by omega
  go_enter Tryz.func94, Tryz.ntmps94
  go_upto_region 1 with fail
  go_cut [4] (fun p wx => p = .pointer (some ⟨w.heap.size + 1, 0, none⟩) ∧ wx.heap.size = w.heap.size + 2 ∧ RecRow wx (w.heap.size + 1) (dec0 t.data.toList) ∧ RecRow wx w.heap.size .none ∧ Below w.heap.size w wx)
  case first =>
    go_region_held3 (fun _ => True) (exact trivial) (first | (go_at_call 129; refine (number_ext t _ _ _ ?_).mono ?_; omega; rintro e w' ⟨rfl, rfl⟩))
    all_goals
      go_wp2_with fail
      go_meet
      case rel =>
        refine ⟨rfl, by simp, ⟨?_⟩, ⟨?_⟩, ?_⟩
        · exact two_new1 w _ _
        · exact two_new0 w _ _
        · exact (((Below.refl _ _).alloc (Nat.le_refl _) _).alloc (by simp) _).drew
  case rest =>
    obtain ⟨rfl, hsz, hx, hz, hb⟩ := hcut
    obtain ⟨x0, x1, x2, x3⟩ := hx.at
    obtain ⟨z0, z1, z2, z3⟩ := hz.at
    have f0 := hz.frozen 0
    have f1 := hz.frozen 1
    have f2 := hz.frozen 2
    have f3 := hz.frozen 3
    by_cases h1 : (dec0 t.data.toList).seq < 1
    · have h1' : ((dec0 t.data.toList).seq : Int) < 1 := by omega
      have HR : Hid (decR t.data.toList = .none ∧ decB t.data.toList = false) := by
        have : dec t.data.toList = none := if_pos (Or.inl h1)
        exact ⟨by unfold decR; rw [this]; rfl, by unfold decB; rw [this]; rfl⟩
      clear hx
      go_wp2_with fail
      refine bodyPost_ret (res_rec rfl _ _ w.heap.size .none rfl (hz.set4 .none).at) rfl ?_
      rw [HR.out.1, HR.out.2]
      exact ⟨rfl, below_grown hb (grown_set4 _ _ _ _ _ _) (by omega) (Nat.le_refl _)⟩
    · have h1' : ¬ ((dec0 t.data.toList).seq : Int) < 1 := by omega
      go_wp2_with fail
      refine (encode_any (dec0 t.data.toList) _).mono ?_
      rintro e w3 ⟨rfl, hb3⟩
      have hx3 := hx.below hb3 hx.lt
      have hz3 := hz.below hb3 hz.lt
      obtain ⟨x0, x1, x2, x3⟩ := hx3.at
      obtain ⟨z0, z1, z2, z3⟩ := hz3.at
      have f0 := hz3.frozen 0
      have f1 := hz3.frozen 1
      have f2 := hz3.frozen 2
      have f3 := hz3.frozen 3
      have B3 := hb.trans (hb3.mono (by omega))
      have s3 := hb3.size
      have HE : Hid (enc (dec0 t.data.toList) = t.data.toList ↔ (⟨(enc (dec0 t.data.toList)).toArray⟩ : ByteArray) = t) :=
        ⟨fun h => by rw [h], fun h => by have := congrArg (fun z : ByteArray => z.data.toList) h; simpa using this⟩
      generalize hG : (⟨(enc (dec0 t.data.toList)).toArray⟩ : ByteArray) = E at HE
      by_cases he : E = t
      · have HR : Hid (decR t.data.toList = dec0 t.data.toList ∧ decB t.data.toList = true) := by
          have : dec t.data.toList = some (dec0 t.data.toList) := if_neg (fun h => by
            rcases h with h | h
            · exact h1 h
            · exact h (HE.out.2 he))
          exact ⟨by unfold decR; rw [this]; rfl, by unfold decB; rw [this]; rfl⟩
        clear HE hG
        subst he
        go_wp2_with fail
        refine bodyPost_ret (res_rec rfl _ _ w.heap.size (dec0 E.data.toList) rfl (hz3.set4 _).at) rfl ?_
        rw [HR.out.1, HR.out.2]
        exact ⟨rfl, below_grown B3 (grown_set4 _ _ _ _ _ _) (by omega) (Nat.le_refl _)⟩
      · have HR : Hid (decR t.data.toList = .none ∧ decB t.data.toList = false) := by
          have : dec t.data.toList = none := if_pos (Or.inr fun h => he (HE.out.1 h))
          exact ⟨by unfold decR; rw [this]; rfl, by unfold decB; rw [this]; rfl⟩
        have hne : (E.toList == t.toList) = false := by
          rw [beq_eq_false_iff_ne]
          exact fun h => he (text_inj h)
        clear HE hG
        go_wp2_with fail
        refine bodyPost_ret (res_rec rfl _ _ w.heap.size .none rfl (hz3.set4 .none).at) rfl ?_
        rw [HR.out.1, HR.out.2]
        exact ⟨rfl, below_grown B3 (grown_set4 _ _ _ _ _ _) (by omega) (Nat.le_refl _)⟩
end Go.Proofs.YtkphpgdgbnmnjacGreatDoor
