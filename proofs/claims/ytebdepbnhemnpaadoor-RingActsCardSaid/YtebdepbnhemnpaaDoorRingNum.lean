/-
  Numbers as bytes, the highest first: ring.number, ring.add by contracts. Conditions: as named.
-/
import Derived.Test.YtebdepbnhemnpaaDoorRingSum
import Derived.Laws.ShiftsVarLaws
import Derived.Deep.AppendLies
namespace Go.Proofs.YtebdepbnhemnpaaDoor
open Go.RowKit Go.Extern.Stop Go.Stop Go.Extern

def num (l : List UInt8) : Nat := l.foldl (fun a b => a * 256 + b.toNat) 0
/-- A number in n bytes, the highest first. -/
def be : Nat → Nat → List UInt8
  | 0, _ => []
  | n + 1, v => UInt8.ofNat (v / 256 ^ n) :: be n v
theorem be_length (n v : Nat) : (be n v).length = n := by induction n with
  | zero => rfl
  | succ n ih => simp [be, ih]
theorem num_from (l : List UInt8) : ∀ a, l.foldl (fun a b => a * 256 + b.toNat) a = a * 256 ^ l.length + num l := by
  induction l with
  | nil => intro a; simp [num]
  | cons x r ih =>
    intro a
    have e : num (x :: r) = x.toNat * 256 ^ r.length + num r := by
      show r.foldl _ (0 * 256 + x.toNat) = _
      rw [ih, Nat.zero_mul, Nat.zero_add]
    simp only [List.foldl_cons, ih, e, List.length_cons, Nat.pow_succ, Nat.add_mul]
    rw [Nat.mul_assoc, Nat.mul_comm 256 (256 ^ r.length)]
    omega
theorem num_cons (x : UInt8) (r : List UInt8) : num (x :: r) = x.toNat * 256 ^ r.length + num r := by
  show r.foldl _ (0 * 256 + x.toNat) = _
  rw [num_from, Nat.zero_mul, Nat.zero_add]
theorem num_snoc (l : List UInt8) (x : UInt8) : num (l ++ [x]) = num l * 256 + x.toNat := by simp [num, List.foldl_append]
theorem num_lt (l : List UInt8) : num l < 256 ^ l.length := by
  induction l with
  | nil => simp [num]
  | cons x r ih =>
    rw [num_cons, List.length_cons, Nat.pow_succ, Nat.mul_comm (256 ^ r.length)]
    have h := x.toNat_lt
    have : x.toNat * 256 ^ r.length ≤ 255 * 256 ^ r.length := Nat.mul_le_mul_right _ (by omega)
    omega
theorem be_mod (n : Nat) : ∀ v k, n ≤ k → be n (v % 256 ^ k) = be n v := by
  induction n with
  | zero => intro v k h; rfl
  | succ n ih =>
    intro v k h
    have e : UInt8.ofNat (v % 256 ^ k / 256 ^ n) = UInt8.ofNat (v / 256 ^ n) := by
      apply UInt8.toNat_inj.1
      simp only [UInt8.toNat_ofNat']
      obtain ⟨d, rfl⟩ : ∃ d, k = n + 1 + d := ⟨k - (n + 1), by omega⟩
      rw [show 256 ^ (n + 1 + d) = 256 ^ n * (256 * 256 ^ d) by rw [Nat.pow_add, Nat.pow_succ, Nat.mul_assoc], Nat.mod_mul_right_div_self, Nat.mod_mul_right_mod]
    simp only [be, e, ih v k (by omega)]
theorem be_num (l : List UInt8) : be l.length (num l) = l := by
  induction l with
  | nil => rfl
  | cons x r ih =>
    have hlt := num_lt r
    have hd : num (x :: r) / 256 ^ r.length = x.toNat := by
      rw [num_cons, Nat.mul_comm, Nat.mul_add_div (Nat.pow_pos (by decide)), Nat.div_eq_of_lt hlt, Nat.add_zero]
    have hm : num (x :: r) % 256 ^ r.length = num r := by
      rw [num_cons, Nat.mul_comm, Nat.mul_add_mod, Nat.mod_eq_of_lt hlt]
    simp only [List.length_cons, be, hd]
    rw [← be_mod r.length (num (x :: r)) r.length (Nat.le_refl _), hm, ih]
    simp
theorem num_be (n : Nat) : ∀ v, v < 256 ^ n → num (be n v) = v := by
  induction n with
  | zero => intro v h; simp at h; subst h; rfl
  | succ n ih =>
    intro v h
    rw [Nat.pow_succ] at h
    have h1 : v / 256 ^ n < 256 := Nat.div_lt_of_lt_mul h
    simp only [be, num_cons, be_length, UInt8.toNat_ofNat', Nat.mod_eq_of_lt h1]
    rw [← be_mod n v n (Nat.le_refl _), ih _ (Nat.mod_lt _ (Nat.pow_pos (by decide)))]
    exact Nat.div_add_mod' v (256 ^ n)

theorem wraps_i64 (n : Int) (h₀ : 0 ≤ n) (h₁ : n < 2 ^ 63) : IntKind.i64.wrap n = n := by
  simp only [IntKind.wrap, IntKind.bits, IntKind.signed]
  simp
  omega
theorem w64 (n : Int) (h : -9223372036854775808 ≤ n ∧ n ≤ 9223372036854775807) : wrap64 n = n := by unfold wrap64; omega
theorem or_low (v : Nat) (x : UInt8) (h : v < 1099511627776) : bits BinOp.or IntKind.i64 (wrap64 ((v : Int) * 256)) (wrap64 (x.toNat : Int)) = ((v * 256 + x.toNat : Nat) : Int) := by
  have hx := x.toNat_lt
  rw [w64 _ (by omega), w64 _ (by omega), bits_join .i64 63 (by decide) wraps_i64 8 ((v : Int) * 256) (x.toNat : Int) (by omega) (by omega) (by omega) (by omega) (by omega) (by omega)]
  omega

set_option maxHeartbeats 1000000 in
theorem number_any (t : ByteArray) (w : World) (hl : t.size ≤ 6) :
    Calls Tryd.prog 84 #[.string t] w fun e w' => e = .returned (.int .i64 (num t.data.toList : Nat)) ∧ w' = w := by
  go_enter Tryd.func84, Tryd.ntmps84
  go_wp2_with fail
  go_loopw [3, 7] (fun s i wr => ∃ (k : Nat), k ≤ t.size ∧ i = .int .i64 k ∧ s = .int .i64 (num (t.data.toList.take k) : Nat) ∧ wr = w) (fun _ i _ => t.size - (intOf i).toNat)
  case atStart => exact ⟨0, Nat.zero_le _, rfl, rfl, rfl⟩
  case round =>
    obtain ⟨k, hk, rfl, rfl, rfl⟩ := hrel
    by_cases hlt : k < t.size
    · have HV : Hid (num (t.data.toList.take k) < 1099511627776) := by
        show _ < _
        have h1 := num_lt (t.data.toList.take k)
        have h2 : (t.data.toList.take k).length ≤ 5 := by rw [List.length_take]; simp; omega
        have h3 : 256 ^ (t.data.toList.take k).length ≤ 256 ^ 5 := Nat.pow_le_pow_right (by decide) h2
        omega
      have HN : Hid (num (t.data.toList.take (k + 1)) = num (t.data.toList.take k) * 256 + t[k].toNat) := by
        show _ = _
        rw [take_snoc t k hlt, num_snoc]
      go_wp2_with fail
      rw [or_low _ _ HV.out, ← HN.out]
      exact ⟨⟨k + 1, by omega, by go_num, rfl, trivial⟩, by simp [intOf]; omega⟩
    · have HT : Hid (t.data.toList.take k = t.data.toList) := List.take_of_length_le (by simp; omega)
      go_wp2
      go_ret
      rw [HT.out]
      exact ⟨rfl, rfl⟩

theorem Tryd.infoByte : ∃ i : TypeInfo, Tryd.prog.info? 5 = some i ∧ i.zero = some (.int .u8 0) ∧ i.size = 1 ∧ i.bytes = 1 := by
  have h : (Tryd.prog.info? 5).map (fun i => (i.zero, i.size, i.bytes)) = some (some (.int .u8 0), 1, 1) := by kernel_rfl
  obtain ⟨i, hi, he⟩ := Option.map_eq_some_iff.1 h
  simp only [Prod.mk.injEq] at he
  exact ⟨i, hi, he.1, he.2.1, he.2.2⟩

theorem add_val (x j : Nat) : byteVal (UInt8.ofNat (x / 256 ^ j)) = .int .u8 ((x : Int) / 2 ^ (8 * j) % 256) := by
  unfold byteVal
  rw [UInt8.toNat_ofNat', Int.pow_mul]
  have : ((256 ^ j : Nat) : Int) = (2 ^ 8 : Int) ^ j := by rw [Int.natCast_pow]; rfl
  rw [← this]
  congr 1
theorem cell_one (w : World) (u : Value) (ty : TypeId) : ∀ j x, [u][j]? = some x → (w.alloc (.cells #[u] ty)).cell? ((⟨w.heap.size, 0, none⟩ : Addr).add j) = some x := by
  intro j x hj
  match j, hj with
  | 0, hj =>
    have e : x = u := by simpa using hj.symm
    subst e
    exact World.cell?_alloc_at _ _ _ _ rfl
set_option maxRecDepth 100000 in
set_option maxHeartbeats 1000000 in
theorem add_any (base : Nat) (v : Value) (n : Nat) (l : List UInt8) (x many : Nat) (w : World) (hown : w.ownsRow base 5 1 v n (l.map byteVal)) (hb : base ≤ w.heap.size) (hn : n + many ≤ 100) (hm : many ≤ 7) :
    Calls Tryd.prog 85 #[v, .int .i64 (x : Int), .int .i64 (many : Int)] w fun e w' => ∃ v', e = .returned v' ∧ w'.ownsRow base 5 1 v' (n + many) ((l ++ be many x).map byteVal) ∧ Below base w w' := by
  obtain ⟨i0, hi, hz0, hz1, hz2⟩ := Tryd.infoByte
  go_enter Tryd.func85, Tryd.ntmps85
  go_wp2_with fail
  go_loopw [0, 7] (fun u i wr => ∃ (j : Nat) (pre : List UInt8), j ≤ many ∧ i = .int .i64 ((j : Int) - 1) ∧ l ++ be many x = pre ++ be j x ∧ wr.ownsRow base 5 1 u (n + many - j) (pre.map byteVal) ∧ Below base w wr) (fun _ i _ => (intOf i + 1).toNat)
  case atStart => exact ⟨many, l, Nat.le_refl _, rfl, rfl, by rw [Nat.add_sub_cancel]; exact hown, Below.refl _ _⟩
  case round =>
    obtain ⟨j, pre, hj, rfl, hpre, hown', hbel⟩ := hrel
    cases j with
    | succ j =>
      rw [show (((j + 1 : Nat) : Int) - 1) = (j : Int) by omega]
      have HV : Hid _ := add_val x j
      have hsz := hbel.size
      have HP : Hid (l ++ be many x = (pre ++ [UInt8.ofNat (x / 256 ^ j)]) ++ be j x) := by
        show _ = _
        rw [hpre]; simp [be]
      have HM : Hid ((pre ++ [UInt8.ofNat (x / 256 ^ j)]).map byteVal = pre.map byteVal ++ [.int .u8 ((x : Int) / 2 ^ (8 * j) % 256)]) := by
        show _ = _
        rw [List.map_append, List.map_cons, List.map_nil, HV.out]
      clear hpre
      go_wp2_with (at_builtin; refine wpList_append_own _ rfl (.tmp 14) (.tmp 20) 41 rfl base 5 i0 (.int .u8 0) 1 1 Tryd.underlying41 hi hz0 hz1 hz2 rfl (by decide) _ _ _ rfl (hown'.alloc _) ⟨wr.heap.size, 0, none⟩ 1 1 [.int .u8 ((x : Int) / 2 ^ (8 * j) % 256)] rfl rfl (cell_one _ _ _) (by intro u hu; simp at hu; subst hu; rfl) (by unfold maxLen; omega) (by omega) (by simp; omega) ?_; intro v1 w1 hown1 hgrow1 hlt1)
      go_roundw
      case rel => exact ⟨j, pre ++ [UInt8.ofNat (x / 256 ^ j)], by omega, by go_num, HP.out, by rw [HM.out, show n + many - j = n + many - (j + 1) + 1 by omega]; exact hown1, (hbel.alloc (by omega) _).grown hgrow1 (by simp; omega) (fun k hk => (hown'.lt k hk).1)⟩
      case measure => simp [intOf]
    | zero =>
      go_wp2
      go_ret
      simp only [be, List.append_nil] at hpre
      exact ⟨_, rfl, by rw [hpre]; exact hown', hbel⟩
end Go.Proofs.YtebdepbnhemnpaaDoor
