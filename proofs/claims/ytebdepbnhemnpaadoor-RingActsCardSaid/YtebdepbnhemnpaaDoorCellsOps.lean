/-
  Package cells, function by function, told by contracts over the object in memory ('CellsAt'). Conditions: the object's block lies behind the package variables; the sentinels are in memory ('Senv').
-/
import Derived.Test.YtebdepbnhemnpaaDoorFour
import Derived.BigQuiet
import Derived.Deep.QuietTactic
import Derived.WalkSmall
namespace Go.Proofs.YtebdepbnhemnpaaDoor
open Go.RowKit Go.Extern.Stop Go.Stop Go.Extern

def zeros (n : Nat) : List UInt8 := List.replicate n 0
theorem zeros_length (n : Nat) : (zeros n).length = n := List.length_replicate
def CSt.new (n : Nat) : CSt := ⟨zeros 4096, n, 0, false, false, 0⟩

theorem zero_row : Tryd.zeroCells100 = (CSt.new 0).row := by kernel_rfl
theorem new_row (n : Nat) : Tryd.zeroCells100.setIfInBounds 4096 (.int .i64 (n : Int)) = (CSt.new n).row := by
  rw [zero_row]
  exact row_set_tail (CSt.new 0).bytes (zeros_length _) (CSt.new 0).tail 0 _

set_option maxHeartbeats 400000 in
/-- New(n), n in its bounds. -/
theorem new_in (n : Nat) (w : World) (h1 : n ≤ 4096) :
    Calls Tryd.prog 18 #[.int .i64 (n : Int)] w fun e w' => e = .returned (.tuple #[.pointer (some ⟨w.heap.size, 0, none⟩), .nilIface]) ∧ Below w.heap.size w w' ∧ CellsAt w' w.heap.size (CSt.new n) ∧ w'.heap.size = w.heap.size + 1 := by
  have g1 : ¬ (n : Int) < 0 := by omega
  have g2 : ¬ 4096 < (n : Int) := by omega
  go_enter Tryd.func18, Tryd.ntmps18
  go_wp2
  go_ret2
  refine ⟨rfl, (Below.refl _ _).alloc (Nat.le_refl _) _, ⟨?_, zeros_length _, h1⟩, by simp⟩
  rw [new_row]
  show (w.heap.push _)[w.heap.size]? = _
  simp

set_option maxHeartbeats 400000 in
/-- New(n), n out of its bounds. -/
theorem new_out4 (A : Nat → Addr) (n : Int) (w : World) (hs : Sen4 A w) (h1 : n < 0 ∨ 4096 < n) :
    Calls Tryd.prog 18 #[.int .i64 n] w fun e w' => e = .returned (.tuple #[.pointer none, .iface 95 (.pointer (some (A 1)))]) ∧ Below w.heap.size w w' := by
  have hc := hs.c1
  by_cases g1 : n < 0
  all_goals
    try have g2 : 4096 < n := by omega
    go_enter Tryd.func18, Tryd.ntmps18
    go_wp2_with fail
    go_quiet (fail)
    go_wp2
    go_ret2
    exact ⟨rfl, below_drewN (Below.refl _ _) _⟩

/-- Power, Written. -/
theorem power_any (b : Nat) (s : CSt) (w : World) (h : CellsAt w b s) :
    Calls Tryd.prog 23 #[.pointer (some ⟨b, 0, none⟩)] w fun e w' => e = .returned (.bool (!s.off)) ∧ w' = w := by
  have c2 := h.c2
  go_enter Tryd.func23, Tryd.ntmps23
  go_wp2
  go_ret
  exact ⟨rfl, rfl⟩
theorem written_any (b : Nat) (s : CSt) (w : World) (h : CellsAt w b s) :
    Calls Tryd.prog 22 #[.pointer (some ⟨b, 0, none⟩)] w fun e w' => e = .returned (.int .i64 (s.written : Int)) ∧ w' = w := by
  have c1 := h.c1
  go_enter Tryd.func22, Tryd.ntmps22
  go_wp2
  go_ret
  exact ⟨rfl, rfl⟩

/-- On. -/
theorem on_any (b : Nat) (s : CSt) (w : World) (h : CellsAt w b s) :
    Calls Tryd.prog 29 #[.pointer (some ⟨b, 0, none⟩)] w fun e w' => e = .returned (.tuple #[]) ∧ CellsAt w' b { s with off := false, cut := false, left := 0 } ∧ w.grownBy w' (some b) ∧ w'.heap.size = w.heap.size := by
  have c2 := h.c2
  have c3 := h.c3
  have c4 := h.c4
  have f2 := h.frozen 4098
  have f3 := h.frozen 4099
  have f4 := h.frozen 4100
  go_enter Tryd.func29, Tryd.ntmps29
  go_wp2
  go_end0
  exact ⟨rfl, ((h.set2 false).set3 false).set4 0, grown_set (grown_set (grown_set (grown_refl _ _) _ _) _ _) _ _, by simp⟩

/-- The number of an error, as Code tells it; the value. -/
def errVal (A : Nat → Addr) : Nat → Value
  | 0 => .nilIface
  | i + 1 => .iface 95 (.pointer (some (A i)))
/-- What check answers. -/
def CSt.err (s : CSt) (p n : Int) : Nat := if p < 0 ∨ n < 0 ∨ (s.size : Int) - p < n then 2 else if s.off = true then 8 else 0

set_option maxHeartbeats 1000000 in
/-- check(p, n). -/
theorem check_any4 (A : Nat → Addr) (b : Nat) (s : CSt) (p n : Int) (w : World) (h : CellsAt w b s) (hs : Sen4 A w) (hp : p ≤ 9223372036854775807) :
    Calls Tryd.prog 56 #[.pointer (some ⟨b, 0, none⟩), .int .i64 p, .int .i64 n] w fun e w' => e = .returned (errVal A (s.err p n)) ∧ w' = w := by
  have c0 := h.c0
  have c2 := h.c2
  have g1 := hs.c1
  have g7 := hs.c7
  have hz := h.size
  clear h hs
  by_cases h1 : p < 0
  · have E : Hid (s.err p n = 2) := if_pos (Or.inl h1)
    go_enter Tryd.func56, Tryd.ntmps56
    go_wp2
    go_ret
    rw [E.out]
    exact ⟨rfl, rfl⟩
  by_cases h2 : n < 0
  · have E : Hid (s.err p n = 2) := if_pos (Or.inr (Or.inl h2))
    go_enter Tryd.func56, Tryd.ntmps56
    go_wp2
    go_ret
    rw [E.out]
    exact ⟨rfl, rfl⟩
  by_cases h3 : (s.size : Int) - p < n
  · have E : Hid (s.err p n = 2) := if_pos (Or.inr (Or.inr h3))
    go_enter Tryd.func56, Tryd.ntmps56
    go_wp2
    go_ret
    rw [E.out]
    exact ⟨rfl, rfl⟩
  have hno : ¬ (p < 0 ∨ n < 0 ∨ (s.size : Int) - p < n) := by omega
  cases ho : s.off
  · have E : Hid (s.err p n = 0) := by unfold CSt.err; rw [if_neg hno, ho]; rfl
    clear hno
    go_enter Tryd.func56, Tryd.ntmps56
    go_wp2
    go_ret
    rw [E.out]
    exact ⟨rfl, rfl⟩
  · have E : Hid (s.err p n = 8) := by unfold CSt.err; rw [if_neg hno, ho]; rfl
    clear hno
    go_enter Tryd.func56, Tryd.ntmps56
    go_wp2
    go_ret
    rw [E.out]
    exact ⟨rfl, rfl⟩

/-- put, where power fails. -/
theorem put_off4 (A : Nat → Addr) (b : Nat) (s : CSt) (p : Int) (x : UInt8) (w : World) (h : CellsAt w b s) (hs : Sen4 A w) (hb : 8 ≤ b) (h1 : s.cut = true) (h2 : s.left = 0) :
    Calls Tryd.prog 57 #[.pointer (some ⟨b, 0, none⟩), .int .i64 p, .int .u8 (x.toNat : Int)] w fun e w' => e = .returned (errVal A 8) ∧ CellsAt w' b { s with off := true } ∧ w.grownBy w' (some b) ∧ w'.heap.size = w.heap.size := by
  have c2 := h.c2
  have c3 := h.c3
  have c4 := h.c4
  have f2 := h.frozen 4098
  have g7 := hs.c7
  have hne : ¬ b = 7 := by omega
  rw [h1] at c3
  rw [h2] at c4
  go_enter Tryd.func57, Tryd.ntmps57
  go_wp2
  go_ret
  exact ⟨rfl, h.set2 true, grown_set (grown_refl _ _) _ _, by simp⟩

/-- The state behind one byte that is written. -/
def CSt.put (s : CSt) (p : Nat) (x : UInt8) : CSt := { s with bytes := s.bytes.set p x, written := s.written + 1, left := if s.cut then s.left - 1 else s.left }

set_option maxHeartbeats 1000000 in
theorem put_on (b : Nat) (s : CSt) (p : Nat) (x : UInt8) (w : World) (h : CellsAt w b s) (hp : p < 4096) (hw : s.written ≤ 1099511627776) (hl : s.left ≤ 9223372036854775807) (h1 : s.cut = true → 0 < s.left) :
    Calls Tryd.prog 57 #[.pointer (some ⟨b, 0, none⟩), .int .i64 (p : Int), .int .u8 (x.toNat : Int)] w fun e w' => e = .returned .nilIface ∧ CellsAt w' b (s.put p x) ∧ w.grownBy w' (some b) ∧ w'.heap.size = w.heap.size := by
  have c1 := h.c1
  have c3 := h.c3
  have c4 := h.c4
  have cb := h.byte p hp
  have f1 := h.frozen 4097
  have f4 := h.frozen 4100
  have fb := h.frozen p
  have ew : ((s.written + 1 : Nat) : Int) = (s.written : Int) + 1 := by omega
  cases hc : s.cut
  · rw [hc] at c3
    have R := (h.setB p hp x).set1 (s.written + 1)
    have e : ({ s with bytes := s.bytes.set p x, written := s.written + 1 } : CSt) = s.put p x := by simp [CSt.put, hc]
    simp only [] at R
    rw [hc] at e
    rw [ew, hc, e] at R
    clear e hc h1
    go_enter Tryd.func57, Tryd.ntmps57
    go_wp2
    go_ret
    exact ⟨rfl, R, grown_set (grown_set (grown_refl _ _) _ _) _ _, by simp⟩
  · have hpos := h1 hc
    have el : ((s.left - 1 : Nat) : Int) = (s.left : Int) - 1 := by omega
    have hnz : ((s.left : Int) == 0) = false := by rw [beq_eq_false_iff_ne]; omega
    have R := ((h.set4 (s.left - 1)).setB p hp x).set1 (s.written + 1)
    have e : ({ s with bytes := s.bytes.set p x, written := s.written + 1, left := s.left - 1 } : CSt) = s.put p x := by simp [CSt.put, hc]
    simp only [] at R
    rw [hc] at e
    rw [el, ew, hc, e] at R
    rw [hc] at c3
    clear e hc h1
    go_enter Tryd.func57, Tryd.ntmps57
    go_wp2
    go_ret
    exact ⟨rfl, R, grown_set (grown_set (grown_set (grown_refl _ _) _ _) _ _) _ _, by simp⟩

/-! many bytes -/
def CSt.puts (s : CSt) (p : Nat) : List UInt8 → CSt
  | [] => s
  | x :: r => (s.put p x).puts (p + 1) r
theorem CSt.puts_snoc (l : List UInt8) (x : UInt8) : ∀ (s : CSt) (p : Nat), s.puts p (l ++ [x]) = (s.puts p l).put (p + l.length) x := by
  induction l with
  | nil => intro s p; rfl
  | cons y r ih => intro s p; simp only [List.cons_append, CSt.puts, ih, List.length_cons]; congr 1; omega
theorem CSt.puts_cut (l : List UInt8) : ∀ (s : CSt) (p : Nat), (s.puts p l).cut = s.cut := by
  induction l with
  | nil => intro s p; rfl
  | cons y r ih => intro s p; simp only [CSt.puts, ih]; rfl
theorem CSt.puts_off (l : List UInt8) : ∀ (s : CSt) (p : Nat), (s.puts p l).off = s.off := by
  induction l with
  | nil => intro s p; rfl
  | cons y r ih => intro s p; simp only [CSt.puts, ih]; rfl
theorem CSt.puts_size (l : List UInt8) : ∀ (s : CSt) (p : Nat), (s.puts p l).size = s.size := by
  induction l with
  | nil => intro s p; rfl
  | cons y r ih => intro s p; simp only [CSt.puts, ih]; rfl
theorem CSt.puts_written (l : List UInt8) : ∀ (s : CSt) (p : Nat), (s.puts p l).written = s.written + l.length := by
  induction l with
  | nil => intro s p; rfl
  | cons y r ih => intro s p; simp only [CSt.puts, ih, List.length_cons]; show s.written + 1 + r.length = _; omega
theorem CSt.puts_left (l : List UInt8) : ∀ (s : CSt) (p : Nat), (s.puts p l).left = if s.cut then s.left - l.length else s.left := by
  induction l with
  | nil => intro s p; simp [CSt.puts]
  | cons y r ih =>
    intro s p
    simp only [CSt.puts, ih, List.length_cons]
    cases hc : s.cut <;> simp [CSt.put, hc]
    omega
theorem CSt.puts_bytes (l : List UInt8) : ∀ (s : CSt) (p : Nat), p + l.length ≤ s.bytes.length → (s.puts p l).bytes = s.bytes.take p ++ l ++ s.bytes.drop (p + l.length) := by
  induction l with
  | nil => intro s p h; simp [CSt.puts]
  | cons y r ih =>
    intro s p h
    simp only [List.length_cons] at h
    have e := ih (s.put p y) (p + 1) (by simp [CSt.put]; omega)
    simp only [CSt.puts, e, List.length_cons]
    have h1 : (s.put p y).bytes = s.bytes.set p y := rfl
    have hset : s.bytes.set p y = s.bytes.take p ++ y :: s.bytes.drop (p + 1) := by rw [List.set_eq_take_append_cons_drop, if_pos (by omega)]
    have hlp : (s.bytes.take p).length = p := by rw [List.length_take]; omega
    have e1 : p + 1 - p = 1 := by omega
    have e2 : p + 1 + r.length - p = r.length + 1 := by omega
    have e3 : p + 1 + r.length = p + (r.length + 1) := by omega
    have t1 : (s.bytes.take p ++ y :: s.bytes.drop (p + 1)).take (p + 1) = s.bytes.take p ++ [y] := by
      rw [List.take_append, hlp, e1, List.take_of_length_le (l := s.bytes.take p) (by rw [hlp]; omega)]; rfl
    have t0 : (s.bytes.take p).drop (p + 1 + r.length) = [] := List.drop_eq_nil_of_le (by rw [hlp]; omega)
    have t2 : (s.bytes.take p ++ y :: s.bytes.drop (p + 1)).drop (p + 1 + r.length) = s.bytes.drop (p + 1 + r.length) := by
      rw [List.drop_append, hlp, e2, t0, List.drop_succ_cons, List.drop_drop]; rfl
    rw [h1, hset, t1, t2, e3]
    simp

/-- Write's answer, where check lets it. -/
def CSt.write (s : CSt) (p : Nat) (l : List UInt8) : CSt × Nat :=
  if s.cut = true ∧ s.left < l.length then ({ s.puts p (l.take s.left) with off := true }, 8) else (s.puts p l, 0)

theorem take_snoc (s : ByteArray) (k : Nat) (h : k < s.size) : s.data.toList.take (k + 1) = s.data.toList.take k ++ [s[k]] := by
  rw [List.take_succ_eq_append_getElem (by simpa using h)]; rfl

set_option maxHeartbeats 1000000 in
theorem write_on4 (A : Nat → Addr) (b : Nat) (s : CSt) (p : Nat) (t : ByteArray) (w : World) (h : CellsAt w b s) (hs : Sen4 A w) (hb : 8 ≤ b) (hw : s.written + t.size ≤ 1099511627776) (hl : s.left ≤ 9223372036854775807) (he : s.err p t.size = 0) :
    Calls Tryd.prog 20 #[.pointer (some ⟨b, 0, none⟩), .int .i64 (p : Int), .string t] w fun e w' => e = .returned (errVal A (s.write p t.data.toList).2) ∧ CellsAt w' b (s.write p t.data.toList).1 ∧ w.grownBy w' (some b) ∧ w'.heap.size = w.heap.size := by
  have hfit : p + t.size ≤ s.size := by
    unfold CSt.err at he
    split at he
    · cases he
    · omega
  have hz := h.size
  have HE : Hid (s.err p t.size = 0) := he
  clear he
  go_enter Tryd.func20, Tryd.ntmps20
  go_wp2_with fail
  refine (check_any4 A b s p t.size _ h hs (by omega)).mono ?_
  rintro e w1 ⟨rfl, rfl⟩
  rw [HE.out]
  unfold errVal
  go_wp2_with fail
  go_loopw [20] (fun i wr => ∃ k : Nat, k ≤ t.size ∧ i = .int .i64 k ∧ (s.cut = true → k ≤ s.left) ∧ CellsAt wr b (s.puts p (t.data.toList.take k)) ∧ w1.grownBy wr (some b) ∧ wr.heap.size = w1.heap.size) (fun i _ => t.size - (intOf i).toNat)
  case atStart => exact ⟨0, Nat.zero_le _, rfl, fun _ => Nat.zero_le _, h, grown_refl _ _, rfl⟩
  case round =>
    obtain ⟨k, hk, rfl, hcut, hat, hg, hsz⟩ := hrel
    have hlen : (t.data.toList.take k).length = k := by rw [List.length_take]; simp; omega
    have hlf := CSt.puts_left (t.data.toList.take k) s p
    have hct := CSt.puts_cut (t.data.toList.take k) s p
    have hwr := CSt.puts_written (t.data.toList.take k) s p
    rw [hlen] at hlf hwr
    by_cases hlt : k < t.size
    · by_cases hoff : s.cut = true ∧ s.left = k
      · have hs' := hs.grown hg hb
        have e1 : (s.puts p (t.data.toList.take k)).cut = true := hct.trans hoff.1
        have e2 : (s.puts p (t.data.toList.take k)).left = 0 := by rw [hlf, if_pos hoff.1]; omega
        have E : Hid (s.write p t.data.toList = ({ s.puts p (t.data.toList.take k) with off := true }, 8)) := by
          show s.write p t.data.toList = _
          unfold CSt.write; rw [if_pos ⟨hoff.1, by simp; omega⟩, hoff.2]
        have E1 : Hid _ := e1
        have E2 : Hid _ := e2
        clear hs hlf hct hwr hcut hlen hoff e1 e2 hl hw
        go_wp2_with fail
        refine (put_off4 A b _ _ _ _ hat hs' hb E1 E2).mono ?_
        rintro e w2 ⟨rfl, hat2, hg2, hsz2⟩
        unfold errVal
        go_wp2
        go_ret
        rw [E.out]
        exact ⟨rfl, hat2, grown_trans hg hg2, by rw [hsz2, hsz]⟩
      · have hw2 : (s.puts p (t.data.toList.take k)).written ≤ 1099511627776 := by rw [hwr]; omega
        have hl2 : (s.puts p (t.data.toList.take k)).left ≤ 9223372036854775807 := by rw [hlf]; split <;> omega
        have H1 : Hid ((s.puts p (t.data.toList.take k)).cut = true → 0 < (s.puts p (t.data.toList.take k)).left) := fun hc => by
          rw [hct] at hc
          have h1 := hcut hc
          have h2 : s.left ≠ k := fun e => hoff ⟨hc, e⟩
          rw [hlf, if_pos hc]
          omega
        have HC : Hid (s.cut = true → k + 1 ≤ s.left) := fun hc => by
          have h1 := hcut hc
          have h2 : s.left ≠ k := fun e => hoff ⟨hc, e⟩
          omega
        have HP : Hid (s.puts p (t.data.toList.take (k + 1)) = (s.puts p (t.data.toList.take k)).put (p + k) t[k]) := by
          show _ = _
          rw [take_snoc t k hlt, CSt.puts_snoc, hlen]
        have EP : Hid ((p : Int) + (k : Int) = ((p + k : Nat) : Int)) := by show _ = _; omega
        clear hlf hct hwr hcut hlen hoff hl hs
        go_wp2_with fail
        rw [EP.out]
        refine (put_on b _ _ _ _ hat (by omega) hw2 hl2 H1.out).mono ?_
        rintro e w2 ⟨rfl, hat2, hg2, hsz2⟩
        go_wp2
        go_roundw
        case rel => exact ⟨k + 1, by omega, by go_num, HC.out, by rw [HP.out]; exact hat2, grown_trans hg hg2, by rw [hsz2, hsz]⟩
        case measure => simp [intOf]; omega
    · have ek : k = t.size := by omega
      have E : Hid (s.write p t.data.toList = (s.puts p (t.data.toList.take k), 0)) := by
        show _ = _
        unfold CSt.write
        rw [if_neg (by rintro ⟨a, b⟩; have := hcut a; simp at b; omega), List.take_of_length_le (by simp; omega)]
      clear hlf hct hwr hcut hlen ek
      go_wp2
      go_ret
      rw [E.out]
      exact ⟨rfl, hat, hg, hsz⟩
/-- The same, by all sentinels. -/
theorem new_out (A : Nat → Addr) (n : Int) (w : World) (hs : Senv A w) (h1 : n < 0 ∨ 4096 < n) :
    Calls Tryd.prog 18 #[.int .i64 n] w fun e w' => e = .returned (.tuple #[.pointer none, .iface 95 (.pointer (some (A 1)))]) ∧ Below w.heap.size w w' :=
  new_out4 A n w hs.four h1
/-- The same, by all sentinels. -/
theorem check_any (A : Nat → Addr) (b : Nat) (s : CSt) (p n : Int) (w : World) (h : CellsAt w b s) (hs : Senv A w) (hp : p ≤ 9223372036854775807) :
    Calls Tryd.prog 56 #[.pointer (some ⟨b, 0, none⟩), .int .i64 p, .int .i64 n] w fun e w' => e = .returned (errVal A (s.err p n)) ∧ w' = w :=
  check_any4 A b s p n w h hs.four hp
/-- The same, by all sentinels. -/
theorem put_off (A : Nat → Addr) (b : Nat) (s : CSt) (p : Int) (x : UInt8) (w : World) (h : CellsAt w b s) (hs : Senv A w) (hb : 12 ≤ b) (h1 : s.cut = true) (h2 : s.left = 0) :
    Calls Tryd.prog 57 #[.pointer (some ⟨b, 0, none⟩), .int .i64 p, .int .u8 (x.toNat : Int)] w fun e w' => e = .returned (errVal A 8) ∧ CellsAt w' b { s with off := true } ∧ w.grownBy w' (some b) ∧ w'.heap.size = w.heap.size :=
  put_off4 A b s p x w h hs.four (by omega) h1 h2
/-- The same, by all sentinels. -/
theorem write_on (A : Nat → Addr) (b : Nat) (s : CSt) (p : Nat) (t : ByteArray) (w : World) (h : CellsAt w b s) (hs : Senv A w) (hb : 12 ≤ b) (_hA : ∀ i, i < 11 → (A i).block ≠ b) (hw : s.written + t.size ≤ 1099511627776) (hl : s.left ≤ 9223372036854775807) (he : s.err p t.size = 0) :
    Calls Tryd.prog 20 #[.pointer (some ⟨b, 0, none⟩), .int .i64 (p : Int), .string t] w fun e w' => e = .returned (errVal A (s.write p t.data.toList).2) ∧ CellsAt w' b (s.write p t.data.toList).1 ∧ w.grownBy w' (some b) ∧ w'.heap.size = w.heap.size :=
  write_on4 A b s p t w h hs.four (by omega) hw hl he
end Go.Proofs.YtebdepbnhemnpaaDoor
