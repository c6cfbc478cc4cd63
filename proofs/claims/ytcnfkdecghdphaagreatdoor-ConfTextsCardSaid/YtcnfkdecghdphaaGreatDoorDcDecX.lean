/-
  The document's Byte, below, Decimal by contracts. Conditions: numbers from 0 to MaxTick.
-/
import Derived.Test.YtcnfkdecghdphaaGreatDoorPureX
import Derived.Test.YtcnfkdecghdphaaGreatDoorCfMemX
import Derived.Lib.ConvBytes
namespace Go.Proofs.YtcnfkdecghdphaaGreatDoor
open Go.RowKit Go.Extern.Stop Go.Stop Go.Extern

set_option maxRecDepth 100000 in
theorem byteD_any (n : Nat) (w : World) :
    Calls Tryz.prog 106 #[.int .i64 (n : Int)] w fun e w' => e = .returned (.string ⟨#[UInt8.ofNat n]⟩) ∧ Below w.heap.size w w' := by
  have e : Hid ((n : Int) % 256 = ((UInt8.ofNat n).toNat : Int)) := by show _ = _; rw [UInt8.toNat_ofNat']; omega
  have cv := run_convert_bytes_back (P := Tryz.prog) (w.alloc (.cells #[.int .u8 ((n : Int) % 256)] 5)) 57 9 5 ⟨w.heap.size, 0, .none⟩ 1 [UInt8.ofNat n] Tryz.underlying57 Tryz.underlying5 Tryz.underlying9 (fun j hj => by
    have : j = 0 := by simpa using hj
    subst this
    rw [e.out]
    exact World.cell?_alloc_at _ _ _ _ rfl)
  simp only [List.length_singleton] at cv
  go_enter Tryz.func106, Tryz.ntmps106
  go_wp2_with fail
  go_ret
  exact ⟨rfl, (Below.refl _ _).alloc (Nat.le_refl _) _⟩
theorem cat_bytes (a b : List UInt8) : (⟨a.toArray⟩ : ByteArray) ++ ⟨b.toArray⟩ = ⟨(a ++ b).toArray⟩ := by
  apply ByteArray.ext
  rw [ByteArray.data_append]
  simp
set_option maxRecDepth 100000 in
theorem below_at (n : Nat) : ∀ (w : World), n ≤ 1099511627776 →
    Calls Tryz.prog 58 #[.int .i64 (-(n : Int))] w fun e w' => e = .returned (.string ⟨(decN n).toArray⟩) ∧ Below w.heap.size w w' := by
  induction n using Nat.strongRecOn with
  | ind n ih =>
    intro w hn
    by_cases h : n < 10
    · obtain ⟨s, hs⟩ : ∃ s : ByteArray, s = ⟨#[UInt8.ofNat (48 + n)]⟩ := ⟨_, rfl⟩
      have HE : Hid ((⟨(decN n).toArray⟩ : ByteArray) = s) := by show _ = _; rw [decN_small h, hs]
      have g1 : -10 < -(n : Int) := by omega
      have HB : Hid (Calls Tryz.prog 106 #[.int .i64 ((48 + n : Nat) : Int)] w fun e w' => e = .returned (.string s) ∧ Below w.heap.size w w') := by rw [hs]; exact byteD_any (48 + n) w
      clear ih hn hs
      go_enter Tryz.func58, Tryz.ntmps58
      go_wp2_with fail
      have e1 : (48 : Int) - -(n : Int) = ((48 + n : Nat) : Int) := by omega
      have e2 : (48 : Int) + (n : Int) = ((48 + n : Nat) : Int) := by omega
      first | rw [e1] | rw [e2] | skip
      clear e1 e2
      refine Calls.mono HB.out ?_
      rintro v w1 ⟨rfl, hb1⟩
      go_wp2
      go_ret
      exact ⟨by rw [HE.out]; rfl, hb1⟩
    · obtain ⟨s, hs⟩ : ∃ s : ByteArray, s = ⟨#[UInt8.ofNat (48 + n % 10)]⟩ := ⟨_, rfl⟩
      obtain ⟨r, hr⟩ : ∃ r : ByteArray, r = ⟨(decN (n / 10)).toArray⟩ := ⟨_, rfl⟩
      have HE : Hid ((⟨(decN n).toArray⟩ : ByteArray) = r ++ s) := by show _ = _; rw [decN_big h, hs, hr]; exact (cat_bytes _ [_]).symm
      have rs : r.size ≤ 100 := by
        have h1 := (decN_all (n / 10)).2.2.2.2 12 (by omega)
        rw [hr]
        show (decN (n / 10)).toArray.size ≤ 100
        simp
        omega
      have ss : s.size ≤ 100 := by rw [hs]; show 1 ≤ 100; decide
      have g1 : ¬ -10 < -(n : Int) := by omega
      have HI : Hid (Calls Tryz.prog 58 #[.int .i64 (-((n / 10 : Nat) : Int))] w fun e w' => e = .returned (.string r) ∧ Below w.heap.size w w') := by rw [hr]; exact ih (n / 10) (by omega) w (by omega)
      have HB : Hid (∀ W, Calls Tryz.prog 106 #[.int .i64 ((48 + n % 10 : Nat) : Int)] W fun e w' => e = .returned (.string s) ∧ Below W.heap.size W w') := fun W => by rw [hs]; exact byteD_any (48 + n % 10) W
      have q1 : Int.tdiv (-(n : Int)) 10 = -((n / 10 : Nat) : Int) := by rw [Int.neg_tdiv]; rfl
      have r1 : Int.tmod (-(n : Int)) 10 = -((n % 10 : Nat) : Int) := by rw [Int.neg_tmod]; rfl
      obtain ⟨d, hd⟩ : ∃ d, d = n / 10 := ⟨_, rfl⟩
      obtain ⟨m, hm⟩ : ∃ m, m = n % 10 := ⟨_, rfl⟩
      rw [← hd] at q1 HI
      rw [← hm] at r1 HB
      have n3 : (d : Int) ≤ 1099511627776 := by omega
      have n6 : (m : Int) ≤ 9 := by omega
      clear ih hs hr h hd hm hn
      go_enter Tryz.func58, Tryz.ntmps58
      go_wp2_with fail
      refine Calls.mono HI.out ?_
      rintro v w1 ⟨rfl, hb1⟩
      go_wp2_with fail
      have e1 : (48 : Int) - -(m : Int) = ((48 + m : Nat) : Int) := by omega
      have e2 : (48 : Int) + (m : Int) = ((48 + m : Nat) : Int) := by omega
      first | rw [e1] | rw [e2] | skip
      clear e1 e2
      refine Calls.mono (HB.out _) ?_
      rintro v w2 ⟨rfl, hb2⟩
      go_wp2
      go_ret
      exact ⟨by rw [HE.out]; rfl, hb1.trans (hb2.mono hb1.size)⟩
set_option maxRecDepth 100000 in
theorem decimal_at (n : Nat) (w : World) (hn : n ≤ 1099511627776) :
    Calls Tryz.prog 29 #[.int .i64 (n : Int)] w fun e w' => e = .returned (.string ⟨(decN n).toArray⟩) ∧ Below w.heap.size w w' := by
  obtain ⟨r, hr⟩ : ∃ r : ByteArray, r = ⟨(decN n).toArray⟩ := ⟨_, rfl⟩
  have HB : Hid (Calls Tryz.prog 58 #[.int .i64 (-(n : Int))] w fun e w' => e = .returned (.string r) ∧ Below w.heap.size w w') := by rw [hr]; exact below_at n w hn
  have g1 : ¬ (n : Int) < 0 := by omega
  have n3 : (n : Int) ≤ 1099511627776 := by omega
  rw [← hr]
  clear hr hn
  go_enter Tryz.func29, Tryz.ntmps29
  go_wp2_with fail
  refine Calls.mono HB.out ?_
  rintro v w1 ⟨rfl, hb1⟩
  go_wp2
  go_ret
  exact ⟨rfl, hb1⟩
end Go.Proofs.YtcnfkdecghdphaaGreatDoor
