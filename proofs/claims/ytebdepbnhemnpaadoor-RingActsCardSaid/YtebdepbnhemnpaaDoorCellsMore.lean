/-
  Package cells, the rest of its functions, told by contracts over the object in memory ('CellsAt'). Conditions as in the text ahead of this one.
-/
import Derived.Test.YtebdepbnhemnpaaDoorCellsOps
import Derived.Laws.IdiomStrings
namespace Go.Proofs.YtebdepbnhemnpaaDoor
open Go.RowKit Go.Extern.Stop Go.Stop Go.Extern

set_option maxHeartbeats 1000000 in
theorem write_no4 (A : Nat → Addr) (b : Nat) (s : CSt) (p : Int) (t : ByteArray) (j : Nat) (w : World) (h : CellsAt w b s) (hs : Sen4 A w) (hp : p ≤ 9223372036854775807) (he : s.err p t.size = j + 1) :
    Calls Tryd.prog 20 #[.pointer (some ⟨b, 0, none⟩), .int .i64 p, .string t] w fun e w' => e = .returned (errVal A (j + 1)) ∧ w' = w := by
  have HE : Hid (s.err p t.size = j + 1) := he
  clear he
  go_enter Tryd.func20, Tryd.ntmps20
  go_wp2_with fail
  refine (check_any4 A b s p t.size _ h hs hp).mono ?_
  rintro e w1 ⟨rfl, rfl⟩
  rw [HE.out]
  unfold errVal
  go_wp2
  go_ret
  exact ⟨rfl, rfl⟩

/-- Cut(n). -/
def CSt.cutErr (s : CSt) (n : Int) : Nat := if n < 0 then 2 else if s.off = true then 8 else 0
set_option maxHeartbeats 1000000 in
theorem cut_on (b : Nat) (s : CSt) (n : Nat) (w : World) (h : CellsAt w b s) (ho : s.off = false) :
    Calls Tryd.prog 19 #[.pointer (some ⟨b, 0, none⟩), .int .i64 (n : Int)] w fun e w' => e = .returned .nilIface ∧ CellsAt w' b { s with cut := true, left := n } ∧ w.grownBy w' (some b) ∧ w'.heap.size = w.heap.size := by
  have c2 := h.c2
  have c3 := h.c3
  have c4 := h.c4
  have f3 := h.frozen 4099
  have f4 := h.frozen 4100
  have g0 : ¬ (n : Int) < 0 := by omega
  rw [ho] at c2
  have R := (h.set3 true).set4 n
  clear h ho
  go_enter Tryd.func19, Tryd.ntmps19
  go_wp2
  go_ret
  exact ⟨rfl, R, grown_set (grown_set (grown_refl _ _) _ _) _ _, by simp⟩
theorem cut_low4 (A : Nat → Addr) (b : Nat) (n : Int) (w : World) (hs : Sen4 A w) (hn : n < 0) :
    Calls Tryd.prog 19 #[.pointer (some ⟨b, 0, none⟩), .int .i64 n] w fun e w' => e = .returned (errVal A 2) ∧ w' = w := by
  have g1 := hs.c1
  go_enter Tryd.func19, Tryd.ntmps19
  go_wp2
  go_ret
  exact ⟨rfl, rfl⟩
theorem cut_off4 (A : Nat → Addr) (b : Nat) (s : CSt) (n : Int) (w : World) (h : CellsAt w b s) (hs : Sen4 A w) (hn : ¬ n < 0) (ho : s.off = true) :
    Calls Tryd.prog 19 #[.pointer (some ⟨b, 0, none⟩), .int .i64 n] w fun e w' => e = .returned (errVal A 8) ∧ w' = w := by
  have g7 := hs.c7
  have c2 := h.c2
  rw [ho] at c2
  go_enter Tryd.func19, Tryd.ntmps19
  go_wp2
  go_ret
  exact ⟨rfl, rfl⟩

theorem Tryd.arrT : Tryd.prog.underlying 98 = some (.array (Tryd.prog.arrayLen 98) (Tryd.prog.elem 98)) := by kernel_rfl
theorem Tryd.arrN : Tryd.prog.arrayLen 98 = 4096 := by kernel_rfl
theorem Tryd.arrE (W : World) : (sizeOf (Tryd.prog.elem 98)).run Tryd.prog W = .ok 1 W := by kernel_rfl
theorem slice_to (b n : Nat) (hn : n ≤ 4096) (W : World) : (Instr.sliceAt 98 (.pointer (some ⟨b, 0, none⟩)) none (some (.int .i64 (n : Int))) none).run Tryd.prog W = .ok (.slice (some ⟨b, 0, none⟩) n 4096) W := by
  rw [run_sliceAt_array_h W _ _ Tryd.arrT .i64 (n : Int) (by omega) (by rw [Tryd.arrN]; omega), Tryd.arrE, Tryd.arrN]
  simp [Result.andThen, slicedAt, Addr.add]
theorem slice_all (b : Nat) (W : World) : (Instr.sliceAt 98 (.pointer (some ⟨b, 0, none⟩)) none none none).run Tryd.prog W = .ok (.slice (some ⟨b, 0, none⟩) 4096 4096) W := by
  rw [run_sliceAt_array_all W _ _ Tryd.arrT, Tryd.arrE, Tryd.arrN]
  simp [Result.andThen, slicedAt, Addr.add]
theorem slice_part (b p q : Nat) (hp : p ≤ q) (hq : q ≤ 4096) (W : World) : ∃ a c, (Instr.sliceAt 98 (.pointer (some ⟨b, 0, none⟩)) (some (.int .i64 (p : Int))) (some (.int .i64 (q : Int))) none).run Tryd.prog W = .ok (.slice (some a) (q - p) c) W ∧ (a = ⟨b, p, none⟩ ∨ p = 4096) := by
  refine ⟨if 4096 = p then ⟨b, 0, none⟩ else (⟨b, 0, none⟩ : Addr).add p, 4096 - p, ?_, ?_⟩
  · rw [run_sliceAt_array_lh W _ _ Tryd.arrT .i64 .i64 (p : Int) (q : Int) (by omega) (by omega) (by rw [Tryd.arrN]; omega), Tryd.arrE, Tryd.arrN]
    simp [Result.andThen, slicedAt]
  · by_cases h : 4096 = p
    · exact Or.inr h.symm
    · left; rw [if_neg h]; unfold Addr.add; split <;> simp_all

theorem conv_part (b : Nat) (s : CSt) (p n c : Nat) (w : World) (h : CellsAt w b s) (hf : p + n ≤ 4096) :
    (convert 41 9 (.slice (some ⟨b, p, none⟩) n c)).run Tryd.prog w = .ok (.string ⟨((s.bytes.drop p).take n).toArray⟩) w := by
  have hl : ((s.bytes.drop p).take n).length = n := by rw [List.length_take, List.length_drop, h.len]; omega
  have := run_convert_bytes_back (P := Tryd.prog) w 41 9 5 ⟨b, p, none⟩ c ((s.bytes.drop p).take n) Tryd.underlying41 Tryd.underlying5 Tryd.underlying9 (fun j hj => by
    have hj' : j < n := by rw [hl] at hj; exact hj
    have e := h.byte (p + j) (by omega)
    have ea : (⟨b, p, none⟩ : Addr).add j = ⟨b, p + j, none⟩ := by unfold Addr.add; split <;> simp_all
    rw [ea, e]
    simp)
  rw [hl] at this
  exact this

theorem conv_none (a : Addr) (c : Nat) (w : World) :
    (convert 41 9 (.slice (some a) 0 c)).run Tryd.prog w = .ok (.string ⟨#[]⟩) w :=
  run_convert_bytes_back (P := Tryd.prog) w 41 9 5 a c [] Tryd.underlying41 Tryd.underlying5 Tryd.underlying9 (fun j hj => by simp at hj)

theorem CellsAt.drewN {w : World} {b : Nat} {s : CSt} (h : CellsAt w b s) (q : Nat) : CellsAt (w.drewN q) b s := ⟨h.heap, h.len, h.size⟩

set_option maxHeartbeats 1000000 in
/-- Bytes. -/
theorem bytes_any (b : Nat) (s : CSt) (w : World) (h : CellsAt w b s) :
    Calls Tryd.prog 21 #[.pointer (some ⟨b, 0, none⟩)] w fun e w' => e = .returned (.string ⟨(s.bytes.take s.size).toArray⟩) ∧ ∃ q, w' = w.drewN q := by
  have c0 := h.c0
  have hz := h.size
  have sl := slice_to b s.size hz
  have cv : ∀ q, (convert 41 9 (.slice (some ⟨b, 0, none⟩) s.size 4096)).run Tryd.prog (w.drewN q) = .ok (.string ⟨(s.bytes.take s.size).toArray⟩) (w.drewN q) := fun q => by
    have := conv_part b s 0 s.size 4096 (w.drewN q) (h.drewN q) (by omega)
    simpa using this
  go_enter Tryd.func21, Tryd.ntmps21
  go_wp2_with fail
  go_quiet (fail)
  go_wp2
  go_ret
  exact ⟨rfl, _, rfl⟩

set_option maxHeartbeats 1000000 in
/-- Read(p, n), where check lets it. -/
theorem read_on4 (A : Nat → Addr) (b : Nat) (s : CSt) (p n : Nat) (w : World) (h : CellsAt w b s) (hs : Sen4 A w) (he : s.err p n = 0) :
    Calls Tryd.prog 24 #[.pointer (some ⟨b, 0, none⟩), .int .i64 (p : Int), .int .i64 (n : Int)] w fun e w' => e = .returned (.tuple #[.string ⟨((s.bytes.drop p).take n).toArray⟩, .nilIface]) ∧ w' = w := by
  have hfit : p + n ≤ s.size := by
    unfold CSt.err at he
    split at he
    · cases he
    · omega
  have hz := h.size
  have HE : Hid (s.err p n = 0) := he
  clear he
  obtain ⟨a, c, sl, ha⟩ := slice_part b p (p + n) (by omega) (by omega) w
  have en : p + n - p = n := by omega
  have ep : ((p + n : Nat) : Int) = (p : Int) + (n : Int) := by omega
  rw [en, ep] at sl
  have cv : (convert 41 9 (.slice (some a) n c)).run Tryd.prog w = .ok (.string ⟨((s.bytes.drop p).take n).toArray⟩) w := by
    rcases ha with rfl | hp
    · exact conv_part b s p n c w h (by omega)
    · have hn : n = 0 := by omega
      subst hn
      rw [conv_none]; simp
  clear ep en ha
  go_enter Tryd.func24, Tryd.ntmps24
  go_wp2_with fail
  refine (check_any4 A b s p n _ h hs (by omega)).mono ?_
  rintro e w1 ⟨rfl, rfl⟩
  rw [HE.out]
  unfold errVal
  go_wp2
  go_ret2
  exact ⟨rfl, rfl⟩

set_option maxHeartbeats 1000000 in
theorem read_no4 (A : Nat → Addr) (b : Nat) (s : CSt) (p n : Int) (j : Nat) (w : World) (h : CellsAt w b s) (hs : Sen4 A w) (hp : p ≤ 9223372036854775807) (he : s.err p n = j + 1) :
    Calls Tryd.prog 24 #[.pointer (some ⟨b, 0, none⟩), .int .i64 p, .int .i64 n] w fun e w' => e = .returned (.tuple #[.string ⟨#[]⟩, errVal A (j + 1)]) ∧ w' = w := by
  have HE : Hid (s.err p n = j + 1) := he
  clear he
  go_enter Tryd.func24, Tryd.ntmps24
  go_wp2_with fail
  refine (check_any4 A b s p n _ h hs hp).mono ?_
  rintro e w1 ⟨rfl, rfl⟩
  rw [HE.out]
  unfold errVal
  go_wp2
  go_ret2
  exact ⟨rfl, rfl⟩
/-- The same, by all sentinels. -/
theorem write_no (A : Nat → Addr) (b : Nat) (s : CSt) (p : Int) (t : ByteArray) (j : Nat) (w : World) (h : CellsAt w b s) (hs : Senv A w) (hp : p ≤ 9223372036854775807) (he : s.err p t.size = j + 1) :
    Calls Tryd.prog 20 #[.pointer (some ⟨b, 0, none⟩), .int .i64 p, .string t] w fun e w' => e = .returned (errVal A (j + 1)) ∧ w' = w :=
  write_no4 A b s p t j w h hs.four hp he
/-- The same, by all sentinels. -/
theorem cut_low (A : Nat → Addr) (b : Nat) (n : Int) (w : World) (hs : Senv A w) (hn : n < 0) :
    Calls Tryd.prog 19 #[.pointer (some ⟨b, 0, none⟩), .int .i64 n] w fun e w' => e = .returned (errVal A 2) ∧ w' = w :=
  cut_low4 A b n w hs.four hn
/-- The same, by all sentinels. -/
theorem cut_off (A : Nat → Addr) (b : Nat) (s : CSt) (n : Int) (w : World) (h : CellsAt w b s) (hs : Senv A w) (hn : ¬ n < 0) (ho : s.off = true) :
    Calls Tryd.prog 19 #[.pointer (some ⟨b, 0, none⟩), .int .i64 n] w fun e w' => e = .returned (errVal A 8) ∧ w' = w :=
  cut_off4 A b s n w h hs.four hn ho
/-- The same, by all sentinels. -/
theorem read_on (A : Nat → Addr) (b : Nat) (s : CSt) (p n : Nat) (w : World) (h : CellsAt w b s) (hs : Senv A w) (he : s.err p n = 0) :
    Calls Tryd.prog 24 #[.pointer (some ⟨b, 0, none⟩), .int .i64 (p : Int), .int .i64 (n : Int)] w fun e w' => e = .returned (.tuple #[.string ⟨((s.bytes.drop p).take n).toArray⟩, .nilIface]) ∧ w' = w :=
  read_on4 A b s p n w h hs.four he
/-- The same, by all sentinels. -/
theorem read_no (A : Nat → Addr) (b : Nat) (s : CSt) (p n : Int) (j : Nat) (w : World) (h : CellsAt w b s) (hs : Senv A w) (hp : p ≤ 9223372036854775807) (he : s.err p n = j + 1) :
    Calls Tryd.prog 24 #[.pointer (some ⟨b, 0, none⟩), .int .i64 p, .int .i64 n] w fun e w' => e = .returned (.tuple #[.string ⟨#[]⟩, errVal A (j + 1)]) ∧ w' = w :=
  read_no4 A b s p n j w h hs.four hp he
end Go.Proofs.YtebdepbnhemnpaaDoor
