/-
  nightwatchlaw1.CellsCut told by a contract: it answers true; nothing that was there turns. Condition: the sentinels are in memory ('Senv').
-/
import Derived.Test.YtebdepbnhemnpaaDoorStays
import Derived.Test.YtebdepbnhemnpaaDoorOrders
import Derived.Deep.DrawnRows
import Derived.Deep.OwnRows
import Derived.Deep.DeepCutAuto
import Derived.Lib.Strings
import Derived.Outline
namespace Go.Proofs.YtebdepbnhemnpaaDoor
open Go.RowKit Go.Extern.Stop Go.Stop Go.Extern


theorem Tryd.infoB : (Tryd.prog.info? 5).map (fun i => (i.zero, i.size, i.bytes)) = some (some (.int .u8 0), 1, 1) := by kernel_rfl

theorem CellsAt.drew {w : World} {b : Nat} {s : CSt} (h : CellsAt w b s) : CellsAt w.drew b s := ⟨h.heap, h.len, h.size⟩
def Z (n : Nat) : ByteArray := ⟨(zeros n).toArray⟩
theorem Z_size (n : Nat) : (Z n).size = n := by simp [Z, ByteArray.size, zeros_length]
theorem wrap_same {x : Int} (h : -9223372036854775808 ≤ x) (h' : x ≤ 9223372036854775807) : IntKind.i64.wrap x = x := by rw [IntKind.wrap_i64]; omega
theorem conv_made (W : World) (b n c : Nat) (h : W.heap[b]? = some (.cells (madeCells #[.int .u8 0] n) 5 (0, 0))) :
    (convert 41 9 (.slice (some ⟨b, 0, none⟩) n c)).run Tryd.prog W = .ok (.string (Z n)) W := by
  have := run_convert_bytes_back (P := Tryd.prog) W 41 9 5 ⟨b, 0, none⟩ c (zeros n) Tryd.underlying41 Tryd.underlying5 Tryd.underlying9 (fun j hj => by
    rw [zeros_length] at hj
    have ea : (⟨b, 0, none⟩ : Addr).add j = ⟨b, j, none⟩ := by unfold Addr.add; split <;> simp_all
    have e : (madeCells #[Value.int .u8 0] n)[j]? = some (.int .u8 0) := by
      rw [← Array.getElem?_toList, toList_madeCells_one, List.getElem?_replicate, if_pos hj]
    rw [ea]
    simp only [World.cell?, h]
    simp [e, zeros])
  rw [zeros_length] at this
  exact this

theorem heap_first (w : World) (a : Obj) : (w.heap.push a)[w.heap.size]? = some a := by simp
theorem heap_first2 (w : World) (a b : Obj) : ((w.heap.push a).push b)[w.heap.size]? = some a := by rw [Array.getElem?_push, if_neg (by simp)]; simp
theorem heap_second (w : World) (a b : Obj) : ((w.heap.push a).push b)[w.heap.size + 1]? = some b := by rw [Array.getElem?_push, if_pos (by simp)]
/-- string(make([]byte, n)) wherever the made row lies: the worlds that a statement with two of them, and draws between, comes to. -/
structure Made (w : World) (n : Nat) : Prop where
  a1 : ∀ r, (convert 41 9 (.slice (some ⟨w.heap.size, 0, none⟩) n n)).run Tryd.prog ((w.drewN r).alloc (.cells (madeCells #[.int .u8 0] n) 5)) = .ok (.string (Z n)) ((w.drewN r).alloc (.cells (madeCells #[.int .u8 0] n) 5))
  a2 : ∀ r o, (convert 41 9 (.slice (some ⟨w.heap.size, 0, none⟩) n n)).run Tryd.prog (((w.drewN r).alloc (.cells (madeCells #[.int .u8 0] n) 5)).alloc o) = .ok (.string (Z n)) (((w.drewN r).alloc (.cells (madeCells #[.int .u8 0] n) 5)).alloc o)
  a3 : ∀ r o, (convert 41 9 (.slice (some ⟨w.heap.size + 1, 0, none⟩) n n)).run Tryd.prog (((w.drewN r).alloc o).alloc (.cells (madeCells #[.int .u8 0] n) 5)) = .ok (.string (Z n)) (((w.drewN r).alloc o).alloc (.cells (madeCells #[.int .u8 0] n) 5))
  d1 : (convert 41 9 (.slice (some ⟨w.heap.size, 0, none⟩) n n)).run Tryd.prog (w.alloc (.cells (madeCells #[.int .u8 0] n) 5)).drew = .ok (.string (Z n)) (w.alloc (.cells (madeCells #[.int .u8 0] n) 5)).drew
  d2 : ∀ o, (convert 41 9 (.slice (some ⟨w.heap.size, 0, none⟩) n n)).run Tryd.prog ((w.alloc (.cells (madeCells #[.int .u8 0] n) 5)).alloc o).drew = .ok (.string (Z n)) ((w.alloc (.cells (madeCells #[.int .u8 0] n) 5)).alloc o).drew
  d3 : ∀ o, (convert 41 9 (.slice (some ⟨w.heap.size + 1, 0, none⟩) n n)).run Tryd.prog ((w.alloc o).alloc (.cells (madeCells #[.int .u8 0] n) 5)).drew = .ok (.string (Z n)) ((w.alloc o).alloc (.cells (madeCells #[.int .u8 0] n) 5)).drew
  b1 : ∀ r, (convert 41 9 (.slice (some ⟨w.heap.size, 0, none⟩) n n)).run Tryd.prog ((w.alloc (.cells (madeCells #[.int .u8 0] n) 5)).drewN r) = .ok (.string (Z n)) ((w.alloc (.cells (madeCells #[.int .u8 0] n) 5)).drewN r)
  b2 : ∀ r o, (convert 41 9 (.slice (some ⟨w.heap.size, 0, none⟩) n n)).run Tryd.prog (((w.alloc (.cells (madeCells #[.int .u8 0] n) 5)).drewN r).alloc o) = .ok (.string (Z n)) (((w.alloc (.cells (madeCells #[.int .u8 0] n) 5)).drewN r).alloc o)
  b3 : ∀ r o, (convert 41 9 (.slice (some ⟨w.heap.size + 1, 0, none⟩) n n)).run Tryd.prog (((w.alloc o).drewN r).alloc (.cells (madeCells #[.int .u8 0] n) 5)) = .ok (.string (Z n)) (((w.alloc o).drewN r).alloc (.cells (madeCells #[.int .u8 0] n) 5))
  c2 : ∀ r o, (convert 41 9 (.slice (some ⟨w.heap.size, 0, none⟩) n n)).run Tryd.prog (((w.alloc (.cells (madeCells #[.int .u8 0] n) 5)).alloc o).drewN r) = .ok (.string (Z n)) (((w.alloc (.cells (madeCells #[.int .u8 0] n) 5)).alloc o).drewN r)
  c3 : ∀ r o, (convert 41 9 (.slice (some ⟨w.heap.size + 1, 0, none⟩) n n)).run Tryd.prog (((w.alloc o).alloc (.cells (madeCells #[.int .u8 0] n) 5)).drewN r) = .ok (.string (Z n)) (((w.alloc o).alloc (.cells (madeCells #[.int .u8 0] n) 5)).drewN r)
theorem made_all (w : World) (n : Nat) : Made w n :=
  ⟨fun _ => conv_made _ _ _ _ (heap_first w _), fun _ _ => conv_made _ _ _ _ (heap_first2 w _ _), fun _ _ => conv_made _ _ _ _ (heap_second w _ _),
    conv_made _ _ _ _ (heap_first w _), fun _ => conv_made _ _ _ _ (heap_first2 w _ _), fun _ => conv_made _ _ _ _ (heap_second w _ _),
    fun _ => conv_made _ _ _ _ (heap_first w _), fun _ _ => conv_made _ _ _ _ (heap_first2 w _ _), fun _ _ => conv_made _ _ _ _ (heap_second w _ _),
    fun _ _ => conv_made _ _ _ _ (heap_first2 w _ _), fun _ _ => conv_made _ _ _ _ (heap_second w _ _)⟩
theorem str_to (t : ByteArray) (k : Nat) (hk : k ≤ t.size) (W : World) : (Instr.slice 9 (.string t) none (some (.int .i64 (k : Int))) none).run Tryd.prog W = .ok (.string (t.extract 0 k)) W := by
  rw [run_slice_string_h W 9 t Tryd.underlying9 .i64 (k : Int) (by omega) (by omega)]
  simp

theorem written_to (b : Nat) (s : CSt) (k : Nat) (w : World) (h : CellsAt w b s) (hk : s.written = k) :
    Calls Tryd.prog 22 #[.pointer (some ⟨b, 0, none⟩)] w fun e w' => e = .returned (.int .i64 (k : Int)) ∧ w' = w := by
  have := written_any b s w h
  rw [hk] at this
  exact this
/-- Bytes, its answer under a name. -/
theorem bytes_to (b : Nat) (s : CSt) (x : ByteArray) (w : World) (h : CellsAt w b s) (hx : (s.bytes.take s.size).toArray = x.data) :
    Calls Tryd.prog 21 #[.pointer (some ⟨b, 0, none⟩)] w fun e w' => e = .returned (.string x) ∧ ∃ q, w' = w.drewN q := by
  have := bytes_any b s w h
  rw [hx] at this
  exact this

/-- What the cells hold behind the write that the cut meets. -/
theorem cut_bytes (s : CSt) (N p k : Nat) (t : ByteArray) (hz : s.bytes = zeros 4096) (hsz : s.size = N) (hk : k ≤ t.size) (h1 : p + t.size ≤ N) (h2 : N ≤ 4096) :
    ((s.puts p (t.data.toList.take k)).bytes.take (s.puts p (t.data.toList.take k)).size).toArray = (Z p ++ t.extract 0 k ++ Z (N - p - k)).data := by
  have hl : (t.data.toList.take k).length = k := by rw [List.length_take]; simp; omega
  rw [CSt.puts_size, hsz, new_puts_bytes s hz N p _ (by rw [hl]; omega) h2, hl]
  apply Array.toList_inj.1
  simp only [ByteArray.data_append, Array.toList_append, Lib.extract_data, Z, List.drop_zero, Nat.sub_zero]

theorem cut_write (N p n : Nat) (t : ByteArray) (h1 : N ≤ 4096) (h2 : p + t.size ≤ N) :
    ∃ s2 j, Hid (CSt.write { CSt.new N with cut := true, left := n } p t.data.toList = (s2, j)) ∧
      Hid ((s2.bytes.take s2.size).toArray = (Z p ++ t.extract 0 (min n t.size) ++ Z (N - p - min n t.size)).data ∧ s2.written = min n t.size ∧ s2.size = N ∧ (n < t.size → j = 8 ∧ s2.off = true) ∧ (¬ n < t.size → j = 0 ∧ s2.off = false)) := by
  by_cases hn : n < t.size
  · have hm : min n t.size = n := by omega
    refine ⟨{ CSt.puts { CSt.new N with cut := true, left := n } p (t.data.toList.take n) with off := true }, 8, ?_, ?_⟩
    · show _ = _
      unfold CSt.write
      rw [if_pos ⟨rfl, by simpa using hn⟩]
    · rw [hm]
      exact ⟨cut_bytes _ N p n t rfl rfl (by omega) h2 (by omega), by simp [CSt.puts_written, CSt.new]; omega, by simp [CSt.puts_size, CSt.new], fun _ => ⟨rfl, rfl⟩, fun h => absurd hn h⟩
  · have hm : min n t.size = t.size := by omega
    have ht : t.data.toList.take t.size = t.data.toList := List.take_of_length_le (by simp)
    refine ⟨CSt.puts { CSt.new N with cut := true, left := n } p t.data.toList, 0, ?_, ?_⟩
    · show _ = _
      unfold CSt.write
      rw [if_neg (by rintro ⟨-, h⟩; simp at h; exact hn h)]
    · rw [hm]
      have hc := cut_bytes { CSt.new N with cut := true, left := n } N p t.size t rfl rfl (Nat.le_refl _) h2 (by omega)
      rw [ht] at hc
      exact ⟨hc, by simp [CSt.puts_written, CSt.new], by simp [CSt.puts_size, CSt.new], fun h => absurd h hn, fun _ => ⟨rfl, by rw [CSt.puts_off]; rfl⟩⟩

/-- What each operation of the statement that compares the cells yields. -/
def cutS (B N p K : Nat) (t : ByteArray) : Nat → Value → World → Prop
  | 0 => fun v _ => v = .pointer (some ⟨B, 0, none⟩)
  | 1 => fun v _ => v = .string (Z p ++ t.extract 0 K ++ Z (N - p - K))
  | 2 => fun v _ => v = .int .i64 (p : Int)
  | 3 => fun v w => ∃ b, v = .slice (some ⟨b, 0, none⟩) p p ∧ w.heap[b]? = some (.cells (madeCells #[.int .u8 0] p) 5 (0, 0))
  | 4 => fun v _ => v = .string (Z p)
  | 5 => fun v _ => v = .string t
  | 6 => fun v _ => v = .int .i64 (K : Int)
  | 7 => fun v _ => v = .string (t.extract 0 K)
  | 8 => fun v _ => v = .string (Z p ++ t.extract 0 K)
  | 9 => fun v _ => v = .int .i64 (N : Int)
  | 10 => fun v _ => v = .int .i64 (p : Int)
  | 11 => fun v _ => v = .int .i64 ((N : Int) - (p : Int))
  | 12 => fun v _ => v = .int .i64 (K : Int)
  | 13 => fun v _ => v = .int .i64 ((N : Int) - (p : Int) - (K : Int))
  | 14 => fun v w => ∃ b, v = .slice (some ⟨b, 0, none⟩) (N - p - K) (N - p - K) ∧ w.heap[b]? = some (.cells (madeCells #[.int .u8 0] (N - p - K)) 5 (0, 0))
  | 15 => fun v _ => v = .string (Z (N - p - K))
  | 16 => fun v _ => v = .string (Z p ++ t.extract 0 K ++ Z (N - p - K))
  | 17 => fun v _ => v = .bool false
  | 18 => fun v _ => v = .bool false
  | 19 => fun v _ => v = .pointer (some ⟨B, 0, none⟩)
  | 20 => fun v _ => v = .int .i64 (K : Int)
  | 21 => fun v _ => v = .int .i64 (K : Int)
  | 22 => fun v _ => v = .bool false
  | 23 => fun v _ => v = .bool false
  | _ => fun _ _ => True
theorem cutS_keeps {B N p K : Nat} {t : ByteArray} {w w' : World} (hb : Below w.heap.size w w') : ∀ j v, cutS B N p K t j v w → cutS B N p K t j v w' := by
  intro j v h
  match j, h with
  | 0, h => exact h
  | 1, h => exact h
  | 2, h => exact h
  | 3, h => exact ⟨h.choose, h.choose_spec.1, row_below hb h.choose_spec.2⟩
  | 4, h => exact h
  | 5, h => exact h
  | 6, h => exact h
  | 7, h => exact h
  | 8, h => exact h
  | 9, h => exact h
  | 10, h => exact h
  | 11, h => exact h
  | 12, h => exact h
  | 13, h => exact h
  | 14, h => exact ⟨h.choose, h.choose_spec.1, row_below hb h.choose_spec.2⟩
  | 15, h => exact h
  | 16, h => exact h
  | 17, h => exact h
  | 18, h => exact h
  | 19, h => exact h
  | 20, h => exact h
  | 21, h => exact h
  | 22, h => exact h
  | 23, h => exact h
  | n + 24, h => exact h

set_option maxRecDepth 100000 in
set_option maxHeartbeats 4000000 in
theorem cellsCut_in (A : Nat → Addr) (N p n : Nat) (t : ByteArray) (w : World) (hs : Senv A w) (h1 : N ≤ 300) (h2 : p + t.size ≤ N) (h3 : n ≤ 9223372036854775807) :
    Calls Tryd.prog 4 #[.int .i64 (N : Int), .int .i64 (p : Int), .string t, .int .i64 (n : Int)] w fun e w' => e = .returned (.bool true) ∧ Below w.heap.size w w' := by
  have hgm := hs.gm
  have t1 : ¬ (N : Int) < 0 := by omega
  have t2 : ¬ 300 < (N : Int) := by omega
  have t3 : ¬ (p : Int) < 0 := by omega
  have t4 : ¬ (N : Int) < (p : Int) := by omega
  have t5 : ¬ (N : Int) - (p : Int) < (t.size : Int) := by omega
  have t6 : ¬ (n : Int) < 0 := by omega
  go_enter Tryd.func4, Tryd.ntmps4
  go_wp2_with fail
  refine (stays_any A _ hs).mono ?_
  rintro e w1 ⟨rfl, hb1⟩
  have hs1 := hs.below hb1
  go_wp2_with fail
  refine (new_in N w1 (by omega)).mono ?_
  rintro e w2 ⟨rfl, hb2, hat2, -⟩
  have hb2' : Below w.heap.size w w2 := hb1.trans (hb2.mono hb1.size)
  have hs2 := hs.below hb2'
  have hap := hs1.apart w1.heap.size (Nat.le_refl _)
  have hgm1 := hs1.gm
  clear hb2
  go_wp2_with fail
  refine (cut_on _ _ n _ hat2 rfl).mono ?_
  rintro e w3 ⟨rfl, hat3, hg3, -⟩
  have hb3 : Below w.heap.size w w3 := below_grown hb2' hg3 hb2'.size hb1.size
  have hs3 := hs.below hb3
  clear hat2 hs2 hb2' hg3
  have W1 : Hid (CSt.err { CSt.new N with cut := true, left := n } p t.size = 0) := by
    show _ = _
    unfold CSt.err
    rw [if_neg (by simp [CSt.new]; omega)]; rfl
  obtain ⟨s2, j, W2, F⟩ := cut_write N p n t (by omega) h2
  go_wp2_with fail
  refine (write_to A _ _ _ _ p t _ hat3 hs3 hgm1 hap (by simp [CSt.new]; omega) h3 W1.out W2.out).mono ?_
  rintro e w4 ⟨rfl, hat4, hg4, -⟩
  have hb4 : Below w.heap.size w w4 := below_grown hb3 hg4 hb3.size hb1.size
  have hs4 := hs.below hb4
  clear hat3 hs3 hb3 hg4 W1 W2 hs1
  generalize hE : errVal A j = E
  have HE : Hid (errVal A j = E) := hE
  clear hE
  go_upto_if 73 with fail
  go_cut [12] (fun k wx => k = .int .i64 ((min n t.size : Nat) : Int) ∧ wx = w4)
  case first =>
    by_cases hn : (n : Int) < (t.size : Int)
    all_goals
      go_wp2
      go_meet
      case rel => exact ⟨by congr 1; omega, rfl⟩
  case rest =>
    obtain ⟨rfl, rfl⟩ := hcut
    generalize hK : min n t.size = K at *
    have hKt : K ≤ t.size := by omega
    have HK : Hid (min n t.size = K) := hK
    clear hK
    go_upto_region 11 with fail
    go_cut [98] (fun c wx => c = .bool false ∧ Below w.heap.size w wx ∧ CellsAt wx w1.heap.size s2)
    case first =>
      have hq1 := F.out.1
      have hq2 := F.out.2.1
      have HQ1 : Hid _ := hq1
      have HQ2 : Hid _ := hq2
      have hmk1 := run_make_row' (P := Tryd.prog) 41 5 (.int .u8 0) 1 Tryd.underlying41 Tryd.infoB rfl .i64 .i64 p (by omega) (by omega)
      have hmk2 := run_make_row' (P := Tryd.prog) 41 5 (.int .u8 0) 1 Tryd.underlying41 Tryd.infoB rfl .i64 .i64 (N - p - K) (by omega) (by omega)
      have eq2 : ((N - p - K : Nat) : Int) = (N : Int) - (p : Int) - (K : Int) := by omega
      rw [eq2] at hmk2
      have hst := str_to t K (by omega)
      have hz1 := Z_size p
      have hz2 := Z_size (N - p - K)
      have hz3 : (t.extract 0 K).size = K := by simp [ByteArray.size_extract]; omega
      have had1 := fun W => run_string_add_sum (P := Tryd.prog) W (Z p) (t.extract 0 K) (by omega)
      have had2 := fun W => run_string_add_sum (P := Tryd.prog) W (Z p ++ t.extract 0 K) (Z (N - p - K)) (by rw [ByteArray.size_append]; omega)
      have wr1 : IntKind.i64.wrap ((N : Int) - (p : Int)) = (N : Int) - (p : Int) := wrap_same (by omega) (by omega)
      have wr2 : IntKind.i64.wrap ((N : Int) - (p : Int) - (K : Int)) = (N : Int) - (p : Int) - (K : Int) := wrap_same (by omega) (by omega)
      clear hz1 hz2 hz3 hq1 hq2 F HK HE hs4 hap hKt hs
      refine region_spec 24 rfl (cutS w1.heap.size N p K t) (fun w' => Below w.heap.size w w' ∧ CellsAt w' w1.heap.size s2) (by kernel_rfl) (by kernel_rfl) ⟨hb4.drew, hat4.drew⟩ ?_ ?_
      · intro i o ho
        match i, ho with
        | 0, ho =>
          obtain rfl := Option.some.inj ho
          refine StepOk.pure (.pointer (some ⟨w1.heap.size, 0, none⟩)) rfl (fun _ _ => rfl) ?_
          intro a w hC hdep hoth
          have x10 : a.tmps[10]?.getD undef = .pointer (some ⟨w1.heap.size, 0, none⟩) := slot_of (hoth 10 (notDst (by kernel_rfl)))
          clear hdep hoth
          go_simp
        | 1, ho =>
          obtain rfl := Option.some.inj ho
          refine StepOk.free rfl ?_
          intro a w hC hdep hoth
          have x75 : a.tmps[75]?.getD undef = .pointer (some ⟨w1.heap.size, 0, none⟩) := slot_of (hdep _ 75 (Array.mem_of_getElem? (i := 0) rfl) rfl rfl)
          refine goodRun.call (f := 21) (args := #[.pointer (some ⟨w1.heap.size, 0, none⟩)]) (by clear hdep hoth; go_simp) ?_
          refine (bytes_to _ _ _ _ hC.2 HQ1.out).mono ?_
          rintro e w' ⟨rfl, q, rfl⟩
          exact ⟨_, rfl, ⟨below_drewN hC.1 _, hC.2.drewN _⟩, cutS_keeps (below_drewN (Below.refl _ _) _), rfl⟩
        | 2, ho =>
          obtain rfl := Option.some.inj ho
          refine StepOk.pure (.int .i64 (p : Int)) rfl (fun _ _ => rfl) ?_
          intro a w hC hdep hoth
          have x1 : a.tmps[1]?.getD undef = .int .i64 (p : Int) := slot_of (hoth 1 (notDst (by kernel_rfl)))
          clear hdep hoth
          go_simp
        | 3, ho =>
          obtain rfl := Option.some.inj ho
          refine StepOk.free rfl ?_
          intro a w hC hdep hoth
          have x77 : a.tmps[77]?.getD undef = .int .i64 (p : Int) := slot_of (hdep _ 77 (Array.mem_of_getElem? (i := 0) rfl) rfl rfl)
          exact goodRun.made (c := (.slice (some ⟨w.heap.size, 0, none⟩) p p)) (w' := w.alloc (.cells (madeCells #[.int .u8 0] p) 5)) (by clear hdep hoth; go_simp) ⟨hC.1.alloc hC.1.size _, hC.2.alloc _⟩ (cutS_keeps ((Below.refl _ _).alloc (Nat.le_refl _) _)) ⟨w.heap.size, rfl, heap_first w _⟩
        | 4, ho =>
          obtain rfl := Option.some.inj ho
          refine StepOk.pure (.string (Z p)) rfl (fun _ _ => rfl) ?_
          intro a w hC hdep hoth
          obtain ⟨b, hv, hrow⟩ := hdep _ 78 (Array.mem_of_getElem? (i := 0) rfl) rfl rfl
          have x := slot_of hv
          have cv := conv_made _ _ _ p hrow
          clear hdep hoth hv hrow
          go_simp
        | 5, ho =>
          obtain rfl := Option.some.inj ho
          refine StepOk.pure (.string t) rfl (fun _ _ => rfl) ?_
          intro a w hC hdep hoth
          have x2 : a.tmps[2]?.getD undef = .string t := slot_of (hoth 2 (notDst (by kernel_rfl)))
          clear hdep hoth
          go_simp
        | 6, ho =>
          obtain rfl := Option.some.inj ho
          refine StepOk.pure (.int .i64 (K : Int)) rfl (fun _ _ => rfl) ?_
          intro a w hC hdep hoth
          have x12 : a.tmps[12]?.getD undef = .int .i64 (K : Int) := slot_of (hoth 12 (notDst (by kernel_rfl)))
          clear hdep hoth
          go_simp
        | 7, ho =>
          obtain rfl := Option.some.inj ho
          refine StepOk.pure (.string (t.extract 0 K)) rfl (fun _ _ => rfl) ?_
          intro a w hC hdep hoth
          have x80 : a.tmps[80]?.getD undef = .string t := slot_of (hdep _ 80 (Array.mem_of_getElem? (i := 0) rfl) rfl rfl)
          have x81 : a.tmps[81]?.getD undef = .int .i64 (K : Int) := slot_of (hdep _ 81 (Array.mem_of_getElem? (i := 1) rfl) rfl rfl)
          clear hdep hoth
          go_simp
        | 8, ho =>
          obtain rfl := Option.some.inj ho
          refine StepOk.pure (.string (Z p ++ t.extract 0 K)) rfl (fun _ _ => rfl) ?_
          intro a w hC hdep hoth
          have x79 : a.tmps[79]?.getD undef = .string (Z p) := slot_of (hdep _ 79 (Array.mem_of_getElem? (i := 0) rfl) rfl rfl)
          have x82 : a.tmps[82]?.getD undef = .string (t.extract 0 K) := slot_of (hdep _ 82 (Array.mem_of_getElem? (i := 1) rfl) rfl rfl)
          clear hdep hoth
          go_simp
        | 9, ho =>
          obtain rfl := Option.some.inj ho
          refine StepOk.pure (.int .i64 (N : Int)) rfl (fun _ _ => rfl) ?_
          intro a w hC hdep hoth
          have x0 : a.tmps[0]?.getD undef = .int .i64 (N : Int) := slot_of (hoth 0 (notDst (by kernel_rfl)))
          clear hdep hoth
          go_simp
        | 10, ho =>
          obtain rfl := Option.some.inj ho
          refine StepOk.pure (.int .i64 (p : Int)) rfl (fun _ _ => rfl) ?_
          intro a w hC hdep hoth
          have x1 : a.tmps[1]?.getD undef = .int .i64 (p : Int) := slot_of (hoth 1 (notDst (by kernel_rfl)))
          clear hdep hoth
          go_simp
        | 11, ho =>
          obtain rfl := Option.some.inj ho
          refine StepOk.pure (.int .i64 ((N : Int) - (p : Int))) rfl (fun _ _ => rfl) ?_
          intro a w hC hdep hoth
          have x84 : a.tmps[84]?.getD undef = .int .i64 (N : Int) := slot_of (hdep _ 84 (Array.mem_of_getElem? (i := 0) rfl) rfl rfl)
          have x85 : a.tmps[85]?.getD undef = .int .i64 (p : Int) := slot_of (hdep _ 85 (Array.mem_of_getElem? (i := 1) rfl) rfl rfl)
          clear hdep hoth
          go_simp
        | 12, ho =>
          obtain rfl := Option.some.inj ho
          refine StepOk.pure (.int .i64 (K : Int)) rfl (fun _ _ => rfl) ?_
          intro a w hC hdep hoth
          have x12 : a.tmps[12]?.getD undef = .int .i64 (K : Int) := slot_of (hoth 12 (notDst (by kernel_rfl)))
          clear hdep hoth
          go_simp
        | 13, ho =>
          obtain rfl := Option.some.inj ho
          refine StepOk.pure (.int .i64 ((N : Int) - (p : Int) - (K : Int))) rfl (fun _ _ => rfl) ?_
          intro a w hC hdep hoth
          have x86 : a.tmps[86]?.getD undef = .int .i64 ((N : Int) - (p : Int)) := slot_of (hdep _ 86 (Array.mem_of_getElem? (i := 0) rfl) rfl rfl)
          have x87 : a.tmps[87]?.getD undef = .int .i64 (K : Int) := slot_of (hdep _ 87 (Array.mem_of_getElem? (i := 1) rfl) rfl rfl)
          clear hdep hoth
          go_simp
        | 14, ho =>
          obtain rfl := Option.some.inj ho
          refine StepOk.free rfl ?_
          intro a w hC hdep hoth
          have x88 : a.tmps[88]?.getD undef = .int .i64 ((N : Int) - (p : Int) - (K : Int)) := slot_of (hdep _ 88 (Array.mem_of_getElem? (i := 0) rfl) rfl rfl)
          exact goodRun.made (c := (.slice (some ⟨w.heap.size, 0, none⟩) (N - p - K) (N - p - K))) (w' := w.alloc (.cells (madeCells #[.int .u8 0] (N - p - K)) 5)) (by clear hdep hoth; go_simp) ⟨hC.1.alloc hC.1.size _, hC.2.alloc _⟩ (cutS_keeps ((Below.refl _ _).alloc (Nat.le_refl _) _)) ⟨w.heap.size, rfl, heap_first w _⟩
        | 15, ho =>
          obtain rfl := Option.some.inj ho
          refine StepOk.pure (.string (Z (N - p - K))) rfl (fun _ _ => rfl) ?_
          intro a w hC hdep hoth
          obtain ⟨b, hv, hrow⟩ := hdep _ 89 (Array.mem_of_getElem? (i := 0) rfl) rfl rfl
          have x := slot_of hv
          have cv := conv_made _ _ _ (N - p - K) hrow
          clear hdep hoth hv hrow
          go_simp
        | 16, ho =>
          obtain rfl := Option.some.inj ho
          refine StepOk.pure (.string (Z p ++ t.extract 0 K ++ Z (N - p - K))) rfl (fun _ _ => rfl) ?_
          intro a w hC hdep hoth
          have x83 : a.tmps[83]?.getD undef = .string (Z p ++ t.extract 0 K) := slot_of (hdep _ 83 (Array.mem_of_getElem? (i := 0) rfl) rfl rfl)
          have x90 : a.tmps[90]?.getD undef = .string (Z (N - p - K)) := slot_of (hdep _ 90 (Array.mem_of_getElem? (i := 1) rfl) rfl rfl)
          clear hdep hoth
          go_simp
        | 17, ho =>
          obtain rfl := Option.some.inj ho
          refine StepOk.pure (.bool false) rfl (fun _ _ => rfl) ?_
          intro a w hC hdep hoth
          have x76 : a.tmps[76]?.getD undef = .string (Z p ++ t.extract 0 K ++ Z (N - p - K)) := slot_of (hdep _ 76 (Array.mem_of_getElem? (i := 0) rfl) rfl rfl)
          have x91 : a.tmps[91]?.getD undef = .string (Z p ++ t.extract 0 K ++ Z (N - p - K)) := slot_of (hdep _ 91 (Array.mem_of_getElem? (i := 1) rfl) rfl rfl)
          clear hdep hoth
          go_simp
        | 18, ho =>
          obtain rfl := Option.some.inj ho
          refine StepOk.pure (.bool false) rfl (fun _ _ => rfl) ?_
          intro a w hC hdep hoth
          have x92 : a.tmps[92]?.getD undef = .bool false := slot_of (hdep _ 92 (Array.mem_of_getElem? (i := 0) rfl) rfl rfl)
          clear hdep hoth
          go_simp
        | 19, ho =>
          obtain rfl := Option.some.inj ho
          refine StepOk.yes (g := 18) (d := 93) rfl rfl (fun a w hC hdep => hdep _ 93 (Array.mem_of_getElem? (i := 0) rfl) rfl rfl) ?_
          intro a w hC hdep hoth
          have x10 : a.tmps[10]?.getD undef = .pointer (some ⟨w1.heap.size, 0, none⟩) := slot_of (hoth 10 (notDst (by kernel_rfl)))
          exact goodRun.val (by clear hdep hoth; go_simp) hC rfl
        | 20, ho =>
          obtain rfl := Option.some.inj ho
          refine StepOk.yes (g := 18) (d := 93) rfl rfl (fun a w hC hdep => hdep _ 93 (Array.mem_of_getElem? (i := 1) rfl) rfl rfl) ?_
          intro a w hC hdep hoth
          have x94 : a.tmps[94]?.getD undef = .pointer (some ⟨w1.heap.size, 0, none⟩) := slot_of (hdep _ 94 (Array.mem_of_getElem? (i := 0) rfl) rfl rfl)
          refine goodRun.call (f := 22) (args := #[.pointer (some ⟨w1.heap.size, 0, none⟩)]) (by clear hdep hoth; go_simp) ?_
          refine (written_to _ _ _ _ hC.2 HQ2.out).mono ?_
          rintro e w' ⟨rfl, rfl⟩
          exact ⟨_, rfl, hC, fun _ _ h => h, rfl⟩
        | 21, ho =>
          obtain rfl := Option.some.inj ho
          refine StepOk.yes (g := 18) (d := 93) rfl rfl (fun a w hC hdep => hdep _ 93 (Array.mem_of_getElem? (i := 0) rfl) rfl rfl) ?_
          intro a w hC hdep hoth
          have x12 : a.tmps[12]?.getD undef = .int .i64 (K : Int) := slot_of (hoth 12 (notDst (by kernel_rfl)))
          exact goodRun.val (by clear hdep hoth; go_simp) hC rfl
        | 22, ho =>
          obtain rfl := Option.some.inj ho
          refine StepOk.yes (g := 18) (d := 93) rfl rfl (fun a w hC hdep => hdep _ 93 (Array.mem_of_getElem? (i := 2) rfl) rfl rfl) ?_
          intro a w hC hdep hoth
          have x95 : a.tmps[95]?.getD undef = .int .i64 (K : Int) := slot_of (hdep _ 95 (Array.mem_of_getElem? (i := 0) rfl) rfl rfl)
          have x96 : a.tmps[96]?.getD undef = .int .i64 (K : Int) := slot_of (hdep _ 96 (Array.mem_of_getElem? (i := 1) rfl) rfl rfl)
          exact goodRun.val (by clear hdep hoth; go_simp) hC rfl
        | 23, ho =>
          obtain rfl := Option.some.inj ho
          refine StepOk.pure (.bool false) rfl (fun _ _ => rfl) ?_
          intro a w hC hdep hoth
          have x93 : a.tmps[93]?.getD undef = .bool false := slot_of (hdep _ 93 (Array.mem_of_getElem? (i := 0) rfl) rfl rfl)
          have x97 : a.tmps[97]?.getD undef = .bool false := slot_of (hdep _ 97 (Array.mem_of_getElem? (i := 1) rfl) rfl rfl)
          clear hdep hoth
          go_simp
        | n + 24, ho => simp at ho
      · intro vals w5 hC hS
        have e98 : vals 23 = .bool false := hS 23 (by decide)
        clear hS
        simp only [fill, dstOf]
        go_simp
        go_wp2_with fail
        go_meet
        case rel => exact ⟨rfl, hC.1, hC.2⟩
    case rest =>
      obtain ⟨rfl, hb5, hat5⟩ := hcut
      clear hat4 hb4 hs4
      by_cases hn : n < t.size
      · obtain ⟨hj8, hoff⟩ := F.out.2.2.2.1 hn
        obtain rfl : E = errVal A 8 := by rw [← HE.out, hj8]
        have HO : Hid (s2.off = true) := hoff
        have E0 : Hid (s2.err 0 0 = 7 + 1) := by
          show _ = _
          unfold CSt.err
          rw [if_neg (by omega), if_pos hoff]
        have hs5 := hs.below hb5
        clear hj8 hoff HE F
        unfold errVal
        go_wp2_with fail
        refine (read_no A _ _ 0 0 7 _ hat5 hs5 (by decide) E0.out).mono ?_
        rintro e w6 ⟨rfl, rfl⟩
        go_wp2_with fail
        refine (coded_sent A 7 8 _ hs5 (by decide)).mono ?_
        rintro e w7 ⟨rfl, hb7⟩
        have hb7' : Below w.heap.size w w7 := hb5.trans (hb7.mono hb5.size)
        have hat7 := hat5.below hb7
        have hs7 := hs5.below hb7
        clear hb5 hat5 hs5 hb7
        go_wp2_with fail
        refine (power_any _ _ _ hat7).mono ?_
        rintro e w8 ⟨rfl, rfl⟩
        rw [HO.out]
        unfold errVal
        go_wp2_with fail
        refine (coded_sent A 7 8 _ hs7 (by decide)).mono ?_
        rintro e w9 ⟨rfl, hb9⟩
        have hb9' : Below w.heap.size w w9 := hb7'.trans (hb9.mono hb7'.size)
        have hat9 := hat7.below hb9
        have hs9 := hs7.below hb9
        clear hb7' hat7 hs7 hb9
        go_wp2_with fail
        refine (write_no A _ _ 0 ⟨#[]⟩ 7 _ hat9 hs9 (by decide) E0.out).mono ?_
        rintro e w10 ⟨rfl, rfl⟩
        unfold errVal
        go_wp2_with fail
        refine (coded_sent A 7 8 _ hs9 (by decide)).mono ?_
        rintro e w11 ⟨rfl, hb11⟩
        go_wp2
        go_ret
        exact ⟨rfl, hb9'.trans (hb11.mono hb9'.size)⟩
      · obtain ⟨hj0, hoff⟩ := F.out.2.2.2.2 hn
        obtain rfl : E = errVal A 0 := by rw [← HE.out, hj0]
        have HO : Hid (s2.off = false) := hoff
        clear hj0 hoff HE F
        unfold errVal
        go_wp2_with fail
        refine (power_any _ _ _ hat5).mono ?_
        rintro e w8 ⟨rfl, rfl⟩
        rw [HO.out]
        go_wp2
        go_ret
        exact ⟨rfl, hb5⟩
end Go.Proofs.YtebdepbnhemnpaaDoor
