/-
  (ring.log).held by contracts. Conditions: the cells lie in memory.
-/
import Derived.Test.YtebdepbnhemnpaaDoorRingHeld
import Derived.Test.YtebdepbnhemnpaaDoorCellsFrom
import Derived.Laws.Strings2
import Derived.Laws.Tables
namespace Go.Proofs.YtebdepbnhemnpaaDoor
open Go.RowKit Go.Extern.Stop Go.Stop Go.Extern

def zero9 : Array Value := (recCells (List.replicate 9 .none)).toArray
theorem held_start (w : World) (o : Obj) : RecsRow (((w.alloc o).alloc (.cells zero9 105)).alloc (.cells zero9 105)) (w.heap.size + 1 + 1) (List.replicate 9 .none) ∧ RecsRow (((w.alloc o).alloc (.cells zero9 105)).alloc (.cells zero9 105)) (w.heap.size + 1) (List.replicate 9 .none) ∧ Below w.heap.size w (((w.alloc o).alloc (.cells zero9 105)).alloc (.cells zero9 105)) ∧ (((w.alloc o).alloc (.cells zero9 105)).alloc (.cells zero9 105)).heap.size = w.heap.size + 3 := by
  have h1 := heap_alloc_new ((w.alloc o).alloc (.cells zero9 105)) (.cells zero9 105)
  have h2 := heap_alloc_new (w.alloc o) (.cells zero9 105)
  simp only [World.size_alloc] at h1 h2
  refine ⟨⟨h1⟩, ⟨?_⟩, (((Below.refl _ _).alloc (Nat.le_refl _) _).alloc (by simp) _).alloc (by simp; omega) _, by simp⟩
  exact (((Below.refl (w.heap.size + 1 + 1) ((w.alloc o).alloc (.cells zero9 105))).alloc (by simp) _).block (w.heap.size + 1) (Nat.lt_succ_self _)).trans h2
theorem slot_cut (l : List UInt8) (k : Nat) (hl : l.length = 153) (hk : k < 9) : (slotB l k).length = 17 := by
  unfold slotB; rw [List.length_take, List.length_drop]; omega
theorem res_recs {fn : Func} {p u : Tmp} (h : fn.results = #[.cell p 105, .tmp u]) (tmps : Array Value) (w : World) (b : Nat) (L : List Rec) (hL : L.length = 9) (hp : tmps.getD p undef = .pointer (some ⟨b, 0, .none⟩)) (hr : RecsRow w b L) :
    (results fn tmps).run Tryd.prog w = .ok (.tuple #[.agg (recCells L).toArray, tmps.getD u undef]) w := by
  have hi : (Tryd.prog.info? 105).map (·.size) = some (recCells L).toArray.size := by
    rw [List.size_toArray, recCells_length, hL]; kernel_rfl
  rw [results_cell_tmp h, hp]
  simp only [asAddr, Sem.run_pure, Result.andThen_ok, run_loadVar_row w b _ _ _ _ _ hr.heap Tryd.underlying105 rfl hi]
theorem recs_one (L : List Rec) : (recCells L).toArray.all (·.oneCell') = true := by
  apply Array.all_eq_true_iff_forall_mem.2
  intro v hv
  simp only [List.mem_toArray, recCells, List.mem_flatMap, Rec.list, List.mem_cons, List.not_mem_nil, or_false] at hv
  obtain ⟨r, -, rfl | rfl | rfl | rfl⟩ := hv <;> rfl
theorem info_recs (L : List Rec) (hL : L.length = 9) : (Tryd.prog.info? 105).map (·.size) = some (recCells L).toArray.size := by
  rw [List.size_toArray, recCells_length, hL]; kernel_rfl

theorem helds_same (l : List UInt8) (k : Nat) (_hk : k < 9) : (helds l k).set k .none = helds l k := by
  apply List.ext_getElem (by simp [helds])
  intro i h1 h2
  rw [List.getElem_set]
  by_cases e : k = i
  · subst e; simp [helds]
  · rw [if_neg e]
theorem RecsRow.cells {w : World} {b : Nat} {L : List Rec} (h : RecsRow w b L) (k : Nat) (hk : k < L.length) :
    w.cell? ⟨b, k * 4, .none⟩ = some (.int .i64 (L[k].seq : Int)) ∧ w.cell? ⟨b, k * 4 + 1, .none⟩ = some (.int .i64 (L[k].ent : Int)) ∧ w.cell? ⟨b, k * 4 + 2, .none⟩ = some (.int .i64 (L[k].kind : Int)) ∧ w.cell? ⟨b, k * 4 + 3, .none⟩ = some (.int .i64 (L[k].tick : Int)) :=
  ⟨(h.cell k 0 hk (by decide)).trans rfl, (h.cell k 1 hk (by decide)).trans rfl, (h.cell k 2 hk (by decide)).trans rfl, (h.cell k 3 hk (by decide)).trans rfl⟩
theorem RecsRow.other4 {w : World} {b c : Nat} {L : List Rec} (h : RecsRow w b L) (hne : b ≠ c) (o : Nat) (v0 v1 v2 v3 : Value) :
    RecsRow ((((w.setCell ⟨c, o, .none⟩ v0).setCell ⟨c, o + 1, .none⟩ v1).setCell ⟨c, o + 2, .none⟩ v2).setCell ⟨c, o + 3, .none⟩ v3) b L :=
  ⟨((recs_grown w c o v0 v1 v2 v3).block b h.lt (by simpa using hne)).trans h.heap⟩
theorem slot_text (T : ByteArray) (l : List UInt8) (k : Nat) (hT : T.data.toList = l) (hs : (T.size : Int) = 153) (hk : k < 9) :
    ∃ P : ByteArray, P.data.toList = slotB l k ∧ P.size = 17 ∧ ∀ W, (Instr.slice 9 (.string T) (some (.int .i64 ((k : Int) * 17))) (some (.int .i64 (((k : Int) + 1) * 17))) Option.none).run Tryd.prog W = .ok (.string P) W := by
  refine ⟨T.extract (k * 17) (k * 17 + 17), ?_, by simp; omega, fun W => ?_⟩
  · rw [Lib.extract_data, hT, Nat.add_sub_cancel_left]; rfl
  · rw [run_slice_string _ _ T _ _ _ _ Tryd.underlying9 (by omega) (by omega) (by omega)]
    congr 3 <;> omega

set_option maxRecDepth 100000 in
set_option maxHeartbeats 2000000 in
theorem held_on (A : Nat → Addr) (b : Nat) (s : CSt) (w : World) (h : CellsAt w b s) (hs : Sen4 A w) (he : s.err 0 153 = 0) :
    Calls Tryd.prog 58 #[.agg #[.pointer (some ⟨b, 0, .none⟩)]] w fun e w' => e = .returned (.tuple #[.agg (recCells (helds (s.bytes.take 153) 9)).toArray, .nilIface]) ∧ Below w.heap.size w w' := by
  have HE : Hid (s.err ((0 : Nat) : Int) ((153 : Nat) : Int) = 0) := he
  obtain ⟨st1, st2, st3, st4⟩ := held_start w (.cells #[.pointer (some ⟨b, 0, .none⟩)] 104)
  have hl : (s.bytes.take 153).length = 153 := by rw [List.length_take, h.len]; omega
  have h' := h.below st3
  have hs' := hs.below st3
  have RD := read_on4 A b s 0 153 _ h' hs' HE.out
  rw [List.drop_zero] at RD
  generalize s.bytes.take 153 = l at *
  obtain ⟨T, hT⟩ : ∃ T : ByteArray, T = ⟨l.toArray⟩ := ⟨_, rfl⟩
  have hTl : T.data.toList = l := by rw [hT]
  have hTs : (T.size : Int) = 153 := by rw [hT]; show (l.toArray.size : Int) = 153; simp [hl]
  rw [← hT] at RD
  clear hT
  have HRD : Hid _ := RD
  clear RD
  go_enter Tryd.func58, Tryd.ntmps58
  go_wp2_with fail
  refine Calls.mono HRD.out ?_
  rintro e w1 ⟨rfl, hw1⟩
  rw [← hw1] at st1 st2 st3 st4
  clear hw1 HRD h' hs'
  go_wp2_with fail
  go_loopw [20] (fun i wr => ∃ k : Nat, k ≤ 9 ∧ i = .int .i64 k ∧ RecsRow wr (w.heap.size + 1 + 1) (helds l k) ∧ RecsRow wr (w.heap.size + 1) (List.replicate 9 .none) ∧ Below w.heap.size w wr ∧ w.heap.size + 3 ≤ wr.heap.size) (fun i _ => 9 - (intOf i).toNat)
  case atStart => exact ⟨0, Nat.zero_le _, rfl, by rw [helds_zero]; exact st1, st2, st3, by omega⟩
  case round =>
    obtain ⟨k, hk, rfl, hrow, hz, hb, hsz⟩ := hrel
    by_cases hlt : k < 9
    · have HSR := helds_succ l k hlt
      have hsl := slot_cut l k hl hlt
      obtain ⟨P, hPl, hPs, sl⟩ := slot_text T l k hTl hTs hlt
      go_wp2_with fail
      refine (decode_any P _ hPs).mono ?_
      rintro e w2 ⟨rfl, hb2⟩
      rw [hPl]
      unfold Rec.val
      have hrow2 := hrow.below hb2 hrow.lt
      have hz2 := hz.below hb2 hz.lt
      have s2 := hb2.size
      have hq := helds_length l k
      cases hd : decB (slotB l k)
      · have HN : Hid (slotR l k = .none) := if_neg (by rw [hd]; simp)
        go_wp2_with fail
        go_roundw
        case rel => exact ⟨k + 1, by omega, by go_num, by rw [HSR, HN.out, helds_same l k hlt]; exact hrow2.below ((Below.refl w2.heap.size w2).alloc (Nat.le_refl _) _) hrow2.lt, hz2.below ((Below.refl w2.heap.size w2).alloc (Nat.le_refl _) _) hz2.lt, (hb.trans (hb2.mono (by omega))).alloc (by omega) _, by simp; omega⟩
        case measure => simp [intOf]; omega
      · obtain ⟨d1, d2, -, -⟩ := dec_seq hd
        have B3 := (Below.refl w2.heap.size w2).alloc (Nat.le_refl _) (.cells #[.int .i64 ((decR (slotB l k)).seq : Int), .int .i64 ((decR (slotB l k)).ent : Int), .int .i64 ((decR (slotB l k)).kind : Int), .int .i64 ((decR (slotB l k)).tick : Int)] 64)
        have hrow3 := hrow2.below B3 hrow2.lt
        have hz3 := hz2.below B3 hz2.lt
        obtain ⟨x0, x1, x2, x3⟩ := RecAt.new w2 (decR (slotB l k)) 64
        obtain ⟨c0, c1, c2, c3⟩ := hrow3.cells k (by omega)
        have f0 := hrow3.frozen (k * 4)
        have f1 := hrow3.frozen (k * 4 + 1)
        have f2 := hrow3.frozen (k * 4 + 2)
        have f3 := hrow3.frozen (k * 4 + 3)
        have hB := (hb.trans (hb2.mono (by omega))).trans (B3.mono (by omega))
        have s3 := B3.size
        generalize hw3 : w2.alloc (.cells #[.int .i64 ((decR (slotB l k)).seq : Int), .int .i64 ((decR (slotB l k)).ent : Int), .int .i64 ((decR (slotB l k)).kind : Int), .int .i64 ((decR (slotB l k)).tick : Int)] 64) = w3 at *
        have HW : Hid _ := hw3
        clear hw3 B3 hrow2 hz2 hrow hz hb hb2
        by_cases hq9 : ((decR (slotB l k)).seq - 1) % 9 = k
        · have HN : Hid (slotR l k = decR (slotB l k)) := if_pos ⟨hd, hq9⟩
          go_wp2_with fail
          rw [HW.out]
          refine (slotOf_any _ _ d1 (by omega)).mono ?_
          rintro e w4 ⟨rfl, rfl⟩
          rw [hq9]
          go_wp2_with fail
          go_roundw
          case rel => exact ⟨k + 1, by omega, by go_num, by rw [HSR, HN.out]; exact hrow3.set k _ (by omega), hz3.other4 (by omega) _ _ _ _ _, below_grown hB (recs_grown _ _ _ _ _ _ _) (by omega) (by omega), by simp; omega⟩
          case measure => simp [intOf]; omega
        · have HN : Hid (slotR l k = .none) := if_neg (fun h => hq9 h.2)
          go_wp2_with fail
          rw [HW.out]
          refine (slotOf_any _ _ d1 (by omega)).mono ?_
          rintro e w4 ⟨rfl, rfl⟩
          have hq9' : ¬ ((((decR (slotB l k)).seq - 1) % 9 : Nat) : Int) = (k : Int) := by omega
          go_wp2_with fail
          go_roundw
          case rel => exact ⟨k + 1, by omega, by go_num, by rw [HSR, HN.out, helds_same l k hlt]; exact hrow3, hz3, hB, by omega⟩
          case measure => simp [intOf]; omega
    · have ek : k = 9 := by omega
      subst ek
      go_wp2_with (first | refine wpList_load_row rfl 105 _ rfl (w.heap.size + 1 + 1) rfl _ _ _ _ hrow.heap Tryd.underlying105 rfl (info_recs _ (helds_length _ _)) ?_ | refine wpList_store_row rfl 105 _ _ rfl (w.heap.size + 1) _ rfl rfl 105 _ hz.heap (info_recs _ (helds_length l 9)) (by simp [recCells_length, helds_length]) (recs_one _) ?_)
      refine bodyPost_ret (res_recs rfl _ _ (w.heap.size + 1) (helds l 9) (helds_length _ _) rfl ⟨setRow_heap _ _ _ _ _ _ hz.heap⟩) rfl ?_
      exact ⟨rfl, below_setRow hb (by omega) _⟩
end Go.Proofs.YtebdepbnhemnpaaDoor
