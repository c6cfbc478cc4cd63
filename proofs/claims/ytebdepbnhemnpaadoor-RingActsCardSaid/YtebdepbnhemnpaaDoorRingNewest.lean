/-
  (ring.log).held where it is refused; ring.newest by a contract. Conditions: as named.
-/
import Derived.Test.YtebdepbnhemnpaaDoorRingRev
namespace Go.Proofs.YtebdepbnhemnpaaDoor
open Go.RowKit Go.Extern.Stop Go.Stop Go.Extern

set_option maxRecDepth 100000 in
set_option maxHeartbeats 2000000 in
theorem held_no (A : Nat → Addr) (b : Nat) (s : CSt) (j : Nat) (w : World) (h : CellsAt w b s) (hs : Sen4 A w) (he : s.err 0 153 = j + 1) :
    Calls Tryd.prog 58 #[.agg #[.pointer (some ⟨b, 0, .none⟩)]] w fun e w' => e = .returned (.tuple #[.agg zero9, errVal A (j + 1)]) ∧ Below w.heap.size w w' := by
  obtain ⟨st1, st2, st3, st4⟩ := held_start w (.cells #[.pointer (some ⟨b, 0, .none⟩)] 104)
  have HRD : Hid _ := read_no4 A b s 0 153 j _ (h.below st3) (hs.below st3) (by decide) he
  go_enter Tryd.func58, Tryd.ntmps58
  go_wp2_with fail
  refine Calls.mono HRD.out ?_
  rintro e w1 ⟨rfl, hw1⟩
  rw [← hw1] at st1 st2 st3 st4
  clear hw1 HRD
  unfold errVal
  go_wp2_with (first | refine wpList_load_row rfl 105 _ rfl (w.heap.size + 1 + 1) rfl _ _ _ _ st1.heap Tryd.underlying105 rfl (info_recs _ (by simp)) ?_ | refine wpList_store_row rfl 105 _ _ rfl (w.heap.size + 1) _ rfl rfl 105 _ st2.heap (info_recs _ (by simp)) rfl (recs_one _) ?_)
  refine bodyPost_ret (res_recs rfl _ _ (w.heap.size + 1) (List.replicate 9 .none) (by simp) rfl ⟨setRow_heap _ _ _ _ _ _ st2.heap⟩) rfl ?_
  exact ⟨rfl, below_setRow st3 (by omega) _⟩

theorem box_recs (w : World) (L : List Rec) : RecsRow (w.alloc (.cells (recCells L).toArray 105)) w.heap.size L := ⟨heap_alloc_new _ _⟩
theorem recCells_part (L : List Rec) : ∀ (k : Nat) (hk : k < L.length), ((recCells L).drop (k * 4)).take 4 = L[k].list := by
  induction L with
  | nil => intro k hk; simp at hk
  | cons x r ih =>
    intro k hk
    rw [recCells_cons]
    cases k with
    | zero => simp [Rec.list]
    | succ k =>
      rw [List.drop_append, List.drop_eq_nil_of_le (by simp [Rec.list]; omega), show (k + 1) * 4 - x.list.length = k * 4 by simp [Rec.list]; omega]
      exact ih k (by simpa using hk)
theorem index_recs (L : List Rec) (k : Nat) (hL : L.length = 9) (hk : k < 9) (W : World) :
    (Instr.index 105 (.agg (recCells L).toArray) (.int .i64 (k : Int))).run Tryd.prog W = .ok (L[k]'(by omega)).val W := by
  have hu := Tryd.underlying105
  have hn : (0 : Int) ≤ (k : Int) ∧ (k : Int) < 9 := by omega
  simp [Instr.index, run_underlying hu, asIntOf, hn, go_sem]
  rw [if_pos hk, recCells_part L k (by omega)]
  rfl
def maxSeq (L : List Rec) : Nat := L.foldl (fun m r => max m r.seq) 0
theorem maxSeq_snoc (L : List Rec) (r : Rec) : maxSeq (L ++ [r]) = max (maxSeq L) r.seq := by simp [maxSeq, List.foldl_append]
theorem maxSeq_lt_from (L : List Rec) : ∀ m, m < 4294967296 → (∀ r ∈ L, r.seq < 4294967296) → L.foldl (fun m r => max m r.seq) m < 4294967296 := by
  induction L with
  | nil => intro m h _; exact h
  | cons r t ih => intro m h h2; exact ih _ (Nat.max_lt.2 ⟨h, h2 r (by simp)⟩) (fun x hx => h2 x (by simp [hx]))
theorem maxSeq_lt (L : List Rec) (h : ∀ r ∈ L, r.seq < 4294967296) : maxSeq L < 4294967296 := maxSeq_lt_from L 0 (by decide) h
/-- The records from number n on down, at most m. -/
def chain (L : List Rec) : Nat → Nat → List Rec
  | 0, _ => []
  | m + 1, n => if 0 < n ∧ (L.getD ((n - 1) % 9) .none).seq = n then L.getD ((n - 1) % 9) .none :: chain L m (n - 1) else []
def newestL (L : List Rec) : List Rec := (chain L 8 (maxSeq L)).reverse

theorem cell_four (w : World) (r : Rec) (ty : TypeId) : ∀ j x, r.list[j]? = some x → (w.alloc (.cells #[.int .i64 (r.seq : Int), .int .i64 (r.ent : Int), .int .i64 (r.kind : Int), .int .i64 (r.tick : Int)] ty)).cell? ((⟨w.heap.size, 0, .none⟩ : Addr).add j) = some x := by
  intro j x hj
  obtain ⟨c0, c1, c2, c3⟩ := RecAt.new w r ty
  match j, hj with
  | 0, hj => exact c0.trans hj
  | 1, hj => exact c1.trans hj
  | 2, hj => exact c2.trans hj
  | 3, hj => exact c3.trans hj
theorem cell_four' (w : World) (o : Obj) (r : Rec) (ty : TypeId) : ∀ j x, r.list[j]? = some x → ((w.alloc o).alloc (.cells #[.int .i64 (r.seq : Int), .int .i64 (r.ent : Int), .int .i64 (r.kind : Int), .int .i64 (r.tick : Int)] ty)).cell? ((⟨w.heap.size + 1, 0, .none⟩ : Addr).add j) = some x := by
  have := cell_four (w.alloc o) r ty
  rw [World.size_alloc] at this
  exact this
theorem list_one (r : Rec) : ∀ u ∈ r.list, u.oneCell' = true := by
  intro u hu
  simp only [Rec.list, List.mem_cons, List.not_mem_nil, or_false] at hu
  rcases hu with rfl | rfl | rfl | rfl <;> rfl
theorem Recs.len {w : World} {base : Nat} {v : Value} {L : List Rec} (h : Recs w base v L) : ∃ sa c, v = .slice sa L.length c := by
  rcases h.row_form with ⟨rfl, rfl⟩ | ⟨g, cap, rfl, -⟩
  · exact ⟨_, _, rfl⟩
  · exact ⟨_, _, rfl⟩
theorem Recs.below {w w' : World} {base B : Nat} {v : Value} {L : List Rec} (h : Recs w base v L) (hb : Below B w w') (hB : w.heap.size ≤ B) : Recs w' base v L := by
  rcases h.row_form with ⟨rfl, rfl⟩ | ⟨g, cap, rfl, hbg, hrow, hlc, hm⟩
  · exact World.ownsRow_nil _ _ _ _
  · exact Recs.of_row (hrow.below hb (Nat.lt_of_lt_of_le hrow.lt hB)) hbg hlc hm
theorem chain_step (L : List Rec) (m n : Nat) (h : 0 < n) (h2 : (L.getD ((n - 1) % 9) .none).seq = n) : chain L (m + 1) n = L.getD ((n - 1) % 9) .none :: chain L m (n - 1) := by
  show (if _ then _ else _) = _
  rw [if_pos ⟨h, h2⟩]
theorem chain_stop (L : List Rec) (m n : Nat) (h : ¬ (0 < n ∧ (L.getD ((n - 1) % 9) .none).seq = n)) : chain L m n = [] := by
  cases m with
  | zero => rfl
  | succ m => show (if _ then _ else _) = _; rw [if_neg h]
theorem chain_len (L : List Rec) : ∀ m n, (chain L m n).length ≤ m := by
  intro m
  induction m with
  | zero => intro n; exact Nat.le_refl _
  | succ m ih => intro n; simp only [chain]; split; · simp; exact ih _
                 · simp

set_option maxRecDepth 100000 in
set_option maxHeartbeats 2000000 in
theorem newest_any (L : List Rec) (w : World) (hL : L.length = 9) (hlt : ∀ r ∈ L, r.seq < 4294967296) :
    Calls Tryd.prog 59 #[.agg (recCells L).toArray] w fun e w' => ∃ v, e = .returned v ∧ Recs w' (w.heap.size + 1) v (newestL L) ∧ Below w.heap.size w w' := by
  obtain ⟨i0, hi, hz0, hz1, hz2⟩ := Tryd.infoRec
  have R0 := box_recs w L
  have B0 := (Below.refl w.heap.size w).alloc (Nat.le_refl _) (.cells (recCells L).toArray 105)
  have HML : Hid _ := maxSeq_lt L hlt
  go_enter Tryd.func59, Tryd.ntmps59
  go_wp2_with (refine wpList_load_row rfl 105 _ rfl w.heap.size rfl _ _ _ _ R0.heap Tryd.underlying105 rfl (info_recs _ hL) ?_)
  go_loopw [3, 10] (fun g i wr => ∃ k : Nat, k ≤ 9 ∧ i = .int .i64 k ∧ g = .int .i64 (maxSeq (L.take k) : Nat) ∧ RecsRow wr w.heap.size L ∧ Below w.heap.size w wr) (fun _ i _ => 9 - (intOf i).toNat)
  case atStart => exact ⟨0, Nat.zero_le _, rfl, rfl, R0, B0⟩
  case round =>
    obtain ⟨k, hk, rfl, rfl, hrow, hb⟩ := hrel
    by_cases h9 : k < 9
    · have ix := index_recs L k hL h9
      unfold Rec.val at ix
      have hsz := hrow.lt
      have HT : Hid (maxSeq (L.take (k + 1)) = max (maxSeq (L.take k)) (L[k]'(by omega)).seq) := by
        show _ = _
        rw [List.take_succ_eq_append_getElem (by omega), maxSeq_snoc]
      go_wp2_with fail
      refine ⟨⟨k + 1, by omega, by go_num, ?_, hrow.below ((Below.refl wr.heap.size wr).alloc (Nat.le_refl _) _) hrow.lt, hb.alloc (by omega) _⟩, by simp [intOf]; omega⟩
      rw [HT.out]
      congr 1
      split <;> omega
    · have ek : L.take k = L := List.take_of_length_le (by omega)
      rw [ek]
      clear ek
      have HM := HML.out
      generalize hbest : maxSeq L = best at *
      have HNL : Hid (newestL L = (chain L 8 best).reverse) := by show _ = _; unfold newestL; rw [hbest]
      have hrl := hrow.lt
      clear hbest HML
      go_wp2_with fail
      go_loopw [6, 7] (fun v i wx => ∃ (n : Nat) (acc : List Rec), n ≤ best ∧ i = .int .i64 n ∧ acc.length ≤ 8 ∧ acc ++ chain L (8 - acc.length) n = chain L 8 best ∧ Recs wx (w.heap.size + 1) v acc ∧ RecsRow wx w.heap.size L ∧ Below w.heap.size w wx) (fun _ i _ => (intOf i).toNat)
      case atStart => exact ⟨best, [], Nat.le_refl _, rfl, by simp, rfl, World.ownsRow_nil _ _ _ _, hrow, hb⟩
      case round =>
        obtain ⟨n, acc, hn, rfl, hacc, hch, hown, hrow2, hb2⟩ := hrel
        obtain ⟨sa, c, rfl⟩ := hown.len
        have hrl2 := hrow2.lt
        by_cases hn0 : 0 < n
        · have hn0' : (0 : Int) < (n : Int) := by omega
          by_cases ha8 : acc.length < 8
          · have ha8' : (acc.length : Int) < 8 := by omega
            have hq : (n - 1) % 9 < 9 := Nat.mod_lt _ (by decide)
            obtain ⟨q, hqe⟩ : ∃ q, (n - 1) % 9 = q := ⟨_, rfl⟩
            rw [hqe] at hq
            have hq0 : (0 : Int) ≤ (q : Int) := by omega
            have hq9 : (q : Int) < 9 := by omega
            have hgd : L.getD q .none = L[q]'(by omega) := by rw [List.getD_eq_getElem?_getD, List.getElem?_eq_getElem (by omega)]; rfl
            obtain ⟨c0, c1, c2, c3⟩ := hrow2.cells q (by omega)
            rw [← hgd] at c0 c1 c2 c3
            clear hgd
            have HSTOP := chain_stop L (8 - acc.length) n
            have HSTEP := chain_step L (8 - (acc.length + 1)) n hn0
            rw [hqe] at HSTOP HSTEP
            generalize L.getD q .none = x at *
            go_wp2_with fail
            refine (slotOf_any n _ hn0 (by omega)).mono ?_
            rintro e w3 ⟨rfl, rfl⟩
            rw [hqe]
            by_cases hseq : x.seq = n
            · have HS : Hid _ := HSTEP hseq
              have B3 := (Below.refl w3.heap.size w3).alloc (Nat.le_refl _) (.cells #[.int .i64 (x.seq : Int), .int .i64 (x.ent : Int), .int .i64 (x.kind : Int), .int .i64 (x.tick : Int)] 64)
              obtain ⟨x0, x1, x2, x3⟩ := RecAt.new w3 x 64
              have hown' : w3.ownsRow (w.heap.size + 1) 64 4 (.slice sa acc.length c) acc.length (recCells acc) := hown
              clear HSTOP HSTEP
              subst hseq
              go_wp2_with (at_builtin; refine wpList_append_own _ rfl (.tmp 36) (.tmp 38) 61 rfl (w.heap.size + 1) 64 i0 (.agg #[.int .i64 0, .int .i64 0, .int .i64 0, .int .i64 0]) 4 32 Tryd.underlying61 hi hz0 hz1 hz2 rfl (by decide) _ _ _ rfl ((hown'.alloc _).alloc _) ⟨w3.heap.size + 1, 0, .none⟩ 1 1 x.list rfl rfl (cell_four' _ _ _ _) (list_one x) (by unfold maxLen; omega) (by omega) (by simp; omega) ?_; intro v8 w8 hown8 hgrow8 hlt8)
              go_roundw
              case rel =>
                have hsz3 : w.heap.size + 1 ≤ ((w3.alloc (.cells #[.int .i64 (x.seq : Int), .int .i64 (x.ent : Int), .int .i64 (x.kind : Int), .int .i64 (x.tick : Int)] 64)).alloc (.cells #[.int .i64 (x.seq : Int), .int .i64 (x.ent : Int), .int .i64 (x.kind : Int), .int .i64 (x.tick : Int)] 64)).heap.size := by simp; omega
                have BB : Below (w.heap.size + 1) w3 w8 := ((((Below.refl _ _).alloc (by omega) _).alloc (by simp; omega) _)).grown hgrow8 hsz3 (fun k hk => (hown'.lt k hk).1)
                refine ⟨x.seq - 1, acc ++ [x], by omega, by go_num, by simp; omega, ?_, ?_, hrow2.below BB (by omega), hb2.trans (BB.mono (by omega))⟩
                · rw [List.append_assoc, List.length_append, List.length_singleton, ← hch, show 8 - acc.length = 8 - (acc.length + 1) + 1 by omega, HS.out]; rfl
                · show w8.ownsRow _ _ _ _ (acc ++ [x]).length _
                  rw [recCells_append, List.length_append]
                  exact hown8
              case measure => simp [intOf]; omega
            · have HS : Hid (chain L 8 best = acc) := by
                show _ = _
                rw [← hch, HSTOP (fun h => hseq h.2), List.append_nil]
              have hseq' : ¬ (x.seq : Int) = (n : Int) := by omega
              have B3 := (Below.refl w3.heap.size w3).alloc (Nat.le_refl _) (.cells #[.int .i64 (x.seq : Int), .int .i64 (x.ent : Int), .int .i64 (x.kind : Int), .int .i64 (x.tick : Int)] 64)
              clear HSTOP HSTEP hch hseq
              go_wp2_with fail
              refine (reverse_any (w.heap.size + 1) _ acc _ (hown.below B3 (by omega)) (by omega) (by simp; omega)).mono ?_
              rintro e w5 ⟨rfl, hr5, hb5⟩
              go_wp2_with fail
              go_ret
              refine ⟨_, rfl, ?_, (hb2.trans (B3.mono (by omega))).trans (hb5.mono (by omega))⟩
              rw [HNL.out, HS.out]
              exact hr5
          · have HS : Hid (chain L 8 best = acc) := by
              show _ = _
              rw [← hch, show 8 - acc.length = 0 by omega]; simp [chain]
            have ha8' : ¬ (acc.length : Int) < 8 := by omega
            clear hch
            go_wp2_with fail
            refine (reverse_any (w.heap.size + 1) _ acc _ hown (by omega) (by omega)).mono ?_
            rintro e w5 ⟨rfl, hr5, hb5⟩
            go_wp2_with fail
            go_ret
            refine ⟨_, rfl, ?_, hb2.trans (hb5.mono (by omega))⟩
            rw [HNL.out, HS.out]
            exact hr5
        · have HS : Hid (chain L 8 best = acc) := by
            show _ = _
            rw [← hch, chain_stop L _ n (fun h => hn0 h.1), List.append_nil]
          have hn0' : ¬ (0 : Int) < (n : Int) := by omega
          clear hch
          go_wp2_with fail
          refine (reverse_any (w.heap.size + 1) _ acc _ hown (by omega) (by omega)).mono ?_
          rintro e w5 ⟨rfl, hr5, hb5⟩
          go_wp2_with fail
          go_ret
          refine ⟨_, rfl, ?_, hb2.trans (hb5.mono (by omega))⟩
          rw [HNL.out, HS.out]
          exact hr5
end Go.Proofs.YtebdepbnhemnpaaDoor
