/-
  nightwatchref1.RecordsOf (the document's answer) by a contract. Conditions: as named.
-/
import Derived.Test.YtebdepbnhemnpaaDoorRefHeld
namespace Go.Proofs.YtebdepbnhemnpaaDoor
open Go.RowKit Go.Extern.Stop Go.Stop Go.Extern

theorem slot_textB (T : ByteArray) (k : Nat) (hs : (153 : Int) ≤ (T.size : Int)) (hk : k < 9) :
    ∃ P : ByteArray, P.data.toList = slotB (T.data.toList.take 153) k ∧ P.size = 17 ∧ ∀ W, (Instr.slice 9 (.string T) (some (.int .i64 ((k : Int) * 17))) (some (.int .i64 (((k : Int) + 1) * 17))) Option.none).run Tryd.prog W = .ok (.string P) W := by
  refine ⟨T.extract (k * 17) (k * 17 + 17), ?_, by simp; omega, fun W => ?_⟩
  · rw [Lib.extract_data, Nat.add_sub_cancel_left]
    unfold slotB
    rw [List.drop_take, List.take_take]
    congr 1
    omega
  · rw [run_slice_string _ _ T _ _ _ _ Tryd.underlying9 (by omega) (by omega) (by omega)]
    congr 3 <;> omega
theorem rheld_at (T : ByteArray) (k : Nat) (w : World) (hs : (153 : Int) ≤ (T.size : Int)) (hk : k < 9) :
    Calls Tryd.prog 60 #[.string T, .int .i64 (k : Int)] w fun e w' => e = .returned (.tuple #[(slotR (T.data.toList.take 153) k).val, .bool (hasR (T.data.toList.take 153) k)]) ∧ Below w.heap.size w w' := by
  obtain ⟨P, h1, h2, h3⟩ := slot_textB T k hs hk
  exact rheld_any T P k w hk h2 h3 _ h1
theorem has_seq (l : List UInt8) (k : Nat) : (hasR l k = true → 1 ≤ (slotR l k).seq ∧ (slotR l k).seq < 4294967296) ∧ (hasR l k = false → slotR l k = .none) := by
  constructor
  · intro h
    have hc := of_decide_eq_true h
    have e : slotR l k = decR (slotB l k) := if_pos hc
    rw [e]
    exact ⟨(dec_seq hc.1).1, (dec_seq hc.1).2.1⟩
  · intro h
    exact if_neg (of_decide_eq_false h)
theorem helds_at (l : List UInt8) (i : Nat) (hi : i < 9) : (helds l 9)[i]? = some (slotR l i) := by
  rw [List.getElem?_eq_getElem (by rw [helds_length]; exact hi)]
  simp [helds, hi]
theorem helds_getD (l : List UInt8) (i : Nat) (hi : i < 9) : (helds l 9).getD i .none = slotR l i := by
  rw [List.getD_eq_getElem?_getD, List.getElem?_eq_getElem (by rw [helds_length]; exact hi)]
  simp [helds, hi]

theorem recCells_one (x : Rec) : recCells [x] = x.list := by simp [recCells]

set_option maxRecDepth 100000 in
set_option maxHeartbeats 2000000 in
theorem recordsOf_any (T : ByteArray) (w : World) (hs : (153 : Int) ≤ (T.size : Int)) :
    Calls Tryd.prog 34 #[.string T] w fun e w' => ∃ v, e = .returned v ∧ Recs w' w.heap.size v (openL T.data.toList) ∧ Below w.heap.size w w' := by
  obtain ⟨i0, hi, hz0, hz1, hz2⟩ := Tryd.infoRec
  have HML : Hid _ := maxSeq_lt (helds (T.data.toList.take 153) 9) (helds_lt _)
  have HHE : Hid _ := fun k w' hk => rheld_at T k w' hs hk
  unfold openL
  have HAS : Hid _ := has_seq (T.data.toList.take 153)
  have HAT : Hid _ := helds_at (T.data.toList.take 153)
  have HGD : Hid _ := helds_getD (T.data.toList.take 153)
  have HLN : Hid _ := helds_length (T.data.toList.take 153) 9
  generalize T.data.toList.take 153 = l at *
  generalize helds l 9 = L at *
  go_enter Tryd.func34, Tryd.ntmps34
  go_wp2_with fail
  go_loopw [3, 4] (fun b i wr => ∃ k : Nat, k ≤ 9 ∧ i = .int .i64 k ∧ b = .int .i64 (maxSeq (L.take k) : Nat) ∧ Below w.heap.size w wr) (fun _ i _ => 9 - (intOf i).toNat)
  case atStart => exact ⟨0, Nat.zero_le _, rfl, rfl, Below.refl _ _⟩
  case round =>
    obtain ⟨k, hk, rfl, rfl, hb⟩ := hrel
    have hsz := hb.size
    by_cases h9 : k < 9
    · have HT : Hid (maxSeq (L.take (k + 1)) = max (maxSeq (L.take k)) (slotR l k).seq) := by
        show _ = _
        have e := HAT.out k h9
        rw [List.getElem?_eq_getElem (by rw [HLN.out]; exact h9)] at e
        rw [List.take_succ_eq_append_getElem (by rw [HLN.out]; exact h9), maxSeq_snoc, Option.some.inj e]
      go_wp2_with fail
      refine Calls.mono (HHE.out k wr h9) ?_
      rintro e w2 ⟨rfl, hb2⟩
      have HA := HAS.out k
      have b2 := hb.trans (hb2.mono hsz)
      generalize slotR l k = x at *
      generalize maxSeq (L.take k) = M at *
      unfold Rec.val
      cases hh : hasR l k
      · have hx := HA.2 hh
        subst hx
        go_wp2_with fail
        refine ⟨⟨k + 1, by omega, by go_num, ?_, b2.alloc b2.size _⟩, by simp [intOf]; omega⟩
        rw [HT.out]
        show _ = Value.int _ ((max M 0 : Nat) : Int)
        rw [Nat.max_zero]
      · by_cases hgt : (M : Int) < (x.seq : Int)
        · go_wp2_with fail
          refine ⟨⟨k + 1, by omega, by go_num, ?_, b2.alloc b2.size _⟩, by simp [intOf]; omega⟩
          rw [HT.out]
          congr 1
          omega
        · go_wp2_with fail
          refine ⟨⟨k + 1, by omega, by go_num, ?_, b2.alloc b2.size _⟩, by simp [intOf]; omega⟩
          rw [HT.out]
          congr 1
          omega
    · have ek : L.take k = L := List.take_of_length_le (by rw [HLN.out]; omega)
      rw [ek]
      clear ek
      have HM := HML.out
      generalize hbest : maxSeq L = best at *
      have HNL : Hid (newestL L = (chain L 8 best).reverse) := by show _ = _; unfold newestL; rw [hbest]
      clear hbest HML
      go_wp2_with fail
      go_loopw [7, 8] (fun v i wx => ∃ (n : Nat) (acc : List Rec), n ≤ best ∧ i = .int .i64 n ∧ acc.length ≤ 8 ∧ acc ++ chain L (8 - acc.length) n = chain L 8 best ∧ Recs wx w.heap.size v acc.reverse ∧ (acc = [] → v = .slice .none 0 0) ∧ Below w.heap.size w wx) (fun _ i _ => (intOf i).toNat)
      case atStart => exact ⟨best, [], Nat.le_refl _, rfl, by simp, rfl, World.ownsRow_nil _ _ _ _, fun _ => rfl, hb⟩
      case round =>
        obtain ⟨n, acc, hn, rfl, hacc, hch, hown, hnil, hb2⟩ := hrel
        have hsz2 := hb2.size
        obtain ⟨sa, c, rfl⟩ := hown.len
        rw [List.length_reverse] at hown hnil ⊢
        by_cases hn0 : 0 < n
        · have hn0' : (0 : Int) < (n : Int) := by omega
          by_cases ha8 : acc.length < 8
          · have ha8' : (acc.length : Int) < 8 := by omega
            have hq : (n - 1) % 9 < 9 := Nat.mod_lt _ (by decide)
            obtain ⟨q, hqe⟩ : ∃ q, (n - 1) % 9 = q := ⟨_, rfl⟩
            rw [hqe] at hq
            have HSTOP := chain_stop L (8 - acc.length) n
            have HSTEP := chain_step L (8 - (acc.length + 1)) n hn0
            rw [hqe, HGD.out q hq] at HSTOP HSTEP
            go_wp2_with fail
            refine (rslot_any n _ hn0 (by omega)).mono ?_
            rintro e w3 ⟨rfl, rfl⟩
            rw [hqe]
            go_wp2_with fail
            refine Calls.mono (HHE.out q w3 hq) ?_
            rintro e w4 ⟨rfl, hb4⟩
            have HA := HAS.out q
            have b4 := hb2.trans (hb4.mono hsz2)
            have s4 := hb4.size
            generalize slotR l q = x at *
            unfold Rec.val
            by_cases hseq : x.seq = n
            · cases hh : hasR l q
              · have hx := HA.2 hh
                rw [hx] at hseq
                have : (0 : Nat) = n := hseq
                omega
              · have HS : Hid _ := HSTEP hseq
                have hown4 : Recs w4 w.heap.size (.slice sa acc.length c) acc.reverse := hown.below hb4 (Nat.le_refl _)
                clear HSTOP HSTEP HA
                subst hseq
                have hz4 := Nat.le_trans hsz2 s4
                obtain ⟨x0, x1, x2, x3⟩ := RecAt.new w4 x 64
                go_upto_region 16 with (at_builtin; refine wpList_append_lies _ rfl (.tmp 56) (.tmp 58) 61 rfl w.heap.size 64 i0 (.agg #[.int .i64 0, .int .i64 0, .int .i64 0, .int .i64 0]) 4 32 Tryd.underlying61 hi hz0 hz1 hz2 rfl (by decide) (.slice .none 0 0) 0 [] rfl (World.ownsRow_nil _ _ _ _) ⟨w4.heap.size + 1, 0, .none⟩ 1 1 x.list rfl rfl (cell_four' _ _ _ _) (list_one x) (by decide) (by unfold maxLen; omega) (by omega) (by simp; omega) (w4.heap.size + 2) (by simp) ?_; intro g5 cp5 w5 hown5 hg5 hor5 hlt5)
                have b45 : Below w4.heap.size w4 w5 := (((Below.refl w4.heap.size w4).alloc (Nat.le_refl _) _).alloc (by simp) _).grown hg5 (by simp; omega) (fun k hk => by cases hk)
                have h5 := hown4.below b45 (Nat.le_refl _)
                have b5 := b4.trans (b45.mono hz4)
                have s5 := b45.size
                have R1 : w5.ownsRow w.heap.size 64 4 (.slice (some ⟨g5, 0, .none⟩) 1 cp5) 1 x.list := hown5
                have HCH : Hid ((acc ++ [x]) ++ chain L (8 - (acc ++ [x]).length) (x.seq - 1) = chain L 8 best) := by
                  show _ = _
                  rw [List.append_assoc, List.length_append, List.length_singleton, ← hch, show 8 - acc.length = 8 - (acc.length + 1) + 1 by omega, HS.out]; rfl
                have hcap5 : 1 ≤ cp5 := by
                  obtain ⟨-, ⟨e, -⟩ | ⟨g', c', cur, e, -, -, hle, -⟩⟩ := R1
                  · cases e
                  · simp only [Value.slice.injEq] at e
                    rw [e.2.2]; exact hle
                clear hch hown5 hg5 hor5 b45 hown4 x0 x1 x2 x3
                by_cases hae : acc = []
                · have e := hnil hae
                  simp only [Value.slice.injEq] at e
                  obtain ⟨rfl, -, rfl⟩ := e
                  subst hae
                  go_wp2_with fail
                  refine ⟨⟨x.seq - 1, [x], by omega, by congr 1; omega, by simp, HCH.out, ?_, fun e => by simp at e, b5⟩, by simp [intOf]; omega⟩
                  show w5.ownsRow _ _ _ _ _ _
                  rw [List.reverse_singleton, recCells_one]
                  exact R1
                · rcases h5.row_form with ⟨e, e2⟩ | ⟨g6, cap6, e, -, hrow, -, -⟩
                  · exact absurd (List.reverse_eq_nil_iff.1 e2) hae
                  simp only [Value.slice.injEq] at e
                  obtain ⟨rfl, -, rfl⟩ := e
                  have hll : Hid ((recCells acc.reverse).length = acc.length * 4) := by show _ = _; rw [recCells_length, List.length_reverse]; omega
                  have hones : Hid (∀ u ∈ recCells acc.reverse, u.oneCell' = true) := fun u hu => Array.all_eq_true_iff_forall_mem.1 (recs_one acc.reverse) u (by simpa using hu)
                  have hcs : Hid _ := hrow.raw
                  clear hnil h5 hrow
                  go_wp2_with (at_builtin; refine wpList_append_own _ rfl (.tmp 60) (.tmp 61) 61 rfl w.heap.size 64 i0 (.agg #[.int .i64 0, .int .i64 0, .int .i64 0, .int .i64 0]) 4 32 Tryd.underlying61 hi hz0 hz1 hz2 rfl (by decide) _ _ _ rfl R1 ⟨g6, 0, .none⟩ acc.length c (recCells acc.reverse) rfl hll.out hcs.out hones.out (by unfold maxLen; omega) (by omega) (by omega) ?_; intro v8 w8 hown8 hgrow8 hlt8)
                  go_roundw
                  case rel =>
                    refine ⟨x.seq - 1, acc ++ [x], by omega, by go_num, by simp; omega, HCH.out, ?_, fun e => by simp at e, b5.grown hgrow8 b5.size (fun q hq => (World.ownsRow.lt R1 q hq).1)⟩
                    show w8.ownsRow _ _ _ _ _ _
                    rw [show (acc ++ [x]).reverse = [x] ++ acc.reverse by simp, recCells_append, List.length_append, List.length_reverse, recCells_one]
                    exact hown8
                  case measure => simp [intOf]; omega
            · have HS : Hid (chain L 8 best = acc) := by
                show _ = _
                rw [← hch, HSTOP (fun h => hseq h.2), List.append_nil]
              have hseq' : ¬ (x.seq : Int) = (n : Int) := by omega
              have h4 := (hown.below hb4 (Nat.le_refl _))
              clear HSTOP HSTEP hch hseq HA
              cases hh : hasR l q
              all_goals
                go_wp2
                go_ret
                refine ⟨_, rfl, ?_, b4.alloc (by omega) _⟩
                rw [HNL.out, HS.out]
                exact h4.below ((Below.refl _ _).alloc (Nat.le_refl _) _) (Nat.le_refl _)
          · have HS : Hid (chain L 8 best = acc) := by
              show _ = _
              rw [← hch, show 8 - acc.length = 0 by omega]; simp [chain]
            have ha8' : ¬ (acc.length : Int) < 8 := by omega
            clear hch
            go_wp2
            go_ret
            refine ⟨_, rfl, ?_, hb2⟩
            rw [HNL.out, HS.out]
            exact hown
        · have HS : Hid (chain L 8 best = acc) := by
            show _ = _
            rw [← hch, chain_stop L _ n (fun h => hn0 h.1), List.append_nil]
          have hn0' : ¬ (0 : Int) < (n : Int) := by omega
          clear hch
          go_wp2
          go_ret
          refine ⟨_, rfl, ?_, hb2⟩
          rw [HNL.out, HS.out]
          exact hown
end Go.Proofs.YtebdepbnhemnpaaDoor
