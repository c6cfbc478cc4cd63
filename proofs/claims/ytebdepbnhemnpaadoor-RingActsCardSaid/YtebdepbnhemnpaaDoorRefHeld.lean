/-
  nightwatchref1.held (the document's answer) by a contract. Conditions: as named.
-/
import Derived.Test.YtebdepbnhemnpaaDoorRefBody
namespace Go.Proofs.YtebdepbnhemnpaaDoor
open Go.RowKit Go.Extern.Stop Go.Stop Go.Extern

def enAt : Nat → Nat
  | 0 => 4
  | 1 => 5
  | 2 => 6
  | _ => 12
def stAt : Nat → Nat
  | 0 => 0
  | 1 => 4
  | 2 => 5
  | 3 => 6
  | _ => 12
theorem st_next (i : Nat) (h : i < 4) : stAt (i + 1) = enAt i := by
  match i, h with
  | 0, _ => rfl
  | 1, _ => rfl
  | 2, _ => rfl
  | 3, _ => rfl
theorem st_le (i : Nat) (h : i < 4) : stAt i ≤ enAt i ∧ enAt i ≤ 12 ∧ enAt i ≤ stAt i + 6 := by
  match i, h with
  | 0, _ => decide
  | 1, _ => decide
  | 2, _ => decide
  | 3, _ => decide
/-- The numbers of the first i parts. -/
def numsTo (s : List UInt8) (i : Nat) : List Nat := (List.range i).map fun j => num ((s.drop (stAt j)).take (enAt j - stAt j))
theorem numsTo_succ (s : List UInt8) (i : Nat) : numsTo s (i + 1) = numsTo s i ++ [num ((s.drop (stAt i)).take (enAt i - stAt i))] := by simp [numsTo, List.range_succ]
theorem numsTo_len (s : List UInt8) (i : Nat) : (numsTo s i).length = i := by simp [numsTo]
theorem numsTo_four (s : List UInt8) : numsTo s 4 = [(dec0 s).seq, (dec0 s).ent, (dec0 s).kind, (dec0 s).tick] := by
  simp [numsTo, List.range_succ, stAt, enAt, dec0]
theorem num_next (s : List UInt8) (a b : Nat) (h : b < s.length) (hab : a ≤ b) : num ((s.drop a).take (b + 1 - a)) = 256 * num ((s.drop a).take (b - a)) + s[b].toNat := by
  have e : (s.drop a).take (b + 1 - a) = (s.drop a).take (b - a) ++ [s[b]] := by
    rw [show b + 1 - a = b - a + 1 by omega, List.take_succ_eq_append_getElem (by rw [List.length_drop]; omega), List.getElem_drop]
    congr 3
    omega
  rw [e, num_snoc]
  omega
theorem Tryd.infoInt : ∃ i : TypeInfo, Tryd.prog.info? 3 = some i ∧ i.zero = some (.int .i64 0) ∧ i.size = 1 ∧ i.bytes = 8 := by
  have h : (Tryd.prog.info? 3).map (fun i => (i.zero, i.size, i.bytes)) = some (some (.int .i64 0), 1, 8) := by kernel_rfl
  obtain ⟨i, hi, he⟩ := Option.map_eq_some_iff.1 h
  simp only [Prod.mk.injEq] at he
  exact ⟨i, hi, he.1, he.2.1, he.2.2⟩
def intVal (n : Nat) : Value := .int .i64 (n : Int)
open Classical in
def hasR (l : List UInt8) (k : Nat) : Bool := decide (decB (slotB l k) = true ∧ ((decR (slotB l k)).seq - 1) % 9 = k)

theorem dec0_ok (s : List UInt8) : (dec0 s).Ok := by
  have key : ∀ (t : List UInt8), t.length ≤ 6 → num t < 9223372036854775808 := fun t ht => by
    have q1 := num_lt t
    have q3 : 256 ^ t.length ≤ 256 ^ 6 := Nat.pow_le_pow_right (by decide) ht
    omega
  exact ⟨key _ (by rw [List.length_take]; omega), key _ (by rw [List.length_take]; omega), key _ (by rw [List.length_take]; omega), key _ (by rw [List.length_take]; omega)⟩
theorem slot_none (l : List UInt8) (k : Nat) (h : ¬ (decB (slotB l k) = true ∧ ((decR (slotB l k)).seq - 1) % 9 = k)) : slotR l k = .none ∧ hasR l k = false :=
  ⟨if_neg h, decide_eq_false h⟩
theorem slot_low (l : List UInt8) (k : Nat) (x : Rec) (hx : dec0 (slotB l k) = x) (h : x.seq < 1) : slotR l k = .none ∧ hasR l k = false := by
  apply slot_none
  have : dec (slotB l k) = none := if_pos (Or.inl (by rw [hx]; exact h))
  unfold decB
  rw [this]; simp
theorem slot_bad (l : List UInt8) (k : Nat) (x : Rec) (hx : dec0 (slotB l k) = x) (h : enc x ≠ slotB l k) : slotR l k = .none ∧ hasR l k = false := by
  apply slot_none
  have : dec (slotB l k) = none := if_pos (Or.inr (by rw [hx]; exact h))
  unfold decB
  rw [this]; simp
theorem slot_else (l : List UInt8) (k : Nat) (x : Rec) (hx : dec0 (slotB l k) = x) (h : (x.seq - 1) % 9 ≠ k) : slotR l k = .none ∧ hasR l k = false := by
  apply slot_none
  rintro ⟨hd, he⟩
  have := (dec_seq hd).2.2.1
  rw [this, hx] at he
  exact h he
theorem slot_good (l : List UInt8) (k : Nat) (x : Rec) (hx : dec0 (slotB l k) = x) (h1 : ¬ x.seq < 1) (h2 : (x.seq - 1) % 9 = k) (h3 : enc x = slotB l k) : slotR l k = x ∧ hasR l k = true := by
  have : dec (slotB l k) = some x := by
    unfold dec
    rw [hx, if_neg (fun h => by
      rcases h with h | h
      · exact h1 h
      · exact h h3)]
  have hd : decB (slotB l k) = true := by unfold decB; rw [this]; rfl
  have hr : decR (slotB l k) = x := by unfold decR; rw [this]; rfl
  have hc : decB (slotB l k) = true ∧ ((decR (slotB l k)).seq - 1) % 9 = k := ⟨hd, by rw [hr]; exact h2⟩
  exact ⟨(if_pos hc).trans hr, decide_eq_true hc⟩
theorem own_ints {w : World} {base : Nat} {v : Value} {s : List UInt8} (h : w.ownsRow base 3 1 v 4 ((numsTo s 4).map intVal)) :
    ∃ g c, v = .slice (some ⟨g, 0, .none⟩) 4 c ∧ g < w.heap.size ∧ w.cell? ⟨g, 0, .none⟩ = some (intVal (dec0 s).seq) ∧ w.cell? ⟨g, 1, .none⟩ = some (intVal (dec0 s).ent) ∧ w.cell? ⟨g, 2, .none⟩ = some (intVal (dec0 s).kind) ∧ w.cell? ⟨g, 3, .none⟩ = some (intVal (dec0 s).tick) := by
  rw [numsTo_four] at h
  obtain ⟨hl, ⟨-, h4⟩ | ⟨g, c, cur, rfl, -, hg, hnc, -, hcs, hx⟩⟩ := h
  · cases h4
  · refine ⟨g, c, rfl, lt_of_row hg, ?_⟩
    have key : ∀ i, i < 4 → w.cell? ⟨g, i, .none⟩ = (([(dec0 s).seq, (dec0 s).ent, (dec0 s).kind, (dec0 s).tick].map intVal))[i]? := fun i hi => by
      rw [← hx, List.getElem?_take, if_pos (by omega)]
      simp [World.cell?, hg]
    exact ⟨(key 0 (by decide)).trans rfl, (key 1 (by decide)).trans rfl, (key 2 (by decide)).trans rfl, (key 3 (by decide)).trans rfl⟩
theorem rheld_start (w : World) : ∃ W, ((w.alloc (.cells #[.int .i64 0, .int .i64 0, .int .i64 0, .int .i64 0] 64)).alloc (.cells #[.int .i64 4, .int .i64 5, .int .i64 6, .int .i64 12] 3)) = W ∧ RecRow W w.heap.size .none ∧ (∀ j, j < 4 → W.cell? ⟨w.heap.size + 1, j, .none⟩ = some (.int .i64 (enAt j : Nat))) ∧ Below w.heap.size w W ∧ W.heap.size = w.heap.size + 2 := by
  refine ⟨_, rfl, (RecRow.new w .none).below ((Below.refl (w.heap.size + 1) _).alloc (by simp) _) (Nat.lt_succ_self _), ?_, ((Below.refl _ _).alloc (Nat.le_refl _) _).alloc (by simp) _, by simp⟩
  intro j hj
  have e : w.heap.size + 1 = (w.alloc (.cells #[.int .i64 0, .int .i64 0, .int .i64 0, .int .i64 0] 64)).heap.size := by simp
  rw [e]
  match j, hj with
  | 0, _ => exact World.cell?_alloc_at _ _ _ _ rfl
  | 1, _ => exact World.cell?_alloc_at _ _ _ _ rfl
  | 2, _ => exact World.cell?_alloc_at _ _ _ _ rfl
  | 3, _ => exact World.cell?_alloc_at _ _ _ _ rfl

set_option maxRecDepth 100000 in
set_option maxHeartbeats 2000000 in
theorem rheld_any (T P : ByteArray) (k : Nat) (w : World) (hk : k < 9) (hP : P.size = 17)
    (sl : ∀ W, (Instr.slice 9 (.string T) (some (.int .i64 ((k : Int) * 17))) (some (.int .i64 (((k : Int) + 1) * 17))) Option.none).run Tryd.prog W = .ok (.string P) W) (l : List UInt8) (hPl : P.data.toList = slotB l k) :
    Calls Tryd.prog 60 #[.string T, .int .i64 (k : Int)] w fun e w' => e = .returned (.tuple #[(slotR l k).val, .bool (hasR l k)]) ∧ Below w.heap.size w w' := by
  obtain ⟨i0, hi, hz0, hz1, hz2⟩ := Tryd.infoInt
  have hP' : (P.size : Int) = 17 := by omega
  go_enter Tryd.func60, Tryd.ntmps60
  go_upto_region 7 with fail
  obtain ⟨W, hW, Z0, E0, B0, s0⟩ := rheld_start w
  rw [hW]
  clear hW
  have hlen : P.data.toList.length = 17 := by simpa using hP
  go_loopw [7, 8, 10, 11] (fun _ lv a i wr => ∃ (j : Nat), j ≤ 4 ∧ i = .int .i64 j ∧ a = .int .i64 (stAt j : Nat) ∧ wr.ownsRow (w.heap.size + 2) 3 1 lv j ((numsTo P.data.toList j).map intVal) ∧ Below (w.heap.size + 2) W wr) (fun _ _ _ i _ => 4 - (intOf i).toNat)
  case atStart => exact ⟨0, by decide, rfl, rfl, World.ownsRow_nil _ _ _ _, Below.refl _ _⟩
  case round =>
    obtain ⟨j, hj, rfl, rfl, hown, hb⟩ := hrel
    have hsz := hb.size
    by_cases hj4 : j < 4
    · have ec : wr.cell? ⟨w.heap.size + 1, j, .none⟩ = some (.int .i64 (enAt j : Nat)) := (hb.cell (by show w.heap.size + 1 < _; omega)).trans (E0 j hj4)
      obtain ⟨h1, h2, h3⟩ := st_le j hj4
      have hn := st_next j hj4
      have j0 : (0 : Int) ≤ (j : Int) := by omega
      have j1 : (j : Int) < 4 := by omega
      have HNX : Hid _ := numsTo_succ P.data.toList j
      generalize hst : stAt j = st at *
      generalize hen : enAt j = en at *
      clear hst hen
      go_wp2_with fail
      go_loopw [7, 10] (fun v a wx => ∃ (m : Nat), st ≤ m ∧ m ≤ en ∧ a = .int .i64 m ∧ v = .int .i64 (num ((P.data.toList.drop st).take (m - st)) : Nat) ∧ wx = wr) (fun _ a _ => en - (intOf a).toNat)
      case atStart => exact ⟨st, Nat.le_refl _, h1, rfl, by rw [Nat.sub_self]; rfl, rfl⟩
      case round =>
        obtain ⟨m, hm1, hm2, rfl, rfl, rfl⟩ := hrel
        by_cases hme : m < en
        · have HV : Hid (num ((P.data.toList.drop st).take (m - st)) < 1099511627776) := by
            show _ < _
            have q1 := num_lt ((P.data.toList.drop st).take (m - st))
            have q2 : ((P.data.toList.drop st).take (m - st)).length ≤ 5 := by rw [List.length_take]; omega
            have q3 : 256 ^ ((P.data.toList.drop st).take (m - st)).length ≤ 256 ^ 5 := Nat.pow_le_pow_right (by decide) q2
            omega
          have hmP : m < P.size := by omega
          have HN : Hid ((256 : Int) * (num ((P.data.toList.drop st).take (m - st)) : Nat) + ((P[m]'hmP).toNat : Int) = (num ((P.data.toList.drop st).take (m + 1 - st)) : Nat)) := by
            show _ = _
            rw [num_next P.data.toList st m (by omega) hm1]
            have : P.data.toList[m]'(by omega) = P[m]'hmP := rfl
            rw [this]
            omega
          have HB := (P[m]'hmP).toNat_lt
          have hvi := HV.out
          have m0 : (0 : Int) ≤ (m : Int) := by omega
          have m1 : (m : Int) < (P.size : Int) := by omega
          generalize num ((P.data.toList.drop st).take (m - st)) = N at *
          go_wp2_with fail
          exact ⟨⟨m + 1, by omega, by omega, by go_num, congrArg (Value.int .i64) HN.out, trivial⟩, by simp [intOf]; omega⟩
        · have em : m = en := by omega
          subst em
          have HM : Hid ((numsTo P.data.toList (j + 1)).map intVal = (numsTo P.data.toList j).map intVal ++ [.int .i64 (num ((P.data.toList.drop st).take (m - st)) : Nat)]) := by
            show _ = _
            rw [HNX.out, List.map_append]; rfl
          generalize num ((P.data.toList.drop st).take (m - st)) = N at *
          go_wp2_with (at_builtin; refine wpList_append_own _ rfl (.tmp 40) (.tmp 42) 22 rfl (w.heap.size + 2) 3 i0 (.int .i64 0) 1 8 Tryd.underlying22 hi hz0 hz1 hz2 rfl (by decide) _ _ _ rfl (hown.alloc _) ⟨wr.heap.size, 0, .none⟩ 1 1 [.int .i64 (N : Int)] rfl rfl (cell_one _ _ _) (by intro u hu; simp at hu; subst hu; rfl) (by unfold maxLen; omega) (by omega) (by simp; omega) ?_; intro v1 w1 hown1 hgrow1 hlt1)
          go_roundw
          case rel => exact ⟨j + 1, by omega, by go_num, by rw [hn], by rw [HM.out]; exact hown1, (hb.alloc (by omega) _).grown hgrow1 (by simp; omega) (fun q hq => (hown.lt q hq).1)⟩
          case measure => simp [intOf]; omega
    · have ej : j = 4 := by omega
      subst ej
      have Z1 := Z0.below hb (by omega)
      obtain ⟨g, c, rfl, hglt, hcs⟩ := own_ints hown
      have hgne : ¬ g = wr.heap.size := by omega
      rw [hPl] at hcs
      unfold intVal at hcs
      obtain ⟨n0, n1, n2, n3⟩ := hcs
      have bel : Below w.heap.size w wr := B0.trans (hb.mono (by omega))
      generalize hx : dec0 (slotB l k) = x at *
      go_upto_region 14 with fail
      go_region
      obtain ⟨W2, hW2⟩ : ∃ W2, (wr.alloc (.cells #[.int .i64 (x.seq : Int), .int .i64 (x.ent : Int), .int .i64 (x.kind : Int), .int .i64 (x.tick : Int)] 64)).drew = W2 := ⟨_, rfl⟩
      have X2 : RecRow W2 wr.heap.size x := by rw [← hW2]; exact (RecRow.new wr x).drew
      have B2 : Below wr.heap.size wr W2 := by rw [← hW2]; exact ((Below.refl _ _).alloc (Nat.le_refl _) _).drew
      rw [hW2]
      have s2 := X2.lt
      clear hW2 n0 n1 n2 n3
      have Z2 := Z1.below B2 Z1.lt
      have zl := Z2.lt
      have bel2 := bel.trans (B2.mono bel.size)
      have hok := dec0_ok (slotB l k)
      rw [hx] at hok
      have x0 := X2.at.c0
      have x1 := X2.at.c1
      have x2 := X2.at.c2
      have x3 := X2.at.c3
      have z0 := Z2.at.c0
      have z1 := Z2.at.c1
      have z2 := Z2.at.c2
      have z3 := Z2.at.c3
      have f0 := Z2.frozen 0
      have f1 := Z2.frozen 1
      have f2 := Z2.frozen 2
      have f3 := Z2.frozen 3
      by_cases h1 : x.seq < 1
      · have h1' : (x.seq : Int) < 1 := by omega
        have HR : Hid _ := slot_low l k x hx h1
        go_wp2_with fail
        refine bodyPost_ret (res_rec rfl _ _ w.heap.size .none rfl (Z2.set4 .none).at) rfl ?_
        rw [HR.out.1, HR.out.2]
        exact ⟨rfl, below_grown bel2 (grown_set4 _ _ _ _ _ _) bel2.size (Nat.le_refl _)⟩
      · have h1' : ¬ (x.seq : Int) < 1 := by omega
        by_cases hq : (x.seq - 1) % 9 = k
        · go_wp2_with fail
          refine (rslot_any x.seq W2 (by omega) hok.seq).mono ?_
          rintro e w3 ⟨rfl, rfl⟩
          rw [hq]
          have EV : Rec.val x = .agg #[.int .i64 (x.seq : Int), .int .i64 (x.ent : Int), .int .i64 (x.kind : Int), .int .i64 (x.tick : Int)] := rfl
          have BD := body_any x w3 hok
          rw [EV] at BD
          have HBD : Hid _ := BD
          clear BD EV
          go_wp2_with fail
          refine Calls.mono HBD.out ?_
          rintro e w4 ⟨T4, rfl, hT4, hs4, hb4⟩
          go_wp2_with fail
          refine (byte_any 165 w4).mono ?_
          rintro e w5 ⟨rfl, hb5⟩
          have hs5 : (⟨#[UInt8.ofNat 165]⟩ : ByteArray).size = 1 := rfl
          have hT5 : (⟨#[UInt8.ofNat 165]⟩ : ByteArray).data.toList = [165] := rfl
          generalize (⟨#[UInt8.ofNat 165]⟩ : ByteArray) = T5 at *
          have HE : Hid ((T4 ++ T5).data.toList = enc x) := by
            show _ = _
            simp only [ByteArray.data_append, Array.toList_append, hT4, hT5]; rfl
          have b5 := bel2.trans ((hb4.mono bel2.size).trans (hb5.mono (Nat.le_trans bel2.size hb4.size)))
          have Z5 := (Z2.below hb4 Z2.lt).below hb5 (Nat.lt_of_lt_of_le Z2.lt hb4.size)
          have X5 := (X2.below hb4 X2.lt).below hb5 (Nat.lt_of_lt_of_le X2.lt hb4.size)
          clear hT4 hT5 x0 x1 x2 x3 z0 z1 z2 z3 f0 f1 f2 f3 HBD
          have x0 := X5.at.c0
          have x1 := X5.at.c1
          have x2 := X5.at.c2
          have x3 := X5.at.c3
          have z0 := Z5.at.c0
          have z1 := Z5.at.c1
          have z2 := Z5.at.c2
          have z3 := Z5.at.c3
          have f0 := Z5.frozen 0
          have f1 := Z5.frozen 1
          have f2 := Z5.frozen 2
          have f3 := Z5.frozen 3
          by_cases he : T4 ++ T5 = P
          · have HR : Hid _ := slot_good l k x hx h1 hq (by rw [← HE.out, he, hPl])
            have heq : ((T4 ++ T5).toList == P.toList) = true := by rw [he]; simp
            go_wp2_with fail
            refine bodyPost_ret (res_rec rfl _ _ w.heap.size x rfl (Z5.set4 x).at) rfl ?_
            rw [HR.out.1, HR.out.2]
            exact ⟨rfl, below_grown b5 (grown_set4 _ _ _ _ _ _) b5.size (Nat.le_refl _)⟩
          · have HR : Hid _ := slot_bad l k x hx (fun e => he (by
              apply ByteArray.ext
              apply Array.toList_inj.1
              rw [HE.out, hPl]; exact e))
            have heq : ((T4 ++ T5).toList == P.toList) = false := by
              rw [beq_eq_false_iff_ne]
              exact fun e => he (text_inj e)
            go_wp2_with fail
            refine bodyPost_ret (res_rec rfl _ _ w.heap.size .none rfl (Z5.set4 .none).at) rfl ?_
            rw [HR.out.1, HR.out.2]
            exact ⟨rfl, below_grown b5 (grown_set4 _ _ _ _ _ _) b5.size (Nat.le_refl _)⟩
        · have HR : Hid _ := slot_else l k x hx hq
          go_wp2_with fail
          refine (rslot_any x.seq W2 (by omega) hok.seq).mono ?_
          rintro e w3 ⟨rfl, rfl⟩
          have hq' : ¬ (((x.seq - 1) % 9 : Nat) : Int) = (k : Int) := by omega
          go_wp2_with fail
          refine bodyPost_ret (res_rec rfl _ _ w.heap.size .none rfl (Z2.set4 .none).at) rfl ?_
          rw [HR.out.1, HR.out.2]
          exact ⟨rfl, below_grown bel2 (grown_set4 _ _ _ _ _ _) bel2.size (Nat.le_refl _)⟩
end Go.Proofs.YtebdepbnhemnpaaDoor
