/-
  (ring.log).zero and .put by contracts over the cells in memory. Conditions: as named.
-/
import Derived.Test.YtebdepbnhemnpaaDoorRingSt
namespace Go.Proofs.YtebdepbnhemnpaaDoor
open Go.RowKit Go.Extern.Stop Go.Stop Go.Extern

theorem CSt.err_fit {s : CSt} {p n : Nat} (h : s.err (p : Int) (n : Int) = 0) : p + n ≤ s.size ∧ s.off = false := by
  unfold CSt.err at h
  split at h
  · cases h
  · split at h
    · cases h
    · rename_i h1 h2
      exact ⟨by omega, by simpa using h2⟩
/-- Write, whatever check says. -/
def CSt.writeE (s : CSt) (p : Nat) (l : List UInt8) : CSt × Nat := if s.err p l.length = 0 then s.write p l else (s, s.err p l.length)
/-- The bounds by which nothing wraps. -/
def CSt.Low (s : CSt) (n : Nat) : Prop := s.written + n ≤ 1099511627776 ∧ s.left ≤ 9223372036854775807

theorem CSt.err_le (s : CSt) (p n : Int) : s.err p n = 0 ∨ ∃ j, s.err p n = j + 1 ∧ j < 11 := by
  unfold CSt.err
  split
  · exact Or.inr ⟨1, rfl, by decide⟩
  · split
    · exact Or.inr ⟨7, rfl, by decide⟩
    · exact Or.inl rfl

theorem write_any4 (A : Nat → Addr) (b : Nat) (s : CSt) (p : Nat) (t : ByteArray) (w : World) (h : CellsAt w b s) (hs : Sen4 A w) (hb : 8 ≤ b) (hl : s.Low t.size) (hp : p ≤ 9223372036854775807) :
    Calls Tryd.prog 20 #[.pointer (some ⟨b, 0, .none⟩), .int .i64 (p : Int), .string t] w fun e w' => e = .returned (errVal A (s.writeE p t.data.toList).2) ∧ CellsAt w' b (s.writeE p t.data.toList).1 ∧ w.grownBy w' (some b) := by
  have hlen : ((t.data.toList.length : Nat) : Int) = (t.size : Int) := by simp
  unfold CSt.writeE
  rw [hlen]
  rcases s.err_le p t.size with he | ⟨j, he, -⟩
  · rw [if_pos he]
    exact (write_on4 A b s p t w h hs hb hl.1 hl.2 he).mono fun e w' ⟨h1, h2, h3, _⟩ => ⟨h1, h2, h3⟩
  · rw [if_neg (by omega), he]
    exact (write_no4 A b s p t j w h hs (by omega) he).mono fun e w' ⟨h1, h2⟩ => by subst h2; exact ⟨h1, h, grown_refl _ _⟩

theorem grown_cell' {w w' : World} {b g o : Nat} {v : Value} (h : w.grownBy w' (some b)) (hc : w.cell? ⟨g, o, .none⟩ = some v) (hne : g ≠ b) : w'.cell? ⟨g, o, .none⟩ = some v :=
  World.grownBy.cell h hc (by simpa using hne)
def CSt.zeroAt (s : CSt) (p : Nat) : CSt × Nat := if s.err p 1 = 0 then (if s.bytes.getD p 0 = 0 then (s, 0) else s.writeE p [0]) else (s, s.err p 1)

theorem box_log (w : World) (b : Nat) : (w.alloc (.cells #[.pointer (some ⟨b, 0, .none⟩)] 104)).cell? ⟨w.heap.size, 0, .none⟩ = some (.pointer (some ⟨b, 0, .none⟩)) := World.cell?_alloc_at _ _ _ _ rfl

theorem one_text (l : List UInt8) (p : Nat) (hp : p < l.length) : ((l.drop p).take 1) = [l.getD p 0] := by
  rw [List.drop_eq_getElem_cons hp, List.getD_eq_getElem?_getD, List.getElem?_eq_getElem hp]; rfl

set_option maxRecDepth 100000 in
set_option maxHeartbeats 1000000 in
theorem zero_any (A : Nat → Addr) (b : Nat) (s : CSt) (p : Nat) (w : World) (h : CellsAt w b s) (hs : Sen4 A w) (hb : 8 ≤ b) (hl : s.Low 1) (hp : p ≤ 9223372036854775807) :
    Calls Tryd.prog 78 #[.agg #[.pointer (some ⟨b, 0, .none⟩)], .int .i64 (p : Int)] w fun e w' => e = .returned (errVal A (s.zeroAt p).2) ∧ CellsAt w' b (s.zeroAt p).1 ∧ w.grownBy w' (some b) := by
  have B1 := (Below.refl w.heap.size w).alloc (Nat.le_refl _) (.cells #[.pointer (some ⟨b, 0, .none⟩)] 104)
  have c1 := box_log w b
  have h1 := h.below B1
  have s1 := hs.below B1
  have G1 : w.grownBy (w.alloc (.cells #[.pointer (some ⟨b, 0, .none⟩)] 104)) (some b) := grown_below (grown_refl _ _) B1
  generalize hW : w.alloc (.cells #[.pointer (some ⟨b, 0, .none⟩)] 104) = W at *
  have HW : Hid _ := hW
  clear hW
  rcases s.err_le p 1 with he | ⟨j, he, hj⟩
  · have hz := CSt.err_fit (n := 1) he
    have hlen := h.len
    have hsz := h.size
    have RD := read_on4 A b s p 1 W h1 s1 he
    rw [one_text s.bytes p (by omega)] at RD
    have HRD : Hid _ := RD
    clear RD
    by_cases hbz : s.bytes.getD p 0 = 0
    · have HZ : Hid (s.zeroAt p = (s, 0)) := by show _ = _; unfold CSt.zeroAt; rw [if_pos he, if_pos hbz]
      rw [hbz] at HRD
      go_enter Tryd.func78, Tryd.ntmps78
      go_wp2_with fail
      rw [HW.out]
      refine Calls.mono HRD.out ?_
      rintro e w1 ⟨rfl, rfl⟩
      go_wp2
      go_ret
      rw [HZ.out]
      exact ⟨rfl, h1, G1⟩
    · have HZ : Hid (s.zeroAt p = s.writeE p [0]) := by show _ = _; unfold CSt.zeroAt; rw [if_pos he, if_neg hbz]
      have HWR : Hid _ := write_any4 A b s p ⟨#[0]⟩ W h1 s1 hb hl hp
      obtain ⟨x, hx⟩ : ∃ x, s.bytes.getD p 0 = x := ⟨_, rfl⟩
      rw [hx] at hbz HRD
      have hxt : (x == 0) = false := by rw [beq_eq_false_iff_ne]; exact hbz
      go_enter Tryd.func78, Tryd.ntmps78
      go_wp2_with fail
      rw [HW.out]
      refine Calls.mono HRD.out ?_
      rintro e w1 ⟨rfl, rfl⟩
      go_wp2_with fail
      refine Calls.mono HWR.out ?_
      rintro e w2 ⟨rfl, hat2, hg2⟩
      go_wp2
      go_ret
      rw [HZ.out]
      exact ⟨rfl, hat2, grown_trans G1 hg2⟩
  · have HRD : Hid _ := read_no4 A b s p 1 j W h1 s1 (by omega) he
    have HZ : Hid (s.zeroAt p = (s, j + 1)) := by show _ = _; unfold CSt.zeroAt; rw [if_neg (by omega), he]
    go_enter Tryd.func78, Tryd.ntmps78
    go_wp2_with fail
    rw [HW.out]
    refine Calls.mono HRD.out ?_
    rintro e w1 ⟨rfl, rfl⟩
    unfold errVal
    go_wp2
    go_ret
    rw [HZ.out]
    exact ⟨rfl, h1, G1⟩

/-- A record that is put: the state behind it, and an error's number. -/
def CSt.putRec (s : CSt) (r : Rec) : CSt × Nat :=
  let at' := (r.seq - 1) % 9 * 17
  let a := s.zeroAt (at' + 16)
  if a.2 = 0 then
    let b := a.1.writeE at' (enc16 r)
    if b.2 = 0 then b.1.writeE (at' + 16) [165] else b
  else a
theorem CSt.writeE_low {s : CSt} {n : Nat} (p : Nat) (l : List UInt8) (h : s.Low (l.length + n)) : (s.writeE p l).1.Low n := by
  unfold CSt.writeE
  split
  · unfold CSt.write
    split
    · rename_i hc
      refine ⟨?_, ?_⟩
      · show (s.puts p (l.take s.left)).written + n ≤ _
        rw [CSt.puts_written]
        have := h.1
        have : (l.take s.left).length ≤ l.length := by rw [List.length_take]; omega
        omega
      · show (s.puts p (l.take s.left)).left ≤ _
        rw [CSt.puts_left]
        have := h.2
        split <;> omega
    · refine ⟨?_, ?_⟩
      · show (s.puts p l).written + n ≤ _
        rw [CSt.puts_written]
        have := h.1
        omega
      · show (s.puts p l).left ≤ _
        rw [CSt.puts_left]
        have := h.2
        split <;> omega
  · exact ⟨by show s.written + n ≤ _; have := h.1; omega, h.2⟩
theorem CSt.zeroAt_low {s : CSt} {n : Nat} (p : Nat) (h : s.Low (1 + n)) : (s.zeroAt p).1.Low n := by
  unfold CSt.zeroAt
  split
  · split
    · exact ⟨by show s.written + n ≤ _; have := h.1; omega, h.2⟩
    · exact CSt.writeE_low p [0] h
  · exact ⟨by show s.written + n ≤ _; have := h.1; omega, h.2⟩

theorem enc_parts (r : Rec) : ∃ E P1 P2 : ByteArray, E = ⟨(enc r).toArray⟩ ∧ P1.data.toList = enc16 r ∧ P1.size = 16 ∧ P2.data.toList = [165] ∧ P2.size = 1 ∧
    (∀ W, (Instr.slice 9 (.string E) Option.none (some (.int .i64 16)) Option.none).run Tryd.prog W = .ok (.string P1) W) ∧
    (∀ W, (Instr.slice 9 (.string E) (some (.int .i64 16)) Option.none Option.none).run Tryd.prog W = .ok (.string P2) W) := by
  have hs : (⟨(enc r).toArray⟩ : ByteArray).size = 17 := by show (enc r).toArray.size = 17; rw [List.size_toArray, enc_length]
  refine ⟨_, (⟨(enc r).toArray⟩ : ByteArray).extract 0 16, (⟨(enc r).toArray⟩ : ByteArray).extract 16 17, rfl, ?_, by simp [hs], ?_, by simp [hs], fun W => ?_, fun W => ?_⟩
  · rw [Lib.extract_data]
    show ((enc r).drop 0).take 16 = _
    unfold enc
    rw [List.drop_zero, List.take_append, enc16_length, List.take_of_length_le (Nat.le_of_eq (enc16_length r))]
    simp
  · rw [Lib.extract_data]
    show ((enc r).drop 16).take 1 = _
    unfold enc
    rw [List.drop_append, enc16_length, List.drop_eq_nil_of_le (by rw [enc16_length]; omega)]; rfl
  · simp [Instr.slice, run_underlying Tryd.underlying9, go_sem, hs]
  · simp [Instr.slice, run_underlying Tryd.underlying9, go_sem, hs]

theorem put_start (w : World) (b : Nat) (r : Rec) : ∃ W, ((w.alloc (.cells #[.pointer (some ⟨b, 0, .none⟩)] 104)).alloc (.cells #[.int .i64 (r.seq : Int), .int .i64 (r.ent : Int), .int .i64 (r.kind : Int), .int .i64 (r.tick : Int)] 64)) = W ∧ W.heap.size = w.heap.size + 2 ∧ Below w.heap.size w W ∧ W.cell? ⟨w.heap.size, 0, .none⟩ = some (.pointer (some ⟨b, 0, .none⟩)) ∧ RecAt W (w.heap.size + 1) r := by
  refine ⟨_, rfl, by simp, ((Below.refl _ _).alloc (Nat.le_refl _) _).alloc (by simp) _, ?_, ?_⟩
  · exact cell_below ((Below.refl _ _).alloc (Nat.le_refl _) _) (box_log w b)
  · have := RecAt.new (w.alloc (.cells #[.pointer (some ⟨b, 0, .none⟩)] 104)) r 64
    rw [World.size_alloc] at this
    exact this

set_option maxRecDepth 100000 in
set_option maxHeartbeats 1000000 in
theorem put_any (A : Nat → Addr) (b : Nat) (s : CSt) (r : Rec) (w : World) (h : CellsAt w b s) (hs : Sen4 A w) (hb : 8 ≤ b) (hl : s.Low 18) (h1 : 1 ≤ r.seq) (h2 : r.seq < 4294967296) :
    Calls Tryd.prog 63 #[.agg #[.pointer (some ⟨b, 0, .none⟩)], r.val] w fun e w' => e = .returned (errVal A (s.putRec r).2) ∧ CellsAt w' b (s.putRec r).1 ∧ w.grownBy w' (some b) := by
  obtain ⟨W, hW, hsz, B1, c1, R1⟩ := put_start w b r
  obtain ⟨E, P1, P2, hE, hP1, hP1s, hP2, hP2s, sl1, sl2⟩ := enc_parts r
  have hat := h.below B1
  have hsn := hs.below B1
  have hblt := h.lt
  obtain ⟨q, hq⟩ : ∃ q, (r.seq - 1) % 9 = q := ⟨_, rfl⟩
  have hq9 : q < 9 := by rw [← hq]; exact Nat.mod_lt _ (by decide)
  have PR : Hid (s.putRec r = if (s.zeroAt (q * 17 + 16)).2 = 0 then (if ((s.zeroAt (q * 17 + 16)).1.writeE (q * 17) (enc16 r)).2 = 0 then ((s.zeroAt (q * 17 + 16)).1.writeE (q * 17) (enc16 r)).1.writeE (q * 17 + 16) [165] else (s.zeroAt (q * 17 + 16)).1.writeE (q * 17) (enc16 r)) else s.zeroAt (q * 17 + 16)) := by
    show _ = _
    unfold CSt.putRec
    rw [hq]
  have G1 : w.grownBy W (some b) := grown_below (grown_refl _ _) B1
  have HE : Hid _ := hE
  have HW : Hid _ := hW
  have EP : Hid ((q : Int) * 17 + 17 - 1 = ((q * 17 + 16 : Nat) : Int)) := by show _ = _; omega
  have EQ : Hid ((q : Int) * 17 = ((q * 17 : Nat) : Int)) := by show _ = _; omega
  have HL : Hid _ := hl
  have HLz : Hid _ := CSt.zeroAt_low (n := 17) (q * 17 + 16) hl
  have x0 := R1.c0
  have x1 := R1.c1
  have x2 := R1.c2
  have x3 := R1.c3
  unfold Rec.val
  clear hW h hs hE
  go_enter Tryd.func63, Tryd.ntmps63
  go_wp2_with fail
  rw [HW.out]
  refine (slotOf_any r.seq W h1 (by omega)).mono ?_
  rintro e w1 ⟨rfl, rfl⟩
  rw [hq]
  go_wp2_with fail
  refine (encode_any r _).mono ?_
  rintro e w2 ⟨rfl, hb2⟩
  rw [← HE.out]
  have c2 := cell_below hb2 c1
  have hat2 := hat.below hb2
  have hsn2 := hsn.below hb2
  have G2 := grown_below G1 hb2
  have s2 := hb2.size
  clear c1 x0 x1 x2 x3 hat hsn G1 R1
  go_wp2_with fail
  rw [EP.out]
  refine (zero_any A b s _ _ hat2 hsn2 hb ⟨by have := HL.out.1; omega, HL.out.2⟩ (by omega)).mono ?_
  rintro e w3 ⟨rfl, hat3, hg3⟩
  have c3 := grown_cell' hg3 c2 (by omega)
  have hsn3 := hsn2.grown hg3 hb
  have G3 := grown_trans G2 hg3
  clear c2 hat2 hsn2 G2 hg3
  generalize hz : s.zeroAt (q * 17 + 16) = z at *
  clear hz
  cases hz2 : z.2 with
  | succ j =>
    have PR1 : Hid (s.putRec r = z) := by show _ = _; rw [PR.out, if_neg (by omega)]
    unfold errVal
    go_wp2
    go_ret
    rw [PR1.out, hz2]
    exact ⟨rfl, hat3, G3⟩
  | zero =>
    have HLw : Hid _ := CSt.writeE_low (n := 1) (q * 17) (enc16 r) (s := z.1) (by rw [enc16_length]; exact HLz.out)
    have W1 := fun w' ha hs' => write_any4 A b z.1 (q * 17) P1 w' ha hs' hb (by rw [hP1s]; exact ⟨by have := HLz.out.1; omega, HLz.out.2⟩) (by omega)
    rw [hP1] at W1
    have HW1 : Hid _ := W1
    clear W1
    have hat3d : CellsAt w3.drew b z.1 := ⟨hat3.heap, hat3.len, hat3.size⟩
    have hsn3d : Sen4 A w3.drew := ⟨hsn3.c1, hsn3.c2, hsn3.c6, hsn3.c7⟩
    have G3d : w.grownBy w3.drew (some b) := grown_below G3 ((Below.refl _ _).drew)
    unfold errVal
    go_upto_region 7 with fail
    rw [EQ.out]
    go_region_held3 (fun w' => w'.cell? ⟨w.heap.size, 0, .none⟩ = some (.pointer (some ⟨b, 0, .none⟩))) (first | exact c3 | exact c4) (first | (go_at_call 20; refine Calls.mono (HW1.out _ hat3d hsn3d) ?_; rintro e w4 ⟨rfl, hat4, hg4⟩; have c4 := grown_cell' hg4 (show w3.drew.cell? _ = _ from c3) (by omega)))
    have hsn4 := hsn3d.grown hg4 hb
    have G4 := grown_trans G3d hg4
    have PR2 : Hid (s.putRec r = if (z.1.writeE (q * 17) (enc16 r)).2 = 0 then (z.1.writeE (q * 17) (enc16 r)).1.writeE (q * 17 + 16) [165] else z.1.writeE (q * 17) (enc16 r)) := by show _ = _; rw [PR.out, if_pos hz2]
    clear PR c3 hat3 hat3d hsn3d hsn3 G3 G3d hg4 HW1
    generalize z.1.writeE (q * 17) (enc16 r) = y at *
    cases hy : y.2 with
    | succ j =>
      have PR3 : Hid (s.putRec r = y) := by show _ = _; rw [PR2.out, if_neg (by omega)]
      unfold errVal
      go_wp2
      go_ret
      rw [PR3.out, hy]
      exact ⟨rfl, hat4, G4⟩
    | zero =>
      have PR3 : Hid (s.putRec r = y.1.writeE (q * 17 + 16) [165]) := by show _ = _; rw [PR2.out, if_pos hy]
      have W2 := fun w' ha hs' => write_any4 A b y.1 (q * 17 + 16) P2 w' ha hs' hb (by rw [hP2s]; exact HLw.out) (by omega)
      rw [hP2] at W2
      have HW2 : Hid _ := W2
      clear W2
      have hat4d : CellsAt w4.drew b y.1 := ⟨hat4.heap, hat4.len, hat4.size⟩
      have hsn4d : Sen4 A w4.drew := ⟨hsn4.c1, hsn4.c2, hsn4.c6, hsn4.c7⟩
      have G4d : w.grownBy w4.drew (some b) := grown_below G4 ((Below.refl _ _).drew)
      have EP2 : Hid ((q : Int) * 17 + 16 = ((q * 17 + 16 : Nat) : Int)) := by show _ = _; omega
      unfold errVal
      go_upto_region 10 with fail
      rw [EP2.out]
      go_region_held3 (fun w' => w'.cell? ⟨w.heap.size, 0, .none⟩ = some (.pointer (some ⟨b, 0, .none⟩))) (first | exact c4 | exact c5) (first | (go_at_call 20; refine Calls.mono (HW2.out _ hat4d hsn4d) ?_; rintro e w5 ⟨rfl, hat5, hg5⟩; have c5 := grown_cell' hg5 (show w4.drew.cell? _ = _ from c4) (by omega)))
      go_wp2
      go_ret
      rw [PR3.out]
      exact ⟨rfl, hat5, grown_trans G4d hg5⟩
end Go.Proofs.YtebdepbnhemnpaaDoor
