/-
  Several texts as one: RingPut, RingDel, Offs, RingKeep.
-/
import Derived.Test.YtdpdbfhbojgigacGreatDoorB05P
import Derived.Test.YtdpdbfhbojgigacGreatDoorB01P
import Derived.Deep.RegionLaw
import Derived.Deep.AppendLies
namespace Go.Proofs.YtdpdbfhbojgigacGreatDoor
open Go.RowKit Go.Extern.Stop Go.Stop Go.Extern

theorem CSt.err_fit {s : CSt} {p n : Nat} (h : s.err (p : Int) (n : Int) = 0) : p + n ≤ s.size ∧ s.off = false := by
  unfold CSt.err at h
  split at h
  · cases h
  · split at h
    · cases h
    · rename_i h1 h2
      exact ⟨by omega, by simpa using h2⟩
/-- Write, whatever check says. -/
def CSt.writeE (s : CSt) (p : Nat) (l : List UInt8) : CSt × Nat := if s.err p l.length = 0 then s.write p l else (s, s.err p l.length)
/-- The bounds by which nothing wraps. -/
def CSt.Low (s : CSt) (n : Nat) : Prop := s.written + n ≤ 1099511627776 ∧ s.left ≤ 9223372036854775807

theorem CSt.err_le (s : CSt) (p n : Int) : s.err p n = 0 ∨ ∃ j, s.err p n = j + 1 ∧ j < 11 := by
  unfold CSt.err
  split
  · exact Or.inr ⟨1, rfl, by decide⟩
  · split
    · exact Or.inr ⟨7, rfl, by decide⟩
    · exact Or.inl rfl

theorem write_any4 (A : Nat → Addr) (b : Nat) (s : CSt) (p : Nat) (t : ByteArray) (w : World) (h : CellsAt w b s) (hs : Sen4 A w) (hb : 11 ≤ b) (hl : s.Low t.size) (hp : p ≤ 9223372036854775807) :
    Calls Tryz.prog 221 #[.pointer (some ⟨b, 0, .none⟩), .int .i64 (p : Int), .string t] w fun e w' => e = .returned (errVal A (s.writeE p t.data.toList).2) ∧ CellsAt w' b (s.writeE p t.data.toList).1 ∧ w.grownBy w' (some b) := by
  have hlen : ((t.data.toList.length : Nat) : Int) = (t.size : Int) := by simp
  unfold CSt.writeE
  rw [hlen]
  rcases s.err_le p t.size with he | ⟨j, he, -⟩
  · rw [if_pos he]
    exact (write_on4 A b s p t w h hs hb hl.1 hl.2 he).mono fun e w' ⟨h1, h2, h3, _⟩ => ⟨h1, h2, h3⟩
  · rw [if_neg (by omega), he]
    exact (write_no4 A b s p t j w h hs (by omega) he).mono fun e w' ⟨h1, h2⟩ => by subst h2; exact ⟨h1, h, grown_refl _ _⟩

theorem grown_cell' {w w' : World} {b g o : Nat} {v : Value} (h : w.grownBy w' (some b)) (hc : w.cell? ⟨g, o, .none⟩ = some v) (hne : g ≠ b) : w'.cell? ⟨g, o, .none⟩ = some v :=
  World.grownBy.cell h hc (by simpa using hne)
def CSt.zeroAt (s : CSt) (p : Nat) : CSt × Nat := if s.err p 1 = 0 then (if s.bytes.getD p 0 = 0 then (s, 0) else s.writeE p [0]) else (s, s.err p 1)

theorem box_log (w : World) (b : Nat) : (w.alloc (.cells #[.pointer (some ⟨b, 0, .none⟩)] 111)).cell? ⟨w.heap.size, 0, .none⟩ = some (.pointer (some ⟨b, 0, .none⟩)) := World.cell?_alloc_at _ _ _ _ rfl

theorem one_text (l : List UInt8) (p : Nat) (hp : p < l.length) : ((l.drop p).take 1) = [l.getD p 0] := by
  rw [List.drop_eq_getElem_cons hp, List.getD_eq_getElem?_getD, List.getElem?_eq_getElem hp]; rfl

set_option maxRecDepth 100000 in
set_option maxHeartbeats 1000000 in
theorem zero_any (A : Nat → Addr) (b : Nat) (s : CSt) (p : Nat) (w : World) (h : CellsAt w b s) (hs : Sen4 A w) (hb : 11 ≤ b) (hl : s.Low 1) (hp : p ≤ 9223372036854775807) :
    Calls Tryz.prog 220 #[.agg #[.pointer (some ⟨b, 0, .none⟩)], .int .i64 (p : Int)] w fun e w' => e = .returned (errVal A (s.zeroAt p).2) ∧ CellsAt w' b (s.zeroAt p).1 ∧ w.grownBy w' (some b) := by
  have B1 := (Below.refl w.heap.size w).alloc (Nat.le_refl _) (.cells #[.pointer (some ⟨b, 0, .none⟩)] 111)
  have c1 := box_log w b
  have h1 := h.below B1
  have s1 := hs.below B1
  have G1 : w.grownBy (w.alloc (.cells #[.pointer (some ⟨b, 0, .none⟩)] 111)) (some b) := grown_below (grown_refl _ _) B1
  generalize hW : w.alloc (.cells #[.pointer (some ⟨b, 0, .none⟩)] 111) = W at *
  have HW : Hid _ := hW
  clear hW
  rcases s.err_le p 1 with he | ⟨j, he, hj⟩
  · have hz := CSt.err_fit (n := 1) he
    have hlen := h.len
    have hsz := h.size
    have RD := read_on4 A b s p 1 W h1 s1 he
    rw [one_text s.bytes p (by omega)] at RD
    have HRD : Hid _ := RD
    clear RD
    by_cases hbz : s.bytes.getD p 0 = 0
    · have HZ : Hid (s.zeroAt p = (s, 0)) := by show _ = _; unfold CSt.zeroAt; rw [if_pos he, if_pos hbz]
      rw [hbz] at HRD
      go_enter Tryz.func220, Tryz.ntmps220
      go_wp2_with fail
      rw [HW.out]
      refine Calls.mono HRD.out ?_
      rintro e w1 ⟨rfl, rfl⟩
      go_wp2
      go_ret
      rw [HZ.out]
      exact ⟨rfl, h1, G1⟩
    · have HZ : Hid (s.zeroAt p = s.writeE p [0]) := by show _ = _; unfold CSt.zeroAt; rw [if_pos he, if_neg hbz]
      have HWR : Hid _ := write_any4 A b s p ⟨#[0]⟩ W h1 s1 hb hl hp
      obtain ⟨x, hx⟩ : ∃ x, s.bytes.getD p 0 = x := ⟨_, rfl⟩
      rw [hx] at hbz HRD
      have hxt : (x == 0) = false := by rw [beq_eq_false_iff_ne]; exact hbz
      go_enter Tryz.func220, Tryz.ntmps220
      go_wp2_with fail
      rw [HW.out]
      refine Calls.mono HRD.out ?_
      rintro e w1 ⟨rfl, rfl⟩
      go_wp2_with fail
      refine Calls.mono HWR.out ?_
      rintro e w2 ⟨rfl, hat2, hg2⟩
      go_wp2
      go_ret
      rw [HZ.out]
      exact ⟨rfl, hat2, grown_trans G1 hg2⟩
  · have HRD : Hid _ := read_no4 A b s p 1 j W h1 s1 (by omega) he
    have HZ : Hid (s.zeroAt p = (s, j + 1)) := by show _ = _; unfold CSt.zeroAt; rw [if_neg (by omega), he]
    go_enter Tryz.func220, Tryz.ntmps220
    go_wp2_with fail
    rw [HW.out]
    refine Calls.mono HRD.out ?_
    rintro e w1 ⟨rfl, rfl⟩
    unfold errVal
    go_wp2
    go_ret
    rw [HZ.out]
    exact ⟨rfl, h1, G1⟩

/-- A record that is put: the state behind it, and an error's number. -/
def CSt.putRec (s : CSt) (r : Rec) : CSt × Nat :=
  let at' := (r.seq - 1) % 9 * 17
  let a := s.zeroAt (at' + 16)
  if a.2 = 0 then
    let b := a.1.writeE at' (enc16 r)
    if b.2 = 0 then b.1.writeE (at' + 16) [165] else b
  else a
theorem CSt.writeE_low {s : CSt} {n : Nat} (p : Nat) (l : List UInt8) (h : s.Low (l.length + n)) : (s.writeE p l).1.Low n := by
  unfold CSt.writeE
  split
  · unfold CSt.write
    split
    · rename_i hc
      refine ⟨?_, ?_⟩
      · show (s.puts p (l.take s.left)).written + n ≤ _
        rw [CSt.puts_written]
        have := h.1
        have : (l.take s.left).length ≤ l.length := by rw [List.length_take]; omega
        omega
      · show (s.puts p (l.take s.left)).left ≤ _
        rw [CSt.puts_left]
        have := h.2
        split <;> omega
    · refine ⟨?_, ?_⟩
      · show (s.puts p l).written + n ≤ _
        rw [CSt.puts_written]
        have := h.1
        omega
      · show (s.puts p l).left ≤ _
        rw [CSt.puts_left]
        have := h.2
        split <;> omega
  · exact ⟨by show s.written + n ≤ _; have := h.1; omega, h.2⟩
theorem CSt.zeroAt_low {s : CSt} {n : Nat} (p : Nat) (h : s.Low (1 + n)) : (s.zeroAt p).1.Low n := by
  unfold CSt.zeroAt
  split
  · split
    · exact ⟨by show s.written + n ≤ _; have := h.1; omega, h.2⟩
    · exact CSt.writeE_low p [0] h
  · exact ⟨by show s.written + n ≤ _; have := h.1; omega, h.2⟩

theorem enc_parts (r : Rec) : ∃ E P1 P2 : ByteArray, E = ⟨(enc r).toArray⟩ ∧ P1.data.toList = enc16 r ∧ P1.size = 16 ∧ P2.data.toList = [165] ∧ P2.size = 1 ∧
    (∀ W, (Instr.slice 9 (.string E) Option.none (some (.int .i64 16)) Option.none).run Tryz.prog W = .ok (.string P1) W) ∧
    (∀ W, (Instr.slice 9 (.string E) (some (.int .i64 16)) Option.none Option.none).run Tryz.prog W = .ok (.string P2) W) := by
  have hs : (⟨(enc r).toArray⟩ : ByteArray).size = 17 := by show (enc r).toArray.size = 17; rw [List.size_toArray, enc_length]
  refine ⟨_, (⟨(enc r).toArray⟩ : ByteArray).extract 0 16, (⟨(enc r).toArray⟩ : ByteArray).extract 16 17, rfl, ?_, by simp [hs], ?_, by simp [hs], fun W => ?_, fun W => ?_⟩
  · rw [Lib.extract_data]
    show ((enc r).drop 0).take 16 = _
    unfold enc
    rw [List.drop_zero, List.take_append, enc16_length, List.take_of_length_le (Nat.le_of_eq (enc16_length r))]
    simp
  · rw [Lib.extract_data]
    show ((enc r).drop 16).take 1 = _
    unfold enc
    rw [List.drop_append, enc16_length, List.drop_eq_nil_of_le (by rw [enc16_length]; omega)]; rfl
  · simp [Instr.slice, run_underlying Tryz.underlying9, go_sem, hs]
  · simp [Instr.slice, run_underlying Tryz.underlying9, go_sem, hs]

theorem put_start (w : World) (b : Nat) (r : Rec) : ∃ W, ((w.alloc (.cells #[.pointer (some ⟨b, 0, .none⟩)] 111)).alloc (.cells #[.int .i64 (r.seq : Int), .int .i64 (r.ent : Int), .int .i64 (r.kind : Int), .int .i64 (r.tick : Int)] 57)) = W ∧ W.heap.size = w.heap.size + 2 ∧ Below w.heap.size w W ∧ W.cell? ⟨w.heap.size, 0, .none⟩ = some (.pointer (some ⟨b, 0, .none⟩)) ∧ RecAt W (w.heap.size + 1) r := by
  refine ⟨_, rfl, by simp, ((Below.refl _ _).alloc (Nat.le_refl _) _).alloc (by simp) _, ?_, ?_⟩
  · exact cell_below ((Below.refl _ _).alloc (Nat.le_refl _) _) (box_log w b)
  · have := RecAt.new (w.alloc (.cells #[.pointer (some ⟨b, 0, .none⟩)] 111)) r 57
    rw [World.size_alloc] at this
    exact this

set_option maxRecDepth 100000 in
set_option maxHeartbeats 1000000 in
theorem put_any (A : Nat → Addr) (b : Nat) (s : CSt) (r : Rec) (w : World) (h : CellsAt w b s) (hs : Sen4 A w) (hb : 11 ≤ b) (hl : s.Low 18) (h1 : 1 ≤ r.seq) (h2 : r.seq < 4294967296) :
    Calls Tryz.prog 172 #[.agg #[.pointer (some ⟨b, 0, .none⟩)], r.val] w fun e w' => e = .returned (errVal A (s.putRec r).2) ∧ CellsAt w' b (s.putRec r).1 ∧ w.grownBy w' (some b) := by
  obtain ⟨W, hW, hsz, B1, c1, R1⟩ := put_start w b r
  obtain ⟨E, P1, P2, hE, hP1, hP1s, hP2, hP2s, sl1, sl2⟩ := enc_parts r
  have hat := h.below B1
  have hsn := hs.below B1
  have hblt := h.lt
  obtain ⟨q, hq⟩ : ∃ q, (r.seq - 1) % 9 = q := ⟨_, rfl⟩
  have hq9 : q < 9 := by rw [← hq]; exact Nat.mod_lt _ (by decide)
  have PR : Hid (s.putRec r = if (s.zeroAt (q * 17 + 16)).2 = 0 then (if ((s.zeroAt (q * 17 + 16)).1.writeE (q * 17) (enc16 r)).2 = 0 then ((s.zeroAt (q * 17 + 16)).1.writeE (q * 17) (enc16 r)).1.writeE (q * 17 + 16) [165] else (s.zeroAt (q * 17 + 16)).1.writeE (q * 17) (enc16 r)) else s.zeroAt (q * 17 + 16)) := by
    show _ = _
    unfold CSt.putRec
    rw [hq]
  have G1 : w.grownBy W (some b) := grown_below (grown_refl _ _) B1
  have HE : Hid _ := hE
  have HW : Hid _ := hW
  have EP : Hid ((q : Int) * 17 + 17 - 1 = ((q * 17 + 16 : Nat) : Int)) := by show _ = _; omega
  have EQ : Hid ((q : Int) * 17 = ((q * 17 : Nat) : Int)) := by show _ = _; omega
  have HL : Hid _ := hl
  have HLz : Hid _ := CSt.zeroAt_low (n := 17) (q * 17 + 16) hl
  have x0 := R1.c0
  have x1 := R1.c1
  have x2 := R1.c2
  have x3 := R1.c3
  unfold Rec.val
  clear hW h hs hE
  go_enter Tryz.func172, Tryz.ntmps172
  go_wp2_with fail
  rw [HW.out]
  refine (slotOf_any r.seq W h1 (by omega)).mono ?_
  rintro e w1 ⟨rfl, rfl⟩
  rw [hq]
  go_wp2_with fail
  refine (encode_any r _).mono ?_
  rintro e w2 ⟨rfl, hb2⟩
  rw [← HE.out]
  have c2 := cell_below hb2 c1
  have hat2 := hat.below hb2
  have hsn2 := hsn.below hb2
  have G2 := grown_below G1 hb2
  have s2 := hb2.size
  clear c1 x0 x1 x2 x3 hat hsn G1 R1
  go_wp2_with fail
  rw [EP.out]
  refine (zero_any A b s _ _ hat2 hsn2 hb ⟨by have := HL.out.1; omega, HL.out.2⟩ (by omega)).mono ?_
  rintro e w3 ⟨rfl, hat3, hg3⟩
  have c3 := grown_cell' hg3 c2 (by omega)
  have hsn3 := hsn2.grown hg3 hb
  have G3 := grown_trans G2 hg3
  clear c2 hat2 hsn2 G2 hg3
  generalize hz : s.zeroAt (q * 17 + 16) = z at *
  clear hz
  cases hz2 : z.2 with
  | succ j =>
    have PR1 : Hid (s.putRec r = z) := by show _ = _; rw [PR.out, if_neg (by omega)]
    unfold errVal
    go_wp2
    go_ret
    rw [PR1.out, hz2]
    exact ⟨rfl, hat3, G3⟩
  | zero =>
    have HLw : Hid _ := CSt.writeE_low (n := 1) (q * 17) (enc16 r) (s := z.1) (by rw [enc16_length]; exact HLz.out)
    have W1 := fun w' ha hs' => write_any4 A b z.1 (q * 17) P1 w' ha hs' hb (by rw [hP1s]; exact ⟨by have := HLz.out.1; omega, HLz.out.2⟩) (by omega)
    rw [hP1] at W1
    have HW1 : Hid _ := W1
    clear W1
    have hat3d : CellsAt w3.drew b z.1 := ⟨hat3.heap, hat3.len, hat3.size⟩
    have hsn3d : Sen4 A w3.drew := ⟨hsn3.c1, hsn3.c2, hsn3.c6, hsn3.c7⟩
    have G3d : w.grownBy w3.drew (some b) := grown_below G3 ((Below.refl _ _).drew)
    unfold errVal
    go_upto_region 7 with fail
    rw [EQ.out]
    go_region_held3 (fun w' => w'.cell? ⟨w.heap.size, 0, .none⟩ = some (.pointer (some ⟨b, 0, .none⟩))) (first | exact c3 | exact c4) (first | (go_at_call 221; refine Calls.mono (HW1.out _ hat3d hsn3d) ?_; rintro e w4 ⟨rfl, hat4, hg4⟩; have c4 := grown_cell' hg4 (show w3.drew.cell? _ = _ from c3) (by omega)))
    have hsn4 := hsn3d.grown hg4 hb
    have G4 := grown_trans G3d hg4
    have PR2 : Hid (s.putRec r = if (z.1.writeE (q * 17) (enc16 r)).2 = 0 then (z.1.writeE (q * 17) (enc16 r)).1.writeE (q * 17 + 16) [165] else z.1.writeE (q * 17) (enc16 r)) := by show _ = _; rw [PR.out, if_pos hz2]
    clear PR c3 hat3 hat3d hsn3d hsn3 G3 G3d hg4 HW1
    generalize z.1.writeE (q * 17) (enc16 r) = y at *
    cases hy : y.2 with
    | succ j =>
      have PR3 : Hid (s.putRec r = y) := by show _ = _; rw [PR2.out, if_neg (by omega)]
      unfold errVal
      go_wp2
      go_ret
      rw [PR3.out, hy]
      exact ⟨rfl, hat4, G4⟩
    | zero =>
      have PR3 : Hid (s.putRec r = y.1.writeE (q * 17 + 16) [165]) := by show _ = _; rw [PR2.out, if_pos hy]
      have W2 := fun w' ha hs' => write_any4 A b y.1 (q * 17 + 16) P2 w' ha hs' hb (by rw [hP2s]; exact HLw.out) (by omega)
      rw [hP2] at W2
      have HW2 : Hid _ := W2
      clear W2
      have hat4d : CellsAt w4.drew b y.1 := ⟨hat4.heap, hat4.len, hat4.size⟩
      have hsn4d : Sen4 A w4.drew := ⟨hsn4.c1, hsn4.c2, hsn4.c6, hsn4.c7⟩
      have G4d : w.grownBy w4.drew (some b) := grown_below G4 ((Below.refl _ _).drew)
      have EP2 : Hid ((q : Int) * 17 + 16 = ((q * 17 + 16 : Nat) : Int)) := by show _ = _; omega
      unfold errVal
      go_upto_region 10 with fail
      rw [EP2.out]
      go_region_held3 (fun w' => w'.cell? ⟨w.heap.size, 0, .none⟩ = some (.pointer (some ⟨b, 0, .none⟩))) (first | exact c4 | exact c5) (first | (go_at_call 221; refine Calls.mono (HW2.out _ hat4d hsn4d) ?_; rintro e w5 ⟨rfl, hat5, hg5⟩; have c5 := grown_cell' hg5 (show w4.drew.cell? _ = _ from c4) (by omega)))
      go_wp2
      go_ret
      rw [PR3.out]
      exact ⟨rfl, hat5, grown_trans G4d hg5⟩
end Go.Proofs.YtdpdbfhbojgigacGreatDoor

namespace Go.Proofs.YtdpdbfhbojgigacGreatDoor
open Go.RowKit Go.Extern.Stop Go.Stop Go.Extern

def setFrom (cur : Array Value) : Nat → List Value → Array Value
  | _, [] => cur
  | o, v :: r => setFrom (cur.setIfInBounds o v) (o + 1) r
theorem setFrom_size (vs : List Value) : ∀ (cur : Array Value) (o : Nat), (setFrom cur o vs).size = cur.size := by
  induction vs with
  | nil => intro cur o; rfl
  | cons v r ih => intro cur o; simp only [setFrom, ih]; simp
theorem setFrom_list (vs : List Value) : ∀ (cur : Array Value) (o : Nat), o + vs.length ≤ cur.size → (setFrom cur o vs).toList = cur.toList.take o ++ vs ++ cur.toList.drop (o + vs.length) := by
  induction vs with
  | nil => intro cur o h; simp [setFrom]
  | cons y r ih =>
    intro cur o h
    simp only [List.length_cons] at h
    have e := ih (cur.setIfInBounds o y) (o + 1) (by simp; omega)
    simp only [setFrom, e, List.length_cons]
    have hl : o < cur.toList.length := by simp; omega
    have hset : (cur.setIfInBounds o y).toList = cur.toList.take o ++ y :: cur.toList.drop (o + 1) := by
      rw [Array.toList_setIfInBounds, List.set_eq_take_append_cons_drop, if_pos hl]
    have hlp : (cur.toList.take o).length = o := by rw [List.length_take]; omega
    have e1 : o + 1 - o = 1 := by omega
    have e2 : o + 1 + r.length - o = r.length + 1 := by omega
    have e3 : o + 1 + r.length = o + (r.length + 1) := by omega
    have t1 : (cur.toList.take o ++ y :: cur.toList.drop (o + 1)).take (o + 1) = cur.toList.take o ++ [y] := by
      rw [List.take_append, hlp, e1, List.take_of_length_le (l := cur.toList.take o) (by rw [hlp]; omega)]; rfl
    have t0 : (cur.toList.take o).drop (o + 1 + r.length) = [] := List.drop_eq_nil_of_le (by rw [hlp]; omega)
    have t2 : (cur.toList.take o ++ y :: cur.toList.drop (o + 1)).drop (o + 1 + r.length) = cur.toList.drop (o + 1 + r.length) := by
      rw [List.drop_append, hlp, e2, t0, List.drop_succ_cons, List.drop_drop]; rfl
    rw [hset, t1, t2, e3]
    simp
theorem setCells_row {b : Nat} {t : TypeId} : ∀ (vs : List Value) (o : Nat) (w : World) (cur : Array Value), w.heap[b]? = some (.cells cur t (0, 0)) → (w.setCells b o vs).heap[b]? = some (.cells (setFrom cur o vs) t (0, 0)) := by
  intro vs
  induction vs with
  | nil => intro o w cur h; exact h
  | cons v r ih =>
    intro o w cur h
    exact ih (o + 1) _ _ (by simp only [World.setCell, Array.getElem?_modify, h]; simp)
theorem setCells_grown (b : Nat) : ∀ (vs : List Value) (o : Nat) (w : World), w.grownBy (w.setCells b o vs) (some b) := by
  intro vs
  induction vs with
  | nil => intro o w; exact grown_refl _ _
  | cons v r ih => intro o w; exact grown_trans (grown_set (grown_refl _ _) _ _) (ih (o + 1) _)
theorem clear_rec (w : World) (g o c : Nat) (hc : ∀ j, j < 4 → (w.cell? ⟨g, o + j, .none⟩).isSome = true) (hf : ∀ j, j < 4 → w.frozen? ⟨g, o + j, .none⟩ = false) :
    (Builtin.clear_ #[52] 0 #[.slice (some ⟨g, o, .none⟩) 1 c]).run Tryz.prog w = .ok (.tuple #[]) (w.setCells g o Rec.none.list) := by
  have hv : (zeroValue 57).run Tryz.prog w = .ok (.agg #[.int .i64 0, .int .i64 0, .int .i64 0, .int .i64 0]) w := by kernel_rfl
  have hzc : (Builtin.zeroCells (Value.agg #[.int .i64 0, .int .i64 0, .int .i64 0, .int .i64 0]).cells 1).toList = Rec.none.list := by kernel_rfl
  have hst := run_storeCells_cells (P := Tryz.prog) g o Rec.none.list 0 w (by intro j hj; exact hc j hj) (by intro j hj; exact hf j hj) (list_one _)
  simp only [Nat.add_zero] at hst
  simp [Builtin.clear_, run_underlying Tryz.underlying52, hv, hzc, hst]

set_option maxRecDepth 100000 in
set_option maxHeartbeats 1000000 in
theorem delete_row (g cap : Nat) (x : Rec) (L : List Rec) (w : World) (h : SlRow w g cap (x :: L)) (hl : L.length = 7) (hc : 8 ≤ cap) (hm : cap ≤ maxLen) :
    Calls Tryz.prog 222 #[.slice (some ⟨g, 0, .none⟩) 8 cap, .int .i64 0, .int .i64 1] w fun e w' => e = .returned (.slice (some ⟨g, 0, .none⟩) 7 cap) ∧ SlRow w' g cap L ∧ w.grownBy w' (some g) := by
  obtain ⟨i0, hi, hz0, hz1, hz2⟩ := Tryz.infoRec
  unfold maxLen at hm
  have hc1 : ¬ cap = 1 := by omega
  have hc2 : ¬ cap = 7 := by omega
  have hc3 : (8 : Int) ≤ (cap : Int) := by omega
  have s1 : Hid ((recCells L).length = 7 * 4) := by show _ = _; rw [recCells_length, hl]
  have s2 : Hid (∀ u ∈ recCells L, u.oneCell' = true) := fun u hu => Array.all_eq_true_iff_forall_mem.1 (recs_one L) u (by simpa using hu)
  have s3 : Hid (∀ j u, (recCells L)[j]? = some u → w.drew.cell? ((⟨g, 4, .none⟩ : Addr).add j) = some u) := fun j u hu => by
    have e := h.raw (4 + j) u (by rw [recCells_cons, List.getElem?_append_right (by simp [Rec.list])]; simpa [Rec.list] using hu)
    have e1 : (⟨g, 0, .none⟩ : Addr).add (4 + j) = (⟨g, 4, .none⟩ : Addr).add j := by unfold Addr.add; simp
    rw [e1] at e
    exact e
  have s4 : Hid (∀ j, j < (recCells L).length → (w.drew.cell? ⟨g, 0 + 0 * 4 + j, .none⟩).isSome = true ∧ w.drew.frozen? ⟨g, 0 + 0 * 4 + j, .none⟩ = false) := fun j hj => by
    obtain ⟨cur, hg, h2, -⟩ := h.row
    rw [s1.out] at hj
    rw [Nat.zero_mul, Nat.zero_add]
    refine ⟨?_, by show w.frozen? _ = false; simp [World.frozen?, hg]⟩
    show (w.cell? _).isSome = true
    simp only [World.cell?, hg]
    simp
    omega
  obtain ⟨cur, hg, hcs, -⟩ := h.row
  have hW1 : (w.drew.setCells g 0 (recCells L)).heap[g]? = some (.cells (setFrom cur 0 (recCells L)) 57 (0, 0)) := setCells_row _ _ _ _ hg
  have hz1' := setFrom_size (recCells L) cur 0
  have hcl := clear_rec (w.drew.setCells g 0 (recCells L)) g 28 (cap - 7) (fun j hj => by simp only [World.cell?, hW1]; simp; omega) (fun j hj => by simp [World.frozen?, hW1])
  have HF : Hid (SlRow ((w.drew.setCells g 0 (recCells L)).setCells g 28 Rec.none.list) g cap L ∧ w.grownBy ((w.drew.setCells g 0 (recCells L)).setCells g 28 Rec.none.list) (some g)) := by
    refine ⟨⟨⟨_, setCells_row _ _ _ _ hW1, by rw [setFrom_size, hz1', hcs], ?_⟩⟩, grown_trans (grown_below (grown_refl _ _) ((Below.refl _ _).drew)) (grown_trans (setCells_grown _ _ _ _) (setCells_grown _ _ _ _))⟩
    have l28 := s1.out
    rw [setFrom_list _ _ _ (by rw [hz1', hcs]; simp [Rec.list, Rec.none]; omega), setFrom_list _ _ _ (by rw [hcs, l28]; omega), hl, List.append_assoc, List.take_append, List.take_zero, List.nil_append]
    have e : ((recCells L ++ cur.toList.drop (0 + (recCells L).length)).take 28) = recCells L := by
      rw [List.take_append, l28, List.take_of_length_le (by rw [l28]; decide)]; simp
    rw [e, List.take_of_length_le (by rw [l28]; decide), l28]
    simp
  clear hW1 hz1' hg hcs
  go_enter Tryz.func222, Tryz.ntmps222
  go_wp2_with fail
  go_region_law (refine step_append_room rfl (.tmp 22) (.tmp 25) 52 rfl 57 i0 4 Tryz.underlying52 hi hz1 g 0 0 cap (by simp [Act.eval, Act.put]) ⟨g, 4, .none⟩ 7 (cap - 1) (recCells L) (by simp [Act.eval, Act.put]) s1.out s3.out s2.out (by omega) s4.out ?_)
  go_wp2
  go_ret
  exact ⟨rfl, HF.out⟩
end Go.Proofs.YtdpdbfhbojgigacGreatDoor

namespace Go.Proofs.YtdpdbfhbojgigacGreatDoor
open Go.RowKit Go.Extern.Stop Go.Stop Go.Extern

/-- All but the blocks of S is as it was; there may be new blocks. -/
structure Off (S : Nat → Prop) (w w' : World) : Prop where
  os : w'.os = w.os
  tape : w'.tape = w.tape
  output : w'.output = w.output
  size : w.heap.size ≤ w'.heap.size
  block : ∀ k, k < w.heap.size → ¬ S k → w'.heap[k]? = w.heap[k]?
theorem Off.refl (S : Nat → Prop) (w : World) : Off S w w := ⟨rfl, rfl, rfl, Nat.le_refl _, fun _ _ _ => rfl⟩
theorem Off.trans {S T : Nat → Prop} {a b c : World} (h : Off S a b) (k : Off T b c) (hT : ∀ i, i < a.heap.size → T i → S i) : Off S a c :=
  ⟨k.os.trans h.os, k.tape.trans h.tape, k.output.trans h.output, Nat.le_trans h.size k.size, fun i hi hn => (k.block i (Nat.lt_of_lt_of_le hi h.size) (fun ht => hn (hT i hi ht))).trans (h.block i hi hn)⟩
theorem Off.of_grown {w w' : World} {b : Nat} (h : w.grownBy w' (some b)) : Off (fun k => k = b) w w' :=
  ⟨h.os, h.tape, h.output, h.size, fun k hk hn => h.block k hk (by simpa using hn)⟩
theorem Off.of_below {w w' : World} (h : Below w.heap.size w w') (S : Nat → Prop) : Off S w w' := ⟨h.os, h.tape, h.output, h.size, fun k hk _ => h.block k hk⟩
theorem Off.mono {S T : Nat → Prop} {w w' : World} (h : Off S w w') (hT : ∀ i, i < w.heap.size → S i → T i) : Off T w w' := ⟨h.os, h.tape, h.output, h.size, fun k hk hn => h.block k hk (fun hs => hn (hT k hk hs))⟩
theorem Off.below {S : Nat → Prop} {B : Nat} {a w w' : World} (h : Below B a w) (k : Off S w w') (hB : B ≤ w.heap.size) (hS : ∀ i, S i → B ≤ i) : Below B a w' :=
  ⟨k.os.trans h.os, k.tape.trans h.tape, k.output.trans h.output, Nat.le_trans h.size k.size, fun i hi => (k.block i (by omega) (fun hs => by have := hS i hs; omega)).trans (h.block i hi)⟩
end Go.Proofs.YtdpdbfhbojgigacGreatDoor

namespace Go.Proofs.YtdpdbfhbojgigacGreatDoor
open Go.RowKit Go.Extern.Stop Go.Stop Go.Extern

def keepL (L : List Rec) (x : Rec) : List Rec := (if L.length = 8 then L.tail else L) ++ [x]

theorem RingAt.set1 {w : World} {B rb bc : Nat} {v : Value} {L : List Rec} {sp : Bool} (h : RingAt w B rb bc v L sp) (v' : Value) :
    (w.setCell ⟨rb, 1, .none⟩ v').heap[rb]? = some (.cells #[.pointer (some ⟨bc, 0, .none⟩), v', .bool sp] 117 (0, 0)) := by
  simp [World.setCell, Array.getElem?_modify, h.heap]

theorem ring_c1 {w : World} {rb : Nat} {a v s : Value} (h : w.heap[rb]? = some (.cells #[a, v, s] 117 (0, 0))) : w.cell? ⟨rb, 1, .none⟩ = some v := by simp [World.cell?, h]
theorem ring_f {w : World} {rb : Nat} {a v s : Value} (h : w.heap[rb]? = some (.cells #[a, v, s] 117 (0, 0))) (i : Nat) : w.frozen? ⟨rb, i, .none⟩ = false := by simp [World.frozen?, h]
theorem ring_set {w : World} {rb : Nat} {a v s : Value} (h : w.heap[rb]? = some (.cells #[a, v, s] 117 (0, 0))) (v' : Value) : (w.setCell ⟨rb, 1, .none⟩ v').heap[rb]? = some (.cells #[a, v', s] 117 (0, 0)) := by
  simp [World.setCell, Array.getElem?_modify, h]

theorem SlRow.grown {w w' : World} {g cap b : Nat} {L : List Rec} (h : SlRow w g cap L) (hg : w.grownBy w' (some b)) (hne : g ≠ b) : SlRow w' g cap L := by
  obtain ⟨cur, h1, h2, h3⟩ := h.row
  exact ⟨⟨cur, (hg.block g h.lt (by simpa using hne)).trans h1, h2, h3⟩⟩
theorem keep_endB {W W1 w8 : World} {B rb bc g cap : Nat} {L : List Rec} {x : Rec} {sp : Bool} {sa : Option Addr} {c : Nat} (h : RingAt W B rb bc (.slice sa L.length c) L sp) (hbc : bc < W.heap.size)
    (B2 : Below W.heap.size W W1) (s2 : W1.heap.size = W.heap.size + 1) (hown8 : w8.ownsRow B 57 4 (.slice (some ⟨g, 0, .none⟩) (L.length + 1) cap) (L.length + 1) (recCells L ++ x.list)) (hgrow8 : W1.grownBy w8 (Value.slice sa L.length c).ownBlock) (hor : (Value.slice sa L.length c).ownBlock = some g ∨ g = W.heap.size + 1)
    (r8 : w8.heap[rb]? = some (.cells #[.pointer (some ⟨bc, 0, .none⟩), .slice sa L.length c, .bool sp] 117 (0, 0))) :
    RingAt (w8.setCell ⟨rb, 1, .none⟩ (.slice (some ⟨g, 0, .none⟩) (L.length + 1) cap)) B rb bc (.slice (some ⟨g, 0, .none⟩) (L.length + 1) cap) (L ++ [x]) sp ∧ Off (fun k => k = rb ∨ (Value.slice sa L.length c).ownBlock = some k) W (w8.setCell ⟨rb, 1, .none⟩ (.slice (some ⟨g, 0, .none⟩) (L.length + 1) cap)) ∧ ∀ k, (Value.slice (some ⟨g, 0, .none⟩) (L.length + 1) cap).ownBlock = some k → (Value.slice sa L.length c).ownBlock = some k ∨ W.heap.size ≤ k := by
  have hlt := h.lt
  have hg1 : g ≠ rb := by
    rcases hor with e | e
    · intro e2; rw [e2] at e; exact h.sep.1 e
    · omega
  have hg2 : g ≠ bc := by
    rcases hor with e | e
    · intro e2; rw [e2] at e; exact h.sep.2 e
    · omega
  have hre : Recs w8 B (.slice (some ⟨g, 0, .none⟩) (L ++ [x]).length cap) (L ++ [x]) := by
    show w8.ownsRow _ _ _ _ _ _
    rw [recCells_append, List.length_append]
    exact hown8
  have hgs : w8.grownBy (w8.setCell ⟨rb, 1, .none⟩ (.slice (some ⟨g, 0, .none⟩) (L.length + 1) cap)) (some rb) := grown_set (grown_refl _ _) _ _
  refine ⟨⟨ring_set r8 _, ?_, ⟨by simpa [Value.ownBlock] using hg1, by simpa [Value.ownBlock] using hg2⟩, h.lo⟩, ?_, fun k e => by
    have e2 : g = k := by simpa [Value.ownBlock] using e
    subst e2
    rcases hor with e | e
    · exact Or.inl e
    · right; omega⟩
  · rcases hre.row_form with ⟨e, -⟩ | ⟨g', cap', e, hb', hrow, hlc, hm⟩
    · cases e
    · have e1 := e
      simp only [Value.slice.injEq, Option.some.injEq, Addr.mk.injEq] at e1
      obtain ⟨⟨rfl, -⟩, -, rfl⟩ := e1
      have := Recs.of_row (base := B) (hrow.grown hgs hg1) hb' hlc hm
      rw [List.length_append] at this
      exact this
  · have o1 : Off (fun k => k = rb ∨ (Value.slice sa L.length c).ownBlock = some k) W W1 := Off.of_below B2 _
    have o2 : Off (fun k => (Value.slice sa L.length c).ownBlock = some k) W1 w8 := ⟨hgrow8.os, hgrow8.tape, hgrow8.output, hgrow8.size, fun k hk hn => hgrow8.block k hk (fun e => hn e.symm)⟩
    exact (o1.trans o2 (fun _ _ hs => Or.inr hs)).trans (Off.of_grown hgs) (fun _ _ hs => Or.inl hs)
theorem keep_end {w W W1 w8 : World} {B rb bc g cap : Nat} {L : List Rec} {x : Rec} {sp : Bool} {sa : Option Addr} {c : Nat} (h : RingAt w B rb bc (.slice sa L.length c) L sp) (hbc : bc < w.heap.size) (B1 : Below w.heap.size w W) (hsz : W.heap.size = w.heap.size + 1)
    (B2 : Below W.heap.size W W1) (s2 : W1.heap.size = W.heap.size + 1) (hown8 : w8.ownsRow B 57 4 (.slice (some ⟨g, 0, .none⟩) (L.length + 1) cap) (L.length + 1) (recCells L ++ x.list)) (hgrow8 : W1.grownBy w8 (Value.slice sa L.length c).ownBlock) (hor : (Value.slice sa L.length c).ownBlock = some g ∨ g = W.heap.size + 1)
    (r8 : w8.heap[rb]? = some (.cells #[.pointer (some ⟨bc, 0, .none⟩), .slice sa L.length c, .bool sp] 117 (0, 0))) :
    RingAt (w8.setCell ⟨rb, 1, .none⟩ (.slice (some ⟨g, 0, .none⟩) (L.length + 1) cap)) B rb bc (.slice (some ⟨g, 0, .none⟩) (L.length + 1) cap) (L ++ [x]) sp ∧ Off (fun k => k = rb ∨ (Value.slice sa L.length c).ownBlock = some k) w (w8.setCell ⟨rb, 1, .none⟩ (.slice (some ⟨g, 0, .none⟩) (L.length + 1) cap)) ∧ ∀ k, (Value.slice (some ⟨g, 0, .none⟩) (L.length + 1) cap).ownBlock = some k → (Value.slice sa L.length c).ownBlock = some k ∨ w.heap.size ≤ k := by
  obtain ⟨a, b, d⟩ := keep_endB (h.below B1) (by omega) B2 s2 hown8 hgrow8 hor r8
  exact ⟨a, (Off.of_below B1 _).trans b (fun _ _ hs => hs), fun k e => (d k e).imp id (fun x => by omega)⟩

set_option maxRecDepth 100000 in
set_option maxHeartbeats 1000000 in
/-- The append of keep, where there is room for one more. -/
theorem keep_short (B rb bc : Nat) (v : Value) (L : List Rec) (sp : Bool) (x : Rec) (w : World) (h : RingAt w B rb bc v L sp) (hbc : bc < w.heap.size) (hl : L.length < 8) :
    Calls Tryz.prog 173 #[.pointer (some ⟨rb, 0, .none⟩), x.val] w fun e w' => e = .returned (.tuple #[]) ∧ ∃ v', RingAt w' B rb bc v' (L ++ [x]) sp ∧ Off (fun k => k = rb ∨ v.ownBlock = some k) w w' ∧ ∀ k, v'.ownBlock = some k → v.ownBlock = some k ∨ w.heap.size ≤ k := by
  obtain ⟨i0, hi, hz0, hz1, hz2⟩ := Tryz.infoRec
  obtain ⟨sa, c, rfl⟩ := h.recs.len
  have hne : ¬ L.length = 8 := by omega
  have hne' : ¬ (L.length : Int) = 8 := by omega
  have B1 := (Below.refl w.heap.size w).alloc (Nat.le_refl _) (.cells #[.int .i64 (x.seq : Int), .int .i64 (x.ent : Int), .int .i64 (x.kind : Int), .int .i64 (x.tick : Int)] 57)
  have R1 := h.below B1
  have hlt := h.lt
  have hlo := h.lo
  have X1 := RecAt.new w x 57
  obtain ⟨W, hW⟩ : ∃ W, w.alloc (.cells #[.int .i64 (x.seq : Int), .int .i64 (x.ent : Int), .int .i64 (x.kind : Int), .int .i64 (x.tick : Int)] 57) = W := ⟨_, rfl⟩
  have hsz : W.heap.size = w.heap.size + 1 := by rw [← hW]; simp
  rw [hW] at B1 R1 X1
  have HW : Hid _ := hW
  clear hW
  obtain ⟨x0, x1, x2, x3⟩ := X1
  have c1 := R1.c1
  have f1 := R1.frozen 1
  have hown : W.ownsRow B 57 4 (.slice sa L.length c) L.length (recCells L) := R1.recs
  unfold Rec.val
  go_enter Tryz.func173, Tryz.ntmps173
  go_upto_region 1 with fail
  rw [HW.out]
  go_wp2_with fail
  have KB : Hid (∀ (o : Obj) (w8 : World), (W.drew.alloc o).grownBy w8 (Value.slice sa L.length c).ownBlock → w8.heap[rb]? = some (.cells #[.pointer (some ⟨bc, 0, .none⟩), .slice sa L.length c, .bool sp] 117 (0, 0))) := fun o w8 hg =>
    ((hg.block rb (by simp; omega) (fun e => h.sep.1 e.symm)).trans (((Below.refl W.heap.size W.drew).alloc (Nat.le_refl _) o).block rb (by omega))).trans R1.heap
  have hownd : W.drew.ownsRow B 57 4 (.slice sa L.length c) L.length (recCells L) := hown
  go_region_law (refine step_append_lies _ rfl (.tmp 22) (.tmp 24) 52 rfl B 57 i0 (.agg #[.int .i64 0, .int .i64 0, .int .i64 0, .int .i64 0]) 4 32 Tryz.underlying52 hi hz0 hz1 hz2 rfl (by decide) (.slice sa L.length c) L.length (recCells L) (by simp [Act.eval]) (hownd.alloc _) ⟨W.heap.size, 0, .none⟩ 1 1 x.list (by simp [Act.eval]) rfl (cell_four W.drew x 57) (list_one x) (by decide) (by unfold maxLen; omega) (by omega) (by simp; omega) (W.heap.size + 1) (by simp) ?_; intro g cap w8 hown8 hgrow8 hor hlt8; have r8 := KB.out _ _ hgrow8; have d1 := ring_c1 r8; have d2 := ring_f r8 1)
  all_goals
    go_wp2
    go_end0
    exact ⟨rfl, _, keep_end h hbc B1 hsz (((Below.refl _ _).alloc (Nat.le_refl _) _).drew) (by simp) hown8 hgrow8 hor r8⟩

theorem RingAt.swap {w w' w'' : World} {B rb bc : Nat} {v v' : Value} {L M : List Rec} {sp : Bool} {g cap : Nat} (h : RingAt w B rb bc v L sp) (hv : v.ownBlock = some g) (hv' : v' = .slice (some ⟨g, 0, .none⟩) M.length cap) (hg : w.grownBy w' (some g)) (hrow : SlRow w' g cap M) (hl : M.length ≤ cap) (hm : cap ≤ maxLen) (hw : w'' = w'.setCell ⟨rb, 1, .none⟩ v') :
    RingAt w'' B rb bc v' M sp ∧ Off (fun k => k = rb ∨ v.ownBlock = some k) w w'' := by
  have hgb : g ≠ rb := fun e => h.sep.1 (by rw [hv, e])
  have hgc : g ≠ bc := fun e => h.sep.2 (by rw [hv, e])
  have r1 := (hg.block rb h.lt (by simpa using fun e : rb = g => hgb e.symm)).trans h.heap
  have hgs : w'.grownBy (w'.setCell ⟨rb, 1, .none⟩ v') (some rb) := grown_set (grown_refl _ _) _ _
  subst hw
  refine ⟨⟨ring_set r1 _, ?_, ?_, h.lo⟩, ?_⟩
  · subst hv'
    exact Recs.of_row (hrow.grown hgs hgb) (h.recs.lt g hv).1 hl hm
  · subst hv'
    exact ⟨by simpa [Value.ownBlock] using hgb, by simpa [Value.ownBlock] using hgc⟩
  · exact ((Off.of_grown hg).mono (fun k _ e => Or.inr (by rw [hv, e]))).trans (Off.of_grown hgs) (fun _ _ e => Or.inl e)

set_option maxRecDepth 100000 in
set_option maxHeartbeats 1000000 in
/-- keep, where eight are there. -/
theorem keep_full (B rb bc : Nat) (v : Value) (y : Rec) (M : List Rec) (sp : Bool) (x : Rec) (w : World) (h : RingAt w B rb bc v (y :: M) sp) (hbc : bc < w.heap.size) (hl : M.length = 7) :
    Calls Tryz.prog 173 #[.pointer (some ⟨rb, 0, .none⟩), x.val] w fun e w' => e = .returned (.tuple #[]) ∧ ∃ v', RingAt w' B rb bc v' (M ++ [x]) sp ∧ Off (fun k => k = rb ∨ v.ownBlock = some k) w w' ∧ ∀ k, v'.ownBlock = some k → v.ownBlock = some k ∨ w.heap.size ≤ k := by
  obtain ⟨i0, hi, hz0, hz1, hz2⟩ := Tryz.infoRec
  have B1 := (Below.refl w.heap.size w).alloc (Nat.le_refl _) (.cells #[.int .i64 (x.seq : Int), .int .i64 (x.ent : Int), .int .i64 (x.kind : Int), .int .i64 (x.tick : Int)] 57)
  have R1 := h.below B1
  have hlt := h.lt
  have hlo := h.lo
  have X1 := RecAt.new w x 57
  obtain ⟨W, hW⟩ : ∃ W, w.alloc (.cells #[.int .i64 (x.seq : Int), .int .i64 (x.ent : Int), .int .i64 (x.kind : Int), .int .i64 (x.tick : Int)] 57) = W := ⟨_, rfl⟩
  have hsz : W.heap.size = w.heap.size + 1 := by rw [← hW]; simp
  rw [hW] at B1 R1 X1
  have HW : Hid _ := hW
  clear hW
  rcases R1.recs.row_form with ⟨-, e0⟩ | ⟨g, cap, hv, hbg, hrow, hlc, hm⟩
  · cases e0
  rw [List.length_cons, hl] at hv hlc
  have hgh := h.recs.lt g (by rw [hv]; rfl)
  have DR := delete_row g cap y M W hrow hl hlc hm
  have hv2 : v.ownBlock = some g := by rw [hv]; rfl
  have c1 := R1.c1
  have f1 := R1.frozen 1
  rw [hv] at c1
  have HDR : Hid _ := DR
  clear DR
  unfold Rec.val
  go_enter Tryz.func173, Tryz.ntmps173
  go_upto_region 1 with fail
  rw [HW.out]
  go_wp2_with fail
  refine Calls.mono HDR.out ?_
  rintro e w2 ⟨rfl, hrow2, hg2⟩
  have r2 := (hg2.block rb R1.lt (fun e => R1.sep.1 (by rw [hv2, e]))).trans R1.heap
  have d1 := ring_c1 r2
  have d2 := ring_f r2 1
  go_upto_region 3 with fail
  obtain ⟨W2, hW2⟩ : ∃ W2, w2.setCell ⟨rb, 1, .none⟩ (.slice (some ⟨g, 0, .none⟩) 7 cap) = W2 := ⟨_, rfl⟩
  obtain ⟨R2, O2⟩ := R1.swap (w'' := W2) (M := M) (cap := cap) (v' := .slice (some ⟨g, 0, .none⟩) M.length cap) hv2 rfl hg2 hrow2 (by omega) hm (by rw [hl]; exact hW2.symm)
  have hs2 : W.heap.size ≤ W2.heap.size := O2.size
  have nx : ¬ (w.heap.size = rb ∨ v.ownBlock = some w.heap.size) := by
    rintro (e | e)
    · omega
    · rw [hv2] at e; have := Option.some.inj e; omega
  have X2 : RecAt W2 w.heap.size x := by
    have e := O2.block w.heap.size (by omega) nx
    exact ⟨(World.cell?_of_block e).trans X1.c0, (World.cell?_of_block e).trans X1.c1, (World.cell?_of_block e).trans X1.c2, (World.cell?_of_block e).trans X1.c3⟩
  rw [hW2]
  have O3 := (Off.of_below B1 (fun k => k = rb ∨ v.ownBlock = some k)).trans O2 (fun _ _ hs => hs)
  clear c1 f1 d1 d2 r2 hW2 HDR HW hrow hrow2 hg2 R1 B1 O2 X1
  rw [hl] at R2
  obtain ⟨x0, x1, x2, x3⟩ := X2
  have c1 := R2.c1
  have f1 := R2.frozen 1
  have KB : Hid (∀ (o : Obj) (w8 : World), (W2.drew.alloc o).grownBy w8 (Value.slice (some ⟨g, 0, .none⟩) 7 cap).ownBlock → w8.heap[rb]? = some (.cells #[.pointer (some ⟨bc, 0, .none⟩), .slice (some ⟨g, 0, .none⟩) 7 cap, .bool sp] 117 (0, 0))) := fun o w8 hg =>
    ((hg.block rb (by simp; omega) (fun e => R2.sep.1 e.symm)).trans (((Below.refl W2.heap.size W2.drew).alloc (Nat.le_refl _) o).block rb (by omega))).trans R2.heap
  have hownd : W2.drew.ownsRow B 57 4 (.slice (some ⟨g, 0, .none⟩) 7 cap) 7 (recCells M) := by
    have := R2.recs
    unfold Recs at this
    rw [hl] at this
    exact this
  have hrl2 : rb < W2.heap.size := by omega
  have hrn2 : ¬ rb = W2.heap.size := by omega
  have KE : Hid (∀ (W1 w8 : World) (g' cap' : Nat), Below W2.heap.size W2 W1 → W1.heap.size = W2.heap.size + 1 → w8.ownsRow B 57 4 (.slice (some ⟨g', 0, .none⟩) (7 + 1) cap') (7 + 1) (recCells M ++ x.list) → W1.grownBy w8 (Value.slice (some ⟨g, 0, .none⟩) 7 cap).ownBlock → ((Value.slice (some ⟨g, 0, .none⟩) 7 cap).ownBlock = some g' ∨ g' = W2.heap.size + 1) → w8.heap[rb]? = some (.cells #[.pointer (some ⟨bc, 0, .none⟩), .slice (some ⟨g, 0, .none⟩) 7 cap, .bool sp] 117 (0, 0)) →
      ∃ v', v' = Value.slice (some ⟨g', 0, .none⟩) (7 + 1) cap' ∧ RingAt (w8.setCell ⟨rb, 1, .none⟩ v') B rb bc v' (M ++ [x]) sp ∧ Off (fun k => k = rb ∨ v.ownBlock = some k) w (w8.setCell ⟨rb, 1, .none⟩ v') ∧ ∀ k, v'.ownBlock = some k → v.ownBlock = some k ∨ w.heap.size ≤ k) := by
    intro W1 w8 g' cap' b2 s2 ho hg hor r8
    have R2' : RingAt W2 B rb bc (.slice (some ⟨g, 0, .none⟩) M.length cap) M sp := by rw [hl]; exact R2
    have := keep_endB (W := W2) (W1 := W1) (w8 := w8) (g := g') (cap := cap') (x := x) R2' (by omega) b2 s2 (by rw [hl]; exact ho) (by rw [hl]; exact hg) (by rw [hl]; exact hor) (by rw [hl]; exact r8)
    rw [hl] at this
    refine ⟨_, rfl, this.1, O3.trans this.2.1 (fun k _ hs => ?_), fun k e => (this.2.2 k e).imp (fun e => by rw [hv2]; exact e) (fun x => by omega)⟩
    rcases hs with e | e
    · exact Or.inl e
    · right; rw [hv2]; exact e
  go_region_law (refine step_append_lies _ rfl (.tmp 22) (.tmp 24) 52 rfl B 57 i0 (.agg #[.int .i64 0, .int .i64 0, .int .i64 0, .int .i64 0]) 4 32 Tryz.underlying52 hi hz0 hz1 hz2 rfl (by decide) (.slice (some ⟨g, 0, .none⟩) 7 cap) 7 (recCells M) (by simp [Act.eval]) (hownd.alloc _) ⟨W2.heap.size, 0, .none⟩ 1 1 x.list (by simp [Act.eval]) rfl (cell_four W2.drew x 57) (list_one x) (by decide) (by unfold maxLen; omega) (by omega) (by simp; omega) (W2.heap.size + 1) (by simp) ?_; intro g' cap' w8 hown8 hgrow8 hor hlt8; have r8 := KB.out _ _ hgrow8; have d1 := ring_c1 r8; have d2 := ring_f r8 1)
  all_goals
    go_wp2
    go_end0
    obtain ⟨v', rfl, K1, K2, K3⟩ := KE.out _ _ _ _ (((Below.refl _ _).alloc (Nat.le_refl _) _).drew) (by simp) hown8 hgrow8 hor r8
    exact ⟨rfl, _, K1, K2, K3⟩
end Go.Proofs.YtdpdbfhbojgigacGreatDoor
