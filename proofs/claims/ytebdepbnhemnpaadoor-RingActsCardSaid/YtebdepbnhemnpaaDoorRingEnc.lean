/-
  A record's bytes: ring.encode, ring.decode by contracts. Conditions: as named.
-/
import Derived.Test.YtebdepbnhemnpaaDoorRingNum
import Derived.Laws.MakeOwn
import Derived.Deep.DeepCutAuto
import Derived.Lib.BufferWrite
namespace Go.Proofs.YtebdepbnhemnpaaDoor
open Go.RowKit Go.Extern.Stop Go.Stop Go.Extern

structure Rec where
  seq : Nat
  ent : Nat
  kind : Nat
  tick : Nat
def Rec.list (r : Rec) : List Value := [.int .i64 (r.seq : Int), .int .i64 (r.ent : Int), .int .i64 (r.kind : Int), .int .i64 (r.tick : Int)]
def Rec.val (r : Rec) : Value := .agg #[.int .i64 (r.seq : Int), .int .i64 (r.ent : Int), .int .i64 (r.kind : Int), .int .i64 (r.tick : Int)]
def Rec.none : Rec := ⟨0, 0, 0, 0⟩
structure Rec.Ok (r : Rec) : Prop where
  seq : r.seq < 9223372036854775808
  ent : r.ent < 9223372036854775808
  kind : r.kind < 9223372036854775808
  tick : r.tick < 9223372036854775808

structure RecAt (w : World) (b : Nat) (r : Rec) : Prop where
  c0 : w.cell? ⟨b, 0, .none⟩ = some (.int .i64 (r.seq : Int))
  c1 : w.cell? ⟨b, 1, .none⟩ = some (.int .i64 (r.ent : Int))
  c2 : w.cell? ⟨b, 2, .none⟩ = some (.int .i64 (r.kind : Int))
  c3 : w.cell? ⟨b, 3, .none⟩ = some (.int .i64 (r.tick : Int))
theorem RecAt.below {w w' : World} {b B : Nat} {r : Rec} (h : RecAt w b r) (hb : Below B w w') (hlt : b < B) : RecAt w' b r :=
  ⟨(hb.cell (by exact hlt)).trans h.c0, (hb.cell (by exact hlt)).trans h.c1, (hb.cell (by exact hlt)).trans h.c2, (hb.cell (by exact hlt)).trans h.c3⟩
theorem RecAt.new (w : World) (r : Rec) (ty : TypeId) : RecAt (w.alloc (.cells #[.int .i64 (r.seq : Int), .int .i64 (r.ent : Int), .int .i64 (r.kind : Int), .int .i64 (r.tick : Int)] ty)) w.heap.size r :=
  ⟨World.cell?_alloc_at _ _ _ _ rfl, World.cell?_alloc_at _ _ _ _ rfl, World.cell?_alloc_at _ _ _ _ rfl, World.cell?_alloc_at _ _ _ _ rfl⟩

def enc12 (r : Rec) : List UInt8 := be 4 r.seq ++ be 1 r.ent ++ be 1 r.kind ++ be 6 r.tick
def enc16 (r : Rec) : List UInt8 := enc12 r ++ be 4 (crc (enc12 r))
def enc (r : Rec) : List UInt8 := enc16 r ++ [165]
theorem enc12_length (r : Rec) : (enc12 r).length = 12 := by simp [enc12, be_length]
theorem enc16_length (r : Rec) : (enc16 r).length = 16 := by simp [enc16, enc12_length, be_length]
theorem enc_length (r : Rec) : (enc r).length = 17 := by simp [enc, enc16_length]

/-- What a row of bytes that is owned tells, one by one. -/
theorem own_form {w : World} {base n : Nat} {v : Value} {l : List UInt8} (h : w.ownsRow base 5 1 v n (l.map byteVal)) (hn : 0 < n) :
    ∃ g c, v = .slice (some ⟨g, 0, .none⟩) l.length c ∧ l.length = n ∧ ∀ i (hi : i < l.length), w.cell? ((⟨g, 0, .none⟩ : Addr).add i) = some (.int .u8 (l[i].toNat : Int)) := by
  obtain ⟨hl, h | ⟨g, c, cur, rfl, -, hg, hnc, -, hcs, hx⟩⟩ := h
  · omega
  · have hln : l.length = n := by simpa using hl
    refine ⟨g, c, by rw [hln], hln, fun i hi => ?_⟩
    have e : cur[i]? = some (byteVal l[i]) := by
      have := congrArg (fun z => z[i]?) hx
      simp only [List.getElem?_take, List.getElem?_map, List.getElem?_eq_getElem hi, Nat.mul_one, Array.getElem?_toList, if_pos (show i < n by omega)] at this
      simpa using this
    have ea : (⟨g, 0, .none⟩ : Addr).add i = ⟨g, i, .none⟩ := by unfold Addr.add; split <;> simp_all
    rw [ea]
    simp only [World.cell?, hg]
    simpa [byteVal] using e
theorem conv_own {w : World} {base n : Nat} {v : Value} {l : List UInt8} (h : w.ownsRow base 5 1 v n (l.map byteVal)) (hn : 0 < n) :
    (convert 41 9 v).run Tryd.prog w = .ok (.string ⟨l.toArray⟩) w := by
  obtain ⟨g, c, rfl, -, hc⟩ := own_form h hn
  exact run_convert_bytes_back (P := Tryd.prog) w 41 9 5 ⟨g, 0, .none⟩ c l Tryd.underlying41 Tryd.underlying5 Tryd.underlying9 hc

set_option maxRecDepth 100000 in
set_option maxHeartbeats 2000000 in
theorem encode_any (r : Rec) (w : World) :
    Calls Tryd.prog 77 #[r.val] w fun e w' => e = .returned (.string ⟨(enc r).toArray⟩) ∧ Below w.heap.size w w' := by
  obtain ⟨i0, hi, hz0, hz1, hz2⟩ := Tryd.infoByte
  have R0 := RecAt.new w r 64
  unfold Rec.val
  go_enter Tryd.func77, Tryd.ntmps77
  go_upto_region 2 with (at_make; refine wpList_make_own _ rfl _ _ 41 rfl (w.heap.size + 1) 5 i0 (.int .u8 0) 1 Tryd.underlying41 hi hz0 hz1 .i64 .i64 17 17 rfl rfl rfl (by rw [hz2]; omega) (by unfold maxLen; omega) (by simp) ?_; intro w0 hown0 hgrow0)
  have R1 := R0.below ((Below.refl (w.heap.size + 1) _).grown hgrow0 (by simp) (fun k h => by cases h)) (Nat.lt_succ_self _)
  have B1 := ((Below.refl w.heap.size w).alloc (Nat.le_refl _) (.cells #[.int .i64 (r.seq : Int), .int .i64 (r.ent : Int), .int .i64 (r.kind : Int), .int .i64 (r.tick : Int)] 64)).grown hgrow0 (by simp) (fun k h => by cases h)
  have s1 := hgrow0.size
  simp only [World.size_alloc] at s1 hown0
  have q0 := R1.c0
  go_wp2_with fail
  refine (add_any (w.heap.size + 1) _ 0 [] r.seq 4 _ hown0 s1 (by omega) (by omega)).mono ?_
  rintro e w2 ⟨v2, rfl, hown2, hb2⟩
  have R2 := R1.below hb2 (Nat.lt_succ_self _)
  have s2 := hb2.size
  have q1 := R2.c1
  go_wp2_with fail
  refine (add_any (w.heap.size + 1) v2 _ _ r.ent 1 _ hown2 (by omega) (by omega) (by omega)).mono ?_
  rintro e w3 ⟨v3, rfl, hown3, hb3⟩
  have R3 := R2.below hb3 (Nat.lt_succ_self _)
  have s3 := hb3.size
  have q2 := R3.c2
  go_wp2_with fail
  refine (add_any (w.heap.size + 1) v3 _ _ r.kind 1 _ hown3 (by omega) (by omega) (by omega)).mono ?_
  rintro e w4 ⟨v4, rfl, hown4, hb4⟩
  have R4 := R3.below hb4 (Nat.lt_succ_self _)
  have s4 := hb4.size
  have q3 := R4.c3
  go_wp2_with fail
  refine (add_any (w.heap.size + 1) v4 _ _ r.tick 6 _ hown4 (by omega) (by omega) (by omega)).mono ?_
  rintro e w5 ⟨v5, rfl, hown5, hb5⟩
  have s5 := hb5.size
  have E12 : [] ++ be 4 r.seq ++ be 1 r.ent ++ be 1 r.kind ++ be 6 r.tick = enc12 r := by unfold enc12; rw [List.nil_append]
  rw [E12] at hown5
  obtain ⟨g, c, rfl, hlen, hcells⟩ := own_form hown5 (by omega)
  go_wp2_with fail
  refine (sum_any _ c (enc12 r) _ hcells (by rw [enc12_length]; omega)).mono ?_
  rintro e w6 ⟨rfl, rfl⟩
  have HW : Hid (wrap64 ((crc (enc12 r) : Nat) : Int) = ((crc (enc12 r) : Nat) : Int)) := w64 _ (by have := crc_lt (enc12 r); omega)
  have HM : Hid ((enc r).map byteVal = (enc12 r ++ be 4 (crc (enc12 r))).map byteVal ++ [.int .u8 165]) := by
    show _ = _
    unfold enc enc16
    rw [List.map_append]; rfl
  go_wp2_with fail
  rw [HW.out]
  refine (add_any (w.heap.size + 1) _ _ _ (crc (enc12 r)) 4 _ hown5 (by omega) (by omega) (by omega)).mono ?_
  rintro e w7 ⟨v7, rfl, hown7, hb7⟩
  have s7 := hb7.size
  go_wp2_with (at_builtin; refine wpList_append_own _ rfl (.tmp 26) (.tmp 27) 41 rfl (w.heap.size + 1) 5 i0 (.int .u8 0) 1 1 Tryd.underlying41 hi hz0 hz1 hz2 rfl (by decide) _ _ _ rfl (hown7.alloc _) ⟨w7.heap.size, 0, .none⟩ 1 1 [.int .u8 165] rfl rfl (cell_one _ _ _) (by intro u hu; simp at hu; subst hu; rfl) (by unfold maxLen; omega) (by omega) (by simp; omega) ?_; intro v8 w8 hown8 hgrow8 hlt8; rw [← HM.out] at hown8; have cv := conv_own hown8 (by omega))
  go_ret
  refine ⟨rfl, ?_⟩
  have B5 := (((B1.trans (hb2.mono (by omega))).trans (hb3.mono (by omega))).trans (hb4.mono (by omega))).trans (hb5.mono (by omega))
  have B7 := B5.trans (hb7.mono (by omega))
  exact (B7.alloc (by omega) _).grown hgrow8 (by simp; omega) (fun k hk => by have := (hown7.lt k hk).1; omega)
end Go.Proofs.YtebdepbnhemnpaaDoor
