/-
  RingTurned, walked: it answers yes. Conditions: four sentinels lie in memory ('Sen4'); the numbers are in their bounds.
-/
import Derived.Test.YtebdepbnhemnpaaDoorRtSt
import Derived.Test.YtebdepbnhemnpaaDoorRingLogged
namespace Go.Proofs.YtebdepbnhemnpaaDoor
open Go.RowKit Go.Extern.Stop Go.Stop Go.Extern

theorem text_err (l : List UInt8) (h : l.length = 153) : (CSt.ofText l).err 0 153 = 0 := by
  unfold CSt.err CSt.ofText
  simp only [h]
  rfl

theorem openL_len (l : List UInt8) : (openL l).length ≤ 8 := by unfold openL newestL; rw [List.length_reverse]; exact chain_len _ 8 _
theorem rslot_eq (n : Nat) (i : Int) (w : World) (e : i = n) (h : 1 ≤ n) (h2 : n < 9223372036854775808) :
    Calls Tryd.prog 40 #[.int .i64 i] w fun e w' => e = .returned (.int .i64 (((n - 1) % 9 : Nat) : Int)) ∧ w' = w := by
  subst e; exact rslot_any n w h h2

/-- One byte of a row of bytes, turned: the text of the row. -/
theorem turned_text (W : World) (b K cap : Nat) (l : List UInt8) (z : UInt8) (hK : K < l.length) (hc : ∀ j, j < l.length → W.cell? ⟨b, j, .none⟩ = some (.int .u8 ((l.getD j 0).toNat : Int))) :
    (convert 41 9 (.slice (some ⟨b, 0, .none⟩) l.length cap)).run Tryd.prog (W.setCell ⟨b, K, .none⟩ (.int .u8 (z.toNat : Int))) = .ok (.string ⟨(l.set K z).toArray⟩) (W.setCell ⟨b, K, .none⟩ (.int .u8 (z.toNat : Int))) := by
  have h := run_convert_bytes_back (P := Tryd.prog) (W.setCell ⟨b, K, .none⟩ (.int .u8 (z.toNat : Int))) 41 9 5 ⟨b, 0, .none⟩ cap (l.set K z) Tryd.underlying41 Tryd.underlying5 Tryd.underlying9 (fun j hj => by
    have hj' : j < l.length := by simpa using hj
    have ea : (⟨b, 0, .none⟩ : Addr).add j = ⟨b, j, .none⟩ := by unfold Addr.add; split <;> simp_all
    rw [ea]
    by_cases e : j = K
    · subst e
      rw [World.cell?_setCell_same _ _ _ (hc j hj')]
      simp
    · rw [World.cell?_setCell_other _ _ _ _ (by intro e2; apply e; exact (congrArg Addr.off e2).symm), hc j hj']
      rw [List.getElem_set_ne (Ne.symm e)]
      simp [List.getD_eq_getElem?_getD, List.getElem?_eq_getElem hj'])
  rw [List.length_set] at h
  exact h

set_option maxRecDepth 100000 in
set_option maxHeartbeats 4000000 in
theorem turned_in (A : Nat → Addr) (many m p : Nat) (y : UInt8) (w : World) (hs : Sen4 A w) (h1 : 1 ≤ many) (h2 : many ≤ 40) (h3 : m < 8) (h4 : m < many) (h5 : p < 17) (h6 : y ≠ 0) :
    Calls Tryd.prog 8 #[.int .i64 (many : Int), .int .i64 (m : Int), .int .i64 (p : Int), .int .u8 (y.toNat : Int)] w fun e w' => e = .returned (.bool true) ∧ Below w.heap.size w w' := by
  have hI := Inv.new 153 (by decide) (by decide)
  have HO : Hid (openL (CSt.new 153).bytes = []) := by
    show _ = _
    rw [hI.opens]; rfl
  have HI : Hid _ := hI
  have HE : Hid _ := new_err 153 (by decide)
  clear hI
  have hgf := hs.gf
  have HY : Hid (y ≠ 0) := h6
  have y0 : ((y.toNat : Int) == 0) = false := by
    rw [beq_eq_false_iff_ne]
    intro e
    exact h6 (UInt8.toNat_inj.1 (by rw [show (0 : UInt8).toNat = 0 from rfl]; omega))
  have g1 : ¬ (many : Int) < 1 := by omega
  have g2 : ¬ 40 < (many : Int) := by omega
  have g3 : ¬ (m : Int) < 0 := by omega
  have g4 : ¬ 8 ≤ (m : Int) := by omega
  have g5 : ¬ (many : Int) ≤ (m : Int) := by omega
  have g6 : ¬ (p : Int) < 0 := by omega
  have g7 : ¬ 17 ≤ (p : Int) := by omega
  clear h6
  go_enter Tryd.func8, Tryd.ntmps8
  go_wp2_with fail
  refine (logged_any A w hs hgf).mono ?_
  rintro e w1 ⟨rfl, hb1⟩
  have s1 := hb1.size
  go_wp2_with fail
  refine (new_in 153 w1 (by decide)).mono ?_
  rintro e w2 ⟨rfl, hb2, hc2, hs2⟩
  have b2 := hb1.trans (hb2.mono s1)
  clear g1 g2 g3 g4 g5 g6 g7 y0
  go_wp2_with fail
  refine (open_on A w1.heap.size _ w2 hc2 (hs.below b2) HE.out).mono ?_
  rintro e w3 ⟨rb, v, rfl, hr3, hb3⟩
  rw [HO.out] at hr3
  have hlo := hr3.lo
  have ST0 : RtSt w w3 w1.heap.size rb v [] (CSt.new 153) 0 :=
    ⟨⟨hr3.heap, hr3.recs.mono (by omega), hr3.sep, by omega⟩, hc2.below hb3, HI.out, rfl, rfl, rfl, ⟨by decide, by decide⟩, rfl, by omega, s1, b2.trans (hb3.mono (by omega))⟩
  generalize hbc : w1.heap.size = bc at *
  clear HO HI HE hb1 hb2 hc2 hs2 b2 hr3 hb3 hbc
  go_upto_region 12 with fail
  go_cut [13] (fun i wx => i = .int .i64 0 ∧ wx = w3)
  case first =>
    go_wp2_with fail
    go_meet
    case rel => exact ⟨rfl, rfl⟩
  obtain ⟨rfl, rfl⟩ := hcut
  go_wp2_with fail
  go_loopw [13] (fun i wr => ∃ (k : Nat) (v : Value) (D : List Rec) (s : CSt), k ≤ many ∧ i = .int .i64 k ∧ RtSt w wr bc rb v D s k) (fun i _ => many - (intOf i).toNat)
  case atStart => exact ⟨0, v, [], CSt.new 153, Nat.zero_le _, rfl, ST0⟩
  case round =>
    clear ST0
    obtain ⟨k, v, D, s, hk, rfl, ST⟩ := hrel
    by_cases hlt : k < many
    · have e8 : Int.tmod (k : Int) 8 = ((k % 8 : Nat) : Int) := by rw [Int.tmod_eq_emod_of_nonneg (by omega)]; omega
      have e3 : Int.tmod (k : Int) 3 = ((k % 3 : Nat) : Int) := by rw [Int.tmod_eq_emod_of_nonneg (by omega)]; omega
      have hun := (put_uncut ST.inv.big ST.off ST.cut (nextR (last8 D) (k % 8) (1 + k % 3) k)).1
      have hsz := ST.bel.size
      have HAP : Hid _ := fun i1 i2 i3 q1 q2 q3 => append_eq A w.heap.size rb bc v (last8 D) s (k % 8) (1 + k % 3) k i1 i2 i3 wr q1 q2 q3 ST.ring ST.cells (hs.below ST.bel) (Nat.le_trans hgf ST.lob) ST.ne (ST.low.mono (by omega)) (last8_len D) (by omega) (by omega) (by omega) (by rw [last8_last ST.inv, ST.dlen]; omega) hun
      have HST : Hid _ := fun w3 v3 R3 C3 O3 => ST.app (n1 := k % 8) (n2 := 1 + k % 3) (n3 := k) (w3 := w3) (v3 := v3) (by omega) (by omega) (by omega) (by omega) R3 C3 O3
      clear hun
      go_wp2_with fail
      refine Calls.mono (HAP.out _ _ _ (by omega) (by omega) (by omega)) ?_
      rintro e w4 ⟨rfl, ⟨v4, R4⟩, C4, O4⟩
      have ST4 := HST.out w4 v4 R4 C4 O4
      clear HAP HST R4 C4 O4 ST e8 e3
      generalize nextR (last8 D) (k % 8) (1 + k % 3) k = x at *
      unfold Rec.val
      go_wp2_with fail
      go_roundw
      case rel => exact ⟨k + 1, v4, _, _, by omega, by go_num, ST4.below ((Below.refl w4.heap.size w4).alloc (Nat.le_refl _) _)⟩
      case measure => simp [intOf]; omega
    · obtain rfl : k = many := by omega
      have hlen : (s.bytes.take 153).length = 153 := by rw [List.length_take, ST.inv.big.len]; rfl
      have hT1 : (s.bytes.take s.size).toArray = (⟨(s.bytes.take 153).toArray⟩ : ByteArray).data := by rw [ST.size]
      have hT2 : (⟨(s.bytes.take 153).toArray⟩ : ByteArray).size = 153 := by simpa [ByteArray.size] using hlen
      have hT3 : (⟨(s.bytes.take 153).toArray⟩ : ByteArray).data.toList = s.bytes.take 153 := rfl
      generalize (⟨(s.bytes.take 153).toArray⟩ : ByteArray) = T at *
      have HT1 : Hid _ := hT1
      have HT3 : Hid _ := hT3
      clear hT1 hT3
      go_wp2_with fail
      refine (bytes_to bc s T _ ST.cells HT1.out).mono ?_
      rintro e w5 ⟨rfl, q, hw5⟩
      have ST5 : RtSt w w5 bc rb v D s k := by rw [hw5]; exact ST.below (below_drewN (Below.refl _ _) q)
      clear hw5 ST HT1
      obtain ⟨cap, W, hcv, hbW, hzW, hcell, hfr⟩ := bytes_made w5 T
      have ST6 := ST5.below hbW
      have hlo5 := ST5.bel.size
      clear ST5
      rw [hT2] at hcv hcell hfr
      have HC : Hid _ := hcell
      have HF : Hid _ := hfr
      clear hcell hfr
      go_upto_region 19 with fail
      clear hcv
      generalize w5.heap.size = bb at *
      go_cut [17] (fun i wx => i = .int .i64 (((k - m - 1) % 9 * 17 + p : Nat) : Int) ∧ wx = W)
      case first =>
        go_wp2_with fail
        refine (rslot_eq (k - m) _ _ (by omega) (by omega) (by omega)).mono ?_
        rintro e w7 ⟨rfl, rfl⟩
        have hq9 := Nat.mod_lt (k - m - 1) (show 0 < 9 by decide)
        generalize (k - m - 1) % 9 = Q at *
        go_wp2_with fail
        go_meet
        case rel => exact ⟨by go_num, rfl⟩
      obtain ⟨rfl, rfl⟩ := hcut
      have hq9 := Nat.mod_lt (k - m - 1) (show 0 < 9 by decide)
      have hdl := ST6.dlen
      have htu := fun z hz => turned_of ST6.inv m p z h3 (by omega) h5 hz
      rw [hdl] at htu
      have HTU : Hid _ := htu
      have HDL : Hid _ := hdl
      clear htu hdl
      generalize hKe : (k - m - 1) % 9 * 17 + p = K at *
      have hK : K < 153 := by omega
      have hC' := HC.out
      rw [HT3.out] at hC'
      have hxc := hC' K hK
      have hxf := HF.out K hK
      have htt := fun z => turned_text wc bb K cap (s.bytes.take 153) z (by rw [hlen]; exact hK) (by rw [hlen]; exact hC')
      rw [hlen] at htt
      clear hC'
      generalize hxe : (s.bytes.take 153).getD K 0 = x at *
      have hxor : bits BinOp.xor IntKind.u8 (x.toNat : Int) (y.toNat : Int) = ((x ^^^ y).toNat : Int) := by
        rw [u8_xor _ _ x.toNat_lt y.toNat_lt, UInt8.toNat_xor]
      have hne : (s.bytes.take 153)[K]? ≠ some (x ^^^ y) := by
        rw [List.getElem?_eq_getElem (by rw [hlen]; exact hK)]
        rw [List.getD_eq_getElem?_getD, List.getElem?_eq_getElem (by rw [hlen]; exact hK)] at hxe
        simp only [Option.getD_some] at hxe
        rw [hxe]
        intro e
        have e2 := Option.some.inj e
        apply HY.out
        have e3 : x ^^^ (x ^^^ y) = x ^^^ x := by rw [← e2]
        rw [← UInt8.xor_assoc, UInt8.xor_self, UInt8.zero_xor] at e3
        exact e3
      have TU := HTU.out _ hne
      have hcb := htt (x ^^^ y)
      have hll : ((s.bytes.take 153).set K (x ^^^ y)).length = 153 := by rw [List.length_set]; exact hlen
      have HE2 : Hid _ := text_err ((s.bytes.take 153).set K (x ^^^ y)) hll
      have HOP : Hid _ := fun h => Turned.opens TU h
      have HLA : Hid (m = 0 → (D.length = 1 → openL (CSt.ofText ((s.bytes.take 153).set K (x ^^^ y))).bytes = []) ∧ (1 < D.length → 0 < (openL (CSt.ofText ((s.bytes.take 153).set K (x ^^^ y))).bytes).length ∧ (lastR (openL (CSt.ofText ((s.bytes.take 153).set K (x ^^^ y))).bytes)).seq = D.length - 1)) := fun e => by subst e; exact Turned.last TU
      have HSQ : Hid _ := ST6.inv.seq
      clear HTU HC HF htt hne TU HT3 HY
      generalize x ^^^ y = z at *
      have hK0 : (0 : Int) ≤ (K : Int) := by omega
      have hK1 : (K : Int) < 153 := by omega
      have hbb : bb < wc.heap.size := by omega
      generalize (s.bytes.take 153).set K z = L2 at *
      have hL2s : (⟨L2.toArray⟩ : ByteArray).size ≤ 4096 := by simp [ByteArray.size, hll]
      have hL2d : (⟨L2.toArray⟩ : ByteArray).data.toList = L2 := rfl
      generalize (⟨L2.toArray⟩ : ByteArray) = T2 at *
      go_wp2_with fail
      refine (from_in T2 _ hL2s).mono ?_
      rintro e w8 ⟨rfl, hb8, hc8⟩
      have b7 : Below w.heap.size w (wc.setCell ⟨bb, K, .none⟩ (.int .u8 (z.toNat : Int))) := Below.setCell ST6.bel hlo5 _
      have b8 := b7.trans (hb8.mono b7.size)
      have l8 := hc8.lt
      rw [hL2d] at hc8
      clear hxc hxf hcb hxor hb8 b7
      generalize (wc.setCell ⟨bb, K, .none⟩ (.int .u8 (z.toNat : Int))).heap.size = bx at *
      go_wp2_with fail
      refine (open_on A bx _ w8 hc8 (hs.below b8) HE2.out).mono ?_
      rintro e w9 ⟨rb9, v9, rfl, R9, hb9⟩
      have b9 := b8.trans (hb9.mono b8.size)
      have hLl := openL_len (CSt.ofText L2).bytes
      clear HE2 hc8 hb9
      generalize openL (CSt.ofText L2).bytes = L9 at *
      go_wp2_with fail
      refine (records_any _ rb9 bx v9 L9 false w9 R9 (by omega)).mono ?_
      rintro e w10 ⟨v10, rfl, hr10, hb10⟩
      have b10 := b9.trans (hb10.mono b9.size)
      have R10 := R9.below hb10
      obtain ⟨sa10, c10, rfl⟩ := hr10.len
      by_cases m0 : m = 0
      · have hla := HLA.out m0
        subst m0
        go_wp2_with fail
        refine (last_any _ rb9 bx v9 L9 false w10 R10 (by omega)).mono ?_
        rintro e w11 ⟨rfl, hb11⟩
        have b11 := b10.trans (hb11.mono b10.size)
        have hD := HDL.out
        by_cases k1 : 1 < k
        · obtain ⟨q1, q2⟩ := hla.2 (by omega)
          have dq : decide (0 < L9.length) = true := decide_eq_true q1
          have hq2 : ((lastR L9).seq : Int) = (k : Int) - 1 := by omega
          clear hla q1 q2
          rw [dq]
          unfold Rec.val
          rw [hq2]
          have k1' : (1 : Int) < (k : Int) := by omega
          clear hr10 R10 R9 HLA HOP HSQ
          go_wp2
          go_ret
          exact ⟨rfl, b11.alloc b11.size _⟩
        · have q1 := hla.1 (by omega)
          subst q1
          obtain rfl : k = 1 := by omega
          have dq : decide (0 < ([] : List Rec).length) = false := rfl
          have el : lastR [] = Rec.none := rfl
          rw [dq, el]
          unfold Rec.val
          clear hr10 R10 R9 HLA HOP HSQ
          go_wp2
          go_ret
          exact ⟨rfl, b11.alloc b11.size _⟩
      · have hop := HOP.out (by omega)
        have hD := HDL.out
        have hl9 : L9.length = m := by rw [hop, List.length_drop]; omega
        obtain ⟨g, o, rfl, hc⟩ := hr10.reads.1.at' (by intro e; rw [e] at hl9; simp at hl9; omega)
        obtain ⟨m', rfl⟩ : ∃ m', m = m' + 1 := ⟨m - 1, by omega⟩
        have hsq : ∀ i (h : i < L9.length), L9[i].seq = k - (m' + 1) + i + 1 := fun i hi => by
          have h1 := HSQ.out (k - (m' + 1) + i) (by omega)
          have h2 : L9[i] = D[k - (m' + 1) + i]'(by omega) := by
            subst hop
            rw [List.getElem_drop]
            congr 1
            omega
          rw [h2, h1]
        have c0 := (hc 0 (by omega)).1
        have c1 := (hc m' (by omega)).1
        rw [hsq 0 (by omega)] at c0
        rw [hsq m' (by omega)] at c1
        rw [show (((k - (m' + 1) + 0 + 1 : Nat)) : Int) = (k : Int) - ((m' : Int) + 1) + 1 by omega, show o + 0 * 4 = o by omega] at c0
        rw [show (((k - (m' + 1) + m' + 1 : Nat)) : Int) = (k : Int) by omega] at c1
        rw [hl9]
        have w1' : IntKind.i64.wrap ((k : Int) - ((m' : Int) + 1)) = (k : Int) - ((m' : Int) + 1) := by rw [IntKind.wrap_i64]; omega
        have i0 : (0 : Int) < (m' : Int) + 1 := by omega
        have i1 : (m' : Int) < (m' : Int) + 1 := by omega
        have i2 : (0 : Int) ≤ (m' : Int) := by omega
        clear hr10 R10 R9 HLA HOP HSQ hop hc hsq hLl hl9 m0
        go_wp2
        go_ret
        exact ⟨rfl, b10⟩
end Go.Proofs.YtebdepbnhemnpaaDoor
