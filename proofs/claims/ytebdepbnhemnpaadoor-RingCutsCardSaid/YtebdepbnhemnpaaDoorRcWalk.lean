/-
  RingCuts, walked: it answers yes. Conditions: the sentinels and the input lie in memory; at most sixty appends.
-/
import Derived.Test.YtebdepbnhemnpaaDoorRcStep
import Derived.Deep.DeepCutAuto
namespace Go.Proofs.YtebdepbnhemnpaaDoor
open Go.RowKit Go.Extern.Stop Go.Stop Go.Extern

theorem put_err {s : CSt} (h : Big s) (ho : s.off = false) (r : Rec) (j : Nat) (hj : (s.putRec r).2 = j + 1) : j = 7 := by
  rcases put_cases h ho r with ⟨e, -⟩ | ⟨e, -⟩ <;> omega
theorem err_on {s : CSt} (h : Big s) (ho : s.off = false) : s.err 0 153 = 0 := by
  have := h.size
  unfold CSt.err
  rw [if_neg (by omega), ho]; rfl
theorem put_big {s : CSt} (h : Big s) (ho : s.off = false) (r : Rec) : Big (s.putRec r).1 := by
  rcases put_cases h ho r with ⟨-, e, -⟩ | ⟨-, e, -⟩ <;> exact e.big
theorem box5 (w : World) (a : AppD) : ∃ W, w.alloc (.cells #[.int .i64 a.ent, .int .i64 a.kind, .int .i64 a.tick, .int .i64 a.cut, .bool a.boot] 72) = W ∧ Below w.heap.size w W ∧ W.heap.size = w.heap.size + 1 ∧ W.cell? ⟨w.heap.size, 0, .none⟩ = some (.int .i64 a.ent) ∧ W.cell? ⟨w.heap.size, 1, .none⟩ = some (.int .i64 a.kind) ∧ W.cell? ⟨w.heap.size, 2, .none⟩ = some (.int .i64 a.tick) ∧ W.cell? ⟨w.heap.size, 3, .none⟩ = some (.int .i64 a.cut) :=
  ⟨_, rfl, (Below.refl _ _).alloc (Nat.le_refl _) _, by simp, World.cell?_alloc_at _ _ _ _ rfl, World.cell?_alloc_at _ _ _ _ rfl, World.cell?_alloc_at _ _ _ _ rfl, World.cell?_alloc_at _ _ _ _ rfl⟩

set_option maxRecDepth 100000 in
set_option maxHeartbeats 8000000 in
theorem ringCuts_in (A : Nat → Addr) (sa : Option Addr) (g o len cap : Nat) (l : Nat → AppD) (w : World) (hs : Senv A w) (hsa : 0 < len → sa = some ⟨g, o, .none⟩) (hl : AppsAt w g o len l) (h60 : len ≤ 60)
    (hok : ∀ i, i < len → (l i).cut ≤ 9223372036854775807) :
    Calls Tryd.prog 7 #[.slice sa len cap] w fun e w' => e = .returned (.bool true) ∧ Below w.heap.size w w' := by
  obtain ⟨i0, hi, hz0, hz1, hz2⟩ := Tryd.infoRec
  have h60' : ¬ 60 < (len : Int) := by omega
  have hI := Inv.new 153 (by decide) (by decide)
  have HO : Hid (openL (CSt.new 153).bytes = []) := by
    show _ = _
    rw [hI.opens]; rfl
  have HI : Hid _ := hI
  have HE : Hid _ := new_err 153 (by decide)
  clear hI
  have hgm := hs.gm
  go_enter Tryd.func7, Tryd.ntmps7
  go_wp2_with fail
  refine (logged_any A w hs.four (by omega)).mono ?_
  rintro e w1 ⟨rfl, hb1⟩
  have s1 := hb1.size
  go_wp2_with fail
  refine (new_in 153 w1 (by decide)).mono ?_
  rintro e w2 ⟨rfl, hb2, hc2, hs2⟩
  have b2 := hb1.trans (hb2.mono s1)
  go_wp2_with fail
  refine (open_on A w1.heap.size _ w2 hc2 (hs.below b2).four HE.out).mono ?_
  rintro e w3 ⟨rb, v, rfl, hr3, hb3⟩
  rw [HO.out] at hr3
  have hlo := hr3.lo
  have ST0 : RcSt w w3 w1.heap.size rb v (.slice .none 0 0) [] (CSt.new 153) 0 :=
    ⟨⟨hr3.heap, hr3.recs.mono (by omega), hr3.sep, by omega⟩, hc2.below hb3, HI.out, rfl, ⟨by decide, by decide⟩, Nat.le_refl _, World.ownsRow_nil _ _ _ _, (fun b e => by cases e), by omega, s1, b2.trans (hb3.mono (by omega))⟩
  generalize hbc : w1.heap.size = bc at *
  clear HO HI HE hb1 hb2 hc2 hs2 b2 hr3 hb3 hbc
  go_wp2_with fail
  go_loopw [6, 7, 8] (fun rp dv i wr => ∃ (k rb : Nat) (v : Value) (D : List Rec) (s : CSt), k ≤ len ∧ i = .int .i64 k ∧ rp = .pointer (some ⟨rb, 0, .none⟩) ∧ RcSt w wr bc rb v dv D s k) (fun _ _ i _ => len - (intOf i).toNat)
  case atStart => exact ⟨0, rb, v, [], CSt.new 153, Nat.zero_le _, rfl, rfl, ST0⟩
  case round =>
    clear ST0
    obtain ⟨k, rb, v, D, s, hk, rfl, rfl, ST⟩ := hrel
    by_cases hlt : k < len
    · obtain rfl := hsa (by omega)
      have ha := hl.below ST.bel
      have c0 := ha.c0 k hlt
      have c1 := ha.c1 k hlt
      have c2 := ha.c2 k hlt
      have c3 := ha.c3 k hlt
      have c4 := ha.c4 k hlt
      have hck := hok k hlt
      have k0 : (0 : Int) ≤ (k : Int) := by omega
      have k1 : (k : Int) < (len : Int) := by omega
      clear ha
      generalize l k = a at *
      obtain ⟨sd, cd, rfl⟩ := ST.recs.len
      go_upto_region 15 with fail
      obtain ⟨W1, hW1, hb1, hz1', p0, p1, p2, p3⟩ := box5 wr a
      rw [hW1]
      have ST1 := ST.below hb1
      have hbe := ST1.bel
      have abl : wr.heap.size < W1.heap.size := by omega
      have abr : wr.heap.size ≠ rb := by have := ST.ring.lt; omega
      have abc : wr.heap.size ≠ bc := by have := ST.cells.lt; omega
      have HABV : Hid (v.ownBlock ≠ some wr.heap.size ∧ (Value.slice sd D.length cd).ownBlock ≠ some wr.heap.size ∧ wr.heap.size ≥ w.heap.size) := ⟨fun e => by have := (ST.ring.recs.lt _ e).2; omega, fun e => by have := (ST.recs.lt _ e).2; omega, ST.bel.size⟩
      generalize wr.heap.size = ab at *
      obtain ⟨ae, ak, at', ac, abt⟩ := a
      simp only [] at p0 p1 p2 p3 hck
      clear hW1 ST hb1 hz1' c0 c1 c2 c3 c4 k0 k1
      by_cases e1 : ae < 0
      · as_aux_lemma =>
          go_wp2
          go_ret
          exact ⟨rfl, hbe⟩
      by_cases e2 : 255 < ae
      · as_aux_lemma =>
          go_wp2
          go_ret
          exact ⟨rfl, hbe⟩
      by_cases e3 : ak < 0
      · as_aux_lemma =>
          go_wp2
          go_ret
          exact ⟨rfl, hbe⟩
      by_cases e4 : 255 < ak
      · as_aux_lemma =>
          go_wp2
          go_ret
          exact ⟨rfl, hbe⟩
      by_cases e5 : at' < 0
      · as_aux_lemma =>
          go_wp2
          go_ret
          exact ⟨rfl, hbe⟩
      by_cases e6 : 281474976710656 ≤ at'
      · as_aux_lemma =>
          go_wp2
          go_ret
          exact ⟨rfl, hbe⟩
      obtain ⟨n1, rfl⟩ := Int.eq_ofNat_of_zero_le (show 0 ≤ ae by omega)
      obtain ⟨n2, rfl⟩ := Int.eq_ofNat_of_zero_le (show 0 ≤ ak by omega)
      obtain ⟨n3, rfl⟩ := Int.eq_ofNat_of_zero_le (show 0 ≤ at' by omega)
      go_upto_region 17 with fail
      go_cut [94] (fun b wx => b = .bool false ∧ ∃ s', RcSt w wx bc rb v (.slice sd D.length cd) D s' k ∧ ab < wx.heap.size ∧ wx.cell? ⟨ab, 0, .none⟩ = some (.int .i64 (n1 : Int)) ∧ wx.cell? ⟨ab, 1, .none⟩ = some (.int .i64 (n2 : Int)) ∧ wx.cell? ⟨ab, 2, .none⟩ = some (.int .i64 (n3 : Int)))
      case first =>
        by_cases hc : 0 ≤ ac
        · obtain ⟨n4, rfl⟩ := Int.eq_ofNat_of_zero_le hc
          go_wp2_with fail
          refine (cut_on bc s n4 W1 ST1.cells ST1.off).mono ?_
          rintro e w2 ⟨rfl, hat2, hg2, hz2⟩
          go_wp2_with fail
          go_meet
          case rel => exact ⟨rfl, _, ST1.cutAt n4 (by omega) hat2 hg2, by omega, grown_cell' hg2 p0 abc, grown_cell' hg2 p1 abc, grown_cell' hg2 p2 abc⟩
        · go_wp2_with fail
          go_meet
          case rel => exact ⟨rfl, s, ST1, abl, p0, p1, p2⟩
      case rest =>
        clear ST1 p0 p1 p2 p3 abl hbe
        obtain ⟨rfl, s', ST2, abl, p0, p1, p2⟩ := hcut
        have hd := ST2.dlen
        have hk60 : k < 60 := by omega
        have f1 : n1 ≤ 255 := by omega
        have f2 : n2 ≤ 255 := by omega
        have f3 : n3 ≤ 281474976710655 := by omega
        have hgm2 : 12 ≤ bc := Nat.le_trans hgm ST2.lob
        have HAP : Hid _ := append_go A w.heap.size rb bc v (last8 D) s' n1 n2 n3 wc ST2.ring ST2.cells (hs.below ST2.bel).four (by omega) ST2.ne (ST2.low.mono (by omega)) (last8_len D) f1 f2 f3 (by rw [last8_last ST2.inv]; omega)
        have lsz := ST2.bel.size
        have hcl := ST2.cells.lt
        clear e1 e2 e3 e4 e5 e6 hck hl hok hsa
        go_wp2_with fail
        refine Calls.mono HAP.out ?_
        clear HAP
        rintro e w3 (⟨j, hj, rfl, R3, C3, O3⟩ | ⟨hj, rfl, ⟨v3, R3, K3⟩, C3, O3⟩)
        · have hj7 := put_err ST2.inv.big ST2.off _ j hj
          subst hj7
          have hbig := put_big ST2.inv.big ST2.off (nextR (last8 D) n1 n2 n3)
          have s3 := O3.size
          have b3 := ST2.bel3 O3
          have HAG : Hid _ := fun w4 w5 w6 rb' v' => ST2.again (w4 := w4) (w5 := w5) (w6 := w6) (rb' := rb') (v' := v') (n1 := n1) (n2 := n2) (n3 := n3) hk60 (by rw [hj]; decide) O3
          have HLS : Hid _ := last8_last ST2.inv
          have HSQ : Hid _ := ST2.inv.seq
          clear R3 O3 ST2 p0 p1 p2
          generalize (s'.putRec (nextR (last8 D) n1 n2 n3)).1 = s3' at *
          have HEO : Hid (({ s3' with off := false, cut := false, left := 0 } : CSt).err 0 153 = 0) := err_on ⟨hbig.len, hbig.size, hbig.top⟩ rfl
          have B4 := (Below.refl w3.heap.size w3).alloc (Nat.le_refl _) (.cells #[.int .i64 0, .int .i64 0, .int .i64 0, .int .i64 0] 64)
          have C4 := C3.below B4
          have EZ : Rec.none.val = .agg #[.int .i64 0, .int .i64 0, .int .i64 0, .int .i64 0] := rfl
          rw [EZ]
          clear EZ
          unfold errVal
          go_wp2_with fail
          refine (on_any bc _ _ C4).mono ?_
          rintro e w5 ⟨rfl, C5, G5, z5⟩
          have b5 := below_grown (b3.trans (B4.mono b3.size)) G5 (by simp; omega) (by omega)
          go_wp2_with fail
          refine (open_on A bc _ w5 C5 (hs.below b5).four HEO.out).mono ?_
          rintro e w6 ⟨rb6, v6, rfl, R6, B6⟩
          obtain ⟨-, ST6⟩ := HAG.out _ w5 w6 rb6 v6 B4 C5 G5 R6 B6
          clear HAG R6 C5 C4 C3 HEO hbig
          have s6 := ST6.bel.size
          go_wp2_with fail
          refine (coded_same A 8 w6 (hs.below ST6.bel) (by decide)).mono ?_
          rintro e w7 ⟨rfl, B7⟩
          have ST7 := ST6.below B7
          go_wp2_with fail
          refine (last_any w.heap.size rb6 bc v6 (last8 D) false w7 ST7.ring (by have := last8_len D; omega)).mono ?_
          rintro e w8 ⟨rfl, B8⟩
          have ST8 := ST7.below B8
          unfold Rec.val
          rw [HLS.out]
          obtain ⟨bb, hbb⟩ : ∃ bb, decide (0 < (last8 D).length) = bb := ⟨_, rfl⟩
          rw [hbb]
          clear hbb
          clear ST6 ST7 B7 B8 B6
          obtain ⟨W9, hW9⟩ : ∃ W9, w8.alloc (.cells #[.int .i64 (D.length : Int), .int .i64 ((lastR (last8 D)).ent : Int), .int .i64 ((lastR (last8 D)).kind : Int), .int .i64 ((lastR (last8 D)).tick : Int)] 64) = W9 := ⟨_, rfl⟩
          have B9 : Below w8.heap.size w8 W9 := by rw [← hW9]; exact (Below.refl _ _).alloc (Nat.le_refl _) _
          have c9 : W9.cell? ⟨w8.heap.size, 0, .none⟩ = some (.int .i64 (D.length : Int)) := by rw [← hW9]; exact World.cell?_alloc_at _ _ _ _ rfl
          have ST9 := ST8.below B9
          have hdlt : (D.length : Int) < 100 := by omega
          have HR9 : Hid _ := records_any w.heap.size rb6 bc v6 (last8 D) false W9 ST9.ring (by have := last8_len D; omega)
          have HNEQ : Hid (((D.length : Int) == (D.length : Int) + 1) = false) := by show _ = _; rw [beq_eq_false_iff_ne]; omega
          go_upto_region 28 with fail
          clear hW9 ST8 B9
          go_cut [144] (fun b wx => b = .bool false ∧ wx = W9)
          case first =>
            cases bb
            all_goals
              go_wp2_with fail
              go_meet
              case rel => first | exact ⟨rfl, rfl⟩ | exact ⟨congrArg Value.bool HNEQ.out, rfl⟩
          case rest =>
            obtain ⟨rfl, rfl⟩ := hcut
            go_wp2_with fail
            refine Calls.mono HR9.out ?_
            rintro e w10 ⟨v10, rfl, hr10, B10⟩
            have ST10 := ST9.below B10
            obtain ⟨sa10, c10, rfl⟩ := hr10.len
            have hrd := hr10.reads.1
            go_wp2_with fail
            refine (ends_any w.heap.size sa10 c10 _ _ D w10 hrd rfl ST10.recs (by omega) HSQ.out).mono ?_
            rintro e w11 ⟨rfl, B11⟩
            go_wp2_with fail
            go_roundw
            case rel => exact ⟨k + 1, rb6, v6, D, _, by omega, by go_num, rfl, ST10.below B11⟩
            case measure => simp [intOf]; omega
        · have hown3 : w3.ownsRow w.heap.size 64 4 (.slice sd D.length cd) D.length (recCells D) := ST2.dv3 O3
          have s3 := O3.size
          have AP := fun w4 w5 g' cp' => ST2.app (w4 := w4) (w5 := w5) (g := g') (cp := cp') hk60 f1 f2 f3 hj R3 K3 C3 O3
          have HAPP : Hid _ := AP
          clear AP R3 K3 C3 O3 ST2 p0 p1 p2
          generalize nextR (last8 D) n1 n2 n3 = x at *
          unfold Rec.val
          have X1 := RecAt.new w3 x 64
          obtain ⟨x0, x1, x2, x3⟩ := X1
          go_wp2_with (at_builtin; refine wpList_append_lies _ rfl (.tmp 108) (.tmp 110) 61 rfl w.heap.size 64 i0 (.agg #[.int .i64 0, .int .i64 0, .int .i64 0, .int .i64 0]) 4 32 Tryd.underlying61 hi hz0 hz1 hz2 rfl (by decide) (.slice sd D.length cd) D.length (recCells D) rfl ((hown3.alloc _).alloc _) ⟨w3.heap.size + 1, 0, .none⟩ 1 1 x.list rfl rfl (cell_four' _ _ _ _) (list_one x) (by decide) (by unfold maxLen; omega) (by omega) (by simp; omega) (w3.heap.size + 2) (by simp) ?_; intro g' cp' w5 hown5 hg5 hor5 hlt5)
          go_roundw
          case rel =>
            have B4 := ((Below.refl w3.heap.size w3).alloc (Nat.le_refl _) (.cells #[.int .i64 (x.seq : Int), .int .i64 (x.ent : Int), .int .i64 (x.kind : Int), .int .i64 (x.tick : Int)] 64)).alloc (by simp) (.cells #[.int .i64 (x.seq : Int), .int .i64 (x.ent : Int), .int .i64 (x.kind : Int), .int .i64 (x.tick : Int)] 64)
            have := HAPP.out _ w5 g' cp' B4 hown5 hg5 (by simpa using hor5)
            exact ⟨k + 1, rb, v3, _, _, by omega, by go_num, rfl, this⟩
          case measure => simp [intOf]; omega
    · have hd := ST.dlen
      have HR9 : Hid _ := records_any w.heap.size rb bc v (last8 D) false wr ST.ring (by have := last8_len D; omega)
      have HSQ : Hid _ := ST.inv.seq
      obtain ⟨sd, cd, rfl⟩ := ST.recs.len
      go_wp2_with fail
      refine Calls.mono HR9.out ?_
      rintro e w10 ⟨v10, rfl, hr10, B10⟩
      have ST10 := ST.below B10
      obtain ⟨sa10, c10, rfl⟩ := hr10.len
      have hrd := hr10.reads.1
      go_wp2_with fail
      refine (ends_any w.heap.size sa10 c10 _ _ D w10 hrd rfl ST10.recs (by omega) HSQ.out).mono ?_
      rintro e w11 ⟨rfl, B11⟩
      go_wp2
      go_ret
      exact ⟨rfl, (ST10.below B11).bel⟩
end Go.Proofs.YtebdepbnhemnpaaDoor
