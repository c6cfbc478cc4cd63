/-
  RingActs, walked: it answers yes. Conditions: the sentinels and the input lie in memory; at most sixty acts, on 153 to 300 bytes.
-/
import Derived.Test.YtebdepbnhemnpaaDoorRaSt
import Derived.Test.YtebdepbnhemnpaaDoorRingLogged
import Derived.Test.YtebdepbnhemnpaaDoorOrders
import Derived.Deep.DeepCutAuto
import Derived.Deep.RegionHeld3
namespace Go.Proofs.YtebdepbnhemnpaaDoor
open Go.RowKit Go.Extern.Stop Go.Stop Go.Extern

theorem ofText_open (l : List UInt8) (h : 153 ≤ l.length) : openL (CSt.ofText l).bytes = openL l := by
  unfold openL
  have : (CSt.ofText l).bytes.take 153 = l.take 153 := by
    show (l ++ zeros _).take 153 = _
    rw [List.take_append_of_le_length h]
  rw [this]
theorem box5a (w : World) (a : AppD) : ∃ W, w.alloc (.cells #[.int .i64 a.ent, .int .i64 a.kind, .int .i64 a.tick, .int .i64 a.cut, .bool a.boot] 72) = W ∧ Below w.heap.size w W ∧ W.heap.size = w.heap.size + 1 ∧ W.cell? ⟨w.heap.size, 0, .none⟩ = some (.int .i64 a.ent) ∧ W.cell? ⟨w.heap.size, 1, .none⟩ = some (.int .i64 a.kind) ∧ W.cell? ⟨w.heap.size, 2, .none⟩ = some (.int .i64 a.tick) ∧ W.cell? ⟨w.heap.size, 3, .none⟩ = some (.int .i64 a.cut) ∧ W.cell? ⟨w.heap.size, 4, .none⟩ = some (.bool a.boot) :=
  ⟨_, rfl, (Below.refl _ _).alloc (Nat.le_refl _) _, by simp, World.cell?_alloc_at _ _ _ _ rfl, World.cell?_alloc_at _ _ _ _ rfl, World.cell?_alloc_at _ _ _ _ rfl, World.cell?_alloc_at _ _ _ _ rfl, World.cell?_alloc_at _ _ _ _ rfl⟩
theorem RaSt.box {w wr W : World} {bc rb bm rm : Nat} {v vm : Value} {L : List Rec} {s : CSt} {m : MSt} {sp : Bool} {k : Nat} (h : RaSt w wr bc rb bm rm v vm L L s s m sp sp k) (a : AppD) (c0 : W.cell? ⟨wr.heap.size, 0, .none⟩ = some (.int .i64 a.ent)) (c1 : W.cell? ⟨wr.heap.size, 1, .none⟩ = some (.int .i64 a.kind)) (c2 : W.cell? ⟨wr.heap.size, 2, .none⟩ = some (.int .i64 a.tick)) (c3 : W.cell? ⟨wr.heap.size, 3, .none⟩ = some (.int .i64 a.cut)) (c4 : W.cell? ⟨wr.heap.size, 4, .none⟩ = some (.bool a.boot)) : RaBox W bc rb bm rm wr.heap.size v vm a := by
  have h1 := h.cells.lt
  have h2 := h.ring.lt
  have h3 := h.mod.lt
  have h4 := h.mring.lt
  exact ⟨c0, c1, c2, c3, c4, by omega, by omega, by omega, by omega, fun e => by have := (h.ring.recs.lt _ e).2; omega, fun e => by have := (h.mring.sl.lt _ e).2; omega⟩

/-- The rings are opened anew. -/
theorem RaSt.boot {w wx : World} {bc rb bm rm B1 B2 : Nat} {v vm : Value} {L : List Rec} {s : CSt} {m : MSt} {k : Nat}
    (hR : RingAt wx B1 rb bc v L false) (hM : MRingAt wx B2 rm bm vm L false) (hC : CellsAt wx bc s) (hD : ModAt wx bm m) (hS : Sim s m) (hb : Big s) (ho : s.off = false) (hlow : s.Low (18 * (61 - k))) (hl : L.length ≤ 8) (hq : (lastR L).seq ≤ 4294967295) (hsep : RaSep rb bc rm bm v vm) (h1 : w.heap.size ≤ B1) (h2 : w.heap.size ≤ B2) (lc : w.heap.size ≤ bc) (lm : w.heap.size ≤ bm) (bel : Below w.heap.size w wx) :
    RaSt w wx bc rb bm rm v vm L L s s m false false k :=
  ⟨⟨hR.heap, hR.recs.mono h1, hR.sep, Nat.le_trans h1 hR.lo⟩, ⟨hM.heap, hM.sl.mono h2, hM.sep, Nat.le_trans h2 hM.lo, hM.ne⟩, hC, hD, hS, hb, fun _ => ho, hlow, hl, hq, hsep, lc, lm, bel⟩
/-- A new ring of the document's. -/
theorem mring_new {w : World} {B bm : Nat} {v : Value} {L : List Rec} (h : Recs w B v L) (hb : B ≤ w.heap.size) (hm : bm < w.heap.size) (hv : bm < B) : MRingAt (w.alloc (.cells #[.pointer (some ⟨bm, 0, .none⟩), v, .bool false] 79)) B w.heap.size bm v L false := by
  have B1 := (Below.refl w.heap.size w).alloc (Nat.le_refl _) (.cells #[.pointer (some ⟨bm, 0, .none⟩), v, .bool false] 79)
  exact ⟨heap_alloc_new _ _, h.msl.below B1, ⟨fun e => by have := (h.lt _ e).2; omega, fun e => by have := (h.lt _ e).1; omega⟩, hb, by omega⟩

theorem RaSt.cut1 {w wr w3 : World} {bc rb bm rm : Nat} {v vm : Value} {L : List Rec} {s s2 : CSt} {m : MSt} {sp : Bool} {k : Nat} (h : RaSt w wr bc rb bm rm v vm L L s s m sp sp k) (hC : CellsAt w3 bc s2) (hg : wr.grownBy w3 (some bc)) (e : s2.bytes = s.bytes ∧ s2.size = s.size ∧ s2.off = s.off ∧ s2.written = s.written) (hl : s2.left ≤ 9223372036854775807) : RaSt w w3 bc rb bm rm v vm L L s2 s m sp sp k := by
  refine h.first (h.ring.off (Off.of_grown hg) h.sep.rbc (fun g e1 e2 => h.ring.sep.2 (by rw [e1, e2]))) hC ((Off.of_grown hg).mono (fun k _ e => Or.inl e)) (fun k e => Or.inl e) ⟨by rw [e.1]; exact h.big.len, by rw [e.2.1]; exact h.big.size, by rw [e.2.1]; exact h.big.top⟩ (fun q => by rw [e.2.2.1]; exact h.off q) ⟨by rw [e.2.2.2]; exact h.low.1, hl⟩ h.llen h.last
theorem RaSt.cut2 {w wr w3 : World} {bc rb bm rm : Nat} {v vm : Value} {L : List Rec} {s s2 : CSt} {m m' : MSt} {sp : Bool} {k : Nat} (h : RaSt w wr bc rb bm rm v vm L L s s2 m sp sp k) (hM : ModAt w3 bm m') (hS : Sim s m') (hg : wr.grownBy w3 (some bm)) : RaSt w w3 bc rb bm rm v vm L L s s m' sp sp k :=
  h.second (h.mring.off (Off.of_grown hg) h.mring.ne (fun g e1 e2 => h.mring.sep.2 (by rw [e1, e2]))) hM hS ((Off.of_grown hg).mono (fun k _ e => Or.inl e)) (fun k e => Or.inl e)
theorem RaBox.cut1 {wr w3 : World} {bc rb bm rm ab : Nat} {v vm : Value} {a : AppD} (h : RaBox wr bc rb bm rm ab v vm a) (hg : wr.grownBy w3 (some bc)) : RaBox w3 bc rb bm rm ab v vm a := h.off (Off.of_grown hg) h.n1 h.n5 h.n6
theorem RaBox.cut2 {wr w3 : World} {bc rb bm rm ab : Nat} {v vm : Value} {a : AppD} (h : RaBox wr bc rb bm rm ab v vm a) (hg : wr.grownBy w3 (some bm)) : RaBox w3 bc rb bm rm ab v vm a := h.off (Off.of_grown hg) h.n3 h.n5 h.n6
theorem RaBox.boot {wr wx : World} {bc rb bm rm ab rb' rm' : Nat} {v vm v' vm' : Value} {a : AppD} (h : RaBox wr bc rb bm rm ab v vm a) (hO : Off (fun k => k = bc ∨ k = bm) wr wx) (h2 : ab ≠ rb') (h4 : ab ≠ rm') (h5 : v'.ownBlock ≠ some ab) (h6 : vm'.ownBlock ≠ some ab) : RaBox wx bc rb' bm rm' ab v' vm' a := by
  have h3 := h.off (v' := v) (vm' := vm) hO (fun e => e.elim h.n1 h.n3) h.n5 h.n6
  exact ⟨h3.c0, h3.c1, h3.c2, h3.c3, h3.c4, h.n1, h2, h.n3, h4, h5, h6⟩
theorem err_boot {s : CSt} (h : Big s) : ({ s with off := false, cut := false, left := 0 } : CSt).err 0 153 = 0 := by
  have := h.size
  unfold CSt.err
  rw [if_neg (by show ¬ (_ ∨ _ ∨ (s.size : Int) - 0 < 153); omega)]; rfl

/-- What each operation of the statement that holds both against each other yields. -/
def raS (A : Nat → Addr) (j rb rm bc bm n cm : Nat) (sm : Option Addr) (T : ByteArray) (x : Rec) (L : List Rec) : Nat → Value → World → Prop
  | 0 => fun v _ => v = errVal A j
  | 1 => fun v _ => v = .int .i64 (j : Int)
  | 2 => fun v _ => v = .bool true
  | 3 => fun v _ => v = .bool false
  | 4 => fun v _ => v = .bool false
  | 5 => fun v _ => v = .agg #[.int .i64 (x.seq : Int), .int .i64 (x.ent : Int), .int .i64 (x.kind : Int), .int .i64 (x.tick : Int)]
  | 6 => fun v _ => v = .agg #[.int .i64 (x.seq : Int), .int .i64 (x.ent : Int), .int .i64 (x.kind : Int), .int .i64 (x.tick : Int)]
  | 7 => fun v _ => v = .bool false
  | 8 => fun v _ => v = .bool false
  | 9 => fun v _ => v = .bool false
  | 10 => fun v _ => v = .pointer (some ⟨rb, 0, .none⟩)
  | 11 => fun v w => ∃ sb cb, v = .slice sb n cb ∧ Reads w sb L
  | 12 => fun v _ => v = .pointer (some ⟨rm, 0, .none⟩)
  | 13 => fun v _ => v = .pointer (some ⟨rm, 0, .none⟩)
  | 14 => fun v _ => v = .pointer (some ⟨rm, 1, .none⟩)
  | 15 => fun v _ => v = .slice sm n cm
  | 16 => fun v _ => v = .bool true
  | 17 => fun v _ => v = .bool false
  | 18 => fun v _ => v = .bool false
  | 19 => fun v _ => v = .bool false
  | 20 => fun v _ => v = .pointer (some ⟨bc, 0, .none⟩)
  | 21 => fun v _ => v = .string T
  | 22 => fun v _ => v = .pointer (some ⟨bm, 0, .none⟩)
  | 23 => fun v _ => v = .pointer (some ⟨bm, 0, .none⟩)
  | 24 => fun v _ => v = .pointer (some ⟨bm, 0, .none⟩)
  | 25 => fun v _ => v = .string T
  | 26 => fun v _ => v = .bool false
  | 27 => fun v _ => v = .bool false
  | _ => fun _ _ => True
theorem raS_keeps {A : Nat → Addr} {j rb rm bc bm n cm : Nat} {sm : Option Addr} {T : ByteArray} {x : Rec} {L : List Rec} {w w' : World} (hb : Below w.heap.size w w') : ∀ i v, raS A j rb rm bc bm n cm sm T x L i v w → raS A j rb rm bc bm n cm sm T x L i v w' := by
  intro i v h
  match i, h with
  | 0, h => exact h
  | 1, h => exact h
  | 2, h => exact h
  | 3, h => exact h
  | 4, h => exact h
  | 5, h => exact h
  | 6, h => exact h
  | 7, h => exact h
  | 8, h => exact h
  | 9, h => exact h
  | 10, h => exact h
  | 11, h => exact ⟨h.choose, h.choose_spec.choose, h.choose_spec.choose_spec.1, h.choose_spec.choose_spec.2.below hb⟩
  | 12, h => exact h
  | 13, h => exact h
  | 14, h => exact h
  | 15, h => exact h
  | 16, h => exact h
  | 17, h => exact h
  | 18, h => exact h
  | 19, h => exact h
  | 20, h => exact h
  | 21, h => exact h
  | 22, h => exact h
  | 23, h => exact h
  | 24, h => exact h
  | 25, h => exact h
  | 26, h => exact h
  | 27, h => exact h
  | n + 28, h => exact h

set_option maxRecDepth 100000 in
set_option maxHeartbeats 8000000 in
theorem ringActs_in (A : Nat → Addr) (T : ByteArray) (sa : Option Addr) (g o len cap : Nat) (l : Nat → AppD) (w : World) (hs : Senv A w) (hT1 : 153 ≤ T.size) (hT2 : T.size ≤ 300) (hsa : 0 < len → sa = some ⟨g, o, .none⟩) (hl : AppsAt w g o len l) (h60 : len ≤ 60)
    (hok : ∀ i, i < len → (l i).cut ≤ 9223372036854775807) :
    Calls Tryd.prog 9 #[.string T, .slice sa len cap] w fun e w' => e = .returned (.bool true) ∧ Below w.heap.size w w' := by
  have g1 : ¬ 300 < (T.size : Int) := by omega
  have g2 : ¬ (T.size : Int) < 153 := by omega
  have g3 : ¬ 60 < (len : Int) := by omega
  have hgm := hs.gm
  have hTl : T.data.toList.length = T.size := by simp
  have HF : ∀ _ : Unit, openL (CSt.ofText T.data.toList).bytes = openL T.data.toList ∧ Big (CSt.ofText T.data.toList) ∧ Sim (CSt.ofText T.data.toList) ⟨T, false, 0, false, 0⟩ ∧ (CSt.ofText T.data.toList).err 0 153 = 0 ∧ (153 : Int) ≤ (T.size : Int) ∧ T.size ≤ 4096 := fun _ => by
    refine ⟨ofText_open T.data.toList (by rw [hTl]; exact hT1), ⟨(Sim.text T (by omega)).len, by show 153 ≤ T.data.toList.length; omega, (Sim.text T (by omega)).size⟩, Sim.text T (by omega), ?_, by omega, by omega⟩
    unfold CSt.err
    rw [if_neg (by show ¬ (_ ∨ _ ∨ (T.data.toList.length : Int) - 0 < 153); omega)]; rfl
  clear hT1 hT2 hTl
  go_enter Tryd.func9, Tryd.ntmps9
  go_wp2_with fail
  refine (logged_any A w hs.four (by omega)).mono ?_
  rintro e w1 ⟨rfl, hb1⟩
  have s1 := hb1.size
  go_upto_if 36 with fail
  have d1 : decide (300 < (T.size : Int)) = false := decide_eq_false (by omega)
  have d2 : decide ((T.size : Int) < 153) = false := decide_eq_false (by omega)
  have d3 : decide (60 < (len : Int)) = false := decide_eq_false (by omega)
  rw [d1, d2, d3]
  clear g1 g2 g3 d1 d2 d3
  go_wp2_with fail
  refine (from_in T w1 (HF ()).2.2.2.2.2).mono ?_
  rintro e w2 ⟨rfl, hb2, hc2⟩
  have b2 := hb1.trans (hb2.mono s1)
  go_wp2_with fail
  refine (open_on A w1.heap.size _ w2 hc2 (hs.below b2).four (HF ()).2.2.2.1).mono ?_
  rintro e w3 ⟨rb, v, rfl, hr3, hb3⟩
  rw [(HF ()).1] at hr3
  have b3 := b2.trans (hb3.mono b2.size)
  have c3 := hc2.below hb3
  have s2 := hc2.lt
  have hrl3 := hr3.recs.lt
  have s3 := hb3.size
  clear hb2 hc2
  go_upto_region 11 with fail
  obtain ⟨W4, hW4⟩ : ∃ W4, w3.alloc (.cells #[.string T, .bool false, .int .i64 0, .bool false, .int .i64 0] 50) = W4 := ⟨_, rfl⟩
  have B4 : Below w3.heap.size w3 W4 := by rw [← hW4]; exact (Below.refl _ _).alloc (Nat.le_refl _) _
  have M4 : ModAt W4 w3.heap.size ⟨T, false, 0, false, 0⟩ := by
    refine ⟨?_⟩
    rw [← hW4]
    exact heap_alloc_new _ _
  have s4 : W4.heap.size = w3.heap.size + 1 := by rw [← hW4]; simp
  rw [hW4]
  clear hW4
  have R4 := hr3.below B4
  have C4 := c3.below B4
  have b4 := b3.trans (B4.mono b3.size)
  have hlo4 := R4.lo
  have hl4 := hr3.lt
  have hc4 := c3.lt
  clear hr3 hb3 c3 hb1 b2
  go_wp2_with fail
  refine (recordsOf_any T W4 (HF ()).2.2.2.2.1).mono ?_
  rintro e w5 ⟨vm, rfl, hv5, hb5⟩
  have R5 := R4.below hb5
  have C5 := C4.below hb5
  have M5 := M4.below hb5
  have b5 := b4.trans (hb5.mono b4.size)
  have s5 := hb5.size
  have MR := mring_new (bm := w3.heap.size) hv5 s5 (by omega) (by omega)
  have B6 := (Below.refl w5.heap.size w5).alloc (Nat.le_refl _) (.cells #[.pointer (some ⟨w3.heap.size, 0, .none⟩), vm, .bool false] 79)
  have ST0 : RaSt w (w5.alloc (.cells #[.pointer (some ⟨w3.heap.size, 0, .none⟩), vm, .bool false] 79)) w1.heap.size rb w3.heap.size w5.heap.size v vm (openL T.data.toList) (openL T.data.toList) (CSt.ofText T.data.toList) (CSt.ofText T.data.toList) ⟨T, false, 0, false, 0⟩ false false 0 := by
    refine RaSt.boot (B1 := w2.heap.size) (B2 := W4.heap.size) (R5.below B6) MR (C5.below B6) (M5.below B6) (HF ()).2.2.1 (HF ()).2.1 rfl ⟨by show 0 + 18 * 61 ≤ _; omega, by show 0 ≤ _; omega⟩ (openL_eight _) (openL_last _) ⟨?_, ?_, ?_, ?_, ?_, ?_, ?_, ?_, ?_, ?_⟩ (by omega) (by omega) s1 (by omega) (b5.trans (B6.mono (by omega)))
    · omega
    · omega
    · omega
    · omega
    · omega
    · intro e; have := (hrl3 _ e).2; omega
    · intro e; have := (hrl3 _ e).2; omega
    · intro e; have := (hv5.lt _ e).1; omega
    · intro e; have := (hv5.lt _ e).1; omega
    · intro q e e2; have h1 := (R4.recs.lt _ e).2; have h2 := (hv5.lt _ e2).1; omega
  clear HF R4 C4 M4 R5 C5 M5 MR B6 b4 b5 b3 hb5 hrl3
  obtain ⟨sv, cv, rfl⟩ := hv5.len
  generalize hbm : w3.heap.size = bm at *
  generalize hbc : w1.heap.size = bc at *
  clear hbm hbc hv5
  go_upto_region 12 with fail
  generalize w5.alloc _ = W6 at *
  generalize w5.heap.size = rm at *
  go_cut [11] (fun i wx => i = .int .i64 0 ∧ wx = W6)
  case first =>
    go_wp2_with fail
    go_meet
    case rel => exact ⟨rfl, rfl⟩
  obtain ⟨rfl, rfl⟩ := hcut
  rename World => W6
  go_wp2_with fail
  go_loopw [8, 10, 11] (fun rp mp i wr => ∃ (k rb rm : Nat) (v vm : Value) (L : List Rec) (s : CSt) (m : MSt) (sp : Bool), k ≤ len ∧ i = .int .i64 k ∧ rp = .pointer (some ⟨rb, 0, .none⟩) ∧ mp = .pointer (some ⟨rm, 0, .none⟩) ∧ RaSt w wr bc rb bm rm v vm L L s s m sp sp k) (fun _ _ i _ => len - (intOf i).toNat)
  case atStart => exact ⟨0, _, _, _, _, _, _, _, _, Nat.zero_le _, rfl, rfl, rfl, ST0⟩
  case round =>
    clear ST0
    obtain ⟨k, rb, rm, v, vm, L, s, m, sp, hk, rfl, rfl, rfl, ST⟩ := hrel
    by_cases hlt : k < len
    · obtain rfl := hsa (by omega)
      have ha := hl.below ST.bel
      have c0 := ha.c0 k hlt
      have c1 := ha.c1 k hlt
      have c2 := ha.c2 k hlt
      have c3 := ha.c3 k hlt
      have c4 := ha.c4 k hlt
      have hck := hok k hlt
      have k0 : (0 : Int) ≤ (k : Int) := by omega
      have k1 : (k : Int) < (len : Int) := by omega
      have hk60 : k < 60 := by omega
      clear ha
      generalize l k = a at *
      go_upto_region 16 with fail
      obtain ⟨W1, hW1, hb1, hz1', p0, p1, p2, p3, p4⟩ := box5a wr a
      rw [hW1]
      have BX := ST.box a p0 p1 p2 p3 p4
      have ST1 := ST.below hb1
      generalize wr.heap.size = ab at *
      clear hW1 ST hb1 hz1' c0 c1 c2 c3 c4 k0 k1 p0 p1 p2 p3
      go_upto_if 79 with fail
      go_cut [8, 10] (fun rp mp wx => ∃ (rb rm : Nat) (v vm : Value) (L : List Rec) (s : CSt) (m : MSt) (sp : Bool), rp = .pointer (some ⟨rb, 0, .none⟩) ∧ mp = .pointer (some ⟨rm, 0, .none⟩) ∧ RaSt w wx bc rb bm rm v vm L L s s m sp sp k ∧ RaBox wx bc rb bm rm ab v vm a)
      case first =>
        clear p4 hok hl hsa
        cases hbt : a.boot
        · go_wp2_with fail
          all_goals
            go_meet
            case rel => exact ⟨rb, rm, v, vm, L, s, m, sp, rfl, rfl, ST1, BX⟩
        · have hcm : bc ≠ bm := ST1.sep.cbm
          have hablt := BX.lt
          have hbclt := ST1.cells.lt
          have hbmlt := ST1.mod.lt
          go_wp2_with fail
          refine (on_any bc s W1 ST1.cells).mono ?_
          rintro e w2 ⟨rfl, C2, G2, z2⟩
          have M2 := ST1.mod.other G2 (Ne.symm hcm)
          go_wp2_with fail
          refine (mon_any bm m w2 M2).mono ?_
          rintro e w3 ⟨rfl, M3, G3, z3⟩
          have C3 := C2.other G3 hcm
          have O3 : Off (fun k => k = bc ∨ k = bm) W1 w3 := ((Off.of_grown G2).mono (fun k _ e => Or.inl e)).trans (Off.of_grown G3) (fun k _ e => Or.inr e)
          have b3 : Below w.heap.size w w3 := Off.below ST1.bel O3 ST1.bel.size (fun i hi => by
            have h1 := ST1.lc
            have h2 := ST1.lm
            rcases hi with e | e <;> omega)
          have HE : Hid _ := err_boot ST1.big
          have hS3 := ST1.sim.on
          have hbig3 : Big ({ s with off := false, cut := false, left := 0 } : CSt) := ⟨ST1.big.len, ST1.big.size, ST1.big.top⟩
          have HF3 : ∀ _ : Unit, Sim { s with off := false, cut := false, left := 0 } { m with off := false, cuts := false } ∧ (153 : Int) ≤ (m.B.size : Int) ∧ openL m.B.data.toList = openL s.bytes := fun _ => ⟨hS3, by rw [ST1.sim.bsize]; have := ST1.big.size; omega, by rw [ST1.sim.b, openL_take _ _ ST1.big.size]⟩
          clear hS3
          go_wp2_with fail
          refine (open_on A bc _ w3 C3 (hs.below b3).four HE.out).mono ?_
          rintro e w4 ⟨rb4, v4, rfl, R4, hb4⟩
          have C4 := C3.below hb4
          have M4 := M3.below hb4
          have m0 := M4.c0
          have s4 := hb4.size
          go_wp2_with fail
          refine (recordsOf_any m.B w4 (HF3 ()).2.1).mono ?_
          rintro e w5 ⟨vm5, rfl, hv5, hb5⟩
          rw [(HF3 ()).2.2] at hv5
          have R4' : RingAt w4 w3.heap.size rb4 bc v4 (openL s.bytes) false := R4
          have s5 := hb5.size
          have l4 := R4'.lt
          have lo4 := R4'.lo
          have rl4 := R4'.recs.lt
          have vl5 := hv5.lt
          have o3 := O3.size
          have z3' : W1.heap.size = w3.heap.size := by omega
          have ss3 := b3.size
          have hlow3 : ({ s with off := false, cut := false, left := 0 } : CSt).Low (18 * (61 - k)) := ⟨ST1.low.1, by show 0 ≤ _; omega⟩
          have MR := mring_new (bm := bm) hv5 s5 (by omega) (by omega)
          have B6 := (Below.refl w5.heap.size w5).alloc (Nat.le_refl _) (.cells #[.pointer (some ⟨bm, 0, .none⟩), vm5, .bool false] 79)
          have b6 := (b3.trans (hb4.mono b3.size)).trans (hb5.mono (by omega))
          have ST6 : RaSt w (w5.alloc (.cells #[.pointer (some ⟨bm, 0, .none⟩), vm5, .bool false] 79)) bc rb4 bm w5.heap.size v4 vm5 (openL s.bytes) (openL s.bytes) { s with off := false, cut := false, left := 0 } { s with off := false, cut := false, left := 0 } { m with off := false, cuts := false } false false k := by
            refine RaSt.boot (B1 := w3.heap.size) (B2 := w4.heap.size) ((R4'.below hb5).below B6) MR ((C4.below hb5).below B6) ((M4.below hb5).below B6) (HF3 ()).1 hbig3 rfl hlow3 (openL_eight _) (openL_last _) ⟨?_, ?_, ?_, ?_, ?_, ?_, ?_, ?_, ?_, ?_⟩ ss3 (by omega) ST1.lc ST1.lm (b6.trans (B6.mono (by omega)))
            · omega
            · omega
            · omega
            · omega
            · omega
            · intro e; have := (rl4 _ e).1; omega
            · intro e; have := (rl4 _ e).2; omega
            · intro e; have := (vl5 _ e).1; omega
            · intro e; have := (vl5 _ e).1; omega
            · intro q e e2; have h1 := (rl4 _ e).2; have h2 := (vl5 _ e2).1; omega
          have BX6 : RaBox (w5.alloc (.cells #[.pointer (some ⟨bm, 0, .none⟩), vm5, .bool false] 79)) bc rb4 bm w5.heap.size ab v4 vm5 a :=
            BX.boot (O3.trans (Off.of_below ((hb4.trans (hb5.mono s4)).trans (B6.mono (by omega))) (fun _ => False)) (fun _ _ e => e.elim)) (by omega) (by omega) (fun e => by have := (rl4 _ e).1; omega) (fun e => by have := (vl5 _ e).1; omega)
          have HS6 : Hid _ := ST6
          have HB6 : Hid _ := BX6
          obtain ⟨sv5, cv5, rfl⟩ := hv5.len
          clear ST6 BX6 MR B6 b6 R4 R4' C4 M4 HF3 hlow3 hbig3 C3 M3 C2 M2 O3 m0
          go_wp2_with fail
          go_meet
          case rel => exact ⟨rb4, w5.heap.size, v4, _, _, _, _, false, rfl, rfl, HS6.out, HB6.out⟩
      clear ST1 BX p4
      obtain ⟨rb, rm, v, vm, L, s, m, sp, rfl, rfl, ST, BX⟩ := hcut
      rename World => W2
      go_upto_region 24 with fail
      go_cut [118] (fun b wx => b = .bool false ∧ ∃ (s : CSt) (m : MSt), RaSt w wx bc rb bm rm v vm L L s s m sp sp k ∧ RaBox wx bc rb bm rm ab v vm a)
      case first =>
        clear hok hl hsa
        have STd := ST.below (below_drewN (Below.refl W2.heap.size W2) 1)
        have BXd := BX.below (below_drewN (Below.refl W2.heap.size W2) 1)
        have q0 : W2.cell? ⟨ab, 3, .none⟩ = some (.int .i64 a.cut) := BX.c3
        by_cases hc : 0 ≤ a.cut
        · obtain ⟨s2, m2, j, hj, hS2, heq, hw1, hw2⟩ := two_cut A bc bm s m a.cut ST.sim hck
          have HC1 : Hid _ := hw1
          have HM1 : Hid _ := hw2
          have HS2 : Hid _ := hS2
          have HEQ : Hid _ := heq
          clear hw1 hw2 heq hS2
          go_region_held3 (fun w' => w'.cell? ⟨ab, 3, .none⟩ = some (.int .i64 a.cut)) (first | exact q0 | exact q6 | exact q7 | exact q8) (first | (go_at_call 19; refine Calls.mono (HC1.out _ STd.cells (hs.below STd.bel)) ?_; rintro e w6 ⟨rfl, C6, G6⟩; have ST6 := STd.cut1 C6 G6 HEQ.out HS2.out.bl; have BX6 := BXd.cut1 G6; have q6 := BX6.c3) | (go_at_call 28; refine Calls.mono (HM1.out _ ST6.mod) ?_; rintro e w7 ⟨rfl, M7, G7⟩; have ST7 := ST6.cut2 M7 HS2.out G7; have BX7 := BX6.cut2 G7; have q7 := BX7.c3) | (go_at_call 15; refine (coded_same A j _ (hs.below ST7.bel) hj).mono ?_; rintro e w8 ⟨rfl, hb8⟩; have ST8 := ST7.below hb8; have BX8 := BX7.below hb8; have q8 := BX8.c3))
          go_wp2_with fail
          go_meet
          case rel => exact ⟨rfl, s2, m2, ST8, BX8⟩
        · have dc : decide (0 ≤ a.cut) = false := decide_eq_false hc
          go_quiet (fail)
          go_wp2
          go_meet
          case rel => exact ⟨rfl, s, m, ST.below (below_drewN (Below.refl _ _) _), BX.below (below_drewN (Below.refl _ _) _)⟩
      clear ST BX
      obtain ⟨rfl, s, m, ST, BX⟩ := hcut
      rename World => W3
      obtain ⟨j, x, L2, s2, sp2, hj, hp1, hp2⟩ := two_append hs ST hk60 BX a.ent a.kind a.tick
      have HP1 : Hid _ := hp1
      have HP2 : Hid _ := hp2
      have q0 := BX.c0
      have q1 := BX.c1
      have q2 := BX.c2
      clear hp1 hp2 ST BX
      go_wp2_with fail
      refine Calls.mono HP1.out ?_
      rintro e w4 ⟨v4, rfl, ST4, BX4⟩
      clear q0 q1 q2 HP1
      unfold Rec.val
      go_upto_region 27 with fail
      obtain ⟨W5, hW5⟩ : ∃ W5, w4.alloc (.cells #[.int .i64 (x.seq : Int), .int .i64 (x.ent : Int), .int .i64 (x.kind : Int), .int .i64 (x.tick : Int)] 64) = W5 := ⟨_, rfl⟩
      have B5 : Below w4.heap.size w4 W5 := by rw [← hW5]; exact (Below.refl _ _).alloc (Nat.le_refl _) _
      have X5 : RecRow W5 w4.heap.size x := by
        refine ⟨?_⟩
        rw [← hW5]
        exact heap_alloc_new _ _
      rw [hW5]
      clear hW5
      have ST5 := ST4.below B5
      have BX5 := BX4.below B5
      have nb1 := ST4.mod.lt
      have nb2 := ST4.mring.lt
      have nb3 := ST4.mring.sl.lt
      have q0 := BX5.c0
      have q1 := BX5.c1
      have q2 := BX5.c2
      go_wp2_with fail
      refine Calls.mono (HP2.out _ _ ST5 BX5) ?_
      rintro e w6 ⟨vm6, m6, rfl, ST6, BX6, O6⟩
      have X6 := X5.off O6 (by
        rintro (e | e | e)
        · omega
        · omega
        · have := (nb3 _ e).2; omega)
      clear q0 q1 q2 HP2 ST5 BX5 ST4 BX4 O6 B5 X5 nb1 nb2 nb3
      generalize w4.heap.size = xb at *
      unfold Rec.val
      go_upto_region 28 with fail
      obtain ⟨W8, hW8⟩ : ∃ W8, w6.alloc (.cells #[.int .i64 (x.seq : Int), .int .i64 (x.ent : Int), .int .i64 (x.kind : Int), .int .i64 (x.tick : Int)] 64) = W8 := ⟨_, rfl⟩
      have B8 : Below w6.heap.size w6 W8 := by rw [← hW8]; exact (Below.refl _ _).alloc (Nat.le_refl _) _
      have Y8 : RecRow W8 w6.heap.size x := by
        refine ⟨?_⟩
        rw [← hW8]
        exact heap_alloc_new _ _
      rw [hW8]
      clear hW8
      have ST8 := ST6.below B8
      have X8 := X6.below B8 X6.lt
      clear ST6 BX6 X6
      generalize w6.heap.size = yb at *
      clear B8
      have HBy : Hid _ := ST8.sim.bytes
      obtain ⟨sm, cm, rfl⟩ := ST8.mring.sl.len
      have HRd : Hid (Reads W8 sm L2) := ⟨ST8.mring.sl.reads.2⟩
      have hl8 := ST8.llen
      have HRec : Hid (∀ w', RingAt w' w.heap.size rb bc v4 L2 sp2 → Calls Tryd.prog 37 #[.pointer (some ⟨rb, 0, .none⟩)] w' fun e w'' => ∃ sb cb, e = .returned (.slice sb L2.length cb) ∧ Reads w'' sb L2 ∧ Below w'.heap.size w' w'') := fun w' h => (records_any w.heap.size rb bc v4 L2 sp2 w' h (by omega)).mono fun e w'' ⟨v', he, hr, hb⟩ => by
        obtain ⟨sb, cb, rfl⟩ := hr.len
        exact ⟨sb, cb, he, hr.reads.1, hb⟩
      have HSame : Hid (∀ sb cb w', Reads w' sb L2 → Reads w' sm L2 → Calls Tryd.prog 36 #[.slice sb L2.length cb, .slice sm L2.length cm] w' fun e w'' => e = .returned (.bool true) ∧ Below w'.heap.size w' w'') := fun sb cb w' h1 h2 => same_any sb sm cb cm L2 w' h1 h2 (by omega)
      go_cut [168] (fun b wx => b = .bool false ∧ Below W8.heap.size W8 wx)
      case first =>
        clear hok hl hsa hck
        generalize hTe : m6.B = T6 at *
        generalize hne : L2.length = n at *
        refine region_spec 28 rfl (raS A j rb rm bc bm n cm sm T6 x L2) (fun w' => Below W8.heap.size W8 w') (by kernel_rfl) (by kernel_rfl) (Below.refl _ _).drew ?_ ?_
        · intro i o ho
          match i, ho with
          | 0, ho =>
            obtain rfl := Option.some.inj ho
            refine StepOk.free rfl ?_
            intro a w hC hdep hoth
            have x16 : a.tmps[16]?.getD undef = errVal A j := slot_of (hoth 16 (notDst (by kernel_rfl)))
            exact goodRun.val (c := errVal A j) (by clear hdep hoth; go_simp) hC rfl
          | 1, ho =>
            obtain rfl := Option.some.inj ho
            refine StepOk.free rfl ?_
            intro a w hC hdep hoth
            have x18 : a.tmps[18]?.getD undef = .int .i64 (j : Int) := slot_of (hoth 18 (notDst (by kernel_rfl)))
            exact goodRun.val (c := .int .i64 (j : Int)) (by clear hdep hoth; go_simp) hC rfl
          | 2, ho =>
            obtain rfl := Option.some.inj ho
            refine StepOk.free rfl ?_
            intro a w hC hdep hoth
            have x141 : a.tmps[141]?.getD undef = errVal A j := slot_of (hdep _ 141 (Array.mem_of_getElem? (i := 0) rfl) rfl rfl)
            have x142 : a.tmps[142]?.getD undef = .int .i64 (j : Int) := slot_of (hdep _ 142 (Array.mem_of_getElem? (i := 1) rfl) rfl rfl)
            refine goodRun.call (f := 15) (args := #[errVal A j, .int .i64 (j : Int)]) (by clear hdep hoth; go_simp) ?_
            refine (coded_same A j w (hs.below (ST8.below hC).bel) hj).mono ?_
            rintro e w' ⟨rfl, hb9⟩
            exact ⟨_, rfl, hC.trans (hb9.mono hC.size), raS_keeps hb9, rfl⟩
          | 3, ho =>
            obtain rfl := Option.some.inj ho
            refine StepOk.free rfl ?_
            intro a w hC hdep hoth
            have x143 : a.tmps[143]?.getD undef = .bool true := slot_of (hdep _ 143 (Array.mem_of_getElem? (i := 0) rfl) rfl rfl)
            exact goodRun.val (c := .bool false) (by clear hdep hoth; go_simp) hC rfl
          | 4, ho =>
            obtain rfl := Option.some.inj ho
            refine StepOk.free rfl ?_
            intro a w hC hdep hoth
            have x144 : a.tmps[144]?.getD undef = .bool false := slot_of (hdep _ 144 (Array.mem_of_getElem? (i := 0) rfl) rfl rfl)
            exact goodRun.val (c := .bool false) (by clear hdep hoth; go_simp) hC rfl
          | 5, ho =>
            obtain rfl := Option.some.inj ho
            refine StepOk.yes (g := 4) (d := 145) rfl rfl (fun a w hC hdep => hdep _ 145 (Array.mem_of_getElem? (i := 0) rfl) rfl rfl) ?_
            intro a w hC hdep hoth
            have x15 : a.tmps[15]?.getD undef = .pointer (some ⟨xb, 0, .none⟩) := slot_of (hoth 15 (notDst (by kernel_rfl)))
            obtain ⟨y0, y1, y2, y3⟩ := (X8.below hC X8.lt).at
            exact goodRun.val (c := .agg #[.int .i64 (x.seq : Int), .int .i64 (x.ent : Int), .int .i64 (x.kind : Int), .int .i64 (x.tick : Int)]) (by clear hdep hoth; go_simp) hC rfl
          | 6, ho =>
            obtain rfl := Option.some.inj ho
            refine StepOk.yes (g := 4) (d := 145) rfl rfl (fun a w hC hdep => hdep _ 145 (Array.mem_of_getElem? (i := 0) rfl) rfl rfl) ?_
            intro a w hC hdep hoth
            have x17 : a.tmps[17]?.getD undef = .pointer (some ⟨yb, 0, .none⟩) := slot_of (hoth 17 (notDst (by kernel_rfl)))
            obtain ⟨y0, y1, y2, y3⟩ := (Y8.below hC Y8.lt).at
            exact goodRun.val (c := .agg #[.int .i64 (x.seq : Int), .int .i64 (x.ent : Int), .int .i64 (x.kind : Int), .int .i64 (x.tick : Int)]) (by clear hdep hoth; go_simp) hC rfl
          | 7, ho =>
            obtain rfl := Option.some.inj ho
            refine StepOk.yes (g := 4) (d := 145) rfl rfl (fun a w hC hdep => hdep _ 145 (Array.mem_of_getElem? (i := 2) rfl) rfl rfl) ?_
            intro a w hC hdep hoth
            have x146 : a.tmps[146]?.getD undef = .agg #[.int .i64 (x.seq : Int), .int .i64 (x.ent : Int), .int .i64 (x.kind : Int), .int .i64 (x.tick : Int)] := slot_of (hdep _ 146 (Array.mem_of_getElem? (i := 0) rfl) rfl rfl)
            have x147 : a.tmps[147]?.getD undef = .agg #[.int .i64 (x.seq : Int), .int .i64 (x.ent : Int), .int .i64 (x.kind : Int), .int .i64 (x.tick : Int)] := slot_of (hdep _ 147 (Array.mem_of_getElem? (i := 1) rfl) rfl rfl)
            exact goodRun.val (c := .bool false) (by clear hdep hoth; go_simp) hC rfl
          | 8, ho =>
            obtain rfl := Option.some.inj ho
            refine StepOk.free rfl ?_
            intro a w hC hdep hoth
            have x145 : a.tmps[145]?.getD undef = .bool false := slot_of (hdep _ 145 (Array.mem_of_getElem? (i := 0) rfl) rfl rfl)
            have x148 : a.tmps[148]?.getD undef = .bool false := slot_of (hdep _ 148 (Array.mem_of_getElem? (i := 1) rfl) rfl rfl)
            exact goodRun.val (c := .bool false) (by clear hdep hoth; go_simp) hC rfl
          | 9, ho =>
            obtain rfl := Option.some.inj ho
            refine StepOk.free rfl ?_
            intro a w hC hdep hoth
            have x149 : a.tmps[149]?.getD undef = .bool false := slot_of (hdep _ 149 (Array.mem_of_getElem? (i := 0) rfl) rfl rfl)
            exact goodRun.val (c := .bool false) (by clear hdep hoth; go_simp) hC rfl
          | 10, ho =>
            obtain rfl := Option.some.inj ho
            refine StepOk.yes (g := 9) (d := 150) rfl rfl (fun a w hC hdep => hdep _ 150 (Array.mem_of_getElem? (i := 0) rfl) rfl rfl) ?_
            intro a w hC hdep hoth
            have x8 : a.tmps[8]?.getD undef = .pointer (some ⟨rb, 0, .none⟩) := slot_of (hoth 8 (notDst (by kernel_rfl)))
            exact goodRun.val (c := .pointer (some ⟨rb, 0, .none⟩)) (by clear hdep hoth; go_simp) hC rfl
          | 11, ho =>
            obtain rfl := Option.some.inj ho
            refine StepOk.yes (g := 9) (d := 150) rfl rfl (fun a w hC hdep => hdep _ 150 (Array.mem_of_getElem? (i := 1) rfl) rfl rfl) ?_
            intro a w hC hdep hoth
            have x151 : a.tmps[151]?.getD undef = .pointer (some ⟨rb, 0, .none⟩) := slot_of (hdep _ 151 (Array.mem_of_getElem? (i := 0) rfl) rfl rfl)
            refine goodRun.call (f := 37) (args := #[.pointer (some ⟨rb, 0, .none⟩)]) (by clear hdep hoth; go_simp) ?_
            refine Calls.mono (HRec.out w (ST8.below hC).ring) ?_
            rintro e w' ⟨sb, cb, rfl, r11, hb11⟩
            exact ⟨_, rfl, hC.trans (hb11.mono hC.size), raS_keeps hb11, sb, cb, rfl, r11⟩
          | 12, ho =>
            obtain rfl := Option.some.inj ho
            refine StepOk.yes (g := 9) (d := 150) rfl rfl (fun a w hC hdep => hdep _ 150 (Array.mem_of_getElem? (i := 0) rfl) rfl rfl) ?_
            intro a w hC hdep hoth
            have x10 : a.tmps[10]?.getD undef = .pointer (some ⟨rm, 0, .none⟩) := slot_of (hoth 10 (notDst (by kernel_rfl)))
            exact goodRun.val (c := .pointer (some ⟨rm, 0, .none⟩)) (by clear hdep hoth; go_simp) hC rfl
          | 13, ho =>
            obtain rfl := Option.some.inj ho
            refine StepOk.yes (g := 9) (d := 150) rfl rfl (fun a w hC hdep => hdep _ 150 (Array.mem_of_getElem? (i := 1) rfl) rfl rfl) ?_
            intro a w hC hdep hoth
            have x153 : a.tmps[153]?.getD undef = .pointer (some ⟨rm, 0, .none⟩) := slot_of (hdep _ 153 (Array.mem_of_getElem? (i := 0) rfl) rfl rfl)
            exact goodRun.val (c := .pointer (some ⟨rm, 0, .none⟩)) (by clear hdep hoth; go_simp) hC rfl
          | 14, ho =>
            obtain rfl := Option.some.inj ho
            refine StepOk.yes (g := 9) (d := 150) rfl rfl (fun a w hC hdep => hdep _ 150 (Array.mem_of_getElem? (i := 1) rfl) rfl rfl) ?_
            intro a w hC hdep hoth
            have x154 : a.tmps[154]?.getD undef = .pointer (some ⟨rm, 0, .none⟩) := slot_of (hdep _ 154 (Array.mem_of_getElem? (i := 0) rfl) rfl rfl)
            exact goodRun.val (c := .pointer (some ⟨rm, 1, .none⟩)) (by clear hdep hoth; go_simp) hC rfl
          | 15, ho =>
            obtain rfl := Option.some.inj ho
            refine StepOk.yes (g := 9) (d := 150) rfl rfl (fun a w hC hdep => hdep _ 150 (Array.mem_of_getElem? (i := 1) rfl) rfl rfl) ?_
            intro a w hC hdep hoth
            have x155 : a.tmps[155]?.getD undef = .pointer (some ⟨rm, 1, .none⟩) := slot_of (hdep _ 155 (Array.mem_of_getElem? (i := 0) rfl) rfl rfl)
            have y0 := (ST8.below hC).mring.c1
            exact goodRun.val (c := .slice sm n cm) (by clear hdep hoth; go_simp) hC rfl
          | 16, ho =>
            obtain rfl := Option.some.inj ho
            refine StepOk.yes (g := 9) (d := 150) rfl rfl (fun a w hC hdep => hdep _ 150 (Array.mem_of_getElem? (i := 3) rfl) rfl rfl) ?_
            intro a w hC hdep hoth
            obtain ⟨sb, cb, hv, hr⟩ := hdep _ 152 (Array.mem_of_getElem? (i := 0) rfl) rfl rfl
            have x152 := slot_of hv
            have x156 : a.tmps[156]?.getD undef = .slice sm n cm := slot_of (hdep _ 156 (Array.mem_of_getElem? (i := 1) rfl) rfl rfl)
            refine goodRun.call (f := 36) (args := #[.slice sb n cb, .slice sm n cm]) (by clear hdep hoth; go_simp) ?_
            refine Calls.mono (HSame.out sb cb w hr (HRd.out.below hC)) ?_
            rintro e w' ⟨rfl, hb9⟩
            exact ⟨_, rfl, hC.trans (hb9.mono hC.size), raS_keeps hb9, rfl⟩
          | 17, ho =>
            obtain rfl := Option.some.inj ho
            refine StepOk.yes (g := 9) (d := 150) rfl rfl (fun a w hC hdep => hdep _ 150 (Array.mem_of_getElem? (i := 1) rfl) rfl rfl) ?_
            intro a w hC hdep hoth
            have x157 : a.tmps[157]?.getD undef = .bool true := slot_of (hdep _ 157 (Array.mem_of_getElem? (i := 0) rfl) rfl rfl)
            exact goodRun.val (c := .bool false) (by clear hdep hoth; go_simp) hC rfl
          | 18, ho =>
            obtain rfl := Option.some.inj ho
            refine StepOk.free rfl ?_
            intro a w hC hdep hoth
            have x150 : a.tmps[150]?.getD undef = .bool false := slot_of (hdep _ 150 (Array.mem_of_getElem? (i := 0) rfl) rfl rfl)
            have x158 : a.tmps[158]?.getD undef = .bool false := slot_of (hdep _ 158 (Array.mem_of_getElem? (i := 1) rfl) rfl rfl)
            exact goodRun.val (c := .bool false) (by clear hdep hoth; go_simp) hC rfl
          | 19, ho =>
            obtain rfl := Option.some.inj ho
            refine StepOk.free rfl ?_
            intro a w hC hdep hoth
            have x159 : a.tmps[159]?.getD undef = .bool false := slot_of (hdep _ 159 (Array.mem_of_getElem? (i := 0) rfl) rfl rfl)
            exact goodRun.val (c := .bool false) (by clear hdep hoth; go_simp) hC rfl
          | 20, ho =>
            obtain rfl := Option.some.inj ho
            refine StepOk.yes (g := 19) (d := 160) rfl rfl (fun a w hC hdep => hdep _ 160 (Array.mem_of_getElem? (i := 0) rfl) rfl rfl) ?_
            intro a w hC hdep hoth
            have x6 : a.tmps[6]?.getD undef = .pointer (some ⟨bc, 0, .none⟩) := slot_of (hoth 6 (notDst (by kernel_rfl)))
            exact goodRun.val (c := .pointer (some ⟨bc, 0, .none⟩)) (by clear hdep hoth; go_simp) hC rfl
          | 21, ho =>
            obtain rfl := Option.some.inj ho
            refine StepOk.yes (g := 19) (d := 160) rfl rfl (fun a w hC hdep => hdep _ 160 (Array.mem_of_getElem? (i := 1) rfl) rfl rfl) ?_
            intro a w hC hdep hoth
            have x161 : a.tmps[161]?.getD undef = .pointer (some ⟨bc, 0, .none⟩) := slot_of (hdep _ 161 (Array.mem_of_getElem? (i := 0) rfl) rfl rfl)
            refine goodRun.call (f := 21) (args := #[.pointer (some ⟨bc, 0, .none⟩)]) (by clear hdep hoth; go_simp) ?_
            refine (bytes_to bc _ T6 w (ST8.below hC).cells HBy.out).mono ?_
            rintro e w' ⟨rfl, q9, rfl⟩
            exact ⟨_, rfl, below_drewN hC _, raS_keeps (below_drewN (Below.refl _ _) _), rfl⟩
          | 22, ho =>
            obtain rfl := Option.some.inj ho
            refine StepOk.yes (g := 19) (d := 160) rfl rfl (fun a w hC hdep => hdep _ 160 (Array.mem_of_getElem? (i := 0) rfl) rfl rfl) ?_
            intro a w hC hdep hoth
            have x9 : a.tmps[9]?.getD undef = .pointer (some ⟨bm, 0, .none⟩) := slot_of (hoth 9 (notDst (by kernel_rfl)))
            exact goodRun.val (c := .pointer (some ⟨bm, 0, .none⟩)) (by clear hdep hoth; go_simp) hC rfl
          | 23, ho =>
            obtain rfl := Option.some.inj ho
            refine StepOk.yes (g := 19) (d := 160) rfl rfl (fun a w hC hdep => hdep _ 160 (Array.mem_of_getElem? (i := 1) rfl) rfl rfl) ?_
            intro a w hC hdep hoth
            have x163 : a.tmps[163]?.getD undef = .pointer (some ⟨bm, 0, .none⟩) := slot_of (hdep _ 163 (Array.mem_of_getElem? (i := 0) rfl) rfl rfl)
            exact goodRun.val (c := .pointer (some ⟨bm, 0, .none⟩)) (by clear hdep hoth; go_simp) hC rfl
          | 24, ho =>
            obtain rfl := Option.some.inj ho
            refine StepOk.yes (g := 19) (d := 160) rfl rfl (fun a w hC hdep => hdep _ 160 (Array.mem_of_getElem? (i := 1) rfl) rfl rfl) ?_
            intro a w hC hdep hoth
            have x164 : a.tmps[164]?.getD undef = .pointer (some ⟨bm, 0, .none⟩) := slot_of (hdep _ 164 (Array.mem_of_getElem? (i := 0) rfl) rfl rfl)
            exact goodRun.val (c := .pointer (some ⟨bm, 0, .none⟩)) (by clear hdep hoth; go_simp) hC rfl
          | 25, ho =>
            obtain rfl := Option.some.inj ho
            refine StepOk.yes (g := 19) (d := 160) rfl rfl (fun a w hC hdep => hdep _ 160 (Array.mem_of_getElem? (i := 1) rfl) rfl rfl) ?_
            intro a w hC hdep hoth
            have x165 : a.tmps[165]?.getD undef = .pointer (some ⟨bm, 0, .none⟩) := slot_of (hdep _ 165 (Array.mem_of_getElem? (i := 0) rfl) rfl rfl)
            have y0 := (ST8.below hC).mod.c0
            exact goodRun.val (c := .string T6) (by clear hdep hoth; go_simp) hC rfl
          | 26, ho =>
            obtain rfl := Option.some.inj ho
            refine StepOk.yes (g := 19) (d := 160) rfl rfl (fun a w hC hdep => hdep _ 160 (Array.mem_of_getElem? (i := 2) rfl) rfl rfl) ?_
            intro a w hC hdep hoth
            have x162 : a.tmps[162]?.getD undef = .string T6 := slot_of (hdep _ 162 (Array.mem_of_getElem? (i := 0) rfl) rfl rfl)
            have x166 : a.tmps[166]?.getD undef = .string T6 := slot_of (hdep _ 166 (Array.mem_of_getElem? (i := 1) rfl) rfl rfl)
            exact goodRun.val (c := .bool false) (by clear hdep hoth; go_simp) hC rfl
          | 27, ho =>
            obtain rfl := Option.some.inj ho
            refine StepOk.free rfl ?_
            intro a w hC hdep hoth
            have x160 : a.tmps[160]?.getD undef = .bool false := slot_of (hdep _ 160 (Array.mem_of_getElem? (i := 0) rfl) rfl rfl)
            have x167 : a.tmps[167]?.getD undef = .bool false := slot_of (hdep _ 167 (Array.mem_of_getElem? (i := 1) rfl) rfl rfl)
            exact goodRun.val (c := .bool false) (by clear hdep hoth; go_simp) hC rfl
          | n + 28, ho => simp at ho
        · intro vals w9 hC hS
          have e168 : vals 27 = .bool false := hS 27 (by decide)
          clear hS
          simp only [fill, dstOf]
          go_simp
          go_wp2_with fail
          go_meet
          case rel => exact ⟨rfl, hC⟩
      obtain ⟨rfl, hb9⟩ := hcut
      have ST9 := ST8.below hb9
      clear HRec HSame HRd HBy X8 Y8 ST8 hb9
      go_wp2_with fail
      go_roundw
      case rel => exact ⟨k + 1, rb, rm, v4, _, L2, s2, m6, sp2, by omega, by go_num, rfl, rfl, ST9⟩
      case measure => simp [intOf]; omega
    · go_wp2
      go_ret
      exact ⟨rfl, ST.bel⟩
end Go.Proofs.YtebdepbnhemnpaaDoor
