/-
  nightwatchlaw2.TotalEnds within its bounds: true. Conditions: the list lies in memory; package total's End keeps its contract.
-/
import Derived.Test.YtgehlcmancdgcacDoorToSum
import Derived.Test.YtgehlcmancdgcacDoorToList
import Derived.Test.YtgehlcmancdgcacDoorTmEnd
import Derived.Test.YtgehlcmancdgcacDoorOrders2
namespace Go.Proofs.YtgehlcmancdgcacDoor
open Go.RowKit Go.Extern.Stop Go.Stop Go.Extern

section
variable {w0 w1 w w' : World} {b m k : Nat} {s s' s1 : TSt}
theorem stop_eq : ∀ n, n ≤ 3 → ((totB n).toList == [115, 116, 111, 112, 112, 101, 100]) = decide (n = 3)
  | 0, _ => by show ((⟨#[111, 107]⟩ : ByteArray).toList == _) = false; go_simp
  | 1, _ => by show ((⟨#[102, 97, 105, 108, 101, 100]⟩ : ByteArray).toList == _) = false; go_simp
  | 2, _ => by show ((⟨#[101, 120, 112, 105, 114, 101, 100]⟩ : ByteArray).toList == _) = false; go_simp
  | 3, _ => by show ((⟨#[115, 116, 111, 112, 112, 101, 100]⟩ : ByteArray).toList == _) = true; go_simp
  | n + 4, h => by omega
theorem TmIn.frTo (h : TmIn w0 w m s) (hf : FrTo w w') (hb : Below w0.heap.size w0 w') : TmIn w0 w' m s := ⟨hf _ _ _ _ h.heap (by decide), hb, h.lo⟩
/-- Both while the last statement of a round goes on. -/
structure TeC (w0 : World) (b m B : Nat) (s s1 : TSt) (kv : Value) (x : List ByteArray) (done : Nat → Bool) (w : World) : Prop where
  tot : ToIn w0 w b (if done 2 = true then s1 else s)
  tm : TmIn w0 w m s1
  own : done 2 = false → SlOwn encS 1 9 B w kv x
  dn : done 8 = true → done 2 = true
  dn17 : done 17 = true → done 2 = true
  dn10 : done 10 = true → done 2 = true
section
variable {B : Nat} {kv : Value} {x : List ByteArray} {done : Nat → Bool}
theorem teC_other {i : Nat} (done : Nat → Bool) (h : 2 ≠ i) (h8 : 8 ≠ i := by decide) (h17 : 17 ≠ i := by decide) (h10 : 10 ≠ i := by decide) : TeC w0 b m B s s1 kv x (mark done i) w = TeC w0 b m B s s1 kv x done w := by
  apply propext
  constructor
  · rintro ⟨h1, h2, h3, h4, h5, h6⟩
    rw [mark_other done h] at h1 h3 h4 h5 h6
    rw [mark_other done h8] at h4
    rw [mark_other done h17] at h5
    rw [mark_other done h10] at h6
    exact ⟨h1, h2, h3, h4, h5, h6⟩
  · rintro ⟨h1, h2, h3, h4, h5, h6⟩
    refine ⟨?_, h2, ?_, ?_, ?_, ?_⟩
    · rw [mark_other done h]; exact h1
    · rw [mark_other done h]; exact h3
    · rw [mark_other done h, mark_other done h8]; exact h4
    · rw [mark_other done h, mark_other done h17]; exact h5
    · rw [mark_other done h, mark_other done h10]; exact h6
theorem teC8 (h : TeC w0 b m B s s1 kv x done w) (hd : done 2 = true) : TeC w0 b m B s s1 kv x (mark done 8) w := by
  obtain ⟨h1, h2, h3, h4, h5, h6⟩ := h
  refine ⟨?_, h2, ?_, ?_, ?_, ?_⟩
  · rw [mark_other done (show 2 ≠ 8 by decide)]; exact h1
  · rw [mark_other done (show 2 ≠ 8 by decide)]; exact h3
  · rw [mark_other done (show 2 ≠ 8 by decide)]; exact fun _ => hd
  · rw [mark_other done (show 2 ≠ 8 by decide)]; exact fun _ => hd
  · rw [mark_other done (show 2 ≠ 8 by decide)]; exact fun _ => hd
theorem teC10 (h : TeC w0 b m B s s1 kv x done w) (hd : done 2 = true) : TeC w0 b m B s s1 kv x (mark done 10) w := by
  obtain ⟨h1, h2, h3, h4, h5, h6⟩ := h
  refine ⟨?_, h2, ?_, ?_, ?_, ?_⟩
  · rw [mark_other done (show 2 ≠ 10 by decide)]; exact h1
  · rw [mark_other done (show 2 ≠ 10 by decide)]; exact h3
  · rw [mark_other done (show 2 ≠ 10 by decide)]; exact fun _ => hd
  · rw [mark_other done (show 2 ≠ 10 by decide)]; exact fun _ => hd
  · rw [mark_other done (show 2 ≠ 10 by decide)]; exact fun _ => hd
theorem teC17 (h : TeC w0 b m B s s1 kv x done w) (hd : done 2 = true) : TeC w0 b m B s s1 kv x (mark done 17) w := by
  obtain ⟨h1, h2, h3, h4, h5, h6⟩ := h
  refine ⟨?_, h2, ?_, ?_, ?_, ?_⟩
  · rw [mark_other done (show 2 ≠ 17 by decide)]; exact h1
  · rw [mark_other done (show 2 ≠ 17 by decide)]; exact h3
  · rw [mark_other done (show 2 ≠ 17 by decide)]; exact fun _ => hd
  · rw [mark_other done (show 2 ≠ 17 by decide)]; exact fun _ => hd
  · rw [mark_other done (show 2 ≠ 17 by decide)]; exact fun _ => hd
theorem TeC.to0 (h : TeC w0 b m B s s1 kv x done w) (hd : done 2 = false) : ToIn w0 w b s := by have := h.tot; rw [if_neg (by rw [hd]; simp)] at this; exact this
theorem TeC.to1 (h : TeC w0 b m B s s1 kv x done w) (hd : done 2 = true) : ToIn w0 w b s1 := by have := h.tot; rw [if_pos hd] at this; exact this
theorem TeC.step (h : TeC w0 b m B s s1 kv x done w) (hto : ToIn w0 w' b s1) (hfr : FrTo w w') : TeC w0 b m B s s1 kv x (mark done 2) w' := by
  refine ⟨by rw [mark_same, if_pos rfl]; exact hto, h.tm.frTo hfr hto.bel, fun hd => (by rw [mark_same] at hd; cases hd), fun _ => mark_same done 2, fun _ => mark_same done 2, fun _ => mark_same done 2⟩
end
end
def tendK (X : ByteArray) (bt : Bool) (b m : Nat) (ka : Option Addr) (n kc : Nat) : Nat → Value → Prop
  | 0 => fun v => v = .pointer (some ⟨b, 0, none⟩)
  | 1 => fun v => v = .slice ka n kc
  | 2 => fun v => v = .string X
  | 3 => fun v => v = .pointer (some ⟨m, 0, none⟩)
  | 4 => fun v => v = .pointer (some ⟨m, 0, none⟩)
  | 5 => fun v => v = .pointer (some ⟨m, 2, none⟩)
  | 6 => fun v => v = .string X
  | 7 => fun v => v = .bool false
  | 8 => fun v => v = .bool false
  | 9 => fun v => v = .pointer (some ⟨b, 0, none⟩)
  | 10 => fun v => v = .string X
  | 11 => fun v => v = .pointer (some ⟨m, 0, none⟩)
  | 12 => fun v => v = .pointer (some ⟨m, 0, none⟩)
  | 13 => fun v => v = .pointer (some ⟨m, 2, none⟩)
  | 14 => fun v => v = .string X
  | 15 => fun v => v = .bool false
  | 16 => fun v => v = .bool false
  | 17 => fun v => v = .bool false
  | 18 => fun v => v = .pointer (some ⟨b, 0, none⟩)
  | 19 => fun v => v = .bool (!bt)
  | 20 => fun v => v = .pointer (some ⟨m, 0, none⟩)
  | 21 => fun v => v = .pointer (some ⟨m, 0, none⟩)
  | 22 => fun v => v = .pointer (some ⟨m, 2, none⟩)
  | 23 => fun v => v = .string X
  | 24 => fun v => v = .bool bt
  | 25 => fun v => v = .bool false
  | 26 => fun v => v = .bool false
  | _ => fun _ => True
theorem ow_form' {w : World} {B k n : Nat} {T : TypeId} {v : Value} {xs : List Value} (h : w.ownsRow B T k v n xs) : ∃ sa c, v = .slice sa n c := by
  rcases h.2 with ⟨rfl, rfl⟩ | ⟨g, cap, cur, rfl, _⟩
  · exact ⟨_, _, rfl⟩
  · exact ⟨_, _, rfl⟩
theorem ce_at' (w : World) (cs : List Value) (T : TypeId) : ∀ (j : Nat) u, cs[j]? = some u → (w.alloc (.cells cs.toArray T)).cell? ((⟨w.heap.size, 0, none⟩ : Addr).add j) = some u := by
  intro j u hu
  rw [addC_plain, World.cell?_alloc_at _ _ _ _ rfl]
  simpa using hu
theorem te_append {w0 w w' : World} {b m B n : Nat} {s : TSt} {T : TypeId} {o : Obj} {v : Value} {xs : List Value} (D : ToIn w0 w b s) (M : TmIn w0 w m s) (hO : w.ownsRow B T 1 v n xs) (hb : b < B) (hm : m < B) (hg : (w.alloc o).grownBy w' v.ownBlock) : ToIn w0 w' b s ∧ TmIn w0 w' m s ∧ w.heap.size ≤ w'.heap.size := by
  have D1 := D.below (Below.one w o)
  have M1 := M.below (Below.one w o)
  have hlt : ∀ k, v.ownBlock = some k → B ≤ k := fun k hk => (hO.lt k hk).1
  have hB : Below w0.heap.size w0 w' := D1.bel.grown hg D1.bel.size (fun k hk => by have h1 := hlt k hk; have h2 := D.lo; omega)
  refine ⟨⟨(hg.block b (lt_of_row D1.heap) (fun e => by have := hlt b e.symm; omega)).trans D1.heap, hB, D.lo⟩, ⟨(hg.block m (lt_of_row M1.heap) (fun e => by have := hlt m e.symm; omega)).trans M1.heap, hB, M.lo⟩, ?_⟩
  have := hg.size
  simp at this
  omega
theorem own_snoc {w : World} {B k : Nat} {v : Value} {x : List ByteArray} {y : ByteArray} (hy : x[k]? = some y) (h : w.ownsRow B 9 1 v (k + 1) ((x.take k).flatMap encS ++ [.string y])) : w.ownsRow B 9 1 v (k + 1) ((x.take (k + 1)).flatMap encS) := by
  have : (x.take (k + 1)).flatMap encS = (x.take k).flatMap encS ++ [.string y] := by rw [List.take_add_one, hy, List.flatMap_append]; rfl
  rw [this]
  exact h
set_option maxHeartbeats 8000000 in
set_option maxRecDepth 100000 in
theorem ends9_in (HE : ToEndC) (d : Nat) (sl : Option Addr) (ll : List (List ByteArray)) (slc : Nat) (w : World) (hd : d ≤ 20) (hn : ll.length ≤ 60) (hl : SlsAt w (.slice sl ll.length slc) ll) :
    Calls Tryd.prog 5 #[.int .i64 (d : Int), .slice sl ll.length slc] w fun v w' => v = .returned (.bool true) ∧ Below w.heap.size w w' := by
  have HH : Hid ToEndC := HE
  have HL : Hid (∀ V, Below w.heap.size w V → SlsAt V (.slice sl ll.length slc) ll) := fun V hV => hl.below hV
  obtain ⟨i0, hi0, hz0, hz1, hz2⟩ := info_parts Tryd.infoStr
  have g1 : ¬ (d : Int) < 0 := by omega
  have g2 : ¬ 20 < (d : Int) := by omega
  have g5 : ¬ 60 < (ll.length : Int) := by omega
  clear HE hl
  go_enter Tryd.func5, Tryd.ntmps5
  go_wp2_with fail
  refine (summed_any HH.out _).mono ?_
  rintro v W ⟨rfl, hb0⟩
  have HB0 : Hid (Below w.heap.size w W) := hb0
  clear hb0
  go_wp2_with fail
  refine (to_new d _ hd).mono ?_
  rintro v w1 ⟨b, rfl, hl⟩
  have D1 : ToIn w w1 b (TSt.new d) := hl.from HB0.out
  clear hl HB0
  go_wp2_with fail
  refine (to_status D1).mono ?_
  rintro v w1' ⟨rfl, rfl⟩
  rw [show totB (TSt.new d).st = ⟨#[111, 107]⟩ from rfl]
  go_upto_region 10 with fail
  obtain ⟨W2, hW2⟩ : ∃ V, V = w1'.alloc (.cells #[.int .i64 (d : Int), .int .i64 0, .string ⟨#[111, 107]⟩] 61) := ⟨_, rfl⟩
  rw [← hW2]
  obtain ⟨m, hm⟩ : ∃ m, m = w1'.heap.size := ⟨_, rfl⟩
  rw [← hm]
  have hb2 : Below w1'.heap.size w1' W2 := by rw [hW2]; exact Below.one _ _
  have D2 : ToIn w W2 b (TSt.new d) := D1.below hb2
  have M2 : TmIn w W2 m (TSt.new d) := ⟨by rw [hW2, hm]; exact heap_alloc_new _ _, D2.bel, by rw [hm]; exact D1.bel.size⟩
  clear hW2 hm hb2 D1
  go_cut [9] (fun v wx => v = .int .i64 0 ∧ wx = W2)
  case first =>
    go_wp2_with fail
    go_meet
    case rel => exact ⟨rfl, rfl⟩
  obtain ⟨rfl, rfl⟩ := hcut
  go_wp2_with fail
  go_loopw [9, 10, 11] (fun i _ _ wr => ∃ (k : Nat) (s : TSt), k ≤ ll.length ∧ i = .int .i64 k ∧ ToIn w wr b s ∧ TmIn w wr m s ∧ TFit s k) (fun i _ _ _ => ll.length - (intOf i).toNat)
  case atStart => exact ⟨0, TSt.new d, Nat.zero_le _, rfl, D2, M2, TFit.new hd⟩
  case round =>
    clear D2 M2
    obtain ⟨k, s, hk, rfl, D, M, hF⟩ := hrel
    have HF : Hid (TFit s k) := hF
    clear hF
    by_cases hlt : k < ll.length
    · have k1 : (k : Int) < (ll.length : Int) := by omega
      have k2 : k < 60 := by omega
      have HK : Hid (k < 60) := k2
      obtain ⟨x, hx⟩ : ∃ x, ll[k]? = some x := ⟨_, List.getElem?_eq_getElem hlt⟩
      obtain ⟨g, o, xa, xc, rfl, c0, hX⟩ := (HL.out wr D.bel).one hx
      have HC0 : Hid (∀ V, Below w.heap.size w V → V.cell? ⟨g, o + k, none⟩ = some (.slice xa x.length xc) ∧ SlAt encS 1 V (.slice xa x.length xc) x) := fun V hV => by
        obtain ⟨g', o', xa', xc', e1, c', hX'⟩ := (HL.out w (Below.refl _ _)).one hx
        cases e1
        have := (cell_below D.bel c').symm.trans c0
        simp only [Option.some.injEq, Value.slice.injEq] at this
        obtain ⟨rfl, -, rfl⟩ := this
        exact ⟨cell_below hV c', hX'.below hV⟩
      clear hX hx
      by_cases h20 : 20 < (x.length : Int)
      · go_wp2
        go_ret
        exact ⟨rfl, D.bel⟩
      have HXl : Hid (x.length ≤ 20) := by show _ ≤ _; omega
      clear c0
      have hcb := (HC0.out wr D.bel).1
      go_upto_region 16 with fail
      clear hcb
      go_cut [11] (fun v wx => v = .int .i64 0 ∧ wx = wr)
      case first =>
        go_wp2_with fail
        go_meet
        case rel => exact ⟨rfl, rfl⟩
      obtain ⟨rfl, rfl⟩ := hcut
      rename World => WR
      go_wp2_with fail
      go_loopw [10, 11] (fun kv i wr => ∃ j : Nat, j ≤ x.length ∧ i = .int .i64 j ∧ ToIn w wr b s ∧ TmIn w wr m s ∧ wr.ownsRow WR.heap.size 9 1 kv j ((x.take j).flatMap encS) ∧ WR.heap.size ≤ wr.heap.size) (fun _ i _ => x.length - (intOf i).toNat)
      case atStart => exact ⟨0, Nat.zero_le _, rfl, D, M, World.ownsRow_nil _ _ _ _, Nat.le_refl _⟩
      case round =>
        have hbB : b < WR.heap.size := lt_of_row D.heap
        have hmB : m < WR.heap.size := lt_of_row M.heap
        clear D M
        obtain ⟨j, hj, rfl, D, M, hO, hOz⟩ := hrel
        obtain ⟨ka, kc, rfl⟩ := ow_form' hO
        obtain ⟨c0, hX⟩ := HC0.out wr D.bel
        by_cases hjl : j < x.length
        · have j1 : (j : Int) < (x.length : Int) := by omega
          have j2 : j < 20 := by have := HXl.out; omega
          obtain ⟨y, hy⟩ : ∃ y, x[j]? = some y := ⟨_, List.getElem?_eq_getElem hjl⟩
          obtain ⟨g2, o2, rfl, hcy⟩ := slatS_cell hX hy
          have cy := hcy j y hy
          clear hcy hX
          by_cases h60 : 60 < (y.size : Int)
          · go_wp2
            go_ret
            exact ⟨rfl, D.bel⟩
          have HD : Hid (ToIn w wr b s ∧ TmIn w wr m s) := ⟨D, M⟩
          have hWz : WR.heap.size ≤ wr.heap.size := hOz
          go_wp2_with (at_builtin; refine wpList_append_own _ rfl _ _ 22 rfl WR.heap.size 9 i0 (.string ⟨#[]⟩) 1 16 Tryd.underlying22 hi0 hz0 hz1 hz2 rfl (by decide) (.slice ka j kc) j ((x.take j).flatMap encS) rfl (hO.alloc _) ⟨wr.heap.size, 0, none⟩ 1 1 [.string y] rfl rfl (ce_at' wr [.string y] 9) (fun u hu => by rw [List.mem_singleton] at hu; subst hu; rfl) (by unfold maxLen; omega) (by omega) (by simp; omega) ?_; intro v' w12 hown hg hn; obtain ⟨va', vc', rfl⟩ := ow_form' hown; have D4 := te_append HD.out.1 HD.out.2 hO hbB hmB hg; have hO4 := own_snoc hy hown)
          clear hown hg hn hO HD D M
          go_roundw
          case rel => exact ⟨j + 1, by omega, by go_num, D4.1, D4.2.1, hO4, Nat.le_trans hWz D4.2.2⟩
          case measure => simp [intOf]; omega
        · have j1 : ¬ (j : Int) < (x.length : Int) := by omega
          obtain rfl : j = x.length := by omega
          rw [List.take_length] at hO
          have HO : Hid (SlOwn encS 1 9 WR.heap.size wr (.slice ka x.length kc) x) := hO
          have HD : Hid (ToIn w wr b s) := D
          have HBm : Hid (b < WR.heap.size ∧ m < WR.heap.size) := ⟨hbB, hmB⟩
          clear hO hX
          go_wp2_with fail
          refine (tm_end x xa xc M HF.out (by have := HK.out; omega) (fun V hV => (HC0.out V (M.bel.grown hV M.bel.size (fun i hi => by cases hi; exact M.lo))).2) (by have := HXl.out; omega)).mono ?_
          rintro v w5 ⟨rfl, M5, hg5⟩
          have D5 : ToIn w w5 b s := HD.out.other hg5 M.heap (by decide) M5.bel
          have hO5 : SlOwn encS 1 9 WR.heap.size w5 (.slice ka x.length kc) x := World.ownsRow.kept HO.out hg5 (Or.inr (fun e => by have h1 := (HO.out.lt m e).1; have h2 := HBm.out.2; omega))
          have HNe : Hid ((Value.slice ka x.length kc).ownBlock ≠ some b) := fun e => by have h1 := (HO.out.lt b e).1; have h2 := HBm.out.1; omega
          obtain ⟨X, hX⟩ : ∃ X, X = totB (s.fin x).st := ⟨_, rfl⟩
          have HX : Hid (totB (s.fin x).st = X) := hX.symm
          obtain ⟨bt, hbt⟩ : ∃ bt : Bool, bt = decide ((s.fin x).st = 3) := ⟨_, rfl⟩
          have HSl : Hid ((s.fin x).st ≤ 3) := (HF.out.fin x).st
          have HSt : Hid ((X.toList == [115, 116, 111, 112, 112, 101, 100]) = bt) := by show _ = _; rw [hX, hbt]; exact stop_eq _ HSl.out
          have HBt : Hid (decide ((s.fin x).st ≠ 3) = !bt) := by show _ = _; rw [hbt]; by_cases h : (s.fin x).st = 3 <;> simp [h]
          have HC5 : Hid (ToIn w w5 b s ∧ TmIn w w5 m (s.fin x) ∧ SlOwn encS 1 9 WR.heap.size w5 (.slice ka x.length kc) x) := ⟨D5, M5, hO5⟩
          clear D M D5 M5 hO5 hg5 HO HD hX hbt c0
          go_wp2_with fail
          refine region_spec2 27 rfl (fun j v _ => tendK X bt b m ka x.length kc j v) (TeC w b m WR.heap.size s (s.fin x) (.slice ka x.length kc) x) (by kernel_rfl) (by kernel_rfl) ⟨HC5.out.1.below (Below.refl _ _).drew, HC5.out.2.1.below (Below.refl _ _).drew, fun _ => HC5.out.2.2.below (Below.refl _ _).drew, fun z => Bool.noConfusion z, fun z => Bool.noConfusion z, fun z => Bool.noConfusion z⟩ ?_ ?_
          · intro i o ho
            match i, ho with
            | 0, ho =>
              obtain rfl := Option.some.inj ho
              refine StepOk2.free rfl ?_
              intro done a V hC hdn hdo hdep hoth
              have x6 : a.tmps[6]?.getD undef = .pointer (some ⟨b, 0, none⟩) := slot_of (hoth 6 (notDst (by kernel_rfl)))
              exact goodRun2.val (c := .pointer (some ⟨b, 0, none⟩)) (by clear hdep hoth hdo hC; go_simp) (by rw [teC_other done (show 2 ≠ 0 by decide)]; exact hC) rfl
            | 1, ho =>
              obtain rfl := Option.some.inj ho
              refine StepOk2.free rfl ?_
              intro done a V hC hdn hdo hdep hoth
              have x10 : a.tmps[10]?.getD undef = .slice ka x.length kc := slot_of (hoth 10 (notDst (by kernel_rfl)))
              exact goodRun2.val (c := .slice ka x.length kc) (by clear hdep hoth hdo hC; go_simp) (by rw [teC_other done (show 2 ≠ 1 by decide)]; exact hC) rfl
            | 2, ho =>
              obtain rfl := Option.some.inj ho
              refine StepOk2.free rfl ?_
              intro done a V hC hdn hdo hdep hoth
              have x98 : a.tmps[98]?.getD undef = .pointer (some ⟨b, 0, none⟩) := slot_of (hdep _ 98 (Array.mem_of_getElem? (i := 0) rfl) rfl rfl)
              have x99 : a.tmps[99]?.getD undef = .slice ka x.length kc := slot_of (hdep _ 99 (Array.mem_of_getElem? (i := 1) rfl) rfl rfl)
              refine goodRun2.call (f := 25) (args := #[.pointer (some ⟨b, 0, none⟩), .slice ka x.length kc]) (by clear hdep hoth hdo hC; go_simp) ?_
              have h2 := hC.own hdn
              refine (to_end_to HH.out (l := x) (hC.to0 hdn) HF.out (by have := HK.out; omega) (own_slat h2 (fun _ => rfl) HNe.out) (by have := HXl.out; omega) rfl HX.out).mono ?_
              rintro v w4 ⟨rfl, hto, hfr⟩
              exact ⟨_, rfl, hC.step hto hfr, fun _ _ _ h => h, rfl⟩
            | 3, ho =>
              obtain rfl := Option.some.inj ho
              refine StepOk2.free rfl ?_
              intro done a V hC hdn hdo hdep hoth
              have x8 : a.tmps[8]?.getD undef = .pointer (some ⟨m, 0, none⟩) := slot_of (hoth 8 (notDst (by kernel_rfl)))
              exact goodRun2.val (c := .pointer (some ⟨m, 0, none⟩)) (by clear hdep hoth hdo hC; go_simp) (by rw [teC_other done (show 2 ≠ 3 by decide)]; exact hC) rfl
            | 4, ho =>
              obtain rfl := Option.some.inj ho
              refine StepOk2.free rfl ?_
              intro done a V hC hdn hdo hdep hoth
              have x101 : a.tmps[101]?.getD undef = .pointer (some ⟨m, 0, none⟩) := slot_of (hdep _ 101 (Array.mem_of_getElem? (i := 0) rfl) rfl rfl)
              exact goodRun2.val (c := .pointer (some ⟨m, 0, none⟩)) (by clear hdep hoth hdo hC; go_simp) (by rw [teC_other done (show 2 ≠ 4 by decide)]; exact hC) rfl
            | 5, ho =>
              obtain rfl := Option.some.inj ho
              refine StepOk2.free rfl ?_
              intro done a V hC hdn hdo hdep hoth
              have x102 : a.tmps[102]?.getD undef = .pointer (some ⟨m, 0, none⟩) := slot_of (hdep _ 102 (Array.mem_of_getElem? (i := 0) rfl) rfl rfl)
              exact goodRun2.val (c := .pointer (some ⟨m, 2, none⟩)) (by clear hdep hoth hdo hC; go_simp) (by rw [teC_other done (show 2 ≠ 5 by decide)]; exact hC) rfl
            | 6, ho =>
              obtain rfl := Option.some.inj ho
              refine StepOk2.free rfl ?_
              intro done a V hC hdn hdo hdep hoth
              have x103 : a.tmps[103]?.getD undef = .pointer (some ⟨m, 2, none⟩) := slot_of (hdep _ 103 (Array.mem_of_getElem? (i := 0) rfl) rfl rfl)
              have c2 : V.cell? ⟨m, 2, none⟩ = some (.string X) := by have := hC.tm.heap; rw [← HX.out]; simp [World.cell?, this, tmRow]
              exact goodRun2.val (c := .string X) (by clear hdep hoth hdo hC; go_simp) (by rw [teC_other done (show 2 ≠ 6 by decide)]; exact hC) rfl
            | 7, ho =>
              obtain rfl := Option.some.inj ho
              refine StepOk2.free rfl ?_
              intro done a V hC hdn hdo hdep hoth
              have x100 : a.tmps[100]?.getD undef = .string X := slot_of (hdep _ 100 (Array.mem_of_getElem? (i := 0) rfl) rfl rfl)
              have x104 : a.tmps[104]?.getD undef = .string X := slot_of (hdep _ 104 (Array.mem_of_getElem? (i := 1) rfl) rfl rfl)
              exact goodRun2.val (c := .bool false) (by clear hdep hoth hdo hC; go_simp) (by rw [teC_other done (show 2 ≠ 7 by decide)]; exact hC) rfl
            | 8, ho =>
              obtain rfl := Option.some.inj ho
              refine StepOk2.free rfl ?_
              intro done a V hC hdn hdo hdep hoth
              have x105 : a.tmps[105]?.getD undef = .bool false := slot_of (hdep _ 105 (Array.mem_of_getElem? (i := 0) rfl) rfl rfl)
              exact goodRun2.val (c := .bool false) (by clear hdep hoth hdo hC; go_simp) (teC8 hC (hdo _ (Array.mem_of_getElem? (i := 1) rfl) rfl)) rfl
            | 9, ho =>
              obtain rfl := Option.some.inj ho
              refine StepOk2.yes (g := 8) (d := 106) rfl rfl (fun done a w hC hdep => hdep _ 106 (Array.mem_of_getElem? (i := 0) rfl) rfl rfl) ?_
              intro done a V hC hdn hdo hdep hoth
              have x6 : a.tmps[6]?.getD undef = .pointer (some ⟨b, 0, none⟩) := slot_of (hoth 6 (notDst (by kernel_rfl)))
              exact goodRun2.val (c := .pointer (some ⟨b, 0, none⟩)) (by clear hdep hoth hdo hC; go_simp) (by rw [teC_other done (show 2 ≠ 9 by decide)]; exact hC) rfl
            | 10, ho =>
              obtain rfl := Option.some.inj ho
              refine StepOk2.yes (g := 8) (d := 106) rfl rfl (fun done a w hC hdep => hdep _ 106 (Array.mem_of_getElem? (i := 1) rfl) rfl rfl) ?_
              intro done a V hC hdn hdo hdep hoth
              have x107 : a.tmps[107]?.getD undef = .pointer (some ⟨b, 0, none⟩) := slot_of (hdep _ 107 (Array.mem_of_getElem? (i := 0) rfl) rfl rfl)
              refine goodRun2.call (f := 27) (args := #[.pointer (some ⟨b, 0, none⟩)]) (by clear hdep hoth hdo hC; go_simp) ?_
              have hd2 : done 2 = true := hC.dn (hdo _ (Array.mem_of_getElem? (i := 1) rfl) rfl)
              refine (to_status (hC.to1 hd2)).mono ?_
              rintro v w4 ⟨rfl, rfl⟩
              rw [HX.out]
              exact ⟨_, rfl, teC10 hC hd2, fun _ _ _ h => h, rfl⟩
            | 11, ho =>
              obtain rfl := Option.some.inj ho
              refine StepOk2.yes (g := 8) (d := 106) rfl rfl (fun done a w hC hdep => hdep _ 106 (Array.mem_of_getElem? (i := 0) rfl) rfl rfl) ?_
              intro done a V hC hdn hdo hdep hoth
              have x8 : a.tmps[8]?.getD undef = .pointer (some ⟨m, 0, none⟩) := slot_of (hoth 8 (notDst (by kernel_rfl)))
              exact goodRun2.val (c := .pointer (some ⟨m, 0, none⟩)) (by clear hdep hoth hdo hC; go_simp) (by rw [teC_other done (show 2 ≠ 11 by decide)]; exact hC) rfl
            | 12, ho =>
              obtain rfl := Option.some.inj ho
              refine StepOk2.yes (g := 8) (d := 106) rfl rfl (fun done a w hC hdep => hdep _ 106 (Array.mem_of_getElem? (i := 1) rfl) rfl rfl) ?_
              intro done a V hC hdn hdo hdep hoth
              have x109 : a.tmps[109]?.getD undef = .pointer (some ⟨m, 0, none⟩) := slot_of (hdep _ 109 (Array.mem_of_getElem? (i := 0) rfl) rfl rfl)
              exact goodRun2.val (c := .pointer (some ⟨m, 0, none⟩)) (by clear hdep hoth hdo hC; go_simp) (by rw [teC_other done (show 2 ≠ 12 by decide)]; exact hC) rfl
            | 13, ho =>
              obtain rfl := Option.some.inj ho
              refine StepOk2.yes (g := 8) (d := 106) rfl rfl (fun done a w hC hdep => hdep _ 106 (Array.mem_of_getElem? (i := 1) rfl) rfl rfl) ?_
              intro done a V hC hdn hdo hdep hoth
              have x110 : a.tmps[110]?.getD undef = .pointer (some ⟨m, 0, none⟩) := slot_of (hdep _ 110 (Array.mem_of_getElem? (i := 0) rfl) rfl rfl)
              exact goodRun2.val (c := .pointer (some ⟨m, 2, none⟩)) (by clear hdep hoth hdo hC; go_simp) (by rw [teC_other done (show 2 ≠ 13 by decide)]; exact hC) rfl
            | 14, ho =>
              obtain rfl := Option.some.inj ho
              refine StepOk2.yes (g := 8) (d := 106) rfl rfl (fun done a w hC hdep => hdep _ 106 (Array.mem_of_getElem? (i := 1) rfl) rfl rfl) ?_
              intro done a V hC hdn hdo hdep hoth
              have x111 : a.tmps[111]?.getD undef = .pointer (some ⟨m, 2, none⟩) := slot_of (hdep _ 111 (Array.mem_of_getElem? (i := 0) rfl) rfl rfl)
              have c2 : V.cell? ⟨m, 2, none⟩ = some (.string X) := by have := hC.tm.heap; rw [← HX.out]; simp [World.cell?, this, tmRow]
              exact goodRun2.val (c := .string X) (by clear hdep hoth hdo hC; go_simp) (by rw [teC_other done (show 2 ≠ 14 by decide)]; exact hC) rfl
            | 15, ho =>
              obtain rfl := Option.some.inj ho
              refine StepOk2.yes (g := 8) (d := 106) rfl rfl (fun done a w hC hdep => hdep _ 106 (Array.mem_of_getElem? (i := 2) rfl) rfl rfl) ?_
              intro done a V hC hdn hdo hdep hoth
              have x108 : a.tmps[108]?.getD undef = .string X := slot_of (hdep _ 108 (Array.mem_of_getElem? (i := 0) rfl) rfl rfl)
              have x112 : a.tmps[112]?.getD undef = .string X := slot_of (hdep _ 112 (Array.mem_of_getElem? (i := 1) rfl) rfl rfl)
              exact goodRun2.val (c := .bool false) (by clear hdep hoth hdo hC; go_simp) (by rw [teC_other done (show 2 ≠ 15 by decide)]; exact hC) rfl
            | 16, ho =>
              obtain rfl := Option.some.inj ho
              refine StepOk2.free rfl ?_
              intro done a V hC hdn hdo hdep hoth
              have x106 : a.tmps[106]?.getD undef = .bool false := slot_of (hdep _ 106 (Array.mem_of_getElem? (i := 0) rfl) rfl rfl)
              have x113 : a.tmps[113]?.getD undef = .bool false := slot_of (hdep _ 113 (Array.mem_of_getElem? (i := 1) rfl) rfl rfl)
              exact goodRun2.val (c := .bool false) (by clear hdep hoth hdo hC; go_simp) (by rw [teC_other done (show 2 ≠ 16 by decide)]; exact hC) rfl
            | 17, ho =>
              obtain rfl := Option.some.inj ho
              refine StepOk2.free rfl ?_
              intro done a V hC hdn hdo hdep hoth
              have x114 : a.tmps[114]?.getD undef = .bool false := slot_of (hdep _ 114 (Array.mem_of_getElem? (i := 0) rfl) rfl rfl)
              exact goodRun2.val (c := .bool false) (by clear hdep hoth hdo hC; go_simp) (teC17 hC (hC.dn10 (hdo _ (Array.mem_of_getElem? (i := 1) rfl) rfl))) rfl
            | 18, ho =>
              obtain rfl := Option.some.inj ho
              refine StepOk2.yes (g := 17) (d := 115) rfl rfl (fun done a w hC hdep => hdep _ 115 (Array.mem_of_getElem? (i := 0) rfl) rfl rfl) ?_
              intro done a V hC hdn hdo hdep hoth
              have x6 : a.tmps[6]?.getD undef = .pointer (some ⟨b, 0, none⟩) := slot_of (hoth 6 (notDst (by kernel_rfl)))
              exact goodRun2.val (c := .pointer (some ⟨b, 0, none⟩)) (by clear hdep hoth hdo hC; go_simp) (by rw [teC_other done (show 2 ≠ 18 by decide)]; exact hC) rfl
            | 19, ho =>
              obtain rfl := Option.some.inj ho
              refine StepOk2.yes (g := 17) (d := 115) rfl rfl (fun done a w hC hdep => hdep _ 115 (Array.mem_of_getElem? (i := 1) rfl) rfl rfl) ?_
              intro done a V hC hdn hdo hdep hoth
              have x116 : a.tmps[116]?.getD undef = .pointer (some ⟨b, 0, none⟩) := slot_of (hdep _ 116 (Array.mem_of_getElem? (i := 0) rfl) rfl rfl)
              refine goodRun2.call (f := 26) (args := #[.pointer (some ⟨b, 0, none⟩)]) (by clear hdep hoth hdo hC; go_simp) ?_
              have hd2 : done 2 = true := hC.dn17 (hdo _ (Array.mem_of_getElem? (i := 1) rfl) rfl)
              refine (to_may_to (x := !bt) (hC.to1 hd2) HSl.out HBt.out).mono ?_
              rintro v w4 ⟨rfl, rfl⟩
              exact ⟨_, rfl, by rw [teC_other done (show 2 ≠ 19 by decide)]; exact hC, fun _ _ _ h => h, rfl⟩
            | 20, ho =>
              obtain rfl := Option.some.inj ho
              refine StepOk2.yes (g := 17) (d := 115) rfl rfl (fun done a w hC hdep => hdep _ 115 (Array.mem_of_getElem? (i := 0) rfl) rfl rfl) ?_
              intro done a V hC hdn hdo hdep hoth
              have x8 : a.tmps[8]?.getD undef = .pointer (some ⟨m, 0, none⟩) := slot_of (hoth 8 (notDst (by kernel_rfl)))
              exact goodRun2.val (c := .pointer (some ⟨m, 0, none⟩)) (by clear hdep hoth hdo hC; go_simp) (by rw [teC_other done (show 2 ≠ 20 by decide)]; exact hC) rfl
            | 21, ho =>
              obtain rfl := Option.some.inj ho
              refine StepOk2.yes (g := 17) (d := 115) rfl rfl (fun done a w hC hdep => hdep _ 115 (Array.mem_of_getElem? (i := 1) rfl) rfl rfl) ?_
              intro done a V hC hdn hdo hdep hoth
              have x118 : a.tmps[118]?.getD undef = .pointer (some ⟨m, 0, none⟩) := slot_of (hdep _ 118 (Array.mem_of_getElem? (i := 0) rfl) rfl rfl)
              exact goodRun2.val (c := .pointer (some ⟨m, 0, none⟩)) (by clear hdep hoth hdo hC; go_simp) (by rw [teC_other done (show 2 ≠ 21 by decide)]; exact hC) rfl
            | 22, ho =>
              obtain rfl := Option.some.inj ho
              refine StepOk2.yes (g := 17) (d := 115) rfl rfl (fun done a w hC hdep => hdep _ 115 (Array.mem_of_getElem? (i := 1) rfl) rfl rfl) ?_
              intro done a V hC hdn hdo hdep hoth
              have x119 : a.tmps[119]?.getD undef = .pointer (some ⟨m, 0, none⟩) := slot_of (hdep _ 119 (Array.mem_of_getElem? (i := 0) rfl) rfl rfl)
              exact goodRun2.val (c := .pointer (some ⟨m, 2, none⟩)) (by clear hdep hoth hdo hC; go_simp) (by rw [teC_other done (show 2 ≠ 22 by decide)]; exact hC) rfl
            | 23, ho =>
              obtain rfl := Option.some.inj ho
              refine StepOk2.yes (g := 17) (d := 115) rfl rfl (fun done a w hC hdep => hdep _ 115 (Array.mem_of_getElem? (i := 1) rfl) rfl rfl) ?_
              intro done a V hC hdn hdo hdep hoth
              have x120 : a.tmps[120]?.getD undef = .pointer (some ⟨m, 2, none⟩) := slot_of (hdep _ 120 (Array.mem_of_getElem? (i := 0) rfl) rfl rfl)
              have c2 : V.cell? ⟨m, 2, none⟩ = some (.string X) := by have := hC.tm.heap; rw [← HX.out]; simp [World.cell?, this, tmRow]
              exact goodRun2.val (c := .string X) (by clear hdep hoth hdo hC; go_simp) (by rw [teC_other done (show 2 ≠ 23 by decide)]; exact hC) rfl
            | 24, ho =>
              obtain rfl := Option.some.inj ho
              refine StepOk2.yes (g := 17) (d := 115) rfl rfl (fun done a w hC hdep => hdep _ 115 (Array.mem_of_getElem? (i := 1) rfl) rfl rfl) ?_
              intro done a V hC hdn hdo hdep hoth
              have x121 : a.tmps[121]?.getD undef = .string X := slot_of (hdep _ 121 (Array.mem_of_getElem? (i := 0) rfl) rfl rfl)
              have hst := HSt.out
              exact goodRun2.val (c := .bool bt) (by clear hdep hoth hdo hC; go_simp) (by rw [teC_other done (show 2 ≠ 24 by decide)]; exact hC) rfl
            | 25, ho =>
              obtain rfl := Option.some.inj ho
              refine StepOk2.yes (g := 17) (d := 115) rfl rfl (fun done a w hC hdep => hdep _ 115 (Array.mem_of_getElem? (i := 2) rfl) rfl rfl) ?_
              intro done a V hC hdn hdo hdep hoth
              have x117 : a.tmps[117]?.getD undef = .bool (!bt) := slot_of (hdep _ 117 (Array.mem_of_getElem? (i := 0) rfl) rfl rfl)
              have x122 : a.tmps[122]?.getD undef = .bool bt := slot_of (hdep _ 122 (Array.mem_of_getElem? (i := 1) rfl) rfl rfl)
              have hbb : ((!bt) == bt) = false := by cases bt <;> rfl
              exact goodRun2.val (c := .bool false) (by clear hdep hoth hdo hC; go_simp) (by rw [teC_other done (show 2 ≠ 25 by decide)]; exact hC) rfl
            | 26, ho =>
              obtain rfl := Option.some.inj ho
              refine StepOk2.free rfl ?_
              intro done a V hC hdn hdo hdep hoth
              have x115 : a.tmps[115]?.getD undef = .bool false := slot_of (hdep _ 115 (Array.mem_of_getElem? (i := 0) rfl) rfl rfl)
              have x123 : a.tmps[123]?.getD undef = .bool false := slot_of (hdep _ 123 (Array.mem_of_getElem? (i := 1) rfl) rfl rfl)
              exact goodRun2.val (c := .bool false) (by clear hdep hoth hdo hC; go_simp) (by rw [teC_other done (show 2 ≠ 26 by decide)]; exact hC) rfl
            | n + 27, ho => simp at ho
          · intro vals V hC hS
            have v26 : vals 26 = .bool false := hS 26 (by decide)
            have D6 := hC.to1 rfl
            have M6 := hC.tm
            clear hC hS HC5
            simp only [fill, dstOf]
            go_simp
            go_wp2_with fail
            go_roundw
            case rel => exact ⟨k + 1, s.fin x, by omega, by go_num, D6, M6, HF.out.fin x⟩
            case measure => simp [intOf]; omega
    · have k1 : ¬ (k : Int) < (ll.length : Int) := by omega
      go_wp2
      go_ret
      exact ⟨rfl, D.bel⟩
end Go.Proofs.YtgehlcmancdgcacDoor
