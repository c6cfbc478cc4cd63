/-
  Several texts as one: KeRnw, PlStep.
-/
import Derived.Test.YtdpdbfhbojgigacGreatDoorB20P
import Derived.Test.YtdpdbfhbojgigacGreatDoorB12P
import Derived.Test.YtdpdbfhbojgigacGreatDoorB23P
import Derived.Test.YtdpdbfhbojgigacGreatDoorB01P
namespace Go.Proofs.YtdpdbfhbojgigacGreatDoor
open Go.RowKit Go.Extern.Stop Go.Stop Go.Extern

/-- The watch, its ring and the status of all left out. -/
structure KeHd (H : Nat → Nat → Prop) (w0 w : World) (c : CfgD) (kb bc bd : Nat) (rv tv lv : Value) (bs : List Nat) (s : CSt) (d : DSt) (ls : List LSt) : Prop where
  fam : Fam H w0.heap.size w
  row : w.heap[kb]? = some (.cells (keRow c bd bc rv lv tv) 102 (0, 0))
  hk : H 0 kb
  own : SlOwn encB 1 93 w0.heap.size w lv bs
  hl : ∀ k, lv.ownBlock = some k → H 1 k
  cells : CellsAt w bc s
  hc : H 2 bc
  dog : DogAt w bd d
  hd : H 3 bd
  loc : ∀ i b e s, bs[i]? = some b → c.ents[i]? = some e → ls[i]? = some s → LoS (H (5 + i)) w b e s
  blen : bs.length = ls.length
  bel : Below w0.heap.size w0 w
section
variable {A : Nat → Addr} {H : Nat → Nat → Prop} {F : Nat → Prop} {w0 w w' w1 w2 : World} {c : CfgD} {kb bc bd rb bt : Nat} {rv tv lv : Value} {bs : List Nat} {s : CSt} {d : DSt} {ls : List LSt} {K : KSt} {k W : Nat}
theorem KeIn.hd' (h : KeIn H w0 w c kb bc bd rb bt lv bs K) : KeHd H w0 w c kb bc bd (.pointer (some ⟨rb, 0, none⟩)) (.pointer (some ⟨bt, 0, none⟩)) lv bs K.c K.d K.ls :=
  ⟨h.fam, h.row, h.hk, h.own, h.hl, h.ring.cells, h.ring.fc, h.dog, h.hd, h.loc, by rw [h.blen, h.llen], h.bel⟩
theorem KeHd.cell (h : KeHd H w0 w c kb bc bd rv tv lv bs s d ls) (j : Nat) (u : Value) (hu : (keRow c bd bc rv lv tv)[j]? = some u) : w.cell? ⟨kb, j, none⟩ = some u := by
  simp [World.cell?, h.row, hu]
theorem KeHd.below (h : KeHd H w0 w c kb bc bd rv tv lv bs s d ls) (hb : Below w.heap.size w w') : KeHd H w0 w' c kb bc bd rv tv lv bs s d ls :=
  ⟨h.fam.grow hb.size, row_below hb h.row, h.hk, h.own.below hb, h.hl, h.cells.below hb, h.hc, h.dog.below hb, h.hd, fun i b e s h1 h2 h3 => (h.loc i b e s h1 h2 h3).same (fun k hk => hb.block k (h.fam.lt _ k hk)) hb.size, h.blen, h.bel.trans (hb.mono h.bel.size)⟩
/-- A ring and a status of all are made, and laid into the watch. -/
theorem KeHd.laid {L : List Rec} {t : TSt} (h : KeHd H w0 w c kb bc bd rv tv lv bs s d ls) (hlen : ls.length = c.ents.length) (hb1 : Below w.heap.size w w1) (hr : RgS (fun k => k = bc ∨ (w.heap.size ≤ k ∧ k < w1.heap.size)) w0.heap.size w1 rb bc s L false) (ht : ToIn w1 w2 bt t)
    (hW : w' = (w2.setCell ⟨kb, 4, none⟩ (.pointer (some ⟨rb, 0, none⟩))).setCell ⟨kb, 6, none⟩ (.pointer (some ⟨bt, 0, none⟩))) :
    KeIn (updH (updH H 2 w w1) 4 w1 w2) w0 w' c kb bc bd rb bt lv bs ⟨s, d, L, false, ls, t⟩ ∧ Off (fun k => k = kb) w w' ∧ w2.heap.size = w'.heap.size := by
  have hb2 : Below w1.heap.size w1 w2 := ht.bel
  have hb12 : Below w.heap.size w w2 := hb1.trans (hb2.mono hb1.size)
  have h2 := h.below hb12
  have hz : w2.heap.size = w'.heap.size := by rw [hW]; simp [World.setCell]
  have hof : Off (fun k => k = kb) w2 w' := by rw [hW]; exact Off.of_grown ((grown_setCell _ _ _ _).trans (grown_setCell _ _ _ _))
  have hf1 : Fam (updH H 2 w w1) w0.heap.size w1 := h.fam.upd hb1.size h.bel.size 2
  have hf2 : Fam (updH (updH H 2 w w1) 4 w1 w2) w0.heap.size w2 := hf1.upd hb2.size (Nat.le_trans h.bel.size hb1.size) 4
  have hf3 : Fam (updH (updH H 2 w w1) 4 w1 w2) w0.heap.size w' := hf2.grow (by omega)
  have up : ∀ i k, H i k → updH (updH H 2 w w1) 4 w1 w2 i k := fun i k hk => Or.inl (Or.inl hk)
  have hk2 := up 0 kb h.hk
  have no : ∀ i k, i ≠ 0 → updH (updH H 2 w w1) 4 w1 w2 i k → k ≠ kb := fun i k hi hk e => by rw [e] at hk; exact hi (hf2.dis i 0 kb hk hk2)
  have same : ∀ i k, i ≠ 0 → updH (updH H 2 w w1) 4 w1 w2 i k → w'.heap[k]? = w2.heap[k]? := fun i k hi hk => hof.block k (hf2.lt i k hk) (no i k hi hk)
  have hbt : updH (updH H 2 w w1) 4 w1 w2 4 bt := Or.inr ⟨rfl, ht.lo, lt_of_row ht.heap⟩
  have hkw : kb < w.heap.size := lt_of_row h.row
  refine ⟨⟨hf3, ?_, hk2, SlOwn.same h2.own (fun g hg => same 1 g (by decide) (up 1 g (h.hl g hg))), fun k hk => up 1 k (h.hl k hk), ?_, h2.dog.off hof (no 3 bd (by decide) (up 3 bd h.hd)), up 3 bd h.hd, (same 4 bt (by decide) hbt).trans ht.heap, hbt, fun i b e s' h3 h4 h5 => ?_, ?_, hlen, ?_⟩, ?_, hz⟩
  · rw [hW]
    exact row_put (row_put h2.row _) _
  · have r2 := hr.off (Off.of_below hb2 (fun _ => False)) (fun _ _ e => e)
    have r3 : RgS (updH (updH H 2 w w1) 4 w1 w2 2) w0.heap.size w2 rb bc s L false := r2.grow (fun k hk => by
      rcases hk with rfl | hk
      · exact up 2 k h.hc
      · exact Or.inl (Or.inr ⟨rfl, hk⟩)) (fun k hk => hf2.lt 2 k hk)
    exact r3.off hof (fun k hk => no 2 k (by decide) hk)
  · exact ((h2.loc i b e s' h3 h4 h5).grow (fun k hk => up _ k hk) (fun k hk => hf2.lt _ k hk)).same (fun k hk => same (5 + i) k (by omega) hk) (by omega)
  · rw [h.blen, hlen]
  · exact Off.below h2.bel hof h2.bel.size (fun k hk => by rw [hk]; exact h.fam.lo 0 kb h.hk)
  · exact (Off.of_below hb12 _).trans hof (fun _ _ e => e)
/-- The first n are stopped. -/
def stopN (ls : List LSt) (n : Nat) : List LSt := (ls.take n).map LSt.stop ++ ls.drop n
theorem stopN_at {ls : List LSt} {n : Nat} {s : LSt} (h : ls[n]? = some s) : (stopN ls n)[n]? = some s ∧ (stopN ls n).set n s.stop = stopN ls (n + 1) := by
  have hn : n < ls.length := (List.getElem?_eq_some_iff.1 h).1
  have hl : ((ls.take n).map LSt.stop).length = n := by rw [List.length_map, List.length_take]; omega
  have hd : ls.drop n = s :: ls.drop (n + 1) := by
    rw [List.drop_eq_getElem_cons hn]
    rw [List.getElem?_eq_getElem hn] at h
    rw [Option.some.inj h]
  unfold stopN
  refine ⟨?_, ?_⟩
  · rw [List.getElem?_append_right (by omega), hl, Nat.sub_self, hd]; rfl
  · rw [List.set_append_right _ _ (by omega), hl, Nat.sub_self, hd, List.take_add_one, h, List.map_append]
    simp
theorem stopN_len (ls : List LSt) (n : Nat) : (stopN ls n).length = ls.length := by
  unfold stopN
  rw [List.length_append, List.length_map, List.length_take, List.length_drop]
  omega
theorem stopN_all (ls : List LSt) : ∀ s ∈ stopN ls ls.length, s.act = false := by
  intro s hs
  unfold stopN at hs
  rw [List.take_length, List.drop_length, List.append_nil, List.mem_map] at hs
  obtain ⟨x, -, rfl⟩ := hs
  rfl
theorem KeIn.idle (h : KeIn H w0 w c kb bc bd rb bt lv bs K) (ls : List LSt) (hl : ls.length = c.ents.length) (h1 : ∀ s ∈ K.ls, s.act = false) (h2 : ∀ s ∈ ls, s.act = false) : KeIn H w0 w c kb bc bd rb bt lv bs { K with ls := ls } :=
  ⟨h.fam, h.row, h.hk, h.own, h.hl, h.ring, h.dog, h.hd, h.tot, h.ht, fun i b e s hb he hs => by
    obtain ⟨s0, hs0⟩ : ∃ s0, K.ls[i]? = some s0 := ⟨_, List.getElem?_eq_getElem (by rw [h.llen]; exact (List.getElem?_eq_some_iff.1 he).1)⟩
    exact (h.loc i b e s0 hb he hs0).idle (h1 s0 (List.mem_of_getElem? hs0)) (h2 s (List.mem_of_getElem? hs)), h.blen, hl, h.bel⟩
/-- What renew leaves: the ring's and the status' blocks are new. -/
def KeRn (H : Nat → Nat → Prop) (w0 w : World) (c : CfgD) (kb bc bd : Nat) (lv : Value) (bs : List Nat) (K : KSt) (w' : World) : Prop :=
  ∃ H' rb bt, KeIn H' w0 w' c kb bc bd rb bt lv bs K ∧ (∀ i k, H' i k → gr (fun k => ∃ i, H i k) w w' k) ∧ Off (fun k => ∃ i, H i k) w w'
set_option maxHeartbeats 4000000 in
set_option maxRecDepth 100000 in
theorem ke_renew (h : KeHd H w0 w c kb bc bd rv tv lv bs s d ls) (hs : SenK A w0) (hr : KRt c) (hlen : ls.length = c.ents.length) (hbig : 153 ≤ s.size) (hoff : s.off = false) :
    Calls Tryz.prog 66 #[.pointer (some ⟨kb, 0, none⟩)] w fun e w' => e = .returned .nilIface ∧ KeRn H w0 w c kb bc bd lv bs (KSt.opened c ⟨s, d, [], false, [], TSt.new 0⟩) w' := by
  obtain ⟨la, lc, rfl⟩ := ow_form h.own
  have hbl : bs.length = c.ents.length := by rw [h.blen, hlen]
  rw [hbl] at h ⊢
  have c2 : w.cell? ⟨kb, 2, none⟩ = some (.pointer (some ⟨bc, 0, none⟩)) := h.cell 2 _ rfl
  obtain ⟨de, hde⟩ : ∃ de : Nat, c.delay = (de : Int) := ⟨c.delay.toNat, by have := hr.de; omega⟩
  have hde20 : de ≤ 20 := by have := hr.de; omega
  have c3 : w.cell? ⟨kb, 3, none⟩ = some (.int .i64 (de : Int)) := by rw [← hde]; exact h.cell 3 _ rfl
  have HX : Hid _ := rgs_open (A := A) (D := w0.heap.size) h.cells (hs.below h.bel).four hbig hoff h.bel.size
  have HH : Hid _ := h
  have HSv : Hid _ := hs
  have HN : Hid (ls.length = c.ents.length ∧ c.ents.length ≤ 8 ∧ c.delay.toNat = de) := ⟨hlen, hr.nn, by omega⟩
  have HT : Hid (∀ V, Calls Tryz.prog 100 #[.int .i64 (de : Int)] V fun v w' => ∃ b, v = .returned (.tuple #[.pointer (some ⟨b, 0, none⟩), .nilIface]) ∧ ToIn V w' b (TSt.new de)) := fun V => to_new de V hde20
  clear h hs hr hlen hbig hoff hde hde20
  go_enter Tryz.func66, Tryz.ntmps66
  go_wp2_with fail
  refine Calls.mono HX.out ?_
  rintro u w1 ⟨rb, rfl, hr1, hb1⟩
  have e3 := cell_below hb1 c3
  have HR1 : Hid _ := hr1
  have HB1 : Hid _ := hb1
  clear hr1 hb1 HX c2 c3
  go_wp2_with fail
  refine Calls.mono (HT.out w1) ?_
  rintro u w2 ⟨bt, rfl, ht2⟩
  have HT2 : Hid _ := ht2
  have hb12 : Below w.heap.size w w2 := HB1.out.trans (ht2.bel.mono HB1.out.size)
  have h2 := HH.out.below hb12
  have e4 : w2.cell? ⟨kb, 4, none⟩ = some rv := h2.cell 4 _ rfl
  have e6 : w2.cell? ⟨kb, 6, none⟩ = some tv := h2.cell 6 _ rfl
  have q4 : ∀ j, w2.frozen? ⟨kb, j, none⟩ = false := fun j => by simp [World.frozen?, h2.row]
  have e6' : (w2.setCell ⟨kb, 4, none⟩ (.pointer (some ⟨rb, 0, none⟩))).cell? ⟨kb, 6, none⟩ = some tv := by
    have := row_put (j := 4) h2.row (.pointer (some ⟨rb, 0, none⟩))
    simp [World.cell?, this, keRow]
  have q6' : (w2.setCell ⟨kb, 4, none⟩ (.pointer (some ⟨rb, 0, none⟩))).frozen? ⟨kb, 6, none⟩ = false := by
    have := row_put (j := 4) h2.row (.pointer (some ⟨rb, 0, none⟩))
    simp [World.frozen?, this]
  clear ht2 hb12 h2 e3 HT
  go_upto_region 8 with fail
  obtain ⟨W3, hW3⟩ : ∃ X, X = (w2.setCell ⟨kb, 4, none⟩ (.pointer (some ⟨rb, 0, none⟩))).setCell ⟨kb, 6, none⟩ (.pointer (some ⟨bt, 0, none⟩)) := ⟨_, rfl⟩
  obtain ⟨hk3, hof3, hz3⟩ := HH.out.laid HN.out.1 HB1.out HR1.out HT2.out hW3
  rw [← hW3]
  clear hW3 e4 e6 q4 e6' q6'
  have c5 : W3.cell? ⟨kb, 5, none⟩ = some (.slice la c.ents.length lc) := hk3.cell 5 _ rfl
  have HTo : Hid (KeTo (updH (updH H 2 w w1) 4 w1 w2) w0 W3 c kb bc bd rb bt (.slice la c.ents.length lc) bs ⟨s, d, openL (s.bytes.take s.size), false, stopN ls 0, TSt.new de⟩ W3) := KeTo.same hk3
  have HO3 : Hid _ := hof3
  have HZ : Hid (updH (updH H 2 w w1) 4 w1 w2 0 kb ∧ (∀ i k, updH (updH H 2 w w1) 4 w1 w2 i k → H i k ∨ (w.heap.size ≤ k ∧ k < W3.heap.size)) ∧ H 0 kb) := ⟨hk3.hk, fun i k hk => by
    have a1 : w1.heap.size ≤ w2.heap.size := HT2.out.bel.size
    have a2 : w.heap.size ≤ w1.heap.size := HB1.out.size
    rcases hk with (hk | ⟨_, x, y⟩) | ⟨_, x, y⟩
    · exact Or.inl hk
    · exact Or.inr ⟨x, by omega⟩
    · exact Or.inr ⟨by omega, by omega⟩, HH.out.hk⟩
  have HOp : Hid (KSt.opened c ⟨s, d, [], false, [], TSt.new 0⟩ = ⟨s, d, openL (s.bytes.take s.size), false, c.ents.map fun _ => LSt.new, TSt.new de⟩) := by show _ = _; unfold KSt.opened; rw [HN.out.2.2]
  clear hk3 hof3 hz3 HR1 HB1 HT2 HH
  generalize updH (updH H 2 w w1) 4 w1 w2 = H3 at HTo HZ
  generalize openL (s.bytes.take s.size) = OL at HTo HOp
  go_cut [41, 42, 43] (fun l n i wx => l = .slice la c.ents.length lc ∧ n = .int .i64 (c.ents.length : Int) ∧ i = .int .i64 0 ∧ wx = W3)
  case first =>
    go_wp2_with fail
    go_meet
    case rel => exact ⟨rfl, rfl, rfl, rfl⟩
  obtain ⟨rfl, rfl, rfl, rfl⟩ := hcut
  rename World => W3
  clear c5
  go_wp2_with fail
  go_loopw [7, 43] (fun _ i wr => ∃ n : Nat, n ≤ c.ents.length ∧ i = .int .i64 n ∧ KeTo H3 w0 W3 c kb bc bd rb bt (.slice la c.ents.length lc) bs ⟨s, d, OL, false, stopN ls n, TSt.new de⟩ wr) (fun _ i _ => c.ents.length - (intOf i).toNat)
  case atStart => exact ⟨0, Nat.zero_le _, rfl, HTo.out⟩
  case round =>
    clear HTo
    obtain ⟨n, hnl, rfl, hto⟩ := hrel
    by_cases hlt : n < c.ents.length
    · obtain ⟨H4, k4, g4, o4⟩ := hto
      obtain ⟨sn, hsn⟩ : ∃ x, ls[n]? = some x := ⟨_, List.getElem?_eq_getElem (by rw [HN.out.1]; exact hlt)⟩
      obtain ⟨hs1, hs2⟩ := stopN_at hsn
      obtain ⟨b, e, g, cap, hb, he, hlv, cp, h4⟩ := k4.locAt (K := ⟨s, d, OL, false, stopN ls n, TSt.new de⟩) hs1
      rw [show (stopN ls n).length = c.ents.length by rw [stopN_len, HN.out.1]] at hlv
      simp only [Value.slice.injEq, true_and] at hlv
      obtain ⟨rfl, rfl⟩ := hlv
      have HX : Hid _ := los_stop (A := A) h4 ((k4.senv HSv.out).c8)
      have HNx : Hid (∀ w5, LoS (gr (H4 (5 + n)) wr w5) w5 b e sn.stop → Off (H4 (5 + n)) wr w5 → KeTo H3 w0 W3 c kb bc bd rb bt (.slice (some ⟨g, 0, none⟩) c.ents.length lc) bs ⟨s, d, OL, false, stopN ls (n + 1), TSt.new de⟩ w5) := fun w5 hl5 ho5 => by
        have := KeTo.one ho5 (k4.toLoc ho5 hb he hl5)
        rw [show KSt.setL ⟨s, d, OL, false, stopN ls n, TSt.new de⟩ n sn.stop = ⟨s, d, OL, false, stopN ls (n + 1), TSt.new de⟩ by unfold KSt.setL; rw [← hs2]] at this
        exact KeTo.trans g4 o4 this
      have k1 : (n : Int) < (c.ents.length : Int) := by omega
      have k2 : c.ents.length ≤ 8 := HN.out.2.1
      clear k4 g4 o4 hs1 hs2 hsn hb he h4
      go_wp2_with fail
      refine Calls.mono HX.out ?_
      rintro u w5 ⟨rfl, hl5, ho5⟩
      have HK5 : Hid _ := HNx.out w5 hl5 ho5
      clear hl5 ho5 HNx HX
      go_wp2_with fail
      go_roundw
      case rel => exact ⟨n + 1, by omega, by go_num, HK5.out⟩
      case measure => simp [intOf]; omega
    · obtain rfl : n = c.ents.length := by omega
      have k1 : ¬ (c.ents.length : Int) < (c.ents.length : Int) := by omega
      have HTo : Hid _ := hto
      clear hto
      go_wp2
      go_ret
      obtain ⟨H5, k5, g5, o5⟩ := HTo.out
      have hall := stopN_all ls
      rw [HN.out.1] at hall
      have k6 := k5.idle (c.ents.map fun _ => LSt.new) (by rw [List.length_map]) hall (fun s hs => by
        simp only [List.mem_map] at hs
        obtain ⟨_, _, rfl⟩ := hs
        rfl)
      rw [HOp.out]
      refine ⟨rfl, H5, rb, bt, k6, fun i k hk => ?_, ?_⟩
      · rcases g5 i k hk with ⟨j, hj⟩ | ⟨x, y⟩
        · rcases HZ.out.2.1 j k hj with hj | ⟨x, y⟩
          · exact Or.inl ⟨j, hj⟩
          · exact Or.inr ⟨x, Nat.lt_of_lt_of_le y o5.size⟩
        · exact Or.inr ⟨Nat.le_trans HO3.out.size x, y⟩
      · refine (HO3.out.mono (fun k _ e => ⟨0, by rw [e]; exact HZ.out.2.2⟩)).trans o5 (fun k hk ⟨j, hj⟩ => ?_)
        rcases HZ.out.2.1 j k hj with hj | ⟨x, _⟩
        · exact ⟨j, hj⟩
        · omega
theorem KeRn.post {bd' : Nat} (h : KeRn H w0 w c kb bc bd' lv bs K w') (hF : ∀ i k, H i k → F k) : KePost F w0 w c kb bc K w' := by
  obtain ⟨H2, rb, bt, h1, h2, h3⟩ := h
  exact ⟨⟨H2, _, _, _, _, _, h1, fun i k hk => (h2 i k hk).imp (fun ⟨j, hj⟩ => hF j k hj) id⟩, h3.mono (fun k _ ⟨j, hj⟩ => hF j k hj)⟩
theorem opened_d2 (c : CfgD) (s : CSt) (d d' : DSt) (L : List Rec) (sp : Bool) (ls : List LSt) (t : TSt) : KSt.opened c ⟨s, d', L, sp, ls, t⟩ = { KSt.opened c ⟨s, d, [], false, [], TSt.new 0⟩ with d := d' } := by
  unfold KSt.opened
  generalize openL (s.bytes.take s.size) = X
  rfl
set_option maxHeartbeats 2000000 in
theorem ke_boot (h : KeAt F w0 w c kb bc K) (hs : SenK A w0) (hr : KRt c) (hf : KFit c K k W) :
    Calls Tryz.prog 27 #[.pointer (some ⟨kb, 0, none⟩)] w fun e w' => e = .returned (errVal A (K.boot c).2) ∧ KePost F w0 w c kb bc (K.boot c).1 w' := by
  have HS : Hid (KePost F w0 w c kb bc K w) := KePost.same h
  obtain ⟨H, bd, rb, bt, lv, bs, h1, hF⟩ := h
  have HC : Hid _ := ke_state h1
  have g9 := (h1.senv hs).c9
  by_cases ho : K.on = 0
  · have HB : Hid (K.boot c = (K, 10)) := by show _ = _; unfold KSt.boot; rw [if_pos ho]
    rw [ho, show stateB 0 = ⟨#[111, 110]⟩ from rfl] at HC
    clear h1 hF hf hr ho hs
    go_enter Tryz.func27, Tryz.ntmps27
    go_wp2_with fail
    refine Calls.mono HC.out ?_
    rintro e w' ⟨rfl, rfl⟩
    go_wp2
    go_ret
    rw [HB.out]
    exact ⟨rfl, HS.out⟩
  · have HB : Hid (K.boot c = (KSt.opened c { K with c := { K.c with off := false, cut := false, left := 0 }, d := K.d.start }, 0)) := by show _ = _; unfold KSt.boot; rw [if_neg ho]
    have c2 : w.cell? ⟨kb, 2, none⟩ = some (.pointer (some ⟨bc, 0, none⟩)) := h1.cell 2 _ rfl
    have HOn : Hid _ := rgs_on h1.ring
    have H1 : Hid _ := h1
    have HF : Hid _ := hF
    have HBig : Hid (153 ≤ K.c.size) := hf.big.size
    have HR : Hid _ := hr
    have HSv : Hid _ := hs
    clear h1 hF hf hr HS hs
    rcases K.on_cases with he | he | he
    · exact absurd he ho
    all_goals
     rw [he] at HC
     first | rw [show stateB 8 = ⟨#[111, 102, 102]⟩ from rfl] at HC | rw [show stateB 11 = ⟨#[114, 101, 115, 101, 116]⟩ from rfl] at HC
     clear he ho
     go_enter Tryz.func27, Tryz.ntmps27
     go_wp2_with fail
     refine Calls.mono HC.out ?_
     rintro e w' ⟨rfl, rfl⟩
     go_wp2_with fail
     refine Calls.mono HOn.out ?_
     rintro e w2 ⟨rfl, hr2, hof2⟩
     have k2 := H1.out.toRing hof2 hr2
     have HX : Hid _ := ke_renew (A := A) k2.hd' HSv.out HR.out k2.llen HBig.out rfl
     have HP2 : Hid (KePost F w0 w' c kb bc _ w2) := KeIn.post HF.out hof2 k2
     have HU : Hid (∀ i k, updH H 2 w' w2 i k → gr F w' w2 k) := updH_all HF.out 2
     clear k2 hr2 hof2 HOn HC c2
     go_wp2_with fail
     refine Calls.mono HX.out ?_
     rintro u w4 ⟨rfl, hrn⟩
     have HP4 : Hid (KePost F w0 w' c kb bc _ w4) := HP2.out.trans (hrn.post HU.out)
     obtain ⟨H4, rb4, bt4, k4, g4, o4⟩ := hrn
     have c0 : w4.cell? ⟨kb, 0, none⟩ = some (.pointer (some ⟨bd, 0, none⟩)) := k4.cell 0 _ rfl
     have HSt : Hid _ := dog_start bd _ w4 k4.dog
     have HH4 : Hid (∀ i k, H4 i k → gr F w' w4 k) := fun i k hk => by
       rcases g4 i k hk with ⟨j, hj⟩ | ⟨x, y⟩
       · exact (HU.out j k hj).imp id (fun ⟨x, y⟩ => ⟨x, Nat.lt_of_lt_of_le y o4.size⟩)
       · exact Or.inr ⟨Nat.le_trans HP2.out.2.size x, y⟩
     have HK4 : Hid _ := k4
     clear k4 g4 o4 HX
     go_wp2_with fail
     refine Calls.mono HSt.out ?_
     rintro u w5 ⟨rfl, hd5, hg5⟩
     go_wp2
     go_ret
     rw [HB.out]
     refine ⟨rfl, ?_⟩
     have hof5 : Off (H4 3) w4 w5 := (Off.of_grown hg5).mono (fun k _ e => by rw [e]; exact HK4.out.hd)
     have k5 := HK4.out.toDog hof5 hd5
     have p5 := KeIn.post HH4.out hof5 k5
     have p6 := HP4.out.trans p5
     rw [opened_d2 c { K.c with off := false, cut := false, left := 0 } K.d K.d.start K.L K.sp K.ls K.t]
     exact p6
end
end Go.Proofs.YtdpdbfhbojgigacGreatDoor

namespace Go.Proofs.YtdpdbfhbojgigacGreatDoor
open Go.RowKit Go.Extern.Stop Go.Stop Go.Extern

theorem code_same (A : Nat → Addr) (j : Nat) (w : World) (hs : Senv A w) (hj : j ≤ 11) :
    Calls Tryz.prog 65 #[errVal A j] w fun e w' => e = .returned (.tuple #[.int .i64 (j : Int), .int .i64 (-1)]) ∧ Below w.heap.size w w' := by
  cases j with
  | zero =>
    refine (code_nil w).mono ?_
    rintro e w' ⟨rfl, rfl⟩
    exact ⟨rfl, Below.refl _ _⟩
  | succ i =>
    obtain ⟨c, t, hr⟩ := hs.row i (by omega)
    refine (code_errs A (A i) i c t w hs (by omega) (fun k hk => hs.ne i k (by omega) (by omega) (by omega)) (fun _ => rfl) hr).mono ?_
    rintro e w' ⟨rfl, hb⟩
    rw [if_pos (by omega)]
    exact ⟨by congr 3, hb⟩
section
variable {A : Nat → Addr} {F F' : Nat → Prop} {w0 w w' : World} {c : CfgD} {kb bc : Nat} {K : KSt} {k : Nat}
theorem KeAt.trim (h : KeAt F w0 w c kb bc K) : KeAt (fun k => F k ∧ k < w.heap.size) w0 w c kb bc K := by
  obtain ⟨H, bd, rb, bt, lv, bs, h1, h2⟩ := h
  exact ⟨H, bd, rb, bt, lv, bs, h1, fun i k hk => ⟨h2 i k hk, h1.fam.lt i k hk⟩⟩
theorem KePost.mono (h : KePost F w0 w c kb bc K w') (hF : ∀ k, F k → F' k) : KePost F' w0 w c kb bc K w' := by
  obtain ⟨⟨H, bd, rb, bt, lv, bs, h1, h2⟩, h3⟩ := h
  exact ⟨⟨H, bd, rb, bt, lv, bs, h1, fun i k hk => (h2 i k hk).imp (hF k) id⟩, h3.mono (fun k _ e => hF k e)⟩
/-- A box beside the watch: two pointers. -/
structure PlBox (w W : World) (kb bc : Nat) : Prop where
  bel : Below w.heap.size w W
  heap : W.heap[w.heap.size]? = some (.cells #[.pointer (some ⟨kb, 0, none⟩), .pointer (some ⟨bc, 0, none⟩)] 141 (0, 0))
theorem PlBox.lt {W : World} (h : PlBox w W kb bc) : w.heap.size < W.heap.size := by
  rcases Nat.lt_or_ge w.heap.size W.heap.size with h1 | h1
  · exact h1
  · have := h.heap
    rw [Array.getElem?_eq_none (by omega)] at this
    cases this
theorem PlBox.cc {W : World} (h : PlBox w W kb bc) : W.cell? ⟨w.heap.size, 0, none⟩ = some (.pointer (some ⟨kb, 0, none⟩)) ∧ W.cell? ⟨w.heap.size, 1, none⟩ = some (.pointer (some ⟨bc, 0, none⟩)) := by
  constructor <;> simp [World.cell?, h.heap]
theorem PlBox.off {W V : World} (h : PlBox w W kb bc) (ho : Off (fun k => F k ∧ k < w.heap.size) W V) : V.cell? ⟨w.heap.size, 0, none⟩ = some (.pointer (some ⟨kb, 0, none⟩)) ∧ V.cell? ⟨w.heap.size, 1, none⟩ = some (.pointer (some ⟨bc, 0, none⟩)) := by
  have := (ho.block _ h.lt (fun e => Nat.lt_irrefl _ e.2)).trans h.heap
  constructor <;> simp [World.cell?, this]
theorem PlBox.new (w : World) (kb bc : Nat) : PlBox w (w.alloc (.cells #[.pointer (some ⟨kb, 0, none⟩), .pointer (some ⟨bc, 0, none⟩)] 141)) kb bc := ⟨Below.one _ _, heap_alloc_new w _⟩
set_option maxHeartbeats 2000000 in
set_option maxRecDepth 100000 in
theorem pl_ticks (N : Nat) (h : KeAt F w0 w c kb bc K) (hs : SenK A w0) (hr : KRt c) (hf : KFit c K k (144 * K.d.now)) (hn : k + K.d.now + 1 + N ≤ 900000) :
    Calls Tryz.prog 166 #[.agg #[.pointer (some ⟨kb, 0, none⟩), .pointer (some ⟨bc, 0, none⟩)], .int .i64 (N : Int)] w fun e w' => e = .returned (errVal A (K.ticks c N).2) ∧ KePost F w0 w c kb bc (K.ticks c N).1 w' := by
  obtain ⟨W, hW⟩ : ∃ X, X = w.alloc (.cells #[.pointer (some ⟨kb, 0, none⟩), .pointer (some ⟨bc, 0, none⟩)] 141) := ⟨_, rfl⟩
  have hbox : PlBox w W kb bc := by rw [hW]; exact PlBox.new w kb bc
  have HBx : Hid _ := hbox
  have HR : Hid (KRt c) := hr
  have HSv : Hid (SenK A w0) := hs
  have HP : Hid (KePost (fun k => F k ∧ k < w.heap.size) w0 W c kb bc K W) := KePost.same (h.trim.below hbox.bel)
  have HB : Hid (k + K.d.now + 1 + N ≤ 900000) := hn
  have HF : Hid _ := hf
  have hN10 : N ≤ 900000 := by omega
  have HTo : Hid (∀ K' V, KePost (fun k => F k ∧ k < w.heap.size) w0 W c kb bc K' V → KePost F w0 w c kb bc K' V) := fun K' V hp => (hp.from hbox.bel).mono (fun k hk => hk.1)
  clear h hr hf hn hs hbox
  go_enter Tryz.func166, Tryz.ntmps166
  go_upto_region 1 with fail
  rw [← hW]
  clear hW
  go_wp2_with fail
  go_loopw [5, 7] (fun _ i wr => ∃ (j : Nat) (Kj : KSt), j ≤ N ∧ i = .int .i64 j ∧ Hid (K.ticks c N = Kj.ticks c (N - j)) ∧ Hid (KFit c Kj k (144 * Kj.d.now)) ∧ Hid (Kj.d.now ≤ K.d.now + j) ∧ Hid (KePost (fun k => F k ∧ k < w.heap.size) w0 W c kb bc Kj wr)) (fun _ i _ => N - (intOf i).toNat)
  case atStart => exact ⟨0, K, Nat.zero_le _, rfl, rfl, HF.out, Nat.le_refl _, HP.out⟩
  case round =>
    clear HP HF
    obtain ⟨j, Kj, hj, rfl, HE, HFj, HNj, HPj⟩ := hrel
    by_cases hlt : j < N
    · have k1 : (j : Int) < (N : Int) := by omega
      have HE2 : Hid (K.ticks c N = if (Kj.tick c).2 = 0 then (Kj.tick c).1.ticks c (N - (j + 1)) else Kj.tick c) := by
        show _ = _
        rw [HE.out, show N - j = (N - (j + 1)) + 1 by omega]
        rfl
      have HX : Hid _ := ke_tick HPj.out.1 HSv.out HR.out HFj.out (by have := HB.out; have := HNj.out; omega)
      have HFn : Hid (KFit c (Kj.tick c).1 k (144 * (Kj.tick c).1.d.now) ∧ (Kj.tick c).1.d.now ≤ K.d.now + (j + 1)) := ⟨HFj.out.tick HR.out (by have := HB.out; have := HNj.out; omega), by have := tick_now c Kj; have := HNj.out; omega⟩
      obtain ⟨x0, x1⟩ := HBx.out.off HPj.out.2
      go_wp2_with fail
      refine Calls.mono HX.out ?_
      rintro u w3 ⟨rfl, hp⟩
      have HP3 : Hid _ := HPj.out.trans hp
      clear hp HX x0 x1
      by_cases hc0 : (Kj.tick c).2 = 0
      · rw [hc0, show errVal A 0 = .nilIface from rfl]
        go_wp2_with fail
        go_roundw
        case rel => exact ⟨j + 1, (Kj.tick c).1, by omega, by go_num, by show _ = _; rw [HE2.out, if_pos hc0], HFn.out.1, HFn.out.2, HP3.out⟩
        case measure => simp [intOf]; omega
      · obtain ⟨q, hq⟩ := errVal_pos (A := A) hc0
        have HQ : Hid _ := hq
        rw [hq]
        clear hq
        go_wp2
        go_ret
        rw [HE2.out, if_neg hc0, HQ.out]
        exact ⟨rfl, HTo.out _ _ HP3.out⟩
    · have k1 : ¬ (j : Int) < (N : Int) := by omega
      have HE2 : Hid (K.ticks c N = (Kj, 0)) := by
        show _ = _
        rw [HE.out, show N - j = 0 by omega]
        rfl
      go_wp2
      go_ret
      rw [HE2.out]
      exact ⟨rfl, HTo.out _ _ HPj.out⟩
set_option maxHeartbeats 4000000 in
set_option maxRecDepth 100000 in
theorem pl_step (n : Nat) (h : KeAt F w0 w c kb bc K) (hs : SenK A w0) (hr : KRt c) (hf : KFit c K k (144 * K.d.now)) (hn : k + K.d.now + 20 ≤ 900000) (hk : k < 1000) (hn63 : n ≤ 9223372036854775807) :
    Calls Tryz.prog 117 #[.agg #[.pointer (some ⟨kb, 0, none⟩), .pointer (some ⟨bc, 0, none⟩)], .int .i64 (n : Int)] w fun e w' => e = .returned (errVal A (K.oneN c n).2) ∧ KePost F w0 w c kb bc (K.oneN c n).1 w' := by
  obtain ⟨W, hW⟩ : ∃ X, X = w.alloc (.cells #[.pointer (some ⟨kb, 0, none⟩), .pointer (some ⟨bc, 0, none⟩)] 141) := ⟨_, rfl⟩
  have hbox : PlBox w W kb bc := by rw [hW]; exact PlBox.new w kb bc
  obtain ⟨x0, x1⟩ := hbox.cc
  have HTo : Hid (∀ K' V, KePost F w0 W c kb bc K' V → KePost F w0 w c kb bc K' V) := fun K' V hp => hp.from hbox.bel
  have hat : KeAt F w0 W c kb bc K := h.below hbox.bel
  have HSv : Hid (SenK A w0) := hs
  have HR : Hid (KRt c) := hr
  have HAt : Hid _ := hat
  have HF : Hid _ := hf
  have HNn : Hid (k + K.d.now + 20 ≤ 900000 ∧ k < 1000) := ⟨hn, hk⟩
  obtain ⟨r, q, q8, q16, q64, qq, qp, hr9, HO, e1, e2, e3, e4, e5, e6, e7, q1, q2, g1, g2, g3, g4⟩ := oneN_parts c K n hn63
  clear h hs hr hf hn hk hbox hat
  go_enter Tryz.func117, Tryz.ntmps117
  go_upto_region 1 with fail
  rw [← hW]
  clear hW
  match r, hr9 with
  | 2, _ =>
    have HX : Hid _ := ke_report (q8 : Int) (qp : Int) HAt.out HSv.out HR.out HF.out HNn.out.2
    go_wp2_with fail
    refine Calls.mono HX.out ?_
    rintro u w3 ⟨rfl, hp⟩
    go_wp2
    go_ret
    rw [HO.out]
    exact ⟨rfl, HTo.out _ _ hp⟩
  | 3, _ =>
    have HX : Hid _ := pl_ticks q16 HAt.out HSv.out HR.out HF.out (by have := HNn.out; omega)
    go_wp2_with fail
    refine Calls.mono HX.out ?_
    rintro u w3 ⟨rfl, hp⟩
    go_wp2
    go_ret
    rw [HO.out]
    exact ⟨rfl, HTo.out _ _ hp⟩
  | 4, _ =>
    have HX : Hid _ := ke_begin (q8 : Int) HAt.out HSv.out HR.out
    go_wp2_with fail
    refine Calls.mono HX.out ?_
    rintro u w3 ⟨rfl, hp⟩
    go_wp2
    go_ret
    rw [HO.out]
    exact ⟨rfl, HTo.out _ _ hp⟩
  | 5, _ =>
    have HX : Hid _ := ke_stop (q8 : Int) HAt.out HSv.out HR.out
    go_wp2_with fail
    refine Calls.mono HX.out ?_
    rintro u w3 ⟨rfl, hp⟩
    go_wp2
    go_ret
    rw [HO.out]
    exact ⟨rfl, HTo.out _ _ hp⟩
  | 6, _ =>
    have HX : Hid _ := ke_cut (q64 : Int) HAt.out HSv.out
    go_wp2_with fail
    refine Calls.mono HX.out ?_
    rintro u w3 ⟨rfl, hp⟩
    go_wp2
    go_ret
    rw [HO.out]
    exact ⟨rfl, HTo.out _ _ hp⟩
  | 7, _ =>
    have HX : Hid _ := ke_boot HAt.out HSv.out HR.out HF.out
    go_wp2_with fail
    refine Calls.mono HX.out ?_
    rintro u w3 ⟨rfl, hp⟩
    go_wp2
    go_ret
    rw [HO.out]
    exact ⟨rfl, HTo.out _ _ hp⟩
  | 0, _ =>
    have HX : Hid _ := ke_tick HAt.out HSv.out HR.out HF.out (by have := HNn.out; omega)
    go_wp2_with fail
    refine Calls.mono HX.out ?_
    rintro u w3 ⟨rfl, hp⟩
    go_wp2
    go_ret
    rw [HO.out]
    exact ⟨rfl, HTo.out _ _ hp⟩
  | 1, _ =>
    have HX : Hid _ := ke_tick HAt.out HSv.out HR.out HF.out (by have := HNn.out; omega)
    go_wp2_with fail
    refine Calls.mono HX.out ?_
    rintro u w3 ⟨rfl, hp⟩
    go_wp2
    go_ret
    rw [HO.out]
    exact ⟨rfl, HTo.out _ _ hp⟩
set_option maxHeartbeats 2000000 in
set_option maxRecDepth 100000 in
theorem pl_answer (v : Int) (h : KeAt F w0 w c kb bc K) (hs : Senv A w0) (hr : KRt c) (hf : KFit c K k (144 * K.d.now)) (hn : k + K.d.now + 20 ≤ 900000) (hk : k < 1000) (hv : v ≤ 9223372036854775807) :
    Calls Tryz.prog 82 #[.agg #[.pointer (some ⟨kb, 0, none⟩), .pointer (some ⟨bc, 0, none⟩)], .int .i64 v] w fun e w' => e = .returned (.int .i64 (K.one c v).2) ∧ KePost F w0 w c kb bc (K.one c v).1 w' := by
  obtain ⟨W, hW⟩ : ∃ X, X = w.alloc (.cells #[.pointer (some ⟨kb, 0, none⟩), .pointer (some ⟨bc, 0, none⟩)] 141) := ⟨_, rfl⟩
  have hbox : PlBox w W kb bc := by rw [hW]; exact PlBox.new w kb bc
  have HTo : Hid (∀ K' V, KePost F w0 W c kb bc K' V → KePost F w0 w c kb bc K' V) := fun K' V hp => hp.from hbox.bel
  have hat : KeAt F w0 W c kb bc K := h.below hbox.bel
  have HAt : Hid _ := hat
  by_cases hv0 : v < 0
  · have HO : Hid (K.one c v = (K, -1)) := one_neg hv0
    clear h hs hr hf hn hk hbox hat
    go_enter Tryz.func82, Tryz.ntmps82
    go_upto_region 1 with fail
    rw [← hW]
    clear hW
    go_wp2
    go_ret
    rw [HO.out]
    exact ⟨rfl, HTo.out _ _ (KePost.same HAt.out)⟩
  · obtain ⟨n, rfl⟩ : ∃ n : Nat, v = (n : Int) := ⟨v.toNat, by omega⟩
    obtain ⟨x0, x1⟩ := hbox.cc
    have HO : Hid _ := one_pos (c := c) (K := K) n
    have HX : Hid _ := pl_step n hat hs.ten hr hf hn hk (by omega)
    have HLe : Hid _ := oneN_le hr hf (by omega) n
    have HSv : Hid (∀ V, Below w0.heap.size w0 V → Senv A V) := fun V hV => hs.below hV
    clear h hs hr hf hn hk hbox hat
    go_enter Tryz.func82, Tryz.ntmps82
    go_upto_region 1 with fail
    rw [← hW]
    clear hW
    go_wp2_with fail
    refine Calls.mono HX.out ?_
    rintro u w3 ⟨rfl, hp⟩
    have HCd : Hid _ := code_same A (K.oneN c n).2 w3 (HSv.out w3 hp.1.bel) HLe.out
    have HP3 : Hid _ := hp
    clear hp HX HAt x0 x1 HSv
    go_wp2_with fail
    refine Calls.mono HCd.out ?_
    rintro u w4 ⟨rfl, hb4⟩
    have HP4 : Hid _ := HTo.out _ _ (KePost.below HP3.out hb4)
    clear hb4
    go_wp2
    go_ret
    rw [HO.out]
    exact ⟨rfl, HP4.out⟩
end
end Go.Proofs.YtdpdbfhbojgigacGreatDoor
