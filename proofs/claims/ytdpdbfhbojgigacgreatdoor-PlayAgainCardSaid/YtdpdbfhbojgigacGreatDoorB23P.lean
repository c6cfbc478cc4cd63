/-
  Several texts as one: KeEnd, KeTick, KeCut.
-/
import Derived.Test.YtdpdbfhbojgigacGreatDoorB22P
import Derived.Test.YtdpdbfhbojgigacGreatDoorB20P
import Derived.Deep.AppendLies
import Derived.Laws.MakeOwn
namespace Go.Proofs.YtdpdbfhbojgigacGreatDoor
open Go.RowKit Go.Extern.Stop Go.Stop Go.Extern

theorem Tryz.infoStrE : (Tryz.prog.info? 9).map (fun i => (i.zero, i.size, i.bytes)) = some (some (.string ⟨#[]⟩), 1, 16) := by kernel_rfl
/-- In the loop: the watch, and beside it the list of statuses. -/
structure KeLp (H0 H : Nat → Nat → Prop) (w0 w wr : World) (c : CfgD) (kb bc bd rb bt : Nat) (lv : Value) (bs : List Nat) (K : KSt) (kv : Value) (xs : List ByteArray) : Prop where
  ke : KeIn H w0 wr c kb bc bd rb bt lv bs K
  hg : ∀ i k, H i k → gr (fun k => ∃ i, H0 i k) w wr k
  off : Off (fun k => ∃ i, H0 i k) w wr
  own : SlOwn encS 1 9 w.heap.size wr kv xs
  no : ∀ k, kv.ownBlock = some k → ∀ i, ¬ H i k
section
variable {A : Nat → Addr} {H H0 : Nat → Nat → Prop} {F : Nat → Prop} {w0 w w' wr wr' : World} {c : CfgD} {kb bc bd rb bt : Nat} {lv kv : Value} {bs : List Nat} {K K' : KSt} {k W : Nat} {xs : List ByteArray}
theorem KeLp.to (h : KeLp H0 H w0 w wr c kb bc bd rb bt lv bs K kv xs) (t : KeTo H w0 wr c kb bc bd rb bt lv bs K' wr') : ∃ H', KeLp H0 H' w0 w wr' c kb bc bd rb bt lv bs K' kv xs := by
  obtain ⟨H1, t1, t2, t3⟩ := id t
  refine ⟨H1, t1, fun i k hk => ?_, ?_, SlOwn.same h.own (fun g hg => t3.block g (h.own.lt g hg).2 (fun ⟨i, hi⟩ => h.no g hg i hi)), fun k hk i hi => ?_⟩
  · rcases t2 i k hk with ⟨j, hj⟩ | ⟨a, b⟩
    · exact (h.hg j k hj).imp id (fun ⟨a, b⟩ => ⟨a, Nat.lt_of_lt_of_le b t3.size⟩)
    · exact Or.inr ⟨Nat.le_trans h.off.size a, b⟩
  · exact h.off.trans t3 (fun k hk ⟨i, hi⟩ => by
      rcases h.hg i k hi with a | ⟨a, _⟩
      · exact a
      · omega)
  · rcases t2 i k hi with ⟨j, hj⟩ | ⟨a, _⟩
    · exact h.no k hk j hj
    · have := (h.own.lt k hk).2; omega
theorem KeLp.below (h : KeLp H0 H w0 w wr c kb bc bd rb bt lv bs K kv xs) (hb : Below wr.heap.size wr wr') : KeLp H0 H w0 w wr' c kb bc bd rb bt lv bs K kv xs :=
  ⟨h.ke.below hb, fun i k hk => (h.hg i k hk).imp id (fun ⟨a, b⟩ => ⟨a, Nat.lt_of_lt_of_le b hb.size⟩), h.off.trans (Off.of_below hb _) (fun _ _ h => h), h.own.below hb, h.no⟩
theorem KeLp.kt (h : KeLp H0 H w0 w wr c kb bc bd rb bt lv bs K kv xs) : KeTo H0 w0 w c kb bc bd rb bt lv bs K wr := ⟨H, h.ke, h.hg, h.off⟩
/-- One more status. -/
theorem KeLp.more (h : KeLp H0 H w0 w wr c kb bc bd rb bt lv bs K kv xs) (hw : w0.heap.size ≤ w.heap.size) {o : Obj} {y : ByteArray} {g cap n : Nat} (hn : xs.length + 1 = n) (hown : wr'.ownsRow w.heap.size 9 1 (.slice (some ⟨g, 0, none⟩) n cap) n (xs.flatMap encS ++ [.string y])) (hg : (wr.alloc o).grownBy wr' kv.ownBlock) (hor : kv.ownBlock = some g ∨ g = wr.heap.size + 1) : KeLp H0 H w0 w wr' c kb bc bd rb bt lv bs K (.slice (some ⟨g, 0, none⟩) n cap) (xs ++ [y]) := by
  have h1 := h.below (Below.one wr o)
  have hof : Off (fun k => kv.ownBlock = some k) (wr.alloc o) wr' := ⟨hg.os, hg.tape, hg.output, hg.size, fun k hk hn => hg.block k hk (fun e => hn e.symm)⟩
  have hlt : ∀ k, kv.ownBlock = some k → w.heap.size ≤ k := fun k hk => (h.own.lt k hk).1
  refine ⟨h1.ke.off hof (fun i k hk e => h.no k e i hk) (fun k hk => Nat.le_trans hw (hlt k hk)), fun i k hk => (h1.hg i k hk).imp id (fun ⟨a, b⟩ => ⟨a, Nat.lt_of_lt_of_le b hof.size⟩), h1.off.trans hof (fun k hk e => absurd (hlt k e) (by omega)), ?_, fun k hk i hi => ?_⟩
  · have e : (xs ++ [y]).flatMap encS = xs.flatMap encS ++ [.string y] := by rw [List.flatMap_append]; rfl
    show wr'.ownsRow _ _ _ _ _ _
    rw [e, List.length_append, List.length_singleton, hn]
    exact hown
  · cases hk
    rcases hor with hor | hor
    · exact h.no g hor i hi
    · have := h.ke.fam.lt i g hi; omega
theorem statsL_all {K : KSt} {n : Nat} (h : K.ls.length = n) : statsL K n = K.ls.map fun s => statB s.status := by unfold statsL; rw [List.take_of_length_le (by omega)]
/-- What end does. -/
def KSt.fins (c : CfgD) (K : KSt) : KSt × Nat := if (K.ends c c.ents.length).2 = 0 then ((K.ends c c.ents.length).1.last, 0) else K.ends c c.ents.length
theorem ke_tend (h : KeIn H w0 w c kb bc bd rb bt lv bs K) (hf : TFit K.t 20) (l : List ByteArray) (sa : Option Addr) (cap : Nat) (hl : ∀ V, w.grownBy V (some bt) → SlAt encS 1 V (.slice sa l.length cap) l) (hn : l.length ≤ 1000000) :
    Calls Tryz.prog 95 #[.pointer (some ⟨bt, 0, none⟩), .slice sa l.length cap] w fun e w' => (∃ y, e = .returned (.string y)) ∧ KeIn (updH H 4 w w') w0 w' c kb bc bd rb bt lv bs { K with t := K.t.fin l } ∧ Off (H 4) w w' := by
  refine (to_endG w0 w bt 20 K.t l sa cap h.to hf (by decide) hl hn).mono ?_
  rintro e w' ⟨rfl, ht, hg⟩
  have hof : Off (H 4) w w' := (Off.of_grown hg).mono (fun k _ e => by rw [e]; exact h.ht)
  exact ⟨⟨_, rfl⟩, h.toTot hof ht.heap, hof⟩
theorem ke_feed (h : KeIn H w0 w c kb bc bd rb bt lv bs K) (cy : Int) :
    Calls Tryz.prog 97 #[.agg #[.pointer (some ⟨bd, 0, none⟩), .int .i64 cy]] w fun e w' => e = .returned .nilIface ∧ KeIn (updH H 3 w w') w0 w' c kb bc bd rb bt lv bs { K with d := if K.d.isOpen = true then K.d.kick else K.d } ∧ Off (H 3) w w' := by
  refine (wd_feed cy h.dog).mono ?_
  rintro e w' ⟨rfl, hd, ho⟩
  have hof : Off (H 3) w w' := ho.mono (fun k _ e => by rw [e]; exact h.hd)
  exact ⟨rfl, h.toDog hof hd, hof⟩
set_option maxHeartbeats 8000000 in
set_option maxRecDepth 100000 in
theorem ke_end (h : KeIn H w0 w c kb bc bd rb bt lv bs K) (hs : SenK A w0) (hr : KRt c) (hf : KFit c K k W) (hn : k + K.d.now ≤ 900000) (hW : W + 200 ≤ 1099511627776) (ho : K.c.off = false) (h1 : 1 ≤ K.d.now) (hi : ∀ s ∈ K.ls, LFit s (k + K.d.now - 1)) :
    Calls Tryz.prog 64 #[.pointer (some ⟨kb, 0, none⟩)] w fun v w' => v = .returned (errVal A (K.fins c).2) ∧ KeTo H w0 w c kb bc bd rb bt lv bs (K.fins c).1 w' := by
  obtain ⟨i0, hi0, hz0, hz1, hz2⟩ := info_parts Tryz.infoStrE
  have c5 : w.cell? ⟨kb, 5, none⟩ = some lv := h.cell 5 _ rfl
  obtain ⟨la, lc, rfl⟩ := ow_form h.own
  rw [h.blen] at c5
  have hN8 := hr.nn
  obtain ⟨W1, hmk, hown1, hg1⟩ := run_make_own (P := Tryz.prog) w w.heap.size 33 9 i0 (.string ⟨#[]⟩) 1 Tryz.underlying33 hi0 hz0 hz1 .i64 .i64 c.ents.length (by rw [hz2]; omega) (by unfold maxLen; omega) (Nat.le_refl _)
  have hb1 : Below w.heap.size w W1 := ⟨hg1.os, hg1.tape, hg1.output, hg1.size, fun k hk => hg1.block k hk (by simp)⟩
  have HL : Hid (KeLp H H w0 w W1 c kb bc bd rb bt (.slice la bs.length lc) bs K (.slice (some ⟨w.heap.size, 0, none⟩) 0 c.ents.length) []) := ⟨h.below hb1, fun i k hk => Or.inl ⟨i, hk⟩, Off.of_below hb1 _, hown1, fun k hk i hi => by cases hk; exact Nat.lt_irrefl _ (h.fam.lt i _ hi)⟩
  have HW0 : Hid (w0.heap.size ≤ w.heap.size) := h.bel.size
  have HE : Hid (∀ n, KFit c (K.ends c n).1 k (W + 18 * n) ∧ ((K.ends c n).2 = 0 → (K.ends c n).1.c.off = false ∧ (K.ends c n).1.sp = false) ∧ (K.ends c n).1.d = K.d ∧ (K.ends c n).1.t = K.t ∧ ∀ j, n ≤ j → (K.ends c n).1.ls[j]? = K.ls[j]?) := hf.ends ho hi h1
  have HT2 : Hid ((∀ s ∈ K.ls, LFit s (k + K.d.now - 1)) ∧ 1 ≤ K.d.now ∧ k + K.d.now ≤ 900000 ∧ W + 200 ≤ 1099511627776 ∧ c.ents.length ≤ 8) := ⟨hi, h1, hn, hW, hr.nn⟩
  have HTot : Hid (TFit K.t 20) := hf.tot
  have HR : Hid (KRt c) := hr
  have HSv : Hid _ := hs
  have hbl := h.blen
  rw [hbl] at HL ⊢
  have c5' : W1.cell? ⟨kb, 5, none⟩ = some (.slice la c.ents.length lc) := cell_below hb1 c5
  clear h hs hr hf hn hW ho h1 hi hown1 hg1 hb1 hbl
  go_enter Tryz.func64, Tryz.ntmps64
  go_upto_region 1 with fail
  go_cut [3] (fun kv wx => kv = .slice (some ⟨w.heap.size, 0, none⟩) 0 c.ents.length ∧ wx = W1)
  case first =>
    go_wp2_with fail
    go_meet
    case rel => exact ⟨rfl, rfl⟩
  obtain ⟨rfl, rfl⟩ := hcut
  clear hmk c5
  rename World => W1
  go_upto_region 2 with fail
  go_cut [16, 17, 18] (fun l n i wx => l = .slice la c.ents.length lc ∧ n = .int .i64 (c.ents.length : Int) ∧ i = .int .i64 0 ∧ wx = W1)
  case first =>
    go_wp2_with fail
    go_meet
    case rel => exact ⟨rfl, rfl, rfl, rfl⟩
  obtain ⟨rfl, rfl, rfl, rfl⟩ := hcut
  clear c5'
  go_wp2_with fail
  go_loopw [3, 4, 5, 6, 18] (fun kv _ _ _ i wr => ∃ n : Nat, n ≤ c.ents.length ∧ i = .int .i64 n ∧ (K.ends c n).2 = 0 ∧ ∃ H1, KeLp H H1 w0 w wr c kb bc bd rb bt (.slice la c.ents.length lc) bs (K.ends c n).1 kv (statsL (K.ends c n).1 n)) (fun _ _ _ _ i _ => c.ents.length - (intOf i).toNat)
  case atStart => exact ⟨0, Nat.zero_le _, rfl, rfl, _, HL.out⟩
  case round =>
    clear HL
    obtain ⟨n, hnl, rfl, h0, H1, L⟩ := hrel
    have hsl : (statsL (K.ends c n).1 n).length = n := by unfold statsL; rw [List.length_map, List.length_take, L.ke.llen]; omega
    obtain ⟨ka, kc, hkv⟩ := ow_form L.own
    rw [hsl] at hkv
    subst hkv
    have HSl : Hid ((statsL (K.ends c n).1 n).length = n) := hsl
    clear hsl
    by_cases hlt : n < c.ents.length
    · have hlen : (K.ends c n).1.ls.length = c.ents.length := L.ke.llen
      obtain ⟨s, hs⟩ : ∃ s, (K.ends c n).1.ls[n]? = some s := ⟨_, List.getElem?_eq_getElem (by omega)⟩
      obtain ⟨b, e, g, cap, hb, he, hlv, cp, h4⟩ := L.ke.locAt hs
      rw [hlen] at hlv
      simp only [Value.slice.injEq, true_and] at hlv
      obtain ⟨rfl, rfl⟩ := hlv
      obtain ⟨f1, f2, f3, f4, f5⟩ := HE.out n
      have f2' := f2 h0
      have hT2 := HT2.out
      have HX : Hid _ := ke_endOf (A := A) n b L.ke HSv.out HR.out f1 (by rw [f3]; exact hT2.2.2.1) (by omega) f2'.1 (by rw [f3]; exact hT2.2.1) (by rw [f3]; exact hT2.1 s (by rw [f5 n (Nat.le_refl _)] at hs; exact List.mem_of_getElem? hs)) hs hb he (by omega)
      have HStep : Hid (K.ends c (n + 1) = (K.ends c n).1.endOne c n) := by
        show (if (K.ends c n).2 = 0 then (K.ends c n).1.endOne c n else K.ends c n) = _
        rw [if_pos h0]
      have hst := ends_step c K n h0 hs he
      have HLs : Hid ((K.ends c (n + 1)).1.ls[n]? = some (s.fin e) ∧ statsL (K.ends c (n + 1)).1 (n + 1) = statsL (K.ends c n).1 n ++ [statB (s.fin e).status]) := by
        have hls : (K.ends c (n + 1)).1.ls = ((K.ends c n).1.setL n (s.fin e)).ls := by
          rw [hst]
          split
          · rw [app_ls]
          · rfl
        refine ⟨?_, ?_⟩
        · rw [hls]
          show (List.set _ _ _)[n]? = _
          rw [List.getElem?_set_self (by omega)]
        · rw [← stats_set (s := s.fin e) (by omega : n < (K.ends c n).1.ls.length)]
          unfold statsL
          rw [hls]
      rw [← HStep.out] at HX
      have HBE : Hid (bs[n]? = some b ∧ c.ents[n]? = some e) := ⟨hb, he⟩
      have HL : Hid _ := L
      have k1 : (n : Int) < (c.ents.length : Int) := by omega
      have k2 : n < 8 := by omega
      clear L hb he h4 hs hlen f1 f2 f3 f4 f5 f2' hT2 hst
      go_wp2_with fail
      refine Calls.mono HX.out ?_
      rintro u w3 ⟨rfl, hto⟩
      obtain ⟨H3, L3⟩ := HL.out.to hto
      by_cases hc0 : (K.ends c (n + 1)).2 = 0
      · rw [hc0, show errVal A 0 = .nilIface from rfl]
        have HSt : Hid _ := los_status (L3.ke.loc n b e (s.fin e) HBE.out.1 HBE.out.2 HLs.out.1)
        have hO5 : w3.ownsRow w.heap.size 9 1 (.slice ka n kc) n ((statsL (K.ends c n).1 n).flatMap encS) := by
          have : w3.ownsRow w.heap.size 9 1 (.slice ka n kc) (statsL (K.ends c n).1 n).length ((statsL (K.ends c n).1 n).flatMap encS) := L3.own
          rwa [HSl.out] at this
        have hz3 : w.heap.size ≤ w3.heap.size := L3.off.size
        have HL3 : Hid _ := L3
        have HO5 : Hid _ := hO5
        obtain ⟨y, hy⟩ : ∃ y, y = statB (s.fin e).status := ⟨_, rfl⟩
        have HY : Hid (y = statB (s.fin e).status) := hy
        rw [← hy] at HSt
        clear hy L3 hO5 hto HX
        go_wp2_with fail
        refine Calls.mono HSt.out ?_
        rintro u w5 ⟨rfl, rfl⟩
        go_wp2_with (at_builtin; refine wpList_append_lies _ rfl _ _ 33 rfl w.heap.size 9 i0 (.string ⟨#[]⟩) 1 16 Tryz.underlying33 hi0 hz0 hz1 hz2 rfl (by decide) (.slice ka n kc) n ((statsL (K.ends c n).1 n).flatMap encS) rfl (World.ownsRow.alloc HO5.out _) ⟨w5.heap.size, 0, none⟩ 1 1 [.string y] rfl rfl (ce_at w5 [.string y] 9) (fun u hu => by rw [List.mem_singleton] at hu; subst hu; rfl) (by decide) (by unfold maxLen; omega) (by omega) (by simp; omega) (w5.heap.size + 1) (by simp) ?_; intro gg cc w12 hown hg hor hlt12)
        have L5 := HL3.out.more HW0.out (by rw [HSl.out]) hown hg hor
        have HL5 : Hid _ := L5
        clear L5 hown hg hor hlt12 HO5 HSt cp
        go_roundw
        case rel => exact ⟨n + 1, by omega, by go_num, hc0, H3, by rw [HLs.out.2, ← HY.out]; exact HL5.out⟩
        case measure => simp [intOf]; omega
      · obtain ⟨j, hj⟩ := errVal_pos (A := A) hc0
        have HEnd : Hid (K.fins c = K.ends c (n + 1)) := by
          show _ = _
          have := ends_stop c K hc0 (n := c.ents.length) (by omega)
          unfold KSt.fins
          rw [this, if_neg hc0]
        have HJ : Hid _ := hj
        rw [hj]
        have HK3 : Hid _ := L3.kt
        clear L3 hto hj HX cp
        go_wp2
        go_ret
        rw [HEnd.out, HJ.out]
        exact ⟨rfl, HK3.out⟩
    · obtain rfl : n = c.ents.length := by omega
      have k1 : ¬ (c.ents.length : Int) < (c.ents.length : Int) := by omega
      obtain ⟨f1, f2, f3, f4, f5⟩ := HE.out c.ents.length
      have hlen : (K.ends c c.ents.length).1.ls.length = c.ents.length := L.ke.llen
      have hall := statsL_all hlen
      have e6 : wr.cell? ⟨kb, 6, none⟩ = some (.pointer (some ⟨bt, 0, none⟩)) := L.ke.cell 6 _ rfl
      have hown := L.own
      have hno := L.no
      have HX : Hid _ := ke_tend L.ke f1.tot (statsL (K.ends c c.ents.length).1 c.ents.length) ka kc (fun V hV => by
        rw [HSl.out]
        have : SlOwn encS 1 9 w.heap.size V (.slice ka c.ents.length kc) (statsL (K.ends c c.ents.length).1 c.ents.length) := SlOwn.same hown (fun g hg => hV.block g (hown.lt g hg).2 (fun e => hno g hg 4 (by have := Option.some.inj e; rw [this]; exact L.ke.ht)))
        exact this.slat (fun _ => rfl)) (by rw [HSl.out]; omega)
      rw [HSl.out] at HX
      have HL : Hid _ := L
      have HFin : Hid (K.fins c = ((K.ends c c.ents.length).1.last, 0)) := by show _ = _; unfold KSt.fins; rw [if_pos h0]
      have HTl : Hid (statsL (K.ends c c.ents.length).1 c.ents.length = (K.ends c c.ents.length).1.ls.map fun s => statB s.status) := hall
      have HT3 : Hid (((K.ends c c.ents.length).1.t.fin (statsL (K.ends c c.ents.length).1 c.ents.length)).st ≤ 3) := (f1.tot.fin20 _).st
      clear L hown hno f1 f2 f3 f4 f5 hlen hall
      go_wp2_with fail
      refine Calls.mono HX.out ?_
      rintro u w3 ⟨⟨y, rfl⟩, hk3, hof3⟩
      have e6' : w3.cell? ⟨kb, 6, none⟩ = some (.pointer (some ⟨bt, 0, none⟩)) := hk3.cell 6 _ rfl
      have e0 : w3.cell? ⟨kb, 0, none⟩ = some (.pointer (some ⟨bd, 0, none⟩)) := hk3.cell 0 _ rfl
      have e1 : w3.cell? ⟨kb, 1, none⟩ = some (.int .i64 c.cycle) := hk3.cell 1 _ rfl
      have HMay : Hid _ := to_may hk3.to HT3.out
      have HK3 : Hid (KeTo H w0 w c kb bc bd rb bt (.slice la c.ents.length lc) bs _ w3) := KeTo.trans HL.out.hg HL.out.off (KeTo.one hof3 hk3)
      have HFd : Hid _ := ke_feed hk3 c.cycle
      have HK4 : Hid (∀ w4, Off (updH H1 4 wr w3 3) w3 w4 → KeIn (updH (updH H1 4 wr w3) 3 w3 w4) w0 w4 c kb bc bd rb bt (.slice la c.ents.length lc) bs { ({ (K.ends c c.ents.length).1 with t := (K.ends c c.ents.length).1.t.fin (statsL (K.ends c c.ents.length).1 c.ents.length) } : KSt) with d := if (K.ends c c.ents.length).1.d.isOpen = true then (K.ends c c.ents.length).1.d.kick else (K.ends c c.ents.length).1.d } → KeTo H w0 w c kb bc bd rb bt (.slice la c.ents.length lc) bs { ({ (K.ends c c.ents.length).1 with t := (K.ends c c.ents.length).1.t.fin (statsL (K.ends c c.ents.length).1 c.ents.length) } : KSt) with d := if (K.ends c c.ents.length).1.d.isOpen = true then (K.ends c c.ents.length).1.d.kick else (K.ends c c.ents.length).1.d } w4) := fun w4 hof4 hk4 => by
        have t1 : KeTo H1 w0 wr c kb bc bd rb bt (.slice la c.ents.length lc) bs _ w4 := KeTo.trans (H1 := updH H1 4 wr w3) (updH_all (fun i _ hk => ⟨i, hk⟩) 4) (Off.all (fun i _ hk => ⟨i, hk⟩) hof3) (KeTo.one hof4 hk4)
        exact KeTo.trans HL.out.hg HL.out.off t1
      clear hk3 hof3 HX e6 HL
      generalize hK1 : (K.ends c c.ents.length).1 = K1 at HMay HK3 HFd HK4 HFin HTl HT3
      generalize hl : statsL K1 c.ents.length = l at HMay HK3 HFd HK4 HTl HT3
      clear hl hK1
      by_cases h3 : (K1.t.fin l).st = 3
      · have HM : Hid (decide ((K1.t.fin l).st ≠ 3) = false) := decide_eq_false (fun e => e h3)
        have HLast : Hid (K1.last = { K1 with t := K1.t.fin l }) := by
          show _ = _
          unfold KSt.last
          simp only [← HTl.out]
          rw [if_neg (fun e => e.1 h3)]
        rw [HM.out] at HMay
        go_wp2_with fail
        refine Calls.mono HMay.out ?_
        rintro u w4 ⟨rfl, rfl⟩
        go_wp2
        go_ret
        rw [HFin.out, HLast.out]
        exact ⟨rfl, HK3.out⟩
      · have HM : Hid (decide ((K1.t.fin l).st ≠ 3) = true) := decide_eq_true h3
        have HLast : Hid (K1.last = { ({ K1 with t := K1.t.fin l } : KSt) with d := if K1.d.isOpen = true then K1.d.kick else K1.d }) := by
          show _ = _
          unfold KSt.last
          simp only [← HTl.out]
          cases ho : K1.d.isOpen
          · rw [if_neg (fun e => by cases e.2)]; rfl
          · rw [if_pos ⟨h3, rfl⟩]; rfl
        rw [HM.out] at HMay
        go_wp2_with fail
        refine Calls.mono HMay.out ?_
        rintro u w4 ⟨rfl, rfl⟩
        go_wp2_with fail
        refine Calls.mono HFd.out ?_
        rintro u w5 ⟨rfl, hk5, hof5⟩
        go_wp2
        go_ret
        rw [HFin.out, HLast.out]
        exact ⟨rfl, HK4.out w5 hof5 hk5⟩
end
end Go.Proofs.YtdpdbfhbojgigacGreatDoor

namespace Go.Proofs.YtdpdbfhbojgigacGreatDoor
open Go.RowKit Go.Extern.Stop Go.Stop Go.Extern

section
variable {A : Nat → Addr} {H : Nat → Nat → Prop} {F : Nat → Prop} {w0 w w' : World} {c : CfgD} {kb bc bd rb bt : Nat} {lv : Value} {bs : List Nat} {K : KSt} {k W : Nat}
theorem ke_step (h : KeIn H w0 w c kb bc bd rb bt lv bs K) (hs : SenK A w0) (hr : KRt c) (hre : K.d.reset = false) (hn : K.d.now < 1099511627776) :
    Calls Tryz.prog 63 #[.agg #[.pointer (some ⟨bd, 0, none⟩), .int .i64 c.cycle]] w fun e w' => e = wdOut A K.d c.cycle.toNat ∧ KeIn (updH H 3 w w') w0 w' c kb bc bd rb bt lv bs K.ticked ∧ Off (H 3) w w' := by
  have hcy := hr.cy
  have h1 := wd_step (A := A) c.cycle.toNat h.dog hre hn (by omega) hs h.bel (h.fam.lo 3 bd h.hd)
  rw [show ((c.cycle.toNat : Nat) : Int) = c.cycle by omega] at h1
  refine h1.mono ?_
  rintro e w' ⟨rfl, hd, ho⟩
  have hof : Off (H 3) w w' := ho.mono (fun k _ e => by rw [e]; exact h.hd)
  exact ⟨rfl, h.toDog hof hd, hof⟩
theorem tick_fins (c : CfgD) (K : KSt) (ho : K.on = 0) (hre : K.ticked.d.reset = false) (hm : K.ticked.d.now % c.cycle.toNat = 0) : K.tick c = K.ticked.fins c := by
  unfold KSt.tick KSt.fins
  rw [if_neg (by omega), if_neg (by rw [hre]; simp), if_neg (by omega)]
set_option maxHeartbeats 2000000 in
theorem ke_tick (h : KeAt F w0 w c kb bc K) (hs : SenK A w0) (hr : KRt c) (hf : KFit c K k (144 * K.d.now)) (hn : k + K.d.now + 1 ≤ 900000) :
    Calls Tryz.prog 25 #[.pointer (some ⟨kb, 0, none⟩)] w fun e w' => e = .returned (errVal A (K.tick c).2) ∧ KePost F w0 w c kb bc (K.tick c).1 w' := by
  have HS : Hid (KePost F w0 w c kb bc K w) := KePost.same h
  obtain ⟨H, bd, rb, bt, lv, bs, h1, hF⟩ := h
  have HC : Hid _ := ke_ready h1 hs
  by_cases ho : K.on = 0
  · rw [ho, show errVal A 0 = .nilIface from rfl] at HC
    obtain ⟨o1, o2⟩ := KSt.on_zero.1 ho
    have c0 : w.cell? ⟨kb, 0, none⟩ = some (.pointer (some ⟨bd, 0, none⟩)) := h1.cell 0 _ rfl
    have c1 : w.cell? ⟨kb, 1, none⟩ = some (.int .i64 c.cycle) := h1.cell 1 _ rfl
    have HX : Hid _ := ke_step h1 hs hr o2 (by omega)
    have HF : Hid _ := hF
    have HR : Hid _ := hr
    have HSv : Hid _ := hs
    have HFit : Hid (KFit c K.ticked k (144 * K.d.now) ∧ (∀ s ∈ K.ticked.ls, LFit s (k + K.ticked.d.now - 1)) ∧ 1 ≤ K.ticked.d.now ∧ K.ticked.c.off = false ∧ k + K.ticked.d.now ≤ 900000) := by
      obtain ⟨t1, t2, t3⟩ := hf.ticked (by omega)
      exact ⟨t1, t2, t3, o1, by show k + (K.d.now + 1) ≤ 900000; omega⟩
    cases hre : K.ticked.d.reset
    · by_cases hm : K.ticked.d.now % c.cycle.toNat = 0
      · have HB : Hid (K.tick c = K.ticked.fins c) := tick_fins c K ho hre hm
        have e : wdOut A K.d c.cycle.toNat = .returned (.tuple #[.bool true, .nilIface]) := by
          unfold wdOut
          rw [show K.d.tick.reset = false from hre, decide_eq_true (show K.d.tick.now % c.cycle.toNat = 0 from hm)]
          rfl
        rw [e] at HX
        clear h1 hs hr hf hn ho hre hm e o1 o2 hF HS
        go_enter Tryz.func25, Tryz.ntmps25
        go_wp2_with fail
        refine Calls.mono HC.out ?_
        rintro u w2 ⟨rfl, rfl⟩
        go_wp2_with fail
        refine Calls.mono HX.out ?_
        rintro u w3 ⟨rfl, hk3, hof3⟩
        have HE : Hid _ := ke_end hk3 HSv.out HR.out HFit.out.1 HFit.out.2.2.2.2 (by have := HFit.out.2.2.2.2; have e : K.ticked.d.now = K.d.now + 1 := rfl; omega) HFit.out.2.2.2.1 HFit.out.2.2.1 HFit.out.2.1
        have HO3 : Hid _ := hof3
        clear hk3 hof3 HX HC
        go_wp2_with fail
        refine Calls.mono HE.out ?_
        rintro u w4 ⟨rfl, hto⟩
        go_wp2
        go_ret
        rw [HB.out]
        exact ⟨rfl, (KeTo.trans (updH_all (fun i _ hk => ⟨i, hk⟩) 3) (Off.all (fun i _ hk => ⟨i, hk⟩) HO3.out) hto).post HF.out⟩
      · have HB : Hid (K.tick c = (K.ticked, 0)) := by show _ = _; unfold KSt.tick; rw [if_neg (by omega), if_neg (by rw [hre]; simp), if_pos hm]
        have e : wdOut A K.d c.cycle.toNat = .returned (.tuple #[.bool false, .nilIface]) := by
          unfold wdOut
          rw [show K.d.tick.reset = false from hre, decide_eq_false (show ¬ K.d.tick.now % c.cycle.toNat = 0 from hm)]
          rfl
        rw [e] at HX
        clear h1 hs hr hf hn ho hre hm e o1 o2 hF HS
        go_enter Tryz.func25, Tryz.ntmps25
        go_wp2_with fail
        refine Calls.mono HC.out ?_
        rintro u w2 ⟨rfl, rfl⟩
        go_wp2_with fail
        refine Calls.mono HX.out ?_
        rintro u w3 ⟨rfl, hk3, hof3⟩
        go_wp2
        go_ret
        rw [HB.out]
        exact ⟨rfl, KeIn.post HF.out hof3 hk3⟩
    · have HB : Hid (K.tick c = (K.ticked, 11)) := by show _ = _; unfold KSt.tick; rw [if_neg (by omega), if_pos hre]
      have e : wdOut A K.d c.cycle.toNat = .returned (.tuple #[.bool false, .iface 298 (.pointer (some (A 10)))]) := by
        unfold wdOut
        rw [show K.d.tick.reset = true from hre]
        rfl
      rw [e] at HX
      clear h1 hs hr hf hn ho hre e o1 o2 hF HS
      go_enter Tryz.func25, Tryz.ntmps25
      go_wp2_with fail
      refine Calls.mono HC.out ?_
      rintro u w2 ⟨rfl, rfl⟩
      go_wp2_with fail
      refine Calls.mono HX.out ?_
      rintro u w3 ⟨rfl, hk3, hof3⟩
      go_wp2
      go_ret
      rw [HB.out]
      exact ⟨rfl, KeIn.post HF.out hof3 hk3⟩
  · have HB : Hid (K.tick c = (K, K.on)) := by show _ = _; unfold KSt.tick; rw [if_pos ho]
    obtain ⟨j, hj⟩ := errVal_pos (A := A) ho
    have HJ : Hid _ := hj
    rw [hj] at HC
    clear h1 hF ho hs hj hr hf hn
    go_enter Tryz.func25, Tryz.ntmps25
    go_wp2_with fail
    refine Calls.mono HC.out ?_
    rintro u w2 ⟨rfl, rfl⟩
    go_wp2
    go_ret
    rw [HB.out, HJ.out]
    exact ⟨rfl, HS.out⟩
end
end Go.Proofs.YtdpdbfhbojgigacGreatDoor

namespace Go.Proofs.YtdpdbfhbojgigacGreatDoor
open Go.RowKit Go.Extern.Stop Go.Stop Go.Extern

section
variable {A : Nat → Addr} {F : Nat → Prop} {w0 w w' : World} {c : CfgD} {kb bc : Nat} {K : KSt}
theorem ke_cut (n : Int) (h : KeAt F w0 w c kb bc K) (hs : SenK A w0) :
    Calls Tryz.prog 30 #[.pointer (some ⟨bc, 0, none⟩), .int .i64 n] w fun e w' => e = .returned (errVal A (K.cut n).2) ∧ KePost F w0 w c kb bc (K.cut n).1 w' := by
  obtain ⟨H, bd, rb, bt, lv, bs, h1, hF⟩ := h
  refine (rgs_cut (A := A) h1.ring (h1.senv hs).four n).mono ?_
  rintro e w' ⟨rfl, h2, h3⟩
  have h4 := h1.toRing h3 h2
  have e1 : (K.cut n).1 = { K with c := (K.cut n).1.c, L := (K.cut n).1.L, sp := (K.cut n).1.sp } := by
    unfold KSt.cut
    split
    · rfl
    · split <;> rfl
  rw [← e1] at h4
  exact ⟨rfl, KeIn.post hF h3 h4⟩
theorem KeAt.cellsAt (h : KeAt F w0 w c kb bc K) : CellsAt w bc K.c := by
  obtain ⟨H, bd, rb, bt, lv, bs, h1, -⟩ := h
  exact h1.ring.cells
end
end Go.Proofs.YtdpdbfhbojgigacGreatDoor
