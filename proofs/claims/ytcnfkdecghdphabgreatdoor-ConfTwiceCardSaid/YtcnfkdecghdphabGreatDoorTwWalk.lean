/-
  nightwatchlaw1.ConfTwice told by a contract: it answers true; nothing that was there turns. Conditions: the sentinels, the keywords and the table of powers of ten lie in memory; so does strings.Split's variable.
-/
import Derived.Test.YtcnfkdecghdphabGreatDoorCfRRead
import Derived.Test.YtcnfkdecghdphabGreatDoorCfTextAll
namespace Go.Proofs.YtcnfkdecghdphabGreatDoor
open Go.RowKit Go.Extern.Stop Go.Stop Go.Extern Go.Maps

theorem readR_bad {look : Look} {s : Bs} (h : (readR look s).1.1 ≠ 0) : (readR look s).2 = cfg0 := by
  unfold readR at h ⊢
  split
  · rfl
  · rename_i h8
    rw [if_neg h8] at h
    split
    · rename_i h0
      rw [if_pos h0] at h
      split
      · rename_i h1; rw [if_pos h1] at h; simp at h
      · rfl
    · rfl
theorem readR_well {look : Look} {s : Bs} (h : (readR look s).1.1 = 0) : (cfgErr (readR look s).2).1 = 0 := by
  unfold readR at h ⊢
  split
  · rename_i h8; rw [if_pos h8] at h; simp at h
  · rename_i h8
    rw [if_neg h8] at h
    split
    · rename_i h0
      rw [if_pos h0] at h
      split
      · rename_i h1; exact h1
      · rename_i h1; rw [if_neg h1] at h; exact absurd h h1
    · rename_i h0; rw [if_neg h0] at h; exact absurd h h0
theorem bytes_no {a b : ByteArray} (h : ¬ a = b) : (a.toList == b.toList) = false ∧ ¬ a.toList = b.toList := bytes_n2 h
set_option maxHeartbeats 4000000 in
set_option maxRecDepth 100000 in
theorem twice_in (A : Nat → Addr) (s : ByteArray) (w : World) (hs : Sen6 A w) (hK : KwAt w) (hT : TabAt w) (hM : MxAt w) (hG : (max 12 16 + 1) ≤ w.heap.size) (hl : s.size ≤ 2000) :
    Calls Tryz.prog 3 #[.string s] w fun v w' => v = .returned (.bool true) ∧ Below w.heap.size w w' := by
  have HT : Hid _ := told_at A w hs hK hT hG
  have HR : Hid (∀ W, Below w.heap.size w W → Calls Tryz.prog 6 #[.string s] W _) := fun W hW => read_at A s W (hs.below hW) (hK.below hW (Nat.lt_of_lt_of_le (by omega) hG)) (hM.below hW) (by omega)
  have HX : Hid (∀ (c : CfgD) sa sc W, Below w.heap.size w W → EntsAt W (.slice sa c.ents.length sc) c.ents → SmallC c → (cfgErr c).1 = 0 → Calls Tryz.prog 7 #[.agg #[.int .i64 c.closed, .int .i64 c.opn, .int .i64 c.cycle, .int .i64 c.delay, .slice sa c.ents.length sc]] W _) := fun c sa sc W hW hE hS h0 => text_right A c sa sc W (hs.below hW) (hK.below hW (Nat.lt_of_lt_of_le (by omega) hG)) (hT.below hW hG) (Nat.le_trans hG hW.size) hE hS h0
  have l1 : ¬ (2000 : Int) < (s.size : Int) := by omega
  clear hs hK hT hM hG
  go_enter Tryz.func3, Tryz.ntmps3
  go_wp2_with fail
  refine Calls.mono HT.out ?_
  rintro v w1 ⟨rfl, hb1⟩
  have HB1 : Hid (Below w.heap.size w w1) := hb1
  clear hb1 HT
  go_wp2_with fail
  refine Calls.mono (HR.out w1 HB1.out) ?_
  rintro v w2 ⟨c, sv, ev, rfl, hb2, hc, ⟨B', hE⟩, hErr, hSm⟩
  obtain ⟨va, vc, rfl, -⟩ := id hE.ents
  have HB2 : Hid (Below w.heap.size w w2) := HB1.out.trans (hb2.mono HB1.out.size)
  have HC : Hid (c = (readR lookL (bl s)).2) := hc
  have HE : Hid (EntsOwn B' w2 (.slice va c.ents.length vc) c.ents ∧ SmallC c) := ⟨hE, hSm⟩
  have HErr : Hid (ErrAt A w2 ev (readR lookL (bl s)).1) := hErr
  clear hb2 hc hE hErr hSm HR
  by_cases h0 : (readR lookL (bl s)).1.1 = 0
  · have hev := HErr.out.nil h0
    subst hev
    have H0 : Hid ((readR lookL (bl s)).1.1 = 0) := h0
    clear h0 HErr
    obtain ⟨V, hV⟩ : ∃ V, V = w2.alloc (.cells #[.int .i64 c.closed, .int .i64 c.opn, .int .i64 c.cycle, .int .i64 c.delay, .slice va c.ents.length vc] 25) := ⟨_, rfl⟩
    have HBV : Hid (Below w.heap.size w V) := by show Below _ _ _; rw [hV]; exact HB2.out.trans ((Below.one _ _).mono HB2.out.size)
    have HV4 : Hid (V.heap[w2.heap.size]? = some (.cells #[.int .i64 c.closed, .int .i64 c.opn, .int .i64 c.cycle, .int .i64 c.delay, .slice va c.ents.length vc] 25 (0, 0))) := by show _ = _; rw [hV]; exact heap_alloc_new w2 _
    have HEV : Hid (EntsAt V (.slice va c.ents.length vc) c.ents) := by show EntsAt _ _ _; rw [hV]; exact (HE.out.1.below (Below.one _ _)).ents
    go_upto_region 7 with fail
    rw [← hV]
    clear hV
    go_wp2_with (refine wpList_load_row rfl 25 _ rfl w2.heap.size rfl _ _ _ _ HV4.out Tryz.underlying25 rfl Tryz.sizeCfg ?_)
    refine Calls.mono (HX.out c va vc V HBV.out HEV.out HE.out.2 (by rw [HC.out]; exact readR_well H0.out)) ?_
    rintro v w3 ⟨rfl, hb3⟩
    have HB3 : Hid (Below w.heap.size w w3) := HBV.out.trans (hb3.mono HBV.out.size)
    clear hb3 HX
    obtain ⟨t, ht⟩ : ∃ t : ByteArray, t = ⟨(confText c).toArray⟩ := ⟨_, rfl⟩
    rw [← ht]
    have hcase : t = s ∨ t = s ++ ⟨#[10]⟩ := by
      have := read_text good_lookL H0.out
      rw [← HC.out] at this
      rcases this with h | h
      · left; rw [ht, h]; exact bl_inj (bl_mk _)
      · right; rw [ht, h]; apply bl_inj; rw [bl_mk]; simp [bl]
    clear ht
    by_cases hts : t = s
    · subst hts
      clear hcase
      go_wp2
      go_ret
      exact ⟨rfl, HB3.out⟩
    · obtain rfl : t = s ++ ⟨#[10]⟩ := hcase.resolve_left hts
      have n1 := (bytes_no hts).1
      have n2 := (bytes_no hts).2
      clear hcase
      go_wp2
      go_ret
      exact ⟨rfl, HB3.out⟩
  · obtain ⟨et, ex, he⟩ := HErr.out.some h0
    subst he
    have hlen : c.ents.length = 0 := by rw [HC.out, readR_bad h0]; rfl
    rw [hlen]
    clear h0 hlen
    go_wp2
    go_ret
    exact ⟨rfl, HB2.out.trans ((Below.one _ _).mono HB2.out.size)⟩
end Go.Proofs.YtcnfkdecghdphabGreatDoor
