/-
  (*conf.reader).line by a contract: 'lineR'. Conditions: as take's; a line of at most a million bytes.
-/
import Derived.Test.YtcnfkdecghdphabGreatDoorCfRTake
import Derived.Test.YtcnfkdecghdphabGreatDoorCfRKind
import Derived.Test.YtcnfkdecghdphabGreatDoorCfSplit
import Derived.Test.YtcnfkdecghdphabGreatDoorShelf
namespace Go.Proofs.YtcnfkdecghdphabGreatDoor
open Go.RowKit Go.Extern.Stop Go.Stop Go.Extern Go.Maps

theorem take_any (A : Nat → Addr) (w0 w : World) (rb k : Nat) (c : CfgD) (last : Int) (sa : Option Addr) (ws : List ByteArray) (wb wo wc : Nat) (hs : Sen6 A w0) (hb0 : Below w0.heap.size w0 w) (h : RdS w0.heap.size rb w c last) (hW : WordsAt w sa ws wb wo) (hk : k < 10) (hA : k ≤ 2 → c.ents = []) (hB : 4 ≤ k → c.ents ≠ []) (hn : c.ents.length ≤ 1000000) (hz : ∀ e ∈ c.ents, SzE 1000000 e) :
    Calls Tryz.prog 49 #[.pointer (some ⟨rb, 0, none⟩), .int .i64 (k : Int), .slice sa ws.length wc] w fun v w' => v = .returned (errV A (fillV (lookL (lastPts c.ents)) false (form k) (ws.map bl)).1) ∧ Below w0.heap.size w0 w' ∧ ((fillV (lookL (lastPts c.ents)) false (form k) (ws.map bl)).1 = 0 → RdS w0.heap.size rb w' (updC c k (ws.map bl) (fillV (lookL (lastPts c.ents)) false (form k) (ws.map bl)).2) last) := by
  have none_of : c.ents = [] → RdN w0.heap.size rb w c last := fun he => by
    rcases h with h | ⟨L, g, cap, mb, es, e, x, cells, he2, -⟩
    · exact h
    · rw [he] at he2; simp at he2
  match k, hk with
  | 0, _ => exact take_k0 A w0 w rb c last sa ws wb wo wc hs hb0 (none_of (hA (by decide))) hW
  | 1, _ => exact take_k1 A w0 w rb c last sa ws wb wo wc hs hb0 (none_of (hA (by decide))) hW
  | 2, _ => exact take_k2 A w0 w rb c last sa ws wb wo wc hs hb0 (none_of (hA (by decide))) hW
  | 3, _ => exact take_k3 A w0 w rb c last sa ws wb wo wc hs hb0 h hW hn
  | k + 4, hk =>
    rcases h with h | ⟨L, g, cap, mb, es, e, x, cells, he, h, hL⟩
    · exact absurd h.nil (hB (by omega))
    · exact take_part (k + 4) A w0 w rb c last sa ws wb wo wc hs hb0 (by omega) hk L g cap mb es e x cells he h hL hW (by rw [he] at hn; simp at hn; omega) (hz e (by rw [he]; simp))
/-- The kind of the last line is set. -/
theorem RdS.setLast {B rb : Nat} {w : World} {c : CfgD} {last : Int} (h : RdS B rb w c last) (k : Int) : RdS B rb (w.setCell ⟨rb, 5, none⟩ (.int .i64 k)) c k := by
  have hg := grown_cell w rb 5 (.int .i64 k)
  rcases h with h | ⟨L, g, cap, mb, es, e, x, cells, he, h, hL⟩
  · refine Or.inl ⟨h.lo, h.nil, ?_⟩
    simp only [World.setCell, Array.getElem?_modify, h.row]
    simp [rdRow]
  · refine Or.inr ⟨L, g, cap, mb, es, e, x, cells, he, ⟨⟨h.lo, h.loL, h.lom, ?_, h.ents.kept hg (Or.inr (own_ne h.ents h.row (by decide))), h.clen, fun i e' he' => ?_, h.new.other hg h.row (by decide) (by decide) (by decide) (by decide), h.fl⟩, ?_⟩, by simpa [World.setCell] using hL⟩
    · simp only [World.setCell, Array.getElem?_modify, h.row]
      simp [rdRow]
    · obtain ⟨x', a, b, d⟩ := h.olds i e' he'
      exact ⟨x', a.other hg h.row (by decide) (by decide) (by decide) (by decide), b, d⟩
    · obtain ⟨D, a, b⟩ := h.map
      refine ⟨D, a.kept hg ?_, b⟩
      intro e2
      obtain ⟨es', cl, a1, -⟩ := a
      simp only [Option.some.injEq] at e2
      rw [e2, h.row] at a1
      cases a1
theorem RdS.c5 {B rb : Nat} {w : World} {c : CfgD} {last : Int} (h : RdS B rb w c last) : w.cell? ⟨rb, 5, none⟩ = some (.int .i64 last) ∧ w.frozen? ⟨rb, 5, none⟩ = false ∧ B ≤ rb := by
  rcases h with h | ⟨L, g, cap, mb, es, e, x, cells, he, h, hL⟩
  · exact ⟨by simp [World.cell?, h.row, rdRow], by simp [World.frozen?, h.row], h.lo⟩
  · exact ⟨by simp [World.cell?, h.row, rdRow], by simp [World.frozen?, h.row], h.lo⟩
theorem RdS.below {B rb : Nat} {w w' : World} {c : CfgD} {last : Int} (h : RdS B rb w c last) (hb : Below w.heap.size w w') : RdS B rb w' c last := by
  rcases h with h | ⟨L, g, cap, mb, es, e, x, cells, he, h, hL⟩
  · exact Or.inl ⟨h.lo, h.nil, row_below hb h.row⟩
  · exact Or.inr ⟨L, g, cap, mb, es, e, x, cells, he, h.below hb, Nat.le_trans hL hb.size⟩
/-- The variable that strings.Split asks for. -/
def MxAt (w : World) : Prop := ∃ m : Int, w.cell? ⟨13, 0, none⟩ = some (.int .i64 m)
theorem MxAt.below {w w' : World} (h : MxAt w) (hb : Below w.heap.size w w') : MxAt w' := h.elim fun m hm => ⟨m, cell_below hb hm⟩
theorem split_at (s sep : ByteArray) (w : World) (h : MxAt w) (hs : s.size < 4294967281) (h1 : 1 ≤ sep.size) :
    Calls Tryz.prog 15 #[.string s, .string sep] w fun e w' => e = .returned (.slice (some ⟨w.heap.size, 0, none⟩) (Lib.countB s sep + 1) (Lib.countB s sep + 1)) ∧ w' = w.alloc (.cells ((Lib.splitB sep 0 (Lib.countB s sep) s).map Value.string).toArray 9) := by
  obtain ⟨m, hm⟩ := h
  exact Any.strings_Split { Tryz.laysM146 with } Tryz.laysM146.i9 s sep m w hs hm h1
/-- The words of a line. -/
theorem words_of (s sep : ByteArray) (hsep : sep.data.toList = [32]) : ∃ (h : ByteArray) (t : List ByteArray), Lib.splitB sep 0 (Lib.countB s sep) s = h :: t ∧ cutBy 32 (bl s) = bl h :: t.map bl ∧ t.length = Lib.countB s sep := by
  have e := splitB_one 32 s sep hsep
  have hl := Lib.splitB_all sep (by rw [← ByteArray.size_data, ← Array.length_toList, hsep]; decide) 0 _ s rfl
  cases hc : Lib.splitB sep 0 (Lib.countB s sep) s with
  | nil => rw [hc] at hl; simp at hl
  | cons h t =>
    rw [hc] at e hl
    exact ⟨h, t, rfl, by show cutBy 32 s.data.toList = _; rw [← e]; rfl, by simpa using hl⟩
theorem cut_sizes (c : UInt8) : ∀ (l : List UInt8), (∀ x ∈ cutBy c l, x.length ≤ l.length) ∧ (cutBy c l).length ≤ l.length + 1
  | [] => by simp [cutBy]
  | b :: t => by
    obtain ⟨h1, h2⟩ := cut_sizes c t
    unfold cutBy
    split
    · refine ⟨fun x hx => ?_, by simp; omega⟩
      simp only [List.mem_cons] at hx
      rcases hx with rfl | hx
      · simp
      · have := h1 x hx; simp; omega
    · split
      · exact ⟨fun x hx => by simp at hx; subst hx; simp, by simp⟩
      · rename_i hh rr hc
        rw [hc] at h1 h2
        refine ⟨fun x hx => ?_, by simp at h2 ⊢; omega⟩
        simp only [List.mem_cons] at hx
        rcases hx with rfl | hx
        · have := h1 hh (by simp); simp; omega
        · have := h1 x (by simp [hx]); simp; omega
theorem cut_size (c : UInt8) (l x : List UInt8) (h : x ∈ cutBy c l) : x.length ≤ l.length := (cut_sizes c l).1 x h
/-- What holds of the state ahead of a line. -/
structure StOk (n : Nat) (c : CfgD) (last : Int) : Prop where
  e0 : last ≤ 1 → c.ents = []
  e3 : 3 ≤ last → c.ents ≠ []
  len : c.ents.length ≤ n
  sz : ∀ e ∈ c.ents, SzE n e
set_option maxHeartbeats 4000000 in
set_option maxRecDepth 100000 in
theorem lineR_at (A : Nat → Addr) (w0 w : World) (rb : Nat) (c : CfgD) (last : Int) (l : ByteArray) (hs : Sen6 A w0) (hK : KwAt w0) (hM : MxAt w0) (hb0 : Below w0.heap.size w0 w) (h : RdS w0.heap.size rb w c last) (hl : l.size ≤ 1000000) (hO : StOk 1000000 c last) :
    Calls Tryz.prog 26 #[.pointer (some ⟨rb, 0, none⟩), .string l] w fun v w' => v = .returned (errV A (lineR lookL ⟨last, c⟩ (bl l)).1) ∧ Below w0.heap.size w0 w' ∧ ((lineR lookL ⟨last, c⟩ (bl l)).1 = 0 → RdS w0.heap.size rb w' (lineR lookL ⟨last, c⟩ (bl l)).2.cfg (lineR lookL ⟨last, c⟩ (bl l)).2.last) := by
  obtain ⟨hd, tl, hsp, hcut, htl⟩ := words_of l ⟨#[32]⟩ rfl
  have HS : Hid (Sen6 A w0 ∧ KwAt w0 ∧ Below w0.heap.size w0 w) := ⟨hs, hK, hb0⟩
  have HR : Hid (RdS w0.heap.size rb w c last) := h
  have HO : Hid (StOk 1000000 c last) := hO
  have HSp : Hid (Calls Tryz.prog 15 #[.string l, .string ⟨#[32]⟩] w fun e w' => e = .returned (.slice (some ⟨w.heap.size, 0, none⟩) (tl.length + 1) (tl.length + 1)) ∧ w' = w.alloc (.cells ((hd :: tl).map Value.string).toArray 9)) := by
    have := split_at l ⟨#[32]⟩ w (hM.below hb0) (by omega) (by decide)
    rw [hsp, ← htl] at this
    exact this
  have HLine : Hid (lineR lookL ⟨last, c⟩ (bl l) = lineW lookL ⟨last, c⟩ (bl hd) (tl.map bl)) := by show _ = _; unfold lineR; rw [hcut]
  have HSz : Hid (∀ s ∈ hd :: tl, s.size ≤ 1000000) := fun s hs => by
    have h1 : bl s ∈ cutBy 32 (bl l) := by rw [hcut]; exact List.mem_map_of_mem (f := bl) hs
    have h2 := cut_size 32 _ _ h1
    have h3 : (bl s).length = s.size := by simp [bl]
    have h4 : (bl l).length = l.size := by simp [bl]
    omega
  have HTl : Hid (tl.length ≤ 1000000) := by
    show _ ≤ _
    have h1 := (cut_sizes 32 (bl l)).2
    rw [hcut] at h1
    have h4 : (bl l).length = l.size := by simp [bl]
    simp at h1
    omega
  clear hs hK hM hb0 h hO hsp hcut htl
  rw [HLine.out]
  go_enter Tryz.func26, Tryz.ntmps26
  go_wp2_with fail
  refine Calls.mono HSp.out ?_
  rintro v w1 ⟨rfl, hw1⟩
  have HB1 : Hid (Below w.heap.size w w1) := by show Below _ _ _; rw [hw1]; exact Below.one _ _
  have HC1 : Hid (w1.heap[w.heap.size]? = some (.cells ((hd :: tl).map Value.string).toArray 9 (0, 0))) := by show _ = _; rw [hw1]; exact heap_alloc_new w _
  clear hw1 HSp
  have x0 : w1.cell? ⟨w.heap.size, 0, none⟩ = some (.string hd) := by simp [World.cell?, HC1.out]
  have HR1 : Hid (RdS w0.heap.size rb w1 c last) := HR.out.below HB1.out
  have HBw : Hid (Below w0.heap.size w0 w1) := HS.out.2.2.trans (HB1.out.mono HS.out.2.2.size)
  have sen := (HS.out.1.below HBw.out).c0
  have n1 : (0 : Int) < (tl.length : Int) + 1 := by omega
  have n2 : (1 : Int) ≤ (tl.length : Int) + 1 := by omega
  go_wp2_with fail
  refine (kindOf_at hd w1 (HS.out.2.1.below HBw.out (block_lt (HS.out.2.1 0 (by decide))))).mono ?_
  rintro v w2 ⟨rfl, rfl⟩
  rename World => w1
  cases hk : kindOf (bl hd) with
  | none =>
    have hkv : kindV (bl hd) = -1 := by unfold kindV; rw [hk]
    have HL : Hid (lineW lookL ⟨last, c⟩ (bl hd) (tl.map bl) = (1, ⟨last, c⟩)) := by show _ = _; unfold lineW; rw [hk]
    rw [hkv]
    clear hkv hk
    go_wp2
    go_ret
    exact ⟨by rw [HL.out]; rfl, HBw.out, fun h0 => by rw [HL.out] at h0; simp at h0⟩
  | some k =>
    have hkv : kindV (bl hd) = k := by unfold kindV; rw [hk]
    have k10 := (kindOf_some hk).2
    have c5 := HR1.out.c5
    obtain ⟨c5, f5, -⟩ := c5
    rw [hkv]
    have kn : ¬ (k : Int) = -1 := by omega
    cases hm : may last k
    · have HL : Hid (lineW lookL ⟨last, c⟩ (bl hd) (tl.map bl) = (1, ⟨last, c⟩)) := by show _ = _; unfold lineW; rw [hk]; simp only; rw [if_pos hm]
      clear hkv hk
      go_wp2_with fail
      refine (mayStand_at rb last k w1 k10 c5).mono ?_
      rintro v w2 ⟨rfl, rfl⟩
      rename World => w1
      rw [hm]
      go_wp2
      go_ret
      exact ⟨by rw [HL.out]; rfl, HBw.out, fun h0 => by rw [HL.out] at h0; simp at h0⟩
    · have HL : Hid (lineW lookL ⟨last, c⟩ (bl hd) (tl.map bl) = if (fillV (lookL (lastPts c.ents)) false (form k) (tl.map bl)).1 = 0 then (0, ⟨k, updC c k (tl.map bl) (fillV (lookL (lastPts c.ents)) false (form k) (tl.map bl)).2⟩) else ((fillV (lookL (lastPts c.ents)) false (form k) (tl.map bl)).1, ⟨last, c⟩)) := by show _ = _; unfold lineW; rw [hk]; simp only; rw [if_neg (by rw [hm]; simp)]
      have HM : Hid (may last k = true) := hm
      have HK : Hid (k < 10) := k10
      clear hkv hk
      go_wp2_with fail
      refine (mayStand_at rb last k w1 k10 c5).mono ?_
      rintro v w2 ⟨rfl, rfl⟩
      rename World => w1
      rw [hm]
      have HWd : Hid (∀ sa, (tl ≠ [] → sa = some ⟨w.heap.size, 1, none⟩) → WordsAt (w1.setCell ⟨rb, 5, none⟩ (.int .i64 (k : Int))) sa tl w.heap.size 1) := fun sa hsa => by
        have hne : rb ≠ w.heap.size := by
          have : rb < w.heap.size := by
            rcases HR.out with h | ⟨L, g, cap, mb, es, e, x, cells, he, h, hL⟩
            · exact lt_of_row h.row
            · exact lt_of_row h.row
          omega
        have hrow : (w1.setCell ⟨rb, 5, none⟩ (.int .i64 (k : Int))).heap[w.heap.size]? = some (.cells ((hd :: tl).map Value.string).toArray 9 (0, 0)) := by
          simp only [World.setCell, Array.getElem?_modify]
          rw [if_neg hne]
          exact HC1.out
        refine ⟨⟨_, _, hrow⟩, hsa, fun i s hi => ?_, fun s hs => HSz.out s (by simp [hs]), HTl.out⟩
        simp [World.cell?, hrow, hi, Nat.add_comm 1 i]
      have HTk : Hid (∀ sa wc, (tl ≠ [] → sa = some ⟨w.heap.size, 1, none⟩) → Calls Tryz.prog 49 #[.pointer (some ⟨rb, 0, none⟩), .int .i64 (k : Int), .slice sa tl.length wc] (w1.setCell ⟨rb, 5, none⟩ (.int .i64 (k : Int))) _) := fun sa wc hsa => take_any A w0 (w1.setCell ⟨rb, 5, none⟩ (.int .i64 (k : Int))) rb k c k sa tl w.heap.size 1 wc HS.out.1 (HBw.out.setCell (p := ⟨rb, 5, none⟩) HR1.out.c5.2.2 _) (HR1.out.setLast k) (HWd.out sa hsa) HK.out (fun hk => HO.out.e0 (by have := HM.out; unfold may at this; rw [if_pos hk] at this; simp at this; omega)) (fun hk => HO.out.e3 (by
        have := HM.out
        unfold may at this
        rw [if_neg (by omega), if_neg (by omega)] at this
        split at this
        · simp at this; omega
        · simp at this; omega)) HO.out.len HO.out.sz
      by_cases ht : tl = []
      · subst ht
        clear HWd
        go_wp2_with fail
        refine Calls.mono (HTk.out _ _ (fun h => absurd rfl h)) ?_
        rintro v w3 ⟨rfl, hb3, hr3⟩
        have HB3 : Hid (Below w0.heap.size w0 w3) := hb3
        have HR3 : Hid _ := hr3
        clear hb3 hr3 HTk
        go_wp2
        go_ret
        refine ⟨?_, HB3.out, fun h0 => ?_⟩
        · rw [HL.out]
          split
          · rename_i h0; rw [List.map_nil] at h0; show Ending.returned (errV A _) = _; rw [h0]
          · rfl
        · rw [HL.out] at h0 ⊢
          split at h0
          · rename_i h1; rw [if_pos h1]; exact HR3.out h1
          · rename_i h1; exact absurd h0 h1
      · have t0 : 0 < tl.length := by
          rcases Nat.eq_zero_or_pos tl.length with h | h
          · exact absurd (List.eq_nil_of_length_eq_zero h) ht
          · exact h
        have t1 : (0 : Int) < (tl.length : Int) := by omega
        have t2 : ¬ tl.length = 0 := by omega
        clear HWd
        go_wp2_with fail
        refine Calls.mono (HTk.out _ _ (fun _ => rfl)) ?_
        rintro v w3 ⟨rfl, hb3, hr3⟩
        have HB3 : Hid (Below w0.heap.size w0 w3) := hb3
        have HR3 : Hid _ := hr3
        clear hb3 hr3 HTk
        go_wp2
        go_ret
        refine ⟨?_, HB3.out, fun h0 => ?_⟩
        · rw [HL.out]
          split
          · rename_i h0; show Ending.returned (errV A _) = _; rw [h0]
          · rfl
        · rw [HL.out] at h0 ⊢
          split at h0
          · rename_i h1; rw [if_pos h1]; exact HR3.out h1
          · rename_i h1; exact absurd h0 h1
end Go.Proofs.YtcnfkdecghdphabGreatDoor
