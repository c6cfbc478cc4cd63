/-
  Several texts as one: CfPage, Shelf, CfWord. What each holds: CfPage: A page of text with its embedded strings.Builder in memory ('PageAt'), and the builder's methods on it by contracts. Condition: at most a thousand million bytes. | Shelf: The library's contracts of strconv.Itoa, strings.Split and strings.TrimSuffix, laid at this program by the kit's own command. Conditions: as each says. | CfWord: (*conf.page).word by contracts: what is written of a keyword, a text, a number, a point. Conditions: the page lies in memory ('PageAt'); the keywords and the table of powers of ten lie in memory.
-/
import Derived.Test.YtbholbenjalliaaGreatDoorCfMemX
import Derived.Lib.OthersKept
import Derived.Lib.AppendStr
import Derived.Lib.UnsafeStr
import Derived.Lib.Builder
import Derived.Laws.Externs
import Derived.BigRegion
import Derived.Shelf.LaysM
import Derived.Shelf.Strconv.Itoa3
import Derived.Shelf.Strings.SplitShaped
import Derived.Shelf.Strings.Prefix
import Derived.Test.YtbholbenjalliaaGreatDoorProg
import Derived.Test.YtbholbenjalliaaGreatDoorPureX
import Derived.Deep.RegionHeld3
namespace Go.Proofs.YtbholbenjalliaaGreatDoor
open Go.RowKit Go.Extern.Stop Go.Stop Go.Extern

theorem Tryz.infoU8 : (Tryz.prog.info? 5).map (fun i => (i.zero, i.size, i.bytes)) = some (some (.int .u8 0), 1, 1) := by kernel_rfl
theorem Tryz.sizeBld : (Tryz.prog.info? 59).map (·.size) = some 2 := by kernel_rfl
theorem Tryz.liesBld : liesAt Tryz.prog Tryz.prog.depth 61 (3 / Tryz.prog.cellsOf 61) 0 59 1 = true := by kernel_rfl
theorem Tryz.cellsU8 : Tryz.prog.cellsOf 5 = 1 := by kernel_rfl

/-- The page in block pb, of memory from B on: its buffer, and the points of the entity that is written. -/
def PageAt (B pb : Nat) (pv : Value) (l : List UInt8) (w : World) : Prop :=
  B ≤ pb ∧ B ≤ w.heap.size ∧ ∃ p v, (p = .pointer none ∨ p = .pointer (some ⟨pb, 0, none⟩)) ∧ w.heap[pb]? = some (.cells #[p, v, pv] 61 (0, 0)) ∧ w.ownsRow B 5 1 v l.length (Lib.byteCells l) ∧ v.ownBlock ≠ some pb
/-- What a write leaves as it was. -/
structure PFr (B pb : Nat) (w w' : World) : Prop where
  bel : Below B w w'
  oth : Lib.OthersKept 5 (some pb) w w'
theorem PFr.refl (B pb : Nat) (w : World) : PFr B pb w w := ⟨Below.refl _ _, Lib.OthersKept.refl _ _ _⟩
theorem PFr.trans {B pb : Nat} {a b c : World} (h : PFr B pb a b) (k : PFr B pb b c) : PFr B pb a c := ⟨h.bel.trans k.bel, h.oth.trans k.oth⟩
theorem PFr.alloc {B pb : Nat} {a b : World} (h : PFr B pb a b) (hB : B ≤ b.heap.size) (o : Obj) : PFr B pb a (b.alloc o) := ⟨h.bel.alloc hB _, h.oth.alloc _⟩
theorem PFr.drew {B pb : Nat} {a b : World} (h : PFr B pb a b) : PFr B pb a b.drew := ⟨h.bel.drew, h.oth.drew⟩
/-- A block of another type is as it was. -/
theorem PFr.box {B pb k : Nat} {w w' : World} (h : PFr B pb w w') {c : Array Value} {t : TypeId} {fr : Nat × Nat} (hk : w.heap[k]? = some (.cells c t fr)) (hne : k ≠ pb) (ht : t ≠ 5) : w'.heap[k]? = some (.cells c t fr) :=
  h.oth k _ hk (by simpa using hne) (fun c' fz e => by cases e; exact ht rfl)
theorem PageAt.below {B pb : Nat} {pv : Value} {l : List UInt8} {w w' : World} (h : PageAt B pb pv l w) (hb : Below w.heap.size w w') : PageAt B pb pv l w' := by
  obtain ⟨h1, h2, p, v, h3, h4, h5, h6⟩ := h
  refine ⟨h1, Nat.le_trans h2 hb.size, p, v, h3, row_below hb h4, ?_, h6⟩
  refine h5.kept (row := none) ⟨hb.os, hb.tape, hb.output, hb.size, fun k hk _ => hb.block k hk⟩ (by by_cases h : v.ownBlock = none; exact Or.inl h; exact Or.inr h)
theorem PFr.of_below {B pb : Nat} {pv : Value} {l : List UInt8} {w w' : World} (h : PageAt B pb pv l w) (hb : Below w.heap.size w w') : PFr B pb w w' :=
  ⟨hb.mono h.2.1, fun k _ hk _ _ => (hb.block k (lt_of_row hk)).trans hk⟩
theorem PageAt.lt {B pb : Nat} {pv : Value} {l : List UInt8} {w : World} (h : PageAt B pb pv l w) : pb < w.heap.size := by
  obtain ⟨-, -, p, v, -, h4, -⟩ := h
  exact lt_of_row h4
theorem PageAt.new (w : World) : PageAt w.heap.size w.heap.size (.slice none 0 0) [] (w.alloc (.cells #[.pointer none, .slice none 0 0, .slice none 0 0] 61)) := by
  refine ⟨Nat.le_refl _, by simp, _, _, Or.inl rfl, ?_, World.ownsRow_nil _ _ _ _, by simp [Value.ownBlock]⟩
  show (w.heap.push _)[w.heap.size]? = _
  simp
/-- Another list of points. -/
theorem PageAt.setPts {B pb : Nat} {pv : Value} {l : List UInt8} {w : World} (h : PageAt B pb pv l w) (pv' : Value) : PageAt B pb pv' l (w.setCell ⟨pb, 2, none⟩ pv') ∧ PFr B pb w (w.setCell ⟨pb, 2, none⟩ pv') := by
  obtain ⟨h1, h2, p, v, h3, h4, h5, h6⟩ := h
  refine ⟨⟨h1, by simpa [World.setCell] using h2, p, v, h3, by simp [World.setCell, Array.getElem?_modify, h4], ?_, h6⟩, (Below.refl B w).setCell (p := ⟨pb, 2, none⟩) h1 _, (Lib.OthersKept.refl _ _ w).setCell ⟨pb, 2, none⟩ rfl _⟩
  exact h5.kept (row := some pb) ⟨rfl, rfl, rfl, by simp [World.setCell], fun k _ hk => Below.heap_setCell _ _ _ _ (fun e => hk (by simp [e]))⟩ (Or.inr h6)

set_option maxHeartbeats 1000000 in
set_option maxRecDepth 100000 in
theorem bld_check (B pb : Nat) (pv : Value) (l : List UInt8) (w : World) (h : PageAt B pb pv l w) :
    Calls Tryz.prog 115 #[.pointer (some ⟨pb, 0, none⟩)] w fun e w' => e = .returned (.tuple #[]) ∧ B ≤ pb ∧ B ≤ w'.heap.size ∧ (∃ v, w'.heap[pb]? = some (.cells #[.pointer (some ⟨pb, 0, none⟩), v, pv] 61 (0, 0)) ∧ w'.ownsRow B 5 1 v l.length (Lib.byteCells l) ∧ v.ownBlock ≠ some pb) ∧ PFr B pb w w' := by
  obtain ⟨j, hj, hjs⟩ := Option.map_eq_some_iff.1 Tryz.sizeBld
  obtain ⟨h1, h2, p, v, h3, h4, h5, h6⟩ := h
  have c0 : w.cell? ⟨pb, 0, none⟩ = some p := by simp [World.cell?, h4]
  rcases h3 with rfl | rfl
  · have hsh : w.shape? pb = some (61, 3) := by simp [World.shape?, h4]
    have hfz : w.frozen? ⟨pb, 0, none⟩ = false := by simp [World.frozen?, h4]
    have e1 : w.setCell ⟨pb, 0, none⟩ (.pointer (some ⟨pb, 0, none⟩)) = w.setCell ⟨pb, 0, none⟩ (.pointer (some ⟨pb, 0, none⟩)) := rfl
    have HR : Hid (B ≤ (w.setCell ⟨pb, 0, none⟩ (.pointer (some ⟨pb, 0, none⟩))).heap.size ∧ (∃ v, (w.setCell ⟨pb, 0, none⟩ (.pointer (some ⟨pb, 0, none⟩))).heap[pb]? = some (.cells #[.pointer (some ⟨pb, 0, none⟩), v, pv] 61 (0, 0)) ∧ (w.setCell ⟨pb, 0, none⟩ (.pointer (some ⟨pb, 0, none⟩))).ownsRow B 5 1 v l.length (Lib.byteCells l) ∧ v.ownBlock ≠ some pb) ∧ PFr B pb w (w.setCell ⟨pb, 0, none⟩ (.pointer (some ⟨pb, 0, none⟩)))) := by
      refine ⟨by simpa [World.setCell] using h2, ⟨v, by simp [World.setCell, Array.getElem?_modify, h4], ?_, h6⟩, (Below.refl B w).setCell (p := ⟨pb, 0, none⟩) h1 _, (Lib.OthersKept.refl _ _ w).setCell ⟨pb, 0, none⟩ rfl _⟩
      exact h5.kept (row := some pb) ⟨rfl, rfl, rfl, by simp [World.setCell], fun k _ hk => Below.heap_setCell _ _ _ _ (fun e => hk (by simp [e]))⟩ (Or.inr h6)
    have hu := Lib.run_to_unsafe w (e := 61) (cells := 3) ⟨pb, 0, none⟩ Tryz.underlying56 Tryz.underlying126 hj (by rw [hjs]; decide) hsh (Nat.zero_lt_succ 2)
    have hf := Lib.run_from_unsafe w (e := 61) (cells := 3) ⟨pb, 0, none⟩ Tryz.underlying126 Tryz.underlying56 hj hsh Tryz.liesBld
    have he := run_callFunc_extern (P := Tryz.prog) Tryz.func134 (by kernel_rfl) (by kernel_rfl) (by kernel_rfl) (e := Extern.AbiNoEscape.same) (by kernel_rfl)
    have hne := Lib.run_noEscape (P := Tryz.prog)
    clear h2 h4 h5 h6 e1
    go_enter Tryz.func115, Tryz.ntmps115
    go_wp2
    go_end0
    exact ⟨rfl, h1, HR.out.1, HR.out.2.1, HR.out.2.2⟩
  · have hn := Lib.run_neq_ptr_same (P := Tryz.prog) w ⟨pb, 0, none⟩ Tryz.underlying56 hj
    have HR : Hid (B ≤ w.heap.size ∧ (∃ v, w.heap[pb]? = some (.cells #[.pointer (some ⟨pb, 0, none⟩), v, pv] 61 (0, 0)) ∧ w.ownsRow B 5 1 v l.length (Lib.byteCells l) ∧ v.ownBlock ≠ some pb)) := ⟨h2, v, h4, h5, h6⟩
    clear h2 h4 h5 h6
    go_enter Tryz.func115, Tryz.ntmps115
    go_wp2
    go_end0
    exact ⟨rfl, h1, HR.out.1, HR.out.2, PFr.refl _ _ _⟩

set_option maxHeartbeats 2000000 in
set_option maxRecDepth 100000 in
theorem bld_byte (B pb : Nat) (pv : Value) (l : List UInt8) (c : UInt8) (w : World) (h : PageAt B pb pv l w) (hl : l.length ≤ 1000000000) :
    Calls Tryz.prog 67 #[.pointer (some ⟨pb, 0, none⟩), .int .u8 (c.toNat : Int)] w fun e w' => e = .returned .nilIface ∧ PageAt B pb pv (l ++ [c]) w' ∧ PFr B pb w w' := by
  obtain ⟨i0, hi, hz0, hz1, hz2⟩ := info_parts Tryz.infoU8
  go_enter Tryz.func67, Tryz.ntmps67
  go_wp2_with fail
  refine (bld_check B pb pv l w h).mono ?_
  rintro e w1 ⟨rfl, hB, hBw, ⟨v, hbk, hown, hne⟩, hfr⟩
  have c0 : w1.cell? ⟨pb, 0, none⟩ = some (.pointer (some ⟨pb, 0, none⟩)) := by simp [World.cell?, hbk]
  have c1 : w1.cell? ⟨pb, 1, none⟩ = some v := by simp [World.cell?, hbk]
  obtain ⟨ao, n0, cap0, rfl⟩ : ∃ ao n' cap, v = .slice ao n' cap := by
    rcases hown.2 with ⟨hv, _⟩ | ⟨g, cap, cur, hv, _⟩
    · exact ⟨_, _, _, hv⟩
    · exact ⟨_, _, _, hv⟩
  clear h
  go_wp2_with (at_builtin; refine wpList_append_own _ rfl _ _ 57 rfl B 5 i0 (.int .u8 0) 1 1 Tryz.underlying57 hi hz0 hz1 hz2 rfl (by decide) _ _ _ rfl (hown.alloc _) ⟨w1.heap.size, 0, none⟩ 1 1 [.int .u8 (c.toNat : Int)] rfl rfl ?c1 ?c2 ?c3 ?c4 ?c5 ?_)
  case c1 =>
    intro j u hj
    match j, hj with
    | 0, hj => simp at hj; subst hj; simp [Addr.add]
    | j + 1, hj => simp at hj
  case c2 => intro u hu; simp at hu; subst hu; rfl
  case c3 => unfold maxLen; omega
  case c4 => omega
  case c5 => simp; omega
  intro v' w2 hown' hgrow _
  have hlt : pb < w1.heap.size := lt_of_row hbk
  have hb2 : w2.heap[pb]? = some (.cells #[.pointer (some ⟨pb, 0, none⟩), .slice ao n0 cap0, pv] 61 (0, 0)) := by
    rw [hgrow.block pb (by simp; omega) (fun e => hne e.symm)]
    exact row_below ((Below.refl _ _).alloc (Nat.le_refl _) _) hbk
  have d0 : w2.cell? ⟨pb, 0, none⟩ = some (.pointer (some ⟨pb, 0, none⟩)) := by simp [World.cell?, hb2]
  have d1 : w2.cell? ⟨pb, 1, none⟩ = some (.slice ao n0 cap0) := by simp [World.cell?, hb2]
  have f1 : w2.frozen? ⟨pb, 1, none⟩ = false := by simp [World.frozen?, hb2]
  obtain ⟨g, cap, rfl⟩ : ∃ g cap, v' = .slice (some ⟨g, 0, none⟩) (l.length + 1) cap := by
    rcases hown'.2 with ⟨_, h0⟩ | ⟨g, cap, cur, hv, _⟩
    · omega
    · exact ⟨g, cap, hv⟩
  have hne2 : (Value.slice (some ⟨g, 0, none⟩) (l.length + 1) cap).ownBlock ≠ some pb := Lib.ownBlock_ne hown' hb2 (by decide)
  have HR : Hid (PageAt B pb pv (l ++ [c]) (w2.setCell ⟨pb, 1, none⟩ (.slice (some ⟨g, 0, none⟩) (l.length + 1) cap)) ∧ PFr B pb w (w2.setCell ⟨pb, 1, none⟩ (.slice (some ⟨g, 0, none⟩) (l.length + 1) cap))) := by
    have hs2 := hgrow.size
    simp at hs2
    refine ⟨⟨hB, by simp [World.setCell]; omega, _, _, Or.inr rfl, by simp [World.setCell, Array.getElem?_modify, hb2], ?_, hne2⟩, ?_, ?_⟩
    · have hown2 : w2.ownsRow B 5 1 (.slice (some ⟨g, 0, none⟩) (l.length + 1) cap) (l.length + 1) (Lib.byteCells l ++ [.int .u8 (c.toNat : Int)]) := by simpa using hown'
      have := hown2.kept (row := some pb) (w' := w2.setCell ⟨pb, 1, none⟩ (.slice (some ⟨g, 0, none⟩) (l.length + 1) cap)) ⟨rfl, rfl, rfl, by simp [World.setCell], fun k _ hk => Below.heap_setCell _ _ _ _ (fun e => hk (by simp [e]))⟩ (Or.inr hne2)
      rw [Lib.byteCells_append, List.length_append]
      exact this
    · exact ((hfr.bel.alloc hBw _).grown hgrow (by simp; omega) (fun k hk => (hown.lt k hk).1)).setCell (p := ⟨pb, 1, none⟩) hB _
    · refine ((hfr.oth.alloc _).grown hgrow (fun g' hg' => ?_)).setCell ⟨pb, 1, none⟩ rfl _
      rcases hown.2 with ⟨hv, _⟩ | ⟨g2, cap2, cur, hv, _, hg2, _⟩
      · rw [hv] at hg'; simp [Value.ownBlock] at hg'
      · rw [hv] at hg'
        simp [Value.ownBlock] at hg'
        subst hg'
        exact ⟨cur, _, row_below ((Below.refl _ _).alloc (Nat.le_refl _) _) hg2⟩
  clear hown hown' hgrow hfr hbk hb2 hne hne2 c0 c1
  go_wp2
  go_ret
  exact ⟨rfl, HR.out.1, HR.out.2⟩

set_option maxHeartbeats 2000000 in
set_option maxRecDepth 100000 in
theorem bld_str (B pb : Nat) (pv : Value) (l : List UInt8) (s : ByteArray) (w : World) (h : PageAt B pb pv l w) (hl : l.length + s.size ≤ 1000000000) :
    Calls Tryz.prog 116 #[.pointer (some ⟨pb, 0, none⟩), .string s] w fun e w' => e = .returned (.tuple #[.int .i64 (s.size : Int), .nilIface]) ∧ PageAt B pb pv (l ++ s.data.toList) w' ∧ PFr B pb w w' := by
  obtain ⟨i0, hi, hz0, hz1, hz2⟩ := info_parts Tryz.infoU8
  go_enter Tryz.func116, Tryz.ntmps116
  go_wp2_with fail
  refine (bld_check B pb pv l w h).mono ?_
  rintro e w1 ⟨rfl, hB, hBw, ⟨v, hbk, hown, hne⟩, hfr⟩
  have c0 : w1.cell? ⟨pb, 0, none⟩ = some (.pointer (some ⟨pb, 0, none⟩)) := by simp [World.cell?, hbk]
  have c1 : w1.cell? ⟨pb, 1, none⟩ = some v := by simp [World.cell?, hbk]
  obtain ⟨ao, n0, cap0, rfl⟩ : ∃ ao n' cap, v = .slice ao n' cap := by
    rcases hown.2 with ⟨hv, _⟩ | ⟨g, cap, cur, hv, _⟩
    · exact ⟨_, _, _, hv⟩
    · exact ⟨_, _, _, hv⟩
  clear h
  go_wp2_with (at_builtin; refine Lib.wpList_append_own_string _ rfl _ _ 57 9 rfl B 5 i0 Tryz.underlying57 Tryz.underlying9 hi hz0 hz1 hz2 _ _ _ rfl hown s rfl ?c3 ?c4 ?c5 ?_)
  case c3 => unfold maxLen; omega
  case c4 => omega
  case c5 => omega
  intro v' w2 hown' hgrow _
  have hlt : pb < w1.heap.size := lt_of_row hbk
  have hb2 : w2.heap[pb]? = some (.cells #[.pointer (some ⟨pb, 0, none⟩), .slice ao n0 cap0, pv] 61 (0, 0)) := by
    rw [hgrow.block pb hlt (fun e => hne e.symm)]
    exact hbk
  have d0 : w2.cell? ⟨pb, 0, none⟩ = some (.pointer (some ⟨pb, 0, none⟩)) := by simp [World.cell?, hb2]
  have d1 : w2.cell? ⟨pb, 1, none⟩ = some (.slice ao n0 cap0) := by simp [World.cell?, hb2]
  have f1 : w2.frozen? ⟨pb, 1, none⟩ = false := by simp [World.frozen?, hb2]
  obtain ⟨a', n', cap, rfl⟩ : ∃ a' n' cap, v' = .slice a' n' cap := by
    rcases hown'.2 with ⟨hv, _⟩ | ⟨g, cap, cur, hv, _⟩
    · exact ⟨_, _, _, hv⟩
    · exact ⟨_, _, _, hv⟩
  have hne2 : (Value.slice a' n' cap).ownBlock ≠ some pb := Lib.ownBlock_ne hown' hb2 (by decide)
  have HR : Hid (PageAt B pb pv (l ++ s.data.toList) (w2.setCell ⟨pb, 1, none⟩ (.slice a' n' cap)) ∧ PFr B pb w (w2.setCell ⟨pb, 1, none⟩ (.slice a' n' cap))) := by
    have hs2 := hgrow.size
    refine ⟨⟨hB, by simp [World.setCell]; omega, _, _, Or.inr rfl, by simp [World.setCell, Array.getElem?_modify, hb2], ?_, hne2⟩, ?_, ?_⟩
    · have hown2 : w2.ownsRow B 5 1 (.slice a' n' cap) (l.length + s.size) (Lib.byteCells l ++ Lib.strCells s) := hown'
      have := hown2.kept (row := some pb) (w' := w2.setCell ⟨pb, 1, none⟩ (.slice a' n' cap)) ⟨rfl, rfl, rfl, by simp [World.setCell], fun k _ hk => Below.heap_setCell _ _ _ _ (fun e => hk (by simp [e]))⟩ (Or.inr hne2)
      rw [Lib.byteCells_append, List.length_append, Array.length_toList]
      exact this
    · exact (hfr.bel.grown hgrow (by omega) (fun k hk => (hown.lt k hk).1)).setCell (p := ⟨pb, 1, none⟩) hB _
    · refine (hfr.oth.grown hgrow (fun g' hg' => ?_)).setCell ⟨pb, 1, none⟩ rfl _
      rcases hown.2 with ⟨hv, _⟩ | ⟨g2, cap2, cur, hv, _, hg2, _⟩
      · rw [hv] at hg'; simp [Value.ownBlock] at hg'
      · rw [hv] at hg'
        simp [Value.ownBlock] at hg'
        subst hg'
        exact ⟨cur, _, hg2⟩
  clear hown hown' hgrow hfr hbk hb2 hne hne2 c0 c1
  go_wp2
  go_ret2
  exact ⟨rfl, HR.out.1, HR.out.2⟩

set_option maxHeartbeats 2000000 in
set_option maxRecDepth 100000 in
theorem bld_string (B pb : Nat) (pv : Value) (l : List UInt8) (w : World) (h : PageAt B pb pv l w) (h0 : l ≠ []) :
    Calls Tryz.prog 22 #[.pointer (some ⟨pb, 0, none⟩)] w fun e w' => e = .returned (.string ⟨l.toArray⟩) ∧ Below B w w' := by
  obtain ⟨hB, hBw, p, v, -, hbk, hown, hne⟩ := h
  have hl0 : l.length ≠ 0 := by simpa using h0
  obtain ⟨g, cap, cur, rfl, hbg, hg, hnc, hcm, hcs, htake⟩ : ∃ g cap cur, v = .slice (some ⟨g, 0, none⟩) l.length cap ∧ B ≤ g ∧ w.heap[g]? = some (.cells cur 5 (0, 0)) ∧ l.length ≤ cap ∧ cap ≤ maxLen ∧ cur.size = cap * 1 ∧ cur.toList.take (l.length * 1) = Lib.byteCells l := by
    rcases hown.2 with ⟨_, hz⟩ | ⟨g, cap, cur, hv, r⟩
    · exact absurd hz hl0
    · exact ⟨g, cap, cur, hv, r⟩
  have c1 : w.drew.cell? ⟨pb, 1, none⟩ = some (.slice (some ⟨g, 0, none⟩) l.length cap) := by
    have h2 : w.drew.heap[pb]? = _ := hbk
    simp [World.cell?, h2]
  have hSD : (Builtin.unsafeSliceData_ #[57] 96 #[.slice (some ⟨g, 0, none⟩) l.length cap]).run Tryz.prog w.drew = .ok (.pointer (some ⟨g, 0, none⟩)) w.drew :=
    Lib.run_unsafeSliceData_row _ _ _ _ _ _ (by omega)
  have hUS : (Builtin.unsafeString_ #[96, 3] 9 #[.pointer (some ⟨g, 0, none⟩), .int .i64 l.length]).run Tryz.prog w.drew = .ok (.string ⟨l.toArray⟩) (w.drew.freeze ⟨g, 0, none⟩ l.length) := by
    refine Lib.run_unsafeString_row w.drew 96 3 9 5 Tryz.underlying96 Tryz.cellsU8 g cur.size (by have hg' : w.drew.heap[g]? = some (.cells cur 5 (0, 0)) := hg; simp [World.shape?, hg']) l h0 (by omega) (by unfold maxLen at hcm; omega) ?_
    intro j x hx
    exact hown.cells (g := g) rfl j (.int .u8 x.toNat) (by simp [Lib.byteCells, hx])
  have HF : Hid (Below B w (w.drew.freeze ⟨g, 0, none⟩ l.length)) := Lib.below_freeze (Below.drew (Below.refl B w)) (p := ⟨g, 0, none⟩) hbg _
  clear hown hbk hg htake hcs hcm hnc hne
  go_enter Tryz.func22, Tryz.ntmps22
  go_wp2
  go_region
  all_goals (go_wp2; go_ret; exact ⟨rfl, HF.out⟩)
end Go.Proofs.YtbholbenjalliaaGreatDoor

namespace Go.Proofs
open Go.Shelf
def Tryz.laysM171_ren : Go.Shelf.Ren := ⟨fun | 171 => 117 | 243 => 135 | 246 => 147 | 283 => 152 | 284 => 153 | 285 => 154 | 286 => 155 | 129 => 157 | 317 => 156 | 318 => 158 | 319 => 159 | 320 => 160 | 337 => 161 | 338 => 162 | n => n, fun | 3 => 3 | 9 => 9 | 2 => 2 | 4 => 4 | 171 => 214 | 0 => 0 | 53 => 215 | 37 => 57 | 5 => 5 | 173 => 218 | 212 => 221 | 51 => 211 | 20 => 20 | 213 => 222 | 46 => 203 | 232 => 225 | 233 => 226 | n => n, fun | 17 => 16 | 18 => 17 | 19 => 18 | n => n⟩
theorem Tryz.laysM171 : Go.Proofs.LaysM.n171 Tryz.prog Tryz.laysM171_ren := {
  mixed := by kernel_rfl
  f129 := Tryz.func157.trans (congrArg some (by kernel_rfl))
  f171 := Tryz.func117.trans (congrArg some (by kernel_rfl))
  f243 := Tryz.func135.trans (congrArg some (by kernel_rfl))
  f246 := Tryz.func147.trans (congrArg some (by kernel_rfl))
  f283 := Tryz.func152.trans (congrArg some (by kernel_rfl))
  f284 := Tryz.func153.trans (congrArg some (by kernel_rfl))
  f285 := Tryz.func154.trans (congrArg some (by kernel_rfl))
  f286 := Tryz.func155.trans (congrArg some (by kernel_rfl))
  f317 := Tryz.func156.trans (congrArg some (by kernel_rfl))
  f318 := Tryz.func158.trans (congrArg some (by kernel_rfl))
  f319 := Tryz.func159.trans (congrArg some (by kernel_rfl))
  f320 := Tryz.func160.trans (congrArg some (by kernel_rfl))
  f337 := Tryz.func161.trans (congrArg some (by kernel_rfl))
  f338 := Tryz.func162.trans (congrArg some (by kernel_rfl))
  t0 := Tryz.underlying0
  a0 := Tryz.isAgg0
  z0 := Tryz.sizeOf0
  v0 := Tryz.zeroValue0
  t2 := Tryz.underlying2
  a2 := Tryz.isAgg2
  z2 := Tryz.sizeOf2
  v2 := Tryz.zeroValue2
  t3 := Tryz.underlying3
  a3 := Tryz.isAgg3
  z3 := Tryz.sizeOf3
  v3 := Tryz.zeroValue3
  t4 := Tryz.underlying4
  a4 := Tryz.isAgg4
  z4 := Tryz.sizeOf4
  v4 := Tryz.zeroValue4
  t5 := Tryz.underlying5
  a5 := Tryz.isAgg5
  z5 := Tryz.sizeOf5
  v5 := Tryz.zeroValue5
  t9 := Tryz.underlying9
  a9 := Tryz.isAgg9
  z9 := Tryz.sizeOf9
  v9 := Tryz.zeroValue9
  t20 := Tryz.underlying20
  a20 := Tryz.isAgg20
  z20 := Tryz.sizeOf20
  v20 := Tryz.zeroValue20
  t37 := Tryz.underlying57
  a37 := Tryz.isAgg57
  z37 := Tryz.sizeOf57
  v37 := Tryz.zeroValue57
  t46 := Tryz.underlying203
  a46 := Tryz.isAgg203
  z46 := Tryz.sizeOf203
  v46 := Tryz.zeroValue203
  t51 := Tryz.underlying211
  a51 := Tryz.isAgg211
  z51 := Tryz.sizeOf211
  v51 := Tryz.zeroValue211
  t53 := Tryz.underlying215
  a53 := Tryz.isAgg215
  z53 := Tryz.sizeOf215
  v53 := Tryz.zeroValue215
  t171 := Tryz.underlying214
  a171 := Tryz.isAgg214
  z171 := Tryz.sizeOf214
  v171 := Tryz.zeroValue214
  t173 := Tryz.underlying218
  a173 := Tryz.isAgg218
  z173 := Tryz.sizeOf218
  v173 := Tryz.zeroValue218
  t212 := Tryz.underlying221
  a212 := Tryz.isAgg221
  z212 := Tryz.sizeOf221
  v212 := Tryz.zeroValue221
  t213 := Tryz.underlying222
  a213 := Tryz.isAgg222
  z213 := Tryz.sizeOf222
  t232 := Tryz.underlying225
  a232 := Tryz.isAgg225
  z232 := Tryz.sizeOf225
  v232 := Tryz.zeroValue225
  t233 := Tryz.underlying226
  a233 := Tryz.isAgg226
  z233 := Tryz.sizeOf226
  v233 := Tryz.zeroValue226
  g17 := by kernel_rfl
  g18 := by kernel_rfl
  g19 := by kernel_rfl
  i0 := by kernel_rfl
  i2 := by kernel_rfl
  i3 := by kernel_rfl
  i4 := by kernel_rfl
  i5 := by kernel_rfl
  i9 := by kernel_rfl
  i20 := by kernel_rfl
  i37 := by kernel_rfl
  i46 := by kernel_rfl
  i51 := by kernel_rfl
  i53 := by kernel_rfl
  i171 := by kernel_rfl
  i173 := by kernel_rfl
  i212 := by kernel_rfl
  i232 := by kernel_rfl
  i233 := by kernel_rfl
  m17 := by kernel_rfl
  m18 := by kernel_rfl
  m19 := by kernel_rfl }
open Go.RowKit Go.Sort Go.Lib in
theorem Tryz.strconv_Itoa (n : Int) (h0 : -9223372036854775808 ≤ n) (h1 : n ≤ 9223372036854775807) (w : World) (htab : Lib.TabIs Tryz.prog w "internal/strconv.uint64pow10" .u64 Lib.pow10Tab) :
    Calls Tryz.prog 117 #[.int .i64 n] w fun e w' => e = .returned (.string ⟨(Lib.itoa n).toArray⟩) ∧ ∃ k os, w' = grow (w.drewN k) os := Any.strconv_Itoa Tryz.laysM171 n h0 h1 w htab
def Tryz.lays102_ren : Go.Shelf.Ren := ⟨fun | 102 => 32 | 209 => 61 | 207 => 113 | n => n, fun | 9 => 9 | 4 => 4 | 3 => 3 | n => n, fun | n => n⟩
theorem Tryz.lays102 : Go.Proofs.Lays.n102 Tryz.prog Tryz.lays102_ren := {
  mixed := by kernel_rfl
  f102 := Tryz.func32.trans (congrArg some (by kernel_rfl))
  f207 := Tryz.func113.trans (congrArg some (by kernel_rfl))
  f209 := Tryz.func61.trans (congrArg some (by kernel_rfl))
  t3 := Tryz.underlying3
  a3 := Tryz.isAgg3
  z3 := Tryz.sizeOf3
  v3 := Tryz.zeroValue3
  t4 := Tryz.underlying4
  a4 := Tryz.isAgg4
  z4 := Tryz.sizeOf4
  v4 := Tryz.zeroValue4
  t9 := Tryz.underlying9
  a9 := Tryz.isAgg9
  z9 := Tryz.sizeOf9
  v9 := Tryz.zeroValue9 }
open Go.RowKit Go.Lib in
theorem Tryz.strings_TrimSuffix (s p : ByteArray) (w : World) (hs : s.size ≤ 9223372036854775807) :
    Calls Tryz.prog 32 #[.string s, .string p] w fun e w' => e = .returned (.string ⟨(Lib.trimSuffix s.data.toList p.data.toList).toArray⟩) ∧ w' = w := Any.strings_TrimSuffix Tryz.lays102 s p w hs
def Tryz.laysM146_ren : Go.Shelf.Ren := ⟨fun | 146 => 31 | 221 => 60 | 268 => 110 | 138 => 111 | 143 => 112 | 195 => 130 | 197 => 131 | 218 => 132 | 219 => 133 | 260 => 142 | 217 => 143 | 225 => 144 | 224 => 145 | 267 => 146 | 266 => 150 | 314 => 151 | n => n, fun | 9 => 9 | 31 => 47 | 3 => 3 | 4 => 4 | 0 => 0 | 105 => 191 | 21 => 21 | 5 => 5 | 46 => 203 | 119 => 207 | 139 => 210 | 138 => 209 | 146 => 212 | 51 => 211 | n => n, fun | 1 => 13 | 3 => 14 | 4 => 15 | n => n⟩
theorem Tryz.laysM146 : Go.Proofs.LaysM.n146 Tryz.prog Tryz.laysM146_ren := {
  mixed := by kernel_rfl
  f138 := Tryz.func111.trans (congrArg some (by kernel_rfl))
  f143 := Tryz.func112.trans (congrArg some (by kernel_rfl))
  f146 := Tryz.func31.trans (congrArg some (by kernel_rfl))
  f195 := Tryz.func130.trans (congrArg some (by kernel_rfl))
  f197 := Tryz.func131.trans (congrArg some (by kernel_rfl))
  f217 := Tryz.func143.trans (congrArg some (by kernel_rfl))
  f218 := Tryz.func132.trans (congrArg some (by kernel_rfl))
  f219 := Tryz.func133.trans (congrArg some (by kernel_rfl))
  f221 := Tryz.func60.trans (congrArg some (by kernel_rfl))
  f224 := Tryz.func145.trans (congrArg some (by kernel_rfl))
  f225 := Tryz.func144.trans (congrArg some (by kernel_rfl))
  f260 := Tryz.func142.trans (congrArg some (by kernel_rfl))
  f266 := Tryz.func150.trans (congrArg some (by kernel_rfl))
  f267 := Tryz.func146.trans (congrArg some (by kernel_rfl))
  f268 := Tryz.func110.trans (congrArg some (by kernel_rfl))
  f314 := Tryz.func151.trans (congrArg some (by kernel_rfl))
  t0 := Tryz.underlying0
  a0 := Tryz.isAgg0
  z0 := Tryz.sizeOf0
  v0 := Tryz.zeroValue0
  t3 := Tryz.underlying3
  a3 := Tryz.isAgg3
  z3 := Tryz.sizeOf3
  v3 := Tryz.zeroValue3
  t4 := Tryz.underlying4
  a4 := Tryz.isAgg4
  z4 := Tryz.sizeOf4
  v4 := Tryz.zeroValue4
  t5 := Tryz.underlying5
  a5 := Tryz.isAgg5
  z5 := Tryz.sizeOf5
  v5 := Tryz.zeroValue5
  t9 := Tryz.underlying9
  a9 := Tryz.isAgg9
  z9 := Tryz.sizeOf9
  v9 := Tryz.zeroValue9
  t21 := Tryz.underlying21
  a21 := Tryz.isAgg21
  z21 := Tryz.sizeOf21
  v21 := Tryz.zeroValue21
  t31 := Tryz.underlying47
  a31 := Tryz.isAgg47
  z31 := Tryz.sizeOf47
  v31 := Tryz.zeroValue47
  t46 := Tryz.underlying203
  a46 := Tryz.isAgg203
  z46 := Tryz.sizeOf203
  v46 := Tryz.zeroValue203
  t51 := Tryz.underlying211
  a51 := Tryz.isAgg211
  z51 := Tryz.sizeOf211
  v51 := Tryz.zeroValue211
  t105 := Tryz.underlying191
  a105 := Tryz.isAgg191
  z105 := Tryz.sizeOf191
  v105 := Tryz.zeroValue191
  t119 := Tryz.underlying207
  a119 := Tryz.isAgg207
  z119 := Tryz.sizeOf207
  t138 := Tryz.underlying209
  a138 := Tryz.isAgg209
  z138 := Tryz.sizeOf209
  v138 := Tryz.zeroValue209
  t139 := Tryz.underlying210
  a139 := Tryz.isAgg210
  z139 := Tryz.sizeOf210
  v139 := Tryz.zeroValue210
  t146 := Tryz.underlying212
  a146 := Tryz.isAgg212
  z146 := Tryz.sizeOf212
  v146 := Tryz.zeroValue212
  g1 := by kernel_rfl
  g3 := by kernel_rfl
  g4 := by kernel_rfl
  i0 := by kernel_rfl
  i3 := by kernel_rfl
  i4 := by kernel_rfl
  i5 := by kernel_rfl
  i9 := by kernel_rfl
  i21 := by kernel_rfl
  i31 := by kernel_rfl
  i46 := by kernel_rfl
  i51 := by kernel_rfl
  i105 := by kernel_rfl
  i138 := by kernel_rfl
  i139 := by kernel_rfl
  i146 := by kernel_rfl
  m1 := by kernel_rfl
  s1_3 := fun w h => Go.Proofs.cell_of_shapedOpen_int (zero := #[.int .i64 0]) (t := 3) h (of_decide_eq_true (by kernel_rfl)) (by kernel_rfl) rfl (by kernel_rfl) (by kernel_rfl) Tryz.underlying3
  m3 := by kernel_rfl
  m4 := by kernel_rfl }
open Go.RowKit Go.Lib in
theorem Tryz.strings_Split_shaped (s sep : ByteArray) (w : World) (h : w.ShapedOpen Tryz.prog) (hs : s.size < 4294967281) (h1 : 1 ≤ sep.size) :
    Calls Tryz.prog 31 #[.string s, .string sep] w fun e w' =>
      e = .returned (.slice (some ⟨w.heap.size, 0, none⟩) (Lib.countB s sep + 1) (Lib.countB s sep + 1)) ∧ w' = w.alloc (.cells ((Lib.splitB sep 0 (Lib.countB s sep) s).map Value.string).toArray 9) := Any.strings_Split_shaped Tryz.laysM146 s sep w h hs h1
end Go.Proofs

namespace Go.Proofs.YtbholbenjalliaaGreatDoor
open Go.RowKit Go.Extern.Stop Go.Stop Go.Extern

theorem Tryz.assertKK (x : Value) (w : World) : (Instr.typeAssert (.iface 94 x) 20 94 true).run Tryz.prog w = .ok (.tuple #[x, .bool true]) w := by kernel_rfl
theorem Tryz.assertSK (x : Value) (w : World) : (Instr.typeAssert (.iface 9 x) 20 94 true).run Tryz.prog w = .ok (.tuple #[.int .i64 0, .bool false]) w := by kernel_rfl
theorem Tryz.assertSS (x : Value) (w : World) : (Instr.typeAssert (.iface 9 x) 20 9 true).run Tryz.prog w = .ok (.tuple #[x, .bool true]) w := by kernel_rfl
theorem Tryz.assertIK (x : Value) (w : World) : (Instr.typeAssert (.iface 3 x) 20 94 true).run Tryz.prog w = .ok (.tuple #[.int .i64 0, .bool false]) w := by kernel_rfl
theorem Tryz.assertIS (x : Value) (w : World) : (Instr.typeAssert (.iface 3 x) 20 9 true).run Tryz.prog w = .ok (.tuple #[.string ⟨#[]⟩, .bool false]) w := by kernel_rfl
theorem Tryz.assertII (x : Value) (w : World) : (Instr.typeAssert (.iface 3 x) 20 3 true).run Tryz.prog w = .ok (.tuple #[x, .bool true]) w := by kernel_rfl
theorem Tryz.assertPK (x : Value) (w : World) : (Instr.typeAssert (.iface 125 x) 20 94 true).run Tryz.prog w = .ok (.tuple #[.int .i64 0, .bool false]) w := by kernel_rfl
theorem Tryz.assertPS (x : Value) (w : World) : (Instr.typeAssert (.iface 125 x) 20 9 true).run Tryz.prog w = .ok (.tuple #[.string ⟨#[]⟩, .bool false]) w := by kernel_rfl
theorem Tryz.assertPI (x : Value) (w : World) : (Instr.typeAssert (.iface 125 x) 20 3 true).run Tryz.prog w = .ok (.tuple #[.int .i64 0, .bool false]) w := by kernel_rfl
theorem Tryz.assertPP (x : Value) (w : World) : (Instr.typeAssert (.iface 125 x) 20 125 true).run Tryz.prog w = .ok (.tuple #[x, .bool true]) w := by kernel_rfl
def KwAt (w : World) : Prop := ∀ i, i < 10 → w.cell? ⟨12, i, none⟩ = some (.string ⟨(kw i).toArray⟩)
theorem KwAt.below {w w' : World} (h : KwAt w) {B : Nat} (hb : Below B w w') (hB : 12 < B) : KwAt w' := fun i hi => (hb.cell (p := ⟨12, i, none⟩) hB).trans (h i hi)
theorem PageAt.drew {B pb : Nat} {pv : Value} {l : List UInt8} {w : World} (h : PageAt B pb pv l w) : PageAt B pb pv l w.drew := h

set_option maxHeartbeats 1000000 in
set_option maxRecDepth 100000 in
theorem word_str (B pb : Nat) (pv : Value) (l : List UInt8) (s : ByteArray) (w : World) (h : PageAt B pb pv l w) (hl : l.length + s.size ≤ 1000000000) :
    Calls Tryz.prog 68 #[.pointer (some ⟨pb, 0, none⟩), .iface 9 (.string s)] w fun e w' => e = .returned (.tuple #[]) ∧ PageAt B pb pv (l ++ s.data.toList) w' ∧ PFr B pb w w' := by
  have H : Hid _ := bld_str B pb pv l s w h hl
  clear h hl
  have t1 := Tryz.assertSK
  have t2 := Tryz.assertSS
  go_enter Tryz.func68, Tryz.ntmps68
  go_wp2_with fail
  refine Calls.mono H.out ?_
  rintro e w' ⟨rfl, h1, h2⟩
  go_wp2
  go_end0
  exact ⟨rfl, h1, h2⟩
set_option maxHeartbeats 1000000 in
set_option maxRecDepth 100000 in
theorem word_kind (B pb : Nat) (pv : Value) (l : List UInt8) (k : Nat) (w : World) (h : PageAt B pb pv l w) (hl : l.length ≤ 900000000) (hk : k < 10) (hK : KwAt w) (hG : (max 12 16 + 1) ≤ B) :
    Calls Tryz.prog 68 #[.pointer (some ⟨pb, 0, none⟩), .iface 94 (.int .i64 (k : Int))] w fun e w' => e = .returned (.tuple #[]) ∧ PageAt B pb pv (l ++ kw k) w' ∧ PFr B pb w w' := by
  have hkl : (kw k).length ≤ 6 := by
    have : ∀ k, k < 10 → (kw k).length ≤ 6 := by decide
    exact this k hk
  have H0 := bld_str B pb pv l ⟨(kw k).toArray⟩ w.drew h.drew (by show l.length + (kw k).toArray.size ≤ _; simp; omega)
  have H : Hid _ := H0
  have c0 := hK k hk
  have k0 : (0 : Int) ≤ (k : Int) := by omega
  have k1 : (k : Int) < 10 := by omega
  generalize hs : (⟨(kw k).toArray⟩ : ByteArray) = s at *
  have HS : Hid (s.data.toList = kw k) := by show _ = _; rw [← hs]
  clear h hl hK hkl H0 hk hs
  have t1 := Tryz.assertKK
  go_enter Tryz.func68, Tryz.ntmps68
  go_wp2_with fail
  go_region_held3 (fun w' => w'.cell? ⟨12, k, none⟩ = some (.string s)) (first | exact c0 | exact y0) (first | (go_at_call 116; refine Calls.mono H.out ?_; rintro e W' ⟨rfl, h1, h2⟩; have y0 := (h2.bel.cell (p := ⟨12, k, none⟩) (Nat.lt_of_lt_of_le (show 12 < (max 12 16 + 1) by decide) hG)).trans c0))
  go_wp2
  go_end0
  exact ⟨rfl, by rw [← HS.out]; exact h1, (PFr.refl B pb w).drew.trans h2⟩

/-- The table of powers of ten, as start-up lays it. -/
def TabAt (w : World) : Prop := Lib.TabIs Tryz.prog w "internal/strconv.uint64pow10" .u64 Lib.pow10Tab
theorem Tryz.tabNamed : Tryz.prog.globalNamed "internal/strconv.uint64pow10" = some 16 := by kernel_rfl
theorem TabAt.below {B : Nat} {w w' : World} (h : TabAt w) (hb : Below B w w') (hB : (max 12 16 + 1) ≤ B) : TabAt w' := by
  unfold TabAt Lib.TabIs World.var? at h ⊢
  rw [Tryz.tabNamed] at h ⊢
  simp only [Option.bind_some] at h ⊢
  rw [hb.block 16 (Nat.lt_of_lt_of_le (by decide) hB)]
  exact h
theorem decN_lib (u : Nat) : Lib.decDigits u = decN u := by
  induction u using Nat.strongRecOn with
  | ind u ih =>
    rw [Lib.decDigits, decN]
    split
    · rfl
    · rw [ih (u / 10) (by omega)]
theorem itoa_at (n : Int) (h0 : 0 ≤ n) (h1 : n ≤ 1099511627776) (w : World) (hT : TabAt w) : Calls Tryz.prog 117 #[.int .i64 n] w fun e w' => e = .returned (.string ⟨(num n).toArray⟩) ∧ Below w.heap.size w w' := by
  refine (Tryz.strconv_Itoa n (by omega) (by omega) w hT).mono ?_
  rintro e w' ⟨rfl, k, os, rfl⟩
  refine ⟨?_, ?_⟩
  · unfold Lib.itoa num
    rw [if_neg (by omega), decN_lib]
  · refine ⟨rfl, rfl, rfl, (by show w.heap.size ≤ ((w.drewN k).heap ++ os).size; rw [Array.size_append]; exact Nat.le_add_right _ _), fun i hi => ?_⟩
    show ((w.drewN k).heap ++ os)[i]? = _
    rw [Array.getElem?_append_left (by show i < w.heap.size; omega)]
    rfl
set_option maxHeartbeats 1000000 in
set_option maxRecDepth 100000 in
theorem word_int (B pb : Nat) (pv : Value) (l : List UInt8) (n : Int) (w : World) (h : PageAt B pb pv l w) (hl : l.length ≤ 900000000) (h0 : 0 ≤ n) (h1 : n ≤ 1099511627776) (hT : TabAt w) (hG : (max 12 16 + 1) ≤ B) :
    Calls Tryz.prog 68 #[.pointer (some ⟨pb, 0, none⟩), .iface 3 (.int .i64 n)] w fun e w' => e = .returned (.tuple #[]) ∧ PageAt B pb pv (l ++ num n) w' ∧ PFr B pb w w' := by
  have hnl : (num n).length ≤ 13 := by
    obtain ⟨-, -, -, -, hh⟩ := decN_all n.toNat
    exact hh 12 (by omega)
  have HI : Hid (∀ W, Below w.heap.size w W → _) := fun W hW => itoa_at n h0 h1 W (hT.below (hW.mono h.2.1) hG)
  have HW : Hid (∀ W, PageAt B pb pv l W → _) := fun W hW => bld_str B pb pv l ⟨(num n).toArray⟩ W hW (by show l.length + (num n).toArray.size ≤ _; simp; omega)
  have H : Hid (PageAt B pb pv l w) := h
  have t1 := Tryz.assertIK
  have t2 := Tryz.assertIS
  have t3 := Tryz.assertII
  clear h hl h0 h1 hT hnl
  go_enter Tryz.func68, Tryz.ntmps68
  go_wp2_with fail
  go_region_held3 (fun _ => True) (exact trivial) (first | (go_at_call 117; refine Calls.mono (HI.out _ (below_drewN (Below.refl _ _) 1)) ?_; rintro e W1 ⟨rfl, hb1⟩; have hP1 := H.out.drew.below hb1) | (go_at_call 116; refine Calls.mono (HW.out _ hP1) ?_; rintro e W2 ⟨rfl, h1, h2⟩))
  go_wp2
  go_end0
  exact ⟨rfl, h1, ((PFr.refl B pb w).drew.trans (PFr.of_below H.out hb1)).trans h2⟩

set_option maxHeartbeats 1000000 in
set_option maxRecDepth 100000 in
theorem word_place (B pb : Nat) (pa : Option Addr) (pc : Nat) (pts : List ByteArray) (l : List UInt8) (x : Int) (w : World) (h : PageAt B pb (.slice pa pts.length pc) l w) (hl : l.length ≤ 900000000) (hP : ∀ W, Below B w W → SlAt encS 1 W (.slice pa pts.length pc) pts) (h0 : 0 ≤ x) (h1 : x < (pts.length : Int)) (hs : ∀ p ∈ pts, p.size ≤ 1000000) :
    Calls Tryz.prog 68 #[.pointer (some ⟨pb, 0, none⟩), .iface 125 (.int .i64 x)] w fun e w' => e = .returned (.tuple #[]) ∧ PageAt B pb (.slice pa pts.length pc) (l ++ pt pts x) w' ∧ PFr B pb w w' := by
  obtain ⟨q, hq, hqe, hqm⟩ : ∃ q, pts[x.toNat]? = some q ∧ pt pts x = bl q ∧ q ∈ pts := by
    have hlt : x.toNat < pts.length := by omega
    exact ⟨pts[x.toNat], List.getElem?_eq_getElem hlt, by simp [pt, List.getD_eq_getElem?_getD, List.getElem?_eq_getElem hlt], List.getElem_mem hlt⟩
  obtain ⟨k, rfl⟩ := Int.eq_ofNat_of_zero_le h0
  have hk : k < pts.length := by omega
  simp only [Int.toNat_natCast] at hq
  have hP0 := hP
  obtain ⟨sa', cap', hsl, -, hcc⟩ := hP w (Below.refl _ _)
  cases hsl
  obtain ⟨b, o, rfl, hc0⟩ := hcc (fun e => by subst e; simp at hq)
  have HCk : Hid (∀ W, Below B w W → W.cell? ⟨b, o + k, none⟩ = some (.string q)) := fun W hW => by
    obtain ⟨sa2, cap2, hsl2, -, hcc2⟩ := hP0 W hW
    cases hsl2
    obtain ⟨b2, o2, e2, hc2⟩ := hcc2 (fun e => by subst e; simp at hq)
    cases e2
    have := hc2 k q hq 0 _ rfl
    simpa using this
  have H0 := bld_str B pb _ l q w.drew h.drew (by have := hs q hqm; omega)
  have H : Hid _ := H0
  have hcell := HCk.out w (Below.refl _ _)
  have h2c : w.cell? ⟨pb, 2, none⟩ = some (.slice (some ⟨b, o, none⟩) pts.length pc) := by
    obtain ⟨-, -, p, v, -, h4, -⟩ := h
    simp [World.cell?, h4]
  have HQ : Hid (pt pts (k : Int) = bl q) := hqe
  have k0 : (0 : Int) ≤ (k : Int) := by omega
  have k1 : (k : Int) < (pts.length : Int) := by omega
  have t1 := Tryz.assertPK
  have t2 := Tryz.assertPS
  have t3 := Tryz.assertPI
  have t4 := Tryz.assertPP
  have HC2 : Hid (∀ W, PageAt B pb (.slice (some ⟨b, o, none⟩) pts.length pc) (l ++ q.data.toList) W → W.cell? ⟨pb, 2, none⟩ = some (.slice (some ⟨b, o, none⟩) pts.length pc)) := fun W hW => by
    obtain ⟨-, -, p, v, -, h4, -⟩ := hW
    simp [World.cell?, h4]
  clear h hl hP hP0 hs hq hqe hqm hcc hc0 H0 h0 h1 hk
  go_enter Tryz.func68, Tryz.ntmps68
  go_wp2_with fail
  go_region_held3 (fun w' => w'.cell? ⟨b, o + k, none⟩ = some (.string q) ∧ w'.cell? ⟨pb, 2, none⟩ = some (.slice (some ⟨b, o, none⟩) pts.length pc)) (first | exact ⟨hcell, h2c⟩ | exact ⟨y0, y1⟩) (first | (go_at_call 116; refine Calls.mono H.out ?_; rintro e W' ⟨rfl, h1, h2⟩; have y0 := HCk.out W' ((Below.refl B w).drew.trans h2.bel); have y1 := HC2.out _ h1))
  go_wp2
  go_end0
  exact ⟨rfl, by rw [HQ.out]; exact h1, (PFr.refl B pb w).drew.trans h2⟩
end Go.Proofs.YtbholbenjalliaaGreatDoor
