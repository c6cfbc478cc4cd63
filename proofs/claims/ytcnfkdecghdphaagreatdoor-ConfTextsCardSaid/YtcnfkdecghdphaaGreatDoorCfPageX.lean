/-
  A page of text with its embedded strings.Builder in memory ('PageAt'), and the builder's methods on it by contracts. Condition: at most a thousand million bytes.
-/
import Derived.Test.YtcnfkdecghdphaaGreatDoorCfMemX
import Derived.Lib.OthersKept
import Derived.Lib.AppendStr
import Derived.Lib.UnsafeStr
import Derived.Lib.Builder
import Derived.Laws.Externs
import Derived.BigRegion
namespace Go.Proofs.YtcnfkdecghdphaaGreatDoor
open Go.RowKit Go.Extern.Stop Go.Stop Go.Extern

theorem Tryz.infoU8 : (Tryz.prog.info? 5).map (fun i => (i.zero, i.size, i.bytes)) = some (some (.int .u8 0), 1, 1) := by kernel_rfl
theorem Tryz.sizeBld : (Tryz.prog.info? 59).map (·.size) = some 2 := by kernel_rfl
theorem Tryz.liesBld : liesAt Tryz.prog Tryz.prog.depth 61 (3 / Tryz.prog.cellsOf 61) 0 59 1 = true := by kernel_rfl
theorem Tryz.cellsU8 : Tryz.prog.cellsOf 5 = 1 := by kernel_rfl

/-- The page in block pb, of memory from B on: its buffer, and the points of the entity that is written. -/
def PageAt (B pb : Nat) (pv : Value) (l : List UInt8) (w : World) : Prop :=
  B ≤ pb ∧ B ≤ w.heap.size ∧ ∃ p v, (p = .pointer none ∨ p = .pointer (some ⟨pb, 0, none⟩)) ∧ w.heap[pb]? = some (.cells #[p, v, pv] 61 (0, 0)) ∧ w.ownsRow B 5 1 v l.length (Lib.byteCells l) ∧ v.ownBlock ≠ some pb
/-- What a write leaves as it was. -/
structure PFr (B pb : Nat) (w w' : World) : Prop where
  bel : Below B w w'
  oth : Lib.OthersKept 5 (some pb) w w'
theorem PFr.refl (B pb : Nat) (w : World) : PFr B pb w w := ⟨Below.refl _ _, Lib.OthersKept.refl _ _ _⟩
theorem PFr.trans {B pb : Nat} {a b c : World} (h : PFr B pb a b) (k : PFr B pb b c) : PFr B pb a c := ⟨h.bel.trans k.bel, h.oth.trans k.oth⟩
theorem PFr.alloc {B pb : Nat} {a b : World} (h : PFr B pb a b) (hB : B ≤ b.heap.size) (o : Obj) : PFr B pb a (b.alloc o) := ⟨h.bel.alloc hB _, h.oth.alloc _⟩
theorem PFr.drew {B pb : Nat} {a b : World} (h : PFr B pb a b) : PFr B pb a b.drew := ⟨h.bel.drew, h.oth.drew⟩
/-- A block of another type is as it was. -/
theorem PFr.box {B pb k : Nat} {w w' : World} (h : PFr B pb w w') {c : Array Value} {t : TypeId} {fr : Nat × Nat} (hk : w.heap[k]? = some (.cells c t fr)) (hne : k ≠ pb) (ht : t ≠ 5) : w'.heap[k]? = some (.cells c t fr) :=
  h.oth k _ hk (by simpa using hne) (fun c' fz e => by cases e; exact ht rfl)
theorem PageAt.below {B pb : Nat} {pv : Value} {l : List UInt8} {w w' : World} (h : PageAt B pb pv l w) (hb : Below w.heap.size w w') : PageAt B pb pv l w' := by
  obtain ⟨h1, h2, p, v, h3, h4, h5, h6⟩ := h
  refine ⟨h1, Nat.le_trans h2 hb.size, p, v, h3, row_below hb h4, ?_, h6⟩
  refine h5.kept (row := none) ⟨hb.os, hb.tape, hb.output, hb.size, fun k hk _ => hb.block k hk⟩ (by by_cases h : v.ownBlock = none; exact Or.inl h; exact Or.inr h)
theorem PFr.of_below {B pb : Nat} {pv : Value} {l : List UInt8} {w w' : World} (h : PageAt B pb pv l w) (hb : Below w.heap.size w w') : PFr B pb w w' :=
  ⟨hb.mono h.2.1, fun k _ hk _ _ => (hb.block k (lt_of_row hk)).trans hk⟩
theorem PageAt.lt {B pb : Nat} {pv : Value} {l : List UInt8} {w : World} (h : PageAt B pb pv l w) : pb < w.heap.size := by
  obtain ⟨-, -, p, v, -, h4, -⟩ := h
  exact lt_of_row h4
theorem PageAt.new (w : World) : PageAt w.heap.size w.heap.size (.slice none 0 0) [] (w.alloc (.cells #[.pointer none, .slice none 0 0, .slice none 0 0] 61)) := by
  refine ⟨Nat.le_refl _, by simp, _, _, Or.inl rfl, ?_, World.ownsRow_nil _ _ _ _, by simp [Value.ownBlock]⟩
  show (w.heap.push _)[w.heap.size]? = _
  simp
/-- Another list of points. -/
theorem PageAt.setPts {B pb : Nat} {pv : Value} {l : List UInt8} {w : World} (h : PageAt B pb pv l w) (pv' : Value) : PageAt B pb pv' l (w.setCell ⟨pb, 2, none⟩ pv') ∧ PFr B pb w (w.setCell ⟨pb, 2, none⟩ pv') := by
  obtain ⟨h1, h2, p, v, h3, h4, h5, h6⟩ := h
  refine ⟨⟨h1, by simpa [World.setCell] using h2, p, v, h3, by simp [World.setCell, Array.getElem?_modify, h4], ?_, h6⟩, (Below.refl B w).setCell (p := ⟨pb, 2, none⟩) h1 _, (Lib.OthersKept.refl _ _ w).setCell ⟨pb, 2, none⟩ rfl _⟩
  exact h5.kept (row := some pb) ⟨rfl, rfl, rfl, by simp [World.setCell], fun k _ hk => Below.heap_setCell _ _ _ _ (fun e => hk (by simp [e]))⟩ (Or.inr h6)

set_option maxHeartbeats 1000000 in
set_option maxRecDepth 100000 in
theorem bld_check (B pb : Nat) (pv : Value) (l : List UInt8) (w : World) (h : PageAt B pb pv l w) :
    Calls Tryz.prog 115 #[.pointer (some ⟨pb, 0, none⟩)] w fun e w' => e = .returned (.tuple #[]) ∧ B ≤ pb ∧ B ≤ w'.heap.size ∧ (∃ v, w'.heap[pb]? = some (.cells #[.pointer (some ⟨pb, 0, none⟩), v, pv] 61 (0, 0)) ∧ w'.ownsRow B 5 1 v l.length (Lib.byteCells l) ∧ v.ownBlock ≠ some pb) ∧ PFr B pb w w' := by
  obtain ⟨j, hj, hjs⟩ := Option.map_eq_some_iff.1 Tryz.sizeBld
  obtain ⟨h1, h2, p, v, h3, h4, h5, h6⟩ := h
  have c0 : w.cell? ⟨pb, 0, none⟩ = some p := by simp [World.cell?, h4]
  rcases h3 with rfl | rfl
  · have hsh : w.shape? pb = some (61, 3) := by simp [World.shape?, h4]
    have hfz : w.frozen? ⟨pb, 0, none⟩ = false := by simp [World.frozen?, h4]
    have e1 : w.setCell ⟨pb, 0, none⟩ (.pointer (some ⟨pb, 0, none⟩)) = w.setCell ⟨pb, 0, none⟩ (.pointer (some ⟨pb, 0, none⟩)) := rfl
    have HR : Hid (B ≤ (w.setCell ⟨pb, 0, none⟩ (.pointer (some ⟨pb, 0, none⟩))).heap.size ∧ (∃ v, (w.setCell ⟨pb, 0, none⟩ (.pointer (some ⟨pb, 0, none⟩))).heap[pb]? = some (.cells #[.pointer (some ⟨pb, 0, none⟩), v, pv] 61 (0, 0)) ∧ (w.setCell ⟨pb, 0, none⟩ (.pointer (some ⟨pb, 0, none⟩))).ownsRow B 5 1 v l.length (Lib.byteCells l) ∧ v.ownBlock ≠ some pb) ∧ PFr B pb w (w.setCell ⟨pb, 0, none⟩ (.pointer (some ⟨pb, 0, none⟩)))) := by
      refine ⟨by simpa [World.setCell] using h2, ⟨v, by simp [World.setCell, Array.getElem?_modify, h4], ?_, h6⟩, (Below.refl B w).setCell (p := ⟨pb, 0, none⟩) h1 _, (Lib.OthersKept.refl _ _ w).setCell ⟨pb, 0, none⟩ rfl _⟩
      exact h5.kept (row := some pb) ⟨rfl, rfl, rfl, by simp [World.setCell], fun k _ hk => Below.heap_setCell _ _ _ _ (fun e => hk (by simp [e]))⟩ (Or.inr h6)
    have hu := Lib.run_to_unsafe w (e := 61) (cells := 3) ⟨pb, 0, none⟩ Tryz.underlying56 Tryz.underlying126 hj (by rw [hjs]; decide) hsh (Nat.zero_lt_succ 2)
    have hf := Lib.run_from_unsafe w (e := 61) (cells := 3) ⟨pb, 0, none⟩ Tryz.underlying126 Tryz.underlying56 hj hsh Tryz.liesBld
    have he := run_callFunc_extern (P := Tryz.prog) Tryz.func134 (by kernel_rfl) (by kernel_rfl) (by kernel_rfl) (e := Extern.AbiNoEscape.same) (by kernel_rfl)
    have hne := Lib.run_noEscape (P := Tryz.prog)
    clear h2 h4 h5 h6 e1
    go_enter Tryz.func115, Tryz.ntmps115
    go_wp2
    go_end0
    exact ⟨rfl, h1, HR.out.1, HR.out.2.1, HR.out.2.2⟩
  · have hn := Lib.run_neq_ptr_same (P := Tryz.prog) w ⟨pb, 0, none⟩ Tryz.underlying56 hj
    have HR : Hid (B ≤ w.heap.size ∧ (∃ v, w.heap[pb]? = some (.cells #[.pointer (some ⟨pb, 0, none⟩), v, pv] 61 (0, 0)) ∧ w.ownsRow B 5 1 v l.length (Lib.byteCells l) ∧ v.ownBlock ≠ some pb)) := ⟨h2, v, h4, h5, h6⟩
    clear h2 h4 h5 h6
    go_enter Tryz.func115, Tryz.ntmps115
    go_wp2
    go_end0
    exact ⟨rfl, h1, HR.out.1, HR.out.2, PFr.refl _ _ _⟩

set_option maxHeartbeats 2000000 in
set_option maxRecDepth 100000 in
theorem bld_byte (B pb : Nat) (pv : Value) (l : List UInt8) (c : UInt8) (w : World) (h : PageAt B pb pv l w) (hl : l.length ≤ 1000000000) :
    Calls Tryz.prog 67 #[.pointer (some ⟨pb, 0, none⟩), .int .u8 (c.toNat : Int)] w fun e w' => e = .returned .nilIface ∧ PageAt B pb pv (l ++ [c]) w' ∧ PFr B pb w w' := by
  obtain ⟨i0, hi, hz0, hz1, hz2⟩ := info_parts Tryz.infoU8
  go_enter Tryz.func67, Tryz.ntmps67
  go_wp2_with fail
  refine (bld_check B pb pv l w h).mono ?_
  rintro e w1 ⟨rfl, hB, hBw, ⟨v, hbk, hown, hne⟩, hfr⟩
  have c0 : w1.cell? ⟨pb, 0, none⟩ = some (.pointer (some ⟨pb, 0, none⟩)) := by simp [World.cell?, hbk]
  have c1 : w1.cell? ⟨pb, 1, none⟩ = some v := by simp [World.cell?, hbk]
  obtain ⟨ao, n0, cap0, rfl⟩ : ∃ ao n' cap, v = .slice ao n' cap := by
    rcases hown.2 with ⟨hv, _⟩ | ⟨g, cap, cur, hv, _⟩
    · exact ⟨_, _, _, hv⟩
    · exact ⟨_, _, _, hv⟩
  clear h
  go_wp2_with (at_builtin; refine wpList_append_own _ rfl _ _ 57 rfl B 5 i0 (.int .u8 0) 1 1 Tryz.underlying57 hi hz0 hz1 hz2 rfl (by decide) _ _ _ rfl (hown.alloc _) ⟨w1.heap.size, 0, none⟩ 1 1 [.int .u8 (c.toNat : Int)] rfl rfl ?c1 ?c2 ?c3 ?c4 ?c5 ?_)
  case c1 =>
    intro j u hj
    match j, hj with
    | 0, hj => simp at hj; subst hj; simp [Addr.add]
    | j + 1, hj => simp at hj
  case c2 => intro u hu; simp at hu; subst hu; rfl
  case c3 => unfold maxLen; omega
  case c4 => omega
  case c5 => simp; omega
  intro v' w2 hown' hgrow _
  have hlt : pb < w1.heap.size := lt_of_row hbk
  have hb2 : w2.heap[pb]? = some (.cells #[.pointer (some ⟨pb, 0, none⟩), .slice ao n0 cap0, pv] 61 (0, 0)) := by
    rw [hgrow.block pb (by simp; omega) (fun e => hne e.symm)]
    exact row_below ((Below.refl _ _).alloc (Nat.le_refl _) _) hbk
  have d0 : w2.cell? ⟨pb, 0, none⟩ = some (.pointer (some ⟨pb, 0, none⟩)) := by simp [World.cell?, hb2]
  have d1 : w2.cell? ⟨pb, 1, none⟩ = some (.slice ao n0 cap0) := by simp [World.cell?, hb2]
  have f1 : w2.frozen? ⟨pb, 1, none⟩ = false := by simp [World.frozen?, hb2]
  obtain ⟨g, cap, rfl⟩ : ∃ g cap, v' = .slice (some ⟨g, 0, none⟩) (l.length + 1) cap := by
    rcases hown'.2 with ⟨_, h0⟩ | ⟨g, cap, cur, hv, _⟩
    · omega
    · exact ⟨g, cap, hv⟩
  have hne2 : (Value.slice (some ⟨g, 0, none⟩) (l.length + 1) cap).ownBlock ≠ some pb := Lib.ownBlock_ne hown' hb2 (by decide)
  have HR : Hid (PageAt B pb pv (l ++ [c]) (w2.setCell ⟨pb, 1, none⟩ (.slice (some ⟨g, 0, none⟩) (l.length + 1) cap)) ∧ PFr B pb w (w2.setCell ⟨pb, 1, none⟩ (.slice (some ⟨g, 0, none⟩) (l.length + 1) cap))) := by
    have hs2 := hgrow.size
    simp at hs2
    refine ⟨⟨hB, by simp [World.setCell]; omega, _, _, Or.inr rfl, by simp [World.setCell, Array.getElem?_modify, hb2], ?_, hne2⟩, ?_, ?_⟩
    · have hown2 : w2.ownsRow B 5 1 (.slice (some ⟨g, 0, none⟩) (l.length + 1) cap) (l.length + 1) (Lib.byteCells l ++ [.int .u8 (c.toNat : Int)]) := by simpa using hown'
      have := hown2.kept (row := some pb) (w' := w2.setCell ⟨pb, 1, none⟩ (.slice (some ⟨g, 0, none⟩) (l.length + 1) cap)) ⟨rfl, rfl, rfl, by simp [World.setCell], fun k _ hk => Below.heap_setCell _ _ _ _ (fun e => hk (by simp [e]))⟩ (Or.inr hne2)
      rw [Lib.byteCells_append, List.length_append]
      exact this
    · exact ((hfr.bel.alloc hBw _).grown hgrow (by simp; omega) (fun k hk => (hown.lt k hk).1)).setCell (p := ⟨pb, 1, none⟩) hB _
    · refine ((hfr.oth.alloc _).grown hgrow (fun g' hg' => ?_)).setCell ⟨pb, 1, none⟩ rfl _
      rcases hown.2 with ⟨hv, _⟩ | ⟨g2, cap2, cur, hv, _, hg2, _⟩
      · rw [hv] at hg'; simp [Value.ownBlock] at hg'
      · rw [hv] at hg'
        simp [Value.ownBlock] at hg'
        subst hg'
        exact ⟨cur, _, row_below ((Below.refl _ _).alloc (Nat.le_refl _) _) hg2⟩
  clear hown hown' hgrow hfr hbk hb2 hne hne2 c0 c1
  go_wp2
  go_ret
  exact ⟨rfl, HR.out.1, HR.out.2⟩

set_option maxHeartbeats 2000000 in
set_option maxRecDepth 100000 in
theorem bld_str (B pb : Nat) (pv : Value) (l : List UInt8) (s : ByteArray) (w : World) (h : PageAt B pb pv l w) (hl : l.length + s.size ≤ 1000000000) :
    Calls Tryz.prog 116 #[.pointer (some ⟨pb, 0, none⟩), .string s] w fun e w' => e = .returned (.tuple #[.int .i64 (s.size : Int), .nilIface]) ∧ PageAt B pb pv (l ++ s.data.toList) w' ∧ PFr B pb w w' := by
  obtain ⟨i0, hi, hz0, hz1, hz2⟩ := info_parts Tryz.infoU8
  go_enter Tryz.func116, Tryz.ntmps116
  go_wp2_with fail
  refine (bld_check B pb pv l w h).mono ?_
  rintro e w1 ⟨rfl, hB, hBw, ⟨v, hbk, hown, hne⟩, hfr⟩
  have c0 : w1.cell? ⟨pb, 0, none⟩ = some (.pointer (some ⟨pb, 0, none⟩)) := by simp [World.cell?, hbk]
  have c1 : w1.cell? ⟨pb, 1, none⟩ = some v := by simp [World.cell?, hbk]
  obtain ⟨ao, n0, cap0, rfl⟩ : ∃ ao n' cap, v = .slice ao n' cap := by
    rcases hown.2 with ⟨hv, _⟩ | ⟨g, cap, cur, hv, _⟩
    · exact ⟨_, _, _, hv⟩
    · exact ⟨_, _, _, hv⟩
  clear h
  go_wp2_with (at_builtin; refine Lib.wpList_append_own_string _ rfl _ _ 57 9 rfl B 5 i0 Tryz.underlying57 Tryz.underlying9 hi hz0 hz1 hz2 _ _ _ rfl hown s rfl ?c3 ?c4 ?c5 ?_)
  case c3 => unfold maxLen; omega
  case c4 => omega
  case c5 => omega
  intro v' w2 hown' hgrow _
  have hlt : pb < w1.heap.size := lt_of_row hbk
  have hb2 : w2.heap[pb]? = some (.cells #[.pointer (some ⟨pb, 0, none⟩), .slice ao n0 cap0, pv] 61 (0, 0)) := by
    rw [hgrow.block pb hlt (fun e => hne e.symm)]
    exact hbk
  have d0 : w2.cell? ⟨pb, 0, none⟩ = some (.pointer (some ⟨pb, 0, none⟩)) := by simp [World.cell?, hb2]
  have d1 : w2.cell? ⟨pb, 1, none⟩ = some (.slice ao n0 cap0) := by simp [World.cell?, hb2]
  have f1 : w2.frozen? ⟨pb, 1, none⟩ = false := by simp [World.frozen?, hb2]
  obtain ⟨a', n', cap, rfl⟩ : ∃ a' n' cap, v' = .slice a' n' cap := by
    rcases hown'.2 with ⟨hv, _⟩ | ⟨g, cap, cur, hv, _⟩
    · exact ⟨_, _, _, hv⟩
    · exact ⟨_, _, _, hv⟩
  have hne2 : (Value.slice a' n' cap).ownBlock ≠ some pb := Lib.ownBlock_ne hown' hb2 (by decide)
  have HR : Hid (PageAt B pb pv (l ++ s.data.toList) (w2.setCell ⟨pb, 1, none⟩ (.slice a' n' cap)) ∧ PFr B pb w (w2.setCell ⟨pb, 1, none⟩ (.slice a' n' cap))) := by
    have hs2 := hgrow.size
    refine ⟨⟨hB, by simp [World.setCell]; omega, _, _, Or.inr rfl, by simp [World.setCell, Array.getElem?_modify, hb2], ?_, hne2⟩, ?_, ?_⟩
    · have hown2 : w2.ownsRow B 5 1 (.slice a' n' cap) (l.length + s.size) (Lib.byteCells l ++ Lib.strCells s) := hown'
      have := hown2.kept (row := some pb) (w' := w2.setCell ⟨pb, 1, none⟩ (.slice a' n' cap)) ⟨rfl, rfl, rfl, by simp [World.setCell], fun k _ hk => Below.heap_setCell _ _ _ _ (fun e => hk (by simp [e]))⟩ (Or.inr hne2)
      rw [Lib.byteCells_append, List.length_append, Array.length_toList]
      exact this
    · exact (hfr.bel.grown hgrow (by omega) (fun k hk => (hown.lt k hk).1)).setCell (p := ⟨pb, 1, none⟩) hB _
    · refine (hfr.oth.grown hgrow (fun g' hg' => ?_)).setCell ⟨pb, 1, none⟩ rfl _
      rcases hown.2 with ⟨hv, _⟩ | ⟨g2, cap2, cur, hv, _, hg2, _⟩
      · rw [hv] at hg'; simp [Value.ownBlock] at hg'
      · rw [hv] at hg'
        simp [Value.ownBlock] at hg'
        subst hg'
        exact ⟨cur, _, hg2⟩
  clear hown hown' hgrow hfr hbk hb2 hne hne2 c0 c1
  go_wp2
  go_ret2
  exact ⟨rfl, HR.out.1, HR.out.2⟩

set_option maxHeartbeats 2000000 in
set_option maxRecDepth 100000 in
theorem bld_string (B pb : Nat) (pv : Value) (l : List UInt8) (w : World) (h : PageAt B pb pv l w) (h0 : l ≠ []) :
    Calls Tryz.prog 22 #[.pointer (some ⟨pb, 0, none⟩)] w fun e w' => e = .returned (.string ⟨l.toArray⟩) ∧ Below B w w' := by
  obtain ⟨hB, hBw, p, v, -, hbk, hown, hne⟩ := h
  have hl0 : l.length ≠ 0 := by simpa using h0
  obtain ⟨g, cap, cur, rfl, hbg, hg, hnc, hcm, hcs, htake⟩ : ∃ g cap cur, v = .slice (some ⟨g, 0, none⟩) l.length cap ∧ B ≤ g ∧ w.heap[g]? = some (.cells cur 5 (0, 0)) ∧ l.length ≤ cap ∧ cap ≤ maxLen ∧ cur.size = cap * 1 ∧ cur.toList.take (l.length * 1) = Lib.byteCells l := by
    rcases hown.2 with ⟨_, hz⟩ | ⟨g, cap, cur, hv, r⟩
    · exact absurd hz hl0
    · exact ⟨g, cap, cur, hv, r⟩
  have c1 : w.drew.cell? ⟨pb, 1, none⟩ = some (.slice (some ⟨g, 0, none⟩) l.length cap) := by
    have h2 : w.drew.heap[pb]? = _ := hbk
    simp [World.cell?, h2]
  have hSD : (Builtin.unsafeSliceData_ #[57] 96 #[.slice (some ⟨g, 0, none⟩) l.length cap]).run Tryz.prog w.drew = .ok (.pointer (some ⟨g, 0, none⟩)) w.drew :=
    Lib.run_unsafeSliceData_row _ _ _ _ _ _ (by omega)
  have hUS : (Builtin.unsafeString_ #[96, 3] 9 #[.pointer (some ⟨g, 0, none⟩), .int .i64 l.length]).run Tryz.prog w.drew = .ok (.string ⟨l.toArray⟩) (w.drew.freeze ⟨g, 0, none⟩ l.length) := by
    refine Lib.run_unsafeString_row w.drew 96 3 9 5 Tryz.underlying96 Tryz.cellsU8 g cur.size (by have hg' : w.drew.heap[g]? = some (.cells cur 5 (0, 0)) := hg; simp [World.shape?, hg']) l h0 (by omega) (by unfold maxLen at hcm; omega) ?_
    intro j x hx
    exact hown.cells (g := g) rfl j (.int .u8 x.toNat) (by simp [Lib.byteCells, hx])
  have HF : Hid (Below B w (w.drew.freeze ⟨g, 0, none⟩ l.length)) := Lib.below_freeze (Below.drew (Below.refl B w)) (p := ⟨g, 0, none⟩) hbg _
  clear hown hbk hg htake hcs hcm hnc hne
  go_enter Tryz.func22, Tryz.ntmps22
  go_wp2
  go_region
  all_goals (go_wp2; go_ret; exact ⟨rfl, HF.out⟩)
end Go.Proofs.YtcnfkdecghdphaaGreatDoor
