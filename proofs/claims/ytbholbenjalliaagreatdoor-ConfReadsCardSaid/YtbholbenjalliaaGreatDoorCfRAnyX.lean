/-
  (*conf.reader).takePart by one contract for all its kinds; the reader of a state in memory ('RdS'). Conditions: lists of at most a million; the words lie in memory.
-/
import Derived.Test.YtbholbenjalliaaGreatDoorCfRCountX
import Derived.Test.YtbholbenjalliaaGreatDoorCfREntX
import Derived.Test.YtbholbenjalliaaGreatDoorPtX
namespace Go.Proofs.YtbholbenjalliaaGreatDoor
open Go.RowKit Go.Extern.Stop Go.Stop Go.Extern Go.Maps

theorem fillR_vals {look : Bs → Option Nat} : ∀ (fs : List Nat) (ws : List Bs), (fillV look false fs ws).1 = 0 → ws.length = fs.length ∧ (fillV look false fs ws).2.length = fs.length ∧ ∀ (i : Nat) f w, fs[i]? = some f → ws[i]? = some w → (fillV look false fs ws).2[i]? = some (wordV look f w).2
  | [], ws, h => by
    have := fill_end h
    subst this
    exact ⟨rfl, rfl, fun i f w hf => by simp at hf⟩
  | f :: fs, ws, h => by
    obtain ⟨w, ws', rfl, h1, h2, h3⟩ := fill_inv h
    obtain ⟨a, b, d⟩ := fillR_vals fs ws' h2
    rw [h3]
    refine ⟨by simp [a], by simp [b], fun i f' w' hf hw => ?_⟩
    cases i with
    | zero =>
      simp at hf hw
      subst hf hw
      rfl
    | succ i =>
      simp at hf hw ⊢
      exact d i f' w' hf hw
/-- All lists of an entity are at most n long. -/
structure SzE (n : Nat) (e : EntD) : Prop where
  p : e.pts.length ≤ n
  g : e.gaps.length ≤ n
  d : e.edges.length ≤ n
  f : e.first.length ≤ n
  l : e.last.length ≤ n
theorem SzE.mono {n m : Nat} {e : EntD} (h : SzE n e) (hm : n ≤ m) : SzE m e := ⟨Nat.le_trans h.p hm, Nat.le_trans h.g hm, Nat.le_trans h.d hm, Nat.le_trans h.f hm, Nat.le_trans h.l hm⟩
theorem SzE.upd {n k : Nat} {e : EntD} {ws : List Bs} {vs : List Int} (h : SzE n e) : SzE (n + 1) (updE k ws vs e) := by
  obtain ⟨p, g, ee, f, l⟩ := h
  unfold updE
  split
  all_goals exact ⟨by simp; omega, by simp; omega, by simp; omega, by simp; omega, by simp; omega⟩
theorem getD_of {vs : List Int} {i : Nat} {z : Int} (h : vs[i]? = some z) : vs.getD i 0 = z := by rw [List.getD_eq_getElem?_getD, h]; rfl
theorem word_get {ws : List ByteArray} {n i : Nat} (h : ws.length = n) (hi : i < n) : ∃ s, ws[i]? = some s := ⟨ws[i]'(by omega), List.getElem?_eq_getElem _⟩
theorem RdB.c4 {B rb L g cap mb : Nat} {w : World} {c : CfgD} {last : Int} {es : List EntD} {e : EntD} {x : PV5} {cells : List Value} (h : RdB B rb L g cap mb w c last es e x cells) : w.cell? ⟨rb, 4, none⟩ = some (.slice (some ⟨g, 0, none⟩) (es.length + 1) cap) := by have := h.row; simp [World.cell?, this, rdRow]
set_option maxRecDepth 100000 in
theorem part_any (A : Nat → Addr) (w0 w : World) (rb L g cap mb k : Nat) (c : CfgD) (last : Int) (es : List EntD) (e : EntD) (x : PV5) (cells : List Value) (sa : Option Addr) (ws : List ByteArray) (wb wo wc : Nat) (hs : Sen6 A w0) (hb0 : Below w0.heap.size w0 w) (h : RdE w0.heap.size rb L g cap mb w c last es e x cells) (hLw : L ≤ w.heap.size) (hW : WordsAt w sa ws wb wo) (hn : SzE 1000000 e) (hk : 4 ≤ k) (hk2 : k < 10) :
    Calls Tryz.prog 129 #[.pointer (some ⟨rb, 0, none⟩), .pointer (some ⟨g, es.length * 10, none⟩), .int .i64 (k : Int), .slice sa ws.length wc] w fun v w' => v = .returned (errV A (fillV (lookL e.pts) false (form k) (ws.map bl)).1) ∧ Below w0.heap.size w0 w' ∧ w'.cell? ⟨rb, 4, none⟩ = some (.slice (some ⟨g, 0, none⟩) (es.length + 1) cap) ∧ ((fillV (lookL e.pts) false (form k) (ws.map bl)).1 = 0 → ∃ x', RdE w0.heap.size rb L g cap mb w' c last es (updE k (ws.map bl) (fillV (lookL e.pts) false (form k) (ws.map bl)).2 e) x' cells ∧ L ≤ w'.heap.size) := by
  match k, hk, hk2 with
  | 4, _, _ =>
    refine (part_pts A w0 w rb L g cap mb c last es e x cells sa ws wb wo wc hs hb0 h hLw hW hn.p).mono ?_
    rintro v w' ⟨rfl, hb, q, x', hv, hr, hL⟩
    refine ⟨rfl, hb, hr.c4, fun h0 => ⟨x', ?_, hL⟩⟩
    obtain ⟨hl, -, hd⟩ := fillR_vals _ _ h0
    obtain ⟨s, hs0⟩ := word_get (i := 0) (by simpa [form] using hl) (by decide)
    have hq := hv h0 s hs0
    subst hq
    have e1 : (ws.map bl).getD 0 [] = bl q := by rw [List.getD_eq_getElem?_getD, List.getElem?_map, hs0]; rfl
    show RdE _ _ _ _ _ _ _ _ _ _ (EntD.mk _ _ _ _ _ _ _ _ _ _) _ _
    rw [e1, show (⟨(bl q).toArray⟩ : ByteArray) = q from bl_inj (bl_mk _)]
    exact hr
  | 5, _, _ =>
    refine (part_count A w0 w rb L g cap mb c last es e x cells sa ws wb wo wc hs hb0 h hLw hW).mono ?_
    rintro v w' ⟨rfl, hb, z0, z1, z2, hv, hr, hL⟩
    refine ⟨rfl, hb, hr.c4, fun h0 => ⟨x, ?_, hL⟩⟩
    obtain ⟨hl, -, hd⟩ := fillR_vals _ _ h0
    obtain ⟨s0, q0⟩ := word_get (i := 0) (by simpa [form] using hl) (by decide)
    obtain ⟨s1, q1⟩ := word_get (i := 1) (by simpa [form] using hl) (by decide)
    obtain ⟨s2, q2⟩ := word_get (i := 2) (by simpa [form] using hl) (by decide)
    obtain ⟨v0, v1, v2⟩ := hv h0
    show RdE _ _ _ _ _ _ _ _ _ _ (EntD.mk _ _ _ _ _ _ _ _ _ _) _ _
    rw [getD_of (hd 0 2 (bl s0) rfl (by rw [List.getElem?_map, q0]; rfl)), getD_of (hd 1 1 (bl s1) rfl (by rw [List.getElem?_map, q1]; rfl)), getD_of (hd 2 1 (bl s2) rfl (by rw [List.getElem?_map, q2]; rfl)), ← v0 s0 q0, ← v1 s1 q1, ← v2 s2 q2]
    exact hr
  | 6, _, _ =>
    refine (part_gaps A w0 w rb L g cap mb c last es e x cells sa ws wb wo wc hs hb0 h hLw hW hn.g).mono ?_
    rintro v w' ⟨rfl, hb, z0, z1, z2, z3, x', hv, hr, hL⟩
    refine ⟨rfl, hb, hr.c4, fun h0 => ⟨x', ?_, hL⟩⟩
    obtain ⟨hl, -, hd⟩ := fillR_vals _ _ h0
    obtain ⟨s0, q0⟩ := word_get (i := 0) (by simpa [form] using hl) (by decide)
    obtain ⟨s1, q1⟩ := word_get (i := 1) (by simpa [form] using hl) (by decide)
    obtain ⟨s2, q2⟩ := word_get (i := 2) (by simpa [form] using hl) (by decide)
    obtain ⟨s3, q3⟩ := word_get (i := 3) (by simpa [form] using hl) (by decide)
    obtain ⟨v0, v1, v2, v3⟩ := hv h0
    show RdE _ _ _ _ _ _ _ _ _ _ (EntD.mk _ _ _ _ _ _ _ _ _ _) _ _
    rw [getD_of (hd 0 2 (bl s0) rfl (by rw [List.getElem?_map, q0]; rfl)), getD_of (hd 1 2 (bl s1) rfl (by rw [List.getElem?_map, q1]; rfl)), getD_of (hd 2 1 (bl s2) rfl (by rw [List.getElem?_map, q2]; rfl)), getD_of (hd 3 1 (bl s3) rfl (by rw [List.getElem?_map, q3]; rfl)), ← v0 s0 q0, ← v1 s1 q1, ← v2 s2 q2, ← v3 s3 q3]
    exact hr
  | 7, _, _ =>
    refine (part_edges A w0 w rb L g cap mb c last es e x cells sa ws wb wo wc hs hb0 h hLw hW hn.d).mono ?_
    rintro v w' ⟨rfl, hb, z0, z1, x', hv, hr, hL⟩
    refine ⟨rfl, hb, hr.c4, fun h0 => ⟨x', ?_, hL⟩⟩
    obtain ⟨hl, -, hd⟩ := fillR_vals _ _ h0
    obtain ⟨s0, q0⟩ := word_get (i := 0) (by simpa [form] using hl) (by decide)
    obtain ⟨s1, q1⟩ := word_get (i := 1) (by simpa [form] using hl) (by decide)
    obtain ⟨v0, v1⟩ := hv h0
    show RdE _ _ _ _ _ _ _ _ _ _ (EntD.mk _ _ _ _ _ _ _ _ _ _) _ _
    rw [getD_of (hd 0 2 (bl s0) rfl (by rw [List.getElem?_map, q0]; rfl)), getD_of (hd 1 2 (bl s1) rfl (by rw [List.getElem?_map, q1]; rfl)), ← v0 s0 q0, ← v1 s1 q1]
    exact hr
  | 8, _, _ =>
    refine (part_first A w0 w rb L g cap mb c last es e x cells sa ws wb wo wc hs hb0 h hLw hW hn.f).mono ?_
    rintro v w' ⟨rfl, hb, z0, x', hv, hr, hL⟩
    refine ⟨rfl, hb, hr.c4, fun h0 => ⟨x', ?_, hL⟩⟩
    obtain ⟨hl, -, hd⟩ := fillR_vals _ _ h0
    obtain ⟨s0, q0⟩ := word_get (i := 0) (by simpa [form] using hl) (by decide)
    show RdE _ _ _ _ _ _ _ _ _ _ (EntD.mk _ _ _ _ _ _ _ _ _ _) _ _
    rw [getD_of (hd 0 2 (bl s0) rfl (by rw [List.getElem?_map, q0]; rfl)), ← hv h0 s0 q0]
    exact hr
  | 9, _, _ =>
    refine (part_last A w0 w rb L g cap mb c last es e x cells sa ws wb wo wc hs hb0 h hLw hW hn.l).mono ?_
    rintro v w' ⟨rfl, hb, z0, x', hv, hr, hL⟩
    refine ⟨rfl, hb, hr.c4, fun h0 => ⟨x', ?_, hL⟩⟩
    obtain ⟨hl, -, hd⟩ := fillR_vals _ _ h0
    obtain ⟨s0, q0⟩ := word_get (i := 0) (by simpa [form] using hl) (by decide)
    show RdE _ _ _ _ _ _ _ _ _ _ (EntD.mk _ _ _ _ _ _ _ _ _ _) _ _
    rw [getD_of (hd 0 2 (bl s0) rfl (by rw [List.getElem?_map, q0]; rfl)), ← hv h0 s0 q0]
    exact hr
  | k + 10, _, h10 => exact absurd h10 (by omega)
/-- The reader of a state, in memory. -/
def RdS (B rb : Nat) (w : World) (c : CfgD) (last : Int) : Prop := RdN B rb w c last ∨ ∃ L g cap mb es e x cells, c.ents = es ++ [e] ∧ RdE B rb L g cap mb w c last es e x cells ∧ L ≤ w.heap.size
end Go.Proofs.YtbholbenjalliaaGreatDoor
