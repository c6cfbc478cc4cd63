/-
  The three places of package conf that hand a list of rules to firstBroken, whatever order is drawn. Conditions: what is handed over lies in memory; the sentinels are in memory.
-/
import Derived.Test.YtbholbenjalliaaGreatDoorCfPart2X
import Derived.Test.YtbholbenjalliaaGreatDoorCodesX
namespace Go.Proofs.YtbholbenjalliaaGreatDoor
open Go.RowKit Go.Extern.Stop Go.Stop Go.Extern

theorem first_size (A : Nat → Addr) (e : EntD) (pa ga ea fa la : Option Addr) (pc gc ec fc lc : Nat) (r : Nat) (W : World) (hr : W.heap[r]? = some (.cells (sizeRow A) 145 (0, 0))) :
    Calls Tryz.prog 55 #[.agg #[.string e.name, .int .i64 e.tol, .slice pa e.pts.length pc, .int .i64 e.cnt, .int .i64 e.mn, .int .i64 e.mx, .slice ga e.gaps.length gc, .slice ea e.edges.length ec, .slice fa e.first.length fc, .slice la e.last.length lc], .slice (some ⟨r, 0, none⟩) 6 6] W fun v w' => v = .returned (errV A (sizeErr e)) ∧ Below W.heap.size W w' :=
  first_ent A _ _ _ _ _ _ _ _ _ _ _ _ _ _ _ _ _ _ _ _ r _ sizeFns W (size_rules A e pa ga ea fa la pc gc ec fc lc r W hr)
theorem first_part (A : Nat → Addr) (e : EntD) (pa ga ea fa la : Option Addr) (pc gc ec fc lc : Nat) (r : Nat) (W : World) (hP : EntParts W e (.slice pa e.pts.length pc) (.slice ga e.gaps.length gc) (.slice ea e.edges.length ec) (.slice fa e.first.length fc) (.slice la e.last.length lc)) (hS : SmallE e) (hr : W.heap[r]? = some (.cells (partRow A) 145 (0, 0))) :
    Calls Tryz.prog 55 #[.agg #[.string e.name, .int .i64 e.tol, .slice pa e.pts.length pc, .int .i64 e.cnt, .int .i64 e.mn, .int .i64 e.mx, .slice ga e.gaps.length gc, .slice ea e.edges.length ec, .slice fa e.first.length fc, .slice la e.last.length lc], .slice (some ⟨r, 0, none⟩) 13 13] W fun v w' => v = .returned (errV A (partErr e)) ∧ Below W.heap.size W w' :=
  first_ent A _ _ _ _ _ _ _ _ _ _ _ _ _ _ _ _ _ _ _ _ r _ partFns W (part_rules A e pa ga ea fa la pc gc ec fc lc r W hP hS hr)
theorem first_whole (A : Nat → Addr) (c : CfgD) (sa : Option Addr) (sc : Nat) (r : Nat) (W : World) (hs : Sen6 A W) (hr : W.heap[r]? = some (.cells (cfgRow A) 102 (0, 0))) :
    Calls Tryz.prog 25 #[.agg #[.int .i64 c.closed, .int .i64 c.opn, .int .i64 c.cycle, .int .i64 c.delay, .slice sa c.ents.length sc], .slice (some ⟨r, 0, none⟩) 5 5] W fun v w' => v = .returned (errV A (wholeErr c)) ∧ Below W.heap.size W w' :=
  first_cfg A _ _ _ _ _ _ _ r _ cfgFns W (cfg_rules A c sa sc r W hs hr)
theorem heap_new (V : World) (c : Array Value) (t : TypeId) : (V.alloc (.cells c t)).heap[V.heap.size]? = some (.cells c t (0, 0)) := by
  show (V.heap.push _)[V.heap.size]? = _
  simp
/-- What the four operations of such a region yield. -/
def ruleS (row : Value) (n : Nat) (rules : Array Value) (t : TypeId) (err : Value) (i : Nat) (v : Value) (W : World) : Prop := match i with
  | 0 => v = row
  | 1 => ∃ r, v = .slice (some ⟨r, 0, none⟩) n n ∧ W.heap[r]? = some (.cells rules t (0, 0))
  | 2 => v = err
  | _ => v = err
theorem ruleS_keeps {row : Value} {n : Nat} {rules : Array Value} {t : TypeId} {err : Value} {w w' : World} (hb : Below w.heap.size w w') : ∀ j v, ruleS row n rules t err j v w → ruleS row n rules t err j v w' := by
  intro j v h
  match j with
  | 0 => exact h
  | 1 => obtain ⟨r, h1, h2⟩ := h; exact ⟨r, h1, row_below hb h2⟩
  | 2 => exact h
  | j + 3 => exact h
end Go.Proofs.YtbholbenjalliaaGreatDoor
