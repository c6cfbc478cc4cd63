/-
  An append to the marks whose old slice stays; what a drawn statement of FlowEnds yields. No condition.
-/
import Derived.Test.YtbholbenjalliabFlOrd
import Derived.Test.YtbholbenjalliabFlRef
import Derived.Test.YtbholbenjalliabCfHeavyE
namespace Go.Proofs.Ytbholbenjalliab
open Go.RowKit Go.Extern.Stop Go.Stop Go.Extern

/-- An append's run, as an operation. -/
theorem exec_append {a : Act} {o : Oper} {s x : Operand} {t ty : TypeId} {vs vx v' : Value} {V V' : World} (ho : o.op = .call { callee := .builtin .append, args := #[s, x], argTypes := #[t, t] }) (hty : o.type = ty) (hs : a.eval s = vs) (hx : a.eval x = vx)
    (hr : (Builtin.append_ #[t, t] ty #[vs, vx]).run Try.prog V = .ok v' V') : (execOp a.eval o).run Try.prog V = .ok (.value v') V' := by
  subst hty
  unfold execOp
  simp only [ho, resolve, invoke, builtin, Sem.run_bind, Sem.run_pure, Result.andThen_ok, List.map_toArray, List.map_cons, List.map_nil, hs, hx, hr]
/-- The zero mark. -/
def mk0 : MkD := ⟨0, 0, 0⟩
/-- 'append(marks, m)', whose old slice stays what it was. -/
theorem append_keep (B : Nat) (ty : TypeId) {w : World} {v : Value} {ms : List MkD} (h : MkOwn B w v ms) (x : MkD) (a : Addr) (c : Nat) (hx : ∀ j u, (encM x)[j]? = some u → w.cell? (a.add j) = some u) (hl : ms.length ≤ 1000) (hB : B ≤ w.heap.size) :
    ∃ v' w', (Builtin.append_ #[49, 49] ty #[v, .slice (some a) 1 c]).run Try.prog w = .ok v' w' ∧ MkOwn B w' v' (ms ++ [x]) ∧ MkOwn B w' v ms ∧ w.grownBy w' v.ownBlock := by
  obtain ⟨i0, hi, hz0, hz1, hz2⟩ := info_parts Try.infoMark
  obtain ⟨v', w', hr, ho, hg, -⟩ := run_append_own (P := Try.prog) w B 49 ty 51 i0 (.agg #[.int .i64 0, .int .i64 0, .int .i64 0]) 3 24 Try.underlying49 hi hz0 hz1 hz2 rfl (by decide) v ms.length (ms.flatMap encM) h a 1 c (encM x) rfl hx (encM_one x) (by unfold maxLen; omega) (by omega) hB
  have ho' : MkOwn B w' v' (ms ++ [x]) := by
    unfold MkOwn
    rw [List.length_append, List.flatMap_append]
    simpa using ho
  refine ⟨v', w', hr, ho', ?_, hg⟩
  rcases h.2 with ⟨rfl, h0⟩ | ⟨g, cap, cur, rfl, hbg, hgr, hnc, hcm, hcs, htake⟩
  · have : ms = [] := List.eq_nil_of_length_eq_zero h0
    subst this
    exact World.ownsRow_nil _ _ _ _
  · by_cases hroom : ms.length + 1 ≤ cap
    · have hfit : ms.length * i0.size + (encM x).length ≤ cur.size := by rw [hz1, encM_len]; omega
      have hr2 := run_append_room (P := Try.prog) w 49 ty 51 i0 Try.underlying49 hi g ms.length cap cur hgr a 1 c (encM x) (by rw [hz1]; rfl) hx (encM_one x) hroom hfit
      rw [hr] at hr2
      simp only [Result.ok.injEq] at hr2
      obtain ⟨e1, e2⟩ := hr2
      refine ⟨h.1, Or.inr ⟨g, cap, ?_⟩⟩
      rcases ho'.2 with ⟨h1, -⟩ | ⟨g2, cap2, cur2, h1, -, h3, -, -, h6, h7⟩
      · rw [h1] at e1; cases e1
      · rw [h1] at e1
        simp only [Value.slice.injEq, Option.some.injEq, Addr.mk.injEq] at e1
        obtain ⟨⟨rfl, -⟩, -, rfl⟩ := e1
        refine ⟨cur2, rfl, hbg, h3, hnc, hcm, h6, ?_⟩
        have := congrArg (List.take (ms.length * 3)) h7
        rw [List.take_take] at this
        rw [show min (ms.length * 3) ((ms ++ [x]).length * 3) = ms.length * 3 by simp] at this
        rw [this, List.flatMap_append, List.take_left' (by rw [flat_len encM_len])]
    · have holds : ∀ j u, (ms.flatMap encM)[j]? = some u → w.cell? ((⟨g, 0, none⟩ : Addr).add j) = some u := World.ownsRow.cells h (g := g) rfl
      have hr2 := run_append_grow (P := Try.prog) w 49 ty 51 i0 (.agg #[.int .i64 0, .int .i64 0, .int .i64 0]) Try.underlying49 hi hz0 ⟨g, 0, none⟩ ms.length cap (ms.flatMap encM) (by rw [hz1]; exact h.1) holds a 1 c (encM x) (by rw [hz1]; rfl) hx (by omega) (by omega) (growslice_fits (by omega) (by rw [hz2]; omega))
      rw [hr] at hr2
      simp only [Result.ok.injEq] at hr2
      obtain ⟨-, rfl⟩ := hr2
      exact MkOwn.below (w := w) h ((Below.refl _ _).drew.alloc (by simp) _)
def anS (e : EntD) (pa ga ea fa la : Option Addr) (pc gc ec fc lc : Nat) (b : Nat) (va : Option Addr) (vc : Nat) (ms : List MkD) : Nat → Value → World → Prop
  | 0 => fun v _ => v = .pointer (some ⟨b, 0, none⟩)
  | 1 => fun v _ => v = .int .i64 (aheadOf e ms)
  | 2 => fun v _ => v = .agg #[.string e.name, .int .i64 e.tol, .slice pa e.pts.length pc, .int .i64 e.cnt, .int .i64 e.mn, .int .i64 e.mx, .slice ga e.gaps.length gc, .slice ea e.edges.length ec, .slice fa e.first.length fc, .slice la e.last.length lc]
  | 3 => fun v _ => v = .slice va ms.length vc
  | 4 => fun v _ => v = .agg #[.int .i64 0, .int .i64 0, .int .i64 0]
  | 5 => fun v w => ∃ g, v = .slice (some ⟨g, 0, none⟩) 1 1 ∧ w.heap[g]? = some (.cells #[.int .i64 0, .int .i64 0, .int .i64 0] 51 (0, 0)) ∧ (Value.slice va ms.length vc).ownBlock ≠ some g
  | 6 => fun v w => ∃ va' vc', v = .slice va' (ms ++ [mk0]).length vc' ∧ SlAt encM 3 w (.slice va' (ms ++ [mk0]).length vc') (ms ++ [mk0])
  | 7 => fun v _ => v = .slice va ms.length vc
  | 8 => fun v _ => v = .int .i64 (ms.length : Int)
  | 9 => fun v _ => v = .int .i64 (aheadOf e ms)
  | 10 => fun v _ => v = .bool false
  | _ => fun _ _ => True
theorem anS_keeps {e : EntD} {pa ga ea fa la : Option Addr} {pc gc ec fc lc : Nat} {b : Nat} {va : Option Addr} {vc : Nat} {ms : List MkD} {done : Nat → Bool} {w w' : World} (hb : Below w.heap.size w w') : ∀ j v, done j = true → anS e pa ga ea fa la pc gc ec fc lc b va vc ms j v w → anS e pa ga ea fa la pc gc ec fc lc b va vc ms j v w' := by
  intro j v _ h
  match j, h with
  | 0, h => exact h
  | 1, h => exact h
  | 2, h => exact h
  | 3, h => exact h
  | 4, h => exact h
  | 5, h => obtain ⟨g, h1, h2, h3⟩ := h; exact ⟨g, h1, row_below hb h2, h3⟩
  | 6, h => obtain ⟨a, c, h1, h2⟩ := h; exact ⟨a, c, h1, h2.below hb⟩
  | 7, h => exact h
  | 8, h => exact h
  | 9, h => exact h
  | 10, h => exact h
  | n + 11, h => exact h
/-- What the loop keeps: the reports, their bounds. -/
structure FmFit (ms : List MkD) (k : Nat) (C : Int) : Prop where
  len : ms.length ≤ k
  each : ∀ m ∈ ms, m.cyc ≤ C
  c0 : 0 ≤ C
  c1 : C ≤ (k : Int)
theorem mk_grown {w w' : World} {B b : Nat} {v : Value} {ms : List MkD} (h : MkOwn B w v ms) {c : Array Value} {fr : Nat × Nat} (hb : w.heap[b]? = some (.cells c 69 fr)) (hg : w.grownBy w' (some b)) : MkOwn B w' v ms :=
  World.ownsRow.kept h hg (Or.inr (ow_ne h hb (by decide)))
theorem FlIn.row {w0 w : World} {b : Nat} {e : EntD} {s : FSt} (h : FlIn w0 w b e s) : ∃ c, w.heap[b]? = some (.cells c 69 (0, 0)) := by
  obtain ⟨-, m, n, D, fv, lv, h⟩ := h
  exact ⟨_, h.heap⟩
end Go.Proofs.Ytbholbenjalliab
