/-
  The document's statement that adds a gap to an entity, in any order that it may draw: what each of its operations yields, what the world is when a set of them has been done. No condition.
-/
import Derived.Test.YtbholbenjalliaaGreatDoorDr1X
import Derived.Test.YtbholbenjalliaaGreatDoorCodesX
namespace Go.Proofs.YtbholbenjalliaaGreatDoor
open Go.RowKit Go.Extern.Stop Go.Stop Go.Extern Go.Maps

/-- An append's run, as an operation. -/
theorem exec_app {a : Act} {o : Oper} {s x : Operand} {t ty : TypeId} {vs vx v' : Value} {V V' : World} (ho : o.op = .call { callee := .builtin .append, args := #[s, x], argTypes := #[t, t] }) (hty : o.type = ty) (hs : a.eval s = vs) (hx : a.eval x = vx)
    (hr : (Builtin.append_ #[t, t] ty #[vs, vx]).run Tryz.prog V = .ok v' V') : (execOp a.eval o).run Tryz.prog V = .ok (.value v') V' := by
  subst hty
  unfold execOp
  simp only [ho, resolve, invoke, builtin, Sem.run_bind, Sem.run_pure, Result.andThen_ok, List.map_toArray, List.map_cons, List.map_nil, hs, hx, hr]
theorem gap_append (L : Nat) (ty : TypeId) {w : World} {v : Value} {gs : List GapD} (h : w.ownsRow L 78 4 v gs.length (gs.flatMap encG)) (x : GapD) (a : Addr) (c : Nat) (hx : ∀ j u, (encG x)[j]? = some u → w.cell? (a.add j) = some u) (hl : gs.length ≤ 1000000) (hB : L ≤ w.heap.size) :
    ∃ g' cap' w', (Builtin.append_ #[48, 48] ty #[v, .slice (some a) 1 c]).run Tryz.prog w = .ok (.slice (some ⟨g', 0, none⟩) (gs.length + 1) cap') w' ∧ w'.ownsRow L 78 4 (.slice (some ⟨g', 0, none⟩) (gs.length + 1) cap') (gs.length + 1) (gs.flatMap encG ++ encG x) ∧ w.grownBy w' v.ownBlock := by
  obtain ⟨i0, hi, hz0, hz1, hz2⟩ := info_parts Tryz.infoOwng
  obtain ⟨v', w', hr, ho, hg, -⟩ := run_append_own (P := Tryz.prog) w L 48 ty 78 i0 (.agg #[.int .i64 0, .int .i64 0, .int .i64 0, .int .i64 0]) 4 32 Tryz.underlying48 hi hz0 hz1 hz2 rfl (by decide) v gs.length (gs.flatMap encG) h a 1 c (encG x) rfl hx (encG_one x) (by unfold maxLen; omega) (by omega) hB
  rcases ho.2 with ⟨-, h0⟩ | ⟨g, cap, cur, rfl, -⟩
  · omega
  · exact ⟨g, cap, w', hr, ho, hg⟩
theorem mark_ne {done : Nat → Bool} {i j : Nat} (h : i ≠ j) : mark done i j = done j := by simp [mark, Ne.symm h]
theorem mark_self (done : Nat → Bool) (i : Nat) : mark done i i = true := by simp [mark]
theorem mark_up {done : Nat → Bool} {j : Nat} (i : Nat) (h : done j = true) : mark done i j = true := by simp [mark, h]
/-- What is done ahead of what. -/
structure GapDep (done : Nat → Bool) : Prop where
  a : done 14 = true → done 4 = true ∧ done 7 = true ∧ done 10 = true ∧ done 13 = true
  b : done 15 = true → done 14 = true
  c : done 16 = true → done 15 = true ∧ done 1 = true
  d : done 18 = true → done 16 = true
theorem GapDep.mark {done : Nat → Bool} (h : GapDep done) (i : Nat) (h14 : i = 14 → done 4 = true ∧ done 7 = true ∧ done 10 = true ∧ done 13 = true) (h15 : i = 15 → done 14 = true) (h16 : i = 16 → done 15 = true ∧ done 1 = true) (h18 : i = 18 → done 16 = true) : GapDep (mark done i) where
  a := fun x => by
    have : done 4 = true ∧ done 7 = true ∧ done 10 = true ∧ done 13 = true := by
      by_cases e : i = 14
      · exact h14 e
      · rw [mark_ne e] at x; exact h.a x
    exact ⟨mark_up i this.1, mark_up i this.2.1, mark_up i this.2.2.1, mark_up i this.2.2.2⟩
  b := fun x => by
    by_cases e : i = 15
    · exact mark_up i (h15 e)
    · rw [mark_ne e] at x; exact mark_up i (h.b x)
  c := fun x => by
    have : done 15 = true ∧ done 1 = true := by
      by_cases e : i = 16
      · exact h16 e
      · rw [mark_ne e] at x; exact h.c x
    exact ⟨mark_up i this.1, mark_up i this.2⟩
  d := fun x => by
    by_cases e : i = 18
    · exact mark_up i (h18 e)
    · rw [mark_ne e] at x; exact mark_up i (h.d x)
def gapSt (V : World) (eb : Nat) (old : Value) (new : Obj) : Bool → Bool → Bool → World → Prop
  | false, _, _ => fun W => W = V.drew
  | true, false, _ => fun W => W = V.drew.alloc new
  | true, true, false => fun W => W.cell? ⟨eb, 6, none⟩ = some old
  | true, true, true => fun _ => True
def gapC (V : World) (eb : Nat) (old : Value) (new : Obj) (done : Nat → Bool) (W : World) : Prop := GapDep done ∧ gapSt V eb old new (done 15) (done 16) (done 18) W
section
variable {V W : World} {eb : Nat} {old : Value} {new : Obj} {done : Nat → Bool}
theorem gapC_start : gapC V eb old new (fun _ => false) V.drew := ⟨⟨fun h => (by cases h), fun h => (by cases h), fun h => (by cases h), fun h => (by cases h)⟩, rfl⟩
theorem gapC.other (h : gapC V eb old new done W) {i : Nat} (h14 : i ≠ 14) (h15 : i ≠ 15) (h16 : i ≠ 16) (h18 : i ≠ 18) : gapC V eb old new (mark done i) W :=
  ⟨h.1.mark i (fun e => absurd e h14) (fun e => absurd e h15) (fun e => absurd e h16) (fun e => absurd e h18), by rw [mark_ne h15, mark_ne h16, mark_ne h18]; exact h.2⟩
theorem gapC.at14 (h : gapC V eb old new done W) (hp : done 4 = true ∧ done 7 = true ∧ done 10 = true ∧ done 13 = true) : gapC V eb old new (mark done 14) W :=
  ⟨h.1.mark 14 (fun _ => hp) (fun e => absurd e (by decide)) (fun e => absurd e (by decide)) (fun e => absurd e (by decide)), by rw [mark_ne (by decide), mark_ne (by decide), mark_ne (by decide)]; exact h.2⟩
theorem gapC.early (h : gapC V eb old new done W) (h15 : done 15 = false) : W = V.drew := by have := h.2; rw [h15] at this; exact this
theorem gapC.no16 (h : gapC V eb old new done W) (h15 : done 15 = false) : done 16 = false := by
  cases e : done 16 with
  | false => rfl
  | true => have := (h.1.c e).1; rw [h15] at this; cases this
theorem gapC.no16' (h : gapC V eb old new done W) (h1 : done 1 = false) : done 16 = false := by
  cases e : done 16 with
  | false => rfl
  | true => have := (h.1.c e).2; rw [h1] at this; cases this
theorem gapC.no18 (h : gapC V eb old new done W) (h16 : done 16 = false) : done 18 = false := by
  cases e : done 18 with
  | false => rfl
  | true => have := h.1.d e; rw [h16] at this; cases this
theorem gapC.no15 (h : gapC V eb old new done W) {k : Nat} (hk : k = 4 ∨ k = 7 ∨ k = 10 ∨ k = 13) (hd : done k = false) : done 15 = false := by
  cases e : done 15 with
  | false => rfl
  | true =>
    obtain ⟨a, b, c, d⟩ := h.1.a (h.1.b e)
    rcases hk with rfl | rfl | rfl | rfl
    · rw [a] at hd; cases hd
    · rw [b] at hd; cases hd
    · rw [c] at hd; cases hd
    · rw [d] at hd; cases hd
theorem gapC.grown (h : gapC V eb old new done W) (h15 : done 15 = true) (h16 : done 16 = false) : W = V.drew.alloc new := by have := h.2; rw [h15, h16] at this; exact this
theorem gapC.cell (h : gapC V eb old new done W) (h16 : done 16 = false) (q : V.drew.cell? ⟨eb, 6, none⟩ = some old) (q' : (V.drew.alloc new).cell? ⟨eb, 6, none⟩ = some old) : W.cell? ⟨eb, 6, none⟩ = some old := by
  cases e : done 15 with
  | false => rw [h.early e]; exact q
  | true => rw [h.grown e h16]; exact q'
theorem gapC.at15 (h : gapC V eb old new done W) (h15 : done 15 = false) (h14 : done 14 = true) : gapC V eb old new (mark done 15) (V.drew.alloc new) :=
  ⟨h.1.mark 15 (fun e => absurd e (by decide)) (fun _ => h14) (fun e => absurd e (by decide)) (fun e => absurd e (by decide)), by rw [mark_self, mark_ne (by decide), h.no16 h15]; rfl⟩
theorem gapC.at16 {W' : World} (h : gapC V eb old new done W) (h16 : done 16 = false) (hp : done 15 = true ∧ done 1 = true) (hc : W'.cell? ⟨eb, 6, none⟩ = some old) : gapC V eb old new (mark done 16) W' :=
  ⟨h.1.mark 16 (fun e => absurd e (by decide)) (fun e => absurd e (by decide)) (fun _ => hp) (fun e => absurd e (by decide)), by rw [mark_self, mark_ne (by decide), mark_ne (by decide), hp.1, h.no18 h16]; exact hc⟩
theorem gapC.at18 {W' : World} (h : gapC V eb old new done W) (h16 : done 16 = true) : gapC V eb old new (mark done 18) W' :=
  ⟨h.1.mark 18 (fun e => absurd e (by decide)) (fun e => absurd e (by decide)) (fun e => absurd e (by decide)) (fun _ => h16), by rw [mark_self, mark_ne (by decide), mark_ne (by decide), h16, (h.1.c h16).1]; exact trivial⟩
theorem gapC.late (h : gapC V eb old new done W) (h16 : done 16 = true) (h18 : done 18 = false) : W.cell? ⟨eb, 6, none⟩ = some old := by have := h.2; rw [(h.1.c h16).1, h16, h18] at this; exact this
end
/-- What the operations yield. -/
def gapS (eb ng nc nb : Nat) (ga : Option Addr) (n gc : Nat) (v0 v1 v2 v3 : Int) (X : Nat → Nat → World → Prop) : Nat → Value → World → Prop
  | 0 => fun v _ => v = .pointer (some ⟨eb, 6, none⟩)
  | 1 => fun v _ => v = .slice ga n gc
  | 2 => fun v _ => v = .slice (some ⟨ng, 0, none⟩) 4 nc
  | 3 => fun v _ => v = .pointer (some ⟨ng, 0, none⟩)
  | 4 => fun v _ => v = .int .i64 v0
  | 5 => fun v _ => v = .slice (some ⟨ng, 0, none⟩) 4 nc
  | 6 => fun v _ => v = .pointer (some ⟨ng, 1, none⟩)
  | 7 => fun v _ => v = .int .i64 v1
  | 8 => fun v _ => v = .slice (some ⟨ng, 0, none⟩) 4 nc
  | 9 => fun v _ => v = .pointer (some ⟨ng, 2, none⟩)
  | 10 => fun v _ => v = .int .i64 v2
  | 11 => fun v _ => v = .slice (some ⟨ng, 0, none⟩) 4 nc
  | 12 => fun v _ => v = .pointer (some ⟨ng, 3, none⟩)
  | 13 => fun v _ => v = .int .i64 v3
  | 14 => fun v _ => v = .agg #[.int .i64 v0, .int .i64 v1, .int .i64 v2, .int .i64 v3]
  | 15 => fun v _ => v = .slice (some ⟨nb, 0, none⟩) 1 1
  | 16 => fun v W => ∃ g' cap', v = .slice (some ⟨g', 0, none⟩) (n + 1) cap' ∧ (W.cell? ⟨eb, 6, none⟩ = some (.slice ga n gc) → X g' cap' W)
  | 17 => fun v _ => v = .pointer (some ⟨eb, 6, none⟩)
  | 18 => fun _ W => ∃ g' cap' w8, X g' cap' w8 ∧ W = w8.setCell ⟨eb, 6, none⟩ (.slice (some ⟨g', 0, none⟩) (n + 1) cap')
  | _ => fun _ _ => True
theorem gapS_free {eb ng nc nb : Nat} {ga : Option Addr} {n gc : Nat} {v0 v1 v2 v3 : Int} {X : Nat → Nat → World → Prop} {W W' : World} {j : Nat} {v : Value} (h16 : j ≠ 16) (h18 : j ≠ 18) (h : gapS eb ng nc nb ga n gc v0 v1 v2 v3 X j v W) : gapS eb ng nc nb ga n gc v0 v1 v2 v3 X j v W' := by
  match j, h with
  | 0, h => exact h
  | 1, h => exact h
  | 2, h => exact h
  | 3, h => exact h
  | 4, h => exact h
  | 5, h => exact h
  | 6, h => exact h
  | 7, h => exact h
  | 8, h => exact h
  | 9, h => exact h
  | 10, h => exact h
  | 11, h => exact h
  | 12, h => exact h
  | 13, h => exact h
  | 14, h => exact h
  | 15, h => exact h
  | 16, h => exact absurd rfl h16
  | 17, h => exact h
  | 18, h => exact absurd rfl h18
  | n + 19, h => exact h
end Go.Proofs.YtbholbenjalliaaGreatDoor
