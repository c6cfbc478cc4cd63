/-
  The document's entity in memory ('LmIn'), and its Begin, Stop, Status, End told by contracts: LcPure's 'LSt'. Conditions: it lies in memory; of End: the entity's lists too.
-/
import Derived.Test.YtpaolneaomeoiacDoorLcKindX
namespace Go.Proofs.YtpaolneaomeoiacDoor
open Go.RowKit Go.Extern.Stop Go.Stop Go.Extern

theorem row_put {w : World} {b j : Nat} {cs : Array Value} {T : TypeId} (h : w.heap[b]? = some (.cells cs T (0, 0))) (u : Value) : (w.setCell ⟨b, j, none⟩ u).heap[b]? = some (.cells (cs.setIfInBounds j u) T (0, 0)) := by
  simp only [World.setCell, Array.getElem?_modify, h]
  simp
section
variable {w0 w w' : World} {b : Nat} {e : EntD} {pa ga ea fa la : Option Addr} {pc gc ec fc lc : Nat} {s s' : LSt} {sv sv' : Value}
def lmRow (e : EntD) (pa ga ea fa la : Option Addr) (pc gc ec fc lc : Nat) (s : LSt) (sv : Value) : Array Value := #[.string e.name, .int .i64 e.tol, .slice pa e.pts.length pc, .int .i64 e.cnt, .int .i64 e.mn, .int .i64 e.mx, .slice ga e.gaps.length gc, .slice ea e.edges.length ec, .slice fa e.first.length fc, .slice la e.last.length lc, .bool s.act, .int .i64 s.since, sv, .int .i64 s.run, .bool s.ex]
structure LmIn (w0 w : World) (b : Nat) (e : EntD) (pa ga ea fa la : Option Addr) (pc gc ec fc lc : Nat) (s : LSt) (sv : Value) : Prop where
  heap : w.heap[b]? = some (.cells (lmRow e pa ga ea fa la pc gc ec fc lc s sv) 39 (0, 0))
  own : MkOwn w0.heap.size w sv s.ms
  bel : Below w0.heap.size w0 w
  lo : w0.heap.size ≤ b
theorem LmIn.cell (h : LmIn w0 w b e pa ga ea fa la pc gc ec fc lc s sv) (j : Nat) (u : Value) (hu : (lmRow e pa ga ea fa la pc gc ec fc lc s sv)[j]? = some u) : w.cell? ⟨b, j, none⟩ = some u := by
  simp [World.cell?, h.heap, hu]
theorem LmIn.frozen (h : LmIn w0 w b e pa ga ea fa la pc gc ec fc lc s sv) (j : Nat) : w.frozen? ⟨b, j, none⟩ = false := by simp [World.frozen?, h.heap]
theorem LmIn.below (h : LmIn w0 w b e pa ga ea fa la pc gc ec fc lc s sv) (hb : Below w.heap.size w w') : LmIn w0 w' b e pa ga ea fa la pc gc ec fc lc s sv := ⟨row_below hb h.heap, h.own.below hb, h.bel.trans (hb.mono h.bel.size), h.lo⟩
theorem LmIn.put (h : LmIn w0 w b e pa ga ea fa la pc gc ec fc lc s sv) (j : Nat) (u : Value) (hr : (lmRow e pa ga ea fa la pc gc ec fc lc s sv).setIfInBounds j u = lmRow e pa ga ea fa la pc gc ec fc lc s' sv') (ho : MkOwn w0.heap.size w sv' s'.ms) : LmIn w0 (w.setCell ⟨b, j, none⟩ u) b e pa ga ea fa la pc gc ec fc lc s' sv' :=
  ⟨by rw [← hr]; exact row_put h.heap u, World.ownsRow.kept ho (grown_setCell w b j u) (Or.inr (ow_ne ho h.heap (by decide))), h.bel.setCell (p := ⟨b, j, none⟩) h.lo _, h.lo⟩
theorem lm_begin (h : LmIn w0 w b e pa ga ea fa la pc gc ec fc lc s sv) :
    Calls Tryd.prog 11 #[.pointer (some ⟨b, 0, none⟩)] w fun v w' => v = .returned (.int .i64 (if s.act then 10 else 0)) ∧ (∃ sv', LmIn w0 w' b e pa ga ea fa la pc gc ec fc lc s.begin sv') ∧ w.grownBy w' (some b) := by
  obtain ⟨act, since, ms, run, ex⟩ := s
  have c10 : w.cell? ⟨b, 10, none⟩ = some (.bool act) := h.cell 10 _ rfl
  cases act with
  | true =>
    have H : Hid (LmIn w0 w b e pa ga ea fa la pc gc ec fc lc ⟨true, since, ms, run, ex⟩ sv) := h
    clear h
    go_enter Tryd.func11, Tryd.ntmps11
    go_wp2
    go_ret
    exact ⟨rfl, ⟨sv, H.out⟩, World.grownBy.refl _ _⟩
  | false =>
    have c11 : w.cell? ⟨b, 11, none⟩ = some (.int .i64 since) := h.cell 11 _ rfl
    have c12 : w.cell? ⟨b, 12, none⟩ = some (sv) := h.cell 12 _ rfl
    have c13 : w.cell? ⟨b, 13, none⟩ = some (.int .i64 run) := h.cell 13 _ rfl
    have c14 : w.cell? ⟨b, 14, none⟩ = some (.bool ex) := h.cell 14 _ rfl
    have f10 := h.frozen 10
    have f11 := h.frozen 11
    have f12 := h.frozen 12
    have f13 := h.frozen 13
    have f14 := h.frozen 14
    have h1 := h.put 10 (.bool true) (s' := ⟨true, since, ms, run, ex⟩) rfl h.own
    have h2 := h1.put 11 (.int .i64 0) (s' := ⟨true, 0, ms, run, ex⟩) rfl h1.own
    have h3 := h2.put 12 (.slice none 0 0) (s' := ⟨true, 0, [], run, ex⟩) (sv' := .slice none 0 0) rfl (World.ownsRow_nil _ _ _ _)
    have h4 := h3.put 13 (.int .i64 0) (s' := ⟨true, 0, [], 0, ex⟩) rfl h3.own
    have h5 := h4.put 14 (.bool false) (s' := ⟨true, 0, [], 0, false⟩) rfl h4.own
    have H : Hid _ := h5
    have HG : Hid _ := ((((grown_setCell w b 10 (.bool true)).trans (grown_setCell _ b 11 (.int .i64 0))).trans (grown_setCell _ b 12 (.slice none 0 0))).trans (grown_setCell _ b 13 (.int .i64 0))).trans (grown_setCell _ b 14 (.bool false))
    clear h h1 h2 h3 h4 h5
    go_enter Tryd.func11, Tryd.ntmps11
    go_wp2
    go_ret
    exact ⟨rfl, ⟨_, H.out⟩, HG.out⟩
theorem lm_stop (h : LmIn w0 w b e pa ga ea fa la pc gc ec fc lc s sv) :
    Calls Tryd.prog 13 #[.pointer (some ⟨b, 0, none⟩)] w fun v w' => v = .returned (.int .i64 (if s.act then 0 else 9)) ∧ LmIn w0 w' b e pa ga ea fa la pc gc ec fc lc s.stop sv ∧ w.grownBy w' (some b) := by
  obtain ⟨act, since, ms, run, ex⟩ := s
  have c10 : w.cell? ⟨b, 10, none⟩ = some (.bool act) := h.cell 10 _ rfl
  cases act with
  | false =>
    have H : Hid (LmIn w0 w b e pa ga ea fa la pc gc ec fc lc ⟨false, since, ms, run, ex⟩ sv) := h
    clear h
    go_enter Tryd.func13, Tryd.ntmps13
    go_wp2
    go_ret
    exact ⟨rfl, H.out, World.grownBy.refl _ _⟩
  | true =>
    have f10 := h.frozen 10
    have H : Hid _ := h.put 10 (.bool false) (s' := ⟨false, since, ms, run, ex⟩) rfl h.own
    have HG : Hid _ := grown_setCell w b 10 (.bool false)
    clear h
    go_enter Tryd.func13, Tryd.ntmps13
    go_wp2
    go_ret
    exact ⟨rfl, H.out, HG.out⟩
/-- The words of the statuses. -/
def statB : Nat → ByteArray
  | 0 => ⟨#[105, 100, 108, 101]⟩
  | 1 => ⟨#[111, 107]⟩
  | 2 => ⟨#[102, 97, 105, 108, 101, 100]⟩
  | _ => ⟨#[101, 120, 112, 105, 114, 101, 100]⟩
theorem lm_status (h : LmIn w0 w b e pa ga ea fa la pc gc ec fc lc s sv) :
    Calls Tryd.prog 19 #[.pointer (some ⟨b, 0, none⟩)] w fun v w' => v = .returned (.string (statB s.status)) ∧ w' = w := by
  obtain ⟨act, since, ms, run, ex⟩ := s
  have c10 : w.cell? ⟨b, 10, none⟩ = some (.bool act) := h.cell 10 _ rfl
  have c13 : w.cell? ⟨b, 13, none⟩ = some (.int .i64 run) := h.cell 13 _ rfl
  have c14 : w.cell? ⟨b, 14, none⟩ = some (.bool ex) := h.cell 14 _ rfl
  clear h
  cases act with
  | false =>
    go_enter Tryd.func19, Tryd.ntmps19
    go_wp2
    go_ret
    exact ⟨rfl, rfl⟩
  | true =>
    cases ex with
    | true =>
      go_enter Tryd.func19, Tryd.ntmps19
      go_wp2
      go_ret
      exact ⟨rfl, rfl⟩
    | false =>
      by_cases hr : 0 < run
      · have HR : Hid (LSt.status ⟨true, since, ms, run, false⟩ = 2) := by show _ = _; simp [LSt.status, hr]
        go_enter Tryd.func19, Tryd.ntmps19
        go_wp2
        go_ret
        exact ⟨by rw [HR.out]; rfl, rfl⟩
      · have HR : Hid (LSt.status ⟨true, since, ms, run, false⟩ = 1) := by show _ = _; simp [LSt.status, hr]
        go_enter Tryd.func19, Tryd.ntmps19
        go_wp2
        go_ret
        exact ⟨by rw [HR.out]; rfl, rfl⟩
end
end Go.Proofs.YtpaolneaomeoiacDoor
