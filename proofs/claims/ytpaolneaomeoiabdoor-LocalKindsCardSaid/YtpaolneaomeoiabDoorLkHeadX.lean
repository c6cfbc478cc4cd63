/-
  What LocalKinds and LocalActs share: an act in memory ('ActD'), one entity as a list, a right entity's bounds. No condition.
-/
import Derived.Test.YtpaolneaomeoiabDoorLoInX
import Derived.Test.YtpaolneaomeoiabDoorCfHeavyEX
import Derived.Test.YtpaolneaomeoiabDoorDcErrX
namespace Go.Proofs.YtpaolneaomeoiabDoor
open Go.RowKit Go.Extern.Stop Go.Stop Go.Extern

/-- An act as it is handed in. -/
structure ActD where
  kind : ByteArray
  pt : Int
  later : Int
def encA (a : ActD) : List Value := [.string a.kind, .int .i64 a.pt, .int .i64 a.later]
theorem ents_one {w : World} {g : Nat} {e : EntD} {E0 : EA} (hr : w.heap[g]? = some (.cells #[.string e.name, .int .i64 e.tol, .slice E0.pa e.pts.length E0.pc, .int .i64 e.cnt, .int .i64 e.mn, .int .i64 e.mx, .slice E0.ga e.gaps.length E0.gc, .slice E0.ea e.edges.length E0.ec, .slice E0.fa e.first.length E0.fc, .slice E0.la e.last.length E0.lc] 27 (0, 0))) (hP : PartsE w e E0) : EntsAt w (.slice (some ⟨g, 0, none⟩) 1 1) [e] := by
  refine ⟨_, 1, rfl, fun _ => ⟨g, 0, rfl, fun i x hx => ?_⟩⟩
  match i, hx with
  | 0, hx =>
    have : e = x := by simpa using hx
    subst this
    refine ⟨_, _, _, _, _, hP, fun j u hu => ?_⟩
    simp only [World.cell?, hr, Nat.zero_add, Nat.zero_mul]
    exact hu
  | i + 1, hx => simp at hx
theorem firstOf_zero : ∀ (l : List (Bool × Nat)), (∀ x ∈ l, x.2 ≠ 0) → firstOf l = 0 → ∀ x ∈ l, x.1 = false
  | [], _, _, x, hx => by cases hx
  | (b, c) :: t, hc, h, x, hx => by
    unfold firstOf at h
    cases b with
    | true => exact absurd h (hc (true, c) (List.mem_cons_self ..))
    | false =>
      rcases List.mem_cons.1 hx with rfl | hx
      · rfl
      · exact firstOf_zero t (fun y hy => hc y (List.mem_cons_of_mem _ hy)) (by simpa using h) x hx
theorem right_bounds {e : EntD} (h : entErr [] e = 0) : e.cnt < (e.pts.length : Int) ∧ 0 ≤ e.tol := by
  unfold entErr at h
  split at h
  · rename_i h1; exact absurd h h1
  · split at h
    · rename_i h1; exact absurd h h1
    · rename_i hsz
      split at h
      · rename_i h1; exact absurd h h1
      · have h1 := firstOf_zero _ (by simp) h (decide (e.cnt ≠ -1) && lacks e.pts.length e.cnt, 5) (by simp)
        have hz : sizeErr e = 0 := by simpa using hsz
        unfold sizeErr at hz
        have h2 := firstOf_zero _ (by simp) hz (!within e.tol 0 20, 2) (by simp)
        simp only [within, Bool.not_eq_false', Bool.and_eq_true, decide_eq_true_eq] at h2
        refine ⟨?_, h2.1⟩
        simp only [lacks, Bool.and_eq_false_iff, Bool.or_eq_false_iff, decide_eq_false_iff_not] at h1
        rcases h1 with h1 | h1
        · have : e.cnt = -1 := by omega
          omega
        · omega
end Go.Proofs.YtpaolneaomeoiabDoor
