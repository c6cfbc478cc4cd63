/-
  Reports and marks in memory ('encR', 'encM'), a list of marks in a row of its own ('MkOwn'). No condition.
-/
import Derived.Test.YtbholbenjalliabGaPure
import Derived.Test.YtbholbenjalliabCfOwn
namespace Go.Proofs.Ytbholbenjalliab
open Go.RowKit Go.Extern.Stop Go.Stop Go.Extern

/-- A report as it is handed in. -/
structure RepD where
  pt : Int
  later : Int
  en : Bool
def encR (r : RepD) : List Value := [.int .i64 r.pt, .int .i64 r.later, .bool r.en]
def encM (m : MkD) : List Value := [.int .i64 m.pt, .int .i64 m.tick, .int .i64 m.cyc]
theorem encM_len (m : MkD) : (encM m).length = 3 := rfl
theorem encM_one : ∀ (x : MkD), ∀ u ∈ encM x, u.oneCell' = true := by intro x u hu; simp [encM] at hu; rcases hu with rfl | rfl | rfl <;> rfl
/-- Every report's cells, in every later memory. -/
def MksAt (w : World) (g o : Nat) (l : List MkD) : Prop := ∀ i m, l[i]? = some m → ∀ j u, (encM m)[j]? = some u → w.cell? ⟨g, o + i * 3 + j, none⟩ = some u
theorem ce_at (w : World) (cs : List Value) (T : TypeId) : ∀ (j : Nat) u, cs[j]? = some u → (w.alloc (.cells cs.toArray T)).cell? ((⟨w.heap.size, 0, none⟩ : Addr).add j) = some u := by
  intro j u hu
  rw [addC_plain, World.cell?_alloc_at _ _ _ _ rfl]
  simpa using hu
theorem ow_ne {w : World} {B k n : Nat} {T T' : TypeId} {v : Value} {xs : List Value} (h : w.ownsRow B T k v n xs) {b : Nat} {c : Array Value} {fr : Nat × Nat} (hb : w.heap[b]? = some (.cells c T' fr)) (hT : T' ≠ T) : v.ownBlock ≠ some b := by
  rcases h.2 with ⟨rfl, _⟩ | ⟨g, cap, cur, rfl, _, hg', _⟩
  · simp [Value.ownBlock]
  · intro e
    simp only [Value.ownBlock, Option.some.injEq] at e
    subst e
    rw [hg'] at hb
    simp only [Option.some.injEq, Obj.cells.injEq] at hb
    exact absurd hb.2.1.symm hT
theorem SlOwnR.below {w w' : World} {B k n : Nat} {T : TypeId} {v : Value} {xs : List Value} (h : w.ownsRow B T k v n xs) (hb : Below w.heap.size w w') : w'.ownsRow B T k v n xs :=
  h.kept (row := none) ⟨hb.os, hb.tape, hb.output, hb.size, fun k hk _ => hb.block k hk⟩ (by by_cases e : v.ownBlock = none; exact Or.inl e; exact Or.inr e)
theorem ow_form {w : World} {B k n : Nat} {T : TypeId} {v : Value} {xs : List Value} (h : w.ownsRow B T k v n xs) : ∃ sa c, v = .slice sa n c := by
  rcases h.2 with ⟨rfl, rfl⟩ | ⟨g, cap, cur, rfl, _⟩
  · exact ⟨_, _, rfl⟩
  · exact ⟨_, _, rfl⟩
theorem Try.infoMark : (Try.prog.info? 51).map (fun i => (i.zero, i.size, i.bytes)) = some (some (.agg #[.int .i64 0, .int .i64 0, .int .i64 0]), 3, 24) := by kernel_rfl
/-- The marks, in a row of their own. -/
def MkOwn (B : Nat) (w : World) (v : Value) (ms : List MkD) : Prop := w.ownsRow B 51 3 v ms.length (ms.flatMap encM)
theorem MkOwn.below {B : Nat} {w w' : World} {v : Value} {ms : List MkD} (h : MkOwn B w v ms) (hb : Below w.heap.size w w') : MkOwn B w' v ms := SlOwnR.below h hb
theorem MkOwn.slat {B : Nat} {w : World} {v : Value} {ms : List MkD} (h : MkOwn B w v ms) : SlAt encM 3 w v ms := SlOwn.slat (enc := encM) h encM_len
end Go.Proofs.Ytbholbenjalliab
