/-
  A list of lists of texts in memory ('SlsAt'). No condition.
-/
import Derived.Test.YtgehlcmancdgcacDoorCfCopy
namespace Go.Proofs.YtgehlcmancdgcacDoor
open Go.RowKit Go.Extern.Stop Go.Stop Go.Extern

theorem Tryd.infoStr : (Tryd.prog.info? 9).map (fun i => (i.zero, i.size, i.bytes)) = some (some (.string ⟨#[]⟩), 1, 16) := by kernel_rfl
theorem encT_one : ∀ (x : ByteArray), ∀ u ∈ encS x, u.oneCell' = true := by intro x u hu; simp [encS] at hu; subst hu; rfl
def SlsAt (w : World) (v : Value) (ll : List (List ByteArray)) : Prop :=
  ∃ sa cap, v = .slice sa ll.length cap ∧ ll.length ≤ cap ∧ (ll ≠ [] → ∃ b o, sa = some ⟨b, o, none⟩ ∧ ∀ i x, ll[i]? = some x → ∃ u, w.cell? ⟨b, o + i, none⟩ = some u ∧ SlAt encS 1 w u x)
theorem SlsAt.below {w w' : World} {v : Value} {ll : List (List ByteArray)} (h : SlsAt w v ll) (hb : Below w.heap.size w w') : SlsAt w' v ll := by
  obtain ⟨sa, cap, h1, h0, h2⟩ := h
  refine ⟨sa, cap, h1, h0, fun hne => ?_⟩
  obtain ⟨b, o, h3, h4⟩ := h2 hne
  refine ⟨b, o, h3, fun i x hx => ?_⟩
  obtain ⟨u, h5, h6⟩ := h4 i x hx
  exact ⟨u, cell_below hb h5, h6.below hb⟩
/-- One of them. -/
theorem SlsAt.one {w : World} {sa : Option Addr} {cap k : Nat} {ll : List (List ByteArray)} {x : List ByteArray} (h : SlsAt w (.slice sa ll.length cap) ll) (hx : ll[k]? = some x) : ∃ b o xa xc, sa = some ⟨b, o, none⟩ ∧ w.cell? ⟨b, o + k, none⟩ = some (.slice xa x.length xc) ∧ SlAt encS 1 w (.slice xa x.length xc) x := by
  obtain ⟨sa', cap', h1, h0, h2⟩ := h
  cases h1
  obtain ⟨b, o, h3, h4⟩ := h2 (fun e => by rw [e] at hx; simp at hx)
  obtain ⟨u, h5, h6⟩ := h4 k x hx
  obtain ⟨xa, xc, rfl, -⟩ := id h6
  exact ⟨b, o, xa, xc, h3, h5, h6⟩
end Go.Proofs.YtgehlcmancdgcacDoor
