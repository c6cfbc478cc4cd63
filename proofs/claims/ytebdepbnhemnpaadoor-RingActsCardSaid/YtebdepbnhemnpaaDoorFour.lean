/-
  The four sentinels that packages cells and ring name, as they lie in memory ('Sen4'): less than 'Senv' asks. No condition.
-/
import Derived.Test.YtebdepbnhemnpaaDoorCellsSt
namespace Go.Proofs.YtebdepbnhemnpaaDoor
open Go.RowKit Go.Extern.Stop Go.Stop Go.Extern

structure Sen4 (A : Nat → Addr) (w : World) : Prop where
  c1 : w.cell? ⟨1, 0, none⟩ = some (.iface 95 (.pointer (some (A 1))))
  c2 : w.cell? ⟨2, 0, none⟩ = some (.iface 95 (.pointer (some (A 2))))
  c6 : w.cell? ⟨6, 0, none⟩ = some (.iface 95 (.pointer (some (A 6))))
  c7 : w.cell? ⟨7, 0, none⟩ = some (.iface 95 (.pointer (some (A 7))))

theorem Senv.four {A : Nat → Addr} {w : World} (h : Senv A w) : Sen4 A w := ⟨h.c1, h.c2, h.c6, h.c7⟩
theorem Sen4.below {A : Nat → Addr} {w w' : World} (h : Sen4 A w) (hb : Below w.heap.size w w') : Sen4 A w' :=
  ⟨cell_below hb h.c1, cell_below hb h.c2, cell_below hb h.c6, cell_below hb h.c7⟩
theorem Sen4.alloc {A : Nat → Addr} {w : World} (h : Sen4 A w) (o : Obj) : Sen4 A (w.alloc o) := h.below ((Below.refl _ _).alloc (Nat.le_refl _) _)
theorem Sen4.grown {A : Nat → Addr} {w w' : World} {b : Nat} (h : Sen4 A w) (k : w.grownBy w' (some b)) (hb : 8 ≤ b) : Sen4 A w' := by
  have hc : ∀ {g : Nat} {v : Value}, g < 8 → w.cell? ⟨g, 0, none⟩ = some v → w'.cell? ⟨g, 0, none⟩ = some v := fun {g v} hg e =>
    (World.cell?_of_block (k.block g (block_lt e) (by intro e2; cases e2; omega))).trans e
  exact ⟨hc (by omega) h.c1, hc (by omega) h.c2, hc (by omega) h.c6, hc (by omega) h.c7⟩
end Go.Proofs.YtebdepbnhemnpaaDoor
