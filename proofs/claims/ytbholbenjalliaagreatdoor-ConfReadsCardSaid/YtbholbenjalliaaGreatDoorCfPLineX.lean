/-
  A line that (*conf.page).entity writes, by a contract: what lies on the page behind it. Conditions: as (*conf.page).line's.
-/
import Derived.Test.YtbholbenjalliaaGreatDoorCfTextGoX
import Derived.Test.YtbholbenjalliaaGreatDoorPureX
namespace Go.Proofs.YtbholbenjalliaaGreatDoor
open Go.RowKit Go.Extern.Stop Go.Stop Go.Extern

theorem WordOk.later {B pb : Nat} {pv : Value} {w V : World} {x : Value × Bs} (h : WordOk B pb pv w x) (hf : PFr B pb w V) : WordOk B pb pv V x :=
  fun W l hfr hp hle => h W l (hf.trans hfr) hp hle
/-- The page while an entity is written: its text is l and the lines of pre. -/
structure PgIn (B pb : Nat) (pv : Value) (W : World) (l : List UInt8) (pre : List Bs) (V : World) : Prop where
  page : PageAt B pb pv (l ++ pre.flatMap (fun x => x ++ [10])) V
  fr : PFr B pb W V
theorem line_pre {B pb : Nat} {pv : Value} {W V : World} {l : List UInt8} {pre : List Bs} (h : PgIn B pb pv W l pre V) (k : Nat) (ws : List (Value × Bs)) (hk : k < 10) (hK : KwAt W) (hG : (max 12 16 + 1) ≤ B) (hw : ∀ x ∈ ws, WordOk B pb pv W x) (hb : ∀ x ∈ ws, x.2.length ≤ 13) (hn : ws.length ≤ 4) (hl : l.length ≤ 500000000) (hp : (pre.flatMap (fun x => x ++ [10])).length ≤ 1000000) :
    Calls Tryz.prog 40 #[.pointer (some ⟨pb, 0, none⟩), .slice (some ⟨V.heap.size, 0, none⟩) (ws.length + 1) (ws.length + 1)] (V.alloc (.cells (.iface 94 (.int .i64 (k : Int)) :: ws.map (·.1)).toArray 20)) fun v V' => v = .returned (.tuple #[]) ∧ PgIn B pb pv W l (pre ++ [kwLine k (ws.map (·.2))]) V' := by
  have hf : PFr B pb W (V.alloc (.cells (.iface 94 (.int .i64 (k : Int)) :: ws.map (·.1)).toArray 20)) := h.fr.alloc h.page.2.1 _
  have hlen := kwLine_len k (ws.map (·.2)) (fun x hx => by obtain ⟨y, hy, rfl⟩ := List.mem_map.1 hx; exact hb y hy) (by simpa using hn)
  refine (line_kw B pb pv (l ++ pre.flatMap (fun x => x ++ [10])) V.heap.size k ws _ (h.page.below (Below.oneC _ _)) (heap_newC _ _ _) (by have := h.page.lt; omega) hk (hK.below hf.bel (Nat.lt_of_lt_of_le (show 12 < (max 12 16 + 1) by decide) hG)) hG (fun x hx => (hw x hx).later hf) (by omega) (by rw [List.length_append]; omega)).mono ?_
  rintro v V' ⟨rfl, h1, h2⟩
  refine ⟨rfl, ?_, hf.trans h2⟩
  have e : l ++ (pre ++ [kwLine k (ws.map (·.2))]).flatMap (fun x => x ++ [10]) = l ++ pre.flatMap (fun x => x ++ [10]) ++ (kwLine k (ws.map (·.2)) ++ [10]) := by
    rw [List.flatMap_append, List.append_assoc]
    simp
  rw [e]
  exact h1
end Go.Proofs.YtbholbenjalliaaGreatDoor
