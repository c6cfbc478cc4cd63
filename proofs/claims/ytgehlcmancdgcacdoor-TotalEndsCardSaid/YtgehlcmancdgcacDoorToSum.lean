/-
  nightwatchlaw2.summed answers true. Condition: package total's End keeps its contract.
-/
import Derived.Test.YtgehlcmancdgcacDoorToSt
namespace Go.Proofs.YtgehlcmancdgcacDoor
open Go.RowKit Go.Extern.Stop Go.Stop Go.Extern

section
variable {w0 w1 w w' : World} {b k : Nat} {s s' : TSt}
theorem own_slat {α : Type} {enc : α → List Value} {n : Nat} {T : TypeId} {w : World} {v : Value} {xs : List α} {B b : Nat} (h : SlOwn enc n T B w v xs) (henc : ∀ x, (enc x).length = n) (hb : v.ownBlock ≠ some b) : ∀ V, w.grownBy V (some b) → SlAt enc n V v xs := fun V hV => by
  refine SlOwn.slat (T := T) (B := B) ?_ henc
  refine World.ownsRow.kept h hV (Or.inr hb)
theorem row_slat {w : World} {g cap b : Nat} {xs : List ByteArray} {cs : Array Value} {T : TypeId} {fr : Nat × Nat} (hr : w.heap[g]? = some (.cells cs T fr)) (hcs : cs.toList = xs.flatMap encS) (hcap : xs.length ≤ cap) (hne : g ≠ b) : ∀ V, w.grownBy V (some b) → SlAt encS 1 V (.slice (some ⟨g, 0, none⟩) xs.length cap) xs := fun V hV => by
  have h : V.heap[g]? = some (.cells cs T fr) := (hV.block g (lt_of_row hr) (fun e => hne (Option.some.inj e))).trans hr
  refine ⟨_, cap, rfl, hcap, fun _ => ⟨g, 0, rfl, fun i x hx j u hu => ?_⟩⟩
  have := flat_at (enc := encS) (k := 1) (fun _ => rfl) xs i j x u hx hu
  simp only [World.cell?, h, Nat.zero_add]
  rw [← this, ← hcs]
  simp
theorem nil_slat {b : Nat} (w : World) : ∀ V, w.grownBy V (some b) → SlAt encS 1 V (.slice none 0 0) ([] : List ByteArray) := fun _ _ => ⟨none, 0, rfl, Nat.le_refl _, fun h => absurd rfl h⟩
/-- End, what comes of it being known. -/
theorem to_end_to (HE : ToEndC) {l : List ByteArray} {sa : Option Addr} {cap : Nat} {x : ByteArray} (h : ToIn w0 w b s) (hf : TFit s k) (hk : k ≤ 100000) (hl : ∀ V, w.grownBy V (some b) → SlAt encS 1 V (.slice sa l.length cap) l) (hn : l.length ≤ 1000000) (hs : s.fin l = s') (hx : totB s'.st = x) :
    Calls Tryd.prog 25 #[.pointer (some ⟨b, 0, none⟩), .slice sa l.length cap] w fun v w' => v = .returned (.string x) ∧ ToIn w0 w' b s' ∧ FrTo w w' := by
  subst hx hs
  exact HE w0 w b k s l sa cap h hf hk hl hn
theorem to_may_to {x : Bool} (h : ToIn w0 w b s) (hs : s.st ≤ 3) (hx : decide (s.st ≠ 3) = x) :
    Calls Tryd.prog 26 #[.pointer (some ⟨b, 0, none⟩)] w fun v w' => v = .returned (.bool x) ∧ w' = w := by
  subst hx
  exact to_may h hs
set_option maxHeartbeats 2000000 in
set_option maxRecDepth 100000 in
theorem summed_any (HE : ToEndC) (w : World) : Calls Tryd.prog 23 #[] w fun v w' => v = .returned (.bool true) ∧ Below w.heap.size w w' := by
  have HH : Hid ToEndC := HE
  clear HE
  go_enter Tryd.func23, Tryd.ntmps23
  go_wp2_with fail
  refine (to_new 1 _ (by decide)).mono ?_
  rintro v w1 ⟨b, rfl, D1⟩
  go_wp2_with fail
  have HD : Hid (ToIn w (w1.alloc (.cells #[.string ⟨#[101, 120, 112, 105, 114, 101, 100]⟩] 9)) b (TSt.new 1)) := D1.below (Below.one _ _)
  have hne : w1.heap.size ≠ b := fun e => by have := lt_of_row D1.heap; omega
  refine (to_end_to HH.out (k := 0) (s' := ⟨1, 0, 2⟩) (x := ⟨#[101, 120, 112, 105, 114, 101, 100]⟩) (l := [expiredB]) HD.out (TFit.new (by decide)) (by decide) (row_slat (xs := [expiredB]) (heap_alloc_new w1 _) rfl (by decide) hne) (by decide) ((first_fin (s := TSt.new 1) (l := [expiredB]) (show (0 : Nat) < 2 by decide) (by simp [hasB])).trans rfl) rfl).mono ?_
  rintro v w2 ⟨rfl, D2, -⟩
  clear D1 HD hne
  go_wp2_with fail
  refine (to_may_to (x := true) D2 (by decide) (by decide)).mono ?_
  rintro v w2' ⟨rfl, rfl⟩
  go_wp2_with fail
  refine (to_end_to HH.out (k := 1) (s' := ⟨1, 1, 3⟩) (x := ⟨#[115, 116, 111, 112, 112, 101, 100]⟩) (l := []) D2 ⟨by decide, by decide, fun _ => by decide, by decide, fun h => absurd h (by decide)⟩ (by decide) (nil_slat _) (by decide) rfl rfl).mono ?_
  rintro v w3 ⟨rfl, D3, -⟩
  clear D2
  go_wp2_with fail
  refine (to_may_to (x := false) D3 (by decide) (by decide)).mono ?_
  rintro v w3' ⟨rfl, rfl⟩
  go_wp2
  go_ret
  exact ⟨rfl, D3.bel⟩
end
end Go.Proofs.YtgehlcmancdgcacDoor
