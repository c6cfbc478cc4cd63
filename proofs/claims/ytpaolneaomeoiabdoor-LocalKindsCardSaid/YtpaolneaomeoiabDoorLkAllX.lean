/-
  Four entities of package local side by side in memory ('AllAt'), each in blocks of its own. Conditions: as LoOps'.
-/
import Derived.Test.YtpaolneaomeoiabDoorPu2X
import Derived.Test.YtpaolneaomeoiabDoorLoFinX
namespace Go.Proofs.YtpaolneaomeoiabDoor
open Go.RowKit Go.Extern.Stop Go.Stop Go.Extern

section
variable {w0 w w' : World} {N N' : Nat} {F : Nat → Nat → Prop} {e : EntD} {bs : Nat → Nat} {Es : Nat → EA} {ss : Nat → Option NSt} {i : Nat}
structure AllAt (w0 w : World) (N : Nat) (F : Nat → Nat → Prop) (e : EntD) (bs : Nat → Nat) (Es : Nat → EA) (ss : Nat → Option NSt) : Prop where
  at' : ∀ i, i < 4 → LoAt (F i) w (bs i) (ke e i) (Es i) (ss i)
  dis : ∀ i j, i < 4 → j < 4 → i ≠ j → ∀ k, F i k → ¬ F j k
  lo : ∀ i, i < 4 → ∀ k, F i k → w0.heap.size ≤ k ∧ k < N
  top : N ≤ w.heap.size
  bel : Below w0.heap.size w0 w
/-- Another state of one of them. -/
def setS (ss : Nat → Option NSt) (i : Nat) (s : Option NSt) : Nat → Option NSt := fun j => if j = i then s else ss j
theorem AllAt.keep (h : AllAt w0 w N F e bs Es ss) (hs : ∀ k, k < N → w'.heap[k]? = w.heap[k]?) (hz : w.heap.size ≤ w'.heap.size) (hb : Below w0.heap.size w0 w') : AllAt w0 w' N F e bs Es ss :=
  ⟨fun i hi => (h.at' i hi).same (fun k hk => hs k (h.lo i hi k hk).2), h.dis, h.lo, Nat.le_trans h.top hz, hb⟩
theorem AllAt.below (h : AllAt w0 w N F e bs Es ss) (hb : Below w.heap.size w w') : AllAt w0 w' N F e bs Es ss :=
  h.keep (fun k hk => hb.block k (Nat.lt_of_lt_of_le hk h.top)) hb.size (h.bel.trans (hb.mono h.bel.size))
theorem AllAt.step {s' : Option NSt} (h : AllAt w0 w N F e bs Es ss) (hi : i < 4) (h' : LoAt (F i) w' (bs i) (ke e i) (Es i) s') (hf : FrL (F i) w w') : AllAt w0 w' N F e bs Es (setS ss i s') := by
  refine ⟨fun j hj => ?_, h.dis, h.lo, Nat.le_trans h.top hf.off.size, Off.below h.bel hf.off h.bel.size (fun k hk => (h.lo i hi k hk).1)⟩
  unfold setS
  by_cases e1 : j = i
  · subst e1
    rw [if_pos rfl]
    exact h'
  · rw [if_neg e1]
    exact (h.at' j hj).same (fun k hk => hf.off.block k (Nat.lt_of_lt_of_le (h.lo j hj k hk).2 h.top) (h.dis j i hj hi e1 k hk))
/-- New blocks for one of them. -/
def setF (F : Nat → Nat → Prop) (i : Nat) (G : Nat → Prop) : Nat → Nat → Prop := fun j k => F j k ∨ (j = i ∧ G k)
theorem AllAt.begin (h : AllAt w0 w N F e bs Es ss) (hi : i < 4) {s' : Option NSt} (h' : LoAt (fun k => F i k ∨ w.heap.size ≤ k) w' (bs i) (ke e i) (Es i) s') (hf : FrL (F i) w w') : AllAt w0 w' w'.heap.size (setF F i (fun k => w.heap.size ≤ k ∧ k < w'.heap.size)) e bs Es (setS ss i s') := by
  have hz := hf.off.size
  refine ⟨fun j hj => ?_, fun j1 j2 hj1 hj2 hne k hk1 hk2 => ?_, fun j hj k hk => ?_, Nat.le_refl _, Off.below h.bel hf.off h.bel.size (fun k hk => (h.lo i hi k hk).1)⟩
  · unfold setS
    by_cases e1 : j = i
    · subst e1
      rw [if_pos rfl]
      refine h'.mono (fun k hlt hk => ?_)
      rcases hk with hk | hk
      · exact Or.inl hk
      · exact Or.inr ⟨rfl, hk, hlt⟩
    · rw [if_neg e1]
      refine ((h.at' j hj).same (fun k hk => hf.off.block k (Nat.lt_of_lt_of_le (h.lo j hj k hk).2 h.top) (h.dis j i hj hi e1 k hk))).mono (fun k _ hk => Or.inl hk)
  · rcases hk1 with hk1 | ⟨e1, hk1, -⟩
    · rcases hk2 with hk2 | ⟨e2, hk2, -⟩
      · exact h.dis j1 j2 hj1 hj2 hne k hk1 hk2
      · have := (h.lo j1 hj1 k hk1).2
        have := h.top
        omega
    · rcases hk2 with hk2 | ⟨e2, -, -⟩
      · have := (h.lo j2 hj2 k hk2).2
        have := h.top
        omega
      · exact hne (e1.trans e2.symm)
  · rcases hk with hk | ⟨-, hk, hk2⟩
    · have h1 := h.lo j hj k hk
      have := h.top
      exact ⟨h1.1, by omega⟩
    · exact ⟨Nat.le_trans h.bel.size hk, hk2⟩
/-- The row of their addresses. -/
def RowA (w : World) (ra : Nat) (bs : Nat → Nat) : Prop := w.heap[ra]? = some (.cells #[.pointer (some ⟨bs 0, 0, none⟩), .pointer (some ⟨bs 1, 0, none⟩), .pointer (some ⟨bs 2, 0, none⟩), .pointer (some ⟨bs 3, 0, none⟩)] 42 (0, 0))
theorem RowA.cell {ra k : Nat} (h : RowA w ra bs) (hk : k < 4) : w.cell? ⟨ra, k, none⟩ = some (.pointer (some ⟨bs k, 0, none⟩)) := by
  unfold RowA at h
  simp only [World.cell?, h]
  match k, hk with
  | 0, _ => rfl
  | 1, _ => rfl
  | 2, _ => rfl
  | 3, _ => rfl
theorem RowA.fr {ra : Nat} {G : Nat → Prop} (h : RowA w ra bs) (hf : FrL G w w') : RowA w' ra bs := hf.ty _ _ _ _ h (by unfold TyL; decide)
/-- Four of them and the row. -/
structure Four4 (w0 w : World) (N : Nat) (F : Nat → Nat → Prop) (e : EntD) (bs : Nat → Nat) (Es : Nat → EA) (ra : Nat) (ss : Nat → Option NSt) : Prop where
  all : AllAt w0 w N F e bs Es ss
  row : RowA w ra bs
theorem Four4.below {ra : Nat} (h : Four4 w0 w N F e bs Es ra ss) (hb : Below w.heap.size w w') : Four4 w0 w' N F e bs Es ra ss := ⟨h.all.below hb, row_below hb h.row⟩
def SmallK (e : EntD) : Prop := SmallE e ∧ WfE e.edges
theorem ke_small (h : SmallE e) (i : Nat) : SmallE (ke e i) := by
  match i with
  | 0 => exact h
  | 1 => exact ⟨h.hn, h.hp, h.hs, Nat.zero_le _, Nat.zero_le _, Nat.zero_le _, Nat.zero_le _⟩
  | 2 => exact ⟨h.hn, h.hp, h.hs, h.hg, Nat.zero_le _, Nat.zero_le _, Nat.zero_le _⟩
  | n + 3 => exact ⟨h.hn, h.hp, h.hs, Nat.zero_le _, h.he, h.hf, h.hl⟩
theorem ke_wf (h : WfE e.edges) (i : Nat) : WfE (ke e i).edges := by
  match i with
  | 0 => exact h
  | 1 => exact fun p hp => by cases hp
  | 2 => exact fun p hp => by cases hp
  | n + 3 => exact h
theorem four_begin {ra : Nat} (h : Four4 w0 w N F e bs Es ra ss) (hi : i < 4) (hs : ss i = none) (hS : SmallK e) :
    Calls Tryd.prog 19 #[.pointer (some ⟨bs i, 0, none⟩)] w fun v w' => v = .returned .nilIface ∧ ∃ F' N', Four4 w0 w' N' F' e bs Es ra (setS ss i (some (NSt.new (ke e i)))) := by
  have h1 := h.all.at' i hi
  rw [hs] at h1
  refine (lo_begin h1 (ke_small hS.1 i) (ke_wf hS.2 i)).mono ?_
  rintro v w' ⟨rfl, h3, h4⟩
  exact ⟨rfl, _, _, h.all.begin hi h3 h4, h.row.fr h4⟩
theorem four_report {ra : Nat} {n : NSt} (p t : Int) (x : Value) (h : Four4 w0 w N F e bs Es ra ss) (hi : i < 4) (hs : ss i = some n) (hS : SmallK e) (hx : w.cell? ⟨3, 0, none⟩ = some x) :
    Calls Tryd.prog 23 #[.pointer (some ⟨bs i, 0, none⟩), .int .i64 p, .int .i64 t] w fun v w' => ∃ y, v = .returned y ∧ Four4 w0 w' N F e bs Es ra (setS ss i (some (n.rep (ke e i) p t))) := by
  have h1 := h.all.at' i hi
  rw [hs] at h1
  cases hp : hasP (ke e i) p with
  | false =>
    refine (lo_report_none x p t h1 hp hx).mono ?_
    rintro v w' ⟨rfl, rfl⟩
    have hr : n.rep (ke e i) p t = n := by unfold NSt.rep; rw [hp]; rfl
    have hss : setS ss i (some n) = ss := by
      funext j
      unfold setS
      split
      · rename_i e1; rw [e1, hs]
      · rfl
    rw [hr, hss]
    exact ⟨x, rfl, h⟩
  | true =>
    refine (lo_report p t h1 hp (ke_small hS.1 i)).mono ?_
    rintro v w' ⟨rfl, h3, h4⟩
    exact ⟨_, rfl, h.all.step hi h3 h4, h.row.fr h4⟩
theorem four_end {ra : Nat} {n : NSt} (h : Four4 w0 w N F e bs Es ra ss) (hi : i < 4) (hs : ss i = some n) (hn : n.run ≤ 1000000) :
    Calls Tryd.prog 20 #[.pointer (some ⟨bs i, 0, none⟩)] w fun v w' => v = .returned (.tuple #[.int .i64 n.kind, .bool (n.turns (ke e i))]) ∧ Four4 w0 w' N F e bs Es ra (setS ss i (some (n.fin (ke e i)))) ∧ FrL (F i) w w' := by
  have h1 := h.all.at' i hi
  rw [hs] at h1
  refine (lo_end h1 hn).mono ?_
  rintro v w' ⟨rfl, h3, h4⟩
  exact ⟨rfl, ⟨h.all.step hi h3 h4, h.row.fr h4⟩, h4⟩
/-- The first k of them are told apart. -/
def upS (f g : Nat → Option NSt) (k : Nat) : Nat → Option NSt := fun j => if j < k then f j else g j
theorem upS_set (f g : Nat → Option NSt) (k : Nat) : setS (upS f g k) k (f k) = upS f g (k + 1) := by
  funext j
  unfold setS upS
  by_cases h1 : j = k
  · subst h1
    rw [if_pos rfl, if_pos (by omega)]
  · rw [if_neg h1]
    by_cases h2 : j < k
    · rw [if_pos h2, if_pos (by omega)]
    · rw [if_neg h2, if_neg (by omega)]
theorem upS_at (f g : Nat → Option NSt) (k : Nat) : upS f g k k = g k := by unfold upS; rw [if_neg (by omega)]
theorem upS_zero (f g : Nat → Option NSt) : upS f g 0 = g := by funext j; unfold upS; rw [if_neg (by omega)]
theorem AllAt.congr {ss' : Nat → Option NSt} (h : AllAt w0 w N F e bs Es ss) (hs : ∀ i, i < 4 → ss i = ss' i) : AllAt w0 w N F e bs Es ss' := ⟨fun i hi => by rw [← hs i hi]; exact h.at' i hi, h.dis, h.lo, h.top, h.bel⟩
theorem Four4.all4 {ra : Nat} {f g : Nat → Option NSt} (h : Four4 w0 w N F e bs Es ra (upS f g 4)) : Four4 w0 w N F e bs Es ra f := ⟨h.all.congr (fun i hi => by unfold upS; rw [if_pos hi]), h.row⟩
end
end Go.Proofs.YtpaolneaomeoiabDoor
