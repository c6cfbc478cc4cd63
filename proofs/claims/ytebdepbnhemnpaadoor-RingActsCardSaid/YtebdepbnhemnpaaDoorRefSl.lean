/-
  A slice of records that is owned, at any place of its row ('MSl'): one record more; all but the first. Conditions: as named.
-/
import Derived.Test.YtebdepbnhemnpaaDoorRingKeep
import Derived.Deep.Upon
import Derived.Deep.MidRow
import Derived.Test.YtebdepbnhemnpaaDoorRingNewest
namespace Go.Proofs.YtebdepbnhemnpaaDoor
open Go.RowKit Go.Extern.Stop Go.Stop Go.Extern

def MSl (w : World) (B : Nat) (v : Value) (L : List Rec) : Prop :=
  (∀ k, v.ownBlock = some k → B ≤ k ∧ k < w.heap.size) ∧ ∃ ao g off cap, v = .slice ao L.length cap ∧ Came w 4 ao g off L.length cap (recCells L) ∧ cap ≤ maxLen
theorem MSl.lt {w : World} {B : Nat} {v : Value} {L : List Rec} (h : MSl w B v L) : ∀ k, v.ownBlock = some k → B ≤ k ∧ k < w.heap.size := h.1
theorem MSl.len {w : World} {B : Nat} {v : Value} {L : List Rec} (h : MSl w B v L) : ∃ sa c, v = .slice sa L.length c := by
  obtain ⟨-, ao, g, off, cap, rfl, -⟩ := h
  exact ⟨_, _, rfl⟩
theorem came_block {w w' : World} {size : Nat} {ao : Option Addr} {b off len cap : Nat} {olds : List Value} (h : Came w size ao b off len cap olds) (hsz : w.heap.size ≤ w'.heap.size) (hb : 0 < cap → w'.heap[b]? = w.heap[b]?) : Came w' size ao b off len cap olds := by
  refine ⟨h.le, h.addr, fun hc => Nat.lt_of_lt_of_le (h.lt hc) hsz, h.oldsLen, fun j u hu => ?_, fun j hj => ?_⟩
  · have hj := (List.getElem?_eq_some_iff.1 hu).1
    rw [h.oldsLen] at hj
    have hcap : 0 < cap := by
      rcases Nat.eq_zero_or_pos cap with e | e
      · have := h.le; rw [e] at this; rw [show len = 0 by omega] at hj; simp at hj
      · exact e
    exact (World.cell?_of_block (a := ⟨b, off + j, .none⟩) (hb hcap)).trans (h.olds j u hu)
  · have hcap : 0 < cap := by
      rcases Nat.eq_zero_or_pos cap with e | e
      · rw [e] at hj; simp at hj
      · exact e
    have hs := h.spare j hj
    exact ⟨by rw [World.cell?_of_block (a := ⟨b, off + len * size + j, .none⟩) (hb hcap)]; exact hs.1, by rw [World.frozen?_of_block (a := ⟨b, off + len * size + j, .none⟩) (hb hcap)]; exact hs.2⟩
theorem MSl.off {w w' : World} {B : Nat} {v : Value} {L : List Rec} {S : Nat → Prop} (h : MSl w B v L) (ho : Off S w w') (h2 : ∀ g, v.ownBlock = some g → ¬ S g) : MSl w' B v L := by
  obtain ⟨hl, ao, g, off, cap, rfl, hc, hm⟩ := h
  exact ⟨fun k hk => ⟨(hl k hk).1, Nat.lt_of_lt_of_le (hl k hk).2 ho.size⟩, ao, g, off, cap, rfl, came_block hc ho.size (fun hp => ho.block g (hc.lt hp) (h2 g (by rw [hc.addr hp]; rfl))), hm⟩
theorem MSl.below {w w' : World} {B : Nat} {v : Value} {L : List Rec} (h : MSl w B v L) (hb : Below w.heap.size w w') : MSl w' B v L := h.off (Off.of_below hb (fun _ => False)) (fun _ _ e => e)
theorem MSl.mono {w : World} {B B' : Nat} {v : Value} {L : List Rec} (h : MSl w B v L) (hb : B' ≤ B) : MSl w B' v L := ⟨fun k hk => ⟨Nat.le_trans hb (h.1 k hk).1, (h.1 k hk).2⟩, h.2⟩

/-- A row that is owned. -/
theorem Recs.msl {w : World} {B : Nat} {v : Value} {L : List Rec} (h : Recs w B v L) : MSl w B v L := by
  refine ⟨h.lt, ?_⟩
  rcases h.row_form with ⟨rfl, rfl⟩ | ⟨g, cap, rfl, -, hrow, hlc, hm⟩
  · exact ⟨.none, 0, 0, 0, rfl, ⟨Nat.le_refl _, fun h => absurd h (by omega), fun h => absurd h (by omega), rfl, fun j u hu => by simp [recCells] at hu, fun j hj => absurd hj (by simp)⟩, Nat.zero_le _⟩
  · obtain ⟨cur, hg, hcs, hx⟩ := hrow.row
    refine ⟨some ⟨g, 0, .none⟩, g, 0, cap, rfl, ⟨hlc, fun _ => rfl, fun _ => hrow.lt, by rw [recCells_length]; omega, fun j u hu => ?_, fun j hj => ?_⟩, hm⟩
    · rw [← hx] at hu
      rw [List.getElem?_take] at hu
      split at hu
      · simp only [World.cell?, hg]
        simpa using hu
      · cases hu
    · constructor
      · simp only [World.cell?, hg]
        have h1 : 0 + L.length * 4 + j < cur.size := by rw [hcs]; omega
        rw [if_neg (by simp), Array.getElem?_eq_getElem h1]
        rfl
      · simp [World.frozen?, hg]

/-- What it holds, read. -/
theorem MSl.reads {w : World} {B : Nat} {sa : Option Addr} {n c : Nat} {L : List Rec} (h : MSl w B (.slice sa n c) L) : n = L.length ∧ (L ≠ [] → ∃ g o, sa = some ⟨g, o, .none⟩ ∧ ∀ i (h : i < L.length), w.cell? ⟨g, o + i * 4, .none⟩ = some (.int .i64 (L[i].seq : Int)) ∧ w.cell? ⟨g, o + i * 4 + 1, .none⟩ = some (.int .i64 (L[i].ent : Int)) ∧ w.cell? ⟨g, o + i * 4 + 2, .none⟩ = some (.int .i64 (L[i].kind : Int)) ∧ w.cell? ⟨g, o + i * 4 + 3, .none⟩ = some (.int .i64 (L[i].tick : Int))) := by
  obtain ⟨-, ao, g, off, cap, e, hc, -⟩ := h
  simp only [Value.slice.injEq] at e
  obtain ⟨rfl, rfl, rfl⟩ := e
  refine ⟨rfl, fun hne => ?_⟩
  have hlen : 0 < L.length := List.length_pos_iff.2 hne
  have hcap : 0 < c := Nat.lt_of_lt_of_le hlen hc.le
  refine ⟨g, off, hc.addr hcap, fun i hi => ?_⟩
  have key : ∀ j, j < 4 → ∀ u, L[i].list[j]? = some u → w.cell? ⟨g, off + i * 4 + j, .none⟩ = some u := fun j hj u hu => by
    rw [show off + i * 4 + j = off + (i * 4 + j) by omega]
    exact hc.olds (i * 4 + j) u (by rw [recCells_get L i j hi hj]; exact hu)
  exact ⟨key 0 (by decide) _ rfl, key 1 (by decide) _ rfl, key 2 (by decide) _ rfl, key 3 (by decide) _ rfl⟩

/-- All but the first. -/
theorem MSl.tail {w : World} {B g o n c : Nat} {L : List Rec} (h : MSl w B (.slice (some ⟨g, o, .none⟩) n c) L) (hne : L ≠ []) : MSl w B (.slice (some ⟨g, o + 4, .none⟩) (n - 1) (c - 1)) L.tail := by
  obtain ⟨hl, ao, g', off, cap, e, hc, hm⟩ := h
  simp only [Value.slice.injEq] at e
  obtain ⟨rfl, rfl, rfl⟩ := e
  have hlen : 0 < L.length := List.length_pos_iff.2 hne
  have hle := hc.le
  have hcap : 0 < c := Nat.lt_of_lt_of_le hlen hle
  have ha := hc.addr hcap
  simp only [Option.some.injEq, Addr.mk.injEq, and_true] at ha
  obtain ⟨rfl, rfl⟩ := ha
  refine ⟨hl, some ⟨g, o + 4, .none⟩, g, o + 4, c - 1, by rw [List.length_tail], ⟨by rw [List.length_tail]; omega, fun _ => rfl, fun _ => hc.lt hcap, by rw [recCells_length]; omega, fun j u hu => ?_, fun j hj => ?_⟩, by omega⟩
  · have hr : recCells L = (L.head hne).list ++ recCells L.tail := by
      cases L with
      | nil => exact absurd rfl hne
      | cons x t => rfl
    have := hc.olds (4 + j) u (by rw [hr, List.getElem?_append_right (by show (L.head hne).list.length ≤ _; simp [Rec.list])]; simpa [Rec.list] using hu)
    rw [show o + 4 + j = o + (4 + j) by omega]
    exact this
  · rw [List.length_tail] at hj ⊢
    have := hc.spare j (by omega)
    rw [show o + 4 + (L.length - 1) * 4 + j = o + L.length * 4 + j by omega]
    exact this

theorem tape_setCells (b : Nat) : ∀ (vs : List Value) (o : Nat) (w : World), (w.setCells b o vs).tape = w.tape ∧ (w.setCells b o vs).heap.size = w.heap.size := by
  intro vs
  induction vs with
  | nil => intro o w; exact ⟨rfl, rfl⟩
  | cons v vs ih =>
    intro o w
    have h := ih (o + 1) (w.setCell ⟨b, o, .none⟩ v)
    exact ⟨h.1, h.2.trans (by simp [World.setCell])⟩
theorem recCells_snoc (L : List Rec) (x : Rec) : recCells (L ++ [x]) = recCells L ++ x.list := by simp [recCells]

/-- One record more: the row has room, or a new one is made. -/
theorem MSl.append {B : Nat} {v : Value} {L : List Rec} {w : World} (h : MSl w B v L) (x : Rec) (ty : TypeId) (a : Addr) (c : Nat) (hx : ∀ j u, x.list[j]? = some u → w.cell? (a.add j) = some u) (hl : L.length ≤ 100) (hB : B ≤ w.heap.size) :
    ∃ v' w', (Builtin.append_ #[61, 61] ty #[v, .slice (some a) 1 c]).run Tryd.prog w = .ok v' w' ∧ MSl w' B v' (L ++ [x]) ∧ Off (fun k => v.ownBlock = some k) w w' ∧ (∀ k, v'.ownBlock = some k → v.ownBlock = some k ∨ k = w.heap.size) := by
  obtain ⟨i0, hi, hz0, hz1, hz2⟩ := Tryd.infoRec
  obtain ⟨hlt, ao, g, off, cap, rfl, hc, hm⟩ := h
  have hone : ∀ u ∈ x.list, u.oneCell' = true := list_one x
  have hsrc : Src Tryd.prog 4 61 (.slice (some a) 1 c) 1 x.list w := Src.ofSlice w Tryd.underlying61 a 1 c x.list rfl hx hone
  have hle := hc.le
  have hol := hc.oldsLen
  have hll : (L ++ [x]).length = L.length + 1 := by simp
  have hxl : x.list.length = 4 := rfl
  by_cases hroom : L.length + 1 ≤ cap
  · have hcap : 0 < cap := by omega
    obtain rfl := hc.addr hcap
    have hsome : ∀ j, j < x.list.length → (w.cell? ⟨g, off + L.length * 4 + j, .none⟩).isSome = true := fun j hj => (hc.spare j (by omega)).1
    have hrun := run_append_room_src (P := Tryd.prog) w 61 61 ty 64 i0 Tryd.underlying61 hi g off L.length cap (.slice (some a) 1 c) 1 x.list (by rw [hz1]; exact hsrc) hroom (by rw [hz1]; exact hsome) (by rw [hz1]; exact fun j hj => (hc.spare j (by omega)).2)
    rw [hz1] at hrun
    obtain ⟨ht1, ht2⟩ := tape_setCells g x.list (off + L.length * 4) w
    refine ⟨_, _, hrun, ⟨fun k hk => by rw [ht2]; exact hlt k hk, some ⟨g, off, .none⟩, g, off, cap, by rw [hll], ⟨by rw [hll]; exact hroom, fun _ => rfl, fun _ => by rw [ht2]; exact hc.lt hcap, by rw [recCells_length]; omega, fun j u hu => ?_, fun j hj => ?_⟩, hm⟩, ⟨World.os_setCells _ _ _ _, ht1, World.output_setCells _ _ _ _, by rw [ht2]; exact Nat.le_refl _, fun k hk hn => World.heap_setCells_other w g _ _ hk (fun e => hn (by rw [e]; rfl))⟩, fun k hk => Or.inl hk⟩
    · rw [recCells_snoc] at hu
      by_cases hj : j < (recCells L).length
      · rw [List.getElem?_append_left hj] at hu
        rw [World.cell?_setCells_out g _ _ _ _ (fun _ _ => Or.inl (by show off + j < off + L.length * 4; omega))]
        exact hc.olds j u hu
      · rw [List.getElem?_append_right (by omega)] at hu
        have hj2 := (List.getElem?_eq_some_iff.1 hu).1
        have := World.cell?_setCells_in g x.list (off + L.length * 4) w hsome (j - (recCells L).length) hj2
        rw [show off + L.length * 4 + (j - (recCells L).length) = off + j by omega] at this
        rw [this, ← hu, List.getElem?_eq_getElem hj2]
    · rw [hll] at hj ⊢
      have hs := hc.spare (j + 4) (by omega)
      rw [show off + (L.length + 1) * 4 + j = off + L.length * 4 + (j + 4) by omega]
      exact ⟨World.isSome_setCells g _ _ _ _ hs.1, (World.frozen?_setCells g _ _ _ _).trans hs.2⟩
  · have hold : (Builtin.firstCells i0.size L.length (.slice ao L.length cap)).run Tryd.prog w.drew = .ok (recCells L).toArray w.drew := by
      rw [hz1]
      rcases Nat.eq_zero_or_pos cap with h0 | hcap
      · subst h0
        have hl0 : L.length = 0 := by omega
        obtain rfl : L = [] := List.length_eq_zero_iff.1 hl0
        cases ao with
        | none => exact run_firstCells_none w.drew 4 0 0 0
        | some a' => exact run_firstCells_some w.drew 4 0 a' 0 0 [] (by simp) (by intro _ _ h'; simp at h')
      · rw [hc.addr hcap]
        refine run_firstCells_some w.drew 4 L.length ⟨g, off, .none⟩ L.length cap (recCells L) hol (fun j u hu => ?_)
        rw [Addr.add_lit]
        exact hc.olds j u hu
    have hrun := run_append_grow_src (P := Tryd.prog) w 61 61 ty 64 i0 (.agg #[.int .i64 0, .int .i64 0, .int .i64 0, .int .i64 0]) Tryd.underlying61 hi hz0 ao L.length cap (recCells L) hold (.slice (some a) 1 c) 1 x.list (by rw [hz1]; exact hsrc) (by omega) (by omega) (by rw [hz2]; exact growslice_fits (by omega) (by omega))
    have hge := grownCap_ge w (L.length + 1) cap 64
    have hcm := grownCap_le_maxLen w (L.length + 1) cap 64 (by unfold maxLen; omega)
    have hzc : (Value.agg #[.int .i64 0, .int .i64 0, .int .i64 0, .int .i64 0]).cells.size = 4 := rfl
    have hL4 : (recCells L ++ x.list).length = (L.length + 1) * 4 := by rw [List.length_append, hol, hxl]; omega
    generalize hC : ((recCells L ++ x.list).toArray ++ Builtin.zeroCells (Value.agg #[.int .i64 0, .int .i64 0, .int .i64 0, .int .i64 0]).cells (grownCap w (L.length + 1) cap 64 - (L.length + 1))) = C at hrun
    have hCs : C.size = grownCap w (L.length + 1) cap 64 * 4 := by
      rw [← hC, Array.size_append, List.size_toArray, hL4, size_zeroCells, hzc]
      omega
    refine ⟨_, _, hrun, ⟨fun k hk => ?_, some ⟨w.heap.size, 0, .none⟩, w.heap.size, 0, _, by rw [hll], ⟨by rw [hll]; exact hge, fun _ => rfl, fun _ => by simp, by rw [recCells_length]; omega, fun j u hu => ?_, fun j hj => ?_⟩, hcm⟩, ⟨rfl, rfl, rfl, by simp, fun k hk _ => Below.heap_alloc w.drew _ k hk⟩, fun k hk => Or.inr ?_⟩
    · simp only [Value.ownBlock, Option.some.injEq] at hk
      subst hk
      exact ⟨hB, by simp⟩
    · rw [recCells_snoc] at hu
      have e1 : (w.drew.alloc (.cells C 64)).cell? ⟨w.heap.size, 0 + j, .none⟩ = C[0 + j]? := World.cell?_alloc_new w.drew _ _ _
      have hj := (List.getElem?_eq_some_iff.1 hu).1
      rw [e1, Nat.zero_add, ← hC, Array.getElem?_append_left (by simpa using hj), List.getElem?_toArray, hu]
    · rw [hll] at hj ⊢
      have e1 : (w.drew.alloc (.cells C 64)).cell? ⟨w.heap.size, 0 + (L.length + 1) * 4 + j, .none⟩ = C[0 + (L.length + 1) * 4 + j]? := World.cell?_alloc_new w.drew _ _ _
      refine ⟨?_, World.frozen?_alloc_new w.drew _ _ _⟩
      rw [e1, Array.getElem?_eq_getElem (by rw [hCs]; omega)]
      rfl
    · simp only [Value.ownBlock, Option.some.injEq] at hk
      exact hk.symm
end Go.Proofs.YtebdepbnhemnpaaDoor
