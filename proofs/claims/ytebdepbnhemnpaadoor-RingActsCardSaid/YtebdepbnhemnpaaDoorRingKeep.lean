/-
  (*ring.Ring).keep by a contract. Conditions: the ring lies in memory.
-/
import Derived.Test.YtebdepbnhemnpaaDoorRingDel
import Derived.Deep.AppendLies
namespace Go.Proofs.YtebdepbnhemnpaaDoor
open Go.RowKit Go.Extern.Stop Go.Stop Go.Extern

/-- All but the blocks of S is as it was; there may be new blocks. -/
structure Off (S : Nat → Prop) (w w' : World) : Prop where
  os : w'.os = w.os
  tape : w'.tape = w.tape
  output : w'.output = w.output
  size : w.heap.size ≤ w'.heap.size
  block : ∀ k, k < w.heap.size → ¬ S k → w'.heap[k]? = w.heap[k]?
theorem Off.refl (S : Nat → Prop) (w : World) : Off S w w := ⟨rfl, rfl, rfl, Nat.le_refl _, fun _ _ _ => rfl⟩
theorem Off.trans {S T : Nat → Prop} {a b c : World} (h : Off S a b) (k : Off T b c) (hT : ∀ i, i < a.heap.size → T i → S i) : Off S a c :=
  ⟨k.os.trans h.os, k.tape.trans h.tape, k.output.trans h.output, Nat.le_trans h.size k.size, fun i hi hn => (k.block i (Nat.lt_of_lt_of_le hi h.size) (fun ht => hn (hT i hi ht))).trans (h.block i hi hn)⟩
theorem Off.of_grown {w w' : World} {b : Nat} (h : w.grownBy w' (some b)) : Off (fun k => k = b) w w' :=
  ⟨h.os, h.tape, h.output, h.size, fun k hk hn => h.block k hk (by simpa using hn)⟩
theorem Off.of_below {w w' : World} (h : Below w.heap.size w w') (S : Nat → Prop) : Off S w w' := ⟨h.os, h.tape, h.output, h.size, fun k hk _ => h.block k hk⟩
theorem Off.mono {S T : Nat → Prop} {w w' : World} (h : Off S w w') (hT : ∀ i, i < w.heap.size → S i → T i) : Off T w w' := ⟨h.os, h.tape, h.output, h.size, fun k hk hn => h.block k hk (fun hs => hn (hT k hk hs))⟩
theorem Off.below {S : Nat → Prop} {B : Nat} {a w w' : World} (h : Below B a w) (k : Off S w w') (hB : B ≤ w.heap.size) (hS : ∀ i, S i → B ≤ i) : Below B a w' :=
  ⟨k.os.trans h.os, k.tape.trans h.tape, k.output.trans h.output, Nat.le_trans h.size k.size, fun i hi => (k.block i (by omega) (fun hs => by have := hS i hs; omega)).trans (h.block i hi)⟩

def keepL (L : List Rec) (x : Rec) : List Rec := (if L.length = 8 then L.tail else L) ++ [x]

theorem RingAt.set1 {w : World} {B rb bc : Nat} {v : Value} {L : List Rec} {sp : Bool} (h : RingAt w B rb bc v L sp) (v' : Value) :
    (w.setCell ⟨rb, 1, .none⟩ v').heap[rb]? = some (.cells #[.pointer (some ⟨bc, 0, .none⟩), v', .bool sp] 110 (0, 0)) := by
  simp [World.setCell, Array.getElem?_modify, h.heap]

theorem ring_c1 {w : World} {rb : Nat} {a v s : Value} (h : w.heap[rb]? = some (.cells #[a, v, s] 110 (0, 0))) : w.cell? ⟨rb, 1, .none⟩ = some v := by simp [World.cell?, h]
theorem ring_f {w : World} {rb : Nat} {a v s : Value} (h : w.heap[rb]? = some (.cells #[a, v, s] 110 (0, 0))) (i : Nat) : w.frozen? ⟨rb, i, .none⟩ = false := by simp [World.frozen?, h]
theorem ring_set {w : World} {rb : Nat} {a v s : Value} (h : w.heap[rb]? = some (.cells #[a, v, s] 110 (0, 0))) (v' : Value) : (w.setCell ⟨rb, 1, .none⟩ v').heap[rb]? = some (.cells #[a, v', s] 110 (0, 0)) := by
  simp [World.setCell, Array.getElem?_modify, h]

theorem SlRow.grown {w w' : World} {g cap b : Nat} {L : List Rec} (h : SlRow w g cap L) (hg : w.grownBy w' (some b)) (hne : g ≠ b) : SlRow w' g cap L := by
  obtain ⟨cur, h1, h2, h3⟩ := h.row
  exact ⟨⟨cur, (hg.block g h.lt (by simpa using hne)).trans h1, h2, h3⟩⟩
theorem keep_endB {W W1 w8 : World} {B rb bc g cap : Nat} {L : List Rec} {x : Rec} {sp : Bool} {sa : Option Addr} {c : Nat} (h : RingAt W B rb bc (.slice sa L.length c) L sp) (hbc : bc < W.heap.size)
    (B2 : Below W.heap.size W W1) (s2 : W1.heap.size = W.heap.size + 1) (hown8 : w8.ownsRow B 64 4 (.slice (some ⟨g, 0, .none⟩) (L.length + 1) cap) (L.length + 1) (recCells L ++ x.list)) (hgrow8 : W1.grownBy w8 (Value.slice sa L.length c).ownBlock) (hor : (Value.slice sa L.length c).ownBlock = some g ∨ g = W.heap.size + 1)
    (r8 : w8.heap[rb]? = some (.cells #[.pointer (some ⟨bc, 0, .none⟩), .slice sa L.length c, .bool sp] 110 (0, 0))) :
    RingAt (w8.setCell ⟨rb, 1, .none⟩ (.slice (some ⟨g, 0, .none⟩) (L.length + 1) cap)) B rb bc (.slice (some ⟨g, 0, .none⟩) (L.length + 1) cap) (L ++ [x]) sp ∧ Off (fun k => k = rb ∨ (Value.slice sa L.length c).ownBlock = some k) W (w8.setCell ⟨rb, 1, .none⟩ (.slice (some ⟨g, 0, .none⟩) (L.length + 1) cap)) ∧ ∀ k, (Value.slice (some ⟨g, 0, .none⟩) (L.length + 1) cap).ownBlock = some k → (Value.slice sa L.length c).ownBlock = some k ∨ W.heap.size ≤ k := by
  have hlt := h.lt
  have hg1 : g ≠ rb := by
    rcases hor with e | e
    · intro e2; rw [e2] at e; exact h.sep.1 e
    · omega
  have hg2 : g ≠ bc := by
    rcases hor with e | e
    · intro e2; rw [e2] at e; exact h.sep.2 e
    · omega
  have hre : Recs w8 B (.slice (some ⟨g, 0, .none⟩) (L ++ [x]).length cap) (L ++ [x]) := by
    show w8.ownsRow _ _ _ _ _ _
    rw [recCells_append, List.length_append]
    exact hown8
  have hgs : w8.grownBy (w8.setCell ⟨rb, 1, .none⟩ (.slice (some ⟨g, 0, .none⟩) (L.length + 1) cap)) (some rb) := grown_set (grown_refl _ _) _ _
  refine ⟨⟨ring_set r8 _, ?_, ⟨by simpa [Value.ownBlock] using hg1, by simpa [Value.ownBlock] using hg2⟩, h.lo⟩, ?_, fun k e => by
    have e2 : g = k := by simpa [Value.ownBlock] using e
    subst e2
    rcases hor with e | e
    · exact Or.inl e
    · right; omega⟩
  · rcases hre.row_form with ⟨e, -⟩ | ⟨g', cap', e, hb', hrow, hlc, hm⟩
    · cases e
    · have e1 := e
      simp only [Value.slice.injEq, Option.some.injEq, Addr.mk.injEq] at e1
      obtain ⟨⟨rfl, -⟩, -, rfl⟩ := e1
      have := Recs.of_row (base := B) (hrow.grown hgs hg1) hb' hlc hm
      rw [List.length_append] at this
      exact this
  · have o1 : Off (fun k => k = rb ∨ (Value.slice sa L.length c).ownBlock = some k) W W1 := Off.of_below B2 _
    have o2 : Off (fun k => (Value.slice sa L.length c).ownBlock = some k) W1 w8 := ⟨hgrow8.os, hgrow8.tape, hgrow8.output, hgrow8.size, fun k hk hn => hgrow8.block k hk (fun e => hn e.symm)⟩
    exact (o1.trans o2 (fun _ _ hs => Or.inr hs)).trans (Off.of_grown hgs) (fun _ _ hs => Or.inl hs)
theorem keep_end {w W W1 w8 : World} {B rb bc g cap : Nat} {L : List Rec} {x : Rec} {sp : Bool} {sa : Option Addr} {c : Nat} (h : RingAt w B rb bc (.slice sa L.length c) L sp) (hbc : bc < w.heap.size) (B1 : Below w.heap.size w W) (hsz : W.heap.size = w.heap.size + 1)
    (B2 : Below W.heap.size W W1) (s2 : W1.heap.size = W.heap.size + 1) (hown8 : w8.ownsRow B 64 4 (.slice (some ⟨g, 0, .none⟩) (L.length + 1) cap) (L.length + 1) (recCells L ++ x.list)) (hgrow8 : W1.grownBy w8 (Value.slice sa L.length c).ownBlock) (hor : (Value.slice sa L.length c).ownBlock = some g ∨ g = W.heap.size + 1)
    (r8 : w8.heap[rb]? = some (.cells #[.pointer (some ⟨bc, 0, .none⟩), .slice sa L.length c, .bool sp] 110 (0, 0))) :
    RingAt (w8.setCell ⟨rb, 1, .none⟩ (.slice (some ⟨g, 0, .none⟩) (L.length + 1) cap)) B rb bc (.slice (some ⟨g, 0, .none⟩) (L.length + 1) cap) (L ++ [x]) sp ∧ Off (fun k => k = rb ∨ (Value.slice sa L.length c).ownBlock = some k) w (w8.setCell ⟨rb, 1, .none⟩ (.slice (some ⟨g, 0, .none⟩) (L.length + 1) cap)) ∧ ∀ k, (Value.slice (some ⟨g, 0, .none⟩) (L.length + 1) cap).ownBlock = some k → (Value.slice sa L.length c).ownBlock = some k ∨ w.heap.size ≤ k := by
  obtain ⟨a, b, d⟩ := keep_endB (h.below B1) (by omega) B2 s2 hown8 hgrow8 hor r8
  exact ⟨a, (Off.of_below B1 _).trans b (fun _ _ hs => hs), fun k e => (d k e).imp id (fun x => by omega)⟩

set_option maxRecDepth 100000 in
set_option maxHeartbeats 1000000 in
/-- The append of keep, where there is room for one more. -/
theorem keep_short (B rb bc : Nat) (v : Value) (L : List Rec) (sp : Bool) (x : Rec) (w : World) (h : RingAt w B rb bc v L sp) (hbc : bc < w.heap.size) (hl : L.length < 8) :
    Calls Tryd.prog 64 #[.pointer (some ⟨rb, 0, .none⟩), x.val] w fun e w' => e = .returned (.tuple #[]) ∧ ∃ v', RingAt w' B rb bc v' (L ++ [x]) sp ∧ Off (fun k => k = rb ∨ v.ownBlock = some k) w w' ∧ ∀ k, v'.ownBlock = some k → v.ownBlock = some k ∨ w.heap.size ≤ k := by
  obtain ⟨i0, hi, hz0, hz1, hz2⟩ := Tryd.infoRec
  obtain ⟨sa, c, rfl⟩ := h.recs.len
  have hne : ¬ L.length = 8 := by omega
  have hne' : ¬ (L.length : Int) = 8 := by omega
  have B1 := (Below.refl w.heap.size w).alloc (Nat.le_refl _) (.cells #[.int .i64 (x.seq : Int), .int .i64 (x.ent : Int), .int .i64 (x.kind : Int), .int .i64 (x.tick : Int)] 64)
  have R1 := h.below B1
  have hlt := h.lt
  have hlo := h.lo
  have X1 := RecAt.new w x 64
  obtain ⟨W, hW⟩ : ∃ W, w.alloc (.cells #[.int .i64 (x.seq : Int), .int .i64 (x.ent : Int), .int .i64 (x.kind : Int), .int .i64 (x.tick : Int)] 64) = W := ⟨_, rfl⟩
  have hsz : W.heap.size = w.heap.size + 1 := by rw [← hW]; simp
  rw [hW] at B1 R1 X1
  have HW : Hid _ := hW
  clear hW
  obtain ⟨x0, x1, x2, x3⟩ := X1
  have c1 := R1.c1
  have f1 := R1.frozen 1
  have hown : W.ownsRow B 64 4 (.slice sa L.length c) L.length (recCells L) := R1.recs
  unfold Rec.val
  go_enter Tryd.func64, Tryd.ntmps64
  go_upto_region 1 with fail
  rw [HW.out]
  go_wp2_with fail
  have KB : Hid (∀ (o : Obj) (w8 : World), (W.drew.alloc o).grownBy w8 (Value.slice sa L.length c).ownBlock → w8.heap[rb]? = some (.cells #[.pointer (some ⟨bc, 0, .none⟩), .slice sa L.length c, .bool sp] 110 (0, 0))) := fun o w8 hg =>
    ((hg.block rb (by simp; omega) (fun e => h.sep.1 e.symm)).trans (((Below.refl W.heap.size W.drew).alloc (Nat.le_refl _) o).block rb (by omega))).trans R1.heap
  have hownd : W.drew.ownsRow B 64 4 (.slice sa L.length c) L.length (recCells L) := hown
  go_region_law (refine step_append_lies _ rfl (.tmp 22) (.tmp 24) 61 rfl B 64 i0 (.agg #[.int .i64 0, .int .i64 0, .int .i64 0, .int .i64 0]) 4 32 Tryd.underlying61 hi hz0 hz1 hz2 rfl (by decide) (.slice sa L.length c) L.length (recCells L) (by simp [Act.eval]) (hownd.alloc _) ⟨W.heap.size, 0, .none⟩ 1 1 x.list (by simp [Act.eval]) rfl (cell_four W.drew x 64) (list_one x) (by decide) (by unfold maxLen; omega) (by omega) (by simp; omega) (W.heap.size + 1) (by simp) ?_; intro g cap w8 hown8 hgrow8 hor hlt8; have r8 := KB.out _ _ hgrow8; have d1 := ring_c1 r8; have d2 := ring_f r8 1)
  all_goals
    go_wp2
    go_end0
    exact ⟨rfl, _, keep_end h hbc B1 hsz (((Below.refl _ _).alloc (Nat.le_refl _) _).drew) (by simp) hown8 hgrow8 hor r8⟩

theorem RingAt.swap {w w' w'' : World} {B rb bc : Nat} {v v' : Value} {L M : List Rec} {sp : Bool} {g cap : Nat} (h : RingAt w B rb bc v L sp) (hv : v.ownBlock = some g) (hv' : v' = .slice (some ⟨g, 0, .none⟩) M.length cap) (hg : w.grownBy w' (some g)) (hrow : SlRow w' g cap M) (hl : M.length ≤ cap) (hm : cap ≤ maxLen) (hw : w'' = w'.setCell ⟨rb, 1, .none⟩ v') :
    RingAt w'' B rb bc v' M sp ∧ Off (fun k => k = rb ∨ v.ownBlock = some k) w w'' := by
  have hgb : g ≠ rb := fun e => h.sep.1 (by rw [hv, e])
  have hgc : g ≠ bc := fun e => h.sep.2 (by rw [hv, e])
  have r1 := (hg.block rb h.lt (by simpa using fun e : rb = g => hgb e.symm)).trans h.heap
  have hgs : w'.grownBy (w'.setCell ⟨rb, 1, .none⟩ v') (some rb) := grown_set (grown_refl _ _) _ _
  subst hw
  refine ⟨⟨ring_set r1 _, ?_, ?_, h.lo⟩, ?_⟩
  · subst hv'
    exact Recs.of_row (hrow.grown hgs hgb) (h.recs.lt g hv).1 hl hm
  · subst hv'
    exact ⟨by simpa [Value.ownBlock] using hgb, by simpa [Value.ownBlock] using hgc⟩
  · exact ((Off.of_grown hg).mono (fun k _ e => Or.inr (by rw [hv, e]))).trans (Off.of_grown hgs) (fun _ _ e => Or.inl e)

set_option maxRecDepth 100000 in
set_option maxHeartbeats 1000000 in
/-- keep, where eight are there. -/
theorem keep_full (B rb bc : Nat) (v : Value) (y : Rec) (M : List Rec) (sp : Bool) (x : Rec) (w : World) (h : RingAt w B rb bc v (y :: M) sp) (hbc : bc < w.heap.size) (hl : M.length = 7) :
    Calls Tryd.prog 64 #[.pointer (some ⟨rb, 0, .none⟩), x.val] w fun e w' => e = .returned (.tuple #[]) ∧ ∃ v', RingAt w' B rb bc v' (M ++ [x]) sp ∧ Off (fun k => k = rb ∨ v.ownBlock = some k) w w' ∧ ∀ k, v'.ownBlock = some k → v.ownBlock = some k ∨ w.heap.size ≤ k := by
  obtain ⟨i0, hi, hz0, hz1, hz2⟩ := Tryd.infoRec
  have B1 := (Below.refl w.heap.size w).alloc (Nat.le_refl _) (.cells #[.int .i64 (x.seq : Int), .int .i64 (x.ent : Int), .int .i64 (x.kind : Int), .int .i64 (x.tick : Int)] 64)
  have R1 := h.below B1
  have hlt := h.lt
  have hlo := h.lo
  have X1 := RecAt.new w x 64
  obtain ⟨W, hW⟩ : ∃ W, w.alloc (.cells #[.int .i64 (x.seq : Int), .int .i64 (x.ent : Int), .int .i64 (x.kind : Int), .int .i64 (x.tick : Int)] 64) = W := ⟨_, rfl⟩
  have hsz : W.heap.size = w.heap.size + 1 := by rw [← hW]; simp
  rw [hW] at B1 R1 X1
  have HW : Hid _ := hW
  clear hW
  rcases R1.recs.row_form with ⟨-, e0⟩ | ⟨g, cap, hv, hbg, hrow, hlc, hm⟩
  · cases e0
  rw [List.length_cons, hl] at hv hlc
  have hgh := h.recs.lt g (by rw [hv]; rfl)
  have DR := delete_row g cap y M W hrow hl hlc hm
  have hv2 : v.ownBlock = some g := by rw [hv]; rfl
  have c1 := R1.c1
  have f1 := R1.frozen 1
  rw [hv] at c1
  have HDR : Hid _ := DR
  clear DR
  unfold Rec.val
  go_enter Tryd.func64, Tryd.ntmps64
  go_upto_region 1 with fail
  rw [HW.out]
  go_wp2_with fail
  refine Calls.mono HDR.out ?_
  rintro e w2 ⟨rfl, hrow2, hg2⟩
  have r2 := (hg2.block rb R1.lt (fun e => R1.sep.1 (by rw [hv2, e]))).trans R1.heap
  have d1 := ring_c1 r2
  have d2 := ring_f r2 1
  go_upto_region 3 with fail
  obtain ⟨W2, hW2⟩ : ∃ W2, w2.setCell ⟨rb, 1, .none⟩ (.slice (some ⟨g, 0, .none⟩) 7 cap) = W2 := ⟨_, rfl⟩
  obtain ⟨R2, O2⟩ := R1.swap (w'' := W2) (M := M) (cap := cap) (v' := .slice (some ⟨g, 0, .none⟩) M.length cap) hv2 rfl hg2 hrow2 (by omega) hm (by rw [hl]; exact hW2.symm)
  have hs2 : W.heap.size ≤ W2.heap.size := O2.size
  have nx : ¬ (w.heap.size = rb ∨ v.ownBlock = some w.heap.size) := by
    rintro (e | e)
    · omega
    · rw [hv2] at e; have := Option.some.inj e; omega
  have X2 : RecAt W2 w.heap.size x := by
    have e := O2.block w.heap.size (by omega) nx
    exact ⟨(World.cell?_of_block e).trans X1.c0, (World.cell?_of_block e).trans X1.c1, (World.cell?_of_block e).trans X1.c2, (World.cell?_of_block e).trans X1.c3⟩
  rw [hW2]
  have O3 := (Off.of_below B1 (fun k => k = rb ∨ v.ownBlock = some k)).trans O2 (fun _ _ hs => hs)
  clear c1 f1 d1 d2 r2 hW2 HDR HW hrow hrow2 hg2 R1 B1 O2 X1
  rw [hl] at R2
  obtain ⟨x0, x1, x2, x3⟩ := X2
  have c1 := R2.c1
  have f1 := R2.frozen 1
  have KB : Hid (∀ (o : Obj) (w8 : World), (W2.drew.alloc o).grownBy w8 (Value.slice (some ⟨g, 0, .none⟩) 7 cap).ownBlock → w8.heap[rb]? = some (.cells #[.pointer (some ⟨bc, 0, .none⟩), .slice (some ⟨g, 0, .none⟩) 7 cap, .bool sp] 110 (0, 0))) := fun o w8 hg =>
    ((hg.block rb (by simp; omega) (fun e => R2.sep.1 e.symm)).trans (((Below.refl W2.heap.size W2.drew).alloc (Nat.le_refl _) o).block rb (by omega))).trans R2.heap
  have hownd : W2.drew.ownsRow B 64 4 (.slice (some ⟨g, 0, .none⟩) 7 cap) 7 (recCells M) := by
    have := R2.recs
    unfold Recs at this
    rw [hl] at this
    exact this
  have hrl2 : rb < W2.heap.size := by omega
  have hrn2 : ¬ rb = W2.heap.size := by omega
  have KE : Hid (∀ (W1 w8 : World) (g' cap' : Nat), Below W2.heap.size W2 W1 → W1.heap.size = W2.heap.size + 1 → w8.ownsRow B 64 4 (.slice (some ⟨g', 0, .none⟩) (7 + 1) cap') (7 + 1) (recCells M ++ x.list) → W1.grownBy w8 (Value.slice (some ⟨g, 0, .none⟩) 7 cap).ownBlock → ((Value.slice (some ⟨g, 0, .none⟩) 7 cap).ownBlock = some g' ∨ g' = W2.heap.size + 1) → w8.heap[rb]? = some (.cells #[.pointer (some ⟨bc, 0, .none⟩), .slice (some ⟨g, 0, .none⟩) 7 cap, .bool sp] 110 (0, 0)) →
      ∃ v', v' = Value.slice (some ⟨g', 0, .none⟩) (7 + 1) cap' ∧ RingAt (w8.setCell ⟨rb, 1, .none⟩ v') B rb bc v' (M ++ [x]) sp ∧ Off (fun k => k = rb ∨ v.ownBlock = some k) w (w8.setCell ⟨rb, 1, .none⟩ v') ∧ ∀ k, v'.ownBlock = some k → v.ownBlock = some k ∨ w.heap.size ≤ k) := by
    intro W1 w8 g' cap' b2 s2 ho hg hor r8
    have R2' : RingAt W2 B rb bc (.slice (some ⟨g, 0, .none⟩) M.length cap) M sp := by rw [hl]; exact R2
    have := keep_endB (W := W2) (W1 := W1) (w8 := w8) (g := g') (cap := cap') (x := x) R2' (by omega) b2 s2 (by rw [hl]; exact ho) (by rw [hl]; exact hg) (by rw [hl]; exact hor) (by rw [hl]; exact r8)
    rw [hl] at this
    refine ⟨_, rfl, this.1, O3.trans this.2.1 (fun k _ hs => ?_), fun k e => (this.2.2 k e).imp (fun e => by rw [hv2]; exact e) (fun x => by omega)⟩
    rcases hs with e | e
    · exact Or.inl e
    · right; rw [hv2]; exact e
  go_region_law (refine step_append_lies _ rfl (.tmp 22) (.tmp 24) 61 rfl B 64 i0 (.agg #[.int .i64 0, .int .i64 0, .int .i64 0, .int .i64 0]) 4 32 Tryd.underlying61 hi hz0 hz1 hz2 rfl (by decide) (.slice (some ⟨g, 0, .none⟩) 7 cap) 7 (recCells M) (by simp [Act.eval]) (hownd.alloc _) ⟨W2.heap.size, 0, .none⟩ 1 1 x.list (by simp [Act.eval]) rfl (cell_four W2.drew x 64) (list_one x) (by decide) (by unfold maxLen; omega) (by omega) (by simp; omega) (W2.heap.size + 1) (by simp) ?_; intro g' cap' w8 hown8 hgrow8 hor hlt8; have r8 := KB.out _ _ hgrow8; have d1 := ring_c1 r8; have d2 := ring_f r8 1)
  all_goals
    go_wp2
    go_end0
    obtain ⟨v', rfl, K1, K2, K3⟩ := KE.out _ _ _ _ (((Below.refl _ _).alloc (Nat.le_refl _) _).drew) (by simp) hown8 hgrow8 hor r8
    exact ⟨rfl, _, K1, K2, K3⟩
end Go.Proofs.YtebdepbnhemnpaaDoor
