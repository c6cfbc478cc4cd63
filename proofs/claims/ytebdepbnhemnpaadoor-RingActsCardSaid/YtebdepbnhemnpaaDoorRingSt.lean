/-
  A ring in memory; ring.Open by contracts. Conditions: the cells lie in memory.
-/
import Derived.Test.YtebdepbnhemnpaaDoorRingNewest
namespace Go.Proofs.YtebdepbnhemnpaaDoor
open Go.RowKit Go.Extern.Stop Go.Stop Go.Extern

/-- A ring at block rb, on the cells at bc; its slice lies behind block B. -/
structure RingAt (w : World) (B rb bc : Nat) (v : Value) (L : List Rec) (sp : Bool) : Prop where
  heap : w.heap[rb]? = some (.cells #[.pointer (some ⟨bc, 0, .none⟩), v, .bool sp] 110 (0, 0))
  recs : Recs w B v L
  sep : v.ownBlock ≠ some rb ∧ v.ownBlock ≠ some bc
  lo : B ≤ rb
theorem RingAt.lt {w : World} {B rb bc : Nat} {v : Value} {L : List Rec} {sp : Bool} (h : RingAt w B rb bc v L sp) : rb < w.heap.size := lt_of_row h.heap
theorem RingAt.c0 {w : World} {B rb bc : Nat} {v : Value} {L : List Rec} {sp : Bool} (h : RingAt w B rb bc v L sp) : w.cell? ⟨rb, 0, .none⟩ = some (.pointer (some ⟨bc, 0, .none⟩)) := by simp [World.cell?, h.heap]
theorem RingAt.c1 {w : World} {B rb bc : Nat} {v : Value} {L : List Rec} {sp : Bool} (h : RingAt w B rb bc v L sp) : w.cell? ⟨rb, 1, .none⟩ = some v := by simp [World.cell?, h.heap]
theorem RingAt.c2 {w : World} {B rb bc : Nat} {v : Value} {L : List Rec} {sp : Bool} (h : RingAt w B rb bc v L sp) : w.cell? ⟨rb, 2, .none⟩ = some (.bool sp) := by simp [World.cell?, h.heap]
theorem RingAt.frozen {w : World} {B rb bc : Nat} {v : Value} {L : List Rec} {sp : Bool} (h : RingAt w B rb bc v L sp) (i : Nat) : w.frozen? ⟨rb, i, .none⟩ = false := by simp [World.frozen?, h.heap]
theorem RingAt.below {w w' : World} {B rb bc : Nat} {v : Value} {L : List Rec} {sp : Bool} (h : RingAt w B rb bc v L sp) (hb : Below w.heap.size w w') : RingAt w' B rb bc v L sp :=
  ⟨(hb.block rb h.lt).trans h.heap, h.recs.below hb (Nat.le_refl _), h.sep, h.lo⟩

theorem RecsRow.range {w : World} {b : Nat} {L : List Rec} (h : RecsRow w b L) : w.rangeAt b 0 (recCells L) := fun j v hv => by
  rw [Nat.zero_add]
  simp only [World.cell?, h.heap]
  simpa using hv
theorem Recs.mono {w : World} {base base' : Nat} {v : Value} {L : List Rec} (h : Recs w base v L) (hb : base' ≤ base) : Recs w base' v L := by
  rcases h.row_form with ⟨rfl, rfl⟩ | ⟨g, cap, rfl, hbg, hrow, hlc, hm⟩
  · exact World.ownsRow_nil _ _ _ _
  · exact Recs.of_row hrow (Nat.le_trans hb hbg) hlc hm
theorem Recs.lt {w : World} {base : Nat} {v : Value} {L : List Rec} (h : Recs w base v L) : ∀ k, v.ownBlock = some k → base ≤ k ∧ k < w.heap.size := World.ownsRow.lt h
theorem RecsRow.drew {w : World} {b : Nat} {L : List Rec} (h : RecsRow w b L) : RecsRow w.drew b L := ⟨h.heap⟩
def openL (l : List UInt8) : List Rec := newestL (helds (l.take 153) 9)
theorem helds_lt (l : List UInt8) : ∀ r ∈ helds l 9, r.seq < 4294967296 := by
  intro r hr
  simp only [helds, List.mem_map, List.mem_range] at hr
  obtain ⟨i, -, rfl⟩ := hr
  split
  · unfold slotR
    split
    · rename_i h; exact (dec_seq h.1).2.1
    · decide
  · decide

set_option maxRecDepth 100000 in
set_option maxHeartbeats 2000000 in
theorem open_on (A : Nat → Addr) (bc : Nat) (s : CSt) (w : World) (h : CellsAt w bc s) (hs : Sen4 A w) (he : s.err 0 153 = 0) :
    Calls Tryd.prog 33 #[.pointer (some ⟨bc, 0, .none⟩)] w fun e w' => ∃ rb v, e = .returned (.tuple #[.pointer (some ⟨rb, 0, .none⟩), .nilIface]) ∧ RingAt w' w.heap.size rb bc v (openL s.bytes) false ∧ Below w.heap.size w w' := by
  have B1 := (Below.refl w.heap.size w).alloc (Nat.le_refl _) (.cells #[.pointer (some ⟨bc, 0, .none⟩)] 104)
  have hc1 : (w.alloc (.cells #[.pointer (some ⟨bc, 0, .none⟩)] 104)).cell? ⟨w.heap.size, 0, .none⟩ = some (.pointer (some ⟨bc, 0, .none⟩)) := World.cell?_alloc_at _ _ _ _ rfl
  have HH : Hid _ := held_on A bc s _ (h.below B1) (hs.below B1) he
  have hlen : (helds (s.bytes.take 153) 9).length = 9 := helds_length _ _
  have HN : Hid _ := newest_any (helds (s.bytes.take 153) 9)
  have HL : Hid _ := helds_lt (s.bytes.take 153)
  unfold openL
  generalize helds (s.bytes.take 153) 9 = L at *
  go_enter Tryd.func33, Tryd.ntmps33
  go_wp2_with fail
  refine Calls.mono HH.out ?_
  rintro e w1 ⟨rfl, hb1⟩
  have s1 := hb1.size
  simp only [World.size_alloc] at s1
  have B2 := B1.trans (hb1.mono (by simp))
  have c1 := cell_below hb1 hc1
  clear hc1 B1 hb1
  go_upto_region 5 with (refine wpList_store_row rfl 105 _ _ rfl w1.heap.size _ rfl rfl 105 _ (heap_alloc_new w1 _) (info_recs _ hlen) (by simp [recCells_length, hlen]) (recs_one _) ?_)
  generalize hW : World.setRow (w1.alloc _) w1.heap.size (recCells L).toArray = W
  have R5 : RecsRow W w1.heap.size L := by rw [← hW]; exact ⟨setRow_heap _ _ _ _ _ _ (heap_alloc_new w1 _)⟩
  have B5 : Below w1.heap.size w1 W := by rw [← hW]; exact below_setRow ((Below.refl _ _).alloc (Nat.le_refl _) _) (Nat.le_refl _) _
  clear hW
  have c5 := cell_below B5 c1
  have b5 := B2.trans (B5.mono (by omega))
  have s5 := B5.size
  have s6 := R5.lt
  have r5 : W.rangeAt w1.heap.size 0 (recCells L) := R5.range
  have hu := Tryd.underlying105
  have hi : (Tryd.prog.info? 105).map (·.size) = some (recCells L).length := by rw [recCells_length, hlen]; kernel_rfl
  have hl36 : (recCells L).length = 36 := by rw [recCells_length, hlen]
  have hon : ∀ v ∈ recCells L, v.oneCell' = true := fun u hu => Array.all_eq_true_iff_forall_mem.1 (recs_one L) u (by simpa using hu)
  go_upto_region 7 with fail
  go_region_held3 (fun w' => w'.cell? ⟨w.heap.size, 0, .none⟩ = some (.pointer (some ⟨bc, 0, .none⟩)) ∧ w'.rangeAt w1.heap.size 0 (recCells L)) (first | exact ⟨c5, r5⟩ | exact ⟨d5, q5⟩ | exact ⟨e5 _, f5 _⟩) (first | (go_at_call 59; refine Calls.mono (HN.out _ hlen HL.out) ?_; rintro e w' ⟨v, rfl, hrv, hbv⟩; obtain ⟨sa, c, rfl⟩ := hrv.len; have d5 := cell_below hbv c5; have q5 : w'.rangeAt w1.heap.size 0 (recCells L) := (R5.drew.below hbv s6).range; have e5 := fun o => cell_below ((Below.refl w'.heap.size w').alloc (Nat.le_refl _) o) d5; have f5 := fun o => ((R5.drew.below hbv s6).below ((Below.refl w'.heap.size w').alloc (Nat.le_refl _) o) (R5.drew.below hbv s6).lt).range))
  go_wp2_with fail
  go_ret2
  have sv : W.heap.size ≤ w'.heap.size := hbv.size
  have b6 := b5.drew.trans (hbv.mono (show w.heap.size ≤ W.heap.size by omega))
  refine ⟨_, _, rfl, ⟨heap_alloc_new _ _, ?_, ?_, by omega⟩, b6.alloc (by omega) _⟩
  · exact (hrv.mono (by show _ ≤ W.heap.size + 1; omega)).below ((Below.refl w'.heap.size w').alloc (Nat.le_refl _) _) (Nat.le_refl _)
  · have hlt := hrv.lt
    have hbc := h.lt
    constructor
    · intro e2; have := (hlt _ e2).2; omega
    · intro e2; have := (hlt _ e2).1; have : W.drew.heap.size = W.heap.size := rfl; omega
end Go.Proofs.YtebdepbnhemnpaaDoor
