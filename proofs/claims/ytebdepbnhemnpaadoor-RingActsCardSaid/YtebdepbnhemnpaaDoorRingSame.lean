/-
  nightwatchref1.SameRecords and nightwatchlaw1.ends by contracts, where the answer is yes. Conditions: as named.
-/
import Derived.Test.YtebdepbnhemnpaaDoorRingInv
import Derived.Laws.StructEq
namespace Go.Proofs.YtebdepbnhemnpaaDoor
open Go.RowKit Go.Extern.Stop Go.Stop Go.Extern

/-- Records that can be read at an address. -/
structure Reads (w : World) (sa : Option Addr) (L : List Rec) : Prop where
  at' : L ≠ [] → ∃ g o, sa = some ⟨g, o, .none⟩ ∧ ∀ i (h : i < L.length), w.cell? ⟨g, o + i * 4, .none⟩ = some (.int .i64 (L[i].seq : Int)) ∧ w.cell? ⟨g, o + i * 4 + 1, .none⟩ = some (.int .i64 (L[i].ent : Int)) ∧ w.cell? ⟨g, o + i * 4 + 2, .none⟩ = some (.int .i64 (L[i].kind : Int)) ∧ w.cell? ⟨g, o + i * 4 + 3, .none⟩ = some (.int .i64 (L[i].tick : Int))
theorem Recs.reads {w : World} {B : Nat} {sa : Option Addr} {n c : Nat} {L : List Rec} (h : Recs w B (.slice sa n c) L) : Reads w sa L ∧ n = L.length := by
  rcases h.row_form with ⟨e, rfl⟩ | ⟨g, cap, e, -, hrow, -, -⟩
  · cases e; exact ⟨⟨fun h => absurd rfl h⟩, rfl⟩
  · simp only [Value.slice.injEq] at e
    obtain ⟨rfl, rfl, rfl⟩ := e
    refine ⟨⟨fun _ => ⟨g, 0, rfl, fun i hi => ?_⟩⟩, rfl⟩
    simp only [Nat.zero_add]
    exact (hrow.cells i hi).1
theorem Reads.drewN {w : World} {sa : Option Addr} {L : List Rec} (h : Reads w sa L) (q : Nat) : Reads (w.drewN q) sa L := ⟨h.at'⟩
theorem Reads.below {w w' : World} {sa : Option Addr} {L : List Rec} (h : Reads w sa L) (hb : Below w.heap.size w w') : Reads w' sa L :=
  ⟨fun hn => by
    obtain ⟨g, o, e, hc⟩ := h.at' hn
    exact ⟨g, o, e, fun i hi => ⟨cell_below hb (hc i hi).1, cell_below hb (hc i hi).2.1, cell_below hb (hc i hi).2.2.1, cell_below hb (hc i hi).2.2.2⟩⟩⟩

set_option maxRecDepth 100000 in
set_option maxHeartbeats 1000000 in
theorem same_any (sa sb : Option Addr) (ca cb : Nat) (L : List Rec) (w : World) (ha : Reads w sa L) (hb : Reads w sb L) (hl : L.length ≤ 100) :
    Calls Tryd.prog 36 #[.slice sa L.length ca, .slice sb L.length cb] w fun e w' => e = .returned (.bool true) ∧ Below w.heap.size w w' := by
  go_enter Tryd.func36, Tryd.ntmps36
  go_wp2_with fail
  go_loopw [5] (fun i wr => ∃ k : Nat, k ≤ L.length ∧ i = .int .i64 k ∧ Below w.heap.size w wr) (fun i _ => L.length - (intOf i).toNat)
  case atStart => exact ⟨0, Nat.zero_le _, rfl, Below.refl _ _⟩
  case round =>
    obtain ⟨k, hk, rfl, hbl⟩ := hrel
    by_cases hlt : k < L.length
    · obtain ⟨ga, oa, rfl, hca⟩ := (ha.below hbl).at' (by intro e; rw [e] at hlt; simp at hlt)
      obtain ⟨gb, ob, rfl, hcb⟩ := (hb.below hbl).at' (by intro e; rw [e] at hlt; simp at hlt)
      obtain ⟨a0, a1, a2, a3⟩ := hca k hlt
      obtain ⟨b0, b1, b2, b3⟩ := hcb k hlt
      have k0 : (0 : Int) ≤ (k : Int) := by omega
      have k1 : (k : Int) < (L.length : Int) := by omega
      clear hca hcb
      generalize L[k] = x at *
      go_wp2_with fail
      go_quiet (fail)
      go_wp2_with fail
      exact ⟨⟨k + 1, by omega, by go_num, below_drewN hbl _⟩, by simp [intOf]; omega⟩
    · go_wp2
      go_ret
      exact ⟨rfl, hbl⟩

theorem Recs.cut_reads {w : World} {g cap : Nat} {L : List Rec} (hrow : SlRow w g cap L) (k : Nat) (hk : k ≤ L.length) (hl : L.length ≤ cap) :
    Reads w (if cap = k then some ⟨g, 0, .none⟩ else some ⟨g, k * 4, .none⟩) (L.drop k) := by
  by_cases hc : cap = k
  · have : L.drop k = [] := List.drop_eq_nil_of_le (by omega)
    rw [this]
    exact ⟨fun h => absurd rfl h⟩
  · rw [if_neg hc]
    refine ⟨fun _ => ⟨g, k * 4, rfl, fun i hi => ?_⟩⟩
    rw [List.length_drop] at hi
    have := (hrow.cells (k + i) (by omega)).1
    rw [show (k + i) * 4 = k * 4 + i * 4 by omega] at this
    rw [List.getElem_drop]
    exact this

set_option maxRecDepth 100000 in
set_option maxHeartbeats 1000000 in
theorem ends_any (B : Nat) (sa : Option Addr) (ca na : Nat) (dv : Value) (D : List Rec) (w : World) (ha : Reads w sa (D.drop (D.length - 8))) (hna : na = (D.drop (D.length - 8)).length) (hd : Recs w B dv D) (hl : D.length ≤ 100) (hs : ∀ i (h : i < D.length), D[i].seq = i + 1) :
    Calls Tryd.prog 39 #[.slice sa na ca, dv] w fun e w' => e = .returned (.bool true) ∧ Below w.heap.size w w' := by
  obtain ⟨sb, cb, rfl⟩ := hd.len
  subst hna
  obtain ⟨m, hm⟩ : ∃ m : Nat, m = D.length - 8 := ⟨_, rfl⟩
  rw [← hm] at ha ⊢
  -- the slice all[k:]
  obtain ⟨sc, cc, hsl, hrd⟩ : ∃ sc cc, (∀ W : World, (Instr.slice 61 (.slice sb D.length cb) (some (.int .i64 (m : Int))) Option.none Option.none).run Tryd.prog W = .ok (.slice sc (D.drop m).length cc) W) ∧ Reads w sc (D.drop m) := by
    have hu : Tryd.prog.underlying 61 = some (.slice (Tryd.prog.elem 61)) := by kernel_rfl
    have hz : ∀ W, (sizeOf (Tryd.prog.elem 61)).run Tryd.prog W = .ok 4 W := fun W => by kernel_rfl
    have hr : ∀ W : World, (Instr.slice 61 (.slice sb D.length cb) (some (.int .i64 (m : Int))) Option.none Option.none).run Tryd.prog W = .ok (.slice (if cb = m then sb else sb.map (·.add (m * 4))) (D.drop m).length (cb - m)) W := fun W => by
      rw [run_slice_l W 61 sb D.length cb hu .i64 (m : Int) (by omega) (by omega), hz, List.length_drop]
      rfl
    refine ⟨_, _, hr, ?_⟩
    rcases hd.row_form with ⟨e, rfl⟩ | ⟨g, cap, e, -, hrow, hlc, -⟩
    · exact ⟨fun h => absurd (by simp) h⟩
    · simp only [Value.slice.injEq] at e
      obtain ⟨rfl, -, rfl⟩ := e
      have := Recs.cut_reads hrow m (by omega) hlc
      by_cases hc : cb = m
      · rw [if_pos hc] at this ⊢; exact this
      · rw [if_neg hc] at this ⊢
        have ea : (⟨g, 0, .none⟩ : Addr).add (m * 4) = ⟨g, m * 4, .none⟩ := by unfold Addr.add; split <;> simp_all
        simpa [ea] using this
  have hlM : (D.drop m).length ≤ 100 := by rw [List.length_drop]; omega
  generalize D.drop m = M at *
  have HS : Hid _ := hs
  have hrdd := hd.reads.1
  clear hs
  by_cases h8 : (D.length : Int) - 8 < 0
  · have hm0 : m = 0 := by omega
    subst hm0
    clear hm
    go_enter Tryd.func39, Tryd.ntmps39
    go_wp2_with fail
    go_loopw [6] (fun i wr => ∃ k : Nat, k ≤ D.length ∧ i = .int .i64 k ∧ wr = w) (fun i _ => D.length - (intOf i).toNat)
    case atStart => exact ⟨0, Nat.zero_le _, rfl, rfl⟩
    case round =>
      obtain ⟨k, hk, rfl, rfl⟩ := hrel
      by_cases hlt : k < D.length
      · obtain ⟨g, o, rfl, hc⟩ := hrdd.at' (by intro e; rw [e] at hlt; simp at hlt)
        have c0 := (hc k hlt).1
        rw [HS.out k hlt, show ((k + 1 : Nat) : Int) = (k : Int) + 1 by omega] at c0
        have k0 : (0 : Int) ≤ (k : Int) := by omega
        have k1 : (k : Int) < (D.length : Int) := by omega
        clear hc hsl
        go_wp2_with fail
        go_roundw
        case rel => exact ⟨k + 1, by omega, by go_num, trivial⟩
        case measure => simp [intOf]; omega
      · have hs0 : (Instr.slice 61 (.slice sb D.length cb) (some (.int .i64 0)) Option.none Option.none).run Tryd.prog wr = .ok (.slice sc M.length cc) wr := hsl wr
        clear hsl
        go_wp2_with fail
        refine (same_any sa sc ca cc M wr ha hrd hlM).mono ?_
        rintro e w2 ⟨rfl, hb2⟩
        go_wp2
        go_ret
        exact ⟨rfl, hb2⟩
  · have hmi : (D.length : Int) - 8 = (m : Int) := by omega
    clear hm
    go_enter Tryd.func39, Tryd.ntmps39
    go_wp2_with fail
    go_loopw [6] (fun i wr => ∃ k : Nat, k ≤ D.length ∧ i = .int .i64 k ∧ wr = w) (fun i _ => D.length - (intOf i).toNat)
    case atStart => exact ⟨0, Nat.zero_le _, rfl, rfl⟩
    case round =>
      obtain ⟨k, hk, rfl, rfl⟩ := hrel
      by_cases hlt : k < D.length
      · obtain ⟨g, o, rfl, hc⟩ := hrdd.at' (by intro e; rw [e] at hlt; simp at hlt)
        have c0 := (hc k hlt).1
        rw [HS.out k hlt, show ((k + 1 : Nat) : Int) = (k : Int) + 1 by omega] at c0
        have k0 : (0 : Int) ≤ (k : Int) := by omega
        have k1 : (k : Int) < (D.length : Int) := by omega
        clear hc hsl
        go_wp2_with fail
        go_roundw
        case rel => exact ⟨k + 1, by omega, by go_num, trivial⟩
        case measure => simp [intOf]; omega
      · have hs0 := hsl wr
        clear hsl
        go_wp2_with fail
        refine (same_any sa sc ca cc M wr ha hrd hlM).mono ?_
        rintro e w2 ⟨rfl, hb2⟩
        go_wp2
        go_ret
        exact ⟨rfl, hb2⟩
end Go.Proofs.YtebdepbnhemnpaaDoor
