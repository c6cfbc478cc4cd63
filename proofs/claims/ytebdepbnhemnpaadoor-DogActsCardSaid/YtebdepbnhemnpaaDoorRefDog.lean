/-
  nightwatchref1.Dog (the document's answer), function by function, told by contracts over the object in memory ('MDogAt'): it goes just as package dog's does. No condition but those named.
-/
import Derived.Test.YtebdepbnhemnpaaDoorDogOps
namespace Go.Proofs.YtebdepbnhemnpaaDoor
open Go.RowKit Go.Extern.Stop Go.Stop Go.Extern

structure MDogAt (w : World) (b : Nat) (d : DSt) : Prop where
  heap : w.heap[b]? = some (.cells d.row 91 (0, 0))
  hc : d.closed ≤ 1000
  ho : d.opn ≤ 1000
  hk : d.kicks ≤ d.begun
  hb : d.begun ≤ d.now
  hn : d.now ≤ 1099511627776
theorem MDogAt.cell {w : World} {b : Nat} {d : DSt} (h : MDogAt w b d) (i : Nat) : w.cell? ⟨b, i, none⟩ = d.row[i]? := by simp [World.cell?, h.heap]
theorem MDogAt.frozen {w : World} {b : Nat} {d : DSt} (h : MDogAt w b d) (i : Nat) : w.frozen? ⟨b, i, none⟩ = false := by simp [World.frozen?, h.heap]
theorem MDogAt.c0 {w : World} {b : Nat} {d : DSt} (h : MDogAt w b d) : w.cell? ⟨b, 0, none⟩ = some (.int .i64 (d.closed : Int)) := h.cell 0
theorem MDogAt.c1 {w : World} {b : Nat} {d : DSt} (h : MDogAt w b d) : w.cell? ⟨b, 1, none⟩ = some (.int .i64 (d.opn : Int)) := h.cell 1
theorem MDogAt.c2 {w : World} {b : Nat} {d : DSt} (h : MDogAt w b d) : w.cell? ⟨b, 2, none⟩ = some (.int .i64 (d.now : Int)) := h.cell 2
theorem MDogAt.c3 {w : World} {b : Nat} {d : DSt} (h : MDogAt w b d) : w.cell? ⟨b, 3, none⟩ = some (.int .i64 (d.begun : Int)) := h.cell 3
theorem MDogAt.c4 {w : World} {b : Nat} {d : DSt} (h : MDogAt w b d) : w.cell? ⟨b, 4, none⟩ = some (.int .i64 (d.kicks : Int)) := h.cell 4
theorem MDogAt.c5 {w : World} {b : Nat} {d : DSt} (h : MDogAt w b d) : w.cell? ⟨b, 5, none⟩ = some (.bool d.reset) := h.cell 5
theorem MDogAt.lt {w : World} {b : Nat} {d : DSt} (h : MDogAt w b d) : b < w.heap.size := lt_of_row h.heap
theorem MDogAt.set {w : World} {b : Nat} {d d' : DSt} (h : MDogAt w b d) (i : Nat) (v : Value) (hr : d.row.setIfInBounds i v = d'.row) (hc : d'.closed ≤ 1000) (ho : d'.opn ≤ 1000) (hk : d'.kicks ≤ d'.begun) (hb : d'.begun ≤ d'.now) (hn : d'.now ≤ 1099511627776) : MDogAt (w.setCell ⟨b, i, none⟩ v) b d' := by
  refine ⟨?_, hc, ho, hk, hb, hn⟩
  simp only [World.setCell, Array.getElem?_modify, h.heap]
  simp [hr]
theorem MDogAt.below {w w' : World} {b : Nat} {d : DSt} (h : MDogAt w b d) (hb : Below w.heap.size w w') : MDogAt w' b d := ⟨row_below hb h.heap, h.hc, h.ho, h.hk, h.hb, h.hn⟩
theorem MDogAt.drewN {w : World} {b : Nat} {d : DSt} (h : MDogAt w b d) (q : Nat) : MDogAt (w.drewN q) b d := ⟨h.heap, h.hc, h.ho, h.hk, h.hb, h.hn⟩
theorem MDogAt.drew {w : World} {b : Nat} {d : DSt} (h : MDogAt w b d) : MDogAt w.drew b d := ⟨h.heap, h.hc, h.ho, h.hk, h.hb, h.hn⟩
theorem MDogAt.other {w w' : World} {b c : Nat} {d : DSt} (h : MDogAt w b d) (hg : w.grownBy w' (some c)) (hne : b ≠ c) : MDogAt w' b d :=
  ⟨(hg.block b h.lt (by simpa using hne)).trans h.heap, h.hc, h.ho, h.hk, h.hb, h.hn⟩

theorem mdog_open (b : Nat) (d : DSt) (w : World) (h : MDogAt w b d) :
    Calls Tryd.prog 52 #[.pointer (some ⟨b, 0, none⟩)] w fun e w' => e = .returned (.bool d.isOpen) ∧ ∃ q, w' = w.drewN q := by
  have c0 := h.c0
  have c2 := h.c2
  have c3 := h.c3
  have c5 := h.c5
  have hc := h.hc
  have hb := h.hb
  have hn := h.hn
  have wr : IntKind.i64.wrap ((d.begun : Int) + (d.closed : Int)) = (d.begun : Int) + (d.closed : Int) := by rw [IntKind.wrap_i64]; omega
  cases hr : d.reset
  · rw [hr] at c5
    have E : Hid (d.isOpen = decide (d.begun + d.closed < d.now)) := by
      show _ = _
      unfold DSt.isOpen
      rw [hr]
      simp only [Bool.not_false, Bool.true_and]
      rw [decide_eq_decide]
      omega
    clear h hc hb hn
    go_enter Tryd.func52, Tryd.ntmps52
    go_wp2_with fail
    go_quiet (fail)
    go_wp2
    go_ret
    rw [E.out]
    refine ⟨?_, _, rfl⟩
    show Ending.returned (.bool _) = _
    congr 2
    first | rfl | (rw [decide_eq_decide]; omega)
  · rw [hr] at c5
    have E : Hid (d.isOpen = false) := by
      show _ = _
      unfold DSt.isOpen
      rw [hr]
      rfl
    clear h hc hb hn
    go_enter Tryd.func52, Tryd.ntmps52
    go_wp2_with fail
    go_quiet (fail)
    go_wp2
    go_ret
    rw [E.out]
    exact ⟨rfl, _, rfl⟩

theorem mdog_tick_reset (b : Nat) (d : DSt) (w : World) (h : MDogAt w b d) (hr : d.reset = true) :
    Calls Tryd.prog 51 #[.pointer (some ⟨b, 0, none⟩)] w fun e w' => e = .returned (.int .i64 11) ∧ w' = w := by
  have c5 := h.c5
  rw [hr] at c5
  go_enter Tryd.func51, Tryd.ntmps51
  go_wp2
  go_ret
  exact ⟨rfl, rfl⟩

set_option maxRecDepth 100000 in
set_option maxHeartbeats 1000000 in
theorem mdog_tick (b : Nat) (d : DSt) (w : World) (h : MDogAt w b d) (hr : d.reset = false) (hlt : d.now < 1099511627776) :
    Calls Tryd.prog 51 #[.pointer (some ⟨b, 0, none⟩)] w fun e w' => e = .returned (.int .i64 0) ∧ MDogAt w' b d.tick ∧ w.grownBy w' (some b) := by
  have hc := h.hc
  have ho := h.ho
  have hb := h.hb
  have hn := h.hn
  have c5 := h.c5
  rw [hr] at c5
  have c0 := h.c0
  have c1 := h.c1
  have c2 := h.c2
  have c3 := h.c3
  have f2 := h.frozen 2
  have f5 := h.frozen 5
  have g1 : ¬ 1099511627776 ≤ (d.now : Int) := by omega
  have e1 : ((d.now + 1 : Nat) : Int) = (d.now : Int) + 1 := by omega
  have wr1 : IntKind.i64.wrap ((d.begun : Int) + (d.closed : Int)) = (d.begun : Int) + (d.closed : Int) := by rw [IntKind.wrap_i64]; omega
  have wr2 : IntKind.i64.wrap ((d.begun : Int) + (d.closed : Int) + (d.opn : Int)) = (d.begun : Int) + (d.closed : Int) + (d.opn : Int) := by rw [IntKind.wrap_i64]; omega
  have hT : MDogAt (w.setCell ⟨b, 2, none⟩ (.int .i64 ((d.now : Int) + 1))) b (d.tickR false) := by
    rw [← e1, ← hr]
    exact h.set 2 _ rfl h.hc h.ho h.hk (Nat.le_succ_of_le h.hb) hlt
  have HT : Hid _ := hT
  by_cases hx : d.begun + d.closed + d.opn < d.now + 1
  · have E : Hid (d.tick = d.tickR true) := by
      show _ = _
      unfold DSt.tick DSt.tickR
      rw [decide_eq_true (by omega)]
    have hR : ∀ q, MDogAt (((w.setCell ⟨b, 2, none⟩ (.int .i64 ((d.now : Int) + 1))).drewN q).setCell ⟨b, 5, none⟩ (.bool true)) b (d.tickR true) := fun q => (HT.out.drewN q).set 5 _ rfl HT.out.hc HT.out.ho HT.out.hk HT.out.hb HT.out.hn
    have HR : Hid _ := hR
    have hx' : (d.begun : Int) + (d.closed : Int) + (d.opn : Int) < (d.now : Int) + 1 := by omega
    clear hR hT h hlt e1 hc ho hb hn
    go_enter Tryd.func51, Tryd.ntmps51
    go_wp2_with fail
    go_quiet (fail)
    go_wp2
    go_ret
    rw [E.out]
    exact ⟨rfl, HR.out _, grown_set (grown_drewN (grown_set (grown_refl _ _) _ _) _) _ _⟩
  · have E : Hid (d.tick = d.tickR false) := by
      show _ = _
      unfold DSt.tick DSt.tickR
      rw [decide_eq_false (by omega)]
    have hdI : decide ((d.begun : Int) + (d.closed : Int) + (d.opn : Int) < (d.now : Int) + 1) = false := decide_eq_false (by omega)
    clear hT h hlt e1 hc ho hb hn hx
    go_enter Tryd.func51, Tryd.ntmps51
    go_wp2_with fail
    go_quiet (fail)
    go_wp2
    go_ret
    rw [E.out]
    exact ⟨rfl, HT.out.drewN _, grown_drewN (grown_set (grown_refl _ _) _ _) _⟩

theorem mdog_kick (b : Nat) (d : DSt) (w : World) (h : MDogAt w b d) (ho : d.isOpen = true) :
    Calls Tryd.prog 50 #[.pointer (some ⟨b, 0, none⟩)] w fun e w' => e = .returned (.int .i64 0) ∧ MDogAt w' b d.kick ∧ w.grownBy w' (some b) := by
  have hk := h.hk
  have hb := h.hb
  have hn := h.hn
  have hlt : d.kicks < d.now := by
    unfold DSt.isOpen at ho
    simp only [Bool.and_eq_true, decide_eq_true_eq] at ho
    omega
  have HO : Hid (d.isOpen = true) := ho
  have h1 : ∀ q, MDogAt ((w.drewN q).setCell ⟨b, 3, none⟩ (.int .i64 (d.now : Int))) b { d with begun := d.now } := fun q => (h.drewN q).set 3 _ rfl h.hc h.ho (Nat.le_trans h.hk h.hb) (Nat.le_refl _) h.hn
  have h2 : ∀ q, MDogAt (((w.drewN q).setCell ⟨b, 3, none⟩ (.int .i64 (d.now : Int))).setCell ⟨b, 4, none⟩ (.int .i64 ((d.kicks : Int) + 1))) b d.kick := fun q => by
    have e : ((d.kicks + 1 : Nat) : Int) = (d.kicks : Int) + 1 := by omega
    rw [← e]
    exact (h1 q).set 4 _ rfl h.hc h.ho (show d.kicks + 1 ≤ d.now by omega) (Nat.le_refl _) h.hn
  have c2 := h.c2
  have c3 := h.c3
  have c4 := h.c4
  have f3 := h.frozen 3
  have f4 := h.frozen 4
  have H2 : Hid _ := h2
  clear h1 h2 ho
  go_enter Tryd.func50, Tryd.ntmps50
  go_wp2_with fail
  refine (mdog_open _ _ _ h).mono ?_
  rintro e w1 ⟨rfl, q, rfl⟩
  rw [HO.out]
  clear h
  go_wp2
  go_ret
  exact ⟨rfl, H2.out q, grown_set (grown_set (grown_drewN (grown_refl _ _) _) _ _) _ _⟩

theorem mdog_kick_bad (b : Nat) (d : DSt) (w : World) (h : MDogAt w b d) (ho : d.isOpen = false) :
    Calls Tryd.prog 50 #[.pointer (some ⟨b, 0, none⟩)] w fun e w' => e = .returned (.int .i64 11) ∧ MDogAt w' b d.bad ∧ w.grownBy w' (some b) := by
  have HO : Hid (d.isOpen = false) := ho
  have c5 := h.c5
  have f5 := h.frozen 5
  have h1 : ∀ q, MDogAt ((w.drewN q).setCell ⟨b, 5, none⟩ (.bool true)) b d.bad := fun q => (h.drewN q).set 5 _ rfl h.hc h.ho h.hk h.hb h.hn
  have H1 : Hid _ := h1
  clear h1 ho
  go_enter Tryd.func50, Tryd.ntmps50
  go_wp2_with fail
  refine (mdog_open _ _ _ h).mono ?_
  rintro e w1 ⟨rfl, q, rfl⟩
  rw [HO.out]
  clear h
  go_wp2
  go_ret
  exact ⟨rfl, H1.out q, grown_set (grown_drewN (grown_refl _ _) _) _ _⟩
end Go.Proofs.YtebdepbnhemnpaaDoor
