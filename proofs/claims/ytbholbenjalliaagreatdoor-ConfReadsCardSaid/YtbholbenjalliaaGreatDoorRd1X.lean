/-
  Several texts as one: CfRNum, CfRMap, CfRSet, CfRWord, CfRWordB, CfRKind, CfRFill, CfRFillB. What each holds: CfRNum: Numbers of a text's words: pure facts, and conf.number by a contract ('numOf'). Condition: the word is not empty, and has at most a million bytes. | CfRMap: The look-up of points by the last one of a name ('lookL'), and a map in memory that holds it ('PtsMap'): pure. No condition. | CfRSet: Cells that are set one behind the other ('sets'), and what that leaves: pure facts of memory. No condition. | CfRWord: (*conf.reader).word by a contract ('wordV'). Conditions: the sentinels are in memory; what waits for the word lies in memory, and so does the map of points. | CfRWordB: (*conf.reader).word by a contract ('wordV'): the walks. Conditions: as CfRWord says. | CfRKind: (*conf.reader).mayStand and conf.kindOf by contracts ('may', 'kindV'). Conditions: the reader's last kind lies in memory; the keywords do ('KwAt'). | CfRFill: (*conf.reader).fill by a contract ('fillV'). Conditions: the sentinels are in memory; the words, what waits for them, and the map of points lie in memory, each cell another one. | CfRFillB: (*conf.reader).fill by a contract: the walk. Conditions: as CfRFill says.
-/
import Derived.Test.YtbholbenjalliaaGreatDoorNmX
import Derived.Test.YtbholbenjalliaaGreatDoorPureX
import Derived.Test.YtbholbenjalliaaGreatDoorCfMemX
import Derived.Test.YtbholbenjalliaaGreatDoorPgX
namespace Go.Proofs.YtbholbenjalliaaGreatDoor
open Go.RowKit Go.Extern.Stop Go.Stop Go.Extern

theorem dig_bnd {b : UInt8} (h : isDig b = true) : 48 ≤ b.toNat ∧ b.toNat ≤ 57 := by
  unfold isDig at h
  simp only [Bool.and_eq_true, decide_eq_true_eq] at h
  exact h
theorem valD_step {w : Bs} {k : Nat} (h : k < w.length) : valD (w.take (k + 1)) = valD (w.take k) * 10 + ((w.getD k 0).toNat - 48) := by
  rw [List.take_add_one, List.getElem?_eq_getElem h]
  simp only [Option.toList_some]
  rw [valD_snoc, List.getD_eq_getElem?_getD, List.getElem?_eq_getElem h]
  rfl
theorem valD_take {w : Bs} : ∀ k, k ≤ w.length → (∀ j, j < k → isDig (w.getD j 0) = true) → valD (w.take k) < 10 ^ k
  | 0, _, _ => by simp [valD]
  | k + 1, h, hd => by
    rw [valD_step (by omega)]
    have h1 := dig_bnd (hd k (by omega))
    have h2 := valD_take k (by omega) (fun j hj => hd j (by omega))
    rw [Nat.pow_succ]
    omega
theorem numOf_long {w : Bs} (h : 13 < w.length) : numOf w = none := by unfold numOf; rw [if_pos (Or.inr (Or.inl h))]
theorem numOf_zero {w : Bs} (h : 1 < w.length) (h0 : w.getD 0 0 = 48) : numOf w = none := by
  have : w.head? = some 48 := by cases w with
    | nil => simp at h
    | cons a t => simp at h0; simp [h0]
  unfold numOf; rw [if_pos (Or.inr (Or.inr (Or.inl ⟨h, this⟩)))]
theorem numOf_bad {w : Bs} {k : Nat} (hk : k < w.length) (h : isDig (w.getD k 0) = false) : numOf w = none := by
  have : w.all isDig = false := by
    rw [List.all_eq_false]
    refine ⟨w[k], List.getElem_mem hk, ?_⟩
    rw [List.getD_eq_getElem?_getD, List.getElem?_eq_getElem hk] at h
    simpa using h
  unfold numOf; rw [if_pos (Or.inr (Or.inr (Or.inr this)))]
theorem numOf_yes {w : Bs} (h1 : 0 < w.length) (h2 : w.length ≤ 13) (h3 : ¬ (1 < w.length ∧ w.getD 0 0 = 48)) (h : ∀ j, j < w.length → isDig (w.getD j 0) = true) : numOf w = some (valD w) := by
  have ha : w.all isDig = true := by
    rw [List.all_eq_true]
    intro b hb
    obtain ⟨j, hj, rfl⟩ := List.getElem_of_mem hb
    have := h j hj
    rw [List.getD_eq_getElem?_getD, List.getElem?_eq_getElem hj] at this
    exact this
  unfold numOf
  rw [if_neg]
  rintro (h' | h' | ⟨h', h''⟩ | h')
  · omega
  · omega
  · exact h3 ⟨h', by cases w with
      | nil => simp at h'
      | cons a t => simp at h''; simp [h'']⟩
  · rw [ha] at h'; cases h'
theorem blen (s : ByteArray) : (bl s).length = s.size := by unfold bl; rw [Array.length_toList]; rfl
set_option maxHeartbeats 2000000 in
set_option maxRecDepth 100000 in
theorem number_at (s : ByteArray) (w : World) (h1 : 1 ≤ s.size) (hs : s.size ≤ 1000000) :
    Calls Tryz.prog 149 #[.string s] w fun e w' => e = .returned (.tuple #[.int .i64 (((numOf (bl s)).getD 0 : Nat) : Int), .bool (numOf (bl s)).isSome]) ∧ Below w.heap.size w w' := by
  by_cases h13 : 13 < s.size
  · have HN : Hid (numOf (bl s) = none) := numOf_long (by rw [blen]; exact h13)
    have g1 : 13 < (s.size : Int) := by omega
    go_enter Tryz.func149, Tryz.ntmps149
    go_wp2
    go_ret2
    rw [HN.out]
    exact ⟨rfl, Below.refl _ _⟩
  have g1 : ¬ 13 < (s.size : Int) := by omega
  have k0 : (0 : Int) < (s.size : Int) := by omega
  have hb0 : ∀ h : 0 < s.size, s[0]'h = (bl s)[0]?.getD 0 := fun h => by rw [byte_at s 0 h, List.getD_eq_getElem?_getD]; rfl
  have hgd : (bl s).getD 0 0 = (bl s)[0]?.getD 0 := List.getD_eq_getElem?_getD
  by_cases hz : 1 < s.size ∧ (bl s)[0]?.getD 0 = 48
  · have HN : Hid (numOf (bl s) = none) := numOf_zero (by rw [blen]; exact hz.1) (by rw [hgd]; exact hz.2)
    have g2 : 1 < (s.size : Int) := by omega
    have g3 : (((bl s)[0]?.getD 0).toNat : Int) = 48 := by rw [hz.2]; rfl
    clear hz hgd
    go_enter Tryz.func149, Tryz.ntmps149
    go_wp2
    go_ret2
    rw [HN.out]
    exact ⟨rfl, Below.refl _ _⟩
  have HZ : Hid (1 ≤ s.size ∧ s.size ≤ 13) := ⟨h1, by omega⟩
  have HE : Hid (∀ k, k < s.size → isDig ((bl s).getD k 0) = false → numOf (bl s) = none) := fun k h2 h3 => numOf_bad (by rw [blen]; exact h2) h3
  have HY : Hid ((∀ j, j < s.size → isDig ((bl s).getD j 0) = true) → numOf (bl s) = some (valD (bl s))) := fun h => numOf_yes (by rw [blen]; exact h1) (by rw [blen]; omega) (by rw [blen, hgd]; exact hz) (by rw [blen]; exact h)
  have HV : Hid (∀ k, k < s.size → (∀ j, j < k → isDig ((bl s).getD j 0) = true) → valD ((bl s).take k) < 1000000000000 ∧ valD ((bl s).take (k + 1)) = valD ((bl s).take k) * 10 + (((bl s).getD k 0).toNat - 48)) := fun k hk hd => ⟨Nat.lt_of_lt_of_le (valD_take k (by rw [blen]; omega) hd) (Nat.pow_le_pow_right (by decide) (show k ≤ 12 by omega)), valD_step (by rw [blen]; exact hk)⟩
  have hq : ((((bl s)[0]?.getD 0).toNat : Int) = 48 ∧ ¬ 1 < (s.size : Int)) ∨ ¬ (((bl s)[0]?.getD 0).toNat : Int) = 48 := by
    by_cases q : (((bl s)[0]?.getD 0).toNat : Int) = 48
    · refine Or.inl ⟨q, fun h => hz ⟨by omega, ?_⟩⟩
      apply UInt8.toNat_inj.1
      show _ = 48
      omega
    · exact Or.inr q
  obtain ⟨cap, W, hcv, hbW, hcell⟩ := bytes_madeC w s
  have HCl : Hid (∀ j, j < s.size → W.cell? ⟨w.heap.size, j, .none⟩ = some (.int .u8 (((bl s).getD j 0).toNat : Int))) := hcell
  have HbW : Hid (Below w.heap.size w W) := hbW
  clear hcell hbW hz hgd h1 hs h13
  rcases hq with ⟨q1, q2⟩ | q1
  all_goals
    go_enter Tryz.func149, Tryz.ntmps149
    go_wp2_with fail
    go_loopw [4, 6, 23] (fun m _ i wr => ∃ k : Nat, k ≤ s.size ∧ i = .int .i64 k ∧ m = .int .i64 (valD ((bl s).take k) : Nat) ∧ wr = W ∧ ∀ j, j < k → isDig ((bl s).getD j 0) = true) (fun _ _ i _ => s.size - (intOf i).toNat)
    case atStart => exact ⟨0, Nat.zero_le _, rfl, rfl, rfl, fun j hj => absurd hj (Nat.not_lt_zero _)⟩
    case round =>
      obtain ⟨k, hk, rfl, rfl, rfl, hall⟩ := hrel
      by_cases hlt : k < s.size
      · have hc := HCl.out k hlt
        obtain ⟨hv1, hv2⟩ := HV.out k hlt hall
        have HB : Hid (∀ j, j < k → isDig ((bl s).getD j 0) = true) := hall
        have HV2 : Hid (valD ((bl s).take (k + 1)) = valD ((bl s).take k) * 10 + (((bl s).getD k 0).toNat - 48)) := hv2
        have HY2 : Hid (isDig ((bl s).getD k 0) = false → numOf (bl s) = none) := HE.out k hlt
        have k1 : (k : Int) < (s.size : Int) := by omega
        have k12 : k < 13 := by have := HZ.out.2; omega
        clear hall hcv hv2
        generalize hcc : (bl s).getD k 0 = c at hc HV2 HY2
        have HC : Hid ((bl s).getD k 0 = c) := hcc
        clear hcc
        generalize valD ((bl s).take k) = m at hv1 HV2 ⊢
        by_cases hd : isDig c = true
        · have hdc := isDigit_at c
          rw [hd] at hdc
          have hb := dig_bnd hd
          go_wp2_with fail
          refine (hdc _).mono ?_
          rintro e w' ⟨rfl, rfl⟩
          go_wp2
          go_roundw
          case rel =>
            refine ⟨k + 1, by omega, by go_num, by rw [HV2.out]; go_num, by first | trivial | rfl, fun j hj => ?_⟩
            by_cases e : j = k
            · rw [e, HC.out]; exact hd
            · exact HB.out j (by omega)
          case measure => simp [intOf]; omega
        · simp only [Bool.not_eq_true] at hd
          have hdc := isDigit_at c
          rw [hd] at hdc
          go_wp2_with fail
          refine (hdc _).mono ?_
          rintro e w' ⟨rfl, rfl⟩
          go_wp2
          go_ret2
          rw [HY2.out hd]
          exact ⟨rfl, HbW.out⟩
      · have k1 : ¬ (k : Int) < (s.size : Int) := by omega
        obtain rfl : k = s.size := by omega
        have HR : Hid (numOf (bl s) = some (valD ((bl s).take s.size))) := by
          show _ = _
          rw [HY.out hall, ← blen, List.take_length]
        clear hall
        go_wp2
        go_ret2
        rw [HR.out]
        exact ⟨rfl, HbW.out⟩
end Go.Proofs.YtbholbenjalliaaGreatDoor

namespace Go.Proofs.YtbholbenjalliaaGreatDoor
open Go.RowKit Go.Extern.Stop Go.Stop Go.Extern Go.Maps

/-- The last place of a name. -/
def lookL : Look
  | [], _ => none
  | p :: t, w => match lookL t w with
    | some i => some (i + 1)
    | none => if bl p = w then some 0 else none
theorem lookL_snoc : ∀ (t : List ByteArray) (p : ByteArray) (w : Bs), lookL (t ++ [p]) w = if bl p = w then some t.length else lookL t w
  | [], p, w => by simp only [List.nil_append, lookL, List.length_nil]
  | q :: t, p, w => by
    rw [List.cons_append, lookL, lookL_snoc t p w]
    by_cases h : bl p = w
    · rw [if_pos h, if_pos h]; rfl
    · rw [if_neg h, if_neg h]; rfl
theorem lookL_hit : ∀ (pts : List ByteArray) (w : Bs) (i : Nat), lookL pts w = some i → ∃ p, pts[i]? = some p ∧ bl p = w
  | [], w, i, h => by simp [lookL] at h
  | p :: t, w, i, h => by
    rw [lookL] at h
    cases hl : lookL t w with
    | some j =>
      rw [hl] at h
      cases h
      obtain ⟨q, h1, h2⟩ := lookL_hit t w j hl
      exact ⟨q, by simpa using h1, h2⟩
    | none =>
      rw [hl] at h
      simp only at h
      split at h
      · rename_i hp
        cases h
        exact ⟨p, rfl, hp⟩
      · cases h
theorem lookL_miss : ∀ (pts : List ByteArray) (w : Bs), lookL pts w = none → ∀ p ∈ pts, bl p ≠ w
  | [], w, _, p, hp => by cases hp
  | q :: t, w, h, p, hp => by
    rw [lookL] at h
    cases hl : lookL t w with
    | some j => rw [hl] at h; cases h
    | none =>
      rw [hl] at h
      simp only at h
      split at h
      · cases h
      · rename_i hq
        rcases List.mem_cons.1 hp with rfl | hp
        · exact hq
        · exact lookL_miss t w hl p hp
theorem good_lookL : GoodLook lookL := ⟨lookL_hit, lookL_miss⟩
theorem lookL_lt {pts : List ByteArray} {w : Bs} {i : Nat} (h : lookL pts w = some i) : i < pts.length := by
  obtain ⟨p, h1, -⟩ := lookL_hit pts w i h
  exact (List.getElem?_eq_some_iff.1 h1).1

/-- A map's datum that holds the look-up. -/
def PtsMap (D : DataW Unit) (pts : List ByteArray) : Prop :=
  ∀ s : ByteArray, Maps.has D (keyL s) = (lookL pts (bl s)).isSome ∧ D.atKey (keyL s) (.lit (.int .i64 0)) = .lit (.int .i64 (((lookL pts (bl s)).getD 0 : Nat) : Int))
theorem ptsMap_nil : PtsMap (.map []) [] := fun _ => ⟨rfl, rfl⟩
theorem ptsMap_put {D : DataW Unit} {pts : List ByteArray} (h : PtsMap D pts) (hD : IsMap D) (p : ByteArray) : PtsMap (D.put (keyL p) (.lit (.int .i64 (pts.length : Int)))) (pts ++ [p]) := by
  intro s
  rw [lookL_snoc]
  by_cases e : bl p = bl s
  · have e' := bl_inj e
    subst e'
    rw [if_pos rfl]
    exact ⟨Maps.has_put_same hD (by trivial) _, Maps.atKey_put_same hD (by trivial) _ _⟩
  · rw [if_neg e]
    have hne : keyL s ≠ keyL p := fun h => e (by unfold keyL at h; exact (Lit.string.inj h).symm)
    rw [Maps.has_put_other hne, Maps.atKey_put_other hne]
    exact h s
end Go.Proofs.YtbholbenjalliaaGreatDoor

namespace Go.Proofs.YtbholbenjalliaaGreatDoor
open Go.RowKit Go.Extern.Stop Go.Stop Go.Extern

theorem setCell_same {w : World} {b o : Nat} {v : Value} (h : w.cell? ⟨b, o, none⟩ = some v) : w.setCell ⟨b, o, none⟩ v = w := by
  have hh : (w.setCell ⟨b, o, none⟩ v).heap = w.heap := by
    apply Array.ext_getElem?
    intro i
    simp only [World.setCell, Array.getElem?_modify]
    split
    · rename_i e
      subst e
      unfold World.cell? at h
      cases hb : w.heap[b]? with
      | none => rfl
      | some ob =>
        rw [hb] at h
        cases ob with
        | cells c t fr =>
          simp only [Option.map_some, Option.some.injEq, Obj.cells.injEq, and_true]
          simp at h ⊢
          apply Array.ext_getElem?
          intro j
          rw [Array.getElem?_setIfInBounds]
          split
          · rename_i e
            subst e
            split
            · exact h.symm
            · rename_i hx
              rw [Array.getElem?_eq_none (by omega)] at h
              cases h
          · rfl
        | _ => rfl
    · rfl
  cases w
  simp only [World.setCell] at hh ⊢
  rw [hh]
theorem Below.setBoth {B : Nat} {w w' : World} (h : Below B w w') (a : Addr) (v : Value) : Below B (w.setCell a v) (w'.setCell a v) := by
  refine ⟨h.os, h.tape, h.output, ?_, fun k hk => ?_⟩
  · simpa [World.setCell] using h.size
  · simp only [World.setCell, Array.getElem?_modify]
    rw [h.block k hk]
theorem cell_setOther {w : World} {a p : Addr} {u : Value} (hne : a.block ≠ p.block ∨ a.off ≠ p.off) (hp : p.spot = none) (ha : a.spot = none) : (w.setCell a u).cell? p = w.cell? p := by
  obtain ⟨ab, ao, as'⟩ := a
  obtain ⟨pb, po, ps⟩ := p
  simp only at hne hp ha
  subst hp ha
  unfold World.cell?
  simp only [World.setCell, Array.getElem?_modify]
  by_cases e : ab = pb
  · subst e
    have ho : ao ≠ po := by rcases hne with h | h; exact absurd rfl h; exact h
    simp only [if_true]
    cases w.heap[ab]? with
    | none => rfl
    | some ob =>
      cases ob with
      | cells c t fr =>
        simp only [Option.map_some]
        simp [ho]
      | _ => rfl
  · rw [if_neg e]
theorem cell_setSame {w : World} {b o : Nat} {u v : Value} (h : w.cell? ⟨b, o, none⟩ = some v) : (w.setCell ⟨b, o, none⟩ u).cell? ⟨b, o, none⟩ = some u := by
  unfold World.cell? at h ⊢
  simp only [World.setCell, Array.getElem?_modify]
  simp only [if_true]
  cases hb : w.heap[b]? with
  | none => rw [hb] at h; cases h
  | some ob =>
    rw [hb] at h
    cases ob with
    | cells c t fr =>
      simp only [Option.map_some] at h ⊢
      simp at h ⊢
      have := (Array.getElem?_eq_some_iff.1 h).1
      simp [this]
    | _ => cases h
theorem frozen_set (w : World) (a p : Addr) (u : Value) : (w.setCell a u).frozen? p = w.frozen? p := by
  unfold World.frozen?
  simp only [World.setCell, Array.getElem?_modify]
  by_cases e : a.block = p.block
  · simp only [e, if_true]
    cases w.heap[p.block]? with
    | none => rfl
    | some ob => cases ob <;> rfl
  · simp only [e, if_false]
/-- Cells set, one behind the other. -/
def sets : World → List (Nat × Nat) → List Value → World
  | w, a :: as', u :: us => sets (w.setCell ⟨a.1, a.2, none⟩ u) as' us
  | w, _, _ => w
theorem sets_nil (w : World) (us : List Value) : sets w [] us = w := by cases us <;> rfl
theorem sets_nil' (w : World) (as' : List (Nat × Nat)) : sets w as' [] = w := by cases as' <;> rfl
theorem sets_snoc : ∀ (w : World) (as' : List (Nat × Nat)) (us : List Value) (a : Nat × Nat) (u : Value), as'.length = us.length → sets w (as' ++ [a]) (us ++ [u]) = (sets w as' us).setCell ⟨a.1, a.2, none⟩ u
  | w, [], [], a, u, _ => rfl
  | w, b :: as', v :: us, a, u, h => by
    simp only [List.cons_append, sets]
    exact sets_snoc _ as' us a u (by simpa using h)
theorem sets_size : ∀ (w : World) (as' : List (Nat × Nat)) (us : List Value), (sets w as' us).heap.size = w.heap.size
  | w, [], us => by rw [sets_nil]
  | w, _ :: _, [] => by rw [sets_nil']
  | w, a :: as', u :: us => by
    rw [sets, sets_size]
    simp [World.setCell]
theorem sets_frozen : ∀ (w : World) (as' : List (Nat × Nat)) (us : List Value) (p : Addr), (sets w as' us).frozen? p = w.frozen? p
  | w, [], us, p => by rw [sets_nil]
  | w, _ :: _, [], p => by rw [sets_nil']
  | w, a :: as', u :: us, p => by rw [sets, sets_frozen, frozen_set]
theorem sets_cell : ∀ (w : World) (as' : List (Nat × Nat)) (us : List Value) (b o : Nat), (∀ a ∈ as', a ≠ (b, o)) → (sets w as' us).cell? ⟨b, o, none⟩ = w.cell? ⟨b, o, none⟩
  | w, [], us, b, o, _ => by rw [sets_nil]
  | w, _ :: _, [], b, o, _ => by rw [sets_nil']
  | w, a :: as', u :: us, b, o, h => by
    rw [sets, sets_cell _ as' us b o (fun x hx => h x (List.mem_cons_of_mem _ hx))]
    refine cell_setOther ?_ rfl rfl
    have := h a (List.mem_cons_self ..)
    by_cases e : a.1 = b
    · exact Or.inr (fun e2 => this (Prod.ext e e2))
    · exact Or.inl e
theorem sets_heap : ∀ (w : World) (as' : List (Nat × Nat)) (us : List Value) (b : Nat), (∀ a ∈ as', a.1 ≠ b) → (sets w as' us).heap[b]? = w.heap[b]?
  | w, [], us, b, _ => by rw [sets_nil]
  | w, _ :: _, [], b, _ => by rw [sets_nil']
  | w, a :: as', u :: us, b, h => by
    rw [sets, sets_heap _ as' us b (fun x hx => h x (List.mem_cons_of_mem _ hx))]
    exact Below.heap_setCell _ _ _ _ (Ne.symm (h a (List.mem_cons_self ..)))
/-- What lies below a bound is as it was if all that is set lies above. -/
theorem sets_below : ∀ (B : Nat) (w : World) (as' : List (Nat × Nat)) (us : List Value), (∀ a ∈ as', B ≤ a.1) → Below B w (sets w as' us)
  | B, w, [], us, _ => by rw [sets_nil]; exact Below.refl _ _
  | B, w, _ :: _, [], _ => by rw [sets_nil']; exact Below.refl _ _
  | B, w, a :: as', u :: us, h => by
    rw [sets]
    exact ((Below.refl B w).setCell (p := ⟨a.1, a.2, none⟩) (h a (List.mem_cons_self ..)) _).trans (sets_below B _ as' us (fun x hx => h x (List.mem_cons_of_mem _ hx)))
end Go.Proofs.YtbholbenjalliaaGreatDoor

namespace Go.Proofs.YtbholbenjalliaaGreatDoor
open Go.RowKit Go.Extern.Stop Go.Stop Go.Extern Go.Maps

/-- What a word waits for: 0: a text, 1: a number, 2: a place. -/
def tgtTy : Nat → TypeId
  | 0 => 199
  | 1 => 187
  | _ => 201
def Typed (f : Nat) (u : Value) : Prop := if f = 0 then ∃ s : ByteArray, u = .string s ∧ s.size ≤ 1000000 else ∃ z : Int, u = .int .i64 z
def valOf (f : Nat) (s : ByteArray) (v : Int) : Value := if f = 0 then .string s else .int .i64 v
/-- The map of points in memory. -/
structure MapAt (w : World) (rb mb : Nat) (pts : List ByteArray) : Prop where
  c6 : w.cell? ⟨rb, 6, none⟩ = some (.map (some mb))
  own : ∃ D : DataW Unit, w.ownsMap Tryz.prog 9 (plainElem Tryz.prog 3) mb pts.length D ∧ PtsMap D pts
theorem MapAt.below {w w' : World} {rb mb : Nat} {pts : List ByteArray} (h : MapAt w rb mb pts) (hb : Below w.heap.size w w') : MapAt w' rb mb pts := by
  obtain ⟨D, h1, h2⟩ := h.own
  refine ⟨cell_below hb h.c6, D, ?_, h2⟩
  have hlt := h1.lt
  obtain ⟨es, clock, h3, h4⟩ := h1
  exact ⟨es, clock, (hb.block mb hlt).trans h3, h4⟩
/-- What one word leaves. -/
def WordPost (A : Nat → Addr) (pts : List ByteArray) (f : Nat) (s : ByteArray) (tb tk : Nat) (w : World) (v : Ending) (w' : World) : Prop :=
  v = .returned (errV A (wordV (lookL pts) f (bl s)).1) ∧ ∃ u, Typed f u ∧ ((wordV (lookL pts) f (bl s)).1 = 0 → u = valOf f s (wordV (lookL pts) f (bl s)).2) ∧ Below w.heap.size (w.setCell ⟨tb, tk, none⟩ u) w'
theorem word_err {A : Nat → Addr} {pts : List ByteArray} {f : Nat} {s : ByteArray} {tb tk : Nat} {old : Value} {w w' : World} {c : Nat} (ht : w.cell? ⟨tb, tk, none⟩ = some old) (hT : Typed f old) (hc : (wordV (lookL pts) f (bl s)).1 = c) (h0 : c ≠ 0) (hb : Below w.heap.size w w') : WordPost A pts f s tb tk w (.returned (errV A c)) w' := by
  refine ⟨by rw [hc], old, hT, fun e => absurd (hc.symm.trans e) h0, ?_⟩
  rw [setCell_same ht]
  exact hb
end Go.Proofs.YtbholbenjalliaaGreatDoor

namespace Go.Proofs.YtbholbenjalliaaGreatDoor
open Go.RowKit Go.Extern.Stop Go.Stop Go.Extern Go.Maps

theorem Tryz.assertRSS (x : Value) (w : World) : (Instr.typeAssert (.iface 199 x) 20 199 true).run Tryz.prog w = .ok (.tuple #[x, .bool true]) w := by kernel_rfl
theorem Tryz.assertRIS (x : Value) (w : World) : (Instr.typeAssert (.iface 187 x) 20 199 true).run Tryz.prog w = .ok (.tuple #[.pointer none, .bool false]) w := by kernel_rfl
theorem Tryz.assertRII (x : Value) (w : World) : (Instr.typeAssert (.iface 187 x) 20 187 true).run Tryz.prog w = .ok (.tuple #[x, .bool true]) w := by kernel_rfl
theorem Tryz.assertRPS (x : Value) (w : World) : (Instr.typeAssert (.iface 201 x) 20 199 true).run Tryz.prog w = .ok (.tuple #[.pointer none, .bool false]) w := by kernel_rfl
theorem Tryz.assertRPI (x : Value) (w : World) : (Instr.typeAssert (.iface 201 x) 20 187 true).run Tryz.prog w = .ok (.tuple #[.pointer none, .bool false]) w := by kernel_rfl
theorem Tryz.assertRPP (x : Value) (w : World) : (Instr.typeAssert (.iface 201 x) 20 201 true).run Tryz.prog w = .ok (.tuple #[x, .bool true]) w := by kernel_rfl
theorem Tryz.zeroIntE (w : World) : (zeroValue 3).run Tryz.prog w = .ok (.int .i64 0) w := by kernel_rfl
theorem wordV_empty (look : Bs → Option Nat) (f : Nat) : wordV look f [] = (1, 0) := by unfold wordV; rw [if_pos rfl]
theorem bl_nil {s : ByteArray} (h : s.size = 0) : bl s = [] := List.eq_nil_of_length_eq_zero (by rw [blen]; exact h)
theorem bl_cons {s : ByteArray} (h : 1 ≤ s.size) : bl s ≠ [] := fun e => by have := blen s; rw [e] at this; simp at this; omega
theorem ba_nil {s : ByteArray} (h : s.size = 0) : s = ⟨#[]⟩ := bl_inj (by rw [bl_nil h]; rfl)
set_option maxHeartbeats 2000000 in
set_option maxRecDepth 100000 in
theorem rword_nil (A : Nat → Addr) (pts : List ByteArray) (rb f : Nat) (v : Value) (tb tk : Nat) (old : Value) (w : World) (hs : Sen6 A w) (ht : w.cell? ⟨tb, tk, none⟩ = some old) (hT : Typed f old) :
    Calls Tryz.prog 140 #[.pointer (some ⟨rb, 0, none⟩), .string ⟨#[]⟩, v] w (WordPost A pts f ⟨#[]⟩ tb tk w) := by
  have HW : Hid (∀ w', Below w.heap.size w w' → WordPost A pts f ⟨#[]⟩ tb tk w (.returned (errV A 1)) w') := fun w' hb => word_err (c := 1) ht hT (by rw [show bl ⟨#[]⟩ = [] from rfl, wordV_empty]) (by decide) hb
  have c0 := hs.c0
  clear hs ht hT
  go_enter Tryz.func140, Tryz.ntmps140
  go_wp2
  go_ret
  exact HW.out _ (Below.refl _ _)
set_option maxHeartbeats 2000000 in
set_option maxRecDepth 100000 in
theorem rword_str (A : Nat → Addr) (pts : List ByteArray) (rb : Nat) (s : ByteArray) (tb tk : Nat) (old : Value) (w : World) (h1 : 1 ≤ s.size) (hsz : s.size ≤ 1000000) (ht : w.cell? ⟨tb, tk, none⟩ = some old) (hf : w.frozen? ⟨tb, tk, none⟩ = false) :
    Calls Tryz.prog 140 #[.pointer (some ⟨rb, 0, none⟩), .string s, .iface 199 (.pointer (some ⟨tb, tk, none⟩))] w (WordPost A pts 0 s tb tk w) := by
  have HV : Hid (wordV (lookL pts) 0 (bl s) = (0, 0)) := by show _ = _; unfold wordV; rw [if_neg (bl_cons h1)]; rfl
  have y2 : ¬ s.toList = [] := by rw [ByteArray.toList_eq]; exact bl_cons h1
  have y1 : (s.toList == []) = false := by simpa using y2
  clear h1
  have a0 := Tryz.assertRSS
  go_enter Tryz.func140, Tryz.ntmps140
  go_wp2
  go_ret
  refine ⟨by rw [HV.out]; rfl, .string s, ⟨s, rfl, hsz⟩, fun _ => rfl, Below.refl _ _⟩
set_option maxHeartbeats 2000000 in
set_option maxRecDepth 100000 in
theorem rword_num (A : Nat → Addr) (pts : List ByteArray) (rb : Nat) (s : ByteArray) (tb tk : Nat) (old : Value) (w : World) (hs : Sen6 A w) (h1 : 1 ≤ s.size) (hsz : s.size ≤ 1000000) (ht : w.cell? ⟨tb, tk, none⟩ = some old) (hT : Typed 1 old) (hf : w.frozen? ⟨tb, tk, none⟩ = false) :
    Calls Tryz.prog 140 #[.pointer (some ⟨rb, 0, none⟩), .string s, .iface 187 (.pointer (some ⟨tb, tk, none⟩))] w (WordPost A pts 1 s tb tk w) := by
  have HV : Hid (wordV (lookL pts) 1 (bl s) = match numOf (bl s) with | some n => (0, (n : Int)) | none => (1, 0)) := by show _ = _; unfold wordV; rw [if_neg (bl_cons h1)]; rfl
  have y2 : ¬ s.toList = [] := by rw [ByteArray.toList_eq]; exact bl_cons h1
  have y1 : (s.toList == []) = false := by simpa using y2
  have hN := number_at s w h1 hsz
  have HW : Hid (numOf (bl s) = none → ∀ w', Below w.heap.size w w' → WordPost A pts 1 s tb tk w (.returned (errV A 1)) w') := fun hn w' hb => word_err (c := 1) ht hT (by rw [HV.out, hn]) (by decide) hb
  have HS : Hid (Sen6 A w) := hs
  have HT : Hid (w.cell? ⟨tb, tk, none⟩ = some old ∧ w.frozen? ⟨tb, tk, none⟩ = false) := ⟨ht, hf⟩
  clear h1 hs ht hf hT
  have a0 := Tryz.assertRIS
  have a1 := Tryz.assertRII
  cases hn : numOf (bl s) with
  | none =>
    rw [hn] at hN
    go_enter Tryz.func140, Tryz.ntmps140
    go_wp2_with fail
    refine hN.mono ?_
    rintro e w1 ⟨rfl, hb⟩
    have c0 := (HS.out.below hb).c0
    have HB : Hid (Below w.heap.size w w1) := hb
    clear hb
    go_wp2
    go_ret
    exact HW.out hn _ HB.out
  | some n =>
    rw [hn] at hN
    go_enter Tryz.func140, Tryz.ntmps140
    go_wp2_with fail
    refine hN.mono ?_
    rintro e w1 ⟨rfl, hb⟩
    have t0 : w1.cell? ⟨tb, tk, none⟩ = some old := cell_below hb HT.out.1
    have t1 : w1.frozen? ⟨tb, tk, none⟩ = false := by
      have := hb.block tb (block_lt HT.out.1)
      have h2 := HT.out.2
      unfold World.frozen? at h2 ⊢
      rw [this]
      exact h2
    have HB : Hid (Below w.heap.size w w1) := hb
    clear hb
    go_wp2
    go_ret
    refine ⟨by rw [HV.out, hn]; rfl, .int .i64 (n : Int), ⟨_, rfl⟩, fun _ => by rw [HV.out, hn]; rfl, Below.setBoth HB.out _ _⟩
set_option maxHeartbeats 2000000 in
set_option maxRecDepth 100000 in
theorem rword_place (A : Nat → Addr) (pts : List ByteArray) (rb mb : Nat) (s : ByteArray) (tb tk : Nat) (old : Value) (w : World) (hs : Sen6 A w) (h1 : 1 ≤ s.size) (hsz : s.size ≤ 1000000) (hm : MapAt w rb mb pts) (ht : w.cell? ⟨tb, tk, none⟩ = some old) (hT : Typed 2 old) (hf : w.frozen? ⟨tb, tk, none⟩ = false) :
    Calls Tryz.prog 140 #[.pointer (some ⟨rb, 0, none⟩), .string s, .iface 201 (.pointer (some ⟨tb, tk, none⟩))] w (WordPost A pts 2 s tb tk w) := by
  have HV : Hid (wordV (lookL pts) 2 (bl s) = match lookL pts (bl s) with | some n => (0, (n : Int)) | none => (5, 0)) := by show _ = _; unfold wordV; rw [if_neg (bl_cons h1)]; rfl
  have y2 : ¬ s.toList = [] := by rw [ByteArray.toList_eq]; exact bl_cons h1
  have y1 : (s.toList == []) = false := by simpa using y2
  have HW : Hid (lookL pts (bl s) = none → WordPost A pts 2 s tb tk w (.returned (errV A 5)) w) := fun hn => word_err (c := 5) ht hT (by rw [HV.out, hn]) (by decide) (Below.refl _ _)
  have c4 := hs.c4
  have c6 := hm.c6
  obtain ⟨D, hown, hD⟩ := hm.own
  have hkey : keyOf Tryz.prog 9 (.string s) = some (keyL s) := Go.WideMaps.keyOf_string_mk Tryz.underlying9 (by unfold maxLen; omega)
  obtain ⟨hD1, hD2⟩ := hD s
  have HD2 : Hid (D.atKey (keyL s) (.lit (.int .i64 0)) = .lit (.int .i64 (((lookL pts (bl s)).getD 0 : Nat) : Int))) := hD2
  clear h1 hs hT hm hD hD2
  have a0 := Tryz.assertRPS
  have a1 := Tryz.assertRPI
  have a2 := Tryz.assertRPP
  cases hn : lookL pts (bl s) with
  | none =>
    rw [hn] at hD1
    have hD1' : Maps.has D (keyL s) = false := hD1
    clear hD1
    go_enter Tryz.func140, Tryz.ntmps140
    go_wp2_with (first
      | (at_lookup; refine wpList_lookup_own_ok_int _ rfl _ _ 114 rfl 9 3 .i64 Tryz.lawStr Tryz.underlying114 Tryz.underlying3 (Tryz.zeroIntE _) mb pts.length _ rfl hown _ _ rfl hkey ?_; intro c hat hwc)
      | go_in)
    go_ret
    exact HW.out hn
  | some n =>
    rw [hn] at hD1
    have hD1' : Maps.has D (keyL s) = true := hD1
    have HAt : Hid (∀ c, D.atKey (keyL s) (.lit (.int .i64 0)) = .lit (.int .i64 c) → c = (n : Int)) := fun c hc => by
      have := hc.symm.trans HD2.out
      rw [hn] at this
      injection this with h2
      injection h2
    clear hD1
    go_enter Tryz.func140, Tryz.ntmps140
    go_wp2_with (first
      | (at_lookup; refine wpList_lookup_own_ok_int _ rfl _ _ 114 rfl 9 3 .i64 Tryz.lawStr Tryz.underlying114 Tryz.underlying3 (Tryz.zeroIntE _) mb pts.length _ rfl hown _ _ rfl hkey ?_; intro c hat hwc)
      | go_in)
    go_ret
    have hc := HAt.out _ hat
    subst hc
    refine ⟨by rw [HV.out, hn]; rfl, .int .i64 (n : Int), ⟨_, rfl⟩, fun _ => by rw [HV.out, hn]; rfl, Below.refl _ _⟩
end Go.Proofs.YtbholbenjalliaaGreatDoor

namespace Go.Proofs.YtbholbenjalliaaGreatDoor
open Go.RowKit Go.Extern.Stop Go.Stop Go.Extern

set_option maxHeartbeats 4000000 in
set_option maxRecDepth 100000 in
theorem mayStand_at (rb : Nat) (last : Int) (k : Nat) (w : World) (hk : k < 10) (hc : w.cell? ⟨rb, 5, none⟩ = some (.int .i64 last)) :
    Calls Tryz.prog 108 #[.pointer (some ⟨rb, 0, none⟩), .int .i64 (k : Int)] w fun e w' => e = .returned (.bool (may last k)) ∧ w' = w := by
  match k, hk with
  | 0, _ =>
    go_enter Tryz.func108, Tryz.ntmps108
    go_wp2
    go_ret
    exact ⟨by first | rfl | simp [may], rfl⟩
  | 1, _ =>
    go_enter Tryz.func108, Tryz.ntmps108
    go_wp2
    go_ret
    exact ⟨by first | rfl | simp [may], rfl⟩
  | 2, _ =>
    go_enter Tryz.func108, Tryz.ntmps108
    go_wp2
    go_ret
    exact ⟨by first | rfl | simp [may], rfl⟩
  | 3, _ =>
    go_enter Tryz.func108, Tryz.ntmps108
    go_wp2
    go_ret
    exact ⟨by first | rfl | simp [may], rfl⟩
  | 4, _ =>
    by_cases l1 : 3 ≤ last
    all_goals
      go_enter Tryz.func108, Tryz.ntmps108
      go_wp2
      go_ret
      exact ⟨by first | rfl | (simp [may, l1]; done) | (simp [may]; omega), rfl⟩
  | 5, _ =>
    by_cases l1 : 3 ≤ last
    all_goals
      go_enter Tryz.func108, Tryz.ntmps108
      go_wp2
      go_ret
      exact ⟨by first | rfl | (simp [may, l1]; done) | (simp [may]; omega), rfl⟩
  | 6, _ =>
    by_cases l1 : 3 ≤ last
    all_goals
      go_enter Tryz.func108, Tryz.ntmps108
      go_wp2
      go_ret
      exact ⟨by first | rfl | (simp [may, l1]; done) | (simp [may]; omega), rfl⟩
  | 7, _ =>
    by_cases l1 : 3 ≤ last
    all_goals
      go_enter Tryz.func108, Tryz.ntmps108
      go_wp2
      go_ret
      exact ⟨by first | rfl | (simp [may, l1]; done) | (simp [may]; omega), rfl⟩
  | 8, _ =>
    by_cases l1 : 3 ≤ last
    all_goals
      go_enter Tryz.func108, Tryz.ntmps108
      go_wp2
      go_ret
      exact ⟨by first | rfl | (simp [may, l1]; done) | (simp [may]; omega), rfl⟩
  | 9, _ =>
    by_cases l1 : 3 ≤ last
    all_goals
      go_enter Tryz.func108, Tryz.ntmps108
      go_wp2
      go_ret
      exact ⟨by first | rfl | (simp [may, l1]; done) | (simp [may]; omega), rfl⟩

def kindV (w : Bs) : Int := match kindOf w with
  | some k => (k : Int)
  | none => -1
theorem bytes_n2 {a b : ByteArray} (h : ¬ a = b) : (a.toList == b.toList) = false ∧ ¬ a.toList = b.toList := by
  have h2 : ¬ a.toList = b.toList := fun e => by
    rw [ByteArray.toList_eq, ByteArray.toList_eq] at e
    exact h (bl_inj e)
  exact ⟨by simpa using h2, h2⟩
theorem bytes_y2 {a b : ByteArray} (h : a = b) : (a.toList == b.toList) = true ∧ a.toList = b.toList := by subst h; exact ⟨beq_self_eq_true _, rfl⟩
theorem kindV_none {w : Bs} (h : ∀ j, j < 10 → kw j ≠ w) : kindV w = -1 := by
  have : kindOf w = none := by
    unfold kindOf
    rw [List.find?_eq_none]
    intro j hj
    simp only [List.mem_range] at hj
    simpa using h j hj
  unfold kindV
  rw [this]
set_option maxHeartbeats 4000000 in
set_option maxRecDepth 100000 in
theorem kindOf_at (s : ByteArray) (w : World) (hK : KwAt w) :
    Calls Tryz.prog 107 #[.string s] w fun e w' => e = .returned (.int .i64 (kindV (bl s))) ∧ w' = w := by
  have c0 := hK 0 (by decide)
  have c1 := hK 1 (by decide)
  have c2 := hK 2 (by decide)
  have c3 := hK 3 (by decide)
  have c4 := hK 4 (by decide)
  have c5 := hK 5 (by decide)
  have c6 := hK 6 (by decide)
  have c7 := hK 7 (by decide)
  have c8 := hK 8 (by decide)
  have c9 := hK 9 (by decide)
  clear hK
  go_enter Tryz.func107, Tryz.ntmps107
  go_wp2_with fail
  clear c0 c1 c2 c3 c4 c5 c6 c7 c8 c9
  go_loopw [3, 4, 6] (fun _ _ i wr => ∃ k : Nat, k ≤ 10 ∧ i = .int .i64 k ∧ wr = w ∧ ∀ j, j < k → kw j ≠ bl s) (fun _ _ i _ => 10 - (intOf i).toNat)
  case atStart => exact ⟨0, Nat.zero_le _, rfl, rfl, fun j hj => absurd hj (Nat.not_lt_zero _)⟩
  case round =>
    obtain ⟨k, hk, rfl, rfl, hn⟩ := hrel
    have HN : Hid (∀ j, j < k → kw j ≠ bl s) := hn
    clear hn
    by_cases hlt : k < 10
    · match k, hlt with
      | 0, _ =>
        have ix : ∀ W, (Instr.index 163 (.agg #[.string ⟨(kw 0).toArray⟩, .string ⟨(kw 1).toArray⟩, .string ⟨(kw 2).toArray⟩, .string ⟨(kw 3).toArray⟩, .string ⟨(kw 4).toArray⟩, .string ⟨(kw 5).toArray⟩, .string ⟨(kw 6).toArray⟩, .string ⟨(kw 7).toArray⟩, .string ⟨(kw 8).toArray⟩, .string ⟨(kw 9).toArray⟩]) (.int .i64 0)).run Tryz.prog W = .ok (.string ⟨(kw 0).toArray⟩) W := fun _ => by kernel_rfl
        by_cases h : kw 0 = bl s
        · have HV : Hid (kindV (bl s) = 0) := by show _ = _; rw [← h]; decide
          have y2 : kw 0 = s.toList := by rw [ByteArray.toList_eq]; exact h
          have y1 : (kw 0 == s.toList) = true := by rw [y2]; exact beq_self_eq_true _
          clear y2 h
          go_wp2
          go_ret
          exact ⟨by rw [HV.out]; rfl, rfl⟩
        · have y2 : ¬ kw 0 = s.toList := by rw [ByteArray.toList_eq]; exact h
          have y1 : (kw 0 == s.toList) = false := by simpa using y2
          have HN2 : Hid (∀ j, j < 1 → kw j ≠ bl s) := fun j hj => by
            by_cases e : j = 0
            · rw [e]; exact h
            · exact HN.out j (by omega)
          go_wp2
          go_roundw
          case rel => exact ⟨1, by decide, by first | trivial | rfl, by first | trivial | rfl, HN2.out⟩
          case measure => simp [intOf]
      | 1, _ =>
        have ix : ∀ W, (Instr.index 163 (.agg #[.string ⟨(kw 0).toArray⟩, .string ⟨(kw 1).toArray⟩, .string ⟨(kw 2).toArray⟩, .string ⟨(kw 3).toArray⟩, .string ⟨(kw 4).toArray⟩, .string ⟨(kw 5).toArray⟩, .string ⟨(kw 6).toArray⟩, .string ⟨(kw 7).toArray⟩, .string ⟨(kw 8).toArray⟩, .string ⟨(kw 9).toArray⟩]) (.int .i64 1)).run Tryz.prog W = .ok (.string ⟨(kw 1).toArray⟩) W := fun _ => by kernel_rfl
        by_cases h : kw 1 = bl s
        · have HV : Hid (kindV (bl s) = 1) := by show _ = _; rw [← h]; decide
          have y2 : kw 1 = s.toList := by rw [ByteArray.toList_eq]; exact h
          have y1 : (kw 1 == s.toList) = true := by rw [y2]; exact beq_self_eq_true _
          clear y2 h
          go_wp2
          go_ret
          exact ⟨by rw [HV.out]; rfl, rfl⟩
        · have y2 : ¬ kw 1 = s.toList := by rw [ByteArray.toList_eq]; exact h
          have y1 : (kw 1 == s.toList) = false := by simpa using y2
          have HN2 : Hid (∀ j, j < 2 → kw j ≠ bl s) := fun j hj => by
            by_cases e : j = 1
            · rw [e]; exact h
            · exact HN.out j (by omega)
          go_wp2
          go_roundw
          case rel => exact ⟨2, by decide, by first | trivial | rfl, by first | trivial | rfl, HN2.out⟩
          case measure => simp [intOf]
      | 2, _ =>
        have ix : ∀ W, (Instr.index 163 (.agg #[.string ⟨(kw 0).toArray⟩, .string ⟨(kw 1).toArray⟩, .string ⟨(kw 2).toArray⟩, .string ⟨(kw 3).toArray⟩, .string ⟨(kw 4).toArray⟩, .string ⟨(kw 5).toArray⟩, .string ⟨(kw 6).toArray⟩, .string ⟨(kw 7).toArray⟩, .string ⟨(kw 8).toArray⟩, .string ⟨(kw 9).toArray⟩]) (.int .i64 2)).run Tryz.prog W = .ok (.string ⟨(kw 2).toArray⟩) W := fun _ => by kernel_rfl
        by_cases h : kw 2 = bl s
        · have HV : Hid (kindV (bl s) = 2) := by show _ = _; rw [← h]; decide
          have y2 : kw 2 = s.toList := by rw [ByteArray.toList_eq]; exact h
          have y1 : (kw 2 == s.toList) = true := by rw [y2]; exact beq_self_eq_true _
          clear y2 h
          go_wp2
          go_ret
          exact ⟨by rw [HV.out]; rfl, rfl⟩
        · have y2 : ¬ kw 2 = s.toList := by rw [ByteArray.toList_eq]; exact h
          have y1 : (kw 2 == s.toList) = false := by simpa using y2
          have HN2 : Hid (∀ j, j < 3 → kw j ≠ bl s) := fun j hj => by
            by_cases e : j = 2
            · rw [e]; exact h
            · exact HN.out j (by omega)
          go_wp2
          go_roundw
          case rel => exact ⟨3, by decide, by first | trivial | rfl, by first | trivial | rfl, HN2.out⟩
          case measure => simp [intOf]
      | 3, _ =>
        have ix : ∀ W, (Instr.index 163 (.agg #[.string ⟨(kw 0).toArray⟩, .string ⟨(kw 1).toArray⟩, .string ⟨(kw 2).toArray⟩, .string ⟨(kw 3).toArray⟩, .string ⟨(kw 4).toArray⟩, .string ⟨(kw 5).toArray⟩, .string ⟨(kw 6).toArray⟩, .string ⟨(kw 7).toArray⟩, .string ⟨(kw 8).toArray⟩, .string ⟨(kw 9).toArray⟩]) (.int .i64 3)).run Tryz.prog W = .ok (.string ⟨(kw 3).toArray⟩) W := fun _ => by kernel_rfl
        by_cases h : kw 3 = bl s
        · have HV : Hid (kindV (bl s) = 3) := by show _ = _; rw [← h]; decide
          have y2 : kw 3 = s.toList := by rw [ByteArray.toList_eq]; exact h
          have y1 : (kw 3 == s.toList) = true := by rw [y2]; exact beq_self_eq_true _
          clear y2 h
          go_wp2
          go_ret
          exact ⟨by rw [HV.out]; rfl, rfl⟩
        · have y2 : ¬ kw 3 = s.toList := by rw [ByteArray.toList_eq]; exact h
          have y1 : (kw 3 == s.toList) = false := by simpa using y2
          have HN2 : Hid (∀ j, j < 4 → kw j ≠ bl s) := fun j hj => by
            by_cases e : j = 3
            · rw [e]; exact h
            · exact HN.out j (by omega)
          go_wp2
          go_roundw
          case rel => exact ⟨4, by decide, by first | trivial | rfl, by first | trivial | rfl, HN2.out⟩
          case measure => simp [intOf]
      | 4, _ =>
        have ix : ∀ W, (Instr.index 163 (.agg #[.string ⟨(kw 0).toArray⟩, .string ⟨(kw 1).toArray⟩, .string ⟨(kw 2).toArray⟩, .string ⟨(kw 3).toArray⟩, .string ⟨(kw 4).toArray⟩, .string ⟨(kw 5).toArray⟩, .string ⟨(kw 6).toArray⟩, .string ⟨(kw 7).toArray⟩, .string ⟨(kw 8).toArray⟩, .string ⟨(kw 9).toArray⟩]) (.int .i64 4)).run Tryz.prog W = .ok (.string ⟨(kw 4).toArray⟩) W := fun _ => by kernel_rfl
        by_cases h : kw 4 = bl s
        · have HV : Hid (kindV (bl s) = 4) := by show _ = _; rw [← h]; decide
          have y2 : kw 4 = s.toList := by rw [ByteArray.toList_eq]; exact h
          have y1 : (kw 4 == s.toList) = true := by rw [y2]; exact beq_self_eq_true _
          clear y2 h
          go_wp2
          go_ret
          exact ⟨by rw [HV.out]; rfl, rfl⟩
        · have y2 : ¬ kw 4 = s.toList := by rw [ByteArray.toList_eq]; exact h
          have y1 : (kw 4 == s.toList) = false := by simpa using y2
          have HN2 : Hid (∀ j, j < 5 → kw j ≠ bl s) := fun j hj => by
            by_cases e : j = 4
            · rw [e]; exact h
            · exact HN.out j (by omega)
          go_wp2
          go_roundw
          case rel => exact ⟨5, by decide, by first | trivial | rfl, by first | trivial | rfl, HN2.out⟩
          case measure => simp [intOf]
      | 5, _ =>
        have ix : ∀ W, (Instr.index 163 (.agg #[.string ⟨(kw 0).toArray⟩, .string ⟨(kw 1).toArray⟩, .string ⟨(kw 2).toArray⟩, .string ⟨(kw 3).toArray⟩, .string ⟨(kw 4).toArray⟩, .string ⟨(kw 5).toArray⟩, .string ⟨(kw 6).toArray⟩, .string ⟨(kw 7).toArray⟩, .string ⟨(kw 8).toArray⟩, .string ⟨(kw 9).toArray⟩]) (.int .i64 5)).run Tryz.prog W = .ok (.string ⟨(kw 5).toArray⟩) W := fun _ => by kernel_rfl
        by_cases h : kw 5 = bl s
        · have HV : Hid (kindV (bl s) = 5) := by show _ = _; rw [← h]; decide
          have y2 : kw 5 = s.toList := by rw [ByteArray.toList_eq]; exact h
          have y1 : (kw 5 == s.toList) = true := by rw [y2]; exact beq_self_eq_true _
          clear y2 h
          go_wp2
          go_ret
          exact ⟨by rw [HV.out]; rfl, rfl⟩
        · have y2 : ¬ kw 5 = s.toList := by rw [ByteArray.toList_eq]; exact h
          have y1 : (kw 5 == s.toList) = false := by simpa using y2
          have HN2 : Hid (∀ j, j < 6 → kw j ≠ bl s) := fun j hj => by
            by_cases e : j = 5
            · rw [e]; exact h
            · exact HN.out j (by omega)
          go_wp2
          go_roundw
          case rel => exact ⟨6, by decide, by first | trivial | rfl, by first | trivial | rfl, HN2.out⟩
          case measure => simp [intOf]
      | 6, _ =>
        have ix : ∀ W, (Instr.index 163 (.agg #[.string ⟨(kw 0).toArray⟩, .string ⟨(kw 1).toArray⟩, .string ⟨(kw 2).toArray⟩, .string ⟨(kw 3).toArray⟩, .string ⟨(kw 4).toArray⟩, .string ⟨(kw 5).toArray⟩, .string ⟨(kw 6).toArray⟩, .string ⟨(kw 7).toArray⟩, .string ⟨(kw 8).toArray⟩, .string ⟨(kw 9).toArray⟩]) (.int .i64 6)).run Tryz.prog W = .ok (.string ⟨(kw 6).toArray⟩) W := fun _ => by kernel_rfl
        by_cases h : kw 6 = bl s
        · have HV : Hid (kindV (bl s) = 6) := by show _ = _; rw [← h]; decide
          have y2 : kw 6 = s.toList := by rw [ByteArray.toList_eq]; exact h
          have y1 : (kw 6 == s.toList) = true := by rw [y2]; exact beq_self_eq_true _
          clear y2 h
          go_wp2
          go_ret
          exact ⟨by rw [HV.out]; rfl, rfl⟩
        · have y2 : ¬ kw 6 = s.toList := by rw [ByteArray.toList_eq]; exact h
          have y1 : (kw 6 == s.toList) = false := by simpa using y2
          have HN2 : Hid (∀ j, j < 7 → kw j ≠ bl s) := fun j hj => by
            by_cases e : j = 6
            · rw [e]; exact h
            · exact HN.out j (by omega)
          go_wp2
          go_roundw
          case rel => exact ⟨7, by decide, by first | trivial | rfl, by first | trivial | rfl, HN2.out⟩
          case measure => simp [intOf]
      | 7, _ =>
        have ix : ∀ W, (Instr.index 163 (.agg #[.string ⟨(kw 0).toArray⟩, .string ⟨(kw 1).toArray⟩, .string ⟨(kw 2).toArray⟩, .string ⟨(kw 3).toArray⟩, .string ⟨(kw 4).toArray⟩, .string ⟨(kw 5).toArray⟩, .string ⟨(kw 6).toArray⟩, .string ⟨(kw 7).toArray⟩, .string ⟨(kw 8).toArray⟩, .string ⟨(kw 9).toArray⟩]) (.int .i64 7)).run Tryz.prog W = .ok (.string ⟨(kw 7).toArray⟩) W := fun _ => by kernel_rfl
        by_cases h : kw 7 = bl s
        · have HV : Hid (kindV (bl s) = 7) := by show _ = _; rw [← h]; decide
          have y2 : kw 7 = s.toList := by rw [ByteArray.toList_eq]; exact h
          have y1 : (kw 7 == s.toList) = true := by rw [y2]; exact beq_self_eq_true _
          clear y2 h
          go_wp2
          go_ret
          exact ⟨by rw [HV.out]; rfl, rfl⟩
        · have y2 : ¬ kw 7 = s.toList := by rw [ByteArray.toList_eq]; exact h
          have y1 : (kw 7 == s.toList) = false := by simpa using y2
          have HN2 : Hid (∀ j, j < 8 → kw j ≠ bl s) := fun j hj => by
            by_cases e : j = 7
            · rw [e]; exact h
            · exact HN.out j (by omega)
          go_wp2
          go_roundw
          case rel => exact ⟨8, by decide, by first | trivial | rfl, by first | trivial | rfl, HN2.out⟩
          case measure => simp [intOf]
      | 8, _ =>
        have ix : ∀ W, (Instr.index 163 (.agg #[.string ⟨(kw 0).toArray⟩, .string ⟨(kw 1).toArray⟩, .string ⟨(kw 2).toArray⟩, .string ⟨(kw 3).toArray⟩, .string ⟨(kw 4).toArray⟩, .string ⟨(kw 5).toArray⟩, .string ⟨(kw 6).toArray⟩, .string ⟨(kw 7).toArray⟩, .string ⟨(kw 8).toArray⟩, .string ⟨(kw 9).toArray⟩]) (.int .i64 8)).run Tryz.prog W = .ok (.string ⟨(kw 8).toArray⟩) W := fun _ => by kernel_rfl
        by_cases h : kw 8 = bl s
        · have HV : Hid (kindV (bl s) = 8) := by show _ = _; rw [← h]; decide
          have y2 : kw 8 = s.toList := by rw [ByteArray.toList_eq]; exact h
          have y1 : (kw 8 == s.toList) = true := by rw [y2]; exact beq_self_eq_true _
          clear y2 h
          go_wp2
          go_ret
          exact ⟨by rw [HV.out]; rfl, rfl⟩
        · have y2 : ¬ kw 8 = s.toList := by rw [ByteArray.toList_eq]; exact h
          have y1 : (kw 8 == s.toList) = false := by simpa using y2
          have HN2 : Hid (∀ j, j < 9 → kw j ≠ bl s) := fun j hj => by
            by_cases e : j = 8
            · rw [e]; exact h
            · exact HN.out j (by omega)
          go_wp2
          go_roundw
          case rel => exact ⟨9, by decide, by first | trivial | rfl, by first | trivial | rfl, HN2.out⟩
          case measure => simp [intOf]
      | 9, _ =>
        have ix : ∀ W, (Instr.index 163 (.agg #[.string ⟨(kw 0).toArray⟩, .string ⟨(kw 1).toArray⟩, .string ⟨(kw 2).toArray⟩, .string ⟨(kw 3).toArray⟩, .string ⟨(kw 4).toArray⟩, .string ⟨(kw 5).toArray⟩, .string ⟨(kw 6).toArray⟩, .string ⟨(kw 7).toArray⟩, .string ⟨(kw 8).toArray⟩, .string ⟨(kw 9).toArray⟩]) (.int .i64 9)).run Tryz.prog W = .ok (.string ⟨(kw 9).toArray⟩) W := fun _ => by kernel_rfl
        by_cases h : kw 9 = bl s
        · have HV : Hid (kindV (bl s) = 9) := by show _ = _; rw [← h]; decide
          have y2 : kw 9 = s.toList := by rw [ByteArray.toList_eq]; exact h
          have y1 : (kw 9 == s.toList) = true := by rw [y2]; exact beq_self_eq_true _
          clear y2 h
          go_wp2
          go_ret
          exact ⟨by rw [HV.out]; rfl, rfl⟩
        · have y2 : ¬ kw 9 = s.toList := by rw [ByteArray.toList_eq]; exact h
          have y1 : (kw 9 == s.toList) = false := by simpa using y2
          have HN2 : Hid (∀ j, j < 10 → kw j ≠ bl s) := fun j hj => by
            by_cases e : j = 9
            · rw [e]; exact h
            · exact HN.out j (by omega)
          go_wp2
          go_roundw
          case rel => exact ⟨10, by decide, by first | trivial | rfl, by first | trivial | rfl, HN2.out⟩
          case measure => simp [intOf]
    · obtain rfl : k = 10 := by omega
      have HV : Hid (kindV (bl s) = -1) := kindV_none HN.out
      go_wp2
      go_ret
      exact ⟨by rw [HV.out]; rfl, rfl⟩
end Go.Proofs.YtbholbenjalliaaGreatDoor

namespace Go.Proofs.YtbholbenjalliaaGreatDoor
open Go.RowKit Go.Extern.Stop Go.Stop Go.Extern Go.Maps

theorem wordV_cases (look : Bs → Option Nat) (f : Nat) (w : Bs) : (wordV look f w).1 = 0 ∨ (wordV look f w).1 = 1 ∨ (wordV look f w).1 = 5 := by
  unfold wordV
  split
  · exact Or.inr (Or.inl rfl)
  · split
    · exact Or.inl rfl
    · split
      · exact Or.inl rfl
      · exact Or.inr (Or.inl rfl)
    · split
      · exact Or.inl rfl
      · exact Or.inr (Or.inr rfl)
theorem fillV_len {look : Bs → Option Nat} : ∀ (fs : List Nat) (ws : List Bs) (nn : Bool), fs.length ≠ ws.length → (fillV look nn fs ws).1 = 1
  | [], [], _, h => absurd rfl h
  | [], _ :: _, _, _ => by simp [fillV]
  | _ :: _, [], _, _ => by simp [fillV]
  | f :: fs, w :: ws, nn, h => by
    unfold fillV
    split
    · rfl
    · exact fillV_len fs ws _ (by simpa using h)
theorem fillV_step {look : Bs → Option Nat} {fs : List Nat} {ws : List Bs} {k f : Nat} {w : Bs} {nn : Bool} (h1 : fs[k]? = some f) (h2 : ws[k]? = some w) : (fillV look nn (fs.drop k) (ws.drop k)).1 = if (wordV look f w).1 = 1 then 1 else (fillV look (nn || decide ((wordV look f w).1 = 5)) (fs.drop (k + 1)) (ws.drop (k + 1))).1 := by
  obtain ⟨a1, a2⟩ := List.getElem?_eq_some_iff.1 h1
  obtain ⟨b1, b2⟩ := List.getElem?_eq_some_iff.1 h2
  rw [List.drop_eq_getElem_cons a1, List.drop_eq_getElem_cons b1, a2, b2]
  rw [fillV]
  split <;> rfl
theorem fillV_end {look : Bs → Option Nat} {fs : List Nat} {ws : List Bs} {k : Nat} {nn : Bool} (h1 : fs.length = k) (h2 : ws.length = k) : (fillV look nn (fs.drop k) (ws.drop k)).1 = if nn then 5 else 0 := by
  rw [← h1, List.drop_length, h1, ← h2, List.drop_length]
  rfl
theorem frozen_below {w w' : World} {b o : Nat} {v : Value} (hb : Below w.heap.size w w') (hc : w.cell? ⟨b, o, none⟩ = some v) : w'.frozen? ⟨b, o, none⟩ = w.frozen? ⟨b, o, none⟩ := by
  have := hb.block b (block_lt hc)
  unfold World.frozen?
  simp only
  rw [this]
theorem sets_append : ∀ (w : World) (as' bs : List (Nat × Nat)) (us vs : List Value), as'.length = us.length → sets w (as' ++ bs) (us ++ vs) = sets (sets w as' us) bs vs
  | w, [], bs, [], vs, _ => rfl
  | w, a :: as', bs, u :: us, vs, h => by
    simp only [List.cons_append, sets]
    exact sets_append _ as' bs us vs (by simpa using h)
theorem sets_same : ∀ (w : World) (bs : List (Nat × Nat)) (vs : List Value), (∀ (i : Nat) b v, bs[i]? = some b → vs[i]? = some v → w.cell? ⟨b.1, b.2, none⟩ = some v) → sets w bs vs = w
  | w, [], vs, _ => sets_nil _ _
  | w, _ :: _, [], _ => sets_nil' _ _
  | w, b :: bs, v :: vs, h => by
    rw [sets, setCell_same (h 0 b v rfl rfl)]
    exact sets_same w bs vs (fun i b' v' h1 h2 => h (i + 1) b' v' (by simpa using h1) (by simpa using h2))

/-- What a line's words leave. -/
def FillPost (A : Nat → Addr) (pts : List ByteArray) (fs : List Nat) (tg : List (Nat × Nat)) (ws : List ByteArray) (w : World) (v : Ending) (w' : World) : Prop :=
  v = .returned (errV A (fillV (lookL pts) false fs (ws.map bl)).1) ∧ ∃ us : List Value, us.length = tg.length ∧ (∀ (i : Nat) f u, fs[i]? = some f → us[i]? = some u → Typed f u) ∧ ((fillV (lookL pts) false fs (ws.map bl)).1 = 0 → ∀ (i : Nat) f s u, fs[i]? = some f → ws[i]? = some s → us[i]? = some u → u = valOf f s (wordV (lookL pts) f (bl s)).2) ∧ Below w.heap.size (sets w tg us) w'
/-- What fill asks. -/
structure FillIn (w0 : World) (rb : Nat) (pts : List ByteArray) (fs : List Nat) (tg : List (Nat × Nat)) (ws : List ByteArray) (wb wo ib : Nat) (w : World) : Prop where
  bel : Below w0.heap.size w0 w
  len : fs.length = tg.length
  f3 : ∀ f ∈ fs, f < 3
  few : fs.length ≤ 4
  tgt : ∀ (i : Nat) f t, fs[i]? = some f → tg[i]? = some t → (∃ old, w.cell? ⟨t.1, t.2, none⟩ = some old ∧ Typed f old) ∧ w.frozen? ⟨t.1, t.2, none⟩ = false
  lo : ∀ t ∈ tg, w0.heap.size ≤ t.1 ∧ t ≠ (rb, 6) ∧ t.1 ≠ ib ∧ t.1 ≠ wb
  nd : tg.Nodup
  into : ∀ (i : Nat) f t, fs[i]? = some f → tg[i]? = some t → w.cell? ⟨ib, i, none⟩ = some (.iface (tgtTy f) (.pointer (some ⟨t.1, t.2, none⟩)))
  wrd : ∀ (i : Nat) s, ws[i]? = some s → w.cell? ⟨wb, wo + i, none⟩ = some (.string s)
  wsz : ∀ s ∈ ws, s.size ≤ 1000000
  map : 2 ∈ fs → ∃ mb, MapAt w rb mb pts
/-- A round's beginning: what is in memory then. -/
structure FillAt (A : Nat → Addr) (rb : Nat) (pts : List ByteArray) (f : Nat) (s : ByteArray) (t : Nat × Nat) (V : World) : Prop where
  senv : Sen6 A V
  tgt : ∃ old, V.cell? ⟨t.1, t.2, none⟩ = some old ∧ Typed f old
  fz : V.frozen? ⟨t.1, t.2, none⟩ = false
  map : f = 2 → ∃ mb, MapAt V rb mb pts
  f3 : f < 3
  ssz : s.size ≤ 1000000
theorem cell_sets {w V : World} {tg : List (Nat × Nat)} {k : Nat} {us : List Value} (hV : Below w.heap.size (sets w (tg.take k) us) V) {b o : Nat} {v : Value} (hc : w.cell? ⟨b, o, none⟩ = some v) (hn : ∀ t ∈ tg.take k, t ≠ (b, o)) : V.cell? ⟨b, o, none⟩ = some v := by
  have h1 := sets_cell w (tg.take k) us b o hn
  exact (hV.cell (p := ⟨b, o, none⟩) (block_lt hc)).trans (h1.trans hc)
theorem take_ne {tg : List (Nat × Nat)} (hd : tg.Nodup) {k : Nat} {t : Nat × Nat} (ht : tg[k]? = some t) : ∀ x ∈ tg.take k, x ≠ t := by
  intro x hx e
  subst e
  obtain ⟨j, hj, e⟩ := List.getElem_of_mem hx
  have hj2 : j < k := by simp at hj; omega
  obtain ⟨k1, k2⟩ := List.getElem?_eq_some_iff.1 ht
  have e2 : tg[j]'(by omega) = tg[k] := by rw [k2, ← e]; simp
  have := (List.getElem_inj hd).1 e2
  omega
theorem FillIn.at' {A : Nat → Addr} {w0 w V : World} {rb : Nat} {pts : List ByteArray} {fs : List Nat} {tg : List (Nat × Nat)} {ws : List ByteArray} {wb wo ib : Nat} (h : FillIn w0 rb pts fs tg ws wb wo ib w) (hs : Sen6 A w0) {k f : Nat} {s : ByteArray} {t : Nat × Nat} {us : List Value} (hV : Below w.heap.size (sets w (tg.take k) us) V) (h1 : fs[k]? = some f) (h2 : tg[k]? = some t) (h3 : ws[k]? = some s) :
    FillAt A rb pts f s t V ∧ V.cell? ⟨wb, wo + k, none⟩ = some (.string s) ∧ V.cell? ⟨ib, k, none⟩ = some (.iface (tgtTy f) (.pointer (some ⟨t.1, t.2, none⟩))) := by
  have hlo : ∀ x ∈ tg.take k, w0.heap.size ≤ x.1 ∧ x ≠ (rb, 6) ∧ x.1 ≠ ib ∧ x.1 ≠ wb := fun x hx => h.lo x (List.mem_of_mem_take hx)
  have hbW : Below w0.heap.size w0 V := h.bel.trans ((sets_below w0.heap.size w (tg.take k) us (fun x hx => (hlo x hx).1)).trans (hV.mono h.bel.size))
  obtain ⟨⟨old, ho, hT⟩, hf⟩ := h.tgt k f t h1 h2
  have ht := cell_sets hV ho (take_ne h.nd h2)
  refine ⟨⟨hs.below hbW, ⟨old, ht, hT⟩, ?_, ?_, h.f3 f (List.mem_of_getElem? h1), h.wsz s (List.mem_of_getElem? h3)⟩, ?_, ?_⟩
  · have e1 := sets_frozen w (tg.take k) us ⟨t.1, t.2, none⟩
    have e2 : (sets w (tg.take k) us).cell? ⟨t.1, t.2, none⟩ = some old := (sets_cell w (tg.take k) us t.1 t.2 (take_ne h.nd h2)).trans ho
    rw [frozen_below (by rw [sets_size]; exact hV) e2, e1]
    exact hf
  · rintro rfl
    obtain ⟨mb, hm⟩ := h.map (List.mem_of_getElem? h1)
    obtain ⟨D, ⟨es, clock, g1, g2⟩, hD⟩ := hm.own
    refine ⟨mb, cell_sets hV hm.c6 (fun x hx => (hlo x hx).2.1), D, ⟨es, clock, ?_, g2⟩, hD⟩
    have hmb : mb < w.heap.size := lt_of_row g1
    rw [hV.block mb hmb, sets_heap w (tg.take k) us mb, g1]
    intro x hx e
    obtain ⟨j, hj, e2⟩ := List.getElem_of_mem hx
    have hj2 : tg[j]? = some x := by
      have : j < tg.length := by simp at hj; omega
      rw [List.getElem?_eq_getElem this, ← e2]
      simp
    have hjf : j < fs.length := by rw [h.len]; exact (List.getElem?_eq_some_iff.1 hj2).1
    obtain ⟨⟨o2, ho2, -⟩, -⟩ := h.tgt j fs[j] x (List.getElem?_eq_getElem hjf) hj2
    unfold World.cell? at ho2
    simp only [e, g1] at ho2
    cases ho2
  · exact cell_sets hV (h.wrd k s h3) (fun x hx e => (hlo x hx).2.2.2 (by rw [e]))
  · exact cell_sets hV (h.into k f t h1 h2) (fun x hx e => (hlo x hx).2.2.1 (by rw [e]))
/-- One word, whatever it waits for. -/
theorem rword_at {A : Nat → Addr} {rb : Nat} {pts : List ByteArray} {f : Nat} {s : ByteArray} {t : Nat × Nat} {V : World} (h : FillAt A rb pts f s t V) :
    Calls Tryz.prog 140 #[.pointer (some ⟨rb, 0, none⟩), .string s, .iface (tgtTy f) (.pointer (some ⟨t.1, t.2, none⟩))] V (WordPost A pts f s t.1 t.2 V) := by
  obtain ⟨old, ht, hT⟩ := h.tgt
  by_cases h0 : s.size = 0
  · have := ba_nil h0
    subst this
    exact rword_nil A pts rb f _ t.1 t.2 old V h.senv ht hT
  · have h1 : 1 ≤ s.size := by omega
    match f, h.f3, hT, h with
    | 0, _, _, h => exact rword_str A pts rb s t.1 t.2 old V h1 h.ssz ht h.fz
    | 1, _, hT, h => exact rword_num A pts rb s t.1 t.2 old V h.senv h1 h.ssz ht hT h.fz
    | 2, _, hT, h =>
      obtain ⟨mb, hm⟩ := h.map rfl
      exact rword_place A pts rb mb s t.1 t.2 old V h.senv h1 h.ssz hm ht hT h.fz
end Go.Proofs.YtbholbenjalliaaGreatDoor

namespace Go.Proofs.YtbholbenjalliaaGreatDoor
open Go.RowKit Go.Extern.Stop Go.Stop Go.Extern Go.Maps

/-- What holds at the beginning of round k. -/
structure FillRel (A : Nat → Addr) (pts : List ByteArray) (fs : List Nat) (tg : List (Nat × Nat)) (ws : List ByteArray) (w : World) (k : Nat) (nn : Bool) (V : World) : Prop where
  us : ∃ us : List Value, us.length = k ∧ (∀ (i : Nat) f u, fs[i]? = some f → us[i]? = some u → Typed f u) ∧ (nn = false → ∀ (i : Nat) f s u, fs[i]? = some f → ws[i]? = some s → us[i]? = some u → u = valOf f s (wordV (lookL pts) f (bl s)).2) ∧ Below w.heap.size (sets w (tg.take k) us) V
  code : (fillV (lookL pts) false fs (ws.map bl)).1 = (fillV (lookL pts) nn (fs.drop k) ((ws.map bl).drop k)).1
theorem fill_start {A : Nat → Addr} {pts : List ByteArray} {fs : List Nat} {tg : List (Nat × Nat)} {ws : List ByteArray} {w : World} : FillRel A pts fs tg ws w 0 false w :=
  ⟨⟨[], rfl, fun i f u _ h => by simp at h, fun _ i f s u _ _ h => by simp at h, Below.refl _ _⟩, rfl⟩
/-- One more word that is well, or whose point is none. -/
theorem fill_next {A : Nat → Addr} {w V V' : World} {pts : List ByteArray} {fs : List Nat} {tg : List (Nat × Nat)} {ws : List ByteArray} {k f : Nat} {nn : Bool} {s : ByteArray} {t : Nat × Nat} {u : Value} (h : FillRel A pts fs tg ws w k nn V) (h1 : fs[k]? = some f) (h2 : tg[k]? = some t) (h3 : ws[k]? = some s)
    (hT : Typed f u) (hv : (wordV (lookL pts) f (bl s)).1 = 0 → u = valOf f s (wordV (lookL pts) f (bl s)).2) (hb : Below V.heap.size (V.setCell ⟨t.1, t.2, none⟩ u) V') (hc : (wordV (lookL pts) f (bl s)).1 ≠ 1) : FillRel A pts fs tg ws w (k + 1) (nn || decide ((wordV (lookL pts) f (bl s)).1 = 5)) V' := by
  obtain ⟨us, e0, e1, e2, e3⟩ := h.us
  have hk : k < tg.length := (List.getElem?_eq_some_iff.1 h2).1
  refine ⟨⟨us ++ [u], by simp [e0], fun i g x hg hx => ?_, fun hn i g y x hg hy hx => ?_, ?_⟩, ?_⟩
  · by_cases hi : i < us.length
    · rw [List.getElem?_append_left hi] at hx
      exact e1 i g x hg hx
    · rw [List.getElem?_append_right (by omega)] at hx
      have : i = us.length := by
        have := (List.getElem?_eq_some_iff.1 hx).1
        simp at this
        omega
      subst this
      simp at hx
      subst hx
      rw [e0, h1] at hg
      cases hg
      exact hT
  · rw [Bool.or_eq_false_iff, decide_eq_false_iff_not] at hn
    by_cases hi : i < us.length
    · rw [List.getElem?_append_left hi] at hx
      exact e2 hn.1 i g y x hg hy hx
    · rw [List.getElem?_append_right (by omega)] at hx
      have : i = us.length := by
        have := (List.getElem?_eq_some_iff.1 hx).1
        simp at this
        omega
      subst this
      simp at hx
      subst hx
      rw [e0, h1] at hg
      cases hg
      rw [e0, h3] at hy
      cases hy
      refine hv ?_
      rcases wordV_cases (lookL pts) f (bl s) with h | h | h
      · exact h
      · exact absurd h hc
      · exact absurd h hn.2
  · have ht : tg.take (k + 1) = tg.take k ++ [t] := by rw [List.take_add_one, h2]; rfl
    rw [ht, sets_snoc _ _ _ _ _ (by rw [List.length_take, e0]; omega)]
    have := Below.setBoth e3 ⟨t.1, t.2, none⟩ u
    refine this.trans (hb.mono ?_)
    have := e3.size
    rw [sets_size] at this
    exact this
  · rw [h.code, fillV_step h1 (by rw [List.getElem?_map, h3]; rfl), if_neg hc]
theorem fill_ret {A : Nat → Addr} {w0 w V V' : World} {rb : Nat} {pts : List ByteArray} {fs : List Nat} {tg : List (Nat × Nat)} {ws : List ByteArray} {wb wo ib k f : Nat} {nn : Bool} {s : ByteArray} {t : Nat × Nat} {u : Value} (hF : FillIn w0 rb pts fs tg ws wb wo ib w) (h : FillRel A pts fs tg ws w k nn V) (h1 : fs[k]? = some f) (h2 : tg[k]? = some t) (h3 : ws[k]? = some s)
    (hT : Typed f u) (hb : Below V.heap.size (V.setCell ⟨t.1, t.2, none⟩ u) V') (hc : (wordV (lookL pts) f (bl s)).1 = 1) : FillPost A pts fs tg ws w (.returned (errV A 1)) V' := by
  have hcode : (fillV (lookL pts) false fs (ws.map bl)).1 = 1 := by rw [h.code, fillV_step h1 (by rw [List.getElem?_map, h3]; rfl), if_pos hc]
  obtain ⟨us, e0, e1, e2, e3⟩ := h.us
  have hk : k < tg.length := (List.getElem?_eq_some_iff.1 h2).1
  -- what waits behind this word keeps what it had
  have hold : ∀ i, ∃ o : Value, ∀ g x, fs[k + 1 + i]? = some g → tg[k + 1 + i]? = some x → w.cell? ⟨x.1, x.2, none⟩ = some o ∧ Typed g o := fun i => by
    by_cases hi : k + 1 + i < tg.length
    · have hi2 : k + 1 + i < fs.length := by rw [hF.len]; exact hi
      obtain ⟨⟨o, a1, a2⟩, -⟩ := hF.tgt (k + 1 + i) _ _ (List.getElem?_eq_getElem hi2) (List.getElem?_eq_getElem hi)
      refine ⟨o, fun g x hg hx => ?_⟩
      rw [List.getElem?_eq_getElem hi2] at hg
      rw [List.getElem?_eq_getElem hi] at hx
      cases hg
      cases hx
      exact ⟨a1, a2⟩
    · refine ⟨undef, fun g x _ hx => ?_⟩
      rw [List.getElem?_eq_none (by omega)] at hx
      cases hx
  obtain ⟨ov, hov⟩ := Classical.axiomOfChoice hold
  obtain ⟨vs, hvs⟩ : ∃ vs : List Value, vs = (List.range (tg.length - (k + 1))).map ov := ⟨_, rfl⟩
  have hvl : vs.length = tg.length - (k + 1) := by rw [hvs]; simp
  have hvi : ∀ i x, vs[i]? = some x → x = ov i ∧ i < tg.length - (k + 1) := fun i x hx => by
    have hi := (List.getElem?_eq_some_iff.1 hx).1
    rw [hvl] at hi
    rw [hvs, List.getElem?_map, List.getElem?_range hi] at hx
    simp at hx
    exact ⟨hx.symm, hi⟩
  refine ⟨by rw [hcode], us ++ ([u] ++ vs), ?_, fun i g x hg hx => ?_, (fun hz => by rw [hcode] at hz; cases hz), ?_⟩
  · simp [e0, hvl]; omega
  · by_cases hi : i < us.length
    · rw [List.getElem?_append_left hi] at hx
      exact e1 i g x hg hx
    · rw [List.getElem?_append_right (by omega), e0] at hx
      by_cases hi2 : i = k
      · subst hi2
        simp at hx
        subst hx
        rw [h1] at hg
        cases hg
        exact hT
      · rw [List.getElem?_append_right (by simp; omega)] at hx
        obtain ⟨rfl, q⟩ := hvi _ _ hx
        have hii : k + 1 + (i - k - 1) = i := by omega
        have hit : i < tg.length := by simp at q; omega
        exact (hov (i - k - 1) g _ (by rw [hii]; exact hg) (by rw [hii]; exact List.getElem?_eq_getElem hit)).2
  · have ht : tg = (tg.take k ++ [t]) ++ tg.drop (k + 1) := by
      have : tg.take (k + 1) = tg.take k ++ [t] := by rw [List.take_add_one, h2]; rfl
      rw [← this, List.take_append_drop]
    have hl : (tg.take k).length = us.length := by rw [List.length_take, e0]; omega
    have hse : sets w tg (us ++ ([u] ++ vs)) = (sets w (tg.take k) us).setCell ⟨t.1, t.2, none⟩ u := by
      conv => lhs; rw [ht]
      rw [← List.append_assoc us [u] vs, sets_append _ _ _ _ _ (by simp [hl]), sets_snoc _ _ _ _ _ hl]
      refine sets_same _ _ _ (fun i b v hb' hv' => ?_)
      obtain ⟨rfl, q⟩ := hvi _ _ hv'
      rw [List.getElem?_drop] at hb'
      have hif : k + 1 + i < fs.length := by rw [hF.len]; omega
      obtain ⟨a1, -⟩ := hov i _ _ (List.getElem?_eq_getElem hif) hb'
      have hne := take_ne hF.nd hb'
      have hnt : t ≠ b := hne t (by
        have : tg.take (k + 1 + i) = tg.take (k + 1) ++ (tg.drop (k + 1)).take i := by rw [List.take_add]
        rw [this, List.take_add_one, h2]
        simp)
      rw [cell_setOther (by
        by_cases e : t.1 = b.1
        · exact Or.inr (fun e2 => hnt (Prod.ext e e2))
        · exact Or.inl e) rfl rfl, sets_cell _ _ _ _ _ (fun x hx => hne x (by
          have : tg.take (k + 1 + i) = tg.take k ++ (tg.drop k).take (1 + i) := by rw [Nat.add_assoc, List.take_add]
          rw [this]
          exact List.mem_append_left _ hx))]
      exact a1
    rw [hse]
    have := Below.setBoth e3 ⟨t.1, t.2, none⟩ u
    refine this.trans (hb.mono ?_)
    have := e3.size
    rw [sets_size] at this
    exact this
theorem fill_done {A : Nat → Addr} {w0 w V : World} {rb : Nat} {pts : List ByteArray} {fs : List Nat} {tg : List (Nat × Nat)} {ws : List ByteArray} {wb wo ib k : Nat} {nn : Bool} (hF : FillIn w0 rb pts fs tg ws wb wo ib w) (h : FillRel A pts fs tg ws w k nn V) (h1 : fs.length = k) (h2 : ws.length = k) : FillPost A pts fs tg ws w (.returned (errV A (if nn then 5 else 0))) V := by
  obtain ⟨us, e0, e1, e2, e3⟩ := h.us
  have hc := h.code
  rw [fillV_end h1 (by rw [List.length_map]; exact h2)] at hc
  have hk : tg.take k = tg := List.take_of_length_le (by rw [← hF.len]; omega)
  rw [hk] at e3
  refine ⟨by rw [hc], us, by rw [e0, ← hF.len]; omega, e1, fun hz => ?_, e3⟩
  cases nn
  · exact e2 rfl
  · rw [hc] at hz; cases hz
/-- The loop's relation. -/
structure FillLoop (A : Nat → Addr) (pts : List ByteArray) (fs : List Nat) (tg : List (Nat × Nat)) (ws : List ByteArray) (w : World) (m i : Value) (wr : World) : Prop where
  ex : ∃ (k : Nat) (nn : Bool), k ≤ ws.length ∧ i = .int .i64 k ∧ m = errV A (if nn then 5 else 0) ∧ FillRel A pts fs tg ws w k nn wr
set_option maxHeartbeats 4000000 in
set_option maxRecDepth 100000 in
theorem fillR_at (A : Nat → Addr) (w0 w : World) (rb : Nat) (pts : List ByteArray) (fs : List Nat) (tg : List (Nat × Nat)) (ws : List ByteArray) (sa : Option Addr) (wb wo wc ib : Nat) (hs : Sen6 A w0) (hF : FillIn w0 rb pts fs tg ws wb wo ib w) (hsa : ws ≠ [] → sa = some ⟨wb, wo, none⟩) (hn : ws.length ≤ 1000000) :
    Calls Tryz.prog 127 #[.pointer (some ⟨rb, 0, none⟩), .slice sa ws.length wc, .slice (some ⟨ib, 0, none⟩) fs.length fs.length] w (FillPost A pts fs tg ws w) := by
  have HF : Hid (FillIn w0 rb pts fs tg ws wb wo ib w) := hF
  have HS : Hid (Sen6 A w0) := hs
  clear hF hs
  by_cases hl : fs.length = ws.length
  · have l2 : ws.length ≤ 4 := by have := HF.out.few; omega
    have HL : Hid (fs.length = ws.length) := hl
    rw [hl]
    clear hl
    go_enter Tryz.func127, Tryz.ntmps127
    go_wp2_with fail
    go_loopw [6, 7, 8, 9, 10, 19] (fun _ m _ _ _ i wr => FillLoop A pts fs tg ws w m i wr) (fun _ _ _ _ _ i _ => ws.length - (intOf i).toNat)
    case atStart => exact ⟨⟨0, false, Nat.zero_le _, rfl, rfl, fill_start⟩⟩
    case round =>
      obtain ⟨k, nn, hk, rfl, hm, hR⟩ := hrel.ex
      have HM : Hid (u7 = errV A (if nn then 5 else 0)) := hm
      clear hm
      have HR : Hid (FillRel A pts fs tg ws w k nn wr) := hR
      clear hR
      by_cases hlt : k < ws.length
      · have k1 : (k : Int) < (ws.length : Int) := by omega
        have k2 : k < 4 := by omega
        have hsa' := hsa (fun e => by rw [e] at hlt; simp at hlt)
        subst hsa'
        obtain ⟨f, hf⟩ : ∃ f, fs[k]? = some f := ⟨_, List.getElem?_eq_getElem (by have := HL.out; omega)⟩
        obtain ⟨t, ht⟩ : ∃ t, tg[k]? = some t := ⟨_, List.getElem?_eq_getElem (by have := HF.out.len; have := HL.out; omega)⟩
        obtain ⟨s, hss⟩ : ∃ s, ws[k]? = some s := ⟨_, List.getElem?_eq_getElem hlt⟩
        have hat : FillAt A rb pts f s t wr ∧ wr.cell? ⟨wb, wo + k, none⟩ = some (.string s) ∧ wr.cell? ⟨ib, k, none⟩ = some (.iface (tgtTy f) (.pointer (some ⟨t.1, t.2, none⟩))) := by
          obtain ⟨us, -, -, -, e3⟩ := HR.out.us
          exact HF.out.at' HS.out e3 hf ht hss
        obtain ⟨hat, c1, c2⟩ := hat
        have HAt : Hid (FillAt A rb pts f s t wr) := hat
        have HK : Hid (fs[k]? = some f ∧ tg[k]? = some t ∧ ws[k]? = some s) := ⟨hf, ht, hss⟩
        clear hat hf ht hss hsa
        go_wp2_with fail
        refine (rword_at HAt.out).mono ?_
        rintro v V1 ⟨rfl, u, hT, hv, hb⟩
        have HU : Hid (Typed f u ∧ ((wordV (lookL pts) f (bl s)).1 = 0 → u = valOf f s (wordV (lookL pts) f (bl s)).2) ∧ Below wr.heap.size (wr.setCell ⟨t.1, t.2, none⟩ u) V1) := ⟨hT, hv, hb⟩
        have HE : Hid (Sen6 A V1) := by
          have h1 := (HF.out.lo t (List.mem_of_getElem? HK.out.2.1)).1
          obtain ⟨us, -, -, -, e3⟩ := HR.out.us
          have hw : Below w0.heap.size w0 wr := HF.out.bel.trans ((sets_below w0.heap.size w (tg.take k) us (fun x hx => (HF.out.lo x (List.mem_of_mem_take hx)).1)).trans (e3.mono HF.out.bel.size))
          exact HS.out.below (hw.trans (((Below.refl _ wr).setCell (p := ⟨t.1, t.2, none⟩) h1 u).trans (hb.mono hw.size)))
        clear hT hv hb c1 c2 HAt
        have d0 := HE.out.c0
        have d4 := HE.out.c4
        obtain ⟨ie, hie, hcmp⟩ := Option.map_eq_some_iff.1 Tryz.isComp
        obtain ⟨je, hje, hjs⟩ := Option.map_eq_some_iff.1 Tryz.isSize
        rcases wordV_cases (lookL pts) f (bl s) with hc | hc | hc
        · have e1 : errV A (wordV (lookL pts) f (bl s)).1 = .nilIface := by rw [hc]; rfl
          rw [e1]
          have n0 := run_eql_iface_nil_left (P := Tryz.prog) (w := V1) 227 (.pointer (some (A 0))) Tryz.underlying31
          have n4 := run_eql_iface_nil_left (P := Tryz.prog) (w := V1) 227 (.pointer (some (A 4))) Tryz.underlying31
          have HN : Hid (FillRel A pts fs tg ws w (k + 1) nn V1) := by
            have := fill_next HR.out HK.out.1 HK.out.2.1 HK.out.2.2 HU.out.1 HU.out.2.1 HU.out.2.2 (by rw [hc]; decide)
            rw [hc] at this
            show FillRel _ _ _ _ _ _ _ _ _
            simpa using this
          clear e1 hc
          go_wp2
          go_roundw
          case rel =>
            exact ⟨⟨k + 1, nn, by omega, by go_num, HM.out, HN.out⟩⟩
          case measure => simp [intOf]; omega
        · have e1 : errV A (wordV (lookL pts) f (bl s)).1 = .iface 227 (.pointer (some (A 0))) := by rw [hc]; rfl
          rw [e1]
          have n0 := run_eql_iface_ptr_same (P := Tryz.prog) (w := V1) (A 0) Tryz.underlying31 Tryz.underlying227 hie hcmp hje
          have HP : Hid (FillPost A pts fs tg ws w (.returned (errV A 1)) V1) := fill_ret HF.out HR.out HK.out.1 HK.out.2.1 HK.out.2.2 HU.out.1 HU.out.2.2 hc
          clear e1 hc
          go_wp2
          go_ret
          exact HP.out
        · have e1 : errV A (wordV (lookL pts) f (bl s)).1 = .iface 227 (.pointer (some (A 4))) := by rw [hc]; rfl
          rw [e1]
          obtain ⟨ca, ta, ha⟩ := HE.out.row 4 (by decide)
          obtain ⟨cb, tb, hb⟩ := HE.out.row 0 (by decide)
          have n0 := run_eql_iface_ptr_other (P := Tryz.prog) V1 Tryz.underlying31 Tryz.underlying227 hie hcmp hje (by rw [hjs]; decide) (HE.out.ne 4 0 (by decide) (by decide) (by decide)) ha hb
          have n4 := run_eql_iface_ptr_same (P := Tryz.prog) (w := V1) (A 4) Tryz.underlying31 Tryz.underlying227 hie hcmp hje
          have HN : Hid (FillRel A pts fs tg ws w (k + 1) true V1) := by
            have := fill_next HR.out HK.out.1 HK.out.2.1 HK.out.2.2 HU.out.1 HU.out.2.1 HU.out.2.2 (by rw [hc]; decide)
            rw [hc] at this
            show FillRel _ _ _ _ _ _ _ _ _
            simpa using this
          clear e1 hc ha hb
          go_wp2
          go_roundw
          case rel =>
            exact ⟨⟨k + 1, true, by omega, by go_num, rfl, HN.out⟩⟩
          case measure => simp [intOf]; omega
      · have k1 : ¬ (k : Int) < (ws.length : Int) := by omega
        obtain rfl : k = ws.length := by omega
        have HP : Hid (FillPost A pts fs tg ws w (.returned u7) wr) := by
          show FillPost _ _ _ _ _ _ _ _
          rw [HM.out]
          exact fill_done HF.out HR.out HL.out rfl
        go_wp2
        go_ret
        exact HP.out
  · have l1 : ¬ (ws.length : Int) = (fs.length : Int) := by omega
    have c0 := (HS.out.below HF.out.bel).c0
    have HP : Hid (FillPost A pts fs tg ws w (.returned (errV A 1)) w) := by
      have hcode : (fillV (lookL pts) false fs (ws.map bl)).1 = 1 := fillV_len _ _ _ (by rw [List.length_map]; exact hl)
      have hold : ∀ i : Nat, ∃ o : Value, ∀ (g : Nat) (x : Nat × Nat), fs[i]? = some g → tg[i]? = some x → w.cell? ⟨x.1, x.2, none⟩ = some o ∧ Typed g o := fun i => by
        by_cases hi : i < tg.length
        · have hi2 : i < fs.length := by rw [HF.out.len]; exact hi
          obtain ⟨⟨o, a1, a2⟩, -⟩ := HF.out.tgt i _ _ (List.getElem?_eq_getElem hi2) (List.getElem?_eq_getElem hi)
          refine ⟨o, fun g x hg hx => ?_⟩
          rw [List.getElem?_eq_getElem hi2] at hg
          rw [List.getElem?_eq_getElem hi] at hx
          cases hg
          cases hx
          exact ⟨a1, a2⟩
        · refine ⟨undef, fun g x _ hx => ?_⟩
          rw [List.getElem?_eq_none (by omega)] at hx
          cases hx
      obtain ⟨ov, hov⟩ := Classical.axiomOfChoice hold
      have hvi : ∀ (i : Nat) x, ((List.range tg.length).map ov)[i]? = some x → x = ov i ∧ i < tg.length := fun i x hx => by
        have hi := (List.getElem?_eq_some_iff.1 hx).1
        simp at hi
        rw [List.getElem?_map, List.getElem?_range hi] at hx
        simp at hx
        exact ⟨hx.symm, hi⟩
      refine ⟨by rw [hcode], (List.range tg.length).map ov, by simp, fun i g x hg hx => ?_, (fun hz => by rw [hcode] at hz; cases hz), ?_⟩
      · obtain ⟨rfl, q⟩ := hvi _ _ hx
        exact (hov i g _ hg (List.getElem?_eq_getElem q)).2
      · rw [sets_same _ _ _ (fun i b v hb hv => by
          obtain ⟨rfl, q⟩ := hvi _ _ hv
          have hif : i < fs.length := by rw [HF.out.len]; exact q
          exact (hov i _ _ (List.getElem?_eq_getElem hif) hb).1)]
        exact Below.refl _ _
    clear hsa
    go_enter Tryz.func127, Tryz.ntmps127
    go_wp2
    go_ret
    exact HP.out
end Go.Proofs.YtbholbenjalliaaGreatDoor
