/-
  Several texts as one: KlAct, CfArgB, CfArgE, CfMem, CfArg, KlArg, AlSt.
-/
import Derived.Test.YtkphpgdgbnmnjacGreatDoorB01K
import Derived.BigQuiet
import Derived.Deep.QuietTactic
import Derived.Deep.DeepCutAuto
import Derived.WalkSmall
import Derived.Lib.LaidTab
import Derived.ProofKit
import Derived.OpenShut
import Derived.Deep.Slices
import Derived.Carry
namespace Go.Proofs.YtkphpgdgbnmnjacGreatDoor
open Go.RowKit Go.Extern.Stop Go.Stop Go.Extern

structure ActK where
  kind : ByteArray
  e : Int
  p : Int
  n : Int
def encK (a : ActK) : List Value := [.string a.kind, .int .i64 a.e, .int .i64 a.p, .int .i64 a.n]
def ActK.tick (a : ActK) : Bool := a.kind.toList == [116, 105, 99, 107]
/-- How many ticks there are in all. -/
def ticksOf : List ActK → Nat
  | [] => 0
  | a :: t => (if a.tick = true then a.n.toNat else 0) + ticksOf t
theorem ticksOf_append (l t : List ActK) : ticksOf (l ++ t) = ticksOf l + ticksOf t := by
  induction l with
  | nil => simp [ticksOf]
  | cons a l ih => show _ + ticksOf (l ++ t) = _; rw [ih]; show _ = _ + ticksOf l + ticksOf t; omega
theorem ticksOf_take {l : List ActK} {i : Nat} {a : ActK} (h : l[i]? = some a) : ticksOf (l.take (i + 1)) = ticksOf (l.take i) + (if a.tick = true then a.n.toNat else 0) := by
  rw [List.take_add_one, h, ticksOf_append]
  show _ + (_ + 0) = _
  omega
theorem ticksOf_le (l : List ActK) (i : Nat) : ticksOf (l.take i) ≤ ticksOf l := by
  have h := ticksOf_append (l.take i) (l.drop i)
  rw [List.take_append_drop] at h
  omega
theorem act_cells {w : World} {sa : Option Addr} {cap i : Nat} {acts : List ActK} {a : ActK} (h : SlAt encK 4 w (.slice sa acts.length cap) acts) (ha : acts[i]? = some a) : ∃ b o, sa = some ⟨b, o, none⟩ ∧ w.cell? ⟨b, o + i * 4, none⟩ = some (.string a.kind) ∧ w.cell? ⟨b, o + i * 4 + 1, none⟩ = some (.int .i64 a.e) ∧ w.cell? ⟨b, o + i * 4 + 2, none⟩ = some (.int .i64 a.p) ∧ w.cell? ⟨b, o + i * 4 + 3, none⟩ = some (.int .i64 a.n) := by
  obtain ⟨sa', cap', h1, -, h2⟩ := h
  cases h1
  obtain ⟨b, o, rfl, h3⟩ := h2 (fun x => by rw [x] at ha; simp at ha)
  exact ⟨b, o, rfl, h3 i a ha 0 _ rfl, h3 i a ha 1 _ rfl, h3 i a ha 2 _ rfl, h3 i a ha 3 _ rfl⟩
/-- What actsFit's yes tells. -/
structure Fits1 (acts : List ActK) (most : Int) : Prop where
  len : (acts.length : Int) ≤ most
  each : ∀ a ∈ acts, a.n ≤ 10000
  sum : ticksOf acts ≤ 1500
/-- What it answers. -/
def FitOut (acts : List ActK) (most : Int) (w : World) (e : Ending) (w' : World) : Prop := ∃ b, e = .returned (.bool b) ∧ w' = w ∧ (b = true → Fits1 acts most)
set_option maxRecDepth 100000 in
set_option maxHeartbeats 2000000 in
theorem fit_at (acts : List ActK) (sa : Option Addr) (cap : Nat) (most : Int) (w : World) (h : SlAt encK 4 w (.slice sa acts.length cap) acts) (hn : acts.length ≤ 9223372036854775807) :
    Calls Tryz.prog 11 #[.slice sa acts.length cap, .int .i64 most] w fun e w' => FitOut acts most w e w' := by
  have HL : Hid (SlAt encK 4 w (.slice sa acts.length cap) acts) := h
  have HN : Hid (acts.length ≤ 9223372036854775807) := hn
  clear h hn
  go_enter Tryz.func11, Tryz.ntmps11
  go_wp2_with fail
  go_loopw [5, 6] (fun t i wr => wr = w ∧ ∃ k : Nat, k ≤ acts.length ∧ i = .int .i64 k ∧ t = .int .i64 (ticksOf (acts.take k) : Int) ∧ ticksOf (acts.take k) ≤ 1500 ∧ ∀ a ∈ acts.take k, a.n ≤ 10000) (fun _ i _ => acts.length - (intOf i).toNat)
  case atStart => exact ⟨rfl, 0, Nat.zero_le _, rfl, rfl, Nat.zero_le _, fun a ha => by simp at ha⟩
  case round =>
    obtain ⟨rfl, k, hk, rfl, rfl, ht, hall⟩ := hrel
    have HA : Hid (∀ a ∈ acts.take k, a.n ≤ 10000) := hall
    clear hall
    by_cases hlt : k < acts.length
    · have k1 : (k : Int) < (acts.length : Int) := by omega
      have hn := HN.out
      obtain ⟨a, ha⟩ : ∃ a, acts[k]? = some a := ⟨_, List.getElem?_eq_getElem hlt⟩
      obtain ⟨b, o, rfl, c0, c1, c2, c3⟩ := act_cells HL.out ha
      have HS : Hid (ticksOf (acts.take (k + 1)) = ticksOf (acts.take k) + (if a.tick = true then a.n.toNat else 0)) := ticksOf_take ha
      have HA2 : Hid (a.n ≤ 10000 → ∀ x ∈ acts.take (k + 1), x.n ≤ 10000) := fun hle x hx => by
        rw [List.take_add_one, ha] at hx
        rcases List.mem_append.1 hx with hx | hx
        · exact HA.out x hx
        · simp at hx; subst hx; exact hle
      have hkw : IntKind.i64.wrap ((k : Int) + 1) = (k : Int) + 1 := by rw [IntKind.wrap_i64]; omega
      obtain ⟨T, hT⟩ : ∃ T, T = ticksOf (acts.take k) := ⟨_, rfl⟩
      rw [← hT] at ht ⊢
      have HT : Hid (T = ticksOf (acts.take k)) := hT
      clear ha hT c1 c2
      have HTk : Hid (a.tick = (a.kind.toList == [116, 105, 99, 107])) := rfl
      cases p1 : (a.kind.toList == [116, 105, 99, 107])
      · have HS2 : Hid (ticksOf (acts.take (k + 1)) = T) := by show _ = _; rw [HS.out, HTk.out, p1, HT.out]; rfl
        by_cases hq : 10000 < a.n
        · go_wp2
          go_ret
          exact ⟨false, rfl, rfl, fun e => by cases e⟩
        · have g1 : ¬ 1500 < (T : Int) := by omega
          go_wp2_with fail
          go_roundw
          case rel => exact ⟨trivial, k + 1, by omega, by go_num, by rw [HS2.out], by rw [HS2.out]; exact ht, HA2.out (by omega)⟩
          case measure => simp [intOf]; omega
      · by_cases hp : 0 < a.n
        · by_cases hq : 10000 < a.n
          · go_wp2
            go_ret
            exact ⟨false, rfl, rfl, fun e => by cases e⟩
          · have hw : IntKind.i64.wrap ((T : Int) + a.n) = (T : Int) + a.n := by rw [IntKind.wrap_i64]; omega
            have HS2 : Hid ((ticksOf (acts.take (k + 1)) : Int) = (T : Int) + a.n) := by show _ = _; rw [HS.out, HTk.out, p1, ← HT.out, if_pos rfl]; omega
            by_cases g1 : 1500 < (T : Int) + a.n
            · go_wp2
              go_ret
              exact ⟨false, rfl, rfl, fun e => by cases e⟩
            · go_wp2_with fail
              go_roundw
              case rel => exact ⟨trivial, k + 1, by omega, by go_num, by rw [HS2.out], by have := HS2.out; omega, HA2.out (by omega)⟩
              case measure => simp [intOf]; omega
        · have HS2 : Hid (ticksOf (acts.take (k + 1)) = T) := by show _ = _; rw [HS.out, HTk.out, p1, ← HT.out, if_pos rfl]; omega
          have hq : ¬ 10000 < a.n := by omega
          have g1 : ¬ 1500 < (T : Int) := by omega
          go_wp2_with fail
          go_roundw
          case rel => exact ⟨trivial, k + 1, by omega, by go_num, by rw [HS2.out], by rw [HS2.out]; exact ht, HA2.out (by omega)⟩
          case measure => simp [intOf]; omega
    · obtain rfl : k = acts.length := by omega
      have k1 : ¬ (acts.length : Int) < (acts.length : Int) := by omega
      have HF : Hid (ticksOf acts ≤ 1500 ∧ ∀ a ∈ acts, a.n ≤ 10000) := by
        have := HA.out
        rw [List.take_length] at ht this
        exact ⟨ht, this⟩
      generalize ticksOf (acts.take acts.length) = T at ht
      clear ht
      by_cases hm : (acts.length : Int) ≤ most
      · go_wp2
        go_ret
        exact ⟨true, rfl, rfl, fun _ => ⟨hm, HF.out.2, HF.out.1⟩⟩
      · go_wp2
        go_ret
        exact ⟨false, rfl, rfl, fun e => by cases e⟩
end Go.Proofs.YtkphpgdgbnmnjacGreatDoor

namespace Go.Proofs.YtkphpgdgbnmnjacGreatDoor
open Go.ChangeShapes Go.WideShapes Go.ChangeAt Go.RowKit Go.Deep

theorem Tryz.laidOut : laidOutB Tryz.prog = true := by kernel_rfl
theorem spot_none {W : World} {a : Addr} {v : Value} (h : W.cell? a = some v) : a = ⟨a.block, a.off, none⟩ := by
  obtain ⟨b, o, s⟩ := a
  cases s with
  | none => rfl
  | some x =>
    exfalso
    unfold World.cell? at h
    split at h
    · simp at h
    · cases h
theorem add_plain (b o j : Nat) : (⟨b, o, none⟩ : Addr).add j = ⟨b, o + j, none⟩ := by unfold Addr.add; split <;> simp_all
theorem cells_of {W : World} {a : Addr} {k : Nat} {cs : List Value} (h : W.cells? 0 a k = some cs) : cs.length = k ∧ ∀ j u, cs[j]? = some u → W.cell? (a.add j) = some u := by
  unfold World.cells? at h
  rw [if_pos (Nat.zero_le _)] at h
  have hl : cs.length = k := by simpa using Lib.mapM_length h
  refine ⟨hl, fun j u hu => ?_⟩
  have hj : j < k := by have := (List.getElem?_eq_some_iff.1 hu).1; omega
  obtain ⟨b, h1, h2⟩ := Lib.mapM_at h j j (by simp [hj])
  rw [hu] at h1
  cases h1
  exact h2
theorem choose_any {α : Type} (d : α) {n : Nat} {p : Nat → α → Prop} (h : ∀ i, i < n → ∃ x, p i x) : ∃ f : Nat → α, ∀ i, i < n → p i (f i) := by
  classical
  refine ⟨fun i => if hi : i < n then Classical.choose (h i hi) else d, fun i hi => ?_⟩
  simp only [dif_pos hi]
  exact Classical.choose_spec (h i hi)
/-- A slice, read: its elements lie in memory, each as it is read. -/
theorem sl_gen {α : Type} (d : α) {Q : List Value → α → Prop} {H : Type} {enc : TypeId × Value → H} {W : World} {T Ts : TypeId} {k fuel : Nat} {cs : List Value} {x : DataW H × List MemPlace} (hs : Tryz.prog.underlying Ts = some (.slice T)) (hk : Tryz.prog.cellsOf T = k) (hk0 : 0 < k)
    (hel : ∀ n cs x, DataW.trod enc Tryz.prog W 0 (fun _ => true) true n T cs = some x → ∃ a, Q cs a) (h : DataW.trod enc Tryz.prog W 0 (fun _ => true) true fuel Ts cs = some x) :
    ∃ (sa : Option Addr) (cap : Nat) (xs : List α), cs = [.slice sa xs.length cap] ∧ xs.length ≤ cap ∧ (xs ≠ [] → ∃ b o, sa = some ⟨b, o, none⟩ ∧ ∀ i a, xs[i]? = some a → ∃ cs', Q cs' a ∧ ∀ j u, cs'[j]? = some u → W.cell? ⟨b, o + i * k + j, none⟩ = some u) := by
  rcases open_slice hs h with ⟨hcs, -⟩ | ⟨a, len, cap, m, n, D, Pl, hcs, -, hlc, hcm, hm, -, hall⟩
  · exact ⟨none, 0, [], by simpa using hcs, Nat.le_refl _, fun e => absurd rfl e⟩
  · simp only [if_true] at hm
    subst hm
    rw [hk] at hall
    obtain ⟨f, hf⟩ := choose_any d (n := len) (p := fun i y => ∃ cs', Q cs' y ∧ W.cells? 0 (a.add (i * k)) k = some cs') (fun i hi => by
      obtain ⟨cs', h1, h2⟩ := hall i (by omega)
      obtain ⟨y, hy⟩ := hel _ _ _ h2
      exact ⟨y, cs', hy, h1⟩)
    have hxl : ((List.range len).map f).length = len := by simp
    refine ⟨some a, m, (List.range len).map f, by rw [hxl]; exact hcs, by rw [hxl]; exact hlc, fun hne => ?_⟩
    have hpos : 0 < len := by
      rcases Nat.eq_zero_or_pos len with h0 | h0
      · subst h0; exact absurd rfl hne
      · exact h0
    have ha : a = ⟨a.block, a.off, none⟩ := by
      obtain ⟨cs', -, h1⟩ := hf 0 hpos
      obtain ⟨hl, hc⟩ := cells_of h1
      have e : (a.add (0 * k)).add 0 = a := by simp [Addr.add]
      have := hc 0 (cs'[0]'(by omega)) (List.getElem?_eq_getElem _)
      rw [e] at this
      exact spot_none this
    refine ⟨a.block, a.off, congrArg some ha, fun i y hy => ?_⟩
    rw [List.getElem?_map, Option.map_eq_some_iff] at hy
    obtain ⟨i', hi', rfl⟩ := hy
    obtain ⟨hil0, hi2⟩ := List.getElem?_eq_some_iff.1 hi'
    have hil : i < len := by simpa using hil0
    obtain rfl : i = i' := by simpa using hi2
    obtain ⟨cs', h1, h2⟩ := hf i hil
    refine ⟨cs', h1, fun j u hu => ?_⟩
    have := (cells_of h2).2 j u hu
    rw [ha, add_plain, add_plain] at this
    exact this
theorem sl_of_trod {α : Type} (d : α) {ec : α → List Value} {H : Type} {enc : TypeId × Value → H} {W : World} {T Ts : TypeId} {k fuel : Nat} {v : Value} {x : DataW H × List MemPlace} (hs : Tryz.prog.underlying Ts = some (.slice T)) (hk : Tryz.prog.cellsOf T = k) (hk0 : 0 < k)
    (hel : ∀ n cs x, DataW.trod enc Tryz.prog W 0 (fun _ => true) true n T cs = some x → ∃ a, cs = ec a) (h : DataW.trod enc Tryz.prog W 0 (fun _ => true) true fuel Ts [v] = some x) : ∃ xs : List α, SlAt ec k W v xs := by
  obtain ⟨sa, cap, xs, hcs, hl, hx⟩ := sl_gen d (Q := fun cs a => cs = ec a) hs hk hk0 hel h
  simp only [List.cons.injEq, and_true] at hcs
  refine ⟨xs, sa, cap, hcs, hl, fun hne => ?_⟩
  obtain ⟨b, o, h1, h2⟩ := hx hne
  refine ⟨b, o, h1, fun i y hy j u hu => ?_⟩
  obtain ⟨cs', rfl, h3⟩ := h2 i y hy
  exact h3 j u hu
theorem sl_of_trod2 {α : Type} (d : α) {ec : α → List Value} {R : α → Prop} {H : Type} {enc : TypeId × Value → H} {W : World} {T Ts : TypeId} {k fuel : Nat} {v : Value} {x : DataW H × List MemPlace} (hs : Tryz.prog.underlying Ts = some (.slice T)) (hk : Tryz.prog.cellsOf T = k) (hk0 : 0 < k)
    (hel : ∀ n cs x, DataW.trod enc Tryz.prog W 0 (fun _ => true) true n T cs = some x → ∃ a, cs = ec a ∧ R a) (h : DataW.trod enc Tryz.prog W 0 (fun _ => true) true fuel Ts [v] = some x) : ∃ xs : List α, SlAt ec k W v xs ∧ ∀ a ∈ xs, R a := by
  obtain ⟨sa, cap, xs, hcs, hl, hx⟩ := sl_gen d (Q := fun cs a => cs = ec a ∧ R a) hs hk hk0 hel h
  simp only [List.cons.injEq, and_true] at hcs
  refine ⟨xs, ⟨sa, cap, hcs, hl, fun hne => ?_⟩, fun a ha => ?_⟩
  · obtain ⟨b, o, h1, h2⟩ := hx hne
    refine ⟨b, o, h1, fun i y hy j u hu => ?_⟩
    obtain ⟨cs', ⟨rfl, -⟩, h3⟩ := h2 i y hy
    exact h3 j u hu
  · obtain ⟨i, hi⟩ := List.getElem?_of_mem ha
    obtain ⟨b, o, h1, h2⟩ := hx (fun e => by rw [e] at ha; cases ha)
    obtain ⟨cs', ⟨-, hr⟩, -⟩ := h2 i a hi
    exact hr
theorem int_of_trod {H : Type} {enc : TypeId × Value → H} {W : World} (n : Nat) (cs : List Value) (x : DataW H × List MemPlace) (h : DataW.trod enc Tryz.prog W 0 (fun _ => true) true n 3 cs = some x) : ∃ z : Int, cs = encI z := by
  obtain ⟨z, h1, -, -⟩ := DataW.trod_int Tryz.underlying3 h
  exact ⟨z, h1⟩
theorem str_of_trod {H : Type} {enc : TypeId × Value → H} {W : World} (n : Nat) (cs : List Value) (x : DataW H × List MemPlace) (h : DataW.trod enc Tryz.prog W 0 (fun _ => true) true n 9 cs = some x) : ∃ z : ByteArray, cs = encS z := by
  obtain ⟨z, h1, -, -⟩ := DataW.trod_string Tryz.underlying9 h
  exact ⟨z, h1⟩
end Go.Proofs.YtkphpgdgbnmnjacGreatDoor

namespace Go.Proofs.YtkphpgdgbnmnjacGreatDoor
open Go.ChangeShapes Go.WideShapes Go.ChangeAt Go.RowKit Go.Deep

theorem Tryz.cellsEnt : Tryz.prog.cellsOf 38 = 10 := by kernel_rfl
theorem Tryz.cellsGap : Tryz.prog.cellsOf 138 = 4 := by kernel_rfl
theorem Tryz.cellsTwo : Tryz.prog.cellsOf 139 = 2 := by kernel_rfl
theorem Tryz.cellsOne : Tryz.prog.cellsOf 3 = 1 ∧ Tryz.prog.cellsOf 9 = 1 ∧ Tryz.prog.cellsOf 33 = 1 ∧ Tryz.prog.cellsOf 34 = 1 ∧ Tryz.prog.cellsOf 35 = 1 ∧ Tryz.prog.cellsOf 36 = 1 := ⟨by kernel_rfl, by kernel_rfl, by kernel_rfl, by kernel_rfl, by kernel_rfl, by kernel_rfl⟩

set_option maxRecDepth 100000 in
theorem two_of_trod2 {H : Type} {enc : TypeId × Value → H} {W : World} (n : Nat) (cs : List Value) (x : DataW H × List MemPlace) (h : DataW.trod enc Tryz.prog W 0 (fun _ => true) true n 139 cs = some x) : ∃ z : Int × Int, cs = encP z ∧ ((Lit.int .i64 z.1).wf = true ∧ (Lit.int .i64 z.2).wf = true) := by
  obtain ⟨xs, m, -, -, hl, hxs, hf⟩ := DataW.trod_array Tryz.underlying139 h
  rw [Tryz.cellsTwo] at hl
  match cs, hl with
  | [c0, c1], _ =>
    have g : ∀ i, i < 2 → ∃ y, xs[i]? = some y := fun i hi => ⟨xs[i]'(by rw [hxs]; exact hi), List.getElem?_eq_getElem _⟩
    obtain ⟨y0, k0⟩ := g 0 (by decide)
    obtain ⟨y1, k1⟩ := g 1 (by decide)
    have e0 := hf 0 (by decide)
    have e1 := hf 1 (by decide)
    rw [k0] at e0
    rw [k1] at e1
    simp only [Tryz.cellsOne] at e0 e1
    obtain ⟨n0, q0, -, w0⟩ := DataW.trod_int Tryz.underlying3 e0
    obtain ⟨n1, q1, -, w1⟩ := DataW.trod_int Tryz.underlying3 e1
    simp at q0 q1
    subst q0 q1
    exact ⟨(n0, n1), rfl, w0, w1⟩
set_option maxRecDepth 100000 in
theorem gap_of_trod {H : Type} {enc : TypeId × Value → H} {W : World} (n : Nat) (cs : List Value) (x : DataW H × List MemPlace) (h : DataW.trod enc Tryz.prog W 0 (fun _ => true) true n 138 cs = some x) : ∃ z : GapD, cs = encG z := by
  obtain ⟨xs, m, -, -, hl, hxs, hf⟩ := DataW.trod_struct Tryz.underlying138 h
  rw [Tryz.cellsGap] at hl
  match cs, hl with
  | [c0, c1, c2, c3], _ =>
    have g : ∀ i, i < 4 → ∃ y, xs[i]? = some y := fun i hi => ⟨xs[i]'(by rw [hxs]; exact hi), List.getElem?_eq_getElem _⟩
    obtain ⟨y0, k0⟩ := g 0 (by decide)
    obtain ⟨y1, k1⟩ := g 1 (by decide)
    obtain ⟨y2, k2⟩ := g 2 (by decide)
    obtain ⟨y3, k3⟩ := g 3 (by decide)
    have e0 : DataW.trod enc Tryz.prog W 0 (fun _ => true) true m 3 [c0] = some y0 := by have e := hf 0 _ rfl; rw [k0] at e; simpa [Tryz.cellsOne] using e
    have e1 : DataW.trod enc Tryz.prog W 0 (fun _ => true) true m 3 [c1] = some y1 := by have e := hf 1 _ rfl; rw [k1] at e; simpa [Tryz.cellsOne] using e
    have e2 : DataW.trod enc Tryz.prog W 0 (fun _ => true) true m 3 [c2] = some y2 := by have e := hf 2 _ rfl; rw [k2] at e; simpa [Tryz.cellsOne] using e
    have e3 : DataW.trod enc Tryz.prog W 0 (fun _ => true) true m 3 [c3] = some y3 := by have e := hf 3 _ rfl; rw [k3] at e; simpa [Tryz.cellsOne] using e
    obtain ⟨n0, q0, -, -⟩ := DataW.trod_int Tryz.underlying3 e0
    obtain ⟨n1, q1, -, -⟩ := DataW.trod_int Tryz.underlying3 e1
    obtain ⟨n2, q2, -, -⟩ := DataW.trod_int Tryz.underlying3 e2
    obtain ⟨n3, q3, -, -⟩ := DataW.trod_int Tryz.underlying3 e3
    simp at q0 q1 q2 q3
    subst q0 q1 q2 q3
    exact ⟨⟨n0, n1, n2, n3⟩, rfl⟩
set_option maxRecDepth 100000 in
theorem ent_of_trod2 {H : Type} {enc : TypeId × Value → H} {W : World} (n : Nat) (cs : List Value) (x : DataW H × List MemPlace) (h : DataW.trod enc Tryz.prog W 0 (fun _ => true) true n 38 cs = some x) : ∃ e : EntD, ∃ pv gv ev fv lv, cs = (entRow e pv gv ev fv lv).toList ∧ EntParts W e pv gv ev fv lv ∧ ∀ p ∈ e.edges, (Lit.int .i64 p.1).wf = true ∧ (Lit.int .i64 p.2).wf = true := by
  obtain ⟨xs, m, -, -, hl, hxs, hf⟩ := DataW.trod_struct Tryz.underlying38 h
  rw [Tryz.cellsEnt] at hl
  match cs, hl with
  | [c0, c1, c2, c3, c4, c5, c6, c7, c8, c9], _ =>
    have g : ∀ i, i < 10 → ∃ y, xs[i]? = some y := fun i hi => ⟨xs[i]'(by rw [hxs]; exact hi), List.getElem?_eq_getElem _⟩
    obtain ⟨y0, k0⟩ := g 0 (by decide)
    obtain ⟨y1, k1⟩ := g 1 (by decide)
    obtain ⟨y2, k2⟩ := g 2 (by decide)
    obtain ⟨y3, k3⟩ := g 3 (by decide)
    obtain ⟨y4, k4⟩ := g 4 (by decide)
    obtain ⟨y5, k5⟩ := g 5 (by decide)
    obtain ⟨y6, k6⟩ := g 6 (by decide)
    obtain ⟨y7, k7⟩ := g 7 (by decide)
    obtain ⟨y8, k8⟩ := g 8 (by decide)
    obtain ⟨y9, k9⟩ := g 9 (by decide)
    have e0 : DataW.trod enc Tryz.prog W 0 (fun _ => true) true m 9 [c0] = some y0 := by have e := hf 0 _ rfl; rw [k0] at e; simpa [Tryz.cellsOne] using e
    have e1 : DataW.trod enc Tryz.prog W 0 (fun _ => true) true m 3 [c1] = some y1 := by have e := hf 1 _ rfl; rw [k1] at e; simpa [Tryz.cellsOne] using e
    have e2 : DataW.trod enc Tryz.prog W 0 (fun _ => true) true m 33 [c2] = some y2 := by have e := hf 2 _ rfl; rw [k2] at e; simpa [Tryz.cellsOne] using e
    have e3 : DataW.trod enc Tryz.prog W 0 (fun _ => true) true m 3 [c3] = some y3 := by have e := hf 3 _ rfl; rw [k3] at e; simpa [Tryz.cellsOne] using e
    have e4 : DataW.trod enc Tryz.prog W 0 (fun _ => true) true m 3 [c4] = some y4 := by have e := hf 4 _ rfl; rw [k4] at e; simpa [Tryz.cellsOne] using e
    have e5 : DataW.trod enc Tryz.prog W 0 (fun _ => true) true m 3 [c5] = some y5 := by have e := hf 5 _ rfl; rw [k5] at e; simpa [Tryz.cellsOne] using e
    have e6 : DataW.trod enc Tryz.prog W 0 (fun _ => true) true m 34 [c6] = some y6 := by have e := hf 6 _ rfl; rw [k6] at e; simpa [Tryz.cellsOne] using e
    have e7 : DataW.trod enc Tryz.prog W 0 (fun _ => true) true m 35 [c7] = some y7 := by have e := hf 7 _ rfl; rw [k7] at e; simpa [Tryz.cellsOne] using e
    have e8 : DataW.trod enc Tryz.prog W 0 (fun _ => true) true m 36 [c8] = some y8 := by have e := hf 8 _ rfl; rw [k8] at e; simpa [Tryz.cellsOne] using e
    have e9 : DataW.trod enc Tryz.prog W 0 (fun _ => true) true m 36 [c9] = some y9 := by have e := hf 9 _ rfl; rw [k9] at e; simpa [Tryz.cellsOne] using e
    obtain ⟨n0, q0, -, -⟩ := DataW.trod_string Tryz.underlying9 e0
    obtain ⟨n1, q1, -, -⟩ := DataW.trod_int Tryz.underlying3 e1
    obtain ⟨n3, q3, -, -⟩ := DataW.trod_int Tryz.underlying3 e3
    obtain ⟨n4, q4, -, -⟩ := DataW.trod_int Tryz.underlying3 e4
    obtain ⟨n5, q5, -, -⟩ := DataW.trod_int Tryz.underlying3 e5
    obtain ⟨l2, h2⟩ := sl_of_trod ByteArray.empty (ec := encS) Tryz.underlying33 Tryz.cellsOne.2.1 (by decide) str_of_trod e2
    obtain ⟨l6, h6⟩ := sl_of_trod (⟨0, 0, 0, 0⟩ : GapD) (ec := encG) Tryz.underlying34 Tryz.cellsGap (by decide) gap_of_trod e6
    obtain ⟨l7, h7, w7⟩ := sl_of_trod2 ((0, 0) : Int × Int) (ec := encP) (R := fun p => (Lit.int .i64 p.1).wf = true ∧ (Lit.int .i64 p.2).wf = true) Tryz.underlying35 Tryz.cellsTwo (by decide) two_of_trod2 e7
    obtain ⟨l8, h8⟩ := sl_of_trod (0 : Int) (ec := encI) Tryz.underlying36 Tryz.cellsOne.1 (by decide) int_of_trod e8
    obtain ⟨l9, h9⟩ := sl_of_trod (0 : Int) (ec := encI) Tryz.underlying36 Tryz.cellsOne.1 (by decide) int_of_trod e9
    simp at q0 q1 q3 q4 q5
    subst q0 q1 q3 q4 q5
    exact ⟨⟨n0, n1, l2, n3, n4, n5, l6, l7, l8, l9⟩, c2, c6, c7, c8, c9, rfl, ⟨h2, h6, h7, h8, h9⟩, w7⟩
theorem ent_of_trod {H : Type} {enc : TypeId × Value → H} {W : World} (n : Nat) (cs : List Value) (x : DataW H × List MemPlace) (h : DataW.trod enc Tryz.prog W 0 (fun _ => true) true n 38 cs = some x) : ∃ e : EntD, ∃ pv gv ev fv lv, cs = (entRow e pv gv ev fv lv).toList ∧ EntParts W e pv gv ev fv lv := by
  obtain ⟨e, pv, gv, ev, fv, lv, h1, h2, -⟩ := ent_of_trod2 n cs x h
  exact ⟨e, pv, gv, ev, fv, lv, h1, h2⟩
end Go.Proofs.YtkphpgdgbnmnjacGreatDoor

namespace Go.Proofs.YtkphpgdgbnmnjacGreatDoor
open Go.RowKit Go.Extern.Stop Go.Stop Go.Extern

/-- The six sentinels that package conf tells (at A 0 .. A 5), as start-up lays them. -/
structure Sen6 (A : Nat → Addr) (w : World) : Prop where
  c0 : w.cell? ⟨7, 0, none⟩ = some (.iface 292 (.pointer (some (A 0))))
  c1 : w.cell? ⟨1, 0, none⟩ = some (.iface 292 (.pointer (some (A 1))))
  c2 : w.cell? ⟨3, 0, none⟩ = some (.iface 292 (.pointer (some (A 2))))
  c3 : w.cell? ⟨8, 0, none⟩ = some (.iface 292 (.pointer (some (A 3))))
  c4 : w.cell? ⟨5, 0, none⟩ = some (.iface 292 (.pointer (some (A 4))))
  c5 : w.cell? ⟨9, 0, none⟩ = some (.iface 292 (.pointer (some (A 5))))
  row : ∀ i, i < 6 → ∃ c t, w.heap[(A i).block]? = some (.cells c t (0, 0))
  ne : ∀ i j, i < 6 → j < 6 → i ≠ j → A i ≠ A j
theorem Sen6.below {A : Nat → Addr} {w w' : World} (h : Sen6 A w) (hb : Below w.heap.size w w') : Sen6 A w' :=
  ⟨cell_below hb h.c0, cell_below hb h.c1, cell_below hb h.c2, cell_below hb h.c3, cell_below hb h.c4, cell_below hb h.c5, fun i hi => by obtain ⟨c, t, e⟩ := h.row i hi; exact ⟨c, t, row_below hb e⟩, h.ne⟩
theorem Sen6.alloc {A : Nat → Addr} {w : World} (h : Sen6 A w) (o : Obj) : Sen6 A (w.alloc o) := h.below ((Below.refl _ _).alloc (Nat.le_refl _) _)
theorem Senv.six {A : Nat → Addr} {w : World} (h : Senv A w) : Sen6 A w :=
  ⟨h.c0, h.c1, h.c2, h.c3, h.c4, h.c5, fun i hi => h.row i (by omega), fun i j hi hj => h.ne i j (by omega) (by omega)⟩

/-- The five of them that Check tells. -/
structure Sen5 (A : Nat → Addr) (w : World) : Prop where
  c1 : w.cell? ⟨1, 0, none⟩ = some (.iface 292 (.pointer (some (A 1))))
  c2 : w.cell? ⟨3, 0, none⟩ = some (.iface 292 (.pointer (some (A 2))))
  c3 : w.cell? ⟨8, 0, none⟩ = some (.iface 292 (.pointer (some (A 3))))
  c4 : w.cell? ⟨5, 0, none⟩ = some (.iface 292 (.pointer (some (A 4))))
  c5 : w.cell? ⟨9, 0, none⟩ = some (.iface 292 (.pointer (some (A 5))))
theorem Sen5.below {A : Nat → Addr} {w w' : World} (h : Sen5 A w) (hb : Below w.heap.size w w') : Sen5 A w' :=
  ⟨cell_below hb h.c1, cell_below hb h.c2, cell_below hb h.c3, cell_below hb h.c4, cell_below hb h.c5⟩
theorem Sen5.alloc {A : Nat → Addr} {w : World} (h : Sen5 A w) (o : Obj) : Sen5 A (w.alloc o) := h.below ((Below.refl _ _).alloc (Nat.le_refl _) _)
theorem Sen6.five {A : Nat → Addr} {w : World} (h : Sen6 A w) : Sen5 A w := ⟨h.c1, h.c2, h.c3, h.c4, h.c5⟩

/-- A sentinel's value, by its number; nil for 0. -/
def errV (A : Nat → Addr) : Nat → Value
  | 0 => .nilIface
  | j + 1 => .iface 292 (.pointer (some (A j)))
/-- An error as it is told: its number, and its place (-1: none). -/
def ErrAt (A : Nat → Addr) (w : World) (v : Value) (f : Nat × Int) : Prop :=
  f.1 ≤ 11 ∧ ((f.2 = -1 ∧ v = errV A f.1) ∨ (0 < f.1 ∧ ∃ b, v = .iface 157 (.pointer (some ⟨b, 0, none⟩)) ∧ w.cell? ⟨b, 0, none⟩ = some (.int .i64 f.2) ∧ w.cell? ⟨b, 1, none⟩ = some (errV A f.1)))
theorem ErrAt.below {A : Nat → Addr} {w w' : World} {v : Value} {f : Nat × Int} (h : ErrAt A w v f) (hb : Below w.heap.size w w') : ErrAt A w' v f := by
  obtain ⟨h1, h2 | ⟨h2, b, h3, h4, h5⟩⟩ := h
  · exact ⟨h1, Or.inl h2⟩
  · exact ⟨h1, Or.inr ⟨h2, b, h3, cell_below hb h4, cell_below hb h5⟩⟩

theorem within_at (n a b : Int) (w : World) : Calls Tryz.prog 134 #[.int .i64 n, .int .i64 a, .int .i64 b] w fun e w' => e = .returned (.bool (within n a b)) ∧ w' = w := by
  by_cases h1 : a ≤ n
  · by_cases h2 : n ≤ b
    all_goals
      go_enter Tryz.func134, Tryz.ntmps134
      go_wp2
      go_ret
      exact ⟨by simp [within, h1, h2], rfl⟩
  · go_enter Tryz.func134, Tryz.ntmps134
    go_wp2
    go_ret
    exact ⟨by simp [within]; omega, rfl⟩
theorem isLetter_at (b : UInt8) (w : World) : Calls Tryz.prog 169 #[.int .u8 (b.toNat : Int)] w fun e w' => e = .returned (.bool (isLetter b)) ∧ w' = w := by
  have hb : isLetter b = (decide ((97 : Int) ≤ (b.toNat : Int)) && decide ((b.toNat : Int) ≤ 122)) := by
    unfold isLetter
    congr 1 <;> exact decide_eq_decide.2 (by omega)
  rw [hb]
  generalize (b.toNat : Int) = n
  by_cases h1 : 97 ≤ n
  · by_cases h2 : n ≤ 122
    all_goals
      go_enter Tryz.func169, Tryz.ntmps169
      go_wp2
      go_ret
      exact ⟨by simp [h1, h2], rfl⟩
  · go_enter Tryz.func169, Tryz.ntmps169
    go_wp2
    go_ret
    exact ⟨by simp; omega, rfl⟩
theorem isDigit_at (b : UInt8) (w : World) : Calls Tryz.prog 170 #[.int .u8 (b.toNat : Int)] w fun e w' => e = .returned (.bool (isDig b)) ∧ w' = w := by
  have hb : isDig b = (decide ((48 : Int) ≤ (b.toNat : Int)) && decide ((b.toNat : Int) ≤ 57)) := by
    unfold isDig
    congr 1 <;> exact decide_eq_decide.2 (by omega)
  rw [hb]
  generalize (b.toNat : Int) = n
  by_cases h1 : 48 ≤ n
  · by_cases h2 : n ≤ 57
    all_goals
      go_enter Tryz.func170, Tryz.ntmps170
      go_wp2
      go_ret
      exact ⟨by simp [h1, h2], rfl⟩
  · go_enter Tryz.func170, Tryz.ntmps170
    go_wp2
    go_ret
    exact ⟨by simp; omega, rfl⟩
theorem dogNew_ok (c o : Int) (w : World) (h : (within c 0 1000 && within o 1 1000) = true) : Calls Tryz.prog 63 #[.int .i64 c, .int .i64 o] w fun e w' => e = .returned (.tuple #[.pointer (some ⟨w.heap.size, 0, none⟩), .nilIface]) ∧ Below w.heap.size w w' := by
  simp [within] at h
  have g1 : ¬ c < 0 := by omega
  have g2 : ¬ 1000 < c := by omega
  have g3 : ¬ o < 1 := by omega
  have g4 : ¬ 1000 < o := by omega
  clear h
  go_enter Tryz.func63, Tryz.ntmps63
  go_wp2
  go_ret2
  exact ⟨rfl, (Below.refl _ _).alloc (Nat.le_refl _) _⟩
theorem dogNew_bad (A : Nat → Addr) (c o : Int) (w : World) (hs : Sen5 A w) (h : (within c 0 1000 && within o 1 1000) = false) : Calls Tryz.prog 63 #[.int .i64 c, .int .i64 o] w fun e w' => e = .returned (.tuple #[.pointer none, .iface 292 (.pointer (some (A 1)))]) ∧ Below w.heap.size w w' := by
  have hc := hs.c1
  simp [within] at h
  by_cases g1 : c < 0
  · clear h
    go_enter Tryz.func63, Tryz.ntmps63
    go_wp2_with fail
    go_quiet (fail)
    go_wp2
    go_ret2
    exact ⟨rfl, below_drewN (Below.refl _ _) _⟩
  by_cases g2 : 1000 < c
  · clear h
    go_enter Tryz.func63, Tryz.ntmps63
    go_wp2_with fail
    go_quiet (fail)
    go_wp2
    go_ret2
    exact ⟨rfl, below_drewN (Below.refl _ _) _⟩
  by_cases g3 : o < 1
  · clear h
    go_enter Tryz.func63, Tryz.ntmps63
    go_wp2_with fail
    go_quiet (fail)
    go_wp2
    go_ret2
    exact ⟨rfl, below_drewN (Below.refl _ _) _⟩
  · have g4 : 1000 < o := by omega
    clear h
    go_enter Tryz.func63, Tryz.ntmps63
    go_wp2_with fail
    go_quiet (fail)
    go_wp2
    go_ret2
    exact ⟨rfl, below_drewN (Below.refl _ _) _⟩
theorem isWindow_at (A : Nat → Addr) (c o : Int) (w : World) (hs : Sen5 A w) : Calls Tryz.prog 132 #[.int .i64 c, .int .i64 o] w fun e w' => e = .returned (.bool (within c 0 1000 && within o 1 1000)) ∧ Below w.heap.size w w' := by
  cases h : (within c 0 1000 && within o 1 1000) with
  | true =>
    have dn := dogNew_ok c o w h
    go_enter Tryz.func132, Tryz.ntmps132
    go_wp2_with fail
    refine dn.mono ?_
    rintro e w' ⟨rfl, hb⟩
    go_wp2
    go_ret
    exact ⟨rfl, hb⟩
  | false =>
    have dn := dogNew_bad A c o w hs h
    go_enter Tryz.func132, Tryz.ntmps132
    go_wp2_with fail
    refine dn.mono ?_
    rintro e w' ⟨rfl, hb⟩
    go_wp2
    go_ret
    exact ⟨rfl, hb⟩
end Go.Proofs.YtkphpgdgbnmnjacGreatDoor

namespace Go.Proofs.YtkphpgdgbnmnjacGreatDoor
open Go.ChangeShapes Go.WideShapes Go.ChangeAt Go.RowKit Go.Deep

theorem Tryz.cellsCfg : Tryz.prog.cellsOf 24 = 5 := by kernel_rfl
theorem Tryz.cellsEnts : Tryz.prog.cellsOf 22 = 1 := by kernel_rfl
theorem ents_of_trod {H : Type} {enc : TypeId × Value → H} {W : World} {fuel : Nat} {v : Value} {x : DataW H × List MemPlace} (h : DataW.trod enc Tryz.prog W 0 (fun _ => true) true fuel 22 [v] = some x) : ∃ sa sc, ∃ es : List EntD, v = .slice sa es.length sc ∧ EntsAt W (.slice sa es.length sc) es := by
  obtain ⟨sa, cap, xs, hcs, hl, hx⟩ := sl_gen (⟨ByteArray.empty, 0, [], 0, 0, 0, [], [], [], []⟩ : EntD) (Q := fun cs e => ∃ pv gv ev fv lv, cs = (entRow e pv gv ev fv lv).toList ∧ EntParts W e pv gv ev fv lv) Tryz.underlying22 Tryz.cellsEnt (by decide) ent_of_trod h
  simp only [List.cons.injEq, and_true] at hcs
  refine ⟨sa, cap, xs, hcs, sa, cap, rfl, fun hne => ?_⟩
  obtain ⟨b, o, h1, h2⟩ := hx hne
  refine ⟨b, o, h1, fun i y hy => ?_⟩
  obtain ⟨cs', ⟨pv, gv, ev, fv, lv, rfl, h3⟩, h4⟩ := h2 i y hy
  exact ⟨pv, gv, ev, fv, lv, h3, fun j u hu => h4 j u (by rw [Array.getElem?_toList]; exact hu)⟩
set_option maxRecDepth 100000 in
/-- A config, read. -/
theorem cfg_of_trod {H : Type} {enc : TypeId × Value → H} {W : World} {n : Nat} {cs : List Value} {x : DataW H × List MemPlace} (h : DataW.trod enc Tryz.prog W 0 (fun _ => true) true n 24 cs = some x) : ∃ (c : CfgD) (sa : Option Addr) (sc : Nat), cs = [.int .i64 c.closed, .int .i64 c.opn, .int .i64 c.cycle, .int .i64 c.delay, .slice sa c.ents.length sc] ∧ EntsAt W (.slice sa c.ents.length sc) c.ents := by
  obtain ⟨xs, m, -, -, hl, hxs, hf⟩ := DataW.trod_struct Tryz.underlying24 h
  rw [Tryz.cellsCfg] at hl
  match cs, hl with
  | [c0, c1, c2, c3, c4], _ =>
    have g : ∀ i, i < 5 → ∃ y, xs[i]? = some y := fun i hi => ⟨xs[i]'(by rw [hxs]; exact hi), List.getElem?_eq_getElem _⟩
    obtain ⟨y0, k0⟩ := g 0 (by decide)
    obtain ⟨y1, k1⟩ := g 1 (by decide)
    obtain ⟨y2, k2⟩ := g 2 (by decide)
    obtain ⟨y3, k3⟩ := g 3 (by decide)
    obtain ⟨y4, k4⟩ := g 4 (by decide)
    have e0 : DataW.trod enc Tryz.prog W 0 (fun _ => true) true m 3 [c0] = some y0 := by have e := hf 0 _ rfl; rw [k0] at e; simpa [Tryz.cellsOne, Tryz.cellsEnts] using e
    have e1 : DataW.trod enc Tryz.prog W 0 (fun _ => true) true m 3 [c1] = some y1 := by have e := hf 1 _ rfl; rw [k1] at e; simpa [Tryz.cellsOne, Tryz.cellsEnts] using e
    have e2 : DataW.trod enc Tryz.prog W 0 (fun _ => true) true m 3 [c2] = some y2 := by have e := hf 2 _ rfl; rw [k2] at e; simpa [Tryz.cellsOne, Tryz.cellsEnts] using e
    have e3 : DataW.trod enc Tryz.prog W 0 (fun _ => true) true m 3 [c3] = some y3 := by have e := hf 3 _ rfl; rw [k3] at e; simpa [Tryz.cellsOne, Tryz.cellsEnts] using e
    have e4 : DataW.trod enc Tryz.prog W 0 (fun _ => true) true m 22 [c4] = some y4 := by have e := hf 4 _ rfl; rw [k4] at e; simpa [Tryz.cellsOne, Tryz.cellsEnts] using e
    obtain ⟨n0, q0, -, -⟩ := DataW.trod_int Tryz.underlying3 e0
    obtain ⟨n1, q1, -, -⟩ := DataW.trod_int Tryz.underlying3 e1
    obtain ⟨n2, q2, -, -⟩ := DataW.trod_int Tryz.underlying3 e2
    obtain ⟨n3, q3, -, -⟩ := DataW.trod_int Tryz.underlying3 e3
    obtain ⟨sa, sc, es, rfl, h4⟩ := ents_of_trod e4
    simp at q0 q1 q2 q3
    subst q0 q1 q2 q3
    exact ⟨⟨n0, n1, n2, n3, es⟩, sa, sc, rfl, h4⟩
end Go.Proofs.YtkphpgdgbnmnjacGreatDoor

namespace Go.Proofs.YtkphpgdgbnmnjacGreatDoor
open Go.RowKit Go.Extern.Stop Go.Stop Go.Extern

set_option maxRecDepth 100000 in
theorem actk_of_trod {H : Type} {enc : TypeId × Value → H} {W : World} (n : Nat) (cs : List Value) (x : DataW H × List MemPlace) (h : DataW.trod enc Tryz.prog W 0 (fun _ => true) true n 44 cs = some x) : ∃ r : ActK, cs = encK r := by
  obtain ⟨xs, m, -, -, hl, hxs, hf⟩ := DataW.trod_struct Tryz.underlying44 h
  rw [show Tryz.prog.cellsOf 44 = 4 by kernel_rfl] at hl
  match cs, hl with
  | [c0, c1, c2, c3], _ =>
    have g : ∀ i, i < 4 → ∃ y, xs[i]? = some y := fun i hi => ⟨xs[i]'(by rw [hxs]; exact hi), List.getElem?_eq_getElem _⟩
    obtain ⟨y0, k0⟩ := g 0 (by decide)
    obtain ⟨y1, k1⟩ := g 1 (by decide)
    obtain ⟨y2, k2⟩ := g 2 (by decide)
    obtain ⟨y3, k3⟩ := g 3 (by decide)
    have e0 : DataW.trod enc Tryz.prog W 0 (fun _ => true) true m 9 [c0] = some y0 := by have e := hf 0 _ rfl; rw [k0] at e; simpa [Tryz.cellsOne] using e
    have e1 : DataW.trod enc Tryz.prog W 0 (fun _ => true) true m 3 [c1] = some y1 := by have e := hf 1 _ rfl; rw [k1] at e; simpa [Tryz.cellsOne] using e
    have e2 : DataW.trod enc Tryz.prog W 0 (fun _ => true) true m 3 [c2] = some y2 := by have e := hf 2 _ rfl; rw [k2] at e; simpa [Tryz.cellsOne] using e
    have e3 : DataW.trod enc Tryz.prog W 0 (fun _ => true) true m 3 [c3] = some y3 := by have e := hf 3 _ rfl; rw [k3] at e; simpa [Tryz.cellsOne] using e
    obtain ⟨n0, q0⟩ := str_of_trod m [c0] y0 e0
    obtain ⟨n1, q1⟩ := int_of_trod m [c1] y1 e1
    obtain ⟨n2, q2⟩ := int_of_trod m [c2] y2 e2
    obtain ⟨n3, q3⟩ := int_of_trod m [c3] y3 e3
    simp only [encS, encI, List.cons.injEq, and_true] at q0 q1 q2 q3
    subst q0 q1 q2 q3
    exact ⟨⟨n0, n1, n2, n3⟩, rfl⟩
theorem actks_of_trod {H : Type} {enc : TypeId × Value → H} {W : World} {fuel : Nat} {v : Value} {x : DataW H × List MemPlace} (h : DataW.trod enc Tryz.prog W 0 (fun _ => true) true fuel 25 [v] = some x) : ∃ l : List ActK, SlAt encK 4 W v l ∧ l.length ≤ 9223372036854775807 := by
  obtain ⟨l, hl⟩ : ∃ l : List ActK, SlAt encK 4 W v l := sl_of_trod (⟨⟨#[]⟩, 0, 0, 0⟩ : ActK) (ec := encK) Tryz.underlying25 (show Tryz.prog.cellsOf 44 = 4 by kernel_rfl) (by decide) actk_of_trod h
  refine ⟨l, hl, ?_⟩
  obtain ⟨sa, cap, rfl, -, -⟩ := hl
  rcases DataW.trod_slice Tryz.underlying25 h with ⟨h1, -⟩ | ⟨a, len, cap', elems, rest, n, -, h1, -, -, h2, h3, -⟩
  · simp only [List.cons.injEq, Value.slice.injEq, and_true] at h1
    omega
  · simp only [List.cons.injEq, Value.slice.injEq, and_true] at h1
    unfold maxLen at h3
    omega
end Go.Proofs.YtkphpgdgbnmnjacGreatDoor

namespace Go.Proofs.YtkphpgdgbnmnjacGreatDoor
open Go.RowKit Go.Extern.Stop Go.Stop Go.Extern

/-- A counter: the point (-1: none), Min, Max, the count. -/
structure ASt where
  pt : Int
  mn : Int
  mx : Int
  n : Nat
def ASt.row (a : ASt) : Array Value := #[.int .i64 a.pt, .int .i64 a.mn, .int .i64 a.mx, .int .i64 (a.n : Int)]
/-- The point that is counted. -/
def ptOf (cnt : Int) (len : Nat) : Int := if cnt < 0 ∨ (len : Int) ≤ cnt then -1 else cnt
def ASt.rep (a : ASt) (p : Int) : ASt := if a.pt ≠ -1 ∧ p = a.pt ∧ a.n < 1000 then { a with n := a.n + 1 } else a
def ASt.well (a : ASt) (whole : Bool) : Bool := (decide (a.mn ≤ (a.n : Int)) && decide ((a.n : Int) ≤ a.mx)) || !whole || decide (a.pt = -1)
def ASt.zero (a : ASt) : ASt := { a with n := 0 }
structure AlAt (w : World) (b : Nat) (a : ASt) : Prop where
  heap : w.heap[b]? = some (.cells a.row 231 (0, 0))
  hn : a.n ≤ 1000
structure AlIn (w0 w : World) (b : Nat) (a : ASt) : Prop where
  at' : AlAt w b a
  bel : Below w0.heap.size w0 w
  lo : w0.heap.size ≤ b
theorem AlAt.cell {w : World} {b : Nat} {a : ASt} (h : AlAt w b a) (i : Nat) : w.cell? ⟨b, i, none⟩ = a.row[i]? := by simp [World.cell?, h.heap]
theorem AlAt.frozen {w : World} {b : Nat} {a : ASt} (h : AlAt w b a) (i : Nat) : w.frozen? ⟨b, i, none⟩ = false := by simp [World.frozen?, h.heap]
theorem AlAt.c0 {w : World} {b : Nat} {a : ASt} (h : AlAt w b a) : w.cell? ⟨b, 0, none⟩ = some (.int .i64 a.pt) := h.cell 0
theorem AlAt.c1 {w : World} {b : Nat} {a : ASt} (h : AlAt w b a) : w.cell? ⟨b, 1, none⟩ = some (.int .i64 a.mn) := h.cell 1
theorem AlAt.c2 {w : World} {b : Nat} {a : ASt} (h : AlAt w b a) : w.cell? ⟨b, 2, none⟩ = some (.int .i64 a.mx) := h.cell 2
theorem AlAt.c3 {w : World} {b : Nat} {a : ASt} (h : AlAt w b a) : w.cell? ⟨b, 3, none⟩ = some (.int .i64 (a.n : Int)) := h.cell 3
theorem AlAt.set {w : World} {b : Nat} {a : ASt} (h : AlAt w b a) (n : Nat) (hn : n ≤ 1000) : AlAt (w.setCell ⟨b, 3, none⟩ (.int .i64 (n : Int))) b { a with n := n } := by
  refine ⟨?_, hn⟩
  simp only [World.setCell, Array.getElem?_modify, h.heap]
  simp [ASt.row]
theorem AlAt.below {w w' : World} {b : Nat} {a : ASt} (h : AlAt w b a) (hb : Below w.heap.size w w') : AlAt w' b a := ⟨row_below hb h.heap, h.hn⟩
theorem AlAt.drewN {w : World} {b : Nat} {a : ASt} (h : AlAt w b a) (q : Nat) : AlAt (w.drewN q) b a := ⟨h.heap, h.hn⟩
theorem AlIn.drewN {w0 w : World} {b : Nat} {a : ASt} (h : AlIn w0 w b a) (q : Nat) : AlIn w0 (w.drewN q) b a := ⟨h.at'.drewN q, below_drewN h.bel q, h.lo⟩
theorem AlIn.below {w0 w w' : World} {b : Nat} {a : ASt} (h : AlIn w0 w b a) (hb : Below w.heap.size w w') : AlIn w0 w' b a := ⟨h.at'.below hb, h.bel.trans (hb.mono h.bel.size), h.lo⟩
theorem AlIn.set {w0 w : World} {b : Nat} {a : ASt} (h : AlIn w0 w b a) (n : Nat) (hn : n ≤ 1000) : AlIn w0 (w.setCell ⟨b, 3, none⟩ (.int .i64 (n : Int))) b { a with n := n } := ⟨h.at'.set n hn, h.bel.setCell (p := ⟨b, 3, none⟩) h.lo _, h.lo⟩
theorem AlIn.from {w0 w1 w : World} {b : Nat} {a : ASt} (h : AlIn w1 w b a) (hb : Below w0.heap.size w0 w1) : AlIn w0 w b a := ⟨h.at', hb.trans (h.bel.mono hb.size), Nat.le_trans hb.size h.lo⟩

set_option maxHeartbeats 1000000 in
theorem al_new (name : ByteArray) (tol cnt mn mx : Int) (pa : Option Addr) (pl pc : Nat) (gv ev fv lv : Value) (w : World) :
    Calls Tryz.prog 110 #[.agg #[.string name, .int .i64 tol, .slice pa pl pc, .int .i64 cnt, .int .i64 mn, .int .i64 mx, gv, ev, fv, lv]] w fun v w' => ∃ b, v = .returned (.pointer (some ⟨b, 0, none⟩)) ∧ AlIn w w' b ⟨ptOf cnt pl, mn, mx, 0⟩ := by
  have fin : ∀ (z : Int) (o : Obj), z = ptOf cnt pl → AlIn w ((w.alloc o).alloc (.cells #[.int .i64 z, .int .i64 mn, .int .i64 mx, .int .i64 0] 231)) (w.heap.size + 1) ⟨ptOf cnt pl, mn, mx, 0⟩ := by
    rintro z o rfl
    refine ⟨⟨?_, Nat.zero_le _⟩, (Below.one _ _).alloc (by simp) _, by omega⟩
    show ((w.alloc o).heap.push _)[w.heap.size + 1]? = _
    rw [Array.getElem?_push, if_pos (by simp)]
    rfl
  have HFin : Hid _ := fin
  clear fin
  by_cases h0 : cnt < 0
  · have HZ : Hid ((-1 : Int) = ptOf cnt pl) := by show _ = _; unfold ptOf; rw [if_pos (Or.inl h0)]
    go_enter Tryz.func110, Tryz.ntmps110
    go_wp2
    go_ret
    exact ⟨_, rfl, HFin.out _ _ HZ.out⟩
  by_cases h1 : (pl : Int) ≤ cnt
  · have HZ : Hid ((-1 : Int) = ptOf cnt pl) := by show _ = _; unfold ptOf; rw [if_pos (Or.inr h1)]
    go_enter Tryz.func110, Tryz.ntmps110
    go_wp2
    go_ret
    exact ⟨_, rfl, HFin.out _ _ HZ.out⟩
  · have HZ : Hid (cnt = ptOf cnt pl) := by show _ = _; unfold ptOf; rw [if_neg (by omega)]
    go_enter Tryz.func110, Tryz.ntmps110
    go_wp2
    go_ret
    exact ⟨_, rfl, HFin.out _ _ HZ.out⟩

variable {w0 w : World} {b : Nat} {a : ASt}
end Go.Proofs.YtkphpgdgbnmnjacGreatDoor
