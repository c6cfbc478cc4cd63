/-
  Several texts as one: KsBase, KkWalk.
-/
import Derived.Test.YtkphpgdgbnmnjacGreatDoorB00S
import Derived.Test.YtkphpgdgbnmnjacGreatDoorB01S
import Derived.Test.YtkphpgdgbnmnjacGreatDoorB00C
import Derived.Test.YtkphpgdgbnmnjacGreatDoorB01C
import Derived.Test.YtkphpgdgbnmnjacGreatDoorB02C
import Derived.Test.YtkphpgdgbnmnjacGreatDoorB03C
import Derived.Test.YtkphpgdgbnmnjacGreatDoorB04C
import Derived.Test.YtkphpgdgbnmnjacGreatDoorB05C
import Derived.Test.YtkphpgdgbnmnjacGreatDoorB06C
import Derived.Test.YtkphpgdgbnmnjacGreatDoorB07C
import Derived.Test.YtkphpgdgbnmnjacGreatDoorB08C
import Derived.Test.YtkphpgdgbnmnjacGreatDoorB09C
import Derived.Test.YtkphpgdgbnmnjacGreatDoorB10C
import Derived.Test.YtkphpgdgbnmnjacGreatDoorB11C
import Derived.Test.YtkphpgdgbnmnjacGreatDoorB12C
import Derived.Test.YtkphpgdgbnmnjacGreatDoorB13C
import Derived.Test.YtkphpgdgbnmnjacGreatDoorB14C
import Derived.Test.YtkphpgdgbnmnjacGreatDoorB15C
import Derived.Test.YtkphpgdgbnmnjacGreatDoorB16C
import Derived.Test.YtkphpgdgbnmnjacGreatDoorB17C
import Derived.Test.YtkphpgdgbnmnjacGreatDoorB18C
import Derived.Test.YtkphpgdgbnmnjacGreatDoorB19C
import Derived.Test.YtkphpgdgbnmnjacGreatDoorB20C
import Derived.Test.YtkphpgdgbnmnjacGreatDoorB31C
import Derived.Test.YtkphpgdgbnmnjacGreatDoorB22C
import Derived.Test.YtkphpgdgbnmnjacGreatDoorB32C
import Derived.Test.YtkphpgdgbnmnjacGreatDoorB33C
import Derived.Test.YtkphpgdgbnmnjacGreatDoorB21C
import Derived.Test.YtkphpgdgbnmnjacGreatDoorB23C
import Derived.Test.YtkphpgdgbnmnjacGreatDoorB24C
import Derived.Test.YtkphpgdgbnmnjacGreatDoorB25C
import Derived.Test.YtkphpgdgbnmnjacGreatDoorB26C
import Derived.Test.YtkphpgdgbnmnjacGreatDoorB27C
import Derived.Test.YtkphpgdgbnmnjacGreatDoorB28C
import Derived.Test.YtkphpgdgbnmnjacGreatDoorB29C
import Derived.Test.YtkphpgdgbnmnjacGreatDoorB30C
import Derived.Test.YtkphpgdgbnmnjacGreatDoorB34C
import Derived.Test.YtkphpgdgbnmnjacGreatDoorB35C
import Derived.BigQuiet
import Derived.Deep.QuietTactic
import Derived.Deep.DeepCutAuto
import Derived.WalkSmall
import Derived.Deep.RegionHeld3
namespace Go.Proofs.YtkphpgdgbnmnjacGreatDoor
open Go.RowKit Go.Extern.Stop Go.Stop Go.Extern

/-- The law's one entity. -/
def entS (tol : Int) : EntD := ⟨⟨#[101]⟩, tol, [⟨#[112]⟩], 0, 1, 1, [], [], [], []⟩
def cfgS (cl op cy dl tol : Int) : CfgD := ⟨cl, op, cy, dl, [entS tol]⟩
theorem smallS (cl op cy dl tol : Int) : SmallC (cfgS cl op cy dl tol) := by
  refine ⟨by show 1 ≤ 1000000; decide, fun e he => ?_⟩
  have : e = entS tol := by simpa [cfgS] using he
  subst this
  refine ⟨by show 1 ≤ 1000000; decide, by show 1 ≤ 1000000; decide, fun p hp => ?_, by show 0 ≤ 1000000; decide, by show 0 ≤ 1000000; decide, by show 0 ≤ 1000000; decide, by show 0 ≤ 1000000; decide⟩
  have : p = ⟨#[112]⟩ := by simpa [entS] using hp
  subst this
  show 1 ≤ 1000000
  decide
theorem onlyS (tol : Nat) : onlyE (entS (tol : Int)) tol := ⟨rfl, rfl, rfl, rfl, rfl⟩
/-- It lies in memory as the law makes it. -/
theorem ks_mem (w : World) (cl op cy dl tol : Int) : ∃ W, (((w.alloc (.cells #[.int .i64 cl, .int .i64 op, .int .i64 cy, .int .i64 dl, .slice (some ⟨w.heap.size + 1 + 1, 0, none⟩) 1 1] 24)).alloc (.cells #[.string ⟨#[112]⟩] 9)).alloc (.cells #[.string ⟨#[101]⟩, .int .i64 tol, .slice (some ⟨w.heap.size + 1, 0, none⟩) 1 1, .int .i64 0, .int .i64 1, .int .i64 1, .slice none 0 0, .slice none 0 0, .slice none 0 0, .slice none 0 0] 38)) = W ∧ Below w.heap.size w W ∧ EntsAt W (.slice (some ⟨w.heap.size + 1 + 1, 0, none⟩) 1 1) [entS tol] ∧
    (∀ V, Below W.heap.size W V → V.cell? ⟨w.heap.size, 0, none⟩ = some (.int .i64 cl) ∧ V.cell? ⟨w.heap.size, 1, none⟩ = some (.int .i64 op) ∧ V.cell? ⟨w.heap.size, 2, none⟩ = some (.int .i64 cy) ∧ V.cell? ⟨w.heap.size, 3, none⟩ = some (.int .i64 dl) ∧ V.cell? ⟨w.heap.size, 4, none⟩ = some (.slice (some ⟨w.heap.size + 1 + 1, 0, none⟩) 1 1)) := by
  obtain ⟨W1, hW1⟩ : ∃ X, X = w.alloc (.cells #[.int .i64 cl, .int .i64 op, .int .i64 cy, .int .i64 dl, .slice (some ⟨w.heap.size + 1 + 1, 0, none⟩) 1 1] 24) := ⟨_, rfl⟩
  have b1 : Below w.heap.size w W1 := by rw [hW1]; exact Below.one _ _
  have s1 : W1.heap.size = w.heap.size + 1 := by rw [hW1]; exact World.size_alloc _ _
  have r1 : W1.heap[w.heap.size]? = some (.cells #[.int .i64 cl, .int .i64 op, .int .i64 cy, .int .i64 dl, .slice (some ⟨w.heap.size + 1 + 1, 0, none⟩) 1 1] 24 (0, 0)) := by rw [hW1]; exact heap_alloc_new w _
  rw [← hW1]
  obtain ⟨W2, hW2⟩ : ∃ X, X = W1.alloc (.cells #[.string ⟨#[112]⟩] 9) := ⟨_, rfl⟩
  have b2 : Below W1.heap.size W1 W2 := by rw [hW2]; exact Below.one _ _
  have s2 : W2.heap.size = W1.heap.size + 1 := by rw [hW2]; exact World.size_alloc _ _
  have r2 : W2.heap[W1.heap.size]? = some (.cells #[.string ⟨#[112]⟩] 9 (0, 0)) := by rw [hW2]; exact heap_alloc_new W1 _
  rw [← hW2]
  obtain ⟨W3, hW3⟩ : ∃ X, X = W2.alloc (.cells #[.string ⟨#[101]⟩, .int .i64 tol, .slice (some ⟨w.heap.size + 1, 0, none⟩) 1 1, .int .i64 0, .int .i64 1, .int .i64 1, .slice none 0 0, .slice none 0 0, .slice none 0 0, .slice none 0 0] 38) := ⟨_, rfl⟩
  have b3 : Below W2.heap.size W2 W3 := by rw [hW3]; exact Below.one _ _
  have r3 : W3.heap[W2.heap.size]? = some (.cells #[.string ⟨#[101]⟩, .int .i64 tol, .slice (some ⟨w.heap.size + 1, 0, none⟩) 1 1, .int .i64 0, .int .i64 1, .int .i64 1, .slice none 0 0, .slice none 0 0, .slice none 0 0, .slice none 0 0] 38 (0, 0)) := by rw [hW3]; exact heap_alloc_new W2 _
  rw [← hW3]
  clear hW1 hW2 hW3
  have bb : Below W1.heap.size W1 W3 := b2.trans (b3.mono b2.size)
  refine ⟨W3, rfl, b1.trans (bb.mono b1.size), ?_, fun V hV => ?_⟩
  · have p2 := row_below b3 r2
    rw [s1] at p2
    rw [s2, s1] at r3
    generalize w.heap.size + 1 = g1 at p2 r3 ⊢
    refine ⟨_, _, rfl, fun _ => ⟨g1 + 1, 0, rfl, fun i e he => ?_⟩⟩
    have hi : i = 0 := by
      have := (List.getElem?_eq_some_iff.1 he).1
      simp at this
      exact this
    subst hi
    have he' : entS tol = e := by simpa using he
    subst he'
    refine ⟨.slice (some ⟨g1, 0, none⟩) 1 1, .slice none 0 0, .slice none 0 0, .slice none 0 0, .slice none 0 0, ⟨?_, ?_, ?_, ?_, ?_⟩, fun j u hu => ?_⟩
    · refine ⟨_, _, rfl, Nat.le_refl _, fun _ => ⟨g1, 0, rfl, fun i x hx j u hu => ?_⟩⟩
      have hi : i = 0 := by
        have := (List.getElem?_eq_some_iff.1 hx).1
        simp [entS] at this
        exact this
      subst hi
      have hx' : (⟨#[112]⟩ : ByteArray) = x := by simpa [entS] using hx
      subst hx'
      match j, hu with
      | 0, hu =>
        have : u = .string ⟨#[112]⟩ := by simpa [encS] using hu.symm
        subst this
        simp [World.cell?, p2]
    · exact ⟨_, _, rfl, Nat.le_refl _, fun h => absurd rfl h⟩
    · exact ⟨_, _, rfl, Nat.le_refl _, fun h => absurd rfl h⟩
    · exact ⟨_, _, rfl, Nat.le_refl _, fun h => absurd rfl h⟩
    · exact ⟨_, _, rfl, Nat.le_refl _, fun h => absurd rfl h⟩
    · rw [← hu]
      simp only [World.cell?, r3]
      simp [entRow, entS]
  · have := row_below (bb.trans (hV.mono bb.size)) r1
    refine ⟨?_, ?_, ?_, ?_, ?_⟩ <;> simp [World.cell?, this]

/-- The tick that the watch is at, read in memory. -/
def nowAt (w : World) (kb : Nat) : Nat := match w.cell? ⟨kb, 0, none⟩ with
  | some (.pointer (some a)) => (match w.cell? ⟨a.block, 2, none⟩ with
    | some (.int _ n) => n.toNat
    | _ => 0)
  | _ => 0
section
variable {w0 wr wr' w : World} {c : CfgD} {kb bc T : Nat} {K K' : KSt} {F G : Nat → Prop} {e : EntD}
theorem KeAt.nowAt (h : KeAt F w0 w c kb bc K) : Go.Proofs.YtkphpgdgbnmnjacGreatDoor.nowAt w kb = K.d.now := by
  obtain ⟨H, bd, rb, bt, lv, bs, h1, -⟩ := h
  have c0 : w.cell? ⟨kb, 0, none⟩ = some (.pointer (some ⟨bd, 0, none⟩)) := h1.cell 0 _ rfl
  have c2 : w.cell? ⟨bd, 2, none⟩ = some (.int .i64 (K.d.now : Int)) := by simp [World.cell?, h1.dog.heap, DSt.row]
  unfold Go.Proofs.YtkphpgdgbnmnjacGreatDoor.nowAt
  rw [c0]
  simp only [c2]
  exact Int.toNat_natCast _
/-- Behind some ticks: the watch, apart from the blocks of G. -/
structure KsM (G : Nat → Prop) (w0 wr : World) (c : CfgD) (kb bc : Nat) (K : KSt) : Prop where
  at' : ∃ F, KeAt F w0 wr c kb bc K ∧ ∀ k, F k → w0.heap.size ≤ k ∧ k < wr.heap.size ∧ ¬ G k
  inv : ∃ D, KInv K D ∧ D.length ≤ 8 * K.d.now
  fit : KFit c K 1 (144 * K.d.now)
theorem KsM.below (h : KsM G w0 wr c kb bc K) (hb : Below wr.heap.size wr wr') : KsM G w0 wr' c kb bc K := by
  obtain ⟨F, h1, h2⟩ := h.at'
  exact ⟨⟨F, h1.below hb, fun k hk => ⟨(h2 k hk).1, Nat.lt_of_lt_of_le (h2 k hk).2.1 hb.size, (h2 k hk).2.2⟩⟩, h.inv, h.fit⟩
theorem KsM.bel (h : KsM G w0 wr c kb bc K) : Below w0.heap.size w0 wr := by obtain ⟨F, h1, -⟩ := h.at'; exact h1.bel
theorem ks_post (hF : ∀ k, F k → w0.heap.size ≤ k ∧ k < wr.heap.size ∧ ¬ G k) (hz : w0.heap.size ≤ wr.heap.size) (hG : ∀ k, G k → k < wr.heap.size) (hp : KePost F w0 wr c kb bc K' wr') : (∃ F, KeAt F w0 wr' c kb bc K' ∧ ∀ k, F k → w0.heap.size ≤ k ∧ k < wr'.heap.size ∧ ¬ G k) ∧ ∀ k, G k → wr'.heap[k]? = wr.heap[k]? :=
  ⟨⟨_, hp.1, fun k hk => by
    rcases hk with hk | ⟨hk, hk2⟩
    · exact ⟨(hF k hk).1, Nat.lt_of_lt_of_le (hF k hk).2.1 hp.2.size, (hF k hk).2.2⟩
    · exact ⟨Nat.le_trans hz hk, hk2, fun hg => absurd (hG k hg) (by omega)⟩⟩, fun k hg => hp.2.block k (hG k hg) (fun hk => (hF k hk).2.2 hg)⟩
/-- A block that was made behind it is apart from it. -/
theorem KsM.apart (h : KsM G w0 wr c kb bc K) {g : Nat} (hg : wr.heap.size ≤ g) (hb : Below wr.heap.size wr wr') : KsM (fun k => k = g) w0 wr' c kb bc K := by
  obtain ⟨F, h1, h2⟩ := h.at'
  exact ⟨⟨F, h1.below hb, fun k hk => ⟨(h2 k hk).1, Nat.lt_of_lt_of_le (h2 k hk).2.1 hb.size, fun e => by have := (h2 k hk).2.1; omega⟩⟩, h.inv, h.fit⟩
/-- A tick in time. -/
theorem ks_tick (hm : KsM G w0 wr c kb bc K) (hs : StopK c T K) (hc : Calm K (8 * K.d.now)) (hr : KRt c) (he : c.ents = [e]) (ho : onlyE e T) (hn : K.d.now < 100000) (nores : ¬ K.d.closed + K.d.opn < K.d.now + 1 - K.d.begun) (ha : ∃ F, KeAt F w0 wr' c kb bc (K.tick c).1 ∧ ∀ k, F k → w0.heap.size ≤ k ∧ k < wr'.heap.size ∧ ¬ G k) :
    (K.tick c).2 = 0 ∧ (K.tick c).1.d.now = K.d.now + 1 ∧ KsM G w0 wr' c kb bc (K.tick c).1 ∧ StopK c T (K.tick c).1 ∧ Calm (K.tick c).1 (8 * (K.tick c).1.d.now) := by
  obtain ⟨D, d1, d2⟩ := hm.inv
  obtain ⟨t1, t2⟩ := hc.tick hm.fit hr (by omega) hs.res (by omega)
  obtain ⟨D', e1, e2, e3⟩ := d1.tick hm.fit hr (by omega) (by omega)
  have hnow := t1.now
  refine ⟨by rw [t1.code, if_neg nores], hnow, ⟨ha, ⟨D', e1, by omega⟩, hm.fit.tick hr (by omega)⟩, hs.tick hr he ho hc hm.fit.big nores, ?_⟩
  rw [hnow]
  exact t2.mono (by omega)
/-- The tick that is late. -/
theorem ks_late (hs : StopK c T K) (hc : Calm K (8 * K.d.now)) (late : K.d.closed + K.d.opn < K.d.now + 1 - K.d.begun) :
    (K.tick c).1 = K.ticked ∧ (K.tick c).2 = 11 := by
  have hon : K.on = 0 := KSt.on_zero.2 ⟨hc.off, hs.res⟩
  have hre : K.ticked.d.reset = true := decide_eq_true late
  unfold KSt.tick
  rw [if_neg (by omega), if_pos hre]
  exact ⟨rfl, rfl⟩
theorem StopK.L0 (h : StopK c T K) (hr : KRt c) (hn : K.d.now < (T + 2) * c.cycle.toNat) : K.L = [] := by
  have hcy := hr.cy
  rw [h.L]
  unfold recS
  rw [if_pos (Nat.div_lt_of_lt_mul (by rw [Nat.mul_comm]; exact hn))]
theorem stop_div (hr : KRt c) {n m : Nat} (hn : n * c.cycle.toNat ≤ m) : n ≤ m / c.cycle.toNat := by
  have hcy := hr.cy
  exact (Nat.le_div_iff_mul_le (by omega)).2 hn
theorem StopK.L1 (h : StopK c T K) (hr : KRt c) (hn : (T + 2) * c.cycle.toNat ≤ K.d.now) : K.L = [⟨1, 0, 1, (T + 2) * c.cycle.toNat⟩] := by
  have := stop_div hr hn
  rw [h.L]
  unfold recS
  rw [if_neg (by omega)]
theorem StopK.t2 (h : StopK c T K) (hr : KRt c) (h1 : (T + 2) * c.cycle.toNat ≤ K.d.now) (h2 : K.d.now < (T + 2 + c.delay.toNat) * c.cycle.toNat) : K.t.st = 2 := by
  have hcy := hr.cy
  rw [h.t]
  exact tS_exp (stop_div hr h1) (Nat.div_lt_of_lt_mul (by rw [Nat.mul_comm]; exact h2))
theorem StopK.t3 (h : StopK c T K) (hr : KRt c) (h1 : (T + 2 + c.delay.toNat) * c.cycle.toNat ≤ K.d.now) : K.t.st = 3 := by
  rw [h.t]
  exact (tS_st _ _ _).2 (stop_div hr h1)
theorem StopK.end3 (h : StopK c T K) (hr : KRt c) (h1 : (T + 2 + c.delay.toNat) * c.cycle.toNat ≤ K.d.now) : K.d.kicks = (qk c.closed.toNat c.cycle.toNat (T + 1 + c.delay.toNat)).1 ∧ K.d.begun < (T + 2 + c.delay.toNat) * c.cycle.toNat ∧ (T + 2 + c.delay.toNat) * c.cycle.toNat - K.d.begun ≤ c.closed.toNat + c.cycle.toNat := by
  have e := h.unfed (stop_div hr h1)
  have hcy := hr.cy
  obtain ⟨q, q2⟩ := qk_le c.closed.toNat c.cycle.toNat (T + 1 + c.delay.toNat)
  have e1 : K.d.kicks = (qk c.closed.toNat c.cycle.toNat (T + 1 + c.delay.toNat)).1 := by rw [← e]
  have e2 : K.d.begun = (qk c.closed.toNat c.cycle.toNat (T + 1 + c.delay.toNat)).2 := by rw [← e]
  rw [e2, show T + 2 + c.delay.toNat = T + 1 + c.delay.toNat + 1 by omega, Nat.succ_mul]
  exact ⟨e1, by omega, by omega⟩
/-- The watch behind the reset. -/
structure KsR (G : Nat → Prop) (w0 wr : World) (c : CfgD) (kb bc : Nat) (K : KSt) : Prop where
  m : KsM G w0 wr c kb bc K
  off : K.c.off = false
  res : K.d.reset = true
theorem KsR.on (h : KsR G w0 wr c kb bc K) : K.on = 11 := by unfold KSt.on; rw [h.off, h.res]; rfl
theorem KsR.tick (h : KsR G w0 wr c kb bc K) : K.tick c = (K, 11) := by
  have e := h.on
  unfold KSt.tick
  rw [if_pos (by omega), e]
theorem KsR.begin (h : KsR G w0 wr c kb bc K) (i : Int) : K.begin i = (K, 11) := by
  have e := h.on
  unfold KSt.begin
  rw [if_pos (by omega), e]
theorem KsR.below (h : KsR G w0 wr c kb bc K) (hb : Below wr.heap.size wr wr') : KsR G w0 wr' c kb bc K := ⟨h.m.below hb, h.off, h.res⟩
theorem KsR.boot (h : KsR G w0 wr c kb bc K) : (K.boot c).2 = 0 ∧ (K.boot c).1.on = 0 ∧ (K.boot c).1.t.st = 0 ∧ (K.boot c).1.c.off = false ∧ (K.boot c).1.L = K.L := by
  have e := h.on
  obtain ⟨D, d1, -⟩ := h.m.inv
  have hL : (K.boot c).1.L = K.L := by rw [(d1.boot (c := c)).L, d1.L]
  refine ⟨?_, ?_, ?_, ?_, hL⟩
  · unfold KSt.boot; rw [if_neg (by omega)]
  · unfold KSt.boot; rw [if_neg (by omega)]; exact KSt.on_zero.2 ⟨rfl, rfl⟩
  · unfold KSt.boot; rw [if_neg (by omega)]; rfl
  · unfold KSt.boot; rw [if_neg (by omega)]; rfl
/-- The tick that is late leaves it reset. -/
theorem ks_lateR (hm : KsM G w0 wr c kb bc K) (hs : StopK c T K) (hc : Calm K (8 * K.d.now)) (hn : K.d.now < 100000) (late : K.d.closed + K.d.opn < K.d.now + 1 - K.d.begun) (ha : ∃ F, KeAt F w0 wr' c kb bc (K.tick c).1 ∧ ∀ k, F k → w0.heap.size ≤ k ∧ k < wr'.heap.size ∧ ¬ G k) :
    KsR G w0 wr' c kb bc (K.tick c).1 ∧ (K.tick c).1.d.kicks = K.d.kicks ∧ (K.tick c).1.L = K.L ∧ (K.tick c).1.d.now = K.d.now + 1 := by
  obtain ⟨e1, -⟩ := ks_late (c := c) hs hc late
  rw [e1] at ha ⊢
  obtain ⟨D, d1, d2⟩ := hm.inv
  refine ⟨⟨⟨ha, ⟨D, d1.other rfl rfl, by show D.length ≤ 8 * (K.d.now + 1); omega⟩, ?_⟩, hc.off, decide_eq_true late⟩, rfl, rfl, rfl⟩
  exact (hm.fit.ticked (by omega)).1.mono (Nat.le_refl _) (by show 144 * K.d.now ≤ 144 * (K.d.now + 1); omega)
theorem SlRow.same {g cap : Nat} {L : List Rec} (h : SlRow wr g cap L) (he : wr'.heap[g]? = wr.heap[g]?) : SlRow wr' g cap L := by
  obtain ⟨cur, hg, k2, k3⟩ := h.row
  exact ⟨⟨cur, he.trans hg, k2, k3⟩⟩
theorem recs_nil {B : Nat} {v : Value} (h : Recs wr B v []) : ∃ sa ca, v = .slice sa 0 ca := by
  rcases h.row_form with ⟨rfl, -⟩ | ⟨g, cap, rfl, -⟩
  · exact ⟨_, _, rfl⟩
  · exact ⟨_, _, rfl⟩
/-- Behind Begin(0). -/
theorem ks_new (he : c.ents = [e]) : (((KSt.new c (CSt.new 4096)).begin 0).2 = 0) ∧ StopK c T ((KSt.new c (CSt.new 4096)).begin 0).1 ∧ Calm ((KSt.new c (CSt.new 4096)).begin 0).1 0 ∧ KInv ((KSt.new c (CSt.new 4096)).begin 0).1 [] ∧ ((KSt.new c (CSt.new 4096)).begin 0).1.d.now = 0 := by
  have hL : (KSt.new c (CSt.new 4096)).L = [] := KInv.new.L
  have hls : (KSt.new c (CSt.new 4096)).ls = [LSt.new] := by show c.ents.map _ = _; rw [he]; rfl
  have hB : (KSt.new c (CSt.new 4096)).begin 0 = ((KSt.new c (CSt.new 4096)).setL 0 LSt.new.begin, 0) := by
    unfold KSt.begin
    rw [if_neg (by show ¬ (KSt.new c (CSt.new 4096)).on ≠ 0; exact fun h => h (KSt.on_zero.2 ⟨rfl, rfl⟩)), if_neg (by omega), hls]
    rfl
  refine ⟨by rw [hB], ?_, Calm.new.begin 0, KInv.new.begin 0, by rw [hB]; rfl⟩
  rw [hB]
  refine ⟨?_, ?_, ?_, rfl, rfl, rfl, ?_⟩
  · show (KSt.new c (CSt.new 4096)).ls.set 0 _ = [lS T (0 / _)]
    rw [hls, Nat.zero_div]
    unfold lS
    rw [decide_eq_false (by omega)]
    rfl
  · show TSt.new c.delay.toNat = tS T _ (0 / _)
    rw [Nat.zero_div]
    unfold tS
    rw [if_pos (by omega)]
    rfl
  · show (KSt.new c (CSt.new 4096)).L = recS T _ (0 / _)
    rw [hL, Nat.zero_div]
    unfold recS
    rw [if_pos (by omega)]
  · show (0, 0) = qk _ _ (min (0 / _) _)
    rw [Nat.zero_div, Nat.zero_min]
    rfl
end
end Go.Proofs.YtkphpgdgbnmnjacGreatDoor

namespace Go.Proofs.YtkphpgdgbnmnjacGreatDoor
open Go.RowKit Go.Extern.Stop Go.Stop Go.Extern

theorem coded_reset (A : Nat → Addr) (w : World) (hs : Senv A w) : Calls Tryz.prog 24 #[.iface 292 (.pointer (some (A 10))), .int .i64 11] w fun e w' => e = .returned (.bool true) ∧ Below w.heap.size w w' := by
  refine (coded_sent A 10 11 w hs (by decide)).mono ?_
  rintro e w' ⟨rfl, hb⟩
  exact ⟨rfl, hb⟩
/-- Behind some acts, whatever they were. -/
structure KkI (w0 wr : World) (c : CfgD) (kb bc k T : Nat) (K : KSt) : Prop where
  at' : ∃ F, KeAt F w0 wr c kb bc K ∧ ∀ k, F k → w0.heap.size ≤ k
  calm : Calm K (8 * K.d.now)
  inv : ∃ D, KInv K D ∧ D.length ≤ 8 * K.d.now
  fit : KFit c K k (144 * K.d.now)
  win : K.d.closed = c.closed.toNat ∧ K.d.opn = c.opn.toNat
  now : K.d.now ≤ T
section
variable {w0 wr wr' : World} {c : CfgD} {kb bc k T : Nat} {K K' : KSt} {F : Nat → Prop}
theorem KkI.below (h : KkI w0 wr c kb bc k T K) (hb : Below wr.heap.size wr wr') : KkI w0 wr' c kb bc k T K := by
  obtain ⟨F, h1, h2⟩ := h.at'
  exact ⟨⟨F, h1.below hb, h2⟩, h.calm, h.inv, h.fit, h.win, h.now⟩
theorem KkI.mono (h : KkI w0 wr c kb bc k T K) {k' T' : Nat} (hk : k ≤ k') (hT : T ≤ T') : KkI w0 wr c kb bc k' T' K := ⟨h.at', h.calm, h.inv, h.fit.mono hk (Nat.le_refl _), h.win, Nat.le_trans h.now hT⟩
theorem KkI.bel (h : KkI w0 wr c kb bc k T K) : Below w0.heap.size w0 wr := by obtain ⟨F, h1, -⟩ := h.at'; exact h1.bel
/-- One tick. -/
theorem KkI.tick (h : KkI w0 wr c kb bc k T K) (hr : KRt c) (hn : K.d.now < 100000) (hre : K.d.reset = false) (ha : ∃ F, KeAt F w0 wr' c kb bc (K.tick c).1 ∧ ∀ k, F k → w0.heap.size ≤ k) : TickF c K (K.tick c).1 (K.tick c).2 ∧ KkI w0 wr' c kb bc k (T + 1) (K.tick c).1 := by
  obtain ⟨D, d1, d2⟩ := h.inv
  obtain ⟨t1, t2⟩ := h.calm.tick h.fit hr (by omega) hre (by omega)
  obtain ⟨D', e1, e2, e3⟩ := d1.tick h.fit hr (by omega) (by omega)
  have hnow := t1.now
  refine ⟨t1, ha, ?_, ⟨D', e1, by omega⟩, h.fit.tick hr (by omega), ⟨t1.win.1.trans h.win.1, t1.win.2.trans h.win.2⟩, by have := h.now; omega⟩
  rw [hnow]
  exact t2.mono (by omega)
theorem KkI.reset (h : KkI w0 wr c kb bc k T K) (hre : K.d.reset = true) : K.tick c = (K, 11) ∧ K.on = 11 := by
  have h1 : K.on = 11 := by unfold KSt.on; rw [h.calm.off, hre]; rfl
  refine ⟨?_, h1⟩
  unfold KSt.tick
  rw [if_pos (by omega), h1]
theorem KkI.on (h : KkI w0 wr c kb bc k T K) (hre : K.d.reset = false) : K.on = 0 := KSt.on_zero.2 ⟨h.calm.off, hre⟩
end
end Go.Proofs.YtkphpgdgbnmnjacGreatDoor
