/-
  Several texts as one: KpCalm, KpQuiet, RingL8, KpInv, KpQc, KpRt.
-/
import Derived.Test.YtdpdbfhbojgigacGreatDoorB12P
import Derived.Test.YtdpdbfhbojgigacGreatDoorB08P
import Derived.Test.YtdpdbfhbojgigacGreatDoorB00P
namespace Go.Proofs.YtdpdbfhbojgigacGreatDoor
open Go

theorem writeE_calm {s : CSt} {p : Nat} {l : List UInt8} (he : s.err p l.length = 0) (hc : s.cut = false) : s.writeE p l = (s.puts p l, 0) := by
  unfold CSt.writeE CSt.write
  rw [if_pos he, if_neg (fun h => by rw [hc] at h; cases h.1)]
theorem err_in {s : CSt} {p n : Nat} (ho : s.off = false) (h : p + n ≤ s.size) : s.err p n = 0 := by
  unfold CSt.err
  rw [if_neg (by omega), if_neg (by rw [ho]; simp)]
theorem putRec_calm {s : CSt} (h : Big s) (ho : s.off = false) (hc : s.cut = false) (r : Rec) : (s.putRec r).2 = 0 ∧ (s.putRec r).1.cut = false ∧ (s.putRec r).1.off = false := by
  have hq : (r.seq - 1) % 9 < 9 := Nat.mod_lt _ (by decide)
  have hz := h.size
  have z : (s.zeroAt ((r.seq - 1) % 9 * 17 + 16)).2 = 0 ∧ (s.zeroAt ((r.seq - 1) % 9 * 17 + 16)).1.cut = false ∧ (s.zeroAt ((r.seq - 1) % 9 * 17 + 16)).1.off = false ∧ (s.zeroAt ((r.seq - 1) % 9 * 17 + 16)).1.size = s.size := by
    unfold CSt.zeroAt
    have hz1 : s.err (((r.seq - 1) % 9 * 17 + 16 : Nat) : Int) 1 = 0 := err_in (n := 1) ho (by omega)
    rw [if_pos hz1]
    split
    · exact ⟨rfl, hc, ho, rfl⟩
    · rw [writeE_calm (err_in (n := 1) ho (by omega)) hc]
      exact ⟨rfl, by rw [CSt.puts_cut]; exact hc, by rw [CSt.puts_off]; exact ho, by rw [CSt.puts_size]⟩
  obtain ⟨z1, z2, z3, z4⟩ := z
  unfold CSt.putRec
  simp only []
  rw [if_pos z1]
  have e1 := writeE_calm (s := (s.zeroAt ((r.seq - 1) % 9 * 17 + 16)).1) (p := (r.seq - 1) % 9 * 17) (l := enc16 r) (err_in z3 (by rw [enc16_length, z4]; omega)) z2
  rw [e1, if_pos rfl]
  have e2 := writeE_calm (s := (s.zeroAt ((r.seq - 1) % 9 * 17 + 16)).1.puts ((r.seq - 1) % 9 * 17) (enc16 r)) (p := (r.seq - 1) % 9 * 17 + 16) (l := [165]) (err_in (n := 1) (by rw [CSt.puts_off]; exact z3) (by rw [CSt.puts_size, z4]; omega)) (by rw [CSt.puts_cut]; exact z2)
  rw [e2]
  exact ⟨rfl, by rw [CSt.puts_cut, CSt.puts_cut]; exact z2, by rw [CSt.puts_off, CSt.puts_off]; exact z3⟩
/-- Power is there, and no cut is ahead; the log's last number is below S. -/
structure Calm (K : KSt) (S : Nat) : Prop where
  off : K.c.off = false
  cut : K.c.cut = false
  sp : K.sp = false
  seq : (lastR K.L).seq ≤ S
section
variable {c : CfgD} {K : KSt} {k W S : Nat}
theorem Calm.app (h : Calm K S) (hf : KFit c K k W) (hS : S < 4294967295) (e kd t : Nat) : (K.app e kd t).2 = 0 ∧ Calm (K.app e kd t).1 (S + 1) := by
  obtain ⟨a1, a2, a3⟩ := putRec_calm hf.big h.off h.cut (nextR K.L e kd t)
  have hs := h.seq
  have hB : K.app e kd t = ({ K with c := (K.c.putRec (nextR K.L e kd t)).1, L := keepL K.L (nextR K.L e kd t) }, 0) := by unfold KSt.app; rw [if_neg (by rw [h.sp]; simp), if_neg (by omega), if_pos a1]
  rw [hB]
  refine ⟨rfl, a3, a2, h.sp, ?_⟩
  show (lastR (keepL K.L _)).seq ≤ _
  rw [keepL_last]
  show (lastR K.L).seq + 1 ≤ _
  omega
theorem Calm.mono (h : Calm K S) {S' : Nat} (hS : S ≤ S') : Calm K S' := ⟨h.off, h.cut, h.sp, Nat.le_trans h.seq hS⟩
theorem Calm.setL (h : Calm K S) (i : Nat) (s : LSt) : Calm (K.setL i s) S := ⟨h.off, h.cut, h.sp, h.seq⟩
theorem Calm.ends (h : Calm K S) (hf : KFit c K k W) (hi : ∀ s ∈ K.ls, LFit s (k + K.d.now - 1)) (h1 : 1 ≤ K.d.now) (n : Nat) (hS : S + n < 4294967295) : (K.ends c n).2 = 0 ∧ Calm (K.ends c n).1 (S + n) := by
  induction n with
  | zero => exact ⟨rfl, h⟩
  | succ n ih =>
    obtain ⟨i1, i2⟩ := ih (by omega)
    obtain ⟨f1, -, f3, -, f5⟩ := hf.ends h.off hi h1 n
    show (if (K.ends c n).2 = 0 then (K.ends c n).1.endOne c n else K.ends c n).2 = 0 ∧ Calm (if (K.ends c n).2 = 0 then (K.ends c n).1.endOne c n else K.ends c n).1 _
    rw [if_pos i1]
    unfold KSt.endOne
    split
    · exact ⟨rfl, i2.mono (by omega)⟩
    · rename_i s hs
      split
      · refine (i2.setL n _).app (f1.finL hs ?_ ?_ _) (by omega) _ _ _
        · rw [f3]
          rw [f5 n (Nat.le_refl _)] at hs
          exact hi s (List.mem_of_getElem? hs)
        · rw [f3]; exact h1
      · exact ⟨rfl, (i2.setL n _).mono (by omega)⟩
/-- What a tick of a calm watch does. -/
structure TickF (c : CfgD) (K K' : KSt) (code : Nat) : Prop where
  now : K'.d.now = K.d.now + 1
  win : K'.d.closed = K.d.closed ∧ K'.d.opn = K.d.opn
  reset : K'.d.reset = decide (K.d.closed + K.d.opn < K.d.now + 1 - K.d.begun)
  code : code = if K.d.closed + K.d.opn < K.d.now + 1 - K.d.begun then 11 else 0
  kick : (K'.d.kicks = K.d.kicks ∧ K'.d.begun = K.d.begun) ∨ (K'.d.kicks = K.d.kicks + 1 ∧ K'.d.begun = K.d.now + 1 ∧ (K.d.now + 1) % c.cycle.toNat = 0 ∧ K.d.closed < K.d.now + 1 - K.d.begun ∧ ¬ K.d.closed + K.d.opn < K.d.now + 1 - K.d.begun)
theorem Calm.tick (h : Calm K S) (hf : KFit c K k W) (hr : KRt c) (hn : K.d.now < 1099511627776) (hre : K.d.reset = false) (hS : S + 8 < 4294967295) : TickF c K (K.tick c).1 (K.tick c).2 ∧ Calm (K.tick c).1 (S + 8) := by
  have hon : K.on = 0 := KSt.on_zero.2 ⟨h.off, hre⟩
  have ht : Calm K.ticked S := ⟨h.off, h.cut, h.sp, h.seq⟩
  obtain ⟨t1, t2, t3⟩ := hf.ticked hn
  have hnn := hr.nn
  obtain ⟨e1, e2⟩ := ht.ends t1 t2 t3 c.ents.length (by omega)
  obtain ⟨-, -, e3, -, -⟩ := t1.ends h.off t2 t3 c.ents.length
  unfold KSt.tick
  rw [if_neg (by omega)]
  by_cases hl : K.d.closed + K.d.opn < K.d.now + 1 - K.d.begun
  · have hr1 : K.ticked.d.reset = true := decide_eq_true hl
    rw [if_pos hr1]
    exact ⟨⟨rfl, ⟨rfl, rfl⟩, rfl, by rw [if_pos hl], Or.inl ⟨rfl, rfl⟩⟩, ht.mono (by omega)⟩
  · have hr1 : K.ticked.d.reset = false := decide_eq_false hl
    rw [if_neg (by rw [hr1]; simp)]
    split
    · exact ⟨⟨rfl, ⟨rfl, rfl⟩, rfl, by rw [if_neg hl], Or.inl ⟨rfl, rfl⟩⟩, ht.mono (by omega)⟩
    · rename_i hm
      have hm' : (K.d.now + 1) % c.cycle.toNat = 0 := by have : ¬ (K.d.now + 1) % c.cycle.toNat ≠ 0 := hm; omega
      have e2' := e2.mono (S' := S + 8) (by omega)
      generalize (K.ticked.ends c c.ents.length).1 = K5 at e2' e3
      show TickF c K K5.last 0 ∧ Calm K5.last (S + 8)
      unfold KSt.last
      simp only []
      split
      · rename_i hk
        have ho := hk.2
        rw [e3] at ho
        unfold DSt.isOpen at ho
        simp only [Bool.and_eq_true, decide_eq_true_eq] at ho
        have ho2 : K.d.closed < K.d.now + 1 - K.d.begun := ho.2
        refine ⟨⟨?_, ?_, ?_, by rw [if_neg hl], Or.inr ⟨?_, ?_, hm', ho2, hl⟩⟩, ⟨e2'.off, e2'.cut, e2'.sp, e2'.seq⟩⟩
        · show K5.d.now = _; rw [e3]; rfl
        · constructor
          · show K5.d.closed = _; rw [e3]; rfl
          · show K5.d.opn = _; rw [e3]; rfl
        · show K5.d.reset = _; rw [e3]; rfl
        · show K5.d.kicks + 1 = _; rw [e3]; rfl
        · show K5.d.now = _; rw [e3]; rfl
      · refine ⟨⟨?_, ?_, ?_, by rw [if_neg hl], Or.inl ⟨?_, ?_⟩⟩, ⟨e2'.off, e2'.cut, e2'.sp, e2'.seq⟩⟩
        · show K5.d.now = _; rw [e3]; rfl
        · constructor
          · show K5.d.closed = _; rw [e3]; rfl
          · show K5.d.opn = _; rw [e3]; rfl
        · show K5.d.reset = _; rw [e3]; rfl
        · show K5.d.kicks = _; rw [e3]; rfl
        · show K5.d.begun = _; rw [e3]; rfl
end
end Go.Proofs.YtdpdbfhbojgigacGreatDoor

namespace Go.Proofs.YtdpdbfhbojgigacGreatDoor
open Go

/-- Nothing of it is ever bad. -/
def quietE (e : EntD) : Prop := e.cnt = -1 ∧ e.gaps = [] ∧ e.edges = []
theorem kindL_quiet {e : EntD} (h : quietE e) (l : List MkD) (cyc : Int) : kindL e l cyc = 0 := by
  obtain ⟨h1, h2, h3⟩ := h
  have hf : flowBad e l cyc = false := flowBad_no (fun k _ => by
    unfold fbadI
    split
    · simp [fbadM, bearsE, h3]
    · rfl)
  unfold kindL
  rw [if_neg (by rw [h1]; omega), h2, if_neg (by simp), hf, if_neg (by simp)]
/-- How often, and when last, it is kicked behind m cycles. -/
def qk (cl cy : Nat) : Nat → Nat × Nat
  | 0 => (0, 0)
  | m + 1 => if cl < (m + 1) * cy - (qk cl cy m).2 then ((qk cl cy m).1 + 1, (m + 1) * cy) else qk cl cy m
theorem qk_le (cl cy : Nat) : ∀ m, (qk cl cy m).2 ≤ m * cy ∧ m * cy - (qk cl cy m).2 ≤ cl
  | 0 => ⟨by simp [qk], by simp [qk]⟩
  | m + 1 => by
    obtain ⟨h1, h2⟩ := qk_le cl cy m
    unfold qk
    split
    · exact ⟨Nat.le_refl _, by show (m + 1) * cy - (m + 1) * cy ≤ cl; omega⟩
    · rename_i h
      rw [Nat.succ_mul] at h ⊢
      exact ⟨by omega, by omega⟩
structure Quiet (c : CfgD) (K : KSt) : Prop where
  st : K.t.st = 0
  ls : ∀ s ∈ K.ls, s.run = 0 ∧ s.ex = false
  none : K.L = []
  cl : K.d.closed = c.closed.toNat
  op : K.d.opn = c.opn.toNat
  res : K.d.reset = false
  kk : (K.d.kicks, K.d.begun) = qk c.closed.toNat c.cycle.toNat (K.d.now / c.cycle.toNat)
section
variable {c : CfgD} {K : KSt} {k W S : Nat}
theorem Quiet.endsQ (hq : ∀ e ∈ c.ents, quietE e ∧ 0 ≤ e.tol) (h : ∀ s ∈ K.ls, s.run = 0 ∧ s.ex = false) (hl : K.ls.length = c.ents.length) : ∀ n, (K.ends c n).2 = 0 ∧ (∀ s ∈ (K.ends c n).1.ls, s.run = 0 ∧ s.ex = false) ∧ (K.ends c n).1.L = K.L ∧ (K.ends c n).1.d = K.d ∧ (K.ends c n).1.t = K.t ∧ (K.ends c n).1.ls.length = c.ents.length
  | 0 => ⟨rfl, h, rfl, rfl, rfl, hl⟩
  | n + 1 => by
    obtain ⟨i1, i2, i3, i4, i5, i6⟩ := Quiet.endsQ hq h hl n
    have e : K.ends c (n + 1) = (K.ends c n).1.endOne c n := by
      show (if (K.ends c n).2 = 0 then (K.ends c n).1.endOne c n else K.ends c n) = _
      rw [if_pos i1]
    rw [e]
    unfold KSt.endOne
    split
    · exact ⟨rfl, i2, i3, i4, i5, i6⟩
    · rename_i s hs
      obtain ⟨s1, s2⟩ := i2 s (List.mem_of_getElem? hs)
      have hn : n < c.ents.length := by rw [← i6]; exact (List.getElem?_eq_some_iff.1 hs).1
      have hm : c.ents.getD n noEnt ∈ c.ents := by
        rw [List.getD_eq_getElem?_getD, List.getElem?_eq_getElem hn]
        exact List.getElem_mem hn
      obtain ⟨q1, q2⟩ := hq _ hm
      have hr1 : s.run1 (c.ents.getD n noEnt) = 0 := by unfold LSt.run1; rw [kindL_quiet q1, if_pos rfl]
      have ht : s.turns (c.ents.getD n noEnt) = false := by
        unfold LSt.turns
        rw [hr1, decide_eq_false (by omega)]
        simp
      rw [if_neg (by rw [ht]; simp)]
      refine ⟨rfl, fun x hx => ?_, i3, i4, i5, by show (List.set _ _ _).length = _; rw [List.length_set]; exact i6⟩
      rcases List.mem_or_eq_of_mem_set hx with hx | rfl
      · exact i2 x hx
      · unfold LSt.fin
        split
        · exact ⟨hr1, by show (s.ex || _) = false; rw [s2, hr1, decide_eq_false (by omega)]; rfl⟩
        · exact ⟨s1, s2⟩
theorem worst_quiet {ls : List LSt} (h : ∀ s ∈ ls, s.run = 0 ∧ s.ex = false) : worstOf (ls.map fun s => statB s.status) = 0 := by
  have hs : ∀ s ∈ ls, statB s.status = statB 0 ∨ statB s.status = statB 1 := fun s hm => by
    obtain ⟨a, b⟩ := h s hm
    unfold LSt.status
    rw [a, b]
    split
    · exact Or.inr rfl
    · exact Or.inl rfl
  have no : ∀ x : ByteArray, x ≠ statB 0 → x ≠ statB 1 → hasB (ls.map fun s => statB s.status) x = false := fun x h0 h1 => by
    unfold hasB
    rw [List.any_eq_false]
    intro y hy
    obtain ⟨s, hm, rfl⟩ := List.mem_map.1 hy
    rcases hs s hm with e | e
    · rw [e]; simp; exact fun e2 => h0 e2.symm
    · rw [e]; simp; exact fun e2 => h1 e2.symm
  unfold worstOf
  rw [no expiredB (by unfold expiredB statB; simp) (by unfold expiredB statB; simp), no failedB (by unfold failedB statB; simp) (by unfold failedB statB; simp)]
  rfl
theorem Quiet.tick (h : Quiet c K) (hr : KRt c) (hq : ∀ e ∈ c.ents, quietE e) (hl : K.ls.length = c.ents.length) (hoff : K.c.off = false) : Quiet c (K.tick c).1 ∧ (K.tick c).2 = 0 ∧ (K.tick c).1.d.now = K.d.now + 1 := by
  have hon : K.on = 0 := KSt.on_zero.2 ⟨hoff, h.res⟩
  have hcy := hr.cy
  have hle := hr.le
  have hop := hr.op
  have hcl := hr.cl
  obtain ⟨cy, hcy2⟩ : ∃ cy, cy = c.cycle.toNat := ⟨_, rfl⟩
  have cy1 : 1 ≤ cy := by omega
  have hkk := h.kk
  rw [← hcy2] at hkk
  have hb : K.d.begun = (qk c.closed.toNat cy (K.d.now / cy)).2 := by rw [← hkk]
  obtain ⟨g1, g2⟩ := qk_le c.closed.toNat cy (K.d.now / cy)
  rw [← hb] at g1 g2
  have hdm := Nat.div_add_mod K.d.now cy
  have hmm := Nat.mod_lt K.d.now (show 0 < cy by omega)
  rw [Nat.mul_comm] at hdm
  have nores : ¬ K.d.closed + K.d.opn < K.d.now + 1 - K.d.begun := by rw [h.cl, h.op]; omega
  have hre : K.ticked.d.reset = false := decide_eq_false nores
  unfold KSt.tick
  rw [if_neg (by omega), if_neg (by rw [hre]; simp), ← hcy2]
  by_cases hm : (K.d.now + 1) % cy = 0
  · have hdiv : (K.d.now + 1) / cy = K.d.now / cy + 1 := Nat.succ_div_of_mod_eq_zero hm
    have hmul : (K.d.now / cy + 1) * cy = K.d.now + 1 := by rw [← hdiv]; exact Nat.div_mul_cancel (Nat.dvd_of_mod_eq_zero hm)
    have hm2 : K.ticked.d.now % cy = 0 := hm
    rw [if_neg (by omega)]
    obtain ⟨e1, e2, e3, e4, e5, e6⟩ := Quiet.endsQ (K := K.ticked) (fun e he => ⟨hq e he, (hr.each e he).2.2.1⟩) h.ls hl c.ents.length
    rw [if_pos e1]
    generalize (K.ticked.ends c c.ents.length).1 = K5 at e2 e3 e4 e5 e6
    have hst : (K5.t.fin (K5.ls.map fun (s : LSt) => statB s.status)).st = 0 := by
      rw [e5]
      show (K.t.fin _).st = 0
      unfold TSt.fin
      rw [h.st, if_neg (by decide), if_neg (by decide), worst_quiet e2]
      rfl
    show Quiet c K5.last ∧ 0 = 0 ∧ K5.last.d.now = _
    have hop5 : K5.d.isOpen = decide (c.closed.toNat < K.d.now + 1 - K.d.begun) := by
      rw [e4]
      unfold DSt.isOpen
      rw [hre]
      show (!false && decide (K.d.closed < K.d.now + 1 - K.d.begun)) = _
      rw [h.cl]
      rfl
    by_cases ho : c.closed.toNat < K.d.now + 1 - K.d.begun
    · have hL : K5.last = { { K5 with t := K5.t.fin (K5.ls.map fun (s : LSt) => statB s.status) } with d := K5.d.kick } := by
        unfold KSt.last
        simp only []
        rw [if_pos ⟨by rw [hst]; decide, by rw [hop5]; exact decide_eq_true ho⟩]
      rw [hL]
      refine ⟨⟨hst, e2, e3.trans h.none, ?_, ?_, ?_, ?_⟩, rfl, ?_⟩
      · show K5.d.closed = _; rw [e4]; exact h.cl
      · show K5.d.opn = _; rw [e4]; exact h.op
      · show K5.d.reset = _; rw [e4]; exact hre
      · show (K5.d.kicks + 1, K5.d.now) = _
        rw [e4, ← hcy2]
        show (K.d.kicks + 1, K.d.now + 1) = qk c.closed.toNat cy ((K.d.now + 1) / cy)
        rw [hdiv]
        unfold qk
        rw [if_pos (by rw [hmul, ← hb]; exact ho), hmul, ← hkk]
      · show K5.d.now = _; rw [e4]; rfl
    · have hL : K5.last = { K5 with t := K5.t.fin (K5.ls.map fun (s : LSt) => statB s.status) } := by
        unfold KSt.last
        simp only []
        rw [if_neg (fun x => by have := x.2; rw [hop5] at this; exact ho (of_decide_eq_true this))]
      rw [hL]
      refine ⟨⟨hst, e2, e3.trans h.none, ?_, ?_, ?_, ?_⟩, rfl, ?_⟩
      · show K5.d.closed = _; rw [e4]; exact h.cl
      · show K5.d.opn = _; rw [e4]; exact h.op
      · show K5.d.reset = _; rw [e4]; exact hre
      · show (K5.d.kicks, K5.d.begun) = _
        rw [e4, ← hcy2]
        show (K.d.kicks, K.d.begun) = qk c.closed.toNat cy ((K.d.now + 1) / cy)
        rw [hdiv]
        unfold qk
        rw [if_neg (by rw [hmul, ← hb]; exact ho)]
        exact hkk
      · show K5.d.now = _; rw [e4]; rfl
  · have hm2 : K.ticked.d.now % cy ≠ 0 := hm
    rw [if_pos hm2]
    refine ⟨⟨h.st, h.ls, h.none, h.cl, h.op, hre, ?_⟩, rfl, rfl⟩
    rw [← hcy2]
    show (K.d.kicks, K.d.begun) = qk c.closed.toNat cy ((K.d.now + 1) / cy)
    rw [Nat.succ_div_of_mod_ne_zero hm]
    exact hkk
end
end Go.Proofs.YtdpdbfhbojgigacGreatDoor

namespace Go.Proofs.YtdpdbfhbojgigacGreatDoor
open Go.RowKit Go.Extern.Stop Go.Stop Go.Extern

/-- The last eight. -/
def last8 (D : List Rec) : List Rec := D.drop (D.length - 8)
theorem last8_keep (D : List Rec) (x : Rec) : keepL (last8 D) x = last8 (D ++ [x]) := by
  unfold keepL last8
  rw [List.length_append, List.length_singleton, List.length_drop]
  by_cases h : 8 ≤ D.length
  · rw [if_pos (by omega), List.tail_drop, List.drop_append, show D.length + 1 - 8 = D.length - 8 + 1 by omega, show D.length - 8 + 1 - D.length = 0 by omega]; rfl
  · rw [if_neg (by omega), show D.length - 8 = 0 by omega, show D.length + 1 - 8 = 0 by omega]; rfl
theorem last8_last {s : CSt} {D : List Rec} (h : Inv s D) : (lastR (last8 D)).seq = D.length := by
  unfold lastR last8
  by_cases h0 : D.length = 0
  · have : D = [] := List.length_eq_zero_iff.1 h0
    subst this; rfl
  · rw [List.getLast?_eq_getElem?, List.length_drop, List.getElem?_drop, show D.length - 8 + (D.length - (D.length - 8) - 1) = D.length - 1 by omega, List.getElem?_eq_getElem (by omega)]
    show (D[D.length - 1]).seq = _
    rw [h.seq]; omega

theorem Inv.any {s s' : CSt} {D : List Rec} (h : Inv s D) (hb : s'.bytes = s.bytes) (hz : s'.size = s.size) : Inv s' D := by
  have e : ∀ i, sr s' i = sr s i := fun i => by unfold sr; rw [hb]
  exact ⟨⟨by rw [hb]; exact h.big.len, by rw [hz]; exact h.big.size, by rw [hz]; exact h.big.top⟩, h.seq, fun j a b => by rw [e]; exact h.i1 j a b, by rw [e]; exact h.i2, fun i a b => by rw [e]; exact h.i3 i a b⟩
end Go.Proofs.YtdpdbfhbojgigacGreatDoor

namespace Go.Proofs.YtdpdbfhbojgigacGreatDoor
open Go

/-- D: all records that were ever logged. -/
structure KInv (K : KSt) (D : List Rec) : Prop where
  inv : Inv K.c D
  L : K.L = last8 D
section
variable {c : CfgD} {K : KSt} {k W S : Nat} {D : List Rec}
theorem KInv.lastSeq (h : KInv K D) : (lastR K.L).seq = D.length := by rw [h.L]; exact last8_last h.inv
theorem KInv.other (h : KInv K D) {K' : KSt} (hc : K'.c = K.c) (hL : K'.L = K.L) : KInv K' D := ⟨by rw [hc]; exact h.inv, by rw [hL]; exact h.L⟩
theorem KInv.app (h : KInv K D) (ho : K.c.off = false) (e kd t : Nat) (h1 : e ≤ 255) (h2 : kd ≤ 255) (h3 : t ≤ 281474976710655) (hD : D.length < 4294967295) : ∃ D', KInv (K.app e kd t).1 D' ∧ D <+: D' ∧ D'.length ≤ D.length + 1 := by
  have hs := h.lastSeq
  have hx : (nextR K.L e kd t).Fits := ⟨by show 1 ≤ (lastR K.L).seq + 1; omega, by show (lastR K.L).seq + 1 < 4294967296; omega, by show e < 256; omega, by show kd < 256; omega, by show t < 281474976710656; omega⟩
  have hsq : (nextR K.L e kd t).seq = D.length + 1 := by show (lastR K.L).seq + 1 = _; rw [hs]
  have hq : ((nextR K.L e kd t).seq - 1) % 9 = D.length % 9 := by rw [hsq]; rfl
  unfold KSt.app
  split
  · exact ⟨D, h, List.prefix_refl _, by omega⟩
  · split
    · exact ⟨D, h, List.prefix_refl _, by omega⟩
    · rcases put_cases h.inv.big ho (nextR K.L e kd t) with ⟨p1, p2, -, p4⟩ | ⟨p1, p2, p3⟩
      · rw [if_pos p1]
        rw [hq] at p2 p4
        refine ⟨D ++ [nextR K.L e kd t], ⟨h.inv.step p2 hx hsq p4, ?_⟩, List.prefix_append _ _, by simp⟩
        show keepL K.L _ = _
        rw [h.L, last8_keep]
      · rw [if_neg (by omega)]
        rw [hq] at p2 p3
        exact ⟨D, ⟨h.inv.cut p2 p3, h.L⟩, List.prefix_refl _, by omega⟩
theorem KInv.ends (h : KInv K D) (hf : KFit c K k W) (ho : K.c.off = false) (hi : ∀ s ∈ K.ls, LFit s (k + K.d.now - 1)) (h1 : 1 ≤ K.d.now) (hn : K.d.now ≤ 281474976710655) : ∀ n, n ≤ 8 → D.length + n < 4294967295 → ∃ D', KInv (K.ends c n).1 D' ∧ D <+: D' ∧ D'.length ≤ D.length + n
  | 0, _, _ => ⟨D, h, List.prefix_refl _, Nat.le_refl _⟩
  | n + 1, hn8, hD => by
    obtain ⟨D', a1, a2, a3⟩ := KInv.ends h hf ho hi h1 hn n (by omega) (by omega)
    obtain ⟨f1, f2, f3, -, -⟩ := hf.ends ho hi h1 n
    show ∃ D', KInv (if (K.ends c n).2 = 0 then (K.ends c n).1.endOne c n else K.ends c n).1 D' ∧ _ ∧ _
    split
    · rename_i h0
      unfold KSt.endOne
      split
      · exact ⟨D', a1, a2, by omega⟩
      · rename_i s hs
        split
        · have hk := kind_le (c.ents.getD n noEnt) s
          obtain ⟨D2, b1, b2, b3⟩ := (a1.other (K' := (K.ends c n).1.setL n (s.fin (c.ents.getD n noEnt))) rfl rfl).app (f2 h0).1 n (s.kind (c.ents.getD n noEnt)).toNat (K.ends c n).1.d.now (by omega) (by omega) (by rw [f3]; exact hn) (by omega)
          exact ⟨D2, b1, a2.trans b2, by omega⟩
        · exact ⟨D', a1.other rfl rfl, a2, by omega⟩
    · exact ⟨D', a1, a2, by omega⟩
theorem last_c : K.last.c = K.c ∧ K.last.L = K.L := by unfold KSt.last; simp only []; split <;> exact ⟨rfl, rfl⟩
theorem KInv.tick (h : KInv K D) (hf : KFit c K k W) (hr : KRt c) (hn : K.d.now < 1099511627776) (hD : D.length + 8 < 4294967295) : ∃ D', KInv (K.tick c).1 D' ∧ D <+: D' ∧ D'.length ≤ D.length + 8 := by
  unfold KSt.tick
  split
  · exact ⟨D, h, List.prefix_refl _, by omega⟩
  · rename_i hon
    obtain ⟨ho, -⟩ := KSt.on_zero.1 (show K.on = 0 by omega)
    obtain ⟨t1, t2, t3⟩ := hf.ticked hn
    have hnn := hr.nn
    split
    · exact ⟨D, h.other rfl rfl, List.prefix_refl _, by omega⟩
    · split
      · exact ⟨D, h.other rfl rfl, List.prefix_refl _, by omega⟩
      · obtain ⟨D', a1, a2, a3⟩ := (h.other (K' := K.ticked) rfl rfl).ends t1 ho t2 t3 (by show K.d.now + 1 ≤ _; omega) c.ents.length hnn (by omega)
        split
        · exact ⟨D', a1.other last_c.1 last_c.2, a2, by omega⟩
        · exact ⟨D', a1, a2, by omega⟩
theorem KInv.ticks (hr : KRt c) : ∀ (n : Nat) (K : KSt) (D : List Rec), KInv K D → KFit c K k (144 * K.d.now) → K.d.now + n ≤ 1099511627776 → D.length + 8 * n < 4294967295 → ∃ D', KInv (K.ticks c n).1 D' ∧ D <+: D' ∧ D'.length ≤ D.length + 8 * n
  | 0, K, D, h, _, _, _ => ⟨D, h, List.prefix_refl _, Nat.le_refl _⟩
  | n + 1, K, D, h, hf, hn, hD => by
    obtain ⟨D1, a1, a2, a3⟩ := h.tick hf hr (by omega) (by omega)
    show ∃ D', KInv (if (K.tick c).2 = 0 then (K.tick c).1.ticks c n else K.tick c).1 D' ∧ _ ∧ _
    split
    · have h2 := tick_now c K
      obtain ⟨D2, b1, b2, b3⟩ := KInv.ticks hr n (K.tick c).1 D1 a1 (hf.tick hr (by omega)) (by omega) (by omega)
      exact ⟨D2, b1, a2.trans b2, by omega⟩
    · exact ⟨D1, a1, a2, by omega⟩
theorem KInv.begin (h : KInv K D) (i : Int) : KInv (K.begin i).1 D := by unfold KSt.begin; split; exact h; split; exact h; split; exact h; exact h.other rfl rfl
theorem KInv.stop (h : KInv K D) (i : Int) : KInv (K.stop i).1 D := by unfold KSt.stop; split; exact h; split; exact h; split; exact h; exact h.other rfl rfl
theorem KInv.report (h : KInv K D) (i p : Int) : KInv (K.report c i p).1 D := by unfold KSt.report; split; exact h; split; exact h; split; exact h; exact h.other rfl rfl
theorem KInv.cut (h : KInv K D) (n : Int) : KInv (K.cut n).1 D := by
  unfold KSt.cut
  split
  · exact h
  · split
    · exact h
    · exact ⟨h.inv.any rfl rfl, h.L⟩
theorem KInv.opened (h : Inv K.c D) : KInv (KSt.opened c K) D := by
  have e : openL (K.c.bytes.take K.c.size) = last8 D := by rw [openL_take _ _ h.big.size, h.opens, last8]
  unfold KSt.opened
  rw [e]
  exact ⟨h, rfl⟩
theorem KInv.boot (h : KInv K D) : KInv (K.boot c).1 D := by
  unfold KSt.boot
  split
  · exact h
  · exact KInv.opened (h.inv.any rfl rfl)
theorem KInv.new : KInv (KSt.new c (CSt.new 4096)) [] := KInv.opened (Inv.new 4096 (by decide) (by decide))
theorem Calm.begin (h : Calm K S) (i : Int) : Calm (K.begin i).1 S := by unfold KSt.begin; split; exact h; split; exact h; split; exact h; exact h.setL _ _
theorem Calm.stop (h : Calm K S) (i : Int) : Calm (K.stop i).1 S := by unfold KSt.stop; split; exact h; split; exact h; split; exact h; exact h.setL _ _
theorem Calm.report (h : Calm K S) (i p : Int) : Calm (K.report c i p).1 S := by unfold KSt.report; split; exact h; split; exact h; split; exact h; exact h.setL _ _
theorem Calm.boot (h : Calm K S) (hI : KInv K D) : Calm (K.boot c).1 S := by
  have hI2 := (hI.boot (c := c)).lastSeq
  have hs := h.seq
  rw [hI.lastSeq] at hs
  unfold KSt.boot at hI2 ⊢
  split
  · exact h
  · rename_i ho
    rw [if_neg ho] at hI2
    exact ⟨rfl, rfl, rfl, by rw [hI2]; exact hs⟩
theorem Calm.new : Calm (KSt.new c (CSt.new 4096)) 0 := ⟨rfl, rfl, rfl, by rw [(KInv.new (c := c)).lastSeq]; exact Nat.le_refl _⟩
end
end Go.Proofs.YtdpdbfhbojgigacGreatDoor

namespace Go.Proofs.YtdpdbfhbojgigacGreatDoor
open Go

section
variable {c : CfgD} {K : KSt} {k W : Nat}
theorem Quiet.setL (h : Quiet c K) {i : Nat} {s : LSt} (hs : s.run = 0 ∧ s.ex = false) : Quiet c (K.setL i s) :=
  ⟨h.st, fun x hx => by
    rcases List.mem_or_eq_of_mem_set hx with hx | rfl
    · exact h.ls x hx
    · exact hs, h.none, h.cl, h.op, h.res, h.kk⟩
theorem Quiet.begin (h : Quiet c K) (i : Int) : Quiet c (K.begin i).1 := by
  unfold KSt.begin
  split
  · exact h
  · split
    · exact h
    · split
      · exact h
      · rename_i s hs
        refine h.setL ?_
        obtain ⟨a, b⟩ := h.ls s (List.mem_of_getElem? hs)
        unfold LSt.begin
        split
        · exact ⟨a, b⟩
        · exact ⟨rfl, rfl⟩
theorem Quiet.stop (h : Quiet c K) (i : Int) : Quiet c (K.stop i).1 := by
  unfold KSt.stop
  split
  · exact h
  · split
    · exact h
    · split
      · exact h
      · rename_i s hs
        exact h.setL (h.ls s (List.mem_of_getElem? hs))
theorem Quiet.report (h : Quiet c K) (i p : Int) : Quiet c (K.report c i p).1 := by
  unfold KSt.report
  split
  · exact h
  · split
    · exact h
    · split
      · exact h
      · rename_i s hs
        refine h.setL ?_
        have a := h.ls s (List.mem_of_getElem? hs)
        unfold LSt.rep
        split
        · exact a
        · exact a
/-- Quiet, and power is there. -/
structure QC (c : CfgD) (K : KSt) : Prop where
  q : Quiet c K
  a : Calm K 0
theorem QC.begin (h : QC c K) (i : Int) : QC c (K.begin i).1 := ⟨h.q.begin i, h.a.begin i⟩
theorem QC.stop (h : QC c K) (i : Int) : QC c (K.stop i).1 := ⟨h.q.stop i, h.a.stop i⟩
theorem QC.report (h : QC c K) (i p : Int) : QC c (K.report c i p).1 := ⟨h.q.report i p, h.a.report i p⟩
theorem QC.tick (h : QC c K) (hr : KRt c) (hq : ∀ e ∈ c.ents, quietE e) (hf : KFit c K k W) (hn : K.d.now < 1099511627776) : QC c (K.tick c).1 ∧ (K.tick c).2 = 0 ∧ (K.tick c).1.d.now = K.d.now + 1 := by
  obtain ⟨a1, a2, a3⟩ := h.q.tick hr hq hf.len h.a.off
  obtain ⟨-, b2⟩ := h.a.tick hf hr hn h.q.res (by decide)
  exact ⟨⟨a1, b2.off, b2.cut, b2.sp, by rw [a1.none]; exact Nat.le_refl _⟩, a2, a3⟩
theorem QC.ticks (hr : KRt c) (hq : ∀ e ∈ c.ents, quietE e) : ∀ (n : Nat) (K : KSt), QC c K → KFit c K k (144 * K.d.now) → K.d.now + n ≤ 1099511627776 → QC c (K.ticks c n).1 ∧ (K.ticks c n).2 = 0 ∧ (K.ticks c n).1.d.now = K.d.now + n
  | 0, K, h, _, _ => ⟨h, rfl, rfl⟩
  | n + 1, K, h, hf, hn => by
    obtain ⟨a1, a2, a3⟩ := h.tick hr hq hf (by omega)
    obtain ⟨b1, b2, b3⟩ := QC.ticks hr hq n (K.tick c).1 a1 (hf.tick hr (by omega)) (by omega)
    show QC c (if (K.tick c).2 = 0 then (K.tick c).1.ticks c n else K.tick c).1 ∧ (if (K.tick c).2 = 0 then (K.tick c).1.ticks c n else K.tick c).2 = 0 ∧ (if (K.tick c).2 = 0 then (K.tick c).1.ticks c n else K.tick c).1.d.now = _
    rw [if_pos a2]
    exact ⟨b1, b2, by omega⟩
end
end Go.Proofs.YtdpdbfhbojgigacGreatDoor

namespace Go.Proofs.YtdpdbfhbojgigacGreatDoor
open Go

theorem krt_of {c : CfgD} (h : (cfgErr c).1 = 0) : KRt c := by
  have ok := okC_of h
  have sz := cfg_size h
  refine ⟨ok.closed, ok.opn, ok.cycle, ok.delay, ?_, ok.many, fun e he => ?_⟩
  · unfold cfgErr at h
    split at h
    · rename_i h0
      unfold wholeErr at h0
      obtain ⟨-, h0⟩ := firstOf_cons (by simp) h0
      obtain ⟨-, h0⟩ := firstOf_cons (by simp) h0
      obtain ⟨-, h0⟩ := firstOf_cons (by simp) h0
      obtain ⟨-, h0⟩ := firstOf_cons (by simp) h0
      obtain ⟨q5, -⟩ := firstOf_cons (by simp) h0
      simp at q5
      exact q5
    · rename_i h0; exact absurd h h0
  · have oe := ok.ents e he
    have se := sz e he
    have nm : ∀ s : ByteArray, isName s = true → s.size ≤ 12 := fun s hs => by
      unfold isName at hs
      simp only [Bool.and_eq_true, decide_eq_true_eq] at hs
      exact hs.1.1.2
    have n1 := nm _ oe.name
    have n2 := se.pts
    have n3 := se.gaps
    have n4 := se.edges
    have n5 := se.first
    have n6 := se.last
    refine ⟨⟨by omega, by omega, fun p hp => Nat.le_trans (nm p (oe.pn p hp)) (by decide), by omega, by omega, by omega, by omega⟩, ?_, oe.tol.1, fun p hp => ?_⟩
    · rcases oe.cnt with hc | hc
      · omega
      · exact hc.2
    · obtain ⟨h1, h2⟩ := oe.edges p hp
      exact ⟨wf64_of (by omega) (by omega), wf64_of (by omega) (by omega)⟩
end Go.Proofs.YtdpdbfhbojgigacGreatDoor
