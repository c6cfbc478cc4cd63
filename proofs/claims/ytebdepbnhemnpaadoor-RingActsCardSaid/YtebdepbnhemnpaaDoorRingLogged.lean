/-
  nightwatchlaw1.logged by a contract: it answers yes. Conditions: the sentinels are in memory.
-/
import Derived.Test.YtebdepbnhemnpaaDoorRingSame
namespace Go.Proofs.YtebdepbnhemnpaaDoor
open Go.RowKit Go.Extern.Stop Go.Stop Go.Extern

theorem write_uncut {s : CSt} (h : Big s) (ho : s.off = false) (hc : s.cut = false) (q p : Nat) (l : List UInt8) (hq : q < 9) (h2 : p + l.length ≤ q * 17 + 17) : s.writeE p l = (s.puts p l, 0) := by
  have hz := h.size
  have he : s.err p l.length = 0 := by
    unfold CSt.err
    rw [if_neg (by omega), ho]; rfl
  unfold CSt.writeE
  rw [if_pos he]
  unfold CSt.write
  rw [if_neg (by rw [hc]; simp)]
theorem zero_uncut {s : CSt} (h : Big s) (ho : s.off = false) (hc : s.cut = false) (q : Nat) (hq : q < 9) : ∃ a, s.zeroAt (q * 17 + 16) = (a, 0) ∧ Big a ∧ a.off = false ∧ a.cut = false := by
  have he : s.err ((q * 17 + 16 : Nat) : Int) 1 = 0 := by
    unfold CSt.err
    have := h.size
    rw [if_neg (by omega), ho]; rfl
  unfold CSt.zeroAt
  rw [if_pos he]
  by_cases hb : s.bytes.getD (q * 17 + 16) 0 = 0
  · rw [if_pos hb]; exact ⟨s, rfl, h, ho, hc⟩
  · rw [if_neg hb, write_uncut h ho hc q _ [0] hq (by simp)]
    exact ⟨_, rfl, h.puts _ _, by rw [CSt.puts_off]; exact ho, by rw [CSt.puts_cut]; exact hc⟩
theorem put_uncut {s : CSt} (h : Big s) (ho : s.off = false) (hc : s.cut = false) (r : Rec) : (s.putRec r).2 = 0 ∧ (s.putRec r).1.cut = false := by
  have hq : (r.seq - 1) % 9 < 9 := Nat.mod_lt _ (by decide)
  unfold CSt.putRec
  generalize (r.seq - 1) % 9 = q at *
  obtain ⟨a, e, ba, oa, ca⟩ := zero_uncut h ho hc q hq
  have l16 := enc16_length r
  simp only [e, if_true]
  rw [write_uncut ba oa ca q _ (enc16 r) hq (by omega)]
  simp only [if_true]
  rw [write_uncut (ba.puts _ _) (by rw [CSt.puts_off]; exact oa) (by rw [CSt.puts_cut]; exact ca) q _ [165] hq (by simp)]
  exact ⟨rfl, by rw [CSt.puts_cut, CSt.puts_cut]; exact ca⟩

theorem new_err (n : Nat) (h : 153 ≤ n) : (CSt.new n).err 0 153 = 0 := by
  unfold CSt.err CSt.new
  simp only []
  rw [if_neg (by omega)]; rfl

set_option maxRecDepth 100000 in
set_option maxHeartbeats 1000000 in
theorem logged_any (A : Nat → Addr) (w : World) (hs : Sen4 A w) (hgm : 8 ≤ w.heap.size) :
    Calls Tryd.prog 32 #[] w fun e w' => e = .returned (.bool true) ∧ Below w.heap.size w w' := by
  have hI := Inv.new 4096 (by decide) (by decide)
  have HO : Hid (openL (CSt.new 4096).bytes = []) := by
    show _ = _
    rw [hI.opens]; rfl
  have HP : Hid (((CSt.new 4096).putRec (nextR [] 1 2 3)).2 = 0) := (put_uncut hI.big rfl rfl _).1
  have HE : Hid _ := new_err 4096 (by decide)
  clear hI
  go_enter Tryd.func32, Tryd.ntmps32
  go_wp2_with fail
  refine (new_in 4096 w (by decide)).mono ?_
  rintro e w1 ⟨rfl, hb1, hc1, hs1⟩
  have S1 := hs.below hb1
  go_wp2_with fail
  refine (open_on A w.heap.size _ w1 hc1 S1 HE.out).mono ?_
  rintro e w2 ⟨rb, v, rfl, hr2, hb2⟩
  rw [HO.out] at hr2
  have S2 := S1.below hb2
  have C2 := hc1.below hb2
  have hlo := hr2.lo
  have b2 := hb1.trans (hb2.mono (by omega))
  have s2 := hb2.size
  go_wp2_with fail
  refine (append_go A w1.heap.size rb w.heap.size v [] (CSt.new 4096) 1 2 3 w2 hr2 C2 S2 hgm (by omega) ⟨by decide, by decide⟩ (by decide) (by decide) (by decide) (by decide) (by decide)).mono ?_
  rintro e w3 (⟨j, hj, -⟩ | ⟨-, rfl, ⟨v3, hr3, -⟩, -, ho3⟩)
  · rw [HP.out] at hj; cases hj
  have b3 : Below w.heap.size w w3 := Off.below b2 ho3 (by omega) (by
    intro i hi
    rcases hi with e | e | e
    · omega
    · omega
    · have := (hr2.recs.lt i e).1; omega)
  have s3 := ho3.size
  have EV : (nextR [] 1 2 3).val = .agg #[.int .i64 1, .int .i64 1, .int .i64 2, .int .i64 3] := rfl
  rw [EV]
  have KL : keepL [] (nextR [] 1 2 3) = [nextR [] 1 2 3] := rfl
  rw [KL] at hr3
  have B4 := (Below.refl w3.heap.size w3).alloc (Nat.le_refl _) (.cells #[.int .i64 1, .int .i64 1, .int .i64 2, .int .i64 3] 64)
  have LA := last_any w1.heap.size rb w.heap.size v3 [nextR [] 1 2 3] false _ (hr3.below B4) (by decide)
  have EL : lastR [nextR [] 1 2 3] = nextR [] 1 2 3 := rfl
  rw [EL, EV] at LA
  have HLA : Hid _ := LA
  clear LA EL KL EV
  go_wp2_with fail
  refine Calls.mono HLA.out ?_
  rintro e w5 ⟨rfl, hb5⟩
  have s5 := hb5.size
  simp only [World.size_alloc] at s5
  have X := RecRow.new w3 (nextR [] 1 2 3)
  have X5 := (X.below hb5 X.lt).at
  have x0 : w5.cell? ⟨w3.heap.size, 0, .none⟩ = some (.int .i64 1) := X5.c0
  have x1 : w5.cell? ⟨w3.heap.size, 1, .none⟩ = some (.int .i64 1) := X5.c1
  have x2 : w5.cell? ⟨w3.heap.size, 2, .none⟩ = some (.int .i64 2) := X5.c2
  have x3 : w5.cell? ⟨w3.heap.size, 3, .none⟩ = some (.int .i64 3) := X5.c3
  have hne : ¬ w3.heap.size = w5.heap.size := by omega
  have hlt35 : w3.heap.size < w5.heap.size := by omega
  go_wp2
  go_ret
  exact ⟨rfl, ((b3.trans (B4.mono (by omega))).trans (hb5.mono (by simp; omega))).alloc (by omega) _⟩
end Go.Proofs.YtebdepbnhemnpaaDoor
