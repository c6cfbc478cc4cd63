/-
  nightwatchlaw2.LocalStays for one to four points and at most sixty numbers: true. Conditions: the list lies in memory.
-/
import Derived.Test.YtpaolneaomeoiabDoorLtWalk
namespace Go.Proofs.YtpaolneaomeoiabDoor
open Go.RowKit Go.Extern.Stop Go.Stop Go.Extern

section
variable {w0 w : World} {b : Nat} {e : EntD} {E : EA} {n n' : NSt}
def fourP : List ByteArray := [⟨#[112]⟩, ⟨#[113]⟩, ⟨#[114]⟩, ⟨#[115]⟩]
def stayE (ps : List ByteArray) : EntD := ⟨⟨#[]⟩, 0, ps, 0, 1, 1, [], [], [], []⟩
def stayW (pt ah : Int) : WSt := ⟨⟨pt, 1, 1, 0⟩, ⟨[], false⟩, ⟨ah, false⟩⟩
theorem stay_new {ps : List ByteArray} (h : 1 ≤ ps.length) : WSt.new (stayE ps) = stayW 0 (-1) := by
  unfold WSt.new stayW stayE
  have : ptOf 0 ps.length = 0 := by unfold ptOf; rw [if_neg (by omega)]
  simp only [this]
  rfl
theorem stayE_small {ps : List ByteArray} (h : ps = fourP.take ps.length) (h4 : ps.length ≤ 4) : SmallE (stayE ps) := by
  refine ⟨Nat.zero_le _, by show ps.length ≤ _; omega, fun p hp => ?_, Nat.zero_le _, Nat.zero_le _, Nat.zero_le _, Nat.zero_le _⟩
  have hp' : p ∈ fourP := by
    have : p ∈ ps := hp
    rw [h] at this
    exact List.mem_of_mem_take this
  simp [fourP] at hp'
  rcases hp' with rfl | rfl | rfl | rfl <;> decide
theorem stayE_wf (ps : List ByteArray) : WfE (stayE ps).edges := fun p hp => by simp [stayE] at hp
theorem stay_first {ps : List ByteArray} (h : 1 ≤ ps.length) : NSt.kind (NSt.new (stayE ps)) = 0 ∧ NSt.turns (stayE ps) (NSt.new (stayE ps)) = false ∧ NSt.fin (stayE ps) (NSt.new (stayE ps)) = ⟨stayW 0 (-1), true, 0, false⟩ := by
  unfold NSt.fin NSt.turns NSt.new NSt.run1 NSt.kind
  rw [stay_new h]
  exact ⟨rfl, rfl, rfl⟩
theorem stay_second (ps : List ByteArray) : NSt.kind ⟨stayW 0 (-1), true, 0, false⟩ = 1 ∧ NSt.turns (stayE ps) ⟨stayW 0 (-1), true, 0, false⟩ = true ∧ NSt.fin (stayE ps) ⟨stayW 0 (-1), true, 0, false⟩ = ⟨stayW 0 (-1), true, 1, true⟩ := ⟨rfl, rfl, rfl⟩
theorem ex_turns (h : n.ex = true) : n.turns e = false := by unfold NSt.turns; rw [h]; simp
theorem ex_fin (h : n.ex = true) : (n.fin e).ex = true := by unfold NSt.fin; rw [h]; rfl
theorem run_fin : (n.fin e).run ≤ n.run + 1 := by show n.run1 ≤ _; unfold NSt.run1; split <;> omega
theorem ex_rep (p t : Int) : (n.rep e p t).ex = n.ex ∧ (n.rep e p t).run = n.run := by unfold NSt.rep; split <;> exact ⟨rfl, rfl⟩
theorem ex_status (h : n.ex = true) : stWord n.status = ⟨#[101, 120, 112, 105, 114, 101, 100]⟩ := by
  have : n.status = 3 := by unfold NSt.status; rw [h]; rfl
  rw [this]
  rfl
/-- An expired one, its run at most k. -/
structure ExIn (w0 w : World) (b : Nat) (e : EntD) (E : EA) (k : Nat) : Prop where
  h : ∃ n : NSt, LoIn w0 w b e E (some n) ∧ n.ex = true ∧ n.run ≤ k
theorem ex_end {k : Nat} (h : ExIn w0 w b e E k) (hk : k ≤ 1000000) :
    Calls Tryd.prog 20 #[.pointer (some ⟨b, 0, none⟩)] w fun v w' => ∃ z : Int, v = .returned (.tuple #[.int .i64 z, .bool false]) ∧ ExIn w0 w' b e E (k + 1) := by
  obtain ⟨n, h1, h2, h3⟩ := h.h
  refine (li_end h1 (by omega)).mono ?_
  rintro v w' ⟨rfl, h4, -⟩
  exact ⟨_, by rw [ex_turns h2], ⟨_, h4, ex_fin h2, Nat.le_trans run_fin (by omega)⟩⟩
theorem ex_report {k : Nat} (p t : Int) (h : ExIn w0 w b e E k) (hp : hasP e p = true) (hS : SmallE e) :
    Calls Tryd.prog 23 #[.pointer (some ⟨b, 0, none⟩), .int .i64 p, .int .i64 t] w fun v w' => v = .returned .nilIface ∧ ExIn w0 w' b e E (k + 1) := by
  obtain ⟨n, h1, h2, h3⟩ := h.h
  refine (li_report p t h1 hp hS).mono ?_
  rintro v w' ⟨rfl, h4, -⟩
  exact ⟨rfl, ⟨_, h4, (ex_rep p t).1.trans h2, by rw [(ex_rep p t).2]; omega⟩⟩
theorem ex_stat {k : Nat} (h : ExIn w0 w b e E k) :
    Calls Tryd.prog 21 #[.pointer (some ⟨b, 0, none⟩)] w fun v w' => v = .returned (.string ⟨#[101, 120, 112, 105, 114, 101, 100]⟩) ∧ w' = w := by
  obtain ⟨n, h1, h2, h3⟩ := h.h
  exact li_status h1 (ex_status h2)
theorem ex_stop {k : Nat} (h : ExIn w0 w b e E k) :
    Calls Tryd.prog 25 #[.pointer (some ⟨b, 0, none⟩)] w fun v w' => v = .returned .nilIface ∧ LoIn w0 w' b e E none := by
  obtain ⟨n, h1, h2, h3⟩ := h.h
  refine (li_stop h1).mono ?_
  rintro v w' ⟨rfl, h4, -⟩
  exact ⟨rfl, h4⟩
theorem four_slat {W : World} {g : Nat} {ps : List ByteArray} (h : ps = fourP.take ps.length) (h4 : ps.length ≤ 4) (hr : W.heap[g]? = some (.cells #[.string ⟨#[112]⟩, .string ⟨#[113]⟩, .string ⟨#[114]⟩, .string ⟨#[115]⟩] 9 (0, 0))) : SlAt encS 1 W (.slice (some ⟨g, 0, none⟩) ps.length 4) ps := by
  refine ⟨_, 4, rfl, h4, fun _ => ⟨g, 0, rfl, fun i x hx j u hu => ?_⟩⟩
  have hx' : fourP[i]? = some x := by
    have hlt : i < ps.length := (List.getElem?_eq_some_iff.1 hx).1
    rw [h, List.getElem?_take] at hx
    rw [if_pos hlt] at hx
    exact hx
  have := flat_at (enc := encS) (k := 1) (fun _ => rfl) fourP i j x u hx' hu
  simp only [World.cell?, hr, Nat.zero_add]
  rw [← this]
  show _ = ((#[Value.string ⟨#[112]⟩, .string ⟨#[113]⟩, .string ⟨#[114]⟩, .string ⟨#[115]⟩] : Array Value).toList)[i * 1 + j]?
  simp
set_option maxHeartbeats 4000000 in
set_option maxRecDepth 100000 in
theorem stays_in (ps : List ByteArray) (sl : Option Addr) (l : List Int) (slc : Nat) (w : World) (hps : ps = fourP.take ps.length) (h1 : 1 ≤ ps.length) (h4 : ps.length ≤ 4) (hl : SlAt encI 1 w (.slice sl l.length slc) l) (hn : l.length ≤ 60) :
    Calls Tryd.prog 7 #[.int .i64 (ps.length : Int), .slice sl l.length slc] w fun v w' => v = .returned (.bool true) ∧ Below w.heap.size w w' := by
  have HL : Hid (SlAt encI 1 w (.slice sl l.length slc) l) := hl
  have HPs : Hid (ps = fourP.take ps.length) := hps
  have g1 : ¬ (ps.length : Int) < 1 := by omega
  have g2 : ¬ 4 < (ps.length : Int) := by omega
  have g3 : ¬ 60 < (l.length : Int) := by omega
  clear hl hps
  go_enter Tryd.func7, Tryd.ntmps7
  go_wp2_with fail
  refine (lives_any _).mono ?_
  rintro v W ⟨rfl, hb0⟩
  have HB0 : Hid (Below w.heap.size w W) := hb0
  clear hb0
  go_wp2_with fail
  have HP : Hid (PartsE (W.alloc (.cells #[.string ⟨#[112]⟩, .string ⟨#[113]⟩, .string ⟨#[114]⟩, .string ⟨#[115]⟩] 9)) (stayE ps) ⟨some ⟨W.heap.size, 0, none⟩, none, none, none, none, 4, 0, 0, 0, 0⟩) :=
    ⟨four_slat HPs.out h4 (row_alat W _ _), slat_nil _, slat_nil _, slat_nil _, slat_nil _⟩
  refine (li_new _ (stayE ps) _ HP.out (stayE_small HPs.out h4)).mono ?_
  rintro v w1 ⟨b, E, rfl, hl⟩
  have D1 : LoIn w w1 b (stayE ps) E none := hl.from (HB0.out.trans ((Below.one _ _).mono HB0.out.size))
  clear hl HP HB0
  go_wp2_with fail
  refine (li_begin D1 (stayE_small HPs.out h4) (stayE_wf ps)).mono ?_
  rintro v w2 ⟨rfl, D2, -⟩
  clear D1
  go_wp2_with fail
  refine (li_end_to (k := 0) (t := false) (n' := ⟨stayW 0 (-1), true, 0, false⟩) D2 (Nat.zero_le _) (stay_first h1).1 (stay_first h1).2.1 (stay_first h1).2.2).mono ?_
  rintro v w3 ⟨rfl, D3⟩
  clear D2
  go_wp2_with fail
  refine (li_end_to (k := 1) (t := true) (n' := ⟨stayW 0 (-1), true, 1, true⟩) D3 (Nat.zero_le _) (stay_second ps).1 (stay_second ps).2.1 (stay_second ps).2.2).mono ?_
  rintro v w4 ⟨rfl, D4⟩
  have D5 : ExIn w w4 b (stayE ps) E 1 := ⟨_, D4, rfl, Nat.le_refl _⟩
  clear D3 D4
  go_upto_region 11 with fail
  go_cut [9] (fun v wx => v = .int .i64 0 ∧ wx = w4)
  case first =>
    go_wp2_with fail
    go_meet
    case rel => exact ⟨rfl, rfl⟩
  obtain ⟨rfl, rfl⟩ := hcut
  go_wp2_with fail
  go_loopw [9, 10, 11] (fun i _ _ wr => ∃ k : Nat, k ≤ l.length ∧ i = .int .i64 k ∧ ExIn w wr b (stayE ps) E (k + 1)) (fun i _ _ _ => l.length - (intOf i).toNat)
  case atStart => exact ⟨0, Nat.zero_le _, rfl, D5⟩
  case round =>
    clear D5
    obtain ⟨k, hk, rfl, D⟩ := hrel
    have HBk : Hid (Below w.heap.size w wr) := by obtain ⟨n, h1, -⟩ := D.h; exact h1.bel
    by_cases hlt : k < l.length
    · have k1 : (k : Int) < (l.length : Int) := by omega
      have k2 : k < 60 := by omega
      obtain ⟨z, hz⟩ : ∃ z, l[k]? = some z := ⟨_, List.getElem?_eq_getElem hlt⟩
      obtain ⟨sa', cap', hsl, -, hcc⟩ := id HL.out
      cases hsl
      obtain ⟨g, o, rfl, hc0⟩ := hcc (fun h => by rw [h] at hz; simp at hz)
      have c0 := cell_below HBk.out (hc0 k _ hz 0 _ rfl)
      simp only [Nat.mul_one, Nat.add_zero] at c0
      clear hcc hc0 hz
      by_cases hz0 : 0 ≤ z
      · have o1 : ¬ (ps.length : Int) = 0 := by omega
        have hm := Int.emod_lt_of_pos z (show 0 < (ps.length : Int) by omega)
        have hm0 := Int.emod_nonneg z (show (ps.length : Int) ≠ 0 by omega)
        have et : Int.tmod z (ps.length : Int) = z % (ps.length : Int) := Int.tmod_eq_emod_of_nonneg hz0
        have w1' : IntKind.i64.wrap (z % (ps.length : Int)) = z % (ps.length : Int) := by rw [IntKind.wrap_i64]; omega
        have HHas : Hid (hasP (stayE ps) (z % (ps.length : Int)) = true) := by
          show _ = _
          unfold hasP
          rw [decide_eq_true hm0, decide_eq_true (show z % (ps.length : Int) < ((stayE ps).pts.length : Int) from hm)]
          rfl
        clear hm hm0
        go_wp2_with fail
        refine (ex_report _ _ D HHas.out (stayE_small HPs.out h4)).mono ?_
        rintro v w5 ⟨rfl, D6⟩
        clear D
        go_wp2_with fail
        go_roundw
        case rel => exact ⟨k + 1, by omega, by go_num, D6⟩
        case measure => simp [intOf]; omega
      · go_wp2_with fail
        refine (ex_end D (by omega)).mono ?_
        rintro v w5 ⟨z, rfl, D6⟩
        clear D
        go_wp2_with fail
        refine (ex_stat D6).mono ?_
        rintro v w6 ⟨rfl, rfl⟩
        go_wp2_with fail
        go_roundw
        case rel => exact ⟨k + 1, by omega, by go_num, D6⟩
        case measure => simp [intOf]; omega
    · have k1 : ¬ (k : Int) < (l.length : Int) := by omega
      go_wp2_with fail
      refine (ex_stat D).mono ?_
      rintro v w5 ⟨rfl, rfl⟩
      go_wp2_with fail
      refine (ex_stop D).mono ?_
      rintro v w6 ⟨rfl, D6⟩
      clear D
      go_wp2_with fail
      refine (li_status_idle D6).mono ?_
      rintro v w7 ⟨rfl, rfl⟩
      go_wp2_with fail
      refine (li_begin D6 (stayE_small HPs.out h4) (stayE_wf ps)).mono ?_
      rintro v w8 ⟨rfl, D8, -⟩
      clear D6
      go_wp2_with fail
      refine (li_status (x := ⟨#[111, 107]⟩) D8 rfl).mono ?_
      rintro v w9 ⟨rfl, rfl⟩
      go_wp2
      go_ret
      exact ⟨rfl, D8.bel⟩
end
end Go.Proofs.YtpaolneaomeoiabDoor
