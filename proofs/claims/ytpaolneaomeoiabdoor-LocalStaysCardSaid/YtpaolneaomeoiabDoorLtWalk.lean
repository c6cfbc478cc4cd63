/-
  nightwatchlaw2.LocalTolerance for every input: true. No condition.
-/
import Derived.Test.YtpaolneaomeoiabDoorLoIn
namespace Go.Proofs.YtpaolneaomeoiabDoor
open Go.RowKit Go.Extern.Stop Go.Stop Go.Extern

section
variable {w0 w : World} {b : Nat} {e : EntD} {E : EA} {n n' : NSt}
theorem li_report_to (p t : Int) (h : LoIn w0 w b e E (some n)) (hp : hasP e p = true) (hS : SmallE e) (hn : n.rep e p t = n') :
    Calls Tryd.prog 23 #[.pointer (some ⟨b, 0, none⟩), .int .i64 p, .int .i64 t] w fun v w' => v = .returned .nilIface ∧ LoIn w0 w' b e E (some n') := by
  subst hn
  refine (li_report p t h hp hS).mono ?_
  rintro v w' ⟨rfl, h, -⟩
  exact ⟨rfl, h⟩
theorem li_run_to {r : Int} (h : LoIn w0 w b e E (some n)) (hr : (n.run : Int) = r) :
    Calls Tryd.prog 22 #[.pointer (some ⟨b, 0, none⟩)] w fun v w' => v = .returned (.int .i64 r) ∧ w' = w := by
  subst hr
  exact li_run h
/-- The entity, its watches with nothing reported. -/
def tolE (t : Int) : EntD := ⟨⟨#[]⟩, t, [⟨#[112]⟩], 0, 1, 1, [], [], [], []⟩
def tolW (ah : Int) : WSt := ⟨⟨0, 1, 1, 0⟩, ⟨[], false⟩, ⟨ah, false⟩⟩
theorem tolE_small (t : Int) : SmallE (tolE t) := ⟨Nat.zero_le _, show 1 ≤ 1000000 by omega, (fun p hp => by simp [tolE] at hp; subst hp; decide), Nat.zero_le _, Nat.zero_le _, Nat.zero_le _, Nat.zero_le _⟩
theorem tolE_wf (t : Int) : WfE (tolE t).edges := fun p hp => by simp [tolE] at hp
theorem tol_kind (ah : Int) (wh : Bool) (r : Nat) (x : Bool) : NSt.kind ⟨tolW ah, wh, r, x⟩ = if wh then 1 else 0 := by cases wh <;> rfl
theorem tol_turns (t : Int) (ah : Int) (r : Nat) (x : Bool) : NSt.turns (tolE t) ⟨tolW ah, true, r, x⟩ = (!x && decide (t < (r : Int) + 1)) := by
  unfold NSt.turns
  rw [tol_kind]
  rfl
theorem tol_fin (t : Int) (ah : Int) (r : Nat) (x : Bool) : NSt.fin (tolE t) ⟨tolW ah, true, r, x⟩ = ⟨tolW ah, true, r + 1, x || decide (t < (r : Int) + 1)⟩ := by
  unfold NSt.fin
  rw [tol_turns]
  unfold NSt.run1
  rw [tol_kind]
  cases x <;> simp <;> rfl
theorem tol_first (t : Int) : NSt.fin (tolE t) (NSt.new (tolE t)) = ⟨tolW (-1), true, 0, false⟩ := rfl
theorem st_failed (ah : Int) (r : Nat) : stWord (NSt.status ⟨tolW ah, true, r + 1, false⟩) = ⟨#[102, 97, 105, 108, 101, 100]⟩ := by
  have : NSt.status ⟨tolW ah, true, r + 1, false⟩ = 2 := by simp [NSt.status]
  rw [this]
  rfl
theorem st_exp (ah : Int) (r : Nat) : stWord (NSt.status ⟨tolW ah, true, r + 1, true⟩) = ⟨#[101, 120, 112, 105, 114, 101, 100]⟩ := rfl
set_option maxHeartbeats 4000000 in
set_option maxRecDepth 100000 in
theorem tol_in (t bf af : Nat) (w : World) (h1 : t ≤ 20) (h2 : bf ≤ t) (h3 : af ≤ 60) :
    Calls Tryd.prog 5 #[.int .i64 (t : Int), .int .i64 (bf : Int), .int .i64 (af : Int)] w fun v w' => v = .returned (.bool true) ∧ Below w.heap.size w w' := by
  have g1 : ¬ (t : Int) < 0 := by omega
  have g2 : ¬ 20 < (t : Int) := by omega
  have g3 : ¬ (bf : Int) < 0 := by omega
  have g4 : ¬ (t : Int) < (bf : Int) := by omega
  have g5 : ¬ (af : Int) < 0 := by omega
  have g6 : ¬ 60 < (af : Int) := by omega
  go_enter Tryd.func5, Tryd.ntmps5
  go_wp2_with fail
  refine (lives_any _).mono ?_
  rintro v W ⟨rfl, hb0⟩
  have HB0 : Hid (Below w.heap.size w W) := hb0
  clear hb0
  go_wp2_with fail
  have HP : Hid (PartsE (W.alloc (.cells #[.string ⟨#[112]⟩] 9)) (tolE t) ⟨some ⟨W.heap.size, 0, none⟩, none, none, none, none, 1, 0, 0, 0, 0⟩) :=
    ⟨slat_cells (enc := encS) (k := 1) (xs := (tolE t).pts) (cap := 1) (fun _ => rfl) (row_alat W _ _) rfl (Nat.le_refl 1), slat_nil _, slat_nil _, slat_nil _, slat_nil _⟩
  refine (li_new _ (tolE t) _ HP.out (tolE_small t)).mono ?_
  rintro v w1 ⟨b, E, rfl, hl⟩
  have D1 : LoIn w w1 b (tolE t) E none := hl.from (HB0.out.trans ((Below.one _ _).mono HB0.out.size))
  clear hl HP HB0
  go_wp2_with fail
  refine (li_begin D1 (tolE_small t) (tolE_wf t)).mono ?_
  rintro v w2 ⟨rfl, D2, -⟩
  clear D1
  go_wp2_with fail
  refine (li_end_to (k := 0) (t := false) (n' := ⟨tolW (-1), true, 0, false⟩) D2 (Nat.zero_le _) rfl rfl (tol_first t)).mono ?_
  rintro v w3 ⟨rfl, D3⟩
  clear D2
  go_upto_region 10 with fail
  go_cut [11] (fun v wx => v = .int .i64 0 ∧ wx = w3)
  case first =>
    go_wp2_with fail
    go_meet
    case rel => exact ⟨rfl, rfl⟩
  obtain ⟨rfl, rfl⟩ := hcut
  go_wp2_with fail
  go_loopw [11] (fun i wr => ∃ k : Nat, k ≤ bf ∧ i = .int .i64 k ∧ LoIn w wr b (tolE t) E (some ⟨tolW (-1), true, k, false⟩)) (fun i _ => bf - (intOf i).toNat)
  case atStart => exact ⟨0, Nat.zero_le _, rfl, D3⟩
  case round =>
    clear D3
    obtain ⟨k, hk, rfl, D⟩ := hrel
    by_cases hlt : k < bf
    · have k1 : (k : Int) < (bf : Int) := by omega
      have hx : decide ((t : Int) < (k : Int) + 1) = false := decide_eq_false (by omega)
      go_wp2_with fail
      refine (li_end_to (k := 1) (t := false) (n' := ⟨tolW (-1), true, k + 1, false⟩) D (by show k ≤ 1000000; omega) (tol_kind _ _ _ _) (by rw [tol_turns, hx]; rfl) (by rw [tol_fin, hx]; rfl)).mono ?_
      rintro v w4 ⟨rfl, D4⟩
      clear D
      go_wp2_with fail
      refine (li_status D4 (st_failed _ _)).mono ?_
      rintro v w4' ⟨rfl, rfl⟩
      go_wp2_with fail
      refine (li_run_to (r := (k : Int) + 1) D4 (by simp)).mono ?_
      rintro v w4'' ⟨rfl, rfl⟩
      go_wp2_with fail
      go_roundw
      case rel => exact ⟨k + 1, by omega, by go_num, D4⟩
      case measure => simp [intOf]; omega
    · have k1 : ¬ (k : Int) < (bf : Int) := by omega
      have HKf : Hid (k ≤ bf) := hk
      go_wp2_with fail
      refine (li_report_to (n' := ⟨⟨⟨0, 1, 1, 1⟩, ⟨[], false⟩, ⟨0, false⟩⟩, true, k, false⟩) 0 5 D (by rfl) (tolE_small t) (by rfl)).mono ?_
      rintro v w4 ⟨rfl, D4⟩
      clear D
      go_wp2_with fail
      refine (li_end_to (k := 0) (t := false) (n' := ⟨tolW 0, true, 0, false⟩) D4 (by show k ≤ 1000000; omega) (by rfl) (by rfl) (by rfl)).mono ?_
      rintro v w5 ⟨rfl, D5⟩
      clear D4
      go_wp2_with fail
      refine (li_status (x := ⟨#[111, 107]⟩) D5 rfl).mono ?_
      rintro v w5' ⟨rfl, rfl⟩
      go_wp2_with fail
      refine (li_run_to (r := 0) D5 rfl).mono ?_
      rintro v w5'' ⟨rfl, rfl⟩
      go_upto_region 21 with fail
      go_cut [14] (fun v wx => v = .int .i64 0 ∧ wx = w5'')
      case first =>
        go_wp2_with fail
        go_meet
        case rel => exact ⟨rfl, rfl⟩
      obtain ⟨rfl, rfl⟩ := hcut
      go_wp2_with fail
      go_loopw [14] (fun i wr => ∃ k : Nat, k ≤ af ∧ i = .int .i64 k ∧ LoIn w wr b (tolE t) E (some ⟨tolW 0, true, k, decide ((t : Int) < (k : Int))⟩)) (fun i _ => af - (intOf i).toNat)
      case atStart => exact ⟨0, Nat.zero_le _, rfl, by have : decide ((t : Int) < ((0 : Nat) : Int)) = false := decide_eq_false (by omega); rw [this]; exact D5⟩
      case round =>
        clear D5 hk hlt k1 HKf
        obtain ⟨i, hi, rfl, D⟩ := hrel
        by_cases hlt : i < af
        · have k1 : (i : Int) < (af : Int) := by omega
          by_cases c1 : t < i
          · have hx0 : decide ((t : Int) < (i : Int)) = true := decide_eq_true (by omega)
            have HX : Hid (decide ((t : Int) < ((i + 1 : Nat) : Int)) = true) := decide_eq_true (by omega)
            rw [hx0] at D
            have c2 : ¬ (i : Int) = (t : Int) := by omega
            have c3 : (t : Int) ≤ (i : Int) := by omega
            clear hx0 c1
            go_wp2_with fail
            refine (li_end_to (k := 1) (t := false) (n' := ⟨tolW 0, true, i + 1, true⟩) D (by show i ≤ 1000000; omega) (tol_kind _ _ _ _) (by rw [tol_turns]; rfl) (by rw [tol_fin]; rfl)).mono ?_
            rintro v w4 ⟨rfl, D4⟩
            clear D
            go_wp2_with fail
            refine (li_status D4 (st_exp _ _)).mono ?_
            rintro v w4' ⟨rfl, rfl⟩
            go_wp2_with fail
            go_roundw
            case rel => exact ⟨i + 1, by omega, by go_num, by rw [HX.out]; exact D4⟩
            case measure => simp [intOf]; omega
          · by_cases c4 : i = t
            · subst c4
              have hx0 : decide ((i : Int) < (i : Int)) = false := decide_eq_false (by omega)
              have HX : Hid (decide ((i : Int) < ((i + 1 : Nat) : Int)) = true) := decide_eq_true (by omega)
              have HX2 : Hid (decide ((i : Int) < ((i : Nat) : Int) + 1) = true) := decide_eq_true (by omega)
              rw [hx0] at D
              have c3 : (i : Int) ≤ (i : Int) := by omega
              clear hx0 c1
              go_wp2_with fail
              refine (li_end_to (k := 1) (t := true) (n' := ⟨tolW 0, true, i + 1, true⟩) D (by show i ≤ 1000000; omega) (tol_kind _ _ _ _) (by rw [tol_turns, HX2.out]; rfl) (by rw [tol_fin, HX2.out]; rfl)).mono ?_
              rintro v w4 ⟨rfl, D4⟩
              clear D
              go_wp2_with fail
              refine (li_status D4 (st_exp _ _)).mono ?_
              rintro v w4' ⟨rfl, rfl⟩
              go_wp2_with fail
              go_roundw
              case rel => exact ⟨i + 1, by omega, by go_num, by rw [HX.out]; exact D4⟩
              case measure => simp [intOf]; omega
            · have hx0 : decide ((t : Int) < (i : Int)) = false := decide_eq_false (by omega)
              have HX : Hid (decide ((t : Int) < ((i + 1 : Nat) : Int)) = false) := decide_eq_false (by omega)
              have HX2 : Hid (decide ((t : Int) < ((i : Nat) : Int) + 1) = false) := decide_eq_false (by omega)
              rw [hx0] at D
              have c2 : ¬ (i : Int) = (t : Int) := by omega
              have c3 : ¬ (t : Int) ≤ (i : Int) := by omega
              have c5 : ((i : Int) == (t : Int)) = false := by rw [beq_eq_false_iff_ne]; exact c2
              have c6 : ¬ t ≤ i := by omega
              clear hx0 c1 c4
              go_wp2_with fail
              refine (li_end_to (k := 1) (t := false) (n' := ⟨tolW 0, true, i + 1, false⟩) D (by show i ≤ 1000000; omega) (tol_kind _ _ _ _) (by rw [tol_turns, HX2.out]; rfl) (by rw [tol_fin, HX2.out]; rfl)).mono ?_
              rintro v w4 ⟨rfl, D4⟩
              clear D
              go_wp2_with fail
              refine (li_status D4 (st_failed _ _)).mono ?_
              rintro v w4' ⟨rfl, rfl⟩
              go_wp2_with fail
              go_roundw
              case rel => exact ⟨i + 1, by omega, by go_num, by rw [HX.out]; exact D4⟩
              case measure => simp [intOf]; omega
        · have k1 : ¬ (i : Int) < (af : Int) := by omega
          go_wp2
          go_ret
          exact ⟨rfl, D.bel⟩
end
end Go.Proofs.YtpaolneaomeoiabDoor
