/-
  Several texts as one: KqLaid, KlAct, CfMem, CfArg, KlArg, KeOps.
-/
import Derived.Test.YtkphpgdgbnmnjacGreatDoorB01C
import Derived.Test.YtkphpgdgbnmnjacGreatDoorB19C
import Derived.Test.YtkphpgdgbnmnjacGreatDoorB02C
import Derived.BigQuiet
import Derived.Deep.QuietTactic
import Derived.Deep.DeepCutAuto
import Derived.WalkSmall
namespace Go.Proofs.YtkphpgdgbnmnjacGreatDoor
open Go.RowKit Go.ChangeShapes

def sentNames10 : List (String × List UInt8) := sentNames.drop 1
theorem Tryz.gErrs10 : (sentNames10.map fun x => (Tryz.prog.globalNamed x.1).bind fun g => (Tryz.prog.globals[g]?).map (·.type)) = List.replicate 10 (some 46) := by kernel_rfl
def seatLaid10 : List (String × DataW Unit) := [("nightwatch/api.ErrBound", Rows.laid_nightwatch_api_ErrBound), ("nightwatch/api.ErrShape", Rows.laid_nightwatch_api_ErrShape), ("nightwatch/api.ErrName", Rows.laid_nightwatch_api_ErrName), ("nightwatch/api.ErrNone", Rows.laid_nightwatch_api_ErrNone), ("nightwatch/api.ErrExist", Rows.laid_nightwatch_api_ErrExist), ("nightwatch/api.ErrFull", Rows.laid_nightwatch_api_ErrFull), ("nightwatch/api.ErrOff", Rows.laid_nightwatch_api_ErrOff), ("nightwatch/api.ErrIdle", Rows.laid_nightwatch_api_ErrIdle), ("nightwatch/api.ErrHeld", Rows.laid_nightwatch_api_ErrHeld), ("nightwatch/api.ErrReset", Rows.laid_nightwatch_api_ErrReset)]
theorem laid10_split (W : World) : laidMetH Tryz.prog seatLaid10 W = laidMet Tryz.prog (sentList sentNames10) W := by kernel_rfl
theorem sen10_of_laid {W : World} (h : laidMetH Tryz.prog seatLaid10 W) : ∃ A : Nat → Addr, SenK A W := by
  rw [laid10_split] at h
  obtain ⟨ps, hl, hnd, hrows⟩ := h
  have hgs : ∀ x, x ∈ sentNames10 → ∃ g, Tryz.prog.globalNamed x.1 = some g ∧ (Tryz.prog.globals[g]?).map (·.type) = some 46 := fun x hx => by
    have h1 : ((Tryz.prog.globalNamed x.1).bind fun g => (Tryz.prog.globals[g]?).map (·.type)) ∈ List.replicate 10 (some 46) := by
      rw [← Tryz.gErrs10]; exact List.mem_map_of_mem hx
    have h2 := List.eq_of_mem_replicate h1
    simp only [Option.bind_eq_some_iff] at h2
    obtain ⟨g, a, b⟩ := h2
    exact ⟨g, a, b⟩
  obtain ⟨A, hv, -, -, -⟩ := sents Tryz.underlying46 Tryz.oneErr Tryz.underlying292 Tryz.underlying311 rfl rfl Tryz.underlying9 Tryz.cellsES Tryz.cellsStr sentNames10 ps hgs hl hnd hrows
  exact ⟨fun i => A (i - 1), by simpa using World.var?_cell Tryz.g1 (hv 0 _ rfl) 0, by simpa using World.var?_cell Tryz.g2 (hv 1 _ rfl) 0, by simpa using World.var?_cell Tryz.g3 (hv 2 _ rfl) 0, by simpa using World.var?_cell Tryz.g4 (hv 3 _ rfl) 0, by simpa using World.var?_cell Tryz.g5 (hv 4 _ rfl) 0, by simpa using World.var?_cell Tryz.g6 (hv 5 _ rfl) 0, by simpa using World.var?_cell Tryz.g7 (hv 6 _ rfl) 0, by simpa using World.var?_cell Tryz.g8 (hv 7 _ rfl) 0, by simpa using World.var?_cell Tryz.g9 (hv 8 _ rfl) 0, by simpa using World.var?_cell Tryz.g10 (hv 9 _ rfl) 0⟩
theorem door_met10 (os : Os) (args : Array Value) : laidMetH Tryz.prog seatLaid10 ((World.doorLaid Tryz.prog 400 os).forCall (fun _ _ => 0) ⟨#[], args, []⟩).memory := by
  rw [laid10_split]
  exact laidMet_of_run' 8 (by kernel_rfl) (by kernel_rfl)
end Go.Proofs.YtkphpgdgbnmnjacGreatDoor

namespace Go.Proofs.YtkphpgdgbnmnjacGreatDoor
open Go.RowKit Go.Extern.Stop Go.Stop Go.Extern

structure ActK where
  kind : ByteArray
  e : Int
  p : Int
  n : Int
def encK (a : ActK) : List Value := [.string a.kind, .int .i64 a.e, .int .i64 a.p, .int .i64 a.n]
def ActK.tick (a : ActK) : Bool := a.kind.toList == [116, 105, 99, 107]
/-- How many ticks there are in all. -/
def ticksOf : List ActK → Nat
  | [] => 0
  | a :: t => (if a.tick = true then a.n.toNat else 0) + ticksOf t
theorem ticksOf_append (l t : List ActK) : ticksOf (l ++ t) = ticksOf l + ticksOf t := by
  induction l with
  | nil => simp [ticksOf]
  | cons a l ih => show _ + ticksOf (l ++ t) = _; rw [ih]; show _ = _ + ticksOf l + ticksOf t; omega
theorem ticksOf_take {l : List ActK} {i : Nat} {a : ActK} (h : l[i]? = some a) : ticksOf (l.take (i + 1)) = ticksOf (l.take i) + (if a.tick = true then a.n.toNat else 0) := by
  rw [List.take_add_one, h, ticksOf_append]
  show _ + (_ + 0) = _
  omega
theorem act_cells {w : World} {sa : Option Addr} {cap i : Nat} {acts : List ActK} {a : ActK} (h : SlAt encK 4 w (.slice sa acts.length cap) acts) (ha : acts[i]? = some a) : ∃ b o, sa = some ⟨b, o, none⟩ ∧ w.cell? ⟨b, o + i * 4, none⟩ = some (.string a.kind) ∧ w.cell? ⟨b, o + i * 4 + 1, none⟩ = some (.int .i64 a.e) ∧ w.cell? ⟨b, o + i * 4 + 2, none⟩ = some (.int .i64 a.p) ∧ w.cell? ⟨b, o + i * 4 + 3, none⟩ = some (.int .i64 a.n) := by
  obtain ⟨sa', cap', h1, -, h2⟩ := h
  cases h1
  obtain ⟨b, o, rfl, h3⟩ := h2 (fun x => by rw [x] at ha; simp at ha)
  exact ⟨b, o, rfl, h3 i a ha 0 _ rfl, h3 i a ha 1 _ rfl, h3 i a ha 2 _ rfl, h3 i a ha 3 _ rfl⟩
/-- What actsFit's yes tells. -/
structure Fits1 (acts : List ActK) (most : Int) : Prop where
  len : (acts.length : Int) ≤ most
  each : ∀ a ∈ acts, a.n ≤ 10000
  sum : ticksOf acts ≤ 1500
/-- What it answers. -/
def FitOut (acts : List ActK) (most : Int) (w : World) (e : Ending) (w' : World) : Prop := ∃ b, e = .returned (.bool b) ∧ w' = w ∧ (b = true → Fits1 acts most)
set_option maxRecDepth 100000 in
set_option maxHeartbeats 2000000 in
theorem fit_at (acts : List ActK) (sa : Option Addr) (cap : Nat) (most : Int) (w : World) (h : SlAt encK 4 w (.slice sa acts.length cap) acts) (hn : acts.length ≤ 9223372036854775807) :
    Calls Tryz.prog 11 #[.slice sa acts.length cap, .int .i64 most] w fun e w' => FitOut acts most w e w' := by
  have HL : Hid (SlAt encK 4 w (.slice sa acts.length cap) acts) := h
  have HN : Hid (acts.length ≤ 9223372036854775807) := hn
  clear h hn
  go_enter Tryz.func11, Tryz.ntmps11
  go_wp2_with fail
  go_loopw [5, 6] (fun t i wr => wr = w ∧ ∃ k : Nat, k ≤ acts.length ∧ i = .int .i64 k ∧ t = .int .i64 (ticksOf (acts.take k) : Int) ∧ ticksOf (acts.take k) ≤ 1500 ∧ ∀ a ∈ acts.take k, a.n ≤ 10000) (fun _ i _ => acts.length - (intOf i).toNat)
  case atStart => exact ⟨rfl, 0, Nat.zero_le _, rfl, rfl, Nat.zero_le _, fun a ha => by simp at ha⟩
  case round =>
    obtain ⟨rfl, k, hk, rfl, rfl, ht, hall⟩ := hrel
    have HA : Hid (∀ a ∈ acts.take k, a.n ≤ 10000) := hall
    clear hall
    by_cases hlt : k < acts.length
    · have k1 : (k : Int) < (acts.length : Int) := by omega
      have hn := HN.out
      obtain ⟨a, ha⟩ : ∃ a, acts[k]? = some a := ⟨_, List.getElem?_eq_getElem hlt⟩
      obtain ⟨b, o, rfl, c0, c1, c2, c3⟩ := act_cells HL.out ha
      have HS : Hid (ticksOf (acts.take (k + 1)) = ticksOf (acts.take k) + (if a.tick = true then a.n.toNat else 0)) := ticksOf_take ha
      have HA2 : Hid (a.n ≤ 10000 → ∀ x ∈ acts.take (k + 1), x.n ≤ 10000) := fun hle x hx => by
        rw [List.take_add_one, ha] at hx
        rcases List.mem_append.1 hx with hx | hx
        · exact HA.out x hx
        · simp at hx; subst hx; exact hle
      have hkw : IntKind.i64.wrap ((k : Int) + 1) = (k : Int) + 1 := by rw [IntKind.wrap_i64]; omega
      obtain ⟨T, hT⟩ : ∃ T, T = ticksOf (acts.take k) := ⟨_, rfl⟩
      rw [← hT] at ht ⊢
      have HT : Hid (T = ticksOf (acts.take k)) := hT
      clear ha hT c1 c2
      have HTk : Hid (a.tick = (a.kind.toList == [116, 105, 99, 107])) := rfl
      cases p1 : (a.kind.toList == [116, 105, 99, 107])
      · have HS2 : Hid (ticksOf (acts.take (k + 1)) = T) := by show _ = _; rw [HS.out, HTk.out, p1, HT.out]; rfl
        by_cases hq : 10000 < a.n
        · go_wp2
          go_ret
          exact ⟨false, rfl, rfl, fun e => by cases e⟩
        · have g1 : ¬ 1500 < (T : Int) := by omega
          go_wp2_with fail
          go_roundw
          case rel => exact ⟨trivial, k + 1, by omega, by go_num, by rw [HS2.out], by rw [HS2.out]; exact ht, HA2.out (by omega)⟩
          case measure => simp [intOf]; omega
      · by_cases hp : 0 < a.n
        · by_cases hq : 10000 < a.n
          · go_wp2
            go_ret
            exact ⟨false, rfl, rfl, fun e => by cases e⟩
          · have hw : IntKind.i64.wrap ((T : Int) + a.n) = (T : Int) + a.n := by rw [IntKind.wrap_i64]; omega
            have HS2 : Hid ((ticksOf (acts.take (k + 1)) : Int) = (T : Int) + a.n) := by show _ = _; rw [HS.out, HTk.out, p1, ← HT.out, if_pos rfl]; omega
            by_cases g1 : 1500 < (T : Int) + a.n
            · go_wp2
              go_ret
              exact ⟨false, rfl, rfl, fun e => by cases e⟩
            · go_wp2_with fail
              go_roundw
              case rel => exact ⟨trivial, k + 1, by omega, by go_num, by rw [HS2.out], by have := HS2.out; omega, HA2.out (by omega)⟩
              case measure => simp [intOf]; omega
        · have HS2 : Hid (ticksOf (acts.take (k + 1)) = T) := by show _ = _; rw [HS.out, HTk.out, p1, ← HT.out, if_pos rfl]; omega
          have hq : ¬ 10000 < a.n := by omega
          have g1 : ¬ 1500 < (T : Int) := by omega
          go_wp2_with fail
          go_roundw
          case rel => exact ⟨trivial, k + 1, by omega, by go_num, by rw [HS2.out], by rw [HS2.out]; exact ht, HA2.out (by omega)⟩
          case measure => simp [intOf]; omega
    · obtain rfl : k = acts.length := by omega
      have k1 : ¬ (acts.length : Int) < (acts.length : Int) := by omega
      have HF : Hid (ticksOf acts ≤ 1500 ∧ ∀ a ∈ acts, a.n ≤ 10000) := by
        have := HA.out
        rw [List.take_length] at ht this
        exact ⟨ht, this⟩
      generalize ticksOf (acts.take acts.length) = T at ht
      clear ht
      by_cases hm : (acts.length : Int) ≤ most
      · go_wp2
        go_ret
        exact ⟨true, rfl, rfl, fun _ => ⟨hm, HF.out.2, HF.out.1⟩⟩
      · go_wp2
        go_ret
        exact ⟨false, rfl, rfl, fun e => by cases e⟩
end Go.Proofs.YtkphpgdgbnmnjacGreatDoor

namespace Go.Proofs.YtkphpgdgbnmnjacGreatDoor
open Go.RowKit Go.Extern.Stop Go.Stop Go.Extern

/-- The six sentinels that package conf tells (at A 0 .. A 5), as start-up lays them. -/
structure Sen6 (A : Nat → Addr) (w : World) : Prop where
  c0 : w.cell? ⟨7, 0, none⟩ = some (.iface 292 (.pointer (some (A 0))))
  c1 : w.cell? ⟨1, 0, none⟩ = some (.iface 292 (.pointer (some (A 1))))
  c2 : w.cell? ⟨3, 0, none⟩ = some (.iface 292 (.pointer (some (A 2))))
  c3 : w.cell? ⟨8, 0, none⟩ = some (.iface 292 (.pointer (some (A 3))))
  c4 : w.cell? ⟨5, 0, none⟩ = some (.iface 292 (.pointer (some (A 4))))
  c5 : w.cell? ⟨9, 0, none⟩ = some (.iface 292 (.pointer (some (A 5))))
  row : ∀ i, i < 6 → ∃ c t, w.heap[(A i).block]? = some (.cells c t (0, 0))
  ne : ∀ i j, i < 6 → j < 6 → i ≠ j → A i ≠ A j
theorem Sen6.below {A : Nat → Addr} {w w' : World} (h : Sen6 A w) (hb : Below w.heap.size w w') : Sen6 A w' :=
  ⟨cell_below hb h.c0, cell_below hb h.c1, cell_below hb h.c2, cell_below hb h.c3, cell_below hb h.c4, cell_below hb h.c5, fun i hi => by obtain ⟨c, t, e⟩ := h.row i hi; exact ⟨c, t, row_below hb e⟩, h.ne⟩
theorem Sen6.alloc {A : Nat → Addr} {w : World} (h : Sen6 A w) (o : Obj) : Sen6 A (w.alloc o) := h.below ((Below.refl _ _).alloc (Nat.le_refl _) _)
theorem Senv.six {A : Nat → Addr} {w : World} (h : Senv A w) : Sen6 A w :=
  ⟨h.c0, h.c1, h.c2, h.c3, h.c4, h.c5, fun i hi => h.row i (by omega), fun i j hi hj => h.ne i j (by omega) (by omega)⟩

/-- The five of them that Check tells. -/
structure Sen5 (A : Nat → Addr) (w : World) : Prop where
  c1 : w.cell? ⟨1, 0, none⟩ = some (.iface 292 (.pointer (some (A 1))))
  c2 : w.cell? ⟨3, 0, none⟩ = some (.iface 292 (.pointer (some (A 2))))
  c3 : w.cell? ⟨8, 0, none⟩ = some (.iface 292 (.pointer (some (A 3))))
  c4 : w.cell? ⟨5, 0, none⟩ = some (.iface 292 (.pointer (some (A 4))))
  c5 : w.cell? ⟨9, 0, none⟩ = some (.iface 292 (.pointer (some (A 5))))
theorem Sen5.below {A : Nat → Addr} {w w' : World} (h : Sen5 A w) (hb : Below w.heap.size w w') : Sen5 A w' :=
  ⟨cell_below hb h.c1, cell_below hb h.c2, cell_below hb h.c3, cell_below hb h.c4, cell_below hb h.c5⟩
theorem Sen5.alloc {A : Nat → Addr} {w : World} (h : Sen5 A w) (o : Obj) : Sen5 A (w.alloc o) := h.below ((Below.refl _ _).alloc (Nat.le_refl _) _)
theorem Sen6.five {A : Nat → Addr} {w : World} (h : Sen6 A w) : Sen5 A w := ⟨h.c1, h.c2, h.c3, h.c4, h.c5⟩

/-- A sentinel's value, by its number; nil for 0. -/
def errV (A : Nat → Addr) : Nat → Value
  | 0 => .nilIface
  | j + 1 => .iface 292 (.pointer (some (A j)))
/-- An error as it is told: its number, and its place (-1: none). -/
def ErrAt (A : Nat → Addr) (w : World) (v : Value) (f : Nat × Int) : Prop :=
  f.1 ≤ 11 ∧ ((f.2 = -1 ∧ v = errV A f.1) ∨ (0 < f.1 ∧ ∃ b, v = .iface 157 (.pointer (some ⟨b, 0, none⟩)) ∧ w.cell? ⟨b, 0, none⟩ = some (.int .i64 f.2) ∧ w.cell? ⟨b, 1, none⟩ = some (errV A f.1)))
theorem ErrAt.below {A : Nat → Addr} {w w' : World} {v : Value} {f : Nat × Int} (h : ErrAt A w v f) (hb : Below w.heap.size w w') : ErrAt A w' v f := by
  obtain ⟨h1, h2 | ⟨h2, b, h3, h4, h5⟩⟩ := h
  · exact ⟨h1, Or.inl h2⟩
  · exact ⟨h1, Or.inr ⟨h2, b, h3, cell_below hb h4, cell_below hb h5⟩⟩

theorem within_at (n a b : Int) (w : World) : Calls Tryz.prog 134 #[.int .i64 n, .int .i64 a, .int .i64 b] w fun e w' => e = .returned (.bool (within n a b)) ∧ w' = w := by
  by_cases h1 : a ≤ n
  · by_cases h2 : n ≤ b
    all_goals
      go_enter Tryz.func134, Tryz.ntmps134
      go_wp2
      go_ret
      exact ⟨by simp [within, h1, h2], rfl⟩
  · go_enter Tryz.func134, Tryz.ntmps134
    go_wp2
    go_ret
    exact ⟨by simp [within]; omega, rfl⟩
theorem isLetter_at (b : UInt8) (w : World) : Calls Tryz.prog 169 #[.int .u8 (b.toNat : Int)] w fun e w' => e = .returned (.bool (isLetter b)) ∧ w' = w := by
  have hb : isLetter b = (decide ((97 : Int) ≤ (b.toNat : Int)) && decide ((b.toNat : Int) ≤ 122)) := by
    unfold isLetter
    congr 1 <;> exact decide_eq_decide.2 (by omega)
  rw [hb]
  generalize (b.toNat : Int) = n
  by_cases h1 : 97 ≤ n
  · by_cases h2 : n ≤ 122
    all_goals
      go_enter Tryz.func169, Tryz.ntmps169
      go_wp2
      go_ret
      exact ⟨by simp [h1, h2], rfl⟩
  · go_enter Tryz.func169, Tryz.ntmps169
    go_wp2
    go_ret
    exact ⟨by simp; omega, rfl⟩
theorem isDigit_at (b : UInt8) (w : World) : Calls Tryz.prog 170 #[.int .u8 (b.toNat : Int)] w fun e w' => e = .returned (.bool (isDig b)) ∧ w' = w := by
  have hb : isDig b = (decide ((48 : Int) ≤ (b.toNat : Int)) && decide ((b.toNat : Int) ≤ 57)) := by
    unfold isDig
    congr 1 <;> exact decide_eq_decide.2 (by omega)
  rw [hb]
  generalize (b.toNat : Int) = n
  by_cases h1 : 48 ≤ n
  · by_cases h2 : n ≤ 57
    all_goals
      go_enter Tryz.func170, Tryz.ntmps170
      go_wp2
      go_ret
      exact ⟨by simp [h1, h2], rfl⟩
  · go_enter Tryz.func170, Tryz.ntmps170
    go_wp2
    go_ret
    exact ⟨by simp; omega, rfl⟩
theorem dogNew_ok (c o : Int) (w : World) (h : (within c 0 1000 && within o 1 1000) = true) : Calls Tryz.prog 63 #[.int .i64 c, .int .i64 o] w fun e w' => e = .returned (.tuple #[.pointer (some ⟨w.heap.size, 0, none⟩), .nilIface]) ∧ Below w.heap.size w w' := by
  simp [within] at h
  have g1 : ¬ c < 0 := by omega
  have g2 : ¬ 1000 < c := by omega
  have g3 : ¬ o < 1 := by omega
  have g4 : ¬ 1000 < o := by omega
  clear h
  go_enter Tryz.func63, Tryz.ntmps63
  go_wp2
  go_ret2
  exact ⟨rfl, (Below.refl _ _).alloc (Nat.le_refl _) _⟩
theorem dogNew_bad (A : Nat → Addr) (c o : Int) (w : World) (hs : Sen5 A w) (h : (within c 0 1000 && within o 1 1000) = false) : Calls Tryz.prog 63 #[.int .i64 c, .int .i64 o] w fun e w' => e = .returned (.tuple #[.pointer none, .iface 292 (.pointer (some (A 1)))]) ∧ Below w.heap.size w w' := by
  have hc := hs.c1
  simp [within] at h
  by_cases g1 : c < 0
  · clear h
    go_enter Tryz.func63, Tryz.ntmps63
    go_wp2_with fail
    go_quiet (fail)
    go_wp2
    go_ret2
    exact ⟨rfl, below_drewN (Below.refl _ _) _⟩
  by_cases g2 : 1000 < c
  · clear h
    go_enter Tryz.func63, Tryz.ntmps63
    go_wp2_with fail
    go_quiet (fail)
    go_wp2
    go_ret2
    exact ⟨rfl, below_drewN (Below.refl _ _) _⟩
  by_cases g3 : o < 1
  · clear h
    go_enter Tryz.func63, Tryz.ntmps63
    go_wp2_with fail
    go_quiet (fail)
    go_wp2
    go_ret2
    exact ⟨rfl, below_drewN (Below.refl _ _) _⟩
  · have g4 : 1000 < o := by omega
    clear h
    go_enter Tryz.func63, Tryz.ntmps63
    go_wp2_with fail
    go_quiet (fail)
    go_wp2
    go_ret2
    exact ⟨rfl, below_drewN (Below.refl _ _) _⟩
theorem isWindow_at (A : Nat → Addr) (c o : Int) (w : World) (hs : Sen5 A w) : Calls Tryz.prog 132 #[.int .i64 c, .int .i64 o] w fun e w' => e = .returned (.bool (within c 0 1000 && within o 1 1000)) ∧ Below w.heap.size w w' := by
  cases h : (within c 0 1000 && within o 1 1000) with
  | true =>
    have dn := dogNew_ok c o w h
    go_enter Tryz.func132, Tryz.ntmps132
    go_wp2_with fail
    refine dn.mono ?_
    rintro e w' ⟨rfl, hb⟩
    go_wp2
    go_ret
    exact ⟨rfl, hb⟩
  | false =>
    have dn := dogNew_bad A c o w hs h
    go_enter Tryz.func132, Tryz.ntmps132
    go_wp2_with fail
    refine dn.mono ?_
    rintro e w' ⟨rfl, hb⟩
    go_wp2
    go_ret
    exact ⟨rfl, hb⟩
end Go.Proofs.YtkphpgdgbnmnjacGreatDoor

namespace Go.Proofs.YtkphpgdgbnmnjacGreatDoor
open Go.ChangeShapes Go.WideShapes Go.ChangeAt Go.RowKit Go.Deep

theorem Tryz.cellsCfg : Tryz.prog.cellsOf 24 = 5 := by kernel_rfl
theorem Tryz.cellsEnts : Tryz.prog.cellsOf 22 = 1 := by kernel_rfl
theorem ents_of_trod {H : Type} {enc : TypeId × Value → H} {W : World} {fuel : Nat} {v : Value} {x : DataW H × List MemPlace} (h : DataW.trod enc Tryz.prog W 0 (fun _ => true) true fuel 22 [v] = some x) : ∃ sa sc, ∃ es : List EntD, v = .slice sa es.length sc ∧ EntsAt W (.slice sa es.length sc) es := by
  obtain ⟨sa, cap, xs, hcs, hl, hx⟩ := sl_gen (⟨ByteArray.empty, 0, [], 0, 0, 0, [], [], [], []⟩ : EntD) (Q := fun cs e => ∃ pv gv ev fv lv, cs = (entRow e pv gv ev fv lv).toList ∧ EntParts W e pv gv ev fv lv) Tryz.underlying22 Tryz.cellsEnt (by decide) ent_of_trod h
  simp only [List.cons.injEq, and_true] at hcs
  refine ⟨sa, cap, xs, hcs, sa, cap, rfl, fun hne => ?_⟩
  obtain ⟨b, o, h1, h2⟩ := hx hne
  refine ⟨b, o, h1, fun i y hy => ?_⟩
  obtain ⟨cs', ⟨pv, gv, ev, fv, lv, rfl, h3⟩, h4⟩ := h2 i y hy
  exact ⟨pv, gv, ev, fv, lv, h3, fun j u hu => h4 j u (by rw [Array.getElem?_toList]; exact hu)⟩
set_option maxRecDepth 100000 in
/-- A config, read. -/
theorem cfg_of_trod {H : Type} {enc : TypeId × Value → H} {W : World} {n : Nat} {cs : List Value} {x : DataW H × List MemPlace} (h : DataW.trod enc Tryz.prog W 0 (fun _ => true) true n 24 cs = some x) : ∃ (c : CfgD) (sa : Option Addr) (sc : Nat), cs = [.int .i64 c.closed, .int .i64 c.opn, .int .i64 c.cycle, .int .i64 c.delay, .slice sa c.ents.length sc] ∧ EntsAt W (.slice sa c.ents.length sc) c.ents := by
  obtain ⟨xs, m, -, -, hl, hxs, hf⟩ := DataW.trod_struct Tryz.underlying24 h
  rw [Tryz.cellsCfg] at hl
  match cs, hl with
  | [c0, c1, c2, c3, c4], _ =>
    have g : ∀ i, i < 5 → ∃ y, xs[i]? = some y := fun i hi => ⟨xs[i]'(by rw [hxs]; exact hi), List.getElem?_eq_getElem _⟩
    obtain ⟨y0, k0⟩ := g 0 (by decide)
    obtain ⟨y1, k1⟩ := g 1 (by decide)
    obtain ⟨y2, k2⟩ := g 2 (by decide)
    obtain ⟨y3, k3⟩ := g 3 (by decide)
    obtain ⟨y4, k4⟩ := g 4 (by decide)
    have e0 : DataW.trod enc Tryz.prog W 0 (fun _ => true) true m 3 [c0] = some y0 := by have e := hf 0 _ rfl; rw [k0] at e; simpa [Tryz.cellsOne, Tryz.cellsEnts] using e
    have e1 : DataW.trod enc Tryz.prog W 0 (fun _ => true) true m 3 [c1] = some y1 := by have e := hf 1 _ rfl; rw [k1] at e; simpa [Tryz.cellsOne, Tryz.cellsEnts] using e
    have e2 : DataW.trod enc Tryz.prog W 0 (fun _ => true) true m 3 [c2] = some y2 := by have e := hf 2 _ rfl; rw [k2] at e; simpa [Tryz.cellsOne, Tryz.cellsEnts] using e
    have e3 : DataW.trod enc Tryz.prog W 0 (fun _ => true) true m 3 [c3] = some y3 := by have e := hf 3 _ rfl; rw [k3] at e; simpa [Tryz.cellsOne, Tryz.cellsEnts] using e
    have e4 : DataW.trod enc Tryz.prog W 0 (fun _ => true) true m 22 [c4] = some y4 := by have e := hf 4 _ rfl; rw [k4] at e; simpa [Tryz.cellsOne, Tryz.cellsEnts] using e
    obtain ⟨n0, q0, -, -⟩ := DataW.trod_int Tryz.underlying3 e0
    obtain ⟨n1, q1, -, -⟩ := DataW.trod_int Tryz.underlying3 e1
    obtain ⟨n2, q2, -, -⟩ := DataW.trod_int Tryz.underlying3 e2
    obtain ⟨n3, q3, -, -⟩ := DataW.trod_int Tryz.underlying3 e3
    obtain ⟨sa, sc, es, rfl, h4⟩ := ents_of_trod e4
    simp at q0 q1 q2 q3
    subst q0 q1 q2 q3
    exact ⟨⟨n0, n1, n2, n3, es⟩, sa, sc, rfl, h4⟩
end Go.Proofs.YtkphpgdgbnmnjacGreatDoor

namespace Go.Proofs.YtkphpgdgbnmnjacGreatDoor
open Go.RowKit Go.Extern.Stop Go.Stop Go.Extern

set_option maxRecDepth 100000 in
theorem actk_of_trod {H : Type} {enc : TypeId × Value → H} {W : World} (n : Nat) (cs : List Value) (x : DataW H × List MemPlace) (h : DataW.trod enc Tryz.prog W 0 (fun _ => true) true n 44 cs = some x) : ∃ r : ActK, cs = encK r := by
  obtain ⟨xs, m, -, -, hl, hxs, hf⟩ := DataW.trod_struct Tryz.underlying44 h
  rw [show Tryz.prog.cellsOf 44 = 4 by kernel_rfl] at hl
  match cs, hl with
  | [c0, c1, c2, c3], _ =>
    have g : ∀ i, i < 4 → ∃ y, xs[i]? = some y := fun i hi => ⟨xs[i]'(by rw [hxs]; exact hi), List.getElem?_eq_getElem _⟩
    obtain ⟨y0, k0⟩ := g 0 (by decide)
    obtain ⟨y1, k1⟩ := g 1 (by decide)
    obtain ⟨y2, k2⟩ := g 2 (by decide)
    obtain ⟨y3, k3⟩ := g 3 (by decide)
    have e0 : DataW.trod enc Tryz.prog W 0 (fun _ => true) true m 9 [c0] = some y0 := by have e := hf 0 _ rfl; rw [k0] at e; simpa [Tryz.cellsOne] using e
    have e1 : DataW.trod enc Tryz.prog W 0 (fun _ => true) true m 3 [c1] = some y1 := by have e := hf 1 _ rfl; rw [k1] at e; simpa [Tryz.cellsOne] using e
    have e2 : DataW.trod enc Tryz.prog W 0 (fun _ => true) true m 3 [c2] = some y2 := by have e := hf 2 _ rfl; rw [k2] at e; simpa [Tryz.cellsOne] using e
    have e3 : DataW.trod enc Tryz.prog W 0 (fun _ => true) true m 3 [c3] = some y3 := by have e := hf 3 _ rfl; rw [k3] at e; simpa [Tryz.cellsOne] using e
    obtain ⟨n0, q0⟩ := str_of_trod m [c0] y0 e0
    obtain ⟨n1, q1⟩ := int_of_trod m [c1] y1 e1
    obtain ⟨n2, q2⟩ := int_of_trod m [c2] y2 e2
    obtain ⟨n3, q3⟩ := int_of_trod m [c3] y3 e3
    simp only [encS, encI, List.cons.injEq, and_true] at q0 q1 q2 q3
    subst q0 q1 q2 q3
    exact ⟨⟨n0, n1, n2, n3⟩, rfl⟩
theorem actks_of_trod {H : Type} {enc : TypeId × Value → H} {W : World} {fuel : Nat} {v : Value} {x : DataW H × List MemPlace} (h : DataW.trod enc Tryz.prog W 0 (fun _ => true) true fuel 25 [v] = some x) : ∃ l : List ActK, SlAt encK 4 W v l ∧ l.length ≤ 9223372036854775807 := by
  obtain ⟨l, hl⟩ : ∃ l : List ActK, SlAt encK 4 W v l := sl_of_trod (⟨⟨#[]⟩, 0, 0, 0⟩ : ActK) (ec := encK) Tryz.underlying25 (show Tryz.prog.cellsOf 44 = 4 by kernel_rfl) (by decide) actk_of_trod h
  refine ⟨l, hl, ?_⟩
  obtain ⟨sa, cap, rfl, -, -⟩ := hl
  rcases DataW.trod_slice Tryz.underlying25 h with ⟨h1, -⟩ | ⟨a, len, cap', elems, rest, n, -, h1, -, -, h2, h3, -⟩
  · simp only [List.cons.injEq, Value.slice.injEq, and_true] at h1
    omega
  · simp only [List.cons.injEq, Value.slice.injEq, and_true] at h1
    unfold maxLen at h3
    omega
end Go.Proofs.YtkphpgdgbnmnjacGreatDoor

namespace Go.Proofs.YtkphpgdgbnmnjacGreatDoor
open Go.RowKit Go.Extern.Stop Go.Stop Go.Extern

section
variable {A : Nat → Addr} {H : Nat → Nat → Prop} {F : Nat → Prop} {w0 w w' : World} {c : CfgD} {kb bc bd rb bt : Nat} {lv : Value} {bs : List Nat} {K : KSt} {k W : Nat}
theorem KeIn.senv (h : KeIn H w0 w c kb bc bd rb bt lv bs K) (hs : SenK A w0) : SenK A w := hs.below h.bel
theorem ke_state (h : KeIn H w0 w c kb bc bd rb bt lv bs K) :
    Calls Tryz.prog 18 #[.pointer (some ⟨kb, 0, none⟩)] w fun e w' => e = .returned (.string (stateB K.on)) ∧ w' = w := by
  have c2 : w.cell? ⟨kb, 2, none⟩ = some (.pointer (some ⟨bc, 0, none⟩)) := h.cell 2 _ rfl
  have c0 : w.cell? ⟨kb, 0, none⟩ = some (.pointer (some ⟨bd, 0, none⟩)) := h.cell 0 _ rfl
  have HP : Hid _ := power_any bc K.c w h.ring.cells
  have HD : Hid _ := dog_reset bd K.d w h.dog
  clear h
  cases ho : K.c.off
  · cases hr : K.d.reset
    · have HO : Hid (K.on = 0) := by show _ = _; unfold KSt.on; rw [ho, hr]; rfl
      rw [ho] at HP; rw [hr] at HD
      go_enter Tryz.func18, Tryz.ntmps18
      go_wp2_with fail
      refine Calls.mono HP.out ?_
      rintro e w' ⟨rfl, rfl⟩
      go_wp2_with fail
      refine Calls.mono HD.out ?_
      rintro e w' ⟨rfl, rfl⟩
      go_wp2
      go_ret
      exact ⟨by rw [HO.out]; rfl, rfl⟩
    · have HO : Hid (K.on = 11) := by show _ = _; unfold KSt.on; rw [ho, hr]; rfl
      rw [ho] at HP; rw [hr] at HD
      go_enter Tryz.func18, Tryz.ntmps18
      go_wp2_with fail
      refine Calls.mono HP.out ?_
      rintro e w' ⟨rfl, rfl⟩
      go_wp2_with fail
      refine Calls.mono HD.out ?_
      rintro e w' ⟨rfl, rfl⟩
      go_wp2
      go_ret
      exact ⟨by rw [HO.out]; rfl, rfl⟩
  · have HO : Hid (K.on = 8) := by show _ = _; unfold KSt.on; rw [ho]; rfl
    rw [ho] at HP
    go_enter Tryz.func18, Tryz.ntmps18
    go_wp2_with fail
    refine Calls.mono HP.out ?_
    rintro e w' ⟨rfl, rfl⟩
    go_wp2
    go_ret
    exact ⟨by rw [HO.out]; rfl, rfl⟩
theorem ke_ready (h : KeIn H w0 w c kb bc bd rb bt lv bs K) (hs : SenK A w0) :
    Calls Tryz.prog 54 #[.pointer (some ⟨kb, 0, none⟩)] w fun e w' => e = .returned (errVal A K.on) ∧ w' = w := by
  have HC : Hid _ := ke_state h
  have g7 := (h.senv hs).c7
  have g10 := (h.senv hs).c10
  clear h hs
  rcases K.on_cases with ho | ho | ho
  all_goals
    rw [ho] at HC ⊢
    go_enter Tryz.func54, Tryz.ntmps54
    go_wp2_with fail
    refine Calls.mono HC.out ?_
    rintro e w' ⟨rfl, rfl⟩
    first | rw [show stateB 0 = ⟨#[111, 110]⟩ from rfl] | rw [show stateB 8 = ⟨#[111, 102, 102]⟩ from rfl] | rw [show stateB 11 = ⟨#[114, 101, 115, 101, 116]⟩ from rfl]
    go_wp2
    go_ret
    exact ⟨rfl, rfl⟩
/-- No such entity. -/
theorem ke_find_no (i : Int) (h : KeIn H w0 w c kb bc bd rb bt lv bs K) (hs : SenK A w0) (hi : i < 0 ∨ (K.ls.length : Int) ≤ i) :
    Calls Tryz.prog 80 #[.pointer (some ⟨kb, 0, none⟩), .int .i64 i] w fun e w' => e = .returned (.tuple #[.pointer none, errVal A 5]) ∧ Below w.heap.size w w' := by
  have c5 : w.cell? ⟨kb, 5, none⟩ = some lv := h.cell 5 _ rfl
  have g4 := (h.senv hs).c4
  obtain ⟨la, lc, rfl⟩ := ow_form h.own
  rw [show bs.length = K.ls.length by rw [h.blen, h.llen]] at c5
  clear h hs
  by_cases h0 : i < 0
  · clear hi
    go_enter Tryz.func80, Tryz.ntmps80
    go_wp2_with fail
    go_quiet (fail)
    go_wp2
    go_ret2
    exact ⟨rfl, below_drewN (Below.refl _ _) _⟩
  · have h1 : (K.ls.length : Int) ≤ i := by omega
    clear hi
    go_enter Tryz.func80, Tryz.ntmps80
    go_wp2_with fail
    go_quiet (fail)
    go_wp2
    go_ret2
    exact ⟨rfl, below_drewN (Below.refl _ _) _⟩
theorem ke_find (n : Nat) {b g cap : Nat} (h : KeIn H w0 w c kb bc bd rb bt lv bs K) (hn : n < K.ls.length) (hlv : lv = .slice (some ⟨g, 0, none⟩) K.ls.length cap) (hc : w.cell? ⟨g, n, none⟩ = some (.pointer (some ⟨b, 0, none⟩))) :
    Calls Tryz.prog 80 #[.pointer (some ⟨kb, 0, none⟩), .int .i64 (n : Int)] w fun e w' => e = .returned (.tuple #[.pointer (some ⟨b, 0, none⟩), .nilIface]) ∧ w' = w := by
  have c5 : w.cell? ⟨kb, 5, none⟩ = some lv := h.cell 5 _ rfl
  subst hlv
  clear h
  have g0 : ¬ (n : Int) < 0 := by omega
  have g1 : ¬ (K.ls.length : Int) ≤ (n : Int) := by omega
  have g2 : (n : Int) < (K.ls.length : Int) := by omega
  go_enter Tryz.func80, Tryz.ntmps80
  go_wp2
  go_ret2
  exact ⟨rfl, rfl⟩
theorem errVal_pos {j : Nat} (h : j ≠ 0) : ∃ i, errVal A j = .iface 292 (.pointer (some (A i))) := by
  cases j with
  | zero => exact absurd rfl h
  | succ i => exact ⟨i, rfl⟩
theorem ke_reach_off (i : Int) (h : KeIn H w0 w c kb bc bd rb bt lv bs K) (hs : SenK A w0) (ho : K.on ≠ 0) :
    Calls Tryz.prog 45 #[.pointer (some ⟨kb, 0, none⟩), .int .i64 i] w fun e w' => e = .returned (.tuple #[.pointer none, errVal A K.on]) ∧ w' = w := by
  have HC : Hid _ := ke_ready h hs
  clear h
  obtain ⟨j, hj⟩ := errVal_pos (A := A) ho
  rw [hj] at HC ⊢
  go_enter Tryz.func45, Tryz.ntmps45
  go_wp2_with fail
  refine Calls.mono HC.out ?_
  rintro e w' ⟨rfl, rfl⟩
  go_wp2
  go_ret2
  exact ⟨rfl, rfl⟩
theorem ke_reach_no (i : Int) (h : KeIn H w0 w c kb bc bd rb bt lv bs K) (hs : SenK A w0) (ho : K.on = 0) (hi : i < 0 ∨ (K.ls.length : Int) ≤ i) :
    Calls Tryz.prog 45 #[.pointer (some ⟨kb, 0, none⟩), .int .i64 i] w fun e w' => e = .returned (.tuple #[.pointer none, errVal A 5]) ∧ Below w.heap.size w w' := by
  have HC : Hid _ := ke_ready h hs
  have HX : Hid _ := ke_find_no i h hs hi
  clear h hi
  rw [ho, show errVal A 0 = .nilIface from rfl] at HC
  go_enter Tryz.func45, Tryz.ntmps45
  go_wp2_with fail
  refine Calls.mono HC.out ?_
  rintro e w' ⟨rfl, rfl⟩
  go_wp2_with fail
  refine Calls.mono HX.out ?_
  rintro e w2 ⟨rfl, hb⟩
  go_wp2
  go_ret2
  exact ⟨rfl, hb⟩
theorem ke_reach (n : Nat) {b g cap : Nat} (h : KeIn H w0 w c kb bc bd rb bt lv bs K) (hs : SenK A w0) (ho : K.on = 0) (hn : n < K.ls.length) (hlv : lv = .slice (some ⟨g, 0, none⟩) K.ls.length cap) (hc : w.cell? ⟨g, n, none⟩ = some (.pointer (some ⟨b, 0, none⟩))) :
    Calls Tryz.prog 45 #[.pointer (some ⟨kb, 0, none⟩), .int .i64 (n : Int)] w fun e w' => e = .returned (.tuple #[.pointer (some ⟨b, 0, none⟩), .nilIface]) ∧ w' = w := by
  have HC : Hid _ := ke_ready h hs
  have HX : Hid _ := ke_find n h hn hlv hc
  clear h hlv hc hn
  rw [ho, show errVal A 0 = .nilIface from rfl] at HC
  go_enter Tryz.func45, Tryz.ntmps45
  go_wp2_with fail
  refine Calls.mono HC.out ?_
  rintro e w' ⟨rfl, rfl⟩
  go_wp2_with fail
  refine Calls.mono HX.out ?_
  rintro e w2 ⟨rfl, rfl⟩
  go_wp2
  go_ret2
  exact ⟨rfl, rfl⟩
theorem ke_now (h : KeIn H w0 w c kb bc bd rb bt lv bs K) :
    Calls Tryz.prog 20 #[.pointer (some ⟨kb, 0, none⟩)] w fun e w' => e = .returned (.int .i64 (K.d.now : Int)) ∧ w' = w := by
  have c0 : w.cell? ⟨kb, 0, none⟩ = some (.pointer (some ⟨bd, 0, none⟩)) := h.cell 0 _ rfl
  have HX : Hid _ := dog_now bd K.d w h.dog
  clear h
  go_enter Tryz.func20, Tryz.ntmps20
  go_wp2_with fail
  refine Calls.mono HX.out ?_
  rintro e w' ⟨rfl, rfl⟩
  go_wp2
  go_ret
  exact ⟨rfl, rfl⟩
theorem ke_kicks (h : KeIn H w0 w c kb bc bd rb bt lv bs K) :
    Calls Tryz.prog 21 #[.pointer (some ⟨kb, 0, none⟩)] w fun e w' => e = .returned (.int .i64 (K.d.kicks : Int)) ∧ w' = w := by
  have c0 : w.cell? ⟨kb, 0, none⟩ = some (.pointer (some ⟨bd, 0, none⟩)) := h.cell 0 _ rfl
  have HX : Hid _ := dog_kicks bd K.d w h.dog
  clear h
  go_enter Tryz.func21, Tryz.ntmps21
  go_wp2_with fail
  refine Calls.mono HX.out ?_
  rintro e w' ⟨rfl, rfl⟩
  go_wp2
  go_ret
  exact ⟨rfl, rfl⟩
theorem ke_total (h : KeIn H w0 w c kb bc bd rb bt lv bs K) :
    Calls Tryz.prog 19 #[.pointer (some ⟨kb, 0, none⟩)] w fun e w' => e = .returned (.string (totB K.t.st)) ∧ w' = w := by
  have c6 : w.cell? ⟨kb, 6, none⟩ = some (.pointer (some ⟨bt, 0, none⟩)) := h.cell 6 _ rfl
  have HX : Hid _ := to_status h.to
  clear h
  go_enter Tryz.func19, Tryz.ntmps19
  go_wp2_with fail
  refine Calls.mono HX.out ?_
  rintro e w' ⟨rfl, rfl⟩
  go_wp2
  go_ret
  exact ⟨rfl, rfl⟩
end
end Go.Proofs.YtkphpgdgbnmnjacGreatDoor
