/-
  ring.decode by a contract. Condition: seventeen bytes.
-/
import Derived.Test.YtebdepbnhemnpaaDoorRingEnc
import Derived.Deep.RegionHeld3
import Derived.Laws.IdiomStrings
import Derived.Laws.ResultCell
namespace Go.Proofs.YtebdepbnhemnpaaDoor
open Go.RowKit Go.Extern.Stop Go.Stop Go.Extern

structure RecRow (w : World) (b : Nat) (r : Rec) : Prop where
  heap : w.heap[b]? = some (.cells #[.int .i64 (r.seq : Int), .int .i64 (r.ent : Int), .int .i64 (r.kind : Int), .int .i64 (r.tick : Int)] 64 (0, 0))
theorem RecRow.at {w : World} {b : Nat} {r : Rec} (h : RecRow w b r) : RecAt w b r := by
  refine ⟨?_, ?_, ?_, ?_⟩ <;> simp [World.cell?, h.heap]
theorem RecRow.frozen {w : World} {b : Nat} {r : Rec} (h : RecRow w b r) (i : Nat) : w.frozen? ⟨b, i, .none⟩ = false := by simp [World.frozen?, h.heap]
theorem RecRow.below {w w' : World} {b B : Nat} {r : Rec} (h : RecRow w b r) (hb : Below B w w') (hlt : b < B) : RecRow w' b r := ⟨(hb.block b hlt).trans h.heap⟩
theorem RecRow.lt {w : World} {b : Nat} {r : Rec} (h : RecRow w b r) : b < w.heap.size := lt_of_row h.heap

theorem res_rec {fn : Func} {p u : Tmp} (h : fn.results = #[.cell p 64, .tmp u]) (tmps : Array Value) (w : World) (b : Nat) (r : Rec) (hp : tmps.getD p undef = .pointer (some ⟨b, 0, .none⟩)) (hr : RecAt w b r) :
    (results fn tmps).run Tryd.prog w = .ok (.tuple #[r.val, tmps.getD u undef]) w := by
  obtain ⟨c0, c1, c2, c3⟩ := hr
  rw [results_cell_tmp h, hp]
  go_simp
  rfl
theorem RecRow.set4 {w : World} {b : Nat} {r0 : Rec} (h : RecRow w b r0) (r : Rec) :
    RecRow ((((w.setCell ⟨b, 0, .none⟩ (.int .i64 (r.seq : Int))).setCell ⟨b, 1, .none⟩ (.int .i64 (r.ent : Int))).setCell ⟨b, 2, .none⟩ (.int .i64 (r.kind : Int))).setCell ⟨b, 3, .none⟩ (.int .i64 (r.tick : Int))) b r := by
  refine ⟨?_⟩
  simp [World.setCell, Array.getElem?_modify, h.heap]
theorem grown_set4 (w : World) (b : Nat) (v0 v1 v2 v3 : Value) :
    w.grownBy ((((w.setCell ⟨b, 0, .none⟩ v0).setCell ⟨b, 1, .none⟩ v1).setCell ⟨b, 2, .none⟩ v2).setCell ⟨b, 3, .none⟩ v3) (some b) :=
  grown_set (grown_set (grown_set (grown_set (grown_refl _ _) _ _) _ _) _ _) _ _
theorem RecRow.new (w : World) (r : Rec) : RecRow (w.alloc (.cells #[.int .i64 (r.seq : Int), .int .i64 (r.ent : Int), .int .i64 (r.kind : Int), .int .i64 (r.tick : Int)] 64)) w.heap.size r :=
  ⟨heap_alloc_new w _⟩

theorem text_inj {a b : ByteArray} (h : a.toList = b.toList) : a = b := by
  rw [ByteArray.toList_eq, ByteArray.toList_eq] at h
  exact ByteArray.ext (Array.toList_inj.1 h)
theorem two_new1 (w : World) (a b : Obj) : ((w.alloc a).alloc b).drew.heap[w.heap.size + 1]? = some b := by
  have := heap_alloc_new (w.alloc a) b
  simp only [World.size_alloc] at this
  exact this
theorem two_new0 (w : World) (a b : Obj) : ((w.alloc a).alloc b).drew.heap[w.heap.size]? = some a :=
  (((Below.refl (w.heap.size + 1) (w.alloc a)).alloc (by simp) b).block w.heap.size (Nat.lt_succ_self _)).trans (heap_alloc_new w a)

def dec0 (l : List UInt8) : Rec := ⟨num (l.take 4), num ((l.drop 4).take 1), num ((l.drop 5).take 1), num ((l.drop 6).take 6)⟩
open Classical in
def dec (l : List UInt8) : Option Rec := if (dec0 l).seq < 1 ∨ enc (dec0 l) ≠ l then none else some (dec0 l)
def decR (l : List UInt8) : Rec := (dec l).getD .none
def decB (l : List UInt8) : Bool := (dec l).isSome

theorem number_ext (t : ByteArray) (p q : Nat) (w : World) (h : p ≤ q ∧ q ≤ p + 6 ∧ q ≤ t.size) :
    Calls Tryd.prog 84 #[.string (t.extract p q)] w fun e w' => e = .returned (.int .i64 (num ((t.data.toList.drop p).take (q - p)) : Nat)) ∧ w' = w := by
  have h := number_any (t.extract p q) w (by simp; omega)
  rw [Lib.extract_data] at h
  exact h

set_option maxRecDepth 100000 in
set_option maxHeartbeats 2000000 in
theorem decode_any (t : ByteArray) (w : World) (ht : t.size = 17) :
    Calls Tryd.prog 74 #[.string t] w fun e w' => e = .returned (.tuple #[(decR t.data.toList).val, .bool (decB t.data.toList)]) ∧ Below w.heap.size w w' := by
  have ht' : (t.size : Int) = 17 := by omega
  go_enter Tryd.func74, Tryd.ntmps74
  go_upto_region 1 with fail
  go_cut [4] (fun p wx => p = .pointer (some ⟨w.heap.size + 1, 0, none⟩) ∧ wx.heap.size = w.heap.size + 2 ∧ RecRow wx (w.heap.size + 1) (dec0 t.data.toList) ∧ RecRow wx w.heap.size .none ∧ Below w.heap.size w wx)
  case first =>
    go_region_held3 (fun _ => True) (exact trivial) (first | (go_at_call 84; refine (number_ext t _ _ _ ?_).mono ?_; omega; rintro e w' ⟨rfl, rfl⟩))
    all_goals
      go_wp2_with fail
      go_meet
      case rel =>
        refine ⟨rfl, by simp, ⟨?_⟩, ⟨?_⟩, ?_⟩
        · exact two_new1 w _ _
        · exact two_new0 w _ _
        · exact (((Below.refl _ _).alloc (Nat.le_refl _) _).alloc (by simp) _).drew
  case rest =>
    obtain ⟨rfl, hsz, hx, hz, hb⟩ := hcut
    obtain ⟨x0, x1, x2, x3⟩ := hx.at
    obtain ⟨z0, z1, z2, z3⟩ := hz.at
    have f0 := hz.frozen 0
    have f1 := hz.frozen 1
    have f2 := hz.frozen 2
    have f3 := hz.frozen 3
    by_cases h1 : (dec0 t.data.toList).seq < 1
    · have h1' : ((dec0 t.data.toList).seq : Int) < 1 := by omega
      have HR : Hid (decR t.data.toList = .none ∧ decB t.data.toList = false) := by
        have : dec t.data.toList = none := if_pos (Or.inl h1)
        exact ⟨by unfold decR; rw [this]; rfl, by unfold decB; rw [this]; rfl⟩
      clear hx
      go_wp2_with fail
      refine bodyPost_ret (res_rec rfl _ _ w.heap.size .none rfl (hz.set4 .none).at) rfl ?_
      rw [HR.out.1, HR.out.2]
      exact ⟨rfl, below_grown hb (grown_set4 _ _ _ _ _ _) (by omega) (Nat.le_refl _)⟩
    · have h1' : ¬ ((dec0 t.data.toList).seq : Int) < 1 := by omega
      go_wp2_with fail
      refine (encode_any (dec0 t.data.toList) _).mono ?_
      rintro e w3 ⟨rfl, hb3⟩
      have hx3 := hx.below hb3 hx.lt
      have hz3 := hz.below hb3 hz.lt
      obtain ⟨x0, x1, x2, x3⟩ := hx3.at
      obtain ⟨z0, z1, z2, z3⟩ := hz3.at
      have f0 := hz3.frozen 0
      have f1 := hz3.frozen 1
      have f2 := hz3.frozen 2
      have f3 := hz3.frozen 3
      have B3 := hb.trans (hb3.mono (by omega))
      have s3 := hb3.size
      have HE : Hid (enc (dec0 t.data.toList) = t.data.toList ↔ (⟨(enc (dec0 t.data.toList)).toArray⟩ : ByteArray) = t) :=
        ⟨fun h => by rw [h], fun h => by have := congrArg (fun z : ByteArray => z.data.toList) h; simpa using this⟩
      generalize hG : (⟨(enc (dec0 t.data.toList)).toArray⟩ : ByteArray) = E at HE
      by_cases he : E = t
      · have HR : Hid (decR t.data.toList = dec0 t.data.toList ∧ decB t.data.toList = true) := by
          have : dec t.data.toList = some (dec0 t.data.toList) := if_neg (fun h => by
            rcases h with h | h
            · exact h1 h
            · exact h (HE.out.2 he))
          exact ⟨by unfold decR; rw [this]; rfl, by unfold decB; rw [this]; rfl⟩
        clear HE hG
        subst he
        go_wp2_with fail
        refine bodyPost_ret (res_rec rfl _ _ w.heap.size (dec0 E.data.toList) rfl (hz3.set4 _).at) rfl ?_
        rw [HR.out.1, HR.out.2]
        exact ⟨rfl, below_grown B3 (grown_set4 _ _ _ _ _ _) (by omega) (Nat.le_refl _)⟩
      · have HR : Hid (decR t.data.toList = .none ∧ decB t.data.toList = false) := by
          have : dec t.data.toList = none := if_pos (Or.inr fun h => he (HE.out.1 h))
          exact ⟨by unfold decR; rw [this]; rfl, by unfold decB; rw [this]; rfl⟩
        have hne : (E.toList == t.toList) = false := by
          rw [beq_eq_false_iff_ne]
          exact fun h => he (text_inj h)
        clear HE hG
        go_wp2_with fail
        refine bodyPost_ret (res_rec rfl _ _ w.heap.size .none rfl (hz3.set4 .none).at) rfl ?_
        rw [HR.out.1, HR.out.2]
        exact ⟨rfl, below_grown B3 (grown_set4 _ _ _ _ _ _) (by omega) (Nat.le_refl _)⟩
end Go.Proofs.YtebdepbnhemnpaaDoor
