/-
  (*conf.page).line by a contract: its words, a blank between, and a line break. Conditions: the page and the words lie in memory; what each word writes.
-/
import Derived.Test.YtbholbenjalliaaGreatDoorPgX
namespace Go.Proofs.YtbholbenjalliaaGreatDoor
open Go.RowKit Go.Extern.Stop Go.Stop Go.Extern

/-- What is written when k of the words are. -/
def preW (bs : List Bs) : Nat → Bs
  | 0 => []
  | k + 1 => preW bs k ++ ((if k = 0 then [] else [32]) ++ bs.getD k [])
theorem preW_join (h : Bs) (t : List Bs) : ∀ k, k ≤ t.length → preW (h :: t) (k + 1) = joinBy 32 h (t.take k)
  | 0, _ => by simp [preW, joinBy]
  | k + 1, hk => by
    rw [preW, preW_join h t k (by omega), if_neg (by omega)]
    have hlt : k < t.length := by omega
    have ht : t.take (k + 1) = t.take k ++ [t[k]] := by rw [List.take_add_one, List.getElem?_eq_getElem hlt]; rfl
    have hg : (h :: t).getD (k + 1) [] = t[k] := by simp [List.getD_eq_getElem?_getD, List.getElem?_eq_getElem hlt]
    rw [ht, hg]
    unfold joinBy
    rw [List.flatMap_append, List.append_assoc]
    simp
theorem preW_all (h : Bs) (t : List Bs) : preW (h :: t) (h :: t).length = joinBy 32 h t := by
  have := preW_join h t t.length (Nat.le_refl _)
  simpa using this
theorem preW_le (bs : List Bs) : ∀ (k j : Nat), k ≤ j → (preW bs k).length ≤ (preW bs j).length := by
  intro k j hkj
  induction j with
  | zero =>
    have : k = 0 := by omega
    rw [this]
    exact Nat.le_refl _
  | succ j ih =>
    by_cases h : k = j + 1
    · subst h; exact Nat.le_refl _
    · have := ih (by omega)
      rw [preW, List.length_append]
      omega
/-- What a word writes, whatever the page holds. -/
def WordOk (B pb : Nat) (pv : Value) (w : World) (x : Value × Bs) : Prop :=
  ∀ W l, PFr B pb w W → PageAt B pb pv l W → l.length ≤ 800000000 → Calls Tryz.prog 68 #[.pointer (some ⟨pb, 0, none⟩), x.1] W fun e W' => e = .returned (.tuple #[]) ∧ PageAt B pb pv (l ++ x.2) W' ∧ PFr B pb W W'
set_option maxHeartbeats 2000000 in
set_option maxRecDepth 100000 in
theorem line_at (B pb : Nat) (pv : Value) (l : List UInt8) (vb : Nat) (ws : List (Value × Bs)) (w : World) (h : PageAt B pb pv l w) (hv : w.heap[vb]? = some (.cells (ws.map (·.1)).toArray 20 (0, 0))) (hne : vb ≠ pb) (hw : ∀ x ∈ ws, WordOk B pb pv w x) (hn : ws.length ≤ 100) (hl : l.length + (preW (ws.map (·.2)) ws.length).length ≤ 700000000) :
    Calls Tryz.prog 40 #[.pointer (some ⟨pb, 0, none⟩), .slice (some ⟨vb, 0, none⟩) ws.length ws.length] w fun e w' => e = .returned (.tuple #[]) ∧ PageAt B pb pv (l ++ (preW (ws.map (·.2)) ws.length ++ [10])) w' ∧ PFr B pb w w' := by
  have H : Hid (PageAt B pb pv l w) := h
  have HV : Hid (∀ W, PFr B pb w W → ∀ (i : Nat) x, ws[i]? = some x → W.cell? ⟨vb, i, none⟩ = some x.1) := fun W hW i x hx => by
    have hb := hW.box hv hne (by decide)
    simp [World.cell?, hb, hx]
  have HW : Hid (∀ x ∈ ws, WordOk B pb pv w x) := hw
  have HN : Hid (ws.length ≤ 100) := hn
  have HL : Hid (l.length + (preW (ws.map (·.2)) ws.length).length ≤ 700000000) := hl
  have HP : Hid (∀ W, PageAt B pb pv l W → True) := fun _ _ => trivial
  clear h hv hw hn hl hne HP
  go_enter Tryz.func40, Tryz.ntmps40
  go_wp2_with fail
  go_loopw [4, 5, 8] (fun _ _ i wr => ∃ k : Nat, k ≤ ws.length ∧ i = .int .i64 k ∧ PageAt B pb pv (l ++ preW (ws.map (·.2)) k) wr ∧ PFr B pb w wr) (fun _ _ i _ => ws.length - (intOf i).toNat)
  case atStart => exact ⟨0, Nat.zero_le _, rfl, by simpa [preW] using H.out, PFr.refl _ _ _⟩
  case round =>
    obtain ⟨k, hk, rfl, hpg, hfr⟩ := hrel
    have HPG : Hid (PageAt B pb pv (l ++ preW (ws.map (·.2)) k) wr) := hpg
    have HFR : Hid (PFr B pb w wr) := hfr
    have hle : (l ++ preW (ws.map (·.2)) k).length ≤ 700000000 := by
      have h1 := HL.out
      have h2 := preW_le (ws.map (·.2)) k ws.length hk
      rw [List.length_append]; omega
    have HLE : Hid ((l ++ preW (ws.map (·.2)) k).length ≤ 700000000) := hle
    clear hpg hfr hle
    by_cases hlt : k < ws.length
    · obtain ⟨x, hx⟩ : ∃ x, ws[k]? = some x := ⟨_, List.getElem?_eq_getElem hlt⟩
      have c0 := HV.out wr HFR.out k x hx
      have HX : Hid (preW (ws.map (·.2)) (k + 1) = preW (ws.map (·.2)) k ++ ((if k = 0 then [] else [32]) ++ x.2)) := by
        show _ = _
        rw [preW, List.getD_eq_getElem?_getD, List.getElem?_map, hx]
        rfl
      have HO := HW.out x (List.mem_of_getElem? hx)
      have HOk : Hid (WordOk B pb pv w x) := HO
      have k0 : k < 100 := by have := HN.out; omega
      have k1 : (k : Int) < (ws.length : Int) := by omega
      clear hx HO
      by_cases hk0 : k = 0
      · subst hk0
        have hwc : Hid _ := HOk.out wr _ HFR.out HPG.out (by have := HLE.out; omega)
        go_wp2_with fail
        refine Calls.mono hwc.out ?_
        rintro e W' ⟨rfl, h1, h2⟩
        have H1 : Hid (PageAt B pb pv (l ++ preW (ws.map (·.2)) (0 + 1)) W' ∧ PFr B pb w W') := ⟨by rw [HX.out]; simpa [preW] using h1, HFR.out.trans h2⟩
        clear h1 h2 hwc
        go_wp2
        go_roundw
        case rel => exact ⟨1, by omega, by go_num, H1.out.1, H1.out.2⟩
        case measure => simp [intOf]; omega
      · have kp : (0 : Int) < (k : Int) := by omega
        have hbc : Hid _ := bld_byte B pb pv _ 32 wr HPG.out (by have := HLE.out; omega)
        have HC : Hid (∀ W, PageAt B pb pv (l ++ preW (ws.map (·.2)) k ++ [32]) W → PFr B pb wr W → _) := fun W h1 h2 => HOk.out W (l ++ preW (ws.map (·.2)) k ++ [32]) (HFR.out.trans h2) h1 (by have := HLE.out; rw [List.length_append]; simp only [List.length_cons, List.length_nil]; omega)
        have HK0 : Hid (¬ k = 0) := hk0
        have e32 : Hid (((32 : UInt8).toNat : Int) = 32) := rfl
        clear hk0
        go_wp2_with fail
        refine Calls.mono hbc.out ?_
        rintro e W1 ⟨rfl, h1, h2⟩
        have H1 : Hid (PageAt B pb pv (l ++ preW (ws.map (·.2)) k ++ [32]) W1 ∧ PFr B pb wr W1) := ⟨h1, h2⟩
        clear h1 h2 hbc
        go_wp2_with fail
        refine Calls.mono (HC.out _ H1.out.1 H1.out.2) ?_
        rintro e W2 ⟨rfl, h1, h2⟩
        have H2 : Hid (PageAt B pb pv (l ++ preW (ws.map (·.2)) (k + 1)) W2 ∧ PFr B pb w W2) := ⟨by rw [HX.out, if_neg HK0.out]; simpa using h1, (HFR.out.trans H1.out.2).trans h2⟩
        clear h1 h2 HC H1
        go_wp2
        go_roundw
        case rel => exact ⟨k + 1, by omega, by go_num, H2.out.1, H2.out.2⟩
        case measure => simp [intOf]; omega
    · have k1 : ¬ (k : Int) < (ws.length : Int) := by omega
      obtain rfl : k = ws.length := by omega
      have hbc : Hid _ := bld_byte B pb pv _ 10 wr HPG.out (by have := HLE.out; omega)
      go_wp2_with fail
      refine Calls.mono hbc.out ?_
      rintro e W1 ⟨rfl, h1, h2⟩
      have H1 : Hid (PageAt B pb pv (l ++ (preW (ws.map (·.2)) ws.length ++ [10])) W1 ∧ PFr B pb w W1) := ⟨by rw [← List.append_assoc]; exact h1, HFR.out.trans h2⟩
      clear h1 h2 hbc
      go_wp2
      go_end0
      exact ⟨rfl, H1.out.1, H1.out.2⟩
end Go.Proofs.YtbholbenjalliaaGreatDoor
