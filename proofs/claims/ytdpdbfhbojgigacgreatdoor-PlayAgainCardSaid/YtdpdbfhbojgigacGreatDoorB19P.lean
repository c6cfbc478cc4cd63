/-
  Several texts as one: KpRing, DcIdx, ToSt.
-/
import Derived.Test.YtdpdbfhbojgigacGreatDoorB12P
import Derived.Test.YtdpdbfhbojgigacGreatDoorB01P
import Derived.Test.YtdpdbfhbojgigacGreatDoorB00P
import Derived.Test.YtdpdbfhbojgigacGreatDoorB10P
import Derived.Test.YtdpdbfhbojgigacGreatDoorB06P
import Derived.BigQuiet
import Derived.Deep.QuietTactic
import Derived.Deep.DeepCutAuto
import Derived.WalkSmall
import Derived.Deep.RegionHeld3
import Derived.Maps.AppendAt
namespace Go.Proofs.YtdpdbfhbojgigacGreatDoor
open Go.RowKit Go.Extern.Stop Go.Stop Go.Extern

section
variable {A : Nat → Addr} {F F' : Nat → Prop} {w w' : World} {B rb bc : Nat} {s : CSt} {L : List Rec} {sp : Bool} {c : CfgD} {K : KSt} {k W : Nat}
structure RgS (F : Nat → Prop) (B : Nat) (w : World) (rb bc : Nat) (s : CSt) (L : List Rec) (sp : Bool) : Prop where
  ring : ∃ v, RingAt w B rb bc v L sp ∧ ∀ k, v.ownBlock = some k → F k
  cells : CellsAt w bc s
  fr : F rb
  fc : F bc
  ne : rb ≠ bc
  lt : ∀ k, F k → k < w.heap.size
theorem RgS.off {S : Nat → Prop} (h : RgS F B w rb bc s L sp) (ho : Off S w w') (hS : ∀ k, F k → ¬ S k) : RgS F B w' rb bc s L sp := by
  obtain ⟨v, h1, h2⟩ := h.ring
  exact ⟨⟨v, h1.off ho (hS rb h.fr) (fun g hg => hS g (h2 g hg)), h2⟩, h.cells.off ho (hS bc h.fc), h.fr, h.fc, h.ne, fun k hk => Nat.lt_of_lt_of_le (h.lt k hk) ho.size⟩
theorem RgS.to {v v' : Value} {s' : CSt} {L' : List Rec} {sp' : Bool} (h : RgS F B w rb bc s L sp) (hv : ∀ k, v.ownBlock = some k → F k) (h1 : RingAt w' B rb bc v' L' sp') (hn : ∀ k, v'.ownBlock = some k → v.ownBlock = some k ∨ w.heap.size ≤ k) (h2 : CellsAt w' bc s') (hz : w.heap.size ≤ w'.heap.size) : RgS (gr F w w') B w' rb bc s' L' sp' :=
  ⟨⟨v', h1, fun k hk => (hn k hk).elim (fun a => Or.inl (hv k a)) (fun a => Or.inr ⟨a, (h1.recs.lt k hk).2⟩)⟩, h2, Or.inl h.fr, Or.inl h.fc, h.ne, fun k hk => by
    rcases hk with hk | ⟨_, hk⟩
    · exact Nat.lt_of_lt_of_le (h.lt k hk) hz
    · exact hk⟩
/-- The cells alone have turned. -/
theorem RgS.toCells {s' : CSt} (h : RgS F B w rb bc s L sp) (h2 : CellsAt w' bc s') (hg : w.grownBy w' (some bc)) : RgS (gr F w w') B w' rb bc s' L sp ∧ Off F w w' := by
  obtain ⟨v, h1, h3⟩ := h.ring
  have ho := Off.of_grown hg
  exact ⟨h.to h3 (h1.off ho h.ne (fun g hg e => h1.sep.2 (by rw [hg, e]))) (fun k hk => Or.inl hk) h2 hg.size, ho.mono (fun k _ e => by rw [e]; exact h.fc)⟩
theorem rgs_app (h : RgS F B w rb bc K.c K.L K.sp) (hf : KFit c K k W) (hW : W + 18 ≤ 1099511627776) (ho : K.c.off = false) (hs : Sen4 A w) (hgm : 11 ≤ bc) (i kd t : Nat) (h1 : i ≤ 255) (h2 : kd ≤ 255) (h3 : t ≤ 281474976710655) :
    Calls Tryz.prog 127 #[.pointer (some ⟨rb, 0, none⟩), .int .i64 (i : Int), .int .i64 (kd : Int), .int .i64 (t : Int)] w fun e w' => ∃ r : Rec, e = .returned (.tuple #[r.val, errVal A (K.app i kd t).2]) ∧ RgS (gr F w w') B w' rb bc (K.app i kd t).1.c (K.app i kd t).1.L (K.app i kd t).1.sp ∧ Off F w w' := by
  have hsp : K.sp = false := by
    cases e : K.sp with
    | false => rfl
    | true => rw [hf.sp e] at ho; cases ho
  obtain ⟨v, hr, hv⟩ := h.ring
  rw [hsp] at hr
  have hS : ∀ V, Off (fun k => k = bc ∨ k = rb ∨ v.ownBlock = some k) w V → Off F w V := fun V hV => hV.mono (fun k _ hk => by
    rcases hk with rfl | rfl | hk
    · exact h.fc
    · exact h.fr
    · exact hv k hk)
  have hlast := hf.last
  by_cases hq : (lastR K.L).seq = 4294967295
  · have hB : K.app i kd t = (K, 7) := by unfold KSt.app; rw [if_neg (by rw [hsp]; simp), if_pos hq]
    rw [hB]
    refine (append_full A B rb bc v K.L i kd t w hr hs hf.llen (decide_eq_true (by omega)) (decide_eq_true (by omega)) (decide_eq_true (by omega)) hq).mono ?_
    rintro e w' ⟨rfl, hb⟩
    refine ⟨.none, rfl, ?_, Off.of_below hb F⟩
    show RgS (gr F w w') B w' rb bc K.c K.L K.sp
    rw [hsp]
    exact h.to hv (hr.below hb) (fun k hk => Or.inl hk) (h.cells.below hb) hb.size
  · refine (append_go A B rb bc v K.L K.c i kd t w hr h.cells hs hgm h.ne ⟨by have := hf.wr; omega, hf.left⟩ hf.llen h1 h2 h3 (by omega)).mono ?_
    rintro e w' (⟨j, hj, rfl, hri, hc, hof⟩ | ⟨h0, rfl, ⟨v', hri, hv'⟩, hc, hof⟩)
    · have hB : K.app i kd t = ({ K with c := (K.c.putRec (nextR K.L i kd t)).1, sp := true }, j + 1) := by unfold KSt.app; rw [if_neg (by rw [hsp]; simp), if_neg hq, if_neg (by omega), hj]
      rw [hB]
      exact ⟨.none, rfl, h.to hv hri (fun k hk => Or.inl hk) hc hof.size, hS w' hof⟩
    · have hB : K.app i kd t = ({ K with c := (K.c.putRec (nextR K.L i kd t)).1, L := keepL K.L (nextR K.L i kd t) }, 0) := by unfold KSt.app; rw [if_neg (by rw [hsp]; simp), if_neg hq, if_pos h0]
      rw [hB]
      refine ⟨_, rfl, ?_, hS w' hof⟩
      show RgS (gr F w w') B w' rb bc _ _ K.sp
      rw [hsp]
      exact h.to hv hri hv' hc hof.size
theorem rgs_cut (h : RgS F B w rb bc K.c K.L K.sp) (hs : Sen4 A w) (n : Int) :
    Calls Tryz.prog 30 #[.pointer (some ⟨bc, 0, none⟩), .int .i64 n] w fun e w' => e = .returned (errVal A (K.cut n).2) ∧ RgS (gr F w w') B w' rb bc (K.cut n).1.c (K.cut n).1.L (K.cut n).1.sp ∧ Off F w w' := by
  have same : RgS (gr F w w) B w rb bc K.c K.L K.sp := by obtain ⟨v, a, b⟩ := h.ring; exact h.to b a (fun k hk => Or.inl hk) h.cells (Nat.le_refl _)
  by_cases hn : n < 0
  · have hB : K.cut n = (K, 2) := by unfold KSt.cut; rw [if_pos hn]
    rw [hB]
    refine (cut_low4 A bc n w hs hn).mono ?_
    rintro e w' ⟨rfl, rfl⟩
    exact ⟨rfl, same, Off.refl _ _⟩
  · by_cases ho : K.c.off = true
    · have hB : K.cut n = (K, 8) := by unfold KSt.cut; rw [if_neg hn, if_pos ho]
      rw [hB]
      refine (cut_off4 A bc K.c n w h.cells hs hn ho).mono ?_
      rintro e w' ⟨rfl, rfl⟩
      exact ⟨rfl, same, Off.refl _ _⟩
    · have ho' : K.c.off = false := by cases e : K.c.off; rfl; exact absurd e ho
      obtain ⟨q, rfl⟩ : ∃ q : Nat, n = (q : Int) := ⟨n.toNat, by omega⟩
      have hB : K.cut (q : Int) = ({ K with c := { K.c with cut := true, left := q } }, 0) := by unfold KSt.cut; rw [if_neg hn, if_neg ho]; rfl
      rw [hB]
      refine (cut_on bc K.c q w h.cells ho').mono ?_
      rintro e w' ⟨rfl, hc, hg, -⟩
      obtain ⟨a, b⟩ := h.toCells hc hg
      exact ⟨rfl, a, b⟩
theorem rgs_on (h : RgS F B w rb bc s L sp) :
    Calls Tryz.prog 32 #[.pointer (some ⟨bc, 0, none⟩)] w fun e w' => e = .returned (.tuple #[]) ∧ RgS (gr F w w') B w' rb bc { s with off := false, cut := false, left := 0 } L sp ∧ Off F w w' := by
  refine (on_any bc s w h.cells).mono ?_
  rintro e w' ⟨rfl, hc, hg, -⟩
  obtain ⟨a, b⟩ := h.toCells hc hg
  exact ⟨rfl, a, b⟩
/-- Opened anew, on its cells. -/
theorem rgs_open {D : Nat} (h : CellsAt w bc s) (hs : Sen4 A w) (hbig : 153 ≤ s.size) (hoff : s.off = false) (hD : D ≤ w.heap.size) :
    Calls Tryz.prog 33 #[.pointer (some ⟨bc, 0, none⟩)] w fun e w' => ∃ rb, e = .returned (.tuple #[.pointer (some ⟨rb, 0, none⟩), .nilIface]) ∧ RgS (fun k => k = bc ∨ (w.heap.size ≤ k ∧ k < w'.heap.size)) D w' rb bc s (openL (s.bytes.take s.size)) false ∧ Below w.heap.size w w' := by
  refine (open_on A bc s w h hs (by unfold CSt.err; rw [if_neg (by omega), if_neg (by rw [hoff]; simp)])).mono ?_
  rintro e w' ⟨rb, v, rfl, hr, hb⟩
  have hlt := h.lt
  have hrl := hr.lo
  refine ⟨rb, rfl, ⟨⟨v, ?_, fun k hk => Or.inr (hr.recs.lt k hk)⟩, h.below hb, Or.inr ⟨hr.lo, hr.lt⟩, Or.inl rfl, by omega, fun k hk => ?_⟩, hb⟩
  · rw [openL_take _ _ hbig]
    exact ⟨hr.heap, hr.recs.mono hD, hr.sep, Nat.le_trans hD hr.lo⟩
  · rcases hk with rfl | hk
    · exact Nat.lt_of_lt_of_le hlt hb.size
    · exact hk.2
theorem DogAt.off {w w' : World} {b : Nat} {d : DSt} {S : Nat → Prop} (h : DogAt w b d) (ho : Off S w w') (h1 : ¬ S b) : DogAt w' b d := ⟨(ho.block b h.lt h1).trans h.heap, h.hc, h.ho, h.hk, h.hb, h.hn⟩
end
end Go.Proofs.YtdpdbfhbojgigacGreatDoor

namespace Go.Proofs.YtdpdbfhbojgigacGreatDoor
open Go.RowKit Go.Extern.Stop Go.Stop Go.Extern

/-- The first place of a text (-1: none). -/
def idxOf (l : List ByteArray) (s : ByteArray) : Int := match l.findIdx? (fun y => decide (y = s)) with
  | some i => (i : Int)
  | none => -1
theorem slatS_cell {w : World} {sa : Option Addr} {cap : Nat} {l : List ByteArray} (h : SlAt encS 1 w (.slice sa l.length cap) l) {k : Nat} {x : ByteArray} (hx : l[k]? = some x) : ∃ g o, sa = some ⟨g, o, none⟩ ∧ ∀ i x, l[i]? = some x → w.cell? ⟨g, o + i, none⟩ = some (.string x) := by
  obtain ⟨sa', cap', hsl, -, hcc⟩ := h
  cases hsl
  obtain ⟨g, o, rfl, hc0⟩ := hcc (fun h => by rw [h] at hx; simp at hx)
  exact ⟨g, o, rfl, fun i x hx => by have := hc0 i x hx 0 _ rfl; simpa using this⟩
theorem bytesN {a b : ByteArray} (h : ¬ a = b) : (a.toList == b.toList) = false ∧ ¬ a.toList = b.toList := by
  have h2 : ¬ a.toList = b.toList := fun e => by
    rw [ByteArray.toList_eq, ByteArray.toList_eq] at e
    apply h
    obtain ⟨⟨a⟩⟩ := a; obtain ⟨⟨b⟩⟩ := b
    simp at e
    subst e; rfl
  exact ⟨by simpa using h2, h2⟩
theorem idxOf_at {l : List ByteArray} {s : ByteArray} {k : Nat} (hk : l[k]? = some s) (h : ∀ j x, j < k → l[j]? = some x → x ≠ s) : idxOf l s = k := by
  have : l.findIdx? (fun y => decide (y = s)) = some k := by
    rw [List.findIdx?_eq_some_iff_getElem]
    obtain ⟨hlt, e⟩ := List.getElem?_eq_some_iff.1 hk
    exact ⟨hlt, by simp [e], fun j hj => by simpa using h j _ hj (List.getElem?_eq_getElem (by omega))⟩
  unfold idxOf; rw [this]
theorem idxOf_no {l : List ByteArray} {s : ByteArray} (h : ∀ j x, j < l.length → l[j]? = some x → x ≠ s) : idxOf l s = -1 := by
  have : l.findIdx? (fun y => decide (y = s)) = none := by
    rw [List.findIdx?_eq_none_iff]
    intro y hy
    obtain ⟨j, hj⟩ := List.getElem?_of_mem hy
    have hjl : j < l.length := by
      rcases Nat.lt_or_ge j l.length with h' | h'
      · exact h'
      · rw [List.getElem?_eq_none h'] at hj; cases hj
    simpa using h j y hjl hj
  unfold idxOf; rw [this]
set_option maxRecDepth 100000 in
theorem index_at (l : List ByteArray) (s : ByteArray) (sa : Option Addr) (cap : Nat) (w : World) (h : SlAt encS 1 w (.slice sa l.length cap) l) (hn : l.length ≤ 1000000) :
    Calls Tryz.prog 85 #[.slice sa l.length cap, .string s] w fun e w' => e = .returned (.int .i64 (idxOf l s)) ∧ w' = w := by
  have HL : Hid (SlAt encS 1 w (.slice sa l.length cap) l) := h
  clear h
  go_enter Tryz.func85, Tryz.ntmps85
  go_wp2_with fail
  go_loopw [5] (fun i wr => wr = w ∧ ∃ k : Nat, k ≤ l.length ∧ i = .int .i64 k ∧ ∀ j x, j < k → l[j]? = some x → x ≠ s) (fun i _ => l.length - (intOf i).toNat)
  case atStart => exact ⟨rfl, 0, Nat.zero_le _, rfl, fun j x hj => absurd hj (by omega)⟩
  case round =>
    obtain ⟨rfl, k, hk, rfl, hno⟩ := hrel
    have HN : Hid (∀ j x, j < k → l[j]? = some x → x ≠ s) := hno
    clear hno
    by_cases hlt : k < l.length
    · have k1 : (k : Int) < (l.length : Int) := by omega
      obtain ⟨x, hx⟩ : ∃ x, l[k]? = some x := ⟨_, List.getElem?_eq_getElem hlt⟩
      have HX : Hid (l[k]? = some x) := hx
      obtain ⟨g, o, rfl, hc⟩ := slatS_cell HL.out hx
      have c0 := hc k x hx
      clear hc hx
      by_cases e : x = s
      · subst e
        have HE : Hid (idxOf l x = k) := idxOf_at HX.out HN.out
        go_wp2
        go_ret
        exact ⟨by rw [HE.out]; rfl, rfl⟩
      · have n1 := (bytesN e).1
        have n2 := (bytesN e).2
        go_wp2_with fail
        go_roundw
        case rel =>
          refine ⟨trivial, k + 1, by omega, by go_num, fun j y hj hy => ?_⟩
          rcases Nat.lt_or_ge j k with h1 | h1
          · exact HN.out j y h1 hy
          · obtain rfl : j = k := by omega
            rw [HX.out] at hy
            cases hy
            exact e
        case measure => simp [intOf]; omega
    · have k1 : ¬ (k : Int) < (l.length : Int) := by omega
      have HE : Hid (idxOf l s = -1) := idxOf_no (fun j x hj hx => HN.out j x (by omega) hx)
      go_wp2
      go_ret
      exact ⟨by rw [HE.out]; rfl, rfl⟩
end Go.Proofs.YtdpdbfhbojgigacGreatDoor

namespace Go.Proofs.YtdpdbfhbojgigacGreatDoor
open Go.RowKit Go.Extern.Stop Go.Stop Go.Extern

section
variable {w0 w1 w w' : World} {b : Nat} {s s' : TSt}
/-- The status, and how many cycles are left from expired to stopped. -/
def toRow (s : TSt) : Array Value := #[.string (totB s.st), .int .i64 ((s.delay : Int) - (s.since : Int))]
structure ToIn (w0 w : World) (b : Nat) (s : TSt) : Prop where
  heap : w.heap[b]? = some (.cells (toRow s) 160 (0, 0))
  bel : Below w0.heap.size w0 w
  lo : w0.heap.size ≤ b
theorem ToIn.below (h : ToIn w0 w b s) (hb : Below w.heap.size w w') : ToIn w0 w' b s := ⟨row_below hb h.heap, h.bel.trans (hb.mono h.bel.size), h.lo⟩
theorem ToIn.from (h : ToIn w1 w b s) (hb : Below w0.heap.size w0 w1) : ToIn w0 w b s := ⟨h.heap, hb.trans (h.bel.mono hb.size), Nat.le_trans hb.size h.lo⟩
/-- All but package total's own blocks is as it was. -/
def FrTo (w w' : World) : Prop := ∀ (k : Nat) (c : Array Value) (T : TypeId) (fr : Nat × Nat), w.heap[k]? = some (.cells c T fr) → T ≠ 160 → w'.heap[k]? = some (.cells c T fr)
theorem FrTo.refl (w : World) : FrTo w w := fun _ _ _ _ h _ => h
/-- Whatever block of another type is written. -/
theorem ToIn.other {b' : Nat} {c : Array Value} {T : TypeId} {fr : Nat × Nat} (h : ToIn w0 w b s) (hg : w.grownBy w' (some b')) (hb : w.heap[b']? = some (.cells c T fr)) (hT : T ≠ 160) (hB : Below w0.heap.size w0 w') : ToIn w0 w' b s := by
  refine ⟨(hg.block b (lt_of_row h.heap) (fun e => ?_)).trans h.heap, hB, h.lo⟩
  obtain rfl := Option.some.inj e
  rw [h.heap] at hb
  simp only [Option.some.injEq, Obj.cells.injEq] at hb
  exact hT hb.2.1.symm
theorem to_new (d : Nat) (w : World) (hd : d ≤ 20) :
    Calls Tryz.prog 100 #[.int .i64 (d : Int)] w fun v w' => ∃ b, v = .returned (.tuple #[.pointer (some ⟨b, 0, none⟩), .nilIface]) ∧ ToIn w w' b (TSt.new d) := by
  have g1 : ¬ (d : Int) < 0 := by omega
  have g2 : ¬ 20 < (d : Int) := by omega
  have e : toRow (TSt.new d) = #[.string ⟨#[111, 107]⟩, .int .i64 (d : Int)] := by simp [toRow, TSt.new, totB]
  have HE : Hid (toRow (TSt.new d) = #[.string ⟨#[111, 107]⟩, .int .i64 (d : Int)]) := e
  clear e
  go_enter Tryz.func100, Tryz.ntmps100
  go_wp2
  go_ret2
  exact ⟨w.heap.size, rfl, by rw [HE.out]; exact heap_alloc_new w _, Below.one _ _, Nat.le_refl _⟩
theorem to_may (h : ToIn w0 w b s) (hs : s.st ≤ 3) :
    Calls Tryz.prog 96 #[.pointer (some ⟨b, 0, none⟩)] w fun v w' => v = .returned (.bool (decide (s.st ≠ 3))) ∧ w' = w := by
  have hr := h.heap
  have c2 : ∀ x, totB s.st = x → w.cell? ⟨b, 0, none⟩ = some (.string x) := fun x hx => by simp [World.cell?, hr, hx, toRow]
  obtain ⟨d, si, st⟩ := s
  clear h hr
  have hs' : st ≤ 3 := hs
  match st, hs' with
  | 0, _ =>
    have c := c2 ⟨#[111, 107]⟩ rfl
    clear c2
    go_enter Tryz.func96, Tryz.ntmps96
    go_wp2
    go_ret
    exact ⟨rfl, rfl⟩
  | 1, _ =>
    have c := c2 ⟨#[102, 97, 105, 108, 101, 100]⟩ rfl
    clear c2
    go_enter Tryz.func96, Tryz.ntmps96
    go_wp2
    go_ret
    exact ⟨rfl, rfl⟩
  | 2, _ =>
    have c := c2 ⟨#[101, 120, 112, 105, 114, 101, 100]⟩ rfl
    clear c2
    go_enter Tryz.func96, Tryz.ntmps96
    go_wp2
    go_ret
    exact ⟨rfl, rfl⟩
  | 3, _ =>
    have c := c2 ⟨#[115, 116, 111, 112, 112, 101, 100]⟩ rfl
    clear c2
    go_enter Tryz.func96, Tryz.ntmps96
    go_wp2
    go_ret
    exact ⟨rfl, rfl⟩
set_option maxRecDepth 100000 in
theorem sindex_at (l : List ByteArray) (s : ByteArray) (sa : Option Addr) (cap : Nat) (w : World) (h : SlAt encS 1 w (.slice sa l.length cap) l) (hn : l.length ≤ 1000000) :
    Calls Tryz.prog 223 #[.slice sa l.length cap, .string s] w fun e w' => e = .returned (.int .i64 (idxOf l s)) ∧ w' = w := by
  have HL : Hid (SlAt encS 1 w (.slice sa l.length cap) l) := h
  clear h
  go_enter Tryz.func223, Tryz.ntmps223
  go_wp2_with fail
  go_loopw [5, 8] (fun _ i wr => wr = w ∧ ∃ k : Nat, k ≤ l.length ∧ i = .int .i64 k ∧ ∀ j x, j < k → l[j]? = some x → x ≠ s) (fun _ i _ => l.length - (intOf i).toNat)
  case atStart => exact ⟨rfl, 0, Nat.zero_le _, rfl, fun j x hj => absurd hj (by omega)⟩
  case round =>
    obtain ⟨rfl, k, hk, rfl, hno⟩ := hrel
    have HN : Hid (∀ j x, j < k → l[j]? = some x → x ≠ s) := hno
    clear hno
    by_cases hlt : k < l.length
    · have k1 : (k : Int) < (l.length : Int) := by omega
      obtain ⟨x, hx⟩ : ∃ x, l[k]? = some x := ⟨_, List.getElem?_eq_getElem hlt⟩
      have HX : Hid (l[k]? = some x) := hx
      obtain ⟨g, o, rfl, hc⟩ := slatS_cell HL.out hx
      have c0 := hc k x hx
      clear hc hx
      by_cases e : x = s
      · subst e
        have HE : Hid (idxOf l x = k) := idxOf_at HX.out HN.out
        go_wp2
        go_ret
        exact ⟨by rw [HE.out]; rfl, rfl⟩
      · have n1 := (bytesN e).1
        have n2 := (bytesN e).2
        have n3 := (bytesN (fun e' => e e'.symm : ¬ s = x)).1
        have n4 := (bytesN (fun e' => e e'.symm : ¬ s = x)).2
        go_wp2_with fail
        go_roundw
        case rel =>
          refine ⟨trivial, k + 1, by omega, by go_num, fun j y hj hy => ?_⟩
          rcases Nat.lt_or_ge j k with h1 | h1
          · exact HN.out j y h1 hy
          · obtain rfl : j = k := by omega
            rw [HX.out] at hy
            cases hy
            exact e
        case measure => simp [intOf]; omega
    · have k1 : ¬ (k : Int) < (l.length : Int) := by omega
      have HE : Hid (idxOf l s = -1) := idxOf_no (fun j x hj hx => HN.out j x (by omega) hx)
      go_wp2
      go_ret
      exact ⟨by rw [HE.out]; rfl, rfl⟩
theorem idx_has' (l : List ByteArray) (x : ByteArray) : decide (0 ≤ idxOf l x) = hasB l x := by
  cases hb : hasB l x with
  | false =>
    have : idxOf l x = -1 := idxOf_no (fun j y _ hy e => by
      have := List.any_eq_false.1 hb y (List.mem_of_getElem? hy)
      simp [e] at this)
    rw [this]; rfl
  | true =>
    unfold hasB at hb
    obtain ⟨y, hy, he⟩ := List.any_eq_true.1 hb
    unfold idxOf
    split
    · simp
    · rename_i hn
      have := List.findIdx?_eq_none_iff.1 hn y hy
      rw [he] at this
      cases this
theorem shas_at (l : List ByteArray) (s : ByteArray) (sa : Option Addr) (cap : Nat) (w : World) (h : SlAt encS 1 w (.slice sa l.length cap) l) (hn : l.length ≤ 1000000) :
    Calls Tryz.prog 174 #[.slice sa l.length cap, .string s] w fun e w' => e = .returned (.bool (hasB l s)) ∧ w' = w := by
  have H : Hid (Calls Tryz.prog 223 #[.slice sa l.length cap, .string s] w fun e w' => e = .returned (.int .i64 (idxOf l s)) ∧ w' = w) := sindex_at l s sa cap w h hn
  rw [← idx_has']
  clear hn h
  go_enter Tryz.func174, Tryz.ntmps174
  go_wp2_with fail
  refine H.out.mono ?_
  rintro e w' ⟨rfl, rfl⟩
  go_wp2
  go_ret
  exact ⟨rfl, rfl⟩
set_option maxHeartbeats 1000000 in
theorem worst_at (l : List ByteArray) (sa : Option Addr) (cap : Nat) (w : World) (h : SlAt encS 1 w (.slice sa l.length cap) l) (hn : l.length ≤ 1000000) :
    Calls Tryz.prog 128 #[.slice sa l.length cap] w fun e w' => e = .returned (.string (totB (worstOf l))) ∧ w' = w := by
  have HL : Hid (SlAt encS 1 w (.slice sa l.length cap) l) := h
  have HN : Hid (l.length ≤ 1000000) := hn
  clear h hn
  cases hx : hasB l expiredB
  · cases hf : hasB l failedB
    · have HW : Hid (totB (worstOf l) = ⟨#[111, 107]⟩) := by show _ = _; unfold worstOf; rw [if_neg (by rw [hx]; simp), if_neg (by rw [hf]; simp)]; rfl
      have HX : Hid (hasB l ⟨#[101, 120, 112, 105, 114, 101, 100]⟩ = false) := hx
      have HF : Hid (hasB l ⟨#[102, 97, 105, 108, 101, 100]⟩ = false) := hf
      clear hx hf
      go_enter Tryz.func128, Tryz.ntmps128
      go_wp2_with fail
      refine (shas_at l ⟨#[101, 120, 112, 105, 114, 101, 100]⟩ sa cap _ HL.out HN.out).mono ?_
      rintro e w' ⟨rfl, rfl⟩
      rw [HX.out]
      go_wp2_with fail
      refine (shas_at l ⟨#[102, 97, 105, 108, 101, 100]⟩ sa cap _ HL.out HN.out).mono ?_
      rintro e w' ⟨rfl, rfl⟩
      rw [HF.out]
      go_wp2
      go_ret
      exact ⟨by rw [HW.out]; rfl, rfl⟩
    · have HW : Hid (totB (worstOf l) = ⟨#[102, 97, 105, 108, 101, 100]⟩) := by show _ = _; unfold worstOf; rw [if_neg (by rw [hx]; simp), if_pos hf]; rfl
      have HX : Hid (hasB l ⟨#[101, 120, 112, 105, 114, 101, 100]⟩ = false) := hx
      have HF : Hid (hasB l ⟨#[102, 97, 105, 108, 101, 100]⟩ = true) := hf
      clear hx hf
      go_enter Tryz.func128, Tryz.ntmps128
      go_wp2_with fail
      refine (shas_at l ⟨#[101, 120, 112, 105, 114, 101, 100]⟩ sa cap _ HL.out HN.out).mono ?_
      rintro e w' ⟨rfl, rfl⟩
      rw [HX.out]
      go_wp2_with fail
      refine (shas_at l ⟨#[102, 97, 105, 108, 101, 100]⟩ sa cap _ HL.out HN.out).mono ?_
      rintro e w' ⟨rfl, rfl⟩
      rw [HF.out]
      go_wp2
      go_ret
      exact ⟨by rw [HW.out]; rfl, rfl⟩
  · have HW : Hid (totB (worstOf l) = ⟨#[101, 120, 112, 105, 114, 101, 100]⟩) := by show _ = _; unfold worstOf; rw [if_pos hx]; rfl
    have HX : Hid (hasB l ⟨#[101, 120, 112, 105, 114, 101, 100]⟩ = true) := hx
    clear hx
    go_enter Tryz.func128, Tryz.ntmps128
    go_wp2_with fail
    refine (shas_at l ⟨#[101, 120, 112, 105, 114, 101, 100]⟩ sa cap _ HL.out HN.out).mono ?_
    rintro e w' ⟨rfl, rfl⟩
    rw [HX.out]
    go_wp2
    go_ret
    exact ⟨by rw [HW.out]; rfl, rfl⟩
theorem ToIn.put (h : ToIn w0 w b s) (j : Nat) (u : Value) (hr : (toRow s).setIfInBounds j u = toRow s') : ToIn w0 (w.setCell ⟨b, j, none⟩ u) b s' := by
  refine ⟨?_, h.bel.setCell (p := ⟨b, j, none⟩) h.lo _, h.lo⟩
  simp only [World.setCell, Array.getElem?_modify, h.heap]
  simp [← hr]
set_option maxHeartbeats 4000000 in
set_option maxRecDepth 100000 in
theorem to_endG (w0 w : World) (b k : Nat) (s : TSt) (l : List ByteArray) (sa : Option Addr) (cap : Nat) (h : ToIn w0 w b s) (hf : TFit s k) (_hk : k ≤ 100000) (hl : ∀ V, w.grownBy V (some b) → SlAt encS 1 V (.slice sa l.length cap) l) (hn : l.length ≤ 1000000) :
    Calls Tryz.prog 95 #[.pointer (some ⟨b, 0, none⟩), .slice sa l.length cap] w fun v w' => v = .returned (.string (totB (s.fin l).st)) ∧ ToIn w0 w' b (s.fin l) ∧ w.grownBy w' (some b) := by
  have HLs : Hid (∀ V, w.grownBy V (some b) → SlAt encS 1 V (.slice sa l.length cap) l) := hl
  have HN : Hid (l.length ≤ 1000000) := hn
  obtain ⟨d, si, st⟩ := s
  have hr := h.heap
  have c1 : w.cell? ⟨b, 1, none⟩ = some (.int .i64 ((d : Int) - (si : Int))) := by simp [World.cell?, hr, toRow]
  have c0' : w.cell? ⟨b, 0, none⟩ = some (.string (totB st)) := by simp [World.cell?, hr, toRow]
  have q : ∀ i, w.frozen? ⟨b, i, none⟩ = false := fun i => by simp [World.frozen?, hr]
  have hst : st ≤ 3 := hf.st
  have hd20 : d ≤ 20 := hf.d
  have hlt : st = 2 → si < d := hf.lt
  have hz : st < 2 → si = 0 := hf.z
  have HFr : Hid (∀ W, w.grownBy W (some b) → w.grownBy W (some b)) := fun W hW => hW
  have H : Hid (ToIn w0 w b ⟨d, si, st⟩) := h
  clear hr h hf hl hn
  have go : ∀ x, totB st = x → w.cell? ⟨b, 0, none⟩ = some (.string x) := fun x hx => by rw [← hx]; exact c0'
  clear c0'
  by_cases h3 : st = 3
  · subst h3
    have c0 := go ⟨#[115, 116, 111, 112, 112, 101, 100]⟩ rfl
    clear go
    go_enter Tryz.func95, Tryz.ntmps95
    go_wp2
    go_ret
    exact ⟨rfl, H.out, World.grownBy.refl _ _⟩
  by_cases h2 : st = 2
  · subst h2
    have c0 := go ⟨#[101, 120, 112, 105, 114, 101, 100]⟩ rfl
    clear go
    have hlt' := hlt rfl
    obtain ⟨n, hn⟩ : ∃ n : Nat, d = si + 1 + n := ⟨d - (si + 1), by omega⟩
    have hc1 : ((d : Int) - (si : Int)) = (n : Int) + 1 := by omega
    rw [hc1] at c1
    have hn20 : n ≤ 20 := by omega
    have HV : Hid (∀ V, V = w.setCell ⟨b, 1, none⟩ (.int .i64 (n : Int)) → ToIn w0 V b ⟨d, si + 1, 2⟩ ∧ w.grownBy V (some b)) := fun V hV => by
      rw [hV]
      exact ⟨H.out.put (s' := ⟨d, si + 1, 2⟩) 1 _ (by simp [toRow]; omega), grown_setCell _ _ _ _⟩
    clear hlt hz hst hd20 hc1 hlt' h3
    by_cases hd : n = 0
    · subst hd
      have HE : Hid (TSt.fin ⟨d, si, 2⟩ l = ⟨d, si + 1, 3⟩) := by show _ = _; rw [show TSt.fin ⟨d, si, 2⟩ l = TSt.cut ⟨d, si + 1, 2⟩ from rfl]; unfold TSt.cut; rw [if_pos ⟨rfl, by show si + 1 = d; omega⟩]
      clear hn
      simp only [Int.ofNat_zero, Int.zero_add] at c1 HV
      go_enter Tryz.func95, Tryz.ntmps95
      go_wp2_with fail
      go_ret
      obtain ⟨a1, a2⟩ := HV.out _ rfl
      exact ⟨by rw [HE.out]; rfl, by rw [HE.out]; exact a1.put (s' := ⟨d, si + 1, 3⟩) 0 _ rfl, HFr.out _ (a2.trans (grown_setCell _ _ _ _))⟩
    · have hd' : ¬ (n : Int) = 0 := by omega
      have HE : Hid (TSt.fin ⟨d, si, 2⟩ l = ⟨d, si + 1, 2⟩) := by show _ = _; rw [show TSt.fin ⟨d, si, 2⟩ l = TSt.cut ⟨d, si + 1, 2⟩ from rfl]; unfold TSt.cut; rw [if_neg (fun x => hd (by have : si + 1 = d := x.2; omega))]
      clear hn
      go_enter Tryz.func95, Tryz.ntmps95
      go_wp2_with fail
      go_ret
      obtain ⟨a1, a2⟩ := HV.out _ rfl
      exact ⟨by rw [HE.out]; rfl, by rw [HE.out]; exact a1, HFr.out _ a2⟩
  obtain rfl : si = 0 := hz (by omega)
  have HW : Hid (TSt.fin ⟨d, 0, st⟩ l = TSt.cut ⟨d, 0, worstOf l⟩) := by show _ = _; unfold TSt.fin; rw [if_neg h3, if_neg h2]
  have h01 : st = 0 ∨ st = 1 := by omega
  have hw3 := worst_le l
  have HWa : Hid (∀ x, totB (worstOf l) = x → Calls Tryz.prog 128 #[.slice sa l.length cap] w fun e w' => e = .returned (.string x) ∧ w' = w) := fun x hx => by
    rw [← hx]; exact worst_at l sa cap w (HLs.out w (World.grownBy.refl _ _)) HN.out
  simp only [Int.ofNat_zero, Int.sub_zero] at c1
  clear hst h2 h3 hz hlt HLs HN
  generalize worstOf l = wo at HW hw3 HWa
  rcases h01 with rfl | rfl
  · have c0 := go ⟨#[111, 107]⟩ rfl
    clear go
    match wo, hw3 with
    | 0, _ =>
      obtain ⟨a1, a2⟩ : ToIn w0 (w.setCell ⟨b, 0, none⟩ (.string ⟨#[111, 107]⟩)) b ⟨d, 0, 0⟩ ∧ w.grownBy (w.setCell ⟨b, 0, none⟩ (.string ⟨#[111, 107]⟩)) (some b) := ⟨H.out.put (s' := ⟨d, 0, 0⟩) 0 _ rfl, grown_setCell _ _ _ _⟩
      have HA : Hid (ToIn w0 (w.setCell ⟨b, 0, none⟩ (.string ⟨#[111, 107]⟩)) b ⟨d, 0, 0⟩) := a1
      have HG : Hid (w.grownBy (w.setCell ⟨b, 0, none⟩ (.string ⟨#[111, 107]⟩)) (some b)) := a2
      clear a1 a2
      have HE : Hid (TSt.fin ⟨d, 0, 0⟩ l = ⟨d, 0, 0⟩) := by show _ = _; rw [HW.out]; unfold TSt.cut; rw [if_neg (fun x => by have : (0 : Nat) = 2 := x.1; omega)]
      go_enter Tryz.func95, Tryz.ntmps95
      go_wp2_with fail
      refine (HWa.out ⟨#[111, 107]⟩ rfl).mono ?_
      rintro e w' ⟨rfl, rfl⟩
      go_wp2_with fail
      go_ret
      exact ⟨by rw [HE.out]; rfl, by rw [HE.out]; exact HA.out, HFr.out _ HG.out⟩
    | 1, _ =>
      obtain ⟨a1, a2⟩ : ToIn w0 (w.setCell ⟨b, 0, none⟩ (.string ⟨#[102, 97, 105, 108, 101, 100]⟩)) b ⟨d, 0, 1⟩ ∧ w.grownBy (w.setCell ⟨b, 0, none⟩ (.string ⟨#[102, 97, 105, 108, 101, 100]⟩)) (some b) := ⟨H.out.put (s' := ⟨d, 0, 1⟩) 0 _ rfl, grown_setCell _ _ _ _⟩
      have HA : Hid (ToIn w0 (w.setCell ⟨b, 0, none⟩ (.string ⟨#[102, 97, 105, 108, 101, 100]⟩)) b ⟨d, 0, 1⟩) := a1
      have HG : Hid (w.grownBy (w.setCell ⟨b, 0, none⟩ (.string ⟨#[102, 97, 105, 108, 101, 100]⟩)) (some b)) := a2
      clear a1 a2
      have HE : Hid (TSt.fin ⟨d, 0, 0⟩ l = ⟨d, 0, 1⟩) := by show _ = _; rw [HW.out]; unfold TSt.cut; rw [if_neg (fun x => by have : (1 : Nat) = 2 := x.1; omega)]
      go_enter Tryz.func95, Tryz.ntmps95
      go_wp2_with fail
      refine (HWa.out ⟨#[102, 97, 105, 108, 101, 100]⟩ rfl).mono ?_
      rintro e w' ⟨rfl, rfl⟩
      go_wp2_with fail
      go_ret
      exact ⟨by rw [HE.out]; rfl, by rw [HE.out]; exact HA.out, HFr.out _ HG.out⟩
    | 2, _ =>
      obtain ⟨a1, a2⟩ : ToIn w0 (w.setCell ⟨b, 0, none⟩ (.string ⟨#[101, 120, 112, 105, 114, 101, 100]⟩)) b ⟨d, 0, 2⟩ ∧ w.grownBy (w.setCell ⟨b, 0, none⟩ (.string ⟨#[101, 120, 112, 105, 114, 101, 100]⟩)) (some b) := ⟨H.out.put (s' := ⟨d, 0, 2⟩) 0 _ rfl, grown_setCell _ _ _ _⟩
      have HA : Hid (ToIn w0 (w.setCell ⟨b, 0, none⟩ (.string ⟨#[101, 120, 112, 105, 114, 101, 100]⟩)) b ⟨d, 0, 2⟩) := a1
      have HG : Hid (w.grownBy (w.setCell ⟨b, 0, none⟩ (.string ⟨#[101, 120, 112, 105, 114, 101, 100]⟩)) (some b)) := a2
      clear a1 a2
      by_cases hd : d = 0
      · subst hd
        have HE : Hid (TSt.fin ⟨0, 0, 0⟩ l = ⟨0, 0, 3⟩) := by show _ = _; rw [HW.out]; unfold TSt.cut; rw [if_pos ⟨rfl, rfl⟩]
        simp only [Int.ofNat_zero] at c1
        go_enter Tryz.func95, Tryz.ntmps95
        go_wp2_with fail
        refine (HWa.out ⟨#[101, 120, 112, 105, 114, 101, 100]⟩ rfl).mono ?_
        rintro e w' ⟨rfl, rfl⟩
        go_wp2_with fail
        go_ret
        exact ⟨by rw [HE.out]; rfl, by rw [HE.out]; exact HA.out.put (s' := ⟨0, 0, 3⟩) 0 _ rfl, HFr.out _ (HG.out.trans (grown_setCell _ _ _ _))⟩
      · have hd' : ¬ (d : Int) = 0 := by omega
        have HE : Hid (TSt.fin ⟨d, 0, 0⟩ l = ⟨d, 0, 2⟩) := by show _ = _; rw [HW.out]; unfold TSt.cut; rw [if_neg (fun x => hd x.2.symm)]
        go_enter Tryz.func95, Tryz.ntmps95
        go_wp2_with fail
        refine (HWa.out ⟨#[101, 120, 112, 105, 114, 101, 100]⟩ rfl).mono ?_
        rintro e w' ⟨rfl, rfl⟩
        go_wp2_with fail
        go_ret
        exact ⟨by rw [HE.out]; rfl, by rw [HE.out]; exact HA.out, HFr.out _ HG.out⟩
  · have c0 := go ⟨#[102, 97, 105, 108, 101, 100]⟩ rfl
    clear go
    match wo, hw3 with
    | 0, _ =>
      obtain ⟨a1, a2⟩ : ToIn w0 (w.setCell ⟨b, 0, none⟩ (.string ⟨#[111, 107]⟩)) b ⟨d, 0, 0⟩ ∧ w.grownBy (w.setCell ⟨b, 0, none⟩ (.string ⟨#[111, 107]⟩)) (some b) := ⟨H.out.put (s' := ⟨d, 0, 0⟩) 0 _ rfl, grown_setCell _ _ _ _⟩
      have HA : Hid (ToIn w0 (w.setCell ⟨b, 0, none⟩ (.string ⟨#[111, 107]⟩)) b ⟨d, 0, 0⟩) := a1
      have HG : Hid (w.grownBy (w.setCell ⟨b, 0, none⟩ (.string ⟨#[111, 107]⟩)) (some b)) := a2
      clear a1 a2
      have HE : Hid (TSt.fin ⟨d, 0, 1⟩ l = ⟨d, 0, 0⟩) := by show _ = _; rw [HW.out]; unfold TSt.cut; rw [if_neg (fun x => by have : (0 : Nat) = 2 := x.1; omega)]
      go_enter Tryz.func95, Tryz.ntmps95
      go_wp2_with fail
      refine (HWa.out ⟨#[111, 107]⟩ rfl).mono ?_
      rintro e w' ⟨rfl, rfl⟩
      go_wp2_with fail
      go_ret
      exact ⟨by rw [HE.out]; rfl, by rw [HE.out]; exact HA.out, HFr.out _ HG.out⟩
    | 1, _ =>
      obtain ⟨a1, a2⟩ : ToIn w0 (w.setCell ⟨b, 0, none⟩ (.string ⟨#[102, 97, 105, 108, 101, 100]⟩)) b ⟨d, 0, 1⟩ ∧ w.grownBy (w.setCell ⟨b, 0, none⟩ (.string ⟨#[102, 97, 105, 108, 101, 100]⟩)) (some b) := ⟨H.out.put (s' := ⟨d, 0, 1⟩) 0 _ rfl, grown_setCell _ _ _ _⟩
      have HA : Hid (ToIn w0 (w.setCell ⟨b, 0, none⟩ (.string ⟨#[102, 97, 105, 108, 101, 100]⟩)) b ⟨d, 0, 1⟩) := a1
      have HG : Hid (w.grownBy (w.setCell ⟨b, 0, none⟩ (.string ⟨#[102, 97, 105, 108, 101, 100]⟩)) (some b)) := a2
      clear a1 a2
      have HE : Hid (TSt.fin ⟨d, 0, 1⟩ l = ⟨d, 0, 1⟩) := by show _ = _; rw [HW.out]; unfold TSt.cut; rw [if_neg (fun x => by have : (1 : Nat) = 2 := x.1; omega)]
      go_enter Tryz.func95, Tryz.ntmps95
      go_wp2_with fail
      refine (HWa.out ⟨#[102, 97, 105, 108, 101, 100]⟩ rfl).mono ?_
      rintro e w' ⟨rfl, rfl⟩
      go_wp2_with fail
      go_ret
      exact ⟨by rw [HE.out]; rfl, by rw [HE.out]; exact HA.out, HFr.out _ HG.out⟩
    | 2, _ =>
      obtain ⟨a1, a2⟩ : ToIn w0 (w.setCell ⟨b, 0, none⟩ (.string ⟨#[101, 120, 112, 105, 114, 101, 100]⟩)) b ⟨d, 0, 2⟩ ∧ w.grownBy (w.setCell ⟨b, 0, none⟩ (.string ⟨#[101, 120, 112, 105, 114, 101, 100]⟩)) (some b) := ⟨H.out.put (s' := ⟨d, 0, 2⟩) 0 _ rfl, grown_setCell _ _ _ _⟩
      have HA : Hid (ToIn w0 (w.setCell ⟨b, 0, none⟩ (.string ⟨#[101, 120, 112, 105, 114, 101, 100]⟩)) b ⟨d, 0, 2⟩) := a1
      have HG : Hid (w.grownBy (w.setCell ⟨b, 0, none⟩ (.string ⟨#[101, 120, 112, 105, 114, 101, 100]⟩)) (some b)) := a2
      clear a1 a2
      by_cases hd : d = 0
      · subst hd
        have HE : Hid (TSt.fin ⟨0, 0, 1⟩ l = ⟨0, 0, 3⟩) := by show _ = _; rw [HW.out]; unfold TSt.cut; rw [if_pos ⟨rfl, rfl⟩]
        simp only [Int.ofNat_zero] at c1
        go_enter Tryz.func95, Tryz.ntmps95
        go_wp2_with fail
        refine (HWa.out ⟨#[101, 120, 112, 105, 114, 101, 100]⟩ rfl).mono ?_
        rintro e w' ⟨rfl, rfl⟩
        go_wp2_with fail
        go_ret
        exact ⟨by rw [HE.out]; rfl, by rw [HE.out]; exact HA.out.put (s' := ⟨0, 0, 3⟩) 0 _ rfl, HFr.out _ (HG.out.trans (grown_setCell _ _ _ _))⟩
      · have hd' : ¬ (d : Int) = 0 := by omega
        have HE : Hid (TSt.fin ⟨d, 0, 1⟩ l = ⟨d, 0, 2⟩) := by show _ = _; rw [HW.out]; unfold TSt.cut; rw [if_neg (fun x => hd x.2.symm)]
        go_enter Tryz.func95, Tryz.ntmps95
        go_wp2_with fail
        refine (HWa.out ⟨#[101, 120, 112, 105, 114, 101, 100]⟩ rfl).mono ?_
        rintro e w' ⟨rfl, rfl⟩
        go_wp2_with fail
        go_ret
        exact ⟨by rw [HE.out]; rfl, by rw [HE.out]; exact HA.out, HFr.out _ HG.out⟩
end
end Go.Proofs.YtdpdbfhbojgigacGreatDoor
