/-
  Several texts as one: PlRun, KeRnN, CfNamP, CfName, CfFirst.
-/
import Derived.Test.YtdpdbfhbojgigacGreatDoorB24P
import Derived.Test.YtdpdbfhbojgigacGreatDoorB11P
import Derived.Test.YtdpdbfhbojgigacGreatDoorB10P
import Derived.Test.YtdpdbfhbojgigacGreatDoorB01P
import Derived.Test.YtdpdbfhbojgigacGreatDoorB02P
import Derived.Deep.AppendLies
import Derived.Laws.MakeOwn
import Derived.BigQuiet
import Derived.Deep.QuietTactic
import Derived.Deep.DeepCutAuto
import Derived.WalkSmall
import Derived.Lib.ConvBytes
import Derived.Lib.BufferWrite
import Derived.Laws.EntriesVeiled
namespace Go.Proofs.YtdpdbfhbojgigacGreatDoor
open Go.RowKit Go.Extern.Stop Go.Stop Go.Extern

theorem Tryz.infoIntP : (Tryz.prog.info? 3).map (fun i => (i.zero, i.size, i.bytes)) = some (some (.int .i64 0), 1, 8) := by kernel_rfl
/-- In the loop: the watch, and beside it the list of answers. -/
structure PlLp (F : Nat → Prop) (w0 w wr : World) (c : CfgD) (kb bc : Nat) (K : KSt) (av : Value) (xs : List Int) : Prop where
  at' : ∃ G, KeAt G w0 wr c kb bc K ∧ (∀ k, G k → gr F w wr k) ∧ ∀ k, av.ownBlock = some k → ¬ G k
  off : Off F w wr
  own : SlOwn encI 1 3 w.heap.size wr av xs
section
variable {A : Nat → Addr} {F G : Nat → Prop} {w0 w w' wr wr' : World} {c : CfgD} {kb bc : Nat} {K K' : KSt} {k : Nat} {av : Value} {xs : List Int}
theorem KeAt.mono (h : KeAt F w0 w c kb bc K) (hF : ∀ k, F k → G k) : KeAt G w0 w c kb bc K := by
  obtain ⟨H, bd, rb, bt, lv, bs, h1, h2⟩ := h
  exact ⟨H, bd, rb, bt, lv, bs, h1, fun i k hk => hF k (h2 i k hk)⟩
theorem PlLp.post (h : PlLp F w0 w wr c kb bc K av xs) : KePost F w0 w c kb bc K wr := by
  obtain ⟨G, h1, h2, -⟩ := h.at'
  exact ⟨h1.mono h2, h.off⟩
/-- An act. -/
theorem PlLp.step (h2 : ∀ k, G k → gr F w wr k) (h3 : ∀ k, av.ownBlock = some k → ¬ G k) (hof : Off F w wr) (hown : SlOwn encI 1 3 w.heap.size wr av xs) (hp : KePost G w0 wr c kb bc K' wr') : PlLp F w0 w wr' c kb bc K' av xs := by
  refine ⟨⟨_, hp.1, fun k hk => ?_, fun k hk hg => ?_⟩, ?_, SlOwn.same hown (fun g hg => hp.2.block g (hown.lt g hg).2 (h3 g hg))⟩
  · rcases hk with hk | ⟨a, b⟩
    · exact (h2 k hk).imp id (fun ⟨a, b⟩ => ⟨a, Nat.lt_of_lt_of_le b hp.2.size⟩)
    · exact Or.inr ⟨Nat.le_trans hof.size a, b⟩
  · rcases hg with hg | ⟨a, _⟩
    · exact h3 k hk hg
    · have := (hown.lt k hk).2; omega
  · exact hof.trans hp.2 (fun k hk hi => by
      rcases h2 k hi with a | ⟨a, _⟩
      · exact a
      · omega)
/-- One more answer. -/
theorem PlLp.more (h : PlLp F w0 w wr c kb bc K av xs) (hw : w0.heap.size ≤ w.heap.size) {o : Obj} {y : Int} {g cap n : Nat} (hn : xs.length + 1 = n) (hown : wr'.ownsRow w.heap.size 3 1 (.slice (some ⟨g, 0, none⟩) n cap) n (xs.flatMap encI ++ [.int .i64 y])) (hg : (wr.alloc o).grownBy wr' av.ownBlock) (hor : av.ownBlock = some g ∨ g = wr.heap.size + 1) : PlLp F w0 w wr' c kb bc K (.slice (some ⟨g, 0, none⟩) n cap) (xs ++ [y]) := by
  have hb := Below.one wr o
  have hof : Off (fun k => av.ownBlock = some k) (wr.alloc o) wr' := ⟨hg.os, hg.tape, hg.output, hg.size, fun k hk hn => hg.block k hk (fun e => hn e.symm)⟩
  have hlt : ∀ k, av.ownBlock = some k → w.heap.size ≤ k := fun k hk => (h.own.lt k hk).1
  obtain ⟨G, h1, h2, h3⟩ := h.at'
  have hz : wr.heap.size ≤ wr'.heap.size := Nat.le_trans hb.size hof.size
  refine ⟨⟨fun k => G k ∧ k < wr.heap.size, (h1.trim.below hb).off hof (fun k hk e => h3 k e hk.1) (fun k hk => Nat.le_trans hw (hlt k hk)), fun k hk => (h2 k hk.1).imp id (fun ⟨a, b⟩ => ⟨a, Nat.lt_of_lt_of_le b hz⟩), fun k hk hi => ?_⟩, ?_, ?_⟩
  · cases hk
    rcases hor with hor | hor
    · exact h3 g hor hi.1
    · have h5 : g < wr.heap.size := hi.2
      omega
  · exact (h.off.trans (Off.of_below hb F) (fun _ _ h => h)).trans hof (fun k hk e => absurd (hlt k e) (by omega))
  · have e : (xs ++ [y]).flatMap encI = xs.flatMap encI ++ [.int .i64 y] := by rw [List.flatMap_append]; rfl
    show wr'.ownsRow _ _ _ _ _ _
    rw [e, List.length_append, List.length_singleton, hn]
    exact hown
theorem PlLp.from {V : World} (h : PlLp F w0 V wr c kb bc K av xs) (hb : Below w.heap.size w V) : PlLp F w0 w wr c kb bc K av xs := by
  obtain ⟨G, h1, h2, h3⟩ := h.at'
  refine ⟨⟨G, h1, fun k hk => (h2 k hk).imp id (fun ⟨a, b⟩ => ⟨Nat.le_trans hb.size a, b⟩), h3⟩, (Off.of_below hb F).trans h.off (fun _ _ h => h), ?_⟩
  rcases h.own with ⟨h1, h2 | ⟨g, cap, cur, h3, h4, h5⟩⟩
  · exact ⟨h1, Or.inl h2⟩
  · exact ⟨h1, Or.inr ⟨g, cap, cur, h3, Nat.le_trans hb.size h4, h5⟩⟩
theorem add_zero' (a : Addr) : a.add 0 = a := by obtain ⟨b, o, s⟩ := a; unfold Addr.add; split <;> simp_all
/-- What Run leaves. -/
def PlOut (F : Nat → Prop) (w0 w : World) (c : CfgD) (kb bc : Nat) (K : KSt) (l : List Int) (u : Ending) (w' : World) : Prop := ∃ av, u = .returned av ∧ PlLp F w0 w w' c kb bc (runK c K l) av (ansK c K l)
set_option maxHeartbeats 8000000 in
set_option maxRecDepth 100000 in
theorem pl_run (l : List Int) (sa : Option Addr) (sc : Nat) (h : KeAt F w0 w c kb bc K) (hFl : ∀ k, F k → k < w.heap.size) (hs : Senv A w0) (hr : KRt c) (hf : KFit c K k (144 * K.d.now)) (hn : k + K.d.now + 20 * l.length + 20 ≤ 800000) (hk : k + l.length < 1000) (hl : ∀ V, Off F w V → SlAt encI 1 V (.slice sa l.length sc) l) (hv : ∀ v ∈ l, v ≤ 9223372036854775807) :
    Calls Tryz.prog 44 #[.pointer (some ⟨kb, 0, none⟩), .pointer (some ⟨bc, 0, none⟩), .slice sa l.length sc] w fun u w' => PlOut F w0 w c kb bc K l u w' := by
  obtain ⟨i0, hi0, hz0, hz1, hz2⟩ := info_parts Tryz.infoIntP
  obtain ⟨W, hW⟩ : ∃ X, X = w.alloc (.cells #[.pointer (some ⟨kb, 0, none⟩), .pointer (some ⟨bc, 0, none⟩)] 141) := ⟨_, rfl⟩
  have hbox : PlBox w W kb bc := by rw [hW]; exact PlBox.new w kb bc
  obtain ⟨W1, hmk, hown1, hg1⟩ := run_make_own (P := Tryz.prog) W W.heap.size 36 3 i0 (.int .i64 0) 1 Tryz.underlying36 hi0 hz0 hz1 .i64 .i64 l.length (by rw [hz2]; omega) (by unfold maxLen; omega) (Nat.le_refl _)
  have hb1 : Below W.heap.size W W1 := ⟨hg1.os, hg1.tape, hg1.output, hg1.size, fun k hk => hg1.block k hk (by simp)⟩
  have hbW : Below w.heap.size w W1 := hbox.bel.trans (hb1.mono hbox.bel.size)
  have HL : Hid (PlLp F w0 W W1 c kb bc K (.slice (some ⟨W.heap.size, 0, none⟩) 0 l.length) []) := ⟨⟨F, h.below hbW, fun k hk => Or.inl hk, fun k hk hF => by cases hk; have h5 : W.heap.size < w.heap.size := hFl _ hF; have := hbox.lt; omega⟩, Off.of_below hb1 F, hown1⟩
  have HBx : Hid _ := hbox
  have HFl : Hid (∀ k, F k → k < w.heap.size) := hFl
  have HW0 : Hid (w0.heap.size ≤ W.heap.size) := Nat.le_trans h.bel.size hbox.bel.size
  have HR : Hid (KRt c) := hr
  have HSv : Hid _ := hs
  have HSl : Hid _ := hl
  have HVl : Hid _ := hv
  have HFt : Hid (∀ i, i ≤ l.length → KFit c (runK c K (l.take i)) (k + i) (144 * (runK c K (l.take i)).d.now) ∧ (runK c K (l.take i)).d.now ≤ K.d.now + 15 * i) := fun i hi => by
    have := runK_fit hr (l.take i) K k hf (by rw [List.length_take]; omega)
    rw [List.length_take, Nat.min_eq_left hi] at this
    exact this
  have HNk : Hid (k + K.d.now + 20 * l.length + 20 ≤ 800000 ∧ k + l.length < 1000) := ⟨hn, hk⟩
  have hl9 : l.length ≤ 1000 := by omega
  have hslW := hl W1 (Off.of_below hbW F)
  clear h hFl hs hr hf hn hk hl hv hown1 hg1 hb1 hbox hbW
  go_enter Tryz.func44, Tryz.ntmps44
  go_upto_region 2 with fail
  rw [← hW]
  clear hW
  have hcap : l.length ≤ sc := by obtain ⟨sa', cap', h1, h2, -⟩ := hslW; cases h1; exact h2
  have hmap : Option.map (fun x : Addr => x.add 0) sa = sa := by cases sa with | none => rfl | some a => simp [add_zero']
  clear hslW
  go_upto_region 4 with fail
  go_cut [22, 23, 24] (fun l' n i wx => l' = .slice sa l.length sc ∧ n = .int .i64 (l.length : Int) ∧ i = .int .i64 0 ∧ wx = W1)
  case first =>
    go_wp2_with fail
    go_meet
    case rel => exact ⟨rfl, rfl, rfl, rfl⟩
  obtain ⟨rfl, rfl, rfl, rfl⟩ := hcut
  clear hmk hcap hmap
  rename World => W1
  go_wp2_with fail
  go_loopw [9, 11, 24] (fun av _ i wr => ∃ n : Nat, n ≤ l.length ∧ i = .int .i64 n ∧ Hid (PlLp F w0 W wr c kb bc (runK c K (l.take n)) av (ansK c K (l.take n)))) (fun _ _ i _ => l.length - (intOf i).toNat)
  case atStart => exact ⟨0, Nat.zero_le _, rfl, HL.out⟩
  case round =>
    clear HL
    obtain ⟨n, hnl, rfl, HL⟩ := hrel
    have hal : (ansK c K (l.take n)).length = n := by rw [ansK_length, List.length_take]; omega
    obtain ⟨ka, kc, hkv⟩ := ow_form HL.out.own
    rw [hal] at hkv
    subst hkv
    have HAl : Hid ((ansK c K (l.take n)).length = n) := hal
    clear hal
    by_cases hlt : n < l.length
    · have k1 : (n : Int) < (l.length : Int) := by omega
      obtain ⟨x, hx⟩ : ∃ x, l[n]? = some x := ⟨_, List.getElem?_eq_getElem hlt⟩
      obtain ⟨g, o, rfl, hc⟩ := slatI_cell (HSl.out wr ((Off.of_below HBx.out.bel F).trans HL.out.off (fun _ _ h => h))) hx
      have c0 := hc n x hx
      have hrow : wr.heap[w.heap.size]? = _ := (HL.out.off.block _ HBx.out.lt (fun h5 => Nat.lt_irrefl _ (HFl.out _ h5))).trans HBx.out.heap
      have x0 : wr.cell? ⟨w.heap.size, 0, none⟩ = some (.pointer (some ⟨kb, 0, none⟩)) := by simp [World.cell?, hrow]
      have x1 : wr.cell? ⟨w.heap.size, 1, none⟩ = some (.pointer (some ⟨bc, 0, none⟩)) := by simp [World.cell?, hrow]
      obtain ⟨G, a1, a2, a3⟩ := HL.out.at'
      obtain ⟨f1, f2⟩ := HFt.out n hnl
      have hnk := HNk.out
      have HX : Hid _ := pl_answer (A := A) x a1 HSv.out HR.out f1 (by omega) (by omega) (HVl.out x (List.mem_of_getElem? hx))
      have HSt : Hid (∀ K' wr', KePost G w0 wr c kb bc K' wr' → PlLp F w0 W wr' c kb bc K' (.slice ka n kc) (ansK c K (l.take n))) := fun K' wr' hp => PlLp.step a2 a3 HL.out.off HL.out.own hp
      have HTk : Hid (runK c K (l.take (n + 1)) = ((runK c K (l.take n)).one c x).1 ∧ ansK c K (l.take (n + 1)) = ansK c K (l.take n) ++ [((runK c K (l.take n)).one c x).2]) := ⟨runK_take hx, ansK_take hx⟩
      generalize hKn : (runK c K (l.take n)).one c x = Kn at HX HTk
      generalize hAn : ansK c K (l.take n) = an at HSt HTk HAl
      clear hc hx hrow a1 a2 a3 f1 f2 hnk HL hKn hAn
      obtain ⟨K', y⟩ := Kn
      go_wp2_with fail
      refine Calls.mono HX.out ?_
      rintro u w3 ⟨rfl, hp⟩
      have HL3 : Hid _ := HSt.out K' w3 hp
      have HO3 : Hid (w3.ownsRow W.heap.size 3 1 (.slice ka n kc) n (an.flatMap encI)) := by
        have : w3.ownsRow W.heap.size 3 1 (.slice ka n kc) an.length (an.flatMap encI) := HL3.out.own
        rw [HAl.out] at this
        exact this
      have hz3 : W.heap.size ≤ w3.heap.size := HL3.out.off.size
      clear hp HX HSt x0 x1 c0
      go_wp2_with (at_builtin; refine wpList_append_lies _ rfl _ _ 36 rfl W.heap.size 3 i0 (.int .i64 0) 1 8 Tryz.underlying36 hi0 hz0 hz1 hz2 rfl (by decide) (.slice ka n kc) n (an.flatMap encI) rfl (World.ownsRow.alloc HO3.out _) ⟨w3.heap.size, 0, none⟩ 1 1 [.int .i64 y] rfl rfl (ce_at w3 [.int .i64 y] 3) (fun u hu => by rw [List.mem_singleton] at hu; subst hu; rfl) (by decide) (by unfold maxLen; omega) (by omega) (by simp; omega) (w3.heap.size + 1) (by simp) ?_; intro gg cc w12 hown hg hor hlt12)
      have HL5 : Hid _ := HL3.out.more HW0.out (by rw [HAl.out]) hown hg hor
      clear hown hg hor hlt12 HO3 HL3
      go_roundw
      case rel => exact ⟨n + 1, by omega, by go_num, by show PlLp _ _ _ _ _ _ _ _ _ _; rw [HTk.out.1, HTk.out.2]; exact HL5.out⟩
      case measure => simp [intOf]; omega
    · obtain rfl : n = l.length := by omega
      have k1 : ¬ (l.length : Int) < (l.length : Int) := by omega
      have HE : Hid (PlLp F w0 w wr c kb bc (runK c K l) (.slice ka l.length kc) (ansK c K l)) := by
        have h5 := HL.out
        rw [List.take_length] at h5
        exact h5.from HBx.out.bel
      clear HL HAl
      go_wp2
      go_ret
      exact ⟨_, rfl, HE.out⟩
end
end Go.Proofs.YtdpdbfhbojgigacGreatDoor

namespace Go.Proofs.YtdpdbfhbojgigacGreatDoor
open Go.RowKit Go.Extern.Stop Go.Stop Go.Extern

section
variable {A : Nat → Addr} {H : Nat → Nat → Prop} {w0 w w' : World} {c : CfgD} {kb bc bd : Nat} {rv tv lv : Value} {bs : List Nat} {s : CSt} {d : DSt} {ls : List LSt}
set_option maxHeartbeats 1000000 in
theorem ke_renew_no (h : KeHd H w0 w c kb bc bd rv tv lv bs s d ls) (hs : SenK A w0) (hsm : ¬ 153 ≤ s.size) :
    Calls Tryz.prog 66 #[.pointer (some ⟨kb, 0, none⟩)] w fun e w' => e = .returned (errVal A 2) ∧ Below w.heap.size w w' := by
  have c2 : w.cell? ⟨kb, 2, none⟩ = some (.pointer (some ⟨bc, 0, none⟩)) := h.cell 2 _ rfl
  have HX : Hid (Calls Tryz.prog 33 #[.pointer (some ⟨bc, 0, .none⟩)] w fun e w' => e = .returned (.tuple #[.pointer .none, .iface 298 (.pointer (some (A 1)))]) ∧ Below w.heap.size w w') :=
    open_no A bc s 1 w h.cells (hs.below h.bel).four (by unfold CSt.err; rw [if_pos (by omega)])
  clear h hs hsm
  go_enter Tryz.func66, Tryz.ntmps66
  go_wp2_with fail
  refine Calls.mono HX.out ?_
  rintro u w1 ⟨rfl, hb1⟩
  have HB1 : Hid _ := hb1
  clear hb1 HX c2
  go_wp2
  go_ret
  exact ⟨rfl, HB1.out⟩
end
end Go.Proofs.YtdpdbfhbojgigacGreatDoor

namespace Go.Proofs.YtdpdbfhbojgigacGreatDoor
open Go.RowKit Go.Extern.Stop Go.Stop Go.Extern

theorem byte_at (s : ByteArray) (k : Nat) (h : k < s.size) : s[k] = s.data.toList.getD k 0 := by
  have : k < s.data.toList.length := by rw [Array.length_toList]; exact h
  rw [List.getD_eq_getElem?_getD, List.getElem?_eq_getElem this]
  rfl
theorem isName_no {s : ByteArray} (h : s.size < 1 ∨ 12 < s.size) : isName s = false := by
  unfold isName
  rcases h with h | h
  · have : decide (1 ≤ s.size) = false := decide_eq_false (by omega)
    rw [this]; rfl
  · have : decide (s.size ≤ 12) = false := decide_eq_false (by omega)
    rw [this]; simp
theorem isName_first {s : ByteArray} (h : isLetter (s.data.toList.getD 0 0) = false) : isName s = false := by
  have e : s.data.getD 0 0 = s.data.toList.getD 0 0 := by simp
  unfold isName
  rw [e, h]; simp
theorem isName_bad {s : ByteArray} {k : Nat} (h1 : k < s.size) (h : nameByte (s.data.toList.getD k 0) = false) : isName s = false := by
  have hk : k < s.data.toList.length := by rw [Array.length_toList]; exact h1
  have : s.data.toList.all nameByte = false := by
    rw [List.all_eq_false]
    refine ⟨s.data.toList.getD k 0, ?_, by simpa using h⟩
    rw [List.getD_eq_getElem?_getD, List.getElem?_eq_getElem hk]
    exact List.getElem_mem hk
  unfold isName
  rw [this]; simp
theorem isName_yes {s : ByteArray} (h1 : 1 ≤ s.size) (h2 : s.size ≤ 12) (h3 : isLetter (s.data.toList.getD 0 0) = true) (h : ∀ j, j < s.size → nameByte (s.data.toList.getD j 0) = true) : isName s = true := by
  have e : s.data.getD 0 0 = s.data.toList.getD 0 0 := by simp
  have ha : s.data.toList.all nameByte = true := by
    rw [List.all_eq_true]
    intro b hb
    obtain ⟨j, hj, rfl⟩ := List.getElem_of_mem hb
    have := h j (by rw [Array.length_toList] at hj; exact hj)
    rw [List.getD_eq_getElem?_getD, List.getElem?_eq_getElem hj] at this
    exact this
  unfold isName
  rw [e, h3, ha]; simp [h1, h2]
end Go.Proofs.YtdpdbfhbojgigacGreatDoor

namespace Go.Proofs.YtdpdbfhbojgigacGreatDoor
open Go.RowKit Go.Extern.Stop Go.Stop Go.Extern

theorem bytes_madeC (w : World) (t : ByteArray) : ∃ cap W, (convert 9 86 (.string t)).run Tryz.prog w = .ok (.slice (some ⟨w.heap.size, 0, .none⟩) t.size cap) W ∧ Below w.heap.size w W ∧
    (∀ j, j < t.size → W.cell? ⟨w.heap.size, j, .none⟩ = some (.int .u8 ((t.data.toList.getD j 0).toNat : Int))) := by
  exact ⟨_, _, Lib.run_convert_string_bytes w 9 86 5 t Tryz.underlying9 Tryz.underlying86 Tryz.underlying5, ⟨rfl, rfl, rfl, by rw [Lib.bytesWorld_size]; omega, fun i hi => Lib.bytesWorld_at_old w _ t i hi⟩, fun j hj => Lib.bytesWorld_cell w _ t j hj⟩
set_option maxHeartbeats 1000000 in
theorem isName_at (s : ByteArray) (w : World) (hs : s.size ≤ 1000000) : Calls Tryz.prog 148 #[.string s] w fun e w' => e = .returned (.bool (isName s)) ∧ Below w.heap.size w w' := by
  by_cases hsz : 1 ≤ s.size ∧ s.size ≤ 12
  · obtain ⟨z1, z2⟩ := hsz
    have hw := within_at (s.size : Int) 1 12 w
    rw [show within (s.size : Int) 1 12 = true by simp [within]; omega] at hw
    have k0 : (0 : Int) < (s.size : Int) := by omega
    have hb0 : Hid (∀ h : 0 < s.size, s[0] = s.data.toList.getD 0 0) := fun h => byte_at s 0 h
    have hl := isLetter_at (s.data.toList.getD 0 0) w
    by_cases hL : isLetter (s.data.toList.getD 0 0) = true
    · rw [hL] at hl
      have HZ : Hid (1 ≤ s.size ∧ s.size ≤ 12 ∧ isLetter (s.data.toList.getD 0 0) = true) := ⟨z1, z2, hL⟩
      clear z1 z2 hL hs
      go_enter Tryz.func148, Tryz.ntmps148
      go_wp2_with fail
      refine hw.mono ?_
      rintro e w' ⟨rfl, rfl⟩
      go_wp2_with fail
      rw [hb0.out]
      refine hl.mono ?_
      rintro e w ⟨rfl, rfl⟩
      clear hl hw hb0 k0
      obtain ⟨cap, W, hcv, hbW, hcell⟩ := bytes_madeC w s
      have HCl : Hid (∀ j, j < s.size → W.cell? ⟨w.heap.size, j, .none⟩ = some (.int .u8 ((s.data.toList.getD j 0).toNat : Int))) := hcell
      have HbW : Hid (Below w.heap.size w W) := hbW
      clear hcell hbW
      go_wp2_with fail
      go_loopw [4, 18] (fun _ i wr => ∃ k : Nat, k ≤ s.size ∧ i = .int .i64 k ∧ wr = W ∧ ∀ j, j < k → nameByte (s.data.toList.getD j 0) = true) (fun _ i _ => s.size - (intOf i).toNat)
      case atStart => exact ⟨0, Nat.zero_le _, rfl, rfl, fun j hj => absurd hj (Nat.not_lt_zero _)⟩
      case round =>
        obtain ⟨k, hk, rfl, rfl, hall⟩ := hrel
        by_cases hlt : k < s.size
        · have hc := HCl.out k hlt
          have HB : Hid (∀ j, j < k → nameByte (s.data.toList.getD j 0) = true) := hall
          have HY : Hid (nameByte (s.data.toList.getD k 0) = false → isName s = false) := fun h => isName_bad hlt h
          have k1 : (k : Int) < (s.size : Int) := by omega
          have k12 : k < 12 := by have := HZ.out.2.1; omega
          have HX : Hid (∀ b : Bool, nameByte (s.data.toList.getD k 0) = b → nameByte (s.data.toList.getD k 0) = b) := fun b h => h
          have HK : Hid (∃ c, c = s.data.toList.getD k 0) := ⟨_, rfl⟩
          clear hall hcv
          obtain ⟨c, hcc⟩ := HK.out
          rw [← hcc] at hc
          have HC : Hid (c = s.data.toList.getD k 0) := hcc
          clear hcc HK HX
          have hd := isDigit_at c
          have hl2 := isLetter_at c
          by_cases b1 : isLetter c = true
          · rw [b1] at hl2
            go_wp2_with fail
            refine (hl2 _).mono ?_
            rintro e w' ⟨rfl, rfl⟩
            go_wp2
            go_roundw
            case rel =>
              refine ⟨k + 1, by omega, by go_num, by first | trivial | rfl, fun j hj => ?_⟩
              by_cases e : j = k
              · rw [e, ← HC.out]; simp [nameByte, b1]
              · exact HB.out j (by omega)
            case measure => simp [intOf]; omega
          · simp only [Bool.not_eq_true] at b1
            rw [b1] at hl2
            by_cases b2 : isDig c = true
            · rw [b2] at hd
              go_wp2_with fail
              refine (hl2 _).mono ?_
              rintro e w' ⟨rfl, rfl⟩
              go_wp2_with fail
              refine (hd _).mono ?_
              rintro e w' ⟨rfl, rfl⟩
              go_wp2
              go_roundw
              case rel =>
                refine ⟨k + 1, by omega, by go_num, by first | trivial | rfl, fun j hj => ?_⟩
                by_cases e : j = k
                · rw [e, ← HC.out]; simp [nameByte, b2]
                · exact HB.out j (by omega)
              case measure => simp [intOf]; omega
            · simp only [Bool.not_eq_true] at b2
              rw [b2] at hd
              by_cases b3 : (c.toNat : Int) = 45
              · have b4 : ((c.toNat : Int) == 45) = true := by simpa using b3
                have HN : Hid (nameByte c = true) := by show _ = _; simp [nameByte]; right; omega
                clear b3
                go_wp2_with fail
                refine (hl2 _).mono ?_
                rintro e w' ⟨rfl, rfl⟩
                go_wp2_with fail
                refine (hd _).mono ?_
                rintro e w' ⟨rfl, rfl⟩
                go_wp2
                go_roundw
                case rel =>
                  refine ⟨k + 1, by omega, by go_num, by first | trivial | rfl, fun j hj => ?_⟩
                  by_cases e : j = k
                  · rw [e, ← HC.out]; exact HN.out
                  · exact HB.out j (by omega)
                case measure => simp [intOf]; omega
              · have HN : Hid (nameByte c = false) := by show _ = _; simp [nameByte, b1, b2]; omega
                go_wp2_with fail
                refine (hl2 _).mono ?_
                rintro e w' ⟨rfl, rfl⟩
                go_wp2_with fail
                refine (hd _).mono ?_
                rintro e w' ⟨rfl, rfl⟩
                go_wp2
                go_ret
                exact ⟨by rw [HY.out (by rw [← HC.out]; exact HN.out)]; rfl, HbW.out⟩
        · have HY : Hid (isName s = true) := isName_yes HZ.out.1 HZ.out.2.1 HZ.out.2.2 (fun j hj => hall j (by omega))
          have k1 : ¬ (k : Int) < (s.size : Int) := by omega
          clear hall hcv
          go_wp2
          go_ret
          exact ⟨by rw [HY.out]; rfl, HbW.out⟩
    · simp only [Bool.not_eq_true] at hL
      rw [hL] at hl
      have HY : Hid (isName s = false) := isName_first hL
      go_enter Tryz.func148, Tryz.ntmps148
      go_wp2_with fail
      refine hw.mono ?_
      rintro e w' ⟨rfl, rfl⟩
      go_wp2_with fail
      rw [hb0.out]
      refine hl.mono ?_
      rintro e w' ⟨rfl, rfl⟩
      go_wp2
      go_ret
      exact ⟨by rw [HY.out]; rfl, Below.refl _ _⟩
  · have hw := within_at (s.size : Int) 1 12 w
    rw [show within (s.size : Int) 1 12 = false by simp [within]; omega] at hw
    have HY : Hid (isName s = false) := isName_no (by omega)
    clear hsz
    go_enter Tryz.func148, Tryz.ntmps148
    go_wp2_with fail
    refine hw.mono ?_
    rintro e w' ⟨rfl, rfl⟩
    go_wp2
    go_ret
    exact ⟨by rw [HY.out]; rfl, Below.refl _ _⟩
end Go.Proofs.YtdpdbfhbojgigacGreatDoor

namespace Go.Proofs.YtdpdbfhbojgigacGreatDoor
open Go.RowKit Go.Extern.Stop Go.Stop Go.Extern

/-- Rules in memory: their errors, and their functions, which answer so of the value v. -/
structure RulesAt (A : Nat → Addr) (w : World) (rb : Nat) (v : Value) (l : List (Bool × Nat)) (g : Nat → Nat) : Prop where
  cell : ∀ i b c, l[i]? = some (b, c) → w.cell? ⟨rb, i * 2, none⟩ = some (errV A c) ∧ w.cell? ⟨rb, i * 2 + 1, none⟩ = some (.func (.func (g i)) #[] #[])
  eg : ∀ i b c, l[i]? = some (b, c) → ∀ args w, (callFunc (g i) args).run Tryz.prog w = .ok (.enter (g i) args) w
  call : ∀ i b c, l[i]? = some (b, c) → ∀ W, Below w.heap.size w W → Calls Tryz.prog (g i) #[v] W fun e W' => e = .returned (.bool b) ∧ Below W.heap.size W W'
  few : l.length ≤ 100
  pos : ∀ (i : Nat) (b : Bool) (c : Nat), l[i]? = some (b, c) → 0 < c
theorem firstOf_at : ∀ (l : List (Bool × Nat)) (k : Nat) (c : Nat), (∀ (i : Nat) (b : Bool) (d : Nat), i < k → l[i]? = some (b, d) → b = false) → l[k]? = some (true, c) → firstOf l = c
  | [], k, c, _, h => by simp at h
  | (b, d) :: t, 0, c, _, h => by simp at h; obtain ⟨rfl, rfl⟩ := h; simp [firstOf]
  | (b, d) :: t, k + 1, c, h, h2 => by
    have := h 0 b d (by omega) rfl
    subst this
    simp [firstOf]
    exact firstOf_at t k c (fun i b d hi e => h (i + 1) b d (by omega) (by simpa using e)) (by simpa using h2)
theorem firstOf_none : ∀ (l : List (Bool × Nat)), (∀ (i : Nat) (b : Bool) (d : Nat), l[i]? = some (b, d) → b = false) → firstOf l = 0
  | [], _ => rfl
  | (b, d) :: t, h => by
    have := h 0 b d rfl
    subst this
    simp [firstOf]
    exact firstOf_none t (fun i b d e => h (i + 1) b d (by simpa using e))

set_option maxHeartbeats 1000000 in
theorem first_cfg (A : Nat → Addr) (x0 x1 x2 x3 : Int) (sa : Option Addr) (sn sc : Nat) (rb : Nat) (l : List (Bool × Nat)) (g : Nat → Nat) (w : World) (h : RulesAt A w rb (.agg #[.int .i64 x0, .int .i64 x1, .int .i64 x2, .int .i64 x3, .slice sa sn sc]) l g) :
    Calls Tryz.prog 105 #[.agg #[.int .i64 x0, .int .i64 x1, .int .i64 x2, .int .i64 x3, .slice sa sn sc], .slice (some ⟨rb, 0, none⟩) l.length l.length] w fun e w' => e = .returned (errV A (firstOf l)) ∧ Below w.heap.size w w' := by
  have hfew : Hid (l.length ≤ 100) := h.few
  have H : Hid (RulesAt A w rb (.agg #[.int .i64 x0, .int .i64 x1, .int .i64 x2, .int .i64 x3, .slice sa sn sc]) l g) := h
  clear h
  go_enter Tryz.func105, Tryz.ntmps105
  go_wp2_with fail
  have HS : Hid (∀ W, Below (w.heap.size + 1) (w.alloc (.cells #[.int .i64 x0, .int .i64 x1, .int .i64 x2, .int .i64 x3, .slice sa sn sc] 24)) W → Below w.heap.size w W ∧ w.heap.size + 1 ≤ W.heap.size ∧ W.cell? ⟨w.heap.size, 0, none⟩ = some (.int .i64 x0) ∧ W.cell? ⟨w.heap.size, 1, none⟩ = some (.int .i64 x1) ∧ W.cell? ⟨w.heap.size, 2, none⟩ = some (.int .i64 x2) ∧ W.cell? ⟨w.heap.size, 3, none⟩ = some (.int .i64 x3) ∧ W.cell? ⟨w.heap.size, 4, none⟩ = some (.slice sa sn sc)) := fun W hb => by
    have hc : ∀ j v, (w.alloc (.cells #[.int .i64 x0, .int .i64 x1, .int .i64 x2, .int .i64 x3, .slice sa sn sc] 24)).cell? ⟨w.heap.size, j, none⟩ = some v → W.cell? ⟨w.heap.size, j, none⟩ = some v := fun j v e => (hb.cell (p := ⟨w.heap.size, j, none⟩) (Nat.lt_succ_self _)).trans e
    exact ⟨((Below.refl _ _).alloc (Nat.le_refl _) _).trans (hb.mono (Nat.le_succ _)), by simpa using hb.size, hc 0 (.int .i64 x0) (by simp), hc 1 (.int .i64 x1) (by simp), hc 2 (.int .i64 x2) (by simp), hc 3 (.int .i64 x3) (by simp), hc 4 (.slice sa sn sc) (by simp)⟩
  go_loopw [6, 9] (fun _ i wr => ∃ k : Nat, k ≤ l.length ∧ i = .int .i64 k ∧ Below (w.heap.size + 1) (w.alloc (.cells #[.int .i64 x0, .int .i64 x1, .int .i64 x2, .int .i64 x3, .slice sa sn sc] 24)) wr ∧ Hid (∀ (i : Nat) (b : Bool) (d : Nat), i < k → l[i]? = some (b, d) → b = false)) (fun _ i _ => l.length - (intOf i).toNat)
  case atStart => exact ⟨0, Nat.zero_le _, rfl, Below.refl _ _, fun i b d hi => absurd hi (Nat.not_lt_zero _)⟩
  case round =>
    obtain ⟨k, hk, rfl, hbw, hall⟩ := hrel
    obtain ⟨hbw1, hsz, p0, p1, p2, p3, p4⟩ := HS.out _ hbw
    by_cases hlt : k < l.length
    · obtain ⟨⟨b, c⟩, hkk⟩ : ∃ x, l[k]? = some x := ⟨_, List.getElem?_eq_getElem hlt⟩
      have c0 := cell_below hbw1 (H.out.cell k b c hkk).1
      have c1 := cell_below hbw1 (H.out.cell k b c hkk).2
      have egk := H.out.eg k b c hkk
      have HC : Hid (∀ W, Below w.heap.size w W → Calls Tryz.prog (g k) #[.agg #[.int .i64 x0, .int .i64 x1, .int .i64 x2, .int .i64 x3, .slice sa sn sc]] W fun e W' => e = .returned (.bool b) ∧ Below W.heap.size W W') := H.out.call k b c hkk
      have HK : Hid (l[k]? = some (b, c)) := hkk
      have hk100 : k < 100 := by have := hfew.out; omega
      have k1 : (k : Int) < (l.length : Int) := by omega
      have HB : Hid (Below (w.heap.size + 1) (w.alloc (.cells #[.int .i64 x0, .int .i64 x1, .int .i64 x2, .int .i64 x3, .slice sa sn sc] 24)) wr) := hbw
      have HB1 : Hid (Below w.heap.size w wr) := hbw1
      have hpos := H.out.pos k b c hkk
      clear hkk hbw hbw1 HS H
      have ha : ∀ (j : Nat) (v : Value), wr.cell? ⟨w.heap.size, j, none⟩ = some v → ∀ o, (wr.alloc o).cell? ⟨w.heap.size, j, none⟩ = some v := fun j v e o => (World.cell?_alloc_lt wr o ⟨w.heap.size, j, none⟩ (block_lt e)).trans e
      have q0 := ha _ _ p0
      have q1 := ha _ _ p1
      have q2 := ha _ _ p2
      have q3 := ha _ _ p3
      have q4 := ha _ _ p4
      clear ha p0 p1 p2 p3 p4
      generalize g k = gk at *
      obtain ⟨c, rfl⟩ : ∃ d, c = d + 1 := ⟨c - 1, by omega⟩
      unfold errV at c0
      clear hpos
      cases b with
      | true =>
        go_wp2_with fail
        refine (HC.out _ (HB1.out.trans (((Below.refl _ _).alloc (Nat.le_refl _) _).mono HB1.out.size))).mono ?_
        rintro e W' ⟨rfl, hb'⟩
        have d0 : W'.cell? ⟨wr.heap.size, 0, none⟩ = some (.iface 298 (.pointer (some (A c)))) := cell_below hb' (by simp)
        have HW : Hid (Below w.heap.size w W') := HB1.out.trans ((((Below.refl _ _).alloc (Nat.le_refl _) _).mono HB1.out.size).trans (hb'.mono (by simp; have := HB1.out.size; omega)))
        clear hb'
        go_wp2
        go_ret
        exact ⟨by rw [firstOf_at l k (c + 1) hall.out HK.out]; rfl, HW.out⟩
      | false =>
        go_wp2_with fail
        refine (HC.out _ (HB1.out.trans (((Below.refl _ _).alloc (Nat.le_refl _) _).mono HB1.out.size))).mono ?_
        rintro e W' ⟨rfl, hb'⟩
        have HW : Hid (Below (w.heap.size + 1) (w.alloc (.cells #[.int .i64 x0, .int .i64 x1, .int .i64 x2, .int .i64 x3, .slice sa sn sc] 24)) W') := HB.out.trans ((((Below.refl _ _).alloc (Nat.le_refl _) _).mono hsz).trans (hb'.mono (by simp; omega)))
        clear hb'
        go_wp2
        go_roundw
        case rel =>
          refine ⟨k + 1, by omega, by go_num, HW.out, fun i b d hi e => ?_⟩
          by_cases hik : i = k
          · subst hik
            have := HK.out
            rw [this] at e
            cases e
            rfl
          · exact hall.out i b d (by omega) e
        case measure => simp [intOf]; omega
    · have HN : Hid (firstOf l = 0) := firstOf_none l (fun i b d e => hall.out i b d (by have := (List.getElem?_eq_some_iff.1 e).1; omega) e)
      have k1 : ¬ (k : Int) < (l.length : Int) := by omega
      clear HS H
      go_wp2
      go_ret
      exact ⟨by rw [HN.out]; rfl, hbw1⟩
set_option maxHeartbeats 1000000 in
theorem first_ent (A : Nat → Addr) (nm : ByteArray) (tol cnt mn mx : Int) (pa ga ea fa la : Option Addr) (pn pc gn gc en ec fn fc ln lc : Nat) (rb : Nat) (l : List (Bool × Nat)) (g : Nat → Nat) (w : World) (h : RulesAt A w rb (.agg #[.string nm, .int .i64 tol, .slice pa pn pc, .int .i64 cnt, .int .i64 mn, .int .i64 mx, .slice ga gn gc, .slice ea en ec, .slice fa fn fc, .slice la ln lc]) l g) :
    Calls Tryz.prog 151 #[.agg #[.string nm, .int .i64 tol, .slice pa pn pc, .int .i64 cnt, .int .i64 mn, .int .i64 mx, .slice ga gn gc, .slice ea en ec, .slice fa fn fc, .slice la ln lc], .slice (some ⟨rb, 0, none⟩) l.length l.length] w fun e w' => e = .returned (errV A (firstOf l)) ∧ Below w.heap.size w w' := by
  have hfew : Hid (l.length ≤ 100) := h.few
  have H : Hid (RulesAt A w rb (.agg #[.string nm, .int .i64 tol, .slice pa pn pc, .int .i64 cnt, .int .i64 mn, .int .i64 mx, .slice ga gn gc, .slice ea en ec, .slice fa fn fc, .slice la ln lc]) l g) := h
  clear h
  go_enter Tryz.func151, Tryz.ntmps151
  go_wp2_with fail
  have HS : Hid (∀ W, Below (w.heap.size + 1) (w.alloc (.cells #[.string nm, .int .i64 tol, .slice pa pn pc, .int .i64 cnt, .int .i64 mn, .int .i64 mx, .slice ga gn gc, .slice ea en ec, .slice fa fn fc, .slice la ln lc] 38)) W → Below w.heap.size w W ∧ w.heap.size + 1 ≤ W.heap.size ∧ W.cell? ⟨w.heap.size, 0, none⟩ = some (.string nm) ∧ W.cell? ⟨w.heap.size, 1, none⟩ = some (.int .i64 tol) ∧ W.cell? ⟨w.heap.size, 2, none⟩ = some (.slice pa pn pc) ∧ W.cell? ⟨w.heap.size, 3, none⟩ = some (.int .i64 cnt) ∧ W.cell? ⟨w.heap.size, 4, none⟩ = some (.int .i64 mn) ∧ W.cell? ⟨w.heap.size, 5, none⟩ = some (.int .i64 mx) ∧ W.cell? ⟨w.heap.size, 6, none⟩ = some (.slice ga gn gc) ∧ W.cell? ⟨w.heap.size, 7, none⟩ = some (.slice ea en ec) ∧ W.cell? ⟨w.heap.size, 8, none⟩ = some (.slice fa fn fc) ∧ W.cell? ⟨w.heap.size, 9, none⟩ = some (.slice la ln lc)) := fun W hb => by
    have hc : ∀ j v, (w.alloc (.cells #[.string nm, .int .i64 tol, .slice pa pn pc, .int .i64 cnt, .int .i64 mn, .int .i64 mx, .slice ga gn gc, .slice ea en ec, .slice fa fn fc, .slice la ln lc] 38)).cell? ⟨w.heap.size, j, none⟩ = some v → W.cell? ⟨w.heap.size, j, none⟩ = some v := fun j v e => (hb.cell (p := ⟨w.heap.size, j, none⟩) (Nat.lt_succ_self _)).trans e
    exact ⟨((Below.refl _ _).alloc (Nat.le_refl _) _).trans (hb.mono (Nat.le_succ _)), by simpa using hb.size, hc 0 (.string nm) (by simp), hc 1 (.int .i64 tol) (by simp), hc 2 (.slice pa pn pc) (by simp), hc 3 (.int .i64 cnt) (by simp), hc 4 (.int .i64 mn) (by simp), hc 5 (.int .i64 mx) (by simp), hc 6 (.slice ga gn gc) (by simp), hc 7 (.slice ea en ec) (by simp), hc 8 (.slice fa fn fc) (by simp), hc 9 (.slice la ln lc) (by simp)⟩
  go_loopw [6, 9] (fun _ i wr => ∃ k : Nat, k ≤ l.length ∧ i = .int .i64 k ∧ Below (w.heap.size + 1) (w.alloc (.cells #[.string nm, .int .i64 tol, .slice pa pn pc, .int .i64 cnt, .int .i64 mn, .int .i64 mx, .slice ga gn gc, .slice ea en ec, .slice fa fn fc, .slice la ln lc] 38)) wr ∧ Hid (∀ (i : Nat) (b : Bool) (d : Nat), i < k → l[i]? = some (b, d) → b = false)) (fun _ i _ => l.length - (intOf i).toNat)
  case atStart => exact ⟨0, Nat.zero_le _, rfl, Below.refl _ _, fun i b d hi => absurd hi (Nat.not_lt_zero _)⟩
  case round =>
    obtain ⟨k, hk, rfl, hbw, hall⟩ := hrel
    obtain ⟨hbw1, hsz, p0, p1, p2, p3, p4, p5, p6, p7, p8, p9⟩ := HS.out _ hbw
    by_cases hlt : k < l.length
    · obtain ⟨⟨b, c⟩, hkk⟩ : ∃ x, l[k]? = some x := ⟨_, List.getElem?_eq_getElem hlt⟩
      have c0 := cell_below hbw1 (H.out.cell k b c hkk).1
      have c1 := cell_below hbw1 (H.out.cell k b c hkk).2
      have egk := H.out.eg k b c hkk
      have HC : Hid (∀ W, Below w.heap.size w W → Calls Tryz.prog (g k) #[.agg #[.string nm, .int .i64 tol, .slice pa pn pc, .int .i64 cnt, .int .i64 mn, .int .i64 mx, .slice ga gn gc, .slice ea en ec, .slice fa fn fc, .slice la ln lc]] W fun e W' => e = .returned (.bool b) ∧ Below W.heap.size W W') := H.out.call k b c hkk
      have HK : Hid (l[k]? = some (b, c)) := hkk
      have hk100 : k < 100 := by have := hfew.out; omega
      have k1 : (k : Int) < (l.length : Int) := by omega
      have HB : Hid (Below (w.heap.size + 1) (w.alloc (.cells #[.string nm, .int .i64 tol, .slice pa pn pc, .int .i64 cnt, .int .i64 mn, .int .i64 mx, .slice ga gn gc, .slice ea en ec, .slice fa fn fc, .slice la ln lc] 38)) wr) := hbw
      have HB1 : Hid (Below w.heap.size w wr) := hbw1
      have hpos := H.out.pos k b c hkk
      clear hkk hbw hbw1 HS H
      have ha : ∀ (j : Nat) (v : Value), wr.cell? ⟨w.heap.size, j, none⟩ = some v → ∀ o, (wr.alloc o).cell? ⟨w.heap.size, j, none⟩ = some v := fun j v e o => (World.cell?_alloc_lt wr o ⟨w.heap.size, j, none⟩ (block_lt e)).trans e
      have q0 := ha _ _ p0
      have q1 := ha _ _ p1
      have q2 := ha _ _ p2
      have q3 := ha _ _ p3
      have q4 := ha _ _ p4
      have q5 := ha _ _ p5
      have q6 := ha _ _ p6
      have q7 := ha _ _ p7
      have q8 := ha _ _ p8
      have q9 := ha _ _ p9
      clear ha p0 p1 p2 p3 p4 p5 p6 p7 p8 p9
      generalize g k = gk at *
      obtain ⟨c, rfl⟩ : ∃ d, c = d + 1 := ⟨c - 1, by omega⟩
      unfold errV at c0
      clear hpos
      cases b with
      | true =>
        go_wp2_with fail
        refine (HC.out _ (HB1.out.trans (((Below.refl _ _).alloc (Nat.le_refl _) _).mono HB1.out.size))).mono ?_
        rintro e W' ⟨rfl, hb'⟩
        have d0 : W'.cell? ⟨wr.heap.size, 0, none⟩ = some (.iface 298 (.pointer (some (A c)))) := cell_below hb' (by simp)
        have HW : Hid (Below w.heap.size w W') := HB1.out.trans ((((Below.refl _ _).alloc (Nat.le_refl _) _).mono HB1.out.size).trans (hb'.mono (by simp; have := HB1.out.size; omega)))
        clear hb'
        go_wp2
        go_ret
        exact ⟨by rw [firstOf_at l k (c + 1) hall.out HK.out]; rfl, HW.out⟩
      | false =>
        go_wp2_with fail
        refine (HC.out _ (HB1.out.trans (((Below.refl _ _).alloc (Nat.le_refl _) _).mono HB1.out.size))).mono ?_
        rintro e W' ⟨rfl, hb'⟩
        have HW : Hid (Below (w.heap.size + 1) (w.alloc (.cells #[.string nm, .int .i64 tol, .slice pa pn pc, .int .i64 cnt, .int .i64 mn, .int .i64 mx, .slice ga gn gc, .slice ea en ec, .slice fa fn fc, .slice la ln lc] 38)) W') := HB.out.trans ((((Below.refl _ _).alloc (Nat.le_refl _) _).mono hsz).trans (hb'.mono (by simp; omega)))
        clear hb'
        go_wp2
        go_roundw
        case rel =>
          refine ⟨k + 1, by omega, by go_num, HW.out, fun i b d hi e => ?_⟩
          by_cases hik : i = k
          · subst hik
            have := HK.out
            rw [this] at e
            cases e
            rfl
          · exact hall.out i b d (by omega) e
        case measure => simp [intOf]; omega
    · have HN : Hid (firstOf l = 0) := firstOf_none l (fun i b d e => hall.out i b d (by have := (List.getElem?_eq_some_iff.1 e).1; omega) e)
      have k1 : ¬ (k : Int) < (l.length : Int) := by omega
      clear HS H
      go_wp2
      go_ret
      exact ⟨by rw [HN.out]; rfl, hbw1⟩
end Go.Proofs.YtdpdbfhbojgigacGreatDoor
