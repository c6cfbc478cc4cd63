/-
  (*conf.reader).takePart by a contract at kind 5 (count). Conditions: as the other kinds'.
-/
import Derived.Test.YtbholbenjalliaaGreatDoorCfRPart2X
import Derived.Deep.RegionHeld3
namespace Go.Proofs.YtbholbenjalliaaGreatDoor
open Go.RowKit Go.Extern.Stop Go.Stop Go.Extern Go.Maps

theorem OwnX.nums {B : Nat} {w : World} {e : EntD} {x : PV5} (h : OwnX B w e x) (a b d : Int) : OwnX B w { e with cnt := a, mn := b, mx := d } x := ⟨h.hp, h.hg, h.he, h.hf, h.hl⟩
set_option maxHeartbeats 4000000 in
set_option maxRecDepth 100000 in
theorem part_count (A : Nat → Addr) (w0 w : World) (rb L g cap mb : Nat) (c : CfgD) (last : Int) (es : List EntD) (e : EntD) (x : PV5) (cells : List Value) (sa : Option Addr) (ws : List ByteArray) (wb wo wc : Nat) (hs : Sen6 A w0) (hb0 : Below w0.heap.size w0 w) (h : RdE w0.heap.size rb L g cap mb w c last es e x cells) (hLw : L ≤ w.heap.size) (hW : WordsAt w sa ws wb wo) :
    Calls Tryz.prog 129 #[.pointer (some ⟨rb, 0, none⟩), .pointer (some ⟨g, es.length * 10, none⟩), .int .i64 5, .slice sa ws.length wc] w fun v w' => v = .returned (errV A (fillV (lookL e.pts) false [2, 1, 1] (ws.map bl)).1) ∧ Below w0.heap.size w0 w' ∧ ∃ (z0 z1 z2 : Int), ((fillV (lookL e.pts) false [2, 1, 1] (ws.map bl)).1 = 0 → (∀ s, ws[0]? = some s → z0 = (wordV (lookL e.pts) 2 (bl s)).2) ∧ (∀ s, ws[1]? = some s → z1 = (wordV (lookL e.pts) 1 (bl s)).2) ∧ (∀ s, ws[2]? = some s → z2 = (wordV (lookL e.pts) 1 (bl s)).2)) ∧ RdE w0.heap.size rb L g cap mb w' c last es { e with cnt := z0, mn := z1, mx := z2 } x cells ∧ L ≤ w'.heap.size := by
  obtain ⟨o, ho⟩ : ∃ o, o = es.length * 10 := ⟨_, rfl⟩
  have HO : Hid (o = es.length * 10) := ho
  have HS : Hid (Sen6 A w0 ∧ Below w0.heap.size w0 w) := ⟨hs, hb0⟩
  have HR : Hid (RdE w0.heap.size rb L g cap mb w c last es e x cells) := h
  have HW : Hid (WordsAt w sa ws wb wo) := hW
  have HL : Hid (L ≤ w.heap.size) := hLw
  obtain ⟨cur0, hg0, hgB⟩ := h.grow
  have HGr : Hid (w.heap[g]? = some (.cells cur0 52 (0, 0)) ∧ w0.heap.size ≤ g ∧ g < w.heap.size) := ⟨hg0, hgB, lt_of_row hg0⟩
  rw [← ho]
  clear ho hs hb0 h hW hLw hg0 hgB
  go_enter Tryz.func129, Tryz.ntmps129
  go_upto_region 2 with fail
  obtain ⟨W1, hW1⟩ : ∃ V, V = (w.alloc (.cells #[.int .i64 0] 125)).alloc (.cells #[.int .i64 0] 125) := ⟨_, rfl⟩
  rw [← hW1]
  have HB1 : Hid (Below w.heap.size w W1) := by show Below _ _ _; rw [hW1]; exact (Below.one _ _).alloc (by simp) _
  have HZ1 : Hid (W1.heap.size = w.heap.size + 2) := by show _ = _; rw [hW1]; simp
  have HC1 : Hid (W1.cell? ⟨w.heap.size, 0, none⟩ = some (.int .i64 0) ∧ W1.frozen? ⟨w.heap.size, 0, none⟩ = false) := by
    refine ⟨by rw [hW1]; exact (boxes_two w _ _ _).1, ?_⟩
    rw [hW1, frozen?_alloc_cells, frozen?_alloc_cells]
    exact frozen_out w 0 0
  clear hW1
  have HFI : Hid (∀ q, FillIn w0 rb e.pts [2, 1, 1] [(w.heap.size, 0), (g, o + 4), (g, o + 5)] ws wb wo W1.heap.size ((W1.drewN q).alloc (.cells #[.iface 201 (.pointer (some ⟨w.heap.size, 0, none⟩)), .iface 187 (.pointer (some ⟨g, o + 4, none⟩)), .iface 187 (.pointer (some ⟨g, o + 5, none⟩))] 20))) := fun q => by
    have hbB : Below W1.heap.size W1 ((W1.drewN q).alloc (.cells #[.iface 201 (.pointer (some ⟨w.heap.size, 0, none⟩)), .iface 187 (.pointer (some ⟨g, o + 4, none⟩)), .iface 187 (.pointer (some ⟨g, o + 5, none⟩))] 20)) := (below_drewN (Below.refl _ _) q).alloc (Nat.le_refl _) _
    have hlt := HW.out.lt
    have hz := HZ1.out
    have hrb := lt_of_row HR.out.row
    have hsz := HS.out.2.size
    have hgr := HGr.out
    have hgw : g ≠ wb := fun e2 => by
      obtain ⟨cc, fr, hh⟩ := HW.out.blk
      have h1 := hgr.1
      rw [e2, hh] at h1
      simp only [Option.some.injEq, Obj.cells.injEq] at h1
      exact absurd h1.2.1 (by decide)
    have hrg : g ≠ rb := fun e2 => by
      have h1 := hgr.1
      rw [e2, HR.out.row] at h1
      simp only [Option.some.injEq, Obj.cells.injEq] at h1
      exact absurd h1.2.1 (by decide)
    have k4 := (HR.out.below HB1.out).ewcell (j := 4) (u := .int .i64 e.mn) rfl
    have k5 := (HR.out.below HB1.out).ewcell (j := 5) (u := .int .i64 e.mx) rfl
    rw [← HO.out] at k4 k5
    refine ⟨HS.out.2.trans ((HB1.out.trans (hbB.mono HB1.out.size)).mono hsz), rfl, by simp, by simp, ?_, ?_, ?_, ?_, fun i s hi => cell_below hbB (cell_below HB1.out (HW.out.wrd i s hi)), HW.out.sz, fun _ => ⟨mb, ((HR.out.below HB1.out).below hbB).mapAt⟩⟩
    · intro i f t hf ht
      match i, hf, ht with
      | 0, hf, ht =>
        simp at hf ht
        subst hf ht
        exact ⟨⟨_, cell_below hbB HC1.out.1, ⟨0, rfl⟩⟩, by rw [frozen_below hbB HC1.out.1]; exact HC1.out.2⟩
      | 1, hf, ht =>
        simp at hf ht
        subst hf ht
        exact ⟨⟨_, cell_below hbB k4.1, ⟨_, rfl⟩⟩, by rw [frozen_below hbB k4.1]; exact k4.2⟩
      | 2, hf, ht =>
        simp at hf ht
        subst hf ht
        exact ⟨⟨_, cell_below hbB k5.1, ⟨_, rfl⟩⟩, by rw [frozen_below hbB k5.1]; exact k5.2⟩
      | i + 3, hf, _ => simp at hf
    · intro t ht
      simp only [List.mem_cons, List.not_mem_nil, or_false] at ht
      rcases ht with rfl | rfl | rfl
      · exact ⟨by simp only []; omega, fun e2 => by have := (Prod.mk.inj e2).1; omega, by simp only []; omega, by simp only []; omega⟩
      · exact ⟨hgr.2.1, fun e2 => hrg (Prod.mk.inj e2).1, by simp only []; omega, hgw⟩
      · exact ⟨hgr.2.1, fun e2 => hrg (Prod.mk.inj e2).1, by simp only []; omega, hgw⟩
    · have : w.heap.size ≠ g := by omega
      simp [this]
    · intro i f t hf ht
      match i, hf, ht with
      | 0, hf, ht =>
        simp at hf ht
        subst hf ht
        show World.cell? (World.alloc (W1.drewN q) _) ⟨(W1.drewN q).heap.size, _, none⟩ = _
        rw [World.cell?_alloc_at _ _ _ _ rfl]
        rfl
      | 1, hf, ht =>
        simp at hf ht
        subst hf ht
        show World.cell? (World.alloc (W1.drewN q) _) ⟨(W1.drewN q).heap.size, _, none⟩ = _
        rw [World.cell?_alloc_at _ _ _ _ rfl]
        rfl
      | 2, hf, ht =>
        simp at hf ht
        subst hf ht
        show World.cell? (World.alloc (W1.drewN q) _) ⟨(W1.drewN q).heap.size, _, none⟩ = _
        rw [World.cell?_alloc_at _ _ _ _ rfl]
        rfl
      | i + 3, hf, _ => simp at hf
  have HFill : Hid (∀ q, Calls Tryz.prog 127 #[.pointer (some ⟨rb, 0, none⟩), .slice sa ws.length wc, .slice (some ⟨W1.heap.size, 0, none⟩) 3 3] ((W1.drewN q).alloc (.cells #[.iface 201 (.pointer (some ⟨w.heap.size, 0, none⟩)), .iface 187 (.pointer (some ⟨g, o + 4, none⟩)), .iface 187 (.pointer (some ⟨g, o + 5, none⟩))] 20)) fun v w2 => v = .returned (errV A (fillV (lookL e.pts) false [2, 1, 1] (ws.map bl)).1) ∧ ∃ z0 z1 z2 : Int, ((fillV (lookL e.pts) false [2, 1, 1] (ws.map bl)).1 = 0 → (∀ s, ws[0]? = some s → z0 = (wordV (lookL e.pts) 2 (bl s)).2) ∧ (∀ s, ws[1]? = some s → z1 = (wordV (lookL e.pts) 1 (bl s)).2) ∧ (∀ s, ws[2]? = some s → z2 = (wordV (lookL e.pts) 1 (bl s)).2)) ∧ w2.cell? ⟨w.heap.size, 0, none⟩ = some (.int .i64 z0) ∧ Below w0.heap.size w0 w2 ∧ w.heap.size ≤ w2.heap.size ∧ RdE w0.heap.size rb L g cap mb w2 c last es { e with cnt := e.cnt, mn := z1, mx := z2 } x cells) := fun q => by
    refine (fillR_at A w0 _ rb e.pts [2, 1, 1] [(w.heap.size, 0), (g, o + 4), (g, o + 5)] ws sa wb wo wc W1.heap.size HS.out.1 (HFI.out q) HW.out.sa HW.out.few).mono ?_
    rintro v w2 ⟨rfl, us, hul, hut, huv, hub⟩
    obtain ⟨u0, u1, u2, rfl⟩ : ∃ u0 u1 u2, us = [u0, u1, u2] := by
      match us, hul with
      | [u0, u1, u2], _ => exact ⟨u0, u1, u2, rfl⟩
    obtain ⟨z0, rfl⟩ : ∃ z : Int, u0 = .int .i64 z := hut 0 2 u0 rfl rfl
    obtain ⟨z1, rfl⟩ : ∃ z : Int, u1 = .int .i64 z := hut 1 1 u1 rfl rfl
    obtain ⟨z2, rfl⟩ : ∃ z : Int, u2 = .int .i64 z := hut 2 1 u2 rfl rfl
    obtain ⟨V, hV⟩ : ∃ V, V = (W1.drewN q).alloc (.cells #[.iface 201 (.pointer (some ⟨w.heap.size, 0, none⟩)), .iface 187 (.pointer (some ⟨g, o + 4, none⟩)), .iface 187 (.pointer (some ⟨g, o + 5, none⟩))] 20) := ⟨_, rfl⟩
    have hbV : Below w.heap.size w V := by rw [hV]; exact (below_drewN HB1.out q).alloc (by have := HZ1.out; show w.heap.size ≤ W1.heap.size; omega) _
    have cV : V.cell? ⟨w.heap.size, 0, none⟩ = some (.int .i64 0) := by
      rw [hV]
      exact cell_below (w := W1) ((below_drewN (Below.refl _ _) q).alloc (Nat.le_refl _) _) HC1.out.1
    rw [← hV] at hub
    have hbU : Below w.heap.size w (V.setCell ⟨w.heap.size, 0, none⟩ (.int .i64 z0)) := hbV.setCell (p := ⟨w.heap.size, 0, none⟩) (Nat.le_refl _) _
    have r0 := HR.out.below hbU
    have r1 := r0.setE (e' := { e with mn := z1 }) (x' := x) 4 (.int .i64 z1) rfl (r0.new.nums e.cnt z1 e.mx) r0.fl rfl
    have r2 := r1.setE (e' := { e with mn := z1, mx := z2 }) (x' := x) 5 (.int .i64 z2) rfl (r1.new.nums e.cnt z1 z2) r1.fl rfl
    rw [← HO.out] at r2
    have hz2 : (((V.setCell ⟨w.heap.size, 0, none⟩ (.int .i64 z0)).setCell ⟨g, o + 4, none⟩ (.int .i64 z1)).setCell ⟨g, o + 5, none⟩ (.int .i64 z2)).heap.size = V.heap.size := by simp [World.setCell]
    have hub2 : Below (((V.setCell ⟨w.heap.size, 0, none⟩ (.int .i64 z0)).setCell ⟨g, o + 4, none⟩ (.int .i64 z1)).setCell ⟨g, o + 5, none⟩ (.int .i64 z2)).heap.size (((V.setCell ⟨w.heap.size, 0, none⟩ (.int .i64 z0)).setCell ⟨g, o + 4, none⟩ (.int .i64 z1)).setCell ⟨g, o + 5, none⟩ (.int .i64 z2)) w2 := by rw [hz2]; exact hub
    have hgne : g ≠ w.heap.size := by have := HGr.out.2.2; omega
    refine ⟨rfl, z0, z1, z2, fun h0 => ⟨(fun s hs => by have := huv h0 0 2 s _ rfl hs rfl; unfold valOf at this; rw [if_neg (by decide)] at this; exact (Value.int.inj this).2), (fun s hs => by have := huv h0 1 1 s _ rfl hs rfl; unfold valOf at this; rw [if_neg (by decide)] at this; exact (Value.int.inj this).2), (fun s hs => by have := huv h0 2 1 s _ rfl hs rfl; unfold valOf at this; rw [if_neg (by decide)] at this; exact (Value.int.inj this).2)⟩, ?_, ?_, ?_, ?_⟩
    · refine cell_below hub2 ?_
      rw [cell_setOther (Or.inl hgne) rfl rfl, cell_setOther (Or.inl hgne) rfl rfl]
      exact cell_setSame cV
    · have h1 : Below w0.heap.size w0 V := HS.out.2.trans (hbV.mono HS.out.2.size)
      have h2 := ((h1.setCell (p := ⟨w.heap.size, 0, none⟩) HS.out.2.size (.int .i64 z0)).setCell (p := ⟨g, o + 4, none⟩) HGr.out.2.1 (.int .i64 z1)).setCell (p := ⟨g, o + 5, none⟩) HGr.out.2.1 (.int .i64 z2)
      exact h2.trans (hub2.mono h2.size)
    · have h1 := hub2.size
      have h2 := hbV.size
      omega
    · exact r2.below hub2
  clear HFI HC1
  go_upto_region 7 with fail
  go_region_held3 (fun _ => True) (exact trivial) (first | (go_at_call 127; refine Calls.mono (HFill.out _) ?_; rintro v w2 ⟨rfl, z0, z1, z2, hz, cz, hb2, hs2, hr2⟩))
  all_goals
    have HV : Hid _ := hz
    have HB2 : Hid (Below w0.heap.size w0 w2) := hb2
    have HR2 : Hid (RdE w0.heap.size rb L g cap mb w2 c last es { e with cnt := e.cnt, mn := z1, mx := z2 } x cells) := hr2
    have HS2 : Hid (w.heap.size ≤ w2.heap.size) := hs2
    have k3 := hr2.ewcell (j := 3) (u := .int .i64 e.cnt) rfl
    rw [← HO.out] at k3
    obtain ⟨k3c, k3f⟩ := k3
    clear hz hb2 hr2 hs2 HFill
    go_wp2
    go_ret
    refine ⟨rfl, HB2.out.setCell (p := ⟨g, o + 3, none⟩) HGr.out.2.1 _, z0, z1, z2, HV.out, ?_, ?_⟩
    · have := HR2.out.setE (e' := { e with cnt := z0, mn := z1, mx := z2 }) (x' := x) 3 (.int .i64 z0) rfl (HR2.out.new.nums z0 z1 z2) HR2.out.fl rfl
      rw [← HO.out] at this
      exact this
    · have h1 := HS2.out
      have h2 := HL.out
      simp only [World.setCell, Array.size_modify]
      omega
end Go.Proofs.YtbholbenjalliaaGreatDoor
