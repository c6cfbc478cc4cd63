/-
  (*conf.reader).take by a contract, for every kind of line. Conditions: the words lie in memory; lists of at most a million.
-/
import Derived.Test.YtbholbenjalliaaGreatDoorCfRAnyX
namespace Go.Proofs.YtbholbenjalliaaGreatDoor
open Go.RowKit Go.Extern.Stop Go.Stop Go.Extern Go.Maps

theorem lastPts_nil : lastPts [] = [] := rfl
theorem lastPts_snocR (es : List EntD) (e : EntD) : lastPts (es ++ [e]) = e.pts := by simp [lastPts]
/-- Where no point is asked for, no look-up matters. -/
theorem wordV_any {l1 l2 : Bs → Option Nat} {f : Nat} (hf : f < 2) (w : Bs) : wordV l1 f w = wordV l2 f w := by
  unfold wordV
  match f, hf with
  | 0, _ => rfl
  | 1, _ => rfl
theorem fillV_any {l1 l2 : Bs → Option Nat} : ∀ (fs : List Nat) (ws : List Bs) (nn : Bool), (∀ f ∈ fs, f < 2) → fillV l1 nn fs ws = fillV l2 nn fs ws
  | [], [], _, _ => rfl
  | [], _ :: _, _, _ => rfl
  | _ :: _, [], _, _ => rfl
  | f :: fs, w :: ws, nn, h => by
    have e := wordV_any (l1 := l1) (l2 := l2) (h f (by simp)) w
    unfold fillV
    rw [e]
    split
    · rfl
    · rw [fillV_any fs ws _ (fun f hf => h f (by simp [hf]))]
set_option maxHeartbeats 1000000 in
theorem fill_k0 (A : Nat → Addr) (w0 w : World) (rb : Nat) (c : CfgD) (last : Int) (sa : Option Addr) (ws : List ByteArray) (wb wo wc : Nat) (hs : Sen6 A w0) (hb0 : Below w0.heap.size w0 w) (h : RdN w0.heap.size rb w c last) (hW : WordsAt w sa ws wb wo) (q : Nat) :
    Calls Tryz.prog 127 #[.pointer (some ⟨rb, 0, none⟩), .slice sa ws.length wc, .slice (some ⟨w.heap.size, 0, none⟩) 2 2] ((w.drewN q).alloc (.cells #[.iface 187 (.pointer (some ⟨rb, 0, none⟩)), .iface 187 (.pointer (some ⟨rb, 1, none⟩))] 20)) fun v w2 => v = .returned (errV A (fillV (lookL []) false [1, 1] (ws.map bl)).1) ∧ Below w0.heap.size w0 w2 ∧ ∃ z0 z1 : Int, ((fillV (lookL []) false [1, 1] (ws.map bl)).1 = 0 → (∀ s, ws[0]? = some s → z0 = (wordV (lookL []) 1 (bl s)).2) ∧ (∀ s, ws[1]? = some s → z1 = (wordV (lookL []) 1 (bl s)).2)) ∧ RdN w0.heap.size rb w2 ⟨z0, z1, c.cycle, c.delay, c.ents⟩ last := by
  have hbB : Below w.heap.size w ((w.drewN q).alloc (.cells #[.iface 187 (.pointer (some ⟨rb, 0, none⟩)), .iface 187 (.pointer (some ⟨rb, 1, none⟩))] 20)) := (below_drewN (Below.refl _ _) q).alloc (Nat.le_refl _) _
  have hrow := row_below hbB h.row
  have hrb := lt_of_row h.row
  have hlt := hW.lt
  have hne : rb ≠ wb := fun e2 => by
    obtain ⟨cc, fr, hh⟩ := hW.blk
    have h1 := h.row
    rw [e2, hh] at h1
    simp only [Option.some.injEq, Obj.cells.injEq] at h1
    exact absurd h1.2.1 (by decide)
  have hFI : FillIn w0 rb [] [1, 1] [(rb, 0), (rb, 1)] ws wb wo w.heap.size ((w.drewN q).alloc (.cells #[.iface 187 (.pointer (some ⟨rb, 0, none⟩)), .iface 187 (.pointer (some ⟨rb, 1, none⟩))] 20)) := by
    refine ⟨hb0.trans (hbB.mono hb0.size), rfl, by simp, by simp, ?_, ?_, by simp, ?_, fun i s hi => cell_below hbB (hW.wrd i s hi), hW.sz, fun h2 => by simp at h2⟩
    · intro i f t hf ht
      match i, hf, ht with
      | 0, hf, ht =>
        simp at hf ht
        subst hf ht
        exact ⟨⟨.int .i64 c.closed, by simp [World.cell?, hrow, rdRow], ⟨_, rfl⟩⟩, by simp [World.frozen?, hrow]⟩
      | 1, hf, ht =>
        simp at hf ht
        subst hf ht
        exact ⟨⟨.int .i64 c.opn, by simp [World.cell?, hrow, rdRow], ⟨_, rfl⟩⟩, by simp [World.frozen?, hrow]⟩
      | i + 2, hf, _ => simp at hf
    · intro t ht
      simp only [List.mem_cons, List.not_mem_nil, or_false] at ht
      rcases ht with rfl | rfl
      all_goals exact ⟨h.lo, fun e2 => by simp at e2, by simp only []; omega, hne⟩
    · intro i f t hf ht
      match i, hf, ht with
      | 0, hf, ht =>
        simp at hf ht
        subst hf ht
        show World.cell? (World.alloc (w.drewN q) _) ⟨(w.drewN q).heap.size, _, none⟩ = _
        rw [World.cell?_alloc_at _ _ _ _ rfl]
        rfl
      | 1, hf, ht =>
        simp at hf ht
        subst hf ht
        show World.cell? (World.alloc (w.drewN q) _) ⟨(w.drewN q).heap.size, _, none⟩ = _
        rw [World.cell?_alloc_at _ _ _ _ rfl]
        rfl
      | i + 2, hf, _ => simp at hf
  refine (fillR_at A w0 _ rb [] [1, 1] [(rb, 0), (rb, 1)] ws sa wb wo wc w.heap.size hs hFI hW.sa hW.few).mono ?_
  rintro v w2 ⟨rfl, us, hul, hut, huv, hub⟩
  obtain ⟨u0, u1, rfl⟩ : ∃ u0 u1, us = [u0, u1] := by
    match us, hul with
    | [u0, u1], _ => exact ⟨u0, u1, rfl⟩
  obtain ⟨z0, rfl⟩ : ∃ z : Int, u0 = .int .i64 z := hut 0 1 u0 rfl rfl
  obtain ⟨z1, rfl⟩ : ∃ z : Int, u1 = .int .i64 z := hut 1 1 u1 rfl rfl
  have hsz : (sets ((w.drewN q).alloc (.cells #[.iface 187 (.pointer (some ⟨rb, 0, none⟩)), .iface 187 (.pointer (some ⟨rb, 1, none⟩))] 20)) [(rb, 0), (rb, 1)] [.int .i64 z0, .int .i64 z1]).heap.size = ((w.drewN q).alloc (.cells #[.iface 187 (.pointer (some ⟨rb, 0, none⟩)), .iface 187 (.pointer (some ⟨rb, 1, none⟩))] 20)).heap.size := by simp [sets, World.setCell]
  have hub2 : Below (sets ((w.drewN q).alloc (.cells #[.iface 187 (.pointer (some ⟨rb, 0, none⟩)), .iface 187 (.pointer (some ⟨rb, 1, none⟩))] 20)) [(rb, 0), (rb, 1)] [.int .i64 z0, .int .i64 z1]).heap.size (sets ((w.drewN q).alloc (.cells #[.iface 187 (.pointer (some ⟨rb, 0, none⟩)), .iface 187 (.pointer (some ⟨rb, 1, none⟩))] 20)) [(rb, 0), (rb, 1)] [.int .i64 z0, .int .i64 z1]) w2 := by rw [hsz]; exact hub
  have b1 : Below w0.heap.size w0 (sets ((w.drewN q).alloc (.cells #[.iface 187 (.pointer (some ⟨rb, 0, none⟩)), .iface 187 (.pointer (some ⟨rb, 1, none⟩))] 20)) [(rb, 0), (rb, 1)] [.int .i64 z0, .int .i64 z1]) := (hb0.trans (hbB.mono hb0.size)).trans (sets_below _ _ _ _ (fun t ht => by simp at ht; first | (subst ht; exact h.lo) | (rcases ht with rfl | rfl <;> exact h.lo)))
  refine ⟨rfl, b1.trans (hub2.mono b1.size), z0, z1, fun h0 => ⟨(fun s hs => by have := huv h0 0 1 s _ rfl hs rfl; unfold valOf at this; rw [if_neg (by decide)] at this; exact (Value.int.inj this).2), (fun s hs => by have := huv h0 1 1 s _ rfl hs rfl; unfold valOf at this; rw [if_neg (by decide)] at this; exact (Value.int.inj this).2)⟩, h.lo, h.nil, row_below hub2 ?_⟩
  simp only [sets, World.setCell, Array.getElem?_modify, hrow]
  simp [rdRow]
set_option maxHeartbeats 1000000 in
theorem fill_k1 (A : Nat → Addr) (w0 w : World) (rb : Nat) (c : CfgD) (last : Int) (sa : Option Addr) (ws : List ByteArray) (wb wo wc : Nat) (hs : Sen6 A w0) (hb0 : Below w0.heap.size w0 w) (h : RdN w0.heap.size rb w c last) (hW : WordsAt w sa ws wb wo) (q : Nat) :
    Calls Tryz.prog 127 #[.pointer (some ⟨rb, 0, none⟩), .slice sa ws.length wc, .slice (some ⟨w.heap.size, 0, none⟩) 1 1] ((w.drewN q).alloc (.cells #[.iface 187 (.pointer (some ⟨rb, 2, none⟩))] 20)) fun v w2 => v = .returned (errV A (fillV (lookL []) false [1] (ws.map bl)).1) ∧ Below w0.heap.size w0 w2 ∧ ∃ z0 : Int, ((fillV (lookL []) false [1] (ws.map bl)).1 = 0 → (∀ s, ws[0]? = some s → z0 = (wordV (lookL []) 1 (bl s)).2)) ∧ RdN w0.heap.size rb w2 ⟨c.closed, c.opn, z0, c.delay, c.ents⟩ last := by
  have hbB : Below w.heap.size w ((w.drewN q).alloc (.cells #[.iface 187 (.pointer (some ⟨rb, 2, none⟩))] 20)) := (below_drewN (Below.refl _ _) q).alloc (Nat.le_refl _) _
  have hrow := row_below hbB h.row
  have hrb := lt_of_row h.row
  have hlt := hW.lt
  have hne : rb ≠ wb := fun e2 => by
    obtain ⟨cc, fr, hh⟩ := hW.blk
    have h1 := h.row
    rw [e2, hh] at h1
    simp only [Option.some.injEq, Obj.cells.injEq] at h1
    exact absurd h1.2.1 (by decide)
  have hFI : FillIn w0 rb [] [1] [(rb, 2)] ws wb wo w.heap.size ((w.drewN q).alloc (.cells #[.iface 187 (.pointer (some ⟨rb, 2, none⟩))] 20)) := by
    refine ⟨hb0.trans (hbB.mono hb0.size), rfl, by simp, by simp, ?_, ?_, by simp, ?_, fun i s hi => cell_below hbB (hW.wrd i s hi), hW.sz, fun h2 => by simp at h2⟩
    · intro i f t hf ht
      match i, hf, ht with
      | 0, hf, ht =>
        simp at hf ht
        subst hf ht
        exact ⟨⟨.int .i64 c.cycle, by simp [World.cell?, hrow, rdRow], ⟨_, rfl⟩⟩, by simp [World.frozen?, hrow]⟩
      | i + 1, hf, _ => simp at hf
    · intro t ht
      simp only [List.mem_cons, List.not_mem_nil, or_false] at ht
      subst ht
      exact ⟨h.lo, fun e2 => by simp at e2, by simp only []; omega, hne⟩
    · intro i f t hf ht
      match i, hf, ht with
      | 0, hf, ht =>
        simp at hf ht
        subst hf ht
        show World.cell? (World.alloc (w.drewN q) _) ⟨(w.drewN q).heap.size, _, none⟩ = _
        rw [World.cell?_alloc_at _ _ _ _ rfl]
        rfl
      | i + 1, hf, _ => simp at hf
  refine (fillR_at A w0 _ rb [] [1] [(rb, 2)] ws sa wb wo wc w.heap.size hs hFI hW.sa hW.few).mono ?_
  rintro v w2 ⟨rfl, us, hul, hut, huv, hub⟩
  obtain ⟨u0, rfl⟩ : ∃ u0, us = [u0] := by
    match us, hul with
    | [u0], _ => exact ⟨u0, rfl⟩
  obtain ⟨z0, rfl⟩ : ∃ z : Int, u0 = .int .i64 z := hut 0 1 u0 rfl rfl
  have hsz : (sets ((w.drewN q).alloc (.cells #[.iface 187 (.pointer (some ⟨rb, 2, none⟩))] 20)) [(rb, 2)] [.int .i64 z0]).heap.size = ((w.drewN q).alloc (.cells #[.iface 187 (.pointer (some ⟨rb, 2, none⟩))] 20)).heap.size := by simp [sets, World.setCell]
  have hub2 : Below (sets ((w.drewN q).alloc (.cells #[.iface 187 (.pointer (some ⟨rb, 2, none⟩))] 20)) [(rb, 2)] [.int .i64 z0]).heap.size (sets ((w.drewN q).alloc (.cells #[.iface 187 (.pointer (some ⟨rb, 2, none⟩))] 20)) [(rb, 2)] [.int .i64 z0]) w2 := by rw [hsz]; exact hub
  have b1 : Below w0.heap.size w0 (sets ((w.drewN q).alloc (.cells #[.iface 187 (.pointer (some ⟨rb, 2, none⟩))] 20)) [(rb, 2)] [.int .i64 z0]) := (hb0.trans (hbB.mono hb0.size)).trans (sets_below _ _ _ _ (fun t ht => by simp at ht; first | (subst ht; exact h.lo) | (rcases ht with rfl | rfl <;> exact h.lo)))
  refine ⟨rfl, b1.trans (hub2.mono b1.size), z0, fun h0 => (fun s hs => by have := huv h0 0 1 s _ rfl hs rfl; unfold valOf at this; rw [if_neg (by decide)] at this; exact (Value.int.inj this).2), h.lo, h.nil, row_below hub2 ?_⟩
  simp only [sets, World.setCell, Array.getElem?_modify, hrow]
  simp [rdRow]
set_option maxHeartbeats 1000000 in
theorem fill_k2 (A : Nat → Addr) (w0 w : World) (rb : Nat) (c : CfgD) (last : Int) (sa : Option Addr) (ws : List ByteArray) (wb wo wc : Nat) (hs : Sen6 A w0) (hb0 : Below w0.heap.size w0 w) (h : RdN w0.heap.size rb w c last) (hW : WordsAt w sa ws wb wo) (q : Nat) :
    Calls Tryz.prog 127 #[.pointer (some ⟨rb, 0, none⟩), .slice sa ws.length wc, .slice (some ⟨w.heap.size, 0, none⟩) 1 1] ((w.drewN q).alloc (.cells #[.iface 187 (.pointer (some ⟨rb, 3, none⟩))] 20)) fun v w2 => v = .returned (errV A (fillV (lookL []) false [1] (ws.map bl)).1) ∧ Below w0.heap.size w0 w2 ∧ ∃ z0 : Int, ((fillV (lookL []) false [1] (ws.map bl)).1 = 0 → (∀ s, ws[0]? = some s → z0 = (wordV (lookL []) 1 (bl s)).2)) ∧ RdN w0.heap.size rb w2 ⟨c.closed, c.opn, c.cycle, z0, c.ents⟩ last := by
  have hbB : Below w.heap.size w ((w.drewN q).alloc (.cells #[.iface 187 (.pointer (some ⟨rb, 3, none⟩))] 20)) := (below_drewN (Below.refl _ _) q).alloc (Nat.le_refl _) _
  have hrow := row_below hbB h.row
  have hrb := lt_of_row h.row
  have hlt := hW.lt
  have hne : rb ≠ wb := fun e2 => by
    obtain ⟨cc, fr, hh⟩ := hW.blk
    have h1 := h.row
    rw [e2, hh] at h1
    simp only [Option.some.injEq, Obj.cells.injEq] at h1
    exact absurd h1.2.1 (by decide)
  have hFI : FillIn w0 rb [] [1] [(rb, 3)] ws wb wo w.heap.size ((w.drewN q).alloc (.cells #[.iface 187 (.pointer (some ⟨rb, 3, none⟩))] 20)) := by
    refine ⟨hb0.trans (hbB.mono hb0.size), rfl, by simp, by simp, ?_, ?_, by simp, ?_, fun i s hi => cell_below hbB (hW.wrd i s hi), hW.sz, fun h2 => by simp at h2⟩
    · intro i f t hf ht
      match i, hf, ht with
      | 0, hf, ht =>
        simp at hf ht
        subst hf ht
        exact ⟨⟨.int .i64 c.delay, by simp [World.cell?, hrow, rdRow], ⟨_, rfl⟩⟩, by simp [World.frozen?, hrow]⟩
      | i + 1, hf, _ => simp at hf
    · intro t ht
      simp only [List.mem_cons, List.not_mem_nil, or_false] at ht
      subst ht
      exact ⟨h.lo, fun e2 => by simp at e2, by simp only []; omega, hne⟩
    · intro i f t hf ht
      match i, hf, ht with
      | 0, hf, ht =>
        simp at hf ht
        subst hf ht
        show World.cell? (World.alloc (w.drewN q) _) ⟨(w.drewN q).heap.size, _, none⟩ = _
        rw [World.cell?_alloc_at _ _ _ _ rfl]
        rfl
      | i + 1, hf, _ => simp at hf
  refine (fillR_at A w0 _ rb [] [1] [(rb, 3)] ws sa wb wo wc w.heap.size hs hFI hW.sa hW.few).mono ?_
  rintro v w2 ⟨rfl, us, hul, hut, huv, hub⟩
  obtain ⟨u0, rfl⟩ : ∃ u0, us = [u0] := by
    match us, hul with
    | [u0], _ => exact ⟨u0, rfl⟩
  obtain ⟨z0, rfl⟩ : ∃ z : Int, u0 = .int .i64 z := hut 0 1 u0 rfl rfl
  have hsz : (sets ((w.drewN q).alloc (.cells #[.iface 187 (.pointer (some ⟨rb, 3, none⟩))] 20)) [(rb, 3)] [.int .i64 z0]).heap.size = ((w.drewN q).alloc (.cells #[.iface 187 (.pointer (some ⟨rb, 3, none⟩))] 20)).heap.size := by simp [sets, World.setCell]
  have hub2 : Below (sets ((w.drewN q).alloc (.cells #[.iface 187 (.pointer (some ⟨rb, 3, none⟩))] 20)) [(rb, 3)] [.int .i64 z0]).heap.size (sets ((w.drewN q).alloc (.cells #[.iface 187 (.pointer (some ⟨rb, 3, none⟩))] 20)) [(rb, 3)] [.int .i64 z0]) w2 := by rw [hsz]; exact hub
  have b1 : Below w0.heap.size w0 (sets ((w.drewN q).alloc (.cells #[.iface 187 (.pointer (some ⟨rb, 3, none⟩))] 20)) [(rb, 3)] [.int .i64 z0]) := (hb0.trans (hbB.mono hb0.size)).trans (sets_below _ _ _ _ (fun t ht => by simp at ht; first | (subst ht; exact h.lo) | (rcases ht with rfl | rfl <;> exact h.lo)))
  refine ⟨rfl, b1.trans (hub2.mono b1.size), z0, fun h0 => (fun s hs => by have := huv h0 0 1 s _ rfl hs rfl; unfold valOf at this; rw [if_neg (by decide)] at this; exact (Value.int.inj this).2), h.lo, h.nil, row_below hub2 ?_⟩
  simp only [sets, World.setCell, Array.getElem?_modify, hrow]
  simp [rdRow]
set_option maxHeartbeats 2000000 in
set_option maxRecDepth 100000 in
theorem take_k0 (A : Nat → Addr) (w0 w : World) (rb : Nat) (c : CfgD) (last : Int) (sa : Option Addr) (ws : List ByteArray) (wb wo wc : Nat) (hs : Sen6 A w0) (hb0 : Below w0.heap.size w0 w) (h : RdN w0.heap.size rb w c last) (hW : WordsAt w sa ws wb wo) :
    Calls Tryz.prog 109 #[.pointer (some ⟨rb, 0, none⟩), .int .i64 0, .slice sa ws.length wc] w fun v w' => v = .returned (errV A (fillV (lookL (lastPts c.ents)) false (form 0) (ws.map bl)).1) ∧ Below w0.heap.size w0 w' ∧ ((fillV (lookL (lastPts c.ents)) false (form 0) (ws.map bl)).1 = 0 → RdS w0.heap.size rb w' (updC c 0 (ws.map bl) (fillV (lookL (lastPts c.ents)) false (form 0) (ws.map bl)).2) last) := by
  have HP : Hid (∀ (zs : List Int), zs = (fillV (lookL []) false [1, 1] (ws.map bl)).2 → (fillV (lookL (lastPts c.ents)) false (form 0) (ws.map bl)).2 = zs) := fun zs hz => by rw [hz, h.nil]; rfl
  have HF : Hid ((fillV (lookL (lastPts c.ents)) false (form 0) (ws.map bl)).1 = (fillV (lookL []) false [1, 1] (ws.map bl)).1) := by show _ = _; rw [h.nil]; rfl
  have H : Hid _ := fill_k0 A w0 w rb c last sa ws wb wo wc hs hb0 h hW
  clear h hW hs hb0
  go_enter Tryz.func109, Tryz.ntmps109
  go_upto_region 3 with fail
  go_region_held3 (fun _ => True) (exact trivial) (first | (go_at_call 127; refine Calls.mono (H.out _) ?_; rintro v w2 ⟨rfl, hb2, z0, z1, hv, hr⟩))
  all_goals
    have HV : Hid _ := hv
    have HB2 : Hid (Below w0.heap.size w0 w2) := hb2
    have HR2 : Hid (RdN w0.heap.size rb w2 ⟨z0, z1, c.cycle, c.delay, c.ents⟩ last) := hr
    clear hv hb2 hr
    go_wp2
    go_ret
    refine ⟨by rw [HF.out]; rfl, HB2.out, fun h0 => Or.inl ?_⟩
    rw [HF.out] at h0
    obtain ⟨hl, -, hd⟩ := fillR_vals _ _ h0
    obtain ⟨s0, q0⟩ := word_get (i := 0) (by simpa using hl) (by decide)
    obtain ⟨s1, q1⟩ := word_get (i := 1) (by simpa using hl) (by decide)
    show RdN _ _ _ (CfgD.mk _ _ _ _ _) _
    rw [HP.out _ rfl, getD_of (hd 0 1 (bl s0) rfl (by rw [List.getElem?_map, q0]; rfl)), getD_of (hd 1 1 (bl s1) rfl (by rw [List.getElem?_map, q1]; rfl)), ← (HV.out h0).1 s0 q0, ← (HV.out h0).2 s1 q1]
    exact HR2.out
set_option maxHeartbeats 2000000 in
set_option maxRecDepth 100000 in
theorem take_k1 (A : Nat → Addr) (w0 w : World) (rb : Nat) (c : CfgD) (last : Int) (sa : Option Addr) (ws : List ByteArray) (wb wo wc : Nat) (hs : Sen6 A w0) (hb0 : Below w0.heap.size w0 w) (h : RdN w0.heap.size rb w c last) (hW : WordsAt w sa ws wb wo) :
    Calls Tryz.prog 109 #[.pointer (some ⟨rb, 0, none⟩), .int .i64 1, .slice sa ws.length wc] w fun v w' => v = .returned (errV A (fillV (lookL (lastPts c.ents)) false (form 1) (ws.map bl)).1) ∧ Below w0.heap.size w0 w' ∧ ((fillV (lookL (lastPts c.ents)) false (form 1) (ws.map bl)).1 = 0 → RdS w0.heap.size rb w' (updC c 1 (ws.map bl) (fillV (lookL (lastPts c.ents)) false (form 1) (ws.map bl)).2) last) := by
  have HP : Hid (∀ (zs : List Int), zs = (fillV (lookL []) false [1] (ws.map bl)).2 → (fillV (lookL (lastPts c.ents)) false (form 1) (ws.map bl)).2 = zs) := fun zs hz => by rw [hz, h.nil]; rfl
  have HF : Hid ((fillV (lookL (lastPts c.ents)) false (form 1) (ws.map bl)).1 = (fillV (lookL []) false [1] (ws.map bl)).1) := by show _ = _; rw [h.nil]; rfl
  have H : Hid _ := fill_k1 A w0 w rb c last sa ws wb wo wc hs hb0 h hW
  clear h hW hs hb0
  go_enter Tryz.func109, Tryz.ntmps109
  go_wp2_with fail
  refine Calls.mono (H.out 0) ?_
  rintro v w2 ⟨rfl, hb2, z0, hv, hr⟩
  have HV : Hid _ := hv
  have HB2 : Hid (Below w0.heap.size w0 w2) := hb2
  have HR2 : Hid (RdN w0.heap.size rb w2 ⟨c.closed, c.opn, z0, c.delay, c.ents⟩ last) := hr
  clear hv hb2 hr
  go_wp2
  go_ret
  refine ⟨by rw [HF.out]; rfl, HB2.out, fun h0 => Or.inl ?_⟩
  rw [HF.out] at h0
  obtain ⟨hl, -, hd⟩ := fillR_vals _ _ h0
  obtain ⟨s0, q0⟩ := word_get (i := 0) (by simpa using hl) (by decide)
  show RdN _ _ _ (CfgD.mk _ _ _ _ _) _
  rw [HP.out _ rfl, getD_of (hd 0 1 (bl s0) rfl (by rw [List.getElem?_map, q0]; rfl)), ← HV.out h0 s0 q0]
  exact HR2.out
set_option maxHeartbeats 2000000 in
set_option maxRecDepth 100000 in
theorem take_k2 (A : Nat → Addr) (w0 w : World) (rb : Nat) (c : CfgD) (last : Int) (sa : Option Addr) (ws : List ByteArray) (wb wo wc : Nat) (hs : Sen6 A w0) (hb0 : Below w0.heap.size w0 w) (h : RdN w0.heap.size rb w c last) (hW : WordsAt w sa ws wb wo) :
    Calls Tryz.prog 109 #[.pointer (some ⟨rb, 0, none⟩), .int .i64 2, .slice sa ws.length wc] w fun v w' => v = .returned (errV A (fillV (lookL (lastPts c.ents)) false (form 2) (ws.map bl)).1) ∧ Below w0.heap.size w0 w' ∧ ((fillV (lookL (lastPts c.ents)) false (form 2) (ws.map bl)).1 = 0 → RdS w0.heap.size rb w' (updC c 2 (ws.map bl) (fillV (lookL (lastPts c.ents)) false (form 2) (ws.map bl)).2) last) := by
  have HP : Hid (∀ (zs : List Int), zs = (fillV (lookL []) false [1] (ws.map bl)).2 → (fillV (lookL (lastPts c.ents)) false (form 2) (ws.map bl)).2 = zs) := fun zs hz => by rw [hz, h.nil]; rfl
  have HF : Hid ((fillV (lookL (lastPts c.ents)) false (form 2) (ws.map bl)).1 = (fillV (lookL []) false [1] (ws.map bl)).1) := by show _ = _; rw [h.nil]; rfl
  have H : Hid _ := fill_k2 A w0 w rb c last sa ws wb wo wc hs hb0 h hW
  clear h hW hs hb0
  go_enter Tryz.func109, Tryz.ntmps109
  go_wp2_with fail
  refine Calls.mono (H.out 0) ?_
  rintro v w2 ⟨rfl, hb2, z0, hv, hr⟩
  have HV : Hid _ := hv
  have HB2 : Hid (Below w0.heap.size w0 w2) := hb2
  have HR2 : Hid (RdN w0.heap.size rb w2 ⟨c.closed, c.opn, c.cycle, z0, c.ents⟩ last) := hr
  clear hv hb2 hr
  go_wp2
  go_ret
  refine ⟨by rw [HF.out]; rfl, HB2.out, fun h0 => Or.inl ?_⟩
  rw [HF.out] at h0
  obtain ⟨hl, -, hd⟩ := fillR_vals _ _ h0
  obtain ⟨s0, q0⟩ := word_get (i := 0) (by simpa using hl) (by decide)
  show RdN _ _ _ (CfgD.mk _ _ _ _ _) _
  rw [HP.out _ rfl, getD_of (hd 0 1 (bl s0) rfl (by rw [List.getElem?_map, q0]; rfl)), ← HV.out h0 s0 q0]
  exact HR2.out
set_option maxHeartbeats 2000000 in
set_option maxRecDepth 100000 in
theorem take_k3 (A : Nat → Addr) (w0 w : World) (rb : Nat) (c : CfgD) (last : Int) (sa : Option Addr) (ws : List ByteArray) (wb wo wc : Nat) (hs : Sen6 A w0) (hb0 : Below w0.heap.size w0 w) (h : RdS w0.heap.size rb w c last) (hW : WordsAt w sa ws wb wo) (hn : c.ents.length ≤ 1000000) :
    Calls Tryz.prog 109 #[.pointer (some ⟨rb, 0, none⟩), .int .i64 3, .slice sa ws.length wc] w fun v w' => v = .returned (errV A (fillV (lookL (lastPts c.ents)) false (form 3) (ws.map bl)).1) ∧ Below w0.heap.size w0 w' ∧ ((fillV (lookL (lastPts c.ents)) false (form 3) (ws.map bl)).1 = 0 → RdS w0.heap.size rb w' (updC c 3 (ws.map bl) (fillV (lookL (lastPts c.ents)) false (form 3) (ws.map bl)).2) last) := by
  have HF : Hid (fillV (lookL (lastPts c.ents)) false (form 3) (ws.map bl) = fillV (lookL []) false [0, 1] (ws.map bl)) := fillV_any _ _ _ (by simp [form])
  obtain ⟨ev, mv, cells, hA⟩ : ∃ ev mv cells, RdA w0.heap.size rb w c last ev mv c.ents cells := by
    rcases h with h | ⟨L, g, cap, mb, es, e, x, cells, he, h, hL⟩
    · have h2 := h.toA
      rw [← h.nil] at h2
      exact ⟨_, _, _, h2⟩
    · have h2 := h.toA hL
      rw [← he] at h2
      exact ⟨_, _, _, h2⟩
  have H : Hid _ := entityR_at A w0 w rb c last ev mv c.ents cells sa ws wb wo wc hs hb0 hA hW hn
  clear h hA hW hs hb0
  go_enter Tryz.func109, Tryz.ntmps109
  go_wp2_with fail
  refine Calls.mono H.out ?_
  rintro v w2 ⟨rfl, hb2, nm, z, L, g, cap, mb, hv, hr, hL⟩
  have HV : Hid _ := hv
  have HB2 : Hid (Below w0.heap.size w0 w2) := hb2
  have HR2 : Hid (RdE w0.heap.size rb L g cap mb w2 c last c.ents (newR nm z) nilX cells ∧ L ≤ w2.heap.size) := ⟨hr, hL⟩
  clear hv hb2 hr hL
  go_wp2
  go_ret
  refine ⟨by rw [HF.out]; rfl, HB2.out, fun h0 => Or.inr ⟨L, g, cap, mb, c.ents, newR nm z, nilX, cells, ?_, ?_, HR2.out.2⟩⟩
  · rw [HF.out] at h0 ⊢
    obtain ⟨hl, -, hd⟩ := fillR_vals _ _ h0
    obtain ⟨s0, q0⟩ := word_get (i := 0) (by simpa using hl) (by decide)
    obtain ⟨s1, q1⟩ := word_get (i := 1) (by simpa using hl) (by decide)
    obtain ⟨v0, v1⟩ := HV.out h0
    have e1 : (ws.map bl).getD 0 [] = bl s0 := by rw [List.getD_eq_getElem?_getD, List.getElem?_map, q0]; rfl
    show c.ents ++ [newEnt _ _] = _
    rw [getD_of (hd 1 1 (bl s1) rfl (by rw [List.getElem?_map, q1]; rfl)), e1, ← v1 s1 q1, v0 s0 q0]
    unfold newEnt newR
    rw [show (⟨(bl s0).toArray⟩ : ByteArray) = s0 from bl_inj (bl_mk _)]
  · exact ⟨⟨HR2.out.1.lo, HR2.out.1.loL, HR2.out.1.lom, HR2.out.1.row, HR2.out.1.ents, HR2.out.1.clen, HR2.out.1.olds, HR2.out.1.new, HR2.out.1.fl⟩, HR2.out.1.map⟩
set_option maxHeartbeats 4000000 in
set_option maxRecDepth 100000 in
theorem take_part (k : Nat) (A : Nat → Addr) (w0 w : World) (rb : Nat) (c : CfgD) (last : Int) (sa : Option Addr) (ws : List ByteArray) (wb wo wc : Nat) (hs : Sen6 A w0) (hb0 : Below w0.heap.size w0 w) (hk : 4 ≤ k) (hk2 : k < 10) (L g cap mb : Nat) (es : List EntD) (e : EntD) (x : PV5) (cells : List Value) (he : c.ents = es ++ [e]) (h : RdE w0.heap.size rb L g cap mb w c last es e x cells) (hL : L ≤ w.heap.size) (hW : WordsAt w sa ws wb wo) (hn : es.length ≤ 1000000) (hsz : SzE 1000000 e) :
    Calls Tryz.prog 109 #[.pointer (some ⟨rb, 0, none⟩), .int .i64 (k : Int), .slice sa ws.length wc] w fun v w' => v = .returned (errV A (fillV (lookL (lastPts c.ents)) false (form k) (ws.map bl)).1) ∧ Below w0.heap.size w0 w' ∧ ((fillV (lookL (lastPts c.ents)) false (form k) (ws.map bl)).1 = 0 → RdS w0.heap.size rb w' (updC c k (ws.map bl) (fillV (lookL (lastPts c.ents)) false (form k) (ws.map bl)).2) last) := by
  have HE : Hid (c.ents = es ++ [e]) := he
  have HK : Hid (4 ≤ k) := hk
  have HF : Hid (lastPts c.ents = e.pts) := by show _ = _; rw [he, lastPts_snocR]
  have H : Hid (∀ q, Calls Tryz.prog 129 #[.pointer (some ⟨rb, 0, none⟩), .pointer (some ⟨g, es.length * 10, none⟩), .int .i64 (k : Int), .slice sa ws.length wc] (w.drewN q) _) := fun q => part_any A w0 (w.drewN q) rb L g cap mb k c last es e x cells sa ws wb wo wc hs (below_drewN hb0 q) (h.below (below_drewN (Below.refl _ _) q)) hL (hW.below (below_drewN (Below.refl _ _) q)) hsz hk hk2
  have c4 : w.cell? ⟨rb, 4, none⟩ = some (.slice (some ⟨g, 0, none⟩) (es.length + 1) cap) := by have := h.row; simp [World.cell?, this, rdRow]
  obtain ⟨m, hm⟩ : ∃ m, m = es.length := ⟨_, rfl⟩
  have HM : Hid (es.length = m) := hm.symm
  rw [← hm] at c4 hn
  have q0 : (0 : Int) ≤ (m : Int) := by omega
  have q1 : (m : Int) < (m : Int) + 1 := by omega
  have q2 : IntKind.i64.wrap ((m : Int) + 1 - 1) = m := by rw [IntKind.wrap_i64]; omega
  have q3 : IntKind.i64.wrap (m : Int) = m := by rw [IntKind.wrap_i64]; omega
  have q5 : ¬ (m : Int) < 0 := by omega
  rw [← hm] at H
  clear hm
  have k0 : ¬ (k : Int) = 0 := by omega
  have k1 : ¬ (k : Int) = 1 := by omega
  have k2 : ¬ (k : Int) = 2 := by omega
  have k3 : ¬ (k : Int) = 3 := by omega
  clear h hW hs hb0 he hL hsz hk hk2
  go_enter Tryz.func109, Tryz.ntmps109
  go_upto_region 10 with fail
  go_region_held3 (fun w' => w'.cell? ⟨rb, 4, none⟩ = some (.slice (some ⟨g, 0, none⟩) (m + 1) cap)) (first | exact c4 | exact hc4) (first | (go_at_call 129; refine Calls.mono (H.out _) ?_; rintro v w2 ⟨rfl, hb2, hc4, hr⟩))
  all_goals
    have HB2 : Hid (Below w0.heap.size w0 w2) := hb2
    have HR2 : Hid _ := hr
    clear hb2 hr H c4
    go_wp2
    go_ret
    refine ⟨by rw [HF.out]; rfl, HB2.out, fun h0 => ?_⟩
    rw [HF.out] at h0 ⊢
    obtain ⟨x', h1, h2⟩ := HR2.out h0
    have hu : updC c k (ws.map bl) (fillV (lookL e.pts) false (form k) (ws.map bl)).2 = ⟨c.closed, c.opn, c.cycle, c.delay, es ++ [updE k (ws.map bl) (fillV (lookL e.pts) false (form k) (ws.map bl)).2 e]⟩ := by
      rw [← updLast_snoc, ← HE.out]
      match k, HK.out with
      | k + 4, _ => rfl
    rw [hu]
    exact Or.inr ⟨L, g, cap, mb, es, _, x', cells, rfl, ⟨⟨h1.lo, h1.loL, h1.lom, h1.row, h1.ents, h1.clen, h1.olds, h1.new, h1.fl⟩, h1.map⟩, h2⟩
end Go.Proofs.YtbholbenjalliaaGreatDoor
