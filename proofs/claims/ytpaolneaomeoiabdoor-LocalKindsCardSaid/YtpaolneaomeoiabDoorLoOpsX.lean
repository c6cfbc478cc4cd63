/-
  (*local.Local).Begin, Stop, Report, Status, Run by contracts. Conditions: the entity lies in memory ('LoAt'), its lists are not too long.
-/
import Derived.Test.YtpaolneaomeoiabDoorLoNewX
namespace Go.Proofs.YtpaolneaomeoiabDoor
open Go.RowKit Go.Extern.Stop Go.Stop Go.Extern

section
variable {F F' : Nat → Prop} {w w' w'' : World} {b ba bg bf : Nat} {e : EntD} {E : EA} {s : Option NSt} {n : NSt}
theorem Tryd.sizeLocal : (Tryd.prog.info? 78).map (·.size) = some 17 := by kernel_rfl
set_option maxHeartbeats 4000000 in
set_option maxRecDepth 100000 in
theorem lo_begin (h : LoAt F w b e E none) (hS : SmallE e) (hW : WfE e.edges) :
    Calls Tryd.prog 19 #[.pointer (some ⟨b, 0, none⟩)] w fun v w' => v = .returned .nilIface ∧ LoAt (fun k => F k ∨ w.heap.size ≤ k) w' b e E (some (NSt.new e)) ∧ FrL F w w' := by
  have H : Hid (LoAt F w b e E none) := h
  have HS : Hid (SmallE e) := hS
  have HW : Hid (WfE e.edges) := hW
  have hr : w.heap[b]? = some (.cells (loRow (.pointer none) (.pointer none) (.pointer none) e E false false 0 false) 78 (0, 0)) := h.row
  have HR : Hid (w.heap[b]? = some (.cells (loRow (.pointer none) (.pointer none) (.pointer none) e E false false 0 false) 78 (0, 0))) := hr
  have c13 : w.cell? ⟨b, 13, none⟩ = some (.bool false) := by simp [World.cell?, hr, loRow]
  have c3 : w.cell? ⟨b, 3, none⟩ = some (.string e.name) := by simp [World.cell?, hr, loRow]
  have c4 : w.cell? ⟨b, 4, none⟩ = some (.int .i64 e.tol) := by simp [World.cell?, hr, loRow]
  have c5 : w.cell? ⟨b, 5, none⟩ = some (.slice E.pa e.pts.length E.pc) := by simp [World.cell?, hr, loRow]
  have c6 : w.cell? ⟨b, 6, none⟩ = some (.int .i64 e.cnt) := by simp [World.cell?, hr, loRow]
  have c7 : w.cell? ⟨b, 7, none⟩ = some (.int .i64 e.mn) := by simp [World.cell?, hr, loRow]
  have c8 : w.cell? ⟨b, 8, none⟩ = some (.int .i64 e.mx) := by simp [World.cell?, hr, loRow]
  have c9 : w.cell? ⟨b, 9, none⟩ = some (.slice E.ga e.gaps.length E.gc) := by simp [World.cell?, hr, loRow]
  have c10 : w.cell? ⟨b, 10, none⟩ = some (.slice E.ea e.edges.length E.ec) := by simp [World.cell?, hr, loRow]
  have c11 : w.cell? ⟨b, 11, none⟩ = some (.slice E.fa e.first.length E.fc) := by simp [World.cell?, hr, loRow]
  have c12 : w.cell? ⟨b, 12, none⟩ = some (.slice E.la e.last.length E.lc) := by simp [World.cell?, hr, loRow]
  clear h hS hW hr
  go_enter Tryd.func19, Tryd.ntmps19
  go_wp2_with fail
  refine (newWatch_at _ e E H.out.parts.parts HS.out HW.out).mono ?_
  rintro v W ⟨⟨ba, bg, bf, rfl, hwat⟩, hb⟩
  have hr1 : W.heap[b]? = some (.cells (loRow (.pointer none) (.pointer none) (.pointer none) e E false false 0 false) 78 (0, 0)) := row_below hb HR.out
  have HR1 : Hid (W.heap[b]? = some (.cells (loRow (.pointer none) (.pointer none) (.pointer none) e E false false 0 false) 78 (0, 0))) := hr1
  have HB1 : Hid (Below w.heap.size w W) := hb
  have HWat : Hid (WatAt (fun k => w.heap.size ≤ k) W ba bg bf e (WSt.new e)) := hwat
  have d0 : W.cell? ⟨b, 0, none⟩ = some (.pointer none) := by simp [World.cell?, hr1, loRow]
  have d1 : W.cell? ⟨b, 1, none⟩ = some (.pointer none) := by simp [World.cell?, hr1, loRow]
  have d2 : W.cell? ⟨b, 2, none⟩ = some (.pointer none) := by simp [World.cell?, hr1, loRow]
  have d13 : W.cell? ⟨b, 13, none⟩ = some (.bool false) := by simp [World.cell?, hr1, loRow]
  have q : ∀ i, W.frozen? ⟨b, i, none⟩ = false := fun i => by simp [World.frozen?, hr1]
  clear c3 c4 c5 c6 c7 c8 c9 c10 c11 c12 c13 hwat hb hr1
  go_wp2
  go_ret
  have hg : W.grownBy ((((W.setCell ⟨b, 0, none⟩ (.pointer (some ⟨ba, 0, none⟩))).setCell ⟨b, 1, none⟩ (.pointer (some ⟨bg, 0, none⟩))).setCell ⟨b, 2, none⟩ (.pointer (some ⟨bf, 0, none⟩))).setCell ⟨b, 13, none⟩ (.bool true)) (some b) := (((grown_setCell _ _ _ _).trans (grown_setCell _ _ _ _)).trans (grown_setCell _ _ _ _)).trans (grown_setCell _ _ _ _)
  have hrow : ((((W.setCell ⟨b, 0, none⟩ (.pointer (some ⟨ba, 0, none⟩))).setCell ⟨b, 1, none⟩ (.pointer (some ⟨bg, 0, none⟩))).setCell ⟨b, 2, none⟩ (.pointer (some ⟨bf, 0, none⟩))).setCell ⟨b, 13, none⟩ (.bool true)).heap[b]? = some (.cells (loRow (.pointer (some ⟨ba, 0, none⟩)) (.pointer (some ⟨bg, 0, none⟩)) (.pointer (some ⟨bf, 0, none⟩)) e E true false 0 false) 78 (0, 0)) := by
    have := HR1.out
    simp [World.setCell, Array.getElem?_modify, this, loRow]
  have hf1 : FrL F w W := FrL.below HB1.out
  have hf2 : FrL F W ((((W.setCell ⟨b, 0, none⟩ (.pointer (some ⟨ba, 0, none⟩))).setCell ⟨b, 1, none⟩ (.pointer (some ⟨bg, 0, none⟩))).setCell ⟨b, 2, none⟩ (.pointer (some ⟨bf, 0, none⟩))).setCell ⟨b, 13, none⟩ (.bool true)) := FrL.put hg HR1.out (Or.inl rfl) H.out.fb
  have hff := hf1.trans hf2 (fun _ _ x => x)
  refine ⟨rfl, ⟨(H.out.parts.fr hff).mono (fun _ _ x => Or.inl x), Or.inl H.out.fb, ba, bg, bf, hrow, ?_⟩, hff⟩
  refine WatAt.mono (F := fun k => w.heap.size ≤ k) (HWat.out.same (fun k hk => ?_)) (fun _ _ x => Or.inr x)
  have hbl := lt_of_row HR.out
  have hk' : w.heap.size ≤ k := hk
  have hne : some k ≠ some b := fun e1 => by rw [Option.some.inj e1] at hk'; omega
  rcases Nat.lt_or_ge k W.heap.size with h1 | h1
  · exact hg.block k h1 hne
  · rw [Array.getElem?_eq_none h1, Array.getElem?_eq_none (by simpa [World.setCell] using h1)]
set_option maxHeartbeats 1000000 in
theorem lo_held (x : Value) (h : LoAt F w b e E (some n)) (hx : w.cell? ⟨1, 0, none⟩ = some x) :
    Calls Tryd.prog 19 #[.pointer (some ⟨b, 0, none⟩)] w fun v w' => v = .returned x ∧ w' = w := by
  obtain ⟨ba, bg, bf, hr, -⟩ := h.row
  have c13 : w.cell? ⟨b, 13, none⟩ = some (.bool true) := by simp [World.cell?, hr, loRow]
  clear h hr
  go_enter Tryd.func19, Tryd.ntmps19
  go_wp2
  go_ret
  exact ⟨rfl, rfl⟩
set_option maxHeartbeats 1000000 in
theorem lo_stop_idle (x : Value) (h : LoAt F w b e E none) (hx : w.cell? ⟨2, 0, none⟩ = some x) :
    Calls Tryd.prog 25 #[.pointer (some ⟨b, 0, none⟩)] w fun v w' => v = .returned x ∧ w' = w := by
  have hr : w.heap[b]? = some (.cells (loRow (.pointer none) (.pointer none) (.pointer none) e E false false 0 false) 78 (0, 0)) := h.row
  have c13 : w.cell? ⟨b, 13, none⟩ = some (.bool false) := by simp [World.cell?, hr, loRow]
  clear h hr
  go_enter Tryd.func25, Tryd.ntmps25
  go_wp2
  go_ret
  exact ⟨rfl, rfl⟩
set_option maxHeartbeats 4000000 in
set_option maxRecDepth 100000 in
theorem lo_stop (h : LoAt F w b e E (some n)) :
    Calls Tryd.prog 25 #[.pointer (some ⟨b, 0, none⟩)] w fun v w' => v = .returned .nilIface ∧ LoAt F w' b e E none ∧ FrL F w w' := by
  have H : Hid (LoAt F w b e E (some n)) := h
  obtain ⟨ba, bg, bf, hr, -⟩ := h.row
  have HR : Hid (w.heap[b]? = some (.cells (loRow (.pointer (some ⟨ba, 0, none⟩)) (.pointer (some ⟨bg, 0, none⟩)) (.pointer (some ⟨bf, 0, none⟩)) e E true n.whole (n.run : Int) n.ex) 78 (0, 0))) := hr
  have c13 : w.cell? ⟨b, 13, none⟩ = some (.bool true) := by simp [World.cell?, hr, loRow]
  have c3 : w.cell? ⟨b, 3, none⟩ = some (.string e.name) := by simp [World.cell?, hr, loRow]
  have c4 : w.cell? ⟨b, 4, none⟩ = some (.int .i64 e.tol) := by simp [World.cell?, hr, loRow]
  have c5 : w.cell? ⟨b, 5, none⟩ = some (.slice E.pa e.pts.length E.pc) := by simp [World.cell?, hr, loRow]
  have c6 : w.cell? ⟨b, 6, none⟩ = some (.int .i64 e.cnt) := by simp [World.cell?, hr, loRow]
  have c7 : w.cell? ⟨b, 7, none⟩ = some (.int .i64 e.mn) := by simp [World.cell?, hr, loRow]
  have c8 : w.cell? ⟨b, 8, none⟩ = some (.int .i64 e.mx) := by simp [World.cell?, hr, loRow]
  have c9 : w.cell? ⟨b, 9, none⟩ = some (.slice E.ga e.gaps.length E.gc) := by simp [World.cell?, hr, loRow]
  have c10 : w.cell? ⟨b, 10, none⟩ = some (.slice E.ea e.edges.length E.ec) := by simp [World.cell?, hr, loRow]
  have c11 : w.cell? ⟨b, 11, none⟩ = some (.slice E.fa e.first.length E.fc) := by simp [World.cell?, hr, loRow]
  have c12 : w.cell? ⟨b, 12, none⟩ = some (.slice E.la e.last.length E.lc) := by simp [World.cell?, hr, loRow]
  clear h hr
  go_enter Tryd.func25, Tryd.ntmps25
  go_wp2_with (refine wpList_store_row rfl 78 _ _ rfl b (loRow (.pointer none) (.pointer none) (.pointer none) e E false false 0 false) rfl rfl 78 (loRow (.pointer (some ⟨ba, 0, none⟩)) (.pointer (some ⟨bg, 0, none⟩)) (.pointer (some ⟨bf, 0, none⟩)) e E true n.whole (n.run : Int) n.ex) HR.out Tryd.sizeLocal rfl (by simp [Value.oneCell', loRow]) ?_)
  go_ret
  have hg : w.grownBy (w.setRow b (loRow (.pointer none) (.pointer none) (.pointer none) e E false false 0 false)) (some b) := grown_setRow _ _ _
  have hf : FrL F w (w.setRow b (loRow (.pointer none) (.pointer none) (.pointer none) e E false false 0 false)) := FrL.put hg HR.out (Or.inl rfl) H.out.fb
  exact ⟨rfl, ⟨H.out.parts.fr hf, H.out.fb, heap_setRow _ HR.out⟩, hf⟩
set_option maxHeartbeats 1000000 in
theorem lo_report_idle (x : Value) (p t : Int) (h : LoAt F w b e E none) (hx : w.cell? ⟨2, 0, none⟩ = some x) :
    Calls Tryd.prog 23 #[.pointer (some ⟨b, 0, none⟩), .int .i64 p, .int .i64 t] w fun v w' => v = .returned x ∧ w' = w := by
  have hr : w.heap[b]? = some (.cells (loRow (.pointer none) (.pointer none) (.pointer none) e E false false 0 false) 78 (0, 0)) := h.row
  have c13 : w.cell? ⟨b, 13, none⟩ = some (.bool false) := by simp [World.cell?, hr, loRow]
  clear h hr
  go_enter Tryd.func23, Tryd.ntmps23
  go_wp2
  go_ret
  exact ⟨rfl, rfl⟩
set_option maxHeartbeats 1000000 in
theorem lo_report_none (x : Value) (p t : Int) (h : LoAt F w b e E (some n)) (hp : hasP e p = false) (hx : w.cell? ⟨3, 0, none⟩ = some x) :
    Calls Tryd.prog 23 #[.pointer (some ⟨b, 0, none⟩), .int .i64 p, .int .i64 t] w fun v w' => v = .returned x ∧ w' = w := by
  obtain ⟨ba, bg, bf, hr, -⟩ := h.row
  have c13 : w.cell? ⟨b, 13, none⟩ = some (.bool true) := by simp [World.cell?, hr, loRow]
  have c5 : w.cell? ⟨b, 5, none⟩ = some (.slice E.pa e.pts.length E.pc) := by simp [World.cell?, hr, loRow]
  clear h hr
  by_cases g0 : p < 0
  · clear hp
    go_enter Tryd.func23, Tryd.ntmps23
    go_wp2
    go_ret
    exact ⟨rfl, rfl⟩
  · have g1 : (e.pts.length : Int) ≤ p := by unfold hasP at hp; simp at hp; omega
    clear hp
    go_enter Tryd.func23, Tryd.ntmps23
    go_wp2
    go_ret
    exact ⟨rfl, rfl⟩
set_option maxHeartbeats 2000000 in
set_option maxRecDepth 100000 in
theorem lo_report (p t : Int) (h : LoAt F w b e E (some n)) (hp : hasP e p = true) (hS : SmallE e) :
    Calls Tryd.prog 23 #[.pointer (some ⟨b, 0, none⟩), .int .i64 p, .int .i64 t] w fun v w' => v = .returned .nilIface ∧ LoAt F w' b e E (some (n.rep e p t)) ∧ FrL F w w' := by
  have H : Hid (LoAt F w b e E (some n)) := h
  have HS : Hid (SmallE e) := hS
  have HP : Hid (hasP e p = true) := hp
  obtain ⟨ba, bg, bf, hr, hw⟩ := h.row
  have HR : Hid (w.heap[b]? = some (.cells (loRow (.pointer (some ⟨ba, 0, none⟩)) (.pointer (some ⟨bg, 0, none⟩)) (.pointer (some ⟨bf, 0, none⟩)) e E true n.whole (n.run : Int) n.ex) 78 (0, 0))) := hr
  have HWt : Hid (WatAt F w ba bg bf e n.w) := hw
  have c13 : w.cell? ⟨b, 13, none⟩ = some (.bool true) := by simp [World.cell?, hr, loRow]
  have c5 : w.cell? ⟨b, 5, none⟩ = some (.slice E.pa e.pts.length E.pc) := by simp [World.cell?, hr, loRow]
  have g0 : ¬ p < 0 := by unfold hasP at hp; simp at hp; omega
  have g1 : ¬ (e.pts.length : Int) ≤ p := by unfold hasP at hp; simp at hp; omega
  clear h hr hw hp hS
  go_enter Tryd.func23, Tryd.ntmps23
  go_wp2_with fail
  refine (watch_report p t _ HWt.out HR.out rfl rfl rfl HS.out).mono ?_
  rintro v W ⟨rfl, hto⟩
  have HT : Hid (WatTo F w W b ba bg bf e (n.w.rep e p t) (loRow (.pointer (some ⟨ba, 0, none⟩)) (.pointer (some ⟨bg, 0, none⟩)) (.pointer (some ⟨bf, 0, none⟩)) e E true n.whole (n.run : Int) n.ex)) := hto
  clear hto
  go_wp2
  go_ret
  refine ⟨rfl, ⟨H.out.parts.fr HT.out.fr, H.out.fb, ?_⟩, HT.out.fr⟩
  unfold NSt.rep
  rw [if_pos HP.out]
  exact ⟨ba, bg, bf, HT.out.row, HT.out.wat⟩
/-- The words of the statuses. -/
def stWord : Nat → ByteArray
  | 0 => ⟨#[105, 100, 108, 101]⟩
  | 1 => ⟨#[111, 107]⟩
  | 2 => ⟨#[102, 97, 105, 108, 101, 100]⟩
  | _ => ⟨#[101, 120, 112, 105, 114, 101, 100]⟩
set_option maxHeartbeats 1000000 in
theorem lo_status_idle (h : LoAt F w b e E none) :
    Calls Tryd.prog 21 #[.pointer (some ⟨b, 0, none⟩)] w fun v w' => v = .returned (.string (stWord 0)) ∧ w' = w := by
  have hr : w.heap[b]? = some (.cells (loRow (.pointer none) (.pointer none) (.pointer none) e E false false 0 false) 78 (0, 0)) := h.row
  have c13 : w.cell? ⟨b, 13, none⟩ = some (.bool false) := by simp [World.cell?, hr, loRow]
  clear h hr
  go_enter Tryd.func21, Tryd.ntmps21
  go_wp2
  go_ret
  exact ⟨rfl, rfl⟩
set_option maxHeartbeats 1000000 in
theorem lo_status (h : LoAt F w b e E (some n)) :
    Calls Tryd.prog 21 #[.pointer (some ⟨b, 0, none⟩)] w fun v w' => v = .returned (.string (stWord n.status)) ∧ w' = w := by
  obtain ⟨ba, bg, bf, hr, -⟩ := h.row
  have c13 : w.cell? ⟨b, 13, none⟩ = some (.bool true) := by simp [World.cell?, hr, loRow]
  have c15 : w.cell? ⟨b, 15, none⟩ = some (.int .i64 (n.run : Int)) := by simp [World.cell?, hr, loRow]
  have c16 : w.cell? ⟨b, 16, none⟩ = some (.bool n.ex) := by simp [World.cell?, hr, loRow]
  clear h hr
  obtain ⟨nw, nwh, run, ex⟩ := n
  cases ex with
  | true =>
    go_enter Tryd.func21, Tryd.ntmps21
    go_wp2
    go_ret
    exact ⟨rfl, rfl⟩
  | false =>
    by_cases h0 : run = 0
    · subst h0
      go_enter Tryd.func21, Tryd.ntmps21
      go_wp2
      go_ret
      exact ⟨rfl, rfl⟩
    · have HR : Hid (NSt.status ⟨nw, nwh, run, false⟩ = 2) := by show _ = _; simp [NSt.status, h0]
      have h1 : ¬ ((run : Nat) : Int) = 0 := by omega
      go_enter Tryd.func21, Tryd.ntmps21
      go_wp2
      go_ret
      exact ⟨by rw [HR.out]; rfl, rfl⟩
set_option maxHeartbeats 1000000 in
theorem lo_run_idle (h : LoAt F w b e E none) :
    Calls Tryd.prog 22 #[.pointer (some ⟨b, 0, none⟩)] w fun v w' => v = .returned (.int .i64 0) ∧ w' = w := by
  have hr : w.heap[b]? = some (.cells (loRow (.pointer none) (.pointer none) (.pointer none) e E false false 0 false) 78 (0, 0)) := h.row
  have c15 : w.cell? ⟨b, 15, none⟩ = some (.int .i64 0) := by simp [World.cell?, hr, loRow]
  clear h hr
  go_enter Tryd.func22, Tryd.ntmps22
  go_wp2
  go_ret
  exact ⟨rfl, rfl⟩
set_option maxHeartbeats 1000000 in
theorem lo_run (h : LoAt F w b e E (some n)) :
    Calls Tryd.prog 22 #[.pointer (some ⟨b, 0, none⟩)] w fun v w' => v = .returned (.int .i64 (n.run : Int)) ∧ w' = w := by
  obtain ⟨ba, bg, bf, hr, -⟩ := h.row
  have c15 : w.cell? ⟨b, 15, none⟩ = some (.int .i64 (n.run : Int)) := by simp [World.cell?, hr, loRow]
  clear h hr
  go_enter Tryd.func22, Tryd.ntmps22
  go_wp2
  go_ret
  exact ⟨rfl, rfl⟩
end
end Go.Proofs.YtpaolneaomeoiabDoor
