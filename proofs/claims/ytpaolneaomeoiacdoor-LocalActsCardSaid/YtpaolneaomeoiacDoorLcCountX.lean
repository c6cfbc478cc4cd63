/-
  nightwatchref2.CountIn told by a contract: 'countIn' of LcPure. Conditions: the reports lie in memory, at most a thousand.
-/
import Derived.Test.YtpaolneaomeoiacDoorPu2X
import Derived.Test.YtpaolneaomeoiacDoorMemX
import Derived.WalkSmall
namespace Go.Proofs.YtpaolneaomeoiacDoor
open Go.RowKit Go.Extern.Stop Go.Stop Go.Extern

theorem countIn_take {cnt : Int} {l : List MkD} {cyc : Int} {k : Nat} {m : MkD} (h : l[k]? = some m) : countIn cnt (l.take (k + 1)) cyc = countIn cnt (l.take k) cyc + (if m.cyc = cyc ∧ m.pt = cnt then 1 else 0) := by
  rw [List.take_add_one, h]; exact countIn_snoc cnt _ m cyc
set_option maxHeartbeats 2000000 in
set_option maxRecDepth 100000 in
theorem countIn_at (e : EntD) (pa ga ea fa la : Option Addr) (pc gc ec fc lc : Nat) (l : List MkD) (cyc : Int) (sa : Option Addr) (cap : Nat) (w : World) (hl : SlAt encM 3 w (.slice sa l.length cap) l) (hn : l.length ≤ 1000) :
    Calls Tryd.prog 44 #[.agg #[.string e.name, .int .i64 e.tol, .slice pa e.pts.length pc, .int .i64 e.cnt, .int .i64 e.mn, .int .i64 e.mx, .slice ga e.gaps.length gc, .slice ea e.edges.length ec, .slice fa e.first.length fc, .slice la e.last.length lc], .slice sa l.length cap, .int .i64 cyc] w fun v w' => v = .returned (.int .i64 (countIn e.cnt l cyc : Nat)) ∧ Below w.heap.size w w' := by
  have HL : Hid (∀ V, Below w.heap.size w V → SlAt encM 3 V (.slice sa l.length cap) l) := fun V hV => hl.below hV
  have HN : Hid (l.length ≤ 1000) := hn
  clear hl hn
  go_enter Tryd.func44, Tryd.ntmps44
  go_upto_region 1 with fail
  obtain ⟨W, hW⟩ : ∃ V, V = w.alloc (.cells #[.string e.name, .int .i64 e.tol, .slice pa e.pts.length pc, .int .i64 e.cnt, .int .i64 e.mn, .int .i64 e.mx, .slice ga e.gaps.length gc, .slice ea e.edges.length ec, .slice fa e.first.length fc, .slice la e.last.length lc] 27) := ⟨_, rfl⟩
  rw [← hW]
  have HBW : Hid (Below w.heap.size w W) := by show Below _ _ _; rw [hW]; exact Below.one _ _
  have HX : Hid (∀ V, Below W.heap.size W V → V.heap[w.heap.size]? = some (.cells #[.string e.name, .int .i64 e.tol, .slice pa e.pts.length pc, .int .i64 e.cnt, .int .i64 e.mn, .int .i64 e.mx, .slice ga e.gaps.length gc, .slice ea e.edges.length ec, .slice fa e.first.length fc, .slice la e.last.length lc] 27 (0, 0))) := fun V hV => row_below hV (by rw [hW]; exact heap_alloc_new w _)
  clear hW
  go_upto_region 2 with fail
  go_cut [8] (fun i wx => i = .int .i64 0 ∧ wx = W)
  case first =>
    go_wp2_with fail
    go_meet
    case rel => exact ⟨rfl, rfl⟩
  obtain ⟨rfl, rfl⟩ := hcut
  rename World => W
  go_wp2_with fail
  go_loopw [7, 8] (fun nv iv wr => ∃ k : Nat, k ≤ l.length ∧ iv = .int .i64 k ∧ nv = .int .i64 (countIn e.cnt (l.take k) cyc : Nat) ∧ Below W.heap.size W wr) (fun _ iv _ => l.length - (intOf iv).toNat)
  case atStart => exact ⟨0, Nat.zero_le _, rfl, rfl, Below.refl _ _⟩
  case round =>
    obtain ⟨k, hk, rfl, rfl, hbk⟩ := hrel
    have HB : Hid (Below W.heap.size W wr) := hbk
    have HBw : Hid (Below w.heap.size w wr) := HBW.out.trans (hbk.mono HBW.out.size)
    clear hbk
    by_cases hlt : k < l.length
    · have k1 : (k : Int) < (l.length : Int) := by omega
      have k2 : k < 1000 := by have := HN.out; omega
      have hn : countIn e.cnt (l.take k) cyc ≤ 1000 := Nat.le_trans (countIn_le _ _ _) (by rw [List.length_take]; omega)
      obtain ⟨m, hm⟩ : ∃ m, l[k]? = some m := ⟨_, List.getElem?_eq_getElem hlt⟩
      have HS : Hid _ := countIn_take (cnt := e.cnt) (cyc := cyc) hm
      obtain ⟨n, hnn⟩ : ∃ n, n = countIn e.cnt (l.take k) cyc := ⟨_, rfl⟩
      rw [← hnn] at HS hn
      rw [← hnn]
      clear hnn
      obtain ⟨sa', cap', hsl, -, hcc⟩ := HL.out wr HBw.out
      cases hsl
      obtain ⟨gb, o, rfl, hc0⟩ := hcc (fun h => by rw [h] at hm; simp at hm)
      have c0 : wr.cell? ⟨gb, o + k * 3, none⟩ = some (.int .i64 m.pt) := hc0 k m hm 0 _ rfl
      have c2 : wr.cell? ⟨gb, o + k * 3 + 2, none⟩ = some (.int .i64 m.cyc) := hc0 k m hm 2 _ rfl
      have x3 : wr.cell? ⟨w.heap.size, 3, none⟩ = some (.int .i64 e.cnt) := by have := HX.out wr HB.out; simp [World.cell?, this]
      clear hcc hc0 hm
      by_cases h1 : m.cyc = cyc
      · by_cases h2 : m.pt = e.cnt
        · have HS2 : Hid (countIn e.cnt (l.take (k + 1)) cyc = n + 1) := by show _ = _; rw [HS.out, if_pos ⟨h1, h2⟩]
          go_wp2_with fail
          go_quiet (fail)
          go_wp2_with fail
          go_roundw
          case rel => exact ⟨k + 1, hlt, rfl, by rw [HS2.out]; rfl, below_drewN HB.out _⟩
          case measure => simp [intOf]; omega
        · have HS2 : Hid (countIn e.cnt (l.take (k + 1)) cyc = n) := by show _ = _; rw [HS.out, if_neg (fun x => h2 x.2)]; rfl
          go_wp2_with fail
          go_quiet (fail)
          go_wp2_with fail
          go_roundw
          case rel => exact ⟨k + 1, hlt, rfl, by rw [HS2.out], below_drewN HB.out _⟩
          case measure => simp [intOf]; omega
      · have HS2 : Hid (countIn e.cnt (l.take (k + 1)) cyc = n) := by show _ = _; rw [HS.out, if_neg (fun x => h1 x.1)]; rfl
        go_wp2_with fail
        go_quiet (fail)
        go_wp2_with fail
        go_roundw
        case rel => exact ⟨k + 1, hlt, rfl, by rw [HS2.out], below_drewN HB.out _⟩
        case measure => simp [intOf]; omega
    · have k1 : ¬ (k : Int) < (l.length : Int) := by omega
      have HE : Hid (countIn e.cnt (l.take k) cyc = countIn e.cnt l cyc) := by show _ = _; rw [List.take_of_length_le (by omega)]
      obtain ⟨n, hnn⟩ : ∃ n, n = countIn e.cnt (l.take k) cyc := ⟨_, rfl⟩
      rw [← hnn] at HE
      rw [← hnn]
      clear hnn
      go_wp2
      go_ret
      exact ⟨by rw [HE.out]; rfl, HBw.out⟩
end Go.Proofs.YtpaolneaomeoiacDoor
