/-
  (*conf.reader).takePart by a contract: point. Conditions: the reader, the words and the sentinels lie in memory.
-/
import Derived.Test.YtcnfkdecghdphaaGreatDoorCfRPointX
namespace Go.Proofs.YtcnfkdecghdphaaGreatDoor
open Go.RowKit Go.Extern.Stop Go.Stop Go.Extern Go.Maps

set_option maxHeartbeats 4000000 in
set_option maxRecDepth 100000 in
theorem part_pts (A : Nat → Addr) (w0 w : World) (rb L g cap mb : Nat) (c : CfgD) (last : Int) (es : List EntD) (e : EntD) (x : PV5) (cells : List Value) (sa : Option Addr) (ws : List ByteArray) (wb wo wc : Nat) (hs : Sen6 A w0) (hb0 : Below w0.heap.size w0 w) (h : RdE w0.heap.size rb L g cap mb w c last es e x cells) (hLw : L ≤ w.heap.size) (hW : WordsAt w sa ws wb wo) (hn : e.pts.length ≤ 1000000) :
    Calls Tryz.prog 129 #[.pointer (some ⟨rb, 0, none⟩), .pointer (some ⟨g, es.length * 10, none⟩), .int .i64 4, .slice sa ws.length wc] w fun v w' => v = .returned (errV A (fillV (lookL e.pts) false [0] (ws.map bl)).1) ∧ Below w0.heap.size w0 w' ∧ ∃ (q : ByteArray) (x' : PV5), ((fillV (lookL e.pts) false [0] (ws.map bl)).1 = 0 → ∀ s, ws[0]? = some s → q = s) ∧ RdE w0.heap.size rb L g cap mb w' c last es { e with pts := e.pts ++ [q] } x' cells ∧ L ≤ w'.heap.size := by
  have hb1 : Below w.heap.size w ((w.alloc (.cells #[.int .i64 0] 125)).alloc (.cells #[.int .i64 0] 125)) := (Below.one _ _).alloc (by simp) _
  have HC : Hid _ := takePoint_at A w0 _ rb L g cap mb c last es e x cells sa ws wb wo wc hs (hb0.trans (hb1.mono hb0.size)) (h.below hb1) (Nat.le_trans hLw hb1.size) (hW.below hb1) hn
  generalize es.length * 10 = o at HC ⊢
  clear hs hb0 h hLw hW hn hb1
  go_enter Tryz.func129, Tryz.ntmps129
  go_wp2_with fail
  refine Calls.mono HC.out ?_
  rintro v w2 ⟨rfl, h1, h2⟩
  have H1 : Hid (Below w0.heap.size w0 w2) := h1
  have H2 : Hid _ := h2
  clear h1 h2
  go_wp2
  go_ret
  exact ⟨rfl, H1.out, H2.out⟩
end Go.Proofs.YtcnfkdecghdphaaGreatDoor
