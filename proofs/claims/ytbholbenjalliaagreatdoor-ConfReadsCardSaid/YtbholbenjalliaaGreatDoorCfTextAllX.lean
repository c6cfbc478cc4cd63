/-
  conf.Text by a contract, for every right config. Conditions: the config, the sentinels, the keywords and the table of powers of ten lie in memory.
-/
import Derived.Test.YtbholbenjalliaaGreatDoorCfPentX
namespace Go.Proofs.YtbholbenjalliaaGreatDoor
open Go.RowKit Go.Extern.Stop Go.Stop Go.Extern

theorem text_right (A : Nat → Addr) (c : CfgD) (sa : Option Addr) (sc : Nat) (w : World) (hs : Sen6 A w) (hK : KwAt w) (hT : TabAt w) (hG : (max 12 16 + 1) ≤ w.heap.size) (hE : EntsAt w (.slice sa c.ents.length sc) c.ents) (hS : SmallC c) (h0 : (cfgErr c).1 = 0) :
    Calls Tryz.prog 8 #[.agg #[.int .i64 c.closed, .int .i64 c.opn, .int .i64 c.cycle, .int .i64 c.delay, .slice sa c.ents.length sc]] w fun e w' => e = .returned (.tuple #[.string ⟨(confText c).toArray⟩, .nilIface]) ∧ Below w.heap.size w w' :=
  text_ok A c sa sc w hs hK hT hG hE hS h0 (fun B pb w' hb hB e he => entity_at B pb e w w' hb hB ((okC_of h0).ents e he) (cfg_size h0 e he)
    (hK.below hb (Nat.lt_of_lt_of_le (show 12 < (max 12 16 + 1) by decide) hG)) (hT.below hb hG) (Nat.le_trans hG hB)) (ents_len h0)
end Go.Proofs.YtbholbenjalliaaGreatDoor
