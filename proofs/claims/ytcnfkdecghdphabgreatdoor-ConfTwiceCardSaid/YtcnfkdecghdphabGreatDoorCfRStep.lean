/-
  What holds of a reader's state behind each line: pure facts; the entities read, as a list in memory. No condition.
-/
import Derived.Test.YtcnfkdecghdphabGreatDoorCfRLine
import Derived.Laws.ResultCell
namespace Go.Proofs.YtcnfkdecghdphabGreatDoor
open Go.RowKit Go.Extern.Stop Go.Stop Go.Extern Go.Maps

theorem line_inv {look : Look} {st : RS} {l : Bs} (h : (lineR look st l).1 = 0) : ∃ (k : Nat) (hd : Bs) (ws : List Bs) (vs : List Int), k < 10 ∧ cutBy 32 l = hd :: ws ∧ may st.last k = true ∧ (lineR look st l).2 = ⟨k, updC st.cfg k ws vs⟩ := by
  unfold lineR at h ⊢
  cases hc : cutBy 32 l with
  | nil => rw [hc] at h; simp at h
  | cons hd ws =>
    rw [hc] at h
    simp only [lineW] at h ⊢
    cases hk : kindOf hd with
    | none => rw [hk] at h; simp at h
    | some k =>
      rw [hk] at h
      simp only at h ⊢
      split at h
      · simp at h
      · rename_i hm
        rw [if_neg hm]
        split at h
        · rename_i hf
          rw [if_pos hf]
          exact ⟨k, hd, ws, _, (kindOf_some hk).2, rfl, by simpa using hm, rfl⟩
        · rename_i hf; exact absurd h hf
def SmE (e : EntD) : Prop := e.name.size ≤ 1000000 ∧ ∀ p ∈ e.pts, p.size ≤ 1000000
theorem may_ge {last : Int} {k : Nat} (hk : 4 ≤ k) (h : may last k = true) : 3 ≤ last := by
  unfold may at h
  rw [if_neg (by omega), if_neg (by omega)] at h
  split at h
  · simp at h; omega
  · simp at h; omega
theorem word_small {c : UInt8} {l hd : Bs} {ws : List Bs} (hc : cutBy c l = hd :: ws) (hl : l.length ≤ 1000000) (i : Nat) : (⟨(ws.getD i []).toArray⟩ : ByteArray).size ≤ 1000000 := by
  have : (ws.getD i []).length ≤ 1000000 := by
    rw [List.getD_eq_getElem?_getD]
    cases hw : ws[i]? with
    | none => simp
    | some x =>
      have := cut_size c l x (by rw [hc]; exact List.mem_cons_of_mem _ (List.mem_of_getElem? hw))
      simp
      omega
  show (ws.getD i []).toArray.size ≤ 1000000
  simpa using this
theorem stOk_step {look : Look} {n : Nat} {st : RS} {l : Bs} (I : StOk n st.cfg st.last) (S : ∀ e ∈ st.cfg.ents, SmE e) (hl : l.length ≤ 1000000) (h : (lineR look st l).1 = 0) :
    StOk (n + 1) (lineR look st l).2.cfg (lineR look st l).2.last ∧ ∀ e ∈ (lineR look st l).2.cfg.ents, SmE e := by
  obtain ⟨k, hd, ws, vs, k10, hc, hm, e⟩ := line_inv h
  rw [e]
  have same : StOk n st.cfg st.last → ∀ c : CfgD, c.ents = st.cfg.ents → (((k : Nat) : Int) ≤ 1 → st.cfg.ents = []) → (k : Int) ≤ 2 → StOk (n + 1) c k := fun I c hce h0 h2 =>
    ⟨fun h => by rw [hce]; exact h0 h, fun h => by omega, by rw [hce]; have := I.len; omega, fun e he => by rw [hce] at he; exact (I.sz e he).mono (by omega)⟩
  match k, k10 with
  | 0, _ => exact ⟨same I _ rfl (fun _ => I.e0 (by simp [may] at hm; omega)) (by simp), S⟩
  | 1, _ => exact ⟨same I _ rfl (fun _ => I.e0 (by simp [may] at hm; omega)) (by simp), S⟩
  | 2, _ => exact ⟨same I _ rfl (fun h => by simp at h) (by simp), S⟩
  | 3, _ =>
    refine ⟨⟨fun h => by simp at h, fun _ => by simp [updC], by have := I.len; simp [updC]; omega, fun e he => ?_⟩, fun e he => ?_⟩
    · simp only [updC, List.mem_append, List.mem_singleton] at he
      rcases he with he | rfl
      · exact (I.sz e he).mono (by omega)
      · exact ⟨by simp [newEnt], by simp [newEnt], by simp [newEnt], by simp [newEnt], by simp [newEnt]⟩
    · simp only [updC, List.mem_append, List.mem_singleton] at he
      rcases he with he | rfl
      · exact S e he
      · exact ⟨word_small hc hl 0, fun p hp => by simp [newEnt] at hp⟩
  | k + 4, _ =>
    have h3 := may_ge (by omega) hm
    obtain ⟨es, e1, he⟩ : ∃ es e1, st.cfg.ents = es ++ [e1] := ⟨_, _, (List.dropLast_concat_getLast (I.e3 h3)).symm⟩
    have hu : (updC st.cfg (k + 4) ws vs).ents = es ++ [updE (k + 4) ws vs e1] := by
      show updLast _ _ = _
      rw [he, updLast_snoc]
    have hlen := I.len
    rw [he] at hlen
    refine ⟨⟨fun h => by simp at h; omega, fun _ => by show (updC st.cfg (k + 4) ws vs).ents ≠ []; rw [hu]; simp, by show (updC st.cfg (k + 4) ws vs).ents.length ≤ _; rw [hu]; simp at hlen ⊢; omega, fun e2 he2 => ?_⟩, fun e2 he2 => ?_⟩
    · have he2' : e2 ∈ (updC st.cfg (k + 4) ws vs).ents := he2
      rw [hu, List.mem_append, List.mem_singleton] at he2'
      rcases he2' with h' | rfl
      · exact (I.sz e2 (by rw [he]; simp [h'])).mono (by omega)
      · exact (I.sz e1 (by rw [he]; simp)).upd
    · have he2' : e2 ∈ (updC st.cfg (k + 4) ws vs).ents := he2
      rw [hu, List.mem_append, List.mem_singleton] at he2'
      rcases he2' with h' | rfl
      · exact S e2 (by rw [he]; simp [h'])
      · obtain ⟨a, b⟩ := S e1 (by rw [he]; simp)
        unfold updE SmE
        split
        · refine ⟨a, fun p hp => ?_⟩
          simp only [List.mem_append, List.mem_singleton] at hp
          rcases hp with hp | rfl
          · exact b p hp
          · exact word_small hc hl 0
        all_goals exact ⟨a, b⟩
theorem fillV_codes {look : Bs → Option Nat} : ∀ (fs : List Nat) (ws : List Bs) (nn : Bool), (fillV look nn fs ws).1 ≤ 5
  | [], [], nn => by cases nn <;> simp [fillV]
  | [], _ :: _, _ => by simp [fillV]
  | _ :: _, [], _ => by simp [fillV]
  | f :: fs, w :: ws, nn => by
    unfold fillV
    split
    · simp
    · exact fillV_codes fs ws _
theorem line_codes (look : Look) (st : RS) (l : Bs) : (lineR look st l).1 ≤ 5 := by
  unfold lineR
  split
  · simp
  · unfold lineW
    split
    · simp
    · split
      · simp
      · split
        · simp
        · exact fillV_codes _ _ _
theorem RdA.entsOwn {B rb : Nat} {w : World} {c : CfgD} {last : Int} {ev mv : Value} {es : List EntD} {cells : List Value} (h : RdA B rb w c last ev mv es cells) : EntsOwn B w ev es :=
  ⟨cells, h.ents, fun i e he => by
    obtain ⟨x, a, -, d⟩ := h.olds i e he
    exact ⟨x.p, x.g, x.e, x.f, x.l, a, d⟩⟩
theorem RdS.toA {B rb : Nat} {w : World} {c : CfgD} {last : Int} (h : RdS B rb w c last) : ∃ ev mv cells, RdA B rb w c last ev mv c.ents cells := by
  rcases h with h | ⟨L, g, cap, mb, es, e, x, cells, he, h, hL⟩
  · have h2 := h.toA
    rw [← h.nil] at h2
    exact ⟨_, _, _, h2⟩
  · have h2 := h.toA hL
    rw [← he] at h2
    exact ⟨_, _, _, h2⟩
theorem results_cfg {fn : Func} {p u : Tmp} (h : fn.results = #[.cell p 25, .tmp u]) (tmps : Array Value) (w : World) (g : Nat) (a b c d e : Value)
    (hp : tmps.getD p undef = .pointer (some ⟨g, 0, none⟩)) (hg : w.heap[g]? = some (.cells #[a, b, c, d, e] 25 (0, 0))) :
    (results fn tmps).run Tryz.prog w = .ok (.tuple #[.agg #[a, b, c, d, e], tmps.getD u undef]) w := by
  rw [results_cell_tmp h, hp]
  simp [asAddr, run_loadVar_row w g _ 25 #[a, b, c, d, e] _ _ hg Tryz.underlying25 rfl Tryz.sizeCfg, Result.andThen]
end Go.Proofs.YtcnfkdecghdphabGreatDoor
