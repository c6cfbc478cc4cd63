/-
  Several texts as one: GaOff, FlOff, LoMem.
-/
import Derived.Test.YtdpdbfhbojgigacGreatDoorB11P
import Derived.Test.YtdpdbfhbojgigacGreatDoorB06P
import Derived.Test.YtdpdbfhbojgigacGreatDoorB13P
import Derived.Test.YtdpdbfhbojgigacGreatDoorB12P
import Derived.Test.YtdpdbfhbojgigacGreatDoorB14P
namespace Go.Proofs.YtdpdbfhbojgigacGreatDoor
open Go.RowKit Go.Extern.Stop Go.Stop Go.Extern

/-- The blocks of a watch over gaps that may turn. -/
def GS (b : Nat) (sa : Option Addr) (n k : Nat) : Prop := k = b ∨ (0 < n ∧ ∃ o, sa = some ⟨k, o, none⟩)
theorem offG_set {w : World} {b : Nat} {sa : Option Addr} {n k : Nat} (hk : GS b sa n k) (j : Nat) (v : Value) : Off (GS b sa n) w (w.setCell ⟨k, j, none⟩ v) :=
  (Off.of_grown (grown_setCell w k j v)).mono (fun i _ e => by subst e; exact hk)
variable {B b cap : Nat} {w0 w w' : World} {sa : Option Addr} {s : GSt} {xs : List WG}
set_option maxHeartbeats 1000000 in
set_option maxRecDepth 100000 in
theorem gp_end2 (h : GpAt B w b sa cap s) :
    Calls Tryz.prog 218 #[.pointer (some ⟨b, 0, none⟩)] w fun e w' => e = .returned (.bool (!s.bad)) ∧ GpAt B w' b sa cap s.zero ∧ Off (GS b sa s.xs.length) w w' := by
  have c1 := h.c1
  have f1 := h.f1
  have H : Hid (GpAt B (w.setCell ⟨b, 1, none⟩ (.bool false)) b sa cap s.zero) := h.setBad false
  have HF : Hid (Off (GS b sa s.xs.length) w (w.setCell ⟨b, 1, none⟩ (.bool false))) := offG_set (Or.inl rfl) _ _
  clear h
  go_enter Tryz.func218, Tryz.ntmps218
  go_wp2
  go_ret
  exact ⟨rfl, H.out, HF.out⟩
set_option maxHeartbeats 2000000 in
set_option maxRecDepth 100000 in
theorem gp_report2 (p tick : Int) (h : GpAt B w b sa cap s) (hlen : s.xs.length ≤ 1000000) :
    Calls Tryz.prog 123 #[.pointer (some ⟨b, 0, none⟩), .int .i64 p, .int .i64 tick] w fun e w' => e = .returned (.tuple #[]) ∧ GpAt B w' b sa cap (s.rep p tick) ∧ Off (GS b sa s.xs.length) w w' := by
  have HH : Hid (GpAt B w b sa cap s) := h
  have HL : Hid (s.xs.length ≤ 1000000) := hlen
  by_cases t0 : tick < 0
  · have HR : Hid (s.rep p tick = s) := rep_off (by unfold tickOk; rw [decide_eq_false (by omega)]; rfl)
    clear h
    go_enter Tryz.func123, Tryz.ntmps123
    go_wp2
    (try simp only [Exit.inBlock, Exit.then]); refine bodyPost_ret (results_none rfl _ _ _) rfl ?_
    exact ⟨rfl, by rw [HR.out]; exact HH.out, Off.refl _ _⟩
  by_cases t1 : 1099511627776 < tick
  · have HR : Hid (s.rep p tick = s) := rep_off (by unfold tickOk; rw [decide_eq_false (p := tick ≤ 1099511627776) (by omega), Bool.and_false])
    clear h
    go_enter Tryz.func123, Tryz.ntmps123
    go_wp2
    (try simp only [Exit.inBlock, Exit.then]); refine bodyPost_ret (results_none rfl _ _ _) rfl ?_
    exact ⟨rfl, by rw [HR.out]; exact HH.out, Off.refl _ _⟩
  have HT : Hid (0 ≤ tick ∧ tick ≤ 1099511627776) := ⟨by omega, by omega⟩
  have HTk : Hid (tickOk tick = true) := by show _ = _; unfold tickOk; rw [decide_eq_true (by omega), decide_eq_true (by omega)]; rfl
  have HG : Hid (GpAt B w b sa cap s) := h
  have c0 := h.c0
  clear h hlen HH
  go_enter Tryz.func123, Tryz.ntmps123
  go_wp2_with fail
  go_loopw [18] (fun i wr => ∃ k : Nat, k ≤ s.xs.length ∧ i = .int .i64 k ∧ Off (GS b sa s.xs.length) w wr ∧ GpAt B wr b sa cap (s.upto p tick k)) (fun i _ => s.xs.length - (intOf i).toNat)
  case atStart => exact ⟨0, Nat.zero_le _, rfl, Off.refl _ _, by rw [GSt.upto_zero]; exact HG.out⟩
  case round =>
    clear c0 HG
    obtain ⟨k, hk, rfl, hfk, hgk⟩ := hrel
    have HFr : Hid (Off (GS b sa s.xs.length) w wr) := hfk
    have HG : Hid (GpAt B wr b sa cap (s.upto p tick k)) := hgk
    have c0 := hgk.c0
    rw [GSt.upto_len] at c0
    clear hgk hfk
    by_cases hlt : k < s.xs.length
    · have k1 : (k : Int) < (s.xs.length : Int) := by omega
      have k2 : k < 1000000 := by have := HL.out; omega
      obtain ⟨x, hx⟩ : ∃ x, s.xs[k]? = some x := ⟨_, List.getElem?_eq_getElem hlt⟩
      have HX : Hid (s.xs[k]? = some x) := hx
      have hxu := GSt.upto_at (p := p) (tick := tick) hx
      obtain ⟨g, o, hsa, hgb, hlo, hcc, cur, hff⟩ := HG.out.sl (fun e => by rw [e] at hxu; simp at hxu)
      subst hsa
      have HOne : Hid (OneW wr g (o + k * 5) x) := fun j u hu => hcc k x hxu j u hu
      have HF : Hid (wr.frozen? ⟨g, o + k * 5 + 4, none⟩ = false) := by show _ = _; simp [World.frozen?, hff]
      have HFw : Hid (∀ v, Off (GS b (some ⟨g, o, none⟩) s.xs.length) w (wr.setCell ⟨g, o + k * 5 + 4, none⟩ v)) := fun v => HFr.out.trans (offG_set (Or.inr ⟨by omega, o, rfl⟩) _ v) (fun _ _ x => x)
      have HXt : Hid (-1 ≤ x.t ∧ x.t ≤ 1099511627776) := HG.out.fit x (List.mem_of_getElem? hxu)
      have HN : Hid (∀ v, (s.upto p tick k).xs.set k (x.rep p tick) = (s.upto p tick (k+1)).xs ∧ (v = (x.bad p tick || (s.upto p tick k).bad) → v = (s.upto p tick (k+1)).bad)) := fun v => by rw [GSt.upto_succ HX.out]; exact ⟨rfl, fun h => h⟩
      clear hx hxu hgb hlo hcc hff
      go_wp2_with fail
      refine (gap_report HOne.out HF.out HXt.out HT.out).mono ?_
      rintro v w1 ⟨rfl, hw1⟩
      have HG1 : Hid (GpAt B w1 b (some ⟨g, o, none⟩) cap ⟨(s.upto p tick k).xs.set k (x.rep p tick), (s.upto p tick k).bad⟩) := by show GpAt _ _ _ _ _ _; rw [hw1]; exact HG.out.round (GSt.upto_at HX.out) HT.out
      have HF1 : Hid (Off (GS b (some ⟨g, o, none⟩) s.xs.length) w w1) := by
        show Off _ _ _
        rw [hw1]
        split
        · exact HFw.out _
        · exact HFr.out
      clear hw1 HG c0 HOne HF HFw HFr
      have d1 : w1.cell? ⟨b, 1, none⟩ = some (.bool (s.upto p tick k).bad) := HG1.out.c1
      have f1 := HG1.out.f1
      have HZ : Hid (∀ v : Bool, v = (x.bad p tick || (s.upto p tick k).bad) → Off (GS b (some ⟨g, o, none⟩) s.xs.length) w (w1.setCell ⟨b, 1, none⟩ (.bool v)) ∧ GpAt B (w1.setCell ⟨b, 1, none⟩ (.bool v)) b (some ⟨g, o, none⟩) cap (s.upto p tick (k + 1))) := fun v hv => by
        refine ⟨HF1.out.trans (offG_set (Or.inl rfl) _ _) (fun _ _ x => x), ?_⟩
        have h1 := HG1.out.setBad v
        have h2 := HN.out v
        have : (⟨(s.upto p tick k).xs.set k (x.rep p tick), v⟩ : GSt) = s.upto p tick (k + 1) := by rw [h2.1, h2.2 hv]
        rw [← this]
        exact h1
      clear HG1 HN HF1
      obtain ⟨ub, hub⟩ : ∃ ub, ub = (s.upto p tick k).bad := ⟨_, rfl⟩
      rw [← hub] at HZ d1
      clear hub
      cases hb : x.bad p tick
      all_goals
        rw [hb] at HZ
        go_wp2_with fail
        go_roundw
        case rel => exact ⟨k + 1, by omega, by go_num, HZ.out _ rfl⟩
        case measure => simp [intOf]; omega
    · have k1 : ¬ (k : Int) < (s.xs.length : Int) := by omega
      have HE : Hid (s.upto p tick k = s.rep p tick) := GSt.upto_all hlt HTk.out
      go_wp2
      go_end0
      refine ⟨rfl, ?_, HFr.out⟩
      rw [← HE.out]
      exact HG.out
end Go.Proofs.YtdpdbfhbojgigacGreatDoor

namespace Go.Proofs.YtdpdbfhbojgigacGreatDoor
open Go.RowKit Go.Extern.Stop Go.Stop Go.Extern

variable {B b m n : Nat} {w0 w w' : World} {e : EntD} {s : FSt} {D : DataW Unit} {fv lv : Value}
set_option maxHeartbeats 1000000 in
theorem fl_end2 (h : FlAt B w b e s m n D fv lv) :
    Calls Tryz.prog 219 #[.pointer (some ⟨b, 0, none⟩)] w fun z w' => z = .returned (.bool (!s.bad)) ∧ FlAt B w' b e s.zero m n D fv lv ∧ w.grownBy w' (some b) := by
  have c5 := h.cell 5 _ rfl
  have f5 := h.frozen 5
  have HF : Hid (FlAt B (w.setCell ⟨b, 5, none⟩ (.bool false)) b e s.zero m n D fv lv) := h.setBad false
  clear h
  go_enter Tryz.func219, Tryz.ntmps219
  go_wp2
  go_ret
  exact ⟨rfl, HF.out, grown_setCell _ _ _ _⟩
set_option maxHeartbeats 2000000 in
set_option maxRecDepth 100000 in
theorem fl_report2 (p : Int) (h : FlAt B w b e s m n D fv lv) :
    Calls Tryz.prog 124 #[.pointer (some ⟨b, 0, none⟩), .int .i64 p] w fun v w' => v = .returned (.tuple #[]) ∧ FlAt B w' b e (s.rep e p) m n D fv lv ∧ w.grownBy w' (some b) := by
  have H : Hid (FlAt B w b e s m n D fv lv) := h
  have c5 := h.cell 5 _ rfl
  have c4 := h.cell 4 _ rfl
  have fin : ∀ (V : World) (z : Bool), w.grownBy V none → z = (s.bad || !bearsE e s.ah p) → FlAt B (V.setCell ⟨b, 5, none⟩ (.bool z)) b e ⟨s.ah, z⟩ m n D fv lv ∧ FlAt B ((V.setCell ⟨b, 5, none⟩ (.bool z)).setCell ⟨b, 4, none⟩ (.int .i64 (behindE e p))) b e (s.rep e p) m n D fv lv ∧ w.grownBy ((V.setCell ⟨b, 5, none⟩ (.bool z)).setCell ⟨b, 4, none⟩ (.int .i64 (behindE e p))) (some b) := fun V z hV hz => by
    have hb := below_of_grown hV
    have h1 : FlAt B V b e s m n D fv lv := h.below hb
    have h2 := h1.setBad z
    have h3 := h2.setAh (behind_fit e p)
    refine ⟨h2, ?_, ?_⟩
    · unfold FSt.rep; rw [← hz]; exact h3
    · exact ((hV.but (some b)).trans (grown_setCell V b 5 _)).trans (grown_setCell _ b 4 _)
  have HFin : Hid _ := fin
  clear h fin
  cases hb : s.bad
  · rw [hb] at c5 HFin
    go_enter Tryz.func124, Tryz.ntmps124
    go_wp2_with fail
    refine (fl_bears s.ah p H.out H.out.fit).mono ?_
    rintro v V ⟨rfl, hV⟩
    obtain ⟨h2, h3⟩ := HFin.out V (!bearsE e s.ah p) hV rfl
    have HA : Hid (FlAt B (V.setCell ⟨b, 5, none⟩ (.bool (!bearsE e s.ah p))) b e ⟨s.ah, !bearsE e s.ah p⟩ m n D fv lv) := h2
    have HZ : Hid _ := h3
    have f5 : V.frozen? ⟨b, 5, none⟩ = false := (H.out.below (below_of_grown hV)).frozen 5
    have d5 : V.cell? ⟨b, 5, none⟩ = some (.bool s.bad) := (H.out.below (below_of_grown hV)).cell 5 _ rfl
    have d4 := h2.cell 4 _ rfl
    have f4 := h2.frozen 4
    clear h2 h3 HFin hV c4 c5 H
    go_wp2_with (go_at_call 169; refine (fl_behind p HA.out).mono ?_; rintro v w' ⟨rfl, rfl⟩)
    go_end0
    exact ⟨rfl, HZ.out⟩
  · rw [hb] at c5 HFin
    obtain ⟨h2, h3⟩ := HFin.out w true (gr_refl _ _) rfl
    have HA : Hid (FlAt B (w.setCell ⟨b, 5, none⟩ (.bool true)) b e ⟨s.ah, true⟩ m n D fv lv) := h2
    have HZ : Hid _ := h3
    have f5 : w.frozen? ⟨b, 5, none⟩ = false := H.out.frozen 5
    have d4 := h2.cell 4 _ rfl
    have f4 := h2.frozen 4
    clear h2 h3 HFin H
    go_enter Tryz.func124, Tryz.ntmps124
    go_wp2_with (go_at_call 169; refine (fl_behind p HA.out).mono ?_; rintro v w' ⟨rfl, rfl⟩)
    go_end0
    exact ⟨rfl, HZ.out⟩
end Go.Proofs.YtdpdbfhbojgigacGreatDoor

namespace Go.Proofs.YtdpdbfhbojgigacGreatDoor
open Go.RowKit Go.Extern.Stop Go.Stop Go.Extern

/-- Where an entity's lists lie. -/
structure EA where
  pa : Option Addr
  ga : Option Addr
  ea : Option Addr
  fa : Option Addr
  la : Option Addr
  pc : Nat
  gc : Nat
  ec : Nat
  fc : Nat
  lc : Nat
section
variable {F F' : Nat → Prop} {w w' w'' : World} {b ba bg bf : Nat} {e : EntD} {E : EA}
def OwnF {α : Type} (enc : α → List Value) (k : Nat) (T : TypeId) (F : Nat → Prop) (w : World) (v : Value) (xs : List α) : Prop := SlOwn enc k T 0 w v xs ∧ ∀ g, v.ownBlock = some g → F g
theorem SlOwn.same {α : Type} {enc : α → List Value} {k B : Nat} {T : TypeId} {v : Value} {xs : List α} (h : SlOwn enc k T B w v xs) (hs : ∀ g, v.ownBlock = some g → w'.heap[g]? = w.heap[g]?) : SlOwn enc k T B w' v xs := by
  refine ⟨h.1, ?_⟩
  rcases h.2 with hn | ⟨g, cap, cur, rfl, hb, hgg, rest⟩
  · exact .inl hn
  · exact .inr ⟨g, cap, cur, rfl, hb, (hs g rfl).trans hgg, rest⟩
theorem OwnF.same {α : Type} {enc : α → List Value} {k : Nat} {T : TypeId} {v : Value} {xs : List α} (h : OwnF enc k T F w v xs) (hs : ∀ k, F k → w'.heap[k]? = w.heap[k]?) : OwnF enc k T F w' v xs := ⟨h.1.same (fun g hg => hs g (h.2 g hg)), h.2⟩
theorem OwnF.mono {α : Type} {enc : α → List Value} {k : Nat} {T : TypeId} {v : Value} {xs : List α} (h : OwnF enc k T F w v xs) (hF : ∀ k, k < w.heap.size → F k → F' k) : OwnF enc k T F' w v xs := ⟨h.1, fun g hg => hF g (h.1.lt g hg).2 (h.2 g hg)⟩
theorem OwnF.of {α : Type} {enc : α → List Value} {k B : Nat} {T : TypeId} {v : Value} {xs : List α} (h : SlOwn enc k T B w v xs) (hF : ∀ k, B ≤ k → F k) : OwnF enc k T F w v xs :=
  ⟨⟨h.1, h.2.imp id fun ⟨g, cap, cur, h1, _, h3⟩ => ⟨g, cap, cur, h1, Nat.zero_le _, h3⟩⟩, fun g hg => hF g (h.lt g hg).1⟩
/-- An entity's lists in rows of its own. -/
structure PartsF (F : Nat → Prop) (w : World) (e : EntD) (E : EA) : Prop where
  hp : OwnF encS 1 9 F w (.slice E.pa e.pts.length E.pc) e.pts
  hg : OwnF encG 4 145 F w (.slice E.ga e.gaps.length E.gc) e.gaps
  he : OwnF encP 2 146 F w (.slice E.ea e.edges.length E.ec) e.edges
  hf : OwnF encI 1 3 F w (.slice E.fa e.first.length E.fc) e.first
  hl : OwnF encI 1 3 F w (.slice E.la e.last.length E.lc) e.last
theorem PartsF.parts (h : PartsF F w e E) : EntParts w e (.slice E.pa e.pts.length E.pc) (.slice E.ga e.gaps.length E.gc) (.slice E.ea e.edges.length E.ec) (.slice E.fa e.first.length E.fc) (.slice E.la e.last.length E.lc) :=
  ⟨h.hp.1.slat (fun _ => rfl), h.hg.1.slat (fun _ => rfl), h.he.1.slat (fun _ => rfl), h.hf.1.slat (fun _ => rfl), h.hl.1.slat (fun _ => rfl)⟩
theorem PartsF.same (h : PartsF F w e E) (hs : ∀ k, F k → w'.heap[k]? = w.heap[k]?) : PartsF F w' e E := ⟨h.hp.same hs, h.hg.same hs, h.he.same hs, h.hf.same hs, h.hl.same hs⟩
theorem PartsF.mono (h : PartsF F w e E) (hF : ∀ k, k < w.heap.size → F k → F' k) : PartsF F' w e E := ⟨h.hp.mono hF, h.hg.mono hF, h.he.mono hF, h.hf.mono hF, h.hl.mono hF⟩
/-- While a block of another type is written. -/
theorem OwnF.other {α : Type} {enc : α → List Value} {k : Nat} {T T' : TypeId} {v : Value} {xs : List α} (h : OwnF enc k T F w v xs) (hg : w.grownBy w' (some b)) {c : Array Value} {fr : Nat × Nat} (hb : w.heap[b]? = some (.cells c T' fr)) (hT : T' ≠ T) : OwnF enc k T F w' v xs := ⟨h.1.other hg hb hT, h.2⟩
/-- The types of what local's own calls write. -/
def TyL (T : TypeId) : Prop := T = 154 ∨ T = 237 ∨ T = 240 ∨ T = 242 ∨ T = 245
/-- What may turn: blocks of F, of these types. -/
structure FrL (F : Nat → Prop) (w w' : World) : Prop where
  off : Off F w w'
  ty : ∀ (k : Nat) (c : Array Value) (T : TypeId) (fr : Nat × Nat), w.heap[k]? = some (.cells c T fr) → ¬ TyL T → w'.heap[k]? = some (.cells c T fr)
  mp : ∀ (k : Nat) (o : Obj), w.heap[k]? = some o → (∀ c T fr, o ≠ .cells c T fr) → w'.heap[k]? = some o
theorem FrL.refl (F : Nat → Prop) (w : World) : FrL F w w := ⟨Off.refl _ _, fun _ _ _ _ h _ => h, fun _ _ h _ => h⟩
theorem FrL.trans (h : FrL F w w') (h' : FrL F' w' w'') (hF : ∀ k, k < w.heap.size → F' k → F k) : FrL F w w'' := ⟨h.off.trans h'.off hF, fun k c T fr a d => h'.ty k c T fr (h.ty k c T fr a d) d, fun k o a d => h'.mp k o (h.mp k o a d) d⟩
theorem FrL.below (hb : Below w.heap.size w w') : FrL F w w' := ⟨Off.of_below hb F, fun _ _ _ _ hk _ => row_below hb hk, fun _ _ hk _ => row_below hb hk⟩
theorem FrL.of (S : Nat → Prop) (h : Off S w w') (hS : ∀ k, k < w.heap.size → S k → F k ∧ ∃ c T fr, w.heap[k]? = some (.cells c T fr) ∧ TyL T) : FrL F w w' := by
  refine ⟨h.mono (fun i hi hs => (hS i hi hs).1), fun k c T fr hk hT => ?_, fun k o hk ho => ?_⟩
  · refine (h.block k (lt_of_row hk) (fun hs => ?_)).trans hk
    obtain ⟨-, c', T', fr', h1, h2⟩ := hS k (lt_of_row hk) hs
    rw [hk] at h1
    simp only [Option.some.injEq, Obj.cells.injEq] at h1
    obtain ⟨-, rfl, -⟩ := h1
    exact hT h2
  · refine (h.block k (lt_of_row hk) (fun hs => ?_)).trans hk
    obtain ⟨-, c', T', fr', h1, h2⟩ := hS k (lt_of_row hk) hs
    rw [hk] at h1
    exact ho _ _ _ (Option.some.inj h1)
theorem FrL.put {c : Array Value} {T : TypeId} {fr : Nat × Nat} (hg : w.grownBy w' (some b)) (hb : w.heap[b]? = some (.cells c T fr)) (hT : TyL T) (hF : F b) : FrL F w w' :=
  FrL.of _ (Off.of_grown hg) (fun k _ e => by subst e; exact ⟨hF, c, T, fr, hb, hT⟩)
theorem FrL.mono (h : FrL F w w') (hF : ∀ k, k < w.heap.size → F k → F' k) : FrL F' w w' := ⟨h.off.mono hF, h.ty, h.mp⟩
theorem PartsF.fr (h : PartsF F w e E) (hf : FrL F' w w') : PartsF F w' e E := by
  have g : ∀ {α : Type} {enc : α → List Value} {k : Nat} {T : TypeId} {v : Value} {xs : List α}, ¬ TyL T → OwnF enc k T F w v xs → OwnF enc k T F w' v xs := fun {α} {enc} {k} {T} {v} {xs} hT h => by
    refine ⟨h.1.same (fun g hg => ?_), h.2⟩
    rcases h.1.2 with ⟨rfl, -⟩ | ⟨g', cap, cur, rfl, hb, hgg, rest⟩
    · simp [Value.ownBlock] at hg
    · simp only [Value.ownBlock, Option.some.injEq] at hg
      subst hg
      rw [hgg]
      exact hf.ty _ _ _ _ hgg hT
  exact ⟨g (by unfold TyL; decide) h.hp, g (by unfold TyL; decide) h.hg, g (by unfold TyL; decide) h.he, g (by unfold TyL; decide) h.hf, g (by unfold TyL; decide) h.hl⟩
/-- The three watches in memory. -/
structure WatAt (F : Nat → Prop) (w : World) (ba bg bf : Nat) (e : EntD) (s : WSt) : Prop where
  al : AlAt w ba s.a
  fa : F ba
  ga : ∃ sa cap, GpAt 0 w bg sa cap s.g ∧ ∀ k, GS bg sa s.g.xs.length k → F k
  fl : ∃ m n D fv lv, FlAt 0 w bf e s.f m n D fv lv ∧ F bf ∧ F m ∧ (∀ g, fv.ownBlock = some g → F g) ∧ ∀ g, lv.ownBlock = some g → F g
  gl : s.g.xs.length = e.gaps.length
theorem GpAt.same {B cap : Nat} {sa : Option Addr} {s : GSt} (h : GpAt B w b sa cap s) (hs : ∀ k, GS b sa s.xs.length k → w'.heap[k]? = w.heap[k]?) : GpAt B w' b sa cap s := by
  refine ⟨(hs b (Or.inl rfl)).trans h.heap, fun hne => ?_, h.lo, h.fit⟩
  obtain ⟨g, o, e1, h1, h2, hc, cur, hf⟩ := h.sl hne
  have hg := hs g (Or.inr ⟨List.length_pos_iff.2 hne, o, e1⟩)
  exact ⟨g, o, e1, h1, h2, fun i x hx j u hu => (World.cell?_of_block (a := ⟨g, o + i * 5 + j, none⟩) hg).trans (hc i x hx j u hu), cur, hg.trans hf⟩
theorem FlAt.same {B m n : Nat} {s : FSt} {D : DataW Unit} {fv lv : Value} (h : FlAt B w b e s m n D fv lv) (hb : w'.heap[b]? = w.heap[b]?) (hm : w'.heap[m]? = w.heap[m]?) (hf : ∀ g, fv.ownBlock = some g → w'.heap[g]? = w.heap[g]?) (hl : ∀ g, lv.ownBlock = some g → w'.heap[g]? = w.heap[g]?) : FlAt B w' b e s m n D fv lv := by
  refine ⟨hb.trans h.heap, h.lo, ?_, h.edg, h.hf.same hf, h.hl.same hl, h.fit, h.sm, h.wf⟩
  obtain ⟨es, c, hm0, rest⟩ := h.own
  exact ⟨es, c, hm.trans hm0, rest⟩
theorem AlAt.same {a : ASt} (h : AlAt w b a) (hs : w'.heap[b]? = w.heap[b]?) : AlAt w' b a := ⟨hs.trans h.heap, h.hn⟩
theorem WatAt.same {s : WSt} (h : WatAt F w ba bg bf e s) (hs : ∀ k, F k → w'.heap[k]? = w.heap[k]?) : WatAt F w' ba bg bf e s := by
  obtain ⟨sa, cap, h1, h2⟩ := h.ga
  obtain ⟨m, n, D, fv, lv, h3, h4, h5, h6, h7⟩ := h.fl
  exact ⟨h.al.same (hs _ h.fa), h.fa, ⟨sa, cap, h1.same (fun k hk => hs k (h2 k hk)), h2⟩, ⟨m, n, D, fv, lv, h3.same (hs _ h4) (hs _ h5) (fun g hg => hs g (h6 g hg)) (fun g hg => hs g (h7 g hg)), h4, h5, h6, h7⟩, h.gl⟩
end
end Go.Proofs.YtdpdbfhbojgigacGreatDoor
