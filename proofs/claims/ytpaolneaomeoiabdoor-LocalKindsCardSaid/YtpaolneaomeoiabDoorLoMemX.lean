/-
  package local's entity in memory ('LoAt': all that it is lies in the blocks of F), and what may turn ('FrL'). No condition.
-/
import Derived.Test.YtpaolneaomeoiabDoorPu2X
import Derived.Test.YtpaolneaomeoiabDoorLoCloneX
import Derived.Test.YtpaolneaomeoiabDoorAlOffX
import Derived.Test.YtpaolneaomeoiabDoorGaOffX
import Derived.Test.YtpaolneaomeoiabDoorFlOffX
namespace Go.Proofs.YtpaolneaomeoiabDoor
open Go.RowKit Go.Extern.Stop Go.Stop Go.Extern

/-- Where an entity's lists lie. -/
structure EA where
  pa : Option Addr
  ga : Option Addr
  ea : Option Addr
  fa : Option Addr
  la : Option Addr
  pc : Nat
  gc : Nat
  ec : Nat
  fc : Nat
  lc : Nat
section
variable {F F' : Nat → Prop} {w w' w'' : World} {b ba bg bf : Nat} {e : EntD} {E : EA}
def OwnF {α : Type} (enc : α → List Value) (k : Nat) (T : TypeId) (F : Nat → Prop) (w : World) (v : Value) (xs : List α) : Prop := SlOwn enc k T 0 w v xs ∧ ∀ g, v.ownBlock = some g → F g
theorem SlOwn.same {α : Type} {enc : α → List Value} {k B : Nat} {T : TypeId} {v : Value} {xs : List α} (h : SlOwn enc k T B w v xs) (hs : ∀ g, v.ownBlock = some g → w'.heap[g]? = w.heap[g]?) : SlOwn enc k T B w' v xs := by
  refine ⟨h.1, ?_⟩
  rcases h.2 with hn | ⟨g, cap, cur, rfl, hb, hgg, rest⟩
  · exact .inl hn
  · exact .inr ⟨g, cap, cur, rfl, hb, (hs g rfl).trans hgg, rest⟩
theorem OwnF.same {α : Type} {enc : α → List Value} {k : Nat} {T : TypeId} {v : Value} {xs : List α} (h : OwnF enc k T F w v xs) (hs : ∀ k, F k → w'.heap[k]? = w.heap[k]?) : OwnF enc k T F w' v xs := ⟨h.1.same (fun g hg => hs g (h.2 g hg)), h.2⟩
theorem OwnF.mono {α : Type} {enc : α → List Value} {k : Nat} {T : TypeId} {v : Value} {xs : List α} (h : OwnF enc k T F w v xs) (hF : ∀ k, k < w.heap.size → F k → F' k) : OwnF enc k T F' w v xs := ⟨h.1, fun g hg => hF g (h.1.lt g hg).2 (h.2 g hg)⟩
theorem OwnF.of {α : Type} {enc : α → List Value} {k B : Nat} {T : TypeId} {v : Value} {xs : List α} (h : SlOwn enc k T B w v xs) (hF : ∀ k, B ≤ k → F k) : OwnF enc k T F w v xs :=
  ⟨⟨h.1, h.2.imp id fun ⟨g, cap, cur, h1, _, h3⟩ => ⟨g, cap, cur, h1, Nat.zero_le _, h3⟩⟩, fun g hg => hF g (h.lt g hg).1⟩
/-- An entity's lists in rows of its own. -/
structure PartsF (F : Nat → Prop) (w : World) (e : EntD) (E : EA) : Prop where
  hp : OwnF encS 1 9 F w (.slice E.pa e.pts.length E.pc) e.pts
  hg : OwnF encG 4 86 F w (.slice E.ga e.gaps.length E.gc) e.gaps
  he : OwnF encP 2 59 F w (.slice E.ea e.edges.length E.ec) e.edges
  hf : OwnF encI 1 3 F w (.slice E.fa e.first.length E.fc) e.first
  hl : OwnF encI 1 3 F w (.slice E.la e.last.length E.lc) e.last
theorem PartsF.parts (h : PartsF F w e E) : EntParts w e (.slice E.pa e.pts.length E.pc) (.slice E.ga e.gaps.length E.gc) (.slice E.ea e.edges.length E.ec) (.slice E.fa e.first.length E.fc) (.slice E.la e.last.length E.lc) :=
  ⟨h.hp.1.slat (fun _ => rfl), h.hg.1.slat (fun _ => rfl), h.he.1.slat (fun _ => rfl), h.hf.1.slat (fun _ => rfl), h.hl.1.slat (fun _ => rfl)⟩
theorem PartsF.same (h : PartsF F w e E) (hs : ∀ k, F k → w'.heap[k]? = w.heap[k]?) : PartsF F w' e E := ⟨h.hp.same hs, h.hg.same hs, h.he.same hs, h.hf.same hs, h.hl.same hs⟩
theorem PartsF.mono (h : PartsF F w e E) (hF : ∀ k, k < w.heap.size → F k → F' k) : PartsF F' w e E := ⟨h.hp.mono hF, h.hg.mono hF, h.he.mono hF, h.hf.mono hF, h.hl.mono hF⟩
/-- While a block of another type is written. -/
theorem OwnF.other {α : Type} {enc : α → List Value} {k : Nat} {T T' : TypeId} {v : Value} {xs : List α} (h : OwnF enc k T F w v xs) (hg : w.grownBy w' (some b)) {c : Array Value} {fr : Nat × Nat} (hb : w.heap[b]? = some (.cells c T' fr)) (hT : T' ≠ T) : OwnF enc k T F w' v xs := ⟨h.1.other hg hb hT, h.2⟩
/-- The types of what local's own calls write. -/
def TyL (T : TypeId) : Prop := T = 78 ∨ T = 120 ∨ T = 123 ∨ T = 125 ∨ T = 63
/-- What may turn: blocks of F, of these types. -/
structure FrL (F : Nat → Prop) (w w' : World) : Prop where
  off : Off F w w'
  ty : ∀ (k : Nat) (c : Array Value) (T : TypeId) (fr : Nat × Nat), w.heap[k]? = some (.cells c T fr) → ¬ TyL T → w'.heap[k]? = some (.cells c T fr)
  mp : ∀ (k : Nat) (o : Obj), w.heap[k]? = some o → (∀ c T fr, o ≠ .cells c T fr) → w'.heap[k]? = some o
theorem FrL.refl (F : Nat → Prop) (w : World) : FrL F w w := ⟨Off.refl _ _, fun _ _ _ _ h _ => h, fun _ _ h _ => h⟩
theorem FrL.trans (h : FrL F w w') (h' : FrL F' w' w'') (hF : ∀ k, k < w.heap.size → F' k → F k) : FrL F w w'' := ⟨h.off.trans h'.off hF, fun k c T fr a d => h'.ty k c T fr (h.ty k c T fr a d) d, fun k o a d => h'.mp k o (h.mp k o a d) d⟩
theorem FrL.below (hb : Below w.heap.size w w') : FrL F w w' := ⟨Off.of_below hb F, fun _ _ _ _ hk _ => row_below hb hk, fun _ _ hk _ => row_below hb hk⟩
theorem FrL.of (S : Nat → Prop) (h : Off S w w') (hS : ∀ k, k < w.heap.size → S k → F k ∧ ∃ c T fr, w.heap[k]? = some (.cells c T fr) ∧ TyL T) : FrL F w w' := by
  refine ⟨h.mono (fun i hi hs => (hS i hi hs).1), fun k c T fr hk hT => ?_, fun k o hk ho => ?_⟩
  · refine (h.block k (lt_of_row hk) (fun hs => ?_)).trans hk
    obtain ⟨-, c', T', fr', h1, h2⟩ := hS k (lt_of_row hk) hs
    rw [hk] at h1
    simp only [Option.some.injEq, Obj.cells.injEq] at h1
    obtain ⟨-, rfl, -⟩ := h1
    exact hT h2
  · refine (h.block k (lt_of_row hk) (fun hs => ?_)).trans hk
    obtain ⟨-, c', T', fr', h1, h2⟩ := hS k (lt_of_row hk) hs
    rw [hk] at h1
    exact ho _ _ _ (Option.some.inj h1)
theorem FrL.put {c : Array Value} {T : TypeId} {fr : Nat × Nat} (hg : w.grownBy w' (some b)) (hb : w.heap[b]? = some (.cells c T fr)) (hT : TyL T) (hF : F b) : FrL F w w' :=
  FrL.of _ (Off.of_grown hg) (fun k _ e => by subst e; exact ⟨hF, c, T, fr, hb, hT⟩)
theorem FrL.mono (h : FrL F w w') (hF : ∀ k, k < w.heap.size → F k → F' k) : FrL F' w w' := ⟨h.off.mono hF, h.ty, h.mp⟩
theorem PartsF.fr (h : PartsF F w e E) (hf : FrL F' w w') : PartsF F w' e E := by
  have g : ∀ {α : Type} {enc : α → List Value} {k : Nat} {T : TypeId} {v : Value} {xs : List α}, ¬ TyL T → OwnF enc k T F w v xs → OwnF enc k T F w' v xs := fun {α} {enc} {k} {T} {v} {xs} hT h => by
    refine ⟨h.1.same (fun g hg => ?_), h.2⟩
    rcases h.1.2 with ⟨rfl, -⟩ | ⟨g', cap, cur, rfl, hb, hgg, rest⟩
    · simp [Value.ownBlock] at hg
    · simp only [Value.ownBlock, Option.some.injEq] at hg
      subst hg
      rw [hgg]
      exact hf.ty _ _ _ _ hgg hT
  exact ⟨g (by unfold TyL; decide) h.hp, g (by unfold TyL; decide) h.hg, g (by unfold TyL; decide) h.he, g (by unfold TyL; decide) h.hf, g (by unfold TyL; decide) h.hl⟩
/-- The three watches in memory. -/
structure WatAt (F : Nat → Prop) (w : World) (ba bg bf : Nat) (e : EntD) (s : WSt) : Prop where
  al : AlAt w ba s.a
  fa : F ba
  ga : ∃ sa cap, GpAt 0 w bg sa cap s.g ∧ ∀ k, GS bg sa s.g.xs.length k → F k
  fl : ∃ m n D fv lv, FlAt 0 w bf e s.f m n D fv lv ∧ F bf ∧ F m ∧ (∀ g, fv.ownBlock = some g → F g) ∧ ∀ g, lv.ownBlock = some g → F g
  gl : s.g.xs.length = e.gaps.length
theorem GpAt.same {B cap : Nat} {sa : Option Addr} {s : GSt} (h : GpAt B w b sa cap s) (hs : ∀ k, GS b sa s.xs.length k → w'.heap[k]? = w.heap[k]?) : GpAt B w' b sa cap s := by
  refine ⟨(hs b (Or.inl rfl)).trans h.heap, fun hne => ?_, h.lo, h.fit⟩
  obtain ⟨g, o, e1, h1, h2, hc, cur, hf⟩ := h.sl hne
  have hg := hs g (Or.inr ⟨List.length_pos_iff.2 hne, o, e1⟩)
  exact ⟨g, o, e1, h1, h2, fun i x hx j u hu => (World.cell?_of_block (a := ⟨g, o + i * 5 + j, none⟩) hg).trans (hc i x hx j u hu), cur, hg.trans hf⟩
theorem FlAt.same {B m n : Nat} {s : FSt} {D : DataW Unit} {fv lv : Value} (h : FlAt B w b e s m n D fv lv) (hb : w'.heap[b]? = w.heap[b]?) (hm : w'.heap[m]? = w.heap[m]?) (hf : ∀ g, fv.ownBlock = some g → w'.heap[g]? = w.heap[g]?) (hl : ∀ g, lv.ownBlock = some g → w'.heap[g]? = w.heap[g]?) : FlAt B w' b e s m n D fv lv := by
  refine ⟨hb.trans h.heap, h.lo, ?_, h.edg, h.hf.same hf, h.hl.same hl, h.fit, h.sm, h.wf⟩
  obtain ⟨es, c, hm0, rest⟩ := h.own
  exact ⟨es, c, hm.trans hm0, rest⟩
theorem AlAt.same {a : ASt} (h : AlAt w b a) (hs : w'.heap[b]? = w.heap[b]?) : AlAt w' b a := ⟨hs.trans h.heap, h.hn⟩
theorem WatAt.same {s : WSt} (h : WatAt F w ba bg bf e s) (hs : ∀ k, F k → w'.heap[k]? = w.heap[k]?) : WatAt F w' ba bg bf e s := by
  obtain ⟨sa, cap, h1, h2⟩ := h.ga
  obtain ⟨m, n, D, fv, lv, h3, h4, h5, h6, h7⟩ := h.fl
  exact ⟨h.al.same (hs _ h.fa), h.fa, ⟨sa, cap, h1.same (fun k hk => hs k (h2 k hk)), h2⟩, ⟨m, n, D, fv, lv, h3.same (hs _ h4) (hs _ h5) (fun g hg => hs g (h6 g hg)) (fun g hg => hs g (h7 g hg)), h4, h5, h6, h7⟩, h.gl⟩
end
end Go.Proofs.YtpaolneaomeoiabDoor
