/-
  Several texts as one: KmMem, KmOps, KmApp, KmTick, KmLoop.
-/
import Derived.Test.YtdpdbfhbojgigacGreatDoorC30S
import Derived.Test.YtdpdbfhbojgigacGreatDoorC31S
import Derived.Test.YtdpdbfhbojgigacGreatDoorC33S
import Derived.BigQuiet
import Derived.Deep.QuietTactic
import Derived.Deep.DeepCutAuto
import Derived.WalkSmall
import Derived.Deep.AppendLies
import Derived.Deep.RegionHeld3
namespace Go.Proofs.YtdpdbfhbojgigacGreatDoor
open Go.RowKit Go.Extern.Stop Go.Stop Go.Extern
section
variable {F F':Nat->Prop}{B:Nat}{w0 w w':World}{b:Nat}{e:EntD}{E:EA}{s s':LSt}
structure LmF (F:Nat->Prop)(B:Nat)(w:World)(b:Nat)(e:EntD)(E:EA)(s:LSt):Prop where
 row:∃ sv,w.heap[b]?=some (.cells (lmRow e E.pa E.ga E.ea E.fa E.la E.pc E.gc E.ec E.fc E.lc s sv) 185 (0,0))/\MkOwn B w sv s.ms/\∀ k,sv.ownBlock=some k->F k
 fb:F b
 lo:B<=b
theorem LmF.same (h:LmF F B w b e E s)(hs:∀ k,F k->w'.heap[k]?=w.heap[k]?):LmF F B w' b e E s:=by
 obtain⟨sv,h1,h2,h3⟩:=h.row;exact⟨⟨sv,(hs b h.fb).trans h1,ow_same h2 (fun g hg=>hs g (h3 g hg)),h3⟩,h.fb,h.lo⟩
theorem LmF.mono (h:LmF F B w b e E s)(hF:∀ k,F k->F' k):LmF F' B w b e E s:=by
 obtain⟨sv,h1,h2,h3⟩:=h.row;exact⟨⟨sv,h1,h2,fun k hk=>hF k (h3 k hk)⟩,hF b h.fb,h.lo⟩
theorem LmF.lm (h:LmF F w0.heap.size w b e E s)(hb:Below w0.heap.size w0 w):∃ sv,LmIn w0 w b e E.pa E.ga E.ea E.fa E.la E.pc E.gc E.ec E.fc E.lc s sv/\∀ k,sv.ownBlock=some k->F k:=by
 obtain⟨sv,h1,h2,h3⟩:=h.row;exact⟨sv,⟨h1,h2,hb,h.lo⟩,h3⟩
theorem LmF.of {sv:Value}(h:LmIn w0 w b e E.pa E.ga E.ea E.fa E.la E.pc E.gc E.ec E.fc E.lc s sv)(hf:F b)(ho:∀ k,sv.ownBlock=some k->F k):LmF F w0.heap.size w b e E s:=⟨⟨sv,h.heap,h.own,ho⟩,hf,h.lo⟩
theorem lmF_begin (h:LmF F w0.heap.size w b e E s)(hb:Below w0.heap.size w0 w) :
  Calls Tryz.prog 112 #[.pointer (some ⟨b,0,none⟩)] w fun v w'=>v=.returned (.int .i64 (s.begN:Int))/\LmF (gr F w w') w0.heap.size w' b e E s.begin/\Off F w w':=by
 obtain⟨sv,h1,h2⟩:=h.lm hb
 refine(lm_begin2 h1).mono ?_;rintro v w' ⟨rfl,⟨sv',h3,h4⟩,hg⟩
 refine⟨by unfold LSt.begN;split <;> rfl,LmF.of h3 (Or.inl h.fb) (fun k hk=>Or.inl ?_),(Off.of_grown hg).mono (fun k _ e=>by rw[e];exact h.fb)⟩
 rcases h4 with rfl | rfl
 ·exact h2 k hk
 ·cases hk
theorem lmF_stop (h:LmF F w0.heap.size w b e E s)(hb:Below w0.heap.size w0 w) :
  Calls Tryz.prog 113 #[.pointer (some ⟨b,0,none⟩)] w fun v w'=>v=.returned (.int .i64 (s.stopN:Int))/\LmF (gr F w w') w0.heap.size w' b e E s.stop/\Off F w w':=by
 obtain⟨sv,h1,h2⟩:=h.lm hb
 refine(lm_stop h1).mono ?_;rintro v w' ⟨rfl,h3,hg⟩;exact⟨by unfold LSt.stopN;split <;> rfl,LmF.of h3 (Or.inl h.fb) (fun k hk=>Or.inl (h2 k hk)),(Off.of_grown hg).mono (fun k _ e=>by rw[e];exact h.fb)⟩
theorem lmF_report (p t:Int)(h:LmF F w0.heap.size w b e E s)(hb:Below w0.heap.size w0 w)(hn:s.ms.length < 1000) :
  Calls Tryz.prog 114 #[.pointer (some ⟨b,0,none⟩),.int .i64 p,.int .i64 t] w fun v w'=>v=.returned (.int .i64 (s.repN e p:Int))/\LmF (gr F w w') w0.heap.size w' b e E (s.rep e p t)/\Off F w w':=by
 obtain⟨sv,h1,h2⟩:=h.lm hb
 refine(lm_report2 p t h1 hn).mono ?_;rintro v w' ⟨rfl,⟨sv',h3,h4⟩,hg⟩
 refine⟨by unfold LSt.repE LSt.repN;split <;> (try split) <;> rfl,LmF.of h3 (Or.inl h.fb) (fun k hk=>?_),hg.mono (fun k _ e=>?_)⟩
 ·rcases h4 k hk with h5 | h5
  ·exact Or.inl (h2 k h5)
  ·exact Or.inr ⟨h5,(h3.own.lt k hk).2⟩
 ·rcases e with e | e
  ·rw[e];exact h.fb
  ·exact h2 k e
theorem lmF_end (h:LmF F w0.heap.size w b e E s)(hb:Below w0.heap.size w0 w)(hP:EntParts w e (.slice E.pa e.pts.length E.pc) (.slice E.ga e.gaps.length E.gc) (.slice E.ea e.edges.length E.ec) (.slice E.fa e.first.length E.fc) (.slice E.la e.last.length E.lc))(hSm:SmallE e)(hF:LFit s 900000)(hlen:s.ms.length<=1000)(ht:∀ m∈s.ms,0<=m.tick/\m.tick<=1099511627776) :
  Calls Tryz.prog 161 #[.pointer (some ⟨b,0,none⟩)] w fun v w'=>v=.returned (.tuple #[.int .i64 (s.kind e),.bool (s.turns e)])/\LmF (gr F w w') w0.heap.size w' b e E (s.fin e)/\Off F w w':=by
 obtain⟨sv,h1,h2⟩:=h.lm hb
 refine(lm_end2 h1 hP hSm hF hlen ht).mono ?_;rintro v w' ⟨rfl,h3,hg⟩;exact⟨rfl,LmF.of h3 (Or.inl h.fb) (fun k hk=>Or.inl (h2 k hk)),(Off.of_grown hg).mono (fun k _ e=>by rw[e];exact h.fb)⟩
theorem lmF_status (h:LmF F w0.heap.size w b e E s)(hb:Below w0.heap.size w0 w) :
  Calls Tryz.prog 81 #[.pointer (some ⟨b,0,none⟩)] w fun v w'=>v=.returned (.string (statB s.status))/\w'=w:=by
 obtain⟨sv,h1,h2⟩:=h.lm hb;exact lm_status h1
end
theorem ModAt.off {w w':World}{b:Nat}{m:MSt}{S:Nat->Prop}(h:ModAt w b m)(ho:Off S w w')(h1:¬S b):ModAt w' b m:=⟨(ho.block b h.lt h1).trans h.heap⟩
theorem MDogAt.off {w w':World}{b:Nat}{d:DSt}{S:Nat->Prop}(h:MDogAt w b d)(ho:Off S w w')(h1:¬S b):MDogAt w' b d:=⟨(ho.block b h.lt h1).trans h.heap,h.hc,h.ho,h.hk,h.hb,h.hn⟩
def kmRow (c:CfgD)(ev:Value)(bm bd rm bt:Nat)(lv:Value):Array Value:=#[.int .i64 c.closed,.int .i64 c.opn,.int .i64 c.cycle,.int .i64 c.delay,ev,.pointer (some ⟨bm,0,none⟩),.pointer (some ⟨bd,0,none⟩),.pointer (some ⟨rm,0,none⟩),lv,.pointer (some ⟨bt,0,none⟩)]
structure KmIn (H:Nat->Nat->Prop)(w0 w:World)(c:CfgD)(ev:Value)(kb bm bd rm bt:Nat)(v lv:Value)(m:MSt)(bs:List Nat)(K:KSt):Prop where
 fam:Fam H w0.heap.size w
 row:w.heap[kb]?=some (.cells (kmRow c ev bm bd rm bt lv) 130 (0,0))
 hk:H 0 kb
 own:SlOwn encB 1 137 w0.heap.size w lv bs
 hl:∀ k,lv.ownBlock=some k->H 1 k
 mod:ModAt w bm m
 hm:H 2 bm
 sim:Sim K.c m
 ring:MRingAt w w0.heap.size rm bm v K.L K.sp
 hr:H 2 rm
 hv:∀ k,v.ownBlock=some k->H 2 k
 dog:MDogAt w bd K.d
 hd:H 3 bd
 tot:w.heap[bt]?=some (.cells (tmRow K.t) 134 (0,0))
 ht:H 4 bt
 loc:∀ i b e s,bs[i]?=some b->c.ents[i]?=some e->K.ls[i]?=some s->∃ E:EA,LmF (H (5+i)) w0.heap.size w b e E s/\EntParts w0 e (.slice E.pa e.pts.length E.pc) (.slice E.ga e.gaps.length E.gc) (.slice E.ea e.edges.length E.ec) (.slice E.fa e.first.length E.fc) (.slice E.la e.last.length E.lc)
 blen:bs.length=c.ents.length
 llen:K.ls.length=c.ents.length
 ents:EntsAt w0 ev c.ents
 bel:Below w0.heap.size w0 w
section
variable {H:Nat->Nat->Prop}{w0 w w':World}{c:CfgD}{ev:Value}{kb bm bd rm bt:Nat}{v lv:Value}{m:MSt}{bs:List Nat}{K:KSt}
theorem KmIn.offB (h:KmIn H w0 w c ev kb bm bd rm bt v lv m bs K){i:Nat}(ho:Off (H i) w w'):Below w0.heap.size w0 w':=Off.below h.bel ho h.bel.size (fun k hk=>h.fam.lo i k hk)
theorem KmIn.fam' (h:KmIn H w0 w c ev kb bm bd rm bt v lv m bs K){i:Nat}(ho:Off (H i) w w'):Fam (updH H i w w') w0.heap.size w':=h.fam.upd ho.size h.bel.size i
theorem KmIn.below (h:KmIn H w0 w c ev kb bm bd rm bt v lv m bs K)(hb:Below w.heap.size w w'):KmIn H w0 w' c ev kb bm bd rm bt v lv m bs K:=
 ⟨h.fam.grow hb.size,row_below hb h.row,h.hk,h.own.below hb,h.hl,h.mod.below hb,h.hm,h.sim,h.ring.below hb,h.hr,h.hv,h.dog.below hb,h.hd,row_below hb h.tot,h.ht,
  fun i b e s h1 h2 h3=>by obtain⟨E,h4,h5⟩:=h.loc i b e s h1 h2 h3;exact⟨E,h4.same (fun k hk=>hb.block k (h.fam.lt _ k hk)),h5⟩,h.blen,h.llen,h.ents,h.bel.trans (hb.mono h.bel.size)⟩
theorem KmIn.toDog (h:KmIn H w0 w c ev kb bm bd rm bt v lv m bs K)(ho:Off (H 3) w w'){d:DSt}(hd:MDogAt w' bd d):KmIn (updH H 3 w w') w0 w' c ev kb bm bd rm bt v lv m bs { K with d:=d }:=
 ⟨h.fam' ho,(h.fam.keep (show 0≠3 by decide) ho kb h.hk).trans h.row,Or.inl h.hk,SlOwn.same h.own (fun g hg=>h.fam.keep (show 1≠3 by decide) ho g (h.hl g hg)),fun k hk=>Or.inl (h.hl k hk),
  h.mod.off ho (h.fam.not (show 2≠3 by decide) h.hm),Or.inl h.hm,h.sim,h.ring.off ho (h.fam.not (show 2≠3 by decide) h.hr) (fun g hg=>h.fam.not (show 2≠3 by decide) (h.hv g hg)),Or.inl h.hr,fun k hk=>Or.inl (h.hv k hk),
  hd,Or.inl h.hd,(h.fam.keep (show 4≠3 by decide) ho bt h.ht).trans h.tot,Or.inl h.ht,
  fun i b e s h1 h2 h3=>by obtain⟨E,h4,h5⟩:=h.loc i b e s h1 h2 h3;exact⟨E,(h4.same (h.fam.keep (show 5+i≠3 by omega) ho)).mono (fun k hk=>Or.inl hk),h5⟩,h.blen,h.llen,h.ents,h.offB ho⟩
theorem KmIn.toTot (h:KmIn H w0 w c ev kb bm bd rm bt v lv m bs K)(ho:Off (H 4) w w'){t:TSt}(ht:w'.heap[bt]?=some (.cells (tmRow t) 134 (0,0))):KmIn (updH H 4 w w') w0 w' c ev kb bm bd rm bt v lv m bs { K with t:=t }:=
 ⟨h.fam' ho,(h.fam.keep (show 0≠4 by decide) ho kb h.hk).trans h.row,Or.inl h.hk,SlOwn.same h.own (fun g hg=>h.fam.keep (show 1≠4 by decide) ho g (h.hl g hg)),fun k hk=>Or.inl (h.hl k hk),
  h.mod.off ho (h.fam.not (show 2≠4 by decide) h.hm),Or.inl h.hm,h.sim,h.ring.off ho (h.fam.not (show 2≠4 by decide) h.hr) (fun g hg=>h.fam.not (show 2≠4 by decide) (h.hv g hg)),Or.inl h.hr,fun k hk=>Or.inl (h.hv k hk),
  h.dog.off ho (h.fam.not (show 3≠4 by decide) h.hd),Or.inl h.hd,ht,Or.inl h.ht,
  fun i b e s h1 h2 h3=>by obtain⟨E,h4,h5⟩:=h.loc i b e s h1 h2 h3;exact⟨E,(h4.same (h.fam.keep (show 5+i≠4 by omega) ho)).mono (fun k hk=>Or.inl hk),h5⟩,h.blen,h.llen,h.ents,h.offB ho⟩
theorem KmIn.toRing (h:KmIn H w0 w c ev kb bm bd rm bt v lv m bs K)(ho:Off (H 2) w w'){s:CSt}{m':MSt}{v':Value}{L:List Rec}{sp:Bool}(hm:ModAt w' bm m')(hs:Sim s m')(hr:MRingAt w' w0.heap.size rm bm v' L sp)(hv:∀ k,v'.ownBlock=some k->v.ownBlock=some k\/w.heap.size<=k):KmIn (updH H 2 w w') w0 w' c ev kb bm bd rm bt v' lv m' bs { K with c:=s,L:=L,sp:=sp }:=
 ⟨h.fam' ho,(h.fam.keep (show 0≠2 by decide) ho kb h.hk).trans h.row,Or.inl h.hk,SlOwn.same h.own (fun g hg=>h.fam.keep (show 1≠2 by decide) ho g (h.hl g hg)),fun k hk=>Or.inl (h.hl k hk),
  hm,Or.inl h.hm,hs,hr,Or.inl h.hr,fun k hk=>(hv k hk).elim (fun h1=>Or.inl (h.hv k h1)) (fun h1=>Or.inr ⟨rfl,h1,(hr.sl.lt k hk).2⟩),
  h.dog.off ho (h.fam.not (show 3≠2 by decide) h.hd),Or.inl h.hd,(h.fam.keep (show 4≠2 by decide) ho bt h.ht).trans h.tot,Or.inl h.ht,
  fun i b e s h1 h2 h3=>by obtain⟨E,h4,h5⟩:=h.loc i b e s h1 h2 h3;exact⟨E,(h4.same (h.fam.keep (show 5+i≠2 by omega) ho)).mono (fun k hk=>Or.inl hk),h5⟩,h.blen,h.llen,h.ents,h.offB ho⟩
theorem KmIn.toLoc (h:KmIn H w0 w c ev kb bm bd rm bt v lv m bs K){i b:Nat}{e:EntD}{s:LSt}{E:EA}(ho:Off (H (5+i)) w w')(hb:bs[i]?=some b)(he:c.ents[i]?=some e)(hl:LmF (gr (H (5+i)) w w') w0.heap.size w' b e E s)(hP:EntParts w0 e (.slice E.pa e.pts.length E.pc) (.slice E.ga e.gaps.length E.gc) (.slice E.ea e.edges.length E.ec) (.slice E.fa e.first.length E.fc) (.slice E.la e.last.length E.lc)):KmIn (updH H (5+i) w w') w0 w' c ev kb bm bd rm bt v lv m bs (K.setL i s):=
 ⟨h.fam' ho,(h.fam.keep (show 0≠5+i by omega) ho kb h.hk).trans h.row,Or.inl h.hk,SlOwn.same h.own (fun g hg=>h.fam.keep (show 1≠5+i by omega) ho g (h.hl g hg)),fun k hk=>Or.inl (h.hl k hk),
  h.mod.off ho (h.fam.not (show 2≠5+i by omega) h.hm),Or.inl h.hm,h.sim,h.ring.off ho (h.fam.not (show 2≠5+i by omega) h.hr) (fun g hg=>h.fam.not (show 2≠5+i by omega) (h.hv g hg)),Or.inl h.hr,fun k hk=>Or.inl (h.hv k hk),
  h.dog.off ho (h.fam.not (show 3≠5+i by omega) h.hd),Or.inl h.hd,(h.fam.keep (show 4≠5+i by omega) ho bt h.ht).trans h.tot,Or.inl h.ht,
  fun j b' e' s' h1 h2 h3=>by
   by_cases hj:j=i
   ·subst hj;rw[hb] at h1;rw[he] at h2
    cases h1;cases h2
    have:s'=s:=by
     have h4:(K.ls.set j s)[j]?=some s':=h3;rw[List.getElem?_set_self (by rw[h.llen];exact(List.getElem?_eq_some_iff.1 he).1)] at h4;exact(Option.some.inj h4).symm
    subst this;exact⟨E,hl.mono (fun k hk=>hk.imp id (fun h5=>⟨rfl,h5⟩)),hP⟩
   ·have h4:(K.ls.set i s)[j]?=some s':=h3;rw[List.getElem?_set_ne (fun e=>hj e.symm)] at h4;obtain⟨E',h5,h6⟩:=h.loc j b' e' s' h1 h2 h4;exact⟨E',(h5.same (h.fam.keep (show 5+j≠5+i by omega) ho)).mono (fun k hk=>Or.inl hk),h6⟩,h.blen,by show (K.ls.set i s).length=_;rw[List.length_set];exact h.llen,h.ents,h.offB ho⟩
end
def KmAt (F:Nat->Prop)(w0 w:World)(c:CfgD)(ev:Value)(kb bm:Nat)(K:KSt):Prop:=
 ∃ H bd rm bt v lv m bs,KmIn H w0 w c ev kb bm bd rm bt v lv m bs K/\∀ i k,H i k->F k
section
variable {H:Nat->Nat->Prop}{F:Nat->Prop}{w0 w w':World}{c:CfgD}{ev:Value}{kb bm bd rm bt:Nat}{v lv:Value}{m:MSt}{bs:List Nat}{K:KSt}
theorem KmIn.cell (h:KmIn H w0 w c ev kb bm bd rm bt v lv m bs K)(j:Nat)(u:Value)(hu:(kmRow c ev bm bd rm bt lv)[j]?=some u):w.cell? ⟨kb,j,none⟩=some u:=by
 simp[World.cell?,h.row,hu]
theorem km_on (h:KmIn H w0 w c ev kb bm bd rm bt v lv m bs K) :
  Calls Tryz.prog 111 #[.pointer (some ⟨kb,0,none⟩)] w fun e w'=>e=.returned (.int .i64 (K.on:Int))/\w'=w:=by
 have c5:w.cell? ⟨kb,5,none⟩=some (.pointer (some ⟨bm,0,none⟩)):=h.cell 5 _ rfl;have c6:w.cell? ⟨kb,6,none⟩=some (.pointer (some ⟨bd,0,none⟩)):=h.cell 6 _ rfl;have m1:w.cell? ⟨bm,1,none⟩=some (.bool K.c.off):=by rw[h.mod.c1,h.sim.off]
 have d5:=h.dog.c5;clear h
 cases ho:K.c.off
 ·cases hr:K.d.reset
  ·have HO:Hid (K.on=0):=by show _=_;unfold KSt.on;rw[ho,hr];rfl
   rw[ho] at m1;rw[hr] at d5;go_enter Tryz.func111,Tryz.ntmps111
   go_wp2;go_ret;exact⟨by rw[HO.out];rfl,rfl⟩
  ·have HO:Hid (K.on=11):=by show _=_;unfold KSt.on;rw[ho,hr];rfl
   rw[ho] at m1;rw[hr] at d5;go_enter Tryz.func111,Tryz.ntmps111
   go_wp2;go_ret;exact⟨by rw[HO.out];rfl,rfl⟩
 ·have HO:Hid (K.on=8):=by show _=_;unfold KSt.on;rw[ho];rfl
  rw[ho] at m1;go_enter Tryz.func111,Tryz.ntmps111
  go_wp2;go_ret;exact⟨by rw[HO.out];rfl,rfl⟩
theorem km_state (h:KmIn H w0 w c ev kb bm bd rm bt v lv m bs K) :
  Calls Tryz.prog 79 #[.pointer (some ⟨kb,0,none⟩)] w fun e w'=>e=.returned (.string (stateB K.on))/\w'=w:=by
 have HC:Hid (Calls Tryz.prog 111 #[.pointer (some ⟨kb,0,none⟩)] w fun e w'=>e=.returned (.int .i64 (K.on:Int))/\w'=w):=km_on h;clear h
 rcases K.on_cases with ho | ho | ho
 all_goals
  rw[ho] at HC ⊢;go_enter Tryz.func79,Tryz.ntmps79
  go_wp2_with fail
  refine HC.out.mono ?_;rintro e w' ⟨rfl,rfl⟩;go_wp2;go_ret;exact⟨rfl,rfl⟩
theorem KmIn.locAt (h:KmIn H w0 w c ev kb bm bd rm bt v lv m bs K){i:Nat}{s:LSt}(hs:K.ls[i]?=some s):∃ (b:Nat) (e:EntD) (E:EA) (g cap:Nat),bs[i]?=some b/\c.ents[i]?=some e/\lv=.slice (some ⟨g,0,none⟩) K.ls.length cap/\w.cell? ⟨g,i,none⟩=some (.pointer (some ⟨b,0,none⟩))/\LmF (H (5+i)) w0.heap.size w b e E s/\EntParts w0 e (.slice E.pa e.pts.length E.pc) (.slice E.ga e.gaps.length E.gc) (.slice E.ea e.edges.length E.ec) (.slice E.fa e.first.length E.fc) (.slice E.la e.last.length E.lc):=by
 have hi:i < K.ls.length:=(List.getElem?_eq_some_iff.1 hs).1;obtain⟨b,hb⟩:∃ b,bs[i]?=some b:=⟨_,List.getElem?_eq_getElem (by rw[h.blen,<- h.llen];exact hi)⟩;obtain⟨e,he⟩:∃ e,c.ents[i]?=some e:=⟨_,List.getElem?_eq_getElem (by rw[<- h.llen];exact hi)⟩;obtain⟨E,h1,h2⟩:=h.loc i b e s hb he hs;have hl:bs.length=K.ls.length:=by rw[h.blen,h.llen]
 obtain⟨-,hn | ⟨g,cap,cur,h3,-,h4,h5,h6,h7,h8⟩⟩:=h.own
 ·exact absurd hn.2 (by omega)
 ·rw[hl] at h3
  refine⟨b,e,E,g,cap,hb,he,h3,?_,h1,h2⟩;have:=flat_at (enc:=encB) (k:=1) (fun _=>rfl) bs i 0 b _ hb rfl;simp only[Nat.mul_one,Nat.add_zero] at this;rw[<- h8,List.getElem?_take,if_pos (by omega)] at this;simp only[World.cell?,h4];simpa using this
def KmPost (F:Nat->Prop)(w0 w:World)(c:CfgD)(ev:Value)(kb bm:Nat)(K:KSt)(w':World):Prop:=KmAt (gr F w w') w0 w' c ev kb bm K/\Off F w w'
theorem KmPost.same (h:KmAt F w0 w c ev kb bm K):KmPost F w0 w c ev kb bm K w:=by
 obtain⟨H,bd,rm,bt,v,lv,m,bs,h1,h2⟩:=h;exact⟨⟨H,bd,rm,bt,v,lv,m,bs,h1,fun i k hk=>Or.inl (h2 i k hk)⟩,Off.refl _ _⟩
theorem KmIn.post {i bd' rm' bt':Nat}{v' lv':Value}{m':MSt}{bs':List Nat}{K':KSt}(hF:∀ i k,H i k->F k)(ho:Off (H i) w w')(h:KmIn (updH H i w w') w0 w' c ev kb bm bd' rm' bt' v' lv' m' bs' K'):KmPost F w0 w c ev kb bm K' w':=
 ⟨⟨_,_,_,_,_,_,_,_,h,updH_all hF i⟩,Off.all hF ho⟩
theorem KmPost.from {V:World}(h:KmPost F w0 V c ev kb bm K w')(hb:Below w.heap.size w V):KmPost F w0 w c ev kb bm K w':=by
 obtain⟨⟨H,bd,rm,bt,v,lv,m,bs,h1,h2⟩,h3⟩:=h;exact⟨⟨H,bd,rm,bt,v,lv,m,bs,h1,fun i k hk=>(h2 i k hk).imp id (fun ⟨a,b⟩=>⟨Nat.le_trans hb.size a,b⟩)⟩,(Off.of_below hb F).trans h3 (fun _ _ h=>h)⟩
set_option maxHeartbeats 1000000 in
theorem km_begin (i p:Int)(h:KmAt F w0 w c ev kb bm K) :
  Calls Tryz.prog 75 #[.pointer (some ⟨kb,0,none⟩),.string ⟨#[98,101,103,105,110]⟩,.int .i64 i,.int .i64 p] w fun e w'=>e=.returned (.int .i64 ((K.begin i).2:Int))/\KmPost F w0 w c ev kb bm (K.begin i).1 w':=by
 have HS:Hid (KmPost F w0 w c ev kb bm K w):=KmPost.same h;obtain⟨H,bd,rm,bt,v,lv,m,bs,h1,hF⟩:=h;have HC:Hid (Calls Tryz.prog 111 #[.pointer (some ⟨kb,0,none⟩)] w fun e w'=>e=.returned (.int .i64 (K.on:Int))/\w'=w):=km_on h1;have c8:w.cell? ⟨kb,8,none⟩=some lv:=h1.cell 8 _ rfl;obtain⟨la,lc,rfl⟩:=ow_form h1.own;rw[show bs.length=K.ls.length by rw[h1.blen,h1.llen]] at c8;have H1:Hid _:=h1;clear h1;have HF:Hid _:=hF;clear hF
 by_cases ho:K.on=0
 ·rw[ho] at HC
  by_cases hi:i < 0
  ·have HB:Hid (K.begin i=(K,5)):=by show _=_;unfold KSt.begin;rw[if_neg (by omega),if_pos hi]
   go_enter Tryz.func75,Tryz.ntmps75
   go_wp2_with fail
   refine HC.out.mono ?_;rintro e w' ⟨rfl,rfl⟩;go_wp2;go_ret;rw[HB.out];exact⟨rfl,HS.out⟩
  ·obtain⟨n,rfl⟩:∃ n:Nat,i=(n:Int):=⟨i.toNat,by omega⟩;have hn:(n:Int).toNat=n:=by omega
   cases hs:K.ls[n]? with
   | none=>
    have HB:Hid (K.begin (n:Int)=(K,5)):=by show _=_;unfold KSt.begin;rw[if_neg (by omega),if_neg hi,hn,hs]
    have g1:(K.ls.length:Int)<=(n:Int):=by have:=List.getElem?_eq_none_iff.1 hs;omega
    clear hs hn hi;go_enter Tryz.func75,Tryz.ntmps75
    go_wp2_with fail
    refine HC.out.mono ?_;rintro e w' ⟨rfl,rfl⟩;go_wp2;go_ret;rw[HB.out];exact⟨rfl,HS.out⟩
   | some s=>
    obtain⟨b,e,E,g,cap,hb,he,hlv,cp,h4,h5⟩:=H1.out.locAt hs;simp only[Value.slice.injEq] at hlv;obtain⟨rfl,-,rfl⟩:=hlv;have hge:c.ents.getD n noEnt=e:=by rw[List.getD_eq_getElem?_getD,he];rfl
    have g1:¬(K.ls.length:Int)<=(n:Int):=by have:=(List.getElem?_eq_some_iff.1 hs).1;omega
    have g2:(n:Int) < (K.ls.length:Int):=by omega
    have HB:Hid (K.begin (n:Int)=(K.setL n (s.begin),s.begN)):=by show _=_;unfold KSt.begin;rw[if_neg (by omega),if_neg hi,hn,hs]
    have HX:Hid (Calls Tryz.prog 112 #[.pointer (some ⟨b,0,none⟩)] w fun v w'=>v=.returned (.int .i64 (s.begN:Int))/\LmF (gr (H (5+n)) w w') w0.heap.size w' b e E (s.begin)/\Off (H (5+n)) w w'):=lmF_begin h4 H1.out.bel;have Hb:Hid (bs[n]?=some b/\c.ents[n]?=some e):=⟨hb,he⟩;have H5:Hid _:=h5;clear hs hn hi hb he h4 h5 hge;go_enter Tryz.func75,Tryz.ntmps75
    go_wp2_with fail
    refine HC.out.mono ?_;rintro e w' ⟨rfl,rfl⟩;go_wp2_with fail
    refine HX.out.mono ?_;rintro e w' ⟨rfl,hl,hof⟩;go_wp2;go_ret;rw[HB.out];exact⟨rfl,KmIn.post HF.out hof (H1.out.toLoc hof Hb.out.1 Hb.out.2 hl H5.out)⟩
 ·have HB:Hid (K.begin i=(K,K.on)):=by show _=_;unfold KSt.begin;rw[if_pos ho]
  have g0:0 < (K.on:Int):=by omega
  go_enter Tryz.func75,Tryz.ntmps75
  go_wp2_with fail
  refine HC.out.mono ?_;rintro e w' ⟨rfl,rfl⟩;go_wp2;go_ret;rw[HB.out];exact⟨rfl,HS.out⟩
set_option maxHeartbeats 1000000 in
theorem km_stop (i p:Int)(h:KmAt F w0 w c ev kb bm K) :
  Calls Tryz.prog 75 #[.pointer (some ⟨kb,0,none⟩),.string ⟨#[115,116,111,112]⟩,.int .i64 i,.int .i64 p] w fun e w'=>e=.returned (.int .i64 ((K.stop i).2:Int))/\KmPost F w0 w c ev kb bm (K.stop i).1 w':=by
 have HS:Hid (KmPost F w0 w c ev kb bm K w):=KmPost.same h;obtain⟨H,bd,rm,bt,v,lv,m,bs,h1,hF⟩:=h;have HC:Hid (Calls Tryz.prog 111 #[.pointer (some ⟨kb,0,none⟩)] w fun e w'=>e=.returned (.int .i64 (K.on:Int))/\w'=w):=km_on h1;have c8:w.cell? ⟨kb,8,none⟩=some lv:=h1.cell 8 _ rfl;obtain⟨la,lc,rfl⟩:=ow_form h1.own;rw[show bs.length=K.ls.length by rw[h1.blen,h1.llen]] at c8;have H1:Hid _:=h1;clear h1;have HF:Hid _:=hF;clear hF
 by_cases ho:K.on=0
 ·rw[ho] at HC
  by_cases hi:i < 0
  ·have HB:Hid (K.stop i=(K,5)):=by show _=_;unfold KSt.stop;rw[if_neg (by omega),if_pos hi]
   go_enter Tryz.func75,Tryz.ntmps75
   go_wp2_with fail
   refine HC.out.mono ?_;rintro e w' ⟨rfl,rfl⟩;go_wp2;go_ret;rw[HB.out];exact⟨rfl,HS.out⟩
  ·obtain⟨n,rfl⟩:∃ n:Nat,i=(n:Int):=⟨i.toNat,by omega⟩;have hn:(n:Int).toNat=n:=by omega
   cases hs:K.ls[n]? with
   | none=>
    have HB:Hid (K.stop (n:Int)=(K,5)):=by show _=_;unfold KSt.stop;rw[if_neg (by omega),if_neg hi,hn,hs]
    have g1:(K.ls.length:Int)<=(n:Int):=by have:=List.getElem?_eq_none_iff.1 hs;omega
    clear hs hn hi;go_enter Tryz.func75,Tryz.ntmps75
    go_wp2_with fail
    refine HC.out.mono ?_;rintro e w' ⟨rfl,rfl⟩;go_wp2;go_ret;rw[HB.out];exact⟨rfl,HS.out⟩
   | some s=>
    obtain⟨b,e,E,g,cap,hb,he,hlv,cp,h4,h5⟩:=H1.out.locAt hs;simp only[Value.slice.injEq] at hlv;obtain⟨rfl,-,rfl⟩:=hlv;have hge:c.ents.getD n noEnt=e:=by rw[List.getD_eq_getElem?_getD,he];rfl
    have g1:¬(K.ls.length:Int)<=(n:Int):=by have:=(List.getElem?_eq_some_iff.1 hs).1;omega
    have g2:(n:Int) < (K.ls.length:Int):=by omega
    have HB:Hid (K.stop (n:Int)=(K.setL n (s.stop),s.stopN)):=by show _=_;unfold KSt.stop;rw[if_neg (by omega),if_neg hi,hn,hs]
    have HX:Hid (Calls Tryz.prog 113 #[.pointer (some ⟨b,0,none⟩)] w fun v w'=>v=.returned (.int .i64 (s.stopN:Int))/\LmF (gr (H (5+n)) w w') w0.heap.size w' b e E (s.stop)/\Off (H (5+n)) w w'):=lmF_stop h4 H1.out.bel;have Hb:Hid (bs[n]?=some b/\c.ents[n]?=some e):=⟨hb,he⟩;have H5:Hid _:=h5;clear hs hn hi hb he h4 h5 hge;go_enter Tryz.func75,Tryz.ntmps75
    go_wp2_with fail
    refine HC.out.mono ?_;rintro e w' ⟨rfl,rfl⟩;go_wp2_with fail
    refine HX.out.mono ?_;rintro e w' ⟨rfl,hl,hof⟩;go_wp2;go_ret;rw[HB.out];exact⟨rfl,KmIn.post HF.out hof (H1.out.toLoc hof Hb.out.1 Hb.out.2 hl H5.out)⟩
 ·have HB:Hid (K.stop i=(K,K.on)):=by show _=_;unfold KSt.stop;rw[if_pos ho]
  have g0:0 < (K.on:Int):=by omega
  go_enter Tryz.func75,Tryz.ntmps75
  go_wp2_with fail
  refine HC.out.mono ?_;rintro e w' ⟨rfl,rfl⟩;go_wp2;go_ret;rw[HB.out];exact⟨rfl,HS.out⟩
set_option maxHeartbeats 1000000 in
theorem km_report {k W:Nat}(i p:Int)(h:KmAt F w0 w c ev kb bm K)(hf:KFit c K k W)(hk:k < 1000) :
  Calls Tryz.prog 75 #[.pointer (some ⟨kb,0,none⟩),.string ⟨#[114,101,112,111,114,116]⟩,.int .i64 i,.int .i64 p] w fun e w'=>e=.returned (.int .i64 ((K.report c i p).2:Int))/\KmPost F w0 w c ev kb bm (K.report c i p).1 w':=by
 have HS:Hid (KmPost F w0 w c ev kb bm K w):=KmPost.same h;obtain⟨H,bd,rm,bt,v,lv,m,bs,h1,hF⟩:=h;have HC:Hid (Calls Tryz.prog 111 #[.pointer (some ⟨kb,0,none⟩)] w fun e w'=>e=.returned (.int .i64 (K.on:Int))/\w'=w):=km_on h1;have c8:w.cell? ⟨kb,8,none⟩=some lv:=h1.cell 8 _ rfl;have c6:w.cell? ⟨kb,6,none⟩=some (.pointer (some ⟨bd,0,none⟩)):=h1.cell 6 _ rfl;have d2:=h1.dog.c2;have hEach:Hid (∀ s∈K.ls,s.ms.length < 1000):=fun s hs=>Nat.lt_of_le_of_lt (hf.each s hs).2.1 hk
 clear hf hk;obtain⟨la,lc,rfl⟩:=ow_form h1.own;rw[show bs.length=K.ls.length by rw[h1.blen,h1.llen]] at c8;have H1:Hid _:=h1;clear h1;have HF:Hid _:=hF;clear hF
 by_cases ho:K.on=0
 ·rw[ho] at HC
  by_cases hi:i < 0
  ·have HB:Hid (K.report c i p=(K,5)):=by show _=_;unfold KSt.report;rw[if_neg (by omega),if_pos hi]
   go_enter Tryz.func75,Tryz.ntmps75
   go_wp2_with fail
   refine HC.out.mono ?_;rintro e w' ⟨rfl,rfl⟩;go_wp2;go_ret;rw[HB.out];exact⟨rfl,HS.out⟩
  ·obtain⟨n,rfl⟩:∃ n:Nat,i=(n:Int):=⟨i.toNat,by omega⟩;have hn:(n:Int).toNat=n:=by omega
   cases hs:K.ls[n]? with
   | none=>
    have HB:Hid (K.report c (n:Int) p=(K,5)):=by show _=_;unfold KSt.report;rw[if_neg (by omega),if_neg hi,hn,hs]
    have g1:(K.ls.length:Int)<=(n:Int):=by have:=List.getElem?_eq_none_iff.1 hs;omega
    clear hs hn hi;go_enter Tryz.func75,Tryz.ntmps75
    go_wp2_with fail
    refine HC.out.mono ?_;rintro e w' ⟨rfl,rfl⟩;go_wp2;go_ret;rw[HB.out];exact⟨rfl,HS.out⟩
   | some s=>
    obtain⟨b,e,E,g,cap,hb,he,hlv,cp,h4,h5⟩:=H1.out.locAt hs;simp only[Value.slice.injEq] at hlv;obtain⟨rfl,-,rfl⟩:=hlv;have hge:c.ents.getD n noEnt=e:=by rw[List.getD_eq_getElem?_getD,he];rfl
    have g1:¬(K.ls.length:Int)<=(n:Int):=by have:=(List.getElem?_eq_some_iff.1 hs).1;omega
    have g2:(n:Int) < (K.ls.length:Int):=by omega
    have HB:Hid (K.report c (n:Int) p=(K.setL n (s.rep e p (K.d.now:Int)),s.repN e p)):=by show _=_;unfold KSt.report;rw[if_neg (by omega),if_neg hi,hn,hs,hge]
    have hms:s.ms.length < 1000:=hEach.out s (List.mem_of_getElem? hs);have HX:Hid (∀ V,Below w.heap.size w V->Calls Tryz.prog 114 #[.pointer (some ⟨b,0,none⟩),.int .i64 p,.int .i64 (K.d.now:Int)] V fun v w'=>v=.returned (.int .i64 (s.repN e p:Int))/\LmF (gr (H (5+n)) V w') w0.heap.size w' b e E (s.rep e p (K.d.now:Int))/\Off (H (5+n)) V w'):=fun V hV=>lmF_report p (K.d.now:Int) (h4.same (fun k hk=>hV.block k (H1.out.fam.lt _ k hk))) (H1.out.bel.trans (hV.mono H1.out.bel.size)) hms
    have HK:Hid (∀ V w',Below w.heap.size w V->Off (H (5+n)) V w'->(fun w'=>w'.cell? ⟨kb,8,none⟩=some (.slice (some ⟨g,0,none⟩) K.ls.length lc)/\w'.cell? ⟨g,n,none⟩=some (.pointer (some ⟨b,0,none⟩))/\w'.cell? ⟨kb,6,none⟩=some (.pointer (some ⟨bd,0,none⟩))/\w'.cell? ⟨bd,2,none⟩=some (.int .i64 (K.d.now:Int))) w'):=fun V w' hV hof=>by
     have hk1:=H1.out.below hV;have e0:w'.heap[kb]?=V.heap[kb]?:=hk1.fam.keep (show 0≠5+n by omega) hof kb hk1.hk;have e1:w'.heap[g]?=V.heap[g]?:=hk1.fam.keep (show 1≠5+n by omega) hof g (hk1.hl g rfl);have e3:w'.heap[bd]?=V.heap[bd]?:=hk1.fam.keep (show 3≠5+n by omega) hof bd hk1.hd;exact⟨(World.cell?_of_block (a:=⟨kb,8,none⟩) e0).trans (cell_below hV c8),(World.cell?_of_block (a:=⟨g,n,none⟩) e1).trans (cell_below hV cp),(World.cell?_of_block (a:=⟨kb,6,none⟩) e0).trans (cell_below hV c6),(World.cell?_of_block (a:=⟨bd,2,none⟩) e3).trans (cell_below hV d2)⟩
    have Hb:Hid (bs[n]?=some b/\c.ents[n]?=some e):=⟨hb,he⟩;have H5:Hid _:=h5;clear hs hn hi hb he h4 h5 hge hms;go_enter Tryz.func75,Tryz.ntmps75
    go_wp2_with fail
    refine HC.out.mono ?_;rintro e w' ⟨rfl,rfl⟩;go_wp2_with fail
    go_region_held3 (fun w'=>w'.cell? ⟨kb,8,none⟩=some (.slice (some ⟨g,0,none⟩) K.ls.length lc)/\w'.cell? ⟨g,n,none⟩=some (.pointer (some ⟨b,0,none⟩))/\w'.cell? ⟨kb,6,none⟩=some (.pointer (some ⟨bd,0,none⟩))/\w'.cell? ⟨bd,2,none⟩=some (.int .i64 (K.d.now:Int))) (first | exact⟨c8,cp,c6,d2⟩ | exact HK.out _ _ (below_drewN (Below.refl _ _) 1) hof) (first | (go_at_call 114;refine Calls.mono (HX.out _ (below_drewN (Below.refl _ _) 1)) ?_;rintro e w2 ⟨rfl,hl,hof⟩))
    go_wp2;go_ret;rw[HB.out];exact⟨rfl,KmPost.from (KmIn.post HF.out hof ((H1.out.below (below_drewN (Below.refl _ _) 1)).toLoc hof Hb.out.1 Hb.out.2 hl H5.out)) (below_drewN (Below.refl _ _) 1)⟩
 ·have HB:Hid (K.report c i p=(K,K.on)):=by show _=_;unfold KSt.report;rw[if_pos ho]
  have g0:0 < (K.on:Int):=by omega
  go_enter Tryz.func75,Tryz.ntmps75
  go_wp2_with fail
  refine HC.out.mono ?_;rintro e w' ⟨rfl,rfl⟩;go_wp2;go_ret;rw[HB.out];exact⟨rfl,HS.out⟩
end
section
variable {H:Nat->Nat->Prop}{F:Nat->Prop}{w0 w w':World}{c:CfgD}{ev:Value}{kb bm bd rm bt:Nat}{v lv:Value}{m:MSt}{bs:List Nat}{K:KSt}{k W:Nat}
theorem km_app (h:KmIn H w0 w c ev kb bm bd rm bt v lv m bs K)(hf:KFit c K k W)(hW:W+18<=1099511627776)(ho:K.c.off=false)(i kd t:Nat)(h1:i<=255)(h2:kd<=255)(h3:t<=281474976710655) :
  Calls Tryz.prog 162 #[.pointer (some ⟨rm,0,none⟩),.int .i64 (i:Int),.int .i64 (kd:Int),.int .i64 (t:Int)] w fun e w'=>∃ r:Rec,e=.returned (.tuple #[r.val,.int .i64 ((K.app i kd t).2:Int)])/\(∃ v' m',KmIn (updH H 2 w w') w0 w' c ev kb bm bd rm bt v' lv m' bs (K.app i kd t).1)/\Off (H 2) w w':=by
 have hsp:K.sp=false:=by
  cases e:K.sp with
  | false=>rfl
  | true=>rw[hf.sp e] at ho;cases ho
 have hring:MRingAt w w0.heap.size rm bm v K.L false:=by have:=h.ring;rwa [hsp] at this
 have hS:∀ V,Off (fun k=>k=bm\/k=rm\/v.ownBlock=some k) w V->Off (H 2) w V:=fun V hV=>hV.mono (fun k _ hk=>by
  rcases hk with rfl | rfl | hk
  ·exact h.hm
  ·exact h.hr
  ·exact h.hv k hk)
 have hlast:=hf.last
 by_cases hq:(lastR K.L).seq=4294967295
 ·have hB:K.app i kd t=(K,7):=by unfold KSt.app;rw[if_neg (by rw[hsp];simp),if_pos hq]
  rw[hB]
  refine(mappend_full w0.heap.size rm bm v K.L m i kd t w hring h.mod h1 h2 h3 hf.llen hq).mono ?_;rintro e w' ⟨rfl,hof,hmo,hri⟩;have hof':Off (H 2) w w':=hS w' (hof.mono (fun k _ hk=>Or.inl hk));have:=h.toRing hof' hmo h.sim hri (fun k hk=>Or.inl hk);rw[show ({ K with c:=K.c,L:=K.L,sp:=false }:KSt)=K by rw[<- hsp]] at this;exact⟨.none,rfl,⟨v,m,this⟩,hof'⟩
 ·refine(mappend_go w0.heap.size rm bm v K.L K.c m i kd t w hring h.mod h.sim hf.big.size ho (by have:=hf.wr;omega) h1 h2 h3 hf.llen (by omega) h.bel.size).mono ?_;rintro e w' ⟨m',hsim,hmo,hof,hh⟩;have hof':=hS w' hof
  rcases hh with ⟨j,hj,rfl,hri⟩ | ⟨h0,rfl,v',hri,hv⟩
  ·have hB:K.app i kd t=({ K with c:=(K.c.putRec (nextR K.L i kd t)).1,sp:=true },j+1):=by unfold KSt.app;rw[if_neg (by rw[hsp];simp),if_neg hq,if_neg (by omega),hj]
   rw[hB];exact⟨.none,rfl,⟨v,m',h.toRing hof' hmo hsim hri (fun k hk=>Or.inl hk)⟩,hof'⟩
  ·have hB:K.app i kd t=({ K with c:=(K.c.putRec (nextR K.L i kd t)).1,L:=keepL K.L (nextR K.L i kd t) },0):=by unfold KSt.app;rw[if_neg (by rw[hsp];simp),if_neg hq,if_pos h0]
   rw[hB];have:=h.toRing hof' hmo hsim hri hv;rw[<- hsp] at this;exact⟨_,rfl,⟨v',m',this⟩,hof'⟩
theorem KmIn.off {S:Nat->Prop}(h:KmIn H w0 w c ev kb bm bd rm bt v lv m bs K)(ho:Off S w w')(hS:∀ i k,H i k->¬S k)(hB:∀ k,S k->w0.heap.size<=k):KmIn H w0 w' c ev kb bm bd rm bt v lv m bs K:=by
 have hs:∀ i k,H i k->w'.heap[k]?=w.heap[k]?:=fun i k hk=>ho.block k (h.fam.lt i k hk) (hS i k hk)
 exact⟨h.fam.grow ho.size,(hs 0 kb h.hk).trans h.row,h.hk,SlOwn.same h.own (fun g hg=>hs 1 g (h.hl g hg)),h.hl,h.mod.off ho (hS 2 bm h.hm),h.hm,h.sim,h.ring.off ho (hS 2 rm h.hr) (fun g hg=>hS 2 g (h.hv g hg)),h.hr,h.hv,h.dog.off ho (hS 3 bd h.hd),h.hd,(hs 4 bt h.ht).trans h.tot,h.ht,
  fun i b e s h1 h2 h3=>by obtain⟨E,h4,h5⟩:=h.loc i b e s h1 h2 h3;exact⟨E,h4.same (hs (5+i)),h5⟩,h.blen,h.llen,h.ents,Off.below h.bel ho h.bel.size hB⟩
theorem km_dtick (h:KmIn H w0 w c ev kb bm bd rm bt v lv m bs K)(hr:K.d.reset=false)(hn:K.d.now < 1099511627776) :
  Calls Tryz.prog 160 #[.pointer (some ⟨bd,0,none⟩)] w fun e w'=>e=.returned (.int .i64 0)/\KmIn (updH H 3 w w') w0 w' c ev kb bm bd rm bt v lv m bs K.ticked/\Off (H 3) w w':=by
 refine(mdog_tick bd K.d w h.dog hr hn).mono ?_;rintro e w' ⟨rfl,hd,hg⟩;have hof:Off (H 3) w w':=(Off.of_grown hg).mono (fun k _ e=>by rw[e];exact h.hd);exact⟨rfl,h.toDog hof hd,hof⟩
theorem km_dkick (h:KmIn H w0 w c ev kb bm bd rm bt v lv m bs K)(ho:K.d.isOpen=true) :
  Calls Tryz.prog 165 #[.pointer (some ⟨bd,0,none⟩)] w fun e w'=>e=.returned (.int .i64 0)/\KmIn (updH H 3 w w') w0 w' c ev kb bm bd rm bt v lv m bs { K with d:=K.d.kick }/\Off (H 3) w w':=by
 refine(mdog_kick bd K.d w h.dog ho).mono ?_;rintro e w' ⟨rfl,hd,hg⟩;have hof:Off (H 3) w w':=(Off.of_grown hg).mono (fun k _ e=>by rw[e];exact h.hd);exact⟨rfl,h.toDog hof hd,hof⟩
theorem km_tend (h:KmIn H w0 w c ev kb bm bd rm bt v lv m bs K)(hf:TFit K.t 20)(l:List ByteArray)(sa:Option Addr)(cap:Nat)(hl:∀ V,w.grownBy V (some bt)->SlAt encS 1 V (.slice sa l.length cap) l)(hn:l.length<=1000000) :
  Calls Tryz.prog 163 #[.pointer (some ⟨bt,0,none⟩),.slice sa l.length cap] w fun e w'=>e=.returned (.tuple #[])/\KmIn (updH H 4 w w') w0 w' c ev kb bm bd rm bt v lv m bs { K with t:=K.t.fin l }/\Off (H 4) w w':=by
 refine(tm_end (w0:=w0) (k:=20) l sa cap ⟨h.tot,h.bel,h.fam.lo 4 bt h.ht⟩ hf (by decide) hl hn).mono ?_;rintro e w' ⟨rfl,ht,hg⟩;have hof:Off (H 4) w w':=(Off.of_grown hg).mono (fun k _ e=>by rw[e];exact h.ht);exact⟨rfl,h.toTot hof ht.heap,hof⟩
theorem km_lend (h:KmIn H w0 w c ev kb bm bd rm bt v lv m bs K)(hr:KRt c)(hf:KFit c K k W)(hk:k<=1000)(hn:k+K.d.now<=900000){i b:Nat}{e:EntD}{s:LSt}{E:EA}(hs:K.ls[i]?=some s)(hb:bs[i]?=some b)(he:c.ents[i]?=some e)(hl:LmF (H (5+i)) w0.heap.size w b e E s)(hP:EntParts w0 e (.slice E.pa e.pts.length E.pc) (.slice E.ga e.gaps.length E.gc) (.slice E.ea e.edges.length E.ec) (.slice E.fa e.first.length E.fc) (.slice E.la e.last.length E.lc)) :
  Calls Tryz.prog 161 #[.pointer (some ⟨b,0,none⟩)] w fun u w'=>u=.returned (.tuple #[.int .i64 (s.kind e),.bool (s.turns e)])/\KmIn (updH H (5+i) w w') w0 w' c ev kb bm bd rm bt v lv m bs (K.setL i (s.fin e))/\Off (H (5+i)) w w':=by
 obtain⟨f1,f2,f3⟩:=hf.each s (List.mem_of_getElem? hs)
 refine(lmF_end hl h.bel (hP.below h.bel) (hr.each e (List.mem_of_getElem? he)).1 (f1.mono hn) (Nat.le_trans f2 hk) f3).mono ?_;rintro u w' ⟨rfl,h1,h2⟩;exact⟨rfl,h.toLoc h2 hb he h1 hP,h2⟩
end
section
variable {H:Nat->Nat->Prop}{F:Nat->Prop}{w0 w w':World}{c:CfgD}{ev:Value}{kb bm bd rm bt:Nat}{v lv:Value}{m:MSt}{bs:List Nat}{K:KSt}{k W:Nat}
theorem km_tick_off (h:KmAt F w0 w c ev kb bm K)(ho:K.on≠0) :
  Calls Tryz.prog 116 #[.pointer (some ⟨kb,0,none⟩)] w fun e w'=>e=.returned (.int .i64 ((K.tick c).2:Int))/\KmPost F w0 w c ev kb bm (K.tick c).1 w':=by
 have HS:Hid (KmPost F w0 w c ev kb bm K w):=KmPost.same h;obtain⟨H,bd,rm,bt,v,lv,m,bs,h1,hF⟩:=h;have HC:Hid (Calls Tryz.prog 111 #[.pointer (some ⟨kb,0,none⟩)] w fun e w'=>e=.returned (.int .i64 (K.on:Int))/\w'=w):=km_on h1;have HB:Hid (K.tick c=(K,K.on)):=by show _=_;unfold KSt.tick;rw[if_pos ho]
 clear h1 hF;have g0:¬(K.on:Int)=0:=by omega
 have g1:0 < (K.on:Int):=by omega
 go_enter Tryz.func116,Tryz.ntmps116
 go_wp2_with fail
 refine HC.out.mono ?_;rintro e w' ⟨rfl,rfl⟩;go_wp2;go_ret;rw[HB.out];exact⟨rfl,HS.out⟩
theorem KmPost.trans {V:World}{K1:KSt}(h1:KmPost F w0 w c ev kb bm K1 V)(h2:KmPost (gr F w V) w0 V c ev kb bm K w'):KmPost F w0 w c ev kb bm K w':=by
 obtain⟨⟨H,bd,rm,bt,v,lv,m,bs,h3,h4⟩,h5⟩:=h2;exact⟨⟨H,bd,rm,bt,v,lv,m,bs,h3,fun i k hk=>gr_gr h1.2.size h5.size (h4 i k hk)⟩,h1.2.gr h5⟩
theorem KmPost.below {V:World}(h:KmPost F w0 w c ev kb bm K w')(hb:Below w'.heap.size w' V):KmPost F w0 w c ev kb bm K V:=by
 obtain⟨⟨H,bd,rm,bt,v,lv,m,bs,h3,h4⟩,h5⟩:=h;exact⟨⟨H,bd,rm,bt,v,lv,m,bs,h3.below hb,fun i k hk=>(h4 i k hk).imp id (fun ⟨a,b⟩=>⟨a,Nat.lt_of_lt_of_le b hb.size⟩)⟩,h5.trans (Off.of_below hb F) (fun _ _ h=>h)⟩
set_option maxHeartbeats 4000000 in
set_option maxRecDepth 100000 in
theorem km_tick_short (h:KmAt F w0 w c ev kb bm K)(hr:KRt c)(hn:K.d.now < 1099511627776)(ho:K.on=0)(hs:K.ticked.d.reset=true\/K.ticked.d.now % c.cycle.toNat≠0) :
  Calls Tryz.prog 116 #[.pointer (some ⟨kb,0,none⟩)] w fun e w'=>e=.returned (.int .i64 ((K.tick c).2:Int))/\KmPost F w0 w c ev kb bm (K.tick c).1 w':=by
 obtain⟨H,bd,rm,bt,v,lv,m,bs,h1,hF⟩:=h;have HC:Hid (Calls Tryz.prog 111 #[.pointer (some ⟨kb,0,none⟩)] w fun e w'=>e=.returned (.int .i64 (K.on:Int))/\w'=w):=km_on h1;have c6:w.cell? ⟨kb,6,none⟩=some (.pointer (some ⟨bd,0,none⟩)):=h1.cell 6 _ rfl;rw[ho] at HC;obtain⟨o1,o2⟩:=KSt.on_zero.1 ho;have H1:Hid _:=h1;have HF:Hid _:=hF;clear h1 hF
 cases hre:K.ticked.d.reset
 ·have hmod:K.ticked.d.now % c.cycle.toNat≠0:=by
   rcases hs with hs | hs
   ·rw[hre] at hs;cases hs
   ·exact hs
  have HB:Hid (K.tick c=(K.ticked,0)):=by show _=_;unfold KSt.tick;rw[if_neg (by omega),if_neg (by rw[hre];simp),if_pos hmod]
  go_enter Tryz.func116,Tryz.ntmps116
  go_wp2_with fail
  refine HC.out.mono ?_;rintro e w' ⟨rfl,rfl⟩;go_wp2_with fail
  refine(km_dtick H1.out o2 hn).mono ?_;rintro e w2 ⟨rfl,h2,hof⟩;have e6:w2.cell? ⟨kb,6,none⟩=some (.pointer (some ⟨bd,0,none⟩)):=h2.cell 6 _ rfl;have e2:w2.cell? ⟨kb,2,none⟩=some (.int .i64 c.cycle):=h2.cell 2 _ rfl;have d2:=h2.dog.c2;have d5:=h2.dog.c5;rw[hre] at d5;have hcy:=hr.cy;have H2:Hid _:=h2;clear h2;obtain⟨nw,hnw⟩:∃ n,n=K.ticked.d.now:=⟨_,rfl⟩;obtain⟨cy,hcy2⟩:∃ n:Nat,c.cycle=(n:Int):=⟨c.cycle.toNat,by omega⟩;rw[<- hnw] at d2 hmod;rw[hcy2] at e2;have hcn:c.cycle.toNat=cy:=by omega
  rw[hcn] at hmod;have z0:¬(cy:Int)=0:=by omega
  clear hcy hcn hnw hs hn hcy2 hr;go_wp2_with fail
  go_quiet (fail)
  have q1:¬(nw:Int) % (cy:Int)=0:=by omega
  go_wp2;go_ret;rw[HB.out];exact⟨rfl,(KmIn.post HF.out hof H2.out).below (below_drewN (Below.refl _ _) _)⟩
 ·have HB:Hid (K.tick c=(K.ticked,11)):=by show _=_;unfold KSt.tick;rw[if_neg (by omega),if_pos hre]
  clear hs;go_enter Tryz.func116,Tryz.ntmps116
  go_wp2_with fail
  refine HC.out.mono ?_;rintro e w' ⟨rfl,rfl⟩;go_wp2_with fail
  refine(km_dtick H1.out o2 hn).mono ?_;rintro e w2 ⟨rfl,h2,hof⟩;have e6:w2.cell? ⟨kb,6,none⟩=some (.pointer (some ⟨bd,0,none⟩)):=h2.cell 6 _ rfl;have d5:=h2.dog.c5;rw[hre] at d5;have H2:Hid _:=h2;clear h2;go_wp2;go_ret;rw[HB.out];exact⟨rfl,KmIn.post HF.out hof H2.out⟩
end
section
variable {H:Nat->Nat->Prop}{F:Nat->Prop}{w0 w w':World}{c:CfgD}{ev:Value}{kb bm bd rm bt:Nat}{v lv:Value}{m:MSt}{bs:List Nat}{K:KSt}{k W:Nat}
structure KmLp (H:Nat->Nat->Prop)(F:Nat->Prop)(w0 w wr:World)(c:CfgD)(ev:Value)(kb bm bd rm bt:Nat)(v lv:Value)(m:MSt)(bs:List Nat)(K:KSt)(kv:Value)(xs:List ByteArray):Prop where
 km:KmIn H w0 wr c ev kb bm bd rm bt v lv m bs K
 hF:∀ i k,H i k->gr F w wr k
 off:Off F w wr
 own:SlOwn encS 1 9 w.heap.size wr kv xs
 no:∀ k,kv.ownBlock=some k->∀ i,¬H i k
section
variable {wr wr':World}{kv:Value}{xs:List ByteArray}{v':Value}{m':MSt}{K':KSt}
theorem KmLp.step (h:KmLp H F w0 w wr c ev kb bm bd rm bt v lv m bs K kv xs){i:Nat}(hof:Off (H i) wr wr')(h2:KmIn (updH H i wr wr') w0 wr' c ev kb bm bd rm bt v' lv m' bs K'):KmLp (updH H i wr wr') F w0 w wr' c ev kb bm bd rm bt v' lv m' bs K' kv xs:=by
 refine⟨h2,fun j k hk=>?_,?_,SlOwn.same h.own (fun g hg=>hof.block g (h.own.lt g hg).2 (h.no g hg i)),fun k hk j hj=>?_⟩
 ·rcases hk with hk | ⟨_,a,b⟩
  ·rcases h.hF j k hk with a | ⟨a,b⟩
   ·exact Or.inl a
   ·exact Or.inr ⟨a,Nat.lt_of_lt_of_le b hof.size⟩
  ·exact Or.inr ⟨Nat.le_trans h.off.size a,b⟩
 ·exact h.off.trans hof (fun k hk hi=>by
   rcases h.hF i k hi with a | ⟨a,_⟩
   ·exact a
   ·omega)
 ·rcases hj with hj | ⟨_,a,_⟩
  ·exact h.no k hk j hj
  ·have:=(h.own.lt k hk).2;omega
theorem KmLp.below (h:KmLp H F w0 w wr c ev kb bm bd rm bt v lv m bs K kv xs)(hb:Below wr.heap.size wr wr'):KmLp H F w0 w wr' c ev kb bm bd rm bt v lv m bs K kv xs:=
 ⟨h.km.below hb,fun i k hk=>(h.hF i k hk).imp id (fun ⟨a,b⟩=>⟨a,Nat.lt_of_lt_of_le b hb.size⟩),h.off.trans (Off.of_below hb F) (fun _ _ h=>h),h.own.below hb,h.no⟩
theorem KmLp.post (h:KmLp H F w0 w wr c ev kb bm bd rm bt v lv m bs K kv xs):KmPost F w0 w c ev kb bm K wr:=⟨⟨_,_,_,_,_,_,_,_,h.km,h.hF⟩,h.off⟩
theorem KmLp.more (h:KmLp H F w0 w wr c ev kb bm bd rm bt v lv m bs K kv xs)(hw:w0.heap.size<=w.heap.size){o:Obj}{y:ByteArray}{g cap n:Nat}(hn:xs.length+1=n)(hown:wr'.ownsRow w.heap.size 9 1 (.slice (some ⟨g,0,none⟩) n cap) n (xs.flatMap encS++[.string y]))(hg:(wr.alloc o).grownBy wr' kv.ownBlock)(hor:kv.ownBlock=some g\/g=wr.heap.size+1):KmLp H F w0 w wr' c ev kb bm bd rm bt v lv m bs K (.slice (some ⟨g,0,none⟩) n cap) (xs++[y]):=by
 have h1:=h.below (Below.one wr o);have hof:Off (fun k=>kv.ownBlock=some k) (wr.alloc o) wr':=⟨hg.os,hg.tape,hg.output,hg.size,fun k hk hn=>hg.block k hk (fun e=>hn e.symm)⟩;have hlt:∀ k,kv.ownBlock=some k->w.heap.size<=k:=fun k hk=>(h.own.lt k hk).1
 refine⟨h1.km.off hof (fun i k hk e=>h.no k e i hk) (fun k hk=>Nat.le_trans hw (hlt k hk)),fun i k hk=>(h1.hF i k hk).imp id (fun ⟨a,b⟩=>⟨a,Nat.lt_of_lt_of_le b hof.size⟩),h1.off.trans hof (fun k hk e=>absurd (hlt k e) (by omega)),?_,fun k hk i hi=>?_⟩
 ·have e:(xs++[y]).flatMap encS=xs.flatMap encS++[.string y]:=by rw[List.flatMap_append];rfl
  show wr'.ownsRow _ _ _ _ _ _
  rw[e,List.length_append,List.length_singleton,hn];exact hown
 ·cases hk
  rcases hor with hor | hor
  ·exact h.no g hor i hi
  ·have:=h.km.fam.lt i g hi;omega
theorem KmLp.scratch (h:KmLp H F w0 w wr c ev kb bm bd rm bt v lv m bs K kv xs)(hw:w0.heap.size<=w.heap.size){g:Nat}(ho:Off (fun k=>k=g) wr wr')(h1:∀ i,¬H i g)(h2:kv.ownBlock≠some g)(h3:w.heap.size<=g):KmLp H F w0 w wr' c ev kb bm bd rm bt v lv m bs K kv xs:=
 ⟨h.km.off ho (fun i k hk e=>by rw[e] at hk;exact h1 i hk) (fun k hk=>by rw[hk];omega),fun i k hk=>(h.hF i k hk).imp id (fun ⟨a,b⟩=>⟨a,Nat.lt_of_lt_of_le b ho.size⟩),h.off.trans ho (fun k hk e=>absurd hk (by rw[e];omega)),SlOwn.same h.own (fun g' hg=>ho.block g' (h.own.lt g' hg).2 (fun e=>by rw[e] at hg;exact h2 hg)),h.no⟩
theorem KmLp.append (h:KmLp H F w0 w wr c ev kb bm bd rm bt v lv m bs K kv xs)(hf:KFit c K k W)(hW:W+18<=1099511627776)(ho:K.c.off=false)(i kd t:Nat)(h1:i<=255)(h2:kd<=255)(h3:t<=281474976710655)(V:World)(hV:Below wr.heap.size wr V) :
  Calls Tryz.prog 162 #[.pointer (some ⟨rm,0,none⟩),.int .i64 (i:Int),.int .i64 (kd:Int),.int .i64 (t:Int)] V fun e w'=>∃ r:Rec,e=.returned (.tuple #[r.val,.int .i64 ((K.app i kd t).2:Int)])/\∃ H' v' m',KmLp H' F w0 w w' c ev kb bm bd rm bt v' lv m' bs (K.app i kd t).1 kv xs/\V.heap.size<=w'.heap.size/\(∀ i k,H' i k->k < wr.heap.size\/V.heap.size<=k)/\∀ q,wr.heap.size<=q->q < V.heap.size->w'.heap[q]?=V.heap[q]?:=by
 have hl:=h.below hV
 refine(km_app hl.km hf hW ho i kd t h1 h2 h3).mono ?_;rintro e w' ⟨r,rfl,⟨v',m',hk⟩,hof⟩
 refine⟨r,rfl,_,v',m',hl.step hof hk,hof.size,fun i k hk=>?_,fun q h1 h2=>hof.block q h2 (fun hq=>by have:=h.km.fam.lt 2 q hq;omega)⟩
 rcases hk with hk | ⟨_,a,_⟩
 ·exact Or.inl (h.km.fam.lt i k hk)
 ·exact Or.inr a
end
end
end Go.Proofs.YtdpdbfhbojgigacGreatDoor
