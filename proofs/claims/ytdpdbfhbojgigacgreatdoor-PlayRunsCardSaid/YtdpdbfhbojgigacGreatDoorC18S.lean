/-
  Several texts as one: KeMem, KeOps, KeActs.
-/
import Derived.Test.YtdpdbfhbojgigacGreatDoorC17S
import Derived.BigQuiet
import Derived.Deep.QuietTactic
import Derived.Deep.DeepCutAuto
import Derived.WalkSmall
namespace Go.Proofs.YtdpdbfhbojgigacGreatDoor
open Go.RowKit Go.Extern.Stop Go.Stop Go.Extern
section
variable {F F':Nat->Prop}{B:Nat}{w w':World}{b rb bc:Nat}{e:EntD}{s s':LSt}{cs:CSt}{L:List Rec}{sp:Bool}
theorem LoS.grow (h:LoS F w b e s)(hF:∀ k,F k->F' k)(hl:∀ k,F' k->k < w.heap.size):LoS F' w b e s:=by
 obtain⟨E,so,h1,h2⟩:=h.ex;exact⟨⟨E,so,h1.mono (fun k _ hk=>hF k hk),h2⟩,hl⟩
theorem LoS.idle (h:LoS F w b e s)(h1:s.act=false)(h2:s'.act=false):LoS F w b e s':=by
 obtain⟨E,so,h3,h4⟩:=h.ex
 cases so with
 | none=>exact⟨⟨E,none,h3,h2⟩,h.lt⟩
 | some n=>
  have:=NSim.act h4;rw[h1] at this
  cases this
theorem RgS.grow (h:RgS F B w rb bc cs L sp)(hF:∀ k,F k->F' k)(hl:∀ k,F' k->k < w.heap.size):RgS F' B w rb bc cs L sp:=by
 obtain⟨v,h1,h2⟩:=h.ring;exact⟨⟨v,h1,fun k hk=>hF k (h2 k hk)⟩,h.cells,hF _ h.fr,hF _ h.fc,h.ne,hl⟩
end
structure SenK (A:Nat->Addr)(w:World):Prop where
 c1:w.cell? ⟨1,0,none⟩=some (.iface 298 (.pointer (some (A 1))))
 c2:w.cell? ⟨3,0,none⟩=some (.iface 298 (.pointer (some (A 2))))
 c3:w.cell? ⟨8,0,none⟩=some (.iface 298 (.pointer (some (A 3))))
 c4:w.cell? ⟨5,0,none⟩=some (.iface 298 (.pointer (some (A 4))))
 c5:w.cell? ⟨9,0,none⟩=some (.iface 298 (.pointer (some (A 5))))
 c6:w.cell? ⟨10,0,none⟩=some (.iface 298 (.pointer (some (A 6))))
 c7:w.cell? ⟨2,0,none⟩=some (.iface 298 (.pointer (some (A 7))))
 c8:w.cell? ⟨4,0,none⟩=some (.iface 298 (.pointer (some (A 8))))
 c9:w.cell? ⟨0,0,none⟩=some (.iface 298 (.pointer (some (A 9))))
 c10:w.cell? ⟨6,0,none⟩=some (.iface 298 (.pointer (some (A 10))))
theorem SenK.below {A:Nat->Addr}{w w':World}(h:SenK A w)(hb:Below w.heap.size w w'):SenK A w':=
 ⟨cell_below hb h.c1,cell_below hb h.c2,cell_below hb h.c3,cell_below hb h.c4,cell_below hb h.c5,cell_below hb h.c6,cell_below hb h.c7,cell_below hb h.c8,cell_below hb h.c9,cell_below hb h.c10⟩
theorem Senv.ten {A:Nat->Addr}{w:World}(h:Senv A w):SenK A w:=⟨h.c1,h.c2,h.c3,h.c4,h.c5,h.c6,h.c7,h.c8,h.c9,h.c10⟩
theorem SenK.four {A:Nat->Addr}{w:World}(h:SenK A w):Sen4 A w:=⟨h.c1,h.c2,h.c6,h.c7⟩
theorem SenK.gf {A:Nat->Addr}{w:World}(h:SenK A w):11<=w.heap.size:=by
 have h1:=block_lt h.c1;have h2:=block_lt h.c2;have h3:=block_lt h.c6;have h4:=block_lt h.c7;simp only[] at h1 h2 h3 h4;omega
def keRow (c:CfgD)(bd bc:Nat)(rv lv tv:Value):Array Value:=#[.pointer (some ⟨bd,0,none⟩),.int .i64 c.cycle,.pointer (some ⟨bc,0,none⟩),.int .i64 c.delay,rv,lv,tv]
structure KeIn (H:Nat->Nat->Prop)(w0 w:World)(c:CfgD)(kb bc bd rb bt:Nat)(lv:Value)(bs:List Nat)(K:KSt):Prop where
 fam:Fam H w0.heap.size w
 row:w.heap[kb]?=some (.cells (keRow c bd bc (.pointer (some ⟨rb,0,none⟩)) lv (.pointer (some ⟨bt,0,none⟩))) 102 (0,0))
 hk:H 0 kb
 own:SlOwn encB 1 93 w0.heap.size w lv bs
 hl:∀ k,lv.ownBlock=some k->H 1 k
 ring:RgS (H 2) w0.heap.size w rb bc K.c K.L K.sp
 dog:DogAt w bd K.d
 hd:H 3 bd
 tot:w.heap[bt]?=some (.cells (toRow K.t) 160 (0,0))
 ht:H 4 bt
 loc:∀ i b e s,bs[i]?=some b->c.ents[i]?=some e->K.ls[i]?=some s->LoS (H (5+i)) w b e s
 blen:bs.length=c.ents.length
 llen:K.ls.length=c.ents.length
 bel:Below w0.heap.size w0 w
section
variable {H:Nat->Nat->Prop}{F:Nat->Prop}{w0 w w':World}{c:CfgD}{kb bc bd rb bt:Nat}{lv:Value}{bs:List Nat}{K:KSt}
theorem KeIn.offB (h:KeIn H w0 w c kb bc bd rb bt lv bs K){i:Nat}(ho:Off (H i) w w'):Below w0.heap.size w0 w':=Off.below h.bel ho h.bel.size (fun k hk=>h.fam.lo i k hk)
theorem KeIn.fam' (h:KeIn H w0 w c kb bc bd rb bt lv bs K){i:Nat}(ho:Off (H i) w w'):Fam (updH H i w w') w0.heap.size w':=h.fam.upd ho.size h.bel.size i
theorem KeIn.ring' (h:KeIn H w0 w c kb bc bd rb bt lv bs K){i:Nat}(ho:Off (H i) w w')(hi:2≠i):RgS (updH H i w w' 2) w0.heap.size w' rb bc K.c K.L K.sp:=
 (h.ring.off ho (fun _ hk=>h.fam.not hi hk)).grow (fun _ hk=>Or.inl hk) (fun k hk=>(h.fam' ho).lt 2 k hk)
theorem KeIn.loc' (h:KeIn H w0 w c kb bc bd rb bt lv bs K){i:Nat}(ho:Off (H i) w w'){j b:Nat}{e:EntD}{s:LSt}(hl:LoS (H (5+j)) w b e s)(hj:5+j≠i):LoS (updH H i w w' (5+j)) w' b e s:=
 (hl.same (h.fam.keep hj ho) ho.size).grow (fun _ hk=>Or.inl hk) (fun k hk=>(h.fam' ho).lt _ k hk)
theorem KeIn.off {S:Nat->Prop}(h:KeIn H w0 w c kb bc bd rb bt lv bs K)(ho:Off S w w')(hS:∀ i k,H i k->¬S k)(hB:∀ k,S k->w0.heap.size<=k):KeIn H w0 w' c kb bc bd rb bt lv bs K:=by
 have hs:∀ i k,H i k->w'.heap[k]?=w.heap[k]?:=fun i k hk=>ho.block k (h.fam.lt i k hk) (hS i k hk)
 exact⟨h.fam.grow ho.size,(hs 0 kb h.hk).trans h.row,h.hk,SlOwn.same h.own (fun g hg=>hs 1 g (h.hl g hg)),h.hl,h.ring.off ho (fun k hk=>hS 2 k hk),h.dog.off ho (hS 3 bd h.hd),h.hd,(hs 4 bt h.ht).trans h.tot,h.ht,
  fun i b e s h1 h2 h3=>(h.loc i b e s h1 h2 h3).same (hs (5+i)) ho.size,h.blen,h.llen,Off.below h.bel ho h.bel.size hB⟩
theorem KeIn.below (h:KeIn H w0 w c kb bc bd rb bt lv bs K)(hb:Below w.heap.size w w'):KeIn H w0 w' c kb bc bd rb bt lv bs K:=
 h.off (Off.of_below hb (fun _=>False)) (fun _ _ _ e=>e) (fun _ e=>e.elim)
theorem KeIn.toDog (h:KeIn H w0 w c kb bc bd rb bt lv bs K)(ho:Off (H 3) w w'){d:DSt}(hd:DogAt w' bd d):KeIn (updH H 3 w w') w0 w' c kb bc bd rb bt lv bs { K with d:=d }:=
 ⟨h.fam' ho,(h.fam.keep (show 0≠3 by decide) ho kb h.hk).trans h.row,Or.inl h.hk,SlOwn.same h.own (fun g hg=>h.fam.keep (show 1≠3 by decide) ho g (h.hl g hg)),fun k hk=>Or.inl (h.hl k hk),
  h.ring' ho (by decide),hd,Or.inl h.hd,(h.fam.keep (show 4≠3 by decide) ho bt h.ht).trans h.tot,Or.inl h.ht,
  fun i b e s h1 h2 h3=>h.loc' ho (h.loc i b e s h1 h2 h3) (by omega),h.blen,h.llen,h.offB ho⟩
theorem KeIn.toTot (h:KeIn H w0 w c kb bc bd rb bt lv bs K)(ho:Off (H 4) w w'){t:TSt}(ht:w'.heap[bt]?=some (.cells (toRow t) 160 (0,0))):KeIn (updH H 4 w w') w0 w' c kb bc bd rb bt lv bs { K with t:=t }:=
 ⟨h.fam' ho,(h.fam.keep (show 0≠4 by decide) ho kb h.hk).trans h.row,Or.inl h.hk,SlOwn.same h.own (fun g hg=>h.fam.keep (show 1≠4 by decide) ho g (h.hl g hg)),fun k hk=>Or.inl (h.hl k hk),
  h.ring' ho (by decide),h.dog.off ho (h.fam.not (show 3≠4 by decide) h.hd),Or.inl h.hd,ht,Or.inl h.ht,
  fun i b e s h1 h2 h3=>h.loc' ho (h.loc i b e s h1 h2 h3) (by omega),h.blen,h.llen,h.offB ho⟩
theorem KeIn.toRing (h:KeIn H w0 w c kb bc bd rb bt lv bs K)(ho:Off (H 2) w w'){s:CSt}{L:List Rec}{sp:Bool}(hr:RgS (gr (H 2) w w') w0.heap.size w' rb bc s L sp):KeIn (updH H 2 w w') w0 w' c kb bc bd rb bt lv bs { K with c:=s,L:=L,sp:=sp }:=
 ⟨h.fam' ho,(h.fam.keep (show 0≠2 by decide) ho kb h.hk).trans h.row,Or.inl h.hk,SlOwn.same h.own (fun g hg=>h.fam.keep (show 1≠2 by decide) ho g (h.hl g hg)),fun k hk=>Or.inl (h.hl k hk),
  hr.grow (fun k hk=>hk.imp id (fun a=>⟨rfl,a⟩)) (fun k hk=>(h.fam' ho).lt 2 k hk),h.dog.off ho (h.fam.not (show 3≠2 by decide) h.hd),Or.inl h.hd,(h.fam.keep (show 4≠2 by decide) ho bt h.ht).trans h.tot,Or.inl h.ht,
  fun i b e s h1 h2 h3=>h.loc' ho (h.loc i b e s h1 h2 h3) (by omega),h.blen,h.llen,h.offB ho⟩
theorem KeIn.toLoc (h:KeIn H w0 w c kb bc bd rb bt lv bs K){i b:Nat}{e:EntD}{s:LSt}(ho:Off (H (5+i)) w w')(hb:bs[i]?=some b)(he:c.ents[i]?=some e)(hl:LoS (gr (H (5+i)) w w') w' b e s):KeIn (updH H (5+i) w w') w0 w' c kb bc bd rb bt lv bs (K.setL i s):=
 ⟨h.fam' ho,(h.fam.keep (show 0≠5+i by omega) ho kb h.hk).trans h.row,Or.inl h.hk,SlOwn.same h.own (fun g hg=>h.fam.keep (show 1≠5+i by omega) ho g (h.hl g hg)),fun k hk=>Or.inl (h.hl k hk),
  h.ring' ho (by omega),h.dog.off ho (h.fam.not (show 3≠5+i by omega) h.hd),Or.inl h.hd,(h.fam.keep (show 4≠5+i by omega) ho bt h.ht).trans h.tot,Or.inl h.ht,
  fun j b' e' s' h1 h2 h3=>by
   by_cases hj:j=i
   ·subst hj;rw[hb] at h1;rw[he] at h2
    cases h1;cases h2
    have:s'=s:=by
     have h4:(K.ls.set j s)[j]?=some s':=h3;rw[List.getElem?_set_self (by rw[h.llen];exact(List.getElem?_eq_some_iff.1 he).1)] at h4;exact(Option.some.inj h4).symm
    subst this;exact hl.grow (fun k hk=>hk.imp id (fun h5=>⟨rfl,h5⟩)) (fun k hk=>(h.fam' ho).lt _ k hk)
   ·have h4:(K.ls.set i s)[j]?=some s':=h3;rw[List.getElem?_set_ne (fun e=>hj e.symm)] at h4;exact h.loc' ho (h.loc j b' e' s' h1 h2 h4) (by omega),h.blen,by show (K.ls.set i s).length=_;rw[List.length_set];exact h.llen,h.offB ho⟩
theorem KeIn.cell (h:KeIn H w0 w c kb bc bd rb bt lv bs K)(j:Nat)(u:Value)(hu:(keRow c bd bc (.pointer (some ⟨rb,0,none⟩)) lv (.pointer (some ⟨bt,0,none⟩)))[j]?=some u):w.cell? ⟨kb,j,none⟩=some u:=by
 simp[World.cell?,h.row,hu]
theorem KeIn.to (h:KeIn H w0 w c kb bc bd rb bt lv bs K):ToIn w0 w bt K.t:=⟨h.tot,h.bel,h.fam.lo 4 bt h.ht⟩
theorem KeIn.locAt (h:KeIn H w0 w c kb bc bd rb bt lv bs K){i:Nat}{s:LSt}(hs:K.ls[i]?=some s):∃ (b:Nat) (e:EntD) (g cap:Nat),bs[i]?=some b/\c.ents[i]?=some e/\lv=.slice (some ⟨g,0,none⟩) K.ls.length cap/\w.cell? ⟨g,i,none⟩=some (.pointer (some ⟨b,0,none⟩))/\LoS (H (5+i)) w b e s:=by
 have hi:i < K.ls.length:=(List.getElem?_eq_some_iff.1 hs).1;obtain⟨b,hb⟩:∃ b,bs[i]?=some b:=⟨_,List.getElem?_eq_getElem (by rw[h.blen,<- h.llen];exact hi)⟩;obtain⟨e,he⟩:∃ e,c.ents[i]?=some e:=⟨_,List.getElem?_eq_getElem (by rw[<- h.llen];exact hi)⟩;have h1:=h.loc i b e s hb he hs;have hl:bs.length=K.ls.length:=by rw[h.blen,h.llen]
 obtain⟨-,hn | ⟨g,cap,cur,h3,-,h4,h5,h6,h7,h8⟩⟩:=h.own
 ·exact absurd hn.2 (by omega)
 ·rw[hl] at h3
  refine⟨b,e,g,cap,hb,he,h3,?_,h1⟩;have:=flat_at (enc:=encB) (k:=1) (fun _=>rfl) bs i 0 b _ hb rfl;simp only[Nat.mul_one,Nat.add_zero] at this;rw[<- h8,List.getElem?_take,if_pos (by omega)] at this;simp only[World.cell?,h4];simpa using this
end
def KeAt (F:Nat->Prop)(w0 w:World)(c:CfgD)(kb bc:Nat)(K:KSt):Prop:=
 ∃ H bd rb bt lv bs,KeIn H w0 w c kb bc bd rb bt lv bs K/\∀ i k,H i k->F k
def KePost (F:Nat->Prop)(w0 w:World)(c:CfgD)(kb bc:Nat)(K:KSt)(w':World):Prop:=KeAt (gr F w w') w0 w' c kb bc K/\Off F w w'
section
variable {H:Nat->Nat->Prop}{F:Nat->Prop}{w0 w w' V:World}{c:CfgD}{kb bc bd rb bt:Nat}{lv:Value}{bs:List Nat}{K K1:KSt}
theorem KePost.same (h:KeAt F w0 w c kb bc K):KePost F w0 w c kb bc K w:=by
 obtain⟨H,bd,rb,bt,lv,bs,h1,h2⟩:=h;exact⟨⟨H,bd,rb,bt,lv,bs,h1,fun i k hk=>Or.inl (h2 i k hk)⟩,Off.refl _ _⟩
theorem KeIn.post {i bd' rb' bt':Nat}{lv':Value}{bs':List Nat}{K':KSt}(hF:∀ i k,H i k->F k)(ho:Off (H i) w w')(h:KeIn (updH H i w w') w0 w' c kb bc bd' rb' bt' lv' bs' K'):KePost F w0 w c kb bc K' w':=
 ⟨⟨_,_,_,_,_,_,h,updH_all hF i⟩,Off.all hF ho⟩
theorem KePost.trans (h1:KePost F w0 w c kb bc K1 V)(h2:KePost (gr F w V) w0 V c kb bc K w'):KePost F w0 w c kb bc K w':=by
 obtain⟨⟨H,bd,rb,bt,lv,bs,h3,h4⟩,h5⟩:=h2;exact⟨⟨H,bd,rb,bt,lv,bs,h3,fun i k hk=>gr_gr h1.2.size h5.size (h4 i k hk)⟩,h1.2.gr h5⟩
theorem KePost.below (h:KePost F w0 w c kb bc K w')(hb:Below w'.heap.size w' V):KePost F w0 w c kb bc K V:=by
 obtain⟨⟨H,bd,rb,bt,lv,bs,h3,h4⟩,h5⟩:=h;exact⟨⟨H,bd,rb,bt,lv,bs,h3.below hb,fun i k hk=>(h4 i k hk).imp id (fun ⟨a,b⟩=>⟨a,Nat.lt_of_lt_of_le b hb.size⟩)⟩,h5.trans (Off.of_below hb F) (fun _ _ h=>h)⟩
theorem KeAt.bel (h:KeAt F w0 w c kb bc K):Below w0.heap.size w0 w:=by obtain⟨H,bd,rb,bt,lv,bs,h1,-⟩:=h;exact h1.bel
theorem KeAt.below (h:KeAt F w0 w c kb bc K)(hb:Below w.heap.size w w'):KeAt F w0 w' c kb bc K:=by
 obtain⟨H,bd,rb,bt,lv,bs,h1,h2⟩:=h;exact⟨H,bd,rb,bt,lv,bs,h1.below hb,h2⟩
theorem KeAt.off {S:Nat->Prop}(h:KeAt F w0 w c kb bc K)(ho:Off S w w')(hS:∀ k,F k->¬S k)(hB:∀ k,S k->w0.heap.size<=k):KeAt F w0 w' c kb bc K:=by
 obtain⟨H,bd,rb,bt,lv,bs,h1,h2⟩:=h;exact⟨H,bd,rb,bt,lv,bs,h1.off ho (fun i k hk=>hS k (h2 i k hk)) hB,h2⟩
end
def KeTo (H:Nat->Nat->Prop)(w0 w:World)(c:CfgD)(kb bc bd rb bt:Nat)(lv:Value)(bs:List Nat)(K:KSt)(w':World):Prop:=
 ∃ H',KeIn H' w0 w' c kb bc bd rb bt lv bs K/\(∀ i k,H' i k->gr (fun k=>∃ i,H i k) w w' k)/\Off (fun k=>∃ i,H i k) w w'
section
variable {H H1:Nat->Nat->Prop}{F:Nat->Prop}{w0 w w' V:World}{c:CfgD}{kb bc bd rb bt:Nat}{lv:Value}{bs:List Nat}{K K1:KSt}
theorem KeTo.same (h:KeIn H w0 w c kb bc bd rb bt lv bs K):KeTo H w0 w c kb bc bd rb bt lv bs K w:=⟨H,h,fun i _ hk=>Or.inl ⟨i,hk⟩,Off.refl _ _⟩
theorem KeTo.one {i:Nat}(ho:Off (H i) w w')(h:KeIn (updH H i w w') w0 w' c kb bc bd rb bt lv bs K):KeTo H w0 w c kb bc bd rb bt lv bs K w':=⟨_,h,updH_all (fun i _ hk=>⟨i,hk⟩) i,Off.all (fun i _ hk=>⟨i,hk⟩) ho⟩
theorem KeTo.trans (hg:∀ i k,H1 i k->gr (fun k=>∃ i,H i k) w V k)(ho:Off (fun k=>∃ i,H i k) w V)(h:KeTo H1 w0 V c kb bc bd rb bt lv bs K w'):KeTo H w0 w c kb bc bd rb bt lv bs K w':=by
 obtain⟨H2,h1,h2,h3⟩:=h
 refine⟨H2,h1,fun i k hk=>?_,ho.trans h3 (fun k hk ⟨i,hi⟩=>?_)⟩
 ·rcases h2 i k hk with ⟨j,hj⟩ | ⟨a,b⟩
  ·exact(hg j k hj).imp id (fun ⟨a,b⟩=>⟨a,Nat.lt_of_lt_of_le b h3.size⟩)
  ·exact Or.inr ⟨Nat.le_trans ho.size a,b⟩
 ·rcases hg i k hi with a | ⟨a,_⟩
  ·exact a
  ·omega
theorem KeTo.post (h:KeTo H w0 w c kb bc bd rb bt lv bs K w')(hF:∀ i k,H i k->F k):KePost F w0 w c kb bc K w':=by
 obtain⟨H2,h1,h2,h3⟩:=h;exact⟨⟨H2,_,_,_,_,_,h1,fun i k hk=>(h2 i k hk).imp (fun ⟨j,hj⟩=>hF j k hj) id⟩,h3.mono (fun k _ ⟨j,hj⟩=>hF j k hj)⟩
end
section
variable {A:Nat->Addr}{H:Nat->Nat->Prop}{F:Nat->Prop}{w0 w w':World}{c:CfgD}{kb bc bd rb bt:Nat}{lv:Value}{bs:List Nat}{K:KSt}{k W:Nat}
theorem KeIn.senv (h:KeIn H w0 w c kb bc bd rb bt lv bs K)(hs:SenK A w0):SenK A w:=hs.below h.bel
theorem ke_state (h:KeIn H w0 w c kb bc bd rb bt lv bs K) :
  Calls Tryz.prog 20 #[.pointer (some ⟨kb,0,none⟩)] w fun e w'=>e=.returned (.string (stateB K.on))/\w'=w:=by
 have c2:w.cell? ⟨kb,2,none⟩=some (.pointer (some ⟨bc,0,none⟩)):=h.cell 2 _ rfl;have c0:w.cell? ⟨kb,0,none⟩=some (.pointer (some ⟨bd,0,none⟩)):=h.cell 0 _ rfl;have HP:Hid _:=power_any bc K.c w h.ring.cells;have HD:Hid _:=dog_reset bd K.d w h.dog;clear h
 cases ho:K.c.off
 ·cases hr:K.d.reset
  ·have HO:Hid (K.on=0):=by show _=_;unfold KSt.on;rw[ho,hr];rfl
   rw[ho] at HP;rw[hr] at HD;go_enter Tryz.func20,Tryz.ntmps20
   go_wp2_with fail
   refine Calls.mono HP.out ?_;rintro e w' ⟨rfl,rfl⟩;go_wp2_with fail
   refine Calls.mono HD.out ?_;rintro e w' ⟨rfl,rfl⟩;go_wp2;go_ret;exact⟨by rw[HO.out];rfl,rfl⟩
  ·have HO:Hid (K.on=11):=by show _=_;unfold KSt.on;rw[ho,hr];rfl
   rw[ho] at HP;rw[hr] at HD;go_enter Tryz.func20,Tryz.ntmps20
   go_wp2_with fail
   refine Calls.mono HP.out ?_;rintro e w' ⟨rfl,rfl⟩;go_wp2_with fail
   refine Calls.mono HD.out ?_;rintro e w' ⟨rfl,rfl⟩;go_wp2;go_ret;exact⟨by rw[HO.out];rfl,rfl⟩
 ·have HO:Hid (K.on=8):=by show _=_;unfold KSt.on;rw[ho];rfl
  rw[ho] at HP;go_enter Tryz.func20,Tryz.ntmps20
  go_wp2_with fail
  refine Calls.mono HP.out ?_;rintro e w' ⟨rfl,rfl⟩;go_wp2;go_ret;exact⟨by rw[HO.out];rfl,rfl⟩
theorem ke_ready (h:KeIn H w0 w c kb bc bd rb bt lv bs K)(hs:SenK A w0) :
  Calls Tryz.prog 62 #[.pointer (some ⟨kb,0,none⟩)] w fun e w'=>e=.returned (errVal A K.on)/\w'=w:=by
 have HC:Hid _:=ke_state h;have g7:=(h.senv hs).c7;have g10:=(h.senv hs).c10;clear h hs
 rcases K.on_cases with ho | ho | ho
 all_goals
  rw[ho] at HC ⊢;go_enter Tryz.func62,Tryz.ntmps62
  go_wp2_with fail
  refine Calls.mono HC.out ?_;rintro e w' ⟨rfl,rfl⟩
  first | rw[show stateB 0=⟨#[111,110]⟩ from rfl] | rw[show stateB 8=⟨#[111,102,102]⟩ from rfl] | rw[show stateB 11=⟨#[114,101,115,101,116]⟩ from rfl]
  go_wp2;go_ret;exact⟨rfl,rfl⟩
theorem ke_find_no (i:Int)(h:KeIn H w0 w c kb bc bd rb bt lv bs K)(hs:SenK A w0)(hi:i < 0\/(K.ls.length:Int)<=i) :
  Calls Tryz.prog 88 #[.pointer (some ⟨kb,0,none⟩),.int .i64 i] w fun e w'=>e=.returned (.tuple #[.pointer none,errVal A 5])/\Below w.heap.size w w':=by
 have c5:w.cell? ⟨kb,5,none⟩=some lv:=h.cell 5 _ rfl;have g4:=(h.senv hs).c4;obtain⟨la,lc,rfl⟩:=ow_form h.own;rw[show bs.length=K.ls.length by rw[h.blen,h.llen]] at c5;clear h hs
 by_cases h0:i < 0
 ·clear hi;go_enter Tryz.func88,Tryz.ntmps88
  go_wp2_with fail
  go_quiet (fail)
  go_wp2;go_ret2
  exact⟨rfl,below_drewN (Below.refl _ _) _⟩
 ·have h1:(K.ls.length:Int)<=i:=by omega
  clear hi;go_enter Tryz.func88,Tryz.ntmps88
  go_wp2_with fail
  go_quiet (fail)
  go_wp2;go_ret2
  exact⟨rfl,below_drewN (Below.refl _ _) _⟩
theorem ke_find (n:Nat){b g cap:Nat}(h:KeIn H w0 w c kb bc bd rb bt lv bs K)(hn:n < K.ls.length)(hlv:lv=.slice (some ⟨g,0,none⟩) K.ls.length cap)(hc:w.cell? ⟨g,n,none⟩=some (.pointer (some ⟨b,0,none⟩))) :
  Calls Tryz.prog 88 #[.pointer (some ⟨kb,0,none⟩),.int .i64 (n:Int)] w fun e w'=>e=.returned (.tuple #[.pointer (some ⟨b,0,none⟩),.nilIface])/\w'=w:=by
 have c5:w.cell? ⟨kb,5,none⟩=some lv:=h.cell 5 _ rfl;subst hlv;clear h;have g0:¬(n:Int) < 0:=by omega
 have g1:¬(K.ls.length:Int)<=(n:Int):=by omega
 have g2:(n:Int) < (K.ls.length:Int):=by omega
 go_enter Tryz.func88,Tryz.ntmps88
 go_wp2;go_ret2
 exact⟨rfl,rfl⟩
theorem errVal_pos {j:Nat}(h:j≠0):∃ i,errVal A j=.iface 298 (.pointer (some (A i))):=by
 cases j with
 | zero=>exact absurd rfl h
 | succ i=>exact⟨i,rfl⟩
theorem ke_reach_off (i:Int)(h:KeIn H w0 w c kb bc bd rb bt lv bs K)(hs:SenK A w0)(ho:K.on≠0) :
  Calls Tryz.prog 53 #[.pointer (some ⟨kb,0,none⟩),.int .i64 i] w fun e w'=>e=.returned (.tuple #[.pointer none,errVal A K.on])/\w'=w:=by
 have HC:Hid _:=ke_ready h hs;clear h;obtain⟨j,hj⟩:=errVal_pos (A:=A) ho;rw[hj] at HC ⊢;go_enter Tryz.func53,Tryz.ntmps53
 go_wp2_with fail
 refine Calls.mono HC.out ?_;rintro e w' ⟨rfl,rfl⟩;go_wp2;go_ret2
 exact⟨rfl,rfl⟩
theorem ke_reach_no (i:Int)(h:KeIn H w0 w c kb bc bd rb bt lv bs K)(hs:SenK A w0)(ho:K.on=0)(hi:i < 0\/(K.ls.length:Int)<=i) :
  Calls Tryz.prog 53 #[.pointer (some ⟨kb,0,none⟩),.int .i64 i] w fun e w'=>e=.returned (.tuple #[.pointer none,errVal A 5])/\Below w.heap.size w w':=by
 have HC:Hid _:=ke_ready h hs;have HX:Hid _:=ke_find_no i h hs hi;clear h hi;rw[ho,show errVal A 0=.nilIface from rfl] at HC;go_enter Tryz.func53,Tryz.ntmps53
 go_wp2_with fail
 refine Calls.mono HC.out ?_;rintro e w' ⟨rfl,rfl⟩;go_wp2_with fail
 refine Calls.mono HX.out ?_;rintro e w2 ⟨rfl,hb⟩;go_wp2;go_ret2
 exact⟨rfl,hb⟩
theorem ke_reach (n:Nat){b g cap:Nat}(h:KeIn H w0 w c kb bc bd rb bt lv bs K)(hs:SenK A w0)(ho:K.on=0)(hn:n < K.ls.length)(hlv:lv=.slice (some ⟨g,0,none⟩) K.ls.length cap)(hc:w.cell? ⟨g,n,none⟩=some (.pointer (some ⟨b,0,none⟩))) :
  Calls Tryz.prog 53 #[.pointer (some ⟨kb,0,none⟩),.int .i64 (n:Int)] w fun e w'=>e=.returned (.tuple #[.pointer (some ⟨b,0,none⟩),.nilIface])/\w'=w:=by
 have HC:Hid _:=ke_ready h hs;have HX:Hid _:=ke_find n h hn hlv hc;clear h hlv hc hn;rw[ho,show errVal A 0=.nilIface from rfl] at HC;go_enter Tryz.func53,Tryz.ntmps53
 go_wp2_with fail
 refine Calls.mono HC.out ?_;rintro e w' ⟨rfl,rfl⟩;go_wp2_with fail
 refine Calls.mono HX.out ?_;rintro e w2 ⟨rfl,rfl⟩;go_wp2;go_ret2
 exact⟨rfl,rfl⟩
theorem ke_now (h:KeIn H w0 w c kb bc bd rb bt lv bs K) :
  Calls Tryz.prog 22 #[.pointer (some ⟨kb,0,none⟩)] w fun e w'=>e=.returned (.int .i64 (K.d.now:Int))/\w'=w:=by
 have c0:w.cell? ⟨kb,0,none⟩=some (.pointer (some ⟨bd,0,none⟩)):=h.cell 0 _ rfl;have HX:Hid _:=dog_now bd K.d w h.dog;clear h;go_enter Tryz.func22,Tryz.ntmps22
 go_wp2_with fail
 refine Calls.mono HX.out ?_;rintro e w' ⟨rfl,rfl⟩;go_wp2;go_ret;exact⟨rfl,rfl⟩
theorem ke_kicks (h:KeIn H w0 w c kb bc bd rb bt lv bs K) :
  Calls Tryz.prog 23 #[.pointer (some ⟨kb,0,none⟩)] w fun e w'=>e=.returned (.int .i64 (K.d.kicks:Int))/\w'=w:=by
 have c0:w.cell? ⟨kb,0,none⟩=some (.pointer (some ⟨bd,0,none⟩)):=h.cell 0 _ rfl;have HX:Hid _:=dog_kicks bd K.d w h.dog;clear h;go_enter Tryz.func23,Tryz.ntmps23
 go_wp2_with fail
 refine Calls.mono HX.out ?_;rintro e w' ⟨rfl,rfl⟩;go_wp2;go_ret;exact⟨rfl,rfl⟩
theorem ke_total (h:KeIn H w0 w c kb bc bd rb bt lv bs K) :
  Calls Tryz.prog 21 #[.pointer (some ⟨kb,0,none⟩)] w fun e w'=>e=.returned (.string (totB K.t.st))/\w'=w:=by
 have c6:w.cell? ⟨kb,6,none⟩=some (.pointer (some ⟨bt,0,none⟩)):=h.cell 6 _ rfl;have HX:Hid _:=to_status h.to;clear h;go_enter Tryz.func21,Tryz.ntmps21
 go_wp2_with fail
 refine Calls.mono HX.out ?_;rintro e w' ⟨rfl,rfl⟩;go_wp2;go_ret;exact⟨rfl,rfl⟩
end
section
variable {A:Nat->Addr}{H:Nat->Nat->Prop}{F:Nat->Prop}{w0 w w':World}{c:CfgD}{kb bc bd rb bt:Nat}{lv:Value}{bs:List Nat}{K:KSt}{k W:Nat}
theorem ent_cases (K:KSt)(i:Int):(i < 0\/(K.ls.length:Int)<=i)\/∃ (n:Nat) (s:LSt),i=(n:Int)/\K.ls[n]?=some s/\n < K.ls.length:=by
 by_cases h:i < 0\/(K.ls.length:Int)<=i
 ·exact Or.inl h
 ·exact Or.inr ⟨i.toNat,_,by omega,List.getElem?_eq_getElem (by omega),by omega⟩
theorem ent_none_begin {i:Int}(ho:K.on=0)(hi:i < 0\/(K.ls.length:Int)<=i):K.begin i=(K,5):=by
 unfold KSt.begin;rw[if_neg (by omega)]
 by_cases h0:i < 0
 ·rw[if_pos h0]
 ·rw[if_neg h0,List.getElem?_eq_none (by omega)]
set_option maxHeartbeats 1000000 in
theorem ke_begin (i:Int)(h:KeAt F w0 w c kb bc K)(hs:SenK A w0)(hr:KRt c) :
  Calls Tryz.prog 16 #[.pointer (some ⟨kb,0,none⟩),.int .i64 i] w fun e w'=>e=.returned (errVal A (K.begin i).2)/\KePost F w0 w c kb bc (K.begin i).1 w':=by
 have HS:Hid (KePost F w0 w c kb bc K w):=KePost.same h;obtain⟨H,bd,rb,bt,lv,bs,h1,hF⟩:=h
 by_cases ho:K.on=0
 ·rcases ent_cases K i with hi | ⟨n,s,rfl,hsn,hn⟩
  ·have HB:Hid (K.begin i=(K,5)):=ent_none_begin ho hi;have HX:Hid _:=ke_reach_no i h1 hs ho hi;rw[show errVal A 5=.iface 298 (.pointer (some (A 4))) from rfl] at HX;clear h1 hF hi ho hs hr;go_enter Tryz.func16,Tryz.ntmps16
   go_wp2_with fail
   refine Calls.mono HX.out ?_;rintro e w2 ⟨rfl,hb⟩;go_wp2;go_ret;rw[HB.out];exact⟨rfl,HS.out.below hb⟩
  ·obtain⟨b,e,g,cap,hb,he,hlv,cp,h4⟩:=h1.locAt hsn;have hge:c.ents.getD n noEnt=e:=by rw[List.getD_eq_getElem?_getD,he];rfl
   have HB:Hid (K.begin (n:Int)=(K.setL n (s.begin),s.begN)):=by
    show _=_
    unfold KSt.begin;rw[if_neg (by omega),if_neg (by omega),show ((n:Int)).toNat=n by omega,hsn]
   have HX:Hid _:=ke_reach n h1 hs ho hn hlv cp;have HR:Hid _:=hr;have HE:Hid (e∈c.ents):=List.mem_of_getElem? he;have hsv:=h1.senv hs;have HL:Hid _:=los_begin (A:=A) h4 hsv.c9 (hr.each e HE.out).1 (hr.each e HE.out).2.2.2;have H1:Hid _:=h1;have HF:Hid _:=hF;have Hb:Hid (bs[n]?=some b/\c.ents[n]?=some e):=⟨hb,he⟩;clear h1 hF hs ho hsn hn hb he hlv cp h4 hge hsv hr HS;go_enter Tryz.func16,Tryz.ntmps16
   go_wp2_with fail
   refine Calls.mono HX.out ?_;rintro e w2 ⟨rfl,rfl⟩;go_wp2_with fail
   refine Calls.mono HL.out ?_;rintro u w3 ⟨rfl,hl,hof⟩;go_wp2;go_ret;rw[HB.out];exact⟨rfl,KeIn.post HF.out hof (H1.out.toLoc hof Hb.out.1 Hb.out.2 hl)⟩
 ·have HB:Hid (K.begin i=(K,K.on)):=by show _=_;unfold KSt.begin;rw[if_pos ho]
  have HX:Hid _:=ke_reach_off i h1 hs ho;obtain⟨j,hj⟩:=errVal_pos (A:=A) ho;have HJ:Hid _:=hj;rw[hj] at HX;clear h1 hF ho hs hj hr;go_enter Tryz.func16,Tryz.ntmps16
  go_wp2_with fail
  refine Calls.mono HX.out ?_;rintro e w2 ⟨rfl,rfl⟩;go_wp2;go_ret;rw[HB.out,HJ.out];exact⟨rfl,HS.out⟩
theorem ent_none_stop {i:Int}(ho:K.on=0)(hi:i < 0\/(K.ls.length:Int)<=i):K.stop i=(K,5):=by
 unfold KSt.stop;rw[if_neg (by omega)]
 by_cases h0:i < 0
 ·rw[if_pos h0]
 ·rw[if_neg h0,List.getElem?_eq_none (by omega)]
set_option maxHeartbeats 1000000 in
theorem ke_stop (i:Int)(h:KeAt F w0 w c kb bc K)(hs:SenK A w0)(hr:KRt c) :
  Calls Tryz.prog 17 #[.pointer (some ⟨kb,0,none⟩),.int .i64 i] w fun e w'=>e=.returned (errVal A (K.stop i).2)/\KePost F w0 w c kb bc (K.stop i).1 w':=by
 have HS:Hid (KePost F w0 w c kb bc K w):=KePost.same h;obtain⟨H,bd,rb,bt,lv,bs,h1,hF⟩:=h
 by_cases ho:K.on=0
 ·rcases ent_cases K i with hi | ⟨n,s,rfl,hsn,hn⟩
  ·have HB:Hid (K.stop i=(K,5)):=ent_none_stop ho hi;have HX:Hid _:=ke_reach_no i h1 hs ho hi;rw[show errVal A 5=.iface 298 (.pointer (some (A 4))) from rfl] at HX;clear h1 hF hi ho hs hr;go_enter Tryz.func17,Tryz.ntmps17
   go_wp2_with fail
   refine Calls.mono HX.out ?_;rintro e w2 ⟨rfl,hb⟩;go_wp2;go_ret;rw[HB.out];exact⟨rfl,HS.out.below hb⟩
  ·obtain⟨b,e,g,cap,hb,he,hlv,cp,h4⟩:=h1.locAt hsn;have hge:c.ents.getD n noEnt=e:=by rw[List.getD_eq_getElem?_getD,he];rfl
   have HB:Hid (K.stop (n:Int)=(K.setL n (s.stop),s.stopN)):=by
    show _=_
    unfold KSt.stop;rw[if_neg (by omega),if_neg (by omega),show ((n:Int)).toNat=n by omega,hsn]
   have HX:Hid _:=ke_reach n h1 hs ho hn hlv cp;have HR:Hid _:=hr;have HE:Hid (e∈c.ents):=List.mem_of_getElem? he;have hsv:=h1.senv hs;have HL:Hid _:=los_stop (A:=A) h4 hsv.c8;have H1:Hid _:=h1;have HF:Hid _:=hF;have Hb:Hid (bs[n]?=some b/\c.ents[n]?=some e):=⟨hb,he⟩;clear h1 hF hs ho hsn hn hb he hlv cp h4 hge hsv hr HS;go_enter Tryz.func17,Tryz.ntmps17
   go_wp2_with fail
   refine Calls.mono HX.out ?_;rintro e w2 ⟨rfl,rfl⟩;go_wp2_with fail
   refine Calls.mono HL.out ?_;rintro u w3 ⟨rfl,hl,hof⟩;go_wp2;go_ret;rw[HB.out];exact⟨rfl,KeIn.post HF.out hof (H1.out.toLoc hof Hb.out.1 Hb.out.2 hl)⟩
 ·have HB:Hid (K.stop i=(K,K.on)):=by show _=_;unfold KSt.stop;rw[if_pos ho]
  have HX:Hid _:=ke_reach_off i h1 hs ho;obtain⟨j,hj⟩:=errVal_pos (A:=A) ho;have HJ:Hid _:=hj;rw[hj] at HX;clear h1 hF ho hs hj hr;go_enter Tryz.func17,Tryz.ntmps17
  go_wp2_with fail
  refine Calls.mono HX.out ?_;rintro e w2 ⟨rfl,rfl⟩;go_wp2;go_ret;rw[HB.out,HJ.out];exact⟨rfl,HS.out⟩
theorem ent_none_report {i:Int}{p:Int}(ho:K.on=0)(hi:i < 0\/(K.ls.length:Int)<=i):K.report c i p=(K,5):=by
 unfold KSt.report;rw[if_neg (by omega)]
 by_cases h0:i < 0
 ·rw[if_pos h0]
 ·rw[if_neg h0,List.getElem?_eq_none (by omega)]
set_option maxHeartbeats 1000000 in
theorem ke_report (i p:Int)(h:KeAt F w0 w c kb bc K)(hs:SenK A w0)(hr:KRt c)(hf:KFit c K k W)(hk:k < 1000) :
  Calls Tryz.prog 18 #[.pointer (some ⟨kb,0,none⟩),.int .i64 i,.int .i64 p] w fun e w'=>e=.returned (errVal A (K.report c i p).2)/\KePost F w0 w c kb bc (K.report c i p).1 w':=by
 have HS:Hid (KePost F w0 w c kb bc K w):=KePost.same h;obtain⟨H,bd,rb,bt,lv,bs,h1,hF⟩:=h
 by_cases ho:K.on=0
 ·rcases ent_cases K i with hi | ⟨n,s,rfl,hsn,hn⟩
  ·have HB:Hid (K.report c i p=(K,5)):=ent_none_report ho hi;have HX:Hid _:=ke_reach_no i h1 hs ho hi;rw[show errVal A 5=.iface 298 (.pointer (some (A 4))) from rfl] at HX;clear h1 hF hi ho hs hr hf hk;go_enter Tryz.func18,Tryz.ntmps18
   go_wp2_with fail
   refine Calls.mono HX.out ?_;rintro e w2 ⟨rfl,hb⟩;go_wp2;go_ret;rw[HB.out];exact⟨rfl,HS.out.below hb⟩
  ·obtain⟨b,e,g,cap,hb,he,hlv,cp,h4⟩:=h1.locAt hsn;have hge:c.ents.getD n noEnt=e:=by rw[List.getD_eq_getElem?_getD,he];rfl
   have HB:Hid (K.report c (n:Int) p=(K.setL n (s.rep e p (K.d.now:Int)),s.repN e p)):=by
    show _=_
    unfold KSt.report;rw[if_neg (by omega),if_neg (by omega),show ((n:Int)).toNat=n by omega,hsn];simp only[hge]
   have HX:Hid _:=ke_reach n h1 hs ho hn hlv cp;have HR:Hid _:=hr;have HE:Hid (e∈c.ents):=List.mem_of_getElem? he;have hsv:=h1.senv hs;have HL:Hid _:=los_report (A:=A) p (K.d.now:Int) h4 hsv.c8 hsv.c4 (hr.each e HE.out).1 (by have:=(hf.each s (List.mem_of_getElem? hsn)).2.1;omega) (by have:=hf.now;omega);have H1:Hid _:=h1;have HF:Hid _:=hF;have Hb:Hid (bs[n]?=some b/\c.ents[n]?=some e):=⟨hb,he⟩;have HNw:Hid _:=ke_now h1;clear h1 hF hs ho hsn hn hb he hlv cp h4 hge hsv hr HS hf hk;go_enter Tryz.func18,Tryz.ntmps18
   go_wp2_with fail
   refine Calls.mono HX.out ?_;rintro e w2 ⟨rfl,rfl⟩;go_wp2_with fail
   refine Calls.mono HNw.out ?_;rintro e w2 ⟨rfl,rfl⟩;go_wp2_with fail
   refine Calls.mono HL.out ?_;rintro u w3 ⟨rfl,hl,hof⟩;go_wp2;go_ret;rw[HB.out];exact⟨rfl,KeIn.post HF.out hof (H1.out.toLoc hof Hb.out.1 Hb.out.2 hl)⟩
 ·have HB:Hid (K.report c i p=(K,K.on)):=by show _=_;unfold KSt.report;rw[if_pos ho]
  have HX:Hid _:=ke_reach_off i h1 hs ho;obtain⟨j,hj⟩:=errVal_pos (A:=A) ho;have HJ:Hid _:=hj;rw[hj] at HX;clear h1 hF ho hs hj hr hf hk;go_enter Tryz.func18,Tryz.ntmps18
  go_wp2_with fail
  refine Calls.mono HX.out ?_;rintro e w2 ⟨rfl,rfl⟩;go_wp2;go_ret;rw[HB.out,HJ.out];exact⟨rfl,HS.out⟩
end
end Go.Proofs.YtdpdbfhbojgigacGreatDoor
