/-
  Several texts as one: KmCan, KmOpn.
-/
import Derived.Test.YtdpdbfhbojgigacGreatDoorC36S
namespace Go.Proofs.YtdpdbfhbojgigacGreatDoor
open Go.RowKit Go.Extern.Stop Go.Stop Go.Extern
def HCan (kb:Nat)(lv:Value)(bm rm:Nat)(v:Value)(bd bt:Nat)(bs:List Nat):Nat->Nat->Prop:=fun n k=>
 if n=0 then k=kb else if n=1 then lv.ownBlock=some k else if n=2 then k=bm\/k=rm\/v.ownBlock=some k else if n=3 then k=bd else if n=4 then k=bt else bs[n - 5]?=some k
structure HCanR (A B C:Nat)(kb:Nat)(lv:Value)(bm rm:Nat)(v:Value)(bd bt:Nat)(bs:List Nat):Prop where
 k1:kb < A/\bm < A/\bd < A
 k2:kb≠bm/\kb≠bd/\bm≠bd
 r1:A<=rm/\rm < B
 v1:∀ k,v.ownBlock=some k->A<=k/\k < B
 l1:∀ k,lv.ownBlock=some k->B<=k/\k < C
 b1:∀ (j k:Nat),bs[j]?=some k->B<=k/\k < C
 lb:∀ (j k:Nat),bs[j]?=some k->lv.ownBlock≠some k
 bb:∀ (i j k:Nat),bs[i]?=some k->bs[j]?=some k->i=j
 t1:bt=C
section
variable {A B C kb bm rm bd bt:Nat}{lv v:Value}{bs:List Nat}
theorem HCanR.cases (h:HCanR A B C kb lv bm rm v bd bt bs){n k:Nat}(hk:HCan kb lv bm rm v bd bt bs n k) :
  (n=0/\k=kb)\/(n=1/\lv.ownBlock=some k/\B<=k/\k < C)\/(n=2/\k=bm)\/(n=2/\A<=k/\k < B)\/(n=3/\k=bd)\/(n=4/\k=C)\/(5<=n/\bs[n - 5]?=some k/\B<=k/\k < C):=by
 unfold HCan at hk
 split at hk
 ·exact Or.inl ⟨by assumption,hk⟩
 ·split at hk
  ·exact Or.inr (Or.inl ⟨by assumption,hk,h.l1 k hk⟩)
  ·split at hk
   ·rcases hk with hk | hk | hk
    ·exact Or.inr (Or.inr (Or.inl ⟨by assumption,hk⟩))
    ·exact Or.inr (Or.inr (Or.inr (Or.inl ⟨by assumption,by rw[hk];exact h.r1⟩)))
    ·exact Or.inr (Or.inr (Or.inr (Or.inl ⟨by assumption,h.v1 k hk⟩)))
   ·split at hk
    ·exact Or.inr (Or.inr (Or.inr (Or.inr (Or.inl ⟨by assumption,hk⟩))))
    ·split at hk
     ·exact Or.inr (Or.inr (Or.inr (Or.inr (Or.inr (Or.inl ⟨by assumption,hk.trans h.t1⟩)))))
     ·exact Or.inr (Or.inr (Or.inr (Or.inr (Or.inr (Or.inr ⟨by omega,hk,h.b1 _ k hk⟩)))))
theorem HCanR.fam (h:HCanR A B C kb lv bm rm v bd bt bs){D:Nat}{w:World}(hAB:A<=B)(hBC:B<=C)(hD:D<=A/\D<=kb/\D<=bm/\D<=bd)(hw:C < w.heap.size):Fam (HCan kb lv bm rm v bd bt bs) D w:=by
 have a1:=h.k1;have a2:=h.k2
 refine⟨fun i k hk=>?_,fun i k hk=>?_,fun i j k hk hj=>?_⟩
 ·rcases h.cases hk with x | x | x | x | x | x | x <;> omega
 ·rcases h.cases hk with x | x | x | x | x | x | x <;> omega
 ·rcases h.cases hk with x | x | x | x | x | x | x <;> rcases h.cases hj with y | y | y | y | y | y | y <;> first | omega | exact absurd y.2.1 (h.lb _ k x.2.1) | exact absurd x.2.1 (h.lb _ k y.2.1) | (have:=h.bb _ _ k x.2.1 y.2.1;omega)
theorem HCanR.new (h:HCanR A B C kb lv bm rm v bd bt bs)(hAB:A<=B)(hBC:B<=C):∀ i k,HCan kb lv bm rm v bd bt bs i k->k=kb\/k=bm\/k=bd\/A<=k:=fun i k hk=>by
 rcases h.cases hk with x | x | x | x | x | x | x <;> omega
theorem hcan_loc {i k:Nat}(h:bs[i]?=some k):HCan kb lv bm rm v bd bt bs (5+i) k:=by
 unfold HCan;rw[if_neg (by omega),if_neg (by omega),if_neg (by omega),if_neg (by omega),if_neg (by omega),show 5+i - 5=i by omega];exact h
end
section
variable {w0 w w':World}{c:CfgD}{ev:Value}{kb bm bd:Nat}{rv lv tv:Value}{m:MSt}{s:CSt}{d:DSt}
structure KmHd (w0 w:World)(c:CfgD)(ev:Value)(kb bm bd:Nat)(rv lv tv:Value)(m:MSt)(s:CSt)(d:DSt):Prop where
 row:w.heap[kb]?=some (.cells (kmRowV c ev bm bd rv lv tv) 130 (0,0))
 mod:ModAt w bm m
 sim:Sim s m
 big:153<=s.size
 dog:MDogAt w bd d
 lo:w0.heap.size<=kb/\w0.heap.size<=bm/\w0.heap.size<=bd
 ents:EntsAt w0 ev c.ents
 bel:Below w0.heap.size w0 w
theorem KmHd.cell (h:KmHd w0 w c ev kb bm bd rv lv tv m s d)(j:Nat)(u:Value)(hu:(kmRowV c ev bm bd rv lv tv)[j]?=some u):w.cell? ⟨kb,j,none⟩=some u:=cell_row h.row hu
theorem KmHd.ringed {w1 W1:World}{B:Nat}{v:Value}{L:List Rec}(h:KmHd w0 w c ev kb bm bd rv lv tv m s d)(hb:Below w.heap.size w w1)(hrec:Recs w1 B v L)(hB:w.heap.size<=B)
  (hW:W1=((w1.alloc (.cells #[.pointer (some ⟨bm,0,none⟩),v,.bool false] 139)).setCell ⟨kb,7,none⟩ (.pointer (some ⟨w1.heap.size,0,none⟩))).setCell ⟨kb,8,none⟩ (.slice none 0 0)) :
  KmHd w0 W1 c ev kb bm bd (.pointer (some ⟨w1.heap.size,0,none⟩)) (.slice none 0 0) tv m s d/\MRingAt W1 w0.heap.size w1.heap.size bm v L false/\Off (fun k=>k=kb) w W1/\(∀ k,v.ownBlock=some k->w.heap.size<=k)/\w1.heap.size < W1.heap.size:=by
 have ba:Below w.heap.size w (w1.alloc (.cells #[.pointer (some ⟨bm,0,none⟩),v,.bool false] 139)):=hb.alloc hb.size _;have hrow:=row_below ba h.row;have hgo:(w1.alloc (.cells #[.pointer (some ⟨bm,0,none⟩),v,.bool false] 139)).grownBy W1 (some kb):=by rw[hW];exact(grown_setCell _ _ _ _).trans (grown_setCell _ _ _ _)
 have hof:=Off.of_grown hgo;have hkw:kb < w.heap.size:=lt_of_row h.row;have hwz:w.heap.size<=w1.heap.size:=hb.size;have hw0:=h.bel.size;have hoff:Off (fun k=>k=kb) w W1:=(Off.of_below ba _).trans hof (fun _ _ e=>e);have hrr:W1.heap[w1.heap.size]?=some (.cells #[.pointer (some ⟨bm,0,none⟩),v,.bool false] 139 (0,0)):=(hof.block _ (by simp) (by omega)).trans (heap_alloc_new w1 _);have hvl:∀ k,v.ownBlock=some k->B<=k/\k < w1.heap.size:=hrec.lt
 refine⟨⟨?_,?_,h.sim,h.big,?_,h.lo,h.ents,?_⟩,⟨hrr,?_,⟨fun e=>?_,fun e=>?_⟩,by omega,?_⟩,hoff,fun k hk=>Nat.le_trans hB (hvl k hk).1,?_⟩
 ·rw[hW];exact row_put (row_put hrow _) _
 ·exact h.mod.off hoff (fun e=>by have a:=h.mod.heap;rw[e,h.row] at a;simp at a)
 ·exact h.dog.off hoff (fun e=>by have a:=h.dog.heap;rw[e,h.row] at a;simp at a)
 ·exact Off.below h.bel hoff hw0 (fun k hk=>by rw[hk];exact h.lo.1)
 ·have h1:Recs (w1.alloc (.cells #[.pointer (some ⟨bm,0,none⟩),v,.bool false] 139)) B v L:=SlOwnR.below hrec (Below.one _ _);have h2:Recs W1 B v L:=ow_same h1 (fun g hg=>hof.block g (by have:=(hvl g hg).2;simp;omega) (fun e=>by have:=(hvl g hg).1;omega));exact h2.msl.mono (by omega)
 ·have:=(hvl _ e).2;omega
 ·have h1:=(hvl _ e).1;have h2:=h.mod.lt;omega
 ·have:=h.mod.lt;omega
 ·have:=hof.size;simp at this;omega
theorem ow_mono {w:World}{B B' k n:Nat}{T:TypeId}{v:Value}{xs:List Value}(h:w.ownsRow B T k v n xs)(hb:B'<=B):w.ownsRow B' T k v n xs:=⟨h.1,h.2.imp id fun ⟨g,cap,cur,h1,h2,h3⟩=>⟨g,cap,cur,h1,Nat.le_trans hb h2,h3⟩⟩
theorem opened_in {wc wr W6:World}{rm:Nat}{v lx:Value}{bs:List Nat}(hh:KmHd w0 wc c ev kb bm bd (.pointer (some ⟨rm,0,none⟩)) (.slice none 0 0) tv m s d)(hring:MRingAt wc w0.heap.size rm bm v (openL m.B.data.toList) false)(hoff:Off (fun k=>k=kb) w wc)(hv:∀ k,v.ownBlock=some k->w.heap.size<=k)(hrm:w.heap.size<=rm/\rm < wc.heap.size)(hlt:kb < w.heap.size/\bm < w.heap.size/\bd < w.heap.size)(hw0:w0.heap.size<=w.heap.size)
  (L:OpL w0 wc wr c ev kb bm bd (.pointer (some ⟨rm,0,none⟩)) tv lx bs) (hbl:bs.length=c.ents.length) (hde:0<=c.delay)
  (hW:W6=(wr.alloc (.cells #[.int .i64 c.delay,.int .i64 0,.string ⟨#[111,107]⟩] 134)).setCell ⟨kb,9,none⟩ (.pointer (some ⟨wr.heap.size,0,none⟩))) :
  KmIn (HCan kb lx bm rm v bd wr.heap.size bs) w0 W6 c ev kb bm bd rm wr.heap.size v lx m bs (KSt.opened c ⟨s,d,[],false,[],TSt.new 0⟩)/\(∀ i k,HCan kb lx bm rm v bd wr.heap.size bs i k->k=kb\/k=bm\/k=bd\/w.heap.size<=k)/\Off (fun k=>k=kb) w W6:=by
 have ba:=Below.one wr (.cells #[.int .i64 c.delay,.int .i64 0,.string ⟨#[111,107]⟩] 134);have hof6:Off (fun k=>k=kb) (wr.alloc (.cells #[.int .i64 c.delay,.int .i64 0,.string ⟨#[111,107]⟩] 134)) W6:=by rw[hW];exact Off.of_grown (grown_setCell _ _ _ _)
 have ofr:Off (fun k=>k=kb) wr W6:=(Off.of_below ba _).trans hof6 (fun _ _ e=>e);have ofc:Off (fun k=>k=kb) wc W6:=L.off.trans ofr (fun _ _ e=>e);have hsz6:wr.heap.size < W6.heap.size:=by have:=hof6.size;simp at this;omega
 have hcz:wc.heap.size<=wr.heap.size:=L.off.size;have hwz:w.heap.size<=wc.heap.size:=hoff.size;have nkm:bm≠kb:=fun e=>by have a:=hh.mod.heap;rw[e,hh.row] at a;simp at a
 have nkd:bd≠kb:=fun e=>by have a:=hh.dog.heap;rw[e,hh.row] at a;simp at a
 have nmd:bm≠bd:=fun e=>by have a:=hh.mod.heap;rw[e,hh.dog.heap] at a;simp at a
 have hll:∀ k,lx.ownBlock=some k->wc.heap.size<=k/\k < wr.heap.size:=L.own.lt;have hbb:∀ (j k:Nat),bs[j]?=some k->wc.heap.size<=k/\k < wr.heap.size:=fun j k hj=>by obtain⟨_,_,_,a2,a3,_⟩:=L.loc j k hj;exact⟨a2,lt_of_row a3⟩
 have R:HCanR w.heap.size wc.heap.size wr.heap.size kb lx bm rm v bd wr.heap.size bs:=⟨hlt,⟨fun e=>nkm e.symm,fun e=>nkd e.symm,nmd⟩,hrm,fun k hk=>⟨hv k hk,(hring.sl.lt k hk).2⟩,hll,hbb,fun j k hj=>by obtain⟨_,_,_,_,a3,_⟩:=L.loc j k hj;exact ow_ne L.own a3 (by decide),L.dist,rfl⟩;have hrow:W6.heap[kb]?=some (.cells (kmRow c ev bm bd rm wr.heap.size lx) 130 (0,0)):=by rw[hW];exact row_put (row_below ba L.row) _
 have htot:W6.heap[wr.heap.size]?=some (.cells (tmRow (TSt.new c.delay.toNat)) 134 (0,0)):=by
  refine(hof6.block _ (by simp) (by omega)).trans ?_;have e:tmRow (TSt.new c.delay.toNat)=#[.int .i64 c.delay,.int .i64 0,.string ⟨#[111,107]⟩]:=by
   show #[Value.int .i64 ((c.delay.toNat:Nat):Int),Value.int .i64 ((0:Nat):Int),Value.string (totB 0)]=_
   rw[show ((c.delay.toNat:Nat):Int)=c.delay by omega];rfl
  rw[e];exact heap_alloc_new wr _
 have hL:(KSt.opened c ⟨s,d,[],false,[],TSt.new 0⟩).L=openL m.B.data.toList:=by simp only[KSt.opened];rw[hh.sim.b]
 have hring6:MRingAt W6 w0.heap.size rm bm v (openL m.B.data.toList) false:=hring.off ofc (by omega) (fun g hg=>by have:=hv g hg;omega)
 refine⟨⟨R.fam hwz hcz ⟨hw0,hh.lo⟩ hsz6,hrow,rfl,SlOwn.same (ow_mono L.own (by omega)) (fun g hg=>ofr.block g (hll g hg).2 (fun e=>by have:=(hll g hg).1;omega)),fun k hk=>hk,hh.mod.off ofc nkm,Or.inl rfl,hh.sim,?_,Or.inr (Or.inl rfl),fun k hk=>Or.inr (Or.inr hk),hh.dog.off ofc nkd,rfl,htot,rfl,fun i b e s h1 h2 h3=>?_,hbl,?_,hh.ents,?_⟩,R.new hwz hcz,hoff.trans ofc (fun _ _ e=>e)⟩
 ·rw[hL];exact hring6
 ·obtain⟨e',E,a1,a2,a3,a4⟩:=L.loc i b h1;rw[h2] at a1
  cases a1
  have hs:s=LSt.new:=by
   have h4:(c.ents.map fun _=>LSt.new)[i]?=some s:=h3;rw[List.getElem?_map,h2] at h4;exact(Option.some.inj h4).symm
  subst hs
  refine⟨E,⟨⟨.slice none 0 0,?_,World.ownsRow_nil _ _ _ _,fun k hk=>by cases hk⟩,hcan_loc h1,by omega⟩,a4⟩;exact(ofr.block b (lt_of_row a3) (by omega)).trans a3
 ·show (c.ents.map fun _=>LSt.new).length=_
  rw[List.length_map]
 ·exact Off.below hh.bel ofc (by omega) (fun k hk=>by rw[hk];exact hh.lo.1)
def KmOpd (w0 w:World)(c:CfgD)(ev:Value)(kb bm bd:Nat)(m:MSt)(s:CSt)(d:DSt)(w':World):Prop:=∃ H rm bt v lx bs,KmIn H w0 w' c ev kb bm bd rm bt v lx m bs (KSt.opened c ⟨s,d,[],false,[],TSt.new 0⟩)/\(∀ i k,H i k->k=kb\/k=bm\/k=bd\/w.heap.size<=k)/\Off (fun k=>k=kb) w w'
theorem EntsAt.one {w:World}{sa:Option Addr}{cap i:Nat}{es:List EntD}{e:EntD}(h:EntsAt w (.slice sa es.length cap) es)(he:es[i]?=some e):∃ (E:EA) (b o:Nat),sa=some ⟨b,o,none⟩/\EntParts w e (.slice E.pa e.pts.length E.pc) (.slice E.ga e.gaps.length E.gc) (.slice E.ea e.edges.length E.ec) (.slice E.fa e.first.length E.fc) (.slice E.la e.last.length E.lc)/\∀ (j:Nat) (u:Value),(entRow e (.slice E.pa e.pts.length E.pc) (.slice E.ga e.gaps.length E.gc) (.slice E.ea e.edges.length E.ec) (.slice E.fa e.first.length E.fc) (.slice E.la e.last.length E.lc))[j]?=some u->w.cell? ⟨b,o+i*10+j,none⟩=some u:=by
 obtain⟨sa',cap',h1,h2⟩:=h
 cases h1
 obtain⟨b,o,rfl,h3⟩:=h2 (fun x=>by rw[x] at he;simp at he);obtain⟨pv,gv,dv,fv,lv,hP,hce⟩:=h3 i e he;obtain⟨pa,pc,rfl,-⟩:=id hP.hp;obtain⟨ga,gc,rfl,-⟩:=id hP.hg;obtain⟨da,dc,rfl,-⟩:=id hP.he;obtain⟨fa,fc,rfl,-⟩:=id hP.hf;obtain⟨ya,yc,rfl,-⟩:=id hP.hl;exact⟨⟨pa,ga,da,fa,ya,pc,gc,dc,fc,yc⟩,b,o,rfl,hP,hce⟩
set_option maxHeartbeats 4000000 in
set_option maxRecDepth 100000 in
theorem km_open (h:KmHd w0 w c ev kb bm bd rv lv tv m s d)(hn:c.ents.length<=8)(hde:0<=c.delay) :
  Calls Tryz.prog 74 #[.pointer (some ⟨kb,0,none⟩)] w fun e w'=>e=.returned (.tuple #[])/\KmOpd w0 w c ev kb bm bd m s d w':=by
 have c5:w.cell? ⟨kb,5,none⟩=some (.pointer (some ⟨bm,0,none⟩)):=h.cell 5 _ rfl;have m0:=h.mod.c0;have HRc:Hid (∀ V,Below w.heap.size w V->Calls Tryz.prog 110 #[.string m.B] V fun e w'=>∃ v,e=.returned v/\Recs w' V.heap.size v (openL m.B.data.toList)/\Below V.heap.size V w'):=fun V _=>recordsOf_any m.B V (by have:=h.sim.bsize;have:=h.big;omega)
 have H0:Hid _:=h;have f7:∀ i,w.frozen? ⟨kb,i,none⟩=false:=fun i=>by have:=h.row;simp[World.frozen?,this]
 have c7:w.cell? ⟨kb,7,none⟩=some rv:=h.cell 7 _ rfl;have HK:Hid (∀ V,Below w.heap.size w V->V.cell? ⟨kb,5,none⟩=some (.pointer (some ⟨bm,0,none⟩))/\V.cell? ⟨bm,0,none⟩=some (.string m.B)/\V.cell? ⟨kb,7,none⟩=some rv/\V.frozen? ⟨kb,7,none⟩=false):=fun V hV=>⟨cell_below hV c5,cell_below hV m0,cell_below hV c7,by have:=row_below hV h.row;simp[World.frozen?,this]⟩
 have HKs:Hid (∀ (V:World) (x:Value),Below w.heap.size w V->(V.setCell ⟨kb,7,none⟩ x).cell? ⟨kb,5,none⟩=some (.pointer (some ⟨bm,0,none⟩))/\(V.setCell ⟨kb,7,none⟩ x).cell? ⟨bm,0,none⟩=some (.string m.B)):=fun V x hV=>by
  have r1:=row_put (j:=7) (row_below hV h.row) x
  refine⟨cell_row r1 rfl,?_⟩;have hm:=h.mod.below hV;exact(hm.other (grown_setCell V kb 7 x) (fun e=>by have a:=hm.heap;have b:=row_below hV h.row;rw[e,b] at a;simp at a)).c0
 have HDe:Hid (0<=c.delay):=hde;clear h hde;go_enter Tryz.func74,Tryz.ntmps74
 go_upto_region 0 with fail
 go_region_held3 (fun V=>V.cell? ⟨kb,5,none⟩=some (.pointer (some ⟨bm,0,none⟩))/\V.cell? ⟨bm,0,none⟩=some (.string m.B)) (first | exact⟨c5,m0⟩ | exact⟨(HK.out _ hb1).1,(HK.out _ hb1).2.1⟩ | exact⟨(HK.out _ (hba _)).1,(HK.out _ (hba _)).2.1⟩ | exact HKs.out _ _ (hba _)) (first | (go_at_call 110;refine Calls.mono (HRc.out _ (below_drewN (Below.refl _ _) 1)) ?_;rintro e w1 ⟨v,rfl,hrec,hb1'⟩;have hb1:=(Below.refl w.heap.size w).drew.trans hb1';obtain⟨k5,k0,k7,q7⟩:=HK.out _ hb1;obtain⟨va,vc,rfl⟩:=ow_form hrec;have hba:∀ o,Below w.heap.size w (w1.alloc o):=fun o=>hb1.alloc hb1.size o;have a7:∀ o,(w1.alloc o).cell? ⟨kb,7,none⟩=some rv:=fun o=>(HK.out _ (hba o)).2.2.1;have aq7:∀ o,(w1.alloc o).frozen? ⟨kb,7,none⟩=false:=fun o=>(HK.out _ (hba o)).2.2.2))
 have b8:∀ o x,((w1.alloc o).setCell ⟨kb,7,none⟩ x).cell? ⟨kb,8,none⟩=some lv:=fun o x=>cell_row (row_put (row_below (hba o) H0.out.row) x) rfl
 have bq8:∀ o x,((w1.alloc o).setCell ⟨kb,7,none⟩ x).frozen? ⟨kb,8,none⟩=false:=fun o x=>by have:=row_put (j:=7) (row_below (hba o) H0.out.row) x;simp[World.frozen?,this]
 go_upto_region 2 with fail
 obtain⟨W1,hW1⟩:∃ X,X=((w1.alloc (.cells #[.pointer (some ⟨bm,0,none⟩),.slice va (openL m.B.data.toList).length vc,.bool false] 139)).setCell ⟨kb,7,none⟩ (.pointer (some ⟨w1.heap.size,0,none⟩))).setCell ⟨kb,8,none⟩ (.slice none 0 0):=⟨_,rfl⟩;rw[<- hW1];have HWz:Hid (w.heap.size<=w1.heap.size):=hb1.size;have HH1:Hid _:=H0.out.ringed hb1 hrec (by simp) hW1;clear hW1 b8 bq8 a7 aq7 hba k5 k0 k7 q7 hb1 hb1' hrec c5 m0 c7 f7 HK HKs HRc
 go_cut [2] (fun i wx=>i=.int .i64 0/\wx=W1)
 case first=>
  go_wp2_with fail
  go_meet
  case rel=>exact⟨rfl,rfl⟩
 obtain⟨rfl,rfl⟩:=hcut;go_wp2_with fail
 obtain⟨j0,hj0,hy0,hy1,hy2⟩:=info_parts Tryz.infoPtrL;obtain⟨ea,ec,rfl,hents⟩:=H0.out.ents;have HEn:Hid _:=hents;have HW1:Hid (Below w0.heap.size w0 wc/\w0.heap.size<=wc.heap.size):=⟨HH1.out.1.bel,HH1.out.1.bel.size⟩;have HStart:Hid (OpL w0 wc wc c (.slice ea c.ents.length ec) kb bm bd (.pointer (some ⟨w1.heap.size,0,none⟩)) tv (.slice none 0 0) []):=⟨HH1.out.1.row,lt_of_row HH1.out.1.row,Off.refl _ _,World.ownsRow_nil _ _ _ _,fun j b hj=>by simp at hj,fun i j b hi=>by simp at hi⟩;clear hents
 go_loopw [2] (fun i wr=>∃ (bs:List Nat) (lx:Value),bs.length<=c.ents.length/\i=.int .i64 bs.length/\OpL w0 wc wr c (.slice ea c.ents.length ec) kb bm bd (.pointer (some ⟨w1.heap.size,0,none⟩)) tv lx bs) (fun i _=>c.ents.length - (intOf i).toNat)
 case atStart=>exact⟨[],_,Nat.zero_le _,rfl,HStart.out⟩
 case round=>
  clear HStart;obtain⟨bs,lx,hbl,rfl,L⟩:=hrel;have HBel:Hid (Below w0.heap.size w0 wr):=Off.below HW1.out.1 L.off HW1.out.2 (fun k hk=>by rw[hk];exact HH1.out.1.lo.1);have e4:wr.cell? ⟨kb,4,none⟩=some (.slice ea c.ents.length ec):=cell_row L.row rfl
  by_cases hlt:bs.length < c.ents.length
  ·obtain⟨e,he⟩:∃ e,c.ents[bs.length]?=some e:=⟨_,List.getElem?_eq_getElem hlt⟩;obtain⟨E,eb,eo,rfl,hP,hce⟩:=EntsAt.one H0.out.ents he;obtain⟨la,lc,hlx⟩:=ow_form L.own;subst hlx;have k1:(bs.length:Int) < (c.ents.length:Int):=by omega
   have k8:bs.length < 8:=by omega
   obtain⟨A1,hA1⟩:∃ X,X=wr.drew.alloc (.cells #[.string e.name,.int .i64 e.tol,.slice E.pa e.pts.length E.pc,.int .i64 e.cnt,.int .i64 e.mn,.int .i64 e.mx,.slice E.ga e.gaps.length E.gc,.slice E.ea e.edges.length E.ec,.slice E.fa e.first.length E.fc,.slice E.la e.last.length E.lc,.bool false,.int .i64 0,.slice none 0 0,.int .i64 0,.bool false] 185):=⟨_,rfl⟩;obtain⟨A2,hA2⟩:∃ X,X=A1.alloc (.cells #[.pointer (some ⟨wr.heap.size,0,none⟩)] 137):=⟨_,rfl⟩;have bA1:Below wr.heap.size wr A1:=by rw[hA1];exact(Below.refl wr.heap.size wr).drew.alloc (Nat.le_refl _) _
   have bA2:Below wr.heap.size wr A2:=by rw[hA2];exact bA1.alloc bA1.size _
   have hkbo:(Value.slice la bs.length lc).ownBlock≠some kb:=ow_ne L.own L.row (by decide);have hQrow:∀ V3,A2.grownBy V3 (Value.slice la bs.length lc).ownBlock->V3.heap[kb]?=some (.cells (kmRowV c (.slice (some ⟨eb,eo,none⟩) c.ents.length ec) bm bd (.pointer (some ⟨w1.heap.size,0,none⟩)) (.slice la bs.length lc) tv) 130 (0,0))/\Below w0.heap.size w0 V3:=fun V3 hg=>
    ⟨(hg.block kb (lt_of_row (row_below bA2 L.row)) (fun x=>hkbo x.symm)).trans (row_below bA2 L.row),(HBel.out.trans (bA2.mono HBel.out.size)).grown hg (Nat.le_trans HBel.out.size bA2.size) (fun i hi=>Nat.le_trans HW1.out.2 (L.own.lt i hi).1)⟩
   have HQk:Hid (∀ g cap V,(V.ownsRow wc.heap.size 137 1 (.slice (some ⟨g,0,none⟩) (bs.length+1) cap) (bs.length+1) (bs.flatMap encB++[.pointer (some ⟨wr.heap.size,0,none⟩)])/\A2.grownBy V (Value.slice la bs.length lc).ownBlock)->V.cell? ⟨kb,8,none⟩=some (.slice la bs.length lc)/\V.frozen? ⟨kb,8,none⟩=false):=fun g cap V hq=>by
    have hr:=(hQrow V hq.2).1;exact⟨cell_row hr rfl,by simp[World.frozen?,hr]⟩
   have hcw:∀ V,V.heap[kb]?=some (.cells (kmRowV c (.slice (some ⟨eb,eo,none⟩) c.ents.length ec) bm bd (.pointer (some ⟨w1.heap.size,0,none⟩)) (.slice la bs.length lc) tv) 130 (0,0))->Below w0.heap.size w0 V->V.cell? ⟨kb,8,none⟩=some (.slice la bs.length lc)/\V.cell? ⟨kb,4,none⟩=some (.slice (some ⟨eb,eo,none⟩) c.ents.length ec)/\V.cell? ⟨eb,eo+bs.length*10,none⟩=some (.string e.name)/\V.cell? ⟨eb,eo+bs.length*10+1,none⟩=some (.int .i64 e.tol)/\V.cell? ⟨eb,eo+bs.length*10+2,none⟩=some (.slice E.pa e.pts.length E.pc)/\V.cell? ⟨eb,eo+bs.length*10+3,none⟩=some (.int .i64 e.cnt)/\V.cell? ⟨eb,eo+bs.length*10+4,none⟩=some (.int .i64 e.mn)/\V.cell? ⟨eb,eo+bs.length*10+5,none⟩=some (.int .i64 e.mx)/\V.cell? ⟨eb,eo+bs.length*10+6,none⟩=some (.slice E.ga e.gaps.length E.gc)/\V.cell? ⟨eb,eo+bs.length*10+7,none⟩=some (.slice E.ea e.edges.length E.ec)/\V.cell? ⟨eb,eo+bs.length*10+8,none⟩=some (.slice E.fa e.first.length E.fc)/\V.cell? ⟨eb,eo+bs.length*10+9,none⟩=some (.slice E.la e.last.length E.lc):=fun V hr hb=>⟨cell_row hr rfl,cell_row hr rfl,cell_below hb (hce 0 _ rfl),cell_below hb (hce 1 _ rfl),cell_below hb (hce 2 _ rfl),cell_below hb (hce 3 _ rfl),cell_below hb (hce 4 _ rfl),cell_below hb (hce 5 _ rfl),cell_below hb (hce 6 _ rfl),cell_below hb (hce 7 _ rfl),cell_below hb (hce 8 _ rfl),cell_below hb (hce 9 _ rfl)⟩
   have HCe:Hid (∀ V,(V=wr.drew\/V=A1\/V=A2\/∃ g cap,V.ownsRow wc.heap.size 137 1 (.slice (some ⟨g,0,none⟩) (bs.length+1) cap) (bs.length+1) (bs.flatMap encB++[.pointer (some ⟨wr.heap.size,0,none⟩)])/\A2.grownBy V (Value.slice la bs.length lc).ownBlock)->V.cell? ⟨kb,8,none⟩=some (.slice la bs.length lc)/\V.cell? ⟨kb,4,none⟩=some (.slice (some ⟨eb,eo,none⟩) c.ents.length ec)/\V.cell? ⟨eb,eo+bs.length*10,none⟩=some (.string e.name)/\V.cell? ⟨eb,eo+bs.length*10+1,none⟩=some (.int .i64 e.tol)/\V.cell? ⟨eb,eo+bs.length*10+2,none⟩=some (.slice E.pa e.pts.length E.pc)/\V.cell? ⟨eb,eo+bs.length*10+3,none⟩=some (.int .i64 e.cnt)/\V.cell? ⟨eb,eo+bs.length*10+4,none⟩=some (.int .i64 e.mn)/\V.cell? ⟨eb,eo+bs.length*10+5,none⟩=some (.int .i64 e.mx)/\V.cell? ⟨eb,eo+bs.length*10+6,none⟩=some (.slice E.ga e.gaps.length E.gc)/\V.cell? ⟨eb,eo+bs.length*10+7,none⟩=some (.slice E.ea e.edges.length E.ec)/\V.cell? ⟨eb,eo+bs.length*10+8,none⟩=some (.slice E.fa e.first.length E.fc)/\V.cell? ⟨eb,eo+bs.length*10+9,none⟩=some (.slice E.la e.last.length E.lc)):=fun V hV=>by
    rcases hV with rfl | rfl | rfl | ⟨g,cap,hq⟩
    ·exact hcw _ L.row (HBel.out.trans ((below_drewN (Below.refl _ _) 1:Below wr.heap.size wr wr.drew).mono HBel.out.size))
    ·exact hcw _ (row_below bA1 L.row) (HBel.out.trans (bA1.mono HBel.out.size))
    ·exact hcw _ (row_below bA2 L.row) (HBel.out.trans (bA2.mono HBel.out.size))
    ·exact hcw _ (hQrow V hq.2).1 (hQrow V hq.2).2
   have HApp:Hid (∃ g cap V3,(Builtin.append_ #[127,127] 127 #[.slice la bs.length lc,.slice (some ⟨wr.heap.size+1,0,none⟩) 1 1]).run Tryz.prog A2=.ok (.slice (some ⟨g,0,none⟩) (bs.length+1) cap) V3/\V3.ownsRow wc.heap.size 137 1 (.slice (some ⟨g,0,none⟩) (bs.length+1) cap) (bs.length+1) (bs.flatMap encB++[.pointer (some ⟨wr.heap.size,0,none⟩)])/\A2.grownBy V3 (Value.slice la bs.length lc).ownBlock):=by
    have hA1s:A1.heap.size=wr.heap.size+1:=by rw[hA1];simp
    obtain⟨g,cap,V3,hr,h2,h3,-,-⟩:=run_append_lies (P:=Tryz.prog) A2 127 127 wc.heap.size 137 j0 (.pointer none) 1 8 Tryz.underlying127 hj0 hy0 hy1 hy2 rfl (by decide) (.slice la bs.length lc) bs.length (bs.flatMap encB) (SlOwnR.below L.own bA2) ⟨wr.heap.size+1,0,none⟩ 1 1 [.pointer (some ⟨wr.heap.size,0,none⟩)] rfl (by rw[hA2,<- hA1s];exact ce_at A1 [.pointer (some ⟨wr.heap.size,0,none⟩)] 137) (fun u hu=>by rw[List.mem_singleton] at hu;subst hu;rfl) (by decide) (by unfold maxLen;omega) (by omega) (Nat.le_trans L.off.size bA2.size) _ rfl;exact⟨g,cap,V3,hr,h2,h3⟩
   have HA1:Hid (A1=wr.drew.alloc (.cells #[.string e.name,.int .i64 e.tol,.slice E.pa e.pts.length E.pc,.int .i64 e.cnt,.int .i64 e.mn,.int .i64 e.mx,.slice E.ga e.gaps.length E.gc,.slice E.ea e.edges.length E.ec,.slice E.fa e.first.length E.fc,.slice E.la e.last.length E.lc,.bool false,.int .i64 0,.slice none 0 0,.int .i64 0,.bool false] 185)):=hA1;have HA2:Hid (A2=A1.alloc (.cells #[.pointer (some ⟨wr.heap.size,0,none⟩)] 137)):=hA2;have HA1s:Hid (A1.heap.size=wr.heap.size+1):=by show _=_;rw[hA1];simp
   have HL:Hid _:=L;have HP:Hid _:=hP;have HEt:Hid (c.ents[bs.length]?=some e):=he;clear L hP he hce hA1 hA2 bA1 bA2 hkbo hQrow hcw;go_wp2_with fail
   refine region_spec3 20 rfl (OpC wr.drew A1 A2 kb bs.length (opK kb wr.heap.size bs.length c.ents.length la lc eb eo ec e E) (fun g cap V=>V.ownsRow wc.heap.size 137 1 (.slice (some ⟨g,0,none⟩) (bs.length+1) cap) (bs.length+1) (bs.flatMap encB++[.pointer (some ⟨wr.heap.size,0,none⟩)])/\A2.grownBy V (Value.slice la bs.length lc).ownBlock)) (by kernel_rfl) (by kernel_rfl) OpC.start ?_ ?_
   ·intro i o ho
    match i,ho with
    | 0,ho=>
     obtain rfl:=Option.some.inj ho
     refine StepOk3.free rfl ?_;intro vals a V hC hn hdep hoth;have x0:a.tmps[0]?.getD undef=.pointer (some ⟨kb,0,none⟩):=slot_of (hoth 0 (notDst (by kernel_rfl)));exact goodRun3.val (w:=V) (c:=.pointer (some ⟨kb,0,none⟩)) (by clear hdep hoth hC ;go_simp) (hC.const (by decide) rfl)
    | 1,ho=>
     obtain rfl:=Option.some.inj ho
     refine StepOk3.free rfl ?_;intro vals a V hC hn hdep hoth;have x0:a.tmps[0]?.getD undef=.pointer (some ⟨kb,0,none⟩):=slot_of (hoth 0 (notDst (by kernel_rfl)));exact goodRun3.val (w:=V) (c:=.pointer (some ⟨kb,0,none⟩)) (by clear hdep hoth hC ;go_simp) (hC.const (by decide) rfl)
    | 2,ho=>
     obtain rfl:=Option.some.inj ho
     refine StepOk3.free rfl ?_;intro vals a V hC hn hdep hoth;obtain⟨v1,hv1,hev1⟩:=hdep _ (Array.mem_of_getElem? (i:=0) rfl) rfl;have x34:a.tmps[34]?.getD undef=.pointer (some ⟨kb,0,none⟩):=(slot_of (hev1 34 rfl)).trans (hC.cs 1 (by decide) (by decide) (by decide) v1 hv1);exact goodRun3.val (w:=V) (c:=.pointer (some ⟨kb,0,none⟩)) (by clear hdep hoth hC hev1;go_simp) (hC.const (by decide) rfl)
    | 3,ho=>
     obtain rfl:=Option.some.inj ho
     refine StepOk3.free rfl ?_;intro vals a V hC hn hdep hoth;obtain⟨v2,hv2,hev2⟩:=hdep _ (Array.mem_of_getElem? (i:=0) rfl) rfl;have x35:a.tmps[35]?.getD undef=.pointer (some ⟨kb,0,none⟩):=(slot_of (hev2 35 rfl)).trans (hC.cs 2 (by decide) (by decide) (by decide) v2 hv2);exact goodRun3.val (w:=V) (c:=.pointer (some ⟨kb,8,none⟩)) (by clear hdep hoth hC hev2;go_simp) (hC.const (by decide) rfl)
    | 4,ho=>
     obtain rfl:=Option.some.inj ho
     refine StepOk3.free rfl ?_;intro vals a V hC hn hdep hoth;obtain⟨v3,hv3,hev3⟩:=hdep _ (Array.mem_of_getElem? (i:=0) rfl) rfl;have x36:a.tmps[36]?.getD undef=.pointer (some ⟨kb,8,none⟩):=(slot_of (hev3 36 rfl)).trans (hC.cs 3 (by decide) (by decide) (by decide) v3 hv3);have hgd:=HCe.out V (hC.good (Or.inl rfl) hn);have cc:=hgd.1;exact goodRun3.val (w:=V) (c:=.slice la bs.length lc) (by clear hdep hoth hC hev3 hgd;go_simp) (hC.const (by decide) rfl)
    | 5,ho=>
     obtain rfl:=Option.some.inj ho
     refine StepOk3.free rfl ?_;intro vals a V hC hn hdep hoth;have x0:a.tmps[0]?.getD undef=.pointer (some ⟨kb,0,none⟩):=slot_of (hoth 0 (notDst (by kernel_rfl)));exact goodRun3.val (w:=V) (c:=.pointer (some ⟨kb,0,none⟩)) (by clear hdep hoth hC ;go_simp) (hC.const (by decide) rfl)
    | 6,ho=>
     obtain rfl:=Option.some.inj ho
     refine StepOk3.free rfl ?_;intro vals a V hC hn hdep hoth;obtain⟨v5,hv5,hev5⟩:=hdep _ (Array.mem_of_getElem? (i:=0) rfl) rfl;have x38:a.tmps[38]?.getD undef=.pointer (some ⟨kb,0,none⟩):=(slot_of (hev5 38 rfl)).trans (hC.cs 5 (by decide) (by decide) (by decide) v5 hv5);exact goodRun3.val (w:=V) (c:=.pointer (some ⟨kb,0,none⟩)) (by clear hdep hoth hC hev5;go_simp) (hC.const (by decide) rfl)
    | 7,ho=>
     obtain rfl:=Option.some.inj ho
     refine StepOk3.free rfl ?_;intro vals a V hC hn hdep hoth;obtain⟨v6,hv6,hev6⟩:=hdep _ (Array.mem_of_getElem? (i:=0) rfl) rfl;have x39:a.tmps[39]?.getD undef=.pointer (some ⟨kb,0,none⟩):=(slot_of (hev6 39 rfl)).trans (hC.cs 6 (by decide) (by decide) (by decide) v6 hv6);exact goodRun3.val (w:=V) (c:=.pointer (some ⟨kb,0,none⟩)) (by clear hdep hoth hC hev6;go_simp) (hC.const (by decide) rfl)
    | 8,ho=>
     obtain rfl:=Option.some.inj ho
     refine StepOk3.free rfl ?_;intro vals a V hC hn hdep hoth;obtain⟨v7,hv7,hev7⟩:=hdep _ (Array.mem_of_getElem? (i:=0) rfl) rfl;have x40:a.tmps[40]?.getD undef=.pointer (some ⟨kb,0,none⟩):=(slot_of (hev7 40 rfl)).trans (hC.cs 7 (by decide) (by decide) (by decide) v7 hv7);exact goodRun3.val (w:=V) (c:=.pointer (some ⟨kb,4,none⟩)) (by clear hdep hoth hC hev7;go_simp) (hC.const (by decide) rfl)
    | 9,ho=>
     obtain rfl:=Option.some.inj ho
     refine StepOk3.free rfl ?_;intro vals a V hC hn hdep hoth;obtain⟨v8,hv8,hev8⟩:=hdep _ (Array.mem_of_getElem? (i:=0) rfl) rfl;have x41:a.tmps[41]?.getD undef=.pointer (some ⟨kb,4,none⟩):=(slot_of (hev8 41 rfl)).trans (hC.cs 8 (by decide) (by decide) (by decide) v8 hv8);have hgd:=HCe.out V (hC.good (Or.inr (Or.inl rfl)) hn);have cc:=hgd.2.1;exact goodRun3.val (w:=V) (c:=.slice (some ⟨eb,eo,none⟩) c.ents.length ec) (by clear hdep hoth hC hev8 hgd;go_simp) (hC.const (by decide) rfl)
    | 10,ho=>
     obtain rfl:=Option.some.inj ho
     refine StepOk3.free rfl ?_;intro vals a V hC hn hdep hoth;have x2:a.tmps[2]?.getD undef=.int .i64 (bs.length:Int):=slot_of (hoth 2 (notDst (by kernel_rfl)));exact goodRun3.val (w:=V) (c:=.int .i64 (bs.length:Int)) (by clear hdep hoth hC ;go_simp) (hC.const (by decide) rfl)
    | 11,ho=>
     obtain rfl:=Option.some.inj ho
     refine StepOk3.free rfl ?_;intro vals a V hC hn hdep hoth;obtain⟨v9,hv9,hev9⟩:=hdep _ (Array.mem_of_getElem? (i:=0) rfl) rfl;have x42:a.tmps[42]?.getD undef=.slice (some ⟨eb,eo,none⟩) c.ents.length ec:=(slot_of (hev9 42 rfl)).trans (hC.cs 9 (by decide) (by decide) (by decide) v9 hv9);obtain⟨v10,hv10,hev10⟩:=hdep _ (Array.mem_of_getElem? (i:=1) rfl) rfl;have x43:a.tmps[43]?.getD undef=.int .i64 (bs.length:Int):=(slot_of (hev10 43 rfl)).trans (hC.cs 10 (by decide) (by decide) (by decide) v10 hv10);exact goodRun3.val (w:=V) (c:=.pointer (some ⟨eb,eo+bs.length*10,none⟩)) (by clear hdep hoth hC hev9 hev10;go_simp) (hC.const (by decide) rfl)
    | 12,ho=>
     obtain rfl:=Option.some.inj ho
     refine StepOk3.free rfl ?_;intro vals a V hC hn hdep hoth;obtain⟨v11,hv11,hev11⟩:=hdep _ (Array.mem_of_getElem? (i:=0) rfl) rfl;have x44:a.tmps[44]?.getD undef=.pointer (some ⟨eb,eo+bs.length*10,none⟩):=(slot_of (hev11 44 rfl)).trans (hC.cs 11 (by decide) (by decide) (by decide) v11 hv11);have hgd:=HCe.out V (hC.good (Or.inr (Or.inr rfl)) hn);obtain⟨z0,z1,z2,z3,z4,z5,z6,z7,z8,z9⟩:=hgd.2.2;exact goodRun3.val (w:=V) (c:=.agg #[.string e.name,.int .i64 e.tol,.slice E.pa e.pts.length E.pc,.int .i64 e.cnt,.int .i64 e.mn,.int .i64 e.mx,.slice E.ga e.gaps.length E.gc,.slice E.ea e.edges.length E.ec,.slice E.fa e.first.length E.fc,.slice E.la e.last.length E.lc]) (by clear hdep hoth hC hev11 hgd;go_simp) (hC.const (by decide) rfl)
    | 13,ho=>
     obtain rfl:=Option.some.inj ho
     refine StepOk3.free rfl ?_;intro vals a V hC hn hdep hoth;obtain⟨v12,hv12,hev12⟩:=hdep _ (Array.mem_of_getElem? (i:=0) rfl) rfl;have x45:a.tmps[45]?.getD undef=.agg #[.string e.name,.int .i64 e.tol,.slice E.pa e.pts.length E.pc,.int .i64 e.cnt,.int .i64 e.mn,.int .i64 e.mx,.slice E.ga e.gaps.length E.gc,.slice E.ea e.edges.length E.ec,.slice E.fa e.first.length E.fc,.slice E.la e.last.length E.lc]:=(slot_of (hev12 45 rfl)).trans (hC.cs 12 (by decide) (by decide) (by decide) v12 hv12);exact goodRun3.val (w:=V) (c:=.agg #[.string e.name,.int .i64 e.tol,.slice E.pa e.pts.length E.pc,.int .i64 e.cnt,.int .i64 e.mn,.int .i64 e.mx,.slice E.ga e.gaps.length E.gc,.slice E.ea e.edges.length E.ec,.slice E.fa e.first.length E.fc,.slice E.la e.last.length E.lc,.bool false,.int .i64 0,.slice none 0 0,.int .i64 0,.bool false]) (by clear hdep hoth hC hev12;go_simp) (hC.const (by decide) rfl)
    | 14,ho=>
     obtain rfl:=Option.some.inj ho
     refine StepOk3.free rfl ?_;intro vals a V hC hn hdep hoth;obtain⟨v13,hv13,hev13⟩:=hdep _ (Array.mem_of_getElem? (i:=0) rfl) rfl;have x46:a.tmps[46]?.getD undef=.agg #[.string e.name,.int .i64 e.tol,.slice E.pa e.pts.length E.pc,.int .i64 e.cnt,.int .i64 e.mn,.int .i64 e.mx,.slice E.ga e.gaps.length E.gc,.slice E.ea e.edges.length E.ec,.slice E.fa e.first.length E.fc,.slice E.la e.last.length E.lc,.bool false,.int .i64 0,.slice none 0 0,.int .i64 0,.bool false]:=(slot_of (hev13 46 rfl)).trans (hC.cs 13 (by decide) (by decide) (by decide) v13 hv13);obtain⟨rfl,hA⟩:=hC.box (u:=.pointer (some ⟨wr.heap.size,0,none⟩)) hn rfl;exact goodRun3.val (w:=A1) (c:=.pointer (some ⟨wr.heap.size,0,none⟩)) (by clear hdep hoth hC hA hev13;rw[HA1.out];go_simp) hA
    | 15,ho=>
     obtain rfl:=Option.some.inj ho
     refine StepOk3.free rfl ?_;intro vals a V hC hn hdep hoth;obtain⟨v14,hv14,hev14⟩:=hdep _ (Array.mem_of_getElem? (i:=0) rfl) rfl;have x47:a.tmps[47]?.getD undef=.pointer (some ⟨wr.heap.size,0,none⟩):=(slot_of (hev14 47 rfl)).trans (hC.cs 14 (by decide) (by decide) (by decide) v14 hv14);obtain⟨rfl,hA⟩:=hC.built (u:=.slice (some ⟨wr.heap.size+1,0,none⟩) 1 1) hn (by have e2:vals 14=some v14:=hv14;rw[e2];simp) rfl;have hsz:V.heap.size=wr.heap.size+1:=HA1s.out;exact goodRun3.val (w:=A2) (c:=.slice (some ⟨wr.heap.size+1,0,none⟩) 1 1) (by clear hdep hoth hC hA hev14;rw[HA2.out];go_simp) hA
    | 16,ho=>
     obtain rfl:=Option.some.inj ho
     refine StepOk3.free rfl ?_;intro vals a V hC hn hdep hoth;obtain⟨v4,hv4,hev4⟩:=hdep _ (Array.mem_of_getElem? (i:=0) rfl) rfl;have x37:a.tmps[37]?.getD undef=.slice la bs.length lc:=(slot_of (hev4 37 rfl)).trans (hC.cs 4 (by decide) (by decide) (by decide) v4 hv4);obtain⟨v15,hv15,hev15⟩:=hdep _ (Array.mem_of_getElem? (i:=1) rfl) rfl;have x48:a.tmps[48]?.getD undef=.slice (some ⟨wr.heap.size+1,0,none⟩) 1 1:=(slot_of (hev15 48 rfl)).trans (hC.cs 15 (by decide) (by decide) (by decide) v15 hv15);have y37:a.eval (.tmp 37)=.slice la bs.length lc:=(hev4 37 rfl).trans (hC.cs 4 (by decide) (by decide) (by decide) v4 hv4);have y48:a.eval (.tmp 48)=.slice (some ⟨wr.heap.size+1,0,none⟩) 1 1:=(hev15 48 rfl).trans (hC.cs 15 (by decide) (by decide) (by decide) v15 hv15);obtain⟨rfl,hA⟩:=hC.app hn (by have e2:vals 15=some v15:=hv15;rw[e2];simp);obtain⟨g,cap,V3,hrun,hq⟩:=HApp.out;exact goodRun3.val (w:=V3) (c:=.slice (some ⟨g,0,none⟩) (bs.length+1) cap) (exec_appK (s:=.tmp 37) (x:=.tmp 48) (t:=127) (ty:=_) rfl rfl y37 y48 hrun) (hA g cap V3 hq)
    | 17,ho=>
     obtain rfl:=Option.some.inj ho
     refine StepOk3.free rfl ?_;intro vals a V hC hn hdep hoth;obtain⟨v0,hv0,hev0⟩:=hdep _ (Array.mem_of_getElem? (i:=0) rfl) rfl;have x33:a.tmps[33]?.getD undef=.pointer (some ⟨kb,0,none⟩):=(slot_of (hev0 33 rfl)).trans (hC.cs 0 (by decide) (by decide) (by decide) v0 hv0);exact goodRun3.val (w:=V) (c:=.pointer (some ⟨kb,0,none⟩)) (by clear hdep hoth hC hev0;go_simp) (hC.const (by decide) rfl)
    | 18,ho=>
     obtain rfl:=Option.some.inj ho
     refine StepOk3.free rfl ?_;intro vals a V hC hn hdep hoth;obtain⟨v17,hv17,hev17⟩:=hdep _ (Array.mem_of_getElem? (i:=0) rfl) rfl;have x50:a.tmps[50]?.getD undef=.pointer (some ⟨kb,0,none⟩):=(slot_of (hev17 50 rfl)).trans (hC.cs 17 (by decide) (by decide) (by decide) v17 hv17);exact goodRun3.val (w:=V) (c:=.pointer (some ⟨kb,8,none⟩)) (by clear hdep hoth hC hev17;go_simp) (hC.const (by decide) rfl)
    | 19,ho=>
     obtain rfl:=Option.some.inj ho
     refine StepOk3.free rfl ?_;intro vals a V hC hn hdep hoth;obtain⟨v18,hv18,hev18⟩:=hdep _ (Array.mem_of_getElem? (i:=0) rfl) rfl;have x51:a.tmps[51]?.getD undef=.pointer (some ⟨kb,8,none⟩):=(slot_of (hev18 51 rfl)).trans (hC.cs 18 (by decide) (by decide) (by decide) v18 hv18);obtain⟨v16,hv16,hev16⟩:=hdep _ (Array.mem_of_getElem? (i:=1) rfl) rfl;obtain⟨v4,hv4,-⟩:=hdep _ (Array.mem_of_getElem? (i:=7) rfl) rfl;obtain⟨v9,hv9,-⟩:=hdep _ (Array.mem_of_getElem? (i:=12) rfl) rfl;obtain⟨v12,hv12,-⟩:=hdep _ (Array.mem_of_getElem? (i:=15) rfl) rfl;obtain⟨g,cap,h16,hq,hC2⟩:=hC.put hn (by have e2:vals 16=some v16:=hv16;rw[e2];simp) ⟨by have e2:vals 4=some v4:=hv4;rw[e2];simp,by have e2:vals 9=some v9:=hv9;rw[e2];simp,by have e2:vals 12=some v12:=hv12;rw[e2];simp⟩;have hv16':vals 16=some v16:=hv16;rw[h16] at hv16';have x49:a.tmps[49]?.getD undef=.slice (some ⟨g,0,none⟩) (bs.length+1) cap:=(slot_of (hev16 49 rfl)).trans (Option.some.inj hv16').symm;obtain⟨cc8,cq8⟩:=HQk.out g cap V hq;exact goodRun3.skip (w:=V.setCell ⟨kb,8,none⟩ (.slice (some ⟨g,0,none⟩) (bs.length+1) cap)) (by clear hdep hoth hC hC2 hq hev16 hev18;go_simp) hC2
    | n+20,ho=>simp at ho
   ·intro vals V hC hall;obtain⟨y0,hy0'⟩:=Option.isSome_iff_exists.1 (hall 0 (by decide));obtain⟨y1,hy1'⟩:=Option.isSome_iff_exists.1 (hall 1 (by decide));obtain⟨y2,hy2'⟩:=Option.isSome_iff_exists.1 (hall 2 (by decide));obtain⟨y3,hy3'⟩:=Option.isSome_iff_exists.1 (hall 3 (by decide));obtain⟨y4,hy4'⟩:=Option.isSome_iff_exists.1 (hall 4 (by decide));obtain⟨y5,hy5'⟩:=Option.isSome_iff_exists.1 (hall 5 (by decide));obtain⟨y6,hy6'⟩:=Option.isSome_iff_exists.1 (hall 6 (by decide));obtain⟨y7,hy7'⟩:=Option.isSome_iff_exists.1 (hall 7 (by decide));obtain⟨y8,hy8'⟩:=Option.isSome_iff_exists.1 (hall 8 (by decide));obtain⟨y9,hy9'⟩:=Option.isSome_iff_exists.1 (hall 9 (by decide));obtain⟨y10,hy10'⟩:=Option.isSome_iff_exists.1 (hall 10 (by decide));obtain⟨y11,hy11'⟩:=Option.isSome_iff_exists.1 (hall 11 (by decide));obtain⟨y12,hy12'⟩:=Option.isSome_iff_exists.1 (hall 12 (by decide));obtain⟨y13,hy13'⟩:=Option.isSome_iff_exists.1 (hall 13 (by decide));obtain⟨y14,hy14'⟩:=Option.isSome_iff_exists.1 (hall 14 (by decide));obtain⟨y15,hy15'⟩:=Option.isSome_iff_exists.1 (hall 15 (by decide));obtain⟨y16,hy16'⟩:=Option.isSome_iff_exists.1 (hall 16 (by decide));obtain⟨y17,hy17'⟩:=Option.isSome_iff_exists.1 (hall 17 (by decide));obtain⟨y18,hy18'⟩:=Option.isSome_iff_exists.1 (hall 18 (by decide));obtain⟨y19,hy19'⟩:=Option.isSome_iff_exists.1 (hall 19 (by decide));obtain⟨g,cap,V3,h16,hq,hV⟩:∃ g cap V3,vals 16=some (.slice (some ⟨g,0,none⟩) (bs.length+1) cap)/\(V3.ownsRow wc.heap.size 137 1 (.slice (some ⟨g,0,none⟩) (bs.length+1) cap) (bs.length+1) (bs.flatMap encB++[.pointer (some ⟨wr.heap.size,0,none⟩)])/\A2.grownBy V3 (Value.slice la bs.length lc).ownBlock)/\V=V3.setCell ⟨kb,8,none⟩ (.slice (some ⟨g,0,none⟩) (bs.length+1) cap):=by
     rcases hC.st with ⟨x,_⟩ | ⟨_,x,_⟩ | ⟨_,_,x,_⟩ | ⟨_,_,g,cap,V3,a1,a2,⟨x,_⟩ | ⟨_,a3⟩⟩
     ·rw[hy14'] at x;cases x
     ·rw[hy15'] at x;cases x
     ·rw[hy16'] at x;cases x
     ·rw[hy19'] at x;cases x
     ·exact⟨g,cap,V3,a1,a2,a3⟩
    have L2:=(HL.out.below (below_drewN (Below.refl _ _) 1:Below wr.heap.size wr wr.drew)).more (e:=e) (E:=E) (g:=g) (cap:=cap) HEt.out HP.out (by rw[HA2.out,HA1.out];rfl) hq.1 hq.2 hV;have HL2:Hid _:=L2;clear L2 hC hall hq hV h16;simp only[fill,dstOf,hy0',hy1',hy2',hy3',hy4',hy5',hy6',hy7',hy8',hy9',hy10',hy11',hy12',hy13',hy14',hy15',hy16',hy17',hy18',hy19'];clear hy0' hy1' hy2' hy3' hy4' hy5' hy6' hy7' hy8' hy9' hy10' hy11' hy12' hy13' hy14' hy15' hy16' hy17' hy18' hy19';go_simp
    go_wp2_with fail
    go_roundw
    case rel=>exact⟨bs++[wr.heap.size],_,by rw[List.length_append,List.length_singleton];omega,by rw[List.length_append,List.length_singleton];go_num,HL2.out⟩
    case measure=>simp[intOf];omega
  ·have k1:¬(bs.length:Int) < (c.ents.length:Int):=by omega
   have hle:bs.length=c.ents.length:=by omega
   have e3:wr.cell? ⟨kb,3,none⟩=some (.int .i64 c.delay):=cell_row L.row rfl;have a9:∀ o,(wr.alloc o).cell? ⟨kb,9,none⟩=some tv:=fun o=>cell_row (row_below (Below.one wr o) L.row) rfl
   have aq9:∀ o,(wr.alloc o).frozen? ⟨kb,9,none⟩=false:=fun o=>by have:=row_below (Below.one wr o) L.row;simp[World.frozen?,this]
   have HL:Hid _:=L;clear L;go_wp2;go_end0
   refine⟨rfl,HCan kb lx bm w1.heap.size (.slice va (openL m.B.data.toList).length vc) bd wr.heap.size bs,w1.heap.size,wr.heap.size,.slice va (openL m.B.data.toList).length vc,lx,bs,?_⟩;exact opened_in HH1.out.1 HH1.out.2.1 HH1.out.2.2.1 HH1.out.2.2.2.1 ⟨HWz.out,HH1.out.2.2.2.2⟩ ⟨lt_of_row H0.out.row,H0.out.mod.lt,H0.out.dog.lt⟩ H0.out.bel.size HL.out hle HDe.out rfl
end
end Go.Proofs.YtdpdbfhbojgigacGreatDoor
