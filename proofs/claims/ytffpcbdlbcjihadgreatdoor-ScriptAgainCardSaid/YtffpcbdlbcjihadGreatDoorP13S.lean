/-
  Several texts as one: FlOff, LoMem, LoWat, LoSteps.
-/
import Derived.Test.YtffpcbdlbcjihadGreatDoorP12S
namespace Go.Proofs.YtffpcbdlbcjihadGreatDoor
open Go.RowKit Go.Extern.Stop Go.Stop Go.Extern
variable {B b m n:Nat}{w0 w w':World}{e:EntD}{s:FSt}{D:DataW Unit}{fv lv:Value}
set_option maxHeartbeats 1000000 in
theorem fl_end2 (h:FlAt B w b e s m n D fv lv) :
  Calls Tryz.prog 327 #[.pointer (some ⟨b,0,none⟩)] w fun z w'=>z=.returned (.bool (!s.bad))/\FlAt B w' b e s.zero m n D fv lv/\w.grownBy w' (some b):=by
 have c5:=h.cell 5 _ rfl;have f5:=h.frozen 5;have HF:Hid (FlAt B (w.setCell ⟨b,5,none⟩ (.bool false)) b e s.zero m n D fv lv):=h.setBad false;clear h;go_enter Tryz.func327,Tryz.ntmps327
 go_wp2;go_ret;exact⟨rfl,HF.out,grown_setCell _ _ _ _⟩
set_option maxHeartbeats 2000000 in
set_option maxRecDepth 100000 in
theorem fl_report2 (p:Int)(h:FlAt B w b e s m n D fv lv) :
  Calls Tryz.prog 235 #[.pointer (some ⟨b,0,none⟩),.int .i64 p] w fun v w'=>v=.returned (.tuple #[])/\FlAt B w' b e (s.rep e p) m n D fv lv/\w.grownBy w' (some b):=by
 have H:Hid (FlAt B w b e s m n D fv lv):=h;have c5:=h.cell 5 _ rfl;have c4:=h.cell 4 _ rfl;have fin:∀ (V:World) (z:Bool),w.grownBy V none->z=(s.bad || !bearsE e s.ah p)->FlAt B (V.setCell ⟨b,5,none⟩ (.bool z)) b e ⟨s.ah,z⟩ m n D fv lv/\FlAt B ((V.setCell ⟨b,5,none⟩ (.bool z)).setCell ⟨b,4,none⟩ (.int .i64 (behindE e p))) b e (s.rep e p) m n D fv lv/\w.grownBy ((V.setCell ⟨b,5,none⟩ (.bool z)).setCell ⟨b,4,none⟩ (.int .i64 (behindE e p))) (some b):=fun V z hV hz=>by
  have hb:=below_of_grown hV;have h1:FlAt B V b e s m n D fv lv:=h.below hb;have h2:=h1.setBad z;have h3:=h2.setAh (behind_fit e p)
  refine⟨h2,?_,?_⟩
  ·unfold FSt.rep;rw[<- hz];exact h3
  ·exact((hV.but (some b)).trans (grown_setCell V b 5 _)).trans (grown_setCell _ b 4 _)
 have HFin:Hid _:=fin;clear h fin
 cases hb:s.bad
 ·rw[hb] at c5 HFin;go_enter Tryz.func235,Tryz.ntmps235
  go_wp2_with fail
  refine(fl_bears s.ah p H.out H.out.fit).mono ?_;rintro v V ⟨rfl,hV⟩;obtain⟨h2,h3⟩:=HFin.out V (!bearsE e s.ah p) hV rfl;have HA:Hid (FlAt B (V.setCell ⟨b,5,none⟩ (.bool (!bearsE e s.ah p))) b e ⟨s.ah,!bearsE e s.ah p⟩ m n D fv lv):=h2;have HZ:Hid _:=h3;have f5:V.frozen? ⟨b,5,none⟩=false:=(H.out.below (below_of_grown hV)).frozen 5;have d5:V.cell? ⟨b,5,none⟩=some (.bool s.bad):=(H.out.below (below_of_grown hV)).cell 5 _ rfl;have d4:=h2.cell 4 _ rfl;have f4:=h2.frozen 4;clear h2 h3 HFin hV c4 c5 H;go_wp2_with (go_at_call 274;refine(fl_behind p HA.out).mono ?_;rintro v w' ⟨rfl,rfl⟩)
  go_end0
  exact⟨rfl,HZ.out⟩
 ·rw[hb] at c5 HFin;obtain⟨h2,h3⟩:=HFin.out w true (gr_refl _ _) rfl;have HA:Hid (FlAt B (w.setCell ⟨b,5,none⟩ (.bool true)) b e ⟨s.ah,true⟩ m n D fv lv):=h2;have HZ:Hid _:=h3;have f5:w.frozen? ⟨b,5,none⟩=false:=H.out.frozen 5;have d4:=h2.cell 4 _ rfl;have f4:=h2.frozen 4;clear h2 h3 HFin H;go_enter Tryz.func235,Tryz.ntmps235
  go_wp2_with (go_at_call 274;refine(fl_behind p HA.out).mono ?_;rintro v w' ⟨rfl,rfl⟩)
  go_end0
  exact⟨rfl,HZ.out⟩
end Go.Proofs.YtffpcbdlbcjihadGreatDoor
namespace Go.Proofs.YtffpcbdlbcjihadGreatDoor
open Go.RowKit Go.Extern.Stop Go.Stop Go.Extern
structure EA where
 pa:Option Addr
 ga:Option Addr
 ea:Option Addr
 fa:Option Addr
 la:Option Addr
 pc:Nat
 gc:Nat
 ec:Nat
 fc:Nat
 lc:Nat
section
variable {F F':Nat->Prop}{w w' w'':World}{b ba bg bf:Nat}{e:EntD}{E:EA}
def OwnF {α:Type}(enc:α->List Value)(k:Nat)(T:TypeId)(F:Nat->Prop)(w:World)(v:Value)(xs:List α):Prop:=SlOwn enc k T 0 w v xs/\∀ g,v.ownBlock=some g->F g
theorem SlOwn.same {α:Type}{enc:α->List Value}{k B:Nat}{T:TypeId}{v:Value}{xs:List α}(h:SlOwn enc k T B w v xs)(hs:∀ g,v.ownBlock=some g->w'.heap[g]?=w.heap[g]?):SlOwn enc k T B w' v xs:=by
 refine⟨h.1,?_⟩
 rcases h.2 with hn | ⟨g,cap,cur,rfl,hb,hgg,rest⟩
 ·exact .inl hn
 ·exact .inr ⟨g,cap,cur,rfl,hb,(hs g rfl).trans hgg,rest⟩
theorem OwnF.same {α:Type}{enc:α->List Value}{k:Nat}{T:TypeId}{v:Value}{xs:List α}(h:OwnF enc k T F w v xs)(hs:∀ k,F k->w'.heap[k]?=w.heap[k]?):OwnF enc k T F w' v xs:=⟨h.1.same (fun g hg=>hs g (h.2 g hg)),h.2⟩
theorem OwnF.mono {α:Type}{enc:α->List Value}{k:Nat}{T:TypeId}{v:Value}{xs:List α}(h:OwnF enc k T F w v xs)(hF:∀ k,k < w.heap.size->F k->F' k):OwnF enc k T F' w v xs:=⟨h.1,fun g hg=>hF g (h.1.lt g hg).2 (h.2 g hg)⟩
theorem OwnF.of {α:Type}{enc:α->List Value}{k B:Nat}{T:TypeId}{v:Value}{xs:List α}(h:SlOwn enc k T B w v xs)(hF:∀ k,B<=k->F k):OwnF enc k T F w v xs:=
 ⟨⟨h.1,h.2.imp id fun ⟨g,cap,cur,h1,_,h3⟩=>⟨g,cap,cur,h1,Nat.zero_le _,h3⟩⟩,fun g hg=>hF g (h.lt g hg).1⟩
structure PartsF (F:Nat->Prop)(w:World)(e:EntD)(E:EA):Prop where
 hp:OwnF encS 1 9 F w (.slice E.pa e.pts.length E.pc) e.pts
 hg:OwnF encG 4 96 F w (.slice E.ga e.gaps.length E.gc) e.gaps
 he:OwnF encP 2 97 F w (.slice E.ea e.edges.length E.ec) e.edges
 hf:OwnF encI 1 3 F w (.slice E.fa e.first.length E.fc) e.first
 hl:OwnF encI 1 3 F w (.slice E.la e.last.length E.lc) e.last
theorem PartsF.parts (h:PartsF F w e E):EntParts w e (.slice E.pa e.pts.length E.pc) (.slice E.ga e.gaps.length E.gc) (.slice E.ea e.edges.length E.ec) (.slice E.fa e.first.length E.fc) (.slice E.la e.last.length E.lc):=
 ⟨h.hp.1.slat (fun _=>rfl),h.hg.1.slat (fun _=>rfl),h.he.1.slat (fun _=>rfl),h.hf.1.slat (fun _=>rfl),h.hl.1.slat (fun _=>rfl)⟩
theorem PartsF.same (h:PartsF F w e E)(hs:∀ k,F k->w'.heap[k]?=w.heap[k]?):PartsF F w' e E:=⟨h.hp.same hs,h.hg.same hs,h.he.same hs,h.hf.same hs,h.hl.same hs⟩
theorem PartsF.mono (h:PartsF F w e E)(hF:∀ k,k < w.heap.size->F k->F' k):PartsF F' w e E:=⟨h.hp.mono hF,h.hg.mono hF,h.he.mono hF,h.hf.mono hF,h.hl.mono hF⟩
def TyL (T:TypeId):Prop:=T=245\/T=342\/T=345\/T=347\/T=350
structure FrL (F:Nat->Prop)(w w':World):Prop where
 off:Off F w w'
 ty:∀ (k:Nat) (c:Array Value) (T:TypeId) (fr:Nat × Nat),w.heap[k]?=some (.cells c T fr)->¬TyL T->w'.heap[k]?=some (.cells c T fr)
 mp:∀ (k:Nat) (o:Obj),w.heap[k]?=some o->(∀ c T fr,o≠.cells c T fr)->w'.heap[k]?=some o
theorem FrL.refl (F:Nat->Prop)(w:World):FrL F w w:=⟨Off.refl _ _,fun _ _ _ _ h _=>h,fun _ _ h _=>h⟩
theorem FrL.trans (h:FrL F w w')(h':FrL F' w' w'')(hF:∀ k,k < w.heap.size->F' k->F k):FrL F w w'':=⟨h.off.trans h'.off hF,fun k c T fr a d=>h'.ty k c T fr (h.ty k c T fr a d) d,fun k o a d=>h'.mp k o (h.mp k o a d) d⟩
theorem FrL.below (hb:Below w.heap.size w w'):FrL F w w':=⟨Off.of_below hb F,fun _ _ _ _ hk _=>row_below hb hk,fun _ _ hk _=>row_below hb hk⟩
theorem FrL.of (S:Nat->Prop)(h:Off S w w')(hS:∀ k,k < w.heap.size->S k->F k/\∃ c T fr,w.heap[k]?=some (.cells c T fr)/\TyL T):FrL F w w':=by
 refine⟨h.mono (fun i hi hs=>(hS i hi hs).1),fun k c T fr hk hT=>?_,fun k o hk ho=>?_⟩
 ·refine(h.block k (lt_of_row hk) (fun hs=>?_)).trans hk;obtain⟨-,c',T',fr',h1,h2⟩:=hS k (lt_of_row hk) hs;rw[hk] at h1;simp only[Option.some.injEq,Obj.cells.injEq] at h1;obtain⟨-,rfl,-⟩:=h1;exact hT h2
 ·refine(h.block k (lt_of_row hk) (fun hs=>?_)).trans hk;obtain⟨-,c',T',fr',h1,h2⟩:=hS k (lt_of_row hk) hs;rw[hk] at h1;exact ho _ _ _ (Option.some.inj h1)
theorem FrL.put {c:Array Value}{T:TypeId}{fr:Nat × Nat}(hg:w.grownBy w' (some b))(hb:w.heap[b]?=some (.cells c T fr))(hT:TyL T)(hF:F b):FrL F w w':=
 FrL.of _ (Off.of_grown hg) (fun k _ e=>by subst e;exact⟨hF,c,T,fr,hb,hT⟩)
theorem PartsF.fr (h:PartsF F w e E)(hf:FrL F' w w'):PartsF F w' e E:=by
 have g:∀ {α:Type} {enc:α->List Value} {k:Nat} {T:TypeId} {v:Value} {xs:List α},¬TyL T->OwnF enc k T F w v xs->OwnF enc k T F w' v xs:=fun {α} {enc} {k} {T} {v} {xs} hT h=>by
  refine⟨h.1.same (fun g hg=>?_),h.2⟩
  rcases h.1.2 with ⟨rfl,-⟩ | ⟨g',cap,cur,rfl,hb,hgg,rest⟩
  ·simp[Value.ownBlock] at hg
  ·simp only[Value.ownBlock,Option.some.injEq] at hg;subst hg;rw[hgg];exact hf.ty _ _ _ _ hgg hT
 exact⟨g (by unfold TyL;decide) h.hp,g (by unfold TyL;decide) h.hg,g (by unfold TyL;decide) h.he,g (by unfold TyL;decide) h.hf,g (by unfold TyL;decide) h.hl⟩
structure WatAt (F:Nat->Prop)(w:World)(ba bg bf:Nat)(e:EntD)(s:WSt):Prop where
 al:AlAt w ba s.a
 fa:F ba
 ga:∃ sa cap,GpAt 0 w bg sa cap s.g/\∀ k,GS bg sa s.g.xs.length k->F k
 fl:∃ m n D fv lv,FlAt 0 w bf e s.f m n D fv lv/\F bf/\F m/\(∀ g,fv.ownBlock=some g->F g)/\∀ g,lv.ownBlock=some g->F g
 gl:s.g.xs.length=e.gaps.length
theorem GpAt.same {B cap:Nat}{sa:Option Addr}{s:GSt}(h:GpAt B w b sa cap s)(hs:∀ k,GS b sa s.xs.length k->w'.heap[k]?=w.heap[k]?):GpAt B w' b sa cap s:=by
 refine⟨(hs b (Or.inl rfl)).trans h.heap,fun hne=>?_,h.lo,h.fit⟩;obtain⟨g,o,e1,h1,h2,hc,cur,hf⟩:=h.sl hne;have hg:=hs g (Or.inr ⟨List.length_pos_iff.2 hne,o,e1⟩);exact⟨g,o,e1,h1,h2,fun i x hx j u hu=>(World.cell?_of_block (a:=⟨g,o+i*5+j,none⟩) hg).trans (hc i x hx j u hu),cur,hg.trans hf⟩
theorem FlAt.same {B m n:Nat}{s:FSt}{D:DataW Unit}{fv lv:Value}(h:FlAt B w b e s m n D fv lv)(hb:w'.heap[b]?=w.heap[b]?)(hm:w'.heap[m]?=w.heap[m]?)(hf:∀ g,fv.ownBlock=some g->w'.heap[g]?=w.heap[g]?)(hl:∀ g,lv.ownBlock=some g->w'.heap[g]?=w.heap[g]?):FlAt B w' b e s m n D fv lv:=by
 refine⟨hb.trans h.heap,h.lo,?_,h.edg,h.hf.same hf,h.hl.same hl,h.fit,h.sm,h.wf⟩;obtain⟨es,c,hm0,rest⟩:=h.own;exact⟨es,c,hm.trans hm0,rest⟩
theorem AlAt.same {a:ASt}(h:AlAt w b a)(hs:w'.heap[b]?=w.heap[b]?):AlAt w' b a:=⟨hs.trans h.heap,h.hn⟩
theorem WatAt.same {s:WSt}(h:WatAt F w ba bg bf e s)(hs:∀ k,F k->w'.heap[k]?=w.heap[k]?):WatAt F w' ba bg bf e s:=by
 obtain⟨sa,cap,h1,h2⟩:=h.ga;obtain⟨m,n,D,fv,lv,h3,h4,h5,h6,h7⟩:=h.fl;exact⟨h.al.same (hs _ h.fa),h.fa,⟨sa,cap,h1.same (fun k hk=>hs k (h2 k hk)),h2⟩,⟨m,n,D,fv,lv,h3.same (hs _ h4) (hs _ h5) (fun g hg=>hs g (h6 g hg)) (fun g hg=>hs g (h7 g hg)),h4,h5,h6,h7⟩,h.gl⟩
end
section
variable {F F':Nat->Prop}{w w' w'':World}{b ba bg bf:Nat}{e:EntD}{E:EA}{s:WSt}
def entV (e:EntD)(E:EA):Value:=.agg #[.string e.name,.int .i64 e.tol,.slice E.pa e.pts.length E.pc,.int .i64 e.cnt,.int .i64 e.mn,.int .i64 e.mx,.slice E.ga e.gaps.length E.gc,.slice E.ea e.edges.length E.ec,.slice E.fa e.first.length E.fc,.slice E.la e.last.length E.lc]
def PartsE (w:World)(e:EntD)(E:EA):Prop:=EntParts w e (.slice E.pa e.pts.length E.pc) (.slice E.ga e.gaps.length E.gc) (.slice E.ea e.edges.length E.ec) (.slice E.fa e.first.length E.fc) (.slice E.la e.last.length E.lc)
theorem PartsE.below (h:PartsE w e E)(hb:Below w.heap.size w w'):PartsE w' e E:=EntParts.below h hb
def GaF (B:Nat)(w:World)(bg:Nat)(s:GSt):Prop:=∃ sa cap,GpAt 0 w bg sa cap s/\∀ k,GS bg sa s.xs.length k->B<=k
def FlF (B:Nat)(w:World)(bf:Nat)(e:EntD)(s:FSt):Prop:=∃ m n D fv lv,FlAt 0 w bf e s m n D fv lv/\B<=bf/\B<=m/\(∀ g,fv.ownBlock=some g->B<=g)/\∀ g,lv.ownBlock=some g->B<=g
theorem gs_lt {B cap:Nat}{sa:Option Addr}{s:GSt}(h:GpAt B w b sa cap s){k:Nat}(hk:GS b sa s.xs.length k):k < w.heap.size:=by
 rcases hk with rfl | ⟨h0,o,e1⟩
 ·exact lt_of_row h.heap
 ·obtain⟨g,o',e2,-,-,-,cur,hf⟩:=h.sl (List.length_pos_iff.1 h0);rw[e1] at e2;simp only[Option.some.injEq,Addr.mk.injEq,and_true] at e2;obtain⟨rfl,-⟩:=e2;exact lt_of_row hf
theorem map_lt {B m n:Nat}{s:FSt}{D:DataW Unit}{fv lv:Value}(h:FlAt B w b e s m n D fv lv):m < w.heap.size:=by
 obtain⟨es,c,hm0,rest⟩:=h.own;exact lt_of_row hm0
theorem GaF.keep {B:Nat}{s:GSt}(h:GaF B w bg s)(hs:∀ k,B<=k->k < w.heap.size->w'.heap[k]?=w.heap[k]?):GaF B w' bg s:=by
 obtain⟨sa,cap,h1,h2⟩:=h;exact⟨sa,cap,h1.same (fun k hk=>hs k (h2 k hk) (gs_lt h1 hk)),h2⟩
theorem FlF.keep {B:Nat}{s:FSt}(h:FlF B w bf e s)(hs:∀ k,B<=k->k < w.heap.size->w'.heap[k]?=w.heap[k]?):FlF B w' bf e s:=by
 obtain⟨m,n,D,fv,lv,h3,h4,h5,h6,h7⟩:=h;exact⟨m,n,D,fv,lv,h3.same (hs _ h4 (lt_of_row h3.heap)) (hs _ h5 (map_lt h3)) (fun g hg=>hs g (h6 g hg) (h3.hf.lt g hg).2) (fun g hg=>hs g (h7 g hg) (h3.hl.lt g hg).2),h4,h5,h6,h7⟩
def AlF (B:Nat)(w:World)(ba:Nat)(a:ASt):Prop:=AlAt w ba a/\B<=ba
theorem AlF.keep {B:Nat}{a:ASt}(h:AlF B w ba a)(hs:∀ k,B<=k->k < w.heap.size->w'.heap[k]?=w.heap[k]?):AlF B w' ba a:=⟨h.1.same (hs _ h.2 (lt_of_row h.1.heap)),h.2⟩
def nwS (B r:Nat)(e:EntD)(E:EA):Nat->Value->World->Prop
 | 0=>fun v _=>v=.agg #[.string e.name,.int .i64 e.tol,.slice E.pa e.pts.length E.pc,.int .i64 e.cnt,.int .i64 e.mn,.int .i64 e.mx,.slice E.ga e.gaps.length E.gc,.slice E.ea e.edges.length E.ec,.slice E.fa e.first.length E.fc,.slice E.la e.last.length E.lc]
 | 1=>fun v w=>∃ ba,v=.pointer (some ⟨ba,0,none⟩)/\AlF B w ba (WSt.new e).a
 | 2=>fun v _=>v=.agg #[.string e.name,.int .i64 e.tol,.slice E.pa e.pts.length E.pc,.int .i64 e.cnt,.int .i64 e.mn,.int .i64 e.mx,.slice E.ga e.gaps.length E.gc,.slice E.ea e.edges.length E.ec,.slice E.fa e.first.length E.fc,.slice E.la e.last.length E.lc]
 | 3=>fun v w=>∃ bg,v=.pointer (some ⟨bg,0,none⟩)/\GaF B w bg (WSt.new e).g
 | 4=>fun v _=>v=.agg #[.string e.name,.int .i64 e.tol,.slice E.pa e.pts.length E.pc,.int .i64 e.cnt,.int .i64 e.mn,.int .i64 e.mx,.slice E.ga e.gaps.length E.gc,.slice E.ea e.edges.length E.ec,.slice E.fa e.first.length E.fc,.slice E.la e.last.length E.lc]
 | 5=>fun v w=>∃ bf,v=.pointer (some ⟨bf,0,none⟩)/\FlF B w bf e (WSt.new e).f
 | 6=>fun v w=>∃ ba bg bf,v=.agg #[.pointer (some ⟨ba,0,none⟩),.pointer (some ⟨bg,0,none⟩),.pointer (some ⟨bf,0,none⟩)]/\AlF B w ba (WSt.new e).a/\GaF B w bg (WSt.new e).g/\FlF B w bf e (WSt.new e).f
 | 7=>fun _ w=>∃ ba bg bf,w.heap[r]?=some (.cells #[.pointer (some ⟨ba,0,none⟩),.pointer (some ⟨bg,0,none⟩),.pointer (some ⟨bf,0,none⟩)] 243 (0,0))/\AlF B w ba (WSt.new e).a/\GaF B w bg (WSt.new e).g/\FlF B w bf e (WSt.new e).f
 | _=>fun _ _=>True
theorem nwS_keeps {B r:Nat}(hs:∀ k,B<=k->k < w.heap.size->w'.heap[k]?=w.heap[k]?):∀ j v,(j=7->w'.heap[r]?=w.heap[r]?)->nwS B r e E j v w->nwS B r e E j v w':=by
 intro j v h7 h
 match j,h7,h with
 | 0,_,h=>exact h
 | 1,_,h=>obtain⟨ba,h1,h2⟩:=h;exact⟨ba,h1,h2.keep hs⟩
 | 2,_,h=>exact h
 | 3,_,h=>obtain⟨ba,h1,h2⟩:=h;exact⟨ba,h1,h2.keep hs⟩
 | 4,_,h=>exact h
 | 5,_,h=>obtain⟨ba,h1,h2⟩:=h;exact⟨ba,h1,h2.keep hs⟩
 | 6,_,h=>obtain⟨ba,bg,bf,h1,h2,h3,h4⟩:=h;exact⟨ba,bg,bf,h1,h2.keep hs,h3.keep hs,h4.keep hs⟩
 | 7,h7,h=>obtain⟨ba,bg,bf,h1,h2,h3,h4⟩:=h;exact⟨ba,bg,bf,(h7 rfl).trans h1,h2.keep hs,h3.keep hs,h4.keep hs⟩
 | n+8,_,h=>exact h
theorem GpAt.zero {B cap:Nat}{sa:Option Addr}{s:GSt}(h:GpAt B w b sa cap s):GpAt 0 w b sa cap s:=by
 refine⟨h.heap,fun hne=>?_,Nat.zero_le _,h.fit⟩;obtain⟨g,o,e1,h1,h2,r⟩:=h.sl hne;exact⟨g,o,e1,h1,Nat.zero_le _,r⟩
theorem GpAt.gs_lo {B cap:Nat}{sa:Option Addr}{s:GSt}(h:GpAt B w b sa cap s){k:Nat}(hk:GS b sa s.xs.length k):B<=k:=by
 rcases hk with rfl | ⟨h0,o,e1⟩
 ·exact h.lo
 ·obtain⟨g,o',e2,-,hB,-⟩:=h.sl (List.length_pos_iff.1 h0);rw[e1] at e2;simp only[Option.some.injEq,Addr.mk.injEq,and_true] at e2;obtain⟨rfl,-⟩:=e2;exact hB
theorem own0 {α:Type}{enc:α->List Value}{k B:Nat}{T:TypeId}{v:Value}{xs:List α}(h:SlOwn enc k T B w v xs):SlOwn enc k T 0 w v xs:=⟨h.1,h.2.imp id fun ⟨g,cap,cur,h1,_,h3⟩=>⟨g,cap,cur,h1,Nat.zero_le _,h3⟩⟩
theorem FlAt.zero {B m n:Nat}{s:FSt}{D:DataW Unit}{fv lv:Value}(h:FlAt B w b e s m n D fv lv):FlAt 0 w b e s m n D fv lv:=⟨h.heap,Nat.zero_le _,h.own,h.edg,own0 h.hf,own0 h.hl,h.fit,h.sm,h.wf⟩
theorem row_put3 {r:Nat}{T:TypeId}{a b c x y z:Value}(hr:w.heap[r]?=some (.cells #[x,y,z] T (0,0))):(((w.setCell ⟨r,0,none⟩ a).setCell ⟨r,1,none⟩ b).setCell ⟨r,2,none⟩ c).heap[r]?=some (.cells #[a,b,c] T (0,0)):=by
 simp[World.setCell,Array.getElem?_modify,hr]
theorem Tryz.sizeWatch:(Tryz.prog.info? 243).map (·.size)=some 3:=by kernel_rfl
set_option maxHeartbeats 4000000 in
set_option maxRecDepth 100000 in
theorem newWatch_at (w:World)(e:EntD)(E:EA)(hP:PartsE w e E)(hS:SmallE e)(hW:WfE e.edges) :
  Calls Tryz.prog 169 #[.agg #[.string e.name,.int .i64 e.tol,.slice E.pa e.pts.length E.pc,.int .i64 e.cnt,.int .i64 e.mn,.int .i64 e.mx,.slice E.ga e.gaps.length E.gc,.slice E.ea e.edges.length E.ec,.slice E.fa e.first.length E.fc,.slice E.la e.last.length E.lc]] w fun v w'=>(∃ ba bg bf,v=.returned (.agg #[.pointer (some ⟨ba,0,none⟩),.pointer (some ⟨bg,0,none⟩),.pointer (some ⟨bf,0,none⟩)])/\WatAt (fun k=>w.heap.size<=k) w' ba bg bf e (WSt.new e))/\Below w.heap.size w w':=by
 have HP:Hid (PartsE w e E):=hP;have HS:Hid (SmallE e):=hS;have HW:Hid (WfE e.edges):=hW;clear hP hS hW;go_enter Tryz.func169,Tryz.ntmps169
 go_wp2_with fail
 obtain⟨W,hW⟩:∃ V,V=(w.alloc (.cells #[.string e.name,.int .i64 e.tol,.slice E.pa e.pts.length E.pc,.int .i64 e.cnt,.int .i64 e.mn,.int .i64 e.mx,.slice E.ga e.gaps.length E.gc,.slice E.ea e.edges.length E.ec,.slice E.fa e.first.length E.fc,.slice E.la e.last.length E.lc] 83)).alloc (.cells #[.pointer none,.pointer none,.pointer none] 243):=⟨_,rfl⟩;rw[<- hW];have HBW:Hid (Below w.heap.size w W):=by show Below _ _ _;rw[hW];exact(Below.one _ _).alloc (by simp) _
 have hsz:W.heap.size=w.heap.size+2:=by rw[hW];simp
 have HX:Hid (W.heap[w.heap.size]?=some (.cells #[.string e.name,.int .i64 e.tol,.slice E.pa e.pts.length E.pc,.int .i64 e.cnt,.int .i64 e.mn,.int .i64 e.mx,.slice E.ga e.gaps.length E.gc,.slice E.ea e.edges.length E.ec,.slice E.fa e.first.length E.fc,.slice E.la e.last.length E.lc] 83 (0,0))):=by
  show _=_
  rw[hW];exact row_below (Below.one _ _) (heap_alloc_new w _)
 have HR:Hid (W.heap[w.heap.size+1]?=some (.cells #[.pointer none,.pointer none,.pointer none] 243 (0,0))):=by
  show _=_
  rw[hW];have:=heap_alloc_new (w.alloc (.cells #[.string e.name,.int .i64 e.tol,.slice E.pa e.pts.length E.pc,.int .i64 e.cnt,.int .i64 e.mn,.int .i64 e.mx,.slice E.ga e.gaps.length E.gc,.slice E.ea e.edges.length E.ec,.slice E.fa e.first.length E.fc,.slice E.la e.last.length E.lc] 83)) (.cells #[.pointer none,.pointer none,.pointer none] 243);simpa using this
 have HZ:Hid (W.heap.size=w.heap.size+2):=hsz;clear hW hsz
 refine region_spec2 8 rfl (nwS (w.heap.size+2) (w.heap.size+1) e E) (fun done V=>Below w.heap.size w V/\V.heap[w.heap.size]?=some (.cells #[.string e.name,.int .i64 e.tol,.slice E.pa e.pts.length E.pc,.int .i64 e.cnt,.int .i64 e.mn,.int .i64 e.mx,.slice E.ga e.gaps.length E.gc,.slice E.ea e.edges.length E.ec,.slice E.fa e.first.length E.fc,.slice E.la e.last.length E.lc] 83 (0,0))/\w.heap.size+2<=V.heap.size/\(done 7=false->V.heap[w.heap.size+1]?=some (.cells #[.pointer none,.pointer none,.pointer none] 243 (0,0)))) (by kernel_rfl) (by kernel_rfl) ⟨HBW.out.drew,HX.out,by have:=HZ.out;show _<=W.heap.size;omega,fun _=>HR.out⟩ ?_ ?_
 ·intro i o ho
  match i,ho with
  | 0,ho=>
   obtain rfl:=Option.some.inj ho
   refine StepOk2.free rfl ?_;intro done a V hC hdn _ hdep hoth;have x1:a.tmps[1]?.getD undef=.pointer (some ⟨w.heap.size,0,none⟩):=slot_of (hoth 1 (notDst (by kernel_rfl)));have hrow:=hC.2.1;have c0:V.cell? ⟨w.heap.size,0,none⟩=some (.string e.name):=by simp[World.cell?,hrow]
   have c1:V.cell? ⟨w.heap.size,1,none⟩=some (.int .i64 e.tol):=by simp[World.cell?,hrow]
   have c2:V.cell? ⟨w.heap.size,2,none⟩=some (.slice E.pa e.pts.length E.pc):=by simp[World.cell?,hrow]
   have c3:V.cell? ⟨w.heap.size,3,none⟩=some (.int .i64 e.cnt):=by simp[World.cell?,hrow]
   have c4:V.cell? ⟨w.heap.size,4,none⟩=some (.int .i64 e.mn):=by simp[World.cell?,hrow]
   have c5:V.cell? ⟨w.heap.size,5,none⟩=some (.int .i64 e.mx):=by simp[World.cell?,hrow]
   have c6:V.cell? ⟨w.heap.size,6,none⟩=some (.slice E.ga e.gaps.length E.gc):=by simp[World.cell?,hrow]
   have c7:V.cell? ⟨w.heap.size,7,none⟩=some (.slice E.ea e.edges.length E.ec):=by simp[World.cell?,hrow]
   have c8:V.cell? ⟨w.heap.size,8,none⟩=some (.slice E.fa e.first.length E.fc):=by simp[World.cell?,hrow]
   have c9:V.cell? ⟨w.heap.size,9,none⟩=some (.slice E.la e.last.length E.lc):=by simp[World.cell?,hrow]
   exact goodRun2.val (c:=.agg #[.string e.name,.int .i64 e.tol,.slice E.pa e.pts.length E.pc,.int .i64 e.cnt,.int .i64 e.mn,.int .i64 e.mx,.slice E.ga e.gaps.length E.gc,.slice E.ea e.edges.length E.ec,.slice E.fa e.first.length E.fc,.slice E.la e.last.length E.lc]) (by clear hdep hoth hC hrow;go_simp) ⟨hC.1,hC.2.1,hC.2.2.1,by rw[mark_other done (by decide)];exact hC.2.2.2⟩ rfl
  | 1,ho=>
   obtain rfl:=Option.some.inj ho
   refine StepOk2.free rfl ?_;intro done a V hC hdn _ hdep hoth;have x3:a.tmps[3]?.getD undef=.agg #[.string e.name,.int .i64 e.tol,.slice E.pa e.pts.length E.pc,.int .i64 e.cnt,.int .i64 e.mn,.int .i64 e.mx,.slice E.ga e.gaps.length E.gc,.slice E.ea e.edges.length E.ec,.slice E.fa e.first.length E.fc,.slice E.la e.last.length E.lc]:=slot_of (hdep _ 3 (Array.mem_of_getElem? (i:=0) rfl) rfl rfl)
   refine goodRun2.call (f:=230) (args:=#[.agg #[.string e.name,.int .i64 e.tol,.slice E.pa e.pts.length E.pc,.int .i64 e.cnt,.int .i64 e.mn,.int .i64 e.mx,.slice E.ga e.gaps.length E.gc,.slice E.ea e.edges.length E.ec,.slice E.fa e.first.length E.fc,.slice E.la e.last.length E.lc]]) (by clear hdep hoth hC;go_simp) ?_
   refine(al_new e.name e.tol e.cnt e.mn e.mx _ _ _ _ _ _ _ V).mono ?_;rintro v V' ⟨b,rfl,hA⟩;have hb':=hA.bel;have hk:∀ k,w.heap.size+2<=k->k < V.heap.size->V'.heap[k]?=V.heap[k]?:=fun k _ h=>hb'.block k h
   refine⟨_,rfl,⟨hC.1.trans (hb'.mono hC.1.size),row_below hb' hC.2.1,Nat.le_trans hC.2.2.1 hb'.size,fun hd=>row_below hb' (hC.2.2.2 (by rwa [mark_other done (by decide)] at hd))⟩,fun j v hj h=>nwS_keeps hk j v (fun _=>hb'.block _ (by have:=hC.2.2.1;omega)) h,?_⟩;exact⟨b,rfl,hA.at',Nat.le_trans hC.2.2.1 hA.lo⟩
  | 2,ho=>
   obtain rfl:=Option.some.inj ho
   refine StepOk2.free rfl ?_;intro done a V hC hdn _ hdep hoth;have x1:a.tmps[1]?.getD undef=.pointer (some ⟨w.heap.size,0,none⟩):=slot_of (hoth 1 (notDst (by kernel_rfl)));have hrow:=hC.2.1;have c0:V.cell? ⟨w.heap.size,0,none⟩=some (.string e.name):=by simp[World.cell?,hrow]
   have c1:V.cell? ⟨w.heap.size,1,none⟩=some (.int .i64 e.tol):=by simp[World.cell?,hrow]
   have c2:V.cell? ⟨w.heap.size,2,none⟩=some (.slice E.pa e.pts.length E.pc):=by simp[World.cell?,hrow]
   have c3:V.cell? ⟨w.heap.size,3,none⟩=some (.int .i64 e.cnt):=by simp[World.cell?,hrow]
   have c4:V.cell? ⟨w.heap.size,4,none⟩=some (.int .i64 e.mn):=by simp[World.cell?,hrow]
   have c5:V.cell? ⟨w.heap.size,5,none⟩=some (.int .i64 e.mx):=by simp[World.cell?,hrow]
   have c6:V.cell? ⟨w.heap.size,6,none⟩=some (.slice E.ga e.gaps.length E.gc):=by simp[World.cell?,hrow]
   have c7:V.cell? ⟨w.heap.size,7,none⟩=some (.slice E.ea e.edges.length E.ec):=by simp[World.cell?,hrow]
   have c8:V.cell? ⟨w.heap.size,8,none⟩=some (.slice E.fa e.first.length E.fc):=by simp[World.cell?,hrow]
   have c9:V.cell? ⟨w.heap.size,9,none⟩=some (.slice E.la e.last.length E.lc):=by simp[World.cell?,hrow]
   exact goodRun2.val (c:=.agg #[.string e.name,.int .i64 e.tol,.slice E.pa e.pts.length E.pc,.int .i64 e.cnt,.int .i64 e.mn,.int .i64 e.mx,.slice E.ga e.gaps.length E.gc,.slice E.ea e.edges.length E.ec,.slice E.fa e.first.length E.fc,.slice E.la e.last.length E.lc]) (by clear hdep hoth hC hrow;go_simp) ⟨hC.1,hC.2.1,hC.2.2.1,by rw[mark_other done (by decide)];exact hC.2.2.2⟩ rfl
  | 3,ho=>
   obtain rfl:=Option.some.inj ho
   refine StepOk2.free rfl ?_;intro done a V hC hdn _ hdep hoth;have x5:a.tmps[5]?.getD undef=.agg #[.string e.name,.int .i64 e.tol,.slice E.pa e.pts.length E.pc,.int .i64 e.cnt,.int .i64 e.mn,.int .i64 e.mx,.slice E.ga e.gaps.length E.gc,.slice E.ea e.edges.length E.ec,.slice E.fa e.first.length E.fc,.slice E.la e.last.length E.lc]:=slot_of (hdep _ 5 (Array.mem_of_getElem? (i:=0) rfl) rfl rfl)
   refine goodRun2.call (f:=231) (args:=#[.agg #[.string e.name,.int .i64 e.tol,.slice E.pa e.pts.length E.pc,.int .i64 e.cnt,.int .i64 e.mn,.int .i64 e.mx,.slice E.ga e.gaps.length E.gc,.slice E.ea e.edges.length E.ec,.slice E.fa e.first.length E.fc,.slice E.la e.last.length E.lc]]) (by clear hdep hoth hC;go_simp) ?_
   refine(gp_new e.name e.tol e.cnt e.mn e.mx _ _ _ _ _ _ e.gaps V (HP.out.below hC.1).hg HS.out.hg).mono ?_;rintro v V' ⟨b,rfl,hb',sa,cap,hG⟩;have hk:∀ k,w.heap.size+2<=k->k < V.heap.size->V'.heap[k]?=V.heap[k]?:=fun k _ h=>hb'.block k h
   refine⟨_,rfl,⟨hC.1.trans (hb'.mono hC.1.size),row_below hb' hC.2.1,Nat.le_trans hC.2.2.1 hb'.size,fun hd=>row_below hb' (hC.2.2.2 (by rwa [mark_other done (by decide)] at hd))⟩,fun j v hj h=>nwS_keeps hk j v (fun _=>hb'.block _ (by have:=hC.2.2.1;omega)) h,?_⟩
   refine⟨b,rfl,sa,cap,hG.zero,fun k hk=>?_⟩;exact Nat.le_trans hC.2.2.1 (hG.gs_lo hk)
  | 4,ho=>
   obtain rfl:=Option.some.inj ho
   refine StepOk2.free rfl ?_;intro done a V hC hdn _ hdep hoth;have x1:a.tmps[1]?.getD undef=.pointer (some ⟨w.heap.size,0,none⟩):=slot_of (hoth 1 (notDst (by kernel_rfl)));have hrow:=hC.2.1;have c0:V.cell? ⟨w.heap.size,0,none⟩=some (.string e.name):=by simp[World.cell?,hrow]
   have c1:V.cell? ⟨w.heap.size,1,none⟩=some (.int .i64 e.tol):=by simp[World.cell?,hrow]
   have c2:V.cell? ⟨w.heap.size,2,none⟩=some (.slice E.pa e.pts.length E.pc):=by simp[World.cell?,hrow]
   have c3:V.cell? ⟨w.heap.size,3,none⟩=some (.int .i64 e.cnt):=by simp[World.cell?,hrow]
   have c4:V.cell? ⟨w.heap.size,4,none⟩=some (.int .i64 e.mn):=by simp[World.cell?,hrow]
   have c5:V.cell? ⟨w.heap.size,5,none⟩=some (.int .i64 e.mx):=by simp[World.cell?,hrow]
   have c6:V.cell? ⟨w.heap.size,6,none⟩=some (.slice E.ga e.gaps.length E.gc):=by simp[World.cell?,hrow]
   have c7:V.cell? ⟨w.heap.size,7,none⟩=some (.slice E.ea e.edges.length E.ec):=by simp[World.cell?,hrow]
   have c8:V.cell? ⟨w.heap.size,8,none⟩=some (.slice E.fa e.first.length E.fc):=by simp[World.cell?,hrow]
   have c9:V.cell? ⟨w.heap.size,9,none⟩=some (.slice E.la e.last.length E.lc):=by simp[World.cell?,hrow]
   exact goodRun2.val (c:=.agg #[.string e.name,.int .i64 e.tol,.slice E.pa e.pts.length E.pc,.int .i64 e.cnt,.int .i64 e.mn,.int .i64 e.mx,.slice E.ga e.gaps.length E.gc,.slice E.ea e.edges.length E.ec,.slice E.fa e.first.length E.fc,.slice E.la e.last.length E.lc]) (by clear hdep hoth hC hrow;go_simp) ⟨hC.1,hC.2.1,hC.2.2.1,by rw[mark_other done (by decide)];exact hC.2.2.2⟩ rfl
  | 5,ho=>
   obtain rfl:=Option.some.inj ho
   refine StepOk2.free rfl ?_;intro done a V hC hdn _ hdep hoth;have x7:a.tmps[7]?.getD undef=.agg #[.string e.name,.int .i64 e.tol,.slice E.pa e.pts.length E.pc,.int .i64 e.cnt,.int .i64 e.mn,.int .i64 e.mx,.slice E.ga e.gaps.length E.gc,.slice E.ea e.edges.length E.ec,.slice E.fa e.first.length E.fc,.slice E.la e.last.length E.lc]:=slot_of (hdep _ 7 (Array.mem_of_getElem? (i:=0) rfl) rfl rfl)
   refine goodRun2.call (f:=232) (args:=#[.agg #[.string e.name,.int .i64 e.tol,.slice E.pa e.pts.length E.pc,.int .i64 e.cnt,.int .i64 e.mn,.int .i64 e.mx,.slice E.ga e.gaps.length E.gc,.slice E.ea e.edges.length E.ec,.slice E.fa e.first.length E.fc,.slice E.la e.last.length E.lc]]) (by clear hdep hoth hC;go_simp) ?_
   refine(fl_new2 e _ _ _ _ _ _ _ _ _ _ V (HP.out.below hC.1) HS.out HW.out).mono ?_;rintro v V' ⟨b,rfl,hb',m,n,D,fv,lv,hG,hm⟩;have hk:∀ k,w.heap.size+2<=k->k < V.heap.size->V'.heap[k]?=V.heap[k]?:=fun k _ h=>hb'.block k h
   refine⟨_,rfl,⟨hC.1.trans (hb'.mono hC.1.size),row_below hb' hC.2.1,Nat.le_trans hC.2.2.1 hb'.size,fun hd=>row_below hb' (hC.2.2.2 (by rwa [mark_other done (by decide)] at hd))⟩,fun j v hj h=>nwS_keeps hk j v (fun _=>hb'.block _ (by have:=hC.2.2.1;omega)) h,?_⟩;have hl:=hC.2.2.1;exact⟨b,rfl,m,n,D,fv,lv,hG.zero,Nat.le_trans hl hG.lo,Nat.le_trans hl hm,fun g hg=>Nat.le_trans hl (hG.hf.lt g hg).1,fun g hg=>Nat.le_trans hl (hG.hl.lt g hg).1⟩
  | 6,ho=>
   obtain rfl:=Option.some.inj ho
   refine StepOk2.free rfl ?_;intro done a V hC hdn _ hdep hoth;obtain⟨ba,ha1,ha2⟩:=hdep _ 4 (Array.mem_of_getElem? (i:=0) rfl) rfl rfl;obtain⟨bg,hg1,hg2⟩:=hdep _ 6 (Array.mem_of_getElem? (i:=1) rfl) rfl rfl;obtain⟨bf,hf1,hf2⟩:=hdep _ 8 (Array.mem_of_getElem? (i:=2) rfl) rfl rfl;have x4:=slot_of ha1;have x6:=slot_of hg1;have x8:=slot_of hf1;exact goodRun2.val (c:=.agg #[.pointer (some ⟨ba,0,none⟩),.pointer (some ⟨bg,0,none⟩),.pointer (some ⟨bf,0,none⟩)]) (by clear hdep hoth hC ha1 ha2 hg1 hg2 hf1 hf2;go_simp) ⟨hC.1,hC.2.1,hC.2.2.1,by rw[mark_other done (by decide)];exact hC.2.2.2⟩ ⟨ba,bg,bf,rfl,ha2,hg2,hf2⟩
  | 7,ho=>
   obtain rfl:=Option.some.inj ho
   refine StepOk2.free rfl ?_;intro done a V hC hdn _ hdep hoth;have x2:a.tmps[2]?.getD undef=.pointer (some ⟨w.heap.size+1,0,none⟩):=slot_of (hoth 2 (notDst (by kernel_rfl)));obtain⟨ba,bg,bf,hv,h1,h2,h3⟩:=hdep _ 9 (Array.mem_of_getElem? (i:=0) rfl) rfl rfl;have x9:=slot_of hv;have hr:=hC.2.2.2 hdn;have c0:V.cell? ⟨w.heap.size+1,0,none⟩=some (.pointer none):=by simp[World.cell?,hr]
   have c1:V.cell? ⟨w.heap.size+1,1,none⟩=some (.pointer none):=by simp[World.cell?,hr]
   have c2:V.cell? ⟨w.heap.size+1,2,none⟩=some (.pointer none):=by simp[World.cell?,hr]
   have f0:∀ i,V.frozen? ⟨w.heap.size+1,i,none⟩=false:=fun i=>by simp[World.frozen?,hr]
   have hg:V.grownBy (((V.setCell ⟨w.heap.size+1,0,none⟩ (.pointer (some ⟨ba,0,none⟩))).setCell ⟨w.heap.size+1,1,none⟩ (.pointer (some ⟨bg,0,none⟩))).setCell ⟨w.heap.size+1,2,none⟩ (.pointer (some ⟨bf,0,none⟩))) (some (w.heap.size+1)):=((grown_setCell _ _ _ _).trans (grown_setCell _ _ _ _)).trans (grown_setCell _ _ _ _);have hk:∀ k,w.heap.size+2<=k->k < V.heap.size->(((V.setCell ⟨w.heap.size+1,0,none⟩ (.pointer (some ⟨ba,0,none⟩))).setCell ⟨w.heap.size+1,1,none⟩ (.pointer (some ⟨bg,0,none⟩))).setCell ⟨w.heap.size+1,2,none⟩ (.pointer (some ⟨bf,0,none⟩))).heap[k]?=V.heap[k]?:=fun k h1 h=>hg.block k h (by simp;omega)
   have hz:=hC.2.2.1
   refine goodRun2.skipped (w':=((V.setCell ⟨w.heap.size+1,0,none⟩ (.pointer (some ⟨ba,0,none⟩))).setCell ⟨w.heap.size+1,1,none⟩ (.pointer (some ⟨bg,0,none⟩))).setCell ⟨w.heap.size+1,2,none⟩ (.pointer (some ⟨bf,0,none⟩))) (by clear hdep hoth hC hv h1 h2 h3 hg hk hr hz;go_simp) ⟨?_,?_,Nat.le_trans hz hg.size,fun hd=>by rw[mark_same] at hd;cases hd⟩ (fun j v hj h=>nwS_keeps hk j v (fun e7=>by rw[e7,hdn] at hj;cases hj) h) ⟨ba,bg,bf,?_,h1.keep hk,h2.keep hk,h3.keep hk⟩
   ·exact hC.1.grown hg hC.1.size (fun i hi=>by cases hi;omega)
   ·exact(hg.block _ (by omega) (by simp)).trans hC.2.1
   ·rw[row_put3 hr]
  | n+8,ho=>simp at ho
 ·intro vals V hC hS;obtain⟨ba,bg,bf,hr,h1,h2,h3⟩:=hS 7 (by decide);have HB:Hid (Below w.heap.size w V):=hC.1;have HRR:Hid (V.heap[w.heap.size+1]?=some (.cells #[.pointer (some ⟨ba,0,none⟩),.pointer (some ⟨bg,0,none⟩),.pointer (some ⟨bf,0,none⟩)] 243 (0,0))):=hr;have HWt:Hid (WatAt (fun k=>w.heap.size<=k) V ba bg bf e (WSt.new e)):=by
   obtain⟨sa,cap,g1,g2⟩:=h2;obtain⟨m,n,D,fv,lv,f3,f4,f5,f6,f7⟩:=h3
   refine⟨h1.1,by have:=h1.2;show w.heap.size<=ba;omega,⟨sa,cap,g1,fun k hk=>by have:=g2 k hk;show w.heap.size<=k;omega⟩,⟨m,n,D,fv,lv,f3,by show w.heap.size<=bf;omega,by show w.heap.size<=m;omega,fun g hg=>by have:=f6 g hg;show w.heap.size<=g;omega,fun g hg=>by have:=f7 g hg;show w.heap.size<=g;omega⟩,by simp[WSt.new,GSt.new]⟩
  clear hS hC hr h1 h2 h3 HP HX HR HBW HZ;simp only[fill,dstOf];go_simp
  go_wp2_with fail
  refine bodyPost_ret (results_cell_row rfl _ _ (w.heap.size+1) _ _ _ _ rfl HRR.out Tryz.underlying243 rfl Tryz.sizeWatch) rfl ?_;exact⟨⟨ba,bg,bf,rfl,HWt.out⟩,HB.out⟩
end
section
variable {F F':Nat->Prop}{w w' w'':World}{b ba bg bf:Nat}{e:EntD}{E:EA}{s:WSt}
theorem ne_ty {i j:Nat}{c c':Array Value}{T T':TypeId}{fr fr':Nat × Nat}(h1:w.heap[i]?=some (.cells c T fr))(h2:w.heap[j]?=some (.cells c' T' fr'))(hT:T≠T'):i≠j:=by
 rintro rfl;rw[h1] at h2;simp only[Option.some.injEq,Obj.cells.injEq] at h2;exact hT h2.2.1
theorem own_ty {α:Type}{enc:α->List Value}{k B:Nat}{T:TypeId}{v:Value}{xs:List α}(h:SlOwn enc k T B w v xs){g:Nat}(hg:v.ownBlock=some g):∃ c fr,w.heap[g]?=some (.cells c T fr):=by
 rcases h.2 with ⟨rfl,_⟩ | ⟨g',cap,cur,rfl,_,hg',_⟩
 ·simp[Value.ownBlock] at hg
 ·simp only[Value.ownBlock,Option.some.injEq] at hg;subst hg;exact⟨_,_,hg'⟩
theorem gs_ty {B cap:Nat}{sa:Option Addr}{s:GSt}(h:GpAt B w b sa cap s){k:Nat}(hk:GS b sa s.xs.length k):∃ c T fr,w.heap[k]?=some (.cells c T fr)/\(T=345\/T=347):=by
 rcases hk with rfl | ⟨h0,o,e1⟩
 ·exact⟨_,_,_,h.heap,Or.inl rfl⟩
 ·obtain⟨g,o',e2,-,-,-,cur,hf⟩:=h.sl (List.length_pos_iff.1 h0);rw[e1] at e2;simp only[Option.some.injEq,Addr.mk.injEq,and_true] at e2;obtain⟨rfl,-⟩:=e2;exact⟨_,_,_,hf,Or.inr rfl⟩
theorem FlAt.offT {B m n:Nat}{f:FSt}{D:DataW Unit}{fv lv:Value}{S:Nat->Prop}(h:FlAt B w b e f m n D fv lv)(ho:Off S w w')(hS:∀ k,S k->∃ c T fr,w.heap[k]?=some (.cells c T fr)/\T≠350/\T≠3):FlAt B w' b e f m n D fv lv:=by
 have g:∀ k,k < w.heap.size->(∀ c T fr,w.heap[k]?=some (.cells c T fr)->T=350\/T=3)->w'.heap[k]?=w.heap[k]?:=fun k hk hT=>by
  refine ho.block k hk (fun hs=>?_);obtain⟨c,T,fr,h1,h2,h3⟩:=hS k hs
  rcases hT c T fr h1 with rfl | rfl
  ·exact h2 rfl
  ·exact h3 rfl
 refine h.same (g b (lt_of_row h.heap) (fun c T fr hc=>?_)) (g m (map_lt h) (fun c T fr hc=>?_)) (fun k hk=>g k (h.hf.lt k hk).2 (fun c T fr hc=>?_)) (fun k hk=>g k (h.hl.lt k hk).2 (fun c T fr hc=>?_))
 ·rw[h.heap] at hc;simp only[Option.some.injEq,Obj.cells.injEq] at hc;exact Or.inl hc.2.1.symm
 ·obtain⟨es,c',hm0,rest⟩:=h.own;rw[hm0] at hc
  cases hc
 ·obtain⟨c',fr',h1⟩:=own_ty h.hf hk;rw[h1] at hc;simp only[Option.some.injEq,Obj.cells.injEq] at hc;exact Or.inr hc.2.1.symm
 ·obtain⟨c',fr',h1⟩:=own_ty h.hl hk;rw[h1] at hc;simp only[Option.some.injEq,Obj.cells.injEq] at hc;exact Or.inr hc.2.1.symm
theorem WatAt.setA {a:ASt}(h:WatAt F w ba bg bf e s)(hg:w.grownBy w' (some ba))(ha:AlAt w' ba a):WatAt F w' ba bg bf e ⟨a,s.g,s.f⟩:=by
 obtain⟨sa,cap,h1,h2⟩:=h.ga;obtain⟨m,n,D,fv,lv,h3,h4,h5,h6,h7⟩:=h.fl
 refine⟨ha,h.fa,⟨sa,cap,h1.same (fun k hk=>?_),h2⟩,⟨m,n,D,fv,lv,h3.offT (Off.of_grown hg) (fun k hk=>?_),h4,h5,h6,h7⟩,h.gl⟩
 ·obtain⟨c,T,fr,h8,h9⟩:=gs_ty h1 hk
  refine hg.block k (lt_of_row h8) (fun e1=>?_)
  refine ne_ty h8 h.al.heap ?_ (Option.some.inj e1)
  rcases h9 with rfl | rfl <;> decide
 ·subst hk;exact⟨_,_,_,h.al.heap,by decide,by decide⟩
theorem WatAt.frA (h:WatAt F w ba bg bf e s)(hg:w.grownBy w' (some ba)):FrL F w w':=FrL.put hg h.al.heap (Or.inr (Or.inl rfl)) h.fa
theorem WatAt.setG {sa:Option Addr}{cap:Nat}{g:GSt}(h:WatAt F w ba bg bf e s)(h1:GpAt 0 w bg sa cap s.g)(h2:∀ k,GS bg sa s.g.xs.length k->F k)(ho:Off (GS bg sa s.g.xs.length) w w')(hg:GpAt 0 w' bg sa cap g)(hl:g.xs.length=s.g.xs.length):WatAt F w' ba bg bf e ⟨s.a,g,s.f⟩:=by
 obtain⟨m,n,D,fv,lv,h3,h4,h5,h6,h7⟩:=h.fl
 refine⟨h.al.same (ho.block ba (lt_of_row h.al.heap) (fun hs=>?_)),h.fa,⟨sa,cap,hg,fun k hk=>h2 k (by rw[<- hl];exact hk)⟩,⟨m,n,D,fv,lv,h3.offT ho (fun k hk=>?_),h4,h5,h6,h7⟩,hl.trans h.gl⟩
 ·obtain⟨c,T,fr,h8,h9⟩:=gs_ty h1 hs
  refine ne_ty h8 h.al.heap ?_ rfl
  rcases h9 with rfl | rfl <;> decide
 ·obtain⟨c,T,fr,h8,h9⟩:=gs_ty h1 hk
  refine⟨c,T,fr,h8,?_,?_⟩
  ·rcases h9 with rfl | rfl <;> decide
  ·rcases h9 with rfl | rfl <;> decide
theorem frG {sa:Option Addr}{cap:Nat}{g:GSt}(h1:GpAt 0 w bg sa cap g)(h2:∀ k,GS bg sa g.xs.length k->F k)(ho:Off (GS bg sa g.xs.length) w w'):FrL F w w':=by
 refine FrL.of _ ho (fun k _ hk=>⟨h2 k hk,?_⟩);obtain⟨c,T,fr,h8,h9⟩:=gs_ty h1 hk
 refine⟨c,T,fr,h8,?_⟩
 rcases h9 with rfl | rfl
 ·exact Or.inr (Or.inr (Or.inl rfl))
 ·exact Or.inr (Or.inr (Or.inr (Or.inl rfl)))
theorem WatAt.setF {m n:Nat}{D:DataW Unit}{fv lv:Value}{f:FSt}(h:WatAt F w ba bg bf e s)(h3:FlAt 0 w bf e s.f m n D fv lv)(h4:F bf)(h5:F m)(h6:∀ g,fv.ownBlock=some g->F g)(h7:∀ g,lv.ownBlock=some g->F g)(hg:w.grownBy w' (some bf))(hf:FlAt 0 w' bf e f m n D fv lv):WatAt F w' ba bg bf e ⟨s.a,s.g,f⟩:=by
 obtain⟨sa,cap,h1,h2⟩:=h.ga
 refine⟨h.al.same (hg.block ba (lt_of_row h.al.heap) (fun e1=>?_)),h.fa,⟨sa,cap,h1.same (fun k hk=>?_),h2⟩,⟨m,n,D,fv,lv,hf,h4,h5,h6,h7⟩,h.gl⟩
 ·exact ne_ty h.al.heap h3.heap (by decide) (Option.some.inj e1)
 ·obtain⟨c,T,fr,h8,h9⟩:=gs_ty h1 hk
  refine hg.block k (lt_of_row h8) (fun e1=>?_)
  refine ne_ty h8 h3.heap ?_ (Option.some.inj e1)
  rcases h9 with rfl | rfl <;> decide
theorem frF {m n:Nat}{D:DataW Unit}{fv lv:Value}{f:FSt}(h3:FlAt 0 w bf e f m n D fv lv)(h4:F bf)(hg:w.grownBy w' (some bf)):FrL F w w':=FrL.put hg h3.heap (Or.inr (Or.inr (Or.inr (Or.inr rfl)))) h4
theorem row_offL {c:Array Value}{fr:Nat × Nat}(hb:w.heap[b]?=some (.cells c 245 fr)){S:Nat->Prop}(ho:Off S w w')(hS:∀ k,S k->∃ c T fr,w.heap[k]?=some (.cells c T fr)/\T≠245):w'.heap[b]?=some (.cells c 245 fr):=by
 refine(ho.block b (lt_of_row hb) (fun hs=>?_)).trans hb;obtain⟨c',T,fr',h1,h2⟩:=hS b hs;exact ne_ty h1 hb h2 rfl
theorem WatAt.rowA (h:WatAt F w ba bg bf e s){c:Array Value}{fr:Nat × Nat}(hb:w.heap[b]?=some (.cells c 245 fr))(hg:w.grownBy w' (some ba)):w'.heap[b]?=some (.cells c 245 fr):=
 row_offL hb (Off.of_grown hg) (fun k hk=>by subst hk;exact⟨_,_,_,h.al.heap,by decide⟩)
theorem rowG {sa:Option Addr}{cap:Nat}{g:GSt}(h1:GpAt 0 w bg sa cap g){c:Array Value}{fr:Nat × Nat}(hb:w.heap[b]?=some (.cells c 245 fr))(ho:Off (GS bg sa g.xs.length) w w'):w'.heap[b]?=some (.cells c 245 fr):=
 row_offL hb ho (fun k hk=>by
  obtain⟨c,T,fr,h8,h9⟩:=gs_ty h1 hk
  refine⟨c,T,fr,h8,?_⟩
  rcases h9 with rfl | rfl <;> decide)
theorem rowF {m n:Nat}{D:DataW Unit}{fv lv:Value}{f:FSt}(h3:FlAt 0 w bf e f m n D fv lv){c:Array Value}{fr:Nat × Nat}(hb:w.heap[b]?=some (.cells c 245 fr))(hg:w.grownBy w' (some bf)):w'.heap[b]?=some (.cells c 245 fr):=
 row_offL hb (Off.of_grown hg) (fun k hk=>by subst hk;exact⟨_,_,_,h3.heap,by decide⟩)
structure WatTo (F:Nat->Prop)(w w':World)(b ba bg bf:Nat)(e:EntD)(s:WSt)(c:Array Value):Prop where
 wat:WatAt F w' ba bg bf e s
 row:w'.heap[b]?=some (.cells c 245 (0,0))
 fr:FrL F w w'
set_option maxHeartbeats 2000000 in
set_option maxRecDepth 100000 in
theorem watch_report (p t:Int)(c:Array Value)(h:WatAt F w ba bg bf e s)(hb:w.heap[b]?=some (.cells c 245 (0,0)))(h0:c[0]?=some (.pointer (some ⟨ba,0,none⟩)))(h1:c[1]?=some (.pointer (some ⟨bg,0,none⟩)))(h2:c[2]?=some (.pointer (some ⟨bf,0,none⟩)))(hS:SmallE e) :
  Calls Tryz.prog 170 #[.pointer (some ⟨b,0,none⟩),.int .i64 p,.int .i64 t] w fun v w'=>v=.returned (.tuple #[])/\WatTo F w w' b ba bg bf e (s.rep e p t) c:=by
 have H:Hid (WatAt F w ba bg bf e s):=h;have HB:Hid (w.heap[b]?=some (.cells c 245 (0,0))):=hb;have H1:Hid (c[1]?=some (.pointer (some ⟨bg,0,none⟩))):=h1;have H2:Hid (c[2]?=some (.pointer (some ⟨bf,0,none⟩))):=h2;have HS:Hid (SmallE e):=hS;have c0:w.cell? ⟨b,0,none⟩=some (.pointer (some ⟨ba,0,none⟩)):=by simp[World.cell?,hb,h0]
 clear h hb h0 h1 h2 hS;go_enter Tryz.func170,Tryz.ntmps170
 go_wp2_with fail
 refine(al_report2 p H.out.al).mono ?_;rintro v w1 ⟨rfl,hA,hg⟩;have H':Hid (WatTo F w w1 b ba bg bf e ⟨s.a.rep p,s.g,s.f⟩ c):=⟨H.out.setA hg hA,H.out.rowA HB.out hg,H.out.frA hg⟩;have c1:w1.cell? ⟨b,1,none⟩=some (.pointer (some ⟨bg,0,none⟩)):=by simp[World.cell?,H'.out.row,H1.out]
 clear c0 hA hg;go_wp2_with fail
 obtain⟨sa,cap,hG,hGF⟩:=H'.out.wat.ga;have HG:Hid (GpAt 0 w1 bg sa cap s.g/\∀ k,GS bg sa s.g.xs.length k->F k):=⟨hG,hGF⟩;clear hG hGF
 refine(gp_report2 p t HG.out.1 (by have h5:s.g.xs.length=e.gaps.length:=H'.out.wat.gl;have:=HS.out.hg;omega)).mono ?_;rintro v w2 ⟨rfl,hA,hg⟩;have H3:Hid (WatTo F w w2 b ba bg bf e ⟨s.a.rep p,s.g.rep p t,s.f⟩ c):=⟨H'.out.wat.setG HG.out.1 HG.out.2 hg hA (rep_len _ _ _),rowG HG.out.1 H'.out.row hg,H'.out.fr.trans (frG HG.out.1 HG.out.2 hg) (fun _ _ x=>x)⟩;have c2:w2.cell? ⟨b,2,none⟩=some (.pointer (some ⟨bf,0,none⟩)):=by simp[World.cell?,H3.out.row,H2.out]
 clear c1 hA hg HG H';go_wp2_with fail
 obtain⟨m,n,D,fv,lv,hF3,hF4,hF5,hF6,hF7⟩:=H3.out.wat.fl;have HF:Hid (FlAt 0 w2 bf e s.f m n D fv lv/\F bf/\F m/\(∀ g,fv.ownBlock=some g->F g)/\∀ g,lv.ownBlock=some g->F g):=⟨hF3,hF4,hF5,hF6,hF7⟩;clear hF3 hF4 hF5 hF6 hF7
 refine(fl_report2 p HF.out.1).mono ?_;rintro v w3 ⟨rfl,hA,hg⟩;have H4:Hid (WatTo F w w3 b ba bg bf e (s.rep e p t) c):=⟨H3.out.wat.setF HF.out.1 HF.out.2.1 HF.out.2.2.1 HF.out.2.2.2.1 HF.out.2.2.2.2 hg hA,rowF HF.out.1 H3.out.row hg,H3.out.fr.trans (frF HF.out.1 HF.out.2.1 hg) (fun _ _ x=>x)⟩;clear hA hg HF H3 c2;go_wp2;go_end0
 exact⟨rfl,H4.out⟩
end
end Go.Proofs.YtffpcbdlbcjihadGreatDoor
