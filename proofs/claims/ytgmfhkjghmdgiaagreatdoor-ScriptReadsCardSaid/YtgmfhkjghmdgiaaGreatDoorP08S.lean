/-
  Several texts as one: KeEo, KeDog, KeEnd, KeTick, KeCut, KeRnw, PlStep, ScDone, CfLine, CfConf, CfFirstS.
-/
import Derived.Test.YtgmfhkjghmdgiaaGreatDoorP07S
set_option linter.all false
set_option maxHeartbeats 40000000
set_option maxRecDepth 100000
abbrev iQ.{u}:=@Option.isSome_iff_exists.{u}
abbrev o8:=@Go.Calls.quiet_of_same
open Go renaming Addr→az,Value→ar,World→ai
open Go.Ending renaming returned→ax
open Go.IntKind renaming i64→R
open Go.Obj renaming cells→au
open Go.RowKit renaming Hid→aa
open Go.Value renaming agg→aU,bool→aI,int→U,pointer→aj,slice→af,string→aq,tuple→bn
open Option renaming none→I,some→J
open Go.Proofs.Tryz
namespace Go.Proofs.YtgmfhkjghmdgiaaGreatDoor
open Go.Extern Go.Extern.Stop Go.RowKit Go.Stop
def PV(kb rb n kd tw:Nat):Nat->ar
 |0=>aj (J ⟨kb,0,I⟩)
 |1=>aj (J ⟨kb,0,I⟩)
 |2=>aj (J ⟨kb,4,I⟩)
 |3=>aj (J ⟨rb,0,I⟩)
 |4=>U R (n:Int)
 |5=>U R (kd:Int)
 |6=>aj (J ⟨kb,0,I⟩)
 |7=>U R (tw:Int)
 |_=>undef
structure lL(w3:ai)(kb rb n kd tw:Nat)(cv:ar)(CE:ai->Prop)(P:(Nat->Nat->Prop)->ai->Prop)(vals:Nat->Option ar)(V:ai):Prop where
 cs:∀j,j<8->∀v,vals j=J v->v=PV kb rb n kd tw j
 ce:CE V
 sz:w3.heap.size<=V.heap.size
 pre:vals 8=I->Below w3.heap.size w3 V
 xS:∀u,vals 8=J u->(∃r:Rec,u=bn #[r.val,cv])/\∃H,P H V/\(∀i k,H i k->k<V.heap.size)/\∀g,vals 12=J (aj (J ⟨g,0,I⟩))->∀i,¬H i g
 c9:∀u,vals 9=J u->∃r:Rec,u=bn #[r.val,cv]
 c10:∀u,vals 10=J u->∃r:Rec,u=r.val
 c11:∀u,vals 11=J u->u=cv
 c12:∀u,vals 12=J u->∃(g:Nat) (r:Rec),u=aj (J ⟨g,0,I⟩)/\fS V g r/\w3.heap.size<=g
 d13:vals 13≠I->vals 8≠I
 c14:∀u,vals 14=J u->u=cv
section
variable {w3 V V':ai}{kb rb n kd tw:Nat}{cv:ar}{CE:ai->Prop}{P:(Nat->Nat->Prop)->ai->Prop}{vals:Nat->Option ar}{i:Nat}{u:ar}
theorem lL.start(hb:Below w3.heap.size w3 V)(hc:CE V):lL w3 kb rb n kd tw cv CE P (λ_=>.none) V:=
 ⟨λ_ _ _ h=>(by cases h),hc,hb.size,λ_=>hb,λ_ h=>(by cases h),λ_ h=>(by cases h),λ_ h=>(by cases h),λ_ h=>(by cases h),λ_ h=>(by cases h),λh=>absurd rfl h,λ_ h=>(by cases h)⟩
theorem lL.const(h:lL w3 kb rb n kd tw cv CE P vals V)(hi:i<8)(hu:u=PV kb rb n kd tw i):lL w3 kb rb n kd tw cv CE P (upd vals i u) V:=by
 have o:∀j,8<=j->upd _ i u j=vals j:=λj hj=>jJ _ u (by omega)
 refine⟨λj hj v hv=>?_,h.ce,h.sz,λh8=>h.pre (by rwa [o 8 (by omega)]at h8),λx hx=>?_,λx hx=>h.c9 x (by rwa [o 9 (by omega)]at hx),λx hx=>h.c10 x (by rwa [o 10 (by omega)]at hx),λx hx=>h.c11 x (by rwa [o 11 (by omega)]at hx),λx hx=>h.c12 x (by rwa [o 12 (by omega)]at hx),λhx=>by rw[o 8 (by omega)];exact h.d13 (by rwa [o 13 (by omega)]at hx),λx hx=>h.c14 x (by rwa [o 14 (by omega)]at hx)⟩
 ·by_cases e:j=i
  ·subst e;rw[upd_same]at hv;exact(bj hv).symm.trans hu
  exact h.cs j hj v (by rwa [jJ vals u e]at hv)
 obtain⟨h1,H,h2,h3,h4⟩:=h.xS x (by rwa [o 8 (by omega)]at hx);exact⟨h1,H,h2,h3,λg hg=>h4 g (by rwa [o 12 (by omega)]at hg)⟩
theorem lL.later(h:lL w3 kb rb n kd tw cv CE P vals V)(hi:i=9\/i=10\/i=11\/i=14)(h9:i=9->∃r:Rec,u=bn #[r.val,cv])(h10:i=10->∃r:Rec,u=r.val)(h11:i=11->u=cv)(xU:i=14->u=cv):lL w3 kb rb n kd tw cv CE P (upd vals i u) V:=by
 have o:∀j,j≠i->upd _ i u j=vals j:=λj hj=>jJ _ u hj
 have g:∀j x,upd vals i u j=J x->(j=i/\x=u)\/vals j=J x:=λj x hx=>by
  by_cases e:j=i
  ·subst e;rw[upd_same]at hx;exact a_ ⟨rfl,(bj hx).symm⟩
  exact aP (by rwa [o j e]at hx)
 refine⟨λj hj v hv=>h.cs j hj v (by rwa [o j (by omega)]at hv),h.ce,h.sz,λh8=>h.pre (by rwa [o 8 (by omega)]at h8),λx hx=>?_,λx hx=>?_,λx hx=>?_,λx hx=>?_,λx hx=>h.c12 x (by rwa [o 12 (by omega)]at hx),λhx=>by rw[o 8 (by omega)];exact h.d13 (by rwa [o 13 (by omega)]at hx),λx hx=>?_⟩
 ·obtain⟨h1,H,h2,h3,h4⟩:=h.xS x (by rwa [o 8 (by omega)]at hx);exact⟨h1,H,h2,h3,λg hg=>h4 g (by rwa [o 12 (by omega)]at hg)⟩
 ·rcases g 9 x hx with⟨e,rfl⟩|e
  ·exact h9 e.symm
  exact h.c9 x e
 ·rcases g 10 x hx with⟨e,rfl⟩|e
  ·exact h10 e.symm
  exact h.c10 x e
 ·rcases g 11 x hx with⟨e,rfl⟩|e
  ·exact h11 e.symm
  exact h.c11 x e
 rcases g 14 x hx with⟨e,rfl⟩|e
 ·exact xU e.symm
 exact h.c14 x e
theorem lL.made(h:lL w3 kb rb n kd tw cv CE P vals V)(hP:∀H W W',P H W->Below W.heap.size W W'->P H W')(ab2:∀W W',CE W->Below W.heap.size W W'->CE W'):lL w3 kb rb n kd tw cv CE P (upd vals 12 (aj (J ⟨V.heap.size,0,I⟩))) (V.alloc (au #[U R 0,U R 0,U R 0,U R 0] 119)):=by
 have o:∀j,j≠12->upd _ 12 (aj (J ⟨V.heap.size,0,I⟩)) j=vals j:=λj hj=>jJ _ _ hj
 have hb:Below _ V (V.alloc (au #[U R 0,U R 0,U R 0,U R 0] 119)):=aN _ _
 refine⟨λj hj v hv=>h.cs j hj v (by rwa [o j (by omega)]at hv),ab2 _ _ h.ce hb,bw h.sz hb.size,λh8=>(h.pre (by rwa [o 8 (by omega)]at h8)).trans (hb.mono h.sz),λx hx=>?_,λx hx=>h.c9 x (by rwa [o 9 (by omega)]at hx),λx hx=>h.c10 x (by rwa [o 10 (by omega)]at hx),λx hx=>h.c11 x (by rwa [o 11 (by omega)]at hx),λx hx=>?_,λhx=>by rw[o 8 (by omega)];exact h.d13 (by rwa [o 13 (by omega)]at hx),λx hx=>h.c14 x (by rwa [o 14 (by omega)]at hx)⟩
 ·obtain⟨h1,H,h2,h3,h4⟩:=h.xS x (by rwa [o 8 (by omega)]at hx)
  refine⟨h1,H,hP H V _ h2 hb,λi k hk=>eh (h3 i k hk) hb.size,λg hg i hi=>?_⟩;rw[upd_same]at hg
  cases hg
  have:=h3 i _ hi;omega
 rw[upd_same]at hx
 cases hx
 exact⟨_,_,rfl,fS.new V .none,h.sz⟩
theorem lL.call(h:lL w3 kb rb n kd tw cv CE P vals V)(hc:CE V'){r:Rec}{H:Nat->Nat->Prop}(hp:P H V')(hz:V.heap.size<=V'.heap.size)(hl:∀i k,H i k->k<V'.heap.size)(hH:∀i k,H i k->k<w3.heap.size\/V.heap.size<=k)(hq:∀q,w3.heap.size<=q->q<V.heap.size->V'.heap[q]?=V.heap[q]?):lL w3 kb rb n kd tw cv CE P (upd vals 8 (bn #[r.val,cv])) V':=by
 have o:∀j,j≠8->upd _ 8 (bn #[r.val,cv]) j=vals j:=λj hj=>jJ _ _ hj
 refine⟨λj hj v hv=>h.cs j hj v (by rwa [o j (by omega)]at hv),hc,bw h.sz hz,λh8=>(by rw[upd_same]at h8;cases h8),λx hx=>?_,λx hx=>h.c9 x (by rwa [o 9 (by omega)]at hx),λx hx=>h.c10 x (by rwa [o 10 (by omega)]at hx),λx hx=>h.c11 x (by rwa [o 11 (by omega)]at hx),λx hx=>?_,λ_=>by rw[upd_same];simp,λx hx=>h.c14 x (by rwa [o 14 (by omega)]at hx)⟩
 ·rw[upd_same]at hx
  cases hx
  refine⟨⟨r,rfl⟩,H,hp,hl,λg hg i hi=>?_⟩;rw[o 12 (by omega)]at hg;obtain⟨g',r',e,hr,fE⟩:=h.c12 _ hg
  cases e
  have:=hr.lt
  rcases hH i g hi with h1|h1<;>omega
 rw[o 12 (by omega)]at hx;obtain⟨g,r',e,hr,fE⟩:=h.c12 x hx;exact⟨g,r',e,⟨(hq g fE hr.lt).trans hr.heap⟩,fE⟩
theorem lL.laid(h:lL w3 kb rb n kd tw cv CE P vals V)(h8:vals 8≠.none)(ab3:∀H V,P H V->CE V)(hP:∀H W W' g,P H W->bh (λk=>k=g) W W'->(∀i,¬H i g)->w3.heap.size<=g->P H W'){g:Nat}{r r0:Rec}(hg:vals 12=J (.pointer (J ⟨g,0,I⟩)))(hr:fS V g r0)(fE:w3.heap.size<=g)(hV:V'=(((V.setCell ⟨g,0,.none⟩ (.int .i64 (r.seq:Int))).setCell ⟨g,1,.none⟩ (.int .i64 (r.dU:Int))).setCell ⟨g,2,.none⟩ (.int .i64 (r.kind:Int))).setCell ⟨g,3,.none⟩ (.int .i64 (r.tick:Int))):lL w3 kb rb n kd tw cv CE P (upd vals 13 undef) V':=by
 have o:∀j,j≠13->upd _ 13 undef j=vals j:=λj hj=>jJ _ _ hj
 have hg4:V.grownBy V' (J g):=by rw[hV];exact qU _ _ _ _ _ _
 have hc':CE V':=by
  cases e:vals 8 with
  |none=>exact absurd e h8
  |some u=>
   obtain⟨_,H,h2,h3,h4⟩:=h.xS u e;exact ab3 H V' (hP H V V' g h2 (bh.iO hg4) (h4 g hg) fE)
 refine⟨λj hj v hv=>h.cs j hj v (by rwa [o j (by omega)]at hv),hc',bw h.sz hg4.size,λe=>(by rw[o 8 (by omega)]at e;exact absurd e h8),λx hx=>?_,λx hx=>h.c9 x (by rwa [o 9 (by omega)]at hx),λx hx=>h.c10 x (by rwa [o 10 (by omega)]at hx),λx hx=>h.c11 x (by rwa [o 11 (by omega)]at hx),λx hx=>?_,λ_=>by rw[o 8 (by omega)];exact h8,λx hx=>h.c14 x (by rwa [o 14 (by omega)]at hx)⟩
 ·obtain⟨h1,H,h2,h3,h4⟩:=h.xS x (by rwa [o 8 (by omega)]at hx);exact⟨h1,H,hP H V V' g h2 (bh.iO hg4) (h4 g hg) fE,λi k hk=>eh (h3 i k hk) hg4.size,λg' eA=>h4 g' (by rwa [o 12 (by omega)]at eA)⟩
 rw[o 12 (by omega),hg]at hx
 cases hx
 exact⟨g,r,rfl,by rw[hV];exact hr.nU r,fE⟩
end
section
variable {A:Nat->az}{H:Nat->Nat->Prop}{F:Nat->Prop}{w0 w w':ai}{c:aS}{kb bc bd rb bt:Nat}{lv:ar}{bs:List Nat}{K:aH}{k W:Nat}
theorem ab4(h:bT H w0 w c kb bc bd rb bt lv bs K)(hr:gi c)(hf:bQ c K k W)(hn:k+K.d.now<=900000){i b:Nat}{e:aF}{s:bB}(hs:K.ls[i]?=J s)(hb:bs[i]?=J b)(he:c.aw[i]?=J e):Calls prog 219 #[aj (J ⟨b,0,I⟩)] w λu w'=>u=ax (bn #[U R (s.kind e),aI (s.turns e)])/\bT (dV H (5+i) w w') w0 w' c kb bc bd rb bt lv bs (K.fN i (s.fin e))/\bh (H (5+i)) w w':=by
 have hl:=h.loc i b e s hb he hs;have hE:=hr.each e (cM he)
 refine(aaU hl hE.2.1 hE.2.2.1 ((hf.each s (cM hs)).1.mono hn)).mono ?_;rintro u w' ⟨rfl,h1,h2⟩;exact⟨rfl,h.Cp h2 hb he h1,h2⟩
theorem ab5(h:bT H w0 w c kb bc bd rb bt lv bs K)(hs:fA A w0)(hf:bQ c K k W)(hW:W+18<=1099511627776)(ho:K.c.off=false)(i kd t:Nat)(h1:i<=255)(h2:kd<=255)(h3:t<=281474976710655):Calls prog 220 #[aj (J ⟨rb,0,I⟩),U R (i:Int),U R (kd:Int),U R (t:Int)] w λe w'=>∃r:Rec,e=ax (bn #[r.val,errVal A (K.app i kd t).2])/\bT (dV H 2 w w') w0 w' c kb bc bd rb bt lv bs (K.app i kd t).1/\bh (H 2) w w':=by
 have qi:=hs.gf
 refine(aaX (A:=A) h.ring hf hW ho (h.o7 hs).four (by have:=h.eJ.lo 2 bc h.ring.fc;omega) i kd t h1 h2 h3).mono ?_;rintro e w' ⟨r,rfl,h4,h5⟩;have h6:=h.toRing h5 h4;have e1:=Im K i kd t;have e2:=N3 K i kd t;have e3:(K.app i kd t).1.t=K.t:=by unfold aH.app;split;rfl;split;rfl;split<;>rfl
 refine⟨r,rfl,?_,h5⟩;have:(K.app i kd t).1={ K with c:=(K.app i kd t).1.c,L:=(K.app i kd t).1.L,sp:=(K.app i kd t).1.sp }:=by rw[<- e1,<- e2,<- e3]
 rw[this];exact h6
theorem ab6(n b:Nat){e:aF}{s:bB}(h:bT H w0 w c kb bc bd rb bt lv bs K)(hs:fA A w0)(hr:gi c)(hf:bQ c K k W)(hn:k+K.d.now<=900000)(hW:W+18<=1099511627776)(ho:K.c.off=false)(h1:1<=K.d.now)(hi:gJ s (k+K.d.now-1))(ja:K.ls[n]?=J s)(hb:bs[n]?=J b)(he:c.aw[n]?=J e)(abn:n<8):Calls prog 160 #[.pointer (J ⟨kb,0,I⟩),.int .i64 (n:Int),.pointer (J ⟨b,0,I⟩)] w λv w'=>v=.returned (errVal A (K.gW c n).2)/\fV H w0 w c kb bc bd rb bt lv bs (K.gW c n).1 w':=by
 have rh:c.aw.getD n nZ=e:=by rw[fQ,he];rfl
 have Cu:aa (K.gW c n=if s.turns e=true then (K.fN n (s.fin e)).app n (s.kind e).toNat K.d.now else (K.fN n (s.fin e),0)):=by
  show _=_
  unfold aH.gW;rw[ja];simp only[rh]
 have HX:aa _:=ab4 h hr hf hn ja hb he;have ux:aa (bQ c _ k W/\W+18<=1099511627776/\(K.fN n (s.fin e)).c.off=false/\K.d.now<=900000):=⟨hf.Zd ja hi h1 e,hW,ho,by omega⟩;obtain⟨kd,sO⟩:∃kd:Nat,s.kind e=(kd:Int):=⟨(s.kind e).toNat,by have:=(Il e s).1;omega⟩;have ai6:kd<=3:=by have:=(Il e s).2;omega
 have jw:aa _:=hs;have ab7:aa _:=h.br.size;clear h hs hf hn hW ho h1 hi ja hb he rh hr
 cases ht:s.turns e
 ·have wC:aa (K.gW c n=(K.fN n (s.fin e),0)):=by have:=Cu.o;rw[ht,aK (by simp)]at this;exact this
  rw[ht]at HX;go_enter func160,ntmps160
  go_wp2_with fail
  refine aL HX.o ?_;rintro u w3 ⟨rfl,Cv,dB⟩;go_wp2;go_ret;rw[wC.o];exact⟨rfl,fV.one dB Cv⟩
 have wC:aa (K.gW c n=(K.fN n (s.fin e)).app n kd K.d.now):=by have:=Cu.o;rw[ht,aR rfl,sO]at this;exact this
 rw[ht,sO]at HX;go_enter func160,ntmps160
 go_wp2_with fail
 refine aL HX.o ?_;rintro u w3 ⟨rfl,Cv,dB⟩;obtain⟨K2,hK2⟩:∃X,X=K.fN n (s.fin e):=⟨_,rfl⟩;obtain⟨tw,E4⟩:∃X,X=K.d.now:=⟨_,rfl⟩;have mg:fV H w0 w c kb bc bd rb bt lv bs K2 w3:=by rw[hK2];exact fV.one dB Cv
 have vD:=ux.o;rw[<- hK2]at Cv vD;have ab8:aa (K.gW c n=K2.app n kd tw):=by have:=wC.o;rw[<- hK2,<- E4]at this;exact this
 have Jl:K2.d.now=tw:=by rw[hK2,E4];rfl
 have E5:aa ((K2.app n kd tw).1.d.now=tw):=by show _=_;rw[Im,Jl]
 have ab9:tw<=900000:=by rw[E4];exact vD.2.2.2
 obtain⟨H2,hk2,hg2,uy⟩:=mg;have HA:aa (∀V,Below w3.heap.size w3 V->Calls prog 220 #[.pointer (J ⟨rb,0,I⟩),.int .i64 (n:Int),.int .i64 (kd:Int),.int .i64 (tw:Int)] V λe w'=>∃r:Rec,e=.returned (.tuple #[r.val,errVal A (K2.app n kd tw).2])/\∃H1,bT H1 w0 w' c kb bc bd rb bt lv bs (K2.app n kd tw).1/\(∀i k,H1 i k->gr (λk=>∃i,H i k) w w' k)/\bh (λk=>∃i,H i k) w w'/\V.heap.size<=w'.heap.size/\(∀i k,H1 i k->k<w3.heap.size\/V.heap.size<=k)/\∀q,w3.heap.size<=q->q<V.heap.size->w'.heap[q]?=V.heap[q]?):=λV hV=>by
  refine(ab5 (hk2.below hV) jw.o vD.1 vD.2.1 vD.2.2.1 n kd tw (by omega) (by omega) (by omega)).mono ?_;rintro e w' ⟨r,rfl,hk4,sP⟩;have hg4:∀i k,H2 i k->gr (λk=>∃i,H i k) w V k:=λi k hk=>(hg2 i k hk).imp id (λ⟨a,b⟩=>⟨a,eh b hV.size⟩)
  have E6:=uy.trans (bh.ig hV _) (λ_ _ h=>h);obtain⟨H5,PW,oL,xV⟩:=fV.trans hg4 E6 (fV.one sP hk4)
  refine⟨r,rfl,_,hk4,λi k hk=>?_,xV,sP.size,λi k hk=>?_,λq h1 h2=>sP.block q h2 (λhq=>by have:=hk2.eJ.lt 2 q hq;omega)⟩
  ·rcases hk with hk|⟨_,a,b⟩
   ·exact(hg4 i k hk).imp id (λ⟨a,b⟩=>⟨a,eh b sP.size⟩)
   exact aP ⟨bw E6.size a,b⟩
  rcases hk with hk|⟨_,a,_⟩
  ·exact a_ (hk2.eJ.lt i k hk)
  exact aP a
 have ft:aa (∃H1 K1,bT H1 w0 w3 c kb bc bd rb bt lv bs K1/\K1.d.now=tw):=⟨H2,K2,hk2,Jl⟩;have PX:aa (∀W W',(λV=>∃H1 K1,bT H1 w0 V c kb bc bd rb bt lv bs K1/\K1.d.now=tw) W->Below _ W W'->(λV=>∃H1 K1,bT H1 w0 V c kb bc bd rb bt lv bs K1/\K1.d.now=tw) W'):=λW W' ⟨H1,K1,a,b⟩ hb=>⟨H1,K1,a.below hb,b⟩
 have ab_:aa (∀(H':Nat->Nat->Prop) (W W':ai),(λH1 V=>bT H1 w0 V c kb bc bd rb bt lv bs _/\(∀i k,H1 i k->gr (λk=>∃i,H i k) w V k)/\bh _ w V) H' W->Below _ W W'->(λH1 V=>bT H1 w0 V c kb bc bd rb bt lv bs (K2.app n kd tw).1/\(∀i k,H1 i k->gr (λk=>∃i,H i k) w V k)/\bh (λk=>∃i,H i k) w V) H' W'):=λH' W W' ⟨a,b,d⟩ hb=>⟨a.below hb,λi k hk=>(b i k hk).imp id (λ⟨x,y⟩=>⟨x,eh y hb.size⟩),d.trans (bh.ig hb _) (λ_ _ h=>h)⟩
 have PY:aa (w.heap.size<=w3.heap.size/\w0.heap.size<=w.heap.size):=⟨dB.size,ab7.o⟩;have ab':aa (∀(H':Nat->Nat->Prop) (W W':ai) (q:Nat),(λH1 V=>bT H1 w0 V c kb bc bd rb bt lv bs _/\(∀i k,H1 i k->gr (λk=>∃i,H i k) w V k)/\bh _ w V) H' W->bh (λk=>k=q) W W'->(∀i,¬H' i q)->w3.heap.size<=q->(λH1 V=>bT H1 w0 V c kb bc bd rb bt lv bs (K2.app n kd tw).1/\(∀i k,H1 i k->gr (λk=>∃i,H i k) w V k)/\bh (λk=>∃i,H i k) w V) H' W'):=λH' W W' q ⟨a,b,d⟩ ho hno fE=>⟨a.off ho (λi k hk e=>by rw[e]at hk;exact hno i hk) (λk hk=>by rw[hk];have:=PY.o;omega),λi k hk=>(b i k hk).imp id (λ⟨x,y⟩=>⟨x,eh y ho.size⟩),d.trans ho (λk hk e=>absurd hk (by rw[e];have:=PY.o;omega))⟩
 clear Cv dB hK2 E4 vD Jl ab9 hk2 hg2 uy HX ux wC Cu sO;go_upto_region 4 with fail
 go_cut [9,10] (λ_ aca wx=>aca=errVal A (K2.app n kd tw).2/\fV H w0 w c kb bc bd rb bt lv bs (K2.app n kd tw).1 wx)
 case first=>
  refine PU 15 rfl (lL w3 kb rb n kd tw (errVal A (K2.app n kd tw).2) (λV=>∃H1 K1,bT H1 w0 V c kb bc bd rb bt lv bs K1/\K1.d.now=tw) (λH1 V=>bT H1 w0 V c kb bc bd rb bt lv bs (K2.app n kd tw).1/\(∀i k,H1 i k->gr (λk=>∃i,H i k) w V k)/\bh (λk=>∃i,H i k) w V)) (by kernel_rfl) (by kernel_rfl) (lL.start (cg (aC _ _) 1) (PX.o _ _ ft.o (cg (aC _ _) 1))) ?_ ?_
  ·intro i o ho
   match i,ho with
    |0,ho=>
     obtain rfl:=bj ho
     refine gM.free rfl ?_;intro vals a V hC hn ay aD;have x0:a.tmps[0]?.getD _=.pointer _:=bp (aD 0 (eX (by kernel_rfl)));exact fB.val (w:=V) (c:=.pointer _) (by clear ay aD hC;go_simp) (hC.const (by decide) rfl)
    |1,ho=>
     obtain rfl:=bj ho
     refine gM.free rfl ?_;intro vals a V hC hn ay aD;obtain⟨v0,hv0,Cw⟩:=ay _ (bA (i:=0) rfl) rfl;have aas:a.tmps[19]?.getD _=.pointer _:=(bp (Cw 19 rfl)).trans (hC.cs 0 (by decide) v0 hv0);clear Cw;exact fB.val (w:=V) (c:=.pointer _) (by clear ay aD hC;go_simp) (hC.const (by decide) rfl)
    |2,ho=>
     obtain rfl:=bj ho
     refine gM.free rfl ?_;intro vals a V hC hn ay aD;obtain⟨v1,cC,Cx⟩:=ay _ (bA (i:=0) rfl) rfl;have aat:a.tmps[20]?.getD _=.pointer _:=(bp (Cx 20 rfl)).trans (hC.cs 1 (by decide) v1 cC);clear Cx;exact fB.val (w:=V) (c:=.pointer _) (by clear ay aD hC;go_simp) (hC.const (by decide) rfl)
    |3,ho=>
     obtain rfl:=bj ho
     refine gM.free rfl ?_;intro vals a V hC hn ay aD;obtain⟨H1,K1,Cy,-⟩:=hC.ce;have cc:V.cell? _=J (.pointer _):=Cy.cell 4 _ rfl;clear Cy;obtain⟨v2,hv2,Cz⟩:=ay _ (bA (i:=0) rfl) rfl;have NL:a.tmps[21]?.getD _=.pointer _:=(bp (Cz 21 rfl)).trans (hC.cs 2 (by decide) v2 hv2);clear Cz;exact fB.val (w:=V) (c:=.pointer _) (by clear ay aD hC;go_simp) (hC.const (by decide) rfl)
    |4,ho=>
     obtain rfl:=bj ho
     refine gM.free rfl ?_;intro vals a V hC hn ay aD;have x1:a.tmps[1]?.getD _=.int .i64 _:=bp (aD 1 (eX (by kernel_rfl)));exact fB.val (w:=V) (c:=.int .i64 _) (by clear ay aD hC;go_simp) (hC.const (by decide) rfl)
    |5,ho=>
     obtain rfl:=bj ho
     refine gM.free rfl ?_;intro vals a V hC hn ay aD;have x7:a.tmps[7]?.getD _=.int .i64 _:=bp (aD 7 (eX (by kernel_rfl)));exact fB.val (w:=V) (c:=.int .i64 _) (by clear ay aD hC;go_simp) (hC.const (by decide) rfl)
    |6,ho=>
     obtain rfl:=bj ho
     refine gM.free rfl ?_;intro vals a V hC hn ay aD;have x0:a.tmps[0]?.getD _=.pointer _:=bp (aD 0 (eX (by kernel_rfl)));exact fB.val (w:=V) (c:=.pointer _) (by clear ay aD hC;go_simp) (hC.const (by decide) rfl)
    |7,ho=>
     obtain rfl:=bj ho
     refine gM.free rfl ?_;intro vals a V hC hn ay aD;obtain⟨v6,Jm,CA⟩:=ay _ (bA (i:=0) rfl) rfl;have NG:a.tmps[25]?.getD _=.pointer _:=(bp (CA 25 rfl)).trans (hC.cs 6 (by decide) v6 Jm);clear CA;obtain⟨H1,K1,Cy,hk2⟩:=hC.ce
     refine fB.call (w:=V) (f:=37) (args:=#[.pointer (J ⟨kb,0,I⟩)]) (by clear ay aD hC Cy;go_simp) ?_
     refine aL (Je Cy) ?_;rintro e w4 ⟨rfl,rfl⟩;exact⟨_,rfl,hC.const (by decide) (by rw[hk2];rfl)⟩
    |8,ho=>
     obtain rfl:=bj ho
     refine gM.free rfl ?_;intro vals a V hC hn ay aD;obtain⟨v3,hv3,CB⟩:=ay _ (bA (i:=0) rfl) rfl;have NF:a.tmps[22]?.getD _=.pointer _:=(bp (CB 22 rfl)).trans (hC.cs 3 (by decide) v3 hv3);clear CB;obtain⟨v4,hv4,CC⟩:=ay _ (bA (i:=1) rfl) rfl;have NK:a.tmps[23]?.getD _=.int .i64 _:=(bp (CC 23 rfl)).trans (hC.cs 4 (by decide) v4 hv4);clear CC;obtain⟨v5,E7,CD⟩:=ay _ (bA (i:=2) rfl) rfl;have Yy:a.tmps[24]?.getD _=.int .i64 _:=(bp (CD 24 rfl)).trans (hC.cs 5 (by decide) v5 E7);clear CD;obtain⟨v7,Jn,E8⟩:=ay _ (bA (i:=3) rfl) rfl;have NH:a.tmps[26]?.getD _=.int .i64 _:=(bp (E8 26 rfl)).trans (hC.cs 7 (by decide) v7 Jn);clear E8
     refine fB.call (w:=V) (f:=220) (args:=#[.pointer (J ⟨rb,0,I⟩),.int .i64 (n:Int),.int .i64 (kd:Int),.int .i64 (tw:Int)]) (by clear ay aD hC;go_simp) ?_
     refine aL (HA.o V (hC.pre hn)) ?_;rintro e w4 ⟨r,rfl,H1,hk4,hg4,E6,acb,acd,ace⟩;exact⟨_,rfl,hC.call ⟨H1,_,hk4,E5.o⟩ ⟨hk4,hg4,E6⟩ acb (λi k hk=>hk4.eJ.lt i k hk) acd ace⟩
    |9,ho=>
     obtain rfl:=bj ho
     refine gM.free rfl ?_;intro vals a V hC hn ay aD;obtain⟨v8,CF,CG⟩:=ay _ (bA (i:=0) rfl) rfl;obtain⟨⟨r,hr⟩,-⟩:=hC.xS v8 CF;have NJ:a.tmps[27]?.getD _=.tuple _:=(bp (CG 27 rfl)).trans hr;clear CG;exact fB.val (w:=V) (c:=.tuple _) (by clear ay aD hC hr;go_simp) (hC.later (a_ rfl) (λ_=>⟨r,rfl⟩) (λe=>by cases e) (λe=>by cases e) (λe=>by cases e))
    |10,ho=>
     obtain rfl:=bj ho
     refine gM.free rfl ?_;intro vals a V hC hn ay aD;obtain⟨v9,CH,wD⟩:=ay _ (bA (i:=0) rfl) rfl;obtain⟨r,hr⟩:=hC.c9 v9 CH;have OY:a.tmps[18]?.getD _=.tuple _:=(bp (wD 18 rfl)).trans hr;clear wD;exact fB.val (w:=V) (c:=r.val) (by clear ay aD hC hr;go_simp) (hC.later (aP (a_ rfl)) (λe=>by cases e) (λ_=>⟨r,rfl⟩) (λe=>by cases e) (λe=>by cases e))
    |11,ho=>
     obtain rfl:=bj ho
     refine gM.free rfl ?_;intro vals a V hC hn ay aD;obtain⟨v9,CH,wD⟩:=ay _ (bA (i:=0) rfl) rfl;obtain⟨r,hr⟩:=hC.c9 v9 CH;have OY:a.tmps[18]?.getD _=.tuple _:=(bp (wD 18 rfl)).trans hr;clear wD;exact fB.val (w:=V) (c:=errVal A _) (by clear ay aD hC hr;go_simp) (hC.later (aP (aP (a_ rfl))) (λe=>by cases e) (λe=>by cases e) (λ_=>rfl) (λe=>by cases e))
    |12,ho=>
     obtain rfl:=bj ho
     refine gM.free rfl ?_;intro vals a V hC hn ay aD;exact fB.val (w:=V.alloc _) (c:=.pointer _) (by clear ay aD hC;go_simp) (hC.made ab_.o PX.o)
    |13,ho=>
     obtain rfl:=bj ho
     refine gM.free rfl ?_;intro vals a V hC hn ay aD;obtain⟨v12,PZ,P0⟩:=ay _ (bA (i:=0) rfl) rfl;obtain⟨v10,Jo,CI⟩:=ay _ (bA (i:=1) rfl) rfl;obtain⟨v8,CF,-⟩:=ay _ (bA (i:=2) rfl) rfl;obtain⟨g8,r0,rfl,hrow,fE⟩:=hC.c12 v12 PZ;obtain⟨r,rfl⟩:=hC.c10 v10 Jo;have x9:a.tmps[9]?.getD _=.pointer _:=bp (P0 9 rfl);have Ia:a.tmps[28]?.getD _=r.val:=bp (CI 28 rfl);obtain⟨z0,z1,z2,z3⟩:=hrow.at;have q0:=hrow.frozen 0;have q1:=hrow.frozen 1;have q2:=hrow.frozen 2;have q3:=hrow.frozen 3;unfold Rec.val at Ia;exact fB.skip (w:=(((V.setCell _ _).setCell _ _).setCell _ _).setCell _ (.int .i64 (r.tick:Int))) (by clear ay aD hC P0 CI hrow;go_simp) (hC.laid (λe=>by have e2:vals 8=J v8:=CF;rw[e2]at e;cases e) (λH1 V hh=>⟨H1,_,hh.1,E5.o⟩) ab'.o PZ hrow fE rfl)
    |14,ho=>
     obtain rfl:=bj ho
     refine gM.free rfl ?_;intro vals a V hC hn ay aD;obtain⟨v11,acf,P3⟩:=ay _ (bA (i:=0) rfl) rfl;have hr:=hC.c11 v11 acf;have NI:a.tmps[29]?.getD _=errVal A _:=(bp (P3 29 rfl)).trans hr;clear P3;exact fB.val (w:=V) (c:=errVal A _) (by clear ay aD hC hr;go_simp) (hC.later (aP (aP (aP rfl))) (λe=>by cases e) (λe=>by cases e) (λe=>by cases e) (λ_=>rfl))
    |n+15,ho=>simp at ho
  intro vals V hC hall;obtain⟨y0,E9⟩:=iQ.1 (hall 0 (by decide));obtain⟨y1,E_⟩:=iQ.1 (hall 1 (by decide));obtain⟨y2,zX⟩:=iQ.1 (hall 2 (by decide));obtain⟨y3,P4⟩:=iQ.1 (hall 3 (by decide));obtain⟨y4,P5⟩:=iQ.1 (hall 4 (by decide));obtain⟨y5,P6⟩:=iQ.1 (hall 5 (by decide));obtain⟨y6,P7⟩:=iQ.1 (hall 6 (by decide));obtain⟨y7,P8⟩:=iQ.1 (hall 7 (by decide));obtain⟨y8,Jp⟩:=iQ.1 (hall 8 (by decide));obtain⟨y9,P9⟩:=iQ.1 (hall 9 (by decide));obtain⟨acg,P_⟩:=iQ.1 (hall 10 (by decide));obtain⟨ach,Qa⟩:=iQ.1 (hall 11 (by decide));obtain⟨ai7,Qb⟩:=iQ.1 (hall 12 (by decide));obtain⟨ai8,Qc⟩:=iQ.1 (hall 13 (by decide));obtain⟨aci,Jq⟩:=iQ.1 (hall 14 (by decide));obtain⟨_,H',hh,-⟩:=hC.xS y8 Jp;obtain rfl:=hC.c14 aci Jq;have HH:aa (fV H w0 w c kb bc bd rb bt lv bs _ V):=⟨H',hh⟩;clear hC hall hh;simp only[fill,dz,E9,E_,zX,P4,P5,P6,P7,P8,Jp,P9,P_,Qa,Qb,Qc,Jq];clear E9 E_ zX P4 P5 P6 P7 P8 Jp P9 P_ Qa Qb Qc Jq;go_simp
  go_wp2_with fail
  go_meet
  case rel=>exact⟨rfl,HH.o⟩
 case rest=>
 rename ai=>W5
 obtain⟨rfl,hh⟩:=hcut;have HH:aa _:=hh;clear hh;go_wp2;go_ret;rw[ab8.o];exact⟨rfl,HH.o⟩
end
def sQ(A:Nat->az)(d:cS)(cy:Nat):Ending:=ax (bn #[aI (!d.tick.reset&&decide (d.tick.now%cy=0)),errVal A (if d.tick.reset=true then 11 else 0)])
section
variable {A:Nat->az}{w0 w w':ai}{bd:Nat}{d:cS}
theorem acj{w w':ai}{b:Nat}{cs:Array ar}{T:TypeId}(hg:(w.alloc (au cs T)).grownBy w' (J b))(hb:b<w.heap.size):w'.heap[w.heap.size]?=J (au cs T (0,0)):=
 (hg.block _ (by simp) (λe=>by simp at e;omega)).trans (cR w _)
theorem ack(cy:Nat)(h:cP w bd d)(hr:d.reset=false)(hn:d.now<1099511627776)(acm:1<=cy)(hs:fA A w0)(k9:Below w0.heap.size w0 w)(fE:w0.heap.size<=bd):Calls prog 112 #[aU #[aj (J ⟨bd,0,I⟩),U R (cy:Int)]] w λe w'=>e=sQ A d cy/\cP w' bd d.tick/\bh (λk=>k=bd) w w':=by
 have hlt:=h.lt;have hb1:=aN w (au #[aj (J ⟨bd,0,I⟩),U R (cy:Int)] 108);have HX:aa _:=Yx bd d _ (h.below hb1) hr hn;have HB:aa _:=k9;have HS:aa _:=hs;have HL:aa (w0.heap.size<=bd/\w0.heap.size<=w.heap.size):=⟨fE,k9.size⟩;have aO:aa _:=hb1;clear h hs k9 fE hb1 hn hr;have post:∀w2:ai,(w.alloc _).grownBy w2 _->bh (λk=>k=bd) w w2:=λw2 hg=>(bh.ig aO.o _).trans (bh.iO hg) (λ_ _ e=>e)
 have HP:aa _:=post;clear post;go_enter func112,ntmps112
 go_wp2_with fail
 refine aL HX.o ?_;rintro e w2 ⟨rfl,wE,hg2⟩;have hrow:=acj hg2 hlt;have dB:=HP.o w2 hg2;have b0:w2.cell? ⟨w.heap.size,0,I⟩=J (aj (J ⟨bd,0,I⟩)):=by simp[World.cell?,hrow]
 have b1:w2.cell? ⟨w.heap.size,1,I⟩=J (U R (cy:Int)):=by simp[World.cell?,hrow]
 have hs2:=HS.o.below (bh.below HB.o dB HL.o.2 (λk hk=>by rw[hk];exact HL.o.1));have g10:=hs2.c10;have b_:aa _:=Ny bd _ w2 wE;have HO:aa _:=dB;have CJ:aa _:=wE;clear hrow dB hg2 hs2 wE HX HP HS HB HL
 cases kL:d.tick.reset
 ·rw[kL]at b_;go_wp2_with fail
  refine aL b_.o ?_;rintro e w3 ⟨rfl,rfl⟩;have z0:¬(cy:Int)=0:=by omega
  obtain⟨nw,Jr⟩:∃n,n=d.tick.now:=⟨_,rfl⟩;have E5:aa (∀q,Calls _ 75 _ _ λe w'=>e=ax (U R (nw:Int))/\w'=w3.drewN q):=λq=>by rw[Jr];exact Nz bd _ _ (CJ.o.drewN q)
  have acn:aa _:=Jr;clear Jr;go_wp2_with fail
  go_quiet (first|(go_at_call 75;exact o8 (E5.o _)))
  have HQ:aa (((nw:Int)%(cy:Int)==0)=decide (nw%cy=0)):=by
   show _=_
   by_cases hm:nw%cy=0
   ·rw[bM hm,show (nw:Int)%(cy:Int)=0 by omega];rfl
   rw[cw hm];simp;omega
  have aco:aa _:=kL;clear kL;go_wp2;go_ret2
  exact⟨by show Ending.returned (bn #[aI _,.nilIface])=_;unfold sQ;rw[aco.o,<- acn.o,HQ.o];rfl,CJ.o.drewN _,HO.o.trans (bh.ig (cg (aC _ _) _) _) (λ_ _ e=>e)⟩
 rw[kL]at b_;go_wp2_with fail
 refine aL b_.o ?_;rintro e w3 ⟨rfl,rfl⟩;go_wp2_with fail
 go_quiet (fail)
 go_wp2;go_ret2
 exact⟨by show Ending.returned (bn #[aI _,errVal A 11])=_;unfold sQ;rw[kL];rfl,CJ.o.drewN _,HO.o.trans (bh.ig (cg (aC _ _) _) _) (λ_ _ e=>e)⟩
theorem acp(cy:Int)(h:cP w bd d):Calls prog 163 #[aU #[aj (J ⟨bd,0,I⟩),U R cy]] w λe w'=>e=ax .nilIface/\cP w' bd (if d.nu=true then d.vQ else d)/\bh (λk=>k=bd) w w':=by
 have hlt:=h.lt;have hb1:=aN w (au #[aj (J ⟨bd,0,I⟩),U R cy] 108);have h1:=h.below hb1;have HX:aa _:=NB bd d _ h1;have H1:aa _:=h1;have aO:aa _:=hb1;clear h hb1 h1
 cases ho:d.nu
 ·rw[ho]at HX;go_enter func163,ntmps163
  go_wp2_with fail
  refine aL HX.o ?_;rintro e w2 ⟨rfl,q,rfl⟩;go_wp2;go_ret;exact⟨rfl,H1.o.drewN _,(bh.ig aO.o _).trans (bh.ig (cg (aC _ _) _) _) (λ_ _ e=>e)⟩
 rw[ho]at HX;go_enter func163,ntmps163
 go_wp2_with fail
 refine aL HX.o ?_;rintro e w2 ⟨rfl,q,rfl⟩;go_wp2_with fail
 refine(YA bd d _ (H1.o.drewN q) ho).mono ?_;rintro e w3 ⟨rfl,acq,hg3⟩;go_wp2;go_ret;exact⟨rfl,acq,((bh.ig aO.o _).trans (bh.ig (cg (aC _ _) _) _) (λ_ _ e=>e)).trans (bh.iO hg3) (λ_ _ e=>e)⟩
end
theorem acr:(prog.info? 9).map (λi=>(i.zero,i.size,i.bytes))=J (J (aq ⟨#[]⟩),1,16):=by kernel_rfl
structure pR(H0 H:Nat->Nat->Prop)(w0 w wr:ai)(c:aS)(kb bc bd rb bt:Nat)(lv:ar)(bs:List Nat)(K:aH)(kv:ar)(xs:List ByteArray):Prop where
 ke:bT H w0 wr c kb bc bd rb bt lv bs K
 hg:∀i k,H i k->gr (λk=>∃i,H0 i k) w wr k
 off:bh (λk=>∃i,H0 i k) w wr
 own:bU bS 1 9 w.heap.size wr kv xs
 no:∀k,kv.ownBlock=J k->∀i,¬H i k
section
variable {A:Nat->az}{H H0:Nat->Nat->Prop}{F:Nat->Prop}{w0 w w' wr wr':ai}{c:aS}{kb bc bd rb bt:Nat}{lv kv:ar}{bs:List Nat}{K K':aH}{k W:Nat}{xs:List ByteArray}
theorem pR.to(h:pR H0 H w0 w wr c kb bc bd rb bt lv bs K kv xs)(t:fV H w0 wr c kb bc bd rb bt lv bs K' wr'):∃H',pR H0 H' w0 w wr' c kb bc bd rb bt lv bs K' kv xs:=by
 obtain⟨H1,t1,t2,t3⟩:=id t
 refine⟨H1,t1,λi k hk=>?_,?_,bU.same h.own (λg hg=>t3.block g (h.own.lt g hg).2 (λ⟨i,hi⟩=>h.no g hg i hi)),λk hk i hi=>?_⟩
 ·rcases t2 i k hk with⟨j,hj⟩|⟨a,b⟩
  ·exact(h.hg j k hj).imp id (λ⟨a,b⟩=>⟨a,eh b t3.size⟩)
  exact aP ⟨bw h.off.size a,b⟩
 ·exact h.off.trans t3 (λk hk ⟨i,hi⟩=>by
   rcases h.hg i k hi with a|⟨a,_⟩
   ·exact a
   omega)
 rcases t2 i k hi with⟨j,hj⟩|⟨a,_⟩
 ·exact h.no k hk j hj
 have:=(h.own.lt k hk).2;omega
theorem pR.below(h:pR H0 H w0 w wr c kb bc bd rb bt lv bs K kv xs)(hb:Below wr.heap.size wr wr'):pR H0 H w0 w wr' c kb bc bd rb bt lv bs K kv xs:=
 ⟨h.ke.below hb,λi k hk=>(h.hg i k hk).imp id (λ⟨a,b⟩=>⟨a,eh b hb.size⟩),h.off.trans (bh.ig hb _) (λ_ _ h=>h),h.own.below hb,h.no⟩
theorem pR.kt(h:pR H0 H w0 w wr c kb bc bd rb bt lv bs K kv xs):fV H0 w0 w c kb bc bd rb bt lv bs K wr:=⟨H,h.ke,h.hg,h.off⟩
theorem pR.more(h:pR H0 H w0 w wr c kb bc bd rb bt lv bs K kv xs)(hw:w0.heap.size<=w.heap.size){o:Obj}{y:ByteArray}{g cap n:Nat}(hn:xs.length+1=n)(hown:wr'.ownsRow w.heap.size 9 1 (af (J ⟨g,0,I⟩) n cap) n (xs.flatMap bS++[aq y]))(hg:(wr.alloc o).grownBy wr' kv.ownBlock)(cH:kv.ownBlock=J g\/g=wr.heap.size+1):pR H0 H w0 w wr' c kb bc bd rb bt lv bs K (af (J ⟨g,0,I⟩) n cap) (xs++[y]):=by
 have h1:=h.below (aN wr o);have dB:bh _ _ wr':=⟨hg.os,hg.tape,hg.output,hg.size,λk hk hn=>hg.block k hk (λe=>hn e.symm)⟩;have hlt:=λk hk=>(h.own.lt k hk).1
 refine⟨h1.ke.off dB (λi k hk e=>h.no k e i hk) (λk hk=>bw hw (hlt k hk)),λi k hk=>(h1.hg i k hk).imp id (λ⟨a,b⟩=>⟨a,eh b dB.size⟩),h1.off.trans dB (λk hk e=>absurd (hlt k e) (by omega)),?_,λk hk i hi=>?_⟩
 ·have e:(xs++[y]).flatMap bS=xs.flatMap bS++[aq y]:=by rw[dP];rfl
  show wr'.ownsRow _ _ _ _ _ _
  rw[e,dm,qb,hn];exact hown
 cases hk
 rcases cH with cH|cH
 ·exact h.no g cH i hi
 have:=h.ke.eJ.lt i g hi;omega
theorem acs{K:aH}{n:Nat}(h:K.ls.length=n):mF K n=K.ls.map λs=>pJ s.status:=by unfold mF;rw[nQ (by omega)]
def aH.wF(c:aS)(K:aH):aH×Nat:=if (K.ends c c.aw.length).2=0 then ((K.ends c c.aw.length).1.last,0)else K.ends c c.aw.length
theorem acu(h:bT H w0 w c kb bc bd rb bt lv bs K)(hf:qg K.t 20)(l:List ByteArray)(sa:Option az)(cap:Nat)(hl:∀V,w.grownBy V (J bt)->bN bS 1 V (af sa l.length cap) l)(hn:l.length<=1000000):Calls prog 161 #[aj (J ⟨bt,0,I⟩),af sa l.length cap] w λe w'=>(∃y,e=ax (aq y))/\bT (dV H 4 w w') w0 w' c kb bc bd rb bt lv bs { K with t:=K.t.fin l }/\bh (H 4) w w':=by
 refine(aa7 w0 w bt 20 K.t l sa cap h.to hf (by decide) hl hn).mono ?_;rintro e w' ⟨rfl,ht,hg⟩;have dB:bh (H 4) w w':=(bh.iO hg).mono (λk _ e=>by rw[e];exact h.ht);exact⟨⟨_,rfl⟩,h.aa_ dB ht.heap,dB⟩
theorem acv(h:bT H w0 w c kb bc bd rb bt lv bs K)(cy:Int):Calls prog 163 #[aU #[aj (J ⟨bd,0,I⟩),U R cy]] w λe w'=>e=ax .nilIface/\bT (dV H 3 w w') w0 w' c kb bc bd rb bt lv bs { K with d:=if K.d.nu=true then K.d.vQ else K.d }/\bh (H 3) w w':=by
 refine(acp cy h.kE).mono ?_;rintro e w' ⟨rfl,hd,ho⟩;have dB:bh (H 3) w w':=ho.mono (λk _ e=>by rw[e];exact h.hd);exact⟨rfl,h.IX dB hd,dB⟩
theorem acw(h:bT H w0 w c kb bc bd rb bt lv bs K)(hs:fA A w0)(hr:gi c)(hf:bQ c K k W)(hn:k+K.d.now<=900000)(hW:W+200<=1099511627776)(ho:K.c.off=false)(h1:1<=K.d.now)(hi:∀s∈K.ls,gJ s (k+K.d.now-1)):Calls prog 113 #[aj (J ⟨kb,0,I⟩)] w λv w'=>v=ax (errVal A (K.wF c).2)/\fV H w0 w c kb bc bd rb bt lv bs (K.wF c).1 w':=by
 obtain⟨i0,oZ,hz0,hz1,hz2⟩:=fj acr;have c5:w.cell? _=J lv:=h.cell 5 _ rfl;obtain⟨la,lc,rfl⟩:=mD h.own;rw[h.eB]at c5;have ai9:=hr.nn;obtain⟨W1,Cq,hown1,hg1⟩:=run_make_own (P:=prog) w _ 22 9 i0 _ 1 underlying22 oZ hz0 hz1 R R c.aw.length (by rw[hz2];omega) (by unfold maxLen;omega) (aQ _);have hb1:Below _ w W1:=⟨hg1.os,hg1.tape,hg1.output,hg1.size,λk hk=>hg1.block k hk (by simp)⟩;have HL:aa (pR H H w0 w W1 c kb bc bd rb bt _ bs K _ []):=⟨h.below hb1,λi k hk=>a_ ⟨i,hk⟩,bh.ig hb1 _,hown1,λk hk i hi=>by cases hk;exact Nat.lt_irrefl _ (h.eJ.lt i _ hi)⟩;have zY:aa _:=h.br.size;have HE:aa _:=hf.ends ho hi h1;have CK:aa ((∀s∈K.ls,gJ s _)/\1<=K.d.now/\k+K.d.now<=900000/\W+200<=1099511627776/\c.aw.length<=8):=⟨hi,h1,hn,hW,hr.nn⟩;have ai_:aa _:=hf.lI;have HR:aa _:=hr;have jw:aa _:=hs;have hbl:=h.eB;rw[hbl]at HL⊢;have acx:=aG hb1 c5;clear h hs hr hf hn hW ho h1 hi hown1 hg1 hb1 hbl;go_enter func113,ntmps113
 go_upto_region 1 with fail
 go_cut [3] (λkv wx=>kv=af (J ⟨w.heap.size,0,I⟩) 0 c.aw.length/\wx=W1)
 case first=>
  go_wp2_with fail
  go_meet
  case rel=>exact⟨rfl,rfl⟩
 obtain⟨rfl,rfl⟩:=hcut;clear Cq c5;rename ai=>W1
 go_upto_region 2 with fail
 go_cut [16,17,18] (λl n i wx=>l=af la c.aw.length lc/\n=U R (c.aw.length:Int)/\i=U R 0/\wx=W1)
 case first=>
  go_wp2_with fail
  go_meet
  case rel=>exact⟨rfl,rfl,rfl,rfl⟩
 obtain⟨rfl,rfl,rfl,rfl⟩:=hcut;clear acx;go_wp2_with fail
 go_loopw [3,4,5,6,18] (λkv _ _ _ i wr=>∃n:Nat,n<=c.aw.length/\i=U R n/\(K.ends c n).2=0/\∃H1,pR H H1 w0 w wr c kb bc bd rb bt (af la c.aw.length lc) bs (K.ends c n).1 kv (mF (K.ends c n).1 n)) (λ_ _ _ _ i _=>c.aw.length-(intOf i).toNat)
 case atStart=>exact⟨0,bI _,rfl,rfl,_,HL.o⟩
 case round=>
  clear HL;obtain⟨n,yY,rfl,h0,H1,L⟩:=hrel;have ck:(mF (K.ends c n).1 n).length=n:=by unfold mF;rw[fL,gy,L.ke.gX];omega
  obtain⟨ka,kc,ly⟩:=mD L.own;rw[ck]at ly;subst ly;have nH:aa _:=ck;clear ck
  by_cases hlt:n<c.aw.length
  ·have hlen:=L.ke.gX;obtain⟨s,hs⟩:∃s,(K.ends c n).1.ls[n]?=J s:=⟨_,bH (by omega)⟩;obtain⟨b,e,g,cap,hb,he,hlv,cp,h4⟩:=L.ke.zT hs;rw[hlen]at hlv;simp only[tU,true_and]at hlv;obtain⟨rfl,rfl⟩:=hlv;obtain⟨f1,f2,f3,f4,f5⟩:=HE.o n;have Qd:=f2 h0;have zR:=CK.o;have HX:aa _:=ab6 (A:=A) n b L.ke jw.o HR.o f1 (by rw[f3];exact zR.2.2.1) (by omega) Qd.1 (by rw[f3];exact zR.2.1) (by rw[f3];exact zR.1 s (by rw[f5 n (aQ _)]at hs;exact cM hs)) hs hb he (by omega);have Cu:aa (K.ends c (n+1)=(K.ends c n).1.gW c n):=by
    show (if (K.ends c n).2=0 then (K.ends c n).1.gW c n else K.ends c n)=_
    rw[aR h0]
   have hst:=Zl c K n h0 hs he;have oY:aa ((K.ends c (n+1)).1.ls[n]?=J (s.fin e)/\mF (K.ends c (n+1)).1 (n+1)=mF (K.ends c n).1 n++[pJ (s.fin e).status]):=by
    have xW:(K.ends c (n+1)).1.ls=((K.ends c n).1.fN n (s.fin e)).ls:=by
     rw[hst]
     split
     ·rw[N3]
     rfl
    refine⟨?_,?_⟩
    ·rw[xW];show (List.set _ _ _)[n]?=_
     rw[List.getElem?_set_self (by omega)]
    rw[<- Zm (s:=s.fin e) (by omega:n<(K.ends c n).1.ls.length)];unfold mF;rw[xW]
   rw[<- Cu.o]at HX;have Qe:aa (bs[n]?=J b/\c.aw[n]?=J e):=⟨hb,he⟩;have HL:aa _:=L;have k1:(n:Int)<(c.aw.length:Int):=by omega
   have k2:n<8:=by omega
   clear L hb he h4 hs hlen f1 f2 f3 f4 f5 Qd zR hst;go_wp2_with fail
   refine aL HX.o ?_;rintro u w3 ⟨rfl,mg⟩;obtain⟨H3,L3⟩:=HL.o.to mg
   by_cases hc0:(K.ends c (n+1)).2=0
   ·rw[hc0,show errVal A 0=.nilIface from rfl];have o0:aa _:=Pr (L3.ke.loc n b e (s.fin e) Qe.o.1 Qe.o.2 oY.o.1);have Qf:w3.ownsRow w.heap.size 9 1 (af ka n kc) n ((mF (K.ends c n).1 n).flatMap bS):=by
     have:w3.ownsRow _ 9 1 _ _ _:=L3.own;rwa [nH.o]at this
    have hz3:=L3.off.size;have nG:aa _:=L3;have EN:aa _:=Qf;obtain⟨y,hy⟩:∃y,y=pJ (s.fin e).status:=⟨_,rfl⟩;have HY:aa _:=hy;rw[<- hy]at o0;clear hy L3 Qf mg HX;go_wp2_with fail
    refine aL o0.o ?_;rintro u w5 ⟨rfl,rfl⟩;go_wp2_with (at_builtin;refine zI _ rfl _ _ 22 rfl _ 9 i0 _ 1 16 underlying22 oZ hz0 hz1 hz2 rfl (by decide) (af ka n kc) n ((mF (K.ends c n).1 n).flatMap bS) rfl (zH EN.o _) ⟨w5.heap.size,0,I⟩ 1 1 [aq y] rfl rfl (sB w5 [aq y] 9) (λu hu=>by rw[iF]at hu;subst hu;rfl) (by decide) (by unfold maxLen;omega) (by omega) (by simp;omega) (w5.heap.size+1) (by simp) ?_;intro gg cc xO hown hg cH ru)
    have L5:=nG.o.more zY.o (by rw[nH.o]) hown hg cH;have uw:aa _:=L5;clear L5 hown hg cH ru EN o0 cp;go_roundw
    case rel=>exact⟨_,by omega,by go_num,hc0,H3,by rw[oY.o.2,<- HY.o];exact uw.o⟩
    case measure=>simp[intOf];omega
   obtain⟨j,hj⟩:=xR (A:=A) hc0;have acy:aa (K.wF c=K.ends c (n+1)):=by
    show _=_
    have:=N2 c K hc0 (n:=c.aw.length) (by omega);unfold aH.wF;rw[this,aK hc0]
   have HJ:aa _:=hj;rw[hj];have CL:aa _:=L3.kt;clear L3 mg hj HX cp;go_wp2;go_ret;rw[acy.o,HJ.o];exact⟨rfl,CL.o⟩
  obtain rfl:n=c.aw.length:=by omega
  have k1:¬(c.aw.length:Int)<(c.aw.length:Int):=by omega
  obtain⟨f1,f2,f3,f4,f5⟩:=HE.o c.aw.length;have hlen:=L.ke.gX;have hall:=acs hlen;have e6:wr.cell? _=J (aj _):=L.ke.cell 6 _ rfl;have hown:=L.own;have hno:=L.no;have HX:aa _:=acu L.ke f1.lI _ ka kc (λV hV=>by
   rw[nH.o];have:=bU.same hown (λg hg=>hV.block g (hown.lt g hg).2 (λe=>hno g hg 4 (by have:=bj e;rw[this];exact L.ke.ht)));exact this.jc (λ_=>rfl)) (by rw[nH.o];omega)
  rw[nH.o]at HX;have HL:aa _:=L;have eP:aa (K.wF c=((K.ends c c.aw.length).1.last,0)):=by show _=_;unfold aH.wF;rw[aR h0]
  have zZ:aa _:=hall;have z_:aa (((K.ends c c.aw.length).1.t.fin (mF (K.ends c c.aw.length).1 c.aw.length)).st<=3):=(f1.lI.NX _).st;clear L hown hno f1 f2 f3 f4 f5 hlen hall;go_wp2_with fail
  refine aL HX.o ?_;rintro u w3 ⟨⟨y,rfl⟩,hk3,mM⟩;have Qg:w3.cell? _=J (aj _):=hk3.cell 6 _ rfl;have e0:w3.cell? _=J (aj _):=hk3.cell 0 _ rfl;have e1:w3.cell? _=J (U R _):=hk3.cell 1 _ rfl;have Aa:aa _:=aa3 hk3.to z_.o;have CL:aa (fV H w0 w c kb bc bd rb bt _ bs _ w3):=fV.trans HL.o.hg HL.o.off (fV.one mM hk3);have Js:aa _:=acv hk3 c.cycle;have Ab:aa (∀w4,bh (dV H1 4 wr w3 3) w3 w4->bT (dV (dV H1 4 wr w3) 3 w3 w4) w0 w4 c kb bc bd rb bt (af la c.aw.length lc) bs { ({ (K.ends c c.aw.length).1 with t:=(K.ends c c.aw.length).1.t.fin (mF (K.ends c c.aw.length).1 c.aw.length) }:aH)with d:=if (K.ends c c.aw.length).1.d.nu=true then (K.ends c c.aw.length).1.d.vQ else (K.ends c c.aw.length).1.d }->fV H w0 w c kb bc bd rb bt (af la c.aw.length lc) bs { ({ (K.ends c c.aw.length).1 with t:=(K.ends c c.aw.length).1.t.fin (mF (K.ends c c.aw.length).1 c.aw.length) }:aH)with d:=if (K.ends c c.aw.length).1.d.nu=true then (K.ends c c.aw.length).1.d.vQ else (K.ends c c.aw.length).1.d } w4):=λw4 sP hk4=>by
   have t1:=fV.trans (H1:=dV H1 4 wr w3) (B9 (λi _ hk=>⟨i,hk⟩) 4) (bh.all (λi _ hk=>⟨i,hk⟩) mM) (fV.one sP hk4);exact fV.trans HL.o.hg HL.o.off t1
  clear hk3 mM HX e6 HL;generalize acz:(K.ends c c.aw.length).1=K1 at Aa CL Js Ab eP zZ z_;generalize hl:mF K1 c.aw.length=l at Aa CL Js Ab zZ z_;clear hl acz
  by_cases h3:(K1.t.fin l).st=3
  ·have HM:aa (decide ((K1.t.fin l).st≠3)=false):=cw (λe=>e h3);have Jt:aa (K1.last={ K1 with t:=K1.t.fin l }):=by
    show _=_
    unfold aH.last;simp only[<- zZ.o];rw[aK (λe=>e.1 h3)]
   rw[HM.o]at Aa;go_wp2_with fail
   refine aL Aa.o ?_;rintro u w4 ⟨rfl,rfl⟩;go_wp2;go_ret;rw[eP.o,Jt.o];exact⟨rfl,CL.o⟩
  have HM:aa (decide ((K1.t.fin l).st≠3)=true):=bM h3;have Jt:aa (K1.last={ ({ K1 with t:=K1.t.fin l }:aH)with d:=if K1.d.nu=true then K1.d.vQ else K1.d }):=by
   show _=_
   unfold aH.last;simp only[<- zZ.o]
   cases ho:K1.d.nu
   ·rw[aK (λe=>by cases e.2)];rfl
   rw[aR ⟨h3,rfl⟩];rfl
  rw[HM.o]at Aa;go_wp2_with fail
  refine aL Aa.o ?_;rintro u w4 ⟨rfl,rfl⟩;go_wp2_with fail
  refine aL Js.o ?_;rintro u w5 ⟨rfl,PW,Fa⟩;go_wp2;go_ret;rw[eP.o,Jt.o];exact⟨rfl,Ab.o w5 Fa PW⟩
end
section
variable {A:Nat->az}{H:Nat->Nat->Prop}{F:Nat->Prop}{w0 w w':ai}{c:aS}{kb bc bd rb bt:Nat}{lv:ar}{bs:List Nat}{K:aH}{k W:Nat}
theorem acA(h:bT H w0 w c kb bc bd rb bt lv bs K)(hs:fA A w0)(hr:gi c)(kL:K.d.reset=false)(hn:K.d.now<1099511627776):Calls prog 112 #[aU #[aj (J ⟨bd,0,I⟩),U R c.cycle]] w λe w'=>e=sQ A K.d c.cycle.toNat/\bT (dV H 3 w w') w0 w' c kb bc bd rb bt lv bs K.fF/\bh (H 3) w w':=by
 have acm:=hr.cy;have h1:=ack (A:=A) c.cycle.toNat h.kE kL hn (by omega) hs h.br (h.eJ.lo 3 bd h.hd);rw[show ((c.cycle.toNat:Nat):Int)=c.cycle by omega]at h1
 refine h1.mono ?_;rintro e w' ⟨rfl,hd,ho⟩;have dB:bh (H 3) w w':=ho.mono (λk _ e=>by rw[e];exact h.hd);exact⟨rfl,h.IX dB hd,dB⟩
theorem acB(c:aS)(K:aH)(ho:K.on=0)(kL:K.fF.d.reset=false)(hm:K.fF.d.now%c.cycle.toNat=0):K.tick c=K.fF.wF c:=by
 unfold aH.tick aH.wF;rw[aK (by omega),aK (by rw[kL];simp),aK (by omega)]
theorem acC(h:eV F w0 w c kb bc K)(hs:fA A w0)(hr:gi c)(hf:bQ c K k (144*K.d.now))(hn:k+K.d.now+1<=900000):Calls prog 71 #[aj (J ⟨kb,0,I⟩)] w λe w'=>e=ax (errVal A (K.tick c).2)/\di F w0 w c kb bc (K.tick c).1 w':=by
 have HS:aa (di F w0 w c kb bc K w):=di.same h;obtain⟨H,bd,rb,bt,lv,bs,h1,hF⟩:=h;have HC:aa _:=EX h1 hs
 by_cases ho:K.on=0
 ·rw[ho,show errVal A 0=.nilIface from rfl]at HC;obtain⟨o1,o2⟩:=aH.Et.1 ho;have c0:w.cell? _=J (aj _):=h1.cell 0 _ rfl;have c1:w.cell? _=J (U R _):=h1.cell 1 _ rfl;have HX:aa _:=acA h1 hs hr o2 (by omega);have HF:aa _:=hF;have HR:aa _:=hr;have jw:aa _:=hs;have ux:aa (bQ c K.fF k (144*K.d.now)/\(∀s∈K.fF.ls,gJ s (k+K.fF.d.now-1))/\1<=K.fF.d.now/\K.fF.c.off=false/\k+K.fF.d.now<=900000):=by
   obtain⟨t1,t2,t3⟩:=hf.fF (by omega);exact⟨t1,t2,t3,o1,by show k+(K.d.now+1)<=900000;omega⟩
  cases kL:K.fF.d.reset
  ·by_cases hm:K.fF.d.now%c.cycle.toNat=0
   ·have HB:aa _:=acB c K ho kL hm;have e:sQ A K.d c.cycle.toNat=ax (bn #[aI true,.nilIface]):=by
     unfold sQ;rw[show K.d.tick.reset=false from kL,bM (show K.d.tick.now%c.cycle.toNat=0 from hm)];rfl
    rw[e]at HX;clear h1 hs hr hf hn ho kL hm e o1 o2 hF HS;go_enter func71,ntmps71
    go_wp2_with fail
    refine aL HC.o ?_;rintro u w2 ⟨rfl,rfl⟩;go_wp2_with fail
    refine aL HX.o ?_;rintro u w3 ⟨rfl,hk3,mM⟩;have HE:aa _:=acw hk3 jw.o HR.o ux.o.1 ux.o.2.2.2.2 (by have:=ux.o.2.2.2.2;have e:K.fF.d.now=K.d.now+1:=rfl;omega) ux.o.2.2.2.1 ux.o.2.2.1 ux.o.2.1;have gY:aa _:=mM;clear hk3 mM HX HC;go_wp2_with fail
    refine aL HE.o ?_;rintro u w4 ⟨rfl,mg⟩;go_wp2;go_ret;rw[HB.o];exact⟨rfl,(fV.trans (B9 (λi _ hk=>⟨i,hk⟩) 3) (bh.all (λi _ hk=>⟨i,hk⟩) gY.o) mg).post HF.o⟩
   have HB:aa (K.tick c=(K.fF,0)):=by show _=_;unfold aH.tick;rw[aK (by omega),aK (by rw[kL];simp),aR hm]
   have e:sQ A K.d c.cycle.toNat=ax (bn #[aI false,.nilIface]):=by
    unfold sQ;rw[show K.d.tick.reset=false from kL,cw (show ¬K.d.tick.now%c.cycle.toNat=0 from hm)];rfl
   rw[e]at HX;clear h1 hs hr hf hn ho kL hm e o1 o2 hF HS;go_enter func71,ntmps71
   go_wp2_with fail
   refine aL HC.o ?_;rintro u w2 ⟨rfl,rfl⟩;go_wp2_with fail
   refine aL HX.o ?_;rintro u w3 ⟨rfl,hk3,mM⟩;go_wp2;go_ret;rw[HB.o];exact⟨rfl,bT.post HF.o mM hk3⟩
  have HB:aa (K.tick c=(K.fF,11)):=by show _=_;unfold aH.tick;rw[aK (by omega),aR kL]
  have e:sQ A K.d c.cycle.toNat=ax (bn #[aI false,.iface 352 (aj (J (A 10)))]):=by
   unfold sQ;rw[show K.d.tick.reset=true from kL];rfl
  rw[e]at HX;clear h1 hs hr hf hn ho kL e o1 o2 hF HS;go_enter func71,ntmps71
  go_wp2_with fail
  refine aL HC.o ?_;rintro u w2 ⟨rfl,rfl⟩;go_wp2_with fail
  refine aL HX.o ?_;rintro u w3 ⟨rfl,hk3,mM⟩;go_wp2;go_ret;rw[HB.o];exact⟨rfl,bT.post HF.o mM hk3⟩
 have HB:aa (K.tick c=(K,K.on)):=by show _=_;unfold aH.tick;rw[aR ho]
 obtain⟨j,hj⟩:=xR (A:=A) ho;have HJ:aa _:=hj;rw[hj]at HC;clear h1 hF ho hs hj hr hf hn;go_enter func71,ntmps71
 go_wp2_with fail
 refine aL HC.o ?_;rintro u w2 ⟨rfl,rfl⟩;go_wp2;go_ret;rw[HB.o,HJ.o];exact⟨rfl,HS.o⟩
end
section
variable {A:Nat->az}{F:Nat->Prop}{w0 w w':ai}{c:aS}{kb bc:Nat}{K:aH}
theorem acD(n:Int)(h:eV F w0 w c kb bc K)(hs:fA A w0):Calls prog 32 #[aj (J ⟨bc,0,I⟩),U R n] w λe w'=>e=ax (errVal A (K.cut n).2)/\di F w0 w c kb bc (K.cut n).1 w':=by
 obtain⟨H,bd,rb,bt,lv,bs,h1,hF⟩:=h
 refine(aaY (A:=A) h1.ring (h1.o7 hs).four n).mono ?_;rintro e w' ⟨rfl,h2,h3⟩;have h4:=h1.toRing h3 h2;have e1:(K.cut n).1={ K with c:=(K.cut n).1.c,L:=(K.cut n).1.L,sp:=(K.cut n).1.sp }:=by
  unfold aH.cut
  split
  ·rfl
  split<;>rfl
 rw[<- e1]at h4;exact⟨rfl,bT.post hF h3 h4⟩
end
structure mO(H:Nat->Nat->Prop)(w0 w:ai)(c:aS)(kb bc bd:Nat)(rv tv lv:ar)(bs:List Nat)(s:aM)(d:cS)(ls:List bB):Prop where
 eJ:nB H w0.heap.size w
 row:w.heap[kb]?=J (au (wm c bd bc rv lv tv) 113 (0,0))
 hk:H 0 kb
 own:bU ue 1 114 w0.heap.size w lv bs
 hl:∀k,lv.ownBlock=J k->H 1 k
 cells:bY w bc s
 hc:H 2 bc
 kE:cP w bd d
 hd:H 3 bd
 loc:∀i b e s,bs[i]?=J b->c.aw[i]?=J e->ls[i]?=J s->dY (H (5+i)) w b e s
 eB:bs.length=ls.length
 br:Below w0.heap.size w0 w
section
variable {A:Nat->az}{H:Nat->Nat->Prop}{F:Nat->Prop}{w0 w w' w1 w2:ai}{c:aS}{kb bc bd rb bt:Nat}{rv tv lv:ar}{bs:List Nat}{s:aM}{d:cS}{ls:List bB}{K:aH}{k W:Nat}
theorem bT.ER(h:bT H w0 w c kb bc bd rb bt lv bs K):mO H w0 w c kb bc bd (aj (J ⟨rb,0,I⟩)) (aj (J ⟨bt,0,I⟩)) lv bs K.c K.d K.ls:=
 ⟨h.eJ,h.row,h.hk,h.own,h.hl,h.ring.cells,h.ring.fc,h.kE,h.hd,h.loc,by rw[h.eB,h.gX],h.br⟩
theorem mO.cell(h:mO H w0 w c kb bc bd rv tv lv bs s d ls)(j:Nat)(u:ar)(hu:(wm c bd bc rv lv tv)[j]?=J u):w.cell? ⟨kb,j,I⟩=J u:=by
 simp[World.cell?,h.row,hu]
theorem mO.below(h:mO H w0 w c kb bc bd rv tv lv bs s d ls)(hb:Below w.heap.size w w'):mO H w0 w' c kb bc bd rv tv lv bs s d ls:=
 ⟨h.eJ.grow hb.size,bG hb h.row,h.hk,h.own.below hb,h.hl,h.cells.below hb,h.hc,h.kE.below hb,h.hd,λi b e s h1 h2 h3=>(h.loc i b e s h1 h2 h3).same (λk hk=>hb.block k (h.eJ.lt _ k hk)) hb.size,h.eB,h.br.trans (hb.mono h.br.size)⟩
theorem mO.laid{L:List Rec}{t:cD}(h:mO H w0 w c kb bc bd rv tv lv bs s d ls)(hlen:ls.length=c.aw.length)(hb1:Below w.heap.size w w1)(hr:jd (λk=>k=bc\/(w.heap.size<=k/\k<w1.heap.size)) w0.heap.size w1 rb bc s L false)(ht:mH w1 w2 bt t)
  (hW:w'=(w2.setCell ⟨kb,4,I⟩ (.pointer (J ⟨rb,0,I⟩))).setCell ⟨kb,6,I⟩ (.pointer (J ⟨bt,0,I⟩))):bT (dV (dV H 2 w w1) 4 w1 w2) w0 w' c kb bc bd rb bt lv bs ⟨s,d,L,false,ls,t⟩/\bh (λk=>k=kb) w w'/\w2.heap.size=w'.heap.size:=by
 have hb2:=ht.br;have CM:=hb1.trans (hb2.mono hb1.size);have h2:=h.below CM;have hz:w2.heap.size=w'.heap.size:=by rw[hW];simp[World.setCell]
 have dB:bh (λk=>k=kb) w2 w':=by rw[hW];exact bh.iO ((fp _ _ _ _).trans (fp _ _ _ _))
 have mz:=h.eJ.upd hb1.size h.br.size 2;have hf2:=mz.upd hb2.size (bw h.br.size hb1.size) 4;have hf3:nB _ _ w':=hf2.grow (by omega);have up:∀i k,H i k->dV (dV H 2 w w1) 4 w1 w2 i k:=λi k hk=>a_ (a_ hk)
 have hk2:=up 0 kb h.hk;have no:∀i k,i≠0->dV _ 4 w1 w2 i k->k≠kb:=λi k hi hk e=>by rw[e]at hk;exact hi (hf2.vU i 0 kb hk hk2)
 have same:=λi k hi hk=>dB.block k (hf2.lt i k hk) (no i k hi hk)
 have uz:dV (dV H 2 w w1) 4 w1 w2 4 bt:=aP ⟨rfl,ht.lo,bJ ht.heap⟩;have Qh:=bJ h.row
 refine⟨⟨hf3,?_,hk2,bU.same h2.own (λg hg=>same 1 g (by decide) (up 1 g (h.hl g hg))),λk hk=>up 1 k (h.hl k hk),?_,h2.kE.off dB (no 3 bd (by decide) (up 3 bd h.hd)),up 3 bd h.hd,(same 4 bt (by decide) uz).trans ht.heap,uz,λi b e s' h3 h4 h5=>?_,?_,hlen,?_⟩,?_,hz⟩
 ·rw[hW];exact BX (BX h2.row _) _
 ·have r2:=hr.off (bh.ig hb2 _) (λ_ _ e=>e);have r3:=r2.grow (λk hk=>by
   rcases hk with rfl|hk
   ·exact up 2 k h.hc
   exact a_ (aP ⟨rfl,hk⟩)) (λk hk=>hf2.lt 2 k hk)
  exact r3.off dB (λk hk=>no 2 k (by decide) hk)
 ·exact((h2.loc i b e s' h3 h4 h5).grow (λk hk=>up _ k hk) (λk hk=>hf2.lt _ k hk)).same (λk hk=>same _ k (by omega) hk) (by omega)
 ·rw[h.eB,hlen]
 ·exact bh.below h2.br dB h2.br.size (λk hk=>by rw[hk];exact h.eJ.lo 0 kb h.hk)
 exact(bh.ig CM _).trans dB (λ_ _ e=>e)
def kQ(ls:List bB)(n:Nat):List bB:=(ls.take n).map bB.stop++ls.drop n
theorem acE{ls:List bB}{n:Nat}{s:bB}(h:ls[n]?=J s):(kQ ls n)[n]?=J s/\(kQ ls n).set n s.stop=kQ ls (n+1):=by
 have hn:=(dT.1 h).1;have hl:((ls.take n).map bB.stop).length=n:=by rw[fL,gy];omega
 have hd:ls.drop n=s::ls.drop (n+1):=by
  rw[kq hn];rw[bH hn]at h;rw[bj h]
 unfold kQ
 refine⟨?_,?_⟩
 ·rw[ko (by omega),hl,Nat.sub_self,hd];rfl
 rw[yQ _ _ (by omega),hl,Nat.sub_self,hd,fW,h,pH];simp
theorem acF(ls:List bB)(n:Nat):(kQ ls n).length=ls.length:=by
 unfold kQ;rw[dm,fL,gy,List.length_drop];omega
theorem acG(ls:List bB):∀s∈kQ ls ls.length,s.act=false:=by
 intro s hs;unfold kQ at hs;rw[l4,List.drop_length,qd,lX]at hs;obtain⟨x,-,rfl⟩:=hs;rfl
theorem bT.idle(h:bT H w0 w c kb bc bd rb bt lv bs K)(ls:List bB)(hl:ls.length=c.aw.length)(h1:∀s∈K.ls,s.act=false)(h2:∀s∈ls,s.act=false):bT H w0 w c kb bc bd rb bt lv bs { K with ls:=ls }:=
 ⟨h.eJ,h.row,h.hk,h.own,h.hl,h.ring,h.kE,h.hd,h.lI,h.ht,λi b e s hb he hs=>by
  obtain⟨s0,hs0⟩:∃s0,K.ls[i]?=J s0:=⟨_,bH (by rw[h.gX];exact(dT.1 he).1)⟩;exact(h.loc i b e s0 hb he hs0).idle (h1 s0 (cM hs0)) (h2 s (cM hs)),h.eB,hl,h.br⟩
def Ju(H:Nat->Nat->Prop)(w0 w:ai)(c:aS)(kb bc bd:Nat)(lv:ar)(bs:List Nat)(K:aH)(w':ai):Prop:=
 ∃H' rb bt,bT H' w0 w' c kb bc bd rb bt lv bs K/\(∀i k,H' i k->gr (λk=>∃i,H i k) w w' k)/\bh (λk=>∃i,H i k) w w'
theorem Qi(h:mO H w0 w c kb bc bd rv tv lv bs s d ls)(hs:fA A w0)(hr:gi c)(hlen:ls.length=c.aw.length)(pN:153<=s.size)(jr:s.off=false):Calls prog 66 #[.pointer (J ⟨kb,0,I⟩)] w λe w'=>e=.returned .nilIface/\Ju H w0 w c kb bc bd lv bs (aH.opened c ⟨s,d,[],false,[],cD.new 0⟩) w':=by
 obtain⟨la,lc,rfl⟩:=mD h.own;have hbl:bs.length=c.aw.length:=by rw[h.eB,hlen]
 rw[hbl]at h⊢;have c2:w.cell? _=J (.pointer _):=h.cell 2 _ rfl;obtain⟨de,qp⟩:∃de:Nat,c.bC=(de:Int):=⟨c.bC.toNat,by have:=hr.de;omega⟩;have Qj:de<=20:=by have:=hr.de;omega
 have c3:w.cell? ⟨kb,3,I⟩=J (.int .i64 (de:Int)):=by rw[<- qp];exact h.cell 3 _ rfl
 have HX:aa _:=aa0 (A:=A) (D:=w0.heap.size) h.cells (hs.below h.br).four pN jr h.br.size;have HH:aa _:=h;have jw:aa _:=hs;have HN:aa (ls.length=c.aw.length/\c.aw.length<=8/\c.bC.toNat=de):=⟨hlen,hr.nn,by omega⟩;have HT:aa _:=λV=>aa1 de V Qj
 clear h hs hr hlen pN jr qp Qj;go_enter func66,ntmps66
 go_wp2_with fail
 refine aL HX.o ?_;rintro u w1 ⟨rb,rfl,hr1,hb1⟩;have e3:=aG hb1 c3;have nD:aa _:=hr1;have aO:aa _:=hb1;clear hr1 hb1 HX c2 c3;go_wp2_with fail
 refine aL (HT.o w1) ?_;rintro u w2 ⟨bt,rfl,Jv⟩;have CK:aa _:=Jv;have CM:=aO.o.trans (Jv.br.mono aO.o.size);have h2:=HH.o.below CM;have e4:w2.cell? _=J rv:=h2.cell 4 _ rfl;have e6:w2.cell? _=J tv:=h2.cell 6 _ rfl;have q4:∀j,w2.frozen? ⟨kb,j,I⟩=false:=λj=>by simp[World.frozen?,h2.row]
 have Qg:(w2.setCell ⟨kb,4,I⟩ (.pointer (J ⟨rb,0,I⟩))).cell? ⟨kb,6,I⟩=J tv:=by
  have:=BX (j:=4) h2.row (.pointer (J ⟨rb,0,I⟩));simp[World.cell?,this,wm]
 have acH:(w2.setCell ⟨kb,4,I⟩ (.pointer (J ⟨rb,0,I⟩))).frozen? ⟨kb,6,I⟩=false:=by
  have:=BX (j:=4) h2.row (.pointer (J ⟨rb,0,I⟩));simp[World.frozen?,this]
 clear Jv CM h2 e3 HT;go_upto_region 8 with fail
 obtain⟨W3,hW3⟩:∃X,X=(w2.setCell ⟨kb,4,I⟩ (.pointer (J ⟨rb,0,I⟩))).setCell ⟨kb,6,I⟩ (.pointer (J ⟨bt,0,I⟩)):=⟨_,rfl⟩;obtain⟨hk3,mM,hz3⟩:=HH.o.laid HN.o.1 aO.o nD.o CK.o hW3;rw[<- hW3];clear hW3 e4 e6 q4 Qg acH;have c5:W3.cell? _=J (.slice la _ lc):=hk3.cell 5 _ rfl;have qA:aa (fV _ w0 W3 c kb bc bd rb bt _ bs ⟨s,d,_,_,kQ ls 0,_⟩ W3):=fV.same hk3;have gY:aa _:=mM;have HZ:aa (dV _ 4 w1 w2 0 kb/\(∀i k,dV (dV H 2 w w1) 4 w1 w2 i k->H i k\/(w.heap.size<=k/\k<W3.heap.size))/\H 0 kb):=⟨hk3.hk,λi k hk=>by
  have a1:=CK.o.br.size;have a2:=aO.o.size
  rcases hk with(hk|⟨_,x,y⟩)|⟨_,x,y⟩
  ·exact a_ hk
  ·exact aP ⟨x,by omega⟩
  exact aP ⟨by omega,by omega⟩,HH.o.hk⟩
 have Qk:aa (aH.opened c ⟨s,d,[],false,[],cD.new 0⟩=⟨s,d,kK (s.bytes.take s.size),false,c.aw.map λ_=>bB.new,cD.new de⟩):=by show _=_;unfold aH.opened;rw[HN.o.2.2]
 clear hk3 mM hz3 nD aO CK HH;generalize dV (dV H 2 w w1) 4 w1 w2=H3 at qA HZ;generalize kK (s.bytes.take s.size)=OL at qA Qk
 go_cut [41,42,43] (λl n i wx=>l=.slice la c.aw.length lc/\n=.int .i64 (c.aw.length:Int)/\i=.int .i64 0/\wx=W3)
 case first=>
  go_wp2_with fail
  go_meet
  case rel=>exact⟨rfl,rfl,rfl,rfl⟩
 obtain⟨rfl,rfl,rfl,rfl⟩:=hcut;rename ai=>W3
 clear c5;go_wp2_with fail
 go_loopw [7,43] (λ_ i wr=>∃n:Nat,n<=c.aw.length/\i=.int .i64 n/\fV H3 w0 W3 c kb bc bd rb bt (.slice la c.aw.length lc) bs ⟨s,d,OL,false,kQ ls n,cD.new de⟩ wr) (λ_ i _=>c.aw.length-(intOf i).toNat)
 case atStart=>exact⟨0,bI _,rfl,qA.o⟩
 case round=>
  clear qA;obtain⟨n,yY,rfl,mg⟩:=hrel
  by_cases hlt:n<c.aw.length
  ·obtain⟨H4,k4,g4,o4⟩:=mg;obtain⟨sn,ja⟩:∃x,ls[n]?=J x:=⟨_,bH (by rw[HN.o.1];exact hlt)⟩;obtain⟨hs1,hs2⟩:=acE ja;obtain⟨b,e,g,cap,hb,he,hlv,cp,h4⟩:=k4.zT (K:=⟨s,d,OL,_,_,_⟩) hs1;rw[show (kQ ls n).length=c.aw.length by rw[acF,HN.o.1]]at hlv;simp only[tU,true_and]at hlv;obtain⟨rfl,rfl⟩:=hlv;have HX:aa _:=Pq (A:=A) h4 ((k4.o7 jw.o).c8);have Fb:aa (∀w5,dY (gr (H4 (5+n)) wr w5) w5 b e sn.stop->bh (H4 (5+n)) wr w5->fV H3 w0 W3 c kb bc bd rb bt (.slice (J ⟨g,0,I⟩) c.aw.length lc) bs ⟨s,d,OL,false,kQ ls (n+1),cD.new de⟩ w5):=λw5 Fc xV=>by
    have:=fV.one xV (k4.Cp xV hb he Fc);rw[show aH.fN _ n _=⟨s,d,OL,false,kQ ls _,cD.new de⟩ by unfold aH.fN;rw[<- hs2]]at this;exact fV.trans g4 o4 this
   have k1:(n:Int)<(c.aw.length:Int):=by omega
   have k2:=HN.o.2.1;clear k4 g4 o4 hs1 hs2 ja hb he h4;go_wp2_with fail
   refine aL HX.o ?_;rintro u w5 ⟨rfl,Fc,xV⟩;have acI:aa _:=Fb.o w5 Fc xV;clear Fc xV Fb HX;go_wp2_with fail
   go_roundw
   case rel=>exact⟨_,by omega,by go_num,acI.o⟩
   case measure=>simp[intOf];omega
  obtain rfl:n=c.aw.length:=by omega
  have k1:¬(c.aw.length:Int)<(c.aw.length:Int):=by omega
  have qA:aa _:=mg;clear mg;go_wp2;go_ret;obtain⟨H5,k5,g5,o5⟩:=qA.o;have hall:=acG ls;rw[HN.o.1]at hall;have k6:=k5.idle (c.aw.map λ_=>bB.new) (by rw[fL]) hall (λs hs=>by
   simp only[lX]at hs;obtain⟨_,_,rfl⟩:=hs;rfl)
  rw[Qk.o]
  refine⟨rfl,H5,rb,bt,k6,λi k hk=>?_,?_⟩
  ·rcases g5 i k hk with⟨j,hj⟩|⟨x,y⟩
   ·rcases HZ.o.2.1 j k hj with hj|⟨x,y⟩
    ·exact a_ ⟨j,hj⟩
    exact aP ⟨x,eh y o5.size⟩
   exact aP ⟨bw gY.o.size x,y⟩
  refine(gY.o.mono (λk _ e=>⟨0,by rw[e];exact HZ.o.2.2⟩)).trans o5 (λk hk ⟨j,hj⟩=>?_)
  rcases HZ.o.2.1 j k hj with hj|⟨x,_⟩
  ·exact⟨j,hj⟩
  omega
theorem Ju.post{IY:Nat}(h:Ju H w0 w c kb bc IY lv bs K w')(hF:∀i k,H i k->F k):di F w0 w c kb bc K w':=by
 obtain⟨H2,rb,bt,h1,h2,h3⟩:=h;exact⟨⟨H2,_,_,_,_,_,h1,λi k hk=>(h2 i k hk).imp (λ⟨j,hj⟩=>hF j k hj) id⟩,h3.mono (λk _ ⟨j,hj⟩=>hF j k hj)⟩
theorem acJ(c:aS)(s:aM)(d d':cS)(L:List Rec)(sp:Bool)(ls:List bB)(t:cD):aH.opened c ⟨s,d',L,sp,ls,t⟩={ aH.opened c ⟨s,d,[],false,[],cD.new 0⟩with d:=d' }:=by
 unfold aH.opened;generalize kK (s.bytes.take s.size)=X;rfl
theorem acK(h:eV F w0 w c kb bc K)(hs:fA A w0)(hr:gi c)(hf:bQ c K k W):Calls prog 34 #[aj (J ⟨kb,0,I⟩)] w λe w'=>e=ax (errVal A (K.j4 c).2)/\di F w0 w c kb bc (K.j4 c).1 w':=by
 have HS:aa (di F w0 w c kb bc K w):=di.same h;obtain⟨H,bd,rb,bt,lv,bs,h1,hF⟩:=h;have HC:aa _:=Ja h1;have g9:=(h1.o7 hs).c9
 by_cases ho:K.on=0
 ·have HB:aa (K.j4 c=(K,10)):=by show _=_;unfold aH.j4;rw[aR ho]
  rw[ho,show oQ 0=⟨_⟩from rfl]at HC;clear h1 hF hf hr ho hs;go_enter func34,ntmps34
  go_wp2_with fail
  refine aL HC.o ?_;rintro e w' ⟨rfl,rfl⟩;go_wp2;go_ret;rw[HB.o];exact⟨rfl,HS.o⟩
 have HB:aa (K.j4 c=(aH.opened c { K with c:={ K.c with off:=false,cut:=false,left:=0 },d:=K.d.start },0)):=by show _=_;unfold aH.j4;rw[aK ho]
 have c2:w.cell? _=J (aj _):=h1.cell 2 _ rfl;have Ql:aa _:=aaZ h1.ring;have H1:aa _:=h1;have HF:aa _:=hF;have acL:aa _:=hf.big.size;have HR:aa _:=hr;have jw:aa _:=hs;clear h1 hF hf hr HS hs
 rcases K.N1 with he|he|he
 ·exact absurd he ho
 all_goals
  rw[he]at HC
  first|rw[show oQ 8=⟨_⟩from rfl]at HC|rw[show oQ 11=⟨_⟩from rfl]at HC
  clear he ho;go_enter func34,ntmps34
  go_wp2_with fail
  refine aL HC.o ?_;rintro e w' ⟨rfl,rfl⟩;go_wp2_with fail
  refine aL Ql.o ?_;rintro e w2 ⟨rfl,hr2,Jw⟩;have k2:=H1.o.toRing Jw hr2;have HX:aa _:=Qi (A:=A) k2.ER jw.o HR.o k2.gX acL.o rfl;have xX:aa (di F w0 w' c kb bc _ w2):=bT.post HF.o Jw k2;have HU:aa (∀i k,dV H 2 w' w2 i k->gr F w' w2 k):=B9 HF.o 2;clear k2 hr2 Jw Ql HC c2;go_wp2_with fail
  refine aL HX.o ?_;rintro u w4 ⟨rfl,CN⟩;have acM:aa (di F w0 w' c kb bc _ w4):=xX.o.trans (CN.post HU.o);obtain⟨H4,ai',aja,k4,g4,o4⟩:=CN;have c0:w4.cell? _=J (aj _):=k4.cell 0 _ rfl;have o0:aa _:=YB bd _ w4 k4.kE;have acN:aa (∀i k,H4 i k->gr F w' w4 k):=λi k hk=>by
   rcases g4 i k hk with⟨j,hj⟩|⟨x,y⟩
   ·exact(HU.o j k hj).imp id (λ⟨x,y⟩=>⟨x,eh y o4.size⟩)
   exact aP ⟨bw xX.o.2.size x,y⟩
  have Ab:aa _:=k4;clear k4 g4 o4 HX;go_wp2_with fail
  refine aL o0.o ?_;rintro u w5 ⟨rfl,Fe,oL⟩;go_wp2;go_ret;rw[HB.o]
  refine⟨rfl,?_⟩;have Fa:bh (H4 3) w4 w5:=(bh.iO oL).mono (λk _ e=>by rw[e];exact Ab.o.hd);have k5:=Ab.o.IX Fa Fe;have p5:=bT.post acN.o Fa k5;have p6:=acM.o.trans p5;rw[acJ c { K.c with off:=false,cut:=false,left:=0 } K.d _ K.L _ _ K.t];exact p6
end
section
variable {A:Nat->az}{F F':Nat->Prop}{w0 w w':ai}{c:aS}{kb bc:Nat}{K:aH}{k:Nat}
theorem eV.trim(h:eV F w0 w c kb bc K):eV (λk=>F k/\k<w.heap.size) w0 w c kb bc K:=by
 obtain⟨H,bd,rb,bt,lv,bs,h1,h2⟩:=h;exact⟨H,bd,rb,bt,lv,bs,h1,λi k hk=>⟨h2 i k hk,h1.eJ.lt i k hk⟩⟩
theorem di.mono(h:di F w0 w c kb bc K w')(hF:∀k,F k->F' k):di F' w0 w c kb bc K w':=by
 obtain⟨⟨H,bd,rb,bt,lv,bs,h1,h2⟩,h3⟩:=h;exact⟨⟨H,bd,rb,bt,lv,bs,h1,λi k hk=>(h2 i k hk).imp (hF k) id⟩,h3.mono (λk _ e=>hF k e)⟩
end
theorem Ac(A:Nat->az)(j:Nat)(w:ai):Calls prog 23 #[errVal A j] w λe w'=>e=ax (bn #[aq ⟨(rj j).toArray⟩,errVal A j])/\w'=w:=by
 cases j with
 |zero=>
  show Calls _ 23 #[.nilIface] w λe w'=>e=ax (bn #[aq ⟨#[111,107]⟩,.nilIface])/\w'=w
  go_enter func23,ntmps23
  go_wp2;go_ret2
  exact⟨rfl,rfl⟩
 |succ i=>
  show Calls _ 23 #[.iface 352 _] w λe w'=>e=ax (bn #[aq ⟨#[]⟩,.iface 352 _])/\w'=w
  go_enter func23,ntmps23
  go_wp2;go_ret2
  exact⟨rfl,rfl⟩
section
variable {A:Nat->az}{F F':Nat->Prop}{w0 w w':ai}{c:aS}{kb bc:Nat}{K:aH}{k:Nat}
theorem acO(N:Nat)(sv:ar)(h:eV F w0 w c kb bc K)(hs:fA A w0)(hr:gi c)(hf:bQ c K k (144*K.d.now))(hn:k+K.d.now+1+N<=900000):Calls prog 30 #[.agg (fH c kb bc sv),U R (N:Int)] w λe w'=>e=ax (errVal A (K.fO c N).2)/\di F w0 w c kb bc (K.fO c N).1 w':=by
 obtain⟨W,hW,Jx,-⟩:=E0 w c kb bc sv;have cY:aa (∀V,bh (λk=>F k/\k<w.heap.size) W V->V.cell? ⟨w.heap.size,0,I⟩=J (aj (J ⟨kb,0,I⟩))):=λV hV=>by
  have h1:W.heap[w.heap.size]?=J (au (fH c kb bc sv) 45 (0,0)):=by rw[hW];exact cR _ _
  have h2:=(hV.block _ (bJ h1) (λe=>Nat.lt_irrefl _ e.2)).trans h1;simp[World.cell?,h2,fH]
 have HR:aa _:=hr;have jw:aa _:=hs;have HP:aa (di _ w0 W c kb bc K W):=di.same (h.trim.below Jx);have HB:aa _:=hn;have HF:aa _:=hf;have ajb:N<=900000:=by omega
 have qA:aa (∀K' V,di (λk=>F k/\k<w.heap.size) w0 W c kb bc K' V->di F w0 w c kb bc K' V):=λK' V hp=>(hp.from Jx).mono (λk hk=>hk.1)
 clear h hr hf hn hs Jx;unfold fH at hW⊢;go_enter func30,ntmps30
 go_upto_region 1 with fail
 rw[<- hW];clear hW;go_wp2_with fail
 go_loopw [5,7] (λ_ i wr=>∃(j:Nat) (Kj:aH),j<=N/\i=U R j/\aa (K.fO c N=Kj.fO c (N-j))/\aa (bQ c Kj k (144*Kj.d.now))/\aa (Kj.d.now<=K.d.now+j)/\aa (di (λk=>F k/\k<w.heap.size) w0 W c kb bc Kj wr)) (λ_ i _=>N-(intOf i).toNat)
 case atStart=>exact⟨0,K,bI _,rfl,rfl,HF.o,aQ _,HP.o⟩
 case round=>
  clear HP HF;obtain⟨j,Kj,hj,rfl,HE,Qm,xY,Ff⟩:=hrel
  by_cases hlt:j<N
  ·have k1:(j:Int)<(N:Int):=by omega
   have iy:aa (K.fO c N=if (Kj.tick c).2=0 then (Kj.tick c).1.fO c (N-(j+1))else Kj.tick c):=by
    show _=_
    rw[HE.o,show N-j=(N-(j+1))+1 by omega];rfl
   have HX:aa _:=acC Ff.o.1 jw.o HR.o Qm.o (by have:=HB.o;have:=xY.o;omega);have Qn:aa (bQ c _ k _/\(Kj.tick c).1.d.now<=K.d.now+(j+1)):=⟨Qm.o.tick HR.o (by have:=HB.o;have:=xY.o;omega),by have:=Ev c Kj;have:=xY.o;omega⟩;have x0:=cY.o wr Ff.o.2;go_wp2_with fail
   refine aL HX.o ?_;rintro u w3 ⟨rfl,hp⟩;have CO:aa _:=Ff.o.trans hp;clear hp HX x0
   by_cases hc0:(Kj.tick c).2=0
   ·rw[hc0,show errVal A 0=.nilIface from rfl];go_wp2_with fail
    go_roundw
    case rel=>exact⟨_,_,by omega,by go_num,by show _=_;rw[iy.o,aR hc0],Qn.o.1,Qn.o.2,CO.o⟩
    case measure=>simp[intOf];omega
   obtain⟨q,hq⟩:=xR (A:=A) hc0;have HQ:aa _:=hq;rw[hq];clear hq;go_wp2;go_ret;rw[iy.o,aK hc0,HQ.o];exact⟨rfl,qA.o _ _ CO.o⟩
  have k1:¬(j:Int)<(N:Int):=by omega
  have iy:aa (K.fO c N=(Kj,0)):=by
   show _=_
   rw[HE.o,show N-j=0 by omega];rfl
  go_wp2;go_ret;rw[iy.o];exact⟨rfl,qA.o _ _ Ff.o⟩
end
def kF(bs:List Bs):Nat->Bs
 |0=>[]
 |k+1=>kF bs k++((if k=0 then []else [32])++bs.getD k [])
theorem Qo(h:Bs)(t:List Bs):∀k,k<=t.length->kF (h::t) (k+1)=kX 32 h (t.take k)
 |0,_=>by simp[kF,kX]
 |k+1,hk=>by
  rw[kF,Qo h t k (by omega),aK (by omega)];have hlt:k<t.length:=by omega
  have ht:t.take (k+1)=t.take k++[t[k]]:=by rw[fW,bH hlt];rfl
  have hg:(h::t).getD (k+1) []=t[k]:=by simp[bH hlt]
  rw[ht,hg];unfold kX;rw[dP,iV];simp
theorem acP(h:Bs)(t:List Bs):kF (h::t) (h::t).length=kX 32 h t:=by
 have:=Qo h t _ (aQ _);simpa using this
theorem acQ(bs:List Bs):∀(k j:Nat),k<=j->(kF bs k).length<=(kF bs j).length:=by
 intro k j hkj
 induction j with
 |zero=>
  have:k=0:=by omega
  rw[this];exact aQ _
 |succ j ih=>
  by_cases h:k=j+1
  ·subst h;exact aQ _
  have:=ih (by omega);rw[kF,dm];omega
def nI(B pb:Nat)(pv:ar)(w:ai)(x:ar×Bs):Prop:=
 ∀W l,cq B pb w W->cF B pb pv l W->l.length<=800000000->Calls prog 232 #[aj (J ⟨pb,0,I⟩),x.1] W λe W'=>e=ax (bn #[])/\cF B pb pv (l++x.2) W'/\cq B pb W W'
theorem acR(B pb:Nat)(pv:ar)(l:List UInt8)(vb:Nat)(ws:List (ar×Bs))(w:ai)(h:cF B pb pv l w)(hv:w.heap[vb]?=J (au (ws.map (·.1)).toArray 20 (0,0)))(hne:vb≠pb)(hw:∀x∈ws,nI B pb pv w x)(hn:ws.length<=100)(hl:l.length+(kF (ws.map (·.2)) ws.length).length<=700000000):Calls prog 171 #[aj (J ⟨pb,0,I⟩),af (J ⟨vb,0,I⟩) ws.length ws.length] w λe w'=>e=ax (bn #[])/\cF B pb pv (l++(kF (ws.map (·.2)) ws.length++[10])) w'/\cq B pb w w':=by
 have H:aa (cF B pb pv l w):=h;have HV:aa (∀W,cq B pb w W->∀(i:Nat) x,ws[i]?=J x->W.cell? ⟨vb,i,I⟩=J x.1):=λW hW i x hx=>by
  have hb:=hW.box hv hne (by decide);simp[World.cell?,hb,hx]
 have HW:aa _:=hw;have HN:aa _:=hn;have HL:aa _:=hl;have HP:aa (∀W,cF B pb pv l W->True):=λ_ _=>trivial
 clear h hv hw hn hl hne HP;go_enter func171,ntmps171
 go_wp2_with fail
 go_loopw [4,5,8] (λ_ _ i wr=>∃k:Nat,k<=ws.length/\i=U R k/\cF B pb pv (l++kF (ws.map (·.2)) k) wr/\cq B pb w wr) (λ_ _ i _=>ws.length-(intOf i).toNat)
 case atStart=>exact⟨0,bI _,rfl,by simpa[kF]using H.o,cq.refl _ _ _⟩
 case round=>
  obtain⟨k,hk,rfl,wG,eT⟩:=hrel;have xZ:aa (cF B pb pv _ wr):=wG;have uA:aa _:=eT;have hle:(l++kF (ws.map (·.2)) k).length<=700000000:=by
   have h1:=HL.o;have h2:=acQ (ws.map (·.2)) k _ hk;rw[dm];omega
  have Ad:aa _:=hle;clear wG eT hle
  by_cases hlt:k<ws.length
  ·obtain⟨x,hx⟩:∃x,ws[k]?=J x:=⟨_,bH hlt⟩;have c0:=HV.o wr uA.o k x hx;have HX:aa (kF (ws.map (·.2)) (k+1)=kF (ws.map (·.2)) k++((if k=0 then []else [32])++x.2)):=by
    show _=_
    rw[kF,fQ,gR,hx];rfl
   have HO:=HW.o x (cM hx);have iq:aa (nI B pb pv w x):=HO;have k0:k<100:=by have:=HN.o;omega
   have k1:(k:Int)<(ws.length:Int):=by omega
   clear hx HO
   by_cases eY:k=0
   ·subst eY;have hwc:aa _:=iq.o wr _ uA.o xZ.o (by have:=Ad.o;omega);go_wp2_with fail
    refine aL hwc.o ?_;rintro e W' ⟨rfl,h1,h2⟩;have H1:aa (cF B pb pv (l++kF _ _) W'/\cq B pb w W'):=⟨by rw[HX.o];simpa[kF]using h1,uA.o.trans h2⟩;clear h1 h2 hwc;go_wp2;go_roundw
    case rel=>exact⟨1,by omega,by go_num,H1.o.1,H1.o.2⟩
    case measure=>simp[intOf];omega
   have kp:(0:Int)<(k:Int):=by omega
   have oK:aa _:=Mm B pb pv _ 32 wr xZ.o (by have:=Ad.o;omega);have HC:aa _:=λW h1 h2=>iq.o W (l++kF (ws.map (·.2)) k++[32]) (uA.o.trans h2) h1 (by have:=Ad.o;rw[dm];simp only[kr,qo];omega)
   have rz:aa (¬k=0):=eY;have ajc:aa (((32:UInt8).toNat:Int)=32):=rfl;clear eY;go_wp2_with fail
   refine aL oK.o ?_;rintro e W1 ⟨rfl,h1,h2⟩;have H1:aa (cF B pb pv _ W1/\cq B pb wr W1):=⟨h1,h2⟩;clear h1 h2 oK;go_wp2_with fail
   refine aL (HC.o _ H1.o.1 H1.o.2) ?_;rintro e W2 ⟨rfl,h1,h2⟩;have H2:aa (cF B pb pv (l++kF _ _) W2/\cq B pb w W2):=⟨by rw[HX.o,aK rz.o];simpa using h1,(uA.o.trans H1.o.2).trans h2⟩;clear h1 h2 HC H1;go_wp2;go_roundw
   case rel=>exact⟨_,by omega,by go_num,H2.o.1,H2.o.2⟩
   case measure=>simp[intOf];omega
  have k1:¬(k:Int)<(ws.length:Int):=by omega
  obtain rfl:k=ws.length:=by omega
  have oK:aa _:=Mm B pb pv _ 10 wr xZ.o (by have:=Ad.o;omega);go_wp2_with fail
  refine aL oK.o ?_;rintro e W1 ⟨rfl,h1,h2⟩;have H1:aa (cF B pb pv (l++(kF _ _++[10])) W1/\cq B pb w W1):=⟨by rw[<- iV];exact h1,uA.o.trans h2⟩;clear h1 h2 oK;go_wp2;go_end0
  exact⟨rfl,H1.o.1,H1.o.2⟩
theorem acS{B pb:Nat}{pv:ar}{w:ai}(k:Nat)(hk:k<10)(hK:jF w)(hG:(max 12 13+1)<=B):nI B pb pv w (.iface 148 (U R (k:Int)),kw k):=
 λW l eT hp hle=>Vt B pb pv l k W hp (by omega) hk (hK.below eT.br (eh (show 12<(max 12 13+1) by decide) hG)) hG
theorem CP{B pb:Nat}{pv:ar}{w:ai}(n:Int)(h0:0<=n)(h1:n<=1099511627776)(hT:iK w)(hG:(max 12 13+1)<=B):nI B pb pv w (.iface 3 (U R n),num n):=
 λW l eT hp hle=>Vv B pb pv l n W hp (by omega) h0 h1 (hT.below eT.br hG) hG
theorem Qp{B pb:Nat}{pv:ar}{w:ai}(s:ByteArray)(hs:s.size<=1000000):nI B pb pv w (.iface 9 (aq s),bl s):=
 λW l _ hp hle=>Vs B pb pv l s W hp (by omega)
theorem acT{B pb:Nat}{pa:Option az}{pc:Nat}{ak:List ByteArray}{w:ai}(x:Int)(hB:∀W,Below B w W->bN bS 1 W (af pa ak.length pc) ak)(h0:0<=x)(h1:x<(ak.length:Int))(hs:∀p∈ak,p.size<=1000000):nI B pb (af pa ak.length pc) w (.iface 307 (U R x),pt ak x):=
 λW l eT hp hle=>Vw B pb pa pc ak l x W hp (by omega) (λV hV=>hB V (eT.br.trans hV)) h0 h1 hs
theorem Fg(B pb:Nat)(pv:ar)(l:List UInt8)(vb k:Nat)(ws:List (ar×Bs))(w:ai)(h:cF B pb pv l w)(hv:w.heap[vb]?=J (au (.iface 148 (U R (k:Int))::ws.map (·.1)).toArray 20 (0,0)))(hne:vb≠pb)(hk:k<10)(hK:jF w)(hG:(max 12 13+1)<=B)(hw:∀x∈ws,nI B pb pv w x)(hn:ws.length<=20)(hl:l.length+(bu k (ws.map (·.2))).length<=700000000):Calls prog 171 #[aj (J ⟨pb,0,I⟩),af (J ⟨vb,0,I⟩) (ws.length+1) (ws.length+1)] w λe w'=>e=ax (bn #[])/\cF B pb pv (l++(bu k (ws.map (·.2))++[10])) w'/\cq B pb w w':=by
 have e:kF (((.iface 148 (U R (k:Int)),kw k)::ws).map (·.2)) ((.iface 148 (U R (k:Int)),kw k)::ws).length=bu k (ws.map (·.2)):=by
  have:=acP (kw k) (ws.map (·.2));rw[Lv,<- this];simp
 have:=acR B pb pv l vb ((.iface 148 _,kw k)::ws) w h hv hne (λx hx=>by
  rcases fg.1 hx with rfl|hx
  ·exact acS k hk hK hG
  exact hw x hx) (by simp;omega) (by rw[e];exact hl)
 rw[e]at this;exact this
theorem nJ(n:Int)(h1:n<=1099511627776):(num n).length<=13:=by
 obtain⟨-,-,-,-,hh⟩:=AW n.toNat;exact hh 12 (by omega)
theorem Ae(V:ai)(c:Array ar)(t:TypeId):(V.alloc (au c t)).heap[V.heap.size]?=J (au c t (0,0)):=by
 show (V.heap.push _)[V.heap.size]?=_
 simp
theorem Below.uB(w:ai)(o:Obj):Below w.heap.size w (w.alloc o):=(aC _ _).alloc (aQ _) _
def Jy(B:Nat)(pb:Nat)(w0 w:ai)(e:aF):Prop:=∀(W:ai) (l:List UInt8) (pv:ar) (pa ga ea fa la:Option az) (pc gc ec fc lc:Nat),cq B pb w W->cF B pb pv l W->l.length<=500000000 ->
 mB w0 e (af pa e.ak.length pc) (af ga e.aB.length gc) (af ea e.aA.length ec) (af fa e.first.length fc) (af la e.last.length lc) ->
 Calls prog 172 #[aj (J ⟨pb,0,I⟩),.agg (r9 e (af pa e.ak.length pc) (af ga e.aB.length gc) (af ea e.aA.length ec) (af fa e.first.length fc) (af la e.last.length lc))] W λv W'=>v=ax (bn #[])/\(∃jS,cF B pb jS (l++(fh e).flatMap (λx=>x++[10])) W')/\cq B pb W W'
theorem acU(B pb:Nat)(pv:ar)(c:aS)(sa:Option az)(sc:Nat)(w0 w:ai)(hb0:Below w0.heap.size w0 w)(hw0:w0.heap.size<=B)(h:cF B pb pv [] w)(hK:jF w)(hT:iK w)(hG:(max 12 13+1)<=B)(h1:0<=c.closed/\c.closed<=1099511627776)(h2:0<=c.opn/\c.opn<=1099511627776)(h3:0<=c.cycle/\c.cycle<=1099511627776)(h4:0<=c.bC/\c.bC<=1099511627776)
  (hE:jR w0 (af sa c.aw.length sc) c.aw) (hO:∀e∈c.aw,Jy B pb w0 w e) (hn:c.aw.length<=1000000) (hl:((c.aw.flatMap fh).flatMap (λx=>x++[10])).length<=400000000):Calls prog 120 #[aj (J ⟨pb,0,I⟩),aU #[U R c.closed,U R c.opn,U R c.cycle,U R c.bC,af sa c.aw.length sc]] w λe w'=>e=ax (bn #[])/\(∃jS,cF B pb jS (jn c) w')/\cq B pb w w':=by
 have Qq:=h.lt;have HK:aa (jF w):=hK;have HT:aa (iK w):=hT;have HG:aa _:=hG;have bK:aa _:=h.2.1;have Jz:aa _:=Qq;have HN:aa ((0<=c.closed/\c.closed<=1099511627776)/\(0<=c.opn/\c.opn<=1099511627776)/\(0<=c.cycle/\c.cycle<=1099511627776)/\(0<=c.bC/\c.bC<=1099511627776)):=⟨h1,h2,h3,h4⟩;have HE:aa (jR w0 _ _):=hE;have HO:aa _:=hO;have dX:aa (∀W,cq B pb w W->Below _ w0 W):=λW hW=>hb0.trans (hW.br.mono hw0)
 have HM:aa _:=hn;have HL:aa _:=hl;have H0:aa (cF B pb pv [] (w.alloc (au #[U R c.closed,U R c.opn,U R c.cycle,U R c.bC,af sa c.aw.length sc] 30))):=h.below (Below.uB _ _);have jf:aa (cq B pb w (w.alloc (au #[U R c.closed,U R c.opn,U R c.cycle,U R c.bC,af sa c.aw.length sc] 30))):=(cq.refl B pb w).alloc h.2.1 _;have jH:aa (∀W,cq B pb (w.alloc (au #[U R c.closed,U R c.opn,U R c.cycle,U R c.bC,af sa c.aw.length sc] 30)) W->∀j v,(#[U R c.closed,U R c.opn,U R c.cycle,U R c.bC,af sa c.aw.length sc]:Array _)[j]?=J v->W.cell? ⟨w.heap.size,j,I⟩=J v):=λW hW j v e=>by
  have hb:=hW.box (Ae w _ _) (by omega) (by decide);simp[World.cell?,hb,e]
 clear h Qq hK hT hG h1 h2 h3 h4 hE hO hn hl hb0 hw0;go_enter func120,ntmps120
 go_upto_region 1 with fail
 obtain⟨W0,hW0⟩:∃W0,W0=w.alloc (au #[U R c.closed,U R c.opn,U R c.cycle,U R c.bC,af sa c.aw.length sc] 30):=⟨_,rfl⟩;rw[<- hW0]at H0 jf jH⊢;clear hW0;have x_:aa (cF B pb pv [] W0):=H0.o;have rf:aa (cq B pb W0 W0):=cq.refl _ _ _;have p0:W0.cell? _=J (U R _):=jH.o W0 rf.o 0 _ rfl;have p1:W0.cell? _=J (U R _):=jH.o W0 rf.o 1 _ rfl;have ft:aa (Calls _ 171 #[aj _,af _ 3 3] _ λe w'=>e=ax _/\cF B pb pv ([]++(bu 0 [num _,num _]++[10])) w'/\cq B pb (W0.alloc (au #[.iface 148 (U R 0),.iface 3 _,.iface 3 _] 20)) w'):=
  Fg B pb pv _ _ 0 [(.iface 3 (U R c.closed),num c.closed),(.iface 3 (U R c.opn),num c.opn)] _ (x_.o.below (Below.uB _ _)) (Ae _ _ _) (by have:=jf.o.br.size;have:=Jz.o;omega) (by decide) (HK.o.below (jf.o.br.alloc (bw bK.o jf.o.br.size) _) (eh (show 12<(max 12 13+1) by decide) HG.o)) HG.o
  (λx hx=>by
  simp only[fg,jB,jU]at hx
  rcases hx with rfl|rfl
  ·exact CP _ (HN.o.1).1 (HN.o.1).2 (HT.o.below (jf.o.br.alloc (bw bK.o jf.o.br.size) _) HG.o) HG.o
  exact CP _ (HN.o.2.1).1 (HN.o.2.1).2 (HT.o.below (jf.o.br.alloc (bw bK.o jf.o.br.size) _) HG.o) HG.o) (by simp) (by simp[bu,kw];have:=nJ _ HN.o.1.2;have:=nJ _ HN.o.2.1.2;have:=nJ _ HN.o.2.2.1.2;have:=nJ _ HN.o.2.2.2.2;omega)
 go_wp2_with fail
 refine aL ft.o ?_;rintro e W1 ⟨rfl,hp,hf⟩;have Qr:aa (cF B pb pv _ W1):=hp;have qu:aa _:=(jf.o.alloc (bw bK.o jf.o.br.size) _).trans hf;have pL:aa _:=(rf.o.alloc (bw bK.o jf.o.br.size) _).trans hf;clear hp hf ft;clear p0 p1;have p2:W1.cell? _=J (U R _):=jH.o W1 pL.o 2 _ rfl;have dp:aa (Calls _ 171 #[aj _,af _ 2 2] _ λe w'=>e=ax _/\cF B pb pv ([]++(bu 0 _++[10])++(bu 1 [num _]++[10])) w'/\cq B pb (W1.alloc (au #[.iface 148 (U R 1),.iface 3 _] 20)) w'):=
  Fg B pb pv _ _ 1 [(.iface 3 (U R c.cycle),num c.cycle)] _ (Qr.o.below (Below.uB _ _)) (Ae _ _ _) (by have:=qu.o.br.size;have:=Jz.o;omega) (by decide) (HK.o.below (qu.o.br.alloc (bw bK.o qu.o.br.size) _) (eh (show 12<(max 12 13+1) by decide) HG.o)) HG.o
  (λx hx=>by
  simp only[iF]at hx;subst hx;exact CP _ (HN.o.2.2.1).1 (HN.o.2.2.1).2 (HT.o.below (qu.o.br.alloc (bw bK.o qu.o.br.size) _) HG.o) HG.o) (by simp) (by simp[bu,kw];have:=nJ _ HN.o.1.2;have:=nJ _ HN.o.2.1.2;have:=nJ _ HN.o.2.2.1.2;have:=nJ _ HN.o.2.2.2.2;omega)
 go_wp2_with fail
 refine aL dp.o ?_;rintro e W2 ⟨rfl,hp,hf⟩;have xX:aa (cF B pb pv _ W2):=hp;have uC:aa _:=(qu.o.alloc (bw bK.o qu.o.br.size) _).trans hf;have Cm:aa _:=(pL.o.alloc (bw bK.o qu.o.br.size) _).trans hf;clear hp hf dp;clear p2;have p3:W2.cell? _=J (U R _):=jH.o W2 Cm.o 3 _ rfl;have r_:aa (Calls _ 171 #[aj _,af _ 2 2] _ λe w'=>e=ax _/\cF B pb pv ([]++(bu 0 _++[10])++(bu 1 _++[10])++(bu 2 [num _]++[10])) w'/\cq B pb (W2.alloc (au #[.iface 148 (U R 2),.iface 3 _] 20)) w'):=
  Fg B pb pv _ _ 2 [(.iface 3 (U R c.bC),num c.bC)] _ (xX.o.below (Below.uB _ _)) (Ae _ _ _) (by have:=uC.o.br.size;have:=Jz.o;omega) (by decide) (HK.o.below (uC.o.br.alloc (bw bK.o uC.o.br.size) _) (eh (show 12<(max 12 13+1) by decide) HG.o)) HG.o
  (λx hx=>by
  simp only[iF]at hx;subst hx;exact CP _ (HN.o.2.2.2).1 (HN.o.2.2.2).2 (HT.o.below (uC.o.br.alloc (bw bK.o uC.o.br.size) _) HG.o) HG.o) (by simp) (by simp[bu,kw];have:=nJ _ HN.o.1.2;have:=nJ _ HN.o.2.1.2;have:=nJ _ HN.o.2.2.1.2;have:=nJ _ HN.o.2.2.2.2;omega)
 go_wp2_with fail
 refine aL r_.o ?_;rintro e W3 ⟨rfl,hp,hf⟩;have CO:aa (cF B pb pv _ W3):=hp;have Qs:aa _:=(uC.o.alloc (bw bK.o uC.o.br.size) _).trans hf;have JA:aa _:=(Cm.o.alloc (bw bK.o uC.o.br.size) _).trans hf;clear hp hf r_;clear p3;have p4:W3.cell? _=J (af sa _ sc):=jH.o W3 JA.o 4 _ rfl;go_wp2_with fail
 clear p4;have z_:aa ([]++(bu 0 [num c.closed,num c.opn]++[10])++(bu 1 [num c.cycle]++[10])++(bu 2 [num c.bC]++[10])=(bu 0 [num c.closed,num c.opn]::bu 1 [num c.cycle]::bu 2 [num c.bC]::(c.aw.take 0).flatMap fh).flatMap (λx=>x++[10])):=by show _=_;simp
 have HH:aa ((bu 0 [num c.closed,num c.opn]).length<=100/\(bu 1 [num c.cycle]).length<=100/\(bu 2 [num c.bC]).length<=100):=by
  have a1:=nJ _ HN.o.1.2;have a2:=nJ _ HN.o.2.1.2;have a3:=nJ _ HN.o.2.2.1.2;have a4:=nJ _ HN.o.2.2.2.2
  refine⟨?_,?_,?_⟩<;>(simp[bu,kw];omega)
 go_loopw [5,33] (λ_ i wr=>∃k:Nat,k<=c.aw.length/\i=U R k/\(∃jS,cF B pb jS ((bu 0 [num c.closed,num c.opn]::bu 1 [num c.cycle]::bu 2 [num c.bC]::(c.aw.take k).flatMap fh).flatMap (λx=>x++[10])) wr)/\cq B pb w wr/\cq B pb W0 wr) (λ_ i _=>c.aw.length-(intOf i).toNat)
 case atStart=>exact⟨0,bI _,rfl,⟨pv,by rw[<- z_.o];exact CO.o⟩,Qs.o,JA.o⟩
 case round=>
  clear x_ Qr xX CO jf qu uC Qs rf pL Cm JA z_ H0;obtain⟨k,hk,rfl,⟨jS,wG⟩,eT,hg0⟩:=hrel
  by_cases hlt:k<c.aw.length
  ·obtain⟨e,hq⟩:∃e,c.aw[k]?=J e:=⟨_,bH hlt⟩;obtain⟨dI,cap',ck,hcc⟩:=HE.o
   cases ck
   obtain⟨b,o,rfl,hc0⟩:=hcc (λh=>by rw[h]at hq;simp at hq);obtain⟨ajd,gv,ev,fv,lv,lM,hcell⟩:=hc0 k e hq;obtain⟨pa,pc,rfl,-,-⟩:=id lM.hp;obtain⟨ga,gc,rfl,-,-⟩:=id lM.hg;obtain⟨ea,ec,rfl,-,-⟩:=id lM.he;obtain⟨fa,fc,rfl,-,-⟩:=id lM.hf;obtain⟨la,lc,rfl,-,-⟩:=id lM.hl;have c0:wr.cell? ⟨b,o+k*10,_⟩=J (aq _):=aG (dX.o wr eT) (hcell 0 _ rfl);have c1:wr.cell? _=J (U R _):=aG (dX.o wr eT) (hcell 1 _ rfl);have c2:wr.cell? _=J (af pa _ pc):=aG (dX.o wr eT) (hcell 2 _ rfl);have c3:wr.cell? _=J (U R _):=aG (dX.o wr eT) (hcell 3 _ rfl);have c4:wr.cell? _=J (U R _):=aG (dX.o wr eT) (hcell 4 _ rfl);have c5:wr.cell? _=J (U R _):=aG (dX.o wr eT) (hcell 5 _ rfl);have c6:wr.cell? _=J (af ga _ gc):=aG (dX.o wr eT) (hcell 6 _ rfl);have c7:wr.cell? _=J (af ea _ ec):=aG (dX.o wr eT) (hcell 7 _ rfl);have c8:wr.cell? _=J (af fa _ fc):=aG (dX.o wr eT) (hcell 8 _ rfl);have c9:wr.cell? _=J (af la _ lc):=aG (dX.o wr eT) (hcell 9 _ rfl);have HQ:aa _:=hq;have xZ:aa (cF B pb jS _ wr):=wG;have uA:aa _:=eT;have rf:aa _:=hg0;have Ad:aa (((bu 0 [num c.closed,num c.opn]::bu 1 [num c.cycle]::bu 2 [num c.bC]::(c.aw.take k).flatMap fh).flatMap (λx=>x++[10])).length<=500000000):=by
    show _<=_
    have hl:=HL.o;have e1:c.aw.flatMap fh=(c.aw.take k).flatMap fh++(c.aw.drop k).flatMap fh:=by rw[<- dP,qq]
    rw[e1,dP,dm]at hl;have:=HH.o;simp only[lV,dm,kr,qo];omega
   have xX:aa _:=lM;have k1:(k:Int)<(c.aw.length:Int):=by omega
   have k0:k<1000000:=by have:=HM.o;omega
   have JB:aa _:=λW hW acV=>HO.o e (cM hq) W _ jS pa ga ea fa la pc gc ec fc lc (uA.o.trans hW) acV Ad.o xX.o
   unfold r9 at JB;clear hq hcell lM hcc hc0 wG eT hg0;go_wp2_with fail
   refine aL (JB.o _ ((cq.refl B pb wr).alloc xZ.o.2.1 _) (xZ.o.below (Below.uB _ _))) ?_;rintro v W' ⟨rfl,ui,hf'⟩;have HR:aa ((∃jS,cF B pb jS ((bu 0 [num c.closed,num c.opn]::bu 1 [num c.cycle]::bu 2 [num c.bC]::(c.aw.take (k+1)).flatMap fh).flatMap (λx=>x++[10])) W')/\cq B pb w W'/\cq B pb W0 W'):=by
    have hf2:=((cq.refl B pb wr).alloc xZ.o.2.1 _).trans hf'
    refine⟨?_,uA.o.trans hf2,rf.o.trans hf2⟩;obtain⟨acW,Fh⟩:=ui
    refine⟨acW,?_⟩;have e1:(c.aw.take (k+1)).flatMap fh=(c.aw.take k).flatMap fh++fh e:=by rw[fW,HQ.o,dP];simp
    rw[e1];simpa[dP]using Fh
   clear ui hf' JB;go_wp2;go_roundw
   case rel=>exact⟨_,by omega,by go_num,HR.o.1,HR.o.2.1,HR.o.2.2⟩
   case measure=>simp[intOf];omega
  have k1:¬(k:Int)<(c.aw.length:Int):=by omega
  obtain rfl:k=c.aw.length:=by omega
  have HR:aa ((∃jS,cF B pb jS (jn c) wr)/\cq B pb w wr):=⟨⟨jS,by unfold jn pC;rw[l4]at wG;exact wG⟩,eT⟩;clear wG eT hg0;go_wp2;go_end0
  exact⟨rfl,HR.o.1,HR.o.2⟩
theorem acX(s:ByteArray)(w:ai)(hs:s.size<=1000000):Calls prog 140 #[aq s] w λe w'=>e=ax (aI (!isName s))/\Below w.heap.size w w':=by
 go_enter func140,ntmps140
 go_wp2_with fail
 refine(abo s _ hs).mono ?_;rintro e w' ⟨rfl,hb⟩;go_wp2;go_ret;exact⟨rfl,hb⟩
def kG(mb:Nat)(w w':ai):Prop:=∀(p:az) (v:ar),p.block≠mb->w.cell? p=J v->w'.cell? p=J v
theorem kG.refl(mb:Nat)(w:ai):kG mb w w:=λ_ _ _ h=>h
theorem kG.trans{mb:Nat}{w w' w'':ai}(h:kG mb w w')(h2:kG mb w' w''):kG mb w w'':=λp v hn e=>h2 p v hn (h p v hn e)
theorem kG.of{mb:Nat}{w w':ai}(h:Below w.heap.size w w'):kG mb w w':=λ_ _ _ e=>aG h e
theorem Qt(A:Nat->az)(w0 w:ai)(rb bx mb:Nat)(a:List ByteArray)(s:ByteArray)(h:mh A w0 w rb bx mb a)(hs:s.size<=1000000)(hn:a.length<=1000000):Calls prog 143 #[aq s,af (J ⟨rb,0,I⟩) 2 2] w λe w'=>e=ax (cN A (dM a s))/\Below w0.heap.size w0 w'/\(dM a s=0->mh A w0 w' rb bx mb (a++[s]))/\kG mb w w':=by
 have aje:=enters_of func140 (by kernel_rfl) rfl;have ajf:=enters_of func142 (by kernel_rfl) rfl;have HN:aa _:=λW=>acX s W hs
 have HM:aa _:=λW hW=>abD A w0 W rb bx mb a s hW hs hn
 go_enter func143,ntmps143
 go_wp2_with fail
 clear hs hn
 go_loopw [6,9] (λ_ i wr=>kG mb w wr/\((i=U R 0/\mh A w0 wr rb bx mb a)\/(i=U R 1/\isName s=true/\mh A w0 wr rb bx mb a)\/(i=U R 2/\dM a s=0/\mh A w0 wr rb bx mb (a++[s])))) (λ_ i _=>2-(intOf i).toNat)
 case atStart=>exact⟨kG.refl _ _,a_ ⟨rfl,h⟩⟩
 case round=>
  clear h;obtain⟨Qu,hrel⟩:=hrel;have vO:aa (kG mb w wr):=Qu;clear Qu
  rcases hrel with⟨rfl,h⟩|⟨rfl,hN,h⟩|⟨rfl,hE,h⟩
  ·have r0:=h.r0;have r1:=h.r1;have H:aa _:=h;clear h
   cases hN:isName s with
   |true=>
    have iR:=HN.o;rw[hN]at iR;have JC:aa _:=iR;clear iR;have rA:aa _:=hN;clear hN HM HN;go_wp2_with fail
    refine(JC.o _).mono ?_;rintro e W' ⟨rfl,hb'⟩;have H2:aa _:=(H.o.below (aN _ _)).below hb';have ye:aa (kG mb w W'):=(vO.o.trans (kG.of (aN _ _))).trans (kG.of hb');clear hb';go_wp2;go_roundw
    case rel=>exact⟨ye.o,aP (a_ ⟨by go_num,by first|trivial|exact rA.o,H2.o⟩)⟩
    case measure=>simp[intOf]
   |false=>
    have iR:=HN.o;rw[hN]at iR;have JC:aa _:=iR;clear iR;have rA:aa (dM a s=4):=by show _=_;simp[dM,hN]
    clear hN HM HN;go_wp2_with fail
    refine(JC.o _).mono ?_;rintro e W' ⟨rfl,hb'⟩;have d0:W'.cell? ⟨wr.heap.size,0,I⟩=J (.iface 352 (aj (J (A 3)))):=aG hb' (by simp);have H2:aa _:=(H.o.below (aN _ _)).below hb';have ye:aa (kG mb w W'):=(vO.o.trans (kG.of (aN _ _))).trans (kG.of hb');clear hb';go_wp2;go_ret;exact⟨by rw[rA.o];rfl,H2.o.br,λe=>by (rw[rA.o]at e;cases e),ye.o⟩
  ·have r2:=h.r2;have r3:=h.r3;have H:aa _:=h;clear h
   cases hA:a.any (λx=>decide (x=s))with
   |false=>
    have uD:=HM.o;rw[hA]at uD;have CQ:aa _:=uD;have rA:aa (dM a s=0):=by show _=_;simp only[dM,hN,hA];rfl
    clear hA hN HM HN uD;go_wp2_with fail
    refine(CQ.o _ (H.o.below (aN _ _))).mono ?_;rintro e W' ⟨rfl,h',lJ⟩;have H2:aa _:=h';have ye:aa (kG mb w W'):=(vO.o.trans (kG.of (aN _ _))).trans lJ;clear h' lJ;go_wp2;go_roundw
    case rel=>exact⟨ye.o,aP (aP ⟨by go_num,rA.o,H2.o⟩)⟩
    case measure=>simp[intOf]
   |true=>
    have uD:=HM.o;rw[hA]at uD;have CQ:aa _:=uD;have rA:aa (dM a s=6):=by show _=_;simp only[dM,hN,hA];rfl
    clear hA hN HM HN uD;go_wp2_with fail
    refine(CQ.o _ (H.o.below (aN _ _))).mono ?_;rintro e W' ⟨rfl,h',lJ⟩;have H2:aa _:=h';have ye:aa (kG mb w W'):=(vO.o.trans (kG.of (aN _ _))).trans lJ;have d0:W'.cell? _=J (.iface 352 (aj (J (A 5)))):=lJ ⟨wr.heap.size,0,I⟩ _ (λe=>by have:=H.o.own.lt;simp at e;omega) (by simp);clear h' lJ;go_wp2;go_ret;exact⟨by rw[rA.o];rfl,H2.o.br,λe=>by (rw[rA.o]at e;cases e),ye.o⟩
  have rA:aa _:=hE;have H2:aa _:=h;clear hE h HM HN;go_wp2;go_ret;exact⟨by rw[rA.o];rfl,H2.o.br,λ_=>H2.o,vO.o⟩
end Go.Proofs.YtgmfhkjghmdgiaaGreatDoor
