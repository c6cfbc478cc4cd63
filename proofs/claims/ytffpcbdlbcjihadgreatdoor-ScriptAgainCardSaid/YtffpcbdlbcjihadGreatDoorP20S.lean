/-
  Several texts as one: KeEo, KeDog.
-/
import Derived.Test.YtffpcbdlbcjihadGreatDoorP19S
namespace Go.Proofs.YtffpcbdlbcjihadGreatDoor
open Go.RowKit Go.Extern.Stop Go.Stop Go.Extern
def eoK (kb rb n kd tw:Nat):Nat->Value
 | 0=>.pointer (some ⟨kb,0,none⟩)
 | 1=>.pointer (some ⟨kb,0,none⟩)
 | 2=>.pointer (some ⟨kb,4,none⟩)
 | 3=>.pointer (some ⟨rb,0,none⟩)
 | 4=>.int .i64 (n:Int)
 | 5=>.int .i64 (kd:Int)
 | 6=>.pointer (some ⟨kb,0,none⟩)
 | 7=>.int .i64 (tw:Int)
 | _=>undef
structure EoC (w3:World)(kb rb n kd tw:Nat)(cv:Value)(CE:World->Prop)(P:(Nat->Nat->Prop)->World->Prop)(vals:Nat->Option Value)(V:World):Prop where
 cs:∀ j,j < 8->∀ v,vals j=some v->v=eoK kb rb n kd tw j
 ce:CE V
 sz:w3.heap.size<=V.heap.size
 pre:vals 8=none->Below w3.heap.size w3 V
 pst:∀ u,vals 8=some u->(∃ r:Rec,u=.tuple #[r.val,cv])/\∃ H,P H V/\(∀ i k,H i k->k < V.heap.size)/\∀ g,vals 12=some (.pointer (some ⟨g,0,none⟩))->∀ i,¬H i g
 c9:∀ u,vals 9=some u->∃ r:Rec,u=.tuple #[r.val,cv]
 c10:∀ u,vals 10=some u->∃ r:Rec,u=r.val
 c11:∀ u,vals 11=some u->u=cv
 c12:∀ u,vals 12=some u->∃ (g:Nat) (r:Rec),u=.pointer (some ⟨g,0,none⟩)/\RecRow V g r/\w3.heap.size<=g
 d13:vals 13≠none->vals 8≠none
 c14:∀ u,vals 14=some u->u=cv
section
variable {w3 V V':World}{kb rb n kd tw:Nat}{cv:Value}{CE:World->Prop}{P:(Nat->Nat->Prop)->World->Prop}{vals:Nat->Option Value}{i:Nat}{u:Value}
theorem EoC.start (hb:Below w3.heap.size w3 V)(hc:CE V):EoC w3 kb rb n kd tw cv CE P (fun _=>.none) V:=
 ⟨fun _ _ _ h=>(by cases h),hc,hb.size,fun _=>hb,fun _ h=>(by cases h),fun _ h=>(by cases h),fun _ h=>(by cases h),fun _ h=>(by cases h),fun _ h=>(by cases h),fun h=>absurd rfl h,fun _ h=>(by cases h)⟩
theorem EoC.const (h:EoC w3 kb rb n kd tw cv CE P vals V)(hi:i < 8)(hu:u=eoK kb rb n kd tw i):EoC w3 kb rb n kd tw cv CE P (upd vals i u) V:=by
 have o:∀ j,8<=j->upd vals i u j=vals j:=fun j hj=>upd_other vals u (by omega)
 refine⟨fun j hj v hv=>?_,h.ce,h.sz,fun h8=>h.pre (by rwa [o 8 (by omega)] at h8),fun x hx=>?_,fun x hx=>h.c9 x (by rwa [o 9 (by omega)] at hx),fun x hx=>h.c10 x (by rwa [o 10 (by omega)] at hx),fun x hx=>h.c11 x (by rwa [o 11 (by omega)] at hx),fun x hx=>h.c12 x (by rwa [o 12 (by omega)] at hx),fun hx=>by rw[o 8 (by omega)];exact h.d13 (by rwa [o 13 (by omega)] at hx),fun x hx=>h.c14 x (by rwa [o 14 (by omega)] at hx)⟩
 ·by_cases e:j=i
  ·subst e;rw[upd_same] at hv;exact(Option.some.inj hv).symm.trans hu
  ·exact h.cs j hj v (by rwa [upd_other vals u e] at hv)
 ·obtain⟨h1,H,h2,h3,h4⟩:=h.pst x (by rwa [o 8 (by omega)] at hx);exact⟨h1,H,h2,h3,fun g hg=>h4 g (by rwa [o 12 (by omega)] at hg)⟩
theorem EoC.later (h:EoC w3 kb rb n kd tw cv CE P vals V)(hi:i=9\/i=10\/i=11\/i=14)(h9:i=9->∃ r:Rec,u=.tuple #[r.val,cv])(h10:i=10->∃ r:Rec,u=r.val)(h11:i=11->u=cv)(h14:i=14->u=cv):EoC w3 kb rb n kd tw cv CE P (upd vals i u) V:=by
 have o:∀ j,j≠i->upd vals i u j=vals j:=fun j hj=>upd_other vals u hj
 have g:∀ j x,upd vals i u j=some x->(j=i/\x=u)\/vals j=some x:=fun j x hx=>by
  by_cases e:j=i
  ·subst e;rw[upd_same] at hx;exact Or.inl ⟨rfl,(Option.some.inj hx).symm⟩
  ·exact Or.inr (by rwa [o j e] at hx)
 refine⟨fun j hj v hv=>h.cs j hj v (by rwa [o j (by omega)] at hv),h.ce,h.sz,fun h8=>h.pre (by rwa [o 8 (by omega)] at h8),fun x hx=>?_,fun x hx=>?_,fun x hx=>?_,fun x hx=>?_,fun x hx=>h.c12 x (by rwa [o 12 (by omega)] at hx),fun hx=>by rw[o 8 (by omega)];exact h.d13 (by rwa [o 13 (by omega)] at hx),fun x hx=>?_⟩
 ·obtain⟨h1,H,h2,h3,h4⟩:=h.pst x (by rwa [o 8 (by omega)] at hx);exact⟨h1,H,h2,h3,fun g hg=>h4 g (by rwa [o 12 (by omega)] at hg)⟩
 ·rcases g 9 x hx with ⟨e,rfl⟩ | e
  ·exact h9 e.symm
  ·exact h.c9 x e
 ·rcases g 10 x hx with ⟨e,rfl⟩ | e
  ·exact h10 e.symm
  ·exact h.c10 x e
 ·rcases g 11 x hx with ⟨e,rfl⟩ | e
  ·exact h11 e.symm
  ·exact h.c11 x e
 ·rcases g 14 x hx with ⟨e,rfl⟩ | e
  ·exact h14 e.symm
  ·exact h.c14 x e
theorem EoC.made (h:EoC w3 kb rb n kd tw cv CE P vals V)(hP:∀ H W W',P H W->Below W.heap.size W W'->P H W')(hCE:∀ W W',CE W->Below W.heap.size W W'->CE W'):EoC w3 kb rb n kd tw cv CE P (upd vals 12 (.pointer (some ⟨V.heap.size,0,none⟩))) (V.alloc (.cells #[.int .i64 0,.int .i64 0,.int .i64 0,.int .i64 0] 118)):=by
 have o:∀ j,j≠12->upd vals 12 (.pointer (some ⟨V.heap.size,0,none⟩)) j=vals j:=fun j hj=>upd_other vals _ hj
 have hb:Below V.heap.size V (V.alloc (.cells #[.int .i64 0,.int .i64 0,.int .i64 0,.int .i64 0] 118)):=Below.one _ _
 refine⟨fun j hj v hv=>h.cs j hj v (by rwa [o j (by omega)] at hv),hCE _ _ h.ce hb,Nat.le_trans h.sz hb.size,fun h8=>(h.pre (by rwa [o 8 (by omega)] at h8)).trans (hb.mono h.sz),fun x hx=>?_,fun x hx=>h.c9 x (by rwa [o 9 (by omega)] at hx),fun x hx=>h.c10 x (by rwa [o 10 (by omega)] at hx),fun x hx=>h.c11 x (by rwa [o 11 (by omega)] at hx),fun x hx=>?_,fun hx=>by rw[o 8 (by omega)];exact h.d13 (by rwa [o 13 (by omega)] at hx),fun x hx=>h.c14 x (by rwa [o 14 (by omega)] at hx)⟩
 ·obtain⟨h1,H,h2,h3,h4⟩:=h.pst x (by rwa [o 8 (by omega)] at hx)
  refine⟨h1,H,hP H V _ h2 hb,fun i k hk=>Nat.lt_of_lt_of_le (h3 i k hk) hb.size,fun g hg i hi=>?_⟩;rw[upd_same] at hg
  cases hg
  have:=h3 i _ hi;omega
 ·rw[upd_same] at hx
  cases hx
  exact⟨_,.none,rfl,RecRow.new V .none,h.sz⟩
theorem EoC.call (h:EoC w3 kb rb n kd tw cv CE P vals V)(hc:CE V'){r:Rec}{H:Nat->Nat->Prop}(hp:P H V')(hz:V.heap.size<=V'.heap.size)(hl:∀ i k,H i k->k < V'.heap.size)(hH:∀ i k,H i k->k < w3.heap.size\/V.heap.size<=k)(hq:∀ q,w3.heap.size<=q->q < V.heap.size->V'.heap[q]?=V.heap[q]?):EoC w3 kb rb n kd tw cv CE P (upd vals 8 (.tuple #[r.val,cv])) V':=by
 have o:∀ j,j≠8->upd vals 8 (.tuple #[r.val,cv]) j=vals j:=fun j hj=>upd_other vals _ hj
 refine⟨fun j hj v hv=>h.cs j hj v (by rwa [o j (by omega)] at hv),hc,Nat.le_trans h.sz hz,fun h8=>(by rw[upd_same] at h8;cases h8),fun x hx=>?_,fun x hx=>h.c9 x (by rwa [o 9 (by omega)] at hx),fun x hx=>h.c10 x (by rwa [o 10 (by omega)] at hx),fun x hx=>h.c11 x (by rwa [o 11 (by omega)] at hx),fun x hx=>?_,fun _=>by rw[upd_same];simp,fun x hx=>h.c14 x (by rwa [o 14 (by omega)] at hx)⟩
 ·rw[upd_same] at hx
  cases hx
  refine⟨⟨r,rfl⟩,H,hp,hl,fun g hg i hi=>?_⟩;rw[o 12 (by omega)] at hg;obtain⟨g',r',e,hr,hlo⟩:=h.c12 _ hg
  cases e
  have:=hr.lt
  rcases hH i g hi with h1 | h1 <;> omega
 ·rw[o 12 (by omega)] at hx;obtain⟨g,r',e,hr,hlo⟩:=h.c12 x hx;exact⟨g,r',e,⟨(hq g hlo hr.lt).trans hr.heap⟩,hlo⟩
theorem EoC.laid (h:EoC w3 kb rb n kd tw cv CE P vals V)(h8:vals 8≠.none)(hPc:∀ H V,P H V->CE V)(hP:∀ H W W' g,P H W->Off (fun k=>k=g) W W'->(∀ i,¬H i g)->w3.heap.size<=g->P H W'){g:Nat}{r r0:Rec}(hg:vals 12=some (.pointer (some ⟨g,0,none⟩)))(hr:RecRow V g r0)(hlo:w3.heap.size<=g)(hV:V'=(((V.setCell ⟨g,0,.none⟩ (.int .i64 (r.seq:Int))).setCell ⟨g,1,.none⟩ (.int .i64 (r.ent:Int))).setCell ⟨g,2,.none⟩ (.int .i64 (r.kind:Int))).setCell ⟨g,3,.none⟩ (.int .i64 (r.tick:Int))):EoC w3 kb rb n kd tw cv CE P (upd vals 13 undef) V':=by
 have o:∀ j,j≠13->upd vals 13 undef j=vals j:=fun j hj=>upd_other vals _ hj
 have hg4:V.grownBy V' (some g):=by rw[hV];exact grown_set4 _ _ _ _ _ _
 have hc':CE V':=by
  cases e:vals 8 with
  | none=>exact absurd e h8
  | some u=>
   obtain⟨_,H,h2,h3,h4⟩:=h.pst u e;exact hPc H V' (hP H V V' g h2 (Off.of_grown hg4) (h4 g hg) hlo)
 refine⟨fun j hj v hv=>h.cs j hj v (by rwa [o j (by omega)] at hv),hc',Nat.le_trans h.sz hg4.size,fun e=>(by rw[o 8 (by omega)] at e;exact absurd e h8),fun x hx=>?_,fun x hx=>h.c9 x (by rwa [o 9 (by omega)] at hx),fun x hx=>h.c10 x (by rwa [o 10 (by omega)] at hx),fun x hx=>h.c11 x (by rwa [o 11 (by omega)] at hx),fun x hx=>?_,fun _=>by rw[o 8 (by omega)];exact h8,fun x hx=>h.c14 x (by rwa [o 14 (by omega)] at hx)⟩
 ·obtain⟨h1,H,h2,h3,h4⟩:=h.pst x (by rwa [o 8 (by omega)] at hx);exact⟨h1,H,hP H V V' g h2 (Off.of_grown hg4) (h4 g hg) hlo,fun i k hk=>Nat.lt_of_lt_of_le (h3 i k hk) hg4.size,fun g' hg'=>h4 g' (by rwa [o 12 (by omega)] at hg')⟩
 ·rw[o 12 (by omega),hg] at hx
  cases hx
  exact⟨g,r,rfl,by rw[hV];exact hr.set4 r,hlo⟩
end
section
variable {A:Nat->Addr}{H:Nat->Nat->Prop}{F:Nat->Prop}{w0 w w':World}{c:CfgD}{kb bc bd rb bt:Nat}{lv:Value}{bs:List Nat}{K:KSt}{k W:Nat}
theorem ke_lend (h:KeIn H w0 w c kb bc bd rb bt lv bs K)(hr:KRt c)(hf:KFit c K k W)(hn:k+K.d.now<=900000){i b:Nat}{e:EntD}{s:LSt}(hs:K.ls[i]?=some s)(hb:bs[i]?=some b)(he:c.ents[i]?=some e) :
  Calls Tryz.prog 276 #[.pointer (some ⟨b,0,none⟩)] w fun u w'=>u=.returned (.tuple #[.int .i64 (s.kind e),.bool (s.turns e)])/\KeIn (updH H (5+i) w w') w0 w' c kb bc bd rb bt lv bs (K.setL i (s.fin e))/\Off (H (5+i)) w w':=by
 have hl:=h.loc i b e s hb he hs;have hE:=hr.each e (List.mem_of_getElem? he)
 refine(los_end hl hE.2.1 hE.2.2.1 ((hf.each s (List.mem_of_getElem? hs)).1.mono hn)).mono ?_;rintro u w' ⟨rfl,h1,h2⟩;exact⟨rfl,h.toLoc h2 hb he h1,h2⟩
theorem ke_app (h:KeIn H w0 w c kb bc bd rb bt lv bs K)(hs:SenK A w0)(hf:KFit c K k W)(hW:W+18<=1099511627776)(ho:K.c.off=false)(i kd t:Nat)(h1:i<=255)(h2:kd<=255)(h3:t<=281474976710655) :
  Calls Tryz.prog 277 #[.pointer (some ⟨rb,0,none⟩),.int .i64 (i:Int),.int .i64 (kd:Int),.int .i64 (t:Int)] w fun e w'=>∃ r:Rec,e=.returned (.tuple #[r.val,errVal A (K.app i kd t).2])/\KeIn (updH H 2 w w') w0 w' c kb bc bd rb bt lv bs (K.app i kd t).1/\Off (H 2) w w':=by
 have hgm:8<=w0.heap.size:=hs.gf
 refine(rgs_app (A:=A) h.ring hf hW ho (h.senv hs).four (by have:=h.fam.lo 2 bc h.ring.fc;omega) i kd t h1 h2 h3).mono ?_;rintro e w' ⟨r,rfl,h4,h5⟩;have h6:=h.toRing h5 h4;have e1:=app_d K i kd t;have e2:=app_ls K i kd t;have e3:(K.app i kd t).1.t=K.t:=by unfold KSt.app;split;rfl;split;rfl;split <;> rfl
 refine⟨r,rfl,?_,h5⟩;have:(K.app i kd t).1={ K with c:=(K.app i kd t).1.c,L:=(K.app i kd t).1.L,sp:=(K.app i kd t).1.sp }:=by rw[<- e1,<- e2,<- e3]
 rw[this];exact h6
set_option maxHeartbeats 8000000 in
set_option maxRecDepth 100000 in
theorem ke_endOf (n b:Nat){e:EntD}{s:LSt}(h:KeIn H w0 w c kb bc bd rb bt lv bs K)(hs:SenK A w0)(hr:KRt c)(hf:KFit c K k W)(hn:k+K.d.now<=900000)(hW:W+18<=1099511627776)(ho:K.c.off=false)(h1:1<=K.d.now)(hi:LFit s (k+K.d.now - 1))(hsn:K.ls[n]?=some s)(hb:bs[n]?=some b)(he:c.ents[n]?=some e)(hn8:n < 8) :
  Calls Tryz.prog 237 #[.pointer (some ⟨kb,0,none⟩),.int .i64 (n:Int),.pointer (some ⟨b,0,none⟩)] w fun v w'=>v=.returned (errVal A (K.endOne c n).2)/\KeTo H w0 w c kb bc bd rb bt lv bs (K.endOne c n).1 w':=by
 have hge:c.ents.getD n noEnt=e:=by rw[List.getD_eq_getElem?_getD,he];rfl
 have HStep:Hid (K.endOne c n=if s.turns e=true then (K.setL n (s.fin e)).app n (s.kind e).toNat K.d.now else (K.setL n (s.fin e),0)):=by
  show _=_
  unfold KSt.endOne;rw[hsn];simp only[hge]
 have HX:Hid _:=ke_lend h hr hf hn hsn hb he;have HFit:Hid (KFit c (K.setL n (s.fin e)) k W/\W+18<=1099511627776/\(K.setL n (s.fin e)).c.off=false/\K.d.now<=900000):=⟨hf.finL hsn hi h1 e,hW,ho,by omega⟩;obtain⟨kd,hkd⟩:∃ kd:Nat,s.kind e=(kd:Int):=⟨(s.kind e).toNat,by have:=(kind_le e s).1;omega⟩;have hkd3:kd<=3:=by have:=(kind_le e s).2;omega
 have HSv:Hid _:=hs;have HZ0:Hid (w0.heap.size<=w.heap.size):=h.bel.size;clear h hs hf hn hW ho h1 hi hsn hb he hge hr
 cases ht:s.turns e
 ·have HS2:Hid (K.endOne c n=(K.setL n (s.fin e),0)):=by have:=HStep.out;rw[ht,if_neg (by simp)] at this;exact this
  rw[ht] at HX;go_enter Tryz.func237,Tryz.ntmps237
  go_wp2_with fail
  refine Calls.mono HX.out ?_;rintro u w3 ⟨rfl,hkm,hof⟩;go_wp2;go_ret;rw[HS2.out];exact⟨rfl,KeTo.one hof hkm⟩
 ·have HS2:Hid (K.endOne c n=(K.setL n (s.fin e)).app n kd K.d.now):=by have:=HStep.out;rw[ht,if_pos rfl,hkd] at this;exact this
  rw[ht,hkd] at HX;go_enter Tryz.func237,Tryz.ntmps237
  go_wp2_with fail
  refine Calls.mono HX.out ?_;rintro u w3 ⟨rfl,hkm,hof⟩;obtain⟨K2,hK2⟩:∃ X,X=K.setL n (s.fin e):=⟨_,rfl⟩;obtain⟨tw,htw⟩:∃ X,X=K.d.now:=⟨_,rfl⟩;have hto:KeTo H w0 w c kb bc bd rb bt lv bs K2 w3:=by rw[hK2];exact KeTo.one hof hkm
  have hfit:=HFit.out;rw[<- hK2] at hkm hfit;have HS3:Hid (K.endOne c n=K2.app n kd tw):=by have:=HS2.out;rw[<- hK2,<- htw] at this;exact this
  have hK2d:K2.d.now=tw:=by rw[hK2,htw];rfl
  have HNow:Hid ((K2.app n kd tw).1.d.now=tw):=by show _=_;rw[app_d,hK2d]
  have htw1:tw<=900000:=by rw[htw];exact hfit.2.2.2
  obtain⟨H2,hk2,hg2,ho2⟩:=hto;have HA:Hid (∀ V,Below w3.heap.size w3 V->Calls Tryz.prog 277 #[.pointer (some ⟨rb,0,none⟩),.int .i64 (n:Int),.int .i64 (kd:Int),.int .i64 (tw:Int)] V fun e w'=>∃ r:Rec,e=.returned (.tuple #[r.val,errVal A (K2.app n kd tw).2])/\∃ H1,KeIn H1 w0 w' c kb bc bd rb bt lv bs (K2.app n kd tw).1/\(∀ i k,H1 i k->gr (fun k=>∃ i,H i k) w w' k)/\Off (fun k=>∃ i,H i k) w w'/\V.heap.size<=w'.heap.size/\(∀ i k,H1 i k->k < w3.heap.size\/V.heap.size<=k)/\∀ q,w3.heap.size<=q->q < V.heap.size->w'.heap[q]?=V.heap[q]?):=fun V hV=>by
   refine(ke_app (hk2.below hV) HSv.out hfit.1 hfit.2.1 hfit.2.2.1 n kd tw (by omega) (by omega) (by omega)).mono ?_;rintro e w' ⟨r,rfl,hk4,hof4⟩;have hg4:∀ i k,H2 i k->gr (fun k=>∃ i,H i k) w V k:=fun i k hk=>(hg2 i k hk).imp id (fun ⟨a,b⟩=>⟨a,Nat.lt_of_lt_of_le b hV.size⟩)
   have ho4:Off (fun k=>∃ i,H i k) w V:=ho2.trans (Off.of_below hV _) (fun _ _ h=>h);obtain⟨H5,hk5,hg5,ho5⟩:=KeTo.trans hg4 ho4 (KeTo.one hof4 hk4)
   refine⟨r,rfl,_,hk4,fun i k hk=>?_,ho5,hof4.size,fun i k hk=>?_,fun q h1 h2=>hof4.block q h2 (fun hq=>by have:=hk2.fam.lt 2 q hq;omega)⟩
   ·rcases hk with hk | ⟨_,a,b⟩
    ·exact(hg4 i k hk).imp id (fun ⟨a,b⟩=>⟨a,Nat.lt_of_lt_of_le b hof4.size⟩)
    ·exact Or.inr ⟨Nat.le_trans ho4.size a,b⟩
   ·rcases hk with hk | ⟨_,a,_⟩
    ·exact Or.inl (hk2.fam.lt i k hk)
    ·exact Or.inr a
  have HC0:Hid (∃ H1 K1,KeIn H1 w0 w3 c kb bc bd rb bt lv bs K1/\K1.d.now=tw):=⟨H2,K2,hk2,hK2d⟩;have HCb:Hid (∀ W W',(fun V=>∃ H1 K1,KeIn H1 w0 V c kb bc bd rb bt lv bs K1/\K1.d.now=tw) W->Below W.heap.size W W'->(fun V=>∃ H1 K1,KeIn H1 w0 V c kb bc bd rb bt lv bs K1/\K1.d.now=tw) W'):=fun W W' ⟨H1,K1,a,b⟩ hb=>⟨H1,K1,a.below hb,b⟩
  have HPb:Hid (∀ (H':Nat->Nat->Prop) (W W':World),(fun H1 V=>KeIn H1 w0 V c kb bc bd rb bt lv bs (K2.app n kd tw).1/\(∀ i k,H1 i k->gr (fun k=>∃ i,H i k) w V k)/\Off (fun k=>∃ i,H i k) w V) H' W->Below W.heap.size W W'->(fun H1 V=>KeIn H1 w0 V c kb bc bd rb bt lv bs (K2.app n kd tw).1/\(∀ i k,H1 i k->gr (fun k=>∃ i,H i k) w V k)/\Off (fun k=>∃ i,H i k) w V) H' W'):=fun H' W W' ⟨a,b,d⟩ hb=>⟨a.below hb,fun i k hk=>(b i k hk).imp id (fun ⟨x,y⟩=>⟨x,Nat.lt_of_lt_of_le y hb.size⟩),d.trans (Off.of_below hb _) (fun _ _ h=>h)⟩
  have HLo:Hid (w.heap.size<=w3.heap.size/\w0.heap.size<=w.heap.size):=⟨hof.size,HZ0.out⟩;have HPs:Hid (∀ (H':Nat->Nat->Prop) (W W':World) (q:Nat),(fun H1 V=>KeIn H1 w0 V c kb bc bd rb bt lv bs (K2.app n kd tw).1/\(∀ i k,H1 i k->gr (fun k=>∃ i,H i k) w V k)/\Off (fun k=>∃ i,H i k) w V) H' W->Off (fun k=>k=q) W W'->(∀ i,¬H' i q)->w3.heap.size<=q->(fun H1 V=>KeIn H1 w0 V c kb bc bd rb bt lv bs (K2.app n kd tw).1/\(∀ i k,H1 i k->gr (fun k=>∃ i,H i k) w V k)/\Off (fun k=>∃ i,H i k) w V) H' W'):=fun H' W W' q ⟨a,b,d⟩ ho hno hlo=>⟨a.off ho (fun i k hk e=>by rw[e] at hk;exact hno i hk) (fun k hk=>by rw[hk];have:=HLo.out;omega),fun i k hk=>(b i k hk).imp id (fun ⟨x,y⟩=>⟨x,Nat.lt_of_lt_of_le y ho.size⟩),d.trans ho (fun k hk e=>absurd hk (by rw[e];have:=HLo.out;omega))⟩
  clear hkm hof hK2 htw hfit hK2d htw1 hk2 hg2 ho2 HX HFit HS2 HStep hkd;go_upto_region 4 with fail
  go_cut [9,10] (fun _ ev' wx=>ev'=errVal A (K2.app n kd tw).2/\KeTo H w0 w c kb bc bd rb bt lv bs (K2.app n kd tw).1 wx)
  case first=>
   refine region_spec3 15 rfl (EoC w3 kb rb n kd tw (errVal A (K2.app n kd tw).2) (fun V=>∃ H1 K1,KeIn H1 w0 V c kb bc bd rb bt lv bs K1/\K1.d.now=tw) (fun H1 V=>KeIn H1 w0 V c kb bc bd rb bt lv bs (K2.app n kd tw).1/\(∀ i k,H1 i k->gr (fun k=>∃ i,H i k) w V k)/\Off (fun k=>∃ i,H i k) w V)) (by kernel_rfl) (by kernel_rfl) (EoC.start (below_drewN (Below.refl _ _) 1) (HCb.out _ _ HC0.out (below_drewN (Below.refl _ _) 1))) ?_ ?_
   ·intro i o ho
    match i,ho with
     | 0,ho=>
      obtain rfl:=Option.some.inj ho
      refine StepOk3.free rfl ?_;intro vals a V hC hn hdep hoth;have x0:a.tmps[0]?.getD undef=.pointer (some ⟨kb,0,none⟩):=slot_of (hoth 0 (notDst (by kernel_rfl)));exact goodRun3.val (w:=V) (c:=.pointer (some ⟨kb,0,none⟩)) (by clear hdep hoth hC;go_simp) (hC.const (by decide) rfl)
     | 1,ho=>
      obtain rfl:=Option.some.inj ho
      refine StepOk3.free rfl ?_;intro vals a V hC hn hdep hoth;obtain⟨v0,hv0,hev0⟩:=hdep _ (Array.mem_of_getElem? (i:=0) rfl) rfl;have x19:a.tmps[19]?.getD undef=.pointer (some ⟨kb,0,none⟩):=(slot_of (hev0 19 rfl)).trans (hC.cs 0 (by decide) v0 hv0);clear hev0;exact goodRun3.val (w:=V) (c:=.pointer (some ⟨kb,0,none⟩)) (by clear hdep hoth hC;go_simp) (hC.const (by decide) rfl)
     | 2,ho=>
      obtain rfl:=Option.some.inj ho
      refine StepOk3.free rfl ?_;intro vals a V hC hn hdep hoth;obtain⟨v1,hv1,hev1⟩:=hdep _ (Array.mem_of_getElem? (i:=0) rfl) rfl;have x20:a.tmps[20]?.getD undef=.pointer (some ⟨kb,0,none⟩):=(slot_of (hev1 20 rfl)).trans (hC.cs 1 (by decide) v1 hv1);clear hev1;exact goodRun3.val (w:=V) (c:=.pointer (some ⟨kb,4,none⟩)) (by clear hdep hoth hC;go_simp) (hC.const (by decide) rfl)
     | 3,ho=>
      obtain rfl:=Option.some.inj ho
      refine StepOk3.free rfl ?_;intro vals a V hC hn hdep hoth;obtain⟨H1,K1,hk1,-⟩:=hC.ce;have cc:V.cell? ⟨kb,4,none⟩=some (.pointer (some ⟨rb,0,none⟩)):=hk1.cell 4 _ rfl;clear hk1;obtain⟨v2,hv2,hev2⟩:=hdep _ (Array.mem_of_getElem? (i:=0) rfl) rfl;have x21:a.tmps[21]?.getD undef=.pointer (some ⟨kb,4,none⟩):=(slot_of (hev2 21 rfl)).trans (hC.cs 2 (by decide) v2 hv2);clear hev2;exact goodRun3.val (w:=V) (c:=.pointer (some ⟨rb,0,none⟩)) (by clear hdep hoth hC;go_simp) (hC.const (by decide) rfl)
     | 4,ho=>
      obtain rfl:=Option.some.inj ho
      refine StepOk3.free rfl ?_;intro vals a V hC hn hdep hoth;have x1:a.tmps[1]?.getD undef=.int .i64 (n:Int):=slot_of (hoth 1 (notDst (by kernel_rfl)));exact goodRun3.val (w:=V) (c:=.int .i64 (n:Int)) (by clear hdep hoth hC;go_simp) (hC.const (by decide) rfl)
     | 5,ho=>
      obtain rfl:=Option.some.inj ho
      refine StepOk3.free rfl ?_;intro vals a V hC hn hdep hoth;have x7:a.tmps[7]?.getD undef=.int .i64 (kd:Int):=slot_of (hoth 7 (notDst (by kernel_rfl)));exact goodRun3.val (w:=V) (c:=.int .i64 (kd:Int)) (by clear hdep hoth hC;go_simp) (hC.const (by decide) rfl)
     | 6,ho=>
      obtain rfl:=Option.some.inj ho
      refine StepOk3.free rfl ?_;intro vals a V hC hn hdep hoth;have x0:a.tmps[0]?.getD undef=.pointer (some ⟨kb,0,none⟩):=slot_of (hoth 0 (notDst (by kernel_rfl)));exact goodRun3.val (w:=V) (c:=.pointer (some ⟨kb,0,none⟩)) (by clear hdep hoth hC;go_simp) (hC.const (by decide) rfl)
     | 7,ho=>
      obtain rfl:=Option.some.inj ho
      refine StepOk3.free rfl ?_;intro vals a V hC hn hdep hoth;obtain⟨v6,hv6,hev6⟩:=hdep _ (Array.mem_of_getElem? (i:=0) rfl) rfl;have x25:a.tmps[25]?.getD undef=.pointer (some ⟨kb,0,none⟩):=(slot_of (hev6 25 rfl)).trans (hC.cs 6 (by decide) v6 hv6);clear hev6;obtain⟨H1,K1,hk1,hk2⟩:=hC.ce
      refine goodRun3.call (w:=V) (f:=64) (args:=#[.pointer (some ⟨kb,0,none⟩)]) (by clear hdep hoth hC hk1;go_simp) ?_
      refine Calls.mono (ke_now hk1) ?_;rintro e w4 ⟨rfl,rfl⟩;exact⟨_,rfl,hC.const (by decide) (by rw[hk2];rfl)⟩
     | 8,ho=>
      obtain rfl:=Option.some.inj ho
      refine StepOk3.free rfl ?_;intro vals a V hC hn hdep hoth;obtain⟨v3,hv3,hev3⟩:=hdep _ (Array.mem_of_getElem? (i:=0) rfl) rfl;have x22:a.tmps[22]?.getD undef=.pointer (some ⟨rb,0,none⟩):=(slot_of (hev3 22 rfl)).trans (hC.cs 3 (by decide) v3 hv3);clear hev3;obtain⟨v4,hv4,hev4⟩:=hdep _ (Array.mem_of_getElem? (i:=1) rfl) rfl;have x23:a.tmps[23]?.getD undef=.int .i64 (n:Int):=(slot_of (hev4 23 rfl)).trans (hC.cs 4 (by decide) v4 hv4);clear hev4;obtain⟨v5,hv5,hev5⟩:=hdep _ (Array.mem_of_getElem? (i:=2) rfl) rfl;have x24:a.tmps[24]?.getD undef=.int .i64 (kd:Int):=(slot_of (hev5 24 rfl)).trans (hC.cs 5 (by decide) v5 hv5);clear hev5;obtain⟨v7,hv7,hev7⟩:=hdep _ (Array.mem_of_getElem? (i:=3) rfl) rfl;have x26:a.tmps[26]?.getD undef=.int .i64 (tw:Int):=(slot_of (hev7 26 rfl)).trans (hC.cs 7 (by decide) v7 hv7);clear hev7
      refine goodRun3.call (w:=V) (f:=277) (args:=#[.pointer (some ⟨rb,0,none⟩),.int .i64 (n:Int),.int .i64 (kd:Int),.int .i64 (tw:Int)]) (by clear hdep hoth hC;go_simp) ?_
      refine Calls.mono (HA.out V (hC.pre hn)) ?_;rintro e w4 ⟨r,rfl,H1,hk4,hg4,ho4,hsz4,hH4,hq4⟩;exact⟨_,rfl,hC.call ⟨H1,_,hk4,HNow.out⟩ ⟨hk4,hg4,ho4⟩ hsz4 (fun i k hk=>hk4.fam.lt i k hk) hH4 hq4⟩
     | 9,ho=>
      obtain rfl:=Option.some.inj ho
      refine StepOk3.free rfl ?_;intro vals a V hC hn hdep hoth;obtain⟨v8,hv8,hev8⟩:=hdep _ (Array.mem_of_getElem? (i:=0) rfl) rfl;obtain⟨⟨r,hr⟩,-⟩:=hC.pst v8 hv8;have x27:a.tmps[27]?.getD undef=.tuple #[r.val,errVal A (K2.app n kd tw).2]:=(slot_of (hev8 27 rfl)).trans hr;clear hev8;exact goodRun3.val (w:=V) (c:=.tuple #[r.val,errVal A (K2.app n kd tw).2]) (by clear hdep hoth hC hr;go_simp) (hC.later (Or.inl rfl) (fun _=>⟨r,rfl⟩) (fun e=>by cases e) (fun e=>by cases e) (fun e=>by cases e))
     | 10,ho=>
      obtain rfl:=Option.some.inj ho
      refine StepOk3.free rfl ?_;intro vals a V hC hn hdep hoth;obtain⟨v9,hv9,hev9⟩:=hdep _ (Array.mem_of_getElem? (i:=0) rfl) rfl;obtain⟨r,hr⟩:=hC.c9 v9 hv9;have x18:a.tmps[18]?.getD undef=.tuple #[r.val,errVal A (K2.app n kd tw).2]:=(slot_of (hev9 18 rfl)).trans hr;clear hev9;exact goodRun3.val (w:=V) (c:=r.val) (by clear hdep hoth hC hr;go_simp) (hC.later (Or.inr (Or.inl rfl)) (fun e=>by cases e) (fun _=>⟨r,rfl⟩) (fun e=>by cases e) (fun e=>by cases e))
     | 11,ho=>
      obtain rfl:=Option.some.inj ho
      refine StepOk3.free rfl ?_;intro vals a V hC hn hdep hoth;obtain⟨v9,hv9,hev9⟩:=hdep _ (Array.mem_of_getElem? (i:=0) rfl) rfl;obtain⟨r,hr⟩:=hC.c9 v9 hv9;have x18:a.tmps[18]?.getD undef=.tuple #[r.val,errVal A (K2.app n kd tw).2]:=(slot_of (hev9 18 rfl)).trans hr;clear hev9;exact goodRun3.val (w:=V) (c:=errVal A (K2.app n kd tw).2) (by clear hdep hoth hC hr;go_simp) (hC.later (Or.inr (Or.inr (Or.inl rfl))) (fun e=>by cases e) (fun e=>by cases e) (fun _=>rfl) (fun e=>by cases e))
     | 12,ho=>
      obtain rfl:=Option.some.inj ho
      refine StepOk3.free rfl ?_;intro vals a V hC hn hdep hoth;exact goodRun3.val (w:=V.alloc (.cells #[.int .i64 0,.int .i64 0,.int .i64 0,.int .i64 0] 118)) (c:=.pointer (some ⟨V.heap.size,0,none⟩)) (by clear hdep hoth hC;go_simp) (hC.made HPb.out HCb.out)
     | 13,ho=>
      obtain rfl:=Option.some.inj ho
      refine StepOk3.free rfl ?_;intro vals a V hC hn hdep hoth;obtain⟨v12,hv12,hev12⟩:=hdep _ (Array.mem_of_getElem? (i:=0) rfl) rfl;obtain⟨v10,hv10,hev10⟩:=hdep _ (Array.mem_of_getElem? (i:=1) rfl) rfl;obtain⟨v8,hv8,-⟩:=hdep _ (Array.mem_of_getElem? (i:=2) rfl) rfl;obtain⟨g8,r0,rfl,hrow,hlo⟩:=hC.c12 v12 hv12;obtain⟨r,rfl⟩:=hC.c10 v10 hv10;have x9:a.tmps[9]?.getD undef=.pointer (some ⟨g8,0,none⟩):=slot_of (hev12 9 rfl);have x28:a.tmps[28]?.getD undef=r.val:=slot_of (hev10 28 rfl);obtain⟨z0,z1,z2,z3⟩:=hrow.at;have q0:=hrow.frozen 0;have q1:=hrow.frozen 1;have q2:=hrow.frozen 2;have q3:=hrow.frozen 3;unfold Rec.val at x28;exact goodRun3.skip (w:=(((V.setCell ⟨g8,0,.none⟩ (.int .i64 (r.seq:Int))).setCell ⟨g8,1,.none⟩ (.int .i64 (r.ent:Int))).setCell ⟨g8,2,.none⟩ (.int .i64 (r.kind:Int))).setCell ⟨g8,3,.none⟩ (.int .i64 (r.tick:Int))) (by clear hdep hoth hC hev12 hev10 hrow;go_simp) (hC.laid (fun e=>by have e2:vals 8=some v8:=hv8;rw[e2] at e;cases e) (fun H1 V hh=>⟨H1,_,hh.1,HNow.out⟩) HPs.out hv12 hrow hlo rfl)
     | 14,ho=>
      obtain rfl:=Option.some.inj ho
      refine StepOk3.free rfl ?_;intro vals a V hC hn hdep hoth;obtain⟨v11,hv11,hev11⟩:=hdep _ (Array.mem_of_getElem? (i:=0) rfl) rfl;have hr:=hC.c11 v11 hv11;have x29:a.tmps[29]?.getD undef=errVal A (K2.app n kd tw).2:=(slot_of (hev11 29 rfl)).trans hr;clear hev11;exact goodRun3.val (w:=V) (c:=errVal A (K2.app n kd tw).2) (by clear hdep hoth hC hr;go_simp) (hC.later (Or.inr (Or.inr (Or.inr rfl))) (fun e=>by cases e) (fun e=>by cases e) (fun e=>by cases e) (fun _=>rfl))
     | n+15,ho=>simp at ho
   ·intro vals V hC hall;obtain⟨y0,hy0⟩:=Option.isSome_iff_exists.1 (hall 0 (by decide));obtain⟨y1,hy1⟩:=Option.isSome_iff_exists.1 (hall 1 (by decide));obtain⟨y2,hy2⟩:=Option.isSome_iff_exists.1 (hall 2 (by decide));obtain⟨y3,hy3⟩:=Option.isSome_iff_exists.1 (hall 3 (by decide));obtain⟨y4,hy4⟩:=Option.isSome_iff_exists.1 (hall 4 (by decide));obtain⟨y5,hy5⟩:=Option.isSome_iff_exists.1 (hall 5 (by decide));obtain⟨y6,hy6⟩:=Option.isSome_iff_exists.1 (hall 6 (by decide));obtain⟨y7,hy7⟩:=Option.isSome_iff_exists.1 (hall 7 (by decide));obtain⟨y8,hy8⟩:=Option.isSome_iff_exists.1 (hall 8 (by decide));obtain⟨y9,hy9⟩:=Option.isSome_iff_exists.1 (hall 9 (by decide));obtain⟨y10,hy10⟩:=Option.isSome_iff_exists.1 (hall 10 (by decide));obtain⟨y11,hy11⟩:=Option.isSome_iff_exists.1 (hall 11 (by decide));obtain⟨y12,hy12⟩:=Option.isSome_iff_exists.1 (hall 12 (by decide));obtain⟨y13,hy13⟩:=Option.isSome_iff_exists.1 (hall 13 (by decide));obtain⟨y14,hy14⟩:=Option.isSome_iff_exists.1 (hall 14 (by decide));obtain⟨_,H',hh,-⟩:=hC.pst y8 hy8;obtain rfl:=hC.c14 y14 hy14;have HH:Hid (KeTo H w0 w c kb bc bd rb bt lv bs (K2.app n kd tw).1 V):=⟨H',hh⟩;clear hC hall hh;simp only[fill,dstOf,hy0,hy1,hy2,hy3,hy4,hy5,hy6,hy7,hy8,hy9,hy10,hy11,hy12,hy13,hy14];clear hy0 hy1 hy2 hy3 hy4 hy5 hy6 hy7 hy8 hy9 hy10 hy11 hy12 hy13 hy14;go_simp
    go_wp2_with fail
    go_meet
    case rel=>exact⟨rfl,HH.out⟩
  case rest=>
  rename World=>W5
  obtain⟨rfl,hh⟩:=hcut;have HH:Hid _:=hh;clear hh;go_wp2;go_ret;rw[HS3.out];exact⟨rfl,HH.out⟩
end
def wdOut (A:Nat->Addr)(d:DSt)(cy:Nat):Ending:=.returned (.tuple #[.bool (!d.tick.reset && decide (d.tick.now % cy=0)),errVal A (if d.tick.reset=true then 11 else 0)])
section
variable {A:Nat->Addr}{w0 w w':World}{bd:Nat}{d:DSt}
theorem box_keeps {w w':World}{b:Nat}{cs:Array Value}{T:TypeId}(hg:(w.alloc (.cells cs T)).grownBy w' (some b))(hb:b < w.heap.size):w'.heap[w.heap.size]?=some (.cells cs T (0,0)):=
 (hg.block _ (by simp) (fun e=>by simp at e;omega)).trans (heap_alloc_new w _)
set_option maxHeartbeats 2000000 in
theorem wd_step (cy:Nat)(h:DogAt w bd d)(hr:d.reset=false)(hn:d.now < 1099511627776)(hcy:1<=cy)(hs:SenK A w0)(hbel:Below w0.heap.size w0 w)(hlo:w0.heap.size<=bd) :
  Calls Tryz.prog 171 #[.agg #[.pointer (some ⟨bd,0,none⟩),.int .i64 (cy:Int)]] w fun e w'=>e=wdOut A d cy/\DogAt w' bd d.tick/\Off (fun k=>k=bd) w w':=by
 have hlt:=h.lt;have hb1:=Below.one w (.cells #[.pointer (some ⟨bd,0,none⟩),.int .i64 (cy:Int)] 172);have HX:Hid _:=dog_tick bd d _ (h.below hb1) hr hn;have HB:Hid _:=hbel;have HS:Hid _:=hs;have HL:Hid (w0.heap.size<=bd/\w0.heap.size<=w.heap.size):=⟨hlo,hbel.size⟩;have HB1:Hid _:=hb1;clear h hs hbel hlo hb1 hn hr;have post:∀ w2:World,(w.alloc (.cells #[.pointer (some ⟨bd,0,none⟩),.int .i64 (cy:Int)] 172)).grownBy w2 (some bd)->Off (fun k=>k=bd) w w2:=fun w2 hg=>(Off.of_below HB1.out _).trans (Off.of_grown hg) (fun _ _ e=>e)
 have HP:Hid _:=post;clear post;go_enter Tryz.func171,Tryz.ntmps171
 go_wp2_with fail
 refine Calls.mono HX.out ?_;rintro e w2 ⟨rfl,hd2,hg2⟩;have hrow:=box_keeps hg2 hlt;have hof:=HP.out w2 hg2;have b0:w2.cell? ⟨w.heap.size,0,none⟩=some (.pointer (some ⟨bd,0,none⟩)):=by simp[World.cell?,hrow]
 have b1:w2.cell? ⟨w.heap.size,1,none⟩=some (.int .i64 (cy:Int)):=by simp[World.cell?,hrow]
 have hs2:SenK A w2:=HS.out.below (Off.below HB.out hof HL.out.2 (fun k hk=>by rw[hk];exact HL.out.1));have g10:=hs2.c10;have HR2:Hid _:=dog_reset bd d.tick w2 hd2;have HO:Hid _:=hof;have HD2:Hid _:=hd2;clear hrow hof hg2 hs2 hd2 HX HP HS HB HL
 cases hre:d.tick.reset
 ·rw[hre] at HR2;go_wp2_with fail
  refine Calls.mono HR2.out ?_;rintro e w3 ⟨rfl,rfl⟩;have z0:¬(cy:Int)=0:=by omega
  obtain⟨nw,hnw⟩:∃ n,n=d.tick.now:=⟨_,rfl⟩;have HNow:Hid (∀ q,Calls Tryz.prog 116 #[.pointer (some ⟨bd,0,none⟩)] (w3.drewN q) fun e w'=>e=.returned (.int .i64 (nw:Int))/\w'=w3.drewN q):=fun q=>by rw[hnw];exact dog_now bd d.tick _ (HD2.out.drewN q)
  have HNW:Hid (nw=d.tick.now):=hnw;clear hnw;go_wp2_with fail
  go_quiet (first | (go_at_call 116;exact Calls.quiet_of_same (HNow.out _)))
  have HQ:Hid (((nw:Int) % (cy:Int) == 0)=decide (nw % cy=0)):=by
   show _=_
   by_cases hm:nw % cy=0
   ·rw[decide_eq_true hm,show (nw:Int) % (cy:Int)=0 by omega];rfl
   ·rw[decide_eq_false hm];simp;omega
  have HRe:Hid (d.tick.reset=false):=hre;clear hre;go_wp2;go_ret2
  exact⟨by show Ending.returned (.tuple #[.bool ((nw:Int) % (cy:Int) == 0),.nilIface])=_;unfold wdOut;rw[HRe.out,<- HNW.out,HQ.out];rfl,HD2.out.drewN _,HO.out.trans (Off.of_below (below_drewN (Below.refl _ _) _) _) (fun _ _ e=>e)⟩
 ·rw[hre] at HR2;go_wp2_with fail
  refine Calls.mono HR2.out ?_;rintro e w3 ⟨rfl,rfl⟩;go_wp2_with fail
  go_quiet (fail)
  go_wp2;go_ret2
  exact⟨by show Ending.returned (.tuple #[.bool false,errVal A 11])=_;unfold wdOut;rw[hre];rfl,HD2.out.drewN _,HO.out.trans (Off.of_below (below_drewN (Below.refl _ _) _) _) (fun _ _ e=>e)⟩
set_option maxHeartbeats 2000000 in
theorem wd_feed (cy:Int)(h:DogAt w bd d) :
  Calls Tryz.prog 240 #[.agg #[.pointer (some ⟨bd,0,none⟩),.int .i64 cy]] w fun e w'=>e=.returned .nilIface/\DogAt w' bd (if d.isOpen=true then d.kick else d)/\Off (fun k=>k=bd) w w':=by
 have hlt:=h.lt;have hb1:=Below.one w (.cells #[.pointer (some ⟨bd,0,none⟩),.int .i64 cy] 172);have h1:=h.below hb1;have HX:Hid _:=dog_open bd d _ h1;have H1:Hid _:=h1;have HB1:Hid _:=hb1;clear h hb1 h1
 cases ho:d.isOpen
 ·rw[ho] at HX;go_enter Tryz.func240,Tryz.ntmps240
  go_wp2_with fail
  refine Calls.mono HX.out ?_;rintro e w2 ⟨rfl,q,rfl⟩;go_wp2;go_ret;exact⟨rfl,H1.out.drewN _,(Off.of_below HB1.out _).trans (Off.of_below (below_drewN (Below.refl _ _) _) _) (fun _ _ e=>e)⟩
 ·rw[ho] at HX;go_enter Tryz.func240,Tryz.ntmps240
  go_wp2_with fail
  refine Calls.mono HX.out ?_;rintro e w2 ⟨rfl,q,rfl⟩;go_wp2_with fail
  refine(dog_kick bd d _ (H1.out.drewN q) ho).mono ?_;rintro e w3 ⟨rfl,hd3,hg3⟩;go_wp2;go_ret;exact⟨rfl,hd3,((Off.of_below HB1.out _).trans (Off.of_below (below_drewN (Below.refl _ _) _) _) (fun _ _ e=>e)).trans (Off.of_grown hg3) (fun _ _ e=>e)⟩
end
end Go.Proofs.YtffpcbdlbcjihadGreatDoor
