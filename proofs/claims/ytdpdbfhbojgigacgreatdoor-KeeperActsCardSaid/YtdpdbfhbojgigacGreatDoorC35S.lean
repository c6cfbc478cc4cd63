/-
  Several texts as one: KmApR, KmLong.
-/
import Derived.Test.YtdpdbfhbojgigacGreatDoorC34S
namespace Go.Proofs.YtdpdbfhbojgigacGreatDoor
open Go.RowKit Go.Extern.Stop Go.Stop Go.Extern
def apK (kb bd rm n kd tw:Nat):Nat->Value
 | 0=>.pointer (some ⟨kb,0,none⟩)
 | 1=>.pointer (some ⟨kb,0,none⟩)
 | 2=>.pointer (some ⟨kb,7,none⟩)
 | 3=>.pointer (some ⟨rm,0,none⟩)
 | 4=>.int .i64 (n:Int)
 | 5=>.int .i64 (kd:Int)
 | 6=>.pointer (some ⟨kb,0,none⟩)
 | 7=>.pointer (some ⟨kb,0,none⟩)
 | 8=>.pointer (some ⟨kb,6,none⟩)
 | 9=>.pointer (some ⟨bd,0,none⟩)
 | 10=>.pointer (some ⟨bd,0,none⟩)
 | 11=>.pointer (some ⟨bd,2,none⟩)
 | 12=>.int .i64 (tw:Int)
 | _=>undef
structure ApC (w3:World)(kb bd rm n kd tw code:Nat)(P:(Nat->Nat->Prop)->World->Prop)(vals:Nat->Option Value)(V:World):Prop where
 cs:∀ j,j < 13->∀ v,vals j=some v->v=apK kb bd rm n kd tw j
 ce:V.cell? ⟨kb,7,none⟩=some (.pointer (some ⟨rm,0,none⟩))/\V.cell? ⟨kb,6,none⟩=some (.pointer (some ⟨bd,0,none⟩))/\V.cell? ⟨bd,2,none⟩=some (.int .i64 (tw:Int))
 sz:w3.heap.size<=V.heap.size
 pre:vals 13=none->Below w3.heap.size w3 V
 pst:∀ u,vals 13=some u->(∃ r:Rec,u=.tuple #[r.val,.int .i64 (code:Int)])/\∃ H,P H V/\(∀ i k,H i k->k < V.heap.size)/\∀ g,vals 17=some (.pointer (some ⟨g,0,none⟩))->∀ i,¬H i g
 c14:∀ u,vals 14=some u->∃ r:Rec,u=.tuple #[r.val,.int .i64 (code:Int)]
 c15:∀ u,vals 15=some u->∃ r:Rec,u=r.val
 c16:∀ u,vals 16=some u->u=.int .i64 (code:Int)
 c17:∀ u,vals 17=some u->∃ (g:Nat) (r:Rec),u=.pointer (some ⟨g,0,none⟩)/\RecRow V g r/\w3.heap.size<=g
 d18:vals 18≠none->vals 13≠none
 c19:∀ u,vals 19=some u->u=.int .i64 (code:Int)
section
variable {w3 V V':World}{kb bd rm n kd tw code:Nat}{P:(Nat->Nat->Prop)->World->Prop}{vals:Nat->Option Value}{i:Nat}{u:Value}
theorem ApC.start (hb:Below w3.heap.size w3 V)(hc:(V.cell? ⟨kb,7,none⟩=some (.pointer (some ⟨rm,0,none⟩))/\V.cell? ⟨kb,6,none⟩=some (.pointer (some ⟨bd,0,none⟩))/\V.cell? ⟨bd,2,none⟩=some (.int .i64 (tw:Int)))):ApC w3 kb bd rm n kd tw code P (fun _=>.none) V:=
 ⟨fun _ _ _ h=>(by cases h),hc,hb.size,fun _=>hb,fun _ h=>(by cases h),fun _ h=>(by cases h),fun _ h=>(by cases h),fun _ h=>(by cases h),fun _ h=>(by cases h),fun h=>absurd rfl h,fun _ h=>(by cases h)⟩
theorem ApC.const (h:ApC w3 kb bd rm n kd tw code P vals V)(hi:i < 13)(hu:u=apK kb bd rm n kd tw i):ApC w3 kb bd rm n kd tw code P (upd vals i u) V:=by
 have o:∀ j,13<=j->upd vals i u j=vals j:=fun j hj=>upd_other vals u (by omega)
 refine⟨fun j hj v hv=>?_,h.ce,h.sz,fun h13=>h.pre (by rwa [o 13 (by omega)] at h13),fun x hx=>?_,fun x hx=>h.c14 x (by rwa [o 14 (by omega)] at hx),fun x hx=>h.c15 x (by rwa [o 15 (by omega)] at hx),fun x hx=>h.c16 x (by rwa [o 16 (by omega)] at hx),fun x hx=>h.c17 x (by rwa [o 17 (by omega)] at hx),fun hx=>by rw[o 13 (by omega)];exact h.d18 (by rwa [o 18 (by omega)] at hx),fun x hx=>h.c19 x (by rwa [o 19 (by omega)] at hx)⟩
 ·by_cases e:j=i
  ·subst e;rw[upd_same] at hv;exact(Option.some.inj hv).symm.trans hu
  ·exact h.cs j hj v (by rwa [upd_other vals u e] at hv)
 ·obtain⟨h1,H,h2,h3,h4⟩:=h.pst x (by rwa [o 13 (by omega)] at hx);exact⟨h1,H,h2,h3,fun g hg=>h4 g (by rwa [o 17 (by omega)] at hg)⟩
theorem ApC.later (h:ApC w3 kb bd rm n kd tw code P vals V)(hi:i=14\/i=15\/i=16\/i=19)(h14:i=14->∃ r:Rec,u=.tuple #[r.val,.int .i64 (code:Int)])(h15:i=15->∃ r:Rec,u=r.val)(h16:i=16->u=.int .i64 (code:Int))(h19:i=19->u=.int .i64 (code:Int)):ApC w3 kb bd rm n kd tw code P (upd vals i u) V:=by
 have o:∀ j,j≠i->upd vals i u j=vals j:=fun j hj=>upd_other vals u hj
 have g:∀ j x,upd vals i u j=some x->(j=i/\x=u)\/vals j=some x:=fun j x hx=>by
  by_cases e:j=i
  ·subst e;rw[upd_same] at hx;exact Or.inl ⟨rfl,(Option.some.inj hx).symm⟩
  ·exact Or.inr (by rwa [o j e] at hx)
 refine⟨fun j hj v hv=>h.cs j hj v (by rwa [o j (by omega)] at hv),h.ce,h.sz,fun h13=>h.pre (by rwa [o 13 (by omega)] at h13),fun x hx=>?_,fun x hx=>?_,fun x hx=>?_,fun x hx=>?_,fun x hx=>h.c17 x (by rwa [o 17 (by omega)] at hx),fun hx=>by rw[o 13 (by omega)];exact h.d18 (by rwa [o 18 (by omega)] at hx),fun x hx=>?_⟩
 ·obtain⟨h1,H,h2,h3,h4⟩:=h.pst x (by rwa [o 13 (by omega)] at hx);exact⟨h1,H,h2,h3,fun g hg=>h4 g (by rwa [o 17 (by omega)] at hg)⟩
 ·rcases g 14 x hx with ⟨e,rfl⟩ | e
  ·exact h14 e.symm
  ·exact h.c14 x e
 ·rcases g 15 x hx with ⟨e,rfl⟩ | e
  ·exact h15 e.symm
  ·exact h.c15 x e
 ·rcases g 16 x hx with ⟨e,rfl⟩ | e
  ·exact h16 e.symm
  ·exact h.c16 x e
 ·rcases g 19 x hx with ⟨e,rfl⟩ | e
  ·exact h19 e.symm
  ·exact h.c19 x e
theorem ApC.made (h:ApC w3 kb bd rm n kd tw code P vals V)(hP:∀ H W W',P H W->Below W.heap.size W W'->P H W'):ApC w3 kb bd rm n kd tw code P (upd vals 17 (.pointer (some ⟨V.heap.size,0,none⟩))) (V.alloc (.cells #[.int .i64 0,.int .i64 0,.int .i64 0,.int .i64 0] 57)):=by
 have o:∀ j,j≠17->upd vals 17 (.pointer (some ⟨V.heap.size,0,none⟩)) j=vals j:=fun j hj=>upd_other vals _ hj
 have hb:Below V.heap.size V (V.alloc (.cells #[.int .i64 0,.int .i64 0,.int .i64 0,.int .i64 0] 57)):=Below.one _ _
 refine⟨fun j hj v hv=>h.cs j hj v (by rwa [o j (by omega)] at hv),⟨cell_below hb h.ce.1,cell_below hb h.ce.2.1,cell_below hb h.ce.2.2⟩,Nat.le_trans h.sz hb.size,fun h13=>(h.pre (by rwa [o 13 (by omega)] at h13)).trans (hb.mono h.sz),fun x hx=>?_,fun x hx=>h.c14 x (by rwa [o 14 (by omega)] at hx),fun x hx=>h.c15 x (by rwa [o 15 (by omega)] at hx),fun x hx=>h.c16 x (by rwa [o 16 (by omega)] at hx),fun x hx=>?_,fun hx=>by rw[o 13 (by omega)];exact h.d18 (by rwa [o 18 (by omega)] at hx),fun x hx=>h.c19 x (by rwa [o 19 (by omega)] at hx)⟩
 ·obtain⟨h1,H,h2,h3,h4⟩:=h.pst x (by rwa [o 13 (by omega)] at hx)
  refine⟨h1,H,hP H V _ h2 hb,fun i k hk=>Nat.lt_of_lt_of_le (h3 i k hk) hb.size,fun g hg i hi=>?_⟩;rw[upd_same] at hg
  cases hg
  have:=h3 i _ hi;omega
 ·rw[upd_same] at hx
  cases hx
  exact⟨_,.none,rfl,RecRow.new V .none,h.sz⟩
theorem ApC.call (h:ApC w3 kb bd rm n kd tw code P vals V)(hc:(V'.cell? ⟨kb,7,none⟩=some (.pointer (some ⟨rm,0,none⟩))/\V'.cell? ⟨kb,6,none⟩=some (.pointer (some ⟨bd,0,none⟩))/\V'.cell? ⟨bd,2,none⟩=some (.int .i64 (tw:Int)))){r:Rec}{H:Nat->Nat->Prop}(hp:P H V')(hz:V.heap.size<=V'.heap.size)(hl:∀ i k,H i k->k < V'.heap.size)(hH:∀ i k,H i k->k < w3.heap.size\/V.heap.size<=k)(hq:∀ q,w3.heap.size<=q->q < V.heap.size->V'.heap[q]?=V.heap[q]?):ApC w3 kb bd rm n kd tw code P (upd vals 13 (.tuple #[r.val,.int .i64 (code:Int)])) V':=by
 have o:∀ j,j≠13->upd vals 13 (.tuple #[r.val,.int .i64 (code:Int)]) j=vals j:=fun j hj=>upd_other vals _ hj
 refine⟨fun j hj v hv=>h.cs j hj v (by rwa [o j (by omega)] at hv),hc,Nat.le_trans h.sz hz,fun h13=>(by rw[upd_same] at h13;cases h13),fun x hx=>?_,fun x hx=>h.c14 x (by rwa [o 14 (by omega)] at hx),fun x hx=>h.c15 x (by rwa [o 15 (by omega)] at hx),fun x hx=>h.c16 x (by rwa [o 16 (by omega)] at hx),fun x hx=>?_,fun _=>by rw[upd_same];simp,fun x hx=>h.c19 x (by rwa [o 19 (by omega)] at hx)⟩
 ·rw[upd_same] at hx
  cases hx
  refine⟨⟨r,rfl⟩,H,hp,hl,fun g hg i hi=>?_⟩;rw[o 17 (by omega)] at hg;obtain⟨g',r',e,hr,hlo⟩:=h.c17 _ hg
  cases e
  have:=hr.lt
  rcases hH i g hi with h1 | h1 <;> omega
 ·rw[o 17 (by omega)] at hx;obtain⟨g,r',e,hr,hlo⟩:=h.c17 x hx;exact⟨g,r',e,⟨(hq g hlo hr.lt).trans hr.heap⟩,hlo⟩
theorem ApC.laid (h:ApC w3 kb bd rm n kd tw code P vals V)(h13:vals 13≠.none)(hPc:∀ H V,P H V->(V.cell? ⟨kb,7,none⟩=some (.pointer (some ⟨rm,0,none⟩))/\V.cell? ⟨kb,6,none⟩=some (.pointer (some ⟨bd,0,none⟩))/\V.cell? ⟨bd,2,none⟩=some (.int .i64 (tw:Int))))(hP:∀ H W W' g,P H W->Off (fun k=>k=g) W W'->(∀ i,¬H i g)->w3.heap.size<=g->P H W'){g:Nat}{r r0:Rec}(hg:vals 17=some (.pointer (some ⟨g,0,none⟩)))(hr:RecRow V g r0)(hlo:w3.heap.size<=g)(hV:V'=(((V.setCell ⟨g,0,.none⟩ (.int .i64 (r.seq:Int))).setCell ⟨g,1,.none⟩ (.int .i64 (r.ent:Int))).setCell ⟨g,2,.none⟩ (.int .i64 (r.kind:Int))).setCell ⟨g,3,.none⟩ (.int .i64 (r.tick:Int))):ApC w3 kb bd rm n kd tw code P (upd vals 18 undef) V':=by
 have o:∀ j,j≠18->upd vals 18 undef j=vals j:=fun j hj=>upd_other vals _ hj
 have hg4:V.grownBy V' (some g):=by rw[hV];exact grown_set4 _ _ _ _ _ _
 have hc':(V'.cell? ⟨kb,7,none⟩=some (.pointer (some ⟨rm,0,none⟩))/\V'.cell? ⟨kb,6,none⟩=some (.pointer (some ⟨bd,0,none⟩))/\V'.cell? ⟨bd,2,none⟩=some (.int .i64 (tw:Int))):=by
  cases e:vals 13 with
  | none=>exact absurd e h13
  | some u=>
   obtain⟨_,H,h2,h3,h4⟩:=h.pst u e;exact hPc H V' (hP H V V' g h2 (Off.of_grown hg4) (h4 g hg) hlo)
 refine⟨fun j hj v hv=>h.cs j hj v (by rwa [o j (by omega)] at hv),hc',Nat.le_trans h.sz hg4.size,fun e=>(by rw[o 13 (by omega)] at e;exact absurd e h13),fun x hx=>?_,fun x hx=>h.c14 x (by rwa [o 14 (by omega)] at hx),fun x hx=>h.c15 x (by rwa [o 15 (by omega)] at hx),fun x hx=>h.c16 x (by rwa [o 16 (by omega)] at hx),fun x hx=>?_,fun _=>by rw[o 13 (by omega)];exact h13,fun x hx=>h.c19 x (by rwa [o 19 (by omega)] at hx)⟩
 ·obtain⟨h1,H,h2,h3,h4⟩:=h.pst x (by rwa [o 13 (by omega)] at hx);exact⟨h1,H,hP H V V' g h2 (Off.of_grown hg4) (h4 g hg) hlo,fun i k hk=>Nat.lt_of_lt_of_le (h3 i k hk) hg4.size,fun g' hg'=>h4 g' (by rwa [o 17 (by omega)] at hg')⟩
 ·rw[o 17 (by omega),hg] at hx
  cases hx
  exact⟨g,r,rfl,by rw[hV];exact hr.set4 r,hlo⟩
end
theorem Tryz.infoStrK:(Tryz.prog.info? 9).map (fun i=>(i.zero,i.size,i.bytes))=some (some (.string ⟨#[]⟩),1,16):=by kernel_rfl
theorem cell_row {w:World}{b j:Nat}{cs:Array Value}{T:TypeId}{fr:Nat × Nat}{u:Value}(h:w.heap[b]?=some (.cells cs T fr))(hu:cs[j]?=some u):w.cell? ⟨b,j,none⟩=some u:=by simp[World.cell?,h,hu]
section
variable {H:Nat->Nat->Prop}{F:Nat->Prop}{w0 w w':World}{c:CfgD}{ev:Value}{kb bm bd rm bt:Nat}{v lv:Value}{m:MSt}{bs:List Nat}{K:KSt}{k W:Nat}
set_option maxHeartbeats 8000000 in
set_option maxRecDepth 100000 in
theorem km_tick_long (h:KmAt F w0 w c ev kb bm K)(hr:KRt c)(hf:KFit c K k (144*K.d.now))(hk:k<=1000)(hn:k+K.d.now+1<=900000)(ho:K.on=0)(hre:K.ticked.d.reset=false)(hmod:K.ticked.d.now % c.cycle.toNat=0) :
  Calls Tryz.prog 116 #[.pointer (some ⟨kb,0,none⟩)] w fun e w'=>e=.returned (.int .i64 ((K.tick c).2:Int))/\KmPost F w0 w c ev kb bm (K.tick c).1 w':=by
 obtain⟨i0,hi0,hz0,hz1,hz2⟩:=info_parts Tryz.infoStrK;obtain⟨H,bd,rm,bt,v,lv,m,bs,h1,hF⟩:=h;have HC:Hid (Calls Tryz.prog 111 #[.pointer (some ⟨kb,0,none⟩)] w fun e w'=>e=.returned (.int .i64 (K.on:Int))/\w'=w):=km_on h1;have c6:w.cell? ⟨kb,6,none⟩=some (.pointer (some ⟨bd,0,none⟩)):=h1.cell 6 _ rfl;rw[ho] at HC;obtain⟨o1,o2⟩:=KSt.on_zero.1 ho;have HW0:Hid (w0.heap.size<=w.heap.size):=h1.bel.size;have HT:Hid (K.tick c=if (K.ticked.ends c c.ents.length).2=0 then ((K.ticked.ends c c.ents.length).1.last,0) else K.ticked.ends c c.ents.length):=by show _=_;unfold KSt.tick;rw[if_neg (by omega),if_neg (by rw[hre];simp),if_neg (by omega)]
 obtain⟨t1,t2,t3⟩:=hf.ticked (by omega);have HE:Hid (∀ n,KFit c (K.ticked.ends c n).1 k (144*K.d.now+18*n)/\((K.ticked.ends c n).2=0->(K.ticked.ends c n).1.c.off=false/\(K.ticked.ends c n).1.sp=false)/\(K.ticked.ends c n).1.d=K.ticked.d/\(K.ticked.ends c n).1.t=K.ticked.t/\∀ j,n<=j->(K.ticked.ends c n).1.ls[j]?=K.ticked.ls[j]?):=t1.ends o1 t2 t3;have HT2:Hid ((∀ s∈K.ticked.ls,LFit s (k+K.ticked.d.now - 1))/\1<=K.ticked.d.now):=⟨t2,t3⟩;have HR:Hid (KRt c):=hr;have HN:Hid (k<=1000/\k+K.ticked.d.now<=900000/\c.ents.length<=8):=⟨hk,by show k+(K.d.now+1)<=900000;omega,hr.nn⟩;have H1:Hid _:=h1;have HF:Hid _:=hF;have hnow:K.d.now < 1099511627776:=by omega
 clear h1 hF t1 t2 t3 hf hk hn ho;go_enter Tryz.func116,Tryz.ntmps116
 go_wp2_with fail
 refine HC.out.mono ?_;rintro e w' ⟨rfl,rfl⟩;go_wp2_with fail
 refine(km_dtick H1.out o2 hnow).mono ?_;rintro e w2 ⟨rfl,h2,hof⟩;have HL:Hid (KmLp (updH H 3 w' w2) F w0 w' w2 c ev kb bm bd rm bt v lv m bs K.ticked (.slice none 0 0) []):=⟨h2,updH_all HF.out 3,Off.all HF.out hof,World.ownsRow_nil _ _ _ _,fun k hk=>by cases hk⟩;have e6:w2.cell? ⟨kb,6,none⟩=some (.pointer (some ⟨bd,0,none⟩)):=h2.cell 6 _ rfl;have e2:w2.cell? ⟨kb,2,none⟩=some (.int .i64 c.cycle):=h2.cell 2 _ rfl;have d2:=h2.dog.c2;have d5:=h2.dog.c5;rw[hre] at d5;have hcy:=hr.cy;clear h2 hof;obtain⟨nw,hnw⟩:∃ n,n=K.ticked.d.now:=⟨_,rfl⟩;obtain⟨cy,hcy2⟩:∃ n:Nat,c.cycle=(n:Int):=⟨c.cycle.toNat,by omega⟩;rw[<- hnw] at d2 hmod;rw[hcy2] at e2;have hcn:c.cycle.toNat=cy:=by omega
 rw[hcn] at hmod;have z0:¬(cy:Int)=0:=by omega
 have HNW:Hid (nw=K.ticked.d.now):=hnw;clear hcy hcn hnw hcy2 hr;go_wp2_with fail
 go_quiet (fail)
 have q1:(nw:Int) % (cy:Int)=0:=by omega
 go_upto_region 10 with fail
 go_cut [4] (fun kv wx=>kv=.slice none 0 0/\wx.heap=w2.heap/\Below w2.heap.size w2 wx)
 case first=>
  go_wp2_with fail
  go_meet
  case rel=>exact⟨rfl,rfl,below_drewN (Below.refl _ _) _⟩
 obtain⟨rfl,-,hbx⟩:=hcut;rename World=>W2
 have HL2:Hid (KmLp (updH H 3 w' w2) F w0 w' W2 c ev kb bm bd rm bt v lv m bs K.ticked (.slice none 0 0) []):=HL.out.below hbx;clear HL hbx e6 e2 d2 d5 q1 hmod z0 c6;go_upto_region 11 with fail
 go_cut [5] (fun i wx=>i=.int .i64 0/\wx=W2)
 case first=>
  go_wp2_with fail
  go_meet
  case rel=>exact⟨rfl,rfl⟩
 obtain⟨rfl,rfl⟩:=hcut;go_wp2_with fail
 go_loopw [4,5,6,7,8,9] (fun kv i _ _ _ _ wr=>∃ n:Nat,n<=c.ents.length/\i=.int .i64 n/\(K.ticked.ends c n).2=0/\∃ H v m,KmLp H F w0 w' wr c ev kb bm bd rm bt v lv m bs (K.ticked.ends c n).1 kv (statsL (K.ticked.ends c n).1 n)) (fun _ i _ _ _ _ _=>c.ents.length - (intOf i).toNat)
 case atStart=>exact⟨0,Nat.zero_le _,rfl,rfl,_,_,_,HL2.out⟩
 case round=>
  clear HL2;obtain⟨n,hnl,rfl,h0,H,v,m,L⟩:=hrel;have hsl:(statsL (K.ticked.ends c n).1 n).length=n:=by unfold statsL;rw[List.length_map,List.length_take,L.km.llen];omega
  obtain⟨ka,kc,hkv⟩:=ow_form L.own;rw[hsl] at hkv;subst hkv;have HSl:Hid ((statsL (K.ticked.ends c n).1 n).length=n):=hsl;clear hsl
  by_cases hlt:n < c.ents.length
  ·have hlen:(K.ticked.ends c n).1.ls.length=c.ents.length:=L.km.llen;obtain⟨s,hs⟩:∃ s,(K.ticked.ends c n).1.ls[n]?=some s:=⟨_,List.getElem?_eq_getElem (by omega)⟩;obtain⟨b,e,E,g,cap,hb,he,hlv,cp,h4,h5⟩:=L.km.locAt hs;rw[hlen] at hlv;subst hlv;obtain⟨f1,f2,f3,f4,f5⟩:=HE.out n;have f2':=f2 h0;have e8:wr.cell? ⟨kb,8,none⟩=some (.slice (some ⟨g,0,none⟩) c.ents.length cap):=L.km.cell 8 _ rfl;have HX:Hid _:=km_lend L.km HR.out f1 HN.out.1 (by rw[f3];exact HN.out.2.1) hs hb he h4 h5;have HStep:Hid _:=ends_step c K.ticked n h0 hs he;have HStat:Hid (statsL ((K.ticked.ends c n).1.setL n (s.fin e)) (n+1)=statsL (K.ticked.ends c n).1 n++[statB (s.fin e).status]):=stats_set (by omega);have HLs:Hid (((K.ticked.ends c n).1.setL n (s.fin e)).ls[n]?=some (s.fin e)):=by
    show (List.set _ _ _)[n]?=_
    rw[List.getElem?_set_self (by omega)]
   have HFit:Hid (KFit c ((K.ticked.ends c n).1.setL n (s.fin e)) k (144*K.d.now+18*n)/\((K.ticked.ends c n).1.setL n (s.fin e)).c.off=false/\(K.ticked.ends c n).1.d=K.ticked.d):=⟨f1.finL hs (by rw[f3];exact HT2.out.1 s (by rw[f5 n (Nat.le_refl _)] at hs;exact List.mem_of_getElem? hs)) (by rw[f3];exact HT2.out.2) e,f2'.1,f3⟩;have HL:Hid _:=L;have k1:(n:Int) < (c.ents.length:Int):=by omega
   have k2:n < 8:=by have:=HN.out.2.2;omega
   obtain⟨kd,hkd⟩:∃ kd:Nat,s.kind e=(kd:Int):=⟨(s.kind e).toNat,by have:=(kind_le e s).1;omega⟩;have hkd3:kd<=3:=by have:=(kind_le e s).2;omega
   clear L hb he h4 h5 hs hlen f1 f2 f3 f4 f5 f2';go_wp2_with fail
   refine Calls.mono HX.out ?_;rintro u w3 ⟨rfl,hkm,hof⟩;have HL3:Hid _:=HL.out.step hof hkm;clear hkm hof HX;rw[hkd];go_upto_if 64 with fail
   go_cut [7,8,9] (fun _ _ _ wx=>(K.ticked.ends c (n+1)).2=0/\∃ H v m,KmLp H F w0 w' wx c ev kb bm bd rm bt v (.slice (some ⟨g,0,none⟩) c.ents.length cap) m bs (K.ticked.ends c (n+1)).1 (.slice ka n kc) (statsL (K.ticked.ends c n).1 n)/\(K.ticked.ends c (n+1)).1.ls[n]?=some (s.fin e)/\statsL (K.ticked.ends c (n+1)).1 (n+1)=statsL (K.ticked.ends c n).1 n++[statB (s.fin e).status])
   case first=>
    cases ht:s.turns e
    ·have HS2:Hid (K.ticked.ends c (n+1)=((K.ticked.ends c n).1.setL n (s.fin e),0)):=by have:=HStep.out;rw[ht,if_neg (by simp)] at this;exact this
     go_wp2_with fail
     go_meet
     case rel=>
      rw[HS2.out];exact⟨rfl,_,_,_,HL3.out,HLs.out,HStat.out⟩
    ·have HS2:Hid (K.ticked.ends c (n+1)=((K.ticked.ends c n).1.setL n (s.fin e)).app n kd (K.ticked.ends c n).1.d.now):=by have:=HStep.out;rw[ht,if_pos rfl,hkd] at this;exact this
     have e7:w3.cell? ⟨kb,7,none⟩=some (.pointer (some ⟨rm,0,none⟩)):=HL3.out.km.cell 7 _ rfl;have e6:w3.cell? ⟨kb,6,none⟩=some (.pointer (some ⟨bd,0,none⟩)):=HL3.out.km.cell 6 _ rfl;have d2:w3.cell? ⟨bd,2,none⟩=some (.int .i64 ((K.ticked.ends c n).1.d.now:Int)):=HL3.out.km.dog.c2;have hfit:=HFit.out;have HL3':=HL3.out;obtain⟨K2,hK2⟩:∃ X,X=(K.ticked.ends c n).1.setL n (s.fin e):=⟨_,rfl⟩;obtain⟨tw,htw⟩:∃ X,X=(K.ticked.ends c n).1.d.now:=⟨_,rfl⟩;rw[<- hK2] at hfit HL3';rw[<- htw] at d2;have HS3:Hid (K.ticked.ends c (n+1)=K2.app n kd tw):=by have:=HS2.out;rw[<- hK2,<- htw] at this;exact this
     have HA:Hid _:=HL3'.append hfit.1 (by have:=HN.out.2;rw[show K.ticked.d.now=K.d.now+1 from rfl] at this;omega) hfit.2.1 n kd tw (by omega) (by omega) (by rw[htw,hfit.2.2];have:=HN.out.2.1;omega);have HSc:Hid (∀ kvk,(Value.slice ka n kc).ownBlock=some kvk->kvk < w3.heap.size):=fun k hk=>(HL3'.own.lt k hk).2
     have hKd:K2.d.now=tw:=by rw[hK2,htw];rfl
     have HKc:Hid (∀ (V:World),(∃ H' v' m',KmLp H' F w0 w' V c ev kb bm bd rm bt v' (.slice (some ⟨g,0,none⟩) c.ents.length cap) m' bs (K2.app n kd tw).1 (.slice ka n kc) (statsL (K.ticked.ends c n).1 n))->V.cell? ⟨kb,7,none⟩=some (.pointer (some ⟨rm,0,none⟩))/\V.cell? ⟨kb,6,none⟩=some (.pointer (some ⟨bd,0,none⟩))/\V.cell? ⟨bd,2,none⟩=some (.int .i64 (tw:Int))):=fun V ⟨H',v',m',hh⟩=>⟨hh.km.cell 7 _ rfl,hh.km.cell 6 _ rfl,by have:=hh.km.dog.c2;rwa [app_d,hKd] at this⟩
     clear hKd;have HW3:Hid (w'.heap.size<=w3.heap.size):=HL3'.off.size;have HK2:Hid (K2=(K.ticked.ends c n).1.setL n (s.fin e)):=hK2;clear hfit HL3' hK2 htw;go_upto_region 16 with fail
     go_cut [8,9] (fun _ ev' wx=>ev'=.int .i64 ((K2.app n kd tw).2:Int)/\∃ H' v' m',KmLp H' F w0 w' wx c ev kb bm bd rm bt v' (.slice (some ⟨g,0,none⟩) c.ents.length cap) m' bs (K2.app n kd tw).1 (.slice ka n kc) (statsL (K.ticked.ends c n).1 n))
     case first=>
      have HPb:Hid (∀ (H':Nat->Nat->Prop) (W W':World),(∃ v' m',KmLp H' F w0 w' W c ev kb bm bd rm bt v' (.slice (some ⟨g,0,none⟩) c.ents.length cap) m' bs (K2.app n kd tw).1 (.slice ka n kc) (statsL (K.ticked.ends c n).1 n))->Below W.heap.size W W'->∃ v' m',KmLp H' F w0 w' W' c ev kb bm bd rm bt v' (.slice (some ⟨g,0,none⟩) c.ents.length cap) m' bs (K2.app n kd tw).1 (.slice ka n kc) (statsL (K.ticked.ends c n).1 n)):=fun H' W W' ⟨v',m',hh⟩ hb=>⟨v',m',hh.below hb⟩
      have HPs:Hid (∀ (H':Nat->Nat->Prop) (W W':World) (q:Nat),(∃ v' m',KmLp H' F w0 w' W c ev kb bm bd rm bt v' (.slice (some ⟨g,0,none⟩) c.ents.length cap) m' bs (K2.app n kd tw).1 (.slice ka n kc) (statsL (K.ticked.ends c n).1 n))->Off (fun k=>k=q) W W'->(∀ i,¬H' i q)->w3.heap.size<=q->∃ v' m',KmLp H' F w0 w' W' c ev kb bm bd rm bt v' (.slice (some ⟨g,0,none⟩) c.ents.length cap) m' bs (K2.app n kd tw).1 (.slice ka n kc) (statsL (K.ticked.ends c n).1 n)):=fun H' W W' q ⟨v',m',hh⟩ ho hno hlo=>⟨v',m',hh.scratch HW0.out ho hno (fun e=>by have:=HSc.out q e;omega) (Nat.le_trans HW3.out hlo)⟩
      refine region_spec3 20 rfl (ApC w3 kb bd rm n kd tw (K2.app n kd tw).2 (fun H' V=>∃ v' m',KmLp H' F w0 w' V c ev kb bm bd rm bt v' (.slice (some ⟨g,0,none⟩) c.ents.length cap) m' bs (K2.app n kd tw).1 (.slice ka n kc) (statsL (K.ticked.ends c n).1 n))) (by kernel_rfl) (by kernel_rfl) (ApC.start (below_drewN (Below.refl _ _) 1) ⟨e7,e6,d2⟩) ?_ ?_
      ·intro i o ho
       match i,ho with
       | 0,ho=>
        obtain rfl:=Option.some.inj ho
        refine StepOk3.free rfl ?_;intro vals a V hC hn hdep hoth;have x0:a.tmps[0]?.getD undef=.pointer (some ⟨kb,0,none⟩):=slot_of (hoth 0 (notDst (by kernel_rfl)));exact goodRun3.val (w:=V) (c:=.pointer (some ⟨kb,0,none⟩)) (by clear hdep hoth hC;go_simp) (hC.const (by decide) rfl)
       | 1,ho=>
        obtain rfl:=Option.some.inj ho
        refine StepOk3.free rfl ?_;intro vals a V hC hn hdep hoth;obtain⟨v0,hv0,hev0⟩:=hdep _ (Array.mem_of_getElem? (i:=0) rfl) rfl;have x66:a.tmps[66]?.getD undef=.pointer (some ⟨kb,0,none⟩):=(slot_of (hev0 66 rfl)).trans (hC.cs 0 (by decide) v0 hv0);clear hev0 hv0;exact goodRun3.val (w:=V) (c:=.pointer (some ⟨kb,0,none⟩)) (by clear hdep hoth hC;go_simp) (hC.const (by decide) rfl)
       | 2,ho=>
        obtain rfl:=Option.some.inj ho
        refine StepOk3.free rfl ?_;intro vals a V hC hn hdep hoth;obtain⟨v1,hv1,hev1⟩:=hdep _ (Array.mem_of_getElem? (i:=0) rfl) rfl;have x67:a.tmps[67]?.getD undef=.pointer (some ⟨kb,0,none⟩):=(slot_of (hev1 67 rfl)).trans (hC.cs 1 (by decide) v1 hv1);clear hev1 hv1;exact goodRun3.val (w:=V) (c:=.pointer (some ⟨kb,7,none⟩)) (by clear hdep hoth hC;go_simp) (hC.const (by decide) rfl)
       | 3,ho=>
        obtain rfl:=Option.some.inj ho
        refine StepOk3.free rfl ?_;intro vals a V hC hn hdep hoth;have cc:V.cell? ⟨kb,7,none⟩=some (.pointer (some ⟨rm,0,none⟩)):=hC.ce.1;obtain⟨v2,hv2,hev2⟩:=hdep _ (Array.mem_of_getElem? (i:=0) rfl) rfl;have x68:a.tmps[68]?.getD undef=.pointer (some ⟨kb,7,none⟩):=(slot_of (hev2 68 rfl)).trans (hC.cs 2 (by decide) v2 hv2);clear hev2 hv2;exact goodRun3.val (w:=V) (c:=.pointer (some ⟨rm,0,none⟩)) (by clear hdep hoth hC;go_simp) (hC.const (by decide) rfl)
       | 4,ho=>
        obtain rfl:=Option.some.inj ho
        refine StepOk3.free rfl ?_;intro vals a V hC hn hdep hoth;have x5:a.tmps[5]?.getD undef=.int .i64 (n:Int):=slot_of (hoth 5 (notDst (by kernel_rfl)));exact goodRun3.val (w:=V) (c:=.int .i64 (n:Int)) (by clear hdep hoth hC;go_simp) (hC.const (by decide) rfl)
       | 5,ho=>
        obtain rfl:=Option.some.inj ho
        refine StepOk3.free rfl ?_;intro vals a V hC hn hdep hoth;have x6:a.tmps[6]?.getD undef=.int .i64 (kd:Int):=slot_of (hoth 6 (notDst (by kernel_rfl)));exact goodRun3.val (w:=V) (c:=.int .i64 (kd:Int)) (by clear hdep hoth hC;go_simp) (hC.const (by decide) rfl)
       | 6,ho=>
        obtain rfl:=Option.some.inj ho
        refine StepOk3.free rfl ?_;intro vals a V hC hn hdep hoth;have x0:a.tmps[0]?.getD undef=.pointer (some ⟨kb,0,none⟩):=slot_of (hoth 0 (notDst (by kernel_rfl)));exact goodRun3.val (w:=V) (c:=.pointer (some ⟨kb,0,none⟩)) (by clear hdep hoth hC;go_simp) (hC.const (by decide) rfl)
       | 7,ho=>
        obtain rfl:=Option.some.inj ho
        refine StepOk3.free rfl ?_;intro vals a V hC hn hdep hoth;obtain⟨v6,hv6,hev6⟩:=hdep _ (Array.mem_of_getElem? (i:=0) rfl) rfl;have x72:a.tmps[72]?.getD undef=.pointer (some ⟨kb,0,none⟩):=(slot_of (hev6 72 rfl)).trans (hC.cs 6 (by decide) v6 hv6);clear hev6 hv6;exact goodRun3.val (w:=V) (c:=.pointer (some ⟨kb,0,none⟩)) (by clear hdep hoth hC;go_simp) (hC.const (by decide) rfl)
       | 8,ho=>
        obtain rfl:=Option.some.inj ho
        refine StepOk3.free rfl ?_;intro vals a V hC hn hdep hoth;obtain⟨v7,hv7,hev7⟩:=hdep _ (Array.mem_of_getElem? (i:=0) rfl) rfl;have x73:a.tmps[73]?.getD undef=.pointer (some ⟨kb,0,none⟩):=(slot_of (hev7 73 rfl)).trans (hC.cs 7 (by decide) v7 hv7);clear hev7 hv7;exact goodRun3.val (w:=V) (c:=.pointer (some ⟨kb,6,none⟩)) (by clear hdep hoth hC;go_simp) (hC.const (by decide) rfl)
       | 9,ho=>
        obtain rfl:=Option.some.inj ho
        refine StepOk3.free rfl ?_;intro vals a V hC hn hdep hoth;have cc:V.cell? ⟨kb,6,none⟩=some (.pointer (some ⟨bd,0,none⟩)):=hC.ce.2.1;obtain⟨v8,hv8,hev8⟩:=hdep _ (Array.mem_of_getElem? (i:=0) rfl) rfl;have x74:a.tmps[74]?.getD undef=.pointer (some ⟨kb,6,none⟩):=(slot_of (hev8 74 rfl)).trans (hC.cs 8 (by decide) v8 hv8);clear hev8 hv8;exact goodRun3.val (w:=V) (c:=.pointer (some ⟨bd,0,none⟩)) (by clear hdep hoth hC;go_simp) (hC.const (by decide) rfl)
       | 10,ho=>
        obtain rfl:=Option.some.inj ho
        refine StepOk3.free rfl ?_;intro vals a V hC hn hdep hoth;obtain⟨v9,hv9,hev9⟩:=hdep _ (Array.mem_of_getElem? (i:=0) rfl) rfl;have x75:a.tmps[75]?.getD undef=.pointer (some ⟨bd,0,none⟩):=(slot_of (hev9 75 rfl)).trans (hC.cs 9 (by decide) v9 hv9);clear hev9 hv9;exact goodRun3.val (w:=V) (c:=.pointer (some ⟨bd,0,none⟩)) (by clear hdep hoth hC;go_simp) (hC.const (by decide) rfl)
       | 11,ho=>
        obtain rfl:=Option.some.inj ho
        refine StepOk3.free rfl ?_;intro vals a V hC hn hdep hoth;obtain⟨v10,hv10,hev10⟩:=hdep _ (Array.mem_of_getElem? (i:=0) rfl) rfl;have x76:a.tmps[76]?.getD undef=.pointer (some ⟨bd,0,none⟩):=(slot_of (hev10 76 rfl)).trans (hC.cs 10 (by decide) v10 hv10);clear hev10 hv10;exact goodRun3.val (w:=V) (c:=.pointer (some ⟨bd,2,none⟩)) (by clear hdep hoth hC;go_simp) (hC.const (by decide) rfl)
       | 12,ho=>
        obtain rfl:=Option.some.inj ho
        refine StepOk3.free rfl ?_;intro vals a V hC hn hdep hoth;have cc:V.cell? ⟨bd,2,none⟩=some (.int .i64 (tw:Int)):=hC.ce.2.2;obtain⟨v11,hv11,hev11⟩:=hdep _ (Array.mem_of_getElem? (i:=0) rfl) rfl;have x77:a.tmps[77]?.getD undef=.pointer (some ⟨bd,2,none⟩):=(slot_of (hev11 77 rfl)).trans (hC.cs 11 (by decide) v11 hv11);clear hev11 hv11;exact goodRun3.val (w:=V) (c:=.int .i64 (tw:Int)) (by clear hdep hoth hC;go_simp) (hC.const (by decide) rfl)
       | 13,ho=>
        obtain rfl:=Option.some.inj ho
        refine StepOk3.free rfl ?_;intro vals a V hC hn hdep hoth;obtain⟨v3,hv3,hev3⟩:=hdep _ (Array.mem_of_getElem? (i:=0) rfl) rfl;have x69:a.tmps[69]?.getD undef=.pointer (some ⟨rm,0,none⟩):=(slot_of (hev3 69 rfl)).trans (hC.cs 3 (by decide) v3 hv3);clear hev3;obtain⟨v4,hv4,hev4⟩:=hdep _ (Array.mem_of_getElem? (i:=1) rfl) rfl;have x70:a.tmps[70]?.getD undef=.int .i64 (n:Int):=(slot_of (hev4 70 rfl)).trans (hC.cs 4 (by decide) v4 hv4);clear hev4;obtain⟨v5,hv5,hev5⟩:=hdep _ (Array.mem_of_getElem? (i:=2) rfl) rfl;have x71:a.tmps[71]?.getD undef=.int .i64 (kd:Int):=(slot_of (hev5 71 rfl)).trans (hC.cs 5 (by decide) v5 hv5);clear hev5;obtain⟨v12,hv12,hev12⟩:=hdep _ (Array.mem_of_getElem? (i:=3) rfl) rfl;have x78:a.tmps[78]?.getD undef=.int .i64 (tw:Int):=(slot_of (hev12 78 rfl)).trans (hC.cs 12 (by decide) v12 hv12);clear hev12
        refine goodRun3.call (w:=V) (f:=162) (args:=#[.pointer (some ⟨rm,0,none⟩),.int .i64 (n:Int),.int .i64 (kd:Int),.int .i64 (tw:Int)]) (by clear hdep hoth hC;go_simp) ?_
        refine Calls.mono (HA.out V (hC.pre hn)) ?_;rintro e w4 ⟨r,rfl,H',v',m',hk4,hsz4,hH4,hq4⟩;exact⟨_,rfl,hC.call (HKc.out _ ⟨_,v',m',hk4⟩) ⟨v',m',hk4⟩ hsz4 (fun i k hk=>hk4.km.fam.lt i k hk) hH4 hq4⟩
       | 14,ho=>
        obtain rfl:=Option.some.inj ho
        refine StepOk3.free rfl ?_;intro vals a V hC hn hdep hoth;obtain⟨v13,hv13,hev13⟩:=hdep _ (Array.mem_of_getElem? (i:=0) rfl) rfl;obtain⟨⟨r,hr⟩,-⟩:=hC.pst v13 hv13;have x79:a.tmps[79]?.getD undef=.tuple #[r.val,.int .i64 (((K2.app n kd tw).2:Nat):Int)]:=(slot_of (hev13 79 rfl)).trans hr;clear hev13;exact goodRun3.val (w:=V) (c:=.tuple #[r.val,.int .i64 (((K2.app n kd tw).2:Nat):Int)]) (by clear hdep hoth hC hr;go_simp) (hC.later (Or.inl rfl) (fun _=>⟨r,rfl⟩) (fun e=>by cases e) (fun e=>by cases e) (fun e=>by cases e))
       | 15,ho=>
        obtain rfl:=Option.some.inj ho
        refine StepOk3.free rfl ?_;intro vals a V hC hn hdep hoth;obtain⟨v14,hv14,hev14⟩:=hdep _ (Array.mem_of_getElem? (i:=0) rfl) rfl;obtain⟨r,hr⟩:=hC.c14 v14 hv14;have x65:a.tmps[65]?.getD undef=.tuple #[r.val,.int .i64 (((K2.app n kd tw).2:Nat):Int)]:=(slot_of (hev14 65 rfl)).trans hr;clear hev14;exact goodRun3.val (w:=V) (c:=r.val) (by clear hdep hoth hC hr;go_simp) (hC.later (Or.inr (Or.inl rfl)) (fun e=>by cases e) (fun _=>⟨r,rfl⟩) (fun e=>by cases e) (fun e=>by cases e))
       | 16,ho=>
        obtain rfl:=Option.some.inj ho
        refine StepOk3.free rfl ?_;intro vals a V hC hn hdep hoth;obtain⟨v14,hv14,hev14⟩:=hdep _ (Array.mem_of_getElem? (i:=0) rfl) rfl;obtain⟨r,hr⟩:=hC.c14 v14 hv14;have x65:a.tmps[65]?.getD undef=.tuple #[r.val,.int .i64 (((K2.app n kd tw).2:Nat):Int)]:=(slot_of (hev14 65 rfl)).trans hr;clear hev14;exact goodRun3.val (w:=V) (c:=.int .i64 (((K2.app n kd tw).2:Nat):Int)) (by clear hdep hoth hC hr;go_simp) (hC.later (Or.inr (Or.inr (Or.inl rfl))) (fun e=>by cases e) (fun e=>by cases e) (fun _=>rfl) (fun e=>by cases e))
       | 17,ho=>
        obtain rfl:=Option.some.inj ho
        refine StepOk3.free rfl ?_;intro vals a V hC hn hdep hoth;exact goodRun3.val (w:=V.alloc (.cells #[.int .i64 0,.int .i64 0,.int .i64 0,.int .i64 0] 57)) (c:=.pointer (some ⟨V.heap.size,0,none⟩)) (by clear hdep hoth hC;go_simp) (hC.made HPb.out)
       | 18,ho=>
        obtain rfl:=Option.some.inj ho
        refine StepOk3.free rfl ?_;intro vals a V hC hn hdep hoth;obtain⟨v17,hv17,hev17⟩:=hdep _ (Array.mem_of_getElem? (i:=0) rfl) rfl;obtain⟨v15,hv15,hev15⟩:=hdep _ (Array.mem_of_getElem? (i:=1) rfl) rfl;obtain⟨v13,hv13,-⟩:=hdep _ (Array.mem_of_getElem? (i:=2) rfl) rfl;obtain⟨g8,r0,rfl,hrow,hlo⟩:=hC.c17 v17 hv17;obtain⟨r,rfl⟩:=hC.c15 v15 hv15;have x8:a.tmps[8]?.getD undef=.pointer (some ⟨g8,0,none⟩):=slot_of (hev17 8 rfl);have x80:a.tmps[80]?.getD undef=r.val:=slot_of (hev15 80 rfl);obtain⟨z0,z1,z2,z3⟩:=hrow.at;have q0:=hrow.frozen 0;have q1:=hrow.frozen 1;have q2:=hrow.frozen 2;have q3:=hrow.frozen 3;unfold Rec.val at x80;exact goodRun3.skip (w:=(((V.setCell ⟨g8,0,.none⟩ (.int .i64 (r.seq:Int))).setCell ⟨g8,1,.none⟩ (.int .i64 (r.ent:Int))).setCell ⟨g8,2,.none⟩ (.int .i64 (r.kind:Int))).setCell ⟨g8,3,.none⟩ (.int .i64 (r.tick:Int))) (by clear hdep hoth hC hev17 hev15 hrow;go_simp) (hC.laid (fun e=>by have e2:vals 13=some v13:=hv13;rw[e2] at e;cases e) (fun H' V ⟨v',m',hh⟩=>HKc.out V ⟨H',v',m',hh⟩) HPs.out hv17 hrow hlo rfl)
       | 19,ho=>
        obtain rfl:=Option.some.inj ho
        refine StepOk3.free rfl ?_;intro vals a V hC hn hdep hoth;obtain⟨v16,hv16,hev16⟩:=hdep _ (Array.mem_of_getElem? (i:=0) rfl) rfl;have hr:=hC.c16 v16 hv16;have x81:a.tmps[81]?.getD undef=.int .i64 (((K2.app n kd tw).2:Nat):Int):=(slot_of (hev16 81 rfl)).trans hr;clear hev16;exact goodRun3.val (w:=V) (c:=.int .i64 (((K2.app n kd tw).2:Nat):Int)) (by clear hdep hoth hC hr;go_simp) (hC.later (Or.inr (Or.inr (Or.inr rfl))) (fun e=>by cases e) (fun e=>by cases e) (fun e=>by cases e) (fun _=>rfl))
       | n+20,ho=>simp at ho
      ·intro vals V hC hall;obtain⟨y0,hy0⟩:=Option.isSome_iff_exists.1 (hall 0 (by decide));obtain⟨y1,hy1⟩:=Option.isSome_iff_exists.1 (hall 1 (by decide));obtain⟨y2,hy2⟩:=Option.isSome_iff_exists.1 (hall 2 (by decide));obtain⟨y3,hy3⟩:=Option.isSome_iff_exists.1 (hall 3 (by decide));obtain⟨y4,hy4⟩:=Option.isSome_iff_exists.1 (hall 4 (by decide));obtain⟨y5,hy5⟩:=Option.isSome_iff_exists.1 (hall 5 (by decide));obtain⟨y6,hy6⟩:=Option.isSome_iff_exists.1 (hall 6 (by decide));obtain⟨y7,hy7⟩:=Option.isSome_iff_exists.1 (hall 7 (by decide));obtain⟨y8,hy8⟩:=Option.isSome_iff_exists.1 (hall 8 (by decide));obtain⟨y9,hy9⟩:=Option.isSome_iff_exists.1 (hall 9 (by decide));obtain⟨y10,hy10⟩:=Option.isSome_iff_exists.1 (hall 10 (by decide));obtain⟨y11,hy11⟩:=Option.isSome_iff_exists.1 (hall 11 (by decide));obtain⟨y12,hy12⟩:=Option.isSome_iff_exists.1 (hall 12 (by decide));obtain⟨y13,hy13⟩:=Option.isSome_iff_exists.1 (hall 13 (by decide));obtain⟨y14,hy14⟩:=Option.isSome_iff_exists.1 (hall 14 (by decide));obtain⟨y15,hy15⟩:=Option.isSome_iff_exists.1 (hall 15 (by decide));obtain⟨y16,hy16⟩:=Option.isSome_iff_exists.1 (hall 16 (by decide));obtain⟨y17,hy17⟩:=Option.isSome_iff_exists.1 (hall 17 (by decide));obtain⟨y18,hy18⟩:=Option.isSome_iff_exists.1 (hall 18 (by decide));obtain⟨y19,hy19⟩:=Option.isSome_iff_exists.1 (hall 19 (by decide));obtain⟨_,H',⟨v',m',hh⟩,-⟩:=hC.pst y13 hy13;obtain rfl:=hC.c19 y19 hy19;have HH:Hid _:=hh;clear hC hall hh;simp only[fill,dstOf,hy0,hy1,hy2,hy3,hy4,hy5,hy6,hy7,hy8,hy9,hy10,hy11,hy12,hy13,hy14,hy15,hy16,hy17,hy18,hy19];clear hy0 hy1 hy2 hy3 hy4 hy5 hy6 hy7 hy8 hy9 hy10 hy11 hy12 hy13 hy14 hy15 hy16 hy17 hy18 hy19;go_simp
       go_wp2_with fail
       go_meet
       case rel=>exact⟨rfl,H',v',m',HH.out⟩
     case rest=>
     rename World=>W5
     obtain⟨rfl,H',v',m',hh⟩:=hcut;have HH:Hid _:=hh;clear hh e7 e6 d2 HA HSc HKc
     by_cases hc0:(K2.app n kd tw).2=0
     ·rw[hc0];go_wp2_with fail
      go_meet
      case rel=>
       rw[HS3.out];have hls:(K2.app n kd tw).1.ls=((K.ticked.ends c n).1.setL n (s.fin e)).ls:=by rw[app_ls,HK2.out]
       exact⟨hc0,H',v',m',HH.out,by rw[hls];exact HLs.out,by rw[<- HStat.out];unfold statsL;rw[hls]⟩
     ·have g9:0 < ((K2.app n kd tw).2:Int):=by omega
      have HEnd:Hid (K.ticked.ends c c.ents.length=K2.app n kd tw):=by
       show _=_
       rw[<- HS3.out];exact ends_stop c K.ticked (by rw[HS3.out];exact hc0) (by omega)
      go_wp2;go_ret;rw[HT.out,HEnd.out,if_neg hc0];exact⟨rfl,HH.out.post⟩
   case rest=>
   rename World=>W4
   obtain⟨hz4,H4,v4,m4,L4,hls4,hst4⟩:=hcut;clear HL3 HL HStep HStat HLs HFit cp e8 hkd;have hlen4:(K.ticked.ends c (n+1)).1.ls.length=c.ents.length:=L4.km.llen;obtain⟨b4,e4,E4,g4,cap4,-,-,hlv4,cp4,h44,-⟩:=L4.km.locAt hls4;rw[hlen4] at hlv4;simp only[Value.slice.injEq,Option.some.injEq,Addr.mk.injEq,true_and,and_true] at hlv4;obtain⟨rfl,rfl⟩:=hlv4;have e8:W4.cell? ⟨kb,8,none⟩=some (.slice (some ⟨g,0,none⟩) c.ents.length cap):=L4.km.cell 8 _ rfl;have HSt:Hid _:=lmF_status h44 L4.km.bel;have hO4:=L4.own;have hz4':w'.heap.size<=W4.heap.size:=L4.off.size;have HL4:Hid _:=L4;have HZ4:Hid ((K.ticked.ends c (n+1)).2=0/\statsL (K.ticked.ends c (n+1)).1 (n+1)=statsL (K.ticked.ends c n).1 n++[statB (s.fin e).status]):=⟨hz4,hst4⟩;obtain⟨y,hy⟩:∃ y,y=statB (s.fin e).status:=⟨_,rfl⟩;have HY:Hid (y=statB (s.fin e).status):=hy;rw[<- hy] at HSt;clear hy hz4 hst4 hlen4 h44 L4 hls4;have hO5:W4.ownsRow w'.heap.size 9 1 (.slice ka n kc) n ((statsL (K.ticked.ends c n).1 n).flatMap encS):=by
    have:W4.ownsRow w'.heap.size 9 1 (.slice ka n kc) (statsL (K.ticked.ends c n).1 n).length ((statsL (K.ticked.ends c n).1 n).flatMap encS):=hO4;rwa [HSl.out] at this
   clear hO4;have HO5:Hid _:=hO5;clear hO5;go_wp2_with fail
   refine Calls.mono HSt.out ?_;rintro u w5 ⟨rfl,rfl⟩;go_wp2_with (at_builtin;refine wpList_append_lies _ rfl _ _ 33 rfl w'.heap.size 9 i0 (.string ⟨#[]⟩) 1 16 Tryz.underlying33 hi0 hz0 hz1 hz2 rfl (by decide) (.slice ka n kc) n ((statsL (K.ticked.ends c n).1 n).flatMap encS) rfl (World.ownsRow.alloc HO5.out _) ⟨w5.heap.size,0,none⟩ 1 1 [.string y] rfl rfl (ce_at w5 [.string y] 9) (fun u hu=>by rw[List.mem_singleton] at hu;subst hu;rfl) (by decide) (by unfold maxLen;omega) (by omega) (by simp;omega) (w5.heap.size+1) (by simp) ?_;intro gg cc w12 hown hg hor hlt12)
   have L5:=HL4.out.more HW0.out (by rw[HSl.out]) hown hg hor;have HL5:Hid _:=L5;clear L5 hown hg hor hlt12 HO5 HSt e8 cp4;go_roundw
   case rel=>exact⟨n+1,by omega,by go_num,HZ4.out.1,H4,v4,m4,by rw[HZ4.out.2,<- HY.out];exact HL5.out⟩
   case measure=>simp[intOf];omega
  ·have k1:¬(n:Int) < (c.ents.length:Int):=by omega
   obtain rfl:n=c.ents.length:=by omega
   obtain⟨f1,f2,f3,f4,f5⟩:=HE.out c.ents.length;have HB:Hid (K.tick c=((K.ticked.ends c c.ents.length).1.last,0)):=by show _=_;rw[HT.out,if_pos h0]
   obtain⟨K5,hK5⟩:∃ X,X=(K.ticked.ends c c.ents.length).1:=⟨_,rfl⟩;rw[<- hK5] at L f1 HB;have hst:statsL K5 c.ents.length=K5.ls.map fun s=>statB s.status:=by
    unfold statsL;rw[List.take_of_length_le (by rw[L.km.llen];exact Nat.le_refl _)]
   obtain⟨xs,hxs⟩:∃ X,X=K5.ls.map fun s=>statB s.status:=⟨_,rfl⟩
   rw[hst,<- hxs] at L;have hxl:xs.length=c.ents.length:=by rw[hxs,List.length_map,L.km.llen]
   have e8:wr.cell? ⟨kb,8,none⟩=some lv:=L.km.cell 8 _ rfl;have e9:wr.cell? ⟨kb,9,none⟩=some (.pointer (some ⟨bt,0,none⟩)):=L.km.cell 9 _ rfl;obtain⟨la,lc,hlv⟩:=ow_form L.km.own;rw[L.km.blen] at hlv;rw[hlv] at e8;have HX:Hid _:=km_tend L.km f1.tot xs ka kc (fun V hV=>by
    refine SlOwn.slat (T:=9) (B:=w'.heap.size) ?_ (fun _=>rfl);rw[hxl];exact World.ownsRow.kept L.own hV (Or.inr (fun e=>L.no bt e 4 L.km.ht))) (by rw[hxl];have:=HN.out.2.2;omega)
   rw[hxl] at HX;have HL:Hid _:=L;have HXs:Hid (xs=K5.ls.map fun s=>statB s.status):=hxs;have hst3:(K5.t.fin xs).st<=3:=(f1.tot.fin20 xs).st;clear L f1 f2 f3 f4 f5 hst hxs hxl hlv h0 hK5;go_wp2_with fail
   refine Calls.mono HX.out ?_;rintro u w5 ⟨rfl,hkm,hof⟩;have L5:=HL.out.step hof hkm;have e6:w5.cell? ⟨kb,6,none⟩=some (.pointer (some ⟨bd,0,none⟩)):=L5.km.cell 6 _ rfl;have HOp:Hid _:=mdog_open bd _ w5 L5.km.dog;have HL5:Hid _:=L5;clear L5 hkm hof HX HL e8 e9;go_wp2_with fail
   refine Calls.mono HOp.out ?_;rintro u w6 ⟨rfl,q6,rfl⟩;have L6:=HL5.out.below (below_drewN (Below.refl _ _) q6);have e9:(w5.drewN q6).cell? ⟨kb,9,none⟩=some (.pointer (some ⟨bt,0,none⟩)):=L6.km.cell 9 _ rfl;have e6':(w5.drewN q6).cell? ⟨kb,6,none⟩=some (.pointer (some ⟨bd,0,none⟩)):=L6.km.cell 6 _ rfl;have t2:(w5.drewN q6).cell? ⟨bt,2,none⟩=some (.string (totB (K5.t.fin xs).st)):=cell_row L6.km.tot rfl;have HL6:Hid _:=L6;clear L6 HL5 HOp e6;obtain⟨W6,hW6⟩:∃ X,X=w5.drewN q6:=⟨_,rfl⟩;rw[<- hW6] at e9 e6' t2 HL6 ⊢;clear hW6;obtain⟨op,hop⟩:∃ X,X=K5.d.isOpen:=⟨_,rfl⟩;have HOp:Hid (op=K5.d.isOpen):=hop;obtain⟨st,hsts⟩:∃ X,X=(K5.t.fin xs).st:=⟨_,rfl⟩;have HSt:Hid (st=(K5.t.fin xs).st):=hsts;rw[<- hsts] at t2 hst3;have HLast:Hid (K5.last=if st≠3/\op=true then { { K5 with t:=K5.t.fin xs } with d:=K5.d.kick } else { K5 with t:=K5.t.fin xs }):=by
    show _=_
    rw[hsts,hop,HXs.out];rfl
   rw[show K5.d.isOpen=op from hop.symm];clear hsts hop;have h4:st=0\/st=1\/st=2\/st=3:=by omega
   clear hst3
   rcases h4 with rfl | rfl | rfl | rfl
   ·have t2':W6.cell? ⟨bt,2,none⟩=some (.string ⟨#[111,107]⟩):=t2;clear t2
    cases op with
    | true=>
     have HLa:Hid (K5.last={ { K5 with t:=K5.t.fin xs } with d:=K5.d.kick }):=by show _=_;rw[HLast.out,if_pos ⟨by decide,rfl⟩]
     have HX:Hid _:=km_dkick HL6.out.km HOp.out.symm;go_wp2_with fail
     refine Calls.mono HX.out ?_;rintro u w7 ⟨rfl,hkm,hof⟩;have HL7:Hid _:=HL6.out.step hof hkm;clear hkm hof HX;go_wp2;go_ret;rw[HB.out,HLa.out];exact⟨rfl,HL7.out.post⟩
    | false=>
     have HLa:Hid (K5.last={ K5 with t:=K5.t.fin xs }):=by show _=_;rw[HLast.out,if_neg (fun x=>by cases x.2)]
     go_wp2;go_ret;rw[HB.out,HLa.out];exact⟨rfl,HL6.out.post⟩
   ·have t2':W6.cell? ⟨bt,2,none⟩=some (.string ⟨#[102,97,105,108,101,100]⟩):=t2;clear t2
    cases op with
    | true=>
     have HLa:Hid (K5.last={ { K5 with t:=K5.t.fin xs } with d:=K5.d.kick }):=by show _=_;rw[HLast.out,if_pos ⟨by decide,rfl⟩]
     have HX:Hid _:=km_dkick HL6.out.km HOp.out.symm;go_wp2_with fail
     refine Calls.mono HX.out ?_;rintro u w7 ⟨rfl,hkm,hof⟩;have HL7:Hid _:=HL6.out.step hof hkm;clear hkm hof HX;go_wp2;go_ret;rw[HB.out,HLa.out];exact⟨rfl,HL7.out.post⟩
    | false=>
     have HLa:Hid (K5.last={ K5 with t:=K5.t.fin xs }):=by show _=_;rw[HLast.out,if_neg (fun x=>by cases x.2)]
     go_wp2;go_ret;rw[HB.out,HLa.out];exact⟨rfl,HL6.out.post⟩
   ·have t2':W6.cell? ⟨bt,2,none⟩=some (.string ⟨#[101,120,112,105,114,101,100]⟩):=t2;clear t2
    cases op with
    | true=>
     have HLa:Hid (K5.last={ { K5 with t:=K5.t.fin xs } with d:=K5.d.kick }):=by show _=_;rw[HLast.out,if_pos ⟨by decide,rfl⟩]
     have HX:Hid _:=km_dkick HL6.out.km HOp.out.symm;go_wp2_with fail
     refine Calls.mono HX.out ?_;rintro u w7 ⟨rfl,hkm,hof⟩;have HL7:Hid _:=HL6.out.step hof hkm;clear hkm hof HX;go_wp2;go_ret;rw[HB.out,HLa.out];exact⟨rfl,HL7.out.post⟩
    | false=>
     have HLa:Hid (K5.last={ K5 with t:=K5.t.fin xs }):=by show _=_;rw[HLast.out,if_neg (fun x=>by cases x.2)]
     go_wp2;go_ret;rw[HB.out,HLa.out];exact⟨rfl,HL6.out.post⟩
   ·have t2':W6.cell? ⟨bt,2,none⟩=some (.string ⟨#[115,116,111,112,112,101,100]⟩):=t2;clear t2
    cases op with
    | true=>
     have HLa:Hid (K5.last={ K5 with t:=K5.t.fin xs }):=by show _=_;rw[HLast.out,if_neg (fun x=>by exact absurd rfl x.1)]
     go_wp2;go_ret;rw[HB.out,HLa.out];exact⟨rfl,HL6.out.post⟩
    | false=>
     have HLa:Hid (K5.last={ K5 with t:=K5.t.fin xs }):=by show _=_;rw[HLast.out,if_neg (fun x=>by exact absurd rfl x.1)]
     go_wp2;go_ret;rw[HB.out,HLa.out];exact⟨rfl,HL6.out.post⟩
end
end Go.Proofs.YtdpdbfhbojgigacGreatDoor
