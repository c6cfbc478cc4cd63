/-
  Several texts as one: KpRt, KlBase, ScDo, ScPlay.
-/
import Derived.Test.YtffpcbdlbcjihadGreatDoorP33S
import Derived.BigQuiet
import Derived.Deep.QuietTactic
import Derived.Deep.DeepCutAuto
import Derived.WalkSmall
import Derived.Deep.RegionHeld3
import Derived.Deep.AppendLies
import Derived.Deep.RegionLaw
import Derived.OwnWalk
import Derived.Laws.EntriesVeiled
namespace Go.Proofs.YtffpcbdlbcjihadGreatDoor
open Go
theorem krt_of {c:CfgD}(h:(cfgErr c).1=0):KRt c:=by
 have ok:=okC_of h;have sz:=cfg_size h
 refine⟨ok.closed,ok.opn,ok.cycle,ok.delay,?_,ok.many,fun e he=>?_⟩
 ·unfold cfgErr at h
  split at h
  ·rename_i h0;unfold wholeErr at h0;obtain⟨-,h0⟩:=firstOf_cons (by simp) h0;obtain⟨-,h0⟩:=firstOf_cons (by simp) h0;obtain⟨-,h0⟩:=firstOf_cons (by simp) h0;obtain⟨-,h0⟩:=firstOf_cons (by simp) h0;obtain⟨q5,-⟩:=firstOf_cons (by simp) h0;simp at q5
   exact q5
  ·rename_i h0;exact absurd h h0
 ·have oe:=ok.ents e he;have se:=sz e he;have nm:∀ s:ByteArray,isName s=true->s.size<=12:=fun s hs=>by
   unfold isName at hs;simp only[Bool.and_eq_true,decide_eq_true_eq] at hs;exact hs.1.1.2
  have n1:=nm _ oe.name;have n2:=se.pts;have n3:=se.gaps;have n4:=se.edges;have n5:=se.first;have n6:=se.last
  refine⟨⟨by omega,by omega,fun p hp=>Nat.le_trans (nm p (oe.pn p hp)) (by decide),by omega,by omega,by omega,by omega⟩,?_,oe.tol.1,fun p hp=>?_⟩
  ·rcases oe.cnt with hc | hc
   ·omega
   ·exact hc.2
  ·obtain⟨h1,h2⟩:=oe.edges p hp;exact⟨wf64_of (by omega) (by omega),wf64_of (by omega) (by omega)⟩
end Go.Proofs.YtffpcbdlbcjihadGreatDoor
namespace Go.Proofs.YtffpcbdlbcjihadGreatDoor
open Go.RowKit Go.Extern.Stop Go.Stop Go.Extern
theorem open_new (n:Nat)(h:n<=4096)(h2:153<=n):openL ((CSt.new n).bytes.take (CSt.new n).size)=[]:=by
 rw[openL_take _ (CSt.new n).size h2,(Inv.new n h2 h).opens];rfl
section
variable {A:Nat->Addr}{F:Nat->Prop}{w0 w w':World}{c:CfgD}{kb bc:Nat}{K:KSt}{k W:Nat}
theorem kat_state (h:KeAt F w0 w c kb bc K):Calls Tryz.prog 72 #[.pointer (some ⟨kb,0,none⟩)] w fun e w'=>e=.returned (.string (stateB K.on))/\w'=w:=by
 obtain⟨H,bd,rb,bt,lv,bs,h1,-⟩:=h;exact ke_state h1
theorem kat_now (h:KeAt F w0 w c kb bc K):Calls Tryz.prog 64 #[.pointer (some ⟨kb,0,none⟩)] w fun e w'=>e=.returned (.int .i64 (K.d.now:Int))/\w'=w:=by
 obtain⟨H,bd,rb,bt,lv,bs,h1,-⟩:=h;exact ke_now h1
theorem kat_kicks (h:KeAt F w0 w c kb bc K):Calls Tryz.prog 66 #[.pointer (some ⟨kb,0,none⟩)] w fun e w'=>e=.returned (.int .i64 (K.d.kicks:Int))/\w'=w:=by
 obtain⟨H,bd,rb,bt,lv,bs,h1,-⟩:=h;exact ke_kicks h1
theorem kat_total (h:KeAt F w0 w c kb bc K):Calls Tryz.prog 70 #[.pointer (some ⟨kb,0,none⟩)] w fun e w'=>e=.returned (.string (totB K.t.st))/\w'=w:=by
 obtain⟨H,bd,rb,bt,lv,bs,h1,-⟩:=h;exact ke_total h1
theorem kfit_new (hr:KRt c):KFit c (KSt.new c (CSt.new 4096)) 0 (144*(KSt.new c (CSt.new 4096)).d.now):=by
 show KFit c _ 0 0
 exact KFit.new hr (Inv.new 4096 (by decide) (by decide)).big (Nat.zero_le _) rfl
end
structure ScCtx (A:Nat->Addr)(w0:World)(c:CfgD)(sa:Option Addr)(sc:Nat):Prop where
 sk:SenK A w0
 six:Sen6 A w0
 kw:KwAt w0
 tab:TabAt w0
 mx:MxAt w0
 syn:SynAt w0
 gb:(max 12 13+1)<=w0.heap.size
 ents:EntsAt w0 (.slice sa c.ents.length sc) c.ents
 small:SmallC c
 ok:(cfgErr c).1=0
 rt:KRt c
structure ScIn (A:Nat->Addr)(F:Nat->Prop)(w0 w:World)(c:CfgD)(kb bc:Nat)(sa:Option Addr)(sc pb:Nat)(K:KSt)(k:Nat)(nv:Value)(ns:List Int):Prop where
 ctx:ScCtx A w0 c sa sc
 at':KeAt F w0 w c kb bc K
 fit:KFit c K k (144*K.d.now)
 lb:K.LB
 box:w.heap[pb]?=some (.cells (plRow c kb bc (.slice sa c.ents.length sc)) 66 (0,0))
 nums:SlAt encI 1 w nv ns
 pos:∀ n∈ns,0<=n/\n < 1000000000000000000
 hk:k < 1000
 fb:¬F pb
 fn:∀ g,nv.ownBlock=some g->¬F g
def ScR (A:Nat->Addr)(F:Nat->Prop)(w0 w:World)(c:CfgD)(kb bc:Nat)(p:KSt × Bs × Nat)(e:Ending)(w':World):Prop:=e=.returned (.tuple #[.string ⟨p.2.1.toArray⟩,errVal A p.2.2])/\KePost F w0 w c kb bc p.1 w'
section
variable {A:Nat->Addr}{F:Nat->Prop}{w0 w w' V:World}{c:CfgD}{kb bc:Nat}{sa:Option Addr}{sc pb:Nat}{K:KSt}{k:Nat}{nv:Value}{ns:List Int}
theorem KePost.cell {K:KSt}{a:Addr}{u:Value}(h:KePost F w0 w c kb bc K w')(hc:w.cell? a=some u)(hf:¬F a.block):w'.cell? a=some u:=by
 have h1:=h.2.block a.block (block_lt hc) hf;simp only[World.cell?,h1] at hc ⊢;exact hc
theorem bl_back (x:ByteArray):(⟨(bl x).toArray⟩:ByteArray)=x:=by unfold bl;rw[Array.toArray_toList]
theorem ScIn.cell (h:ScIn A F w0 w c kb bc sa sc pb K k nv ns)(j:Nat)(u:Value)(hu:(plRow c kb bc (.slice sa c.ents.length sc))[j]?=some u):w.cell? ⟨pb,j,none⟩=some u:=by simp[World.cell?,h.box,hu]
theorem ScIn.to (h:ScIn A F w0 w c kb bc sa sc pb K k nv ns)(hb:Below w.heap.size w V):KeAt F w0 V c kb bc K:=h.at'.below hb
theorem ScIn.tab (h:ScIn A F w0 w c kb bc sa sc pb K k nv ns)(hb:Below w.heap.size w V):TabAt V/\(max 12 13+1)<=V.heap.size:=by
 have h1:=h.at'.bel.trans (hb.mono h.at'.bel.size);exact⟨h.ctx.tab.below h1 h.ctx.gb,Nat.le_trans h.ctx.gb h1.size⟩
theorem ScR.read {p:Bs}(h:ScIn A F w0 w c kb bc sa sc pb K k nv ns)(hb:Below w.heap.size w w'):ScR A F w0 w c kb bc (K,p,0) (.returned (.tuple #[.string ⟨p.toArray⟩,.nilIface])) w':=⟨rfl,(KePost.same h.at').below hb⟩
theorem ScIn.one (h:ScIn A F w0 w c kb bc sa sc pb K k nv ns)(h1:ns.length=1):∃ g o cap n,nv=.slice (some ⟨g,o,none⟩) 1 cap/\ns=[n]/\w.cell? ⟨g,o,none⟩=some (.int .i64 n)/\0<=n/\n < 1000000000000000000/\¬F g:=by
 match ns,h1,h.nums,h.pos with
 | [n],_,hv,hp=>
  have hf:=h.fn;obtain⟨sa',cap,rfl,h2,h3⟩:=hv;obtain⟨b,o,rfl,h4⟩:=h3 (by simp);exact⟨b,o,cap,n,rfl,rfl,by simpa using h4 0 n rfl 0 _ rfl,(hp n (by simp)).1,(hp n (by simp)).2,hf b rfl⟩
theorem ScIn.two (h:ScIn A F w0 w c kb bc sa sc pb K k nv ns)(h1:ns.length=2):∃ g o cap n m,nv=.slice (some ⟨g,o,none⟩) 2 cap/\ns=[n,m]/\w.cell? ⟨g,o,none⟩=some (.int .i64 n)/\w.cell? ⟨g,o+1,none⟩=some (.int .i64 m)/\¬F g:=by
 match ns,h1,h.nums with
 | [n,m],_,hv=>
  have hf:=h.fn;obtain⟨sa',cap,rfl,h2,h3⟩:=hv;obtain⟨b,o,rfl,h4⟩:=h3 (by simp);exact⟨b,o,cap,n,m,rfl,rfl,by simpa using h4 0 n rfl 0 _ rfl,by simpa using h4 1 m rfl 0 _ rfl,hf b rfl⟩
set_option maxHeartbeats 2000000 in
set_option maxRecDepth 100000 in
theorem cl_0 (h:ScIn A F w0 w c kb bc sa sc pb K k nv ns)(hl:ns.length=1) :
  Calls Tryz.prog 49 #[nv,.pointer (some ⟨pb,0,none⟩)] w fun e w'=>ScR A F w0 w c kb bc (K.scDo c ns 0) e w':=by
 obtain⟨g,o,cap,n,rfl,rfl,n0,p0,p1,hfg⟩:=h.one hl;have x0:=h.cell 0 _ rfl;have hfb:=h.fb;have HX:Hid (∀ V,Below w.heap.size w V->Calls Tryz.prog 51 #[.pointer (some ⟨kb,0,none⟩),.int .i64 n] V fun e w'=>e=.returned (errVal A (K.begin n).2)/\KePost F w0 w c kb bc (K.begin n).1 w'):=fun V hV=>Calls.mono (ke_begin n (h.to hV) h.ctx.sk h.ctx.rt) (fun e w' he=>⟨he.1,he.2.from hV⟩)
 have HD:Hid (∀ V:World,Calls Tryz.prog 50 #[errVal A (K.begin n).2] V fun e w'=>e=.returned (.tuple #[.string ⟨(doneT (K.begin n).2).toArray⟩,errVal A (K.begin n).2])/\w'=V):=fun V=>done_at A _ V
 have HE:Hid (K.scDo c [n] 0=((K.begin n).1,doneT (K.begin n).2,(K.begin n).2)):=rfl;generalize K.begin n=Kn at HX HD HE;obtain⟨K',j⟩:=Kn;clear h hl p0 p1;go_enter Tryz.func49,Tryz.ntmps49
 go_upto_region 1 with fail
 go_region_held3 (fun w'=>w'.cell? ⟨pb,0,none⟩=some (.pointer (some ⟨kb,0,none⟩))/\w'.cell? ⟨g,o,none⟩=some (.int .i64 n)) (first | exact⟨x0,n0⟩ | exact⟨yx0,yn0⟩) (first | (go_at_call 51;refine Calls.mono (HX.out _ (below_drewN (Below.refl _ _) _)) ?_;rintro e W1 ⟨rfl,hp⟩;have yx0:=hp.cell x0 hfb;have yn0:=hp.cell n0 hfg) | (go_at_call 50;refine Calls.mono (HD.out _) ?_;rintro e W2 ⟨rfl,rfl⟩))
 all_goals go_wp2
 all_goals go_ret2
 all_goals (show ScR _ _ _ _ _ _ _ _ _ _;rw[HE.out];exact⟨rfl,hp⟩)
set_option maxHeartbeats 2000000 in
set_option maxRecDepth 100000 in
theorem cl_1 (h:ScIn A F w0 w c kb bc sa sc pb K k nv ns)(hl:ns.length=1) :
  Calls Tryz.prog 52 #[nv,.pointer (some ⟨pb,0,none⟩)] w fun e w'=>ScR A F w0 w c kb bc (K.scDo c ns 1) e w':=by
 obtain⟨g,o,cap,n,rfl,rfl,n0,p0,p1,hfg⟩:=h.one hl;have x0:=h.cell 0 _ rfl;have hfb:=h.fb;have HX:Hid (∀ V,Below w.heap.size w V->Calls Tryz.prog 53 #[.pointer (some ⟨kb,0,none⟩),.int .i64 n] V fun e w'=>e=.returned (errVal A (K.stop n).2)/\KePost F w0 w c kb bc (K.stop n).1 w'):=fun V hV=>Calls.mono (ke_stop n (h.to hV) h.ctx.sk h.ctx.rt) (fun e w' he=>⟨he.1,he.2.from hV⟩)
 have HD:Hid (∀ V:World,Calls Tryz.prog 50 #[errVal A (K.stop n).2] V fun e w'=>e=.returned (.tuple #[.string ⟨(doneT (K.stop n).2).toArray⟩,errVal A (K.stop n).2])/\w'=V):=fun V=>done_at A _ V
 have HE:Hid (K.scDo c [n] 1=((K.stop n).1,doneT (K.stop n).2,(K.stop n).2)):=rfl;generalize K.stop n=Kn at HX HD HE;obtain⟨K',j⟩:=Kn;clear h hl p0 p1;go_enter Tryz.func52,Tryz.ntmps52
 go_upto_region 1 with fail
 go_region_held3 (fun w'=>w'.cell? ⟨pb,0,none⟩=some (.pointer (some ⟨kb,0,none⟩))/\w'.cell? ⟨g,o,none⟩=some (.int .i64 n)) (first | exact⟨x0,n0⟩ | exact⟨yx0,yn0⟩) (first | (go_at_call 53;refine Calls.mono (HX.out _ (below_drewN (Below.refl _ _) _)) ?_;rintro e W1 ⟨rfl,hp⟩;have yx0:=hp.cell x0 hfb;have yn0:=hp.cell n0 hfg) | (go_at_call 50;refine Calls.mono (HD.out _) ?_;rintro e W2 ⟨rfl,rfl⟩))
 all_goals go_wp2
 all_goals go_ret2
 all_goals (show ScR _ _ _ _ _ _ _ _ _ _;rw[HE.out];exact⟨rfl,hp⟩)
set_option maxHeartbeats 2000000 in
set_option maxRecDepth 100000 in
theorem cl_2 (h:ScIn A F w0 w c kb bc sa sc pb K k nv ns)(hl:ns.length=2) :
  Calls Tryz.prog 54 #[nv,.pointer (some ⟨pb,0,none⟩)] w fun e w'=>ScR A F w0 w c kb bc (K.scDo c ns 2) e w':=by
 obtain⟨g,o,cap,n,m,rfl,rfl,n0,n1,hfg⟩:=h.two hl;have x0:=h.cell 0 _ rfl;have hfb:=h.fb;have HX:Hid (∀ V,Below w.heap.size w V->Calls Tryz.prog 55 #[.pointer (some ⟨kb,0,none⟩),.int .i64 n,.int .i64 m] V fun e w'=>e=.returned (errVal A (K.report c n m).2)/\KePost F w0 w c kb bc (K.report c n m).1 w'):=fun V hV=>Calls.mono (ke_report n m (h.to hV) h.ctx.sk h.ctx.rt h.fit h.hk) (fun e w' he=>⟨he.1,he.2.from hV⟩)
 have HD:Hid (∀ V:World,Calls Tryz.prog 50 #[errVal A (K.report c n m).2] V fun e w'=>e=.returned (.tuple #[.string ⟨(doneT (K.report c n m).2).toArray⟩,errVal A (K.report c n m).2])/\w'=V):=fun V=>done_at A _ V
 have HE:Hid (K.scDo c [n,m] 2=((K.report c n m).1,doneT (K.report c n m).2,(K.report c n m).2)):=rfl;generalize K.report c n m=Kn at HX HD HE;obtain⟨K',j⟩:=Kn;clear h hl;go_enter Tryz.func54,Tryz.ntmps54
 go_upto_region 1 with fail
 go_region_held3 (fun w'=>w'.cell? ⟨pb,0,none⟩=some (.pointer (some ⟨kb,0,none⟩))/\w'.cell? ⟨g,o,none⟩=some (.int .i64 n)/\w'.cell? ⟨g,o+1,none⟩=some (.int .i64 m)) (first | exact⟨x0,n0,n1⟩ | exact⟨yx0,yn0,yn1⟩) (first | (go_at_call 55;refine Calls.mono (HX.out _ (below_drewN (Below.refl _ _) _)) ?_;rintro e W1 ⟨rfl,hp⟩;have yx0:=hp.cell x0 hfb;have yn0:=hp.cell n0 hfg;have yn1:=hp.cell n1 hfg) | (go_at_call 50;refine Calls.mono (HD.out _) ?_;rintro e W2 ⟨rfl,rfl⟩))
 all_goals go_wp2
 all_goals go_ret2
 all_goals (show ScR _ _ _ _ _ _ _ _ _ _;rw[HE.out];exact⟨rfl,hp⟩)
set_option maxHeartbeats 2000000 in
set_option maxRecDepth 100000 in
theorem cl_3 (h:ScIn A F w0 w c kb bc sa sc pb K k nv ns)(hl:ns.length=1)(hn:k+K.d.now+1+(ns.getD 0 0).toNat<=900000) :
  Calls Tryz.prog 56 #[nv,.pointer (some ⟨pb,0,none⟩)] w fun e w'=>ScR A F w0 w c kb bc (K.scDo c ns 3) e w':=by
 obtain⟨g,o,cap,n,rfl,rfl,n0,p0,p1,hfg⟩:=h.one hl;obtain⟨N,rfl⟩:∃ N:Nat,n=(N:Int):=⟨n.toNat,by omega⟩;have hN:N<=900000:=by have:=hn;simp at this;omega
 have x0:=h.cell 0 _ rfl;have x1:=h.cell 1 _ rfl;have x2:=h.cell 2 _ rfl;have x3:=h.cell 3 _ rfl;have x4:=h.cell 4 _ rfl;have x5:=h.cell 5 _ rfl;have x6:=h.cell 6 _ rfl;have hfb:=h.fb;have HX:Hid (∀ V,Below w.heap.size w V->Calls Tryz.prog 57 #[.agg (plRow c kb bc (.slice sa c.ents.length sc)),.int .i64 (N:Int)] V fun e w'=>e=.returned (errVal A (K.ticks c N).2)/\KePost F w0 w c kb bc (K.ticks c N).1 w'):=fun V hV=>Calls.mono (sc_ticks N _ (h.to hV) h.ctx.sk h.ctx.rt h.fit (by have:=hn;simp at this;omega)) (fun e w' he=>⟨he.1,he.2.from hV⟩)
 have HD:Hid (∀ V:World,Calls Tryz.prog 50 #[errVal A (K.ticks c N).2] V fun e w'=>e=.returned (.tuple #[.string ⟨(doneT (K.ticks c N).2).toArray⟩,errVal A (K.ticks c N).2])/\w'=V):=fun V=>done_at A _ V
 have HE:Hid (K.scDo c [(N:Int)] 3=((K.ticks c N).1,doneT (K.ticks c N).2,(K.ticks c N).2)):=rfl;generalize K.ticks c N=Kn at HX HD HE;obtain⟨K',j⟩:=Kn;unfold plRow at HX;clear h hl p0 p1 hn hN;go_enter Tryz.func56,Tryz.ntmps56
 go_upto_region 1 with fail
 go_region_held3 (fun w'=>w'.cell? ⟨pb,0,none⟩=some (.pointer (some ⟨kb,0,none⟩))/\w'.cell? ⟨pb,1,none⟩=some (.pointer (some ⟨bc,0,none⟩))/\w'.cell? ⟨pb,2,none⟩=some (.int .i64 c.closed)/\w'.cell? ⟨pb,3,none⟩=some (.int .i64 c.opn)/\w'.cell? ⟨pb,4,none⟩=some (.int .i64 c.cycle)/\w'.cell? ⟨pb,5,none⟩=some (.int .i64 c.delay)/\w'.cell? ⟨pb,6,none⟩=some (.slice sa c.ents.length sc)/\w'.cell? ⟨g,o,none⟩=some (.int .i64 (N:Int))) (first | exact⟨x0,x1,x2,x3,x4,x5,x6,n0⟩ | exact⟨yx0,yx1,yx2,yx3,yx4,yx5,yx6,yn0⟩) (first | (go_at_call 57;refine Calls.mono (HX.out _ (below_drewN (Below.refl _ _) _)) ?_;rintro e W1 ⟨rfl,hp⟩;have yx0:=hp.cell x0 hfb;have yx1:=hp.cell x1 hfb;have yx2:=hp.cell x2 hfb;have yx3:=hp.cell x3 hfb;have yx4:=hp.cell x4 hfb;have yx5:=hp.cell x5 hfb;have yx6:=hp.cell x6 hfb;have yn0:=hp.cell n0 hfg) | (go_at_call 50;refine Calls.mono (HD.out _) ?_;rintro e W2 ⟨rfl,rfl⟩))
 all_goals go_wp2
 all_goals go_ret2
 all_goals (show ScR _ _ _ _ _ _ _ _ _ _;rw[HE.out];exact⟨rfl,hp⟩)
set_option maxHeartbeats 2000000 in
set_option maxRecDepth 100000 in
theorem cl_4 (h:ScIn A F w0 w c kb bc sa sc pb K k nv ns)(hl:ns.length=1) :
  Calls Tryz.prog 58 #[nv,.pointer (some ⟨pb,0,none⟩)] w fun e w'=>ScR A F w0 w c kb bc (K.scDo c ns 4) e w':=by
 obtain⟨g,o,cap,n,rfl,rfl,n0,p0,p1,hfg⟩:=h.one hl;have x1:=h.cell 1 _ rfl;have hfb:=h.fb;have HX:Hid (∀ V,Below w.heap.size w V->Calls Tryz.prog 59 #[.pointer (some ⟨bc,0,none⟩),.int .i64 n] V fun e w'=>e=.returned (errVal A (K.cut n).2)/\KePost F w0 w c kb bc (K.cut n).1 w'):=fun V hV=>Calls.mono (ke_cut n (h.to hV) h.ctx.sk) (fun e w' he=>⟨he.1,he.2.from hV⟩)
 have HD:Hid (∀ V:World,Calls Tryz.prog 50 #[errVal A (K.cut n).2] V fun e w'=>e=.returned (.tuple #[.string ⟨(doneT (K.cut n).2).toArray⟩,errVal A (K.cut n).2])/\w'=V):=fun V=>done_at A _ V
 have HE:Hid (K.scDo c [n] 4=((K.cut n).1,doneT (K.cut n).2,(K.cut n).2)):=rfl;generalize K.cut n=Kn at HX HD HE;obtain⟨K',j⟩:=Kn;clear h hl p0 p1;go_enter Tryz.func58,Tryz.ntmps58
 go_upto_region 1 with fail
 go_region_held3 (fun w'=>w'.cell? ⟨pb,1,none⟩=some (.pointer (some ⟨bc,0,none⟩))/\w'.cell? ⟨g,o,none⟩=some (.int .i64 n)) (first | exact⟨x1,n0⟩ | exact⟨yx1,yn0⟩) (first | (go_at_call 59;refine Calls.mono (HX.out _ (below_drewN (Below.refl _ _) _)) ?_;rintro e W1 ⟨rfl,hp⟩;have yx1:=hp.cell x1 hfb;have yn0:=hp.cell n0 hfg) | (go_at_call 50;refine Calls.mono (HD.out _) ?_;rintro e W2 ⟨rfl,rfl⟩))
 all_goals go_wp2
 all_goals go_ret2
 all_goals (show ScR _ _ _ _ _ _ _ _ _ _;rw[HE.out];exact⟨rfl,hp⟩)
set_option maxHeartbeats 2000000 in
set_option maxRecDepth 100000 in
theorem cl_5 (h:ScIn A F w0 w c kb bc sa sc pb K k nv ns) :
  Calls Tryz.prog 60 #[nv,.pointer (some ⟨pb,0,none⟩)] w fun e w'=>ScR A F w0 w c kb bc (K.scDo c ns 5) e w':=by
 have x0:=h.cell 0 _ rfl;have HX:Hid _:=ke_boot h.at' h.ctx.sk h.ctx.rt h.fit;have HD:Hid (∀ V:World,Calls Tryz.prog 50 #[errVal A (K.boot c).2] V fun e w'=>e=.returned (.tuple #[.string ⟨(doneT (K.boot c).2).toArray⟩,errVal A (K.boot c).2])/\w'=V):=fun V=>done_at A _ V
 have HE:Hid (K.scDo c ns 5=((K.boot c).1,doneT (K.boot c).2,(K.boot c).2)):=rfl;generalize K.boot c=Kn at HX HD HE;obtain⟨K',j⟩:=Kn;clear h;go_enter Tryz.func60,Tryz.ntmps60
 go_wp2_with fail
 refine Calls.mono HX.out ?_;rintro e w1 ⟨rfl,hp⟩;have HD1:Hid _:=HD.out w1;have HP:Hid _:=hp;clear hp HD HX;go_wp2_with fail
 refine Calls.mono HD1.out ?_;rintro e wr ⟨rfl,rfl⟩;go_wp2;go_ret2
 show ScR _ _ _ _ _ _ _ _ _ _
 rw[HE.out];exact⟨rfl,HP.out⟩
set_option maxHeartbeats 2000000 in
set_option maxRecDepth 100000 in
theorem cl_6 (h:ScIn A F w0 w c kb bc sa sc pb K k nv ns) :
  Calls Tryz.prog 62 #[nv,.pointer (some ⟨pb,0,none⟩)] w fun e w'=>ScR A F w0 w c kb bc (K.scDo c ns 6) e w':=by
 have x0:=h.cell 0 _ rfl;have HX:Hid _:=kat_now h.at';have HI:Hid _:=itoaN_at (K.d.now:Int) (by omega) (by have:=h.fit.now;omega) w (h.tab (Below.refl _ _)).1;have HE:Hid (K.scDo c ns 6=(K,num K.d.now,0)):=rfl;have HR:Hid (∀ V,Below w.heap.size w V->ScR A F w0 w c kb bc (K,num K.d.now,0) (.returned (.tuple #[.string ⟨(num K.d.now).toArray⟩,.nilIface])) V):=fun V hV=>ScR.read h hV
 generalize num (K.d.now:Int)=tx at HI HE HR;clear h;go_enter Tryz.func62,Tryz.ntmps62
 go_wp2_with fail
 refine Calls.mono HX.out ?_;rintro e wr ⟨rfl,rfl⟩;go_wp2_with fail
 refine Calls.mono HI.out ?_;rintro e w1 ⟨rfl,hb⟩;go_wp2;go_ret2
 show ScR _ _ _ _ _ _ _ _ _ _
 rw[HE.out];exact HR.out _ hb
set_option maxHeartbeats 2000000 in
set_option maxRecDepth 100000 in
theorem cl_7 (h:ScIn A F w0 w c kb bc sa sc pb K k nv ns) :
  Calls Tryz.prog 65 #[nv,.pointer (some ⟨pb,0,none⟩)] w fun e w'=>ScR A F w0 w c kb bc (K.scDo c ns 7) e w':=by
 have x0:=h.cell 0 _ rfl;have HX:Hid _:=kat_kicks h.at';have HI:Hid _:=itoaN_at (K.d.kicks:Int) (by omega) (by have:=h.fit.now;have:=h.fit.win;omega) w (h.tab (Below.refl _ _)).1;have HE:Hid (K.scDo c ns 7=(K,num K.d.kicks,0)):=rfl;have HR:Hid (∀ V,Below w.heap.size w V->ScR A F w0 w c kb bc (K,num K.d.kicks,0) (.returned (.tuple #[.string ⟨(num K.d.kicks).toArray⟩,.nilIface])) V):=fun V hV=>ScR.read h hV
 generalize num (K.d.kicks:Int)=tx at HI HE HR;clear h;go_enter Tryz.func65,Tryz.ntmps65
 go_wp2_with fail
 refine Calls.mono HX.out ?_;rintro e wr ⟨rfl,rfl⟩;go_wp2_with fail
 refine Calls.mono HI.out ?_;rintro e w1 ⟨rfl,hb⟩;go_wp2;go_ret2
 show ScR _ _ _ _ _ _ _ _ _ _
 rw[HE.out];exact HR.out _ hb
set_option maxHeartbeats 2000000 in
set_option maxRecDepth 100000 in
theorem cl_8 (h:ScIn A F w0 w c kb bc sa sc pb K k nv ns)(hl:ns.length=1) :
  Calls Tryz.prog 67 #[nv,.pointer (some ⟨pb,0,none⟩)] w fun e w'=>ScR A F w0 w c kb bc (K.scDo c ns 8) e w':=by
 obtain⟨g,o,cap,n,rfl,rfl,n0,p0,p1,hfg⟩:=h.one hl;obtain⟨N,rfl⟩:∃ N:Nat,n=(N:Int):=⟨n.toNat,by omega⟩;have x0:=h.cell 0 _ rfl;obtain⟨tx,j,HE,HX⟩:∃ (tx:ByteArray) (j:Nat),Hid (K.scDo c [(N:Int)] 8=(K,bl tx,j))/\Hid (∀ V,Below w.heap.size w V->Calls Tryz.prog 68 #[.pointer (some ⟨kb,0,none⟩),.int .i64 (N:Int)] V fun e w'=>e=.returned (.tuple #[.string tx,errVal A j])/\Below V.heap.size V w'):=by
  cases hs:K.ls[N]? with
  | none=>exact⟨⟨#[]⟩,5,by show KSt.scDo c K [(N:Int)] 8=_;unfold KSt.scDo;simp[hs,bl],fun V hV=>ke_status_no (N:Int) (h.to hV) h.ctx.sk (Or.inr (by have:=List.getElem?_eq_none_iff.1 hs;omega))⟩
  | some s=>exact⟨statB s.status,0,by show KSt.scDo c K [(N:Int)] 8=_;unfold KSt.scDo;simp[hs],fun V hV=>Calls.mono (ke_status N (h.to hV) hs) (fun e w' he=>⟨he.1,he.2 ▸ Below.refl _ _⟩)⟩
 have HR:Hid (∀ V,Below w.heap.size w V->ScR A F w0 w c kb bc (K,bl tx,j) (.returned (.tuple #[.string tx,errVal A j])) V):=fun V hV=>⟨by rw[bl_back],(KePost.same h.at').below hV⟩
 clear h hl p0 p1;go_enter Tryz.func67,Tryz.ntmps67
 go_upto_region 1 with fail
 go_region_held3 (fun w'=>w'.cell? ⟨pb,0,none⟩=some (.pointer (some ⟨kb,0,none⟩))/\w'.cell? ⟨g,o,none⟩=some (.int .i64 (N:Int))) (first | exact⟨x0,n0⟩ | exact⟨yx0,yn0⟩) (first | (go_at_call 68;refine Calls.mono (HX.out _ (below_drewN (Below.refl _ _) _)) ?_;rintro e W1 ⟨rfl,hb⟩;have yx0:=cell_below hb x0;have yn0:=cell_below hb n0))
 all_goals go_wp2
 all_goals go_ret2
 all_goals (show ScR _ _ _ _ _ _ _ _ _ _;rw[HE.out];exact HR.out _ ((below_drewN (Below.refl _ _) _).trans hb))
set_option maxHeartbeats 2000000 in
set_option maxRecDepth 100000 in
theorem cl_9 (h:ScIn A F w0 w c kb bc sa sc pb K k nv ns) :
  Calls Tryz.prog 69 #[nv,.pointer (some ⟨pb,0,none⟩)] w fun e w'=>ScR A F w0 w c kb bc (K.scDo c ns 9) e w':=by
 have x0:=h.cell 0 _ rfl;have HX:Hid _:=kat_total h.at';have HE:Hid (K.scDo c ns 9=(K,bl (totB K.t.st),0)):=rfl;have HR:Hid (ScR A F w0 w c kb bc (K,bl (totB K.t.st),0) (.returned (.tuple #[.string (totB K.t.st),.nilIface])) w):=by
  have:=ScR.read (p:=bl (totB K.t.st)) h (Below.refl w.heap.size w);rw[bl_back] at this;exact this
 generalize totB K.t.st=tx at HX HE HR;clear h;go_enter Tryz.func69,Tryz.ntmps69
 go_wp2_with fail
 refine Calls.mono HX.out ?_;rintro e wr ⟨rfl,rfl⟩;go_wp2;go_ret2
 show ScR _ _ _ _ _ _ _ _ _ _
 rw[HE.out];exact HR.out
set_option maxHeartbeats 2000000 in
set_option maxRecDepth 100000 in
theorem cl_10 (h:ScIn A F w0 w c kb bc sa sc pb K k nv ns) :
  Calls Tryz.prog 71 #[nv,.pointer (some ⟨pb,0,none⟩)] w fun e w'=>ScR A F w0 w c kb bc (K.scDo c ns 10) e w':=by
 have x0:=h.cell 0 _ rfl;have HX:Hid _:=kat_state h.at';have HE:Hid (K.scDo c ns 10=(K,bl (stateB K.on),0)):=rfl;have HR:Hid (ScR A F w0 w c kb bc (K,bl (stateB K.on),0) (.returned (.tuple #[.string (stateB K.on),.nilIface])) w):=by
  have:=ScR.read (p:=bl (stateB K.on)) h (Below.refl w.heap.size w);rw[bl_back] at this;exact this
 generalize stateB K.on=tx at HX HE HR;clear h;go_enter Tryz.func71,Tryz.ntmps71
 go_wp2_with fail
 refine Calls.mono HX.out ?_;rintro e wr ⟨rfl,rfl⟩;go_wp2;go_ret2
 show ScR _ _ _ _ _ _ _ _ _ _
 rw[HE.out];exact HR.out
set_option maxHeartbeats 2000000 in
set_option maxRecDepth 100000 in
theorem cl_11 (h:ScIn A F w0 w c kb bc sa sc pb K k nv ns) :
  Calls Tryz.prog 73 #[nv,.pointer (some ⟨pb,0,none⟩)] w fun e w'=>ScR A F w0 w c kb bc (K.scDo c ns 11) e w':=by
 have x0:=h.cell 0 _ rfl;have x1:=h.cell 1 _ rfl;have x2:=h.cell 2 _ rfl;have x3:=h.cell 3 _ rfl;have x4:=h.cell 4 _ rfl;have x5:=h.cell 5 _ rfl;have x6:=h.cell 6 _ rfl;have HX:Hid _:=cause_at (.slice sa c.ents.length sc) h.at' h.fit.llen h.lb (h.tab (Below.refl _ _)).1 (h.tab (Below.refl _ _)).2;have HE:Hid (K.scDo c ns 11=(K,causeT K.L,0)):=rfl;have HR:Hid (∀ V,Below w.heap.size w V->ScR A F w0 w c kb bc (K,causeT K.L,0) (.returned (.tuple #[.string ⟨(causeT K.L).toArray⟩,.nilIface])) V):=fun V hV=>ScR.read h hV
 generalize causeT K.L=tx at HX HE HR;unfold plRow at HX;clear h;go_enter Tryz.func73,Tryz.ntmps73
 go_wp2_with fail
 refine Calls.mono HX.out ?_;rintro e w1 ⟨rfl,hb⟩;go_wp2;go_ret2
 show ScR _ _ _ _ _ _ _ _ _ _
 rw[HE.out];exact HR.out _ hb
set_option maxHeartbeats 2000000 in
set_option maxRecDepth 100000 in
theorem cl_12 (h:ScIn A F w0 w c kb bc sa sc pb K k nv ns) :
  Calls Tryz.prog 75 #[nv,.pointer (some ⟨pb,0,none⟩)] w fun e w'=>ScR A F w0 w c kb bc (K.scDo c ns 12) e w':=by
 have x0:=h.cell 0 _ rfl;have x1:=h.cell 1 _ rfl;have x2:=h.cell 2 _ rfl;have x3:=h.cell 3 _ rfl;have x4:=h.cell 4 _ rfl;have x5:=h.cell 5 _ rfl;have x6:=h.cell 6 _ rfl;have HX:Hid _:=log_at (.slice sa c.ents.length sc) h.at' h.fit.llen h.lb (h.tab (Below.refl _ _)).1 (h.tab (Below.refl _ _)).2;have HE:Hid (K.scDo c ns 12=(K,logT K.L,0)):=rfl;have HR:Hid (∀ V,Below w.heap.size w V->ScR A F w0 w c kb bc (K,logT K.L,0) (.returned (.tuple #[.string ⟨(logT K.L).toArray⟩,.nilIface])) V):=fun V hV=>ScR.read h hV
 generalize logT K.L=tx at HX HE HR;unfold plRow at HX;clear h;go_enter Tryz.func75,Tryz.ntmps75
 go_wp2_with fail
 refine Calls.mono HX.out ?_;rintro e w1 ⟨rfl,hb⟩;go_wp2;go_ret2
 show ScR _ _ _ _ _ _ _ _ _ _
 rw[HE.out];exact HR.out _ hb
set_option maxHeartbeats 2000000 in
set_option maxRecDepth 100000 in
theorem cl_13 (h:ScIn A F w0 w c kb bc sa sc pb K k nv ns) :
  Calls Tryz.prog 77 #[nv,.pointer (some ⟨pb,0,none⟩)] w fun e w'=>ScR A F w0 w c kb bc (K.scDo c ns 13) e w':=by
 have x0:=h.cell 0 _ rfl;have x1:=h.cell 1 _ rfl;have x2:=h.cell 2 _ rfl;have x3:=h.cell 3 _ rfl;have x4:=h.cell 4 _ rfl;have x5:=h.cell 5 _ rfl;have x6:=h.cell 6 _ rfl;have hB:=h.at'.bel;have HX:Hid _:=configT_at (A:=A) (kb:=kb) (bc:=bc) sa sc (h.ctx.six.below hB) (h.ctx.kw.below hB (block_lt (h.ctx.kw 0 (by decide)))) (h.tab (Below.refl _ _)).1 (h.ctx.mx.below hB) (h.tab (Below.refl _ _)).2 (h.ctx.ents.below hB) h.ctx.small h.ctx.ok;have HE:Hid (K.scDo c ns 13=(K,cfgT c,0)):=rfl;have HR:Hid (∀ V,Below w.heap.size w V->ScR A F w0 w c kb bc (K,cfgT c,0) (.returned (.tuple #[.string ⟨(cfgT c).toArray⟩,.nilIface])) V):=fun V hV=>ScR.read h hV
 generalize cfgT c=tx at HX HE HR;unfold plRow at HX;clear h hB;go_enter Tryz.func77,Tryz.ntmps77
 go_wp2_with fail
 refine Calls.mono HX.out ?_;rintro e w1 ⟨rfl,hb⟩;go_wp2;go_ret2
 show ScR _ _ _ _ _ _ _ _ _ _
 rw[HE.out];exact HR.out _ hb
theorem sc_do (kd:Nat)(hkd:kd < 14)(h:ScIn A F w0 w c kb bc sa sc pb K k nv ns)(hl:ns.length=(scDigs kd).length)(hn:k+K.d.now+1+(if kd=3 then (ns.getD 0 0).toNat else 0)<=900000) :
  Calls Tryz.prog (cmFn kd) #[nv,.pointer (some ⟨pb,0,none⟩)] w fun e w'=>ScR A F w0 w c kb bc (K.scDo c ns kd) e w':=by
 match kd,hkd with
 | 0,_=>exact cl_0 h hl
 | 1,_=>exact cl_1 h hl
 | 2,_=>exact cl_2 h hl
 | 3,_=>exact cl_3 h hl hn
 | 4,_=>exact cl_4 h hl
 | 5,_=>exact cl_5 h
 | 6,_=>exact cl_6 h
 | 7,_=>exact cl_7 h
 | 8,_=>exact cl_8 h hl
 | 9,_=>exact cl_9 h
 | 10,_=>exact cl_10 h
 | 11,_=>exact cl_11 h
 | 12,_=>exact cl_12 h
 | 13,_=>exact cl_13 h
 | n+14,h=>exact absurd h (by omega)
end
theorem cmFn_enters:∀ kd,kd < 14->∀ args w,(callFunc (cmFn kd) args).run Tryz.prog w=.ok (.enter (cmFn kd) args) w:=by
 intro kd hkd
 match kd,hkd with
 | 0,_=>exact enters_of Tryz.func49 (by kernel_rfl) rfl
 | 1,_=>exact enters_of Tryz.func52 (by kernel_rfl) rfl
 | 2,_=>exact enters_of Tryz.func54 (by kernel_rfl) rfl
 | 3,_=>exact enters_of Tryz.func56 (by kernel_rfl) rfl
 | 4,_=>exact enters_of Tryz.func58 (by kernel_rfl) rfl
 | 5,_=>exact enters_of Tryz.func60 (by kernel_rfl) rfl
 | 6,_=>exact enters_of Tryz.func62 (by kernel_rfl) rfl
 | 7,_=>exact enters_of Tryz.func65 (by kernel_rfl) rfl
 | 8,_=>exact enters_of Tryz.func67 (by kernel_rfl) rfl
 | 9,_=>exact enters_of Tryz.func69 (by kernel_rfl) rfl
 | 10,_=>exact enters_of Tryz.func71 (by kernel_rfl) rfl
 | 11,_=>exact enters_of Tryz.func73 (by kernel_rfl) rfl
 | 12,_=>exact enters_of Tryz.func75 (by kernel_rfl) rfl
 | 13,_=>exact enters_of Tryz.func77 (by kernel_rfl) rfl
 | n+14,h=>exact absurd h (by omega)
theorem words_tail (w:World)(b:Nat)(hd:ByteArray)(tl:List ByteArray)(hrow:w.heap[b]?=some (.cells ((hd :: tl).map Value.string).toArray 9 (0,0))) :
  ∃ wa,(∀ W:World,(Instr.slice 22 (.slice (some ⟨b,0,none⟩) (tl.length+1) (tl.length+1)) (some (.int .i64 1)) none none).run Tryz.prog W=.ok (.slice wa tl.length tl.length) W)/\SlAt encS 1 w (.slice wa tl.length tl.length) tl:=by
 have hu:Tryz.prog.underlying 22=some (.slice (Tryz.prog.elem 22)):=by kernel_rfl
 have hz:∀ W,(sizeOf (Tryz.prog.elem 22)).run Tryz.prog W=.ok 1 W:=fun W=>by kernel_rfl
 refine⟨if tl.length+1=1 then some ⟨b,0,none⟩ else some ⟨b,1,none⟩,fun W=>?_,_,_,rfl,Nat.le_refl _,fun hne=>?_⟩
 ·rw[run_slice_l W 22 (some ⟨b,0,none⟩) (tl.length+1) (tl.length+1) hu .i64 1 (by omega) (by omega),hz];have ea:(⟨b,0,none⟩:Addr).add (1*1)=⟨b,1,none⟩:=by unfold Addr.add;split <;> simp_all
  show Result.ok (Value.slice (if tl.length+1=1 then some ⟨b,0,none⟩ else Option.map (fun x:Addr=>x.add (1*1)) (some ⟨b,0,none⟩)) (tl.length+1 - 1) (tl.length+1 - 1)) W=_
  rw[Nat.add_sub_cancel,Option.map_some,ea]
 ·have hl:0 < tl.length:=List.length_pos_iff.2 hne
  refine⟨b,1,by rw[if_neg (by omega)],fun i x hx j u hu=>?_⟩
  cases j with
  | zero=>
   cases hu
   simp only[World.cell?,hrow];have:((hd :: tl).map Value.string)[1+i*1+0]?=some (.string x):=by
    rw[show 1+i*1+0=i+1 by omega,List.map_cons,List.getElem?_cons_succ,List.getElem?_map,hx];rfl
   simpa using this
  | succ j=>simp[encS] at hu
structure ScAt (A:Nat->Addr)(F:Nat->Prop)(w0 w:World)(c:CfgD)(kb bc:Nat)(sa:Option Addr)(sc lo pb mb:Nat)(K:KSt)(k:Nat):Prop where
 ctx:ScCtx A w0 c sa sc
 at':KeAt F w0 w c kb bc K
 fit:KFit c K k (144*K.d.now)
 lb:K.LB
 cm:CmL lo w pb mb (plRow c kb bc (.slice sa c.ents.length sc)) 14
 hk:k < 1000
 fb:¬F pb
section
variable {A:Nat->Addr}{F:Nat->Prop}{w0 w w' V:World}{c:CfgD}{kb bc:Nat}{sa:Option Addr}{sc lo pb mb:Nat}{K:KSt}{k:Nat}
theorem ScAt.below (h:ScAt A F w0 w c kb bc sa sc lo pb mb K k)(hb:Below w.heap.size w V):ScAt A (fun k=>F k/\k < w.heap.size) w0 V c kb bc sa sc lo pb mb K k:=
 ⟨h.ctx,h.at'.trim.below hb,h.fit,h.lb,h.cm.kept (fun k _ hk=>hb.block k hk),h.hk,fun e=>h.fb e.1⟩
set_option maxHeartbeats 4000000 in
set_option maxRecDepth 100000 in
theorem play_at (l:ByteArray)(h:ScAt A F w0 w c kb bc sa sc lo pb mb K k)(hl:l.size<=1000000)(hn:k+K.d.now+1+scTick (bl l)<=900000) :
  Calls Tryz.prog 79 #[.map (some mb),.string l] w fun e w'=>ScR A F w0 w c kb bc (K.scPlay c (bl l)) e w':=by
 obtain⟨hd,tl,hsp,hcut,htl⟩:=words_of l ⟨#[32]⟩ rfl;have hB0:=h.at'.bel;have HSp:Hid (Calls Tryz.prog 103 #[.string l,.string ⟨#[32]⟩] w fun e w'=>e=.returned (.slice (some ⟨w.heap.size,0,none⟩) (tl.length+1) (tl.length+1))/\w'=w.alloc (.cells ((hd :: tl).map Value.string).toArray 9)):=by
  have:=split_at l ⟨#[32]⟩ w (h.ctx.mx.below hB0) (by omega) (by decide);rw[hsp,<- htl] at this;exact this
 have HPl:Hid (K.scPlay c (bl l)=K.scWords c (bl hd :: tl.map bl)/\scTick (bl l)=scTickW (bl hd :: tl.map bl)):=⟨by unfold KSt.scPlay;rw[hcut],by unfold scTick;rw[hcut]⟩;have hsz:∀ s∈hd :: tl,s.size<=1000000:=fun s hs=>by
  have h1:bl s∈cutBy 32 (bl l):=by rw[hcut];exact List.mem_map_of_mem (f:=bl) hs
  have h2:=cut_size 32 _ _ h1;have h3:(bl s).length=s.size:=by simp[bl]
  have h4:(bl l).length=l.size:=by simp[bl]
  omega
 have htl9:tl.length<=1000000:=by
  have h1:=(cut_sizes 32 (bl l)).2;rw[hcut] at h1;have h4:(bl l).length=l.size:=by simp[bl]
  simp at h1
  omega
 have HH:Hid _:=h;have HN:Hid (k+K.d.now+1+scTickW (bl hd :: tl.map bl)<=900000):=by show _<=_;rw[<- HPl.out.2];exact hn
 have hhd:=hsz hd (List.mem_cons_self ..);clear hsp hcut htl hsz h hn hB0 hl;go_enter Tryz.func79,Tryz.ntmps79
 go_wp2_with fail
 refine Calls.mono HSp.out ?_;rintro v w1 ⟨rfl,hw1⟩;have hb1:Below w.heap.size w w1:=by rw[hw1];exact Below.one _ _
 have hc1:w1.heap[w.heap.size]?=some (.cells ((hd :: tl).map Value.string).toArray 9 (0,0)):=by rw[hw1];exact heap_alloc_new w _
 clear hw1 HSp;have x0:w1.cell? ⟨w.heap.size,0,none⟩=some (.string hd):=by simp[World.cell?,hc1]
 have n1:(0:Int) < (tl.length:Int)+1:=by omega
 have H1:Hid _:=HH.out.below hb1;have HB1:Hid _:=hb1;have HC1:Hid _:=hc1;obtain⟨lk1,lk2⟩:=H1.out.cm.look hd hhd;clear hb1 hc1
 cases hk:scKind (bl hd) with
 | none=>
  have hlook:=lk1 hk;have HE:Hid (K.scPlay c (bl l)=(K,[],1)):=by show _=_;rw[HPl.out.1,scWords_none hk]
  have sen:∀ o,(w1.alloc o).cell? ⟨1,0,none⟩=some (.iface 400 (.pointer (some (A 0)))):=fun o=>cell_below (Below.one w1 o) (H1.out.ctx.six.below H1.out.at'.bel).c0
  clear lk1 lk2 hk;go_wp2_with fail
  go_region
  all_goals go_wp2
  all_goals go_ret2
  all_goals (show ScR _ _ _ _ _ _ _ _ _ _;rw[HE.out];exact⟨rfl,(KePost.same HH.out.at').below ((HB1.out.alloc HB1.out.size _).trans (below_drewN (Below.refl _ _) _))⟩)
 | some kd=>
  obtain⟨v,⟨sv,rfl,hsv,hlo⟩,hlook⟩:=lk2 kd hk;obtain⟨da,dc,rfl,hdl,-⟩:=id hsv;obtain⟨hkd,-⟩:=scKind_some hk;obtain⟨wa,hsl,hws⟩:=words_tail w1 _ hd tl HC1.out;obtain⟨w2,hw2⟩:∃ X,X=w1.alloc (.cells #[.slice da (scDigs kd).length dc,.func (.func (cmFn kd)) #[] #[.pointer (some ⟨pb,0,none⟩)]] 129):=⟨_,rfl⟩;have hb2:Below w1.heap.size w1 w2:=by rw[hw2];exact Below.one _ _
  have hr2:w2.heap[w1.heap.size]?=some (.cells #[.slice da (scDigs kd).length dc,.func (.func (cmFn kd)) #[] #[.pointer (some ⟨pb,0,none⟩)]] 129 (0,0)):=by rw[hw2];exact heap_alloc_new w1 _
  have y0:w2.cell? ⟨w1.heap.size,0,none⟩=some (.slice da (scDigs kd).length dc):=by simp[World.cell?,hr2]
  have y1:w2.cell? ⟨w1.heap.size,1,none⟩=some (.func (.func (cmFn kd)) #[] #[.pointer (some ⟨pb,0,none⟩)]):=by simp[World.cell?,hr2]
  have hB12:Below w.heap.size w w2:=HB1.out.trans (hb2.mono HB1.out.size);have HNm:Hid (∀ V,Below w2.heap.size w2 V->Calls Tryz.prog 128 #[.slice wa tl.length tl.length,.slice da (scDigs kd).length dc] V fun e w'=>NumOut A (scDigs kd) tl V e w'):=fun V hV=>by
   have h3:Below w1.heap.size w1 V:=hb2.trans (hV.mono hb2.size);have h4:Below w0.heap.size w0 V:=H1.out.at'.bel.trans (h3.mono H1.out.at'.bel.size);exact numbers_at A (scDigs kd) tl wa tl.length da dc V (H1.out.ctx.tab.below h4 H1.out.ctx.gb) (H1.out.ctx.syn.below h4) (Nat.le_trans H1.out.ctx.gb h4.size) (H1.out.ctx.six.below h4).c0 (scDigs_le kd) (hws.below h3) (hsv.below h3) (by unfold scDigs;split <;> simp)
  have HSl:Hid _:=hws;have HK:Hid (scKind (bl hd)=some kd):=hk;have HKd:Hid (kd < 14):=hkd;have HB2:Hid _:=hB12;clear lk1 lk2 hk hsv hlo hdl hkd hws hb2 hr2 hB12;go_upto_region 3 with fail
  rw[<- hw2];clear hw2 hlook x0;go_upto_region 5 with fail
  go_region_held3 (fun w'=>w'.cell? ⟨w1.heap.size,0,none⟩=some (.slice da (scDigs kd).length dc)) (first | exact y0 | exact z0) (first | (go_at_call 128;refine Calls.mono (HNm.out _ (below_drewN (Below.refl _ _) _)) ?_;rintro e w3 ⟨nv,ev,rfl,hb3,hno,hyes⟩;have z0:=cell_below hb3 y0))
  have z1:w3.cell? ⟨w1.heap.size,1,none⟩=_:=cell_below hb3 y1;have hB3:Below w.heap.size w w3:=HB2.out.trans (((below_drewN (Below.refl _ _) _).trans hb3).mono HB2.out.size);have HB3:Hid _:=hB3
  cases hs:scNums (scDigs kd) (tl.map bl) with
  | none=>
   obtain rfl:=hno hs;have HE:Hid (K.scPlay c (bl l)=(K,[],1)):=by show _=_;rw[HPl.out.1,scWords_bad HK.out hs]
   rw[show errVal A 1=.iface 400 (.pointer (some (A 0))) from rfl];clear hs hno hyes hb3 hB3 y0 y1 z0 z1 HNm hsl;go_wp2;go_ret2
   show ScR _ _ _ _ _ _ _ _ _ _
   rw[HE.out];exact⟨rfl,(KePost.same HH.out.at').below HB3.out⟩
  | some ns=>
   obtain⟨rfl,hnv,hgn⟩:=hyes ns hs;have HE:Hid (K.scPlay c (bl l)=K.scDo c ns kd):=by show _=_;rw[HPl.out.1,scWords_ok HK.out hs]
   obtain⟨e1,e2,e3⟩:=scNums_len _ _ _ (scDigs_le kd) hs;have h3:=HH.out.below hB3;have hz:w.heap.size<=w2.heap.size:=HB2.out.size;have HX:Hid (Calls Tryz.prog (cmFn kd) #[nv,.pointer (some ⟨pb,0,none⟩)] w3 fun e w'=>ScR A (fun k=>F k/\k < w.heap.size) w0 w3 c kb bc (K.scDo c ns kd) e w'):=sc_do kd HKd.out ⟨h3.ctx,h3.at',h3.fit,h3.lb,h3.cm.box,hnv,e3,h3.hk,h3.fb,fun g hg e=>by
     have h5:g < w.heap.size:=e.2;have h6:w2.heap.size<=g:=hgn g hg;omega⟩ e1 (by
    have h7:=HN.out
    split
    ·rename_i h8;subst h8;have h9:scTickW (bl hd :: tl.map bl)=(ns.getD 0 0).toNat:=by
      show (if scKind (bl hd)=some 3 then _ else _)=_
      rw[if_pos HK.out,show scNums [5] (tl.map bl)=some ns from hs];rfl
     rw[h9] at h7;exact h7
    ·omega)
   have HTo:Hid (∀ e V,ScR A (fun k=>F k/\k < w.heap.size) w0 w3 c kb bc (K.scDo c ns kd) e V->ScR A F w0 w c kb bc (K.scDo c ns kd) e V):=fun e V he=>⟨he.1,(he.2.from hB3).mono (fun k hk=>hk.1)⟩
   have hen:=cmFn_enters kd HKd.out;generalize K.scDo c ns kd=p at HX HE HTo;clear hs hno hyes hb3 hB3 y0 y1 z0 HNm hsl hnv hgn e1 e2 e3 h3 hz;obtain⟨K',tx,j⟩:=p;go_wp2_with fail
   refine Calls.mono HX.out ?_;intro e w4 he;have HR:Hid (KePost F w0 w c kb bc K' w4):=(HTo.out _ _ he).2;obtain⟨rfl,-⟩:=he;go_wp2;go_ret2
   show ScR _ _ _ _ _ _ _ _ _ _
   rw[HE.out];exact⟨rfl,HR.out⟩
set_option maxHeartbeats 4000000 in
set_option maxRecDepth 100000 in
theorem answer_at (T:Nat->Bs)(l:ByteArray)(h:ScAt A F w0 w c kb bc sa sc lo pb mb K k)(hT:∀ i,i < 11->w0.cell? (A i)=some (.string ⟨(T (i+1)).toArray⟩))(hl:l.size<=1000000)(hn:k+K.d.now+1+scTick (bl l)<=900000) :
  Calls Tryz.prog 24 #[.map (some mb),.string l] w fun e w'=>e=.returned (.string ⟨(scOut T (K.scPlay c (bl l))).toArray⟩)/\KePost F w0 w c kb bc (K.scPlay c (bl l)).1 w':=by
 have HX:Hid _:=play_at l h hl hn;have HC:Hid ((K.scPlay c (bl l)).2.2<=11):=(scPlay_fit h.ctx.rt h.fit (bl l) (by omega)).2.2;have HT:Hid _:=hT;generalize K.scPlay c (bl l)=p at HX HC ⊢;obtain⟨K',tx,j⟩:=p;clear h hl hn hT
 cases j with
 | zero=>
  rw[show scOut T (K',tx,0)=tx from rfl];go_enter Tryz.func24,Tryz.ntmps24
  go_wp2_with fail
  refine Calls.mono HX.out ?_;rintro e w1 ⟨rfl,hp⟩;rw[show errVal A ((K',tx,0):KSt × Bs × Nat).2.2=.nilIface from rfl];have HP:Hid _:=hp;clear hp;go_wp2;go_ret;exact⟨rfl,HP.out⟩
 | succ i=>
  rw[show scOut T (K',tx,i+1)=T (i+1) from rfl];go_enter Tryz.func24,Tryz.ntmps24
  go_wp2_with fail
  refine Calls.mono HX.out ?_;rintro e w1 ⟨rfl,hp⟩;rw[show errVal A ((K',tx,i+1):KSt × Bs × Nat).2.2=.iface 400 (.pointer (some (A i))) from rfl];have HP:Hid _:=hp;have hx:=cell_below hp.1.bel (HT.out i (by have h5:i+1<=11:=HC.out;omega));obtain⟨Ai,hAi⟩:∃ a,a=A i:=⟨_,rfl⟩;rw[<- hAi] at hx ⊢
  have hm : ∀ W : World, (method 538 400 (.pointer (some Ai)) "Error").run Tryz.prog W = .ok (389, .pointer (some Ai)) W := fun W => rfl
  have hx2:w1.cell? (Ai.add 0)=some (.string ⟨(T (i+1)).toArray⟩):=by rw[add_zero''];exact hx
  clear hp hAi;go_wp2;go_ret;exact⟨rfl,HP.out⟩
end
end Go.Proofs.YtffpcbdlbcjihadGreatDoor
