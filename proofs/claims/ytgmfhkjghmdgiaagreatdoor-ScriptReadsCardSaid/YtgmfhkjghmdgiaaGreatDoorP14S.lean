/-
  Several texts as one: ScDo, ScPlay, CfRStep, CfRLines, CfRRead, ScNew, ScAgLaid, ScRdLaid, ScLine, ScRdP.
-/
import Derived.Test.YtgmfhkjghmdgiaaGreatDoorP13S
import Derived.Lay
import Derived.Laws.Concat
set_option linter.all false
set_option maxHeartbeats 40000000
set_option maxRecDepth 100000
open Go renaming Addr→az,Value→ar,World→ai
open Go.Ending renaming returned→ax
open Go.IntKind renaming i64→R
open Go.Obj renaming cells→au
open Go.RowKit renaming Hid→aa
open Go.Value renaming agg→aU,bool→aI,int→U,pointer→aj,slice→af,string→aq,tuple→bn
open Option renaming none→I,some→J
open Go.Proofs.Tryz
namespace Go.Proofs.YtgmfhkjghmdgiaaGreatDoor
open Go.Extern Go.Extern.Stop Go.RowKit Go.Stop
structure Dk(A:Nat->az)(w0:ai)(c:aS)(sa:Option az)(sc:Nat):Prop where
 sk:fA A w0
 six:dA A w0
 kw:jF w0
 tab:iK w0
 mx:ox w0
 FH:wz w0
 gb:(max 12 13+1)<=w0.heap.size
 aw:jR w0 (af sa c.aw.length sc) c.aw
 small:nh c
 ok:(cG c).1=0
 rt:gi c
structure jk(A:Nat->az)(F:Nat->Prop)(w0 w:ai)(c:aS)(kb bc:Nat)(sa:Option az)(sc pb:Nat)(K:aH)(k:Nat)(nv:ar)(ns:List Int):Prop where
 ctx:Dk A w0 c sa sc
 at':eV F w0 w c kb bc K
 fit:bQ c K k (144*K.d.now)
 lb:K.LB
 box:w.heap[pb]?=J (au (fH c kb bc (af sa c.aw.length sc)) 45 (0,0))
 nums:bN bm 1 w nv ns
 pos:∀n∈ns,0<=n/\n<1000000000000000000
 hk:k<1000
 fb:¬F pb
 fn:∀g,nv.ownBlock=J g->¬F g
def dE(A:Nat->az)(F:Nat->Prop)(w0 w:ai)(c:aS)(kb bc:Nat)(p:aH×Bs×Nat)(e:Ending)(w':ai):Prop:=e=ax (bn #[aq ⟨p.2.1.toArray⟩,errVal A p.2.2])/\di F w0 w c kb bc p.1 w'
section
variable {A:Nat->az}{F:Nat->Prop}{w0 w w' V:ai}{c:aS}{kb bc:Nat}{sa:Option az}{sc pb:Nat}{K:aH}{k:Nat}{nv:ar}{ns:List Int}
theorem di.cell{K:aH}{a:az}{u:ar}(h:di F w0 w c kb bc K w')(hc:w.cell? a=J u)(hf:¬F a.block):w'.cell? a=J u:=by
 have h1:=h.2.block _ (fY hc) hf;simp only[World.cell?,h1]at hc⊢;exact hc
theorem KI(x:ByteArray):(⟨(bl x).toArray⟩:ByteArray)=x:=by unfold bl;rw[Array.toArray_toList]
theorem jk.cell(h:jk A F w0 w c kb bc sa sc pb K k nv ns)(j:Nat)(u:ar)(hu:(fH c kb bc (af sa c.aw.length sc))[j]?=J u):w.cell? ⟨pb,j,I⟩=J u:=by simp[World.cell?,h.box,hu]
theorem jk.to(h:jk A F w0 w c kb bc sa sc pb K k nv ns)(hb:Below w.heap.size w V):eV F w0 V c kb bc K:=h.at'.below hb
theorem jk.tab(h:jk A F w0 w c kb bc sa sc pb K k nv ns)(hb:Below w.heap.size w V):iK V/\(max 12 13+1)<=V.heap.size:=by
 have h1:=h.at'.br.trans (hb.mono h.at'.br.size);exact⟨h.ctx.tab.below h1 h.ctx.gb,bw h.ctx.gb h1.size⟩
theorem dE.read{p:Bs}(h:jk A F w0 w c kb bc sa sc pb K k nv ns)(hb:Below w.heap.size w w'):dE A F w0 w c kb bc (K,p,0) (ax (bn #[aq ⟨p.toArray⟩,.nilIface])) w':=⟨rfl,(di.same h.at').below hb⟩
theorem jk.one(h:jk A F w0 w c kb bc sa sc pb K k nv ns)(h1:ns.length=1):∃g o cap n,nv=af (J ⟨g,o,I⟩) 1 cap/\ns=[n]/\w.cell? ⟨g,o,I⟩=J (U R n)/\0<=n/\n<1000000000000000000/\¬F g:=by
 match ns,h1,h.nums,h.pos with
 |[n],_,hv,hp=>
  have hf:=h.fn;obtain⟨dI,cap,rfl,h2,h3⟩:=hv;obtain⟨b,o,rfl,h4⟩:=h3 (by simp);exact⟨b,o,cap,n,rfl,rfl,by simpa using h4 0 n rfl 0 _ rfl,(hp n (by simp)).1,(hp n (by simp)).2,hf b rfl⟩
theorem jk.two(h:jk A F w0 w c kb bc sa sc pb K k nv ns)(h1:ns.length=2):∃g o cap n m,nv=af (J ⟨g,o,I⟩) 2 cap/\ns=[n,m]/\w.cell? ⟨g,o,I⟩=J (U R n)/\w.cell? ⟨g,o+1,I⟩=J (U R m)/\¬F g:=by
 match ns,h1,h.nums with
 |[n,m],_,hv=>
  have hf:=h.fn;obtain⟨dI,cap,rfl,h2,h3⟩:=hv;obtain⟨b,o,rfl,h4⟩:=h3 (by simp);exact⟨b,o,cap,n,m,rfl,rfl,by simpa using h4 0 n rfl 0 _ rfl,by simpa using h4 1 m rfl 0 _ rfl,hf b rfl⟩
theorem afP(h:jk A F w0 w c kb bc sa sc pb K k nv ns)(hl:ns.length=1):Calls prog 22 #[nv,aj (J ⟨pb,0,I⟩)] w λe w'=>dE A F w0 w c kb bc (K.dN c ns 0) e w':=by
 obtain⟨g,o,cap,n,rfl,rfl,n0,p0,p1,rH⟩:=h.one hl;have x0:=h.cell 0 _ rfl;have lO:=h.fb;have HX:aa (∀V,Below _ w V->Calls _ 24 _ V λe w'=>e=ax _/\di F w0 w c kb bc _ w'):=λV hV=>aL (abN n (h.to hV) h.ctx.sk h.ctx.rt) (λe w' he=>⟨he.1,he.2.from hV⟩)
 have HD:aa (∀V:ai,Calls _ 23 _ V λe w'=>e=ax (bn #[aq _,errVal A (K.begin n).2])/\w'=V):=λV=>Ac A _ V
 have HE:aa (K.dN c [n] 0=((K.begin n).1,rj (K.begin n).2,(K.begin n).2)):=rfl;generalize K.begin n=Kn at HX HD HE;obtain⟨K',j⟩:=Kn;clear h hl p0 p1;go_enter func22,ntmps22
 go_upto_region 1 with fail
 go_region_held3 (λw'=>w'.cell? ⟨pb,0,I⟩=J (aj (J ⟨kb,0,I⟩))/\w'.cell? ⟨g,o,I⟩=J (U R n)) (first|exact⟨x0,n0⟩|exact⟨uT,rI⟩) (first|(go_at_call 24;refine aL (HX.o _ (cg (aC _ _) _)) ?_;rintro e W1 ⟨rfl,hp⟩;have uT:=hp.cell x0 lO;have rI:=hp.cell n0 rH)|(go_at_call 23;refine aL (HD.o _) ?_;rintro e W2 ⟨rfl,rfl⟩))
 all_goals go_wp2
 all_goals go_ret2
 all_goals (show dE _ _ _ _ _ _ _ _ _ _;rw[HE.o];exact⟨rfl,hp⟩)
theorem afQ(h:jk A F w0 w c kb bc sa sc pb K k nv ns)(hl:ns.length=1):Calls prog 25 #[nv,aj (J ⟨pb,0,I⟩)] w λe w'=>dE A F w0 w c kb bc (K.dN c ns 1) e w':=by
 obtain⟨g,o,cap,n,rfl,rfl,n0,p0,p1,rH⟩:=h.one hl;have x0:=h.cell 0 _ rfl;have lO:=h.fb;have HX:aa (∀V,Below _ w V->Calls _ 26 _ V λe w'=>e=ax _/\di F w0 w c kb bc _ w'):=λV hV=>aL (abP n (h.to hV) h.ctx.sk h.ctx.rt) (λe w' he=>⟨he.1,he.2.from hV⟩)
 have HD:aa (∀V:ai,Calls _ 23 _ V λe w'=>e=ax (bn #[aq _,errVal A (K.stop n).2])/\w'=V):=λV=>Ac A _ V
 have HE:aa (K.dN c [n] 1=((K.stop n).1,rj (K.stop n).2,(K.stop n).2)):=rfl;generalize K.stop n=Kn at HX HD HE;obtain⟨K',j⟩:=Kn;clear h hl p0 p1;go_enter func25,ntmps25
 go_upto_region 1 with fail
 go_region_held3 (λw'=>w'.cell? ⟨pb,0,I⟩=J (aj (J ⟨kb,0,I⟩))/\w'.cell? ⟨g,o,I⟩=J (U R n)) (first|exact⟨x0,n0⟩|exact⟨uT,rI⟩) (first|(go_at_call 26;refine aL (HX.o _ (cg (aC _ _) _)) ?_;rintro e W1 ⟨rfl,hp⟩;have uT:=hp.cell x0 lO;have rI:=hp.cell n0 rH)|(go_at_call 23;refine aL (HD.o _) ?_;rintro e W2 ⟨rfl,rfl⟩))
 all_goals go_wp2
 all_goals go_ret2
 all_goals (show dE _ _ _ _ _ _ _ _ _ _;rw[HE.o];exact⟨rfl,hp⟩)
theorem afR(h:jk A F w0 w c kb bc sa sc pb K k nv ns)(hl:ns.length=2):Calls prog 27 #[nv,aj (J ⟨pb,0,I⟩)] w λe w'=>dE A F w0 w c kb bc (K.dN c ns 2) e w':=by
 obtain⟨g,o,cap,n,m,rfl,rfl,n0,n1,rH⟩:=h.two hl;have x0:=h.cell 0 _ rfl;have lO:=h.fb;have HX:aa (∀V,Below _ w V->Calls _ 28 _ V λe w'=>e=ax _/\di F w0 w c kb bc _ w'):=λV hV=>aL (abR n m (h.to hV) h.ctx.sk h.ctx.rt h.fit h.hk) (λe w' he=>⟨he.1,he.2.from hV⟩)
 have HD:aa (∀V:ai,Calls _ 23 _ V λe w'=>e=ax (bn #[aq _,errVal A (K.report c n m).2])/\w'=V):=λV=>Ac A _ V
 have HE:aa (K.dN c [n,m] 2=((K.report c n m).1,rj (K.report c n m).2,(K.report c n m).2)):=rfl;generalize K.report c n m=Kn at HX HD HE;obtain⟨K',j⟩:=Kn;clear h hl;go_enter func27,ntmps27
 go_upto_region 1 with fail
 go_region_held3 (λw'=>w'.cell? ⟨pb,0,I⟩=J (aj (J ⟨kb,0,I⟩))/\w'.cell? ⟨g,o,I⟩=J (U R n)/\w'.cell? ⟨g,o+1,I⟩=J (U R m)) (first|exact⟨x0,n0,n1⟩|exact⟨uT,rI,afS⟩) (first|(go_at_call 28;refine aL (HX.o _ (cg (aC _ _) _)) ?_;rintro e W1 ⟨rfl,hp⟩;have uT:=hp.cell x0 lO;have rI:=hp.cell n0 rH;have afS:=hp.cell n1 rH)|(go_at_call 23;refine aL (HD.o _) ?_;rintro e W2 ⟨rfl,rfl⟩))
 all_goals go_wp2
 all_goals go_ret2
 all_goals (show dE _ _ _ _ _ _ _ _ _ _;rw[HE.o];exact⟨rfl,hp⟩)
theorem afT(h:jk A F w0 w c kb bc sa sc pb K k nv ns)(hl:ns.length=1)(hn:k+K.d.now+1+(ns.getD 0 0).toNat<=900000):Calls prog 29 #[nv,aj (J ⟨pb,0,I⟩)] w λe w'=>dE A F w0 w c kb bc (K.dN c ns 3) e w':=by
 obtain⟨g,o,cap,n,rfl,rfl,n0,p0,p1,rH⟩:=h.one hl;obtain⟨N,rfl⟩:∃N:Nat,n=(N:Int):=⟨n.toNat,by omega⟩;have hN:N<=900000:=by have:=hn;simp at this;omega
 have x0:=h.cell 0 _ rfl;have x1:=h.cell 1 _ rfl;have x2:=h.cell 2 _ rfl;have x3:=h.cell 3 _ rfl;have x4:=h.cell 4 _ rfl;have x5:=h.cell 5 _ rfl;have x6:=h.cell 6 _ rfl;have lO:=h.fb;have HX:aa (∀V,Below _ w V->Calls _ 30 #[.agg (fH c kb bc (af sa c.aw.length sc)),U R _] V λe w'=>e=ax _/\di F w0 w c kb bc _ w'):=λV hV=>aL (acO N _ (h.to hV) h.ctx.sk h.ctx.rt h.fit (by have:=hn;simp at this;omega)) (λe w' he=>⟨he.1,he.2.from hV⟩)
 have HD:aa (∀V:ai,Calls _ 23 _ V λe w'=>e=ax (bn #[aq _,errVal A (K.fO c N).2])/\w'=V):=λV=>Ac A _ V
 have HE:aa (K.dN c [(N:Int)] 3=((K.fO c N).1,rj (K.fO c N).2,(K.fO c N).2)):=rfl;generalize K.fO c N=Kn at HX HD HE;obtain⟨K',j⟩:=Kn;unfold fH at HX;clear h hl p0 p1 hn hN;go_enter func29,ntmps29
 go_upto_region 1 with fail
 go_region_held3 (λw'=>w'.cell? ⟨pb,0,I⟩=J (aj (J ⟨kb,0,I⟩))/\w'.cell? ⟨pb,1,I⟩=J (aj (J ⟨bc,0,I⟩))/\w'.cell? ⟨pb,2,I⟩=J (U R c.closed)/\w'.cell? ⟨pb,3,I⟩=J (U R c.opn)/\w'.cell? ⟨pb,4,I⟩=J (U R c.cycle)/\w'.cell? ⟨pb,5,I⟩=J (U R c.bC)/\w'.cell? ⟨pb,6,I⟩=J (af sa c.aw.length sc)/\w'.cell? ⟨g,o,I⟩=J (U R (N:Int))) (first|exact⟨x0,x1,x2,x3,x4,x5,x6,n0⟩|exact⟨uT,KJ,afU,afV,afW,afX,afY,rI⟩) (first|(go_at_call 30;refine aL (HX.o _ (cg (aC _ _) _)) ?_;rintro e W1 ⟨rfl,hp⟩;have uT:=hp.cell x0 lO;have KJ:=hp.cell x1 lO;have afU:=hp.cell x2 lO;have afV:=hp.cell x3 lO;have afW:=hp.cell x4 lO;have afX:=hp.cell x5 lO;have afY:=hp.cell x6 lO;have rI:=hp.cell n0 rH)|(go_at_call 23;refine aL (HD.o _) ?_;rintro e W2 ⟨rfl,rfl⟩))
 all_goals go_wp2
 all_goals go_ret2
 all_goals (show dE _ _ _ _ _ _ _ _ _ _;rw[HE.o];exact⟨rfl,hp⟩)
theorem afZ(h:jk A F w0 w c kb bc sa sc pb K k nv ns)(hl:ns.length=1):Calls prog 31 #[nv,aj (J ⟨pb,0,I⟩)] w λe w'=>dE A F w0 w c kb bc (K.dN c ns 4) e w':=by
 obtain⟨g,o,cap,n,rfl,rfl,n0,p0,p1,rH⟩:=h.one hl;have x1:=h.cell 1 _ rfl;have lO:=h.fb;have HX:aa (∀V,Below _ w V->Calls _ 32 _ V λe w'=>e=ax _/\di F w0 w c kb bc _ w'):=λV hV=>aL (acD n (h.to hV) h.ctx.sk) (λe w' he=>⟨he.1,he.2.from hV⟩)
 have HD:aa (∀V:ai,Calls _ 23 _ V λe w'=>e=ax (bn #[aq _,errVal A (K.cut n).2])/\w'=V):=λV=>Ac A _ V
 have HE:aa (K.dN c [n] 4=((K.cut n).1,rj (K.cut n).2,(K.cut n).2)):=rfl;generalize K.cut n=Kn at HX HD HE;obtain⟨K',j⟩:=Kn;clear h hl p0 p1;go_enter func31,ntmps31
 go_upto_region 1 with fail
 go_region_held3 (λw'=>w'.cell? ⟨pb,1,I⟩=J (aj (J ⟨bc,0,I⟩))/\w'.cell? ⟨g,o,I⟩=J (U R n)) (first|exact⟨x1,n0⟩|exact⟨KJ,rI⟩) (first|(go_at_call 32;refine aL (HX.o _ (cg (aC _ _) _)) ?_;rintro e W1 ⟨rfl,hp⟩;have KJ:=hp.cell x1 lO;have rI:=hp.cell n0 rH)|(go_at_call 23;refine aL (HD.o _) ?_;rintro e W2 ⟨rfl,rfl⟩))
 all_goals go_wp2
 all_goals go_ret2
 all_goals (show dE _ _ _ _ _ _ _ _ _ _;rw[HE.o];exact⟨rfl,hp⟩)
theorem af0(h:jk A F w0 w c kb bc sa sc pb K k nv ns):Calls prog 33 #[nv,aj (J ⟨pb,0,I⟩)] w λe w'=>dE A F w0 w c kb bc (K.dN c ns 5) e w':=by
 have x0:=h.cell 0 _ rfl;have HX:aa _:=acK h.at' h.ctx.sk h.ctx.rt h.fit;have HD:aa (∀V:ai,Calls _ 23 _ V λe w'=>e=ax (bn #[aq _,errVal A (K.j4 c).2])/\w'=V):=λV=>Ac A _ V
 have HE:aa (K.dN c ns 5=((K.j4 c).1,rj _,(K.j4 c).2)):=rfl;generalize K.j4 c=Kn at HX HD HE;obtain⟨K',j⟩:=Kn;clear h;go_enter func33,ntmps33
 go_wp2_with fail
 refine aL HX.o ?_;rintro e w1 ⟨rfl,hp⟩;have af1:aa _:=HD.o w1;have HP:aa _:=hp;clear hp HD HX;go_wp2_with fail
 refine aL af1.o ?_;rintro e wr ⟨rfl,rfl⟩;go_wp2;go_ret2
 show dE _ _ _ _ _ _ _ _ _ _
 rw[HE.o];exact⟨rfl,HP.o⟩
theorem af2(h:jk A F w0 w c kb bc sa sc pb K k nv ns):Calls prog 35 #[nv,aj (J ⟨pb,0,I⟩)] w λe w'=>dE A F w0 w c kb bc (K.dN c ns 6) e w':=by
 have x0:=h.cell 0 _ rfl;have HX:aa _:=afM h.at';have HI:aa _:=Jg (K.d.now:Int) (by omega) (by have:=h.fit.now;omega) w (h.tab (aC _ _)).1;have HE:aa (K.dN c ns 6=(K,num _,0)):=rfl;have HR:aa (∀V,Below _ w V->dE A F w0 w c kb bc _ (ax (bn #[aq ⟨(num K.d.now).toArray⟩,.nilIface])) V):=λV hV=>dE.read h hV
 generalize num (K.d.now:Int)=tx at HI HE HR;clear h;go_enter func35,ntmps35
 go_wp2_with fail
 refine aL HX.o ?_;rintro e wr ⟨rfl,rfl⟩;go_wp2_with fail
 refine aL HI.o ?_;rintro e w1 ⟨rfl,hb⟩;go_wp2;go_ret2
 show dE _ _ _ _ _ _ _ _ _ _
 rw[HE.o];exact HR.o _ hb
theorem af3(h:jk A F w0 w c kb bc sa sc pb K k nv ns):Calls prog 38 #[nv,aj (J ⟨pb,0,I⟩)] w λe w'=>dE A F w0 w c kb bc (K.dN c ns 7) e w':=by
 have x0:=h.cell 0 _ rfl;have HX:aa _:=afN h.at';have HI:aa _:=Jg (K.d.jX:Int) (by omega) (by have:=h.fit.now;have:=h.fit.win;omega) w (h.tab (aC _ _)).1;have HE:aa (K.dN c ns 7=(K,num _,0)):=rfl;have HR:aa (∀V,Below _ w V->dE A F w0 w c kb bc _ (ax (bn #[aq ⟨(num K.d.jX).toArray⟩,.nilIface])) V):=λV hV=>dE.read h hV
 generalize num (K.d.jX:Int)=tx at HI HE HR;clear h;go_enter func38,ntmps38
 go_wp2_with fail
 refine aL HX.o ?_;rintro e wr ⟨rfl,rfl⟩;go_wp2_with fail
 refine aL HI.o ?_;rintro e w1 ⟨rfl,hb⟩;go_wp2;go_ret2
 show dE _ _ _ _ _ _ _ _ _ _
 rw[HE.o];exact HR.o _ hb
theorem af4(h:jk A F w0 w c kb bc sa sc pb K k nv ns)(hl:ns.length=1):Calls prog 40 #[nv,aj (J ⟨pb,0,I⟩)] w λe w'=>dE A F w0 w c kb bc (K.dN c ns 8) e w':=by
 obtain⟨g,o,cap,n,rfl,rfl,n0,p0,p1,rH⟩:=h.one hl;obtain⟨N,rfl⟩:∃N:Nat,n=(N:Int):=⟨n.toNat,by omega⟩;have x0:=h.cell 0 _ rfl;obtain⟨tx,j,HE,HX⟩:∃(tx:ByteArray) (j:Nat),aa (K.dN c [(N:Int)] 8=(K,bl tx,j))/\aa (∀V,Below w.heap.size w V->Calls prog 41 #[aj (J ⟨kb,0,I⟩),U R (N:Int)] V λe w'=>e=ax (bn #[aq tx,errVal A j])/\Below V.heap.size V w'):=by
  cases hs:K.ls[N]? with
  |none=>exact⟨_,5,by show aH.dN c K _ 8=_;unfold aH.dN;simp[hs,bl],λV hV=>abV _ (h.to hV) h.ctx.sk (aP (by have:=List.getElem?_eq_none_iff.1 hs;omega))⟩
  |some s=>exact⟨_,0,by show aH.dN c K _ 8=_;unfold aH.dN;simp[hs],λV hV=>aL (abW N (h.to hV) hs) (λe w' he=>⟨he.1,he.2▸aC _ _⟩)⟩
 have HR:aa (∀V,Below _ w V->dE A F w0 w c kb bc (K,bl tx,j) (ax (bn #[aq tx,errVal A j])) V):=λV hV=>⟨by rw[KI],(di.same h.at').below hV⟩
 clear h hl p0 p1;go_enter func40,ntmps40
 go_upto_region 1 with fail
 go_region_held3 (λw'=>w'.cell? ⟨pb,0,I⟩=J (aj (J ⟨kb,0,I⟩))/\w'.cell? ⟨g,o,I⟩=J (U R (N:Int))) (first|exact⟨x0,n0⟩|exact⟨uT,rI⟩) (first|(go_at_call 41;refine aL (HX.o _ (cg (aC _ _) _)) ?_;rintro e W1 ⟨rfl,hb⟩;have uT:=aG hb x0;have rI:=aG hb n0))
 all_goals go_wp2
 all_goals go_ret2
 all_goals (show dE _ _ _ _ _ _ _ _ _ _;rw[HE.o];exact HR.o _ ((cg (aC _ _) _).trans hb))
theorem af5(h:jk A F w0 w c kb bc sa sc pb K k nv ns):Calls prog 42 #[nv,aj (J ⟨pb,0,I⟩)] w λe w'=>dE A F w0 w c kb bc (K.dN c ns 9) e w':=by
 have x0:=h.cell 0 _ rfl;have HX:aa _:=afO h.at';have HE:aa (K.dN c ns 9=(K,bl _,0)):=rfl;have HR:aa (dE A F w0 w c kb bc (K,bl (kI K.t.st),0) (ax (bn #[aq (kI K.t.st),.nilIface])) w):=by
  have:=dE.read (p:=bl (kI K.t.st)) h (aC _ w);rw[KI]at this;exact this
 generalize kI K.t.st=tx at HX HE HR;clear h;go_enter func42,ntmps42
 go_wp2_with fail
 refine aL HX.o ?_;rintro e wr ⟨rfl,rfl⟩;go_wp2;go_ret2
 show dE _ _ _ _ _ _ _ _ _ _
 rw[HE.o];exact HR.o
theorem af6(h:jk A F w0 w c kb bc sa sc pb K k nv ns):Calls prog 44 #[nv,aj (J ⟨pb,0,I⟩)] w λe w'=>dE A F w0 w c kb bc (K.dN c ns 10) e w':=by
 have x0:=h.cell 0 _ rfl;have HX:aa _:=afL h.at';have HE:aa (K.dN c ns 10=(K,bl _,0)):=rfl;have HR:aa (dE A F w0 w c kb bc (K,bl (oQ K.on),0) (ax (bn #[aq (oQ K.on),.nilIface])) w):=by
  have:=dE.read (p:=bl (oQ K.on)) h (aC _ w);rw[KI]at this;exact this
 generalize oQ K.on=tx at HX HE HR;clear h;go_enter func44,ntmps44
 go_wp2_with fail
 refine aL HX.o ?_;rintro e wr ⟨rfl,rfl⟩;go_wp2;go_ret2
 show dE _ _ _ _ _ _ _ _ _ _
 rw[HE.o];exact HR.o
theorem af7(h:jk A F w0 w c kb bc sa sc pb K k nv ns):Calls prog 46 #[nv,aj (J ⟨pb,0,I⟩)] w λe w'=>dE A F w0 w c kb bc (K.dN c ns 11) e w':=by
 have x0:=h.cell 0 _ rfl;have x1:=h.cell 1 _ rfl;have x2:=h.cell 2 _ rfl;have x3:=h.cell 3 _ rfl;have x4:=h.cell 4 _ rfl;have x5:=h.cell 5 _ rfl;have x6:=h.cell 6 _ rfl;have HX:aa _:=abZ (af sa c.aw.length sc) h.at' h.fit.gX h.lb (h.tab (aC _ _)).1 (h.tab (aC _ _)).2;have HE:aa (K.dN c ns 11=(K,uf K.L,0)):=rfl;have HR:aa (∀V,Below _ w V->dE A F w0 w c kb bc _ (ax (bn #[aq ⟨(uf K.L).toArray⟩,.nilIface])) V):=λV hV=>dE.read h hV
 generalize uf K.L=tx at HX HE HR;unfold fH at HX;clear h;go_enter func46,ntmps46
 go_wp2_with fail
 refine aL HX.o ?_;rintro e w1 ⟨rfl,hb⟩;go_wp2;go_ret2
 show dE _ _ _ _ _ _ _ _ _ _
 rw[HE.o];exact HR.o _ hb
theorem af8(h:jk A F w0 w c kb bc sa sc pb K k nv ns):Calls prog 48 #[nv,aj (J ⟨pb,0,I⟩)] w λe w'=>dE A F w0 w c kb bc (K.dN c ns 12) e w':=by
 have x0:=h.cell 0 _ rfl;have x1:=h.cell 1 _ rfl;have x2:=h.cell 2 _ rfl;have x3:=h.cell 3 _ rfl;have x4:=h.cell 4 _ rfl;have x5:=h.cell 5 _ rfl;have x6:=h.cell 6 _ rfl;have HX:aa _:=ab0 (af sa c.aw.length sc) h.at' h.fit.gX h.lb (h.tab (aC _ _)).1 (h.tab (aC _ _)).2;have HE:aa (K.dN c ns 12=(K,ug K.L,0)):=rfl;have HR:aa (∀V,Below _ w V->dE A F w0 w c kb bc _ (ax (bn #[aq ⟨(ug K.L).toArray⟩,.nilIface])) V):=λV hV=>dE.read h hV
 generalize ug K.L=tx at HX HE HR;unfold fH at HX;clear h;go_enter func48,ntmps48
 go_wp2_with fail
 refine aL HX.o ?_;rintro e w1 ⟨rfl,hb⟩;go_wp2;go_ret2
 show dE _ _ _ _ _ _ _ _ _ _
 rw[HE.o];exact HR.o _ hb
theorem af9(h:jk A F w0 w c kb bc sa sc pb K k nv ns):Calls prog 50 #[nv,aj (J ⟨pb,0,I⟩)] w λe w'=>dE A F w0 w c kb bc (K.dN c ns 13) e w':=by
 have x0:=h.cell 0 _ rfl;have x1:=h.cell 1 _ rfl;have x2:=h.cell 2 _ rfl;have x3:=h.cell 3 _ rfl;have x4:=h.cell 4 _ rfl;have x5:=h.cell 5 _ rfl;have x6:=h.cell 6 _ rfl;have hB:=h.at'.br;have HX:aa _:=aeY (A:=A) (kb:=kb) (bc:=bc) sa sc (h.ctx.six.below hB) (h.ctx.kw.below hB (fY (h.ctx.kw 0 (by decide)))) (h.tab (aC _ _)).1 (h.ctx.mx.below hB) (h.tab (aC _ _)).2 (h.ctx.aw.below hB) h.ctx.small h.ctx.ok;have HE:aa (K.dN c ns 13=(K,ri c,0)):=rfl;have HR:aa (∀V,Below _ w V->dE A F w0 w c kb bc _ (ax (bn #[aq ⟨(ri c).toArray⟩,.nilIface])) V):=λV hV=>dE.read h hV
 generalize ri c=tx at HX HE HR;unfold fH at HX;clear h hB;go_enter func50,ntmps50
 go_wp2_with fail
 refine aL HX.o ?_;rintro e w1 ⟨rfl,hb⟩;go_wp2;go_ret2
 show dE _ _ _ _ _ _ _ _ _ _
 rw[HE.o];exact HR.o _ hb
theorem af_(kd:Nat)(sO:kd<14)(h:jk A F w0 w c kb bc sa sc pb K k nv ns)(hl:ns.length=(iG kd).length)(hn:k+K.d.now+1+(if kd=3 then (ns.getD 0 0).toNat else 0)<=900000):Calls prog (sM kd) #[nv,aj (J ⟨pb,0,I⟩)] w λe w'=>dE A F w0 w c kb bc (K.dN c ns kd) e w':=by
 match kd,sO with
 |0,_=>exact afP h hl
 |1,_=>exact afQ h hl
 |2,_=>exact afR h hl
 |3,_=>exact afT h hl hn
 |4,_=>exact afZ h hl
 |5,_=>exact af0 h
 |6,_=>exact af2 h
 |7,_=>exact af3 h
 |8,_=>exact af4 h hl
 |9,_=>exact af5 h
 |10,_=>exact af6 h
 |11,_=>exact af7 h
 |12,_=>exact af8 h
 |13,_=>exact af9 h
 |n+14,h=>exact absurd h (by omega)
end
theorem af':∀kd,kd<14->∀args w,(callFunc (sM kd) args).run prog w=.ok (.enter (sM kd) args) w:=by
 intro kd sO
 match kd,sO with
 |0,_=>exact enters_of func22 (by kernel_rfl) rfl
 |1,_=>exact enters_of func25 (by kernel_rfl) rfl
 |2,_=>exact enters_of func27 (by kernel_rfl) rfl
 |3,_=>exact enters_of func29 (by kernel_rfl) rfl
 |4,_=>exact enters_of func31 (by kernel_rfl) rfl
 |5,_=>exact enters_of func33 (by kernel_rfl) rfl
 |6,_=>exact enters_of func35 (by kernel_rfl) rfl
 |7,_=>exact enters_of func38 (by kernel_rfl) rfl
 |8,_=>exact enters_of func40 (by kernel_rfl) rfl
 |9,_=>exact enters_of func42 (by kernel_rfl) rfl
 |10,_=>exact enters_of func44 (by kernel_rfl) rfl
 |11,_=>exact enters_of func46 (by kernel_rfl) rfl
 |12,_=>exact enters_of func48 (by kernel_rfl) rfl
 |13,_=>exact enters_of func50 (by kernel_rfl) rfl
 |n+14,h=>exact absurd h (by omega)
theorem aga(w:ai)(b:Nat)(hd:ByteArray)(tl:List ByteArray)(hrow:w.heap[b]?=J (au ((hd::tl).map Value.string).toArray 9 (0,0))):∃wa,(∀W:ai,(Instr.slice 22 (af (J ⟨b,0,I⟩) (tl.length+1) (tl.length+1)) (J (U R 1)) I I).run prog W=.ok (af wa tl.length tl.length) W)/\bN bS 1 w (af wa tl.length tl.length) tl:=by
 have hu:prog.underlying 22=J (.slice (prog.elem 22)):=by kernel_rfl
 have hz:∀W,(sizeOf (prog.elem 22)).run prog W=.ok 1 W:=λW=>by kernel_rfl
 refine⟨if tl.length+1=1 then J ⟨b,0,I⟩else J ⟨b,1,I⟩,λW=>?_,_,_,rfl,aQ _,λhne=>?_⟩
 ·rw[run_slice_l W 22 _ _ _ hu R 1 (by omega) (by omega),hz];have ea:(⟨b,0,I⟩:az).add (1*1)=⟨b,1,I⟩:=by unfold Addr.add;split<;>simp_all
  show Result.ok (Value.slice (if tl.length+1=1 then J _ else Option.map (λx:az=>x.add (1*1)) _) (tl.length+1-1) (tl.length+1-1)) W=_
  rw[Bp,Option.map_some,ea]
 have hl:=zD.2 hne
 refine⟨b,1,by rw[aK (by omega)],λi x hx j u hu=>?_⟩
 cases j with
 |zero=>
  cases hu
  simp only[World.cell?,hrow];have:((hd::tl).map Value.string)[1+i*1+0]?=J (aq x):=by
   rw[show 1+i*1+0=i+1 by omega,pA,List.getElem?_cons_succ,gR,hx];rfl
  simpa using this
 |succ j=>simp[bS]at hu
structure AG(A:Nat->az)(F:Nat->Prop)(w0 w:ai)(c:aS)(kb bc:Nat)(sa:Option az)(sc lo pb mb:Nat)(K:aH)(k:Nat):Prop where
 ctx:Dk A w0 c sa sc
 at':eV F w0 w c kb bc K
 fit:bQ c K k (144*K.d.now)
 lb:K.LB
 cm:uv lo w pb mb (fH c kb bc (af sa c.aw.length sc)) 14
 hk:k<1000
 fb:¬F pb
section
variable {A:Nat->az}{F:Nat->Prop}{w0 w w' V:ai}{c:aS}{kb bc:Nat}{sa:Option az}{sc lo pb mb:Nat}{K:aH}{k:Nat}
theorem AG.below(h:AG A F w0 w c kb bc sa sc lo pb mb K k)(hb:Below w.heap.size w V):AG A (λk=>F k/\k<w.heap.size) w0 V c kb bc sa sc lo pb mb K k:=
 ⟨h.ctx,h.at'.trim.below hb,h.fit,h.lb,h.cm.kept (λk _ hk=>hb.block k hk),h.hk,λe=>h.fb e.1⟩
theorem agb(l:ByteArray)(h:AG A F w0 w c kb bc sa sc lo pb mb K k)(hl:l.size<=1000000)(hn:k+K.d.now+1+jv (bl l)<=900000):Calls prog 52 #[.map (J mb),aq l] w λe w'=>dE A F w0 w c kb bc (K.fU c (bl l)) e w':=by
 obtain⟨hd,tl,hsp,hcut,oF⟩:=Kl l ⟨#[32]⟩ rfl;have Su:=h.at'.br;have wQ:aa (Calls prog 61 #[aq l,aq ⟨#[32]⟩] w λe w'=>e=ax (af (J ⟨w.heap.size,0,I⟩) (tl.length+1) (tl.length+1))/\w'=w.alloc (au ((hd::tl).map Value.string).toArray 9)):=by
  have:=Kk l ⟨#[32]⟩ w (h.ctx.mx.below Su) (by omega) (by decide);rw[hsp,<- oF]at this;exact this
 have FI:aa (K.fU c _=K.lp c _/\jv _=xE _):=⟨by unfold aH.fU;rw[hcut],by unfold jv;rw[hcut]⟩;have hsz:∀s∈hd::tl,s.size<=1000000:=λs hs=>by
  have h1:bl s∈bW 32 (bl l):=by rw[hcut];exact Da (f:=bl) hs
  have h2:=Fw 32 _ _ h1;have h3:(bl s).length=s.size:=by simp[bl]
  have h4:(bl l).length=l.size:=by simp[bl]
  omega
 have ajA:tl.length<=1000000:=by
  have h1:=(Aw 32 (bl l)).2;rw[hcut]at h1;have h4:(bl l).length=l.size:=by simp[bl]
  simp at h1
  omega
 have HH:aa _:=h;have HN:aa (k+K.d.now+1+xE (bl hd::tl.map bl)<=900000):=by show _<=_;rw[<- FI.o.2];exact hn
 have agc:=hsz hd (qc ..);clear hsp hcut oF hsz h hn Su hl;go_enter func52,ntmps52
 go_wp2_with fail
 refine aL wQ.o ?_;rintro v w1 ⟨rfl,js⟩;have hb1:Below w.heap.size w w1:=by rw[js];exact aN _ _
 have hc1:w1.heap[w.heap.size]?=J (au ((hd::tl).map Value.string).toArray 9 (0,0)):=by rw[js];exact cR w _
 clear js wQ;have x0:w1.cell? ⟨w.heap.size,0,I⟩=J (aq hd):=by simp[World.cell?,hc1]
 have n1:(0:Int)<(tl.length:Int)+1:=by omega
 have H1:aa _:=HH.o.below hb1;have aO:aa _:=hb1;have dp:aa _:=hc1;obtain⟨KM,KN⟩:=H1.o.cm.look hd agc;clear hb1 hc1
 cases hk:ir (bl hd)with
 |none=>
  have Sv:=KM hk;have HE:aa (K.fU c (bl l)=(K,[],1)):=by show _=_;rw[FI.o.1,Iw hk]
  have Ax:=λo=>aG (aN w1 o) (H1.o.ctx.six.below H1.o.at'.br).c0
  clear KM KN hk;go_wp2_with fail
  go_region
  all_goals go_wp2
  all_goals go_ret2
  all_goals (show dE _ _ _ _ _ _ _ _ _ _;rw[HE.o];exact⟨rfl,(di.same HH.o.at').below ((aO.o.alloc aO.o.size _).trans (cg (aC _ _) _))⟩)
 |some kd=>
  obtain⟨v,⟨sv,rfl,pP,fE⟩,Sv⟩:=KN kd hk;obtain⟨da,dc,rfl,I2,-⟩:=id pP;obtain⟨sO,-⟩:=Ca hk;obtain⟨wa,ck,fq⟩:=aga w1 _ hd tl dp.o;obtain⟨w2,hw2⟩:∃X,X=w1.alloc (au #[af da (iG kd).length dc,.func (.func (sM kd)) #[] #[aj (J ⟨pb,0,I⟩)]] 71):=⟨_,rfl⟩;have hb2:Below w1.heap.size w1 w2:=by rw[hw2];exact aN _ _
  have hr2:w2.heap[w1.heap.size]?=J (au #[af da (iG kd).length dc,.func (.func (sM kd)) #[] #[aj (J ⟨pb,0,I⟩)]] 71 (0,0)):=by rw[hw2];exact cR w1 _
  have y0:w2.cell? ⟨w1.heap.size,0,I⟩=J (af da (iG kd).length dc):=by simp[World.cell?,hr2]
  have y1:w2.cell? ⟨w1.heap.size,1,I⟩=J (.func (.func (sM kd)) #[] #[aj (J ⟨pb,0,I⟩)]):=by simp[World.cell?,hr2]
  have Sw:=aO.o.trans (hb2.mono aO.o.size);have AD:aa (∀V,Below w2.heap.size w2 V->Calls prog 88 #[af wa tl.length tl.length,af da (iG kd).length dc] V λe w'=>Px A (iG kd) tl V e w'):=λV hV=>by
   have h3:=hb2.trans (hV.mono hb2.size);have h4:=H1.o.at'.br.trans (h3.mono H1.o.at'.br.size);exact abg A _ tl wa _ da dc V (H1.o.ctx.tab.below h4 H1.o.ctx.gb) (H1.o.ctx.FH.below h4) (bw H1.o.ctx.gb h4.size) (H1.o.ctx.six.below h4).c0 (Iu kd) (fq.below h3) (pP.below h3) (by unfold iG;split<;>simp)
  have nH:aa _:=fq;have HK:aa _:=hk;have Sx:aa _:=sO;have aW:aa _:=Sw;clear KM KN hk pP fE I2 sO fq hb2 hr2 Sw;go_upto_region 3 with fail
  rw[<- hw2];clear hw2 Sv x0;go_upto_region 5 with fail
  go_region_held3 (λw'=>w'.cell? ⟨w1.heap.size,0,I⟩=J (af da (iG kd).length dc)) (first|exact y0|exact z0) (first|(go_at_call 88;refine aL (AD.o _ (cg (aC _ _) _)) ?_;rintro e w3 ⟨nv,ev,rfl,hb3,hno,BP⟩;have z0:=aG hb3 y0))
  have z1:=aG hb3 y1;have sX:=aW.o.trans (((cg (aC _ _) _).trans hb3).mono aW.o.size);have fG:aa _:=sX
  cases hs:dt (iG kd) (tl.map bl)with
  |none=>
   obtain rfl:=hno hs;have HE:aa (K.fU c (bl l)=(K,[],1)):=by show _=_;rw[FI.o.1,Ix HK.o hs]
   rw[show errVal A 1=.iface 352 (aj (J (A 0)))from rfl];clear hs hno BP hb3 sX y0 y1 z0 z1 AD ck;go_wp2;go_ret2
   show dE _ _ _ _ _ _ _ _ _ _
   rw[HE.o];exact⟨rfl,(di.same HH.o.at').below fG.o⟩
  |some ns=>
   obtain⟨rfl,Sy,Hm⟩:=BP ns hs;have HE:aa (K.fU c (bl l)=K.dN c ns kd):=by show _=_;rw[FI.o.1,xF HK.o hs]
   obtain⟨e1,e2,e3⟩:=Ir _ _ _ (Iu kd) hs;have h3:=HH.o.below sX;have hz:=aW.o.size;have HX:aa (Calls _ _ _ w3 λe w'=>dE A _ w0 w3 c kb bc _ e w'):=af_ kd Sx.o ⟨h3.ctx,h3.at',h3.fit,h3.lb,h3.cm.box,Sy,e3,h3.hk,h3.fb,λg hg e=>by
     have h5:=e.2;have h6:w2.heap.size<=g:=Hm g hg;omega⟩ e1 (by
    have h7:=HN.o
    split
    ·rename_i h8;subst h8;have h9:xE (bl hd::tl.map bl)=(ns.getD 0 0).toNat:=by
      show (if ir _=J 3 then _ else _)=_
      rw[aR HK.o,show dt [5] _=J ns from hs];rfl
     rw[h9]at h7;exact h7
    omega)
   have qA:aa (∀e V,dE A (λk=>F k/\k<w.heap.size) w0 w3 c kb bc _ e V->dE A F w0 w c kb bc (K.dN c ns kd) e V):=λe V he=>⟨he.1,(he.2.from sX).mono (λk hk=>hk.1)⟩
   have hen:=af' kd Sx.o;generalize K.dN c ns kd=p at HX HE qA;clear hs hno BP hb3 sX y0 y1 z0 AD ck Sy Hm e1 e2 e3 h3 hz;obtain⟨K',tx,j⟩:=p;go_wp2_with fail
   refine aL HX.o ?_;intro e w4 he;have HR:aa (di F w0 w c kb bc K' w4):=(qA.o _ _ he).2;obtain⟨rfl,-⟩:=he;go_wp2;go_ret2
   show dE _ _ _ _ _ _ _ _ _ _
   rw[HE.o];exact⟨rfl,HR.o⟩
theorem agd(T:Nat->Bs)(l:ByteArray)(h:AG A F w0 w c kb bc sa sc lo pb mb K k)(hT:∀i,i<11->w0.cell? (A i)=J (aq ⟨(T (i+1)).toArray⟩))(hl:l.size<=1000000)(hn:k+K.d.now+1+jv (bl l)<=900000):Calls prog 14 #[.map (J mb),aq l] w λe w'=>e=ax (aq ⟨(n_ T (K.fU c (bl l))).toArray⟩)/\di F w0 w c kb bc (K.fU c (bl l)).1 w':=by
 have HX:aa _:=agb l h hl hn;have HC:aa _:=(Iy h.ctx.rt h.fit (bl l) (by omega)).2.2;have HT:aa _:=hT;generalize K.fU c (bl l)=p at HX HC⊢;obtain⟨K',tx,j⟩:=p;clear h hl hn hT
 cases j with
 |zero=>
  rw[show n_ T _=tx from rfl];go_enter func14,ntmps14
  go_wp2_with fail
  refine aL HX.o ?_;rintro e w1 ⟨rfl,hp⟩;rw[show errVal A _=.nilIface from rfl];have HP:aa _:=hp;clear hp;go_wp2;go_ret;exact⟨rfl,HP.o⟩
 |succ i=>
  rw[show n_ T _=T (i+1)from rfl];go_enter func14,ntmps14
  go_wp2_with fail
  refine aL HX.o ?_;rintro e w1 ⟨rfl,hp⟩;rw[show errVal A _=.iface 352 _ from rfl];have HP:aa _:=hp;have hx:=aG hp.1.br (HT.o i (by have h5:=HC.o;omega));obtain⟨Ai,Sz⟩:∃a,a=A i:=⟨_,rfl⟩;rw[<- Sz]at hx⊢
  have hm:∀W:ai, (method 490 352 _ "Error").run prog W=.ok (340, aj (J Ai)) W:=λW=>rfl
  have hx2:w1.cell? (Ai.add 0)=J (aq ⟨(T (i+1)).toArray⟩):=by rw[IZ];exact hx
  clear hp Sz;go_wp2;go_ret;exact⟨rfl,HP.o⟩
end
open Go.Maps
theorem age{look:ic}{st:RS}{l:Bs}(h:(ez look st l).1=0):∃(k:Nat) (hd:Bs) (ws:List Bs) (vs:List Int),k<10/\bW 32 l=hd::ws/\may st.last k=true/\(ez look st l).2=⟨k,ed st.cfg k ws vs⟩:=by
 unfold ez at h⊢
 cases hc:bW 32 l with
 |nil=>rw[hc]at h;simp at h
 |cons hd ws=>
  rw[hc]at h;simp only[jo]at h⊢
  cases hk:kindOf hd with
  |none=>rw[hk]at h;simp at h
  |some k=>
   rw[hk]at h;simp only at h⊢
   split at h
   ·simp at h
   rename_i hm;rw[aK hm]
   split at h
   ·rename_i hf;rw[aR hf];exact⟨k,hd,ws,_,(A0 hk).2,rfl,by simpa using hm,rfl⟩
   rename_i hf;exact absurd h hf
def yC(e:aF):Prop:=e.name.size<=1000000/\∀p∈e.ak,p.size<=1000000
theorem yD{last:Int}{k:Nat}(hk:4<=k)(h:may last k=true):3<=last:=by
 unfold may at h;rw[aK (by omega),aK (by omega)]at h
 split at h
 ·simp at h;omega
 simp at h;omega
theorem SA{c:UInt8}{l hd:Bs}{ws:List Bs}(hc:bW c l=hd::ws)(hl:l.length<=1000000)(i:Nat):(⟨(ws.getD i []).toArray⟩:ByteArray).size<=1000000:=by
 have:(ws.getD i []).length<=1000000:=by
  rw[fQ]
  cases hw:ws[i]? with
  |none=>simp
  |some x=>
   have:=Fw c l x (by rw[hc];exact tE _ (cM hw));simp
   omega
 show (ws.getD i []).toArray.size<=1000000
 simpa using this
theorem SB{look:ic}{n:Nat}{st:RS}{l:Bs}(qa:gZ n st.cfg st.last)(S:∀e∈st.cfg.aw,yC e)(hl:l.length<=1000000)(h:(ez look st l).1=0):gZ (n+1) (ez look st l).2.cfg (ez look st l).2.last/\∀e∈(ez look st l).2.cfg.aw,yC e:=by
 obtain⟨k,hd,ws,vs,kY,hc,hm,e⟩:=age h;rw[e];have same:gZ n st.cfg st.last->∀c:aS,c.aw=st.cfg.aw->(((k:Nat):Int)<=1->st.cfg.aw=[])->(k:Int)<=2->gZ (n+1) c k:=λI c hce h0 h2=>
  ⟨λh=>by rw[hce];exact h0 h,λh=>by omega,by rw[hce];have:=qa.len;omega,λe he=>by rw[hce]at he;exact(qa.sz e he).mono (by omega)⟩
 match k,kY with
 |0,_=>exact⟨same qa _ rfl (λ_=>qa.e0 (by simp[may]at hm;omega)) (by simp),S⟩
 |1,_=>exact⟨same qa _ rfl (λ_=>qa.e0 (by simp[may]at hm;omega)) (by simp),S⟩
 |2,_=>exact⟨same qa _ rfl (λh=>by simp at h) (by simp),S⟩
 |3,_=>
  refine⟨⟨λh=>by simp at h,λ_=>by simp[ed],by have:=qa.len;simp[ed];omega,λe he=>?_⟩,λe he=>?_⟩
  ·simp only[ed,pz,iF]at he
   rcases he with he|rfl
   ·exact(qa.sz e he).mono (by omega)
   exact⟨by simp[qL],by simp[qL],by simp[qL],by simp[qL],by simp[qL]⟩
  simp only[ed,pz,iF]at he
  rcases he with he|rfl
  ·exact S e he
  exact⟨SA hc hl 0,λp hp=>by simp[qL]at hp⟩
 |k+4,_=>
  have h3:=yD (by omega) hm;obtain⟨es,e1,he⟩:∃es e1,st.cfg.aw=es++[e1]:=⟨_,_,(List.dropLast_concat_getLast (qa.e3 h3)).symm⟩;have hu:(ed st.cfg (k+4) ws vs).aw=es++[jQ (k+4) ws vs e1]:=by
   show AZ _ _=_
   rw[he,pD]
  have hlen:=qa.len;rw[he]at hlen
  refine⟨⟨λh=>by simp at h;omega,λ_=>by show (ed _ _ ws vs).aw≠[];rw[hu];simp,by show (ed _ _ ws vs).aw.length<=_;rw[hu];simp at hlen⊢;omega,λe2 tR=>?_⟩,λe2 tR=>?_⟩
  ·have Dl:e2∈(ed _ _ ws vs).aw:=tR;rw[hu,pz,iF]at Dl
   rcases Dl with h'|rfl
   ·exact(qa.sz e2 (by rw[he];simp[h'])).mono (by omega)
   exact(qa.sz e1 (by rw[he];simp)).upd
  have Dl:e2∈(ed _ _ ws vs).aw:=tR;rw[hu,pz,iF]at Dl
  rcases Dl with h'|rfl
  ·exact S e2 (by rw[he];simp[h'])
  obtain⟨a,b⟩:=S e1 (by rw[he];simp);unfold jQ yC
  split
  ·refine⟨a,λp hp=>?_⟩;simp only[pz,iF]at hp
   rcases hp with hp|rfl
   ·exact b p hp
   exact SA hc hl 0
  all_goals exact⟨a,b⟩
theorem SC{look:Bs->Option Nat}:∀(fs:List Nat) (ws:List Bs) (nn:Bool),(aY look nn fs ws).1<=5
 |[],[],nn=>by cases nn<;>simp[aY]
 |[],_::_,_=>by simp[aY]
 |_::_,[],_=>by simp[aY]
 |f::fs,w::ws,nn=>by
  unfold aY
  split
  ·simp
  exact SC fs ws _
theorem agf(look:ic)(st:RS)(l:Bs):(ez look st l).1<=5:=by
 unfold ez
 split
 ·simp
 unfold jo
 split
 ·simp
 split
 ·simp
 split
 ·simp
 exact SC _ _ _
theorem ow.FJ{B rb:Nat}{w:ai}{c:aS}{last:Int}{ev mv:ar}{es:List aF}{cells:List ar}(h:ow B rb w c last ev mv es cells):gm B w ev es:=
 ⟨cells,h.aw,λi e he=>by
  obtain⟨x,a,-,d⟩:=h.olds i e he;exact⟨x.p,x.g,x.e,x.f,x.l,a,d⟩⟩
theorem jy.toA{B rb:Nat}{w:ai}{c:aS}{last:Int}(h:jy B rb w c last):∃ev mv cells,ow B rb w c last ev mv c.aw cells:=by
 rcases h with h|⟨L,g,cap,mb,es,e,x,cells,he,h,hL⟩
 ·have h2:=h.toA;rw[<- h.nil]at h2;exact⟨_,_,_,h2⟩
 have h2:=h.toA hL;rw[<- he]at h2;exact⟨_,_,_,h2⟩
theorem yE{fn:Func}{p u:Tmp}(h:fn.results=#[.cell p 30,.tmp u])(tmps:Array ar)(w:ai)(g:Nat)(a b c d e:ar)
  (hp:tmps.getD p undef=aj (J ⟨g,0,I⟩)) (hg:w.heap[g]?=J (au #[a,b,c,d,e] 30 (0,0))):(results fn tmps).run prog w=.ok (bn #[aU #[a,b,c,d,e],tmps.getD u undef]) w:=by
 rw[results_cell_tmp h,hp];simp[asAddr,run_loadVar_row w g _ 30 #[a,b,c,d,e] _ _ hg underlying30 rfl ou]
theorem ow.other{B rb b:Nat}{w w':ai}{c:aS}{last:Int}{ev mv:ar}{es:List aF}{cells:List ar}(h:ow B rb w c last ev mv es cells)(hg:w.grownBy w' (J b)){cs:Array ar}{fr:Nat×Nat}(hb:w.heap[b]?=J (au cs 30 fr))(hne:rb≠b):ow B rb w' c last ev mv es cells:=
 ⟨h.lo,(hg.block rb (bJ h.row) (by simpa using hne)).trans h.row,h.aw.kept hg (aP (dZ h.aw hb (by decide))),λi e he=>by
  obtain⟨x,a,b',d⟩:=h.olds i e he;exact⟨x,a.other hg hb (by decide) (by decide) (by decide) (by decide),b'.mono hg.size,d⟩⟩
def FK(jA:(Nat×Int)×RS):aS:=if jA.1.1=0 then jA.2.cfg else cE
theorem SD{look:ic}{k:Nat}{st:RS}{l:Bs}{ls:List Bs}(h:(ez look st l).1≠0):ct look k st (l::ls)=(((ez look st l).1,(k:Int)),st):=by rw[ct,aK h]
theorem SE{look:ic}{k:Nat}{st:RS}{l:Bs}{ls:List Bs}(h:(ez look st l).1=0):ct look k st (l::ls)=ct look (k+1) (ez look st l).2 ls:=by rw[ct,aR h]
theorem FL(w:ai):∃B',gm B' w (af I 0 0) cE.aw:=⟨0,gm.nil _ _⟩
theorem FM:nh cE:=⟨by decide,λe he=>by simp[cE]at he⟩
theorem SF{A:Nat->az}{w W:ai}{jA:(Nat×Int)×RS}{st:RS}{j fb:Nat}{k:Int}(hE:jA=((j+1,k),st))(hj:j+1<=11)(hb:Below w.heap.size w W)(hrow:W.heap[fb]?=J (au #[U R k,cN A (j+1)] 94 (0,0))):∃c sv ev,Ending.returned (bn #[aU #[U R 0,U R 0,U R 0,U R 0,af I 0 0],.iface 90 (aj (J ⟨fb,0,I⟩))])=ax (bn #[aU #[U R c.closed,U R c.opn,U R c.cycle,U R c.bC,sv],ev])/\Below w.heap.size w W/\c=FK jA/\(∃B',gm B' W sv c.aw)/\kJ A W ev jA.1/\nh c:=by
 subst hE
 refine⟨_,_,_,rfl,hb,by unfold FK;rw[aK (by simp)],FL _,⟨hj,aP ⟨by simp,fb,rfl,?_,?_⟩⟩,FM⟩
 ·unfold World.cell?;simp only;rw[hrow];rfl
 unfold World.cell?;simp only;rw[hrow];rfl
theorem agh{w w5:ai}{o:Obj}(cs:Array ar)(hb:Below w.heap.size w w5)(hlt:w.heap.size<w5.heap.size):Below w.heap.size w ((w5.alloc o).setRow w.heap.size cs)/\((w5.alloc o).setRow w.heap.size cs).heap[w5.heap.size]?=J o:=by
 have hg:=oO (w5.alloc o) w.heap.size cs;have b1:Below _ w (w5.alloc o):=hb.alloc (by omega) _;exact⟨b1.grown hg b1.size (λi hi=>by cases hi;exact aQ _),(hg.block _ (by simp) (by simp;omega)).trans (cR w5 _)⟩
theorem KO{V:ai}{b:Nat}(h:V.heap[b]?=J (au #[U R 0,U R 0,U R 0,U R 0,af I 0 0] 30 (0,0))):((((V.setCell ⟨b,0,I⟩ (U R 0)).setCell ⟨b,1,I⟩ (U R 0)).setCell ⟨b,2,I⟩ (U R 0)).setCell ⟨b,3,I⟩ (U R 0)).setCell ⟨b,4,I⟩ (af I 0 0)=V:=by
 rw[yn (o:=0) (by simp[World.cell?,h]),yn (o:=1) (by simp[World.cell?,h]),yn (o:=2) (by simp[World.cell?,h]),yn (o:=3) (by simp[World.cell?,h]),yn (o:=4) (by simp[World.cell?,h])]
theorem agi(A:Nat->az)(w:ai)(sa:Option az)(lines:List ByteArray)(sc:Nat)(hs:dA A w)(hK:jF w)(hM:ox w)(hL:bN bS 1 w (af sa lines.length sc) lines)(hn:lines.length<=100000)(hz:∀l∈lines,l.size<=1000000):Calls prog 60 #[af sa lines.length sc] w λv w'=>∃c sv ev,v=ax (bn #[aU #[U R c.closed,U R c.opn,U R c.cycle,U R c.bC,sv],ev])/\Below w.heap.size w w'/\c=FK (ct aV 0 ⟨-1,cE⟩ (lines.map bl))/\(∃B',gm B' w' sv c.aw)/\kJ A w' ev (ct aV 0 ⟨-1,cE⟩ (lines.map bl)).1/\nh c:=by
 have HL:aa (bN _ 1 w _ _):=hL;have HN:aa (lines.length<=100000/\∀l∈lines,l.size<=1000000):=⟨hn,hz⟩;obtain⟨Wc,pW⟩:∃V,V=w.alloc (au #[U R 0,U R 0,U R 0,U R 0,af I 0 0] 30):=⟨_,rfl⟩;have kH:aa (Below w.heap.size w Wc):=by show Below _ _ _;rw[pW];exact aN _ _
 have fK:aa (Wc.heap.size=w.heap.size+1):=by show _=_;rw[pW];simp
 have Dm:aa (Wc.heap[w.heap.size]?=J (au #[U R 0,U R 0,U R 0,U R 0,af I 0 0] 30 (0,0))):=by show _=_;rw[pW];exact cR w _
 have HS:aa (dA A Wc/\jF Wc/\ox Wc):=⟨hs.below kH.o,hK.below kH.o (fY (hK 0 (by decide))),hM.below kH.o⟩;have zY:aa _:=hs;clear hs hK hM hL hn hz;go_enter func60,ntmps60
 go_upto_region 2 with fail
 rw[<- pW];obtain⟨Wr,FN⟩:∃V,V=Wc.alloc (au #[U R 0,U R 0,U R 0,U R 0,af I 0 0,U R (-1),.map I] 151):=⟨_,rfl⟩;rw[<- FN];obtain⟨rb,jb⟩:∃rb,rb=w.heap.size+1:=⟨_,rfl⟩;have Dn:aa (rb=Wc.heap.size/\rb≠w.heap.size):=⟨by rw[jb,fK.o],by omega⟩;have dX:aa (Below Wc.heap.size Wc Wr):=by show Below _ _ _;rw[FN];exact aN _ _
 have oW:aa (jy _ rb Wr cE _):=a_ ⟨by rw[Dn.o.1];exact aQ _,rfl,by rw[Dn.o.1,FN];exact cR Wc _⟩;rw[<- jb];clear pW FN jb;go_wp2_with fail
 go_loopw [11,5,6,7] (λi _ _ _ wr=>∃(k:Nat) (st:RS),k<=lines.length/\i=U R k/\Below Wc.heap.size Wc wr/\jy Wc.heap.size rb wr st.cfg st.last/\gZ k st.cfg st.last/\(∀e∈st.cfg.aw,yC e)/\ct aV 0 ⟨-1,cE⟩ (lines.map bl)=ct aV k st ((lines.drop k).map bl)) (λi _ _ _ _=>lines.length-(intOf i).toNat)
 case atStart=>exact⟨0,_,bI _,rfl,dX.o,oW.o,⟨λ_=>rfl,λh=>by simp at h,aQ _,λe he=>by simp[cE]at he⟩,λe he=>by simp[cE]at he,rfl⟩
 case round=>
  clear dX oW;obtain⟨k,st,hk,rfl,iE,yV,im,hsm,vJ⟩:=hrel;have HB:aa _:=iE;have HR:aa (jy _ rb wr _ _):=yV;have HO:aa (gZ k _ _/\∀e∈st.cfg.aw,yC e):=⟨im,hsm⟩;have fe:aa _:=vJ;clear iE yV im hsm vJ
  by_cases hlt:k<lines.length
  ·have k1:(k:Int)<(lines.length:Int):=by omega
   have k2:k<100000:=by have:=HN.o.1;omega
   obtain⟨l,hl⟩:∃l,lines[k]?=J l:=⟨_,bH hlt⟩;have iN:aa _:=HN.o.2 l (cM hl);have lN:aa ((lines.drop k).map bl=bl l::(lines.drop (k+1)).map bl):=by
    show _=_
    rw[kq hlt];rw[bH hlt]at hl
    cases hl;rfl
   obtain⟨dI,cap',ck,-,hcc⟩:=id HL.o
   cases ck
   obtain⟨g,o,rfl,hc0⟩:=hcc (λh=>by rw[h]at hl;simp at hl);have c0:wr.cell? ⟨g,o+k,I⟩=J (aq l):=by
    have:=aG (kH.o.trans (HB.o.mono kH.o.size)) (hc0 k _ hl 0 _ rfl);simpa using this
   clear hcc hc0 hl;go_wp2_with fail
   refine(aeV A Wc wr rb _ _ l HS.o.1 HS.o.2.1 HS.o.2.2 HB.o HR.o iN.o ⟨HO.o.1.e0,HO.o.1.e3,bw HO.o.1.len (by omega),λe he=>(HO.o.1.sz e he).mono (by omega)⟩).mono ?_;rintro v w5 ⟨rfl,jG,vL⟩;have kU:aa _:=jG;have oh:aa _:=vL;clear jG vL c0 HR HB
   cases cA:(ez aV ⟨st.last,st.cfg⟩ (bl l)).1 with
   |zero=>
    have HC:aa _:=cA;clear cA;rw[show cN A 0=.nilIface from rfl];go_wp2_with fail
    go_roundw
    case rel=>
     have Bz:(bl l).length<=1000000:=by have:=iN.o;have e:(bl l).length=l.size:=(by simp[bl]);omega
     obtain⟨s1,s2⟩:=SB HO.o.1 HO.o.2 Bz HC.o;exact⟨_,_,by omega,by go_num,kU.o,oh.o HC.o,s1,s2,by rw[fe.o,lN.o,SE HC.o]⟩
    case measure=>simp[intOf];omega
   |succ j=>
    have HC:aa _:=cA;have HE:aa (ct aV 0 ⟨-1,cE⟩ (lines.map bl)=((j+1,(k:Int)),st)):=by
     show _=_
     rw[fe.o,lN.o,SD (by have:=HC.o;rw[this];simp),HC.o]
    have HJ:aa (j+1<=11):=by show _<=_;have:=agf aV ⟨st.last,st.cfg⟩ (bl l);rw[cA]at this;omega
    clear cA;have SG:=bG kU.o Dm.o;rw[show cN A _=.iface 352 _ from rfl];have eL:aa (∀ob,(w5.alloc ob).heap[w.heap.size]?=J _):=λob=>bG (aN _ _) SG
    clear SG;go_wp2_with (refine f_ rfl 30 _ _ rfl _ _ rfl rfl 30 _ (eL.o _) ou rfl (by simp[Value.oneCell']) ?_)
    refine er (yE rfl _ _ _ _ _ _ _ _ rfl (jY _ (eL.o _))) rfl ?_;have eT:=agh (o:=au #[U R (k:Int),cN A (j+1)] 94) #[U R 0,U R 0,U R 0,U R 0,af I 0 0] (kH.o.trans (kU.o.mono kH.o.size)) (by have:=kU.o.size;have:=fK.o;omega);exact SF HE.o HJ.o eT.1 eT.2
  have k1:¬(k:Int)<(lines.length:Int):=by omega
  obtain rfl:k=lines.length:=by omega
  have Dp:aa (ct aV 0 ⟨-1,cE⟩ (lines.map bl)=ct aV lines.length st []):=by show _=_;have:=fe.o;rw[List.drop_length]at this;exact this
  obtain⟨ev,mv,cells,hA⟩:=HR.o.toA;have HA:aa _:=hA;have hrow:=hA.row;have eL:aa (∀V,Below _ wr V->V.heap[w.heap.size]?=J _):=λV hV=>bG hV (bG HB.o Dm.o)
  have r5:wr.cell? ⟨rb,5,I⟩=J (U R st.last):=by simp[World.cell?,hrow,gA]
  by_cases hl2:st.last<2
  ·have HE:aa (ct aV 0 ⟨-1,cE⟩ (lines.map bl)=((1,(lines.length:Int)),st)):=by show _=_;rw[Dp.o,ct,aR hl2]
   have Ax:=(HS.o.1.below HB.o).c0;clear hA hrow;have zz:=eL.o wr (aC _ _);have z0:wr.cell? ⟨w.heap.size,0,I⟩=J (U R 0):=by simp[World.cell?,zz]
   have z1:wr.cell? ⟨w.heap.size,1,I⟩=J (U R 0):=by simp[World.cell?,zz]
   have z2:wr.cell? ⟨w.heap.size,2,I⟩=J (U R 0):=by simp[World.cell?,zz]
   have z3:wr.cell? ⟨w.heap.size,3,I⟩=J (U R 0):=by simp[World.cell?,zz]
   have z4:wr.cell? ⟨w.heap.size,4,I⟩=J (af I 0 0):=by simp[World.cell?,zz]
   have f0:wr.frozen? ⟨w.heap.size,0,I⟩=false:=by simp[World.frozen?,zz]
   have f1:wr.frozen? ⟨w.heap.size,1,I⟩=false:=by simp[World.frozen?,zz]
   have f2:wr.frozen? ⟨w.heap.size,2,I⟩=false:=by simp[World.frozen?,zz]
   have f3:wr.frozen? ⟨w.heap.size,3,I⟩=false:=by simp[World.frozen?,zz]
   have f4:wr.frozen? ⟨w.heap.size,4,I⟩=false:=by simp[World.frozen?,zz]
   have AH:¬w.heap.size=1:=by
    have h1:=fY zY.o.c0;have h2:1<w.heap.size:=h1;omega
   have FO:¬1=w.heap.size:=λe=>AH e.symm
   have y0:∀ob,(wr.alloc ob).cell? ⟨w.heap.size,0,I⟩=J (U R 0):=λob=>by simp[World.cell?,eL.o _ (aN wr ob)]
   have g0:∀ob,(wr.alloc ob).frozen? ⟨w.heap.size,0,I⟩=false:=λob=>by simp[World.frozen?,eL.o _ (aN wr ob)]
   have y1:∀ob,(wr.alloc ob).cell? ⟨w.heap.size,1,I⟩=J (U R 0):=λob=>by simp[World.cell?,eL.o _ (aN wr ob)]
   have g1:∀ob,(wr.alloc ob).frozen? ⟨w.heap.size,1,I⟩=false:=λob=>by simp[World.frozen?,eL.o _ (aN wr ob)]
   have y2:∀ob,(wr.alloc ob).cell? ⟨w.heap.size,2,I⟩=J (U R 0):=λob=>by simp[World.cell?,eL.o _ (aN wr ob)]
   have g2:∀ob,(wr.alloc ob).frozen? ⟨w.heap.size,2,I⟩=false:=λob=>by simp[World.frozen?,eL.o _ (aN wr ob)]
   have y3:∀ob,(wr.alloc ob).cell? ⟨w.heap.size,3,I⟩=J (U R 0):=λob=>by simp[World.cell?,eL.o _ (aN wr ob)]
   have g3:∀ob,(wr.alloc ob).frozen? ⟨w.heap.size,3,I⟩=false:=λob=>by simp[World.frozen?,eL.o _ (aN wr ob)]
   have y4:∀ob,(wr.alloc ob).cell? ⟨w.heap.size,4,I⟩=J (af I 0 0):=λob=>by simp[World.cell?,eL.o _ (aN wr ob)]
   have g4:∀ob,(wr.alloc ob).frozen? ⟨w.heap.size,4,I⟩=false:=λob=>by simp[World.frozen?,eL.o _ (aN wr ob)]
   clear zz;go_wp2_with fail
   go_region
   all_goals
    clear y0 y1 y2 y3 y4 g0 g1 g2 g3 g4 z0 z1 z2 z3 z4 f0 f1 f2 f3 f4 AH FO Ax r5
    first|rw[KO (eL.o _ (aN _ _))]|rw[KO (eL.o _ (aC _ _))]
    go_wp2
    refine er (yE rfl _ _ _ _ _ _ _ _ rfl (eL.o _ (aN _ _).drew)) rfl ?_;have b1:=kH.o.trans (HB.o.mono kH.o.size);exact SF HE.o (by decide) (b1.trans (((aN wr _).drew).mono b1.size)) (cR wr _)
  have HE:aa (ct aV 0 ⟨-1,cE⟩ (lines.map bl)=((0,-1),st)):=by show _=_;rw[Dp.o,ct,aK hl2]
  have r0:wr.cell? ⟨rb,0,I⟩=J (U R st.cfg.closed):=by simp[World.cell?,hrow,gA]
  have r1:wr.cell? ⟨rb,1,I⟩=J (U R st.cfg.opn):=by simp[World.cell?,hrow,gA]
  have r2:wr.cell? ⟨rb,2,I⟩=J (U R st.cfg.cycle):=by simp[World.cell?,hrow,gA]
  have r3:wr.cell? ⟨rb,3,I⟩=J (U R st.cfg.bC):=by simp[World.cell?,hrow,gA]
  have r4:wr.cell? ⟨rb,4,I⟩=J ev:=by simp[World.cell?,hrow,gA]
  obtain⟨va,vc,rfl⟩:=cJ hA.aw;clear hA hrow;go_wp2_with (refine f_ rfl 30 _ _ rfl _ _ rfl rfl 30 _ (eL.o _ (aC _ _)) ou rfl (by simp[Value.oneCell']) ?_)
  refine er (yE rfl _ _ _ _ _ _ _ _ rfl (jY _ (eL.o _ (aC _ _)))) rfl ?_
  refine⟨_,_,_,rfl,?_,by rw[HE.o];rfl,?_,by rw[HE.o];exact⟨by simp,a_ ⟨rfl,rfl⟩⟩,⟨bw HO.o.1.len (by have:=HN.o.1;omega),λe he=>?_⟩⟩
  ·have b1:=kH.o.trans (HB.o.mono kH.o.size);exact b1.grown (oO _ _ _) b1.size (λj hj=>by cases hj;exact aQ _)
  ·exact⟨_,(HA.o.other (oO _ _ _) (eL.o _ (aC _ _)) Dn.o.2).FJ⟩
  obtain⟨a,b⟩:=HO.o.2 e he;have sz:=(HO.o.1.sz e he).mono (m:=1000000) (by have:=HN.o.1;omega);exact⟨a,sz.p,b,sz.g,sz.d,sz.f,sz.l⟩
theorem agj(l:List UInt8):Lib.trimSuffix l [10]=trim l:=by
 unfold Lib.trimSuffix trim;have hs:Lib.hasSuffix l [10]=true↔l.getLast?=J 10:=by
  unfold Lib.hasSuffix;rw[List.isSuffixOf_iff_suffix]
  constructor
  ·rintro⟨t,rfl⟩;simp
  intro h;have hne:l≠[]:=λe=>by subst e;simp at h
  rw[List.getLast?_eq_some_getLast hne]at h;have e2:=List.dropLast_concat_getLast hne;rw[bj h]at e2;exact⟨_,e2⟩
 by_cases h:l.getLast?=J 10
 ·rw[aR h,aR (hs.2 h)];rw[List.dropLast_eq_take];rfl
 rw[aK h,aK (λe=>h (hs.1 e))]
theorem agk(s sep:ByteArray)(Dc:sep.data.toList=[10]):(Lib.splitB sep 0 (Lib.countB s sep) s).map bl=bW 10 (bl s)/\(Lib.splitB sep 0 (Lib.countB s sep) s).length=Lib.countB s sep+1:=
 ⟨N6 10 s sep Dc,Lib.splitB_all sep (by rw[<- ByteArray.size_data,<- lU,Dc];decide) 0 _ s rfl⟩
theorem KQ{w:ai}{b:Nat}{cs:Array ar}{T:TypeId}{fr:Nat×Nat}(h:w.heap[b]?=J (au cs T fr)):w.setRow b cs=w:=by
 have hh:(w.setRow b cs).heap=w.heap:=by
  apply Array.ext_getElem?
  intro i
  by_cases e:i=b
  ·subst e;rw[jY cs h,h]
  simp only[World.setRow,dr];rw[aK (λe2=>e e2.symm)]
 cases w
 simp only[World.setRow]at hh⊢;rw[hh]
theorem agl(A:Nat->az)(s:ByteArray)(w:ai)(hs:dA A w)(hK:jF w)(hM:ox w)(hn:s.size<=9223372036854775807):Calls prog 19 #[aq s] w λv w'=>∃c sv ev,v=ax (bn #[aU #[U R c.closed,U R c.opn,U R c.cycle,U R c.bC,sv],ev])/\Below w.heap.size w w'/\c=(cW aV (bl s)).2/\(∃B',gm B' w' sv c.aw)/\kJ A w' ev (cW aV (bl s)).1/\nh c:=by
 have hbl:(bl s).length=s.size:=by simp[bl]
 obtain⟨Wc,pW⟩:∃V,V=w.alloc (au #[U R 0,U R 0,U R 0,U R 0,af I 0 0] 30):=⟨_,rfl⟩;have kH:aa (Below w.heap.size w Wc):=by show Below _ _ _;rw[pW];exact aN _ _
 have fK:aa (Wc.heap.size=w.heap.size+1):=by show _=_;rw[pW];simp
 have eL:aa (∀V,Below _ Wc V->V.heap[w.heap.size]?=J _):=λV hV=>bG hV (by rw[pW];exact cR w _)
 have HS:aa (dA A Wc/\jF Wc/\ox Wc):=⟨hs.below kH.o,hK.below kH.o (fY (hK 0 (by decide))),hM.below kH.o⟩;have hg1:0<w.heap.size:=fY hs.c1
 by_cases hl:8000<s.size
 ·have HE:aa (cW aV (bl s)=((2,-1),cE)):=by show _=_;unfold cW;rw[aR (by omega)]
  have l1:(8000:Int)<(s.size:Int):=by omega
  have Ax:=HS.o.1.c1;have zz:=eL.o Wc (aC _ _);have AH:¬w.heap.size=0:=by omega
  have FO:¬0=w.heap.size:=by omega
  have z0:Wc.cell? ⟨w.heap.size,0,I⟩=J (U R 0):=by simp[World.cell?,zz]
  have f0:Wc.frozen? ⟨w.heap.size,0,I⟩=false:=by simp[World.frozen?,zz]
  have z1:Wc.cell? ⟨w.heap.size,1,I⟩=J (U R 0):=by simp[World.cell?,zz]
  have f1:Wc.frozen? ⟨w.heap.size,1,I⟩=false:=by simp[World.frozen?,zz]
  have z2:Wc.cell? ⟨w.heap.size,2,I⟩=J (U R 0):=by simp[World.cell?,zz]
  have f2:Wc.frozen? ⟨w.heap.size,2,I⟩=false:=by simp[World.frozen?,zz]
  have z3:Wc.cell? ⟨w.heap.size,3,I⟩=J (U R 0):=by simp[World.cell?,zz]
  have f3:Wc.frozen? ⟨w.heap.size,3,I⟩=false:=by simp[World.frozen?,zz]
  have z4:Wc.cell? ⟨w.heap.size,4,I⟩=J (af I 0 0):=by simp[World.cell?,zz]
  have f4:Wc.frozen? ⟨w.heap.size,4,I⟩=false:=by simp[World.frozen?,zz]
  clear zz hg1 hs hK hM;go_enter func19,ntmps19
  go_upto_region 1 with fail
  rw[<- pW];clear pW;go_wp2_with fail
  go_region
  all_goals
   clear z0 z1 z2 z3 z4 f0 f1 f2 f3 f4 AH FO Ax;rw[KO (eL.o _ (aC _ _))];go_wp2
   refine er (yE rfl _ _ _ _ _ _ _ _ rfl (eL.o _ (aC _ _).drew)) rfl ?_
   refine⟨_,_,_,rfl,kH.o.drew,by rw[HE.o],FL _,by rw[HE.o];exact⟨by simp,a_ ⟨rfl,rfl⟩⟩,FM⟩
 obtain⟨st,hst⟩:∃st:ByteArray,st=⟨(Lib.trimSuffix s.data.toList [10]).toArray⟩:=⟨_,rfl⟩;have uz:bl st=trim (bl s):=by rw[hst,qh,agj];rfl
 obtain⟨lines,KR⟩:∃L,L=Lib.splitB ⟨#[10]⟩ 0 (Lib.countB st ⟨#[10]⟩) st:=⟨_,rfl⟩;obtain⟨e1,e2⟩:=agk st ⟨#[10]⟩ rfl;rw[<- KR]at e1 e2;have oF:(trim (bl s)).length<=8000:=by
  unfold trim
  split
  ·simp;omega
  omega
 have agm:st.size<=8000:=by
  have:(bl st).length=st.size:=by simp[bl]
  rw[uz]at this;omega
 have HT:aa (Calls prog 62 #[aq s,aq ⟨#[10]⟩] Wc λe w'=>e=ax (aq st)/\w'=Wc):=by
  rw[hst];exact strings_TrimSuffix s _ Wc hn
 have wQ:aa (Calls prog 61 #[aq st,aq ⟨#[10]⟩] Wc λe w'=>e=ax (af (J ⟨Wc.heap.size,0,I⟩) lines.length lines.length)/\w'=Wc.alloc (au (lines.map Value.string).toArray 9)):=by
  have:=Kk st ⟨#[10]⟩ Wc HS.o.2.2 (by omega) (by decide);rw[<- KR,<- e2]at this;exact this
 have pQ:aa (∀w1,Below _ Wc w1->w1.heap[Wc.heap.size]?=J (au (lines.map Value.string).toArray 9 (0,0))->Calls _ 60 _ w1 _):=λw1 hb hrow=>agi A w1 _ _ lines.length (HS.o.1.below hb) (HS.o.2.1.below hb (fY (HS.o.2.1 0 (by decide)))) (HS.o.2.2.below hb) ⟨_,_,rfl,aQ _,λ_=>⟨Wc.heap.size,0,rfl,λi x hx j u hu=>by
  match j,hu with
  |0,hu=>
   simp[bS]at hu
   subst hu;simp[World.cell?,hrow,hx]
  |j+1,hu=>simp[bS]at hu⟩⟩ (by
   have h1:=(Aw 10 (trim (bl s))).2;rw[<- uz,<- e1,fL,uz]at h1;omega) (λl hl=>by
   have h1:=Fw 10 _ _ (by rw[<- e1];exact Da (f:=bl) hl);have h2:(bl l).length=l.size:=by simp[bl]
   rw[uz]at h1;omega)
 have gu:aa (cW aV (bl s)=if (ct aV 0 ⟨-1,cE⟩ (lines.map bl)).1.1=0 then (if (cG (ct aV 0 ⟨-1,cE⟩ (lines.map bl)).2.cfg).1=0 then ((0,-1),(ct aV 0 ⟨-1,cE⟩ (lines.map bl)).2.cfg)else (cG (ct aV 0 ⟨-1,cE⟩ (lines.map bl)).2.cfg,cE))else ((ct aV 0 ⟨-1,cE⟩ (lines.map bl)).1,cE)):=by
  show _=_
  unfold cW;rw[aK (by omega),e1,uz]
 have l1:¬(8000:Int)<(s.size:Int):=by omega
 clear hs hK hM hg1 hst uz KR e1 e2 oF agm hbl;go_enter func19,ntmps19
 go_upto_region 1 with fail
 rw[<- pW];clear pW;go_wp2_with fail
 refine aL HT.o ?_;rintro v w1 ⟨rfl,js⟩
 cases js
 go_wp2_with fail
 refine aL wQ.o ?_;rintro v w1 ⟨rfl,js⟩;have aO:aa (Below Wc.heap.size Wc w1):=by show Below _ _ _;rw[js];exact aN _ _
 have dp:aa (w1.heap[Wc.heap.size]?=J (au (lines.map Value.string).toArray 9 (0,0))):=by show _=_;rw[js];exact cR Wc _
 clear js HT wQ;go_wp2_with fail
 refine aL (pQ.o w1 aO.o dp.o) ?_;rintro v w2 ⟨c,sv,ev,rfl,hb2,hc,hE,Dd,AJ⟩;obtain⟨B',hE⟩:=hE;obtain⟨va,vc,rfl,-⟩:=id hE.aw;have aW:aa _:=aO.o.trans (hb2.mono aO.o.size);have HC:aa _:=hc;have HE:aa (gm B' w2 _ _/\nh c):=⟨hE,AJ⟩;have FP:aa (kJ A w2 ev _):=Dd;clear hb2 hc hE Dd AJ pQ aO dp
 by_cases h0:(ct aV 0 ⟨-1,cE⟩ (lines.map bl)).1.1=0
 ·have sG:=FP.o.nil h0;subst sG;have agn:aa (c=(ct aV 0 ⟨-1,cE⟩ (lines.map bl)).2.cfg):=by show _=_;rw[HC.o];unfold FK;rw[aR h0]
  have yF:aa (cW aV (bl s)=if (cG c).1=0 then ((0,-1),c)else (cG c,cE)):=by show _=_;rw[gu.o,aR h0,agn.o]
  clear h0 FP gu;obtain⟨V,hV⟩:∃V,V=w2.alloc (au #[U R c.closed,U R c.opn,U R c.cycle,U R c.bC,af va c.aw.length vc] 30):=⟨_,rfl⟩;have jZ:aa (Below Wc.heap.size Wc V):=by show Below _ _ _;rw[hV];exact aW.o.trans ((aN _ _).mono aW.o.size)
  have Dq:aa (∀X,Below _ V X->X.heap[w2.heap.size]?=J _):=λX hX=>bG hX (by rw[hV];exact cR w2 _)
  have SH:aa (gm B' V (af va c.aw.length vc) c.aw):=by show gm _ _ _ _;rw[hV];exact HE.o.1.below (aN _ _)
  go_upto_region 5 with fail
  rw[<- hV];clear hV;go_wp2_with (refine sf rfl 30 _ rfl _ rfl _ _ _ _ (Dq.o _ (aC _ _)) underlying30 rfl ou ?_)
  refine(QM A c va vc V (HS.o.1.below jZ.o) SH.o.aw HE.o.2).mono ?_;rintro v w4 ⟨r,rfl,he,hb4⟩;have kR:aa _:=hb4;have wW:aa _:=jZ.o.trans (hb4.mono jZ.o.size);have yG:aa (kJ A w4 r _):=he;clear he hb4
  by_cases h1:(cG c).1=0
  ·have hr:=yG.o.nil h1;subst hr;have Dr:aa (cW aV (bl s)=((0,-1),c)):=by show _=_;rw[yF.o,aR h1]
   clear h1 yF;go_wp2_with (first|(refine sf rfl 30 _ rfl _ rfl _ _ _ _ (Dq.o _ kR.o) underlying30 rfl ou ?_)|(refine f_ rfl 30 _ _ rfl _ _ rfl rfl 30 _ (eL.o _ wW.o) ou rfl (by simp[Value.oneCell']) ?_))
   refine er (yE rfl _ _ _ _ _ _ _ _ rfl (jY _ (eL.o _ wW.o))) rfl ?_;have b1:=kH.o.trans (wW.o.mono kH.o.size)
   refine⟨c,_,_,rfl,b1.grown (oO _ _ _) b1.size (λj hj=>by cases hj;exact aQ _),by rw[Dr.o],⟨B',(SH.o.below kR.o).other (oO _ _ _) (eL.o _ wW.o)⟩,by rw[Dr.o];exact⟨by simp,a_ ⟨rfl,rfl⟩⟩,HE.o.2⟩
  obtain⟨et,ex,he⟩:=yG.o.some h1;subst he;have Dr:aa (cW aV (bl s)=(cG c,cE)):=by show _=_;rw[yF.o,aK h1]
  clear h1 yF;go_wp2_with (refine f_ rfl 30 _ _ rfl _ _ rfl rfl 30 _ (eL.o _ wW.o) ou rfl (by simp[Value.oneCell']) ?_)
  rw[KQ (eL.o _ wW.o)]
  refine er (yE rfl _ _ _ _ _ _ _ _ rfl (eL.o _ wW.o)) rfl ?_;exact⟨_,_,_,rfl,kH.o.trans (wW.o.mono kH.o.size),by rw[Dr.o],FL _,by rw[Dr.o];exact yG.o,FM⟩
 obtain⟨et,ex,he⟩:=FP.o.some h0;subst he;have yF:aa (cW aV (bl s)=((ct aV 0 ⟨-1,cE⟩ (lines.map bl)).1,cE)):=by show _=_;rw[gu.o,aK h0]
 clear h0;go_wp2_with (refine f_ rfl 30 _ _ rfl _ _ rfl rfl 30 _ (eL.o _ (aW.o.trans ((aN _ _).mono aW.o.size))) ou rfl (by simp[Value.oneCell']) ?_)
 rw[KQ (eL.o _ (aW.o.trans ((aN _ _).mono aW.o.size)))]
 refine er (yE rfl _ _ _ _ _ _ _ _ rfl (eL.o _ (aW.o.trans ((aN _ _).mono aW.o.size)))) rfl ?_;have b1:=kH.o.trans (aW.o.mono kH.o.size);exact⟨_,_,_,rfl,b1.trans ((aN _ _).mono b1.size),by rw[yF.o],FL _,by rw[yF.o];exact FP.o.below (aN _ _),FM⟩
theorem ago{look:ic}{s:Bs}(h:(cW look s).1.1=0):(cG (cW look s).2).1=0:=by
 unfold cW at h⊢
 split
 ·rename_i h8;rw[aR h8]at h;simp at h
 rename_i h8;rw[aK h8]at h
 split
 ·rename_i h0;rw[aR h0]at h
  split
  ·rename_i h1;exact h1
  rename_i h1;rw[aK h1]at h;exact absurd h h1
 rename_i h0;rw[aK h0]at h;exact absurd h h0
theorem FQ:(prog.info? 45).map (·.size)=J 7:=by kernel_rfl
theorem SI{fn:Func}{p u:Tmp}(h:fn.results=#[.cell p 45,.tmp u])(tmps:Array ar)(w:ai)(g:Nat)(a b c d e f x:ar)
  (hp:tmps.getD p undef=aj (J ⟨g,0,I⟩)) (hg:w.heap[g]?=J (au #[a,b,c,d,e,f,x] 45 (0,0))):(results fn tmps).run prog w=.ok (bn #[aU #[a,b,c,d,e,f,x],tmps.getD u undef]) w:=by
 rw[results_cell_tmp h,hp];simp[asAddr,run_loadVar_row w g _ 45 #[a,b,c,d,e,f,x] _ _ hg underlying45 rfl FQ]
theorem gm.agp{B b:Nat}{w w':ai}{v:ar}{es:List aF}(h:gm B w v es)(hg:w.grownBy w' (J b)){c:Array ar}{fr:Nat×Nat}(hb:w.heap[b]?=J (au c 45 fr)):gm B w' v es:=by
 obtain⟨cells,ho,hp⟩:=h;have hne:v.ownBlock≠J b:=by
  rcases ho.2 with⟨rfl,_⟩|⟨g,cap,cur,rfl,_,eA,_⟩
  ·simp[Value.ownBlock]
  intro e;simp only[Value.ownBlock,eR]at e;subst e;rw[eA]at hb;simp only[eR,l_]at hb;exact absurd hb.2.1 (by decide)
 refine⟨_,ho.kept hg (aP hne),λi e he=>?_⟩;obtain⟨pv,gv,ev,fv,lv,h1,h2⟩:=hp i e he;exact⟨pv,gv,ev,fv,lv,⟨h1.hp.other hg hb (by decide),h1.hg.other hg hb (by decide),h1.he.other hg hb (by decide),h1.hf.other hg hb (by decide),h1.hl.other hg hb (by decide)⟩,h2⟩
structure uU(A:Nat->az)(w:ai):Prop where
 sk:fA A w
 six:dA A w
 kw:jF w
 tab:iK w
 mx:ox w
 FH:wz w
 gb:(max 12 13+1)<=w.heap.size
section
variable {A:Nat->az}{H:Nat->Nat->Prop}{F:Nat->Prop}{w0 wX w w':ai}{c:aS}{kb bc bd rb bt:Nat}{lv:ar}{bs:List Nat}{K:aH}
theorem uU.below(h:uU A w)(hb:Below w.heap.size w w'):uU A w':=⟨h.sk.below hb,h.six.below hb,h.kw.below hb (fY (h.kw 0 (by decide))),h.tab.below hb h.gb,h.mx.below hb,h.FH.below hb,bw h.gb hb.size⟩
theorem bT.turn(h:bT H w0 w c kb bc bd rb bt lv bs K)(hz:wX.heap.size=w0.heap.size)(ho:bh (λk=>k<w0.heap.size) w w')(hb:Below wX.heap.size wX w'):bT H wX w' c kb bc bd rb bt lv bs K:=by
 have hS:=λi k hk=>Nat.not_lt.2 (h.eJ.lo i k hk)
 have hs:=λi k hk=>ho.block k (h.eJ.lt i k hk) (hS i k hk)
 exact⟨by rw[hz];exact h.eJ.grow ho.size,(hs 0 kb h.hk).trans h.row,h.hk,by rw[hz];exact bU.same h.own (λg hg=>hs 1 g (h.hl g hg)),h.hl,by rw[hz];exact h.ring.off ho (λk hk=>hS 2 k hk),h.kE.off ho (hS 3 bd h.hd),h.hd,(hs 4 bt h.ht).trans h.lI,h.ht,
  λi b e s h1 h2 h3=>(h.loc i b e s h1 h2 h3).same (hs _) ho.size,h.eB,h.gX,hb⟩
theorem eV.turn(h:eV F w0 w c kb bc K)(hz:wX.heap.size=w0.heap.size)(ho:bh (λk=>k<w0.heap.size) w w')(hb:Below wX.heap.size wX w'):eV F wX w' c kb bc K:=by
 obtain⟨H,bd,rb,bt,lv,bs,h1,h2⟩:=h;exact⟨H,bd,rb,bt,lv,bs,h1.turn hz ho hb,h2⟩
end
def agq(A:Nat->az)(w:ai)(c:aS)(e:Ending)(w':ai):Prop:=
 ∃sa sc w0 F kb bc,e=ax (bn #[.agg (fH c kb bc (af sa c.aw.length sc)),.nilIface])/\Dk A w0 c sa sc/\eV F w0 w' c kb bc (aH.new c (aM.new 4096))/\(∀k,F k->w0.heap.size<=k/\k<w'.heap.size)/\Below w.heap.size w w0
def agr(A:Nat->az)(w:ai)(s:Bs)(e:Ending)(w':ai):Prop:=
 ((cW aV s).1.1≠0->Below w.heap.size w w'/\∃ev,e=ax (bn #[aU #[aj I,aj I,U R 0,U R 0,U R 0,U R 0,af I 0 0],ev])/\kJ A w' ev (cW aV s).1)/\((cW aV s).1.1=0->agq A w (cW aV s).2 e w')
theorem ags(A:Nat->az)(s:ByteArray)(w:ai)(h:uU A w)(hn:s.size<=9223372036854775807):Calls prog 12 #[aq s] w λe w'=>agr A w (bl s) e w':=by
 obtain⟨W0,hW0⟩:∃V,V=w.alloc (au #[aj I,aj I,U R 0,U R 0,U R 0,U R 0,af I 0 0] 45):=⟨_,rfl⟩;have hb0:Below w.heap.size w W0:=by rw[hW0];exact aN _ _
 have SJ:W0.heap[w.heap.size]?=J (au #[aj I,aj I,U R 0,U R 0,U R 0,U R 0,af I 0 0] 45 (0,0)):=by rw[hW0];exact cR w _
 have eL:aa (∀V,Below _ W0 V->V.heap[w.heap.size]?=J _):=λV hV=>bG hV SJ
 have HE:aa _:=h;have FR:=h.below hb0;have pQ:aa _:=agl A s W0 FR.six FR.kw FR.mx hn;have dX:aa _:=hb0;clear h hn hb0 SJ FR;go_enter func12,ntmps12
 go_upto_region 1 with fail
 rw[<- hW0];clear hW0;go_wp2_with fail
 refine aL pQ.o ?_;rintro v w1 ⟨c,sv,ev,rfl,hb1,hc,⟨B',FT⟩,pX,hsm⟩;obtain⟨sa,sc,rfl,-⟩:=id FT.aw;have aO:aa _:=hb1;obtain⟨v1,cC⟩:∃V,V=w1.alloc (au #[U R c.closed,U R c.opn,U R c.cycle,U R c.bC,af sa c.aw.length sc] 30):=⟨_,rfl⟩;have fk:Below w1.heap.size w1 v1:=by rw[cC];exact aN _ _
 have gC:aa _:=hb1.trans (fk.mono hb1.size);have Dq:aa (∀X,Below _ v1 X->X.heap[w1.heap.size]?=J _):=λX hX=>bG hX (by rw[cC];exact cR w1 _)
 by_cases h0:(cW aV (bl s)).1.1=0
 ·have sG:=pX.nil h0;subst sG;have im:=ago h0;rw[<- hc]at im;have BU:aa (gm B' v1 _ _):=FT.below fk;have iw:aa (nh c/\(cG c).1=0/\c=(cW _ _).2/\(cW _ _).1.1=0):=⟨hsm,im,hc,h0⟩;have HN:aa (Calls _ 20 #[U R 4096] v1 λe w'=>e=ax _/\Below _ v1 w'/\bY w' _ _/\w'.heap.size=v1.heap.size+1):=VU 4096 v1 (aQ _);clear h0 im hc hsm pX FT hb1 fk;go_upto_region 2 with fail
  rw[<- cC];clear cC;go_wp2_with fail
  refine aL HN.o ?_;rintro u w2 ⟨rfl,hb2,hc2,-⟩;have aW:aa _:=hb2;have SK:aa (Calls _ 21 _ w2 λu w'=>Kt v1 w2 c _ _ u w'):=
   afk (A:=A) sa sc ((HE.o.below (dX.o.trans (gC.o.mono dX.o.size))).sk) (RY iw.o.2.1) iw.o.2.1 (BU.o.aw.below hb2) iw.o.1 hc2 (aQ _) hb2 (by decide) rfl
  clear hb2 hc2 HN;go_wp2_with (refine sf rfl 30 _ rfl _ rfl _ _ _ _ (Dq.o _ aW.o) underlying30 rfl ou ?_)
  refine aL SK.o ?_;rintro u w3 ⟨kb,F,rfl,hat,hb3,hF⟩;have fG:aa _:=aW.o.trans (hb3.mono aW.o.size);have Aq:aa _:=hat;have HF:aa _:=hF;have HZ:aa _:=aW.o.size;clear hat hb3 hF SK;have wB:aa _:=gC.o.trans (fG.o.mono gC.o.size);go_wp2_with (first|(refine sf rfl 30 _ rfl _ rfl _ _ _ _ (Dq.o _ fG.o) underlying30 rfl ou ?_)|(refine f_ rfl 45 _ _ rfl _ (fH c kb _ _) rfl rfl 45 _ (eL.o _ wB.o) FQ rfl (by simp[Value.oneCell',fH]) ?_))
  refine er (SI rfl _ _ _ _ _ _ _ _ _ _ rfl (jY _ (eL.o _ wB.o))) rfl ?_
  refine⟨λe=>absurd iw.o.2.2.2 e,λ_=>?_⟩;have oJ:=eL.o v1 gC.o;have hlt:=bJ oJ;have dC:=dX.o.trans (gC.o.mono dX.o.size);have SL:Below _ w (v1.setRow _ (fH c kb v1.heap.size (af sa c.aw.length sc))):=dC.grown (oO _ _ _) dC.size (λj hj=>by cases hj;exact aQ _);have hz:(v1.setRow w.heap.size (fH c kb v1.heap.size (af sa c.aw.length sc))).heap.size=v1.heap.size:=by simp[World.setRow]
  have hz3:(w3.setRow w.heap.size (fH c kb v1.heap.size (af sa c.aw.length sc))).heap.size=w3.heap.size:=by simp[World.setRow]
  have yH:=HE.o.below SL;rw[<- iw.o.2.2.1]
  refine⟨sa,sc,_,F,kb,_,rfl,⟨yH.sk,yH.six,yH.kw,yH.tab,yH.mx,yH.FH,yH.gb,(BU.o.agp (oO _ _ _) oJ).aw,iw.o.1,iw.o.2.1,RY iw.o.2.1⟩,eV.turn Aq.o hz ?_ ?_,λk hk=>?_,SL⟩
  ·have hg:=oO w3 w.heap.size (fH c kb v1.heap.size (af sa c.aw.length sc));exact⟨hg.os,hg.tape,hg.output,hg.size,λk hk hn=>hg.block k hk (λe=>hn (by cases e;exact hlt))⟩
  ·refine⟨fG.o.os,fG.o.tape,fG.o.output,by rw[hz,hz3];exact fG.o.size,λk hk=>?_⟩;rw[hz]at hk;have hk3:=fG.o.block k hk
   by_cases e:k=w.heap.size
   ·subst e;rw[jY _ (eL.o _ wB.o),jY _ oJ]
   simp only[World.setRow,dr];rw[aK (λe2=>e e2.symm),aK (λe2=>e e2.symm)];exact hk3
  rw[hz,hz3];have h5:=HF.o k hk
  refine⟨?_,h5.2⟩
  rcases h5.1 with e|e
  ·omega
  exact bw HZ.o e
 obtain⟨et,ex,he⟩:=pX.some h0;subst he;have agt:aa (¬(cW _ _).1.1=0):=h0;have yG:aa _:=pX.below fk;clear h0 hc hsm pX FT hb1 fk;go_upto_region 2 with fail
 rw[<- cC];clear cC;go_wp2_with (refine f_ rfl 45 _ _ rfl _ _ rfl rfl 45 _ (eL.o _ gC.o) FQ rfl (by simp[Value.oneCell']) ?_)
 rw[KQ (eL.o _ gC.o)]
 refine er (SI rfl _ _ _ _ _ _ _ _ _ _ rfl (eL.o _ gC.o)) rfl ?_;exact⟨λ_=>⟨dX.o.trans (gC.o.mono dX.o.size),_,rfl,yG.o⟩,λe=>absurd e agt.o⟩
open Go.ChangeShapes
def uV:List (String×List UInt8):=VQ ++ [("nightwatch/api.ErrFull", [110, 105, 103, 104, 116, 119, 97, 116, 99, 104, 58, 32, 102, 117, 108, 108]), ("nightwatch/api.ErrOff", [110, 105, 103, 104, 116, 119, 97, 116, 99, 104, 58, 32, 111, 102, 102]), ("nightwatch/api.ErrIdle", [110, 105, 103, 104, 116, 119, 97, 116, 99, 104, 58, 32, 105, 100, 108, 101]), ("nightwatch/api.ErrHeld", [110, 105, 103, 104, 116, 119, 97, 116, 99, 104, 58, 32, 104, 101, 108, 100]), ("nightwatch/api.ErrReset", [110, 105, 103, 104, 116, 119, 97, 116, 99, 104, 58, 32, 114, 101, 115, 101, 116]), ("strconv.ErrRange", [118, 97, 108, 117, 101, 32, 111, 117, 116, 32, 111, 102, 32, 114, 97, 110, 103, 101]), ("strconv.ErrSyntax", [105, 110, 118, 97, 108, 105, 100, 32, 115, 121, 110, 116, 97, 120])]
theorem g6:prog.globalNamed "nightwatch/api.ErrFull" = J 6:=by kernel_rfl
theorem g7:prog.globalNamed "nightwatch/api.ErrOff" = J 7:=by kernel_rfl
theorem g8:prog.globalNamed "nightwatch/api.ErrIdle" = J 8:=by kernel_rfl
theorem g9:prog.globalNamed "nightwatch/api.ErrHeld" = J 9:=by kernel_rfl
theorem g10:prog.globalNamed "nightwatch/api.ErrReset" = J 10:=by kernel_rfl
theorem agu:prog.globalNamed "strconv.ErrSyntax" = J 19:=by kernel_rfl
theorem agv:(uV.map λx=>(prog.globalNamed x.1).bind λg=>(prog.globals[g]?).map (·.type))=List.replicate 13 (J 25):=by kernel_rfl
def td:List (String×DataW Unit):=[("math/bits.deBruijn32tab", Rows.laid_math_bits_deBruijn32tab), ("math/bits.deBruijn64tab", Rows.laid_math_bits_deBruijn64tab), ("internal/strconv.uint64pow10", Rows.laid_internal_strconv_uint64pow10), ("unicode/utf8.acceptRanges", Rows.laid_unicode_utf8_acceptRanges), ("nightwatch/api.ErrText", Rows.laid_nightwatch_api_ErrText), ("nightwatch/api.ErrBound", Rows.laid_nightwatch_api_ErrBound), ("nightwatch/api.ErrShape", Rows.laid_nightwatch_api_ErrShape), ("nightwatch/api.ErrName", Rows.laid_nightwatch_api_ErrName), ("nightwatch/api.ErrNone", Rows.laid_nightwatch_api_ErrNone), ("nightwatch/api.ErrExist", Rows.laid_nightwatch_api_ErrExist), ("nightwatch/api.ErrFull", Rows.laid_nightwatch_api_ErrFull), ("nightwatch/api.ErrOff", Rows.laid_nightwatch_api_ErrOff), ("nightwatch/api.ErrIdle", Rows.laid_nightwatch_api_ErrIdle), ("nightwatch/api.ErrHeld", Rows.laid_nightwatch_api_ErrHeld), ("nightwatch/api.ErrReset", Rows.laid_nightwatch_api_ErrReset), ("strconv.ErrRange", Rows.laid_strconv_ErrRange), ("strconv.ErrSyntax", Rows.laid_strconv_ErrSyntax), ("nightwatch/conf.keywords", Rows.laid_nightwatch_conf_keywords), ("unicode/utf8.first", Rows.laid_unicode_utf8_first)]
theorem agw:td=[("math/bits.deBruijn32tab", Rows.laid_math_bits_deBruijn32tab), ("math/bits.deBruijn64tab", Rows.laid_math_bits_deBruijn64tab)] ++ ([("internal/strconv.uint64pow10", Rows.laid_internal_strconv_uint64pow10)] ++ ([("unicode/utf8.acceptRanges", Rows.laid_unicode_utf8_acceptRanges)] ++ (Mr uV ++ ([("nightwatch/conf.keywords", Rows.laid_nightwatch_conf_keywords)] ++ [("unicode/utf8.first", Rows.laid_unicode_utf8_first)])))):=rfl
theorem SM{W:ai}{b o:Nat}{v:ar}(h:W.cell? ⟨b,o,I⟩=J v):b<W.heap.size:=fY h
theorem agx{W:ai}(hK:jF W)(hT:iK W):max 12 13+1<=W.heap.size:=by
 have h1:=SM (hK 0 (by decide));have h2:=SM (Lib.TabIs.cell hT Mp 0 (by decide));omega
theorem agy:prog.globalNamed "errors.errorType" = J 11:=by kernel_rfl
theorem rt:(prog.cutTypes.find? (·.1 == "internal/reflectlite.rtype")).map (·.2)=J 196:=by kernel_rfl
theorem agz:((List.range 390).filter λt=>prog.rowNamed t [101,114,114,111,114])=[25]:=by kernel_rfl
theorem agA:prog.types.size=390:=by kernel_rfl
theorem kZ.k{A:Nat->az}{w:ai}(h:kZ A w):fA A w:=⟨h.c1,h.c2,h.c3,h.c4,h.c5,h.c6,h.c7,h.c8,h.c9,h.c10⟩
def FU(i:Nat):Bs:=(uV.getD (i-1) ("", [0])).2
theorem agB(i:Nat):FU i≠[]:=by
 unfold FU;rw[fQ]
 cases h:uV[i-1]? with
 |none=>simp
 |some x=>
  have:∀y∈uV,y.2≠[]:=by decide
  exact this x (cM h)
def yI:List (String×DataW Unit):=[("math/bits.deBruijn32tab", Rows.laid_math_bits_deBruijn32tab), ("math/bits.deBruijn64tab", Rows.laid_math_bits_deBruijn64tab), ("internal/strconv.uint64pow10", Rows.laid_internal_strconv_uint64pow10), ("unicode/utf8.acceptRanges", Rows.laid_unicode_utf8_acceptRanges), ("errors.errorType", Rows.laid_errors_errorType), ("nightwatch/api.ErrText", Rows.laid_nightwatch_api_ErrText), ("nightwatch/api.ErrBound", Rows.laid_nightwatch_api_ErrBound), ("nightwatch/api.ErrShape", Rows.laid_nightwatch_api_ErrShape), ("nightwatch/api.ErrName", Rows.laid_nightwatch_api_ErrName), ("nightwatch/api.ErrNone", Rows.laid_nightwatch_api_ErrNone), ("nightwatch/api.ErrExist", Rows.laid_nightwatch_api_ErrExist), ("nightwatch/api.ErrFull", Rows.laid_nightwatch_api_ErrFull), ("nightwatch/api.ErrOff", Rows.laid_nightwatch_api_ErrOff), ("nightwatch/api.ErrIdle", Rows.laid_nightwatch_api_ErrIdle), ("nightwatch/api.ErrHeld", Rows.laid_nightwatch_api_ErrHeld), ("nightwatch/api.ErrReset", Rows.laid_nightwatch_api_ErrReset), ("strconv.ErrRange", Rows.laid_strconv_ErrRange), ("strconv.ErrSyntax", Rows.laid_strconv_ErrSyntax), ("nightwatch/conf.keywords", Rows.laid_nightwatch_conf_keywords), ("unicode/utf8.first", Rows.laid_unicode_utf8_first)]
theorem agC(W:ai):laidMetH prog yI W=(laidMet prog td W ∧ handlesMet prog [("errors.errorType", Rows.laid_errors_errorType)] W):=by kernel_rfl
theorem agD{W:ai}(h:laidMetH prog yI W)(hM:ox W):∃A:Nat->az,uU A W/\kZ A W/\∀i,i<11->W.cell? (A i)=J (.string ⟨(FU (i+1)).toArray⟩):=by
 rw[agC]at h;obtain⟨⟨ajB,hl0,agE,agF⟩,hh⟩:=h;rw[agw]at hl0;obtain⟨p0,r0,rfl,-,hl0⟩:=yZ _ _ _ hl0;obtain⟨p1,r1,rfl,GG,hl0⟩:=yZ _ _ _ hl0;obtain⟨p2,r2,rfl,-,hl0⟩:=yZ _ _ _ hl0;obtain⟨ps,r3,rfl,hl,hl0⟩:=yZ _ _ _ hl0;obtain⟨p4,r4,rfl,Qh,-⟩:=yZ _ _ _ hl0;have oB:=List.Nodup.sublist ((List.sublist_append_left _ _).trans ((DM _ _).trans ((DM _ _).trans (DM _ _)))) agE;have Bi:∀b off,MemPlace.cell b off∈ps->_:=λb off hm=>agF b off (by simp[hm])
 have t_:∀x,x∈uV->∃g,prog.globalNamed x.1=J g/\(prog.globals[g]?).map (·.type)=J 25:=λx hx=>by
  have h1:((prog.globalNamed x.1).bind λg=>(prog.globals[g]?).map (·.type))∈List.replicate 13 (J 25):=by
   rw[<- agv];exact Da hx
  have h2:=List.eq_of_mem_replicate h1;simp only[Option.bind_eq_some_iff]at h2;obtain⟨g,a,b⟩:=h2;exact⟨g,a,b⟩
 obtain⟨A,hv,hr,-,hne,ht⟩:=VB underlying25 VF underlying352 underlying354 rfl rfl underlying9 VG Mt _ ps t_ hl oB Bi;have hn:uV.length=13:=rfl;have het:W.cell? ⟨11,0,I⟩=J (.iface 196 (.agg #[.pointer (J ⟨26,25,I⟩)])):=by
  obtain⟨name,u,ty,e1,e2,e3,e4,e5⟩:=hh _ (iF.2 rfl);have en:=(bj e1).symm;subst en;obtain rfl:=bj (rt.symm.trans e2);have hm:ty∈(List.range 390).filter λt=>prog.rowNamed t _:=List.mem_filter.2 ⟨mr.2 (by rw[<- agA];exact e3),e4⟩
  rw[agz]at hm;obtain rfl:=iF.1 hm;have hh:typeHandle prog 25=.pointer (J ⟨26,25,I⟩):=by kernel_rfl
  rw[hh]at e5;simpa using nT agy e5 0
 have hs:kZ A W:=⟨by simpa using nT g0 (hv 0 _ rfl) 0,by simpa using nT g1 (hv 1 _ rfl) 0,by simpa using nT g2 (hv 2 _ rfl) 0,by simpa using nT g3 (hv 3 _ rfl) 0,by simpa using nT g4 (hv 4 _ rfl) 0,by simpa using nT g5 (hv 5 _ rfl) 0,by simpa using nT g6 (hv 6 _ rfl) 0,by simpa using nT g7 (hv 7 _ rfl) 0,by simpa using nT g8 (hv 8 _ rfl) 0,by simpa using nT g9 (hv 9 _ rfl) 0,by simpa using nT g10 (hv 10 _ rfl) 0,het,λi hi=>hr i (by omega),λi j hi hj=>hne i j (by omega) (by omega)⟩;have hK:=VP Qh;have hT:=VO GG
 refine⟨A,⟨hs.k,hs.six,hK,hT,hM,⟨_,by simpa using nT agu (hv 12 _ rfl) 0,aP ⟨_,_,rfl⟩⟩,agx hK hT⟩,hs,λi hi=>?_⟩
 have e:uV[i]?=J (uV.getD i ("", [0])):=by rw [fQ, bH (by omega)]; rfl
 exact ht i _ e
theorem agG(os:Os)(args:Array ar):laidMetH prog yI ((World.layVars prog ({ World.holding prog os ⟨#[],#[],[]⟩with heap:=⟨Lay.setRows (World.holding prog os ⟨#[],#[],[]⟩).heap.toList [(11,[(.iface 196 (.agg #[.pointer (J ⟨26,25,I⟩)]))])]⟩ }:ai) td).forCall (λ_ _=>0) ⟨#[],args,[]⟩).memory:=by
 refine laidMetH_of_parts ?_ (by kernel_rfl);have e0:(yI.filter λx=>x.2.handleName?.isNone)=td:=by kernel_rfl
 rw[e0];have e1:(td.filter λx=>(td.map (·.1)).contains x.1)=td:=List.filter_eq_self.2 λx hx=>List.contains_iff_mem.2 (lX.2 ⟨x,hx,rfl⟩)
 have e2:(td.filter λx=>!(td.map (·.1)).contains x.1)=[]:=List.filter_eq_nil_iff.2 λx hx=>by rw[List.contains_iff_mem.2 (lX.2 ⟨x,hx,rfl⟩)];simp
 have h:laidMet _ _ (World.layVars prog _ _):=laidMet_layVars (w0:=({ World.holding prog os ⟨#[],#[],[]⟩with heap:=⟨Lay.setRows (World.holding prog os ⟨#[],#[],[]⟩).heap.toList [(11,[(.iface 196 (.agg #[.pointer (J ⟨26,25,I⟩)]))])]⟩ }:ai)) _ [] (by rw[e1]) (by rw[e1];kernel_rfl) (by rw[e1];kernel_rfl) (by rw[e2];exact LaidIn.none);exact h.of_heap (by simp[World.memory,World.forCall,Input.heap])
def SN:Nat->Int
 |0=>9
 |1=>9
 |2=>9
 |3=>99999
 |4=>99999
 |8=>9
 |_=>0
theorem agH(s:ByteArray)(w:ai)(h:ir (bl s)=I):Calls prog 9 #[aq s] w λe w'=>e=ax (bn #[U R 0,U R 0,aI false])/\w'=w:=by
 have hne:∀k,k<14->(s.toList==oT k)=false:=λk hk=>by rw[fZ,iZ];exact λe=>Oa h k hk e.symm
 have h0:(s.toList==[98,101,103,105,110])=false:=hne 0 (by decide);have h1:(s.toList==[115,116,111,112])=false:=hne 1 (by decide);have h2:(s.toList==[114,101,112,111,114,116])=false:=hne 2 (by decide);have h3:(s.toList==[116,105,99,107])=false:=hne 3 (by decide);have h4:(s.toList==[99,117,116])=false:=hne 4 (by decide);have h5:(s.toList==[98,111,111,116])=false:=hne 5 (by decide);have h6:(s.toList==[110,111,119])=false:=hne 6 (by decide);have h7:(s.toList==[107,105,99,107,115])=false:=hne 7 (by decide);have h8:(s.toList==[115,116,97,116,117,115])=false:=hne 8 (by decide);have h9:(s.toList==[116,111,116,97,108])=false:=hne 9 (by decide);have h10:(s.toList==[115,116,97,116,101])=false:=hne 10 (by decide);have h11:(s.toList==[99,97,117,115,101])=false:=hne 11 (by decide);have UW:(s.toList==[108,111,103])=false:=hne 12 (by decide);have wM:(s.toList==[99,111,110,102,105,103])=false:=hne 13 (by decide);clear h hne;go_enter func9,ntmps9
 go_wp2
 refine er (results_tmp3 rfl _ _ _) rfl ?_;exact⟨rfl,rfl⟩
theorem agI(s:ByteArray)(k:Nat)(w:ai)(h:ir (bl s)=J k):Calls prog 9 #[aq s] w λe w'=>e=ax (bn #[U R ((iG k).length:Int),U R (SN k),aI true])/\w'=w:=by
 obtain⟨h1,h2⟩:=Ca h;have hs:s=ml k:=lC (by rw[<- h2];simp[bl,ml]);subst hs;clear h h2;have h3:k=0\/k=1\/k=2\/k=3\/k=4\/k=5\/k=6\/k=7\/k=8\/k=9\/k=10\/k=11\/k=12\/k=13:=by omega
 clear h1
 rcases h3 with rfl|rfl|rfl|rfl|rfl|rfl|rfl|rfl|rfl|rfl|rfl|rfl|rfl|rfl
 all_goals
  unfold ml oT;go_enter func9,ntmps9
  go_wp2
  refine er (results_tmp3 rfl _ _ _) rfl ?_;exact⟨rfl,rfl⟩
open Go
theorem KS:∀l:Bs,∃r,bW 32 l=l.takeWhile (λb=>b != 32)::r
 |[]=>⟨[],rfl⟩
 |b::t=>by
  obtain⟨r,hr⟩:=KS t
  by_cases hb:b=32
  ·subst hb;exact⟨_,by rw[bW,aR rfl];rfl⟩
  refine⟨r,?_⟩;rw[bW,aK hb,hr,List.takeWhile_cons_of_pos (by simpa using hb)]
theorem agJ{old new:Bs}(hn:new≠[]):∀(k:Nat) (s:Bs),s≠[]->Lib.replaceK old new k s≠[]
 |0,s,h=>h
 |k+1,s,h=>by
  unfold Lib.replaceK
  split
  ·exact h
  intro e;have:=List.append_eq_nil_iff.1 (List.append_eq_nil_iff.1 e).1;exact hn this.2
theorem agK(c:aS):ri c≠[]:=by
 have h6:7<=(jn c).length:=by
  unfold jn pC bu;rw[lV,dm,dm,dm];have:(kw 0).length=6:=rfl;simp only[kr,qo];omega
 unfold ri Lib.replaceAll Lib.replace;have hs:Lib.trimSuffix (jn c) [10]≠[]:=by
  intro e;have:=mY List.length e;unfold Lib.trimSuffix at this
  split at this
  ·rw[gy]at this;simp only[kr,qo]at this;omega
  simp only[qo]at this;omega
 split
 ·exact hs
 exact agJ (by decide) _ _ hs
theorem SP(r:Rec):kC r≠[]:=by
 unfold kC;rw[Lib.join_cons];intro e;exact(pE _).1 (List.append_eq_nil_iff.1 e).1
theorem agL(c:aS)(K:aH)(ns:List Int)(k:Nat)(h0:(K.dN c ns k).2.2=0):(K.dN c ns k).2.1≠[]:=by
 have ha:∀p:aH×Nat,(oU p).2.2=0->(oU p).2.1≠[]:=λp hp=>by
  have ui:p.2=0:=hp;show rj p.2≠[]
  unfold rj;rw[aR ui];decide
 match k with
 |0=>exact ha _ h0
 |1=>exact ha _ h0
 |2=>exact ha _ h0
 |3=>exact ha _ h0
 |4=>exact ha _ h0
 |5=>exact ha _ h0
 |6=>exact(pE _).1
 |7=>exact(pE _).1
 |8=>
  have e:K.dN c ns 8=match K.ls[(ns.getD 0 0).toNat]? with
   |some s=>(K,bl _,0)
   |none=>(K,[],5):=rfl
  rw[e]at h0⊢
  cases hs:K.ls[(ns.getD 0 0).toNat]? with
  |some s=>
   show bl _≠[]
   unfold pJ
   split<;>decide
  |none=>
   rw[hs]at h0;exact absurd (show (5:Nat)=0 from h0) (by decide)
 |9=>
  show bl _≠[]
  unfold kI
  split<;>decide
 |10=>
  show bl _≠[]
  unfold oQ
  split
  ·decide
  split<;>decide
 |11=>
  show uf K.L≠[]
  unfold uf
  split
  ·decide
  exact SP _
 |12=>
  show ug K.L≠[]
  unfold ug
  split
  ·decide
  rename_i hL
  cases hK:K.L with
  |nil=>rw[hK]at hL;exact absurd rfl hL
  |cons r t=>
   rw[pA,Lib.join_cons];intro e;exact SP r (List.append_eq_nil_iff.1 e).1
 |n+13=>exact agK c
theorem agM(c:aS)(K:aH)(ws:List Bs)(h0:(K.lp c ws).2.2=0):(K.lp c ws).2.1≠[]:=by
 unfold aH.lp at h0⊢
 split
 ·simp at h0
 rename_i h ws;simp only at h0
 cases hk:ir h with
 |none=>rw[hk]at h0;simp at h0
 |some k=>
  rw[hk]at h0;simp only at h0⊢
  cases hn:dt (iG k) ws with
  |none=>rw[hn]at h0;simp at h0
  |some ns=>
   rw[hn]at h0;simp only at h0⊢;exact agL c K ns k h0
theorem agN{T:Nat->Bs}(hT:∀i,T i≠[])(c:aS)(K:aH)(l:Bs):n_ T (K.fU c l)≠[]:=by
 unfold n_
 split
 ·rename_i h;exact agM c K _ h
 exact hT _
theorem agO{T:Nat->Bs}{c:aS}{K:aH}{l:Bs}(h:ir (l.takeWhile (λb=>b != 32))=I):n_ T (K.fU c l)=T 1:=by
 obtain⟨r,hr⟩:=KS l;unfold n_ aH.fU aH.lp;rw[hr];simp only[h];rfl
theorem agP{c:aS}{T:Nat->Bs}{K:aH}{ls:List Bs}{i:Nat}{l:Bs}(h:ls[i]?=J l):(gz c T K ls)[i]?=J (n_ T ((iu c K (ls.take i)).fU c l)):=by
 have h1:=N8 (c:=c) (T:=T) (K:=K) h;have h2:gz c T K ls=gz c T K (ls.take (i+1))++gz c T (iu c K (ls.take (i+1))) (ls.drop (i+1)):=by rw[<- Ip,qq]
 have hl:=(dT.1 h).1;have h3:(gz c T K (ls.take i)).length=i:=by rw[Ey,gy];omega
 rw[h2,h1,iV,ko (by omega),h3,Nat.sub_self];rfl
theorem SQ:∀(k n:Nat),10^k<=n->k+1<=(ku n).length
 |0,n,_=>by
  have:=(AW n).2.2.1
  cases h:ku n with
  |nil=>exact absurd h this
  |cons a t=>simp
 |k+1,n,h=>by
  have h1:10^(k+1)=10^k*10:=Nat.pow_succ ..;have h2:0<10^k:=Nat.pow_pos (by decide);have h3:¬n<10:=by omega
  have h4:=SQ k (n / 10) (by omega);unfold ku;rw[dif_neg h3,dm];simp only[kr,qo];omega
theorem agQ{l:Bs}(h:l.take 4=oT 3->l.length<=8):jv l<=999:=by
 obtain⟨r,hr⟩:=KS l;have hj:=TN 32 l _ r hr;unfold jv;rw[hr];show (if ir _=J 3 then (((dt [5] r).getD []).getD 0 0).toNat else 0)<=999
 split
 ·rename_i hk;have hw:=(Ca hk).2;rw[<- hw]at hj;have h8:=h (by rw[hj];unfold kX;exact List.take_left' rfl)
  match r,hj with
  |[],_=>exact bI _
  |[x],hj=>
   cases hs:iH x 5 with
   |none=>unfold dt;rw[hs];exact bI _
   |some n=>
    obtain⟨h2,h3,-,-⟩:=N_ hs;have e:dt [5] [x]=J [n]:=by unfold dt;rw[hs];rfl
    rw[e];show n.toNat<=999
    have hx:x.length<=3:=by
     have:=mY List.length hj;unfold kX at this;simp only[lV,List.flatMap_nil,qd,dm,kr]at this;have h4:(oT 3).length=4:=rfl;omega
    refine Classical.byContradiction λhb=>?_
    have:=SQ 3 n.toNat (by omega);rw[<- h3]at hx;unfold num at hx;omega
  |x::y::t,_=>
   cases hs:iH x 5 with
   |none=>unfold dt;rw[hs];exact bI _
   |some n=>
    have e:dt [5] (x::y::t)=I:=by unfold dt;rw[hs];rfl
    rw[e];exact bI _
 exact bI _
theorem SR:∀ls:List Bs,(∀l∈ls,l.take 4=oT 3->l.length<=8)->j_ ls<=999*ls.length
 |[],_=>bI _
 |l::t,h=>by
  have h1:=agQ (h l (qc ..));have h2:=SR t (λx hx=>h x (tE _ hx));show jv l+j_ t<=999*(t.length+1)
  omega
end Go.Proofs.YtgmfhkjghmdgiaaGreatDoor
