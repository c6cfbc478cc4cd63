/-
  Several texts as one: ScRun, ScHel, DcSmT, ScLaw, ScErT, CfHeavy, DrRight, DrSt, DrNum, DrCut, DrLook, DrNew, DrParts, DrLine0.
-/
import Derived.Test.YtgmfhkjghmdgiaaGreatDoorP14S
set_option linter.all false
set_option maxHeartbeats 40000000
set_option maxRecDepth 100000
open Go renaming Addr→az,Value→ar,World→ai
open Go.Ending renaming returned→ax
open Go.IntKind renaming i64→R
open Go.Obj renaming cells→au
open Go.RowKit renaming Hid→aa
open Go.Value renaming agg→aU,bool→aI,int→U,pointer→aj,slice→af,string→aq,tuple→bn
open Option renaming none→I,some→J
open Go.Proofs.Tryz
namespace Go.Proofs.YtgmfhkjghmdgiaaGreatDoor
open Go.Extern Go.Extern.Stop Go.RowKit Go.Stop
structure th(v0 v1 w0 wr:ai)(c:aS)(kb bc:Nat)(K:aH)(av:ar)(xs:List ByteArray):Prop where
 at':∃G,eV G w0 wr c kb bc K/\(∀k,G k->k<v0.heap.size\/v1.heap.size<=k)/\∀k,av.ownBlock=J k->¬G k
 st:∀k,v0.heap.size<=k->k<v1.heap.size->wr.heap[k]?=v1.heap[k]?
 sz:v1.heap.size<=wr.heap.size
 own:wr.ownsRow v1.heap.size 9 1 av xs.length (xs.flatMap bS)
section
variable {A:Nat->az}{G:Nat->Prop}{v0 v1 w0 w wr wr':ai}{c:aS}{kb bc:Nat}{K K':aH}{k:Nat}{av:ar}{xs:List ByteArray}
theorem th.step(h2:∀k,G k->k<v0.heap.size\/v1.heap.size<=k)(h3:∀k,av.ownBlock=J k->¬G k)(st:∀k,v0.heap.size<=k->k<v1.heap.size->wr.heap[k]?=v1.heap[k]?)(sz:v1.heap.size<=wr.heap.size)(own:wr.ownsRow v1.heap.size 9 1 av xs.length (xs.flatMap bS))(hp:di G w0 wr c kb bc K' wr'):th v0 v1 w0 wr' c kb bc K' av xs:=by
 refine⟨⟨_,hp.1,λk hk=>?_,λk hk hg=>?_⟩,λk h4 h5=>?_,bw sz hp.2.size,N0 own (λg hg=>hp.2.block g (own.lt g hg).2 (h3 g hg))⟩
 ·rcases hk with hk|⟨a,b⟩
  ·exact h2 k hk
  exact aP (bw sz a)
 ·rcases hg with hg|⟨a,_⟩
  ·exact h3 k hk hg
  have:=(own.lt k hk).2;omega
 exact(hp.2.block k (by omega) (λe=>by rcases h2 k e with a|a<;>omega)).trans (st k h4 h5)
theorem th.more(h:th v0 v1 w0 wr c kb bc K av xs)(hw:w0.heap.size<=v1.heap.size){o:Obj}{y:ByteArray}{g cap n:Nat}(hn:xs.length+1=n)(hown:wr'.ownsRow v1.heap.size 9 1 (af (J ⟨g,0,I⟩) n cap) n (xs.flatMap bS++[aq y]))(hg:(wr.alloc o).grownBy wr' av.ownBlock)(cH:av.ownBlock=J g\/g=wr.heap.size+1):th v0 v1 w0 wr' c kb bc K (af (J ⟨g,0,I⟩) n cap) (xs++[y]):=by
 have hb:=aN wr o;have dB:bh _ _ wr':=⟨hg.os,hg.tape,hg.output,hg.size,λk hk hn=>hg.block k hk (λe=>hn e.symm)⟩;have hlt:=λk hk=>(h.own.lt k hk).1
 obtain⟨G,h1,h2,h3⟩:=h.at';have hz:=bw hb.size dB.size
 refine⟨⟨λk=>G k/\k<wr.heap.size,(h1.trim.below hb).off dB (λk hk e=>h3 k e hk.1) (λk hk=>bw hw (hlt k hk)),λk hk=>h2 k hk.1,λk hk hi=>?_⟩,λk h4 h5=>?_,bw h.sz hz,?_⟩
 ·cases hk
  rcases cH with cH|cH
  ·exact h3 g cH hi.1
  have h5:g<wr.heap.size:=hi.2;omega
 ·have h6:=h.sz;rw[dB.block k (eh (show k<wr.heap.size by omega) hb.size) (λe=>by have:=hlt k e;omega),hb.block k (by omega)];exact h.st k h4 h5
 have e:(xs++[y]).flatMap bS=xs.flatMap bS++[aq y]:=by rw[dP];rfl
 rw[e,dm,qb,hn];exact hown
end
def mS(l:List Bs):List ByteArray:=l.map λx=>⟨x.toArray⟩
def agR(A:Nat->az)(T:Nat->Bs)(w:ai)(s:Bs)(ls:List Bs)(e:Ending)(w':ai):Prop:=
 Below w.heap.size w w'/\∃av ev,e=ax (bn #[av,ev])/\(100<ls.length->av=af I 0 0/\ev=errVal A 2) /\
  (ls.length<=100->(cW aV s).1.1≠0->av=af I 0 0/\kJ A w' ev (cW aV s).1) /\
  (ls.length<=100->(cW aV s).1.1=0->ev=.nilIface/\bU bS 1 9 w.heap.size w' av (mS (gz (cW aV s).2 T (aH.new (cW aV s).2 (aM.new 4096)) ls)))
theorem SS(A:Nat->az)(T:Nat->Bs)(s:ByteArray)(ls:List ByteArray)(la:Option az)(lc:Nat)(w:ai)(h:uU A w)(hT:∀i,i<11->w.cell? (A i)=J (aq ⟨(T (i+1)).toArray⟩))(hn:s.size<=9223372036854775807)(xW:bN bS 1 w (af la ls.length lc) ls)(hsz:∀l∈ls,l.size<=1000000)(hlen:ls.length<=1000000)(wY:j_ (ls.map bl)<=800000):Calls prog 5 #[aq s,af la ls.length lc] w λe w'=>agR A T w (bl s) (ls.map bl) e w':=by
 by_cases FV:100<ls.length
 ·have k1:(100:Int)<(ls.length:Int):=by omega
  have Ax:=h.sk.c1;clear h hT hn xW hsz hlen wY;go_enter func5,ntmps5
  go_wp2_with fail
  go_region
  all_goals go_wp2
  all_goals go_ret2
  all_goals exact⟨cg (aC _ _) 1,_,_,rfl,λ_=>⟨rfl,rfl⟩,λe=>absurd FV (by rw[fL]at e;omega),λe=>absurd FV (by rw[fL]at e;omega)⟩
 have k1:¬(100:Int)<(ls.length:Int):=by omega
 have HX:aa _:=ags A s w h hn;have HE:aa _:=h;have HT:aa _:=hT;have oY:aa _:=xW;have fK:aa _:=hsz;have ma:aa (j_ _<=800000/\ls.length<=100):=⟨wY,by omega⟩
 by_cases h0:(cW aV (bl s)).1.1=0
 ·have H0:aa _:=h0;clear h hT hn xW hsz hlen wY FV h0;go_enter func5,ntmps5
  go_wp2_with fail
  refine aL HX.o ?_;intro e w1 he;obtain⟨sa,sc,w0,F,kb,bc,rfl,KT,hat,hF,hb0⟩:=he.2 H0.o;obtain⟨c,FW⟩:∃c,c=(cW aV (bl s)).2:=⟨_,rfl⟩;rw[<- FW]at KT hat⊢;have yJ:aa _:=FW;obtain⟨v0,hv0⟩:∃V,V=w1.alloc (au (fH c kb bc (af sa c.aw.length sc)) 45):=⟨_,rfl⟩;have fk:Below w1.heap.size w1 v0:=by rw[hv0];exact aN _ _
  have oJ:v0.heap[w1.heap.size]?=J (au (fH c kb bc (af sa c.aw.length sc)) 45 (0,0)):=by rw[hv0];exact cR w1 _
  have SU:aa _:=oJ;have SV:aa (Calls _ 13 #[aU #[aj _,aj _,U R _,U R _,U R _,U R _,af sa _ sc]] v0 λe w'=>e=ax _/\kS v0 w' _ _ _ 14):=abJ c kb bc (af sa c.aw.length sc) v0;have yK:aa (eV F w0 v0 c kb bc _/\Dk A w0 c sa sc/\(∀k,F k->k<v0.heap.size)/\w0.heap.size<=v0.heap.size):=⟨hat.below fk,KT,λk hk=>eh (hF k hk).2 fk.size,bw hat.br.size fk.size⟩;have dX:aa _:=hb0;clear he KT hat hF hb0 FW fk oJ HX;unfold fH at hv0⊢;go_upto_region 4 with fail
  rw[<- hv0];clear hv0;go_wp2_with (refine sf rfl 45 _ rfl _ rfl _ _ _ _ SU.o underlying45 rfl FQ ?_)
  refine aL SV.o ?_;rintro e v1 ⟨rfl,hcm⟩;obtain⟨i0,oZ,hz0,hz1,hz2⟩:=fj EY;obtain⟨W1,Cq,hown1,hg1⟩:=run_make_own (P:=prog) v1 _ 22 9 i0 _ 1 underlying22 oZ hz0 hz1 R R ls.length (by rw[hz2];have:=ma.o.2;omega) (by have:=ma.o.2;unfold maxLen;omega) (aQ _);have hb1:Below _ v1 W1:=⟨hg1.os,hg1.tape,hg1.output,hg1.size,λk hk=>hg1.block k hk (by simp)⟩;have SX:=hcm.br.size;have HL:aa (th v0 v1 w0 W1 c kb bc _ _ []):=⟨⟨F,(yK.o.1.below hcm.br).below hb1,λk hk=>a_ (yK.o.2.2.1 k hk),λk hk hF=>by cases hk;have h5:v1.heap.size<v0.heap.size:=yK.o.2.2.1 _ hF;omega⟩,λk _ h5=>hb1.block k h5,hb1.size,hown1⟩;have agS:aa _:=hcm.touv;have HZ:aa (w0.heap.size<=v1.heap.size/\v0.heap.size<v1.heap.size):=⟨bw yK.o.2.2.2 SX,bJ hcm.box⟩;have uS:aa (Dk A w0 c sa sc/\gi c):=⟨yK.o.2.1,yK.o.2.1.rt⟩;have hmap:Option.map (λx:az=>x.add 0) la=la:=by cases la with|none=>rfl|some a=>simp[IZ]
  have SY:aa (∀i,i<=ls.length->bQ c (iu c (aH.new c (aM.new 4096)) ((ls.map bl).take i)) (0+i) (144*(iu c (aH.new c (aM.new 4096)) ((ls.map bl).take i)).d.now)/\(iu c (aH.new c (aM.new 4096)) ((ls.map bl).take i)).d.now<=j_ ((ls.map bl).take i)/\(iu c (aH.new c (aM.new 4096)) ((ls.map bl).take i)).LB):=λi hi=>by
   have eY:(aH.new c (aM.new 4096)).d.now=0:=rfl;have h5:=N9 (ls.map bl) i;have h6:=ma.o.1;have h7:=Ob uS.o.2 ((ls.map bl).take i) _ 0 (Ss uS.o.2) (by rw[eY];omega);rw[gy,fL,Nat.min_eq_left hi,eY]at h7;exact⟨h7.1,by omega,LB.iu uS.o.2 _ _ 0 (LB.new c _) (Ss uS.o.2) (by rw[eY];omega)⟩
  clear hcm hown1 hg1 hb1 SX SV SU yK;go_upto_region 8 with fail
  go_cut [29,30,31] (λl' n i wx=>l'=af la ls.length lc/\n=U R (ls.length:Int)/\i=U R 0/\wx=W1)
  case first=>
   go_wp2_with fail
   go_meet
   case rel=>exact⟨rfl,rfl,rfl,rfl⟩
  obtain⟨rfl,rfl,rfl,rfl⟩:=hcut;clear Cq hmap;rename ai=>W1
  go_wp2_with fail
  generalize SZ:aH.new c (aM.new 4096)=K0 at HL SY;have rz:aa _:=SZ;clear SZ
  go_loopw [9,11,31] (λav _ i wr=>∃n:Nat,n<=ls.length/\i=U R n/\aa (th v0 v1 w0 wr c kb bc (iu c K0 ((ls.map bl).take n)) av (mS (gz c T K0 ((ls.map bl).take n))))) (λ_ _ i _=>ls.length-(intOf i).toNat)
  case atStart=>exact⟨0,bI _,rfl,HL.o⟩
  case round=>
   clear HL;obtain⟨n,yY,rfl,HL⟩:=hrel;have KU:(mS (gz c T K0 ((ls.map bl).take n))).length=n:=by unfold mS;rw[fL,Ey,gy,fL];omega
   obtain⟨ka,kc,ly⟩:=mD HL.o.own;rw[KU]at ly;subst ly;have FX:aa _:=KU;clear KU;obtain⟨G,a1,a2,a3⟩:=HL.o.at';have vA:=dX.o.trans (a1.br.mono dX.o.size);have bK:aa _:=vA
   by_cases hlt:n<ls.length
   ·have l1:(n:Int)<(ls.length:Int):=by omega
    obtain⟨x,hx⟩:∃x,ls[n]?=J x:=⟨_,bH hlt⟩;obtain⟨g,o,rfl,hc⟩:=sK (bN.below oY.o vA) hx;have c0:=hc n x hx;obtain⟨f1,f2,f3⟩:=SY.o n yY;have hmx:(ls.map bl)[n]?=J (bl x):=by rw[gR,hx];rfl
    have agT:j_ ((ls.map bl).take n)+jv (bl x)<=800000:=by
     have h5:=N9 (ls.map bl) (n+1);rw[fW,hmx,Iq]at h5;have h6:=ma.o.1;have h7:j_ (J (bl x)).toList=jv (bl x):=by show jv _+0=_;omega
     omega
    have HX:aa _:=agd T x (⟨uS.o.1,a1,f1,f3,agS.o.kept HL.o.st,by have:=ma.o.2;omega,λe=>by rcases a2 _ e with h5|h5;exact Nat.lt_irrefl _ h5;have:=HZ.o.2;omega⟩:AG A G w0 wr c kb bc sa sc v0.heap.size v0.heap.size (v0.heap.size+1) (iu c K0 ((ls.map bl).take n)) (0+n)) (λi hi=>aG dX.o (HT.o i hi)) (fK.o x (cM hx)) (by have:=ma.o.2;omega);have o0:aa (∀K' wr',di G w0 wr c kb bc K' wr'->th v0 v1 w0 wr' c kb bc K' _ _):=λK' wr' hp=>th.step a2 a3 HL.o.st HL.o.sz HL.o.own hp
    have Ds:aa (iu c K0 _=((iu c K0 _).fU c _).1/\mS (gz c T K0 _)=mS (gz c T K0 ((ls.map bl).take n))++[⟨_⟩]):=⟨Zz hmx,by unfold mS;rw[N8 hmx,pH];rfl⟩;generalize hKn:(iu c K0 ((ls.map bl).take n)).fU c (bl x)=Kn at HX Ds;generalize agU:mS (gz c T K0 ((ls.map bl).take n))=an at o0 Ds FX;generalize hy:(⟨(n_ T Kn).toArray⟩:ByteArray)=y at HX Ds;clear hc hx a1 a2 a3 f1 f2 f3 hmx agT HL hKn agU hy vA;go_wp2_with fail
    refine aL HX.o ?_;rintro u w3 ⟨rfl,hp⟩;have nG:aa _:=o0.o _ w3 hp;have gY:aa (w3.ownsRow v1.heap.size 9 1 (af ka n kc) n (an.flatMap bS)):=by
     have:=nG.o.own;rw[FX.o]at this;exact this
    have hz3:=nG.o.sz;have Py:=ma.o.2;clear hp HX o0 c0;go_wp2_with (at_builtin;refine zI _ rfl _ _ 22 rfl _ 9 i0 _ 1 16 underlying22 oZ hz0 hz1 hz2 rfl (by decide) (af ka n kc) n (an.flatMap bS) rfl (zH gY.o _) ⟨w3.heap.size,0,I⟩ 1 1 [aq y] rfl rfl (sB w3 [aq y] 9) (λu hu=>by rw[iF]at hu;subst hu;rfl) (by decide) (by unfold maxLen;omega) (by omega) (by simp;omega) (w3.heap.size+1) (by simp) ?_;intro gg cc xO hown hg cH ru)
    have uw:aa _:=nG.o.more HZ.o.1 (by rw[FX.o]) hown hg cH;clear hown hg cH ru gY nG Py;go_roundw
    case rel=>exact⟨n+1,by omega,by go_num,by show th _ _ _ _ _ _ _ _ _ _;rw[Ds.o.1,Ds.o.2];exact uw.o⟩
    case measure=>simp[intOf];omega
   obtain rfl:n=ls.length:=by omega
   have l1:¬(ls.length:Int)<(ls.length:Int):=by omega
   have HO:aa (bU bS 1 9 w.heap.size wr (af ka ls.length kc) (mS (gz c T K0 (ls.map bl)))):=by
    have h5:=HL.o.own;rw[nQ (by rw[fL];exact aQ _)]at h5;exact⟨h5.1,h5.2.imp id λ⟨g,cap,cur,h6,h7,h8⟩=>⟨g,cap,cur,h6,bw (bw dX.o.size HZ.o.1) h7,h8⟩⟩
   clear HL FX a1 a2 a3 vA;go_wp2;go_ret2
   refine⟨bK.o,_,_,rfl,λe=>absurd e (by rw[fL];have:=ma.o.2;omega),λ_ e=>absurd H0.o e,λ_ _=>⟨rfl,?_⟩⟩;rw[<- yJ.o,rz.o];exact HO.o
 have H0:aa _:=h0;clear h hT hn xW hsz hlen wY FV h0;go_enter func5,ntmps5
 go_wp2_with fail
 refine aL HX.o ?_;intro e w1 he;obtain⟨hb1,ev,rfl,pX⟩:=he.1 H0.o;obtain⟨et,ex,rfl⟩:=pX.some H0.o;have aO:aa _:=hb1;have yG:aa _:=pX;clear he hb1 pX HX;go_wp2_with fail
 go_ret2
 exact⟨aO.o.trans ((aN _ _).mono aO.o.size),_,_,rfl,λe=>absurd e (by rw[fL];have:=ma.o.2;omega),λ_ _=>⟨rfl,kJ.below yG.o (aN _ _)⟩,λ_ e=>absurd e H0.o⟩
open Go
def jl:aS:=⟨1,2,2,0,[]⟩
def AK:Bs:=[119,105,110,100,111,119,32,49,32,50,10,99,121,99,108,101,32,50,10,100,101,108,97,121,32,48,10]
def KV:List Bs:=[[116,105,99,107,32,50],[107,105,99,107,115],[99,97,117,115,101],[99,111,110,102,105,103]]
def FY:List Bs:=[[111,107],[49],[110,111,116,104,105,110,103],[119,105,110,100,111,119,32,49,32,50,59,32,99,121,99,108,101,32,50,59,32,100,101,108,97,121,32,48]]
theorem KW:jn jl=AK:=by
 have d0:num 0=[48]:=by unfold num;rw[xd (by decide)];rfl
 have d1:num 1=[49]:=by unfold num;rw[xd (by decide)];rfl
 have d2:num 2=[50]:=by unfold num;rw[xd (by decide)];rfl
 simp[jn,pC,jl,AK,d0,d1,d2,bu,kw]
theorem agV:cW aV AK=((0,-1),jl):=by
 rw[<- KW];exact Uo QY (by decide) (by rw[KW];decide)
theorem agW:(aH.fO jl (aH.new jl (aM.new 4096)) 2).2=0/\(aH.fO jl (aH.new jl (aM.new 4096)) 2).1.d.jX=1:=by
 constructor<;>kernel_rfl
theorem agX:(aH.fO jl (aH.new jl (aM.new 4096)) 2).1.L=(aH.new jl (aM.new 4096)).L:=by kernel_rfl
theorem S0:dt [5] [[50]]=J [2]:=by
 have d2:num 2=[50]:=by unfold num;rw[xd (by decide)];rfl
 have:iH [50] 5=J 2:=by
  unfold iH;rw[aK (by decide),show Lib.atoi _=J 2 from by decide];show (if (2:Int)<0\/num 2≠[50]then I else J 2)=J 2
  rw[d2];rfl
 rw[dt,this];rfl
theorem agY:jv [116,105,99,107,32,50]=2:=by
 unfold jv;rw[show bW 32 _=[[116,105,99,107],[50]]from by decide];show (if ir [116,105,99,107]=J 3 then (((dt [5] [[50]]).getD []).getD 0 0).toNat else 0)=2
 rw[aR (by decide),S0];rfl
theorem agZ:aH.fU jl (aH.new jl (aM.new 4096)) [116,105,99,107,32,50]=oU (aH.fO jl (aH.new jl (aM.new 4096)) 2):=by
 have h1:dt (iG 3) _=J [2]:=S0;show aH.lp _ _ _=_
 rw[show bW 32 _=[[116,105,99,107],[50]]from by decide,xF (show ir _=J 3 from by decide) h1];rfl
theorem ag0:ri jl=[119,105,110,100,111,119,32,49,32,50,59,32,99,121,99,108,101,32,50,59,32,100,101,108,97,121,32,48]:=by
 unfold ri;rw[KW];decide
theorem ag1(T:Nat->Bs):gz jl T (aH.new jl (aM.new 4096)) KV=FY:=by
 have d1:num 1=[49]:=by unfold num;rw[xd (by decide)];rfl
 have hL:(aH.new jl (aM.new 4096)).L=[]:=afK 4096 (by decide) (by decide);obtain⟨t1,t2⟩:=agW;have t3:=agX.trans hL;unfold KV gz;rw[agZ];unfold oU;generalize aH.fO jl (aH.new jl (aM.new 4096)) 2=p at t1 t2 t3;obtain⟨K2,j⟩:=p;simp only at t1 t2 t3;subst t1;have l1:aH.fU jl K2 [107,105,99,107,115]=(K2,[49],0):=by
  show aH.lp _ _ _=_
  rw[show bW 32 _=[[107,105,99,107,115]]from by decide,xF (show ir _=J 7 from by decide) (show dt _ []=J []from rfl)];show (K2,num _,0)=_
  rw[t2];show (K2,num 1,0)=_
  rw[d1]
 have l2:aH.fU jl K2 [99,97,117,115,101]=(K2,B_,0):=by
  show aH.lp _ _ _=_
  rw[show bW 32 _=[[99,97,117,115,101]]from by decide,xF (show ir _=J 11 from by decide) (show dt _ []=J []from rfl)];show (K2,uf _,0)=_
  rw[t3];rfl
 have l3:aH.fU jl K2 [99,111,110,102,105,103]=(K2,ri jl,0):=by
  show aH.lp _ _ _=_
  rw[show bW 32 _=[[99,111,110,102,105,103]]from by decide,xF (show ir _=J 13 from by decide) (show dt _ []=J []from rfl)];rfl
 show n_ T (K2,rj 0,0)::gz _ T K2 _=_
 unfold gz;rw[l1];show _::n_ T (K2,[49],0)::gz _ T K2 _=_
 unfold gz;rw[l2];show _::_::n_ T _::gz _ T K2 _=_
 unfold gz;rw[l3,ag0];rfl
theorem ag2(l:List ByteArray)(sa sb:Option az)(ca cb:Nat)(w:ai)(ha:bN bS 1 w (af sa l.length ca) l)(hb:bN bS 1 w (af sb l.length cb) l)(hn:l.length<=1000000):Calls prog 11 #[af sa l.length ca,af sb l.length cb] w λe w'=>e=ax (aI true)/\Below w.heap.size w w':=by
 have HA:aa (bN _ 1 w _ l):=ha;have HB:aa (bN _ 1 w _ l):=hb;clear ha hb;go_enter func11,ntmps11
 go_wp2_with fail
 go_loopw [5] (λi wr=>∃k:Nat,k<=l.length/\i=U R k/\Below w.heap.size w wr) (λi _=>l.length-(intOf i).toNat)
 case atStart=>exact⟨0,bI _,rfl,aC _ _⟩
 case round=>
  obtain⟨k,hk,rfl,hbr⟩:=hrel;have HR:aa _:=hbr;clear hbr
  by_cases hlt:k<l.length
  ·have k1:(k:Int)<(l.length:Int):=by omega
   obtain⟨x,hx⟩:∃x,l[k]?=J x:=⟨_,bH hlt⟩;obtain⟨g,o,rfl,hc⟩:=sK (HA.o.below HR.o) hx;have c0:=hc k x hx;obtain⟨g2,o2,rfl,hc2⟩:=sK (HB.o.below HR.o) hx;have c1:=hc2 k x hx;clear hc hc2 hx;go_wp2_with fail
   go_quiet (fail)
   go_wp2_with fail
   go_roundw
   case rel=>exact⟨k+1,by omega,by go_num,cg HR.o _⟩
   case measure=>simp[intOf];omega
  have k1:¬(k:Int)<(l.length:Int):=by omega
  go_wp2;go_ret;exact⟨rfl,HR.o⟩
theorem S2(w:ai)(xs:List ByteArray):bN bS 1 (w.alloc (au (xs.map Value.string).toArray 9)) (af (J ⟨w.heap.size,0,I⟩) xs.length xs.length) xs:=by
 refine⟨_,_,rfl,aQ _,λ_=>⟨_,_,rfl,λi x hx j u hu=>?_⟩⟩;have hj:j=0/\u=aq x:=by
  cases j with
  |zero=>exact⟨rfl,(bj hu).symm⟩
  |succ j=>simp[bS]at hu
 obtain⟨rfl,rfl⟩:=hj;have h1:=cR w (au (xs.map Value.string).toArray 9);simp only[World.cell?,h1];simp[hx]
theorem ag3(A:Nat->az)(T:Nat->Bs)(w:ai)(h:uU A w)(hT:∀i,i<11->w.cell? (A i)=J (aq ⟨(T (i+1)).toArray⟩)):Calls prog 4 #[] w λe w'=>e=ax (aI true)/\Below w.heap.size w w':=by
 obtain⟨W,hW⟩:∃V,V=w.alloc (au #[aq ⟨#[116,105,99,107,32,50]⟩,aq ⟨#[107,105,99,107,115]⟩,aq ⟨#[99,97,117,115,101]⟩,aq ⟨#[99,111,110,102,105,103]⟩] 9):=⟨_,rfl⟩;have hb:Below w.heap.size w W:=by rw[hW];exact aN _ _
 have ck:bN bS 1 W (af (J ⟨w.heap.size,0,I⟩) 4 4) [⟨#[116,105,99,107,32,50]⟩,⟨#[107,105,99,107,115]⟩,⟨#[99,97,117,115,101]⟩,⟨#[99,111,110,102,105,103]⟩]:=by rw[hW];exact S2 w [⟨_⟩,⟨_⟩,⟨_⟩,⟨_⟩]
 have HX:aa (Calls prog 5 #[aq ⟨#[119,105,110,100,111,119,32,49,32,50,10,99,121,99,108,101,32,50,10,100,101,108,97,121,32,48,10]⟩,af (J ⟨w.heap.size,0,I⟩) 4 4] W λe w'=>Below W.heap.size W w'/\∃av,e=ax (bn #[av,.nilIface])/\bU bS 1 9 W.heap.size w' av (mS FY)):=by
  have h1:=SS A T ⟨AK.toArray⟩ [⟨_⟩,⟨_⟩,⟨_⟩,⟨_⟩] _ 4 W (h.below hb) (λi hi=>aG hb (hT i hi)) (by decide) ck (by
   intro l hl;simp only[fg,jB,jU]at hl
   rcases hl with rfl|rfl|rfl|rfl<;>decide) (by decide) (by
   have d2:=agY;show jv [116,105,99,107,32,50]+(jv [107,105,99,107,115]+(jv [99,97,117,115,101]+(jv [99,111,110,102,105,103]+0)))<=800000
   rw[d2];decide)
  refine aL h1 ?_;rintro e w' ⟨h2,av,ev,rfl,-,-,h3⟩;have e1:bl ⟨AK.toArray⟩=AK:=by simp[bl]
  rw[e1,agV]at h3;obtain⟨rfl,h4⟩:=h3 (by decide) rfl
  refine⟨h2,av,rfl,?_⟩;have h5:=ag1 T;unfold KV at h5;have h6:bU _ 1 9 _ w' av (mS (gz jl T (aH.new jl _) [[116,105,99,107,32,50],[107,105,99,107,115],[99,97,117,115,101],[99,111,110,102,105,103]])):=h4;rw[h5]at h6;exact h6
 have HB:aa _:=hb;clear h hT hb ck;go_enter func4,ntmps4
 go_wp2_with (go_at_call 5;rw[<- hW];refine aL HX.o ?_)
 clear hW;rintro e w1 ⟨hb1,av,rfl,how⟩;have aO:aa _:=HB.o.trans (hb1.mono HB.o.size);obtain⟨sa,sc,rfl⟩:=mD how;obtain⟨V,hV⟩:∃V,V=w1.alloc (au #[aq ⟨#[111,107]⟩,aq ⟨#[49]⟩,aq ⟨#[110,111,116,104,105,110,103]⟩,aq ⟨#[119,105,110,100,111,119,32,49,32,50,59,32,99,121,99,108,101,32,50,59,32,100,101,108,97,121,32,48]⟩] 9):=⟨_,rfl⟩;have mL:Below w1.heap.size w1 V:=by rw[hV];exact aN _ _
 have HS:aa (Calls _ 11 #[af sa 4 sc,af _ 4 4] V λe w'=>e=ax _/\Below _ V w'):=
  ag2 (mS FY) sa (J ⟨w1.heap.size,0,I⟩) sc 4 V ((how.jc (λ_=>rfl)).below mL) (by rw[hV];exact S2 w1 _) (by decide)
 have jZ:aa _:=aO.o.trans (mL.mono aO.o.size);have hl4:(mS FY).length=4:=rfl;rw[hl4];clear hb1 how mL HX hl4;go_wp2_with (go_at_call 11;rw[<- hV];refine aL HS.o ?_)
 clear hV;rintro e w2 ⟨rfl,hb2⟩;go_wp2;go_ret;exact⟨rfl,jZ.o.trans (hb2.mono jZ.o.size)⟩
def wZ:ByteArray:=⟨#[110,105,103,104,116,119,97,116,99,104,58,32,116,101,120,116]⟩
theorem ag4(w:ai):Calls prog 10 #[U R 1] w λe w'=>e=ax (aq wZ)/\Below w.heap.size w w':=by
 have ha:∀W:ai,(Op.stringOp .add ⟨#[110,105,103,104,116,119,97,116,99,104,58,32]⟩ ⟨#[116,101,120,116]⟩:Sem _).run prog W=.ok (aq wZ) W:=λW=>rfl
 go_enter func10,ntmps10
 go_wp2;go_ret;exact⟨rfl,aN _ _⟩
theorem ag5(A:Nat->az)(r:ar)(f:Nat×Int)(w:ai)(hs:kZ A w)(h:kJ A w r f):Calls prog 18 #[r] w λe w'=>e=ax (bn #[U R (f.1:Int),U R (if f.1=0 then -1 else f.2)])/\Below w.heap.size w w':=by
 obtain⟨h11,⟨h2,rfl⟩|⟨hp,b,rfl,h3,h4⟩⟩:=h
 ·cases hf:f.1 with
  |zero=>
   refine(U2 w).mono ?_;rintro e w' ⟨rfl,rfl⟩;exact⟨by simp,aC _ _⟩
  |succ j=>
   obtain⟨c,t,hr⟩:=hs.row j (by omega)
   refine(U3 A _ j c t w hs (by omega) (λi hi=>hs.ne j i (by omega) (by omega) (by omega)) (λ_=>rfl) hr).mono ?_;rintro e w' ⟨rfl,hb⟩
   refine⟨?_,hb⟩;rw[aR (show j<11 by omega),aK (by omega),h2];rfl
 obtain⟨j,hj⟩:∃j,f.1=j+1:=⟨f.1-1,by omega⟩;rw[hj]at h4⊢
 refine(U4 A b 0 f.2 j w hs (by omega) h3 (by simpa[cN]using h4)).mono ?_;rintro e w' ⟨rfl,hb⟩;exact⟨by rw[aK (by omega)];rfl,hb⟩
theorem ag6(A:Nat->az)(r:ar)(f:Nat×Int)(code at':Int)(w:ai)(hs:kZ A w)(h:kJ A w r f):Calls prog 8 #[r,aU #[U R code,U R at']] w λe w'=>e=ax (aI (decide ((f.1:Int)=code/\(f.1=0\/f.2=at'))))/\Below w.heap.size w w':=by
 have H:aa _:=ag5 A r f _ (hs.alloc (au #[U R code,U R at'] 32)) (h.below (aN _ _));have ajC:(∃t x,r=.iface t x)\/r=.nilIface:=by
  obtain⟨-,⟨-,rfl⟩|⟨-,b,rfl,-⟩⟩:=h
  ·cases f.1 with
   |zero=>exact aP rfl
   |succ j=>exact a_ ⟨_,_,rfl⟩
  exact a_ ⟨_,_,rfl⟩
 clear h hs;obtain⟨n,m⟩:=f;simp only at H
 by_cases h1:(n:Int)=code
 ·by_cases h2:n=0
  ·subst h2;subst h1;rw[show decide _=true by simp];go_enter func8,ntmps8
   go_wp2_with fail
   refine aL H.o ?_;rintro e w' ⟨rfl,hb⟩;have d0:w'.cell? ⟨w.heap.size,0,I⟩=J (U R 0):=aG hb (by simp);clear H;go_wp2;go_ret;exact⟨rfl,(aN _ _).trans (hb.mono (by simp))⟩
  by_cases h3:m=at'
  ·subst h1;subst h3;rw[show decide _=true by simp];rw[aK h2]at H;have e0:((n:Int)==0)=false:=by rw[iZ];omega
   clear h2;go_enter func8,ntmps8
   go_wp2_with fail
   refine aL H.o ?_;rintro e w' ⟨rfl,hb⟩;have d0:w'.cell? ⟨w.heap.size,0,I⟩=J (U R (n:Int)):=aG hb (by simp);have d1:w'.cell? ⟨w.heap.size,1,I⟩=J (U R m):=aG hb (by simp);clear H;go_wp2;go_ret;exact⟨by first|rfl|simp,(aN _ _).trans (hb.mono (by simp))⟩
  subst h1;rw[show decide _=false by simp[h2,h3]];rw[aK h2]at H;have e0:((n:Int)==0)=false:=by rw[iZ];omega
  have e1:(m==at')=false:=by simpa using h3
  clear h2 h3;go_enter func8,ntmps8
  go_wp2_with fail
  refine aL H.o ?_;rintro e w' ⟨rfl,hb⟩;have d0:w'.cell? ⟨w.heap.size,0,I⟩=J (U R (n:Int)):=aG hb (by simp);have d1:w'.cell? ⟨w.heap.size,1,I⟩=J (U R at'):=aG hb (by simp);clear H;go_wp2;go_ret;exact⟨by first|rfl|simp,(aN _ _).trans (hb.mono (by simp))⟩
 rw[show decide _=false by simp[h1]];generalize (if n=0 then (-1:Int)else m)=q at H;have e0:((n:Int)==code)=false:=by simpa using h1
 clear h1;go_enter func8,ntmps8
 go_wp2_with fail
 refine aL H.o ?_;rintro e w' ⟨rfl,hb⟩;have d0:w'.cell? ⟨w.heap.size,0,I⟩=J (U R code):=aG hb (by simp);clear H;go_wp2;go_ret;exact⟨by first|rfl|simp,(aN _ _).trans (hb.mono (by simp))⟩
theorem eM{h:ByteArray}{l:List UInt8}(n:¬h=⟨l.toArray⟩):(h.toList==l)=false/\¬h.toList=l:=by
 have h2:¬h.toList=l:=λe=>by
  rw[fZ]at e;exact n (lC (by rw[qh];exact e))
 exact⟨by simpa using h2,h2⟩
theorem nO{h:ByteArray}{l:List UInt8}(n:h=⟨l.toArray⟩):(h.toList==l)=true/\h.toList=l:=by
 have h2:h.toList=l:=by rw[fZ,n]
 exact⟨by simpa using h2,h2⟩
def eN(k:Nat):ByteArray:=⟨(kw k).toArray⟩
def qD:List ByteArray:=[⟨#[101,110,116,105,116,121]⟩,⟨#[112,111,105,110,116]⟩,⟨#[99,111,117,110,116]⟩,⟨#[103,97,112]⟩,⟨#[101,100,103,101]⟩,⟨#[102,105,114,115,116]⟩,⟨#[108,97,115,116]⟩]
theorem ag7(w:ai):Calls prog 89 #[] w λe w'=>e=ax (af (J ⟨w.heap.size,0,I⟩) 7 7)/\w'=w.alloc (au #[aq ⟨#[101,110,116,105,116,121]⟩,aq ⟨#[112,111,105,110,116]⟩,aq ⟨#[99,111,117,110,116]⟩,aq ⟨#[103,97,112]⟩,aq ⟨#[101,100,103,101]⟩,aq ⟨#[102,105,114,115,116]⟩,aq ⟨#[108,97,115,116]⟩] 9):=by
 go_enter func89,ntmps89
 go_wp2;go_ret;exact⟨rfl,rfl⟩
theorem ag8{V V':ai}(h:V=V'.alloc (au #[aq ⟨#[101,110,116,105,116,121]⟩,aq ⟨#[112,111,105,110,116]⟩,aq ⟨#[99,111,117,110,116]⟩,aq ⟨#[103,97,112]⟩,aq ⟨#[101,100,103,101]⟩,aq ⟨#[102,105,114,115,116]⟩,aq ⟨#[108,97,115,116]⟩] 9)):bN bS 1 V (af (J ⟨V'.heap.size,0,I⟩) qD.length 7) qD:=by
 refine⟨_,_,rfl,by decide,λ_=>⟨_,_,rfl,λi x hx j u hu=>?_⟩⟩
 match j,hu with
 |0,hu=>
  simp[bS]at hu
  subst hu;rw[h,dK _ _ _ _ rfl]
  match i,hx with
  |0,hx=>cases hx;rfl
  |1,hx=>cases hx;rfl
  |2,hx=>cases hx;rfl
  |3,hx=>cases hx;rfl
  |4,hx=>cases hx;rfl
  |5,hx=>cases hx;rfl
  |6,hx=>cases hx;rfl
  |i+7,hx=>simp[qD]at hx
 |j+1,hu=>simp[bS]at hu
def cf(last:Int):ByteArray:=if last<0 then ⟨#[]⟩else eN last.toNat
theorem S3:∀k,k<10->idxOf qD (eN k)=if k<3 then -1 else (k:Int)-3:=by decide
theorem ag9(last:Int)(h0:-1<=last)(h9:last<=9):idxOf qD (cf last)=if last<3 then -1 else last-3:=by
 unfold cf
 split
 ·rw[aR (by omega)];decide
 obtain⟨n,rfl⟩:=Int.eq_ofNat_of_zero_le (show 0<=last by omega);rw[yU,S3 n (by omega)]
 by_cases h:n<3
 ·rw[aR h,aR (by omega)]
 rw[aK h,aK (by omega)]
theorem AO:∀j,j<10->∀k,k<10->eN j=eN k->j=k:=by decide
theorem S5:∀k,k<10->eN k≠⟨#[]⟩:=by decide
theorem S7{last:Int}(h9:last<=9):cf last=⟨#[]⟩↔last<0:=by
 unfold cf
 split
 ·rename_i h;exact⟨λ_=>h,λ_=>rfl⟩
 rename_i h;exact⟨λe=>absurd e (S5 _ (by omega)),λh2=>absurd h2 h⟩
theorem KX{last:Int}(h9:last<=9){k:Nat}(hk:k<10):cf last=eN k↔last=k:=by
 unfold cf
 split
 ·rename_i h;exact⟨λe=>absurd e.symm (S5 _ hk),λh2=>by omega⟩
 rename_i h;exact⟨λe=>by have:=AO _ (by omega) _ hk e;omega,λh2=>by rw[h2,yU]⟩
theorem ag_{h:ByteArray}(hn:kindOf (bl h)=I):idxOf qD h=-1:=by
 apply EO
 intro j x hj hx e;subst e;have hx2:=cM hx;have:∀x∈qD,kindOf (bl x)≠I:=by decide
 exact this x hx2 hn
def oy(a b:Int)(c:Bool):Bool:=if a<0\/b<0 then false else decide (a<b)||(decide (a=b)&&c)
theorem S8(rb:Nat)(lw h:ByteArray)(w:ai)(hc:w.cell? ⟨rb,5,I⟩=J (aq lw))(n0:¬h=⟨#[119,105,110,100,111,119]⟩)(n1:¬h=⟨#[99,121,99,108,101]⟩)(n2:¬h=⟨#[100,101,108,97,121]⟩)(n3:¬h=⟨#[101,110,116,105,116,121]⟩):Calls prog 53 #[aj (J ⟨rb,0,I⟩),aq h] w λe w'=>e=ax (aI (oy (idxOf qD lw) (idxOf qD h) (!decide (h=⟨#[99,111,117,110,116]⟩))))/\Below w.heap.size w w':=by
 have m0:=eM n0;have m1:=eM n1;have m2:=eM n2;have m3:=eM n3;obtain⟨p0,q0⟩:=m0;obtain⟨p1,q1⟩:=m1;obtain⟨p2,q2⟩:=m2;obtain⟨p3,q3⟩:=m3;have HC:aa (∀V,Below _ w V->V.cell? _=J _):=λV hV=>aG hV hc
 have HK:aa (∀V,Below _ w V->Calls _ 89 #[] V λe w'=>∃g,e=ax (af (J ⟨g,0,_⟩) 7 7)/\bN _ 1 w' (af (J ⟨g,0,_⟩) 7 7) _/\Below _ w w'):=λV hV=>(ag7 V).mono (by rintro e w' ⟨rfl,rfl⟩;exact⟨_,rfl,ag8 rfl,hV.alloc hV.size _⟩)
 have HI:aa (∀s (V:ai) g,bN _ 1 V (af _ 7 7) _->Calls _ 55 #[af (J ⟨g,0,I⟩) 7 7,aq s] V λe w'=>e=ax _/\w'=V):=λs V g hV=>wk qD s _ 7 V hV (by decide)
 clear n0 n1 n2 n3;obtain⟨a,ha⟩:∃a,a=idxOf qD lw:=⟨_,rfl⟩;obtain⟨b,hb⟩:∃b,b=idxOf qD h:=⟨_,rfl⟩;rw[<- ha,<- hb];have HA:aa _:=ha.symm;have ag':aa _:=hb.symm;have aha:aa (∀(V:ai) g,Below _ w V->bN _ 1 V _ _->Calls _ 55 _ V λe w'=>e=ax _/\Below w.heap.size w w'):=λV g hb hV=>(HI.o lw V g hV).mono (by rw[<- ha];rintro e w' ⟨rfl,rfl⟩;exact⟨rfl,hb⟩)
 clear ha hb;go_enter func53,ntmps53
 go_wp2_with fail
 go_region_held3 (λw'=>w'.cell? ⟨rb,5,I⟩=J (aq lw)) (first|exact hc|exact HC.o _ (cg (aC _ _) _)|exact HC.o _ hb1|exact HC.o _ (cg hb1 _)|exact HC.o _ hb2|exact HC.o _ (cg hb2 _)) (first|(go_at_call 89;refine aL (HK.o _ ?_) ?_;(first|exact aC _ _|exact cg (aC _ _) _);rintro e w1 ⟨g1,rfl,hs1,hb1⟩)|(go_at_call 55;refine aL (aha.o _ _ ?_ ?_) ?_;(first|exact hb1|exact cg hb1 _);(first|exact hs1|exact hs1.below (cg (aC _ _) _));rintro e w2 ⟨rfl,hb2⟩))
 all_goals
  have aW:aa _:=hb2;clear hb1 hb2 hs1 hc HC HA;go_wp2_with fail
  refine aL (HK.o _ aW.o) ?_;rintro e w3 ⟨g3,rfl,hs3,hb3⟩;have fG:aa _:=hb3;have jN:=HI.o h w3 g3 hs3;rw[ag'.o]at jN;have S9:aa _:=jN;clear jN hs3 hb3 HK HI;go_wp2_with fail
  refine aL S9.o ?_;rintro e w4 ⟨rfl,rfl⟩;clear S9
  by_cases a0:a<0
  ·have HE:aa (oy a b (!decide (h=⟨#[99,111,117,110,116]⟩))=false):=by show _=_;unfold oy;rw[aR (a_ a0)]
   go_wp2;go_ret;exact⟨by rw[HE.o];rfl,fG.o⟩
  by_cases b0:b<0
  ·have HE:aa (oy a b (!decide (h=⟨#[99,111,117,110,116]⟩))=false):=by show _=_;unfold oy;rw[aR (aP b0)]
   go_wp2;go_ret;exact⟨by rw[HE.o];rfl,fG.o⟩
  by_cases ab:a<b
  ·have HE:aa (oy a b (!decide (h=⟨#[99,111,117,110,116]⟩))=true):=by show _=_;unfold oy;rw[aK (by omega),bM ab];rfl
   go_wp2;go_ret;exact⟨by rw[HE.o];rfl,fG.o⟩
  by_cases ae:a=b
  ·by_cases h5:h=⟨#[99,111,117,110,116]⟩
   ·have HE:aa (oy a b (!decide (h=⟨#[99,111,117,110,116]⟩))=false):=by show _=_;unfold oy;rw[aK (by omega),cw ab,bM h5];simp
    have HH:aa _:=h5;subst ae;obtain⟨e5,e6⟩:=nO h5;clear h5;go_wp2;go_ret;exact⟨by rw[HE.o];rfl,fG.o⟩
   have HE:aa (oy a b (!decide (h=⟨#[99,111,117,110,116]⟩))=true):=by show _=_;unfold oy;rw[aK (by omega),bM ae,cw h5];simp
   obtain⟨p5,q5⟩:=eM h5;subst ae;clear h5;go_wp2;go_ret;exact⟨by rw[HE.o];rfl,fG.o⟩
  have HE:aa (oy a b (!decide (h=⟨#[99,111,117,110,116]⟩))=decide (a<b)):=by show _=_;unfold oy;rw[aK (by omega),cw ab,cw ae];rfl
  go_wp2;go_ret;exact⟨by rw[HE.o];rfl,fG.o⟩
theorem ahb(rb:Nat)(lw:ByteArray)(w:ai)(hc:w.cell? ⟨rb,5,I⟩=J (aq lw)):Calls prog 53 #[aj (J ⟨rb,0,I⟩),aq ⟨#[119,105,110,100,111,119]⟩] w λe w'=>e=ax (aI (decide (lw=⟨#[]⟩)))/\w'=w:=by
 by_cases e:lw=⟨#[]⟩
 ·have HV:aa (decide (lw=⟨#[]⟩)=true):=by show _=_;simp[e]
  obtain⟨e1,e2⟩:=nO e;clear e;go_enter func53,ntmps53
  go_wp2;go_ret;exact⟨by rw[HV.o];rfl,rfl⟩
 have HV:aa (decide (lw=⟨#[]⟩)=false):=by show _=_;simp[e]
 obtain⟨e1,e2⟩:=eM e;clear e;go_enter func53,ntmps53
 go_wp2;go_ret;exact⟨by rw[HV.o];rfl,rfl⟩
theorem ahc(rb:Nat)(lw:ByteArray)(w:ai)(hc:w.cell? ⟨rb,5,I⟩=J (aq lw)):Calls prog 53 #[aj (J ⟨rb,0,I⟩),aq ⟨#[99,121,99,108,101]⟩] w λe w'=>e=ax (aI (decide (lw=⟨#[119,105,110,100,111,119]⟩)))/\w'=w:=by
 by_cases e:lw=⟨#[119,105,110,100,111,119]⟩
 ·have HV:aa (decide (lw=⟨#[119,105,110,100,111,119]⟩)=true):=by show _=_;simp[e]
  obtain⟨e1,e2⟩:=nO e;clear e;go_enter func53,ntmps53
  go_wp2;go_ret;exact⟨by rw[HV.o];rfl,rfl⟩
 have HV:aa (decide (lw=⟨#[119,105,110,100,111,119]⟩)=false):=by show _=_;simp[e]
 obtain⟨e1,e2⟩:=eM e;clear e;go_enter func53,ntmps53
 go_wp2;go_ret;exact⟨by rw[HV.o];rfl,rfl⟩
theorem ahd(rb:Nat)(lw:ByteArray)(w:ai)(hc:w.cell? ⟨rb,5,I⟩=J (aq lw)):Calls prog 53 #[aj (J ⟨rb,0,I⟩),aq ⟨#[100,101,108,97,121]⟩] w λe w'=>e=ax (aI (decide (lw=⟨#[99,121,99,108,101]⟩)))/\w'=w:=by
 by_cases e:lw=⟨#[99,121,99,108,101]⟩
 ·have HV:aa (decide (lw=⟨#[99,121,99,108,101]⟩)=true):=by show _=_;simp[e]
  obtain⟨e1,e2⟩:=nO e;clear e;go_enter func53,ntmps53
  go_wp2;go_ret;exact⟨by rw[HV.o];rfl,rfl⟩
 have HV:aa (decide (lw=⟨#[99,121,99,108,101]⟩)=false):=by show _=_;simp[e]
 obtain⟨e1,e2⟩:=eM e;clear e;go_enter func53,ntmps53
 go_wp2;go_ret;exact⟨by rw[HV.o];rfl,rfl⟩
def tj(lw:ByteArray):Bool:=!(decide (lw=⟨#[]⟩)||decide (lw=⟨#[119,105,110,100,111,119]⟩)||decide (lw=⟨#[99,121,99,108,101]⟩))
theorem ahe(rb:Nat)(lw:ByteArray)(w:ai)(hc:w.cell? ⟨rb,5,I⟩=J (aq lw)):Calls prog 53 #[aj (J ⟨rb,0,I⟩),aq ⟨#[101,110,116,105,116,121]⟩] w λe w'=>e=ax (aI (tj lw))/\w'=w:=by
 by_cases a:lw=⟨#[]⟩
 ·have HV:aa (tj lw=false):=by show _=_;simp[tj,a]
  obtain⟨e1,e2⟩:=nO a;clear a;go_enter func53,ntmps53
  go_wp2;go_ret;exact⟨by rw[HV.o];rfl,rfl⟩
 obtain⟨a1,a2⟩:=eM a
 by_cases b:lw=⟨#[119,105,110,100,111,119]⟩
 ·have HV:aa (tj lw=false):=by show _=_;simp[tj,b]
  obtain⟨e1,e2⟩:=nO b;clear a b;go_enter func53,ntmps53
  go_wp2;go_ret;exact⟨by rw[HV.o];rfl,rfl⟩
 obtain⟨b1,b2⟩:=eM b
 by_cases c:lw=⟨#[99,121,99,108,101]⟩
 ·have HV:aa (tj lw=false):=by show _=_;simp[tj,c]
  obtain⟨e1,e2⟩:=nO c;clear a b c;go_enter func53,ntmps53
  go_wp2;go_ret;exact⟨by rw[HV.o];rfl,rfl⟩
 have HV:aa (tj lw=true):=by show _=_;simp[tj,a,b,c]
 obtain⟨c1,c2⟩:=eM c;clear a b c;go_enter func53,ntmps53
 go_wp2;go_ret;exact⟨by rw[HV.o];rfl,rfl⟩
theorem ahf{h:ByteArray}{k:Nat}(hk:kindOf (bl h)=J k):h=eN k/\k<10:=by
 obtain⟨h1,h2⟩:=A0 hk;exact⟨lC (by rw[h1,eN,qh]),h2⟩
def yL(last:Int)(h:ByteArray):Bool:=match kindOf (bl h)with
 |some k=>may last k
 |none=>false
theorem rJ(rb:Nat)(last:Int)(h:ByteArray)(w:ai)(l0:-1<=last)(l9:last<=9)(hc:w.cell? ⟨rb,5,I⟩=J (aq (cf last))):Calls prog 53 #[aj (J ⟨rb,0,I⟩),aq h] w λe w'=>e=ax (aI (yL last h))/\Below w.heap.size w w':=by
 cases hk:kindOf (bl h)with
 |none=>
  have hne:∀k,k<10->¬h=eN k:=λk h10 e=>by rw[e,eN,qh,DI k h10]at hk;cases hk
  refine(S8 rb _ h w hc (hne 0 (by decide)) (hne 1 (by decide)) (hne 2 (by decide)) (hne 3 (by decide))).mono ?_;rw[ag_ hk,show yL _ h=false by unfold yL;rw[hk]];rintro e w' ⟨rfl,hb⟩;exact⟨by unfold oy;rw[aR (aP (by decide))],hb⟩
 |some k=>
  obtain⟨rfl,kY⟩:=ahf hk;have hR:yL last (eN k)=may last k:=by unfold yL;rw[hk]
  have hw:=@KX _ l9;have he:=@S7 _ l9;rw[hR];clear hR
  rcases fR k 4 with h4|h4
  ·match k,h4 with
   |0,_=>
    refine(ahb rb _ w hc).mono ?_;rintro e w' ⟨rfl,rfl⟩;exact⟨by rw[show may _ 0=decide (cf _=⟨#[]⟩)from by rw[show decide _=decide _ from jE.2 he];unfold may;rw[aR (by decide)];apply jE.2;omega],aC _ _⟩
   |1,_=>
    refine(ahc rb _ w hc).mono ?_;rintro e w' ⟨rfl,rfl⟩;exact⟨by rw[show may _ 1=decide (cf last=eN 0)from by rw[show decide _=decide _ from jE.2 (hw (by decide))];unfold may;rw[aR (by decide)];apply jE.2;omega];rfl,aC _ _⟩
   |2,_=>
    refine(ahd rb _ w hc).mono ?_;rintro e w' ⟨rfl,rfl⟩;exact⟨by rw[show may _ 2=decide (cf last=eN 1)from by rw[show decide _=decide _ from jE.2 (hw (by decide))];unfold may;rw[aR (by decide)];apply jE.2;omega];rfl,aC _ _⟩
   |3,_=>
    refine(ahe rb _ w hc).mono ?_;rintro e w' ⟨rfl,rfl⟩
    refine⟨?_,aC _ _⟩;have e0:decide _=decide _:=jE.2 he;have e1:decide _=decide (last=(0:Nat)):=jE.2 (hw (by decide));have e2:decide _=decide (last=(1:Nat)):=jE.2 (hw (by decide));have e3:tj _=!(decide _||decide (cf _=eN 0)||decide (cf last=eN 1)):=rfl;rw[e3,e0,e1,e2];have e4:may _ 3=decide (2<=last):=rfl;rw[e4];congr 2
    by_cases q:2<=last
    ·rw[bM q,cw (show ¬last<0 by omega),cw (show ¬last=(0:Nat) by omega),cw (show ¬last=(1:Nat) by omega)];rfl
    rw[cw q]
    rcases(show last<0\/last=(0:Nat)\/last=(1:Nat) by omega)with h|h|h
    ·rw[bM h];rfl
    ·rw[bM h];simp
    rw[bM h];simp
  refine(S8 rb _ _ w hc (λe=>by have:=AO k kY 0 (by decide) e;omega) (λe=>by have:=AO k kY 1 (by decide) e;omega) (λe=>by have:=AO k kY 2 (by decide) e;omega) (λe=>by have:=AO k kY 3 (by decide) e;omega)).mono ?_;rintro e w' ⟨rfl,hb⟩
  refine⟨?_,hb⟩;have e5:(!decide (eN k=⟨#[99,111,117,110,116]⟩))=!decide (k=5):=by
   congr 1
   exact jE.2 ⟨λh=>AO k kY 5 (by decide) h,λh=>by rw[h];rfl⟩
  rw[e5,S3 k kY,aK (by omega),ag9 _ l0 l9];congr 2
  have hm:may last k=if k=5 then decide (3<=last)&&decide (last<5)else decide (3<=last)&&decide (last<=(k:Int)):=by
   unfold may;rw[aK (by omega),aK (by omega)]
  rw[hm];unfold oy
  by_cases q:last<3
  ·rw[aR q,aR (a_ (by decide)),cw (show ¬3<=last by omega)];simp
  rw[aK q,aK (by omega),bM (show 3<=last by omega)]
  by_cases q5:k=5
  ·subst q5;rw[aR rfl];simp
   omega
  rw[aK q5,cw q5];simp
  by_cases q6:last<k
  ·rw[bM (show last<=(k:Int) by omega),bM q6];rfl
  rw[cw q6,Bool.false_or];exact jE.2 (by omega)
open Go.Maps
def bD(rb:Nat)(a b:ai):Prop:=a.grownBy b (J rb)
section
variable {rb:Nat}{a b c:ai}
theorem bD.size(h:bD rb a b):a.heap.size<=b.heap.size:=World.grownBy.size h
theorem bD.refl(rb:Nat)(a:ai):bD rb a a:=⟨rfl,rfl,rfl,aQ _,λ_ _ _=>rfl⟩
theorem bD.trans(h:bD rb a b)(h':Below a.heap.size b c):bD rb a c:=
 ⟨h'.os.trans h.os,h'.tape.trans h.tape,h'.output.trans h.output,bw h.size h'.size,λk hk hne=>(h'.block k hk).trans (h.block k hk hne)⟩
theorem bD.setCell{p:az}(h:bD rb a b)(hp:p.block=rb\/a.heap.size<=p.block)(v:ar):bD rb a (b.setCell p v):=
 ⟨h.os,h.tape,h.output,by simpa[World.setCell]using h.size,λk hk hne=>(tM _ _ _ _ (λe=>hp.elim (λh1=>hne (by rw[e,h1])) (λh1=>by omega))).trans (h.block k hk hne)⟩
theorem bD.grown(h:bD rb a b){row:Option Nat}(k:b.grownBy c row)(_:a.heap.size<=b.heap.size)(hr:∀i,row=J i->a.heap.size<=i):bD rb a c:=
 ⟨k.os.trans h.os,k.tape.trans h.tape,k.output.trans h.output,bw h.size k.size,λj hj hne=>(k.block j (eh hj h.size) (λe=>by have:=hr j e.symm;omega)).trans (h.block j hj hne)⟩
theorem bD.drew(h:bD rb a b):bD rb a b.drew:=⟨h.os,h.tape,h.output,h.size,h.block⟩
end
def bV(c:aS)(ev:ar)(lw:ByteArray):Array ar:=#[U R c.closed,U R c.opn,U R c.cycle,U R c.bC,ev,aq lw]
structure tq(B rb:Nat)(w:ai)(c:aS)(lw:ByteArray):Prop where
 lo:rb=rb\/B<=rb
 nil:c.aw=[]
 row:w.heap[rb]?=J (au (bV c (af I 0 0) lw) 53 (0,0))
structure bX(B rb L g cap:Nat)(w:ai)(c:aS)(lw:ByteArray)(es:List aF)(old:List ar)(e:aF)(x:cn)(cells:List ar):Prop where
 lo:rb=rb\/B<=rb
 jL:B<=L
 row:w.heap[rb]?=J (au (bV c (af (J ⟨g,0,I⟩) (es.length+1) cap) lw) 53 (0,0))
 aw:w.ownsRow B 84 10 (af (J ⟨g,0,I⟩) (es.length+1) cap) (es.length+1) (cells++old)
 w9:old.length=10
 iz:cells.length=es.length*10
 olds:∀(i:Nat) e',es[i]?=J e'->∃x',eF B w e' x'/\uJ L x'/\∀(j:Nat) u,(x'.row e')[j]?=J u->cells[i*10+j]?=J u
 new:eF L w e x
 fl:x.f.ownBlock=I\/x.f.ownBlock≠x.l.ownBlock
def gO(B rb L g cap:Nat)(w:ai)(c:aS)(lw:ByteArray)(es:List aF)(e:aF)(x:cn)(cells:List ar):Prop:=bX B rb L g cap w c lw es (x.row e).toList e x cells
def eO(B rb:Nat)(w:ai)(c:aS)(lw:ByteArray):Prop:=tq B rb w c lw\/∃L g cap es e x cells,c.aw=es++[e]/\L<=w.heap.size/\gO B rb L g cap w c lw es e x cells
theorem tq.below{B rb:Nat}{w w':ai}{c:aS}{lw:ByteArray}(h:tq B rb w c lw)(hb:Below w.heap.size w w'):tq B rb w' c lw:=⟨h.lo,h.nil,bG hb h.row⟩
theorem bX.below{B rb L g cap:Nat}{w w':ai}{c:aS}{lw:ByteArray}{es:List aF}{old:List ar}{e:aF}{x:cn}{cells:List ar}(h:bX B rb L g cap w c lw es old e x cells)(hb:Below w.heap.size w w'):bX B rb L g cap w' c lw es old e x cells:=by
 have hg:w.grownBy w' I:=⟨hb.os,hb.tape,hb.output,hb.size,λk hk _=>hb.block k hk⟩;have k:∀v:ar,v.ownBlock=I\/v.ownBlock≠I:=λv=>by by_cases e:v.ownBlock=I;exact a_ e;exact aP e
 have kx:∀{B:Nat} {e:aF} {x:cn},eF B w e x->eF B w' e x:=λhx=>hx.kept hg (k _) (k _) (k _) (k _) (k _)
 refine⟨h.lo,h.jL,bG hb h.row,h.aw.kept hg (k _),h.w9,h.iz,λi e' he=>?_,kx h.new,h.fl⟩;obtain⟨x',a,b,d⟩:=h.olds i e' he;exact⟨x',kx a,b,d⟩
theorem eO.below{B rb:Nat}{w w':ai}{c:aS}{lw:ByteArray}(h:eO B rb w c lw)(hb:Below w.heap.size w w'):eO B rb w' c lw:=by
 rcases h with h|⟨L,g,cap,es,e,x,cells,h1,h2,h3⟩
 ·exact a_ (h.below hb)
 exact aP ⟨L,g,cap,es,e,x,_,h1,bw h2 hb.size,bX.below h3 hb⟩
theorem bX.grow{B rb L g cap:Nat}{w:ai}{c:aS}{lw:ByteArray}{es:List aF}{old:List ar}{e:aF}{x:cn}{cells:List ar}(h:bX B rb L g cap w c lw es old e x cells):∃cur,w.heap[g]?=J (au cur 84 (0,0))/\B<=g:=by
 rcases h.aw.2 with⟨h1,_⟩|⟨g',cap',cur,a,b,c',_⟩
 ·cases h1
 simp only[tU,eR,tW,and_true,true_and]at a;obtain⟨rfl,rfl⟩:=a;exact⟨cur,c',b⟩
theorem bX.aZ{B rb L g cap:Nat}{w:ai}{c:aS}{lw:ByteArray}{es:List aF}{old:List ar}{e:aF}{x:cn}{cells:List ar}(h:bX B rb L g cap w c lw es old e x cells){j:Nat}{u:ar}(hu:old[j]?=J u):w.cell? ⟨g,es.length*10+j,I⟩=J u/\w.frozen? ⟨g,es.length*10+j,I⟩=false:=by
 obtain⟨cur,hc,-⟩:=h.grow
 refine⟨?_,by simp[World.frozen?,hc]⟩;have:=h.aw.cells (g:=g) rfl (es.length*10+j) u (by rw[ko (by rw[h.iz];omega),h.iz,vG];exact hu);rw[kP]at this;simpa using this
theorem bX.pk{B rb L g cap:Nat}{w:ai}{c c':aS}{lw lw':ByteArray}{es:List aF}{old:List ar}{e:aF}{x:cn}{cells:List ar}(h:bX B rb L g cap w c lw es old e x cells)(j:Nat)(u:ar)(hr:(bV c (af (J ⟨g,0,I⟩) (es.length+1) cap) lw).setIfInBounds j u=bV c' (af (J ⟨g,0,I⟩) (es.length+1) cap) lw'):bX B rb L g cap (w.setCell ⟨rb,j,I⟩ u) c' lw' es old e x cells:=by
 have hg:=pd w rb j u
 refine⟨h.lo,h.jL,?_,h.aw.kept hg (aP (dZ h.aw h.row (by decide))),h.w9,h.iz,λi e' he=>?_,h.new.other hg h.row (by decide) (by decide) (by decide) (by decide),h.fl⟩
 ·simp only[World.setCell,dr,h.row];simp[hr]
 obtain⟨x',a,b,d⟩:=h.olds i e' he;exact⟨x',a.other hg h.row (by decide) (by decide) (by decide) (by decide),b,d⟩
theorem tq.pk{B rb:Nat}{w:ai}{c c':aS}{lw lw':ByteArray}(h:tq B rb w c lw)(hn:c'.aw=[])(j:Nat)(u:ar)(hr:(bV c (af I 0 0) lw).setIfInBounds j u=bV c' (af I 0 0) lw'):tq B rb (w.setCell ⟨rb,j,I⟩ u) c' lw':=by
 refine⟨h.lo,hn,?_⟩;simp only[World.setCell,dr,h.row];simp[hr]
theorem bX.qR{B rb L g cap:Nat}{w:ai}{c:aS}{lw:ByteArray}{es:List aF}{old:List ar}{e:aF}{x:cn}{cells:List ar}(h:bX B rb L g cap w c lw es old e x cells)(b j:Nat)(u:ar){cs:Array ar}(hb:w.heap[b]?=J (au cs 84 (0,0)))(hg:b≠g):bX B rb L g cap (w.setCell ⟨b,j,I⟩ u) c lw es old e x cells:=by
 have hg1:=pd w b j u;have hne:rb≠b:=λe2=>by rw[<- e2,h.row]at hb;simp at hb
 refine⟨h.lo,h.jL,(hg1.block rb (bJ h.row) (by simpa using hne)).trans h.row,h.aw.kept hg1 (aP (by simp[Value.ownBlock];exact λe2=>hg e2.symm)),h.w9,h.iz,λi e' he=>?_,h.new.other hg1 hb (by decide) (by decide) (by decide) (by decide),h.fl⟩;obtain⟨x',a,b',d⟩:=h.olds i e' he;exact⟨x',a.other hg1 hb (by decide) (by decide) (by decide) (by decide),b',d⟩
theorem bX.grown{B rb L g cap:Nat}{w w':ai}{c:aS}{lw:ByteArray}{es:List aF}{old:List ar}{e e':aF}{x x':cn}{cells:List ar}{r:Option Nat}(h:bX B rb L g cap w c lw es old e x cells)(hgr:w.grownBy w' r)(hL:∀b,r=J b->L<=b)(jb:r≠J rb)(hrg:r≠J g)(hx:eF L w' e' x')(uL:x'.f.ownBlock=I\/x'.f.ownBlock≠x'.l.ownBlock):bX B rb L g cap w' c lw es old e' x' cells:=by
 refine⟨h.lo,h.jL,(hgr.block rb (bJ h.row) (λe2=>jb e2.symm)).trans h.row,h.aw.kept hgr (aP (λe2=>hrg e2.symm)),h.w9,h.iz,λi e2 he=>?_,hx,uL⟩;obtain⟨y,a,b,d⟩:=h.olds i e2 he;exact⟨y,a.far b hL hgr,b,d⟩
theorem bX.put{B rb L g cap:Nat}{w:ai}{c:aS}{lw:ByteArray}{es:List aF}{old:List ar}{e:aF}{x:cn}{cells:List ar}(h:bX B rb L g cap w c lw es old e x cells)(j:Nat)(u:ar):bX B rb L g cap (w.setCell ⟨g,es.length*10+j,I⟩ u) c lw es (old.set j u) e x cells:=by
 obtain⟨cur,hc,hB⟩:=h.grow;have hg:=pd w g (es.length*10+j) u;have hne:rb≠g:=λe2=>by rw[<- e2,h.row]at hc;simp at hc
 refine⟨h.lo,h.jL,(hg.block rb (bJ h.row) (by simpa using hne)).trans h.row,?_,by rw[ze];exact h.w9,h.iz,λi e2 he=>?_,h.new.other hg hc (by decide) (by decide) (by decide) (by decide),h.fl⟩
 ·have:=J7 (i:=es.length*10+j) h.aw u;rw[yQ _ _ (by rw[h.iz];omega),h.iz,vG]at this;exact this
 obtain⟨y,a,b,d⟩:=h.olds i e2 he;exact⟨y,a.other hg hc (by decide) (by decide) (by decide) (by decide),b,d⟩
theorem bX.toE{B rb L g cap:Nat}{w:ai}{c:aS}{lw:ByteArray}{es:List aF}{old:List ar}{e:aF}{x:cn}{cells:List ar}(h:bX B rb L g cap w c lw es old e x cells)(ho:old=(x.row e).toList):gO B rb L g cap w c lw es e x cells:=by subst ho;exact h
theorem bX.AP{B rb L g cap:Nat}{w:ai}{c:aS}{lw:ByteArray}{es:List aF}{old:List ar}{e:aF}{x:cn}{cells:List ar}(h:bX B rb L g cap w c lw es old e x cells){o:Nat}(ho:o=es.length*10){u0 u1 u2 u3 u4 u5 u6 u7 u8 u9:ar}(hu:[u0,u1,u2,u3,u4,u5,u6,u7,u8,u9]=(x.row e).toList):gO B rb L g cap ((((((((((w.setCell ⟨g,o,I⟩ u0).setCell ⟨g,o+1,I⟩ u1).setCell ⟨g,o+2,I⟩ u2).setCell ⟨g,o+3,I⟩ u3).setCell ⟨g,o+4,I⟩ u4).setCell ⟨g,o+5,I⟩ u5).setCell ⟨g,o+6,I⟩ u6).setCell ⟨g,o+7,I⟩ u7).setCell ⟨g,o+8,I⟩ u8).setCell ⟨g,o+9,I⟩ u9) c lw es e x cells:=by
 subst ho;have h1:=(((((((((h.put 0 u0).put 1 u1).put 2 u2).put 3 u3).put 4 u4).put 5 u5).put 6 u6).put 7 u7).put 8 u8).put 9 u9
 refine h1.toE ?_;have hl:=h.w9;obtain⟨a0,a1,a2,a3,a4,a5,a6,a7,a8,a9,rfl⟩:∃a0 a1 a2 a3 a4 a5 a6 a7 a8 a9,old=[a0,a1,a2,a3,a4,a5,a6,a7,a8,a9]:=by
  match old,hl with
  |[a0,a1,a2,a3,a4,a5,a6,a7,a8,a9],_=>exact⟨a0,a1,a2,a3,a4,a5,a6,a7,a8,a9,rfl⟩
 rw[<- hu];rfl
def kV(x:Bs):Int:=match numOf x with
 |some n=>(n:Int)
 |none=>-1
theorem Dt{x:Bs}(h:numOf x=I):kV x=-1:=by unfold kV;rw[h]
theorem S_{x:Bs}{n:Nat}(h:numOf x=J n):kV x=n:=by unfold kV;rw[h]
theorem ahg{w:Bs}(h:w.length=0):numOf w=I:=by unfold numOf;rw[aR (a_ h)]
theorem uX(s:ByteArray)(w:ai):Calls prog 54 #[aq s] w λe w'=>e=ax (U R (kV (bl s)))/\w'=w:=by
 by_cases h1:s.size<1
 ·have HN:aa (kV (bl s)=-1):=Dt (ahg (by rw[eB];omega));have g1:(s.size:Int)<1:=by omega
  clear h1;go_enter func54,ntmps54
  go_wp2;go_ret;exact⟨by rw[HN.o];rfl,rfl⟩
 have g0:¬(s.size:Int)<1:=by omega
 by_cases wM:13<s.size
 ·have HN:aa _:=Dt (QQ (by rw[eB];exact wM));have g1:13<(s.size:Int):=by omega
  clear h1 wM;go_enter func54,ntmps54
  go_wp2;go_ret;exact⟨by rw[HN.o];rfl,rfl⟩
 have g1:¬13<(s.size:Int):=by omega
 have k0:(0:Int)<(s.size:Int):=by omega
 have hp:0<s.size:=by omega
 have hgd:(bl s).getD 0 0=s[0]:=(byte_at s 0 hp).symm
 by_cases hz:1<s.size/\s[0]=48
 ·have HN:aa _:=Dt (QR (by rw[eB];exact hz.1) (by rw[hgd];exact hz.2));have g2:1<(s.size:Int):=by omega
  have g3:=hz.2;clear hz hgd h1 wM;go_enter func54,ntmps54
  go_wp2;go_ret;exact⟨by rw[HN.o];rfl,rfl⟩
 have HZ:aa (1<=s.size/\s.size<=13):=⟨by omega,by omega⟩;have HE:aa (∀k,k<s.size->fX _=false->kV _=-1):=λk h2 h3=>Dt (QS (by rw[eB];exact h2) h3)
 have HY:aa ((∀j,j<s.size->fX _=true)->kV _=(jC _:Nat)):=λh=>S_ (QT (by rw[eB];omega) (by rw[eB];omega) (by rw[eB,hgd];exact hz) (by rw[eB];exact h))
 have HV:aa (∀k,k<s.size->(∀j,j<k->fX _=true)->jC ((bl s).take k)<1000000000000/\jC _=jC _*10+(((bl s).getD k 0).toNat-48)):=λk hk hd=>⟨eh (JU k (by rw[eB];omega) hd) (Bo (by decide) (show k<=12 by omega)),JT (by rw[eB];exact hk)⟩
 have hq:¬1<(s.size:Int)\/(1<(s.size:Int)/\¬s[0]=48):=by
  by_cases q:1<(s.size:Int)
  ·exact aP ⟨q,λh=>hz ⟨by omega,h⟩⟩
  exact a_ q
 clear hz hgd h1 wM;have ahh:¬1<(s.size:Int)\/(1<(s.size:Int)/\((s[0].toNat:Int)==48)=false):=hq.imp id (λh=>⟨h.1,by rw[iZ];intro h2;exact h.2 (UInt8.toNat_inj.1 (by show _=48;omega))⟩);clear hq
 rcases ahh with q1|⟨q1,q2⟩
 all_goals
  go_enter func54,ntmps54
  go_wp2_with fail
  go_loopw [3,4] (λm i wr=>∃k:Nat,k<=s.size/\i=U R k/\m=U R (jC ((bl s).take k):Nat)/\wr=w/\∀j,j<k->fX ((bl s).getD j 0)=true) (λ_ i _=>s.size-(intOf i).toNat)
  case atStart=>exact⟨0,bI _,rfl,rfl,rfl,λj hj=>absurd hj (om _)⟩
  case round=>
   obtain⟨k,hk,rfl,rfl,rfl,hall⟩:=hrel
   by_cases hlt:k<s.size
   ·obtain⟨cC,hv2⟩:=HV.o k hlt hall;have HB:aa _:=hall;have yl:aa _:=hv2;have ym:aa _:=HE.o k hlt;have iA:aa (s[k]=(bl s).getD k 0):=byte_at s k hlt;have k1:(k:Int)<(s.size:Int):=by omega
    have k2:(0:Int)<=(k:Int):=by omega
    have I5:k<13:=by have:=HZ.o.2;omega
    clear hall hv2
    try clear q2
    clear q1;generalize hcc:s[k]=b at *;rw[<- iA.o]at yl ym;have HC:aa _:=iA.o.symm;have fk:=b.toNat_lt;clear iA;generalize jC ((bl s).take k)=m at cC yl⊢
    by_cases hd:fX b=true
    ·have hb:=JS hd;have n1:¬(b.toNat:Int)<48:=by omega
     have n2:¬(57:Int)<(b.toNat:Int):=by omega
     go_wp2_with fail
     go_roundw
     case rel=>
      refine⟨k+1,by omega,by go_num,by rw[yl.o];go_num,by first|trivial|rfl,λj hj=>?_⟩
      by_cases e:j=k
      ·rw[e,HC.o];exact hd
      exact HB.o j (by omega)
     case measure=>simp[intOf];omega
    simp only[rR]at hd;have HN:aa _:=ym.o hd
    by_cases n1:(b.toNat:Int)<48
    ·clear hd;go_wp2;go_ret;exact⟨by rw[HN.o];rfl,by first|trivial|rfl⟩
    have n2:(57:Int)<(b.toNat:Int):=by
     unfold fX at hd
     rcases fR 57 b.toNat with h|h
     ·omega
     exfalso
     rw[bM (show 48<=b.toNat by omega),bM h]at hd
     cases hd
    clear hd;go_wp2;go_ret;exact⟨by rw[HN.o];rfl,by first|trivial|rfl⟩
   have k1:¬(k:Int)<(s.size:Int):=by omega
   obtain rfl:k=s.size:=by omega
   have HR:aa (kV (bl s)=(jC ((bl s).take s.size):Nat)):=by
    show _=_
    rw[HY.o hall,<- eB,l4]
   clear hall;go_wp2;go_ret;exact⟨by rw[HR.o];rfl,by first|trivial|rfl⟩
theorem h_(w:ai)(u:ar)(T:TypeId):∀(j:Nat) x,([u]:List ar)[j]?=J x->(w.alloc (au #[u] T)).cell? ((⟨w.heap.size,0,I⟩:az).add j)=J x:=by
 intro j x hx
 match j,hx with
 |0,hx=>
  simp at hx
  subst hx;rw[kP,dK _ _ _ _ rfl];rfl
 |j+1,hx=>simp at hx
theorem ahi{w:ai}{B k n:Nat}{T:TypeId}{v:ar}{xs:List ar}(h:w.ownsRow B T k v n xs):∃a c,v=af a n c:=by
 rcases h.2 with⟨h1,h2⟩|⟨g,cap,cur,h1,_⟩
 ·exact⟨_,0,by rw[h1,h2]⟩
 exact⟨_,cap,h1⟩
theorem rK{w:ai}{B k n:Nat}{T:TypeId}{v:ar}{xs:List ar}(h:w.ownsRow B T k v (n+1) xs):∃g c,v=af (J ⟨g,0,I⟩) (n+1) c:=by
 rcases h.2 with⟨h1,h2⟩|⟨g,cap,cur,h1,_⟩
 ·simp at h2
 exact⟨g,cap,h1⟩
def pY(c:UInt8)(acc:Bs)(t:Bs):List Bs:=match bW c t with
 |[]=>[acc]
 |h::r=>(acc++h)::r
theorem S'(c:UInt8)(t:Bs):pY c [] t=bW c t:=by
 unfold pY;have:=F9 c t
 cases h:bW c t with
 |nil=>exact absurd h this
 |cons a r=>simp
theorem ahj(c:UInt8)(acc:Bs):pY c acc []=[acc]:=by simp[pY,bW]
theorem ahk(c:UInt8)(acc t:Bs):pY c acc (c::t)=acc::pY c [] t:=by
 rw[S'];unfold pY;rw[bW,aR rfl];simp
theorem ahl{c b:UInt8}(h:b≠c)(acc t:Bs):pY c acc (b::t)=pY c (acc++[b]) t:=by
 unfold pY;rw[bW,aK h]
 cases bW c t with
 |nil=>simp
 |cons a r=>simp
theorem drop_at{l:Bs}{k:Nat}(h:k<l.length):l.drop k=l.getD k 0::l.drop (k+1):=by
 rw[kq h,fQ,bH h];rfl
theorem one_byte(s:ByteArray)(k:Nat)(h:k<s.size):bl (s.extract k (k+1))=[(bl s).getD k 0]:=by
 have hl:k<s.data.toList.length:=by rw[lU];exact h
 unfold bl;rw[zb];rw[fQ,bH hl];rw[show k+1-k=1 by omega,kq hl];rfl
theorem Ta(s:ByteArray)(k:Nat)(h:k<s.size)(W:ai):(Instr.slice 9 (aq s) (J (U R (k:Int))) (J (U R ((k:Int)+1))) I).run prog W=.ok (aq (s.extract k (k+1))) W:=by
 rw[run_slice_string W 9 s R R _ _ underlying9 (by omega) (by omega) (by omega)];rw[show ((k:Int)+1).toNat=k+1 by omega,yU]
theorem pZ(s:ByteArray)(c:UInt8)(w:ai)(hs:s.size<=1000000):Calls prog 15 #[aq s,U .u8 (c.toNat:Int)] w λe w'=>∃(ws:List ByteArray) (g cap:Nat),e=ax (af (J ⟨g,0,I⟩) ws.length cap)/\ws.map bl=bW c (bl s)/\w'.ownsRow w.heap.size 9 1 (af (J ⟨g,0,I⟩) ws.length cap) ws.length (ws.flatMap bS)/\Below w.heap.size w w':=by
 obtain⟨i0,hi,hz0,hz1,hz2⟩:=fj Ej;have HZ:aa _:=hs;clear hs;go_enter func15,ntmps15
 go_wp2_with fail
 go_loopw [5,6,7] (λov wv iv wr=>∃(k:Nat) (os:List ByteArray) (wd:ByteArray) (va:Option az) (vc:Nat),k<=s.size/\iv=U R k/\wv=aq wd/\ov=af va os.length vc/\os.length<=k/\wd.size<=k/\wr.ownsRow w.heap.size 9 1 (af va os.length vc) os.length (os.flatMap bS)/\Below w.heap.size w wr/\bW c (bl s)=os.map bl++pY c (bl wd) ((bl s).drop k)) (λ_ _ iv _=>s.size-(intOf iv).toNat)
 case atStart=>exact⟨0,[],_,_,0,bI _,rfl,rfl,rfl,aQ _,aQ _,fC _ _ _ _,aC _ _,by simp[bl,S']⟩
 case round=>
  obtain⟨k,os,wd,va,vc,hk,rfl,rfl,rfl,Cl,Tb,hown,hb,heq⟩:=hrel;have HB:aa _:=hb;have bE:aa (wr.ownsRow _ 9 1 _ _ _):=hown;have HEq:aa _:=heq;have HL:aa (os.length<=k/\wd.size<=k/\k<=s.size):=⟨Cl,Tb,hk⟩;clear hb hown heq Cl Tb hk
  by_cases hlt:k<s.size
  ·have k1:(k:Int)<(s.size:Int):=by omega
   have k2:(0:Int)<=(k:Int):=by omega
   have k3:k<1000000:=by have:=HZ.o;omega
   have iA:aa (s[k]=(bl s).getD k 0):=byte_at s k hlt;have lN:aa ((bl s).drop k=(bl s).getD k 0::(bl s).drop _):=drop_at (by unfold bl;rw[lU];exact hlt);have nH:aa _:=one_byte s k hlt;have ck:=Ta s k hlt;generalize qY:s[k]=b at *
   by_cases e:b=c
   ·subst e;have Du:aa (bW b (bl s)=(os++[wd]).map bl++pY b [] ((bl s).drop (k+1))):=by
     show _=_
     rw[HEq.o,lN.o,<- iA.o,ahk,pH,iV];rfl
    clear iA lN nH ck HEq;go_wp2_with (at_builtin;refine fw _ rfl _ _ 22 rfl _ 9 i0 _ 1 16 underlying22 hi hz0 hz1 hz2 rfl (by decide) (af va _ vc) _ _ rfl (bE.o.alloc _) _ 1 1 _ rfl rfl (h_ _ _ _) (by intro u hu;simp at hu;subst hu;rfl) (by have:=HL.o;unfold maxLen;omega) (by have:=HL.o;omega) (by have:=HB.o.size;simp;omega) ?_;intro v1 w1 hown1 dh ij)
    obtain⟨ga,gc,rfl⟩:=ahi hown1;go_roundw
    case rel=>exact⟨_,_,_,ga,gc,by omega,by go_num,rfl,by simp,by have:=HL.o;simp;omega,bI _,by simpa[bS]using hown1,(HB.o.alloc HB.o.size _).grown dh (by have:=HB.o.size;simp;omega) (λq hq=>(bE.o.lt q hq).1),Du.o⟩
    case measure=>simp[intOf];omega
   have Du:aa (bW c (bl s)=os.map bl++pY c (bl (wd++s.extract k (k+1))) ((bl s).drop (k+1))):=by
    show _=_
    rw[HEq.o,lN.o,<- iA.o,ahl e,show bl (wd++s.extract k _)=bl wd++bl (s.extract k (k+1)) by simp[bl],nH.o,<- iA.o]
   have fK:aa ((s.extract k (k+1)).size=1):=by
    show _=_
    have h2:(bl (s.extract k (k+1))).length=1:=by rw[nH.o];rfl
    unfold bl at h2;rw[lU]at h2;exact h2
   have ha:=run_string_add_sum (P:=prog) wr wd (s.extract k (k+1)) (by have:=HL.o;have:=fK.o;omega);have e1:((b.toNat:Int)==(c.toNat:Int))=false:=by
    rw[iZ];intro h;exact e (UInt8.toNat_inj.1 (by omega))
   have e2:¬(b.toNat:Int)=(c.toNat:Int):=λh=>e (UInt8.toNat_inj.1 (by omega))
   clear iA lN nH HEq e;go_wp2_with fail
   go_roundw
   case rel=>exact⟨_,os,_,va,vc,by omega,by go_num,rfl,rfl,by have:=HL.o;omega,by have:=HL.o;have:=fK.o;rw[ByteArray.size_append];omega,bE.o,HB.o,Du.o⟩
   case measure=>simp[intOf];omega
  have k1:¬(k:Int)<(s.size:Int):=by omega
  have Du:aa ((os++[wd]).map bl=bW c (bl s)):=by
   show _=_
   rw[HEq.o,rY (by unfold bl;rw[lU];exact Nat.le_of_not_lt hlt),ahj,pH];rfl
  have k3:os.length<=1000000:=by have:=HL.o;have:=HZ.o;omega
  clear HEq hlt;go_wp2_with (at_builtin;refine fw _ rfl _ _ 22 rfl _ 9 i0 _ 1 16 underlying22 hi hz0 hz1 hz2 rfl (by decide) (af va _ vc) _ _ rfl (bE.o.alloc _) _ 1 1 _ rfl rfl (h_ _ _ _) (by intro u hu;simp at hu;subst hu;rfl) (by unfold maxLen;omega) (by omega) (by have:=HB.o.size;simp;omega) ?_;intro v1 w1 hown1 dh ij)
  obtain⟨g,cap,hv⟩:=rK hown1;subst hv;go_ret;exact⟨_,g,cap,by simp,Du.o,by simpa[bS]using hown1,(HB.o.alloc HB.o.size _).grown dh (by have:=HB.o.size;simp;omega) (λq hq=>(bE.o.lt q hq).1)⟩
def bq:ic:=λak w=>ak.findIdx? (λp=>decide (bl p=w))
theorem ahm:lB bq:=by
 refine⟨λak w i h=>?_,λak w h p hp=>?_⟩
 ·unfold bq at h;rw[List.findIdx?_eq_some_iff_getElem]at h;obtain⟨hlt,h1,-⟩:=h;exact⟨_,bH hlt,by simpa using h1⟩
 unfold bq at h;rw[EJ]at h;simpa using h p hp
theorem ahn{a b:ByteArray}:a=b↔bl a=bl b:=⟨λh=>by rw[h],λh=>lC h⟩
theorem aho(ak:List ByteArray)(s:ByteArray):idxOf ak s=match bq ak (bl s)with
 |some i=>(i:Int)
 |none=>-1:=by
 unfold idxOf bq;rw[show (λy:ByteArray=>decide _)=(λp=>decide _)from funext λy=>jE.2 ahn]
 cases List.findIdx? (λp=>decide (bl p=bl s)) ak<;>rfl
theorem KY{s:ByteArray}:bl s=[]↔s=⟨#[]⟩:=⟨λh=>lC (by rw[h];rfl),λh=>by rw[h];rfl⟩
theorem uY{look:Bs->Option Nat}{s:ByteArray}:(bF look 1 (bl s)).1=(if kV (bl s)<0 then 1 else 0)/\(0<=kV (bl s)->(bF look 1 (bl s)).2=kV (bl s)/\¬s=⟨#[]⟩):=by
 cases h:numOf (bl s)with
 |none=>
  rw[Dt h]
  refine⟨?_,λh2=>by omega⟩;unfold bF
  split
  ·simp
  rw[h];simp
 |some n=>
  have h0:=TS h;rw[S_ h];unfold bF;rw[aK h0];simp only[h];exact⟨by rw[aK (by omega)],λ_=>⟨trivial,λe=>h0 (KY.2 e)⟩⟩
theorem yM{ak:List ByteArray}{s:ByteArray}(hs:¬s=⟨#[]⟩):(bF (bq ak) 2 (bl s)).1=(if idxOf ak s<0 then 5 else 0)/\(0<=idxOf ak s->(bF (bq ak) 2 (bl s)).2=idxOf ak s):=by
 rw[aho];unfold bF;rw[aK (λh=>hs (KY.1 h))]
 cases bq ak (bl s)with
 |none=>simp
 |some i=>simp only;exact⟨by rw[aK (by omega)],λ_=>trivial⟩
theorem Tc{look:Bs->Option Nat}{s:ByteArray}(hs:¬s=⟨#[]⟩):bF look 0 (bl s)=(0,0):=by
 unfold bF;rw[aK (λh=>hs (KY.1 h))];rfl
theorem uZ{look:Bs->Option Nat}{f:Nat}:(bF look f []).1=1:=by unfold bF;rw[aR rfl]
theorem rL{look:Bs->Option Nat}:∀(fs:List Nat) (ws:List Bs) (nn:Bool),ws.length≠fs.length->(aY look nn fs ws).1=1
 |[],[],_,h=>by simp at h
 |[],_::_,_,_=>by simp[aY]
 |_::_,[],_,_=>by simp[aY]
 |f::fs,w::ws,nn,h=>by
  rw[aY]
  split
  ·rfl
  exact rL fs ws _ (by simpa using h)
structure dR(look:Bs->Option Nat)(fs:List Nat)(ws:List Bs)(j:Nat)(nn:Bool)(vs:List Int):Prop where
 code:(aY look false fs ws).1=(aY look nn (fs.drop j) (ws.drop j)).1
 len:vs.length=j
 vals:nn=false->(aY look false fs ws).2=vs++(aY look nn (fs.drop j) (ws.drop j)).2
theorem dR.start(look:Bs->Option Nat)(fs:List Nat)(ws:List Bs):dR look fs ws 0 false []:=⟨rfl,rfl,λ_=>rfl⟩
theorem dR.bad{look:Bs->Option Nat}{fs:List Nat}{ws:List Bs}{j:Nat}{nn:Bool}{vs:List Int}(h:dR look fs ws j nn vs){f:Nat}{w:Bs}(hf:fs[j]?=J f)(hw:ws[j]?=J w)(h1:(bF look f w).1=1):(aY look false fs ws).1=1:=by
 rw[h.code];obtain⟨lf,ef⟩:=dT.1 hf;obtain⟨lw,ew⟩:=dT.1 hw;rw[kq lf,kq lw,ef,ew,aY,aR h1]
theorem dR.next{look:Bs->Option Nat}{fs:List Nat}{ws:List Bs}{j:Nat}{nn:Bool}{vs:List Int}(h:dR look fs ws j nn vs){f:Nat}{w:Bs}(hf:fs[j]?=J f)(hw:ws[j]?=J w)(Dv:Bool)(v:Int)(h1:(bF look f w).1≠1)(hn:Dv=(nn||decide ((bF look f w).1=5)))(hv:Dv=false->v=(bF look f w).2):dR look fs ws (j+1) Dv (vs++[v]):=by
 obtain⟨lf,ef⟩:=dT.1 hf;obtain⟨lw,ew⟩:=dT.1 hw;have hd:aY look nn (fs.drop j) (ws.drop j)=((aY look Dv (fs.drop (j+1)) (ws.drop (j+1))).1,(bF look f w).2::(aY look Dv (fs.drop (j+1)) (ws.drop (j+1))).2):=by
  rw[kq lf,kq lw,ef,ew,aY,aK h1,<- hn]
 refine⟨by rw[h.code,hd],by rw[dm,h.len];rfl,λh0=>?_⟩;have Eu:nn=false:=by
  rw[h0]at hn
  cases nn with
  |false=>rfl
  |true=>simp at hn
 rw[h.vals Eu,hd,hv h0];simp
theorem dR.done{look:Bs->Option Nat}{fs:List Nat}{ws:List Bs}{nn:Bool}{vs:List Int}(h:dR look fs ws fs.length nn vs)(hl:ws.length=fs.length):(aY look false fs ws).1=(if nn then 5 else 0)/\(nn=false->(aY look false fs ws).2=vs):=by
 have h1:=h.code;have h2:=h.vals;rw[rY (aQ _),rY (by omega)]at h1 h2;rw[h1]
 refine⟨by simp[aY],λh0=>?_⟩;rw[h2 h0];simp[aY]
def bR(last:Int)(c:aS)(k:Nat)(ws:List Bs):Nat:=if may last k=false then 1 else (aY (bq (bO c.aw)) false (form k) ws).1
theorem tr{last:Int}{c:aS}{k:Nat}{ws:List Bs}(h:may last k=false):bR last c k ws=1:=by unfold bR;rw[aR h]
theorem tu{last:Int}{c:aS}{k:Nat}{ws:List Bs}(h:may last k=true):bR last c k ws=(aY (bq (bO c.aw)) false (form k) ws).1:=by unfold bR;rw[aK (by rw[h];simp)]
theorem ahp{last:Int}{c:aS}{k:Nat}(hk:k<10)(ws:List Bs):(jo bq ⟨last,c⟩ (kw k) ws).1=bR last c k ws/\(bR last c k ws=0->(jo bq ⟨last,c⟩ (kw k) ws).2=⟨k,ed c k ws (aY (bq (bO c.aw)) false (form k) ws).2⟩):=by
 unfold jo bR;rw[DI k hk];simp only
 split
 ·exact⟨rfl,λh=>by simp at h⟩
 split
 ·rename_i h0;exact⟨h0.symm,λ_=>rfl⟩
 rename_i h0;exact⟨rfl,λh=>absurd h h0⟩
theorem tz{wl:List ByteArray}{k:Nat}{ws:List Bs}(h:wl.map bl=kw k::ws):∃wt,wl=eN k::wt/\wt.map bl=ws:=by
 cases wl with
 |nil=>simp at h
 |cons a wt=>
  simp only[pA,List.cons.injEq]at h;exact⟨wt,by rw[show a=eN k from lC (by rw[h.1,eN,qh])],h.2⟩
theorem ahq(ws:List ByteArray):ws.flatMap bS=ws.map Value.string:=by
 induction ws with
 |nil=>rfl
 |cons a t ih=>rw[lV,pA,ih];rfl
theorem ahr(vs:List Int):vs.flatMap bm=vs.map (Value.int R):=by
 induction vs with
 |nil=>rfl
 |cons a t ih=>rw[lV,pA,ih];rfl
theorem qE{w:ai}{B g n cap:Nat}{ws:List ByteArray}(h:w.ownsRow B 9 1 (af (J ⟨g,0,I⟩) n cap) n (ws.flatMap bS))(j:Nat)(s:ByteArray)(hj:ws[j]?=J s):w.cell? ⟨g,j,I⟩=J (aq s):=by
 have:=h.cells (g:=g) rfl j (aq s) (by
  rw[ahq];simp[hj])
 rw[kP]at this;simpa using this
theorem mq{w:ai}{B g n cap:Nat}{vs:List Int}(h:w.ownsRow B 3 1 (af (J ⟨g,0,I⟩) n cap) n (vs.flatMap bm))(j:Nat)(s:Int)(hj:vs[j]?=J s):w.cell? ⟨g,j,I⟩=J (U R s):=by
 have:=h.cells (g:=g) rfl j (U R s) (by
  rw[ahr];simp[hj])
 rw[kP]at this;simpa using this
structure qF(B rb:Nat)(w:ai)(c:aS)(lw:ByteArray)(ev:ar)(cells:List ar):Prop where
 lo:rb=rb\/B<=rb
 row:w.heap[rb]?=J (au (bV c ev lw) 53 (0,0))
 aw:w.ownsRow B 84 10 ev c.aw.length cells
 olds:∀(i:Nat) e',c.aw[i]?=J e'->∃x',eF B w e' x'/\uJ w.heap.size x'/\∀(j:Nat) u,(x'.row e')[j]?=J u->cells[i*10+j]?=J u
theorem eO.view{B rb:Nat}{w:ai}{c:aS}{lw:ByteArray}(h:eO B rb w c lw):∃ev cells,qF B rb w c lw ev cells:=by
 rcases h with h|⟨L,g,cap,es,e,x,cells,h1,h2,h3⟩
 ·exact⟨_,[],h.lo,h.row,by rw[h.nil];exact fC _ _ _ _,λi e' he=>by rw[h.nil]at he;simp at he⟩
 refine⟨_,_,h3.lo,h3.row,by rw[h1,dm];exact h3.aw,λi e' he=>?_⟩;rw[h1]at he
 rcases fR i es.length with hi|hi
 ·rw[mX hi]at he;obtain⟨x',a,b,d⟩:=h3.olds i e' he
  refine⟨x',a,b.mono h2,λj u hu=>?_⟩;have:=d j u hu;have hlt:i*10+j<cells.length:=by
   rcases fR (i*10+j) cells.length with h'|h'
   ·exact h'
   rw[iI h']at this;cases this
  rw[mX hlt];exact this
 rw[ko hi]at he;have h0:i=es.length:=by
  rcases Nat.eq_zero_or_pos (i-es.length)with h'|h'
  ·omega
  rw[iI (by simp;omega)]at he;cases he
 subst h0;simp at he
 subst he
 refine⟨x,h3.new.weak h3.jL,h3.new.Rb,λj u hu=>?_⟩;rw[ko (by rw[h3.iz];omega),h3.iz,vG,tL];exact hu
theorem qF.below{B rb:Nat}{w w':ai}{c:aS}{lw:ByteArray}{ev:ar}{cells:List ar}(h:qF B rb w c lw ev cells)(hb:Below w.heap.size w w'):qF B rb w' c lw ev cells:=
 ⟨h.lo,bG hb h.row,h.aw.kept (row:=I) ⟨hb.os,hb.tape,hb.output,hb.size,λk hk _=>hb.block k hk⟩ (by by_cases e:ev.ownBlock=I;exact a_ e;exact aP e),λi e' he=>by
  obtain⟨x',a,b,d⟩:=h.olds i e' he;exact⟨x',qZ.below a hb,b.mono hb.size,d⟩⟩
theorem qF.setW{B rb:Nat}{w:ai}{c:aS}{lw:ByteArray}{ev:ar}{cells:List ar}(h:qF B rb w c lw ev cells)(lw':ByteArray):qF B rb (w.setCell ⟨rb,5,I⟩ (aq lw')) c lw' ev cells:=by
 have hg:=pd w rb 5 (aq lw')
 refine⟨h.lo,?_,h.aw.kept hg (aP (dZ h.aw h.row (by decide))),λi e' he=>?_⟩
 ·simp only[World.setCell,dr,h.row];simp[bV]
 obtain⟨x',a,b,d⟩:=h.olds i e' he;exact⟨x',a.other hg h.row (by decide) (by decide) (by decide) (by decide),b.mono hg.size,d⟩
theorem ahs{B rb g cap:Nat}{V w8:ai}{c:aS}{lw:ByteArray}{ev:ar}{cells:List ar}{nm:ByteArray}{z:Int}(h:qF B rb V c lw ev cells)(hB:B<=V.heap.size)(hg:V.grownBy w8 ev.ownBlock)
  (ho:w8.ownsRow B 84 10 (af (J ⟨g,0,I⟩) (c.aw.length+1) cap) (c.aw.length+1) (cells++(pU.row (pg nm z)).toList)):gO B rb V.heap.size g cap (w8.setCell ⟨rb,4,I⟩ (af (J ⟨g,0,I⟩) (c.aw.length+1) cap)) c lw c.aw (pg nm z) pU cells:=by
 have wP:=(hg.block rb (bJ h.row) (λe2=>dZ h.aw h.row (by decide) e2.symm)).trans h.row;have g1:=pd w8 rb 4 (af (J ⟨g,0,I⟩) (c.aw.length+1) cap)
 refine⟨h.lo,hB,?_,ho.kept g1 (aP (dZ ho wP (by decide))),rfl,h.aw.1,λi e' he=>?_,Ro _ _ _ _,a_ rfl⟩
 ·simp only[World.setCell,dr,wP];simp[bV]
 obtain⟨x',a,b,d⟩:=h.olds i e' he;exact⟨x',(eF.grown a h.aw hg).other g1 wP (by decide) (by decide) (by decide) (by decide),b,d⟩
theorem bX.cfg{B rb L g cap:Nat}{w:ai}{c c':aS}{lw:ByteArray}{es:List aF}{old:List ar}{e:aF}{x:cn}{cells:List ar}(h:bX B rb L g cap w c lw es old e x cells)(hr:∀ev lw,bV c ev lw=bV c' ev lw):bX B rb L g cap w c' lw es old e x cells:=
 ⟨h.lo,h.jL,by rw[<- hr];exact h.row,h.aw,h.w9,h.iz,h.olds,h.new,h.fl⟩
theorem gO.cfg{B rb L g cap:Nat}{w:ai}{c c':aS}{lw:ByteArray}{es:List aF}{e:aF}{x:cn}{cells:List ar}(h:gO B rb L g cap w c lw es e x cells)(hr:∀ev lw,bV c ev lw=bV c' ev lw):gO B rb L g cap w c' lw es e x cells:=bX.cfg h hr
theorem bX.J9{B rb L g cap:Nat}{w w':ai}{c:aS}{lw:ByteArray}{es:List aF}{old:List ar}{e:aF}{x:cn}{cells:List ar}{g' cap':Nat}(h:bX B rb L g cap w c lw es old e x cells)(q:ByteArray)(hgr:w.grownBy w' x.p.ownBlock)(hown:w'.ownsRow L 9 1 (af (J ⟨g',0,I⟩) (e.ak.length+1) cap') (e.ak.length+1) (e.ak.flatMap bS++bS q)):bX B rb L g cap w' c lw es old { e with ak:=e.ak++[q] } { x with p:=(af (J ⟨g',0,I⟩) (e.ak.length+1) cap') } cells:=by
 obtain⟨cur,hc,-⟩:=h.grow;exact h.grown hgr (λb hb=>(h.new.hp.lt b hb).1) (dZ h.new.hp h.row (by decide)) (dZ h.new.hp hc (by decide)) ⟨(by show w'.ownsRow _ _ _ _ _ _;simpa[dP]using hown),(eE h.new.hg hgr (fJ h.new.hg h.new.hp (by decide))),(eE h.new.he hgr (fJ h.new.he h.new.hp (by decide))),(eE h.new.hf hgr (fJ h.new.hf h.new.hp (by decide))),(eE h.new.hl hgr (fJ h.new.hl h.new.hp (by decide)))⟩ (h.fl)
theorem bX.J_{B rb L g cap:Nat}{w w':ai}{c:aS}{lw:ByteArray}{es:List aF}{old:List ar}{e:aF}{x:cn}{cells:List ar}{g' cap':Nat}(h:bX B rb L g cap w c lw es old e x cells)(q:fM)(hgr:w.grownBy w' x.g.ownBlock)(hown:w'.ownsRow L 86 4 (af (J ⟨g',0,I⟩) (e.aB.length+1) cap') (e.aB.length+1) (e.aB.flatMap iD++iD q)):bX B rb L g cap w' c lw es old { e with aB:=e.aB++[q] } { x with g:=(af (J ⟨g',0,I⟩) (e.aB.length+1) cap') } cells:=by
 obtain⟨cur,hc,-⟩:=h.grow;exact h.grown hgr (λb hb=>(h.new.hg.lt b hb).1) (dZ h.new.hg h.row (by decide)) (dZ h.new.hg hc (by decide)) ⟨(eE h.new.hp hgr (fJ h.new.hp h.new.hg (by decide))),(by show w'.ownsRow _ _ _ _ _ _;simpa[dP]using hown),(eE h.new.he hgr (fJ h.new.he h.new.hg (by decide))),(eE h.new.hf hgr (fJ h.new.hf h.new.hg (by decide))),(eE h.new.hl hgr (fJ h.new.hl h.new.hg (by decide)))⟩ (h.fl)
theorem bX.Ka{B rb L g cap:Nat}{w w':ai}{c:aS}{lw:ByteArray}{es:List aF}{old:List ar}{e:aF}{x:cn}{cells:List ar}{g' cap':Nat}(h:bX B rb L g cap w c lw es old e x cells)(q:(Int×Int))(hgr:w.grownBy w' x.e.ownBlock)(hown:w'.ownsRow L 87 2 (af (J ⟨g',0,I⟩) (e.aA.length+1) cap') (e.aA.length+1) (e.aA.flatMap jq++jq q)):bX B rb L g cap w' c lw es old { e with aA:=e.aA++[q] } { x with e:=(af (J ⟨g',0,I⟩) (e.aA.length+1) cap') } cells:=by
 obtain⟨cur,hc,-⟩:=h.grow;exact h.grown hgr (λb hb=>(h.new.he.lt b hb).1) (dZ h.new.he h.row (by decide)) (dZ h.new.he hc (by decide)) ⟨(eE h.new.hp hgr (fJ h.new.hp h.new.he (by decide))),(eE h.new.hg hgr (fJ h.new.hg h.new.he (by decide))),(by show w'.ownsRow _ _ _ _ _ _;simpa[dP]using hown),(eE h.new.hf hgr (fJ h.new.hf h.new.he (by decide))),(eE h.new.hl hgr (fJ h.new.hl h.new.he (by decide)))⟩ (h.fl)
theorem bX.Kb{B rb L g cap:Nat}{w w':ai}{c:aS}{lw:ByteArray}{es:List aF}{old:List ar}{e:aF}{x:cn}{cells:List ar}{g' cap':Nat}(h:bX B rb L g cap w c lw es old e x cells)(q:Int)(hgr:w.grownBy w' x.f.ownBlock)(hown:w'.ownsRow L 3 1 (af (J ⟨g',0,I⟩) (e.first.length+1) cap') (e.first.length+1) (e.first.flatMap bm++bm q))(hne:∀b,x.l.ownBlock=J b->b≠g'):bX B rb L g cap w' c lw es old { e with first:=e.first++[q] } { x with f:=(af (J ⟨g',0,I⟩) (e.first.length+1) cap') } cells:=by
 obtain⟨cur,hc,-⟩:=h.grow;exact h.grown hgr (λb hb=>(h.new.hf.lt b hb).1) (dZ h.new.hf h.row (by decide)) (dZ h.new.hf hc (by decide)) ⟨(eE h.new.hp hgr (fJ h.new.hp h.new.hf (by decide))),(eE h.new.hg hgr (fJ h.new.hg h.new.hf (by decide))),(eE h.new.he hgr (fJ h.new.he h.new.hf (by decide))),(by show w'.ownsRow _ _ _ _ _ _;simpa[dP]using hown),(eE h.new.hl hgr (Rc h.fl))⟩ (aP (λe1=>hne g' e1.symm rfl))
theorem bX.Kc{B rb L g cap:Nat}{w w':ai}{c:aS}{lw:ByteArray}{es:List aF}{old:List ar}{e:aF}{x:cn}{cells:List ar}{g' cap':Nat}(h:bX B rb L g cap w c lw es old e x cells)(q:Int)(hgr:w.grownBy w' x.l.ownBlock)(hown:w'.ownsRow L 3 1 (af (J ⟨g',0,I⟩) (e.last.length+1) cap') (e.last.length+1) (e.last.flatMap bm++bm q))(hne:∀b,x.f.ownBlock=J b->b≠g'):bX B rb L g cap w' c lw es old { e with last:=e.last++[q] } { x with l:=(af (J ⟨g',0,I⟩) (e.last.length+1) cap') } cells:=by
 obtain⟨cur,hc,-⟩:=h.grow;exact h.grown hgr (λb hb=>(h.new.hl.lt b hb).1) (dZ h.new.hl h.row (by decide)) (dZ h.new.hl hc (by decide)) ⟨(eE h.new.hp hgr (fJ h.new.hp h.new.hl (by decide))),(eE h.new.hg hgr (fJ h.new.hg h.new.hl (by decide))),(eE h.new.he hgr (fJ h.new.he h.new.hl (by decide))),(eE h.new.hf hgr h.fl),(by show w'.ownsRow _ _ _ _ _ _;simpa[dP]using hown)⟩ ((by cases e1:x.f.ownBlock with|none=>exact a_ rfl|some b=>exact aP (λe2=>hne b e1 (bj e2))))
theorem aht{w:ai}{L g' H:Nat}{e:aF}{x:cn}(hX:eF L w e x)(cH:x.f.ownBlock=J g'\/g'=H)(uL:x.f.ownBlock=I\/x.f.ownBlock≠x.l.ownBlock)(hH:w.heap.size<=H):∀b,x.l.ownBlock=J b->b≠g':=by
 intro b hb e2;subst e2
 rcases cH with h1|h1
 ·rcases uL with h3|h3
  ·rw[h3]at h1;cases h1
  exact h3 (h1.trans hb.symm)
 have:=uK hX.hl b hb;omega
theorem ahu{w:ai}{L g' H:Nat}{e:aF}{x:cn}(hX:eF L w e x)(cH:x.l.ownBlock=J g'\/g'=H)(uL:x.f.ownBlock=I\/x.f.ownBlock≠x.l.ownBlock)(hH:w.heap.size<=H):∀b,x.f.ownBlock=J b->b≠g':=by
 intro b hb e2;subst e2
 rcases cH with h1|h1
 ·rcases uL with h3|h3
  ·rw[h3]at hb;cases hb
  exact h3 (hb.trans h1.symm)
 have:=uK hX.hf b hb;omega
theorem p_{w:ai}{b j:Nat}{cs:Array ar}{T:TypeId}(h:w.heap[b]?=J (au cs T (0,0)))(u:ar):(w.setCell ⟨b,j,I⟩ u).heap[b]?=J (au (cs.setIfInBounds j u) T (0,0)):=by
 simp only[World.setCell,dr,h];simp
theorem ahv(w0 w:ai)(rb:Nat)(c:aS)(last:Int)(l:ByteArray)(ws:List Bs)(hb0:bD rb w0 w)(h:eO w0.heap.size rb w c (cf last))(hl:l.size<=1000000)(l0:-1<=last)(l9:last<=9)(hO:gZ 1000000 c last)(hcut:bW 32 (bl l)=kw 0::ws):Calls prog 16 #[aj (J ⟨rb,0,I⟩),aq l] w λv w'=>v=ax (U R (bR last c 0 ws:Nat))/\bD rb w0 w'/\(bR last c 0 ws=0->eO w0.heap.size rb w' (ed c 0 ws (aY (bq (bO c.aw)) false (form 0) ws).2) (eN 0)):=by
 obtain⟨i0,hi,hz0,hz1,hz2⟩:=fj ny;have HS:aa (bD rb w0 w/\eO w0.heap.size rb w c (cf last)):=⟨hb0,h⟩;have HO:aa (gZ 1000000 c last):=hO;have gD:aa (Calls prog 15 #[aq l,U .u8 32] w λe w'=>∃(wt:List ByteArray) (g cap m:Nat),e=ax (af (J ⟨g,0,I⟩) m cap)/\m=wt.length+1/\wt.map bl=ws/\w'.ownsRow w.heap.size 9 1 (af (J ⟨g,0,I⟩) m cap) m ((⟨#[119,105,110,100,111,119]⟩::wt).flatMap bS)/\Below w.heap.size w w'):=by
  refine(pZ l 32 w hl).mono ?_;rintro e w' ⟨wl,g,cap,rfl,h1,h2,h3⟩;rw[hcut]at h1;obtain⟨wt,rfl,h4⟩:=tz h1;exact⟨wt,g,cap,_,rfl,rfl,h4,h2,h3⟩
 have gP:aa (∀V,Below w.heap.size w V->Calls prog 53 #[aj (J ⟨rb,0,I⟩),aq ⟨#[119,105,110,100,111,119]⟩] V λe w'=>e=ax (aI (may last 0))/\Below V.heap.size V w'):=λV hV=>by
  have hc:V.cell? ⟨rb,5,I⟩=J (aq (cf last)):=by
   rcases h.below hV with h1|⟨_,_,_,_,_,_,_,_,_,h1⟩
   ·have:=h1.row;simp[World.cell?,this,bV]
   have:=h1.row;simp[World.cell?,this,bV]
  exact rJ rb last (eN 0) V l0 l9 hc
 clear hb0 h hl l0 l9 hO hcut;go_enter func16,ntmps16
 go_wp2_with fail
 refine aL gD.o ?_;rintro v w1 ⟨wt,wg,wc,m,rfl,hm,fq,hown,hb1⟩;have aO:aa (Below w.heap.size w w1):=hb1;have lQ:aa (w.heap.size<=wg):=by
  show _<=_
  exact(hown.lt wg rfl).1
 have HW:aa (∀V,Below w1.heap.size w1 V->∀j s,(⟨#[119,105,110,100,111,119]⟩::wt)[j]?=J s->V.cell? ⟨wg,j,I⟩=J (aq s)):=λV hV j s hj=>aG hV (qE hown j s hj)
 have HM:aa (m=wt.length+1/\wt.map bl=ws):=⟨hm,fq⟩;have c0:w1.cell? ⟨wg,0,I⟩=J (aq ⟨#[119,105,110,100,111,119]⟩):=HW.o w1 (aC _ _) 0 _ rfl;have m0:(0:Int)<(m:Int):=by omega
 clear hm fq hown hb1 gD;go_wp2_with fail
 refine aL (gP.o w1 aO.o) ?_;rintro v w2 ⟨rfl,hb2⟩;have aW:aa (Below w.heap.size w w2):=aO.o.trans (hb2.mono aO.o.size);have bL:aa (Below w1.heap.size w1 w2):=hb2;have bK:aa (∀V,Below w2.heap.size w2 V->bD rb w0 V):=λV hV=>HS.o.1.trans ((aW.o.trans (hV.mono aW.o.size)).mono HS.o.1.size)
 clear hb2 gP c0
 cases cZ:may last 0 with
 |false=>
  have HE:aa (bR last c 0 ws=1):=tr cZ;clear cZ;go_wp2;go_ret;exact⟨by rw[HE.o];rfl,bK.o _ (aC _ _),λh0=>by rw[HE.o]at h0;cases h0⟩
 |true=>
  have HY:aa (may last 0=true):=cZ;have HK:aa (bR last c 0 ws=(aY (bq (bO c.aw)) false (form 0) ws).1):=tu cZ;clear cZ
  by_cases hN:wt.length=2
  ·obtain⟨s0,s1,rfl⟩:∃s0 s1,wt=[s0,s1]:=by
    match wt,hN with
    |[s0,s1],_=>exact⟨s0,s1,rfl⟩
   obtain rfl:ws=[bl s0,bl s1]:=HM.o.2.symm.trans rfl;obtain rfl:m=2+1:=HM.o.1;clear HM hN;have H1:aa (∀V,Below w.heap.size w V->tq w0.heap.size rb V c (cf last)):=λV hV=>by
    rcases HS.o.2.below hV with h1|⟨_,_,_,es,e,_,_,h1,_,_⟩
    ·exact h1
    have h2:=HO.o.e0 (by have:=HY.o;unfold may at this;rw[aR (by decide)]at this;simp at this;omega);rw[h2]at h1;simp at h1
   have e4:w2.cell? ⟨rb,4,I⟩=J (af I 0 0):=by have:=(H1.o w2 aW.o).row;simp[World.cell?,this,bV]
   go_wp2_with fail
   go_loopw [9,10,11,12] (λnv ov iv _ wr=>∃(j:Nat) (nn:Bool) (vs:List Int) (na:Option az) (nc:Nat),j<=2/\iv=U R j/\ov=aI nn/\nv=af na j nc/\wr.ownsRow w2.heap.size 3 1 (af na j nc) j (vs.flatMap bm)/\Below w2.heap.size w2 wr/\dR (bq (bO c.aw)) [1,1] [bl s0,bl s1] j nn vs) (λ_ _ iv _ _=>2-(intOf iv).toNat)
   case atStart=>exact⟨0,false,[],I,0,bI _,rfl,rfl,rfl,fC _ _ _ _,aC _ _,dR.start _ _ _⟩
   case round=>
    obtain⟨j,nn,vs,na,nc,hj,rfl,rfl,rfl,hown,hb,hf⟩:=hrel;have HB:aa (Below w2.heap.size w2 wr):=hb;have bE:aa (wr.ownsRow w2.heap.size 3 1 (af na j nc) j (vs.flatMap bm)):=hown;have HF:aa (dR (bq (bO c.aw)) [1,1] [bl s0,bl s1] j nn vs):=hf;clear hb hown hf e4
    by_cases hlt:j<2
    ·clear hj
     rcases(show j=0\/j=1 by omega)with rfl|rfl
     clear hlt
     ·have d0:=HW.o wr (bL.o.trans (HB.o.mono bL.o.size)) 1 s0 rfl;have jm:aa _:=uX s0 wr;go_wp2_with fail
      refine aL jm.o ?_;rintro v w3 ⟨rfl,hw3⟩;rw[hw3];clear hw3 w3;have dF:aa _:=@uY (bq (bO c.aw)) s0;clear jm;generalize kV (bl s0)=z at *
      by_cases z0:z<0
      ·have HE:aa (bR last c 0 [bl s0,bl s1]=1):=by show _=_;rw[HK.o];exact HF.o.bad rfl rfl (by rw[dF.o.1,aR z0])
       go_wp2;go_ret;exact⟨by rw[HE.o];rfl,bK.o _ HB.o,λh0=>by rw[HE.o]at h0;cases h0⟩
      have z1:0<=z:=by omega
      obtain⟨n1,n2⟩:=eM (dF.o.2 z1).2;go_wp2_with (at_builtin;refine fw _ rfl _ _ 65 rfl w2.heap.size 3 i0 (U R 0) 1 8 underlying65 hi hz0 hz1 hz2 rfl (by decide) (af na 0 nc) 0 (vs.flatMap bm) rfl (bE.o.alloc _) ⟨wr.heap.size,0,.none⟩ 1 1 [U R z] rfl rfl (h_ _ _ _) (by intro u hu;simp at hu;subst hu;rfl) (by unfold maxLen;omega) (by omega) (by have:=HB.o.size;simp;omega) ?_;intro v1 w4 hown1 dh ij)
      obtain⟨dS,df,cC⟩:=cJ hown1;subst cC;go_roundw
      case rel=>exact⟨0+1,nn,vs++[z],dS,df,by omega,rfl,rfl,rfl,by simpa[dP,bm]using hown1,(HB.o.alloc HB.o.size _).grown dh (by have:=HB.o.size;simp;omega) (λq hq=>(bE.o.lt q hq).1),HF.o.next rfl rfl nn z (by rw[dF.o.1,aK (by omega)];decide) (by rw[dF.o.1,aK (by omega)];simp) (λ_=>(dF.o.2 z1).1.symm)⟩
      case measure=>simp[intOf]
     have d1:=HW.o wr (bL.o.trans (HB.o.mono bL.o.size)) 2 s1 rfl;have jm:aa _:=uX s1 wr;go_wp2_with fail
     refine aL jm.o ?_;rintro v w3 ⟨rfl,hw3⟩;rw[hw3];clear hw3 w3;have dF:aa _:=@uY (bq (bO c.aw)) s1;clear jm;generalize kV (bl s1)=z at *
     by_cases z0:z<0
     ·have HE:aa (bR last c 0 [bl s0,bl s1]=1):=by show _=_;rw[HK.o];exact HF.o.bad rfl rfl (by rw[dF.o.1,aR z0])
      go_wp2;go_ret;exact⟨by rw[HE.o];rfl,bK.o _ HB.o,λh0=>by rw[HE.o]at h0;cases h0⟩
     have z1:0<=z:=by omega
     obtain⟨n1,n2⟩:=eM (dF.o.2 z1).2;go_wp2_with (at_builtin;refine fw _ rfl _ _ 65 rfl w2.heap.size 3 i0 (U R 0) 1 8 underlying65 hi hz0 hz1 hz2 rfl (by decide) (af na 1 nc) 1 (vs.flatMap bm) rfl (bE.o.alloc _) ⟨wr.heap.size,0,.none⟩ 1 1 [U R z] rfl rfl (h_ _ _ _) (by intro u hu;simp at hu;subst hu;rfl) (by unfold maxLen;omega) (by omega) (by have:=HB.o.size;simp;omega) ?_;intro v1 w4 hown1 dh ij)
     obtain⟨dS,df,cC⟩:=cJ hown1;subst cC;go_roundw
     case rel=>exact⟨1+1,nn,vs++[z],dS,df,by omega,rfl,rfl,rfl,by simpa[dP,bm]using hown1,(HB.o.alloc HB.o.size _).grown dh (by have:=HB.o.size;simp;omega) (λq hq=>(bE.o.lt q hq).1),HF.o.next rfl rfl nn z (by rw[dF.o.1,aK (by omega)];decide) (by rw[dF.o.1,aK (by omega)];simp) (λ_=>(dF.o.2 z1).1.symm)⟩
     case measure=>simp[intOf]
    obtain rfl:j=2:=by omega
    clear hlt hj;obtain⟨cA,fu⟩:=(show dR (bq (bO c.aw)) [1,1] [bl s0,bl s1] ([1,1]:List Nat).length nn vs from HF.o).done rfl
    cases nn with
    |true=>
     have HE:aa (bR last c 0 [bl s0,bl s1]=5):=by show _=_;rw[HK.o];exact cA
     clear cA fu;go_wp2;go_ret;exact⟨by rw[HE.o];rfl,bK.o _ HB.o,λh0=>by rw[HE.o]at h0;cases h0⟩
    |false=>
     have ft:aa (bR last c 0 [bl s0,bl s1]=0):=by show _=_;rw[HK.o];exact cA
     have lR:aa ((aY (bq (bO c.aw)) false [1,1] [bl s0,bl s1]).2=vs):=fu rfl;have hlen:=HF.o.len;clear cA fu;obtain⟨v0,v1,rfl⟩:∃v0 v1,vs=[v0,v1]:=by
      match vs,hlen with
      |[v0,v1],_=>exact⟨v0,v1,rfl⟩
     obtain⟨ng,df,ki⟩:=rK bE.o
     cases ki
     have lS:aa (w2.heap.size<=ng):=by show _<=_;exact(bE.o.lt ng rfl).1
     have x0:=mq bE.o 0 v0 rfl;have x1:=mq bE.o 1 v1 rfl;have cY:aa (Below w.heap.size w wr):=aW.o.trans (HB.o.mono aW.o.size);have d0:=HW.o wr (bL.o.trans (HB.o.mono bL.o.size)) 0 _ rfl;have d1:=HW.o wr (bL.o.trans (HB.o.mono bL.o.size)) 1 _ rfl;have d2:=HW.o wr (bL.o.trans (HB.o.mono bL.o.size)) 2 _ rfl;clear hlen HF;have hrow:=(H1.o wr cY.o).row;have eH:¬rb=wg:=by have:=bJ ((H1.o w (aC _ _)).row);have:=lQ.o;omega
     have u_:¬wg=rb:=λe2=>eH e2.symm
     have gF:¬rb=ng:=by have:=bJ ((H1.o w (aC _ _)).row);have:=aW.o.size;have:=lS.o;omega
     have ve:¬ng=rb:=λe2=>gF e2.symm
     have r0:wr.cell? ⟨rb,0,I⟩=J (U R c.closed):=by simp[World.cell?,hrow,bV]
     have f0:wr.frozen? ⟨rb,0,I⟩=false:=by simp[World.frozen?,hrow]
     have r1:wr.cell? ⟨rb,1,I⟩=J (U R c.opn):=by simp[World.cell?,hrow,bV]
     have f1:wr.frozen? ⟨rb,1,I⟩=false:=by simp[World.frozen?,hrow]
     have r2:wr.cell? ⟨rb,2,I⟩=J (U R c.cycle):=by simp[World.cell?,hrow,bV]
     have f2:wr.frozen? ⟨rb,2,I⟩=false:=by simp[World.frozen?,hrow]
     have r3:wr.cell? ⟨rb,3,I⟩=J (U R c.bC):=by simp[World.cell?,hrow,bV]
     have f3:wr.frozen? ⟨rb,3,I⟩=false:=by simp[World.frozen?,hrow]
     have r5:wr.cell? ⟨rb,5,I⟩=J (aq (cf last)):=by simp[World.cell?,hrow,bV]
     have f5:wr.frozen? ⟨rb,5,I⟩=false:=by simp[World.frozen?,hrow]
     clear hrow;go_wp2;go_ret
     refine⟨by rw[ft.o];rfl,?_,λ_=>a_ ?_⟩
     ·exact(((bK.o _ HB.o).setCell (p:=⟨rb,5,I⟩) (H1.o w (aC _ _)).lo _).setCell (p:=⟨rb,0,I⟩) (H1.o w (aC _ _)).lo _).setCell (p:=⟨rb,1,I⟩) (H1.o w (aC _ _)).lo _
     rw[show (aY (bq (bO c.aw)) false (form 0) [bl s0,bl s1]).2=_ from lR.o];exact((((H1.o wr cY.o).pk (c':=c) (lw':=⟨#[119,105,110,100,111,119]⟩) (H1.o wr cY.o).nil 5 (aq ⟨#[119,105,110,100,111,119]⟩) rfl).pk (c':=⟨v0,c.opn,c.cycle,c.bC,c.aw⟩) (lw':=⟨#[119,105,110,100,111,119]⟩) (H1.o wr cY.o).nil 0 (U R v0) rfl).pk (c':=⟨v0,v1,c.cycle,c.bC,c.aw⟩) (lw':=⟨#[119,105,110,100,111,119]⟩) (H1.o wr cY.o).nil 1 (U R v1) rfl)
  have HE:aa (bR last c 0 ws=1):=by show _=_;rw[HK.o];exact rL _ _ _ (by rw[<- HM.o.2,fL];exact hN)
  have mN:¬(m:Int)=2+1:=by have:=HM.o.1;omega
  clear hN;go_wp2;go_ret;exact⟨by rw[HE.o];rfl,bK.o _ (aC _ _),λh0=>by rw[HE.o]at h0;cases h0⟩
end Go.Proofs.YtgmfhkjghmdgiaaGreatDoor
