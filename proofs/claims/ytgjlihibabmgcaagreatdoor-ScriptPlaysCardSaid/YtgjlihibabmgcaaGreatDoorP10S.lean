/-
  Several texts as one: RefW, Sim, RefSim, RefApp, RefSum, RefBody, RefFull, RefAppGo, KmMem, KmOps, KmApp, KmTick, KmLoop, KmApR, KmLong, KmTicks, RefHeld, RefRecs, KmOpen.
-/
import Derived.Test.YtgjlihibabmgcaaGreatDoorP09S
set_option linter.all false
set_option maxHeartbeats 40000000
set_option maxRecDepth 100000
open Go renaming Addr→aC,Value→aw,World→ak
open Go.Addr renaming mk→ai
open Go.Ending renaming returned→ax
open Go.IntKind renaming i64→af
open Go.Obj renaming cells→ay
open Go.RowKit renaming Hid→U
open Go.Value renaming bool→aL,int→ae,pointer→aq,slice→aj,string→aA,tuple→bn
open Go.World renaming cell?→aH,frozen?→bM,setCell→bN
open Option renaming none→I,some→J
open Go.Proofs.Tryz
namespace Go.Proofs.YtgjlihibabmgcaaGreatDoor
open Go.Extern Go.Extern.Stop Go.RowKit Go.Stop
variable{B b bm g i j n p rm:Nat}{CF V w w' wx:ak}{E:EA}{L:List Rec}{S:Nat->Prop}{d:bR}{dead:Bool}{e:aM}{l:List UInt8}{m m':cr}{r x:Rec}{s:aI}{v v':aw}
def cg.drew(h:cg w b m):cg w.drew b m:=⟨h.heap⟩
def cr.splice(m:cr)(p k:Nat)(t:ByteArray):ByteArray:=m.B.extract 0 p++t.extract 0 k++m.B.extract (p+k) m.B.size
def aka(b:Nat)(m:cr)(p:Int)(t:ByteArray)(j:Nat)(w:ak)(h:cg w b m)(hz:m.B.size<=4096)(hp:p<=9223372036854775807)(he:m.err p t.size=j+1):Calls prog 179 #[aq (J (ai b 0 I)),ae af p,aA t] w λe w'=>e=ax (ae af ((j+1:Nat):Int))/\w'=w:=by
 change U _ at he
 have A4:(0:Int)<((j+1:Nat):Int):=by omega
 go_enter func179,ntmps179
 go_wp2_with fail
 apply(Fv b m p _ _ h hz hp).mono;rintro e w1 ⟨rfl,rfl⟩;rw[he.o];go_wp2;go_ret;exact⟨rfl,rfl⟩
def akb(b:Nat)(m:cr)(p:Nat)(t:ByteArray)(w:ak)(h:cg w b m)(hz:m.B.size<=4096)(he:m.err p t.size=0)(hc:m.mY=true)(hl:m.left<t.size)(hw:m.written+t.size<=1099511627776):Calls prog 179 #[aq (J (ai b 0 I)),ae af (p:Int),aA t] w λe w'=>e=ax (ae af 8)/\cg w' b { B:=m.splice p m.left t,off:=true,left:=0,mY:=true,written:=m.written+m.left }/\w.grownBy w' (J b)/\w'.heap.size=w.heap.size:=by
 have kK:p+t.size<=m.B.size:=by
  unfold cr.err at he
  split at he
  ·cases he
  omega
 change U _ at he
 have hl':(m.left:Int)<(t.size:Int):=by omega
 have c0:=h.c0;have c1:=h.c1;have c2:=h.c2;have c3:=h.c3;have c4:=h.c4;rw[hc]at c3;have f0:=h.frozen 0;have f1:=h.frozen 1;have f2:=h.frozen 2;have f4:=h.frozen 4;have kU:(0:Int)<=(p:Int):=by omega
 have pO:(p:Int)<=(m.B.size:Int):=by omega
 have Vc:(p:Int)+(m.left:Int)<=(m.B.size:Int):=by omega
 go_enter func179,ntmps179
 go_wp2_with fail
 apply(Fv b m p _ _ h hz (by omega)).mono;rintro e w1 ⟨rfl,rfl⟩;rw[he.o];go_upto_region 8 with fail
 go_region
 go_wp2;go_ret;have R:=((((h.Da true).NN (m.splice p m.left t)).iT (m.written+m.left)).A0 0).drew;have ew:((m.written+m.left:Nat):Int)=(m.written:Int)+(m.left:Int):=by omega
 have ez:((0:Nat):Int)=0:=rfl;rw[ew,ez]at R;rw[hc]at R;exact⟨rfl,R,tM (dz (dz (dz (dz (fG _ _) _ _) _ _) _ _) _ _) ((aF _ _).drew),by simp⟩
def cr.I5(m:cr)(p:Nat)(t:ByteArray):ByteArray:=m.B.extract 0 p++t++m.B.extract (p+t.size) m.B.size
def akc(b:Nat)(m:cr)(p:Nat)(t:ByteArray)(w:ak)(h:cg w b m)(hz:m.B.size<=4096)(he:m.err p t.size=0)(hc:m.mY=false)(hw:m.written+t.size<=1099511627776):Calls prog 179 #[aq (J (ai b 0 I)),ae af (p:Int),aA t] w λe w'=>e=ax (ae af 0)/\cg w' b { m with B:=m.I5 p t,written:=m.written+t.size }/\w.grownBy w' (J b)/\w'.heap.size=w.heap.size:=by
 have kK:p+t.size<=m.B.size/\m.off=false:=by
  unfold cr.err at he
  split at he
  ·cases he
  split at he
  ·cases he
  rename_i h1 h2;exact⟨by omega,by simpa using h2⟩
 obtain⟨kK,fj⟩:=kK;change U _ at he
 have c0:=h.c0;have c1:=h.c1;have c2:=h.c2;have c3:=h.c3;have c4:=h.c4;rw[fj]at c1;rw[hc]at c3;have f0:=h.frozen 0;have f2:=h.frozen 2;have f4:=h.frozen 4;have kU:(0:Int)<=(p:Int):=by omega
 have pO:(p:Int)<=(m.B.size:Int):=by omega
 have Vc:(p:Int)+(t.size:Int)<=(m.B.size:Int):=by omega
 have ew:((m.written+t.size:Nat):Int)=(m.written:Int)+(t.size:Int):=by omega
 have R:=((h.NN (m.I5 p t)).iT (m.written+t.size)).drew;rw[ew]at R;change U _ at R
 go_enter func179,ntmps179
 go_wp2_with fail
 apply(Fv b m p _ _ h hz (by omega)).mono;rintro e w1 ⟨rfl,rfl⟩;rw[he.o];go_upto_region 8 with fail
 go_region
 go_wp2;go_ret;exact⟨rfl,R,tM (dz (dz (fG _ _) _ _) _ _) ((aF _ _).drew),by simp⟩
def akd(b:Nat)(m:cr)(p:Nat)(t:ByteArray)(w:ak)(h:cg w b m)(hz:m.B.size<=4096)(he:m.err p t.size=0)(hc:m.mY=true)(hl:t.size<=m.left)(Fs:m.left<=9223372036854775807)(hw:m.written+t.size<=1099511627776):Calls prog 179 #[aq (J (ai b 0 I)),ae af (p:Int),aA t] w λe w'=>e=ax (ae af 0)/\cg w' b { m with B:=m.I5 p t,written:=m.written+t.size,left:=m.left-t.size }/\w.grownBy w' (J b)/\w'.heap.size=w.heap.size:=by
 have kK:p+t.size<=m.B.size/\m.off=false:=by
  unfold cr.err at he
  split at he
  ·cases he
  split at he
  ·cases he
  rename_i h1 h2;exact⟨by omega,by simpa using h2⟩
 obtain⟨kK,fj⟩:=kK;change U _ at he
 have c0:=h.c0;have c1:=h.c1;have c2:=h.c2;have c3:=h.c3;have c4:=h.c4;rw[fj]at c1;rw[hc]at c3;have f0:=h.frozen 0;have f2:=h.frozen 2;have f4:=h.frozen 4;have kU:(0:Int)<=(p:Int):=by omega
 have pO:(p:Int)<=(m.B.size:Int):=by omega
 have Vc:(p:Int)+(t.size:Int)<=(m.B.size:Int):=by omega
 have ew:((m.written+t.size:Nat):Int)=(m.written:Int)+(t.size:Int):=by omega
 have el:((m.left-t.size:Nat):Int)=(m.left:Int)-(t.size:Int):=by omega
 have hl':¬(m.left:Int)<(t.size:Int):=by omega
 have R:=(((h.NN (m.I5 p t)).iT (m.written+t.size)).A0 (m.left-t.size)).drew;rw[ew,el]at R;change U _ at R
 go_enter func179,ntmps179
 go_wp2_with fail
 apply(Fv b m p _ _ h hz (by omega)).mono;rintro e w1 ⟨rfl,rfl⟩;rw[he.o];go_upto_region 8 with fail
 go_region
 go_wp2;go_ret;exact⟨rfl,R,tM (dz (dz (dz (fG _ _) _ _) _ _) _ _) ((aF _ _).drew),by simp⟩
structure gy(s:aI)(m:cr):Prop where
 len:s.bytes.length=4096
 size:s.size<=4096
 b:m.B.data.toList=s.bytes.take s.size
 off:m.off=s.off
 cut:m.mY=s.cut
 left:s.cut=true->m.left=s.left
 written:m.written=s.written
 bl:s.left<=9223372036854775807
 bm:m.left<=9223372036854775807
def gy.bsize(h:gy s m):m.B.size=s.size:=by
 have:=nh List.length h.b;rw[eQ,h.len]at this;have e:m.B.data.toList.length=m.B.size:=by simp
 have:=h.size;omega
def gy.err(h:gy s m)(p n:Int):m.err p n=s.err p n:=by
 unfold cr.err aI.err;rw[h.bsize,h.off]
def ake(l x:List UInt8)(p k z:Nat)(hk:x.length=k)(h:p+k<=z)(hz:z<=l.length):(l.take p++x++l.drop (p+k)).take z=(l.take z).take p++x++(l.take z).drop (p+k):=by
 have h1:(l.take p++x).length=p+k:=by simp[hk];omega
 rw[AW,h1,iM (by rw[h1];exact h),List.take_take,List.drop_take];congr 2
 ·congr 2;omega
def gy.spliced(h:gy s m)(p k:Nat)(t x:ByteArray)(hk:k<=t.size)(hf:p+t.size<=s.size)(hx:x.data.toList=t.data.toList.take k):(m.B.extract 0 p++x++m.B.extract (p+k) m.B.size).data.toList=(s.ck p (t.data.toList.take k)).bytes.take (s.ck p (t.data.toList.take k)).size:=by
 have hz:=h.size;have hl:(t.data.toList.take k).length=k:=by rw[eQ];simp;omega
 rw[aI.Dc,aI.PG _ s p (by rw[hl,h.len];omega),hl,ake _ _ p k _ hl (by omega) (by rw[h.len];exact hz)];simp only[tq,yq,xh,hx,h.b,h.bsize,List.drop_zero,Nat.sub_zero];congr 1
 rw[iM];simp[h.len]
 omega
def akf(l:List UInt8):∀(s:aI) (p:Nat),(s.ck p l).bytes.length=s.bytes.length:=by
 induction l with
 |nil=>intro s p;rfl
 |cons y r ih=>intro s p;simp only[aI.ck,ih];simp[aI.put]
def gy.ck(h:gy s m)(p k:Nat)(t x:ByteArray)(l':Nat)(hk:k<=t.size)(hf:p+t.size<=s.size)(hx:x.data.toList=t.data.toList.take k)(hl:s.cut=true->l'=s.left-k)(hl2:l'<=9223372036854775807):gy (s.ck p (t.data.toList.take k)) { B:=m.B.extract 0 p++x++m.B.extract (p+k) m.B.size,off:=m.off,left:=l',mY:=m.mY,written:=m.written+k }:=by
 have hlen:(t.data.toList.take k).length=k:=by rw[eQ];simp;omega
 refine⟨by rw[akf];exact h.len,by rw[aI.Dc];exact h.size,h.spliced p k t x hk hf hx,by rw[aI.F2];exact h.off,by rw[aI.JE];exact h.cut,?_,?_,?_,hl2⟩
 ·intro hc;rw[aI.JE]at hc;rw[aI.yN,aU hc,hlen];exact hl hc
 ·rw[aI.xj,hlen,<- h.written]
 have:=h.bl;rw[aI.yN,hlen]
 split<;>omega
def gy.akg(h:gy s m)(x:Bool):gy { s with off:=x } { m with off:=x }:=⟨h.len,h.size,h.b,rfl,h.cut,h.left,h.written,h.bl,h.bm⟩
def gy.on(h:gy s m):gy { s with off:=false,cut:=false,left:=0 } { m with off:=false,mY:=false }:=⟨h.len,h.size,h.b,rfl,rfl,λe=>(by cases e),h.written,bA _,h.bm⟩
def gy.cutAt(h:gy s m)(n:Nat)(hn:n<=9223372036854775807):gy { s with cut:=true,left:=n } { m with mY:=true,left:=n }:=⟨h.len,h.size,h.b,h.off,rfl,λ_=>rfl,h.written,hn,hn⟩
def aI.akh(s:aI)(p n:Int):s.err p n=0\/s.err p n=1+1\/s.err p n=7+1:=by
 unfold aI.err
 split
 ·exact aN (aT rfl)
 split
 ·exact aN (aN rfl)
 exact aT rfl
def aI.aki{p n:Int}(h:s.err p n=0):0<=p/\0<=n/\p+n<=s.size/\s.off=false:=by
 unfold aI.err at h
 split at h
 ·cases h
 split at h
 ·cases h
 rename_i h1 h2;exact⟨by omega,by omega,by omega,by simpa using h2⟩
section
def akj(h:s.err p l.length=0):s.eD p l=s.write p l:=by unfold aI.eD;rw[aU h]
def akk(h:s.err p l.length=j+1):s.eD p l=(s,j+1):=by
 unfold aI.eD;rw[aK (by omega),h]
def NP(bm:Nat)(s:aI)(m:cr)(p:Nat)(t:ByteArray)(iD:gy s m)(hw:s.written+t.size<=1099511627776)(hp:(p:Int)<=9223372036854775807):∃m':cr,gy (s.eD p t.data.toList).1 m' /\
   (∀wb,cg wb bm m->Calls prog 179 #[aq (J (ai bm 0 I)),ae af (p:Int),aA t] wb λe w'=>e=ax (ae af ((s.eD p t.data.toList).2:Nat))/\cg w' bm m'/\wb.grownBy w' (J bm)):=by
 have qf:m.B.size<=4096:=by rw[iD.bsize];exact iD.size
 have hlen:t.data.toList.length=t.size:=by simp
 have hno:∀i,s.err p t.size=i+1->∃m':cr,gy (s.eD p t.data.toList).1 m' /\
   (∀wb,cg wb bm m->Calls prog 179 #[aq (J (ai bm 0 I)),ae af (p:Int),aA t] wb λe w'=>e=ax (ae af ((s.eD p t.data.toList).2:Nat))/\cg w' bm m'/\wb.grownBy w' (J bm)):=λi he=>by
  rw[akk (by rw[hlen];exact he)];exact⟨m,iD,λwb h=>(aka bm m p t i wb h qf hp (by rw[iD.err];exact he)).mono λe w' ⟨h1,h2⟩=>by subst h2;exact⟨h1,h,fG _ _⟩⟩
 rcases s.akh p t.size with he|he|he
 ·obtain⟨-,-,kK,fj⟩:=aI.aki he;have I6:m.err p t.size=0:=by rw[iD.err];exact he
  have NQ:m.written+t.size<=1099511627776:=by rw[iD.written];exact hw
  have NR:p+t.size<=s.size:=by omega
  rw[akj (by rw[hlen];exact he)]
  by_cases hc:s.cut=true/\s.left<t.size
  ·have hl:=iD.left hc.1;have CD:m.mY=true:=by rw[iD.cut];exact hc.1
   have hwr:s.write p t.data.toList=({ s.ck p (t.data.toList.take s.left)with off:=true },8):=by unfold aI.write;rw[aU ⟨hc.1,by simpa using hc.2⟩]
   rw[hwr]
   refine⟨{ B:=m.splice p m.left t,off:=true,left:=0,mY:=true,written:=m.written+m.left },?_,λwb h=>?_⟩
   ·have:=(iD.ck p s.left t (t.extract 0 s.left) 0 (by omega) NR (by rw[xh];simp) (λ_=>by omega) (by omega)).akg true;unfold cr.splice;rw[hl];rw[CD]at this;exact this
   exact(akb bm m p t wb h qf I6 CD (by omega) NQ).mono λe w' ⟨h1,h2,h3,_⟩=>⟨h1,h2,h3⟩
  have ht:t.data.toList.take t.size=t.data.toList:=iM (by simp);have hwr:s.write p t.data.toList=(s.ck p t.data.toList,0):=by unfold aI.write;rw[aK (by intro h;exact hc ⟨h.1,by simpa using h.2⟩)]
  rw[hwr]
  cases hcut:s.cut
  ·have CD:m.mY=false:=by rw[iD.cut];exact hcut
   have hS:=iD.ck p _ t t _ (aR _) NR ht.symm (λe=>by rw[hcut]at e;cases e) iD.bm;rw[ht]at hS;exact⟨_,hS,λwb h=>(akc bm m p t wb h qf I6 CD NQ).mono λe w' ⟨h1,h2,h3,_⟩=>⟨h1,h2,h3⟩⟩
  have CD:m.mY=true:=by rw[iD.cut];exact hcut
  have hl:=iD.left hcut;have hlt:t.size<=s.left:=by
   rcases fF s.left t.size with h|h
   ·exact absurd ⟨hcut,h⟩ hc
   exact h
  have hS:=iD.ck p _ t t (m.left-t.size) (aR _) NR ht.symm (λ_=>by rw[hl]) (by have:=iD.bm;omega);rw[ht]at hS;exact⟨_,hS,λwb h=>(akd bm m p t wb h qf I6 CD (by omega) iD.bm NQ).mono λe w' ⟨h1,h2,h3,_⟩=>⟨h1,h2,h3⟩⟩
 ·exact hno 1 he
 exact hno 7 he
def gy.byte(h:gy s m)(p:Nat)(hp:p<s.size):∃BG:p<m.B.size,m.B[p]=s.bytes.getD p 0:=by
 have hz:=h.bsize
 refine⟨by omega,?_⟩;have hl:p<m.B.data.toList.length:=by simp;omega
 have e:m.B.data.toList[p]?=(s.bytes.take s.size)[p]?:=by rw[h.b]
 rw[List.getElem?_take_of_lt hp,bq hl,bq (by rw[h.len];have:=h.size;omega)]at e;rw[fp,bq (by rw[h.len];have:=h.size;omega)];exact fg e
structure gU(w:ak)(B rm bm:Nat)(v:aw)(L:List Rec)(dead:Bool):Prop where
 heap:w.heap[rm]?=J (ay #[aq (J ⟨bm,0,.none⟩),v,aL dead] 94 (0,0))
 sl:iK w B v L
 sep:v.ownBlock≠J rm/\v.ownBlock≠J bm
 lo:B<=rm
 ne:rm≠bm
def gU.lt(h:gU w B rm bm v L dead):rm<w.heap.size:=bL h.heap
def gU.c0(h:gU w B rm bm v L dead):w.cell? ⟨rm,0,.none⟩=J (aq (J ⟨bm,0,.none⟩)):=by simp[aH,h.heap]
def gU.c1(h:gU w B rm bm v L dead):w.cell? ⟨rm,1,.none⟩=J v:=by simp[aH,h.heap]
def gU.c2(h:gU w B rm bm v L dead):w.cell? ⟨rm,2,.none⟩=J (aL dead):=by simp[aH,h.heap]
def gU.frozen(h:gU w B rm bm v L dead)(i:Nat):w.frozen? ⟨rm,i,.none⟩=false:=by simp[bM,h.heap]
def gU.off(h:gU w B rm bm v L dead)(ho:aG S w w')(h1:¬S rm)(h2:∀g,v.ownBlock=J g->¬S g):gU w' B rm bm v L dead:=
 ⟨(ho.block rm h.lt h1).trans h.heap,h.sl.off ho h2,h.sep,h.lo,h.ne⟩
def gU.below(h:gU w B rm bm v L dead)(hb:Below w.heap.size w w'):gU w' B rm bm v L dead:=
 h.off (aG.dm hb (λ_=>False)) (λe=>e) (λ_ _ e=>e)
def gU.spent(h:gU w B rm bm v L dead):gU (w.setCell ⟨rm,2,.none⟩ (aL true)) B rm bm v L true:=by
 refine⟨?_,h.sl.off (aG.cG (dz (fG w _) _ _)) (λg e e2=>h.sep.1 (by rw[e,e2])),h.sep,h.lo,h.ne⟩;simp[bN,cL,h.heap]
def I7(n:Nat)(w:ak):Calls prog 108 #[ae af (n:Int)] w λe w'=>e=ax (aA ⟨#[UInt8.ofNat n]⟩)/\Below w.heap.size w w':=by
 have e:U ((n:Int)%256=((UInt8.ofNat n).toNat:Int)):=by show _=_;rw[UInt8.toNat_ofNat'];omega
 have cv:=AQ (P:=prog) (w.alloc (ay #[ae .u8 ((n:Int)%256)] 5)) 41 9 5 ⟨w.heap.size,0,.none⟩ 1 [UInt8.ofNat n] underlying41 underlying5 underlying9 (λj hj=>by
  have:j=0:=by simpa using hj
  subst this;rw[e.o];exact dr _ _ _ _ rfl)
 simp only[kW]at cv;go_enter func108,ntmps108
 go_wp2
 go_ret;exact⟨rfl,(aF _ _).alloc (aR _) _⟩
def akl(i x:Nat):(⟨#[UInt8.ofNat (x / 256^i%256)]⟩:ByteArray)++⟨(be i x).toArray⟩=⟨(be (i+1) x).toArray⟩:=by
 apply ByteArray.ext
 rw[tq];have e:UInt8.ofNat (x / 256^i%256)=UInt8.ofNat (x / 256^i):=by
  apply UInt8.toNat_inj.1
  simp only[UInt8.toNat_ofNat'];omega
 rw[e];simp[be]
def akm(x i:Nat):((x / 256^i:Nat):Int) / 256=((x / 256^(i+1):Nat):Int):=by
 rw[Nat.pow_succ,<- Nat.div_div_eq_div_mul];omega
def akn(x many:Nat)(w:ak)(hx:x<=9223372036854775807)(hm:many<=16):Calls prog 205 #[ae af (x:Int),ae af (many:Int)] w λe w'=>e=ax (aA ⟨(be many x).toArray⟩)/\Below w.heap.size w w':=by
 go_enter func205,ntmps205
 go_wp2_with fail
 go_loopw [0,5,6] (λn s i wr=>∃k:Nat,k<=many/\i=ae af k/\n=ae af ((x / 256^k:Nat):Int)/\s=aA ⟨(be k x).toArray⟩/\Below w.heap.size w wr) (λ_ _ i _=>many-(intOf i).toNat)
 case atStart=>exact⟨0,bA _,rfl,by simp,rfl,aF _ _⟩
 case round=>
  obtain⟨k,hk,rfl,rfl,rfl,hb⟩:=hrel;have hd:x / 256^k<=x:=Nat.div_le_self _ _;have HC:U _:=akl k x;have HD:U _:=akm x k;have P6:(⟨(be k x).toArray⟩:ByteArray).size=k:=by show (be k x).toArray.size=k;rw[rV,F4]
  generalize hy:x / 256^k=y at *;generalize hT:(⟨(be k x).toArray⟩:ByteArray)=T at *;change U _ at hT hy
  have aor:(T.size:Int)<=16:=by omega
  have aos:T.size<=16:=by omega
  by_cases hlt:k<many
  ·have HM:U ((y:Int)%256=((y%256:Nat):Int)):=by show _=_;omega
   go_wp2_with fail
   rw[HM.o]
   apply(I7 _ wr).mono;rintro e w2 ⟨rfl,hb2⟩;go_wp2_with fail
   rw[HC.o,HD.o];exact⟨⟨_,by omega,by go_num,rfl,rfl,hb.trans (hb2.mono hb.size)⟩,by simp[intOf];omega⟩
  have ek:k=many:=by omega
  subst ek;go_wp2;go_ret;rw[hT.o];exact⟨rfl,hb⟩
def ako(k:Nat):∀s,yP (ny k s)=ny (k+1) s:=by
 induction k with
 |zero=>intro s;rfl
 |succ k ih=>intro s;exact ih _
def akp(a b:Nat):(a ^^^ b) / 2=a / 2 ^^^ b / 2:=by
 apply Nat.eq_of_testBit_eq
 intro i;simp only[Nat.testBit_div_two,Nat.testBit_xor]
def Au(c u:Nat):Nat:=if (c ^^^ u)%2=1 then (c / 2) ^^^ 3988292384 else c / 2
def akq(c u:Nat):Au c u ^^^ (u / 2)=yP (c ^^^ u):=by
 unfold Au yP;rw[akp]
 rcases Nat.mod_two_eq_zero_or_one (c ^^^ u)with h|h
 ·rw[h,aK (ar rfl),Nat.mul_zero,Nat.xor_zero]
 rw[h,aU rfl,qT,Nat.xor_assoc,Nat.xor_comm 3988292384,<- Nat.xor_assoc]
def akr{c u:Nat}(h:c<4294967296):Au c u<4294967296:=by
 unfold Au
 split
 ·exact CW (n:=32) (by omega) (ar rfl)
 omega
def NS(a b:Nat)(ha:a<4294967296)(hb:b<4294967296):bits BinOp.xor IntKind.i64 (a:Int) (b:Int)=((a ^^^ b:Nat):Int):=by
 have hx:a ^^^ b<2^32:=CW (by omega) (by omega);have ha':a%2^IntKind.i64.bits=a:=Nat.mod_eq_of_lt (cK ha (ar rfl));have hb':b%2^IntKind.i64.bits=b:=Nat.mod_eq_of_lt (cK hb (ar rfl));simp only[bits,BitVec.ofInt_natCast,BitVec.toNat_xor,BitVec.toNat_ofNat,ha',hb'];exact PS _ (Int.natCast_nonneg _) (by omega)
def aks(v j:Nat):((v:Int) / 2^j)=((v / 2^j:Nat):Int):=by
 rw[Int.natCast_ediv,Int.natCast_pow];rfl
def akt(m u v j s:Nat)(hu:u=v / 2^j)(h:m ^^^ u=ny j s):Au m u ^^^ (v / 2^(j+1))=ny (j+1) s:=by
 rw[<- ako,<- h,<- akq,hu,Nat.pow_succ,Nat.div_div_eq_div_mul]
def aku(T:ByteArray)(w:ak)(hl:T.size<=4096):Calls prog 206 #[aA T] w λe w'=>e=ax (ae af (rY T.data.toList:Nat))/\w'=w:=by
 go_enter func206,ntmps206
 go_wp2_with fail
 go_loopw [3,4] (λc i wr=>∃(k n:Nat),k<=T.size/\n<4294967296/\i=ae af k/\c=ae af (n:Int)/\tN n (T.data.toList.drop k)=tN 4294967295 T.data.toList/\wr=w) (λ_ i _=>T.size-(intOf i).toNat)
 case atStart=>exact⟨0,_,bA _,by decide,rfl,rfl,by simp,rfl⟩
 case round=>
  obtain⟨k,n,hk,hn,rfl,rfl,yQ,rfl⟩:=hrel
  by_cases hlt:k<T.size
  ·have hv:=(T[k]).toNat_lt;have HN:U (tN (ny 8 (n ^^^ T[k].toNat)) (T.data.toList.drop (k+1))=tN 4294967295 T.data.toList):=by
    show _=_
    rw[<- yQ,lX (i:=k) (l:=T.data.toList) (by simpa using hlt)];rfl
   have k0:(0:Int)<=(k:Int):=by omega
   have k1:(k:Int)<(T.size:Int):=by omega
   go_wp2_with fail
   go_loopw [3,5] (λc i wx=>∃(j m:Nat),j<=8/\m<4294967296/\i=ae af j/\c=ae af (m:Int)/\m ^^^ (T[k].toNat / 2^j)=ny j (n ^^^ T[k].toNat)/\wx=wr) (λ_ i _=>8-(intOf i).toNat)
   case atStart=>exact⟨0,n,bA _,hn,rfl,rfl,by simp[ny],rfl⟩
   case round=>
    obtain⟨j,m,hj,hm,rfl,rfl,hst,rfl⟩:=hrel
    by_cases YJ:j<8
    ·have hu:T[k].toNat / 2^j<4294967296:=by
      have:=Nat.div_le_self T[k].toNat (2^j);omega
     have SH:U _:=aks T[k].toNat j;have HX:U _:=NS m _ hm hu;have HR:U _:=akt m _ _ j _ rfl hst;have HL:U _:=akr (u:=T[k].toNat / 2^j) hm;have HP:U _:=NS (m / 2) 3988292384 (by omega) (ar rfl)
     rcases Nat.mod_two_eq_zero_or_one (m ^^^ (T[k].toNat / 2^j))with zA|zA
     ·have HV:U (Au m _=m / 2):=aK (by rw[zA];decide);have akv:((bits BinOp.xor IntKind.i64 (m:Int) ((T[k].toNat:Int) / 2^j)).tmod 2==1)=false:=by
       rw[SH.o,HX.o,Int.tmod_eq_emod_of_nonneg (by omega),gX];omega
      go_wp2_with fail
      rw[HV.o]at HR HL;exact⟨⟨_,_,by omega,HL,by go_num,by congr 1,HR,trivial⟩,by simp[intOf];omega⟩
     have HV:U (Au m _=m / 2 ^^^ 3988292384):=aU zA;have akv:((bits BinOp.xor IntKind.i64 (m:Int) ((T[k].toNat:Int) / 2^j)).tmod 2==1)=true:=by
      rw[SH.o,HX.o,Int.tmod_eq_emod_of_nonneg (by omega),qw];omega
     have vL:U (bits BinOp.xor IntKind.i64 ((m:Int) / 2) 3988292384=((m / 2 ^^^ 3988292384:Nat):Int)):=by
      show _=_
      rw[show (m:Int) / 2=((m / 2:Nat):Int) by omega];exact HP
     go_wp2_with fail
     rw[HV.o]at HR HL;exact⟨⟨_,_,by omega,HL,by go_num,nh _ vL,HR,trivial⟩,by simp[intOf];omega⟩
    have ej:j=8:=by omega
    subst ej;have HT:U (m=ny 8 (n ^^^ T[k].toNat)):=by
     show _=_
     rw[<- hst,Nat.div_eq_of_lt (by omega),Nat.xor_zero]
    go_wp2
    go_roundw
    case rel=>exact⟨k+1,m,by omega,hm,by go_num,rfl,by rw[HT.o];exact HN,trivial⟩
    case measure=>simp[intOf];omega
  have HX:U (bits BinOp.xor IntKind.i64 (n:Int) 4294967295=((rY T.data.toList:Nat):Int)):=by
   show _=_
   have e:T.data.toList.drop k=[]:=yI (by simp;omega);rw[e]at yQ;have:=NS n 4294967295 hn (ar rfl);rw[show ((4294967295:Nat):Int)=4294967295 from rfl]at this;rw[this,Nat.xor_comm];unfold rY;rw[<- yQ];rfl
  go_wp2;go_ret;rw[HX.o];exact⟨rfl,rfl⟩
def akw(x many:Nat)(w:ak)(hx:x<=9223372036854775807/\many<=16):Calls prog 205 #[ae af (x:Int),ae af (many:Int)] w λe w'=>∃T:ByteArray,e=ax (aA T)/\T.data.toList=be many x/\T.size=many/\Below w.heap.size w w':=
 (akn x many w hx.1 hx.2).mono λe w' ⟨h1,h2⟩=>⟨_,h1,rfl,by show (be _ x).toArray.size=many;rw[rV,F4],h2⟩
def Vd(x:Nat)(many:Int)(w:ak)(hx:x<=9223372036854775807)(hm:0<=many/\many<=16):Calls prog 205 #[ae af (x:Int),ae af many] w λe w'=>∃T:ByteArray,e=ax (aA T)/\T.data.toList=be many.toNat x/\T.size=many.toNat/\Below w.heap.size w w':=by
 obtain⟨m,rfl⟩:=yH hm.1;exact akw x m w ⟨hx,by omega⟩
def I8(n:Nat)(w:ak)(h:1<=n)(h2:n<9223372036854775808):Calls prog 110 #[ae af (n:Int)] w λe w'=>e=ax (ae af (((n-1)%9:Nat):Int))/\w'=w:=by
 obtain⟨m,rfl⟩:∃m,n=m+1:=⟨n-1,by omega⟩;have e:((m+1:Nat):Int)-1=(m:Int):=by omega
 go_enter func110,ntmps110
 go_wp2;go_ret
 refine⟨?_,rfl⟩;show Ending.returned (ae af _)=_
 rw[show ((m:Int)%9)=(((m+1-1)%9:Nat):Int) by omega]
def Ve(r:Rec)(w:ak)(hr:r.Ok):Calls prog 176 #[r.val] w λe w'=>∃T:ByteArray,e=ax (aA T)/\T.data.toList=gH r/\T.size=16/\Below w.heap.size w w':=by
 have hX:=l_.new w r 97;have B1:=(aF _ w).alloc (aR _) (ay #[ae af (r.seq:Int),ae af (r.cf:Int),ae af (r.kind:Int),ae af (r.tick:Int)] 97);obtain⟨W,hW⟩:∃W,w.alloc (ay #[ae af (r.seq:Int),ae af (r.cf:Int),ae af (r.kind:Int),ae af (r.tick:Int)] 97)=W:=⟨_,rfl⟩;have hsz:W.heap.size=w.heap.size+1:=by rw[<- hW];simp
 rw[hW]at hX B1;change U _ at hW
 obtain⟨o1,o2,o3,o4⟩:=hr;have q1:r.seq<=9223372036854775807:=by omega
 have q2:r.cf<=9223372036854775807:=by omega
 have q3:r.kind<=9223372036854775807:=by omega
 have q4:r.tick<=9223372036854775807:=by omega
 have R:l_ W.drew _ r:=⟨hX.c0,hX.c1,hX.c2,hX.c3⟩;have hH:w.heap.size<W.drew.heap.size:=by show _<W.heap.size;omega
 have BB:=B1.drew;obtain⟨a0,a1,a2,a3⟩:=R;unfold Rec.val;go_enter func176,ntmps176
 go_upto_region 1 with fail
 rw[hW.o];go_region_held3 (λw'=>w'.cell? ⟨w.heap.size,0,.none⟩=J (ae af (r.seq:Int))/\w'.cell? ⟨w.heap.size,1,.none⟩=J (ae af (r.cf:Int))/\w'.cell? ⟨w.heap.size,2,.none⟩=J (ae af (r.kind:Int))/\w'.cell? ⟨w.heap.size,3,.none⟩=J (ae af (r.tick:Int))) (exact⟨a0,a1,a2,a3⟩)
  (first|(go_at_call 205;refine(Vd _ _ _ ?_ ?_).mono ?_;(first|exact q1|exact q2|exact q3|exact q4);(exact⟨by decide,by decide⟩);rintro e w1 ⟨T,rfl,hT,hs,hb⟩;have a0:=aJ hb a0;have a1:=aJ hb a1;have a2:=aJ hb a2;have a3:=aJ hb a3;have BB:=BB.trans (hb.mono BB.size)))
 rename_i wA TA akx aot aou x1 x2 x3 x4 x5 wB TB aky aov cw y1 y2 y3 y4 y5 wC TC akz aow aox z1 z2 z3 z4 z5 hHeld;have HC:U ((TA++TB++TC++T).data.toList=qc r/\(TA++TB++TC++T).size=12):=by
  have e:(TA++TB++TC++T).data.toList=qc r:=by
   simp only[tq,yq,akx,aky,akz,hT];rfl
  refine⟨e,?_⟩;have:=nh List.length e;rw[JJ]at this;simp at this⊢
  omega
 generalize TA++TB++TC++T=S at *;have akA:=HC.2;have u_:=PO (qc r);go_wp2_with fail
 apply(aku S w1 (by omega)).mono;rintro e w5 ⟨rfl,rfl⟩;rw[HC.1];go_wp2_with fail
 apply(Vd _ _ _ (by omega) ⟨by decide,by decide⟩).mono;rintro e w6 ⟨T6,rfl,Vf,akB,jr⟩;have akC:T6.size=4:=akB;change U _ at Vf
 go_wp2;go_ret
 refine⟨_,rfl,?_,?_,BB.trans (jr.mono BB.size)⟩
 ·simp only[tq,yq,HC.1,Vf.o];rfl
 simp[akA,akC]
def NT(h:L.length=n+1):cU L=L[n]'(by omega):=by
 unfold cU;rw[List.getLast?_eq_getElem?,bq (by omega)];simp[h]
structure mZ(w wx:ak)(B rm bm:Nat)(v:aw)(L:List Rec)(x:Rec)(m:cr):Prop where
 ring:gU wx B rm bm v L false
 mod:cg wx bm m
 res:eu wx w.heap.size .none
 row:eu wx (w.heap.size+1) x
 off:aG (λk=>k=bm) w wx
 size:w.heap.size+2<=wx.heap.size
 hm:bm<w.heap.size
 hr:rm<w.heap.size
 hv:∀k,v.ownBlock=J k->k<w.heap.size
def mZ.below(h:mZ w wx B rm bm v L x m)(hb:Below wx.heap.size wx CF):mZ w CF B rm bm v L x m:=
 ⟨h.ring.below hb,h.mod.below hb,h.res.below hb h.res.lt,h.row.below hb h.row.lt,h.off.trans (aG.dm hb (λ_=>False)) (λ_ _ e=>e.elim),bp h.size hb.size,h.hm,h.hr,h.hv⟩
def mZ.write(h:mZ w wx B rm bm v L x m)(hm:cg CF bm m')(hg:wx.grownBy CF (J bm)):mZ w CF B rm bm v L x m':=by
 have hb:=h.hm;exact⟨h.ring.off (aG.cG hg) h.ring.ne (λg e e2=>h.ring.sep.2 (by rw[e,e2])),hm,h.res.off (aG.cG hg) (by omega),h.row.off (aG.cG hg) (by omega),h.off.trans (aG.cG hg) (λ_ _ e=>e),bp h.size hg.size,h.hm,h.hr,h.hv⟩
def akD(B rm bm:Nat)(v:aw)(L:List Rec)(m:cr)(n1 n2 n3:Nat)(w:ak)(h:gU w B rm bm v L false)(oH:cg w bm m)(nW:n1<=255)(hf2:n2<=255)(hf3:n3<=281474976710655)(hl:L.length<=8)(hq:(cU L).seq=4294967295):Calls prog 113 #[aq (J ⟨rm,0,.none⟩),ae af (n1:Int),ae af (n2:Int),ae af (n3:Int)] w λe w'=>e=ax (bn #[Rec.none.val,ae af 7])/\aG (λk=>k=bm) w w'/\cg w' bm m/\gU w' B rm bm v L false:=by
 have Vg:(cU L).seq<=4294967295:=by omega
 change U _ at hq
 obtain⟨W,hW,Z1,B1,s1⟩:=Gg w;have R1:=h.below B1;have M1:=oH.below B1;have Av:=h.lt;have Aw:=oH.lt;have rF:=λk e=>(h.sl.lt k e).2
 change U _ at hW
 have c2:=R1.c2;have g1:¬(n1:Int)<0:=by omega
 have g2:¬255<(n1:Int):=by omega
 have g3:¬(n2:Int)<0:=by omega
 have g4:¬255<(n2:Int):=by omega
 have g5:¬(n3:Int)<0:=by omega
 have g6:¬281474976710656<=(n3:Int):=by omega
 go_enter func113,ntmps113
 go_upto_region 1 with fail
 rw[hW.o];go_upto_region 6 with fail
 obtain⟨W2,hW2⟩:∃W2,W.alloc (ay #[ae af 1,ae af (n1:Int),ae af (n2:Int),ae af (n3:Int)] 97)=W2:=⟨_,rfl⟩;have B2:Below W.heap.size W W2:=by rw[<- hW2];exact(aF _ _).alloc (aR _) _
 have X2:eu W2 (w.heap.size+1) ⟨1,n1,n2,n3⟩:=by
  refine⟨?_⟩;rw[<- hW2,<- s1];exact cj _ _
 have s2:W2.heap.size=w.heap.size+2:=by rw[<- hW2,<- qh (n:=w.heap.size) (m:=1) (k:=1),<- s1];simp
 rw[hW2];clear hW2;have jK:mZ w W2 B rm bm v L _ m:=
  ⟨R1.below B2,M1.below B2,Z1.below B2 Z1.lt,X2,(aG.dm (B1.trans (B2.mono (by omega))) _),by omega,Aw,Av,rF⟩
 clear R1 M1 Z1 B1 B2 X2 hW c2 g1 g2 g3 g4 g5 g6 s1 s2;have r1:=jK.ring.c1;obtain⟨sa,c,rfl⟩:=jK.ring.sl.len;go_upto_if 52 with fail
 go_cut [9] (λe wx=>e=ae af 0/\mZ w wx B rm bm (aj sa L.length c) L (eL L n1 n2 n3) m)
 case first=>
  by_cases hL:L=[]
  ·subst hL;go_wp2_with fail
   all_goals
    go_meet
    case rel=>exact⟨rfl,jK⟩
  obtain⟨n,hn⟩:∃n,L.length=n+1:=⟨L.length-1,by have:=sq.2 hL;omega⟩;obtain⟨g,o,qy,hcell⟩:=jK.ring.sl.reads.2 hL;have cn:=(hcell n (by omega)).1;rw[<- NT hn]at cn;have x0:=jK.row.at.c0;have xf:=jK.row.frozen 0;have akE:¬g=w.heap.size+1:=by
   have:=jK.hv g (by rw[qy];rfl);omega
  have akF:¬rm=w.heap.size+1:=by omega
  have Fw:∀q,mZ w ((W2.drewN q).setCell ⟨w.heap.size+1,0,.none⟩ (ae af (((cU L).seq:Int)+1))) B rm bm (aj sa L.length c) L (eL L n1 n2 n3) m:=λq=>by
   have hG:(W2.drewN q).grownBy ((W2.drewN q).setCell ⟨w.heap.size+1,0,.none⟩ (ae af (((cU L).seq:Int)+1))) (J (w.heap.size+1)):=dz (fG _ _) _ _;have S3:=jK.below (br (aF _ _) q);have hz:=S3.size
   refine⟨S3.ring.off (aG.cG hG) (by omega) (λk e e2=>by have:=jK.hv k e;omega),S3.mod.other hG (by omega),S3.res.off (aG.cG hG) (by omega),⟨?_⟩,S3.off.trans (aG.cG hG) (λk hk e=>by omega),by simpa using hz,Aw,Av,jK.hv⟩;have hh:=S3.row.heap;simp only[bN,cL,hh];simp[eL]
  change U _ at Fw
  have akG:IntKind.i64.wrap (((cU L).seq:Int)+1)=((cU L).seq:Int)+1:=by rw[qg];omega
  clear hcell jK;rw[hn]at r1⊢;subst qy;have wn:IntKind.i64.wrap (n:Int)=(n:Int):=by rw[qg];omega
  have i0:(0:Int)<=(n:Int):=by omega
  have i1:(n:Int)<(n:Int)+1:=by omega
  generalize cU L=y at *;go_wp2_with fail
  go_region
  all_goals
   go_wp2
   go_meet
   case rel=>exact⟨rfl,Fw 1⟩
 clear jK r1;obtain⟨rfl,ST⟩:=hcut;have x0:=ST.row.at.c0;rw[show ((eL L n1 n2 n3).seq:Int)=4294967296 by show (((cU L).seq+1:Nat):Int)=_;have:=hq.o;omega]at x0;have Z:=ST.res;obtain⟨z0,z1,z2,z3⟩:=Z.at;have f0:=Z.frozen 0;have f1:=Z.frozen 1;have f2:=Z.frozen 2;have f3:=Z.frozen 3;have hO:=ST.off;have hM:=ST.mod;have hR:=ST.ring;have akH:=ST.hv;clear ST hq;go_wp2_with fail
 refine dL (nB rfl _ _ w.heap.size .none rfl (Z.iT .none).at) rfl ?_;have G9:=ma wc w.heap.size (ae af 0) (ae af 0) (ae af 0) (ae af 0);exact⟨rfl,hO.trans (aG.cG G9) (λk hk e=>by omega),hM.other G9 (by omega),hR.off (aG.cG G9) (by omega) (λk e e2=>by have:=akH k e;omega)⟩
def mZ.drew(h:mZ w wx B rm bm v L x m):mZ w wx.drew B rm bm v L x m:=h.below (br (aF _ _) 1)
def akI(n:Nat)(w:ak)(h:1<=n)(h2:n<9223372036854775808):Calls prog 110 #[ae af (n:Int)] w λe w'=>∃Q:Nat,Q=(n-1)%9/\e=ax (ae af (Q:Int))/\w'=w:=
 (I8 n w h h2).mono λ_ _ ⟨h1,h2⟩=>⟨_,rfl,h1,h2⟩
def akJ(he:s.err p 1=0)(hz:s.bytes.getD p 0=0):s.zeroAt p=(s,0):=by unfold aI.zeroAt;rw[aU he,aU hz]
def akK(he:s.err p 1=0)(hz:¬s.bytes.getD p 0=0):s.zeroAt p=s.eD p [0]:=by unfold aI.zeroAt;rw[aU he,aK hz]
def Vh(s:aI)(p:Nat)(l:List UInt8):(s.eD p l).1.written<=s.written+l.length:=by
 unfold aI.eD
 split
 ·unfold aI.write
  split
  ·show (s.ck p (l.take s.left)).written<=_
   rw[aI.xj,eQ];omega
  show (s.ck p l).written<=_
  rw[aI.xj];exact aR _
 exact Nat.le_add_right _ _
def akL(s:aI)(p:Nat):(s.zeroAt p).1.written<=s.written+1:=by
 unfold aI.zeroAt
 split
 ·split
  ·exact Nat.le_succ _
  exact Vh s p [0]
 exact Nat.le_succ _
def akM{ops:Array Oper}{o:Oper}{a:Act}{K:Act->ak->Prop}{Q:Exit->Act->ak->Prop}{E:Prop}(hgd:o.guard=I)(so xo:Operand)
  (ho:o.op=.call { callee:=.builtin .append,args:=#[so,xo],argTypes:=#[92,92] }) {B:Nat} {v:aw} {L:List Rec} {w:ak} (x:Rec) (hs:a.eval so=v) (h:iK w B v L) (ad:aC) (c:Nat) (hx:a.eval xo=aj (J ad) 1 c)
  (hnews:∀j u,x.list[j]?=J u->w.cell? (ad.add j)=J u) (hl:L.length<=100) (hB:B<=w.heap.size) (H:Nat) (hH:w.heap.size=H)
  (hK:∀bQ c' w',iK w' B (aj bQ (L.length+1) c') (L++[x])->aG (λk=>v.ownBlock=J k) w w'->(∀k,(Value.slice bQ (L.length+1) c').ownBlock=J k->v.ownBlock=J k\/k=H)->K (a.put o.dst (aj bQ (L.length+1) c')) w'):if Region.wanted o (yielded ops a.tmps)=true then Oper.wp prog o a w K Q else E:=by
 have hw:Region.wanted o (yielded ops a.tmps)=true:=by simp[Region.wanted,hgd]
 rw[aU hw];obtain⟨v',w',hrun,h1,h2,h3⟩:=h.append x o.type ad c hnews hl hB;obtain⟨bQ,c',rfl⟩:=h1.len;rw[cY,kW]at *;subst hH;unfold Oper.wp;simp[execOp,ho,resolve,invoke,builtin,hs,hx,hrun,Result.andThen]
 exact hK bQ c' w' h1 h2 h3
def pV(a:aI×Nat)(p:Nat)(l:List UInt8):aI×Nat:=if a.2=0 then a.1.eD p l else a
def akN(a:aI×Nat)(p:Nat)(l:List UInt8):(pV a p l).1.written<=a.1.written+l.length:=by
 unfold pV
 split
 ·exact Vh ..
 exact Nat.le_add_right _ _
def akO(s:aI)(r:Rec):s.dR r=pV (pV (s.zeroAt ((r.seq-1)%9*17+16)) ((r.seq-1)%9*17) (gH r)) ((r.seq-1)%9*17+16) [165]:=by
 unfold aI.dR pV;simp only[]
 split
 ·rfl
 rfl
def akP(B rm bm:Nat)(v:aw)(L:List Rec)(s:aI)(m:cr)(n1 n2 n3:Nat)(w:ak)(h:gU w B rm bm v L false)(oH:cg w bm m)(iD:gy s m)(lh:153<=s.size)(fj:s.off=false)(J6:s.written+18<=1099511627776)(nW:n1<=255)(hf2:n2<=255)(hf3:n3<=281474976710655)(hl:L.length<=8)(hq:(cU L).seq<4294967295)(hB:B<=w.heap.size):Calls prog 113 #[aq (J ⟨rm,0,.none⟩),ae af (n1:Int),ae af (n2:Int),ae af (n3:Int)] w λe w'=>∃m',gy (s.dR (eL L n1 n2 n3)).1 m'/\cg w' bm m'/\aG (λk=>k=bm\/k=rm\/v.ownBlock=J k) w w' /\
   ((∃j,(s.dR (eL L n1 n2 n3)).2=j+1/\e=ax (bn #[Rec.none.val,ae af ((j+1:Nat):Int)])/\gU w' B rm bm v L true) \/
    ((s.dR (eL L n1 n2 n3)).2=0/\e=ax (bn #[(eL L n1 n2 n3).val,ae af 0])/\∃v',gU w' B rm bm v' (mg L (eL L n1 n2 n3)) false/\∀k,v'.ownBlock=J k->v.ownBlock=J k\/w.heap.size<=k)):=by
 have Vg:(cU L).seq<=4294967295:=by omega
 change U _ at hq iD
 obtain⟨W,hW,Z1,B1,s1⟩:=Gg w;have R1:=h.below B1;have M1:=oH.below B1;have Av:=h.lt;have Aw:=oH.lt;have rF:=λk e=>(h.sl.lt k e).2
 change U _ at hW
 have c2:=R1.c2;have g1:¬(n1:Int)<0:=by omega
 have g2:¬255<(n1:Int):=by omega
 have g3:¬(n2:Int)<0:=by omega
 have g4:¬255<(n2:Int):=by omega
 have g5:¬(n3:Int)<0:=by omega
 have g6:¬281474976710656<=(n3:Int):=by omega
 go_enter func113,ntmps113
 go_upto_region 1 with fail
 rw[hW.o];go_upto_region 6 with fail
 obtain⟨W2,hW2⟩:∃W2,W.alloc (ay #[ae af 1,ae af (n1:Int),ae af (n2:Int),ae af (n3:Int)] 97)=W2:=⟨_,rfl⟩;have B2:Below W.heap.size W W2:=by rw[<- hW2];exact(aF _ _).alloc (aR _) _
 have X2:eu W2 (w.heap.size+1) ⟨1,n1,n2,n3⟩:=by
  refine⟨?_⟩;rw[<- hW2,<- s1];exact cj _ _
 have s2:W2.heap.size=w.heap.size+2:=by rw[<- hW2,<- qh (n:=w.heap.size) (m:=1) (k:=1),<- s1];simp
 rw[hW2];clear hW2;have jK:mZ w W2 B rm bm v L ⟨1,n1,n2,n3⟩ m:=
  ⟨R1.below B2,M1.below B2,Z1.below B2 Z1.lt,X2,(aG.dm (B1.trans (B2.mono (by omega))) (λk=>k=bm)),by omega,Aw,Av,rF⟩
 clear R1 M1 Z1 B1 B2 X2 hW c2 g1 g2 g3 g4 g5 g6 s1 s2;have r1:=jK.ring.c1;obtain⟨sa,c,rfl⟩:=jK.ring.sl.len;go_upto_if 52 with fail
 go_cut [9] (λe wx=>e=ae af 0/\mZ w wx B rm bm (aj sa L.length c) L (eL L n1 n2 n3) m)
 case first=>
  by_cases hL:L=[]
  ·subst hL;go_wp2_with fail
   all_goals
    go_meet
    case rel=>exact⟨rfl,jK⟩
  obtain⟨n,hn⟩:∃n,L.length=n+1:=⟨L.length-1,by have:=sq.2 hL;omega⟩;obtain⟨g,o,qy,hcell⟩:=jK.ring.sl.reads.2 hL;have cn:=(hcell n (by omega)).1;rw[<- NT hn]at cn;have x0:=jK.row.at.c0;have xf:=jK.row.frozen 0;have akE:¬g=w.heap.size+1:=by
   have:=jK.hv g (by rw[qy];rfl);omega
  have akF:¬rm=w.heap.size+1:=by omega
  have Fw:∀q,mZ w ((W2.drewN q).setCell ⟨w.heap.size+1,0,.none⟩ (ae af (((cU L).seq:Int)+1))) B rm bm (aj sa L.length c) L (eL L n1 n2 n3) m:=λq=>by
   have hG:(W2.drewN q).grownBy ((W2.drewN q).setCell ⟨w.heap.size+1,0,.none⟩ (ae af (((cU L).seq:Int)+1))) (J (w.heap.size+1)):=dz (fG _ _) _ _;have S3:=jK.below (br (aF _ _) q);have hz:=S3.size
   refine⟨S3.ring.off (aG.cG hG) (by omega) (λk e e2=>by have:=jK.hv k e;omega),S3.mod.other hG (by omega),S3.res.off (aG.cG hG) (by omega),⟨?_⟩,S3.off.trans (aG.cG hG) (λk hk e=>by omega),by simpa using hz,Aw,Av,jK.hv⟩;have hh:=S3.row.heap;simp only[bN,cL,hh];simp[eL]
  change U _ at Fw
  have akG:IntKind.i64.wrap (((cU L).seq:Int)+1)=((cU L).seq:Int)+1:=by rw[qg];omega
  clear hcell jK;rw[hn]at r1⊢;subst qy;have wn:IntKind.i64.wrap (n:Int)=(n:Int):=by rw[qg];omega
  have i0:(0:Int)<=(n:Int):=by omega
  have i1:(n:Int)<(n:Int)+1:=by omega
  generalize cU L=y at *;go_wp2_with fail
  go_region
  all_goals
   go_wp2
   go_meet
   case rel=>exact⟨rfl,Fw 1⟩
 clear jK r1;obtain⟨rfl,ST⟩:=hcut;have hseq:(eL L n1 n2 n3).seq<4294967296:=by show (cU L).seq+1<_;have:=hq.o;omega
 have akQ:1<=(eL L n1 n2 n3).seq:=Nat.le_add_left _ _;have gj:(eL L n1 n2 n3).Ok:=⟨by omega,by show n1<_;omega,by show n2<_;omega,by show n3<_;omega⟩;have HP:U _:=akO s (eL L n1 n2 n3);change U _ at gj
 clear hq Vg;generalize NU:eL L n1 n2 n3=x at *;change U _ at NU
 have x0:=ST.row.at.c0;have r0:=ST.ring.c0;have gx:¬4294967296<=(x.seq:Int):=by omega
 go_upto_region 10 with fail
 clear gx
 go_cut [11] (λa wx=>a=ae af (((x.seq-1)%9*17:Nat):Int)/\wx=wc)
 case first=>
  go_wp2_with fail
  apply(akI x.seq wc akQ (by omega)).mono;rintro e w7 ⟨Q,hQ,rfl,rfl⟩;have xl:=Nat.mod_lt (x.seq-1) (show 0<9 by decide);rw[<- hQ]at xl;change U _ at hQ
  go_wp2
  go_meet
  case rel=>
   rw[<- hQ.o];exact⟨by go_num,rfl⟩
 obtain⟨rfl,rfl⟩:=hcut;have xl:=Nat.mod_lt (x.seq-1) (show 0<9 by decide);generalize (x.seq-1)%9=Q at *;go_upto_region 11 with fail
 go_cut [12] (λa wx=>a=ae af ((Q*17+16:Nat):Int)/\wx=wc)
 case first=>
  go_wp2
  go_meet
  case rel=>exact⟨by go_num,rfl⟩
 obtain⟨rfl,rfl⟩:=hcut;have hsz:=iD.size;have qf:m.B.size<=4096:=by rw[iD.bsize];exact hsz
 have hes:s.err ((Q*17+16:Nat):Int) 1=0:=by
  unfold aI.err;rw[aK (by omega),fj];rfl
 have NV:m.err ((Q*17+16:Nat):Int) 1=0:=by rw[iD.err];exact hes
 obtain⟨akR,(I9:U _)⟩:=iD.byte (Q*17+16) (by omega);change U _ at hes NV
 have r1:=ST.ring.c0;have mb:=ST.mod.c0;have akS:(0:Int)<=((Q*17+16:Nat):Int):=by omega
 have akT:((Q*17+16:Nat):Int)<(m.B.size:Int):=by omega
 generalize aoy:Q*17+16=P at *;go_wp2_with fail
 apply(Fv bm m (P:Int) 1 wc ST.mod qf (by omega)).mono;rintro e w7 ⟨rfl,rfl⟩;rw[NV.o];go_upto_if 98 with fail
 go_cut [13] (λe wx=>∃m1,e=ae af ((s.zeroAt P).2:Nat)/\gy (s.zeroAt P).1 m1/\mZ w wx B rm bm (aj sa L.length c) L x m1)
 case first=>
  obtain⟨y,hy⟩:∃y,m.B[P]=y:=⟨_,rfl⟩;rw[hy]at I9;rw[hy];clear hy mb
  by_cases qE:y=0
  ·subst qE;have HZ:U _:=akJ hes I9.symm;go_wp2_with fail
   all_goals
    go_meet
    case rel=>exact⟨m,by rw[HZ.o];rfl,by rw[HZ.o];exact iD,ST⟩
  have HZ:U _:=akK hes (λe=>qE (I9.trans e));have y1:((y.toNat:Int)==0)=false:=by
   rw[gX];intro e;exact qE (UInt8.toNat_inj.1 (by rw[show (0:UInt8).toNat=0 from rfl];omega))
  have y2:¬(y.toNat:Int)=0:=by simpa using y1
  obtain⟨m1,hs1,iF⟩:=NP bm s m P ⟨#[UInt8.ofNat 0]⟩ iD (by show _+1<=_;omega) (by omega);change U _ at hs1 iF
  have wM:=ST.drew;have Fx:=wM.ring.c0;clear r1 r0;go_upto_region 14 with fail
  go_region_held3 (λw'=>w'.cell? ⟨rm,0,.none⟩=J (aq (J ⟨bm,0,.none⟩))) (first|exact Fx|exact rB|exact rW) (first|(go_at_call 108;apply(I7 0 _).mono;rintro e wB ⟨rfl,cw⟩;have rK:=wM.below cw;have rB:=rK.ring.c0)|(go_at_call 179;refine aO (iF.o _ rK.mod) ?_;rintro e wW ⟨rfl,MW,GW⟩;have wN:=rK.write MW GW;have rW:=wN.ring.c0))
  go_wp2
  go_meet
  case rel=>exact⟨m1,by rw[HZ.o],by rw[HZ.o];exact hs1,wN⟩
 clear ST x0 r0 r1 mb akS akT hes NV I9 iD akR qf;obtain⟨m1,rfl,hs1,ST⟩:=hcut;have aoz:=akL s P;generalize s.zeroAt P=a at *;change U _ at hs1
 go_upto_if 107 with fail
 go_cut [13] (λe wx=>∃m2,e=ae af ((pV a (Q*17) (gH x)).2:Nat)/\gy (pV a (Q*17) (gH x)).1 m2/\mZ w wx B rm bm (aj sa L.length c) L x m2)
 case first=>
  by_cases ha:a.2=0
  ·have HZ:U (pV a (Q*17) (gH x)=a.1.eD (Q*17) (gH x)):=aU ha;have akU:U _:=λT (hT:T.size=16)=>NP bm a.1 m1 (Q*17) T hs1 (by rw[hT];omega) (by omega)
   have wM:=ST.drew;have Fx:=wM.ring.c0;obtain⟨e0,e1,e2,e3⟩:=wM.row.at;have a1:(a.2:Int)=0:=by omega
   rw[a1];clear ha a1;go_upto_region 16 with fail
   go_region_held3 (λw'=>w'.cell? ⟨rm,0,.none⟩=J (aq (J ⟨bm,0,.none⟩))/\w'.cell? ⟨w.heap.size+1,0,.none⟩=J (ae af (x.seq:Int))/\w'.cell? ⟨w.heap.size+1,1,.none⟩=J (ae af (x.cf:Int))/\w'.cell? ⟨w.heap.size+1,2,.none⟩=J (ae af (x.kind:Int))/\w'.cell? ⟨w.heap.size+1,3,.none⟩=J (ae af (x.tick:Int))) (first|exact⟨Fx,e0,e1,e2,e3⟩|exact⟨rB,k0,k1,k2,k3⟩|exact⟨rW,l0,l1,l2,l3⟩) (first|(go_at_call 176;apply(Ve x _ gj).mono;rintro e wB ⟨T,rfl,Vi,zy,cw⟩;have rK:=wM.below cw;have rB:=rK.ring.c0;obtain⟨k0,k1,k2,k3⟩:=rK.row.at;obtain⟨m2,hs2,hw2⟩:=akU T zy;have fM:U _:=hs2;have akV:U _:=hw2;clear hs2 hw2)|(go_at_call 179;refine aO (akV.o _ rK.mod) ?_;rintro e wW ⟨rfl,MW,GW⟩;have wN:=rK.write MW GW;have rW:=wN.ring.c0;obtain⟨l0,l1,l2,l3⟩:=wN.row.at))
   go_wp2
   go_meet
   case rel=>exact⟨m2,by rw[HZ.o,<- Vi],by rw[HZ.o,<- Vi];exact fM,wN⟩
  have HZ:U (pV a (Q*17) (gH x)=a):=aK ha;have a1:((a.2:Int)==0)=false:=by rw[gX];omega
  have a2:¬(a.2:Int)=0:=by omega
  go_wp2_with fail
  all_goals
   go_meet
   case rel=>exact⟨m1,by rw[HZ.o],by rw[HZ.o];exact hs1,ST⟩
 clear ST hs1;obtain⟨m2,rfl,hs2,ST⟩:=hcut;have akW:=akN a (Q*17) (gH x);rw[rZ]at akW;generalize pV a (Q*17) (gH x)=b at *;change U _ at hs2
 go_upto_if 117 with fail
 go_cut [13] (λe wx=>∃m3,e=ae af ((pV b P [165]).2:Nat)/\gy (pV b P [165]).1 m3/\mZ w wx B rm bm (aj sa L.length c) L x m3)
 case first=>
  by_cases hb:b.2=0
  ·have HZ:U (pV b P [165]=b.1.eD P [165]):=aU hb;obtain⟨m3,hs3,hw3⟩:=NP bm b.1 m2 P ⟨#[UInt8.ofNat 165]⟩ hs2 (by show _+1<=_;omega) (by omega);change U _ at hs3 hw3
   have wM:=ST.drew;have Fx:=wM.ring.c0;have b1:(b.2:Int)=0:=by omega
   rw[b1];clear hb b1;go_upto_region 18 with fail
   go_region_held3 (λw'=>w'.cell? ⟨rm,0,.none⟩=J (aq (J ⟨bm,0,.none⟩))) (first|exact Fx|exact rB|exact rW) (first|(go_at_call 108;apply(I7 165 _).mono;rintro e wB ⟨rfl,cw⟩;have rK:=wM.below cw;have rB:=rK.ring.c0)|(go_at_call 179;refine aO (hw3.o _ rK.mod) ?_;rintro e wW ⟨rfl,MW,GW⟩;have wN:=rK.write MW GW;have rW:=wN.ring.c0))
   go_wp2
   go_meet
   case rel=>exact⟨m3,by rw[HZ.o],by rw[HZ.o];exact hs3,wN⟩
  have HZ:U (pV b P [165]=b):=aK hb;have b1:((b.2:Int)==0)=false:=by rw[gX];omega
  have b2:¬(b.2:Int)=0:=by omega
  go_wp2_with fail
  all_goals
   go_meet
   case rel=>exact⟨m2,by rw[HZ.o],by rw[HZ.o];exact hs2,ST⟩
 clear ST hs2;obtain⟨m3,rfl,hs3,ST⟩:=hcut;rw[<- HP.o]at hs3⊢;change U _ at hs3
 clear HP;generalize fW:s.dR x=r at *;change U _ at fW
 have pW:=ST.ring;have hMod:=ST.mod;have NW:=ST.res;have NX:=ST.row;have NY:=ST.off;have aoA:=ST.size;have NZ:=ST.hv;change U _ at NY
 clear ST
 cases hr2:r.2 with
 |succ j=>
  have c2:=pW.c2;have f2:=pW.frozen 2;have Gi:¬w.heap.size=rm:=by omega
  have Gj:¬rm=w.heap.size:=by omega
  have G8:wc.grownBy (wc.setCell ⟨rm,2,.none⟩ (aL true)) (J rm):=dz (fG _ _) _ _;have R8:=pW.spent;have Z8:=NW.off (aG.cG G8) Gi;have M8:=hMod.other G8 (Ne.symm pW.ne);have z0:=Z8.at.c0;have z1:=Z8.at.c1;have z2:=Z8.at.c2;have z3:=Z8.at.c3;have q0:=Z8.frozen 0;have q1:=Z8.frozen 1;have q2:=Z8.frozen 2;have q3:=Z8.frozen 3;have A4:(0:Int)<((j+1:Nat):Int):=by omega
  go_upto_region 21 with fail
  obtain⟨W8,ze⟩:∃W8,wc.setCell ⟨rm,2,.none⟩ (aL true)=W8:=⟨_,rfl⟩;rw[ze]at R8 Z8 M8 z0 z1 z2 z3 q0 q1 q2 q3 G8;rw[ze];clear ze c2 f2;go_wp2_with fail
  have G9:=ma W8 w.heap.size (ae af 0) (ae af 0) (ae af 0) (ae af 0)
  refine dL (nB rfl _ _ w.heap.size .none rfl (Z8.iT .none).at) rfl ?_;rw[NU.o,fW.o]
  refine⟨m3,hs3,M8.other G9 (by omega),?_,aT ⟨j,hr2,rfl,R8.off (aG.cG G9) Gj (λk e e2=>by have:=NZ k e;omega)⟩⟩;exact((NY.mono (λk _ e=>aT e)).trans (aG.cG G8) (λk _ e=>aN (aT e))).trans (aG.cG G9) (λk hk e=>by omega)
 |zero=>
  rename ak=>wD
  have r1:=pW.c1;obtain⟨e0,e1,e2,e3⟩:=NX.at;have bH:iK wD.drew B (aj sa L.length c) L:=pW.sl.below (br (aF _ _) 1);have Vj:=λo=>bH.below ((aF wD.drew.heap.size wD.drew).alloc (aR _) o)
  have N0:U _:=Vj;have tL:B<=wD.heap.size+1:=by omega
  have Qa:rm<wD.heap.size:=by omega
  have qV:w.heap.size+1<wD.heap.size:=by omega
  have Eu:¬rm=wD.heap.size:=by omega
  have aoB:¬w.heap.size+1=wD.heap.size:=by omega
  go_upto_region 22 with fail
  go_cut [14] (λl wx=>∃bQ c',l=aj bQ (L.length+1) c'/\iK wx B (aj bQ (L.length+1) c') (L++[x])/\aG (λk=>(Value.slice sa L.length c).ownBlock=J k) wD wx/\∀k,(Value.slice bQ (L.length+1) c').ownBlock=J k->(Value.slice sa L.length c).ownBlock=J k\/wD.heap.size<=k)
  case first=>
   go_region_law (refine akM rfl (.tmp 135) (.tmp 137) rfl x (by simp[Act.eval]) (N0 _) ⟨wD.heap.size,0,.none⟩ 1 (by simp[Act.eval]) (F_ wD.drew x 97) (by omega) (by simpa using tL) (wD.heap.size+1) (by simp) ?_;intro bQ c' w8 S8 O8 K8)
   all_goals
    go_wp2
    go_meet
    case rel=>exact⟨bQ,c',rfl,S8,(aG.dm (((aF wD.heap.size wD).drew).alloc (aR _) _) _).trans O8 (λk _ e=>e),λk e=>(K8 k e).imp id (λh=>by omega)⟩
  clear N0 bH Vj r1 e0 e1 e2 e3;obtain⟨bQ,c',rfl,S8,O8,K8⟩:=hcut;have aoC:=O8.size;have nv:∀k,(Value.slice bQ (L.length+1) c').ownBlock=J k->k≠rm/\k≠bm/\k≠w.heap.size/\k≠w.heap.size+1:=λk e=>by
   have q1:=pW.sep.1;have q2:=pW.sep.2
   rcases K8 k e with h|h
   ·have:=NZ k h;exact⟨λe2=>q1 (by rw[h,e2]),λe2=>q2 (by rw[h,e2]),by omega,by omega⟩
   exact⟨by omega,by omega,by omega,by omega⟩
  have no:∀k,k=rm\/k=bm\/k=w.heap.size\/k=w.heap.size+1->¬(Value.slice sa L.length c).ownBlock=J k:=λk hk e=>by
   have q1:=pW.sep.1;have q2:=pW.sep.2;have:=NZ k e
   rcases hk with h|h|h|h
   ·exact q1 (by rw[e,h])
   ·exact q2 (by rw[e,h])
   ·omega
   omega
  have H8:wc.heap[rm]?=J (ay #[aq (J ⟨bm,0,.none⟩),aj sa L.length c,aL false] 94 (0,0)):=(O8.block rm (by omega) (no rm (aT rfl))).trans pW.heap;have M8:cg wc bm m3:=⟨(O8.block bm (by omega) (no bm (aN (aT rfl)))).trans hMod.heap⟩;have Z8:=NW.off O8 (no _ (aN (aN (aT rfl))));have X8:=NX.off O8 (no _ (aN (aN (aN rfl))));clear NW NX hMod;go_upto_if 141 with fail
  go_cut [14] (λl wx=>∃v',l=v'/\(∃s1 akX c1,v'=aj s1 akX c1)/\iK wx B v' (mg L x)/\(∀k,v'.ownBlock=J k->(Value.slice bQ (L.length+1) c').ownBlock=J k)/\wx=wc)
  case first=>
   by_cases h8:L.length=8
   ·have hk:mg L x=(L++[x]).tail:=by
     unfold mg;rw[aU h8]
     cases L with
     |nil=>cases h8
     |cons y M=>rfl
    obtain⟨g',o',Ih,-⟩:=S8.reads.2 (by simp);have S9:=S8;rw[Ih]at S9;have Vk:U _:=S9.tail (by simp);rw[h8]at Vk⊢;change U _ at hk
    have aoD:9<=c':=by
     obtain⟨-,ao,g2,o2,c2,e2,hc2,-⟩:=S8;simp only[mf]at e2;obtain⟨-,-,rfl⟩:=e2;have:=hc2.le;rw[cY,kW]at this;omega
    have aoE:(9:Int)<=(c':Int):=by omega
    subst Ih;clear S9;go_wp2_with fail
    all_goals
     go_meet
     case rel=>exact⟨_,rfl,⟨_,_,_,rfl⟩,by rw[hk.o];exact Vk,λk e=>e,rfl⟩
   have hk:mg L x=L++[x]:=by unfold mg;rw[aK h8]
   have aoF:¬8<(L.length:Int)+1:=by omega
   change U _ at hk
   go_wp2_with fail
   all_goals
    go_meet
    case rel=>exact⟨_,rfl,⟨_,_,_,rfl⟩,by rw[hk.o];exact S8,λk e=>e,rfl⟩
  obtain⟨v',rfl,⟨sb,nb,cb,rfl⟩,S9,K9,rfl⟩:=hcut;rename ak=>wE
  have cE:wE.cell? ⟨rm,1,.none⟩=J (aj sa L.length c):=by simp[aH,H8]
  have fE:wE.frozen? ⟨rm,1,.none⟩=false:=by simp[bM,H8]
  have N1:gU (wE.setCell ⟨rm,1,.none⟩ (aj sb nb cb)) B rm bm (aj sb nb cb) (mg L x) false:=by
   refine⟨?_,S9.off (aG.cG (dz (fG wE (J rm)) _ _)) (λk e e2=>(nv k (K9 k e)).1 e2),⟨λe=>(nv _ (K9 _ e)).1 rfl,λe=>(nv _ (K9 _ e)).2.1 rfl⟩,pW.lo,pW.ne⟩;simp[bN,cL,H8]
  have GE:wE.grownBy (wE.setCell ⟨rm,1,.none⟩ (aj sb nb cb)) (J rm):=dz (fG _ _) _ _;have ME:=M8.other GE (Ne.symm pW.ne);have ZE:=Z8.off (aG.cG GE) (by omega);have XE:=X8.off (aG.cG GE) (by omega);change U _ at N1
  clear S8 S9 M8 Z8 X8;go_upto_region 26 with fail
  obtain⟨W9,N2⟩:∃W9,wE.setCell ⟨rm,1,.none⟩ (aj sb nb cb)=W9:=⟨_,rfl⟩;rw[N2]at N1 GE ME ZE XE;rw[N2];clear N2 cE fE H8;have e0:=XE.at.c0;have e1:=XE.at.c1;have e2:=XE.at.c2;have e3:=XE.at.c3;have z0:=ZE.at.c0;have z1:=ZE.at.c1;have z2:=ZE.at.c2;have z3:=ZE.at.c3;have q0:=ZE.frozen 0;have q1:=ZE.frozen 1;have q2:=ZE.frozen 2;have q3:=ZE.frozen 3;go_wp2_with fail
  have G9:=ma W9 w.heap.size (ae af (x.seq:Int)) (ae af (x.cf:Int)) (ae af (x.kind:Int)) (ae af (x.tick:Int))
  refine dL (nB rfl _ _ w.heap.size x rfl (ZE.iT x).at) rfl ?_;rw[NU.o,fW.o]
  refine⟨m3,hs3,ME.other G9 (by omega),?_,aN ⟨hr2,rfl,_,N1.off (aG.cG G9) (by omega) (λk e e2=>(nv k (K9 k e)).2.2.1 e2),λk e=>(K8 k (K9 k e)).imp id (λh=>by omega)⟩⟩;exact(((NY.mono (λk _ e=>aT e)).trans O8 (λk _ e=>aN (aN e))).trans (aG.cG GE) (λk _ e=>aN (aT e))).trans (aG.cG G9) (λk hk e=>by omega)
section
variable {F F':Nat->Prop}{B:Nat}{w0 w w':ak}{b:Nat}{e:aM}{E:EA}{s s':aZ}
structure im(F:Nat->Prop)(B:Nat)(w:ak)(b:Nat)(e:aM)(E:EA)(s:aZ):Prop where
 row:∃sv,w.heap[b]?=J (ay (ri e E.pa E.ga E.ea E.fa E.la E.pc E.gc E.ec E.fc E.lc s sv) 128 (0,0))/\tU B w sv s.ms/\∀k,sv.ownBlock=J k->F k
 fb:F b
 lo:B<=b
def im.same(h:im F B w b e E s)(hs:∀k,F k->w'.heap[k]?=w.heap[k]?):im F B w' b e E s:=by
 obtain⟨sv,h1,h2,h3⟩:=h.row;exact⟨⟨sv,(hs b h.fb).trans h1,zq h2 (λg hg=>hs g (h3 g hg)),h3⟩,h.fb,h.lo⟩
def im.mono(h:im F B w b e E s)(hF:∀k,F k->F' k):im F' B w b e E s:=by
 obtain⟨sv,h1,h2,h3⟩:=h.row;exact⟨⟨sv,h1,h2,λk hk=>hF k (h3 k hk)⟩,hF b h.fb,h.lo⟩
def im.lm(h:im F w0.heap.size w b e E s)(hb:Below w0.heap.size w0 w):∃sv,fY w0 w b e E.pa E.ga E.ea E.fa E.la E.pc E.gc E.ec E.fc E.lc s sv/\∀k,sv.ownBlock=J k->F k:=by
 obtain⟨sv,h1,h2,h3⟩:=h.row;exact⟨sv,⟨h1,h2,hb,h.lo⟩,h3⟩
def im.of{sv:aw}(h:fY w0 w b e E.pa E.ga E.ea E.fa E.la E.pc E.gc E.ec E.fc E.lc s sv)(hf:F b)(ho:∀k,sv.ownBlock=J k->F k):im F w0.heap.size w b e E s:=⟨⟨sv,h.heap,h.own,ho⟩,hf,h.lo⟩
def akY(h:im F w0.heap.size w b e E s)(hb:Below w0.heap.size w0 w):Calls prog 52 #[aq (J (ai b 0 I))] w λv w'=>v=ax (ae af (s.tZ:Int))/\im (gr F w w') w0.heap.size w' b e E s.begin/\aG F w w':=by
 obtain⟨sv,h1,h2⟩:=h.lm hb
 apply(abO h1).mono;rintro v w' ⟨rfl,⟨sv',h3,h4⟩,hg⟩
 refine⟨by unfold aZ.tZ;split<;>rfl,im.of h3 (aT h.fb) (λk hk=>aT ?_),(aG.cG hg).mono (λk _ e=>by rw[e];exact h.fb)⟩
 rcases h4 with rfl|rfl
 ·exact h2 k hk
 cases hk
def akZ(h:im F w0.heap.size w b e E s)(hb:Below w0.heap.size w0 w):Calls prog 53 #[aq (J (ai b 0 I))] w λv w'=>v=ax (ae af (s.jQ:Int))/\im (gr F w w') w0.heap.size w' b e E s.stop/\aG F w w':=by
 obtain⟨sv,h1,h2⟩:=h.lm hb
 apply(abP h1).mono;rintro v w' ⟨rfl,h3,hg⟩;exact⟨by unfold aZ.jQ;split<;>rfl,im.of h3 (aT h.fb) (λk hk=>aT (h2 k hk)),(aG.cG hg).mono (λk _ e=>by rw[e];exact h.fb)⟩
def ak0(p t:Int)(h:im F w0.heap.size w b e E s)(hb:Below w0.heap.size w0 w)(hn:s.ms.length<1000):Calls prog 54 #[aq (J (ai b 0 I)),ae af p,ae af t] w λv w'=>v=ax (ae af (s.sw e p:Int))/\im (gr F w w') w0.heap.size w' b e E (s.rep e p t)/\aG F w w':=by
 obtain⟨sv,h1,h2⟩:=h.lm hb
 apply(ajW p t h1 hn).mono;rintro v w' ⟨rfl,⟨sv',h3,h4⟩,hg⟩
 refine⟨by unfold aZ.DX aZ.sw;split<;>(try split)<;>rfl,im.of h3 (aT h.fb) (λk hk=>?_),hg.mono (λk _ e=>?_)⟩
 ·rcases h4 k hk with h5|h5
  ·exact aT (h2 k h5)
  exact aN ⟨h5,(h3.own.lt k hk).2⟩
 rcases e with e|e
 ·rw[e];exact h.fb
 exact h2 k e
def ak1(h:im F w0.heap.size w b e E s)(hb:Below w0.heap.size w0 w)(hP:fh w e (aj E.pa e.au.length E.pc) (aj E.ga e.aV.length E.gc) (aj E.ea e.aP.length E.ec) (aj E.fa e.first.length E.fc) (aj E.la e.last.length E.lc))(Ak:gG e)(hF:fX s 900000)(hlen:s.ms.length<=1000)(ht:∀m∈s.ms,0<=m.tick/\m.tick<=1099511627776):Calls prog 112 #[aq (J (ai b 0 I))] w λv w'=>v=ax (bn #[ae af (s.kind e),aL (s.turns e)])/\im (gr F w w') w0.heap.size w' b e E (s.fin e)/\aG F w w':=by
 obtain⟨sv,h1,h2⟩:=h.lm hb
 apply(aj1 h1 hP Ak hF hlen ht).mono;rintro v w' ⟨rfl,h3,hg⟩;exact⟨rfl,im.of h3 (aT h.fb) (λk hk=>aT (h2 k hk)),(aG.cG hg).mono (λk _ e=>by rw[e];exact h.fb)⟩
def Vl(h:im F w0.heap.size w b e E s)(hb:Below w0.heap.size w0 w):Calls prog 32 #[aq (J (ai b 0 I))] w λv w'=>v=ax (aA (iY s.status))/\w'=w:=by
 obtain⟨sv,h1,h2⟩:=h.lm hb;exact abQ h1
end
def cg.off(h:cg w b m)(ho:aG S w w')(h1:¬S b):cg w' b m:=⟨(ho.block b h.lt h1).trans h.heap⟩
def eE.off(h:eE w b d)(ho:aG S w w')(h1:¬S b):eE w' b d:=⟨(ho.block b h.lt h1).trans h.heap,h.hc,h.ho,h.hk,h.hb,h.hn⟩
def N3(c:aX)(ev:aw)(bm bd rm bt:Nat)(lv:aw):Array aw:=#[ae af c.closed,ae af c.opn,ae af c.cycle,ae af c.bE,ev,aq (J (ai bm 0 I)),aq (J (ai bd 0 I)),aq (J (ai rm 0 I)),lv,aq (J (ai bt 0 I))]
structure dC(H:Nat->Nat->Prop)(w0 w:ak)(c:aX)(ev:aw)(kb bm bd rm bt:Nat)(v lv:aw)(m:cr)(bs:List Nat)(K:aD):Prop where
 bO:mq H w0.heap.size w
 row:w.heap[kb]?=J (ay (N3 c ev bm bd rm bt lv) 82 (0,0))
 hk:H 0 kb
 own:bI lM 1 88 w0.heap.size w lv bs
 hl:∀k,lv.ownBlock=J k->H 1 k
 mod:cg w bm m
 hm:H 2 bm
 m_:gy K.c m
 ring:gU w w0.heap.size rm bm v K.L K.sp
 hr:H 2 rm
 hv:∀k,v.ownBlock=J k->H 2 k
 dog:eE w bd K.d
 hd:H 3 bd
 ij:w.heap[bt]?=J (ay (cZ K.t) 90 (0,0))
 ht:H 4 bt
 loc:∀i b e s,bs[i]?=J b->c.az[i]?=J e->K.ls[i]?=J s->∃E:EA,im (H (5+i)) w0.heap.size w b e E s/\fh w0 e (aj E.pa e.au.length E.pc) (aj E.ga e.aV.length E.gc) (aj E.ea e.aP.length E.ec) (aj E.fa e.first.length E.fc) (aj E.la e.last.length E.lc)
 dY:bs.length=c.az.length
 dB:K.ls.length=c.az.length
 az:eU w0 ev c.az
 aY:Below w0.heap.size w0 w
section
variable {H:Nat->Nat->Prop}{w0 w w':ak}{c:aX}{ev:aw}{kb bm bd rm bt:Nat}{v lv:aw}{m:cr}{bs:List Nat}{K:aD}
def dC.vE(h:dC H w0 w c ev kb bm bd rm bt v lv m bs K)(ho:aG (H i) w w'):Below w0.heap.size w0 w':=aG.below h.aY ho h.aY.size (λk hk=>h.bO.lo i k hk)
def dC.qA(h:dC H w0 w c ev kb bm bd rm bt v lv m bs K)(ho:aG (H i) w w'):mq (cO H i w w') w0.heap.size w':=h.bO.upd ho.size h.aY.size i
def dC.below(h:dC H w0 w c ev kb bm bd rm bt v lv m bs K)(hb:Below w.heap.size w w'):dC H w0 w' c ev kb bm bd rm bt v lv m bs K:=
 ⟨h.bO.grow hb.size,a8 hb h.row,h.hk,h.own.below hb,h.hl,h.mod.below hb,h.hm,h.m_,h.ring.below hb,h.hr,h.hv,h.dog.below hb,h.hd,a8 hb h.ij,h.ht,
  λi b e s h1 h2 h3=>by obtain⟨E,h4,h5⟩:=h.loc i b e s h1 h2 h3;exact⟨E,h4.same (λk hk=>hb.block k (h.bO.lt _ k hk)),h5⟩,h.dY,h.dB,h.az,h.aY.trans (hb.mono h.aY.size)⟩
def dC.xL(h:dC H w0 w c ev kb bm bd rm bt v lv m bs K)(ho:aG (H 3) w w')(hd:eE w' bd d):dC (cO H 3 w w') w0 w' c ev kb bm bd rm bt v lv m bs { K with d:=d }:=
 ⟨h.qA ho,(h.bO.keep (show 0≠3 by decide) ho kb h.hk).trans h.row,aT h.hk,bI.same h.own (λg hg=>h.bO.keep (show 1≠3 by decide) ho g (h.hl g hg)),λk hk=>aT (h.hl k hk),
  h.mod.off ho (h.bO.not (show 2≠3 by decide) h.hm),aT h.hm,h.m_,h.ring.off ho (h.bO.not (show 2≠3 by decide) h.hr) (λg hg=>h.bO.not (show 2≠3 by decide) (h.hv g hg)),aT h.hr,λk hk=>aT (h.hv k hk),
  hd,aT h.hd,(h.bO.keep (show 4≠3 by decide) ho bt h.ht).trans h.ij,aT h.ht,
  λi b e s h1 h2 h3=>by obtain⟨E,h4,h5⟩:=h.loc i b e s h1 h2 h3;exact⟨E,(h4.same (h.bO.keep (show 5+i≠3 by omega) ho)).mono (λk hk=>aT hk),h5⟩,h.dY,h.dB,h.az,h.vE ho⟩
def dC.Lt(h:dC H w0 w c ev kb bm bd rm bt v lv m bs K)(ho:aG (H 4) w w'){t:bG}(ht:w'.heap[bt]?=J (ay (cZ t) 90 (0,0))):dC (cO H 4 w w') w0 w' c ev kb bm bd rm bt v lv m bs { K with t:=t }:=
 ⟨h.qA ho,(h.bO.keep (show 0≠4 by decide) ho kb h.hk).trans h.row,aT h.hk,bI.same h.own (λg hg=>h.bO.keep (show 1≠4 by decide) ho g (h.hl g hg)),λk hk=>aT (h.hl k hk),
  h.mod.off ho (h.bO.not (show 2≠4 by decide) h.hm),aT h.hm,h.m_,h.ring.off ho (h.bO.not (show 2≠4 by decide) h.hr) (λg hg=>h.bO.not (show 2≠4 by decide) (h.hv g hg)),aT h.hr,λk hk=>aT (h.hv k hk),
  h.dog.off ho (h.bO.not (show 3≠4 by decide) h.hd),aT h.hd,ht,aT h.ht,
  λi b e s h1 h2 h3=>by obtain⟨E,h4,h5⟩:=h.loc i b e s h1 h2 h3;exact⟨E,(h4.same (h.bO.keep (show 5+i≠4 by omega) ho)).mono (λk hk=>aT hk),h5⟩,h.dY,h.dB,h.az,h.vE ho⟩
def dC.toRing(h:dC H w0 w c ev kb bm bd rm bt v lv m bs K)(ho:aG (H 2) w w'){sp:Bool}(hm:cg w' bm m')(hs:gy s m')(hr:gU w' w0.heap.size rm bm v' L sp)(hv:∀k,v'.ownBlock=J k->v.ownBlock=J k\/w.heap.size<=k):dC (cO H 2 w w') w0 w' c ev kb bm bd rm bt v' lv m' bs { K with c:=s,L:=L,sp:=sp }:=
 ⟨h.qA ho,(h.bO.keep (show 0≠2 by decide) ho kb h.hk).trans h.row,aT h.hk,bI.same h.own (λg hg=>h.bO.keep (show 1≠2 by decide) ho g (h.hl g hg)),λk hk=>aT (h.hl k hk),
  hm,aT h.hm,hs,hr,aT h.hr,λk hk=>(hv k hk).elim (λh1=>aT (h.hv k h1)) (λh1=>aN ⟨rfl,h1,(hr.sl.lt k hk).2⟩),
  h.dog.off ho (h.bO.not (show 3≠2 by decide) h.hd),aT h.hd,(h.bO.keep (show 4≠2 by decide) ho bt h.ht).trans h.ij,aT h.ht,
  λi b e s h1 h2 h3=>by obtain⟨E,h4,h5⟩:=h.loc i b e s h1 h2 h3;exact⟨E,(h4.same (h.bO.keep (show 5+i≠2 by omega) ho)).mono (λk hk=>aT hk),h5⟩,h.dY,h.dB,h.az,h.vE ho⟩
def dC.uh(h:dC H w0 w c ev kb bm bd rm bt v lv m bs K){s:aZ}(ho:aG (H (5+i)) w w')(hb:bs[i]?=J b)(he:c.az[i]?=J e)(hl:im (gr (H (5+i)) w w') w0.heap.size w' b e E s)(hP:fh w0 e (aj E.pa e.au.length E.pc) (aj E.ga e.aV.length E.gc) (aj E.ea e.aP.length E.ec) (aj E.fa e.first.length E.fc) (aj E.la e.last.length E.lc)):dC (cO H (5+i) w w') w0 w' c ev kb bm bd rm bt v lv m bs (K.dT i s):=
 ⟨h.qA ho,(h.bO.keep (show 0≠5+i by omega) ho kb h.hk).trans h.row,aT h.hk,bI.same h.own (λg hg=>h.bO.keep (show 1≠5+i by omega) ho g (h.hl g hg)),λk hk=>aT (h.hl k hk),
  h.mod.off ho (h.bO.not (show 2≠5+i by omega) h.hm),aT h.hm,h.m_,h.ring.off ho (h.bO.not (show 2≠5+i by omega) h.hr) (λg hg=>h.bO.not (show 2≠5+i by omega) (h.hv g hg)),aT h.hr,λk hk=>aT (h.hv k hk),
  h.dog.off ho (h.bO.not (show 3≠5+i by omega) h.hd),aT h.hd,(h.bO.keep (show 4≠5+i by omega) ho bt h.ht).trans h.ij,aT h.ht,
  λj b' e' s' h1 h2 h3=>by
   by_cases hj:j=i
   ·subst hj;rw[hb]at h1;rw[he]at h2
    cases h1;cases h2
    have:s'=s:=by
     have h4:(K.ls.set j s)[j]?=J s':=h3;rw[DW (by rw[h.dB];exact(df.1 he).1)]at h4;exact(fg h4).symm
    subst this;exact⟨E,hl.mono (λk hk=>hk.imp id (λh5=>⟨rfl,h5⟩)),hP⟩
   have h4:(K.ls.set i s)[j]?=J s':=h3;rw[List.getElem?_set_ne (λe=>hj e.symm)]at h4;obtain⟨E',h5,h6⟩:=h.loc j b' e' s' h1 h2 h4;exact⟨E',(h5.same (h.bO.keep (show 5+j≠5+i by omega) ho)).mono (λk hk=>aT hk),h6⟩,h.dY,by show (K.ls.set i s).length=_;rw[AX];exact h.dB,h.az,h.vE ho⟩
end
def dO(F:Nat->Prop)(w0 w:ak)(c:aX)(ev:aw)(kb bm:Nat)(K:aD):Prop:=
 ∃H bd rm bt v lv m bs,dC H w0 w c ev kb bm bd rm bt v lv m bs K/\∀i k,H i k->F k
section
variable {H:Nat->Nat->Prop}{F:Nat->Prop}{w0 w w':ak}{c:aX}{ev:aw}{kb bm bd rm bt:Nat}{v lv:aw}{m:cr}{bs:List Nat}{K:aD}
def dC.cell(h:dC H w0 w c ev kb bm bd rm bt v lv m bs K)(j:Nat)(u:aw)(hu:(N3 c ev bm bd rm bt lv)[j]?=J u):w.cell? (ai kb j I)=J u:=by
 simp[aH,h.row,hu]
def yw(h:dC H w0 w c ev kb bm bd rm bt v lv m bs K):Calls prog 51 #[aq (J (ai kb 0 I))] w λe w'=>e=ax (ae af (K.on:Int))/\w'=w:=by
 have c5:w.cell? _=J (aq _):=h.cell 5 _ rfl;have c6:w.cell? _=J (aq _):=h.cell 6 _ rfl;have m1:w.cell? (ai bm 1 I)=J (aL K.c.off):=by rw[h.mod.c1,h.m_.off]
 have d5:=h.dog.c5
 cases ho:K.c.off
 ·cases hr:K.d.reset
  ·have HO:U (K.on=0):=by show _=_;unfold aD.on;rw[ho,hr];rfl
   rw[ho]at m1;rw[hr]at d5;go_enter func51,ntmps51
   go_wp2;go_ret;exact⟨by rw[HO.o];rfl,rfl⟩
  have HO:U (K.on=11):=by show _=_;unfold aD.on;rw[ho,hr];rfl
  rw[ho]at m1;rw[hr]at d5;go_enter func51,ntmps51
  go_wp2;go_ret;exact⟨by rw[HO.o];rfl,rfl⟩
 have HO:U (K.on=8):=by show _=_;unfold aD.on;rw[ho];rfl
 rw[ho]at m1;go_enter func51,ntmps51
 go_wp2;go_ret;exact⟨by rw[HO.o];rfl,rfl⟩
def ak2(h:dC H w0 w c ev kb bm bd rm bt v lv m bs K):Calls prog 33 #[aq (J (ai kb 0 I))] w λe w'=>e=ax (aA (n_ K.on))/\w'=w:=by
 have HC:U (Calls _ 51 _ w λe w'=>e=ax _/\w'=w):=yw h
 rcases K.KQ with ho|ho|ho
 all_goals
  rw[ho]at HC⊢;go_enter func33,ntmps33
  go_wp2_with fail
  refine HC.mono ?_;rintro e w' ⟨rfl,rfl⟩;go_wp2;go_ret;exact⟨rfl,rfl⟩
def dC.qB(h:dC H w0 w c ev kb bm bd rm bt v lv m bs K){s:aZ}(hs:K.ls[i]?=J s):∃(b:Nat) (e:aM) (E:EA) (g cap:Nat),bs[i]?=J b/\c.az[i]?=J e/\lv=aj (J (ai g 0 I)) K.ls.length cap/\w.cell? (ai g i I)=J (aq (J (ai b 0 I)))/\im (H (5+i)) w0.heap.size w b e E s/\fh w0 e (aj E.pa e.au.length E.pc) (aj E.ga e.aV.length E.gc) (aj E.ea e.aP.length E.ec) (aj E.fa e.first.length E.fc) (aj E.la e.last.length E.lc):=by
 have hi:=(df.1 hs).1;obtain⟨b,hb⟩:∃b,bs[i]?=J b:=⟨_,bq (by rw[h.dY,<- h.dB];exact hi)⟩;obtain⟨e,he⟩:∃e,c.az[i]?=J e:=⟨_,bq (by rw[<- h.dB];exact hi)⟩;obtain⟨E,h1,h2⟩:=h.loc i b e s hb he hs;have hl:bs.length=K.ls.length:=by rw[h.dY,h.dB]
 obtain⟨-,hn|⟨g,cap,cur,h3,-,h4,h5,h6,h7,h8⟩⟩:=h.own
 ·exact absurd hn.2 (by omega)
 rw[hl]at h3
 refine⟨b,e,E,g,cap,hb,he,h3,?_,h1,h2⟩;have:=Dw (enc:=lM) (k:=1) (λ_=>rfl) bs i 0 b _ hb rfl;simp only[qT,kH]at this;rw[<- h8,np,aU (by omega)]at this;simp only[aH,h4];simpa using this
def cu(F:Nat->Prop)(w0 w:ak)(c:aX)(ev:aw)(kb bm:Nat)(K:aD)(w':ak):Prop:=dO (gr F w w') w0 w' c ev kb bm K/\aG F w w'
def cu.same(h:dO F w0 w c ev kb bm K):cu F w0 w c ev kb bm K w:=by
 obtain⟨H,bd,rm,bt,v,lv,m,bs,h1,h2⟩:=h;exact⟨⟨H,bd,rm,bt,v,lv,m,bs,h1,λi k hk=>aT (h2 i k hk)⟩,aG.refl _ _⟩
def dC.post{Eb Vm Hh:Nat}{Lu:aw}{Hi:List Nat}{K':aD}(hF:∀i k,H i k->F k)(ho:aG (H i) w w')(h:dC (cO H i w w') w0 w' c ev kb bm Eb Vm Hh v' Lu m' Hi K'):cu F w0 w c ev kb bm K' w':=
 ⟨⟨_,_,_,_,_,_,_,_,h,xC hF i⟩,aG.all hF ho⟩
def cu.from(h:cu F w0 V c ev kb bm K w')(hb:Below w.heap.size w V):cu F w0 w c ev kb bm K w':=by
 obtain⟨⟨H,bd,rm,bt,v,lv,m,bs,h1,h2⟩,h3⟩:=h;exact⟨⟨H,bd,rm,bt,v,lv,m,bs,h1,λi k hk=>(h2 i k hk).imp id (λ⟨a,b⟩=>⟨bp hb.size a,b⟩)⟩,(aG.dm hb F).trans h3 (λ_ _ h=>h)⟩
def ak3(i p:Int)(h:dO F w0 w c ev kb bm K):Calls prog 27 #[aq (J (ai kb 0 I)),aA ⟨#[98,101,103,105,110]⟩,ae af i,ae af p] w λe w'=>e=ax (ae af ((K.begin i).2:Int))/\cu F w0 w c ev kb bm (K.begin i).1 w':=by
 have HS:U (cu F w0 w c ev kb bm K w):=cu.same h;obtain⟨H,bd,rm,bt,v,lv,m,bs,h1,hF⟩:=h;have HC:U (Calls _ 51 _ w λe w'=>e=ax _/\w'=w):=yw h1;have c8:w.cell? _=J lv:=h1.cell 8 _ rfl;obtain⟨la,lc,rfl⟩:=iB h1.own;rw[show bs.length=K.ls.length by rw[h1.dY,h1.dB]]at c8;change U _ at h1 hF
 by_cases ho:K.on=0
 ·rw[ho]at HC
  by_cases hi:i<0
  ·have HB:U (K.begin i=(K,5)):=by show _=_;unfold aD.begin;rw[aK (by omega),aU hi]
   go_enter func27,ntmps27
   go_wp2_with fail
   refine HC.mono ?_;rintro e w' ⟨rfl,rfl⟩;go_wp2;go_ret;rw[HB.o];exact⟨rfl,HS⟩
  obtain⟨n,rfl⟩:∃n:Nat,i=(n:Int):=⟨i.toNat,by omega⟩;have hn:(n:Int).toNat=n:=by omega
  cases hs:K.ls[n]? with
  |none=>
   have HB:U (K.begin (n:Int)=(K,5)):=by show _=_;unfold aD.begin;rw[aK (by omega),aK hi,hn,hs]
   have g1:(K.ls.length:Int)<=(n:Int):=by have:=ET.1 hs;omega
   go_enter func27,ntmps27
   go_wp2_with fail
   refine HC.mono ?_;rintro e w' ⟨rfl,rfl⟩;go_wp2;go_ret;rw[HB.o];exact⟨rfl,HS⟩
  |some s=>
   obtain⟨b,e,E,g,cap,hb,he,hlv,cp,h4,h5⟩:=h1.qB hs;simp only[mf]at hlv;obtain⟨rfl,-,rfl⟩:=hlv;have od:c.az.getD n mQ=e:=by rw[fp,he];rfl
   have g1:¬(K.ls.length:Int)<=(n:Int):=by have:=(df.1 hs).1;omega
   have g2:(n:Int)<(K.ls.length:Int):=by omega
   have HB:U (K.begin (n:Int)=(K.dT n (s.begin),s.tZ)):=by show _=_;unfold aD.begin;rw[aK (by omega),aK hi,hn,hs]
   have HX:U (Calls _ 52 _ w λv w'=>v=ax _/\im _ _ w' b e E _/\aG _ w w'):=akY h4 h1.aY;have Hb:U (bs[n]?=J b/\c.az[n]?=J e):=⟨hb,he⟩;change U _ at h5
   go_enter func27,ntmps27
   go_wp2_with fail
   refine HC.mono ?_;rintro e w' ⟨rfl,rfl⟩;go_wp2_with fail
   refine HX.mono ?_;rintro e w' ⟨rfl,hl,bz⟩;go_wp2;go_ret;rw[HB.o];exact⟨rfl,dC.post hF bz (h1.uh bz Hb.1 Hb.2 hl h5)⟩
 have HB:U (K.begin i=(K,K.on)):=by show _=_;unfold aD.begin;rw[aU ho]
 have g0:0<(K.on:Int):=by omega
 go_enter func27,ntmps27
 go_wp2_with fail
 refine HC.mono ?_;rintro e w' ⟨rfl,rfl⟩;go_wp2;go_ret;rw[HB.o];exact⟨rfl,HS⟩
def ak4(i p:Int)(h:dO F w0 w c ev kb bm K):Calls prog 27 #[aq (J (ai kb 0 I)),aA ⟨#[115,116,111,112]⟩,ae af i,ae af p] w λe w'=>e=ax (ae af ((K.stop i).2:Int))/\cu F w0 w c ev kb bm (K.stop i).1 w':=by
 have HS:U (cu F w0 w c ev kb bm K w):=cu.same h;obtain⟨H,bd,rm,bt,v,lv,m,bs,h1,hF⟩:=h;have HC:U (Calls _ 51 _ w λe w'=>e=ax _/\w'=w):=yw h1;have c8:w.cell? _=J lv:=h1.cell 8 _ rfl;obtain⟨la,lc,rfl⟩:=iB h1.own;rw[show bs.length=K.ls.length by rw[h1.dY,h1.dB]]at c8;change U _ at h1 hF
 by_cases ho:K.on=0
 ·rw[ho]at HC
  by_cases hi:i<0
  ·have HB:U (K.stop i=(K,5)):=by show _=_;unfold aD.stop;rw[aK (by omega),aU hi]
   go_enter func27,ntmps27
   go_wp2_with fail
   refine HC.mono ?_;rintro e w' ⟨rfl,rfl⟩;go_wp2;go_ret;rw[HB.o];exact⟨rfl,HS⟩
  obtain⟨n,rfl⟩:∃n:Nat,i=(n:Int):=⟨i.toNat,by omega⟩;have hn:(n:Int).toNat=n:=by omega
  cases hs:K.ls[n]? with
  |none=>
   have HB:U (K.stop (n:Int)=(K,5)):=by show _=_;unfold aD.stop;rw[aK (by omega),aK hi,hn,hs]
   have g1:(K.ls.length:Int)<=(n:Int):=by have:=ET.1 hs;omega
   go_enter func27,ntmps27
   go_wp2_with fail
   refine HC.mono ?_;rintro e w' ⟨rfl,rfl⟩;go_wp2;go_ret;rw[HB.o];exact⟨rfl,HS⟩
  |some s=>
   obtain⟨b,e,E,g,cap,hb,he,hlv,cp,h4,h5⟩:=h1.qB hs;simp only[mf]at hlv;obtain⟨rfl,-,rfl⟩:=hlv;have od:c.az.getD n mQ=e:=by rw[fp,he];rfl
   have g1:¬(K.ls.length:Int)<=(n:Int):=by have:=(df.1 hs).1;omega
   have g2:(n:Int)<(K.ls.length:Int):=by omega
   have HB:U (K.stop (n:Int)=(K.dT n (s.stop),s.jQ)):=by show _=_;unfold aD.stop;rw[aK (by omega),aK hi,hn,hs]
   have HX:U (Calls _ 53 _ w λv w'=>v=ax _/\im _ _ w' b e E _/\aG _ w w'):=akZ h4 h1.aY;have Hb:U (bs[n]?=J b/\c.az[n]?=J e):=⟨hb,he⟩;change U _ at h5
   go_enter func27,ntmps27
   go_wp2_with fail
   refine HC.mono ?_;rintro e w' ⟨rfl,rfl⟩;go_wp2_with fail
   refine HX.mono ?_;rintro e w' ⟨rfl,hl,bz⟩;go_wp2;go_ret;rw[HB.o];exact⟨rfl,dC.post hF bz (h1.uh bz Hb.1 Hb.2 hl h5)⟩
 have HB:U (K.stop i=(K,K.on)):=by show _=_;unfold aD.stop;rw[aU ho]
 have g0:0<(K.on:Int):=by omega
 go_enter func27,ntmps27
 go_wp2_with fail
 refine HC.mono ?_;rintro e w' ⟨rfl,rfl⟩;go_wp2;go_ret;rw[HB.o];exact⟨rfl,HS⟩
def ak5{k W:Nat}(i p:Int)(h:dO F w0 w c ev kb bm K)(hf:bF c K k W)(hk:k<1000):Calls prog 27 #[aq (J (ai kb 0 I)),aA ⟨#[114,101,112,111,114,116]⟩,ae af i,ae af p] w λe w'=>e=ax (ae af ((K.report c i p).2:Int))/\cu F w0 w c ev kb bm (K.report c i p).1 w':=by
 have HS:U (cu F w0 w c ev kb bm K w):=cu.same h;obtain⟨H,bd,rm,bt,v,lv,m,bs,h1,hF⟩:=h;have HC:U (Calls _ 51 _ w λe w'=>e=ax _/\w'=w):=yw h1;have c8:w.cell? _=J lv:=h1.cell 8 _ rfl;have c6:w.cell? _=J (aq _):=h1.cell 6 _ rfl;have d2:=h1.dog.c2;have ak6:U _:=λs hs=>Nat.lt_of_le_of_lt (hf.each s hs).2.1 hk
 obtain⟨la,lc,rfl⟩:=iB h1.own;rw[show bs.length=K.ls.length by rw[h1.dY,h1.dB]]at c8;change U _ at h1 hF
 by_cases ho:K.on=0
 ·rw[ho]at HC
  by_cases hi:i<0
  ·have HB:U (K.report c i p=(K,5)):=by show _=_;unfold aD.report;rw[aK (by omega),aU hi]
   go_enter func27,ntmps27
   go_wp2_with fail
   refine HC.mono ?_;rintro e w' ⟨rfl,rfl⟩;go_wp2;go_ret;rw[HB.o];exact⟨rfl,HS⟩
  obtain⟨n,rfl⟩:∃n:Nat,i=(n:Int):=⟨i.toNat,by omega⟩;have hn:(n:Int).toNat=n:=by omega
  cases hs:K.ls[n]? with
  |none=>
   have HB:U (K.report c (n:Int) p=(K,5)):=by show _=_;unfold aD.report;rw[aK (by omega),aK hi,hn,hs]
   have g1:(K.ls.length:Int)<=(n:Int):=by have:=ET.1 hs;omega
   go_enter func27,ntmps27
   go_wp2_with fail
   refine HC.mono ?_;rintro e w' ⟨rfl,rfl⟩;go_wp2;go_ret;rw[HB.o];exact⟨rfl,HS⟩
  |some s=>
   obtain⟨b,e,E,g,cap,hb,he,hlv,cp,h4,h5⟩:=h1.qB hs;simp only[mf]at hlv;obtain⟨rfl,-,rfl⟩:=hlv;have od:c.az.getD n mQ=e:=by rw[fp,he];rfl
   have g1:¬(K.ls.length:Int)<=(n:Int):=by have:=(df.1 hs).1;omega
   have g2:(n:Int)<(K.ls.length:Int):=by omega
   have HB:U (K.report c (n:Int) p=(K.dT n (s.rep e p (K.d.now:Int)),s.sw e p)):=by show _=_;unfold aD.report;rw[aK (by omega),aK hi,hn,hs,od]
   have zo:=ak6 s (bP hs);have HX:U (∀V,Below _ w V->Calls _ 54 _ V λv w'=>v=ax _/\im _ _ w' b e E _/\aG _ V w'):=λV hV=>ak0 p (K.d.now:Int) (h4.same (λk hk=>hV.block k (h1.bO.lt _ k hk))) (h1.aY.trans (hV.mono h1.aY.size)) zo
   have HK:U (∀V w',Below w.heap.size w V->aG (H (5+n)) V w'->(λw'=>w'.cell? (ai kb 8 I)=J (aj (J (ai g 0 I)) K.ls.length lc)/\w'.cell? (ai g n I)=J (aq (J (ai b 0 I)))/\w'.cell? (ai kb 6 I)=J (aq (J (ai bd 0 I)))/\w'.cell? (ai bd 2 I)=J (ae af (K.d.now:Int))) w'):=λV w' hV bz=>by
    have pM:=h1.below hV;have e0:=pM.bO.keep (show 0≠5+n by omega) bz kb pM.hk;have e1:=pM.bO.keep (show 1≠5+n by omega) bz g (pM.hl g rfl);have e3:=pM.bO.keep (show 3≠5+n by omega) bz bd pM.hd;exact⟨(mH (a:=⟨kb,8,_⟩) e0).trans (aJ hV c8),(mH (a:=⟨g,n,_⟩) e1).trans (aJ hV cp),(mH (a:=⟨kb,6,_⟩) e0).trans (aJ hV c6),(mH (a:=⟨bd,2,_⟩) e3).trans (aJ hV d2)⟩
   have Hb:U (bs[n]?=J b/\c.az[n]?=J e):=⟨hb,he⟩;change U _ at h5
   go_enter func27,ntmps27
   go_wp2_with fail
   refine HC.mono ?_;rintro e w' ⟨rfl,rfl⟩;go_wp2_with fail
   go_region_held3 (λw'=>w'.cell? (ai kb 8 I)=J (aj (J (ai g 0 I)) K.ls.length lc)/\w'.cell? (ai g n I)=J (aq (J (ai b 0 I)))/\w'.cell? (ai kb 6 I)=J (aq (J (ai bd 0 I)))/\w'.cell? (ai bd 2 I)=J (ae af (K.d.now:Int))) (first|exact⟨c8,cp,c6,d2⟩|exact HK _ _ (br (aF _ _) 1) bz) (first|(go_at_call 54;refine aO (HX.o _ (br (aF _ _) 1)) ?_;rintro e w2 ⟨rfl,hl,bz⟩))
   go_wp2;go_ret;rw[HB.o];exact⟨rfl,cu.from (dC.post hF bz ((h1.below (br (aF _ _) 1)).uh bz Hb.1 Hb.2 hl h5)) (br (aF _ _) 1)⟩
 have HB:U (K.report c i p=(K,K.on)):=by show _=_;unfold aD.report;rw[aU ho]
 have g0:0<(K.on:Int):=by omega
 go_enter func27,ntmps27
 go_wp2_with fail
 refine HC.mono ?_;rintro e w' ⟨rfl,rfl⟩;go_wp2;go_ret;rw[HB.o];exact⟨rfl,HS⟩
end
section
variable {H:Nat->Nat->Prop}{F:Nat->Prop}{w0 w w':ak}{c:aX}{ev:aw}{kb bm bd rm bt:Nat}{v lv:aw}{m:cr}{bs:List Nat}{K:aD}{k W:Nat}
def ak7(h:dC H w0 w c ev kb bm bd rm bt v lv m bs K)(hf:bF c K k W)(hW:W+18<=1099511627776)(ho:K.c.off=false)(i kd t:Nat)(h1:i<=255)(h2:kd<=255)(h3:t<=281474976710655):Calls prog 113 #[aq (J (ai rm 0 I)),ae af (i:Int),ae af (kd:Int),ae af (t:Int)] w λe w'=>∃r:Rec,e=ax (bn #[r.val,ae af ((K.app i kd t).2:Int)])/\(∃v' m',dC (cO H 2 w w') w0 w' c ev kb bm bd rm bt v' lv m' bs (K.app i kd t).1)/\aG (H 2) w w':=by
 have hsp:K.sp=false:=by
  cases e:K.sp with
  |false=>rfl
  |true=>rw[hf.sp e]at ho;cases ho
 have Fy:gU w w0.heap.size rm bm v K.L false:=by have:=h.ring;rwa [hsp]at this
 have hS:∀V,aG (λk=>k=bm\/k=rm\/v.ownBlock=J k) w V->aG (H 2) w V:=λV hV=>hV.mono (λk _ hk=>by
  rcases hk with rfl|rfl|hk
  ·exact h.hm
  ·exact h.hr
  exact h.hv k hk)
 have Q5:=hf.last
 by_cases hq:(cU K.L).seq=4294967295
 ·have hB:K.app i kd t=(K,7):=by unfold aD.app;rw[aK (by rw[hsp];simp),aU hq]
  rw[hB]
  apply(akD _ rm bm v K.L m i kd t w Fy h.mod h1 h2 h3 hf.dB hq).mono;rintro e w' ⟨rfl,bz,I_,vD⟩;have Ax:=hS w' (bz.mono (λk _ hk=>aT hk));have:=h.toRing Ax I_ h.m_ vD (λk hk=>aT hk);rw[show ({ K with c:=K.c,L:=K.L,sp:=false }:aD)=K by rw[<- hsp]]at this;exact⟨_,rfl,⟨v,m,this⟩,Ax⟩
 apply(akP _ rm bm v K.L K.c m i kd t w Fy h.mod h.m_ hf.big.size ho (by have:=hf.wr;omega) h1 h2 h3 hf.dB (by omega) h.aY.size).mono;rintro e w' ⟨m',iD,I_,bz,hh⟩;have Ax:=hS w' bz
 rcases hh with⟨j,hj,rfl,vD⟩|⟨h0,rfl,v',vD,hv⟩
 ·have hB:K.app i kd t=({ K with c:=(K.c.dR (eL K.L i kd t)).1,sp:=true },j+1):=by unfold aD.app;rw[aK (by rw[hsp];simp),aK hq,aK (by omega),hj]
  rw[hB];exact⟨_,rfl,⟨v,m',h.toRing Ax I_ iD vD (λk hk=>aT hk)⟩,Ax⟩
 have hB:K.app i kd t=({ K with c:=(K.c.dR (eL K.L i kd t)).1,L:=mg K.L (eL K.L i kd t) },0):=by unfold aD.app;rw[aK (by rw[hsp];simp),aK hq,aU h0]
 rw[hB];have:=h.toRing Ax I_ iD vD hv;rw[<- hsp]at this;exact⟨_,rfl,⟨v',m',this⟩,Ax⟩
def dC.off(h:dC H w0 w c ev kb bm bd rm bt v lv m bs K)(ho:aG S w w')(hS:∀i k,H i k->¬S k)(hB:∀k,S k->w0.heap.size<=k):dC H w0 w' c ev kb bm bd rm bt v lv m bs K:=by
 have hs:=λi k hk=>ho.block k (h.bO.lt i k hk) (hS i k hk)
 exact⟨h.bO.grow ho.size,(hs 0 kb h.hk).trans h.row,h.hk,bI.same h.own (λg hg=>hs 1 g (h.hl g hg)),h.hl,h.mod.off ho (hS 2 bm h.hm),h.hm,h.m_,h.ring.off ho (hS 2 rm h.hr) (λg hg=>hS 2 g (h.hv g hg)),h.hr,h.hv,h.dog.off ho (hS 3 bd h.hd),h.hd,(hs 4 bt h.ht).trans h.ij,h.ht,
  λi b e s h1 h2 h3=>by obtain⟨E,h4,h5⟩:=h.loc i b e s h1 h2 h3;exact⟨E,h4.same (hs _),h5⟩,h.dY,h.dB,h.az,aG.below h.aY ho h.aY.size hB⟩
def N4(h:dC H w0 w c ev kb bm bd rm bt v lv m bs K)(hr:K.d.reset=false)(hn:K.d.now<1099511627776):Calls prog 111 #[aq (J (ai bd 0 I))] w λe w'=>e=ax (ae af 0)/\dC (cO H 3 w w') w0 w' c ev kb bm bd rm bt v lv m bs K.bC/\aG (H 3) w w':=by
 apply(aaU bd K.d w h.dog hr hn).mono;rintro e w' ⟨rfl,hd,hg⟩;have bz:aG (H 3) w w':=(aG.cG hg).mono (λk _ e=>by rw[e];exact h.hd);exact⟨rfl,h.xL bz hd,bz⟩
def N5(h:dC H w0 w c ev kb bm bd rm bt v lv m bs K)(ho:K.d.iG=true):Calls prog 116 #[aq (J (ai bd 0 I))] w λe w'=>e=ax (ae af 0)/\dC (cO H 3 w w') w0 w' c ev kb bm bd rm bt v lv m bs { K with d:=K.d.oO }/\aG (H 3) w w':=by
 apply(aaV bd K.d w h.dog ho).mono;rintro e w' ⟨rfl,hd,hg⟩;have bz:aG (H 3) w w':=(aG.cG hg).mono (λk _ e=>by rw[e];exact h.hd);exact⟨rfl,h.xL bz hd,bz⟩
def ak8(h:dC H w0 w c ev kb bm bd rm bt v lv m bs K)(hf:pw K.t 20)(l:List ByteArray)(sa:Option aC)(cap:Nat)(hl:∀V,w.grownBy V (J bt)->bw ct 1 V (aj sa l.length cap) l)(hn:l.length<=1000000):Calls prog 114 #[aq (J (ai bt 0 I)),aj sa l.length cap] w λe w'=>e=ax (bn #[])/\dC (cO H 4 w w') w0 w' c ev kb bm bd rm bt v lv m bs { K with t:=K.t.fin l }/\aG (H 4) w w':=by
 apply(aj2 (w0:=w0) (k:=20) l sa cap ⟨h.ij,h.aY,h.bO.lo 4 bt h.ht⟩ hf (ar rfl) hl hn).mono;rintro e w' ⟨rfl,ht,hg⟩;have bz:aG (H 4) w w':=(aG.cG hg).mono (λk _ e=>by rw[e];exact h.ht);exact⟨rfl,h.Lt bz ht.heap,bz⟩
def ak9(h:dC H w0 w c ev kb bm bd rm bt v lv m bs K)(hr:er c)(hf:bF c K k W)(hk:k<=1000)(hn:k+K.d.now<=900000){s:aZ}(hs:K.ls[i]?=J s)(hb:bs[i]?=J b)(he:c.az[i]?=J e)(hl:im (H (5+i)) w0.heap.size w b e E s)(hP:fh w0 e (aj E.pa e.au.length E.pc) (aj E.ga e.aV.length E.gc) (aj E.ea e.aP.length E.ec) (aj E.fa e.first.length E.fc) (aj E.la e.last.length E.lc)):Calls prog 112 #[aq (J (ai b 0 I))] w λu w'=>u=ax (bn #[ae af (s.kind e),aL (s.turns e)])/\dC (cO H (5+i) w w') w0 w' c ev kb bm bd rm bt v lv m bs (K.dT i (s.fin e))/\aG (H (5+i)) w w':=by
 obtain⟨f1,f2,f3⟩:=hf.each s (bP hs)
 apply(ak1 hl h.aY (hP.below h.aY) (hr.each e (bP he)).1 (f1.mono hn) (bp f2 hk) f3).mono;rintro u w' ⟨rfl,h1,h2⟩;exact⟨rfl,h.uh h2 hb he h1 hP,h2⟩
end
section
variable {H:Nat->Nat->Prop}{F:Nat->Prop}{w0 w w':ak}{c:aX}{ev:aw}{kb bm bd rm bt:Nat}{v lv:aw}{m:cr}{bs:List Nat}{K:aD}{k W:Nat}
def ak_(h:dO F w0 w c ev kb bm K)(ho:K.on≠0):Calls prog 55 #[aq (J (ai kb 0 I))] w λe w'=>e=ax (ae af ((K.tick c).2:Int))/\cu F w0 w c ev kb bm (K.tick c).1 w':=by
 have HS:U (cu F w0 w c ev kb bm K w):=cu.same h;obtain⟨H,bd,rm,bt,v,lv,m,bs,h1,hF⟩:=h;have HC:U (Calls _ 51 _ w λe w'=>e=ax _/\w'=w):=yw h1;have HB:U (K.tick c=(K,K.on)):=by show _=_;unfold aD.tick;rw[aU ho]
 have g0:¬(K.on:Int)=0:=by omega
 have g1:0<(K.on:Int):=by omega
 go_enter func55,ntmps55
 go_wp2_with fail
 refine HC.mono ?_;rintro e w' ⟨rfl,rfl⟩;go_wp2;go_ret;rw[HB.o];exact⟨rfl,HS⟩
def cu.trans{K1:aD}(h1:cu F w0 w c ev kb bm K1 V)(h2:cu (gr F w V) w0 V c ev kb bm K w'):cu F w0 w c ev kb bm K w':=by
 obtain⟨⟨H,bd,rm,bt,v,lv,m,bs,h3,h4⟩,h5⟩:=h2;exact⟨⟨H,bd,rm,bt,v,lv,m,bs,h3,λi k hk=>KO h1.2.size h5.size (h4 i k hk)⟩,h1.2.gr h5⟩
def cu.below(h:cu F w0 w c ev kb bm K w')(hb:Below w'.heap.size w' V):cu F w0 w c ev kb bm K V:=by
 obtain⟨⟨H,bd,rm,bt,v,lv,m,bs,h3,h4⟩,h5⟩:=h;exact⟨⟨H,bd,rm,bt,v,lv,m,bs,h3.below hb,λi k hk=>(h4 i k hk).imp id (λ⟨a,b⟩=>⟨a,cK b hb.size⟩)⟩,h5.trans (aG.dm hb F) (λ_ _ h=>h)⟩
def Vn(h:dO F w0 w c ev kb bm K)(hr:er c)(hn:K.d.now<1099511627776)(ho:K.on=0)(hs:K.bC.d.reset=true\/K.bC.d.now%c.cycle.toNat≠0):Calls prog 55 #[aq (J (ai kb 0 I))] w λe w'=>e=ax (ae af ((K.tick c).2:Int))/\cu F w0 w c ev kb bm (K.tick c).1 w':=by
 obtain⟨H,bd,rm,bt,v,lv,m,bs,h1,hF⟩:=h;have HC:U (Calls _ 51 _ w λe w'=>e=ax _/\w'=w):=yw h1;have c6:w.cell? _=J (aq _):=h1.cell 6 _ rfl;rw[ho]at HC;obtain⟨o1,o2⟩:=aD.Bv.1 ho;change U _ at h1 hF
 cases fW:K.bC.d.reset
 ·have oH:K.bC.d.now%c.cycle.toNat≠0:=by
   rcases hs with hs|hs
   ·rw[fW]at hs;cases hs
   exact hs
  have HB:U (K.tick c=(K.bC,0)):=by show _=_;unfold aD.tick;rw[aK (by omega),aK (by rw[fW];simp),aU oH]
  go_enter func55,ntmps55
  go_wp2_with fail
  refine HC.mono ?_;rintro e w' ⟨rfl,rfl⟩;go_wp2_with fail
  apply(N4 h1 o2 hn).mono;rintro e w2 ⟨rfl,h2,bz⟩;have e6:w2.cell? _=J (aq _):=h2.cell 6 _ rfl;have e2:w2.cell? _=J (ae af _):=h2.cell 2 _ rfl;have d2:=h2.dog.c2;have d5:=h2.dog.c5;rw[fW]at d5;have Es:=hr.cy;change U _ at h2
  obtain⟨nw,uu⟩:∃n,n=K.bC.d.now:=⟨_,rfl⟩;obtain⟨cy,Fz⟩:∃n:Nat,c.cycle=(n:Int):=⟨c.cycle.toNat,by omega⟩;rw[<- uu]at d2 oH;rw[Fz]at e2;have mo:c.cycle.toNat=cy:=by omega
  rw[mo]at oH;have z0:¬(cy:Int)=0:=by omega
  clear Es mo uu hs hn Fz hr;go_wp2_with fail
  go_quiet (fail)
  have q1:¬(nw:Int)%(cy:Int)=0:=by omega
  go_wp2;go_ret;rw[HB.o];exact⟨rfl,(dC.post hF bz h2).below (br (aF _ _) _)⟩
 have HB:U (K.tick c=(K.bC,11)):=by show _=_;unfold aD.tick;rw[aK (by omega),aU fW]
 clear hs;go_enter func55,ntmps55
 go_wp2_with fail
 refine HC.mono ?_;rintro e w' ⟨rfl,rfl⟩;go_wp2_with fail
 apply(N4 h1 o2 hn).mono;rintro e w2 ⟨rfl,h2,bz⟩;have e6:w2.cell? _=J (aq _):=h2.cell 6 _ rfl;have d5:=h2.dog.c5;rw[fW]at d5;change U _ at h2
 go_wp2;go_ret;rw[HB.o];exact⟨rfl,dC.post hF bz h2⟩
end
section
variable {H:Nat->Nat->Prop}{F:Nat->Prop}{w0 w w':ak}{c:aX}{ev:aw}{kb bm bd rm bt:Nat}{v lv:aw}{m:cr}{bs:List Nat}{K:aD}{k W:Nat}
structure iL(H:Nat->Nat->Prop)(F:Nat->Prop)(w0 w wr:ak)(c:aX)(ev:aw)(kb bm bd rm bt:Nat)(v lv:aw)(m:cr)(bs:List Nat)(K:aD)(kv:aw)(xs:List ByteArray):Prop where
 km:dC H w0 wr c ev kb bm bd rm bt v lv m bs K
 hF:∀i k,H i k->gr F w wr k
 off:aG F w wr
 own:bI ct 1 9 w.heap.size wr kv xs
 no:∀k,kv.ownBlock=J k->∀i,¬H i k
section
variable {wr wr':ak}{kv:aw}{xs:List ByteArray}{v':aw}{m':cr}{K':aD}
def iL.step(h:iL H F w0 w wr c ev kb bm bd rm bt v lv m bs K kv xs)(bz:aG (H i) wr wr')(h2:dC (cO H i wr wr') w0 wr' c ev kb bm bd rm bt v' lv m' bs K'):iL (cO H i wr wr') F w0 w wr' c ev kb bm bd rm bt v' lv m' bs K' kv xs:=by
 refine⟨h2,λj k hk=>?_,?_,bI.same h.own (λg hg=>bz.block g (h.own.lt g hg).2 (h.no g hg i)),λk hk j hj=>?_⟩
 ·rcases hk with hk|⟨_,a,b⟩
  ·rcases h.hF j k hk with a|⟨a,b⟩
   ·exact aT a
   exact aN ⟨a,cK b bz.size⟩
  exact aN ⟨bp h.off.size a,b⟩
 ·exact h.off.trans bz (λk hk hi=>by
   rcases h.hF i k hi with a|⟨a,_⟩
   ·exact a
   omega)
 rcases hj with hj|⟨_,a,_⟩
 ·exact h.no k hk j hj
 have:=(h.own.lt k hk).2;omega
def iL.below(h:iL H F w0 w wr c ev kb bm bd rm bt v lv m bs K kv xs)(hb:Below wr.heap.size wr wr'):iL H F w0 w wr' c ev kb bm bd rm bt v lv m bs K kv xs:=
 ⟨h.km.below hb,λi k hk=>(h.hF i k hk).imp id (λ⟨a,b⟩=>⟨a,cK b hb.size⟩),h.off.trans (aG.dm hb F) (λ_ _ h=>h),h.own.below hb,h.no⟩
def iL.post(h:iL H F w0 w wr c ev kb bm bd rm bt v lv m bs K kv xs):cu F w0 w c ev kb bm K wr:=⟨⟨_,_,_,_,_,_,_,_,h.km,h.hF⟩,h.off⟩
def iL.more(h:iL H F w0 w wr c ev kb bm bd rm bt v lv m bs K kv xs)(hw:w0.heap.size<=w.heap.size){o:Obj}{y:ByteArray}{cap:Nat}(hn:xs.length+1=n)(hown:wr'.ownsRow w.heap.size 9 1 (aj (J (ai g 0 I)) n cap) n (xs.flatMap ct++[aA y]))(hg:(wr.alloc o).grownBy wr' kv.ownBlock)(cH:kv.ownBlock=J g\/g=wr.heap.size+1):iL H F w0 w wr' c ev kb bm bd rm bt v lv m bs K (aj (J (ai g 0 I)) n cap) (xs++[y]):=by
 have h1:=h.below (aS wr o);have bz:aG _ _ wr':=⟨hg.os,hg.tape,hg.output,hg.size,λk hk hn=>hg.block k hk (λe=>hn e.symm)⟩;have hlt:=λk hk=>(h.own.lt k hk).1
 refine⟨h1.km.off bz (λi k hk e=>h.no k e i hk) (λk hk=>bp hw (hlt k hk)),λi k hk=>(h1.hF i k hk).imp id (λ⟨a,b⟩=>⟨a,cK b bz.size⟩),h1.off.trans bz (λk hk e=>absurd (hlt k e) (by omega)),?_,λk hk i hi=>?_⟩
 ·have e:(xs++[y]).flatMap ct=xs.flatMap ct++[aA y]:=by rw[ji];rfl
  show wr'.ownsRow _ _ _ _ _ _
  rw[e,cY,kW,hn];exact hown
 cases hk
 rcases cH with cH|cH
 ·exact h.no g cH i hi
 have:=h.km.bO.lt i g hi;omega
def iL.scratch(h:iL H F w0 w wr c ev kb bm bd rm bt v lv m bs K kv xs)(hw:w0.heap.size<=w.heap.size)(ho:aG (λk=>k=g) wr wr')(h1:∀i,¬H i g)(h2:kv.ownBlock≠J g)(h3:w.heap.size<=g):iL H F w0 w wr' c ev kb bm bd rm bt v lv m bs K kv xs:=
 ⟨h.km.off ho (λi k hk e=>by rw[e]at hk;exact h1 i hk) (λk hk=>by rw[hk];omega),λi k hk=>(h.hF i k hk).imp id (λ⟨a,b⟩=>⟨a,cK b ho.size⟩),h.off.trans ho (λk hk e=>absurd hk (by rw[e];omega)),bI.same h.own (λg' hg=>ho.block g' (h.own.lt g' hg).2 (λe=>by rw[e]at hg;exact h2 hg)),h.no⟩
def iL.append(h:iL H F w0 w wr c ev kb bm bd rm bt v lv m bs K kv xs)(hf:bF c K k W)(hW:W+18<=1099511627776)(ho:K.c.off=false)(i kd t:Nat)(h1:i<=255)(h2:kd<=255)(h3:t<=281474976710655)(V:ak)(hV:Below wr.heap.size wr V):Calls prog 113 #[aq (J (ai rm 0 I)),ae af (i:Int),ae af (kd:Int),ae af (t:Int)] V λe w'=>∃r:Rec,e=ax (bn #[r.val,ae af ((K.app i kd t).2:Int)])/\∃H' v' m',iL H' F w0 w w' c ev kb bm bd rm bt v' lv m' bs (K.app i kd t).1 kv xs/\V.heap.size<=w'.heap.size/\(∀i k,H' i k->k<wr.heap.size\/V.heap.size<=k)/\∀q,wr.heap.size<=q->q<V.heap.size->w'.heap[q]?=V.heap[q]?:=by
 have hl:=h.below hV
 apply(ak7 hl.km hf hW ho i kd t h1 h2 h3).mono;rintro e w' ⟨r,rfl,⟨v',m',hk⟩,bz⟩
 refine⟨r,rfl,_,v',m',hl.step bz hk,bz.size,λi k hk=>?_,λq h1 h2=>bz.block q h2 (λhq=>by have:=h.km.bO.lt 2 q hq;omega)⟩
 rcases hk with hk|⟨_,a,_⟩
 ·exact aT (h.km.bO.lt i k hk)
 exact aN a
end
end
def Vo(kb bd rm n kd tw:Nat):Nat->aw
 |0=>aq (J (ai kb 0 I))
 |1=>aq (J (ai kb 0 I))
 |2=>aq (J (ai kb 7 I))
 |3=>aq (J (ai rm 0 I))
 |4=>ae af (n:Int)
 |5=>ae af (kd:Int)
 |6=>aq (J (ai kb 0 I))
 |7=>aq (J (ai kb 0 I))
 |8=>aq (J (ai kb 6 I))
 |9=>aq (J (ai bd 0 I))
 |10=>aq (J (ai bd 0 I))
 |11=>aq (J (ai bd 2 I))
 |12=>ae af (tw:Int)
 |_=>undef
structure mC(w3:ak)(kb bd rm n kd tw code:Nat)(P:(Nat->Nat->Prop)->ak->Prop)(vals:Nat->Option aw)(V:ak):Prop where
 cs:∀j,j<13->∀v,vals j=J v->v=Vo kb bd rm n kd tw j
 ce:V.cell? (ai kb 7 I)=J (aq (J (ai rm 0 I)))/\V.cell? (ai kb 6 I)=J (aq (J (ai bd 0 I)))/\V.cell? (ai bd 2 I)=J (ae af (tw:Int))
 sz:w3.heap.size<=V.heap.size
 pre:vals 13=I->Below w3.heap.size w3 V
 oX:∀u,vals 13=J u->(∃r:Rec,u=bn #[r.val,ae af (code:Int)])/\∃H,P H V/\(∀i k,H i k->k<V.heap.size)/\∀g,vals 17=J (aq (J (ai g 0 I)))->∀i,¬H i g
 c14:∀u,vals 14=J u->∃r:Rec,u=bn #[r.val,ae af (code:Int)]
 c15:∀u,vals 15=J u->∃r:Rec,u=r.val
 c16:∀u,vals 16=J u->u=ae af (code:Int)
 c17:∀u,vals 17=J u->∃(g:Nat) (r:Rec),u=aq (J (ai g 0 I))/\eu V g r/\w3.heap.size<=g
 d18:vals 18≠I->vals 13≠I
 c19:∀u,vals 19=J u->u=ae af (code:Int)
section
variable {w3 V V':ak}{kb bd rm n kd tw code:Nat}{P:(Nat->Nat->Prop)->ak->Prop}{vals:Nat->Option aw}{i:Nat}{u:aw}
def mC.start(hb:Below w3.heap.size w3 V)(hc:(V.cell? (ai kb 7 I)=J (aq (J (ai rm 0 I)))/\V.cell? (ai kb 6 I)=J (aq (J (ai bd 0 I)))/\V.cell? (ai bd 2 I)=J (ae af (tw:Int)))):mC w3 kb bd rm n kd tw code P (λ_=>.none) V:=
 ⟨λ_ _ _ h=>(by cases h),hc,hb.size,λ_=>hb,λ_ h=>(by cases h),λ_ h=>(by cases h),λ_ h=>(by cases h),λ_ h=>(by cases h),λ_ h=>(by cases h),λh=>absurd rfl h,λ_ h=>(by cases h)⟩
def mC.const(h:mC w3 kb bd rm n kd tw code P vals V)(hi:i<13)(hu:u=Vo kb bd rm n kd tw i):mC w3 kb bd rm n kd tw code P (upd vals i u) V:=by
 have o:∀j,13<=j->upd _ i u j=vals j:=λj hj=>dU _ u (by omega)
 refine⟨λj hj v hv=>?_,h.ce,h.sz,λoz=>h.pre (by rwa [o 13 (by omega)]at oz),λx hx=>?_,λx hx=>h.c14 x (by rwa [o 14 (by omega)]at hx),λx hx=>h.c15 x (by rwa [o 15 (by omega)]at hx),λx hx=>h.c16 x (by rwa [o 16 (by omega)]at hx),λx hx=>h.c17 x (by rwa [o 17 (by omega)]at hx),λhx=>by rw[o 13 (by omega)];exact h.d18 (by rwa [o 18 (by omega)]at hx),λx hx=>h.c19 x (by rwa [o 19 (by omega)]at hx)⟩
 ·by_cases e:j=i
  ·subst e;rw[jH]at hv;exact(fg hv).symm.trans hu
  exact h.cs j hj v (by rwa [dU vals u e]at hv)
 obtain⟨h1,H,h2,h3,h4⟩:=h.oX x (by rwa [o 13 (by omega)]at hx);exact⟨h1,H,h2,h3,λg hg=>h4 g (by rwa [o 17 (by omega)]at hg)⟩
def mC.later(h:mC w3 kb bd rm n kd tw code P vals V)(hi:i=14\/i=15\/i=16\/i=19)(sF:i=14->∃r:Rec,u=bn #[r.val,ae af (code:Int)])(I':i=15->∃r:Rec,u=r.val)(qi:i=16->u=ae af (code:Int))(Ay:i=19->u=ae af (code:Int)):mC w3 kb bd rm n kd tw code P (upd vals i u) V:=by
 have o:∀j,j≠i->upd _ i u j=vals j:=λj hj=>dU _ u hj
 have g:∀j x,upd vals i u j=J x->(j=i/\x=u)\/vals j=J x:=λj x hx=>by
  by_cases e:j=i
  ·subst e;rw[jH]at hx;exact aT ⟨rfl,(fg hx).symm⟩
  exact aN (by rwa [o j e]at hx)
 refine⟨λj hj v hv=>h.cs j hj v (by rwa [o j (by omega)]at hv),h.ce,h.sz,λoz=>h.pre (by rwa [o 13 (by omega)]at oz),λx hx=>?_,λx hx=>?_,λx hx=>?_,λx hx=>?_,λx hx=>h.c17 x (by rwa [o 17 (by omega)]at hx),λhx=>by rw[o 13 (by omega)];exact h.d18 (by rwa [o 18 (by omega)]at hx),λx hx=>?_⟩
 ·obtain⟨h1,H,h2,h3,h4⟩:=h.oX x (by rwa [o 13 (by omega)]at hx);exact⟨h1,H,h2,h3,λg hg=>h4 g (by rwa [o 17 (by omega)]at hg)⟩
 ·rcases g 14 x hx with⟨e,rfl⟩|e
  ·exact sF e.symm
  exact h.c14 x e
 ·rcases g 15 x hx with⟨e,rfl⟩|e
  ·exact I' e.symm
  exact h.c15 x e
 ·rcases g 16 x hx with⟨e,rfl⟩|e
  ·exact qi e.symm
  exact h.c16 x e
 rcases g 19 x hx with⟨e,rfl⟩|e
 ·exact Ay e.symm
 exact h.c19 x e
def mC.made(h:mC w3 kb bd rm n kd tw code P vals V)(hP:∀H W W',P H W->Below W.heap.size W W'->P H W'):mC w3 kb bd rm n kd tw code P (upd vals 17 (aq (J (ai V.heap.size 0 I)))) (V.alloc (ay #[ae af 0,ae af 0,ae af 0,ae af 0] 97)):=by
 have o:∀j,j≠17->upd _ 17 (aq (J (ai V.heap.size 0 I))) j=vals j:=λj hj=>dU _ _ hj
 have hb:Below _ V (V.alloc (ay #[ae af 0,ae af 0,ae af 0,ae af 0] 97)):=aS _ _
 refine⟨λj hj v hv=>h.cs j hj v (by rwa [o j (by omega)]at hv),⟨aJ hb h.ce.1,aJ hb h.ce.2.1,aJ hb h.ce.2.2⟩,bp h.sz hb.size,λoz=>(h.pre (by rwa [o 13 (by omega)]at oz)).trans (hb.mono h.sz),λx hx=>?_,λx hx=>h.c14 x (by rwa [o 14 (by omega)]at hx),λx hx=>h.c15 x (by rwa [o 15 (by omega)]at hx),λx hx=>h.c16 x (by rwa [o 16 (by omega)]at hx),λx hx=>?_,λhx=>by rw[o 13 (by omega)];exact h.d18 (by rwa [o 18 (by omega)]at hx),λx hx=>h.c19 x (by rwa [o 19 (by omega)]at hx)⟩
 ·obtain⟨h1,H,h2,h3,h4⟩:=h.oX x (by rwa [o 13 (by omega)]at hx)
  refine⟨h1,H,hP H V _ h2 hb,λi k hk=>cK (h3 i k hk) hb.size,λg hg i hi=>?_⟩;rw[jH]at hg
  cases hg
  have:=h3 i _ hi;omega
 rw[jH]at hx
 cases hx
 exact⟨_,_,rfl,eu.new V .none,h.sz⟩
def mC.call(h:mC w3 kb bd rm n kd tw code P vals V)(hc:(V'.cell? (ai kb 7 I)=J (aq (J (ai rm 0 I)))/\V'.cell? (ai kb 6 I)=J (aq (J (ai bd 0 I)))/\V'.cell? (ai bd 2 I)=J (ae af (tw:Int)))){H:Nat->Nat->Prop}(hp:P H V')(hz:V.heap.size<=V'.heap.size)(hl:∀i k,H i k->k<V'.heap.size)(hH:∀i k,H i k->k<w3.heap.size\/V.heap.size<=k)(hq:∀q,w3.heap.size<=q->q<V.heap.size->V'.heap[q]?=V.heap[q]?):mC w3 kb bd rm n kd tw code P (upd vals 13 (bn #[r.val,ae af (code:Int)])) V':=by
 have o:∀j,j≠13->upd _ 13 (bn #[r.val,ae af (code:Int)]) j=vals j:=λj hj=>dU _ _ hj
 refine⟨λj hj v hv=>h.cs j hj v (by rwa [o j (by omega)]at hv),hc,bp h.sz hz,λoz=>(by rw[jH]at oz;cases oz),λx hx=>?_,λx hx=>h.c14 x (by rwa [o 14 (by omega)]at hx),λx hx=>h.c15 x (by rwa [o 15 (by omega)]at hx),λx hx=>h.c16 x (by rwa [o 16 (by omega)]at hx),λx hx=>?_,λ_=>by rw[jH];simp,λx hx=>h.c19 x (by rwa [o 19 (by omega)]at hx)⟩
 ·rw[jH]at hx
  cases hx
  refine⟨⟨r,rfl⟩,H,hp,hl,λg hg i hi=>?_⟩;rw[o 17 (by omega)]at hg;obtain⟨g',r',e,hr,dt⟩:=h.c17 _ hg
  cases e
  have:=hr.lt
  rcases hH i g hi with h1|h1<;>omega
 rw[o 17 (by omega)]at hx;obtain⟨g,r',e,hr,dt⟩:=h.c17 x hx;exact⟨g,r',e,⟨(hq g dt hr.lt).trans hr.heap⟩,dt⟩
def mC.laid(h:mC w3 kb bd rm n kd tw code P vals V)(oz:vals 13≠.none)(LY:∀H V,P H V->(V.cell? (ai kb 7 I)=J (.pointer (J (ai rm 0 I)))/\V.cell? (ai kb 6 I)=J (.pointer (J (ai bd 0 I)))/\V.cell? (ai bd 2 I)=J (.int .i64 (tw:Int))))(hP:∀H W W' g,P H W->aG (λk=>k=g) W W'->(∀i,¬H i g)->w3.heap.size<=g->P H W'){r0:Rec}(hg:vals 17=J (.pointer (J (ai g 0 I))))(hr:eu V g r0)(dt:w3.heap.size<=g)(hV:V'=(((V.setCell ⟨g,0,.none⟩ (.int .i64 (r.seq:Int))).setCell ⟨g,1,.none⟩ (.int .i64 (r.cf:Int))).setCell ⟨g,2,.none⟩ (.int .i64 (r.kind:Int))).setCell ⟨g,3,.none⟩ (.int .i64 (r.tick:Int))):mC w3 kb bd rm n kd tw code P (upd vals 18 undef) V':=by
 have o:∀j,j≠18->upd _ 18 undef j=vals j:=λj hj=>dU _ _ hj
 have hg4:V.grownBy V' (J g):=by rw[hV];exact ma ..
 have hc':(V'.cell? (ai kb 7 I)=J (.pointer (J (ai rm 0 I)))/\V'.cell? (ai kb 6 I)=J (.pointer (J (ai bd 0 I)))/\V'.cell? (ai bd 2 I)=J (.int .i64 (tw:Int))):=by
  cases e:vals 13 with
  |none=>exact absurd e oz
  |some u=>
   obtain⟨_,H,h2,h3,h4⟩:=h.oX u e;exact LY H V' (hP H V V' g h2 (aG.cG hg4) (h4 g hg) dt)
 refine⟨λj hj v hv=>h.cs j hj v (by rwa [o j (by omega)]at hv),hc',bp h.sz hg4.size,λe=>(by rw[o 13 (by omega)]at e;exact absurd e oz),λx hx=>?_,λx hx=>h.c14 x (by rwa [o 14 (by omega)]at hx),λx hx=>h.c15 x (by rwa [o 15 (by omega)]at hx),λx hx=>h.c16 x (by rwa [o 16 (by omega)]at hx),λx hx=>?_,λ_=>by rw[o 13 (by omega)];exact oz,λx hx=>h.c19 x (by rwa [o 19 (by omega)]at hx)⟩
 ·obtain⟨h1,H,h2,h3,h4⟩:=h.oX x (by rwa [o 13 (by omega)]at hx);exact⟨h1,H,hP H V V' g h2 (aG.cG hg4) (h4 g hg) dt,λi k hk=>cK (h3 i k hk) hg4.size,λg' cM=>h4 g' (by rwa [o 17 (by omega)]at cM)⟩
 rw[o 17 (by omega),hg]at hx
 cases hx
 exact⟨g,r,rfl,by rw[hV];exact hr.iT r,dt⟩
end
def ak':(prog.info? 9).map (λi=>(i.zero,i.size,i.bytes))=J (J (aA ⟨#[]⟩),1,16):=by kernel_rfl
def uO{cs:Array aw}{T:TypeId}{fr:Nat×Nat}{u:aw}(h:w.heap[b]?=J (ay cs T fr))(hu:cs[j]?=J u):w.cell? (ai b j I)=J u:=by simp[aH,h,hu]
section
variable {H:Nat->Nat->Prop}{F:Nat->Prop}{w0 w w':ak}{c:aX}{ev:aw}{kb bm bd rm bt:Nat}{v lv:aw}{m:cr}{bs:List Nat}{K:aD}{k W:Nat}
def ala(h:dO F w0 w c ev kb bm K)(hr:er c)(hf:bF c K k (144*K.d.now))(hk:k<=1000)(hn:k+K.d.now+1<=900000)(ho:K.on=0)(fW:K.bC.d.reset=false)(oH:K.bC.d.now%c.cycle.toNat=0):Calls prog 55 #[.pointer (J (ai kb 0 I))] w λe w'=>e=.returned (.int .i64 ((K.tick c).2:Int))/\cu F w0 w c ev kb bm (K.tick c).1 w':=by
 obtain⟨i0,mr,hz0,hz1,hz2⟩:=iw ak';obtain⟨H,bd,rm,bt,v,lv,m,bs,h1,hF⟩:=h;have HC:U (Calls prog 51 #[.pointer (J (ai kb 0 I))] w λe w'=>e=.returned (.int .i64 (K.on:Int))/\w'=w):=yw h1;have c6:w.cell? (ai kb 6 I)=J (.pointer (J (ai bd 0 I))):=h1.cell 6 _ rfl;rw[ho]at HC;obtain⟨o1,o2⟩:=aD.Bv.1 ho;have zG:U (w0.heap.size<=w.heap.size):=h1.aY.size;have HT:U (K.tick c=if (K.bC.ends c c.az.length).2=0 then ((K.bC.ends c c.az.length).1.last,0)else K.bC.ends c c.az.length):=by show _=_;unfold aD.tick;rw[aK (by omega),aK (by rw[fW];simp),aK (by omega)]
 obtain⟨t1,t2,t3⟩:=hf.bC (by omega);have HE:U (∀n,bF c (K.bC.ends c n).1 k (144*K.d.now+18*n)/\((K.bC.ends c n).2=0->(K.bC.ends c n).1.c.off=false/\(K.bC.ends c n).1.sp=false)/\(K.bC.ends c n).1.d=K.bC.d/\(K.bC.ends c n).1.t=K.bC.t/\∀j,n<=j->(K.bC.ends c n).1.ls[j]?=K.bC.ls[j]?):=t1.ends o1 t2 t3;have Hr:U ((∀s∈K.bC.ls,fX s (k+K.bC.d.now-1))/\1<=K.bC.d.now):=⟨t2,t3⟩;have HR:U (er c):=hr;have HN:U (k<=1000/\k+K.bC.d.now<=900000/\c.az.length<=8):=⟨hk,by show k+(K.d.now+1)<=900000;omega,hr.nn⟩;change U _ at h1 hF
 have alb:K.d.now<1099511627776:=by omega
 clear t1 t2 t3 hf hk hn ho;go_enter func55,ntmps55
 go_wp2_with fail
 refine HC.mono ?_;rintro e w' ⟨rfl,rfl⟩;go_wp2_with fail
 apply(N4 h1 o2 alb).mono;rintro e w2 ⟨rfl,h2,bz⟩;have HL:U (iL (cO H 3 w' w2) F w0 w' w2 c ev kb bm bd rm bt v lv m bs K.bC (.slice I 0 0) []):=⟨h2,xC hF 3,aG.all hF bz,gF _ _ _ _,λk hk=>by cases hk⟩;have e6:w2.cell? (ai kb 6 I)=J (.pointer (J (ai bd 0 I))):=h2.cell 6 _ rfl;have e2:w2.cell? (ai kb 2 I)=J (.int .i64 c.cycle):=h2.cell 2 _ rfl;have d2:=h2.dog.c2;have d5:=h2.dog.c5;rw[fW]at d5;have Es:=hr.cy;clear h2 bz;obtain⟨nw,uu⟩:∃n,n=K.bC.d.now:=⟨_,rfl⟩;obtain⟨cy,Fz⟩:∃n:Nat,c.cycle=(n:Int):=⟨c.cycle.toNat,by omega⟩;rw[<- uu]at d2 oH;rw[Fz]at e2;have mo:c.cycle.toNat=cy:=by omega
 rw[mo]at oH;have z0:¬(cy:Int)=0:=by omega
 have aoG:U (nw=K.bC.d.now):=uu;clear Es mo uu Fz hr;go_wp2_with fail
 go_quiet (fail)
 have q1:(nw:Int)%(cy:Int)=0:=by omega
 go_upto_region 10 with fail
 go_cut [4] (λkv wx=>kv=.slice I 0 0/\wx.heap=w2.heap/\Below w2.heap.size w2 wx)
 case first=>
  go_wp2
  go_meet
  case rel=>exact⟨rfl,rfl,br (aF _ _) _⟩
 obtain⟨rfl,-,cN⟩:=hcut;rename ak=>W2
 have vZ:U (iL (cO H 3 w' w2) F w0 w' W2 c ev kb bm bd rm bt v lv m bs K.bC (.slice I 0 0) []):=HL.below cN;clear HL cN e6 e2 d2 d5 q1 oH z0 c6;go_upto_region 11 with fail
 go_cut [5] (λi wx=>i=.int .i64 0/\wx=W2)
 case first=>
  go_wp2
  go_meet
  case rel=>exact⟨rfl,rfl⟩
 obtain⟨rfl,rfl⟩:=hcut;go_wp2_with fail
 go_loopw [4,5,6,7,8,9] (λkv i _ _ _ _ wr=>∃n:Nat,n<=c.az.length/\i=.int .i64 n/\(K.bC.ends c n).2=0/\∃H v m,iL H F w0 w' wr c ev kb bm bd rm bt v lv m bs (K.bC.ends c n).1 kv (eO (K.bC.ends c n).1 n)) (λ_ i _ _ _ _ _=>c.az.length-(intOf i).toNat)
 case atStart=>exact⟨0,bA _,rfl,rfl,_,_,_,vZ⟩
 case round=>
  clear vZ;obtain⟨n,AY,rfl,h0,H,v,m,L⟩:=hrel;have bH:(eO (K.bC.ends c n).1 n).length=n:=by unfold eO;rw[iE,eQ,L.km.dB];omega
  obtain⟨ka,kc,kA⟩:=iB L.own;rw[bH]at kA;subst kA;have Ar:U ((eO (K.bC.ends c n).1 n).length=n):=bH;clear bH
  by_cases hlt:n<c.az.length
  ·have hlen:(K.bC.ends c n).1.ls.length=c.az.length:=L.km.dB;obtain⟨s,hs⟩:∃s,(K.bC.ends c n).1.ls[n]?=J s:=⟨_,bq (by omega)⟩;obtain⟨b,e,E,g,cap,hb,he,hlv,cp,h4,h5⟩:=L.km.qB hs;rw[hlen]at hlv;subst hlv;obtain⟨f1,f2,f3,f4,f5⟩:=HE n;have Hs:=f2 h0;have e8:wr.cell? (ai kb 8 I)=J (.slice (J (ai g 0 I)) c.az.length cap):=L.km.cell 8 _ rfl;have HX:U _:=ak9 L.km HR f1 HN.1 (by rw[f3];exact HN.2.1) hs hb he h4 h5;have vH:U _:=Q8 c K.bC n h0 hs he;have N6:U (eO ((K.bC.ends c n).1.dT n (s.fin e)) (n+1)=eO (K.bC.ends c n).1 n++[iY (s.fin e).status]):=Q9 (by omega);have xV:U (((K.bC.ends c n).1.dT n (s.fin e)).ls[n]?=J (s.fin e)):=by
    show (List.set ..)[n]?=_
    rw[DW (by omega)]
   have rA:U (bF c ((K.bC.ends c n).1.dT n (s.fin e)) k (144*K.d.now+18*n)/\((K.bC.ends c n).1.dT n (s.fin e)).c.off=false/\(K.bC.ends c n).1.d=K.bC.d):=⟨f1.Q6 hs (by rw[f3];exact Hr.1 s (by rw[f5 n (aR _)]at hs;exact bP hs)) (by rw[f3];exact Hr.2) e,Hs.1,f3⟩;change U _ at L
   have k1:(n:Int)<(c.az.length:Int):=by omega
   have k2:n<8:=by have:=HN.2.2;omega
   obtain⟨kd,jm⟩:∃kd:Nat,s.kind e=(kd:Int):=⟨(s.kind e).toNat,by have:=(D2 e s).1;omega⟩;have aew:kd<=3:=by have:=(D2 e s).2;omega
   clear hb he h4 h5 hs hlen f1 f2 f3 f4 f5 Hs;go_wp2_with fail
   refine aO HX.o ?_;rintro u w3 ⟨rfl,lR,bz⟩;have jl:U _:=L.step bz lR;clear lR bz HX;rw[jm];go_upto_if 64 with fail
   go_cut [7,8,9] (λ_ _ _ wx=>(K.bC.ends c (n+1)).2=0/\∃H v m,iL H F w0 w' wx c ev kb bm bd rm bt v (.slice (J (ai g 0 I)) c.az.length cap) m bs (K.bC.ends c (n+1)).1 (.slice ka n kc) (eO (K.bC.ends c n).1 n)/\(K.bC.ends c (n+1)).1.ls[n]?=J (s.fin e)/\eO (K.bC.ends c (n+1)).1 (n+1)=eO (K.bC.ends c n).1 n++[iY (s.fin e).status])
   case first=>
    cases ht:s.turns e
    ·have fM:U (K.bC.ends c (n+1)=((K.bC.ends c n).1.dT n (s.fin e),0)):=by have:=vH.o;rw[ht,aK (by simp)]at this;exact this
     go_wp2
     go_meet
     case rel=>
      rw[fM.o];exact⟨rfl,_,_,_,jl,xV,N6⟩
    have fM:U (K.bC.ends c (n+1)=((K.bC.ends c n).1.dT n (s.fin e)).app n kd (K.bC.ends c n).1.d.now):=by have:=vH.o;rw[ht,aU rfl,jm]at this;exact this
    have e7:w3.cell? (ai kb 7 I)=J (.pointer (J (ai rm 0 I))):=jl.km.cell 7 _ rfl;have e6:w3.cell? (ai kb 6 I)=J (.pointer (J (ai bd 0 I))):=jl.km.cell 6 _ rfl;have d2:w3.cell? (ai bd 2 I)=J (.int .i64 ((K.bC.ends c n).1.d.now:Int)):=jl.km.dog.c2;have kK:=rA.o;have FA:=jl.o;obtain⟨K2,hK2⟩:∃X,X=(K.bC.ends c n).1.dT n (s.fin e):=⟨_,rfl⟩;obtain⟨tw,uo⟩:∃X,X=(K.bC.ends c n).1.d.now:=⟨_,rfl⟩;rw[<- hK2]at kK FA;rw[<- uo]at d2;have Eg:U (K.bC.ends c (n+1)=K2.app n kd tw):=by have:=fM.o;rw[<- hK2,<- uo]at this;exact this
    have HA:U _:=FA.append kK.1 (by have:=HN.2;rw[show K.bC.d.now=K.d.now+1 from rfl]at this;omega) kK.2.1 n kd tw (by omega) (by omega) (by rw[uo,kK.2.2];have:=HN.2.1;omega);have Vp:U (∀Vq,(Value.slice ka n kc).ownBlock=J Vq->Vq<w3.heap.size):=λk hk=>(FA.own.lt k hk).2
    have Vr:K2.d.now=tw:=by rw[hK2,uo];rfl
    have N7:U (∀(V:ak),(∃H' v' m',iL H' F w0 w' V c ev kb bm bd rm bt v' (.slice (J (ai g 0 I)) c.az.length cap) m' bs (K2.app n kd tw).1 (.slice ka n kc) (eO (K.bC.ends c n).1 n))->V.cell? (ai kb 7 I)=J (.pointer (J (ai rm 0 I)))/\V.cell? (ai kb 6 I)=J (.pointer (J (ai bd 0 I)))/\V.cell? (ai bd 2 I)=J (.int .i64 (tw:Int))):=λV ⟨H',v',m',hh⟩=>⟨hh.km.cell 7 _ rfl,hh.km.cell 6 _ rfl,by have:=hh.km.dog.c2;rwa [GN,Vr]at this⟩
    clear Vr;have alc:U (w'.heap.size<=w3.heap.size):=FA.off.size;have vP:U (K2=(K.bC.ends c n).1.dT n (s.fin e)):=hK2;clear kK FA hK2 uo;go_upto_region 16 with fail
    go_cut [8,9] (λ_ L8 wx=>L8=.int .i64 ((K2.app n kd tw).2:Int)/\∃H' v' m',iL H' F w0 w' wx c ev kb bm bd rm bt v' (.slice (J (ai g 0 I)) c.az.length cap) m' bs (K2.app n kd tw).1 (.slice ka n kc) (eO (K.bC.ends c n).1 n))
    case first=>
     have L0:U (∀(H':Nat->Nat->Prop) (W W':ak),(∃v' m',iL H' F w0 w' W c ev kb bm bd rm bt v' (.slice (J (ai g 0 I)) c.az.length cap) m' bs (K2.app n kd tw).1 (.slice ka n kc) (eO (K.bC.ends c n).1 n))->Below W.heap.size W W'->∃v' m',iL H' F w0 w' W' c ev kb bm bd rm bt v' (.slice (J (ai g 0 I)) c.az.length cap) m' bs (K2.app n kd tw).1 (.slice ka n kc) (eO (K.bC.ends c n).1 n)):=λH' W W' ⟨v',m',hh⟩ hb=>⟨v',m',hh.below hb⟩
     have L1:U (∀(H':Nat->Nat->Prop) (W W':ak) (q:Nat),(∃v' m',iL H' F w0 w' W c ev kb bm bd rm bt v' (.slice (J (ai g 0 I)) c.az.length cap) m' bs (K2.app n kd tw).1 (.slice ka n kc) (eO (K.bC.ends c n).1 n))->aG (λk=>k=q) W W'->(∀i,¬H' i q)->w3.heap.size<=q->∃v' m',iL H' F w0 w' W' c ev kb bm bd rm bt v' (.slice (J (ai g 0 I)) c.az.length cap) m' bs (K2.app n kd tw).1 (.slice ka n kc) (eO (K.bC.ends c n).1 n)):=λH' W W' q ⟨v',m',hh⟩ ho hno dt=>⟨v',m',hh.scratch zG ho hno (λe=>by have:=Vp q e;omega) (bp alc.o dt)⟩
     refine Dt 20 rfl (mC w3 kb bd rm n kd tw (K2.app n kd tw).2 (λH' V=>∃v' m',iL H' F w0 w' V c ev kb bm bd rm bt v' (.slice (J (ai g 0 I)) c.az.length cap) m' bs (K2.app n kd tw).1 (.slice ka n kc) (eO (K.bC.ends c n).1 n))) (by kernel_rfl) (by kernel_rfl) (mC.start (br (aF _ _) 1) ⟨e7,e6,d2⟩) ?_ ?_
     ·refine mM ⟨?_,?_,?_,?_,?_,?_,?_,?_,?_,?_,?_,?_,?_,?_,?_,?_,?_,?_,?_,?_,trivial⟩
      all_goals
       refine xt.free rfl ?_;intro vals a V hC hn aB aQ
      ·have x0:a.tmps[0]?.getD undef=.pointer (J (ai kb 0 I)):=aW (aQ 0 (dS (by kernel_rfl)));exact bY.val (w:=V) (c:=.pointer (J (ai kb 0 I))) (by clear aB aQ hC;go_simp) (hC.const (ar rfl) rfl)
      ·obtain⟨v0,hv0,sG⟩:=aB _ (bj (i:=0) rfl) rfl;have aoH:a.tmps[66]?.getD undef=.pointer (J (ai kb 0 I)):=(aW (sG 66 rfl)).trans (hC.cs 0 (ar rfl) v0 hv0);clear sG hv0;exact bY.val (w:=V) (c:=.pointer (J (ai kb 0 I))) (by clear aB aQ hC;go_simp) (hC.const (ar rfl) rfl)
      ·obtain⟨v1,lS,sH⟩:=aB _ (bj (i:=0) rfl) rfl;have aoI:a.tmps[67]?.getD undef=.pointer (J (ai kb 0 I)):=(aW (sH 67 rfl)).trans (hC.cs 1 (ar rfl) v1 lS);clear sH lS;exact bY.val (w:=V) (c:=.pointer (J (ai kb 7 I))) (by clear aB aQ hC;go_simp) (hC.const (ar rfl) rfl)
      ·have cc:V.cell? (ai kb 7 I)=J (.pointer (J (ai rm 0 I))):=hC.ce.1;obtain⟨v2,hv2,sI⟩:=aB _ (bj (i:=0) rfl) rfl;have aoJ:a.tmps[68]?.getD undef=.pointer (J (ai kb 7 I)):=(aW (sI 68 rfl)).trans (hC.cs 2 (ar rfl) v2 hv2);clear sI hv2;exact bY.val (w:=V) (c:=.pointer (J (ai rm 0 I))) (by clear aB aQ hC;go_simp) (hC.const (ar rfl) rfl)
      ·have x5:a.tmps[5]?.getD undef=.int .i64 (n:Int):=aW (aQ 5 (dS (by kernel_rfl)));exact bY.val (w:=V) (c:=.int .i64 (n:Int)) (by clear aB aQ hC;go_simp) (hC.const (ar rfl) rfl)
      ·have x6:a.tmps[6]?.getD undef=.int .i64 (kd:Int):=aW (aQ 6 (dS (by kernel_rfl)));exact bY.val (w:=V) (c:=.int .i64 (kd:Int)) (by clear aB aQ hC;go_simp) (hC.const (ar rfl) rfl)
      ·have x0:a.tmps[0]?.getD undef=.pointer (J (ai kb 0 I)):=aW (aQ 0 (dS (by kernel_rfl)));exact bY.val (w:=V) (c:=.pointer (J (ai kb 0 I))) (by clear aB aQ hC;go_simp) (hC.const (ar rfl) rfl)
      ·obtain⟨v6,xN,sJ⟩:=aB _ (bj (i:=0) rfl) rfl;have aoK:a.tmps[72]?.getD undef=.pointer (J (ai kb 0 I)):=(aW (sJ 72 rfl)).trans (hC.cs 6 (ar rfl) v6 xN);clear sJ xN;exact bY.val (w:=V) (c:=.pointer (J (ai kb 0 I))) (by clear aB aQ hC;go_simp) (hC.const (ar rfl) rfl)
      ·obtain⟨v7,xP,uq⟩:=aB _ (bj (i:=0) rfl) rfl;have aoL:a.tmps[73]?.getD undef=.pointer (J (ai kb 0 I)):=(aW (uq 73 rfl)).trans (hC.cs 7 (ar rfl) v7 xP);clear uq xP;exact bY.val (w:=V) (c:=.pointer (J (ai kb 6 I))) (by clear aB aQ hC;go_simp) (hC.const (ar rfl) rfl)
      ·have cc:V.cell? (ai kb 6 I)=J (.pointer (J (ai bd 0 I))):=hC.ce.2.1;obtain⟨v8,qD,sN⟩:=aB _ (bj (i:=0) rfl) rfl;have aoM:a.tmps[74]?.getD undef=.pointer (J (ai kb 6 I)):=(aW (sN 74 rfl)).trans (hC.cs 8 (ar rfl) v8 qD);clear sN qD;exact bY.val (w:=V) (c:=.pointer (J (ai bd 0 I))) (by clear aB aQ hC;go_simp) (hC.const (ar rfl) rfl)
      ·obtain⟨v9,rC,pN⟩:=aB _ (bj (i:=0) rfl) rfl;have aoN:a.tmps[75]?.getD undef=.pointer (J (ai bd 0 I)):=(aW (pN 75 rfl)).trans (hC.cs 9 (ar rfl) v9 rC);clear pN rC;exact bY.val (w:=V) (c:=.pointer (J (ai bd 0 I))) (by clear aB aQ hC;go_simp) (hC.const (ar rfl) rfl)
      ·obtain⟨v10,xS,sO⟩:=aB _ (bj (i:=0) rfl) rfl;have aoO:a.tmps[76]?.getD undef=.pointer (J (ai bd 0 I)):=(aW (sO 76 rfl)).trans (hC.cs 10 (ar rfl) v10 xS);clear sO xS;exact bY.val (w:=V) (c:=.pointer (J (ai bd 2 I))) (by clear aB aQ hC;go_simp) (hC.const (ar rfl) rfl)
      ·have cc:V.cell? (ai bd 2 I)=J (.int .i64 (tw:Int)):=hC.ce.2.2;obtain⟨v11,BN,xT⟩:=aB _ (bj (i:=0) rfl) rfl;have aoP:a.tmps[77]?.getD undef=.pointer (J (ai bd 2 I)):=(aW (xT 77 rfl)).trans (hC.cs 11 (ar rfl) v11 BN);clear xT BN;exact bY.val (w:=V) (c:=.int .i64 (tw:Int)) (by clear aB aQ hC;go_simp) (hC.const (ar rfl) rfl)
      ·obtain⟨v3,hv3,sK⟩:=aB _ (bj (i:=0) rfl) rfl;have aoQ:a.tmps[69]?.getD undef=.pointer (J (ai rm 0 I)):=(aW (sK 69 rfl)).trans (hC.cs 3 (ar rfl) v3 hv3);clear sK;obtain⟨v4,hv4,sL⟩:=aB _ (bj (i:=1) rfl) rfl;have aoR:a.tmps[70]?.getD undef=.int .i64 (n:Int):=(aW (sL 70 rfl)).trans (hC.cs 4 (ar rfl) v4 hv4);clear sL;obtain⟨v5,xO,sM⟩:=aB _ (bj (i:=2) rfl) rfl;have aoS:a.tmps[71]?.getD undef=.int .i64 (kd:Int):=(aW (sM 71 rfl)).trans (hC.cs 5 (ar rfl) v5 xO);clear sM;obtain⟨v12,xQ,xR⟩:=aB _ (bj (i:=3) rfl) rfl;have aoT:a.tmps[78]?.getD undef=.int .i64 (tw:Int):=(aW (xR 78 rfl)).trans (hC.cs 12 (ar rfl) v12 xQ);clear xR
       refine bY.call (w:=V) (f:=113) (args:=#[.pointer (J (ai rm 0 I)),.int .i64 (n:Int),.int .i64 (kd:Int),.int .i64 (tw:Int)]) (by clear aB aQ hC;go_simp) ?_
       refine aO (HA.o V (hC.pre hn)) ?_;rintro e w4 ⟨r,rfl,H',v',m',hk4,L9,L_,Ma⟩;exact⟨_,rfl,hC.call (N7 _ ⟨_,v',m',hk4⟩) ⟨v',m',hk4⟩ L9 (λi k hk=>hk4.km.bO.lt i k hk) L_ Ma⟩
      ·obtain⟨v13,FB,FC⟩:=aB _ (bj (i:=0) rfl) rfl;obtain⟨⟨r,hr⟩,-⟩:=hC.oX v13 FB;have aoU:a.tmps[79]?.getD undef=.tuple #[r.val,.int .i64 (((K2.app n kd tw).2:Nat):Int)]:=(aW (FC 79 rfl)).trans hr;clear FC;exact bY.val (w:=V) (c:=.tuple #[r.val,.int .i64 (((K2.app n kd tw).2:Nat):Int)]) (by clear aB aQ hC hr;go_simp) (hC.later (aT rfl) (λ_=>⟨r,rfl⟩) (λe=>by cases e) (λe=>by cases e) (λe=>by cases e))
      ·obtain⟨v14,CG,yx⟩:=aB _ (bj (i:=0) rfl) rfl;obtain⟨r,hr⟩:=hC.c14 v14 CG;have ald:a.tmps[65]?.getD undef=.tuple #[r.val,.int .i64 (((K2.app n kd tw).2:Nat):Int)]:=(aW (yx 65 rfl)).trans hr;clear yx;exact bY.val (w:=V) (c:=r.val) (by clear aB aQ hC hr;go_simp) (hC.later (aN (aT rfl)) (λe=>by cases e) (λ_=>⟨r,rfl⟩) (λe=>by cases e) (λe=>by cases e))
      ·obtain⟨v14,CG,yx⟩:=aB _ (bj (i:=0) rfl) rfl;obtain⟨r,hr⟩:=hC.c14 v14 CG;have ald:a.tmps[65]?.getD undef=.tuple #[r.val,.int .i64 (((K2.app n kd tw).2:Nat):Int)]:=(aW (yx 65 rfl)).trans hr;clear yx;exact bY.val (w:=V) (c:=.int .i64 (((K2.app n kd tw).2:Nat):Int)) (by clear aB aQ hC hr;go_simp) (hC.later (aN (aN (aT rfl))) (λe=>by cases e) (λe=>by cases e) (λ_=>rfl) (λe=>by cases e))
      ·exact bY.val (w:=V.alloc (.cells #[.int .i64 0,.int .i64 0,.int .i64 0,.int .i64 0] 97)) (c:=.pointer (J (ai V.heap.size 0 I))) (by clear aB aQ hC;go_simp) (hC.made L0)
      ·obtain⟨v17,Ja,FD⟩:=aB _ (bj (i:=0) rfl) rfl;obtain⟨v15,FE,FH⟩:=aB _ (bj (i:=1) rfl) rfl;obtain⟨v13,FB,-⟩:=aB _ (bj (i:=2) rfl) rfl;obtain⟨g8,r0,rfl,hrow,dt⟩:=hC.c17 v17 Ja;obtain⟨r,rfl⟩:=hC.c15 v15 FE;have x8:a.tmps[8]?.getD undef=.pointer (J (ai g8 0 I)):=aW (FD 8 rfl);have ale:a.tmps[80]?.getD undef=r.val:=aW (FH 80 rfl);obtain⟨z0,z1,z2,z3⟩:=hrow.at;have q0:=hrow.frozen 0;have q1:=hrow.frozen 1;have q2:=hrow.frozen 2;have q3:=hrow.frozen 3;unfold Rec.val at ale;exact bY.skip (w:=(((V.setCell ⟨g8,0,.none⟩ (.int .i64 (r.seq:Int))).setCell ⟨g8,1,.none⟩ (.int .i64 (r.cf:Int))).setCell ⟨g8,2,.none⟩ (.int .i64 (r.kind:Int))).setCell ⟨g8,3,.none⟩ (.int .i64 (r.tick:Int))) (by clear aB aQ hC FD FH hrow;go_simp) (hC.laid (λe=>by have e2:vals 13=J v13:=FB;rw[e2]at e;cases e) (λH' V ⟨v',m',hh⟩=>N7 V ⟨H',v',m',hh⟩) L1 Ja hrow dt rfl)
      obtain⟨v16,Jb,FI⟩:=aB _ (bj (i:=0) rfl) rfl;have hr:=hC.c16 v16 Jb;have aoV:a.tmps[81]?.getD undef=.int .i64 (((K2.app n kd tw).2:Nat):Int):=(aW (FI 81 rfl)).trans hr;clear FI;exact bY.val (w:=V) (c:=.int .i64 (((K2.app n kd tw).2:Nat):Int)) (by clear aB aQ hC hr;go_simp) (hC.later (aN (aN (aN rfl))) (λe=>by cases e) (λe=>by cases e) (λe=>by cases e) (λ_=>rfl))
     intro vals V hC hall;obtain⟨y0,qE⟩:=cI.1 (hall 0 (ar rfl));obtain⟨y1,vI⟩:=cI.1 (hall 1 (ar rfl));obtain⟨y2,sP⟩:=cI.1 (hall 2 (ar rfl));obtain⟨y3,Ei⟩:=cI.1 (hall 3 (ar rfl));obtain⟨y4,Ej⟩:=cI.1 (hall 4 (ar rfl));obtain⟨y5,Ek⟩:=cI.1 (hall 5 (ar rfl));obtain⟨y6,El⟩:=cI.1 (hall 6 (ar rfl));obtain⟨y7,Em⟩:=cI.1 (hall 7 (ar rfl));obtain⟨y8,BO⟩:=cI.1 (hall 8 (ar rfl));obtain⟨y9,En⟩:=cI.1 (hall 9 (ar rfl));obtain⟨Mb,Eo⟩:=cI.1 (hall 10 (ar rfl));obtain⟨Mc,Ep⟩:=cI.1 (hall 11 (ar rfl));obtain⟨SK,Er⟩:=cI.1 (hall 12 (ar rfl));obtain⟨Md,BP⟩:=cI.1 (hall 13 (ar rfl));obtain⟨Me,BQ⟩:=cI.1 (hall 14 (ar rfl));obtain⟨alf,Vs⟩:=cI.1 (hall 15 (ar rfl));obtain⟨alg,Vt⟩:=cI.1 (hall 16 (ar rfl));obtain⟨alh,Vu⟩:=cI.1 (hall 17 (ar rfl));obtain⟨ali,Vv⟩:=cI.1 (hall 18 (ar rfl));obtain⟨Vw,N8⟩:=cI.1 (hall 19 (ar rfl));obtain⟨_,H',⟨v',m',hh⟩,-⟩:=hC.oX Md BP;obtain rfl:=hC.c19 Vw N8;change U _ at hh
     clear hC hall;simp only[fill,dZ,qE,vI,sP,Ei,Ej,Ek,El,Em,BO,En,Eo,Ep,Er,BP,BQ,Vs,Vt,Vu,Vv,N8];clear qE vI sP Ei Ej Ek El Em BO En Eo Ep Er BP BQ Vs Vt Vu Vv N8;go_simp
     go_wp2
     go_meet
     case rel=>exact⟨rfl,H',v',m',hh⟩
    case rest=>
    rename ak=>W5
    obtain⟨rfl,H',v',m',(hh:U _)⟩:=hcut;clear e7 e6 d2 HA Vp N7
    by_cases hc0:(K2.app n kd tw).2=0
    ·rw[hc0];go_wp2
     go_meet
     case rel=>
      rw[Eg.o];have uv:(K2.app n kd tw).1.ls=((K.bC.ends c n).1.dT n (s.fin e)).ls:=by rw[KS,vP.o]
      exact⟨hc0,H',v',m',hh,by rw[uv];exact xV,by rw[<- N6.o];unfold eO;rw[uv]⟩
    have g9:0<((K2.app n kd tw).2:Int):=by omega
    have Mf:U (K.bC.ends c c.az.length=K2.app n kd tw):=by
     show _=_
     rw[<- Eg.o];exact KR c K.bC (by rw[Eg.o];exact hc0) (by omega)
    go_wp2;go_ret;rw[HT.o,Mf.o,aK hc0];exact⟨rfl,hh.post⟩
   case rest=>
   rename ak=>W4
   obtain⟨Co,H4,v4,m4,L4,Vx,Vy⟩:=hcut;clear jl L vH N6 xV rA cp e8 jm;have Vz:(K.bC.ends c (n+1)).1.ls.length=c.az.length:=L4.km.dB;obtain⟨b4,e4,E4,g4,aoW,-,-,N9,alj,VA,-⟩:=L4.km.qB Vx;rw[Vz]at N9;simp only[mf,dJ,tQ,true_and,rh]at N9;obtain⟨rfl,rfl⟩:=N9;have e8:W4.cell? (ai kb 8 I)=J (.slice (J (ai g 0 I)) c.az.length cap):=L4.km.cell 8 _ rfl;have gI:U _:=Vl VA L4.km.aY;have VB:=L4.own;have aoX:w'.heap.size<=W4.heap.size:=L4.off.size;change U _ at L4
   have VC:U ((K.bC.ends c (n+1)).2=0/\eO (K.bC.ends c (n+1)).1 (n+1)=eO (K.bC.ends c n).1 n++[iY (s.fin e).status]):=⟨Co,Vy⟩;obtain⟨y,hy⟩:∃y,y=iY (s.fin e).status:=⟨_,rfl⟩;have HY:U (y=iY (s.fin e).status):=hy;rw[<- hy]at gI;clear hy Co Vy Vz VA Vx;have BR:W4.ownsRow w'.heap.size 9 1 (.slice ka n kc) n ((eO (K.bC.ends c n).1 n).flatMap ct):=by
    have:W4.ownsRow w'.heap.size 9 1 (.slice ka n kc) (eO (K.bC.ends c n).1 n).length ((eO (K.bC.ends c n).1 n).flatMap ct):=VB;rwa [Ar.o]at this
   clear VB;change U _ at BR
   go_wp2_with fail
   refine aO gI.o ?_;rintro u w5 ⟨rfl,rfl⟩;go_wp2_with (at_builtin;refine vA _ rfl _ _ 37 rfl w'.heap.size 9 i0 (.string ⟨#[]⟩) 1 16 underlying37 mr hz0 hz1 hz2 rfl (ar rfl) (.slice ka n kc) n ((eO (K.bC.ends c n).1 n).flatMap ct) rfl (xH BR _) ⟨w5.heap.size,0,I⟩ 1 1 [.string y] rfl rfl (mP w5 [.string y] 9) (λu hu=>by rw[g_]at hu;subst hu;rfl) (ar rfl) (by unfold maxLen;omega) (by omega) (by simp;omega) (w5.heap.size+1) (by simp) ?_;intro gg cc sB hown hg cH ru)
   have L5:=L4.more zG (by rw[Ar.o]) hown hg cH;change U _ at L5
   clear hown hg cH ru BR gI e8 alj;go_roundw
   case rel=>exact⟨n+1,by omega,by go_num,VC.1,H4,v4,m4,by rw[VC.2,<- HY.o];exact L5⟩
   case measure=>simp[intOf];omega
  have k1:¬(n:Int)<(c.az.length:Int):=by omega
  obtain rfl:n=c.az.length:=by omega
  obtain⟨f1,f2,f3,f4,f5⟩:=HE c.az.length;have HB:U (K.tick c=((K.bC.ends c c.az.length).1.last,0)):=by show _=_;rw[HT.o,aU h0]
  obtain⟨K5,VD⟩:∃X,X=(K.bC.ends c c.az.length).1:=⟨_,rfl⟩;rw[<- VD]at L f1 HB;have hst:eO K5 c.az.length=K5.ls.map λs=>iY s.status:=by
   unfold eO;rw[iM (by rw[L.km.dB];exact aR _)]
  obtain⟨xs,kf⟩:∃X,X=K5.ls.map λs=>iY s.status:=⟨_,rfl⟩
  rw[hst,<- kf]at L;have qV:xs.length=c.az.length:=by rw[kf,iE,L.km.dB]
  have e8:wr.cell? (ai kb 8 I)=J lv:=L.km.cell 8 _ rfl;have e9:wr.cell? (ai kb 9 I)=J (.pointer (J (ai bt 0 I))):=L.km.cell 9 _ rfl;obtain⟨la,lc,hlv⟩:=iB L.km.own;rw[L.km.dY]at hlv;rw[hlv]at e8;have HX:U _:=ak8 L.km f1.ij xs ka kc (λV hV=>by
   refine bI.jz (T:=9) (B:=w'.heap.size) ?_ (λ_=>rfl);rw[qV];exact iH L.own hV (aN (λe=>L.no bt e 4 L.km.ht))) (by rw[qV];have:=HN.2.2;omega)
  rw[qV]at HX;change U _ at L
  have alk:U (xs=K5.ls.map λs=>iY s.status):=kf;have VE:(K5.t.fin xs).st<=3:=(f1.ij.KN xs).st;clear f1 f2 f3 f4 f5 hst kf qV hlv h0 VD;go_wp2_with fail
  refine aO HX.o ?_;rintro u w5 ⟨rfl,lR,bz⟩;have L5:=L.step bz lR;have e6:w5.cell? (ai kb 6 I)=J (.pointer (J (ai bd 0 I))):=L5.km.cell 6 _ rfl;have vK:U _:=QN bd _ w5 L5.km.dog;change U _ at L5
  clear lR bz HX L e8 e9;go_wp2_with fail
  refine aO vK.o ?_;rintro u w6 ⟨rfl,q6,rfl⟩;have L6:=L5.below (br (aF _ _) q6);have e9:(w5.drewN q6).cell? ⟨kb,9,I⟩=J (.pointer (J (ai bt 0 I))):=L6.km.cell 9 _ rfl;have Ht:(w5.drewN q6).cell? ⟨kb,6,I⟩=J (.pointer (J (ai bd 0 I))):=L6.km.cell 6 _ rfl;have t2:(w5.drewN q6).cell? ⟨bt,2,I⟩=J (.string (dE (K5.t.fin xs).st)):=uO L6.km.ij rfl;change U _ at L6
  clear L5 vK e6;obtain⟨W6,xq⟩:∃X,X=w5.drewN q6:=⟨_,rfl⟩;rw[<- xq]at e9 Ht t2 L6⊢;clear xq;obtain⟨op,hop⟩:∃X,X=K5.d.iG:=⟨_,rfl⟩;have vK:U (op=K5.d.iG):=hop;obtain⟨st,Jc⟩:∃X,X=(K5.t.fin xs).st:=⟨_,rfl⟩;have gI:U (st=(K5.t.fin xs).st):=Jc;rw[<- Jc]at t2 VE;have rD:U (K5.last=if st≠3/\op=true then { { K5 with t:=K5.t.fin xs }with d:=K5.d.oO }else { K5 with t:=K5.t.fin xs }):=by
   show _=_
   rw[Jc,hop,alk.o];rfl
  rw[show K5.d.iG=op from hop.symm];clear Jc hop;have h4:st=0\/st=1\/st=2\/st=3:=by omega
  clear VE
  rcases h4 with rfl|rfl|rfl|rfl
  ·have N_:W6.cell? (ai bt 2 I)=J (.string ⟨#[111,107]⟩):=t2;clear t2
   cases op with
   |true=>
    have pd:U (K5.last={ { K5 with t:=K5.t.fin xs }with d:=K5.d.oO }):=by show _=_;rw[rD.o,aU ⟨by decide,rfl⟩]
    have HX:U _:=N5 L6.km vK.symm;go_wp2_with fail
    refine aO HX.o ?_;rintro u w7 ⟨rfl,lR,bz⟩;have FJ:U _:=L6.step bz lR;clear lR bz HX;go_wp2;go_ret;rw[HB.o,pd.o];exact⟨rfl,FJ.post⟩
   |false=>
    have pd:U (K5.last={ K5 with t:=K5.t.fin xs }):=by show _=_;rw[rD.o,aK (λx=>by cases x.2)]
    go_wp2;go_ret;rw[HB.o,pd.o];exact⟨rfl,L6.post⟩
  ·have N_:W6.cell? (ai bt 2 I)=J (.string ⟨#[102,97,105,108,101,100]⟩):=t2;clear t2
   cases op with
   |true=>
    have pd:U (K5.last={ { K5 with t:=K5.t.fin xs }with d:=K5.d.oO }):=by show _=_;rw[rD.o,aU ⟨by decide,rfl⟩]
    have HX:U _:=N5 L6.km vK.symm;go_wp2_with fail
    refine aO HX.o ?_;rintro u w7 ⟨rfl,lR,bz⟩;have FJ:U _:=L6.step bz lR;clear lR bz HX;go_wp2;go_ret;rw[HB.o,pd.o];exact⟨rfl,FJ.post⟩
   |false=>
    have pd:U (K5.last={ K5 with t:=K5.t.fin xs }):=by show _=_;rw[rD.o,aK (λx=>by cases x.2)]
    go_wp2;go_ret;rw[HB.o,pd.o];exact⟨rfl,L6.post⟩
  ·have N_:W6.cell? (ai bt 2 I)=J (.string ⟨#[101,120,112,105,114,101,100]⟩):=t2;clear t2
   cases op with
   |true=>
    have pd:U (K5.last={ { K5 with t:=K5.t.fin xs }with d:=K5.d.oO }):=by show _=_;rw[rD.o,aU ⟨by decide,rfl⟩]
    have HX:U _:=N5 L6.km vK.symm;go_wp2_with fail
    refine aO HX.o ?_;rintro u w7 ⟨rfl,lR,bz⟩;have FJ:U _:=L6.step bz lR;clear lR bz HX;go_wp2;go_ret;rw[HB.o,pd.o];exact⟨rfl,FJ.post⟩
   |false=>
    have pd:U (K5.last={ K5 with t:=K5.t.fin xs }):=by show _=_;rw[rD.o,aK (λx=>by cases x.2)]
    go_wp2;go_ret;rw[HB.o,pd.o];exact⟨rfl,L6.post⟩
  have N_:W6.cell? (ai bt 2 I)=J (.string ⟨#[115,116,111,112,112,101,100]⟩):=t2;clear t2
  cases op with
  |true=>
   have pd:U (K5.last={ K5 with t:=K5.t.fin xs }):=by show _=_;rw[rD.o,aK (λx=>by exact absurd rfl x.1)]
   go_wp2;go_ret;rw[HB.o,pd.o];exact⟨rfl,L6.post⟩
  |false=>
   have pd:U (K5.last={ K5 with t:=K5.t.fin xs }):=by show _=_;rw[rD.o,aK (λx=>by exact absurd rfl x.1)]
   go_wp2;go_ret;rw[HB.o,pd.o];exact⟨rfl,L6.post⟩
end
section
variable {F:Nat->Prop}{w0 w w':ak}{c:aX}{ev:aw}{kb bm:Nat}{K:aD}{k:Nat}
def alm(h:dO F w0 w c ev kb bm K)(hr:er c)(hf:bF c K k (144*K.d.now))(hk:k<=1000)(hn:k+K.d.now+1<=900000):Calls prog 55 #[aq (J (ai kb 0 I))] w λe w'=>e=ax (ae af ((K.tick c).2:Int))/\cu F w0 w c ev kb bm (K.tick c).1 w':=by
 by_cases ho:K.on=0
 ·cases fW:K.bC.d.reset
  ·by_cases hm:K.bC.d.now%c.cycle.toNat=0
   ·exact ala h hr hf hk hn ho fW hm
   exact Vn h hr (by omega) ho (aN hm)
  exact Vn h hr (by omega) ho (aT fW)
 exact ak_ h ho
def aln(n:Int)(h:dO F w0 w c ev kb bm K)(hr:er c)(hf:bF c K k (144*K.d.now))(hk:k<=1000)(hn:(k:Int)+(K.d.now:Int)+1+n<=900000)(D_:k+K.d.now+1<=900000):Calls prog 28 #[aq (J (ai kb 0 I)),ae af n] w λe w'=>e=ax (ae af ((K.dM c n.toNat).2:Int))/\cu F w0 w c ev kb bm (K.dM c n.toNat).1 w':=by
 obtain⟨N,hN⟩:∃N,N=n.toNat:=⟨_,rfl⟩;rw[<- hN];change U _ at hr
 have HP:U (cu F w0 w c ev kb bm K w):=cu.same h;have HB:U (k<=1000/\k+K.d.now+1+N<=900000):=⟨hk,by omega⟩;change U _ at hf
 have aoY:n<=900000:=by omega
 have aeW:N<=900000:=by omega
 change U _ at hN
 go_enter func28,ntmps28
 go_wp2_with fail
 go_loopw [5,6] (λi _ wr=>∃(j:Nat) (Kj:aD),j<=N/\i=ae af j/\U (K.dM c N=Kj.dM c (N-j))/\U (bF c Kj k (144*Kj.d.now))/\U (Kj.d.now<=K.d.now+j)/\U (cu F w0 w c ev kb bm Kj wr)) (λi _ _=>N-(intOf i).toNat)
 case atStart=>exact⟨0,K,bA _,rfl,rfl,hf,aR _,HP⟩
 case round=>
  obtain⟨j,Kj,hj,rfl,HE,Ev,sQ,xW⟩:=hrel
  by_cases hlt:j<N
  ·have k1:(j:Int)<n:=by have:=hN.o;omega
   have jD:U (K.dM c N=if (Kj.tick c).2=0 then (Kj.tick c).1.dM c (N-(j+1))else Kj.tick c):=by
    show _=_
    rw[HE.o,show N-j=(N-(j+1))+1 by omega];rfl
   have HX:U _:=alm xW.1 hr Ev HB.1 (by have:=HB.2;have:=sQ.o;omega);have Ew:U (bF c _ k _/\(Kj.tick c).1.d.now<=K.d.now+(j+1)):=⟨Ev.tick hr (by have:=HB.2;have:=sQ.o;omega),by have:=D3 c Kj;have:=sQ.o;omega⟩;go_wp2_with fail
   refine aO HX.o ?_;rintro u w3 ⟨rfl,hp⟩;have xX:U _:=xW.trans hp
   by_cases hc0:(Kj.tick c).2=0
   ·rw[hc0];go_wp2
    go_roundw
    case rel=>exact⟨_,_,by omega,by go_num,by show _=_;rw[jD.o,aU hc0],Ew.1,Ew.2,xX⟩
    case measure=>simp[intOf];omega
   have g9:0<((Kj.tick c).2:Int):=by omega
   go_wp2;go_ret;rw[jD.o,aK hc0];exact⟨rfl,xX⟩
  have k1:¬(j:Int)<n:=by have:=hN.o;omega
  have jD:U (K.dM c N=(Kj,0)):=by
   show _=_
   rw[HE.o,show N-j=0 by omega];rfl
  go_wp2;go_ret;rw[jD.o];exact⟨rfl,xW⟩
end
def wO:Nat->Nat
 |0=>4
 |1=>5
 |2=>6
 |_=>12
def uP:Nat->Nat
 |0=>0
 |1=>4
 |2=>5
 |3=>6
 |_=>12
def alo(i:Nat)(h:i<4):uP (i+1)=wO i:=by
 match i,h with
 |0,_=>rfl
 |1,_=>rfl
 |2,_=>rfl
 |3,_=>rfl
def alp(i:Nat)(h:i<4):uP i<=wO i/\wO i<=12/\wO i<=uP i+6:=by
 match i,h with
 |0,_=>decide
 |1,_=>decide
 |2,_=>decide
 |3,_=>decide
def wP(s:List UInt8)(i:Nat):List Nat:=(List.range i).map λj=>fU ((s.drop (uP j)).take (wO j-uP j))
def alq(s:List UInt8)(i:Nat):wP s (i+1)=wP s i++[fU ((s.drop (uP i)).take (wO i-uP i))]:=by simp[wP,List.range_succ]
def alr(s:List UInt8):wP s 4=[(fV s).seq,(fV s).cf,(fV s).kind,(fV s).tick]:=by
 simp[wP,List.range_succ,uP,wO,fV]
def als(s:List UInt8)(a b:Nat)(h:b<s.length)(hab:a<=b):fU ((s.drop a).take (b+1-a))=256*fU ((s.drop a).take (b-a))+s[b].toNat:=by
 have e:(s.drop a).take (b+1-a)=(s.drop a).take (b-a)++[s[b]]:=by
  rw[show b+1-a=b-a+1 by omega,CU (by rw[yK];omega),List.getElem_drop];congr 3
  omega
 rw[e,PQ];omega
def alu:∃i:TypeInfo,prog.info? 3=J i/\i.zero=J (ae af 0)/\i.size=1/\i.bytes=8:=by
 have h:(prog.info? 3).map (λi=>(i.zero,i.size,i.bytes))=J (J (ae af 0),1,8):=by kernel_rfl
 obtain⟨i,hi,he⟩:=ve.1 h;simp only[Prod.mk.injEq]at he;exact⟨i,hi,he.1,he.2.1,he.2.2⟩
def uQ(n:Nat):aw:=ae af (n:Int)
open Classical in
def rL(l:List UInt8)(k:Nat):Bool:=decide (kX (fB l k)=true/\((fQ (fB l k)).seq-1)%9=k)
def alv(s:List UInt8):(fV s).Ok:=by
 have key:∀(t:List _),t.length<=6->fU t<9223372036854775808:=λt ht=>by
  have q1:=Dd t;have q3:256^t.length<=256^6:=AR (ar rfl) ht;omega
 exact⟨key _ (by rw[eQ];omega),key _ (by rw[eQ];omega),key _ (by rw[eQ];omega),key _ (by rw[eQ];omega)⟩
def Oa(l:List UInt8)(k:Nat)(h:¬(kX (fB l k)=true/\((fQ (fB l k)).seq-1)%9=k)):jy l k=.none/\rL l k=false:=
 ⟨aK h,bV h⟩
def alw(l:List UInt8)(k:Nat)(x:Rec)(hx:fV (fB l k)=x)(h:x.seq<1):jy l k=.none/\rL l k=false:=by
 apply Oa
 have:dec _=I:=aU (aT (by rw[hx];exact h));unfold kX;rw[this];simp
def alx(l:List UInt8)(k:Nat)(x:Rec)(hx:fV (fB l k)=x)(h:enc x≠fB l k):jy l k=.none/\rL l k=false:=by
 apply Oa
 have:dec _=I:=aU (aN (by rw[hx];exact h));unfold kX;rw[this];simp
def aly(l:List UInt8)(k:Nat)(x:Rec)(hx:fV (fB l k)=x)(h:(x.seq-1)%9≠k):jy l k=.none/\rL l k=false:=by
 apply Oa
 rintro⟨hd,he⟩;have:=(A9 hd).2.2.1;rw[this,hx]at he;exact h he
def alz(l:List UInt8)(k:Nat)(x:Rec)(hx:fV (fB l k)=x)(h1:¬x.seq<1)(h2:(x.seq-1)%9=k)(h3:enc x=fB l k):jy l k=x/\rL l k=true:=by
 have:dec (fB l k)=J x:=by
  unfold dec;rw[hx,aK (λh=>by
   rcases h with h|h
   ·exact h1 h
   exact h h3)]
 have hd:kX (fB l k)=true:=by unfold kX;rw[this];rfl
 have hr:fQ (fB l k)=x:=by unfold fQ;rw[this];rfl
 have hc:kX _=true/\((fQ _).seq-1)%9=k:=⟨hd,by rw[hr];exact h2⟩;exact⟨(aU hc).trans hr,bD hc⟩
def alA{base:Nat}{s:List UInt8}(h:w.ownsRow base 3 1 v 4 ((wP s 4).map uQ)):∃g c,v=aj (J ⟨g,0,.none⟩) 4 c/\g<w.heap.size/\w.cell? ⟨g,0,.none⟩=J (uQ (fV s).seq)/\w.cell? ⟨g,1,.none⟩=J (uQ (fV s).cf)/\w.cell? ⟨g,2,.none⟩=J (uQ (fV s).kind)/\w.cell? ⟨g,3,.none⟩=J (uQ (fV s).tick):=by
 rw[alr]at h;obtain⟨hl,⟨-,h4⟩|⟨g,c,cur,rfl,-,hg,Pz,-,hcs,hx⟩⟩:=h
 ·cases h4
 refine⟨g,c,rfl,bL hg,?_⟩;have key:∀i,i<4->w.cell? ⟨g,i,.none⟩=(([(fV s).seq,(fV s).cf,(fV s).kind,(fV s).tick].map uQ))[i]?:=λi hi=>by
  rw[<- hx,np,aU (by omega)];simp[aH,hg]
 exact⟨(key 0 (ar rfl)).trans rfl,(key 1 (ar rfl)).trans rfl,(key 2 (ar rfl)).trans rfl,(key 3 (ar rfl)).trans rfl⟩
def alB(w:ak):∃W,((w.alloc (ay #[ae af 0,ae af 0,ae af 0,ae af 0] 97)).alloc (ay #[ae af 4,ae af 5,ae af 6,ae af 12] 3))=W/\eu W w.heap.size .none/\(∀j,j<4->W.cell? ⟨w.heap.size+1,j,.none⟩=J (ae af (wO j:Nat)))/\Below w.heap.size w W/\W.heap.size=w.heap.size+2:=by
 refine⟨_,rfl,(eu.new w .none).below ((aF _ _).alloc (by simp) _) (tJ _),?_,((aF _ _).alloc (aR _) _).alloc (by simp) _,by simp⟩;intro j hj;have e:w.heap.size+1=(w.alloc (ay #[ae af 0,ae af 0,ae af 0,ae af 0] 97)).heap.size:=by simp
 rw[e]
 match j,hj with
 |0,_=>exact dr _ _ _ _ rfl
 |1,_=>exact dr _ _ _ _ rfl
 |2,_=>exact dr _ _ _ _ rfl
 |3,_=>exact dr _ _ _ _ rfl
def alC(T P:ByteArray)(k:Nat)(w:ak)(hk:k<9)(hP:P.size=17)
  (sl:∀W,(Instr.slice 9 (aA T) (J (ae af ((k:Int)*17))) (J (ae af (((k:Int)+1)*17))) Option.none).run prog W=.ok (aA P) W) (l:List UInt8) (Di:P.data.toList=fB l k):Calls prog 109 #[aA T,ae af (k:Int)] w λe w'=>e=ax (bn #[(jy l k).val,aL (rL l k)])/\Below w.heap.size w w':=by
 obtain⟨i0,hi,hz0,hz1,hz2⟩:=alu;have Pk:(P.size:Int)=17:=by omega
 go_enter func109,ntmps109
 go_upto_region 7 with fail
 obtain⟨W,hW,Z0,E0,B0,s0⟩:=alB w;rw[hW];have hlen:P.data.toList.length=17:=by simpa using hP
 go_loopw [7,8,10,11] (λ_ lv a i wr=>∃(j:Nat),j<=4/\i=ae af j/\a=ae af (uP j:Nat)/\wr.ownsRow (w.heap.size+2) 3 1 lv j ((wP P.data.toList j).map uQ)/\Below (w.heap.size+2) W wr) (λ_ _ _ i _=>4-(intOf i).toNat)
 case atStart=>exact⟨0,by decide,rfl,rfl,gF _ _ _ _,aF _ _⟩
 case round=>
  obtain⟨j,hj,rfl,rfl,hown,hb⟩:=hrel;have hsz:=hb.size
  by_cases Ob:j<4
  ·have ec:=(hb.cell (by show w.heap.size+1<_;omega)).trans (E0 j Ob);obtain⟨h1,h2,h3⟩:=alp j Ob;have hn:=alo j Ob;have j0:(0:Int)<=(j:Int):=by omega
   have j1:(j:Int)<4:=by omega
   have Dp:U _:=alq P.data.toList j;generalize hst:uP j=st at *;generalize hen:wO j=en at *;go_wp2_with fail
   go_loopw [7,10] (λv a wx=>∃(m:Nat),st<=m/\m<=en/\a=ae af m/\v=ae af (fU ((P.data.toList.drop st).take (m-st)):Nat)/\wx=wr) (λ_ a _=>en-(intOf a).toNat)
   case atStart=>exact⟨st,aR _,h1,rfl,by rw[Nat.sub_self];rfl,rfl⟩
   case round=>
    obtain⟨m,G0,oT,rfl,rfl,rfl⟩:=hrel
    by_cases I6:m<en
    ·have HV:U (fU ((P.data.toList.drop st).take (m-st))<1099511627776):=by
      show _<_
      have q1:=Dd ((P.data.toList.drop st).take (m-st));have q2:((P.data.toList.drop st).take (m-st)).length<=5:=by rw[eQ];omega
      have q3:256^((P.data.toList.drop st).take _).length<=256^5:=AR (ar rfl) q2;omega
     have Oc:m<P.size:=by omega
     have HN:U ((256:Int)*(fU ((P.data.toList.drop st).take (m-st)):Nat)+((P[m]'Oc).toNat:Int)=(fU ((P.data.toList.drop st).take (m+1-st)):Nat)):=by
      show _=_
      rw[als _ st m (by omega) G0];have:P.data.toList[m]'(by omega)=P[m]'Oc:=rfl;rw[this];omega
     have HB:=(P[m]'Oc).toNat_lt;have Cf:=HV.o;have m0:(0:Int)<=(m:Int):=by omega
     have m1:(m:Int)<(P.size:Int):=by omega
     generalize fU ((P.data.toList.drop st).take (m-st))=N at *;go_wp2_with fail
     exact⟨⟨_,by omega,by omega,by go_num,nh _ HN,trivial⟩,by simp[intOf];omega⟩
    have em:m=en:=by omega
    subst em;have HM:U ((wP P.data.toList (j+1)).map uQ=(wP P.data.toList j).map uQ++[ae af (fU ((P.data.toList.drop st).take (m-st)):Nat)]):=by
     show _=_
     rw[Dp.o,lC];rfl
    generalize fU ((P.data.toList.drop st).take (m-st))=N at *;go_wp2_with (at_builtin;refine pz _ rfl (.tmp 40) _ 44 rfl _ 3 i0 _ 1 8 underlying44 hi hz0 hz1 hz2 rfl (ar rfl) _ _ _ rfl (hown.alloc _) _ 1 1 _ rfl rfl (JH _ _ _) (by intro u hu;simp at hu;subst hu;rfl) (by unfold maxLen;omega) (by omega) (by simp;omega) ?_;intro v1 w1 hown1 A6 JI)
    go_roundw
    case rel=>exact⟨j+1,by omega,by go_num,by rw[hn],by rw[HM.o];exact hown1,(hb.alloc (by omega) _).grown A6 (by simp;omega) (λq hq=>(hown.lt q hq).1)⟩
    case measure=>simp[intOf];omega
  have ej:j=4:=by omega
  subst ej;have Z1:=Z0.below hb (by omega);obtain⟨g,c,rfl,aoZ,hcs⟩:=alA hown;have MV:¬g=wr.heap.size:=by omega
  rw[Di]at hcs;unfold uQ at hcs;obtain⟨n0,n1,n2,n3⟩:=hcs;have aY:=B0.trans (hb.mono (by omega));generalize hx:fV (fB l k)=x at *;go_upto_region 14 with fail
  go_region
  obtain⟨W2,hW2⟩:∃W2,(wr.alloc (ay #[ae af (x.seq:Int),ae af (x.cf:Int),ae af (x.kind:Int),ae af (x.tick:Int)] 97)).drew=W2:=⟨_,rfl⟩;have X2:eu W2 wr.heap.size x:=by rw[<- hW2];exact(eu.new wr x).drew
  have B2:Below wr.heap.size wr W2:=by rw[<- hW2];exact((aF _ _).alloc (aR _) _).drew
  rw[hW2];have s2:=X2.lt;have Z2:=Z1.below B2 Z1.lt;have zl:=Z2.lt;have Az:=aY.trans (B2.mono aY.size);have gj:=alv (fB l k);rw[hx]at gj;have x0:=X2.at.c0;have x1:=X2.at.c1;have x2:=X2.at.c2;have x3:=X2.at.c3;have z0:=Z2.at.c0;have z1:=Z2.at.c1;have z2:=Z2.at.c2;have z3:=Z2.at.c3;have f0:=Z2.frozen 0;have f1:=Z2.frozen 1;have f2:=Z2.frozen 2;have f3:=Z2.frozen 3
  by_cases h1:x.seq<1
  ·have JN:(x.seq:Int)<1:=by omega
   have HR:U _:=alw l k x hx h1;go_wp2_with fail
   refine dL (nB rfl _ _ _ .none rfl (Z2.iT .none).at) rfl ?_;rw[HR.1,HR.2];exact⟨rfl,pC Az (ma _ _ _ _ _ _) Az.size (aR _)⟩
  have JN:¬(x.seq:Int)<1:=by omega
  by_cases hq:(x.seq-1)%9=k
  ·go_wp2_with fail
   apply(I8 _ W2 (by omega) gj.seq).mono;rintro e w3 ⟨rfl,rfl⟩;rw[hq];have EV:Rec.val x=.agg _:=rfl;have BD:=Ve x w3 gj;rw[EV]at BD;change U _ at BD
   go_wp2_with fail
   refine aO BD.o ?_;rintro e w4 ⟨T4,rfl,alD,ao0,hb4⟩;go_wp2_with fail
   apply(I7 165 w4).mono;rintro e w5 ⟨rfl,iU⟩;have hs5:(⟨#[UInt8.ofNat 165]⟩:ByteArray).size=1:=rfl;have alE:(⟨#[UInt8.ofNat 165]⟩:ByteArray).data.toList=[165]:=rfl;generalize (⟨#[UInt8.ofNat 165]⟩:ByteArray)=T5 at *;have HE:U ((T4++T5).data.toList=enc x):=by
    show _=_
    simp only[tq,yq,alD,alE];rfl
   have b5:=Az.trans ((hb4.mono Az.size).trans (iU.mono (bp Az.size hb4.size)));have Z5:=(Z2.below hb4 Z2.lt).below iU (cK Z2.lt hb4.size);have X5:=(X2.below hb4 X2.lt).below iU (cK X2.lt hb4.size);have x0:=X5.at.c0;have x1:=X5.at.c1;have x2:=X5.at.c2;have x3:=X5.at.c3;have z0:=Z5.at.c0;have z1:=Z5.at.c1;have z2:=Z5.at.c2;have z3:=Z5.at.c3;have f0:=Z5.frozen 0;have f1:=Z5.frozen 1;have f2:=Z5.frozen 2;have f3:=Z5.frozen 3
   by_cases he:T4++T5=P
   ·have HR:U _:=alz l k x hx h1 hq (by rw[<- HE.o,he,Di]);have heq:((T4++T5).toList==P.toList)=true:=by rw[he];simp
    go_wp2_with fail
    refine dL (nB rfl _ _ _ x rfl (Z5.iT x).at) rfl ?_;rw[HR.1,HR.2];exact⟨rfl,pC b5 (ma _ _ _ _ _ _) b5.size (aR _)⟩
   have HR:U _:=alx l k x hx (λe=>he (by
    apply ByteArray.ext
    apply Array.toList_inj.1
    rw[HE.o,Di];exact e))
   have heq:((T4++T5).toList==P.toList)=false:=by
    rw[gX];exact λe=>he (PY e)
   go_wp2_with fail
   refine dL (nB rfl _ _ _ .none rfl (Z5.iT .none).at) rfl ?_;rw[HR.1,HR.2];exact⟨rfl,pC b5 (ma _ _ _ _ _ _) b5.size (aR _)⟩
  have HR:U _:=aly l k x hx hq;go_wp2_with fail
  apply(I8 _ W2 (by omega) gj.seq).mono;rintro e w3 ⟨rfl,rfl⟩;have hq':¬(((x.seq-1)%9:Nat):Int)=(k:Int):=by omega
  go_wp2_with fail
  refine dL (nB rfl _ _ _ .none rfl (Z2.iT .none).at) rfl ?_;rw[HR.1,HR.2];exact⟨rfl,pC Az (ma _ _ _ _ _ _) Az.size (aR _)⟩
def alF(T:ByteArray)(k:Nat)(hs:(153:Int)<=(T.size:Int))(hk:k<9):∃P:ByteArray,P.data.toList=fB (T.data.toList.take 153) k/\P.size=17/\∀W,(Instr.slice 9 (aA T) (J (ae af ((k:Int)*17))) (J (ae af (((k:Int)+1)*17))) Option.none).run prog W=.ok (aA P) W:=by
 refine⟨T.extract (k*17) (k*17+17),?_,by simp;omega,λW=>?_⟩
 ·rw[xh,yG];unfold fB;rw[List.drop_take,List.take_take];congr 1
  omega
 rw[run_slice_string _ _ T _ _ _ _ underlying9 (by omega) (by omega) (by omega)];congr 3<;>omega
def alG(T:ByteArray)(k:Nat)(w:ak)(hs:(153:Int)<=(T.size:Int))(hk:k<9):Calls prog 109 #[aA T,ae af (k:Int)] w λe w'=>e=ax (bn #[(jy (T.data.toList.take 153) k).val,aL (rL (T.data.toList.take 153) k)])/\Below w.heap.size w w':=by
 obtain⟨P,h1,h2,h3⟩:=alF T k hs hk;exact alC T P k w hk h2 h3 _ h1
def alH(l:List UInt8)(k:Nat):(rL l k=true->1<=(jy l k).seq/\(jy l k).seq<4294967296)/\(rL l k=false->jy l k=.none):=by
 constructor
 ·intro h;have hc:=ar h;have e:jy l k=fQ _:=aU hc;rw[e];exact⟨(A9 hc.1).1,(A9 hc.1).2.1⟩
 intro h;exact aK (of_decide_eq_false h)
def alI(l:List UInt8)(i:Nat)(hi:i<9):(ft l 9)[i]?=J (jy l i):=by
 rw[bq (by rw[tO];exact hi)];simp[ft,hi]
def alJ(l:List UInt8)(i:Nat)(hi:i<9):(ft l 9).getD i .none=jy l i:=by
 rw[fp,bq (by rw[tO];exact hi)];simp[ft,hi]
def VF(x:Rec):cF [x]=x.list:=by simp[cF]
def alK(T:ByteArray)(w:ak)(hs:(153:Int)<=(T.size:Int)):Calls prog 50 #[aA T] w λe w'=>∃v,e=ax v/\eC w' w.heap.size v (iy T.data.toList)/\Below w.heap.size w w':=by
 obtain⟨i0,hi,hz0,hz1,hz2⟩:=yU;have Ga:U _:=P9 (ft (T.data.toList.take 153) 9) (JW _);have VG:U _:=λk w' hk=>alG T k w' hs hk
 unfold iy;have HAS:U _:=alH (T.data.toList.take 153);have alL:U _:=alI (T.data.toList.take 153);have alM:U _:=alJ (T.data.toList.take 153);have Od:U _:=tO (T.data.toList.take 153) 9;generalize T.data.toList.take 153=l at *;generalize ft l 9=L at *;go_enter func50,ntmps50
 go_wp2_with fail
 go_loopw [3,4] (λb i wr=>∃k:Nat,k<=9/\i=ae af k/\b=ae af (mJ (L.take k):Nat)/\Below w.heap.size w wr) (λ_ i _=>9-(intOf i).toNat)
 case atStart=>exact⟨0,bA _,rfl,rfl,aF _ _⟩
 case round=>
  obtain⟨k,hk,rfl,rfl,hb⟩:=hrel;have hsz:=hb.size
  by_cases h9:k<9
  ·have HT:U (mJ (L.take (k+1))=max (mJ (L.take k)) (jy l k).seq):=by
    show _=_
    have e:=alL k h9;rw[bq (by rw[Od.o];exact h9)]at e;rw[CU (by rw[Od.o];exact h9),P8,fg e]
   go_wp2_with fail
   refine aO (VG.o k wr h9) ?_;rintro e w2 ⟨rfl,hb2⟩;have HA:=HAS k;have b2:=hb.trans (hb2.mono hsz);generalize jy l k=x at *;generalize mJ (L.take k)=M at *;unfold Rec.val
   cases hh:rL l k
   ·have hx:=HA.2 hh;subst hx;go_wp2_with fail
    refine⟨⟨k+1,by omega,by go_num,?_,b2.alloc b2.size _⟩,by simp[intOf];omega⟩;rw[HT.o];show _=Value.int _ ((max M 0:Nat):Int)
    rw[Nat.max_zero]
   by_cases ao1:(M:Int)<(x.seq:Int)
   ·go_wp2_with fail
    refine⟨⟨k+1,by omega,by go_num,?_,b2.alloc b2.size _⟩,by simp[intOf];omega⟩;rw[HT.o];congr 1
    omega
   go_wp2_with fail
   refine⟨⟨k+1,by omega,by go_num,?_,b2.alloc b2.size _⟩,by simp[intOf];omega⟩;rw[HT.o];congr 1
   omega
  have ek:L.take k=L:=iM (by rw[Od.o];omega);rw[ek];have HM:=Ga.o;generalize Gb:mJ L=best at *;have yX:U (tP L=(chain L 8 best).reverse):=by show _=_;unfold tP;rw[Gb]
  go_wp2_with fail
  go_loopw [7,8] (λv i wx=>∃(n:Nat) (acc:List Rec),n<=best/\i=ae af n/\acc.length<=8/\acc++chain L (8-acc.length) n=chain L 8 best/\eC wx w.heap.size v acc.reverse/\(acc=[]->v=aj .none 0 0)/\Below w.heap.size w wx) (λ_ i _=>(intOf i).toNat)
  case atStart=>exact⟨_,[],aR _,rfl,by simp,rfl,gF _ _ _ _,λ_=>rfl,hb⟩
  case round=>
   obtain⟨n,acc,hn,rfl,Zg,hch,hown,hnil,hb2⟩:=hrel;have A5:=hb2.size;obtain⟨sa,c,rfl⟩:=hown.len;rw[AV]at hown hnil⊢
   by_cases xm:0<n
   ·have JU:(0:Int)<(n:Int):=by omega
    by_cases Zi:acc.length<8
    ·have JV:(acc.length:Int)<8:=by omega
     have hq:(n-1)%9<9:=Nat.mod_lt _ (ar rfl);obtain⟨q,nt⟩:∃q,(n-1)%9=q:=⟨_,rfl⟩;rw[nt]at hq;have yY:=yV L (8-acc.length) n;have yZ:=Dm L (8-(acc.length+1)) n xm;rw[nt,alM.o q hq]at yY yZ;go_wp2_with fail
     apply(I8 n _ xm (by omega)).mono;rintro e w3 ⟨rfl,rfl⟩;rw[nt];go_wp2_with fail
     refine aO (VG.o q w3 hq) ?_;rintro e w4 ⟨rfl,hb4⟩;have HA:=HAS q;have b4:=hb2.trans (hb4.mono A5);have s4:=hb4.size;generalize jy l q=x at *;unfold Rec.val
     by_cases hseq:x.seq=n
     ·cases hh:rL l q
      ·have hx:=HA.2 hh;rw[hx]at hseq;have:(0:Nat)=n:=hseq;omega
      have HS:U _:=yZ hseq;have JL:=hown.below hb4 (aR _);subst hseq;have Co:=bp A5 s4;obtain⟨x0,x1,x2,x3⟩:=l_.new w4 x 97;go_upto_region 16 with(at_builtin;refine vA _ rfl _ _ 92 rfl w.heap.size 97 i0 _ 4 32 underlying92 hi hz0 hz1 hz2 rfl (ar rfl) (aj .none 0 0) 0 [] rfl (gF _ _ _ _) ⟨w4.heap.size+1,0,.none⟩ 1 1 x.list rfl rfl (P_ _ _ _ _) (Ba x) (ar rfl) (by unfold maxLen;omega) (by omega) (by simp;omega) (w4.heap.size+2) (by simp) ?_;intro g5 VH w5 Dg jg ao2 ao3)
      have Oe:=(((aF _ w4).alloc (aR _) _).alloc (by simp) _).grown jg (by simp;omega) (λk hk=>by cases hk);have h5:=JL.below Oe (aR _);have b5:=b4.trans (Oe.mono Co);have s5:=Oe.size;have R1:w5.ownsRow _ 97 4 (aj _ 1 VH) 1 x.list:=Dg;have VI:U ((acc++[x])++chain L (8-(acc++[x]).length) (x.seq-1)=chain L 8 best):=by
       show _=_
       rw[gh,cY,kW,<- hch,show 8-acc.length=8-(acc.length+1)+1 by omega,HS.o];rfl
      have ao4:1<=VH:=by
       obtain⟨-,⟨e,-⟩|⟨g',c',cur,e,-,-,hle,-⟩⟩:=R1
       ·cases e
       simp only[mf]at e;rw[e.2.2];exact hle
      by_cases Og:acc=[]
      ·have e:=hnil Og;simp only[mf]at e;obtain⟨rfl,-,rfl⟩:=e;subst Og;go_wp2_with fail
       refine⟨⟨_,[x],by omega,by congr 1;omega,by simp,VI,?_,λe=>by simp at e,b5⟩,by simp[intOf];omega⟩;show w5.ownsRow _ _ _ _ _ _
       rw[List.reverse_singleton,VF];exact R1
      rcases h5.qd with⟨e,e2⟩|⟨g6,ao5,e,-,hrow,-,-⟩
      ·exact absurd (List.reverse_eq_nil_iff.1 e2) Og
      simp only[mf]at e;obtain⟨rfl,-,rfl⟩:=e;have nV:U ((cF acc.reverse).length=acc.length*4):=by show _=_;rw[oM,AV];omega
      have JT:U _:=λu hu=>CV.1 (xk acc.reverse) u (by simpa using hu)
      have hcs:U _:=hrow.raw;go_wp2_with (at_builtin;refine pz _ rfl (.tmp 60) _ 92 rfl _ 97 i0 _ 4 32 underlying92 hi hz0 hz1 hz2 rfl (ar rfl) _ _ _ rfl R1 ⟨g6,0,.none⟩ acc.length c (cF acc.reverse) rfl nV hcs JT (by unfold maxLen;omega) (by omega) (by omega) ?_;intro v8 w8 eV cQ nA)
      go_roundw
      case rel=>
       refine⟨_,_,by omega,by go_num,by simp;omega,VI,?_,λe=>by simp at e,b5.grown cQ b5.size (λq hq=>(World.ownsRow.lt R1 q hq).1)⟩;show w8.ownsRow _ _ _ _ _ _
       rw[show (acc++[x]).reverse=[x]++acc.reverse by simp,JO,cY,AV,VF];exact eV
      case measure=>simp[intOf];omega
     have HS:U (chain L 8 best=acc):=by
      show _=_
      rw[<- hch,yY (λh=>hseq h.2),pk]
     have Zk:¬(x.seq:Int)=(n:Int):=by omega
     have h4:=(hown.below hb4 (aR _))
     cases hh:rL l q
     all_goals
      go_wp2;go_ret
      refine⟨_,rfl,?_,b4.alloc (by omega) _⟩;rw[yX.o,HS.o];exact h4.below ((aF _ _).alloc (aR _) _) (aR _)
    have HS:U (chain L 8 best=acc):=by
     show _=_
     rw[<- hch,show 8-acc.length=0 by omega];simp[chain]
    have JV:¬(acc.length:Int)<8:=by omega
    go_wp2;go_ret
    refine⟨_,rfl,?_,hb2⟩;rw[yX.o,HS.o];exact hown
   have HS:U (chain L 8 best=acc):=by
    show _=_
    rw[<- hch,yV L _ n (λh=>xm h.1),pk]
   have JU:¬(0:Int)<(n:Int):=by omega
   go_wp2;go_ret
   refine⟨_,rfl,?_,hb2⟩;rw[yX.o,HS.o];exact hown
def CH(c:aX)(ev:aw)(bm bd:Nat)(rv lv tv:aw):Array aw:=#[ae af c.closed,ae af c.opn,ae af c.cycle,ae af c.bE,ev,aq (J (ai bm 0 I)),aq (J (ai bd 0 I)),rv,lv,tv]
def alN:(prog.info? 88).map (λi=>(i.zero,i.size,i.bytes))=J (J (aq I),1,8):=by kernel_rfl
section
variable {w0 W1 wr wr' V2 V3:ak}{c:aX}{ev:aw}{kb bm bd:Nat}{rv lv tv:aw}{bs:List Nat}
structure wQ(w0 W1 wr:ak)(c:aX)(ev:aw)(kb bm bd:Nat)(rv tv lv:aw)(bs:List Nat):Prop where
 row:wr.heap[kb]?=J (ay (CH c ev bm bd rv lv tv) 82 (0,0))
 kl:kb<W1.heap.size
 off:aG (λk=>k=kb) W1 wr
 own:bI lM 1 88 W1.heap.size wr lv bs
 loc:∀(j b:Nat),bs[j]?=J b->∃(e:aM) (E:EA),c.az[j]?=J e/\W1.heap.size<=b/\wr.heap[b]?=J (ay (ri e E.pa E.ga E.ea E.fa E.la E.pc E.gc E.ec E.fc E.lc aZ.new (aj I 0 0)) 128 (0,0))/\fh w0 e (aj E.pa e.au.length E.pc) (aj E.ga e.aV.length E.gc) (aj E.ea e.aP.length E.ec) (aj E.fa e.first.length E.fc) (aj E.la e.last.length E.lc)
 Oh:∀(i j b:Nat),bs[i]?=J b->bs[j]?=J b->i=j
def wQ.below(h:wQ w0 W1 wr c ev kb bm bd rv tv lv bs)(hb:Below wr.heap.size wr wr'):wQ w0 W1 wr' c ev kb bm bd rv tv lv bs:=
 ⟨a8 hb h.row,h.kl,h.off.trans (aG.dm hb _) (λ_ _ e=>e),h.own.below hb,λj b hj=>by obtain⟨e,E,h1,h2,h3,h4⟩:=h.loc j b hj;exact⟨e,E,h1,h2,a8 hb h3,h4⟩,h.Oh⟩
def wQ.more(h:wQ w0 W1 wr c ev kb bm bd rv tv lv bs){E:EA}{g cap:Nat}{o:Obj}(he:c.az[bs.length]?=J e)
  (hP:fh w0 e (aj E.pa e.au.length E.pc) (aj E.ga e.aV.length E.gc) (aj E.ea e.aP.length E.ec) (aj E.fa e.first.length E.fc) (aj E.la e.last.length E.lc))
  (hV2:V2=(wr.alloc (ay (ri e E.pa E.ga E.ea E.fa E.la E.pc E.gc E.ec E.fc E.lc aZ.new (aj I 0 0)) 128)).alloc o)
  (hown:V3.ownsRow W1.heap.size 88 1 (aj (J (ai g 0 I)) (bs.length+1) cap) (bs.length+1) (bs.flatMap lM++[aq (J (ai wr.heap.size 0 I))])) (hg:V2.grownBy V3 lv.ownBlock)
  (hw:wr'=V3.setCell (ai kb 8 I) (aj (J (ai g 0 I)) (bs.length+1) cap)):wQ w0 W1 wr' c ev kb bm bd rv tv (aj (J (ai g 0 I)) (bs.length+1) cap) (bs++[wr.heap.size]):=by
 have b1:=aS wr (ay (ri e E.pa E.ga E.ea E.fa E.la E.pc E.gc E.ec E.fc E.lc aZ.new (aj I 0 0)) 128);have b2:Below wr.heap.size wr V2:=by rw[hV2];exact b1.alloc (by simp) o
 have hn:V2.heap[wr.heap.size]?=J (ay (ri e E.pa E.ga E.ea E.fa E.la E.pc E.gc E.ec E.fc E.lc aZ.new (aj I 0 0)) 128 (0,0)):=by
  rw[hV2];exact a8 (aS _ o) (cj wr _)
 have alO:=h.off.size;have hrow2:=a8 b2 h.row;have hkb:=qZ h.own h.row (ar rfl);have hrow3:=(hg.block kb (bL hrow2) (λe=>hkb e.symm)).trans hrow2;have mA:aG _ V2 V3:=⟨hg.os,hg.tape,hg.output,hg.size,λk hk hn=>hg.block k hk (λe=>hn e.symm)⟩;have pL:aG (λk=>k=kb) V3 wr':=by rw[hw];exact aG.cG (bJ ..)
 have keep:∀(b:Nat) (cs:Array _),V2.heap[b]?=J (ay cs 128 (0,0))->wr'.heap[b]?=J (ay cs 128 (0,0)):=λb cs hb=>by
  have h3:=(hg.block b (bL hb) (λe=>qZ (h.own.below b2) hb (ar rfl) e.symm)).trans hb
  refine(pL.block b (bL h3) (λe=>?_)).trans h3;subst e;rw[hrow3]at h3;simp at h3
 refine⟨?_,h.kl,?_,?_,λj b hj=>?_,λi j b hi hj=>?_⟩
 ·rw[hw];exact pF hrow3 _
 ·exact((h.off.trans (aG.dm b2 _) (λ_ _ e=>e)).trans mA (λk hk e=>absurd ((h.own.lt k e).1) (by omega))).trans pL (λ_ _ e=>e)
 ·have e1:(bs++[wr.heap.size]).flatMap lM=bs.flatMap lM++[aq (J (ai wr.heap.size 0 I))]:=by rw[ji];rfl
  show wr'.ownsRow _ _ _ _ _ _
  rw[e1,cY,kW];exact zq hown (λq hq=>pL.block q (hown.lt q hq).2 (λe=>by rw[e]at hq;exact qZ hown hrow3 (ar rfl) hq))
 ·rw[List.getElem?_append]at hj
  split at hj
  ·obtain⟨e',E',a1,a2,a3,a4⟩:=h.loc j b hj;exact⟨e',E',a1,a2,keep b _ (a8 b2 a3),a4⟩
  rename_i hlt;obtain rfl:j=bs.length:=by
   have:=(df.1 hj).1;simp at this
   omega
  simp at hj
  subst hj;exact⟨e,E,he,alO,keep _ _ hn,hP⟩
 have old:∀(i b:Nat),bs[i]?=J b->b<wr.heap.size:=λi b hi=>by obtain⟨_,_,_,_,a3,_⟩:=h.loc i b hi;exact bL a3
 have last:∀(i b:Nat),¬i<bs.length->(bs++[wr.heap.size])[i]?=J b->i=bs.length/\b=wr.heap.size:=λi b hn hi=>by
  rw[jX (by omega)]at hi;have:=(df.1 hi).1;simp at this
  have e:i=bs.length:=by omega
  subst e;simp at hi
  exact⟨rfl,hi.symm⟩
 by_cases nG:i<bs.length
 ·rw[ly nG]at hi
  by_cases pE:j<bs.length
  ·rw[ly pE]at hj;exact h.Oh i j b hi hj
  obtain⟨-,rfl⟩:=last j b pE hj;have:=old i _ hi;omega
 obtain⟨rfl,rfl⟩:=last i b nG hi
 by_cases pE:j<bs.length
 ·rw[ly pE]at hj;have:=old j _ hj;omega
 exact(last j _ pE hj).1.symm
end
end
end Go.Proofs.YtgjlihibabmgcaaGreatDoor
