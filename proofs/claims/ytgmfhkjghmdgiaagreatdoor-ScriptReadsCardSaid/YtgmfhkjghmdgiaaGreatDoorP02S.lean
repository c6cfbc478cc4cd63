/-
  Several texts as one: RingSum, RingNum, RingEnc, RingDec, RingHeld, RingHeld2, RingSl, RingRev, RingNewest, RingSt, RingPut, RingDel, Offs, RingKeep.
-/
import Derived.Test.YtgmfhkjghmdgiaaGreatDoorP01S
import Derived.Laws.BitsAllLaws
import Derived.Laws.ShiftsVarLaws
import Derived.Deep.AppendLies
import Derived.Laws.MakeOwn
import Derived.Lib.BufferWrite
import Derived.Laws.ResultCell
import Derived.Laws.CopyOwn
import Derived.Laws.Strings2
import Derived.Laws.Tables
import Derived.RegionTactic
import Derived.Lib.SliceRun
import Derived.Deep.RegionLaw
set_option linter.all false
set_option maxHeartbeats 40000000
set_option maxRecDepth 100000
abbrev cR:=@Go.heap_alloc_new
abbrev fZ:=@Go.ByteArray.toList_eq
abbrev f_:=@Go.wpList_store_row
abbrev er:=@Go.bodyPost_ret
abbrev ni:=@Go.step_append_lies
abbrev oG.{u}:=@List.getElem?_take.{u}
abbrev vG:=@Nat.add_sub_cancel_left
abbrev nj:=@Nat.zero_add
abbrev qT:=@Go.World.size_alloc
abbrev pH.{u,v}:=@List.map_append.{u,v}
abbrev oH:=@Nat.add_zero
abbrev jU:=@or_false
abbrev tU:=@Go.Value.slice.injEq
abbrev sf:=@Go.wpList_load_row
abbrev tV:=@Nat.lt_succ_self
abbrev vH:=@Go.Result.andThen_ok
abbrev tW:=@Go.Addr.mk.injEq
abbrev D3.{u}:=@Array.all_eq_true_iff_forall_mem.{u}
abbrev za:=@Go.World.ownsRow_made
abbrev Bo:=@Nat.pow_le_pow_right
abbrev zb:=@Go.Lib.extract_data
abbrev Bp:=@Nat.add_sub_cancel
abbrev ze.{u}:=@List.length_set.{u}
open Go renaming Addr→az,Value→ar,World→ai
open Go.Ending renaming returned→ax
open Go.IntKind renaming i64→R
open Go.Obj renaming cells→au
open Go.RowKit renaming Hid→aa
open Go.Value renaming agg→aU,bool→aI,int→U,pointer→aj,slice→af,string→aq,tuple→bn
open Option renaming none→I,some→J
open Go.Proofs.Tryz
namespace Go.Proofs.YtgmfhkjghmdgiaaGreatDoor
open Go.Extern Go.Extern.Stop Go.RowKit Go.Stop
section
def D4(s:Nat):Nat:=(s / 2) ^^^ (3988292384*(s%2))
def tX:Nat->Nat->Nat
 |0,s=>s
 |k+1,s=>tX k (D4 s)
def zf(s:Nat)(l:List UInt8):Nat:=l.foldl (λs v=>tX 8 (s ^^^ v.toNat)) s
def vI(l:List UInt8):Nat:=4294967295 ^^^ zf 4294967295 l
theorem MD{s:Nat}(h:s<4294967296):D4 s<4294967296:=
 Nat.xor_lt_two_pow (n:=32) (by omega) (by omega)
theorem Wj(k:Nat):∀{s:Nat},s<4294967296->tX k s<4294967296:=by
 induction k with
 |zero=>intro s h;exact h
 |succ k ih=>intro s h;exact ih (MD h)
theorem ME{s:Nat}(h:s<4294967296)(v:UInt8):s ^^^ v.toNat<4294967296:=
 Nat.xor_lt_two_pow (n:=32) h (by have:=v.toNat_lt;omega)
theorem Wk(l:List UInt8):∀{s:Nat},s<4294967296->zf s l<4294967296:=by
 induction l with
 |nil=>intro s h;exact h
 |cons v r ih=>intro s h;exact ih (Wj 8 (ME h v))
theorem Wl(l:List UInt8):vI l<4294967296:=Nat.xor_lt_two_pow (n:=32) (by decide) (Wk l (by decide))
theorem Wm(n:Nat)(v:UInt8)(hn:n<4294967296):bits BinOp.xor IntKind.u32 (n:Int) ((v.toNat:Int)%4294967296)=((n ^^^ v.toNat:Nat):Int):=by
 have:=v.toNat_lt;rw[show ((v.toNat:Int)%4294967296)=((v.toNat:Nat):Int) by omega];exact u32_xor_nat n _ hn (by omega)
theorem and_one(m:Nat):m &&& 1=m%2:=by rw[show (1:Nat)=2^1-1 from rfl,Nat.and_two_pow_sub_one_eq_mod]
theorem Wn(m:Nat)(hm:m<4294967296):bits BinOp.xor IntKind.u32 ((m:Int) / 2) (3988292384*bits BinOp.and IntKind.u32 (m:Int) 1%4294967296)=((D4 m:Nat):Int):=by
 have h1:bits BinOp.and IntKind.u32 (m:Int) 1=((m%2:Nat):Int):=by
  have:=u32_and_nat m 1 hm (by decide);rw[and_one]at this;exact this
 rw[h1,show ((m:Int) / 2)=((m / 2:Nat):Int) by omega,show ((3988292384*((m%2:Nat):Int))%4294967296)=((3988292384*(m%2):Nat):Int) by omega];exact u32_xor_nat _ _ (by omega) (by omega)
theorem Wo(a:az)(c:Nat)(l:List UInt8)(w:ai)(hc:∀i (hi:i<l.length),w.cell? (a.add i)=J (U .u8 (l[i].toNat:Int)))(hl:l.length<=4096):Calls prog 274 #[af (J a) l.length c] w λe w'=>e=ax (.int .u32 (vI l:Nat))/\w'=w:=by
 go_enter func274,ntmps274
 go_wp2_with fail
 go_loopw [3,8] (λs i wr=>∃(k n:Nat),k<=l.length/\n<4294967296/\i=U R k/\s=.int .u32 (n:Int)/\zf n (l.drop k)=zf 4294967295 l/\wr=w) (λ_ i _=>l.length-(intOf i).toNat)
 case atStart=>exact⟨0,_,bI _,by decide,rfl,rfl,by simp,rfl⟩
 case round=>
  obtain⟨k,n,hk,hn,rfl,rfl,Bq,rfl⟩:=hrel
  by_cases hlt:k<l.length
  ·have hcell:=hc k hlt;have HB:aa (n ^^^ l[k].toNat<4294967296):=ME hn _;have HX:aa _:=Wm n l[k] hn;have HN:aa (zf (tX 8 (n ^^^ l[k].toNat)) (l.drop (k+1))=zf 4294967295 l):=by
    show _=_
    rw[<- Bq,kq hlt];rfl
   clear Bq;go_wp2_with fail
   rw[HX.o]
   go_loopw [3,16] (λs i wx=>∃(j m:Nat),j<=8/\m<4294967296/\i=U R j/\s=.int .u32 (m:Int)/\tX (8-j) m=tX 8 (n ^^^ l[k].toNat)/\wx=wr) (λ_ i _=>8-(intOf i).toNat)
   case atStart=>exact⟨0,_,bI _,HB.o,rfl,rfl,rfl,rfl⟩
   case round=>
    obtain⟨j,m,hj,hm,rfl,rfl,hst,rfl⟩:=hrel
    by_cases aiC:j<8
    ·have HS:aa _:=Wn m hm;have HM:aa _:=MD hm;have HT:aa (tX (8-(j+1)) (D4 m)=tX 8 (n ^^^ l[k].toNat)):=by
      show _=_
      rw[<- hst,show 8-j=8-(j+1)+1 by omega];rfl
     clear hst hm;go_wp2_with fail
     rw[HS.o];go_roundw
     case rel=>exact⟨_,_,by omega,HM.o,by go_num,rfl,HT.o,trivial⟩
     case measure=>simp[intOf];omega
    have ej:j=8:=by omega
    subst ej;have HT:aa (m=tX 8 _):=hst;clear hst;go_wp2_with fail
    go_roundw
    case rel=>exact⟨k+1,m,by omega,hm,by go_num,rfl,by rw[HT.o];exact HN.o,trivial⟩
    case measure=>simp[intOf];omega
  have HR:aa (((n ^^^ 4294967295:Nat):Int)=((vI l:Nat):Int)):=by
   show _=_
   have:l.drop k=[]:=rY (by omega);rw[this]at Bq;unfold vI;rw[<- Bq,Nat.xor_comm];rfl
  clear Bq;have HX:aa (bits BinOp.xor IntKind.u32 IntKind.u32.max (n:Int)=((vI l:Nat):Int)):=by
   show _=_
   rw[show IntKind.u32.max=((4294967295:Nat):Int)from rfl,u32_xor_nat _ _ (by decide) hn,Nat.xor_comm];exact HR.o
  go_wp2;go_ret;rw[HX.o];exact⟨rfl,rfl⟩
def kA(l:List UInt8):Nat:=l.foldl (λa b=>a*256+b.toNat) 0
def be:Nat->Nat->List UInt8
 |0,_=>[]
 |n+1,v=>UInt8.ofNat (v / 256^n)::be n v
theorem MF(n v:Nat):(be n v).length=n:=by induction n with
 |zero=>rfl
 |succ n ih=>simp[be,ih]
theorem Wp(l:List UInt8):∀a,l.foldl (λa b=>a*256+b.toNat) a=a*256^l.length+kA l:=by
 induction l with
 |nil=>intro a;simp[kA]
 |cons x r ih=>
  intro a;have e:kA (x::r)=x.toNat*256^r.length+kA r:=by
   show r.foldl _ (0*256+x.toNat)=_
   rw[ih,Nat.zero_mul,nj]
  simp only[List.foldl_cons,ih,e,kr,Nat.pow_succ,Nat.add_mul];rw[Nat.mul_assoc,Nat.mul_comm 256 _];omega
theorem Wq(x:UInt8)(r:List UInt8):kA (x::r)=x.toNat*256^r.length+kA r:=by
 show r.foldl _ (0*256+x.toNat)=_
 rw[Wp,Nat.zero_mul,nj]
theorem Ws(l:List UInt8)(x:UInt8):kA (l++[x])=kA l*256+x.toNat:=by simp[kA]
theorem GR(l:List UInt8):kA l<256^l.length:=by
 induction l with
 |nil=>simp[kA]
 |cons x r ih=>
  rw[Wq,kr,Nat.pow_succ,Nat.mul_comm (256^r.length)];have h:=x.toNat_lt;have:x.toNat*256^r.length<=255*256^r.length:=AV _ (by omega);omega
theorem Wt(n:Int)(h₀:0<=n)(h₁:n<2^63):IntKind.i64.wrap n=n:=by
 simp only[IntKind.wrap,IntKind.bits,IntKind.signed];simp
 omega
theorem GU(n:Int)(h:-9223372036854775808<=n/\n<=9223372036854775807):wrap64 n=n:=by unfold wrap64;omega
theorem Wu(v:Nat)(x:UInt8)(h:v<1099511627776):bits BinOp.or IntKind.i64 (wrap64 ((v:Int)*256)) (wrap64 (x.toNat:Int))=((v*256+x.toNat:Nat):Int):=by
 have hx:=x.toNat_lt;rw[GU _ (by omega),GU _ (by omega),bits_join R 63 (by decide) Wt 8 _ _ (by omega) (by omega) (by omega) (by omega) (by omega) (by omega)];omega
theorem Wv(t:ByteArray)(w:ai)(hl:t.size<=6):Calls prog 250 #[aq t] w λe w'=>e=ax (U R (kA t.data.toList:Nat))/\w'=w:=by
 go_enter func250,ntmps250
 go_wp2_with fail
 go_loopw [3,7] (λs i wr=>∃(k:Nat),k<=t.size/\i=U R k/\s=U R (kA (t.data.toList.take k):Nat)/\wr=w) (λ_ i _=>t.size-(intOf i).toNat)
 case atStart=>exact⟨0,bI _,rfl,rfl,rfl⟩
 case round=>
  obtain⟨k,hk,rfl,rfl,rfl⟩:=hrel
  by_cases hlt:k<t.size
  ·have HV:aa (kA (t.data.toList.take k)<1099511627776):=by
    show _<_
    have h1:=GR (t.data.toList.take k);have h2:(t.data.toList.take k).length<=5:=by rw[gy];simp;omega
    have h3:256^(t.data.toList.take k).length<=256^5:=Bo (by decide) h2;omega
   have HN:aa (kA (t.data.toList.take (k+1))=kA (t.data.toList.take k)*256+t[k].toNat):=by
    show _=_
    rw[Mz t k hlt,Ws]
   go_wp2_with fail
   rw[Wu _ _ HV.o,<- HN.o];exact⟨⟨_,by omega,by go_num,rfl,trivial⟩,by simp[intOf];omega⟩
  have HT:aa (t.data.toList.take k=t.data.toList):=nQ (by simp;omega);go_wp2;go_ret;rw[HT.o];exact⟨rfl,rfl⟩
theorem infoByte:∃i:TypeInfo,prog.info? 5=J i/\i.zero=J (U .u8 0)/\i.size=1/\i.bytes=1:=by
 have h:(prog.info? 5).map (λi=>(i.zero,i.size,i.bytes))=J (J (U .u8 0),1,1):=by kernel_rfl
 obtain⟨i,hi,he⟩:=m_.1 h;simp only[Prod.mk.injEq]at he;exact⟨i,hi,he.1,he.2.1,he.2.2⟩
theorem Ww(x j:Nat):mC (UInt8.ofNat (x / 256^j))=U .u8 ((x:Int) / 2^(8*j)%256):=by
 unfold mC;rw[UInt8.toNat_ofNat',Int.pow_mul];have:((256^j:Nat):Int)=(2^8:Int)^j:=by rw[Int.natCast_pow];rfl
 rw[<- this];congr 1
theorem MG(w:ai)(u:ar)(ty:TypeId):∀j x,[u][j]?=J x->(w.alloc (au #[u] ty)).cell? ((⟨w.heap.size,0,I⟩:az).add j)=J x:=by
 intro j x hj
 match j,hj with
 |0,hj=>
  have e:x=u:=by simpa using hj.symm
  subst e;exact dK _ _ _ _ rfl
theorem Br(base:Nat)(v:ar)(n:Nat)(l:List UInt8)(x many:Nat)(w:ai)(hown:w.ownsRow base 5 1 v n (l.map mC))(hb:base<=w.heap.size)(hn:n+many<=100)(hm:many<=7):Calls prog 273 #[v,U R (x:Int),U R (many:Int)] w λe w'=>∃v',e=ax v'/\w'.ownsRow base 5 1 v' (n+many) ((l++be many x).map mC)/\Below base w w':=by
 obtain⟨i0,hi,hz0,hz1,hz2⟩:=infoByte;go_enter func273,ntmps273
 go_wp2_with fail
 go_loopw [0,7] (λu i wr=>∃(j:Nat) (pre:List UInt8),j<=many/\i=U R ((j:Int)-1)/\l++be many x=pre++be j x/\wr.ownsRow base 5 1 u (n+many-j) (pre.map mC)/\Below base w wr) (λ_ i _=>(intOf i+1).toNat)
 case atStart=>exact⟨_,l,aQ _,rfl,rfl,by rw[Bp];exact hown,aC _ _⟩
 case round=>
  obtain⟨j,pre,hj,rfl,dL,hown',k9⟩:=hrel
  cases j with
  |succ j=>
   rw[show (((j+1:Nat):Int)-1)=(j:Int) by omega];have HV:aa _:=Ww x j;have hsz:=k9.size;have HP:aa (l++be many x=(pre++[UInt8.ofNat (x / 256^j)])++be j x):=by
    show _=_
    rw[dL];simp[be]
   have HM:aa ((pre++[UInt8.ofNat (x / 256^j)]).map mC=pre.map mC++[U .u8 ((x:Int) / 2^(8*j)%256)]):=by
    show _=_
    rw[pH,pA,List.map_nil,HV.o]
   clear dL;go_wp2_with (at_builtin;refine fw _ rfl (.tmp 14) _ 182 rfl _ 5 i0 _ 1 1 underlying182 hi hz0 hz1 hz2 rfl (by decide) _ _ _ rfl (hown'.alloc _) _ 1 1 _ rfl rfl (MG _ _ _) (by intro u hu;simp at hu;subst hu;rfl) (by unfold maxLen;omega) (by omega) (by simp;omega) ?_;intro v1 w1 hown1 dh ij)
   go_roundw
   case rel=>exact⟨j,_,by omega,by go_num,HP.o,by rw[HM.o,show n+many-j=n+many-(j+1)+1 by omega];exact hown1,(k9.alloc (by omega) _).grown dh (by simp;omega) (λk hk=>(hown'.lt k hk).1)⟩
   case measure=>simp[intOf]
  |zero=>
   go_wp2;go_ret;simp only[be,qd]at dL;exact⟨_,rfl,by rw[dL];exact hown',k9⟩
structure Rec where
 seq:Nat
 dU:Nat
 kind:Nat
 tick:Nat
def Rec.list(r:Rec):List ar:=[U R (r.seq:Int),U R (r.dU:Int),U R (r.kind:Int),U R (r.tick:Int)]
def Rec.val(r:Rec):ar:=aU #[U R (r.seq:Int),U R (r.dU:Int),U R (r.kind:Int),U R (r.tick:Int)]
def Rec.none:Rec:=⟨0,0,0,0⟩
structure nk(w:ai)(b:Nat)(r:Rec):Prop where
 c0:w.cell? ⟨b,0,.none⟩=J (U R (r.seq:Int))
 c1:w.cell? ⟨b,1,.none⟩=J (U R (r.dU:Int))
 c2:w.cell? ⟨b,2,.none⟩=J (U R (r.kind:Int))
 c3:w.cell? ⟨b,3,.none⟩=J (U R (r.tick:Int))
theorem nk.below{w w':ai}{b B:Nat}{r:Rec}(h:nk w b r)(hb:Below B w w')(hlt:b<B):nk w' b r:=
 ⟨(hb.cell (by exact hlt)).trans h.c0,(hb.cell (by exact hlt)).trans h.c1,(hb.cell (by exact hlt)).trans h.c2,(hb.cell (by exact hlt)).trans h.c3⟩
theorem nk.new(w:ai)(r:Rec)(ty:TypeId):nk (w.alloc (au #[U R (r.seq:Int),U R (r.dU:Int),U R (r.kind:Int),U R (r.tick:Int)] ty)) w.heap.size r:=
 ⟨dK _ _ _ _ rfl,dK _ _ _ _ rfl,dK _ _ _ _ rfl,dK _ _ _ _ rfl⟩
def sg(r:Rec):List UInt8:=be 4 r.seq++be 1 r.dU++be 1 r.kind++be 6 r.tick
def jV(r:Rec):List UInt8:=sg r++be 4 (vI (sg r))
def enc(r:Rec):List UInt8:=jV r++[165]
theorem MH(r:Rec):(sg r).length=12:=by simp[sg,MF]
theorem sj(r:Rec):(jV r).length=16:=by simp[jV,MH,MF]
theorem MI(r:Rec):(enc r).length=17:=by simp[enc,sj]
theorem MJ{w:ai}{base n:Nat}{v:ar}{l:List UInt8}(h:w.ownsRow base 5 1 v n (l.map mC))(hn:0<n):∃g c,v=af (J ⟨g,0,.none⟩) l.length c/\l.length=n/\∀i (hi:i<l.length),w.cell? ((⟨g,0,.none⟩:az).add i)=J (U .u8 (l[i].toNat:Int)):=by
 obtain⟨hl,h|⟨g,c,cur,rfl,-,hg,Mn,-,hcs,hx⟩⟩:=h
 ·omega
 have vJ:l.length=n:=by simpa using hl
 refine⟨g,c,by rw[vJ],vJ,λi hi=>?_⟩;have e:cur[i]?=J (mC l[i]):=by
  have:=mY (λz=>z[i]?) hx;simp only[oG,gR,bH hi,tN,tL,aR (show i<n by omega)]at this;simpa using this
 have ea:(⟨g,0,.none⟩:az).add i=⟨g,i,.none⟩:=by unfold Addr.add;split<;>simp_all
 rw[ea];simp only[World.cell?,hg];simpa[mC]using e
theorem Wx{w:ai}{base n:Nat}{v:ar}{l:List UInt8}(h:w.ownsRow base 5 1 v n (l.map mC))(hn:0<n):(convert 182 9 v).run prog w=.ok (aq ⟨l.toArray⟩) w:=by
 obtain⟨g,c,rfl,-,hc⟩:=MJ h hn;exact run_convert_bytes_back (P:=prog) w 182 9 5 _ c l underlying182 underlying5 underlying9 hc
theorem MK(r:Rec)(w:ai):Calls prog 251 #[r.val] w λe w'=>e=ax (aq ⟨(enc r).toArray⟩)/\Below w.heap.size w w':=by
 obtain⟨i0,hi,hz0,hz1,hz2⟩:=infoByte;have R0:=nk.new w r 119;unfold Rec.val;go_enter func251,ntmps251
 go_upto_region 2 with(at_make;refine wpList_make_own _ rfl _ _ 182 rfl (w.heap.size+1) 5 i0 _ 1 underlying182 hi hz0 hz1 R R 17 17 rfl rfl rfl (by rw[hz2];omega) (by unfold maxLen;omega) (by simp) ?_;intro w0 ML GV)
 have R1:=R0.below ((aC _ _).grown GV (by simp) (λk h=>by cases h)) (tV _);have B1:=((aC _ w).alloc (aQ _) _).grown GV (by simp) (λk h=>by cases h);have s1:=GV.size;simp only[qT]at s1 ML;have q0:=R1.c0;go_wp2_with fail
 refine(Br _ _ 0 [] _ 4 _ ML s1 (by omega) (by omega)).mono ?_;rintro e w2 ⟨v2,rfl,hown2,hb2⟩;have R2:=R1.below hb2 (tV _);have s2:=hb2.size;have q1:=R2.c1;go_wp2_with fail
 refine(Br _ v2 _ _ _ 1 _ hown2 (by omega) (by omega) (by omega)).mono ?_;rintro e w3 ⟨v3,rfl,D5,hb3⟩;have R3:=R2.below hb3 (tV _);have s3:=hb3.size;have q2:=R3.c2;go_wp2_with fail
 refine(Br _ v3 _ _ _ 1 _ D5 (by omega) (by omega) (by omega)).mono ?_;rintro e w4 ⟨v4,rfl,Wy,hb4⟩;have R4:=R3.below hb4 (tV _);have s4:=hb4.size;have q3:=R4.c3;go_wp2_with fail
 refine(Br _ v4 _ _ _ 6 _ Wy (by omega) (by omega) (by omega)).mono ?_;rintro e w5 ⟨v5,rfl,GW,jG⟩;have s5:=jG.size;have WA:[]++be 4 r.seq++be 1 r.dU++be 1 r.kind++be 6 r.tick=sg r:=by unfold sg;rw[tF]
 rw[WA]at GW;obtain⟨g,c,rfl,hlen,GX⟩:=MJ GW (by omega);go_wp2_with fail
 refine(Wo _ c _ _ GX (by rw[MH];omega)).mono ?_;rintro e w6 ⟨rfl,rfl⟩;have HW:aa (wrap64 _=((vI (sg r):Nat):Int)):=GU _ (by have:=Wl (sg r);omega);have HM:aa ((enc r).map mC=(sg r++be 4 (vI (sg r))).map mC++[U .u8 165]):=by
  show _=_
  unfold enc jV;rw[pH];rfl
 go_wp2_with fail
 rw[HW.o]
 refine(Br _ _ _ _ _ 4 _ GW (by omega) (by omega) (by omega)).mono ?_;rintro e w7 ⟨v7,rfl,MM,zg⟩;have s7:=zg.size;go_wp2_with (at_builtin;refine fw _ rfl (.tmp 26) _ 182 rfl _ 5 i0 _ 1 1 underlying182 hi hz0 hz1 hz2 rfl (by decide) _ _ _ rfl (MM.alloc _) _ 1 1 _ rfl rfl (MG _ _ _) (by intro u hu;simp at hu;subst hu;rfl) (by unfold maxLen;omega) (by omega) (by simp;omega) ?_;intro v8 w8 dy bZ ld;rw[<- HM.o]at dy;have cv:=Wx dy (by omega))
 go_ret
 refine⟨rfl,?_⟩;have B5:=(((B1.trans (hb2.mono (by omega))).trans (hb3.mono (by omega))).trans (hb4.mono (by omega))).trans (jG.mono (by omega));have B7:=B5.trans (zg.mono (by omega));exact(B7.alloc (by omega) _).grown bZ (by simp;omega) (λk hk=>by have:=(MM.lt k hk).1;omega)
structure fS(w:ai)(b:Nat)(r:Rec):Prop where
 heap:w.heap[b]?=J (au #[U R (r.seq:Int),U R (r.dU:Int),U R (r.kind:Int),U R (r.tick:Int)] 119 (0,0))
theorem fS.at{w:ai}{b:Nat}{r:Rec}(h:fS w b r):nk w b r:=by
 refine⟨?_,?_,?_,?_⟩<;>simp[World.cell?,h.heap]
theorem fS.frozen{w:ai}{b:Nat}{r:Rec}(h:fS w b r)(i:Nat):w.frozen? ⟨b,i,.none⟩=false:=by simp[World.frozen?,h.heap]
theorem fS.below{w w':ai}{b B:Nat}{r:Rec}(h:fS w b r)(hb:Below B w w')(hlt:b<B):fS w' b r:=⟨(hb.block b hlt).trans h.heap⟩
theorem fS.lt{w:ai}{b:Nat}{r:Rec}(h:fS w b r):b<w.heap.size:=bJ h.heap
theorem sq{fn:Func}{p u:Tmp}(h:fn.results=#[.cell p 119,.tmp u])(tmps:Array ar)(w:ai)(b:Nat)(r:Rec)(hp:tmps.getD p undef=aj (J ⟨b,0,.none⟩))(hr:nk w b r):(results fn tmps).run prog w=.ok (bn #[r.val,tmps.getD u undef]) w:=by
 obtain⟨c0,c1,c2,c3⟩:=hr;rw[results_cell_tmp h,hp];go_simp
 rfl
theorem fS.nU{w:ai}{b:Nat}{r0:Rec}(h:fS w b r0)(r:Rec):fS ((((w.setCell ⟨b,0,.none⟩ (U R (r.seq:Int))).setCell ⟨b,1,.none⟩ (U R (r.dU:Int))).setCell ⟨b,2,.none⟩ (U R (r.kind:Int))).setCell ⟨b,3,.none⟩ (U R (r.tick:Int))) b r:=by
 refine⟨?_⟩;simp[World.setCell,dr,h.heap]
theorem qU(w:ai)(b:Nat)(v0 v1 v2 v3:ar):w.grownBy ((((w.setCell ⟨b,0,.none⟩ v0).setCell ⟨b,1,.none⟩ v1).setCell ⟨b,2,.none⟩ v2).setCell ⟨b,3,.none⟩ v3) (J b):=
 gS (gS (gS (gS (ky _ _) _ _) _ _) _ _) _ _
theorem fS.new(w:ai)(r:Rec):fS (w.alloc (au #[U R (r.seq:Int),U R (r.dU:Int),U R (r.kind:Int),U R (r.tick:Int)] 119)) w.heap.size r:=
 ⟨cR w _⟩
theorem WB{a b:ByteArray}(h:a.toList=b.toList):a=b:=by
 rw[fZ,fZ]at h;exact ByteArray.ext (Array.toList_inj.1 h)
theorem WC(w:ai)(a b:Obj):((w.alloc a).alloc b).drew.heap[w.heap.size+1]?=J b:=by
 have:=cR (w.alloc a) b;simp only[qT]at this;exact this
theorem WD(w:ai)(a b:Obj):((w.alloc a).alloc b).drew.heap[w.heap.size]?=J a:=
 (((aC (w.heap.size+1) (w.alloc a)).alloc (by simp) b).block w.heap.size (tV _)).trans (cR w a)
def nV(l:List UInt8):Rec:=⟨kA (l.take 4),kA ((l.drop 4).take 1),kA ((l.drop 5).take 1),kA ((l.drop 6).take 6)⟩
open Classical in
def dec(l:List UInt8):Option Rec:=if (nV l).seq<1\/enc (nV l)≠l then I else J (nV l)
def ik(l:List UInt8):Rec:=(dec l).getD .none
def oI(l:List UInt8):Bool:=(dec l).isSome
theorem WE(t:ByteArray)(p q:Nat)(w:ai)(h:p<=q/\q<=p+6/\q<=t.size):Calls prog 250 #[aq (t.extract p q)] w λe w'=>e=ax (U R (kA ((t.data.toList.drop p).take (q-p)):Nat))/\w'=w:=by
 have h:=Wv (t.extract p q) w (by simp;omega);rw[zb]at h;exact h
theorem WH(t:ByteArray)(w:ai)(ht:t.size=17):Calls prog 212 #[aq t] w λe w'=>e=ax (bn #[(ik t.data.toList).val,aI (oI t.data.toList)])/\Below w.heap.size w w':=by
 have D1:(t.size:Int)=17:=by omega
 go_enter func212,ntmps212
 go_upto_region 1 with fail
 go_cut [4] (λp wx=>p=aj (J ⟨w.heap.size+1,0,I⟩)/\wx.heap.size=w.heap.size+2/\fS wx (w.heap.size+1) (nV t.data.toList)/\fS wx w.heap.size .none/\Below w.heap.size w wx)
 case first=>
  go_region_held3 (λ_=>True) (exact trivial) (first|(go_at_call 250;refine(WE t _ _ _ ?_).mono ?_;omega;rintro e w' ⟨rfl,rfl⟩))
  all_goals
   go_wp2_with fail
   go_meet
   case rel=>
    refine⟨rfl,by simp,⟨?_⟩,⟨?_⟩,?_⟩
    ·exact WC w _ _
    ·exact WD w _ _
    exact(((aC _ _).alloc (aQ _) _).alloc (by simp) _).drew
 case rest=>
  obtain⟨rfl,hsz,hx,hz,hb⟩:=hcut;obtain⟨x0,x1,x2,x3⟩:=hx.at;obtain⟨z0,z1,z2,z3⟩:=hz.at;have f0:=hz.frozen 0;have f1:=hz.frozen 1;have f2:=hz.frozen 2;have f3:=hz.frozen 3
  by_cases h1:(nV t.data.toList).seq<1
  ·have WI:((nV t.data.toList).seq:Int)<1:=by omega
   have HR:aa (ik t.data.toList=.none/\oI t.data.toList=false):=by
    have:dec _=I:=aR (a_ h1);exact⟨by unfold ik;rw[this];rfl,by unfold oI;rw[this];rfl⟩
   clear hx;go_wp2_with fail
   refine er (sq rfl _ _ _ .none rfl (hz.nU .none).at) rfl ?_;rw[HR.o.1,HR.o.2];exact⟨rfl,r7 hb (qU _ _ _ _ _ _) (by omega) (aQ _)⟩
  have WI:¬((nV t.data.toList).seq:Int)<1:=by omega
  go_wp2_with fail
  refine(MK _ _).mono ?_;rintro e w3 ⟨rfl,hb3⟩;have hx3:=hx.below hb3 hx.lt;have hz3:=hz.below hb3 hz.lt;obtain⟨x0,x1,x2,x3⟩:=hx3.at;obtain⟨z0,z1,z2,z3⟩:=hz3.at;have f0:=hz3.frozen 0;have f1:=hz3.frozen 1;have f2:=hz3.frozen 2;have f3:=hz3.frozen 3;have B3:=hb.trans (hb3.mono (by omega));have s3:=hb3.size;have HE:aa (enc _=t.data.toList↔(⟨(enc (nV t.data.toList)).toArray⟩:ByteArray)=t):=
   ⟨λh=>by rw[h],λh=>by have:=mY (λz:ByteArray=>z.data.toList) h;simpa using this⟩
  generalize hG:(⟨(enc (nV t.data.toList)).toArray⟩:ByteArray)=E at HE
  by_cases he:E=t
  ·have HR:aa (ik t.data.toList=nV t.data.toList/\oI t.data.toList=true):=by
    have:dec _=J (nV t.data.toList):=aK (λh=>by
     rcases h with h|h
     ·exact h1 h
     exact h (HE.o.2 he))
    exact⟨by unfold ik;rw[this];rfl,by unfold oI;rw[this];rfl⟩
   clear HE hG;subst he;go_wp2_with fail
   refine er (sq rfl _ _ _ _ rfl (hz3.nU _).at) rfl ?_;rw[HR.o.1,HR.o.2];exact⟨rfl,r7 B3 (qU _ _ _ _ _ _) (by omega) (aQ _)⟩
  have HR:aa (ik t.data.toList=.none/\oI t.data.toList=false):=by
   have:dec _=I:=aR (aP λh=>he (HE.o.1 h));exact⟨by unfold ik;rw[this];rfl,by unfold oI;rw[this];rfl⟩
  have hne:(E.toList==t.toList)=false:=by
   rw[iZ];exact λh=>he (WB h)
  clear HE hG;go_wp2_with fail
  refine er (sq rfl _ _ _ .none rfl (hz3.nU .none).at) rfl ?_;rw[HR.o.1,HR.o.2];exact⟨rfl,r7 B3 (qU _ _ _ _ _ _) (by omega) (aQ _)⟩
theorem D6(n:Nat)(w:ai)(h:1<=n)(h2:n<9223372036854775808):Calls prog 213 #[U R (n:Int)] w λe w'=>e=ax (U R (((n-1)%9:Nat):Int))/\w'=w:=by
 obtain⟨m,rfl⟩:∃m,n=m+1:=⟨n-1,by omega⟩;have e:((m+1:Nat):Int)-1=(m:Int):=by omega
 go_enter func213,ntmps213
 go_wp2;go_ret
 refine⟨?_,rfl⟩;show Ending.returned (U R _)=_
 rw[show ((m:Int)%9)=(((m+1-1)%9:Nat):Int) by omega]
def dJ(L:List Rec):List ar:=L.flatMap Rec.list
theorem su(L:List Rec):(dJ L).length=4*L.length:=by
 induction L with
 |nil=>rfl
 |cons x r ih=>simp only[dJ,lV,dm]at ih⊢;rw[ih];simp[Rec.list];omega
theorem zh(x:Rec)(L:List Rec):dJ (x::L)=x.list++dJ L:=rfl
theorem MN(K L:List Rec):dJ (K++L)=dJ K++dJ L:=by simp[dJ]
theorem MO(L:List Rec):∀(k j:Nat) (hk:k<L.length),j<4->(dJ L)[k*4+j]?=(L[k].list)[j]?:=by
 induction L with
 |nil=>intro k j hk;simp at hk
 |cons x r ih=>
  intro k j hk hj;rw[zh]
  cases k with
  |zero=>rw[mX (by simp[Rec.list];omega)];simp
  |succ k=>
   rw[ko (by simp[Rec.list];omega),show (k+1)*4+j-x.list.length=k*4+j by simp[Rec.list];omega];exact ih k j (by simpa using hk) hj
theorem MP(L:List Rec):∀(k:Nat) (r:Rec),k<L.length ->
  ((((dJ L).set (k*4) (U R (r.seq:Int))).set (k*4+1) (U R (r.dU:Int))).set (k*4+2) (U R (r.kind:Int))).set (k*4+3) (U R (r.tick:Int))=dJ (L.set k r):=by
 induction L with
 |nil=>intro k r hk;simp at hk
 |cons x t ih=>
  intro k r hk
  cases k with
  |zero=>simp[zh,Rec.list]
  |succ k=>
   have:=ih k r (by simpa using hk);rw[List.set_cons_succ,zh,zh,<- this];have e:∀j,(k+1)*4+j=(k*4+j)+4:=λj=>by omega
   rw[show (k+1)*4=(k*4+0)+4 by omega];simp[Rec.list]
structure gH(w:ai)(b:Nat)(L:List Rec):Prop where
 heap:w.heap[b]?=J (au (dJ L).toArray 236 (0,0))
theorem gH.cell{w:ai}{b:Nat}{L:List Rec}(h:gH w b L)(k j:Nat)(hk:k<L.length)(hj:j<4):w.cell? ⟨b,k*4+j,.none⟩=(L[k].list)[j]?:=by
 rw[<- MO L k j hk hj];simp[World.cell?,h.heap]
theorem gH.frozen{w:ai}{b:Nat}{L:List Rec}(h:gH w b L)(i:Nat):w.frozen? ⟨b,i,.none⟩=false:=by simp[World.frozen?,h.heap]
theorem gH.below{w w':ai}{b B:Nat}{L:List Rec}(h:gH w b L)(hb:Below B w w')(hlt:b<B):gH w' b L:=⟨(hb.block b hlt).trans h.heap⟩
theorem gH.lt{w:ai}{b:Nat}{L:List Rec}(h:gH w b L):b<w.heap.size:=bJ h.heap
theorem gH.set{w:ai}{b:Nat}{L:List Rec}(h:gH w b L)(k:Nat)(r:Rec)(hk:k<L.length):gH ((((w.setCell ⟨b,k*4,.none⟩ (U R (r.seq:Int))).setCell ⟨b,k*4+1,.none⟩ (U R (r.dU:Int))).setCell ⟨b,k*4+2,.none⟩ (U R (r.kind:Int))).setCell ⟨b,k*4+3,.none⟩ (U R (r.tick:Int))) b (L.set k r):=by
 refine⟨?_⟩;rw[<- MP L k r hk];simp[World.setCell,dr,h.heap]
theorem D7(w:ai)(b o:Nat)(v0 v1 v2 v3:ar):w.grownBy ((((w.setCell ⟨b,o,.none⟩ v0).setCell ⟨b,o+1,.none⟩ v1).setCell ⟨b,o+2,.none⟩ v2).setCell ⟨b,o+3,.none⟩ v3) (J b):=
 gS (gS (gS (gS (ky _ _) _ _) _ _) _ _) _ _
def lg(l:List UInt8)(i:Nat):List UInt8:=(l.drop (i*17)).take 17
def tY(l:List UInt8)(i:Nat):Rec:=if oI (lg l i)=true/\((ik (lg l i)).seq-1)%9=i then ik (lg l i)else .none
def gh(l:List UInt8)(k:Nat):List Rec:=(List.range 9).map λi=>if i<k then tY l i else .none
theorem xu(l:List UInt8)(k:Nat):(gh l k).length=9:=by simp[gh]
theorem WJ(l:List UInt8)(k:Nat)(MQ:k<9):gh l (k+1)=(gh l k).set k (tY l k):=by
 apply List.ext_getElem (by simp[gh])
 intro i h1 h2;rw[List.getElem_set];simp only[gh,List.getElem_map,List.getElem_range]
 by_cases e:k=i
 ·subst e;simp
 simp only[aK e]
 by_cases h:i<k
 ·rw[aR h,aR (by omega)]
 rw[aK h,aK (by omega)]
theorem WK(l:List UInt8):gh l 0=List.replicate 9 .none:=by simp[gh,List.map_const']
theorem GY{l:List UInt8}(h:oI l=true):1<=(ik l).seq/\(ik l).seq<4294967296/\ik l=nV l/\enc (nV l)=l:=by
 unfold oI at h;unfold ik;unfold dec at h⊢
 split
 ·rename_i hc;rw[aR hc]at h;simp at h
 rename_i hc;simp only[not_or,Decidable.not_not]at hc
 refine⟨by simp;omega,?_,rfl,hc.2⟩;have:=GR (l.take 4);have h4:(l.take 4).length<=4:=by rw[gy];omega
 have:256^(l.take 4).length<=256^4:=Bo (by decide) h4;simp[nV]
 omega
def ql:Array ar:=(dJ (List.replicate 9 .none)).toArray
theorem MR(w:ai)(o:Obj):gH (((w.alloc o).alloc (au ql 236)).alloc (au ql 236)) (w.heap.size+1+1) (List.replicate 9 .none)/\gH (((w.alloc o).alloc (au ql 236)).alloc (au ql 236)) (w.heap.size+1) (List.replicate 9 .none)/\Below w.heap.size w (((w.alloc o).alloc (au ql 236)).alloc (au ql 236))/\(((w.alloc o).alloc (au ql 236)).alloc (au ql 236)).heap.size=w.heap.size+3:=by
 have h1:=cR ((w.alloc o).alloc (au ql 236)) (au ql 236);have h2:=cR (w.alloc o) (au ql 236);simp only[qT]at h1 h2
 refine⟨⟨h1⟩,⟨?_⟩,(((aC _ _).alloc (aQ _) _).alloc (by simp) _).alloc (by simp;omega) _,by simp⟩;exact(((aC _ _).alloc (by simp) _).block _ (tV _)).trans h2
theorem WL(l:List UInt8)(k:Nat)(hl:l.length=153)(hk:k<9):(lg l k).length=17:=by
 unfold lg;rw[gy,List.length_drop];omega
theorem MS{fn:Func}{p u:Tmp}(h:fn.results=#[.cell p 236,.tmp u])(tmps:Array ar)(w:ai)(b:Nat)(L:List Rec)(hL:L.length=9)(hp:tmps.getD p undef=aj (J ⟨b,0,.none⟩))(hr:gH w b L):(results fn tmps).run prog w=.ok (bn #[.agg (dJ L).toArray,tmps.getD u undef]) w:=by
 have hi:(prog.info? 236).map (·.size)=J (dJ L).toArray.size:=by
  rw[List.size_toArray,su,hL];kernel_rfl
 rw[results_cell_tmp h,hp];simp only[asAddr,Sem.run_pure,vH,run_loadVar_row w b _ _ _ _ _ hr.heap underlying236 rfl hi]
theorem xw(L:List Rec):(dJ L).toArray.all (·.oneCell')=true:=by
 apply D3.2
 intro v hv;simp only[List.mem_toArray,dJ,rT,Rec.list,fg,jB,jU]at hv;obtain⟨r,-,rfl|rfl|rfl|rfl⟩:=hv<;>rfl
theorem xx(L:List Rec)(hL:L.length=9):(prog.info? 236).map (·.size)=J (dJ L).toArray.size:=by
 rw[List.size_toArray,su,hL];kernel_rfl
theorem MT(l:List UInt8)(k:Nat)(MQ:k<9):(gh l k).set k .none=gh l k:=by
 apply List.ext_getElem (by simp[gh])
 intro i h1 h2;rw[List.getElem_set]
 by_cases e:k=i
 ·subst e;simp[gh]
 rw[aK e]
theorem gH.cells{w:ai}{b:Nat}{L:List Rec}(h:gH w b L)(k:Nat)(hk:k<L.length):w.cell? ⟨b,k*4,.none⟩=J (U R (L[k].seq:Int))/\w.cell? ⟨b,k*4+1,.none⟩=J (U R (L[k].dU:Int))/\w.cell? ⟨b,k*4+2,.none⟩=J (U R (L[k].kind:Int))/\w.cell? ⟨b,k*4+3,.none⟩=J (U R (L[k].tick:Int)):=
 ⟨(h.cell k 0 hk (by decide)).trans rfl,(h.cell k 1 hk (by decide)).trans rfl,(h.cell k 2 hk (by decide)).trans rfl,(h.cell k 3 hk (by decide)).trans rfl⟩
theorem gH.WM{w:ai}{b c:Nat}{L:List Rec}(h:gH w b L)(hne:b≠c)(o:Nat)(v0 v1 v2 v3:ar):gH ((((w.setCell ⟨c,o,.none⟩ v0).setCell ⟨c,o+1,.none⟩ v1).setCell ⟨c,o+2,.none⟩ v2).setCell ⟨c,o+3,.none⟩ v3) b L:=
 ⟨((D7 w c o v0 v1 v2 v3).block b h.lt (by simpa using hne)).trans h.heap⟩
theorem WN(T:ByteArray)(l:List UInt8)(k:Nat)(hT:T.data.toList=l)(hs:(T.size:Int)=153)(hk:k<9):∃P:ByteArray,P.data.toList=lg l k/\P.size=17/\∀W,(Instr.slice 9 (aq T) (J (U R ((k:Int)*17))) (J (U R (((k:Int)+1)*17))) Option.none).run prog W=.ok (aq P) W:=by
 refine⟨T.extract (k*17) (k*17+17),?_,by simp;omega,λW=>?_⟩
 ·rw[zb,hT,vG];rfl
 rw[run_slice_string _ _ T _ _ _ _ underlying9 (by omega) (by omega) (by omega)];congr 3<;>omega
theorem WO(A:Nat->az)(b:Nat)(s:aM)(w:ai)(h:bY w b s)(hs:gT A w)(he:s.err 0 153=0):Calls prog 151 #[aU #[aj (J ⟨b,0,.none⟩)]] w λe w'=>e=ax (bn #[.agg (dJ (gh (s.bytes.take 153) 9)).toArray,.nilIface])/\Below w.heap.size w w':=by
 have HE:aa (s.err ((0:Nat):Int) ((153:Nat):Int)=0):=he;obtain⟨Bt,zi,tZ,GZ⟩:=MR w (au #[aj (J ⟨b,0,.none⟩)] 235);have hl:(s.bytes.take 153).length=153:=by rw[gy,h.len];omega
 have h':=h.below tZ;have hs':=hs.below tZ;have RD:=MB A b s 0 153 _ h' hs' HE.o;rw[List.drop_zero]at RD;generalize s.bytes.take 153=l at *;obtain⟨T,hT⟩:∃T:ByteArray,T=⟨l.toArray⟩:=⟨_,rfl⟩;have WQ:T.data.toList=l:=by rw[hT]
 have WR:(T.size:Int)=153:=by rw[hT];show (l.toArray.size:Int)=153;simp[hl]
 rw[<- hT]at RD;clear hT;have qm:aa _:=RD;clear RD;go_enter func151,ntmps151
 go_wp2_with fail
 refine aL qm.o ?_;rintro e w1 ⟨rfl,js⟩;rw[<- js]at Bt zi tZ GZ;clear js qm h' hs';go_wp2_with fail
 go_loopw [20] (λi wr=>∃k:Nat,k<=9/\i=U R k/\gH wr (w.heap.size+1+1) (gh l k)/\gH wr (w.heap.size+1) (List.replicate 9 .none)/\Below w.heap.size w wr/\w.heap.size+3<=wr.heap.size) (λi _=>9-(intOf i).toNat)
 case atStart=>exact⟨0,bI _,rfl,by rw[WK];exact Bt,zi,tZ,by omega⟩
 case round=>
  obtain⟨k,hk,rfl,hrow,hz,hb,hsz⟩:=hrel
  by_cases hlt:k<9
  ·have G0:=WJ l k hlt;have ck:=WL l k hl hlt;obtain⟨P,WS,WT,sl⟩:=WN T l k WQ WR hlt;go_wp2_with fail
   refine(WH P _ WT).mono ?_;rintro e w2 ⟨rfl,hb2⟩;rw[WS];unfold Rec.val;have hrow2:=hrow.below hb2 hrow.lt;have hz2:=hz.below hb2 hz.lt;have s2:=hb2.size;have hq:=xu l k
   cases hd:oI (lg l k)
   ·have HN:aa (tY l k=.none):=aK (by rw[hd];simp);go_wp2_with fail
    go_roundw
    case rel=>exact⟨k+1,by omega,by go_num,by rw[G0,HN.o,MT l k hlt];exact hrow2.below ((aC _ w2).alloc (aQ _) _) hrow2.lt,hz2.below ((aC _ w2).alloc (aQ _) _) hz2.lt,(hb.trans (hb2.mono (by omega))).alloc (by omega) _,by simp;omega⟩
    case measure=>simp[intOf];omega
   obtain⟨d1,d2,-,-⟩:=GY hd;have B3:=(aC _ w2).alloc (aQ _) (au #[U R ((ik (lg l k)).seq:Int),U R ((ik (lg l k)).dU:Int),U R ((ik (lg l k)).kind:Int),U R ((ik (lg l k)).tick:Int)] 119);have hrow3:=hrow2.below B3 hrow2.lt;have hz3:=hz2.below B3 hz2.lt;obtain⟨x0,x1,x2,x3⟩:=nk.new w2 (ik (lg l k)) 119;obtain⟨c0,c1,c2,c3⟩:=hrow3.cells k (by omega);have f0:=hrow3.frozen (k*4);have f1:=hrow3.frozen (k*4+1);have f2:=hrow3.frozen (k*4+2);have f3:=hrow3.frozen (k*4+3);have hB:=(hb.trans (hb2.mono (by omega))).trans (B3.mono (by omega));have s3:=B3.size;generalize hw3:w2.alloc (au #[U R ((ik (lg l k)).seq:Int),U R ((ik (lg l k)).dU:Int),U R ((ik (lg l k)).kind:Int),U R ((ik (lg l k)).tick:Int)] 119)=w3 at *;have HW:aa _:=hw3;clear hw3 B3 hrow2 hz2 hrow hz hb hb2
   by_cases Bu:((ik (lg l k)).seq-1)%9=k
   ·have HN:aa (tY l k=ik _):=aR ⟨hd,Bu⟩;go_wp2_with fail
    rw[HW.o]
    refine(D6 _ _ d1 (by omega)).mono ?_;rintro e w4 ⟨rfl,rfl⟩;rw[Bu];go_wp2_with fail
    go_roundw
    case rel=>exact⟨k+1,by omega,by go_num,by rw[G0,HN.o];exact hrow3.set k _ (by omega),hz3.WM (by omega) _ _ _ _ _,r7 hB (D7 _ _ _ _ _ _ _) (by omega) (by omega),by simp;omega⟩
    case measure=>simp[intOf];omega
   have HN:aa (tY l k=.none):=aK (λh=>Bu h.2);go_wp2_with fail
   rw[HW.o]
   refine(D6 _ _ d1 (by omega)).mono ?_;rintro e w4 ⟨rfl,rfl⟩;have aiD:¬((((ik (lg l k)).seq-1)%9:Nat):Int)=(k:Int):=by omega
   go_wp2_with fail
   go_roundw
   case rel=>exact⟨k+1,by omega,by go_num,by rw[G0,HN.o,MT l k hlt];exact hrow3,hz3,hB,by omega⟩
   case measure=>simp[intOf];omega
  have ek:k=9:=by omega
  subst ek;go_wp2_with (first|refine sf rfl 236 _ rfl _ rfl _ _ _ _ hrow.heap underlying236 rfl (xx _ (xu _ _)) ?_|refine f_ rfl 236 _ _ rfl _ _ rfl rfl 236 _ hz.heap (xx _ (xu l 9)) (by simp[su,xu]) (xw _) ?_)
  refine er (MS rfl _ _ _ _ (xu _ _) rfl ⟨setRow_heap _ _ _ _ _ _ hz.heap⟩) rfl ?_;exact⟨rfl,below_setRow hb (by omega) _⟩
def fD(w:ai)(base:Nat)(v:ar)(L:List Rec):Prop:=w.ownsRow base 119 4 v L.length (dJ L)
theorem fD.form{w:ai}{base:Nat}{v:ar}{L:List Rec}(h:fD w base v L):(v=af .none 0 0/\L=[])\/∃g cap cur,v=af (J ⟨g,0,.none⟩) L.length cap/\base<=g/\w.heap[g]?=J (au cur 119 (0,0))/\L.length<=cap/\cap<=maxLen/\cur.size=cap*4/\cur.toList.take (L.length*4)=dJ L:=by
 obtain⟨-,⟨h1,h2⟩|h⟩:=h
 ·exact a_ ⟨h1,List.length_eq_zero_iff.1 h2⟩
 exact aP h
theorem D8{w:ai}{g cap:Nat}{cur:Array ar}{L:List Rec}(hg:w.heap[g]?=J (au cur 119 (0,0)))(hx:cur.toList.take (L.length*4)=dJ L)(aiE:cur.size=cap*4)(k j:Nat)(hk:k<L.length)(hj:j<4):w.cell? ⟨g,k*4+j,.none⟩=(L[k].list)[j]?:=by
 rw[<- MO L k j hk hj,<- hx,oG,aR (by omega)];simp[World.cell?,hg]
theorem WU{w:ai}{g cap:Nat}{cur:Array ar}{L:List Rec}(hg:w.heap[g]?=J (au cur 119 (0,0)))(hx:cur.toList.take (L.length*4)=dJ L)(hc:cur.size=cap*4)(k:Nat)(hk:k<L.length):(w.cell? ⟨g,k*4,.none⟩=J (U R (L[k].seq:Int))/\w.cell? ⟨g,k*4+1,.none⟩=J (U R (L[k].dU:Int))/\w.cell? ⟨g,k*4+2,.none⟩=J (U R (L[k].kind:Int))/\w.cell? ⟨g,k*4+3,.none⟩=J (U R (L[k].tick:Int))) /\
  w.frozen? ⟨g,k*4,.none⟩=false/\w.frozen? ⟨g,k*4+1,.none⟩=false/\w.frozen? ⟨g,k*4+2,.none⟩=false/\w.frozen? ⟨g,k*4+3,.none⟩=false:=by
 refine⟨⟨(D8 hg hx hc k 0 hk (by decide)).trans rfl,(D8 hg hx hc k 1 hk (by decide)).trans rfl,(D8 hg hx hc k 2 hk (by decide)).trans rfl,(D8 hg hx hc k 3 hk (by decide)).trans rfl⟩,?_,?_,?_,?_⟩<;>simp[World.frozen?,hg]
structure iM(w:ai)(g cap:Nat)(L:List Rec):Prop where
 row:∃cur,w.heap[g]?=J (au cur 119 (0,0))/\cur.size=cap*4/\cur.toList.take (L.length*4)=dJ L
theorem iM.lt{w:ai}{g cap:Nat}{L:List Rec}(h:iM w g cap L):g<w.heap.size:=by obtain⟨cur,hg,-,-⟩:=h.row;exact bJ hg
theorem iM.cells{w:ai}{g cap:Nat}{L:List Rec}(h:iM w g cap L)(k:Nat)(hk:k<L.length):(w.cell? ⟨g,k*4,.none⟩=J (U R (L[k].seq:Int))/\w.cell? ⟨g,k*4+1,.none⟩=J (U R (L[k].dU:Int))/\w.cell? ⟨g,k*4+2,.none⟩=J (U R (L[k].kind:Int))/\w.cell? ⟨g,k*4+3,.none⟩=J (U R (L[k].tick:Int))) /\
  w.frozen? ⟨g,k*4,.none⟩=false/\w.frozen? ⟨g,k*4+1,.none⟩=false/\w.frozen? ⟨g,k*4+2,.none⟩=false/\w.frozen? ⟨g,k*4+3,.none⟩=false:=by
 obtain⟨cur,hg,hc,hx⟩:=h.row;exact WU hg hx hc k hk
theorem iM.set{w:ai}{g cap:Nat}{L:List Rec}(h:iM w g cap L)(k:Nat)(r:Rec)(hk:k<L.length):iM ((((w.setCell ⟨g,k*4,.none⟩ (U R (r.seq:Int))).setCell ⟨g,k*4+1,.none⟩ (U R (r.dU:Int))).setCell ⟨g,k*4+2,.none⟩ (U R (r.kind:Int))).setCell ⟨g,k*4+3,.none⟩ (U R (r.tick:Int))) g cap (L.set k r):=by
 obtain⟨cur,hg,hc,hx⟩:=h.row
 refine⟨⟨(((cur.setIfInBounds (k*4) (U R (r.seq:Int))).setIfInBounds (k*4+1) (U R (r.dU:Int))).setIfInBounds (k*4+2) (U R (r.kind:Int))).setIfInBounds (k*4+3) (U R (r.tick:Int)),?_,by simp[hc],?_⟩⟩
 ·simp[World.setCell,dr,hg]
 rw[ze,<- MP L k r hk,<- hx];simp only[Array.toList_setIfInBounds,List.take_set]
theorem fD.xy{w:ai}{base g cap:Nat}{L:List Rec}(h:iM w g cap L)(hb:base<=g)(hl:L.length<=cap)(hm:cap<=maxLen):fD w base (af (J ⟨g,0,.none⟩) L.length cap) L:=by
 obtain⟨cur,hg,hc,hx⟩:=h.row;exact⟨by rw[su];omega,aP ⟨g,cap,cur,rfl,hb,hg,hl,hm,hc,hx⟩⟩
theorem fD.qV{w:ai}{base:Nat}{v:ar}{L:List Rec}(h:fD w base v L):(v=af .none 0 0/\L=[])\/∃g cap,v=af (J ⟨g,0,.none⟩) L.length cap/\base<=g/\iM w g cap L/\L.length<=cap/\cap<=maxLen:=by
 rcases h.form with h|⟨g,cap,cur,h1,h2,h3,h4,h5,h6,h7⟩
 ·exact a_ h
 exact aP ⟨g,cap,h1,h2,⟨cur,h3,h6,h7⟩,h4,h5⟩
def turned(L:List Rec)(i:Nat):List Rec:=(List.range L.length).map λk=>if k<i\/L.length-1-i<k then L.getD (L.length-1-k) .none else L.getD k .none
theorem Bv(L:List Rec)(i:Nat):(turned L i).length=L.length:=by simp[turned]
theorem Bw(L:List Rec)(i k:Nat)(hk:k<(turned L i).length):(turned L i)[k]=if k<i\/L.length-1-i<k then L.getD (L.length-1-k) .none else L.getD k .none:=by simp[turned]
theorem WV(L:List Rec):turned L 0=L:=by
 apply List.ext_getElem (Bv L 0)
 intro k h1 h2;rw[Bw,aK (by omega),fQ,bH h2];rfl
theorem WW(L:List Rec)(i:Nat)(h:¬((i:Int)<(L.length:Int)-1-i)):turned L i=L.reverse:=by
 apply List.ext_getElem (by rw[Bv,List.length_reverse])
 intro k h1 h2;rw[Bv]at h1;rw[Bw,List.getElem_reverse,fQ,fQ]
 by_cases hc:k<i\/L.length-1-i<k
 ·rw[aR hc,bH (by omega)];rfl
 rw[aK hc,bH h1];have e:L.length-1-k=k:=by omega
 simp only[e];rfl
theorem WX(L:List Rec)(i j:Nat)(hj:i+j=L.length-1)(G5:i<j)(zj:j<L.length):((turned L i).set i (L.getD j .none)).set j (L.getD i .none)=turned L (i+1):=by
 apply List.ext_getElem (by simp[turned])
 intro k h1 h2;rw[Bv]at h2;rw[List.getElem_set,Bw]
 by_cases e1:j=k
 ·subst e1;rw[aR rfl,aR (by omega),show L.length-1-j=i by omega]
 rw[aK e1,List.getElem_set]
 by_cases e2:i=k
 ·subst e2;rw[aR rfl,aR (by omega),show L.length-1-i=j by omega]
 rw[aK e2,Bw]
 by_cases hc:k<i\/L.length-1-i<k
 ·rw[aR hc,aR (by omega)]
 rw[aK hc,aK (by omega)]
theorem MU(L:List Rec)(i k:Nat)(hk:k<(turned L i).length)(h:¬(k<i\/L.length-1-i<k)):(turned L i)[k]=L.getD k .none:=by rw[Bw,aK h]
theorem iM.drew{w:ai}{g cap:Nat}{L:List Rec}(h:iM w g cap L):iM w.drew g cap L:=⟨h.row⟩
theorem iM.below{w w':ai}{g cap B:Nat}{L:List Rec}(h:iM w g cap L)(hb:Below B w w')(hlt:g<B):iM w' g cap L:=by
 obtain⟨cur,hg,h2,h3⟩:=h.row;exact⟨⟨cur,(hb.block g hlt).trans hg,h2,h3⟩⟩
theorem iM.raw{w:ai}{g cap:Nat}{L:List Rec}(h:iM w g cap L)(j:Nat)(u:ar)(hu:(dJ L)[j]?=J u):w.cell? ((⟨g,0,.none⟩:az).add j)=J u:=by
 obtain⟨cur,hg,h2,h3⟩:=h.row;have hj:=(dT.1 hu).1;rw[su]at hj;rw[<- h3,oG,aR (by omega)]at hu;have ea:(⟨g,0,.none⟩:az).add j=⟨g,j,.none⟩:=by unfold Addr.add;split<;>simp_all
 rw[ea];simp only[World.cell?,hg];simpa using hu
theorem WY{w wr:ai}{g:Nat}(hg:w.grownBy wr (J g))(o p:Nat)(v0 v1 v2 v3 v4 v5 v6 v7:ar):w.grownBy ((((((((wr.setCell ⟨g,o,.none⟩ v0).setCell ⟨g,o+1,.none⟩ v1).setCell ⟨g,o+2,.none⟩ v2).setCell ⟨g,o+3,.none⟩ v3).setCell ⟨g,p,.none⟩ v4).setCell ⟨g,p+1,.none⟩ v5).setCell ⟨g,p+2,.none⟩ v6).setCell ⟨g,p+3,.none⟩ v7).drew (J g):=
 xr (pG hg (pG (D7 _ _ _ _ _ _ _) (D7 _ _ _ _ _ _ _))) ((aC _ _).drew)
theorem WZ(g cap:Nat)(L:List Rec)(w:ai)(h:iM w g cap L)(hl:L.length<=100):Calls prog 214 #[af (J ⟨g,0,.none⟩) L.length cap] w λe w'=>e=ax (bn #[])/\iM w' g cap L.reverse/\w.grownBy w' (J g)/\w'.heap.size=w.heap.size:=by
 go_enter func214,ntmps214
 go_wp2_with fail
 go_loopw [2,3] (λa b wr=>∃i:Nat,i<=L.length/\a=U R i/\b=U R ((L.length:Int)-1-i)/\iM wr g cap (turned L i)/\w.grownBy wr (J g)/\wr.heap.size=w.heap.size) (λa _ _=>L.length+1-(intOf a).toNat)
 case atStart=>exact⟨0,bI _,rfl,by simp,by rw[WV];exact h,ky _ _,rfl⟩
 case round=>
  obtain⟨i,hi,rfl,rfl,hrow,hg,hsz⟩:=hrel
  by_cases G5:(i:Int)<(L.length:Int)-1-i
  ·obtain⟨j,hj⟩:∃j:Nat,(L.length:Int)-1-i=j:=⟨L.length-1-i,by omega⟩;rw[hj]at G5⊢;have hlen:=Bv L i;have mi:=MU L i i (by omega) (by omega);have mj:=MU L i j (by omega) (by omega);obtain⟨⟨a0,a1,a2,a3⟩,p0,p1,p2,p3⟩:=hrow.cells i (by omega);obtain⟨⟨b0,b1,b2,b3⟩,q0,q1,q2,q3⟩:=hrow.cells j (by omega);have jA:=(hrow.set i (L.getD j .none) (by omega)).set j (L.getD i .none) (by simp;omega);rw[WX L i j (by omega) (by omega) (by omega)]at jA;have HR:aa _:=jA;rw[mi]at a0 a1 a2 a3;rw[mj]at b0 b1 b2 b3;have i0:(0:Int)<=(i:Int):=by omega
   have i1:(i:Int)<(L.length:Int):=by omega
   have j0:(0:Int)<=(j:Int):=by omega
   have j1:(j:Int)<(L.length:Int):=by omega
   have hne:¬i=j:=by omega
   clear jA mi mj hrow;generalize L.getD i .none=x at *;generalize L.getD j .none=y at *;go_wp2_with fail
   go_region
   go_wp2_with fail
   exact⟨⟨_,by omega,by go_num,by rw[show (j:Int)-1=(L.length:Int)-1-((i+1:Nat):Int) by omega],HR.o.drew,WY hg _ _ _ _ _ _ _ _ _ _,by simp;exact hsz⟩,by simp[intOf];omega⟩
  have e:=WW L i G5;rw[e]at hrow;clear e;go_wp2;go_end0
  exact⟨rfl,hrow,hg,hsz⟩
theorem G6(base:Nat)(v:ar)(L:List Rec)(w:ai)(h:fD w base v L)(hl:L.length<=100)(hb:base<=w.heap.size):Calls prog 214 #[v] w λe w'=>e=ax (bn #[])/\fD w' base v L.reverse/\Below base w w':=by
 rcases h.qV with⟨rfl,rfl⟩|⟨g,cap,rfl,hbg,hrow,hlc,hm⟩
 ·go_enter func214,ntmps214
  go_wp2_with fail
  go_loopw [2,3] (λa b wr=>a=U R 0/\b=U R (-1)/\wr=w) (λ_ _ _=>0)
  case atStart=>exact⟨rfl,rfl,rfl⟩
  case round=>
   obtain⟨rfl,rfl,rfl⟩:=hrel;go_wp2;go_end0
   exact⟨rfl,h,aC _ _⟩
 refine(WZ g cap L w hrow hl).mono ?_;rintro e w' ⟨rfl,hr,hg,-⟩;have:=fD.xy hr hbg (by simpa using hlc) hm;rw[List.length_reverse]at this;exact⟨rfl,this,r7 (aC _ _) hg hb hbg⟩
theorem Bx:∃i:TypeInfo,prog.info? 119=J i/\i.zero=J (aU #[U R 0,U R 0,U R 0,U R 0])/\i.size=4/\i.bytes=32:=by
 have h:(prog.info? 119).map (λi=>(i.zero,i.size,i.bytes))=J (J (aU #[U R 0,U R 0,U R 0,U R 0]),4,32):=by kernel_rfl
 obtain⟨i,hi,he⟩:=m_.1 h;simp only[Prod.mk.injEq]at he;exact⟨i,hi,he.1,he.2.1,he.2.2⟩
theorem W7(base:Nat)(v:ar)(L:List Rec)(w:ai)(h:fD w base v L)(hl:L.length<=100):Calls prog 168 #[v] w λe w'=>∃v',e=ax v'/\fD w' w.heap.size v' L/\Below w.heap.size w w':=by
 rcases h.qV with⟨rfl,rfl⟩|⟨g,cap,rfl,hbg,hrow,hlc,hm⟩
 ·go_enter func168,ntmps168
  have hq:=Lib.run_eql_slice_nil (P:=prog) w 123 119 .none 0 0 0 0 underlying123;go_wp2;go_ret;exact⟨_,rfl,fC _ _ _ _,aC _ _⟩
 go_enter func168,ntmps168
 have hq:=Lib.run_eql_slice_nil (P:=prog) w 123 119 (J ⟨g,0,.none⟩) L.length cap 0 0 underlying123;obtain⟨i0,hi,hz0,hz1,hz2⟩:=Bx;have hown:=za (base:=w.heap.size) (e:=119) (size:=4) w #[] 0 (aQ _) (by decide) rfl;have hcs:aa (∀j u,(dJ L)[j]?=J u->(w.alloc (au #[] 119)).cell? _=J u):=λj u hu=>
  (hrow.below ((aC _ w).alloc (aQ _) _) hrow.lt).raw j u hu
 have W_:aa _:=λu hu=>D3.1 (xw L) u (by simpa using hu)
 have Bz:aa ((dJ L).length=L.length*4):=by show _=_;rw[su];omega
 clear h hrow;go_wp2_with (at_builtin;refine fw _ rfl (.tmp 5) _ 123 rfl _ 119 i0 _ 4 32 underlying123 hi hz0 hz1 hz2 rfl (by decide) _ _ _ rfl hown _ _ cap _ rfl Bz.o hcs.o W_.o (by unfold maxLen;omega) (by omega) (by simp) ?_;intro v8 w8 dy bZ ld)
 go_ret;rw[tF,nj]at dy;exact⟨_,rfl,dy,((aC _ _).alloc (aQ _) _).grown bZ (by simp) (λk hk=>by cases hk;exact aQ _)⟩
theorem Xa(A:Nat->az)(b:Nat)(s:aM)(j:Nat)(w:ai)(h:bY w b s)(hs:gT A w)(he:s.err 0 153=j+1):Calls prog 151 #[aU #[aj (J ⟨b,0,.none⟩)]] w λe w'=>e=ax (bn #[.agg ql,errVal A (j+1)])/\Below w.heap.size w w':=by
 obtain⟨Bt,zi,tZ,GZ⟩:=MR w (au #[aj (J ⟨b,0,.none⟩)] 235);have qm:aa _:=MC A b s 0 153 j _ (h.below tZ) (hs.below tZ) (by decide) he;go_enter func151,ntmps151
 go_wp2_with fail
 refine aL qm.o ?_;rintro e w1 ⟨rfl,js⟩;rw[<- js]at Bt zi tZ GZ;clear js qm;unfold errVal;go_wp2_with (first|refine sf rfl 236 _ rfl _ rfl _ _ _ _ Bt.heap underlying236 rfl (xx _ (by simp)) ?_|refine f_ rfl 236 _ _ rfl _ _ rfl rfl 236 _ zi.heap (xx _ (by simp)) rfl (xw _) ?_)
 refine er (MS rfl _ _ _ (List.replicate 9 .none) (by simp) rfl ⟨setRow_heap _ _ _ _ _ _ zi.heap⟩) rfl ?_;exact⟨rfl,below_setRow tZ (by omega) _⟩
theorem Xb(w:ai)(L:List Rec):gH (w.alloc (au (dJ L).toArray 236)) w.heap.size L:=⟨cR _ _⟩
theorem Xc(L:List Rec):∀(k:Nat) (hk:k<L.length),((dJ L).drop (k*4)).take 4=L[k].list:=by
 induction L with
 |nil=>intro k hk;simp at hk
 |cons x r ih=>
  intro k hk;rw[zh]
  cases k with
  |zero=>simp[Rec.list]
  |succ k=>
   rw[List.drop_append,rY (by simp[Rec.list];omega),show (k+1)*4-x.list.length=k*4 by simp[Rec.list];omega];exact ih k (by simpa using hk)
theorem Xd(L:List Rec)(k:Nat)(hL:L.length=9)(hk:k<9)(W:ai):(Instr.index 236 (.agg (dJ L).toArray) (U R (k:Int))).run prog W=.ok (L[k]'(by omega)).val W:=by
 have hu:=underlying236;have hn:(0:Int)<=(k:Int)/\(k:Int)<9:=by omega
 simp[Instr.index,go_sem]
 rw[aR hk,Xc L k (by omega)];rfl
def pI(L:List Rec):Nat:=L.foldl (λm r=>max m r.seq) 0
theorem Xe(L:List Rec)(r:Rec):pI (L++[r])=max (pI L) r.seq:=by simp[pI]
theorem Xf(L:List Rec):∀m,m<4294967296->(∀r∈L,r.seq<4294967296)->L.foldl (λm r=>max m r.seq) m<4294967296:=by
 induction L with
 |nil=>intro m h _;exact h
 |cons r t ih=>intro m h h2;exact ih _ (Nat.max_lt.2 ⟨h,h2 r (by simp)⟩) (λx hx=>h2 x (by simp[hx]))
theorem Xg(L:List Rec)(h:∀r∈L,r.seq<4294967296):pI L<4294967296:=Xf L 0 (by decide) h
def chain(L:List Rec):Nat->Nat->List Rec
 |0,_=>[]
 |m+1,n=>if 0<n/\(L.getD ((n-1)%9) .none).seq=n then L.getD ((n-1)%9) .none::chain L m (n-1)else []
def vK(L:List Rec):List Rec:=(chain L 8 (pI L)).reverse
theorem G_(w:ai)(r:Rec)(ty:TypeId):∀j x,r.list[j]?=J x->(w.alloc (au #[U R (r.seq:Int),U R (r.dU:Int),U R (r.kind:Int),U R (r.tick:Int)] ty)).cell? ((⟨w.heap.size,0,.none⟩:az).add j)=J x:=by
 intro j x hj;obtain⟨c0,c1,c2,c3⟩:=nk.new w r ty
 match j,hj with
 |0,hj=>exact c0.trans hj
 |1,hj=>exact c1.trans hj
 |2,hj=>exact c2.trans hj
 |3,hj=>exact c3.trans hj
theorem Xh(w:ai)(o:Obj)(r:Rec)(ty:TypeId):∀j x,r.list[j]?=J x->((w.alloc o).alloc (au #[U R (r.seq:Int),U R (r.dU:Int),U R (r.kind:Int),U R (r.tick:Int)] ty)).cell? ((⟨w.heap.size+1,0,.none⟩:az).add j)=J x:=by
 have:=G_ (w.alloc o) r ty;rw[qT]at this;exact this
theorem D9(r:Rec):∀u∈r.list,u.oneCell'=true:=by
 intro u hu;simp only[Rec.list,fg,jB,jU]at hu
 rcases hu with rfl|rfl|rfl|rfl<;>rfl
theorem fD.len{w:ai}{base:Nat}{v:ar}{L:List Rec}(h:fD w base v L):∃sa c,v=af sa L.length c:=by
 rcases h.qV with⟨rfl,rfl⟩|⟨g,cap,rfl,-⟩
 ·exact⟨_,_,rfl⟩
 exact⟨_,_,rfl⟩
theorem fD.below{w w':ai}{base B:Nat}{v:ar}{L:List Rec}(h:fD w base v L)(hb:Below B w w')(hB:w.heap.size<=B):fD w' base v L:=by
 rcases h.qV with⟨rfl,rfl⟩|⟨g,cap,rfl,hbg,hrow,hlc,hm⟩
 ·exact fC _ _ _ _
 exact fD.xy (hrow.below hb (eh hrow.lt hB)) hbg hlc hm
theorem D_(L:List Rec)(m n:Nat)(h:0<n)(h2:(L.getD ((n-1)%9) .none).seq=n):chain L (m+1) n=L.getD ((n-1)%9) .none::chain L m (n-1):=by
 show (if _ then _ else _)=_
 rw[aR ⟨h,h2⟩]
theorem BA(L:List Rec)(m n:Nat)(h:¬(0<n/\(L.getD ((n-1)%9) .none).seq=n)):chain L m n=[]:=by
 cases m with
 |zero=>rfl
 |succ m=>show (if _ then _ else _)=_;rw[aK h]
theorem Xi(L:List Rec):∀m n,(chain L m n).length<=m:=by
 intro m
 induction m with
 |zero=>intro n;exact aQ _
 |succ m ih=>
  intro n;simp only[chain];split;· simp;exact ih _
  ·simp
theorem Xj(L:List Rec)(w:ai)(hL:L.length=9)(hlt:∀r∈L,r.seq<4294967296):Calls prog 152 #[.agg (dJ L).toArray] w λe w'=>∃v,e=ax v/\fD w' (w.heap.size+1) v (vK L)/\Below w.heap.size w w':=by
 obtain⟨i0,hi,hz0,hz1,hz2⟩:=Bx;have R0:=Xb w L;have B0:=(aC _ w).alloc (aQ _) (au (dJ L).toArray 236);have MV:aa _:=Xg L hlt;go_enter func152,ntmps152
 go_wp2_with (refine sf rfl 236 _ rfl _ rfl _ _ _ _ R0.heap underlying236 rfl (xx _ hL) ?_)
 go_loopw [3,10] (λg i wr=>∃k:Nat,k<=9/\i=U R k/\g=U R (pI (L.take k):Nat)/\gH wr w.heap.size L/\Below w.heap.size w wr) (λ_ i _=>9-(intOf i).toNat)
 case atStart=>exact⟨0,bI _,rfl,rfl,R0,B0⟩
 case round=>
  obtain⟨k,hk,rfl,rfl,hrow,hb⟩:=hrel
  by_cases h9:k<9
  ·have ix:=Xd L k hL h9;unfold Rec.val at ix;have hsz:=hrow.lt;have HT:aa (pI (L.take (k+1))=max (pI (L.take k)) (L[k]'(by omega)).seq):=by
    show _=_
    rw[List.take_succ_eq_append_getElem (by omega),Xe]
   go_wp2_with fail
   refine⟨⟨k+1,by omega,by go_num,?_,hrow.below ((aC _ wr).alloc (aQ _) _) hrow.lt,hb.alloc (by omega) _⟩,by simp[intOf];omega⟩;rw[HT.o];congr 1
   first|omega|(split<;>omega)
  have ek:L.take k=L:=nQ (by omega);rw[ek];clear ek;have HM:=MV.o;generalize MW:pI L=zk at *;have G':aa (vK L=(chain L 8 zk).reverse):=by show _=_;unfold vK;rw[MW]
  have Xk:=hrow.lt;clear MW MV;go_wp2_with fail
  go_loopw [6,7] (λv i wx=>∃(n:Nat) (acc:List Rec),n<=zk/\i=U R n/\acc.length<=8/\acc++chain L (8-acc.length) n=chain L 8 zk/\fD wx (w.heap.size+1) v acc/\gH wx w.heap.size L/\Below w.heap.size w wx) (λ_ i _=>(intOf i).toNat)
  case atStart=>exact⟨_,[],aQ _,rfl,by simp,rfl,fC _ _ _ _,hrow,hb⟩
  case round=>
   obtain⟨n,acc,hn,rfl,aiF,hch,hown,hrow2,hb2⟩:=hrel;obtain⟨sa,c,rfl⟩:=hown.len;have Xl:=hrow2.lt
   by_cases Ha:0<n
   ·have Xm:(0:Int)<(n:Int):=by omega
    by_cases aiG:acc.length<8
    ·have Xn:(acc.length:Int)<8:=by omega
     have hq:(n-1)%9<9:=Nat.mod_lt _ (by decide);obtain⟨q,pF⟩:∃q,(n-1)%9=q:=⟨_,rfl⟩;rw[pF]at hq;have aiH:(0:Int)<=(q:Int):=by omega
     have Bu:(q:Int)<9:=by omega
     have hgd:L.getD q .none=L[q]'(by omega):=by rw[fQ,bH (by omega)];rfl
     obtain⟨c0,c1,c2,c3⟩:=hrow2.cells q (by omega);rw[<- hgd]at c0 c1 c2 c3;clear hgd;have Ea:=BA L (8-acc.length) n;have Eb:=D_ L (8-(acc.length+1)) n Ha;rw[pF]at Ea Eb;generalize L.getD q .none=x at *;go_wp2_with fail
     refine(D6 n _ Ha (by omega)).mono ?_;rintro e w3 ⟨rfl,rfl⟩;rw[pF]
     by_cases hseq:x.seq=n
     ·have HS:aa _:=Eb hseq;have B3:=(aC _ w3).alloc (aQ _) (au #[U R (x.seq:Int),U R (x.dU:Int),U R (x.kind:Int),U R (x.tick:Int)] 119);obtain⟨x0,x1,x2,x3⟩:=nk.new w3 x 119;have hown':w3.ownsRow _ 119 4 _ _ _:=hown;clear Ea Eb;subst hseq;go_wp2_with (at_builtin;refine fw _ rfl (.tmp 36) _ 123 rfl _ 119 i0 _ 4 32 underlying123 hi hz0 hz1 hz2 rfl (by decide) _ _ _ rfl ((hown'.alloc _).alloc _) _ 1 1 _ rfl rfl (Xh _ _ _ _) (D9 x) (by unfold maxLen;omega) (by omega) (by simp;omega) ?_;intro v8 w8 dy bZ ld)
      go_roundw
      case rel=>
       have Xo:w.heap.size+1<=((w3.alloc (au #[U R (x.seq:Int),U R (x.dU:Int),U R (x.kind:Int),U R (x.tick:Int)] 119)).alloc (au #[U R (x.seq:Int),U R (x.dU:Int),U R (x.kind:Int),U R (x.tick:Int)] 119)).heap.size:=by simp;omega
       have BB:=((((aC _ _).alloc (by omega) _).alloc (by simp;omega) _)).grown bZ Xo (λk hk=>(hown'.lt k hk).1)
       refine⟨x.seq-1,acc++[x],by omega,by go_num,by simp;omega,?_,?_,hrow2.below BB (by omega),hb2.trans (BB.mono (by omega))⟩
       ·rw[iV,dm,qb,<- hch,show 8-acc.length=8-(acc.length+1)+1 by omega,HS.o];rfl
       show w8.ownsRow _ _ _ _ _ _
       rw[MN,dm];exact dy
      case measure=>simp[intOf];omega
     have HS:aa (chain L 8 zk=acc):=by
      show _=_
      rw[<- hch,Ea (λh=>hseq h.2),qd]
     have aiI:¬(x.seq:Int)=(n:Int):=by omega
     have B3:=(aC _ w3).alloc (aQ _) (au #[U R (x.seq:Int),U R (x.dU:Int),U R (x.kind:Int),U R (x.tick:Int)] 119);clear Ea Eb hch hseq;go_wp2_with fail
     refine(G6 _ _ acc _ (hown.below B3 (by omega)) (by omega) (by simp;omega)).mono ?_;rintro e w5 ⟨rfl,vL,jG⟩;go_wp2_with fail
     go_ret
     refine⟨_,rfl,?_,(hb2.trans (B3.mono (by omega))).trans (jG.mono (by omega))⟩;rw[G'.o,HS.o];exact vL
    have HS:aa (chain L 8 zk=acc):=by
     show _=_
     rw[<- hch,show 8-acc.length=0 by omega];simp[chain]
    have Xn:¬(acc.length:Int)<8:=by omega
    clear hch;go_wp2_with fail
    refine(G6 _ _ acc _ hown (by omega) (by omega)).mono ?_;rintro e w5 ⟨rfl,vL,jG⟩;go_wp2_with fail
    go_ret
    refine⟨_,rfl,?_,hb2.trans (jG.mono (by omega))⟩;rw[G'.o,HS.o];exact vL
   have HS:aa (chain L 8 zk=acc):=by
    show _=_
    rw[<- hch,BA L _ n (λh=>Ha h.1),qd]
   have Xm:¬(0:Int)<(n:Int):=by omega
   clear hch;go_wp2_with fail
   refine(G6 _ _ acc _ hown (by omega) (by omega)).mono ?_;rintro e w5 ⟨rfl,vL,jG⟩;go_wp2_with fail
   go_ret
   refine⟨_,rfl,?_,hb2.trans (jG.mono (by omega))⟩;rw[G'.o,HS.o];exact vL
structure eK(w:ai)(B rb bc:Nat)(v:ar)(L:List Rec)(sp:Bool):Prop where
 heap:w.heap[rb]?=J (au #[aj (J ⟨bc,0,.none⟩),v,aI sp] 241 (0,0))
 recs:fD w B v L
 sep:v.ownBlock≠J rb/\v.ownBlock≠J bc
 lo:B<=rb
theorem eK.lt{w:ai}{B rb bc:Nat}{v:ar}{L:List Rec}{sp:Bool}(h:eK w B rb bc v L sp):rb<w.heap.size:=bJ h.heap
theorem eK.c0{w:ai}{B rb bc:Nat}{v:ar}{L:List Rec}{sp:Bool}(h:eK w B rb bc v L sp):w.cell? ⟨rb,0,.none⟩=J (aj (J ⟨bc,0,.none⟩)):=by simp[World.cell?,h.heap]
theorem eK.c1{w:ai}{B rb bc:Nat}{v:ar}{L:List Rec}{sp:Bool}(h:eK w B rb bc v L sp):w.cell? ⟨rb,1,.none⟩=J v:=by simp[World.cell?,h.heap]
theorem eK.c2{w:ai}{B rb bc:Nat}{v:ar}{L:List Rec}{sp:Bool}(h:eK w B rb bc v L sp):w.cell? ⟨rb,2,.none⟩=J (aI sp):=by simp[World.cell?,h.heap]
theorem eK.frozen{w:ai}{B rb bc:Nat}{v:ar}{L:List Rec}{sp:Bool}(h:eK w B rb bc v L sp)(i:Nat):w.frozen? ⟨rb,i,.none⟩=false:=by simp[World.frozen?,h.heap]
theorem eK.below{w w':ai}{B rb bc:Nat}{v:ar}{L:List Rec}{sp:Bool}(h:eK w B rb bc v L sp)(hb:Below w.heap.size w w'):eK w' B rb bc v L sp:=
 ⟨(hb.block rb h.lt).trans h.heap,h.recs.below hb (aQ _),h.sep,h.lo⟩
theorem gH.range{w:ai}{b:Nat}{L:List Rec}(h:gH w b L):w.rangeAt b 0 (dJ L):=λj v hv=>by
 rw[nj];simp only[World.cell?,h.heap];simpa using hv
theorem fD.mono{w:ai}{base base':Nat}{v:ar}{L:List Rec}(h:fD w base v L)(hb:base'<=base):fD w base' v L:=by
 rcases h.qV with⟨rfl,rfl⟩|⟨g,cap,rfl,hbg,hrow,hlc,hm⟩
 ·exact fC _ _ _ _
 exact fD.xy hrow (bw hb hbg) hlc hm
theorem fD.lt{w:ai}{base:Nat}{v:ar}{L:List Rec}(h:fD w base v L):∀k,v.ownBlock=J k->base<=k/\k<w.heap.size:=World.ownsRow.lt h
theorem gH.drew{w:ai}{b:Nat}{L:List Rec}(h:gH w b L):gH w.drew b L:=⟨h.heap⟩
def kK(l:List UInt8):List Rec:=vK (gh (l.take 153) 9)
theorem MX(l:List UInt8):∀r∈gh l 9,r.seq<4294967296:=by
 intro r hr;simp only[gh,lX,mr]at hr;obtain⟨i,-,rfl⟩:=hr
 split
 ·unfold tY
  split
  ·rename_i h;exact(GY h.1).2.1
  decide
 decide
theorem Xp(A:Nat->az)(bc:Nat)(s:aM)(w:ai)(h:bY w bc s)(hs:gT A w)(he:s.err 0 153=0):Calls prog 107 #[aj (J ⟨bc,0,.none⟩)] w λe w'=>∃rb v,e=ax (bn #[aj (J ⟨rb,0,.none⟩),.nilIface])/\eK w' w.heap.size rb bc v (kK s.bytes) false/\Below w.heap.size w w':=by
 have B1:=(aC _ w).alloc (aQ _) (au #[aj (J ⟨bc,0,.none⟩)] 235);have hc1:(w.alloc (au #[aj _] 235)).cell? ⟨_,0,_⟩=J (aj (J ⟨bc,0,.none⟩)):=dK _ _ _ _ rfl;have HH:aa _:=WO A bc s _ (h.below B1) (hs.below B1) he;have hlen:(gh (s.bytes.take 153) 9).length=9:=xu _ _;have HN:aa _:=Xj (gh (s.bytes.take 153) 9);have HL:aa _:=MX (s.bytes.take 153);unfold kK;generalize gh (s.bytes.take 153) 9=L at *;go_enter func107,ntmps107
 go_wp2_with fail
 refine aL HH.o ?_;rintro e w1 ⟨rfl,hb1⟩;have s1:=hb1.size;simp only[qT]at s1;have B2:=B1.trans (hb1.mono (by simp));have c1:=aG hb1 hc1;clear hc1 B1 hb1;go_upto_region 5 with(refine f_ rfl 236 _ _ rfl _ _ rfl rfl 236 _ (cR w1 _) (xx _ hlen) (by simp[su,hlen]) (xw _) ?_)
 generalize hW:World.setRow (w1.alloc _) w1.heap.size (dJ L).toArray=W;have R5:gH W w1.heap.size L:=by rw[<- hW];exact⟨setRow_heap _ _ _ _ _ _ (cR w1 _)⟩
 have B5:Below w1.heap.size w1 W:=by rw[<- hW];exact below_setRow ((aC _ _).alloc (aQ _) _) (aQ _) _
 clear hW;have c5:=aG B5 c1;have b5:=B2.trans (B5.mono (by omega));have s5:=B5.size;have s6:=R5.lt;have r5:=R5.range;have hu:=underlying236;have hi:(prog.info? 236).map (·.size)=J (dJ L).length:=by rw[su,hlen];kernel_rfl
 have aiJ:(dJ L).length=36:=by rw[su,hlen]
 have Hc:=λu hu=>D3.1 (xw L) u (by simpa using hu)
 go_upto_region 7 with fail
 go_region_held3 (λw'=>w'.cell? ⟨w.heap.size,0,.none⟩=J (aj (J ⟨bc,0,.none⟩))/\w'.rangeAt w1.heap.size 0 (dJ L)) (first|exact⟨c5,r5⟩|exact⟨d5,q5⟩|exact⟨e5 _,f5 _⟩) (first|(go_at_call 152;refine aL (HN.o _ hlen HL.o) ?_;rintro e w' ⟨v,rfl,oJ,fk⟩;obtain⟨sa,c,rfl⟩:=oJ.len;have d5:=aG fk c5;have q5:=(R5.drew.below fk s6).range;have e5:=λo=>aG ((aC _ w').alloc (aQ _) o) d5;have f5:=λo=>((R5.drew.below fk s6).below ((aC _ w').alloc (aQ _) o) (R5.drew.below fk s6).lt).range))
 go_wp2_with fail
 go_ret2
 have sv:W.heap.size<=w'.heap.size:=fk.size;have b6:=b5.drew.trans (fk.mono (show w.heap.size<=W.heap.size by omega))
 refine⟨_,_,rfl,⟨cR _ _,?_,?_,by omega⟩,b6.alloc (by omega) _⟩
 ·exact(oJ.mono (by show _<=W.heap.size+1;omega)).below ((aC _ w').alloc (aQ _) _) (aQ _)
 have hlt:=oJ.lt;have oK:=h.lt
 constructor
 ·intro e2;have:=(hlt _ e2).2;omega
 intro e2;have:=(hlt _ e2).1;have:W.drew.heap.size=W.heap.size:=rfl;omega
theorem aM.Xq{s:aM}{p n:Nat}(h:s.err (p:Int) (n:Int)=0):p+n<=s.size/\s.off=false:=by
 unfold aM.err at h
 split at h
 ·cases h
 split at h
 ·cases h
 rename_i h1 h2;exact⟨by omega,by simpa using h2⟩
def aM.gU(s:aM)(p:Nat)(l:List UInt8):aM×Nat:=if s.err p l.length=0 then s.write p l else (s,s.err p l.length)
def aM.Low(s:aM)(n:Nat):Prop:=s.written+n<=1099511627776/\s.left<=9223372036854775807
theorem aM.MZ(s:aM)(p n:Int):s.err p n=0\/∃j,s.err p n=j+1/\j<11:=by
 unfold aM.err
 split
 ·exact aP ⟨1,rfl,by decide⟩
 split
 ·exact aP ⟨7,rfl,by decide⟩
 exact a_ rfl
theorem Hd(A:Nat->az)(b:Nat)(s:aM)(p:Nat)(t:ByteArray)(w:ai)(h:bY w b s)(hs:gT A w)(hb:8<=b)(hl:s.Low t.size)(hp:p<=9223372036854775807):Calls prog 279 #[aj (J ⟨b,0,.none⟩),U R (p:Int),aq t] w λe w'=>e=ax (errVal A (s.gU p t.data.toList).2)/\bY w' b (s.gU p t.data.toList).1/\w.grownBy w' (J b):=by
 have hlen:((t.data.toList.length:Nat):Int)=(t.size:Int):=by simp
 unfold aM.gU;rw[hlen]
 rcases s.MZ p t.size with he|⟨j,he,-⟩
 ·rw[aR he];exact(V8 A b s p t w h hs hb hl.1 hl.2 he).mono λe w' ⟨h1,h2,h3,_⟩=>⟨h1,h2,h3⟩
 rw[aK (by omega),he];exact(V9 A b s p t j w h hs (by omega) he).mono λe w' ⟨h1,h2⟩=>by subst h2;exact⟨h1,h,ky _ _⟩
theorem vM{w w':ai}{b g o:Nat}{v:ar}(h:w.grownBy w' (J b))(hc:w.cell? ⟨g,o,.none⟩=J v)(hne:g≠b):w'.cell? ⟨g,o,.none⟩=J v:=
 World.grownBy.cell h hc (by simpa using hne)
def aM.zeroAt(s:aM)(p:Nat):aM×Nat:=if s.err p 1=0 then (if s.bytes.getD p 0=0 then (s,0)else s.gU p [0])else (s,s.err p 1)
theorem M0(w:ai)(b:Nat):(w.alloc (au #[aj (J ⟨b,0,.none⟩)] 235)).cell? ⟨w.heap.size,0,.none⟩=J (aj (J ⟨b,0,.none⟩)):=dK _ _ _ _ rfl
theorem Xr(l:List UInt8)(p:Nat)(hp:p<l.length):((l.drop p).take 1)=[l.getD p 0]:=by
 rw[kq hp,fQ,bH hp];rfl
theorem Xs(A:Nat->az)(b:Nat)(s:aM)(p:Nat)(w:ai)(h:bY w b s)(hs:gT A w)(hb:8<=b)(hl:s.Low 1)(hp:p<=9223372036854775807):Calls prog 278 #[aU #[aj (J ⟨b,0,.none⟩)],U R (p:Int)] w λe w'=>e=ax (errVal A (s.zeroAt p).2)/\bY w' b (s.zeroAt p).1/\w.grownBy w' (J b):=by
 have B1:=(aC _ w).alloc (aQ _) (au #[aj (J ⟨b,0,.none⟩)] 235);have c1:=M0 w b;have h1:=h.below B1;have s1:=hs.below B1;have G1:w.grownBy _ (J b):=xr (ky _ _) B1;generalize hW:w.alloc (au #[aj (J ⟨b,0,.none⟩)] 235)=W at *;have HW:aa _:=hW;clear hW
 rcases s.MZ p 1 with he|⟨j,he,hj⟩
 ·have hz:=aM.Xq (n:=1) he;have hlen:=h.len;have hsz:=h.size;have RD:=MB A b s p 1 W h1 s1 he;rw[Xr _ p (by omega)]at RD;have qm:aa _:=RD;clear RD
  by_cases BC:s.bytes.getD p 0=0
  ·have HZ:aa (s.zeroAt p=(s,0)):=by show _=_;unfold aM.zeroAt;rw[aR he,aR BC]
   rw[BC]at qm;go_enter func278,ntmps278
   go_wp2_with fail
   rw[HW.o]
   refine aL qm.o ?_;rintro e w1 ⟨rfl,rfl⟩;go_wp2;go_ret;rw[HZ.o];exact⟨rfl,h1,G1⟩
  have HZ:aa (s.zeroAt p=s.gU p [0]):=by show _=_;unfold aM.zeroAt;rw[aR he,aK BC]
  have Xt:aa _:=Hd A b s p ⟨#[0]⟩ W h1 s1 hb hl hp;obtain⟨x,hx⟩:∃x,s.bytes.getD p 0=x:=⟨_,rfl⟩;rw[hx]at BC qm;have aiK:(x==0)=false:=by rw[iZ];exact BC
  go_enter func278,ntmps278
  go_wp2_with fail
  rw[HW.o]
  refine aL qm.o ?_;rintro e w1 ⟨rfl,rfl⟩;go_wp2_with fail
  refine aL Xt.o ?_;rintro e w2 ⟨rfl,vF,hg2⟩;go_wp2;go_ret;rw[HZ.o];exact⟨rfl,vF,pG G1 hg2⟩
 have qm:aa _:=MC A b s p 1 j W h1 s1 (by omega) he;have HZ:aa (s.zeroAt p=(s,j+1)):=by show _=_;unfold aM.zeroAt;rw[aK (by omega),he]
 go_enter func278,ntmps278
 go_wp2_with fail
 rw[HW.o]
 refine aL qm.o ?_;rintro e w1 ⟨rfl,rfl⟩;unfold errVal;go_wp2;go_ret;rw[HZ.o];exact⟨rfl,h1,G1⟩
def aM.eU(s:aM)(r:Rec):aM×Nat:=
 let at':=(r.seq-1)%9*17
 let a:=s.zeroAt (at'+16)
 if a.2=0 then
  let b:=a.1.gU at' (jV r)
  if b.2=0 then b.1.gU (at'+16) [165]else b
 else a
theorem aM.M3{s:aM}{n:Nat}(p:Nat)(l:List UInt8)(h:s.Low (l.length+n)):(s.gU p l).1.Low n:=by
 unfold aM.gU
 split
 ·unfold aM.write
  split
  ·rename_i hc
   refine⟨?_,?_⟩
   ·show (s.cQ p _).written+n<=_
    rw[aM.Bl];have:=h.1;have:(l.take s.left).length<=l.length:=by rw[gy];omega
    omega
   show (s.cQ p _).left<=_
   rw[aM.Bn];have:=h.2
   split<;>omega
  refine⟨?_,?_⟩
  ·show (s.cQ p l).written+n<=_
   rw[aM.Bl];have:=h.1;omega
  show (s.cQ p l).left<=_
  rw[aM.Bn];have:=h.2
  split<;>omega
 exact⟨by show s.written+n<=_;have:=h.1;omega,h.2⟩
theorem aM.Xu{s:aM}{n:Nat}(p:Nat)(h:s.Low (1+n)):(s.zeroAt p).1.Low n:=by
 unfold aM.zeroAt
 split
 ·split
  ·exact⟨by show s.written+n<=_;have:=h.1;omega,h.2⟩
  exact aM.M3 p [0] h
 exact⟨by show s.written+n<=_;have:=h.1;omega,h.2⟩
theorem Xv(r:Rec):∃E P1 P2:ByteArray,E=⟨(enc r).toArray⟩/\P1.data.toList=jV r/\P1.size=16/\P2.data.toList=[165]/\P2.size=1 /\
  (∀W,(Instr.slice 9 (aq E) Option.none (J (U R 16)) Option.none).run prog W=.ok (aq P1) W) /\
  (∀W,(Instr.slice 9 (aq E) (J (U R 16)) Option.none Option.none).run prog W=.ok (aq P2) W):=by
 have hs:(⟨(enc r).toArray⟩:ByteArray).size=17:=by show (enc r).toArray.size=17;rw[List.size_toArray,MI]
 refine⟨_,(⟨(enc r).toArray⟩:ByteArray).extract 0 16,(⟨(enc r).toArray⟩:ByteArray).extract 16 17,rfl,?_,by simp[hs],?_,by simp[hs],λW=>?_,λW=>?_⟩
 ·rw[zb];show ((enc r).drop 0).take 16=_
  unfold enc;rw[List.drop_zero,List.take_append,sj,nQ (Nat.le_of_eq (sj r))];simp
 ·rw[zb];show ((enc r).drop 16).take 1=_
  unfold enc;rw[List.drop_append,sj,rY (by rw[sj];omega)];rfl
 ·simp[go_sem,hs]
 simp[go_sem,hs]
theorem Xw(w:ai)(b:Nat)(r:Rec):∃W,((w.alloc (au #[aj (J ⟨b,0,.none⟩)] 235)).alloc (au #[U R (r.seq:Int),U R (r.dU:Int),U R (r.kind:Int),U R (r.tick:Int)] 119))=W/\W.heap.size=w.heap.size+2/\Below w.heap.size w W/\W.cell? ⟨w.heap.size,0,.none⟩=J (aj (J ⟨b,0,.none⟩))/\nk W (w.heap.size+1) r:=by
 refine⟨_,rfl,by simp,((aC _ _).alloc (aQ _) _).alloc (by simp) _,?_,?_⟩
 ·exact aG ((aC _ _).alloc (aQ _) _) (M0 w b)
 have:=nk.new (w.alloc (au #[aj (J ⟨b,0,.none⟩)] 235)) r 119;rw[qT]at this;exact this
theorem Xx(A:Nat->az)(b:Nat)(s:aM)(r:Rec)(w:ai)(h:bY w b s)(hs:gT A w)(hb:8<=b)(hl:s.Low 18)(h1:1<=r.seq)(h2:r.seq<4294967296):Calls prog 256 #[aU #[aj (J ⟨b,0,.none⟩)],r.val] w λe w'=>e=ax (errVal A (s.eU r).2)/\bY w' b (s.eU r).1/\w.grownBy w' (J b):=by
 obtain⟨W,hW,hsz,B1,c1,R1⟩:=Xw w b r;obtain⟨E,P1,P2,hE,GJ,Xy,Xz,XA,aiL,aiM⟩:=Xv r;have hat:=h.below B1;have ja:=hs.below B1;have aiN:=h.lt;obtain⟨q,hq⟩:∃q,(r.seq-1)%9=q:=⟨_,rfl⟩;have Bu:q<9:=by rw[<- hq];exact Nat.mod_lt _ (by decide)
 have PR:aa (s.eU r=if (s.zeroAt (q*17+16)).2=0 then (if ((s.zeroAt (q*17+16)).1.gU (q*17) (jV r)).2=0 then ((s.zeroAt (q*17+16)).1.gU (q*17) (jV r)).1.gU (q*17+16) [165]else (s.zeroAt (q*17+16)).1.gU (q*17) (jV r))else s.zeroAt (q*17+16)):=by
  show _=_
  unfold aM.eU;rw[hq]
 have G1:w.grownBy W (J b):=xr (ky _ _) B1;have HE:aa _:=hE;have HW:aa _:=hW;have EP:aa ((q:Int)*17+17-1=((q*17+16:Nat):Int)):=by show _=_;omega
 have EQ:aa ((q:Int)*17=((q*17:Nat):Int)):=by show _=_;omega
 have HL:aa _:=hl;have iN:aa _:=aM.Xu (n:=17) (q*17+16) hl;have x0:=R1.c0;have x1:=R1.c1;have x2:=R1.c2;have x3:=R1.c3;unfold Rec.val;clear hW h hs hE;go_enter func256,ntmps256
 go_wp2_with fail
 rw[HW.o]
 refine(D6 _ W h1 (by omega)).mono ?_;rintro e w1 ⟨rfl,rfl⟩;rw[hq];go_wp2_with fail
 refine(MK r _).mono ?_;rintro e w2 ⟨rfl,hb2⟩;rw[<- HE.o];have c2:=aG hb2 c1;have vF:=hat.below hb2;have He:=ja.below hb2;have G2:=xr G1 hb2;have s2:=hb2.size;clear c1 x0 x1 x2 x3 hat ja G1 R1;go_wp2_with fail
 rw[EP.o]
 refine(Xs A b s _ _ vF He hb ⟨by have:=HL.o.1;omega,HL.o.2⟩ (by omega)).mono ?_;rintro e w3 ⟨rfl,BD,hg3⟩;have c3:=vM hg3 c2 (by omega);have BF:=He.grown hg3 hb;have G3:=pG G2 hg3;clear c2 vF He G2 hg3;generalize hz:s.zeroAt (q*17+16)=z at *;clear hz
 cases hz2:z.2 with
 |succ j=>
  have XB:aa (s.eU r=z):=by show _=_;rw[PR.o,aK (by omega)]
  unfold errVal;go_wp2;go_ret;rw[XB.o,hz2];exact⟨rfl,BD,G3⟩
 |zero=>
  have np:aa _:=aM.M3 (n:=1) (q*17) (jV r) (s:=z.1) (by rw[sj];exact iN.o);have W1:=λw' ha hs'=>Hd A b z.1 (q*17) P1 w' ha hs' hb (by rw[Xy];exact⟨by have:=iN.o.1;omega,iN.o.2⟩) (by omega)
  rw[GJ]at W1;have M4:aa _:=W1;clear W1;have M5:bY w3.drew b z.1:=⟨BD.heap,BD.len,BD.size⟩;have Hf:gT A w3.drew:=⟨BF.c1,BF.c2,BF.c6,BF.c7⟩;have M6:=xr G3 ((aC _ _).drew);unfold errVal;go_upto_region 7 with fail
  rw[EQ.o];go_region_held3 (λw'=>w'.cell? ⟨w.heap.size,0,.none⟩=J (aj (J ⟨b,0,.none⟩))) (first|exact c3|exact c4) (first|(go_at_call 279;refine aL (M4.o _ M5 Hf) ?_;rintro e w4 ⟨rfl,Ec,hg4⟩;have c4:=vM hg4 (show w3.drew.cell? _=_ from c3) (by omega)))
  have Ed:=Hf.grown hg4 hb;have G4:=pG M6 hg4;have M7:aa (s.eU r=if (z.1.gU (q*17) (jV r)).2=0 then (z.1.gU (q*17) (jV r)).1.gU (q*17+16) [165]else z.1.gU (q*17) (jV r)):=by show _=_;rw[PR.o,aR hz2]
  clear PR c3 BD M5 Hf BF G3 M6 hg4 M4;generalize z.1.gU (q*17) (jV r)=y at *
  cases hy:y.2 with
  |succ j=>
   have Hg:aa (s.eU r=y):=by show _=_;rw[M7.o,aK (by omega)]
   unfold errVal;go_wp2;go_ret;rw[Hg.o,hy];exact⟨rfl,Ec,G4⟩
  |zero=>
   have Hg:aa (s.eU r=y.1.gU (q*17+16) [165]):=by show _=_;rw[M7.o,aR hy]
   have W2:=λw' ha hs'=>Hd A b y.1 (q*17+16) P2 w' ha hs' hb (by rw[XA];exact np.o) (by omega)
   rw[Xz]at W2;have XC:aa _:=W2;clear W2;have XD:bY w4.drew b y.1:=⟨Ec.heap,Ec.len,Ec.size⟩;have XE:gT A w4.drew:=⟨Ed.c1,Ed.c2,Ed.c6,Ed.c7⟩;have XF:=xr G4 ((aC _ _).drew);have XG:aa ((q:Int)*17+16=((q*17+16:Nat):Int)):=by show _=_;omega
   unfold errVal;go_upto_region 10 with fail
   rw[XG.o];go_region_held3 (λw'=>w'.cell? ⟨w.heap.size,0,.none⟩=J (aj (J ⟨b,0,.none⟩))) (first|exact c4|exact c5) (first|(go_at_call 279;refine aL (XC.o _ XD XE) ?_;rintro e w5 ⟨rfl,XH,oL⟩;have c5:=vM oL (show w4.drew.cell? _=_ from c4) (by omega)))
   go_wp2;go_ret;rw[Hg.o];exact⟨rfl,XH,pG XF oL⟩
def setFrom(cur:Array ar):Nat->List ar->Array ar
 |_,[]=>cur
 |o,v::r=>setFrom (cur.setIfInBounds o v) (o+1) r
theorem M8(vs:List ar):∀(cur:Array ar) (o:Nat),(setFrom cur o vs).size=cur.size:=by
 induction vs with
 |nil=>intro cur o;rfl
 |cons v r ih=>intro cur o;simp only[setFrom,ih];simp
theorem M9(vs:List ar):∀(cur:Array ar) (o:Nat),o+vs.length<=cur.size->(setFrom cur o vs).toList=cur.toList.take o++vs++cur.toList.drop (o+vs.length):=by
 induction vs with
 |nil=>intro cur o h;simp[setFrom]
 |cons y r ih=>
  intro cur o h;simp only[kr]at h;have e:=ih (cur.setIfInBounds o y) (o+1) (by simp;omega);simp only[setFrom,e,kr];have hl:o<cur.toList.length:=by simp;omega
  have GP:(cur.setIfInBounds o y).toList=cur.toList.take o++y::cur.toList.drop (o+1):=by
   rw[Array.toList_setIfInBounds,List.set_eq_take_append_cons_drop,aR hl]
  have tS:(cur.toList.take o).length=o:=by rw[gy];omega
  have e1:o+1-o=1:=by omega
  have e2:o+1+r.length-o=r.length+1:=by omega
  have e3:o+1+r.length=o+(r.length+1):=by omega
  have t1:(cur.toList.take o++y::cur.toList.drop (o+1)).take (o+1)=cur.toList.take o++[y]:=by
   rw[List.take_append,tS,e1,nQ (l:=cur.toList.take o) (by rw[tS];omega)];rfl
  have t0:(cur.toList.take o).drop (o+1+r.length)=[]:=rY (by rw[tS];omega);have t2:(cur.toList.take o++y::cur.toList.drop (o+1)).drop (o+1+r.length)=cur.toList.drop (o+1+r.length):=by
   rw[List.drop_append,tS,e2,t0,List.drop_succ_cons,List.drop_drop];rfl
  rw[GP,t1,t2,e3];simp
theorem M_{b:Nat}{t:TypeId}:∀(vs:List ar) (o:Nat) (w:ai) (cur:Array ar),w.heap[b]?=J (au cur t (0,0))->(w.setCells b o vs).heap[b]?=J (au (setFrom cur o vs) t (0,0)):=by
 intro vs
 induction vs with
 |nil=>intro o w cur h;exact h
 |cons v r ih=>
  intro o w cur h;exact ih _ _ _ (by simp only[World.setCell,dr,h];simp)
theorem Na(b:Nat):∀(vs:List ar) (o:Nat) (w:ai),w.grownBy (w.setCells b o vs) (J b):=by
 intro vs
 induction vs with
 |nil=>intro o w;exact ky _ _
 |cons v r ih=>intro o w;exact pG (gS (ky _ _) _ _) (ih _ _)
theorem XI(w:ai)(g o c:Nat)(hc:∀j,j<4->(w.cell? ⟨g,o+j,.none⟩).isSome=true)(hf:∀j,j<4->w.frozen? ⟨g,o+j,.none⟩=false):(Builtin.clear_ #[123] 0 #[af (J ⟨g,o,.none⟩) 1 c]).run prog w=.ok (bn #[]) (w.setCells g o Rec.none.list):=by
 have hv:(zeroValue 119).run prog w=.ok (aU #[U R 0,U R 0,U R 0,U R 0]) w:=by kernel_rfl
 have XJ:(Builtin.zeroCells (Value.agg #[U R 0,U R 0,U R 0,U R 0]).cells 1).toList=Rec.none.list:=by kernel_rfl
 have hst:=run_storeCells_cells (P:=prog) g o Rec.none.list 0 w (by intro j hj;exact hc j hj) (by intro j hj;exact hf j hj) (D9 _);simp only[oH]at hst;simp[Builtin.clear_,XJ,hst]
theorem XK(g cap:Nat)(x:Rec)(L:List Rec)(w:ai)(h:iM w g cap (x::L))(hl:L.length=7)(hc:8<=cap)(hm:cap<=maxLen):Calls prog 280 #[af (J ⟨g,0,.none⟩) 8 cap,U R 0,U R 1] w λe w'=>e=ax (af (J ⟨g,0,.none⟩) 7 cap)/\iM w' g cap L/\w.grownBy w' (J g):=by
 obtain⟨i0,hi,hz0,hz1,hz2⟩:=Bx;unfold maxLen at hm;have hc1:¬cap=1:=by omega
 have hc2:¬cap=7:=by omega
 have hc3:(8:Int)<=(cap:Int):=by omega
 have s1:aa ((dJ L).length=7*4):=by show _=_;rw[su,hl]
 have s2:aa _:=λu hu=>D3.1 (xw L) u (by simpa using hu)
 have s3:aa (∀j u,(dJ L)[j]?=J u->w.drew.cell? ((⟨g,4,.none⟩:az).add j)=J u):=λj u hu=>by
  have e:=h.raw (4+j) u (by rw[zh,ko (by simp[Rec.list])];simpa[Rec.list]using hu);have e1:(⟨g,0,.none⟩:az).add (4+j)=(⟨g,4,.none⟩:az).add j:=by unfold Addr.add;simp
  rw[e1]at e;exact e
 have s4:aa (∀j,j<(dJ L).length->(w.drew.cell? ⟨g,0+0*4+j,.none⟩).isSome=true/\w.drew.frozen? ⟨g,0+0*4+j,.none⟩=false):=λj hj=>by
  obtain⟨cur,hg,h2,-⟩:=h.row;rw[s1.o]at hj;rw[Nat.zero_mul,nj]
  refine⟨?_,by show w.frozen? _=false;simp[World.frozen?,hg]⟩;show (w.cell? _).isSome=true
  simp only[World.cell?,hg];simp
  omega
 obtain⟨cur,hg,hcs,-⟩:=h.row;have hW1:(w.drew.setCells g 0 _).heap[g]?=J (au (setFrom cur 0 (dJ L)) 119 _):=M_ _ _ _ _ hg;have Hh:=M8 (dJ L) cur 0;have lD:=XI (w.drew.setCells g 0 (dJ L)) g 28 (cap-7) (λj hj=>by simp only[World.cell?,hW1];simp;omega) (λj hj=>by simp[World.frozen?,hW1]);have HF:aa (iM ((w.drew.setCells g 0 (dJ L)).setCells g 28 Rec.none.list) g cap L/\w.grownBy ((w.drew.setCells g 0 (dJ L)).setCells g 28 Rec.none.list) (J g)):=by
  refine⟨⟨⟨_,M_ _ _ _ _ hW1,by rw[M8,Hh,hcs],?_⟩⟩,pG (xr (ky _ _) ((aC _ _).drew)) (pG (Na _ _ _ _) (Na _ _ _ _))⟩;have BG:=s1.o;rw[M9 _ _ _ (by rw[Hh,hcs];simp[Rec.list];omega),M9 _ _ _ (by rw[hcs,BG];omega),hl,iV,List.take_append,List.take_zero,tF];have e:((dJ L++cur.toList.drop (0+(dJ L).length)).take 28)=dJ L:=by
   rw[List.take_append,BG,nQ (by rw[BG];decide)];simp
  rw[e,nQ (by rw[BG];decide),BG];simp
 clear hW1 Hh hg hcs;go_enter func280,ntmps280
 go_wp2_with fail
 go_region_law (refine step_append_room rfl _ _ 123 rfl 119 i0 4 underlying123 hi hz1 g 0 0 cap (by simp[Act.eval,Act.put]) _ 7 (cap-1) _ (by simp[Act.eval,Act.put]) s1.o s3.o s2.o (by omega) s4.o ?_)
 go_wp2;go_ret;exact⟨rfl,HF.o⟩
structure bh(S:Nat->Prop)(w w':ai):Prop where
 os:w'.os=w.os
 tape:w'.tape=w.tape
 output:w'.output=w.output
 size:w.heap.size<=w'.heap.size
 block:∀k,k<w.heap.size->¬S k->w'.heap[k]?=w.heap[k]?
theorem bh.refl(S:Nat->Prop)(w:ai):bh S w w:=⟨rfl,rfl,rfl,aQ _,λ_ _ _=>rfl⟩
theorem bh.trans{S T:Nat->Prop}{a b c:ai}(h:bh S a b)(k:bh T b c)(hT:∀i,i<a.heap.size->T i->S i):bh S a c:=
 ⟨k.os.trans h.os,k.tape.trans h.tape,k.output.trans h.output,bw h.size k.size,λi hi hn=>(k.block i (eh hi h.size) (λht=>hn (hT i hi ht))).trans (h.block i hi hn)⟩
theorem bh.iO{w w':ai}{b:Nat}(h:w.grownBy w' (J b)):bh (λk=>k=b) w w':=
 ⟨h.os,h.tape,h.output,h.size,λk hk hn=>h.block k hk (by simpa using hn)⟩
theorem bh.ig{w w':ai}(h:Below w.heap.size w w')(S:Nat->Prop):bh S w w':=⟨h.os,h.tape,h.output,h.size,λk hk _=>h.block k hk⟩
theorem bh.mono{S T:Nat->Prop}{w w':ai}(h:bh S w w')(hT:∀i,i<w.heap.size->S i->T i):bh T w w':=⟨h.os,h.tape,h.output,h.size,λk hk hn=>h.block k hk (λhs=>hn (hT k hk hs))⟩
theorem bh.below{S:Nat->Prop}{B:Nat}{a w w':ai}(h:Below B a w)(k:bh S w w')(hB:B<=w.heap.size)(hS:∀i,S i->B<=i):Below B a w':=
 ⟨k.os.trans h.os,k.tape.trans h.tape,k.output.trans h.output,bw h.size k.size,λi hi=>(k.block i (by omega) (λhs=>by have:=hS i hs;omega)).trans (h.block i hi)⟩
def qW(L:List Rec)(x:Rec):List Rec:=(if L.length=8 then L.tail else L)++[x]
theorem Hi{w:ai}{rb:Nat}{a v s:ar}(h:w.heap[rb]?=J (au #[a,v,s] 241 (0,0))):w.cell? ⟨rb,1,.none⟩=J v:=by simp[World.cell?,h]
theorem Hj{w:ai}{rb:Nat}{a v s:ar}(h:w.heap[rb]?=J (au #[a,v,s] 241 (0,0)))(i:Nat):w.frozen? ⟨rb,i,.none⟩=false:=by simp[World.frozen?,h]
theorem Nb{w:ai}{rb:Nat}{a v s:ar}(h:w.heap[rb]?=J (au #[a,v,s] 241 (0,0)))(v':ar):(w.setCell ⟨rb,1,.none⟩ v').heap[rb]?=J (au #[a,v',s] 241 (0,0)):=by
 simp[World.setCell,dr,h]
theorem iM.grown{w w':ai}{g cap b:Nat}{L:List Rec}(h:iM w g cap L)(hg:w.grownBy w' (J b))(hne:g≠b):iM w' g cap L:=by
 obtain⟨cur,h1,h2,h3⟩:=h.row;exact⟨⟨cur,(hg.block g h.lt (by simpa using hne)).trans h1,h2,h3⟩⟩
theorem Nc{W W1 w8:ai}{B rb bc g cap:Nat}{L:List Rec}{x:Rec}{sp:Bool}{sa:Option az}{c:Nat}(h:eK W B rb bc (af sa L.length c) L sp)(oK:bc<W.heap.size)
  (B2:Below W.heap.size W W1) (s2:W1.heap.size=W.heap.size+1) (dy:w8.ownsRow B 119 4 (af (J ⟨g,0,.none⟩) (L.length+1) cap) (L.length+1) (dJ L++x.list)) (bZ:W1.grownBy w8 (Value.slice sa L.length c).ownBlock) (cH:(Value.slice sa L.length c).ownBlock=J g\/g=W.heap.size+1)
  (r8:w8.heap[rb]?=J (au #[aj (J ⟨bc,0,.none⟩),af sa L.length c,aI sp] 241 (0,0))):eK (w8.setCell ⟨rb,1,.none⟩ (af (J ⟨g,0,.none⟩) (L.length+1) cap)) B rb bc (af (J ⟨g,0,.none⟩) (L.length+1) cap) (L++[x]) sp/\bh (λk=>k=rb\/(Value.slice sa L.length c).ownBlock=J k) W (w8.setCell ⟨rb,1,.none⟩ (af (J ⟨g,0,.none⟩) (L.length+1) cap))/\∀k,(Value.slice (J ⟨g,0,.none⟩) (L.length+1) cap).ownBlock=J k->(Value.slice sa L.length c).ownBlock=J k\/W.heap.size<=k:=by
 have hlt:=h.lt;have hg1:g≠rb:=by
  rcases cH with e|e
  ·intro e2;rw[e2]at e;exact h.sep.1 e
  omega
 have hg2:g≠bc:=by
  rcases cH with e|e
  ·intro e2;rw[e2]at e;exact h.sep.2 e
  omega
 have kL:fD w8 B (af (J ⟨g,0,.none⟩) (L++[x]).length cap) (L++[x]):=by
  show w8.ownsRow _ _ _ _ _ _
  rw[MN,dm];exact dy
 have t_:w8.grownBy (w8.setCell ⟨rb,1,_⟩ (af (J ⟨g,0,.none⟩) (L.length+1) cap)) _:=gS (ky _ _) _ _
 refine⟨⟨Nb r8 _,?_,⟨by simpa[Value.ownBlock]using hg1,by simpa[Value.ownBlock]using hg2⟩,h.lo⟩,?_,λk e=>by
  have e2:g=k:=by simpa[Value.ownBlock]using e
  subst e2
  rcases cH with e|e
  ·exact a_ e
  right;omega⟩
 ·rcases kL.qV with⟨e,-⟩|⟨g',cap',e,hb',hrow,hlc,hm⟩
  ·cases e
  have e1:=e;simp only[tU,eR,tW]at e1;obtain⟨⟨rfl,-⟩,-,rfl⟩:=e1;have:=fD.xy (base:=B) (hrow.grown t_ hg1) hb' hlc hm;rw[dm]at this;exact this
 have o1:bh (λk=>k=rb\/(Value.slice sa L.length c).ownBlock=J k) W W1:=bh.ig B2 _;have o2:bh _ W1 w8:=⟨bZ.os,bZ.tape,bZ.output,bZ.size,λk hk hn=>bZ.block k hk (λe=>hn e.symm)⟩;exact(o1.trans o2 (λ_ _ hs=>aP hs)).trans (bh.iO t_) (λ_ _ hs=>a_ hs)
theorem XL{w W W1 w8:ai}{B rb bc g cap:Nat}{L:List Rec}{x:Rec}{sp:Bool}{sa:Option az}{c:Nat}(h:eK w B rb bc (af sa L.length c) L sp)(oK:bc<w.heap.size)(B1:Below w.heap.size w W)(hsz:W.heap.size=w.heap.size+1)
  (B2:Below W.heap.size W W1) (s2:W1.heap.size=W.heap.size+1) (dy:w8.ownsRow B 119 4 (af (J ⟨g,0,.none⟩) (L.length+1) cap) (L.length+1) (dJ L++x.list)) (bZ:W1.grownBy w8 (Value.slice sa L.length c).ownBlock) (cH:(Value.slice sa L.length c).ownBlock=J g\/g=W.heap.size+1)
  (r8:w8.heap[rb]?=J (au #[aj (J ⟨bc,0,.none⟩),af sa L.length c,aI sp] 241 (0,0))):eK (w8.setCell ⟨rb,1,.none⟩ (af (J ⟨g,0,.none⟩) (L.length+1) cap)) B rb bc (af (J ⟨g,0,.none⟩) (L.length+1) cap) (L++[x]) sp/\bh (λk=>k=rb\/(Value.slice sa L.length c).ownBlock=J k) w (w8.setCell ⟨rb,1,.none⟩ (af (J ⟨g,0,.none⟩) (L.length+1) cap))/\∀k,(Value.slice (J ⟨g,0,.none⟩) (L.length+1) cap).ownBlock=J k->(Value.slice sa L.length c).ownBlock=J k\/w.heap.size<=k:=by
 obtain⟨a,b,d⟩:=Nc (h.below B1) (by omega) B2 s2 dy bZ cH r8;exact⟨a,(bh.ig B1 _).trans b (λ_ _ hs=>hs),λk e=>(d k e).imp id (λx=>by omega)⟩
theorem XM(B rb bc:Nat)(v:ar)(L:List Rec)(sp:Bool)(x:Rec)(w:ai)(h:eK w B rb bc v L sp)(oK:bc<w.heap.size)(hl:L.length<8):Calls prog 257 #[aj (J ⟨rb,0,.none⟩),x.val] w λe w'=>e=ax (bn #[])/\∃v',eK w' B rb bc v' (L++[x]) sp/\bh (λk=>k=rb\/v.ownBlock=J k) w w'/\∀k,v'.ownBlock=J k->v.ownBlock=J k\/w.heap.size<=k:=by
 obtain⟨i0,hi,hz0,hz1,hz2⟩:=Bx;obtain⟨sa,c,rfl⟩:=h.recs.len;have hne:¬L.length=8:=by omega
 have aiO:¬(L.length:Int)=8:=by omega
 have B1:=(aC _ w).alloc (aQ _) (au #[U R (x.seq:Int),U R (x.dU:Int),U R (x.kind:Int),U R (x.tick:Int)] 119);have R1:=h.below B1;have hlt:=h.lt;have fE:=h.lo;have X1:=nk.new w x 119;obtain⟨W,hW⟩:∃W,w.alloc (au #[U R (x.seq:Int),U R (x.dU:Int),U R (x.kind:Int),U R (x.tick:Int)] 119)=W:=⟨_,rfl⟩;have hsz:W.heap.size=w.heap.size+1:=by rw[<- hW];simp
 rw[hW]at B1 R1 X1;have HW:aa _:=hW;clear hW;obtain⟨x0,x1,x2,x3⟩:=X1;have c1:=R1.c1;have f1:=R1.frozen 1;have hown:W.ownsRow B 119 4 _ _ _:=R1.recs;unfold Rec.val;go_enter func257,ntmps257
 go_upto_region 1 with fail
 rw[HW.o];go_wp2_with fail
 have KB:aa (∀(o:Obj) (w8:ai),(W.drew.alloc o).grownBy w8 _->w8.heap[rb]?=J _):=λo w8 hg=>
  ((hg.block rb (by simp;omega) (λe=>h.sep.1 e.symm)).trans (((aC W.heap.size _).alloc (aQ _) o).block rb (by omega))).trans R1.heap
 have Hk:W.drew.ownsRow B 119 4 _ _ _:=hown;go_region_law (refine ni _ rfl _ _ 123 rfl B 119 i0 _ 4 32 underlying123 hi hz0 hz1 hz2 rfl (by decide) _ _ _ (by simp[Act.eval]) (Hk.alloc _) _ 1 1 _ (by simp[Act.eval]) rfl (G_ _ x 119) (D9 x) (by decide) (by unfold maxLen;omega) (by omega) (by simp;omega) (W.heap.size+1) (by simp) ?_;intro g cap w8 dy bZ cH ld;have r8:=KB.o _ _ bZ;have d1:=Hi r8;have d2:=Hj r8 1)
 all_goals
  go_wp2;go_end0
  exact⟨rfl,_,XL h oK B1 hsz (((aC _ _).alloc (aQ _) _).drew) (by simp) dy bZ cH r8⟩
theorem eK.swap{w w' w'':ai}{B rb bc:Nat}{v v':ar}{L M:List Rec}{sp:Bool}{g cap:Nat}(h:eK w B rb bc v L sp)(hv:v.ownBlock=J g)(hv':v'=af (J ⟨g,0,.none⟩) M.length cap)(hg:w.grownBy w' (J g))(hrow:iM w' g cap M)(hl:M.length<=cap)(hm:cap<=maxLen)(hw:w''=w'.setCell ⟨rb,1,.none⟩ v'):eK w'' B rb bc v' M sp/\bh (λk=>k=rb\/v.ownBlock=J k) w w'':=by
 have hgb:g≠rb:=λe=>h.sep.1 (by rw[hv,e])
 have XN:g≠bc:=λe=>h.sep.2 (by rw[hv,e])
 have r1:=(hg.block rb h.lt (by simpa using λe:rb=g=>hgb e.symm)).trans h.heap;have t_:w'.grownBy (w'.setCell ⟨rb,1,_⟩ v') _:=gS (ky _ _) _ _;subst hw
 refine⟨⟨Nb r1 _,?_,?_,h.lo⟩,?_⟩
 ·subst hv';exact fD.xy (hrow.grown t_ hgb) (h.recs.lt g hv).1 hl hm
 ·subst hv';exact⟨by simpa[Value.ownBlock]using hgb,by simpa[Value.ownBlock]using XN⟩
 exact((bh.iO hg).mono (λk _ e=>aP (by rw[hv,e]))).trans (bh.iO t_) (λ_ _ e=>a_ e)
theorem XO(B rb bc:Nat)(v:ar)(y:Rec)(M:List Rec)(sp:Bool)(x:Rec)(w:ai)(h:eK w B rb bc v (y::M) sp)(oK:bc<w.heap.size)(hl:M.length=7):Calls prog 257 #[aj (J ⟨rb,0,.none⟩),x.val] w λe w'=>e=ax (bn #[])/\∃v',eK w' B rb bc v' (M++[x]) sp/\bh (λk=>k=rb\/v.ownBlock=J k) w w'/\∀k,v'.ownBlock=J k->v.ownBlock=J k\/w.heap.size<=k:=by
 obtain⟨i0,hi,hz0,hz1,hz2⟩:=Bx;have B1:=(aC _ w).alloc (aQ _) (au #[U R (x.seq:Int),U R (x.dU:Int),U R (x.kind:Int),U R (x.tick:Int)] 119);have R1:=h.below B1;have hlt:=h.lt;have fE:=h.lo;have X1:=nk.new w x 119;obtain⟨W,hW⟩:∃W,w.alloc (au #[U R (x.seq:Int),U R (x.dU:Int),U R (x.kind:Int),U R (x.tick:Int)] 119)=W:=⟨_,rfl⟩;have hsz:W.heap.size=w.heap.size+1:=by rw[<- hW];simp
 rw[hW]at B1 R1 X1;have HW:aa _:=hW;clear hW
 rcases R1.recs.qV with⟨-,e0⟩|⟨g,cap,hv,hbg,hrow,hlc,hm⟩
 ·cases e0
 rw[kr,hl]at hv hlc;have aiP:=h.recs.lt g (by rw[hv];rfl);have DR:=XK g cap y M W hrow hl hlc hm;have hv2:v.ownBlock=J g:=by rw[hv];rfl
 have c1:=R1.c1;have f1:=R1.frozen 1;rw[hv]at c1;have Nd:aa _:=DR;clear DR;unfold Rec.val;go_enter func257,ntmps257
 go_upto_region 1 with fail
 rw[HW.o];go_wp2_with fail
 refine aL Nd.o ?_;rintro e w2 ⟨rfl,hrow2,hg2⟩;have r2:=(hg2.block rb R1.lt (λe=>R1.sep.1 (by rw[hv2,e]))).trans R1.heap;have d1:=Hi r2;have d2:=Hj r2 1;go_upto_region 3 with fail
 obtain⟨W2,hW2⟩:∃W2,w2.setCell ⟨rb,1,.none⟩ (af (J ⟨g,0,.none⟩) 7 cap)=W2:=⟨_,rfl⟩;obtain⟨R2,O2⟩:=R1.swap (w'':=W2) (M:=M) (cap:=cap) (v':=af _ _ cap) hv2 rfl hg2 hrow2 (by omega) hm (by rw[hl];exact hW2.symm);have hs2:=O2.size;have nx:¬(w.heap.size=rb\/v.ownBlock=J w.heap.size):=by
  rintro(e|e)
  ·omega
  rw[hv2]at e;have:=bj e;omega
 have X2:nk W2 w.heap.size x:=by
  have e:=O2.block _ (by omega) nx;exact⟨(qj e).trans X1.c0,(qj e).trans X1.c1,(qj e).trans X1.c2,(qj e).trans X1.c3⟩
 rw[hW2];have O3:=(bh.ig B1 _).trans O2 (λ_ _ hs=>hs);clear c1 f1 d1 d2 r2 hW2 Nd HW hrow hrow2 hg2 R1 B1 O2 X1;rw[hl]at R2;obtain⟨x0,x1,x2,x3⟩:=X2;have c1:=R2.c1;have f1:=R2.frozen 1;have KB:aa (∀(o:Obj) (w8:ai),(W2.drew.alloc o).grownBy w8 _->w8.heap[rb]?=J _):=λo w8 hg=>
  ((hg.block rb (by simp;omega) (λe=>R2.sep.1 e.symm)).trans (((aC W2.heap.size _).alloc (aQ _) o).block rb (by omega))).trans R2.heap
 have Hk:W2.drew.ownsRow B 119 4 (af (J ⟨g,0,.none⟩) 7 cap) 7 (dJ M):=by
  have:=R2.recs;unfold fD at this;rw[hl]at this;exact this
 have Xl:rb<W2.heap.size:=by omega
 have aiQ:¬rb=W2.heap.size:=by omega
 have KE:aa (∀(W1 w8:ai) (g' cap':Nat),Below W2.heap.size W2 W1->W1.heap.size=W2.heap.size+1->w8.ownsRow B 119 4 (af (J ⟨g',0,.none⟩) (7+1) cap') (7+1) (dJ M++x.list)->W1.grownBy w8 (Value.slice (J ⟨g,0,.none⟩) 7 cap).ownBlock->((Value.slice (J ⟨g,0,.none⟩) 7 cap).ownBlock=J g'\/g'=W2.heap.size+1)->w8.heap[rb]?=J (au #[aj (J ⟨bc,0,.none⟩),af (J ⟨g,0,.none⟩) 7 cap,aI sp] 241 (0,0)) ->
   ∃v',v'=Value.slice (J ⟨g',0,.none⟩) (7+1) cap'/\eK (w8.setCell ⟨rb,1,.none⟩ v') B rb bc v' (M++[x]) sp/\bh (λk=>k=rb\/v.ownBlock=J k) w (w8.setCell ⟨rb,1,.none⟩ v')/\∀k,v'.ownBlock=J k->v.ownBlock=J k\/w.heap.size<=k):=by
  intro W1 w8 g' cap' b2 s2 ho hg cH r8;have XP:eK W2 B rb bc (af (J ⟨g,0,.none⟩) M.length cap) M sp:=by rw[hl];exact R2
  have:=Nc (W:=W2) (W1:=W1) (w8:=w8) (g:=g') (cap:=cap') (x:=x) XP (by omega) b2 s2 (by rw[hl];exact ho) (by rw[hl];exact hg) (by rw[hl];exact cH) (by rw[hl];exact r8);rw[hl]at this
  refine⟨_,rfl,this.1,O3.trans this.2.1 (λk _ hs=>?_),λk e=>(this.2.2 k e).imp (λe=>by rw[hv2];exact e) (λx=>by omega)⟩
  rcases hs with e|e
  ·exact a_ e
  right;rw[hv2];exact e
 go_region_law (refine ni _ rfl _ _ 123 rfl B 119 i0 _ 4 32 underlying123 hi hz0 hz1 hz2 rfl (by decide) _ 7 _ (by simp[Act.eval]) (Hk.alloc _) _ 1 1 _ (by simp[Act.eval]) rfl (G_ W2.drew x 119) (D9 x) (by decide) (by unfold maxLen;omega) (by omega) (by simp;omega) (W2.heap.size+1) (by simp) ?_;intro g' cap' w8 dy bZ cH ld;have r8:=KB.o _ _ bZ;have d1:=Hi r8;have d2:=Hj r8 1)
 all_goals
  go_wp2;go_end0
  obtain⟨v',rfl,K1,K2,K3⟩:=KE.o _ _ _ _ (((aC _ _).alloc (aQ _) _).drew) (by simp) dy bZ cH r8;exact⟨rfl,_,K1,K2,K3⟩
end
end Go.Proofs.YtgmfhkjghmdgiaaGreatDoor
