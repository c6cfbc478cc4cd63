/-
  Several texts as one: RingNum, RingEnc, RingDec, RingHeld, RingHeld2, RingSl.
-/
import Derived.Test.YtffpcbdlbcjihadGreatDoorP03S
import Derived.Laws.ShiftsVarLaws
import Derived.Deep.AppendLies
import Derived.Laws.MakeOwn
import Derived.Deep.DeepCutAuto
import Derived.Lib.BufferWrite
import Derived.Deep.RegionHeld3
import Derived.Laws.IdiomStrings
import Derived.Laws.ResultCell
import Derived.Laws.CopyOwn
import Derived.Outline
import Derived.Laws.Strings2
import Derived.Laws.Tables
import Derived.BigRegion
import Derived.RegionTactic
namespace Go.Proofs.YtffpcbdlbcjihadGreatDoor
open Go.RowKit Go.Extern.Stop Go.Stop Go.Extern
def numB (l:List UInt8):Nat:=l.foldl (fun a b=>a*256+b.toNat) 0
def be:Nat->Nat->List UInt8
 | 0,_=>[]
 | n+1,v=>UInt8.ofNat (v / 256 ^ n) :: be n v
theorem be_length (n v:Nat):(be n v).length=n:=by induction n with
 | zero=>rfl
 | succ n ih=>simp[be,ih]
theorem num_from (l:List UInt8):∀ a,l.foldl (fun a b=>a*256+b.toNat) a=a*256 ^ l.length+numB l:=by
 induction l with
 | nil=>intro a;simp[numB]
 | cons x r ih=>
  intro a;have e:numB (x :: r)=x.toNat*256 ^ r.length+numB r:=by
   show r.foldl _ (0*256+x.toNat)=_
   rw[ih,Nat.zero_mul,Nat.zero_add]
  simp only[List.foldl_cons,ih,e,List.length_cons,Nat.pow_succ,Nat.add_mul];rw[Nat.mul_assoc,Nat.mul_comm 256 (256 ^ r.length)];omega
theorem num_cons (x:UInt8)(r:List UInt8):numB (x :: r)=x.toNat*256 ^ r.length+numB r:=by
 show r.foldl _ (0*256+x.toNat)=_
 rw[num_from,Nat.zero_mul,Nat.zero_add]
theorem num_snoc (l:List UInt8)(x:UInt8):numB (l++[x])=numB l*256+x.toNat:=by simp[numB,List.foldl_append]
theorem num_lt (l:List UInt8):numB l < 256 ^ l.length:=by
 induction l with
 | nil=>simp[numB]
 | cons x r ih=>
  rw[num_cons,List.length_cons,Nat.pow_succ,Nat.mul_comm (256 ^ r.length)];have h:=x.toNat_lt;have:x.toNat*256 ^ r.length<=255*256 ^ r.length:=Nat.mul_le_mul_right _ (by omega);omega
theorem wraps_i64 (n:Int)(h₀:0<=n)(h₁:n < 2 ^ 63):IntKind.i64.wrap n=n:=by
 simp only[IntKind.wrap,IntKind.bits,IntKind.signed];simp
 omega
theorem w64 (n:Int)(h:-9223372036854775808<=n/\n<=9223372036854775807):wrap64 n=n:=by unfold wrap64;omega
theorem or_low (v:Nat)(x:UInt8)(h:v < 1099511627776):bits BinOp.or IntKind.i64 (wrap64 ((v:Int)*256)) (wrap64 (x.toNat:Int))=((v*256+x.toNat:Nat):Int):=by
 have hx:=x.toNat_lt;rw[w64 _ (by omega),w64 _ (by omega),bits_join .i64 63 (by decide) wraps_i64 8 ((v:Int)*256) (x.toNat:Int) (by omega) (by omega) (by omega) (by omega) (by omega) (by omega)];omega
set_option maxHeartbeats 1000000 in
theorem number_any (t:ByteArray)(w:World)(hl:t.size<=6) :
  Calls Tryz.prog 303 #[.string t] w fun e w'=>e=.returned (.int .i64 (numB t.data.toList:Nat))/\w'=w:=by
 go_enter Tryz.func303,Tryz.ntmps303
 go_wp2_with fail
 go_loopw [3,7] (fun s i wr=>∃ (k:Nat),k<=t.size/\i=.int .i64 k/\s=.int .i64 (numB (t.data.toList.take k):Nat)/\wr=w) (fun _ i _=>t.size - (intOf i).toNat)
 case atStart=>exact⟨0,Nat.zero_le _,rfl,rfl,rfl⟩
 case round=>
  obtain⟨k,hk,rfl,rfl,rfl⟩:=hrel
  by_cases hlt:k < t.size
  ·have HV:Hid (numB (t.data.toList.take k) < 1099511627776):=by
    show _ < _
    have h1:=num_lt (t.data.toList.take k);have h2:(t.data.toList.take k).length<=5:=by rw[List.length_take];simp;omega
    have h3:256 ^ (t.data.toList.take k).length<=256 ^ 5:=Nat.pow_le_pow_right (by decide) h2;omega
   have HN:Hid (numB (t.data.toList.take (k+1))=numB (t.data.toList.take k)*256+t[k].toNat):=by
    show _=_
    rw[take_snoc t k hlt,num_snoc]
   go_wp2_with fail
   rw[or_low _ _ HV.out,<- HN.out];exact⟨⟨k+1,by omega,by go_num,rfl,trivial⟩,by simp[intOf];omega⟩
  ·have HT:Hid (t.data.toList.take k=t.data.toList):=List.take_of_length_le (by simp;omega);go_wp2;go_ret;rw[HT.out];exact⟨rfl,rfl⟩
theorem Tryz.infoByte:∃ i:TypeInfo,Tryz.prog.info? 5=some i/\i.zero=some (.int .u8 0)/\i.size=1/\i.bytes=1:=by
 have h:(Tryz.prog.info? 5).map (fun i=>(i.zero,i.size,i.bytes))=some (some (.int .u8 0),1,1):=by kernel_rfl
 obtain⟨i,hi,he⟩:=Option.map_eq_some_iff.1 h;simp only[Prod.mk.injEq] at he;exact⟨i,hi,he.1,he.2.1,he.2.2⟩
theorem add_val (x j:Nat):byteVal (UInt8.ofNat (x / 256 ^ j))=.int .u8 ((x:Int) / 2 ^ (8*j) % 256):=by
 unfold byteVal;rw[UInt8.toNat_ofNat',Int.pow_mul];have:((256 ^ j:Nat):Int)=(2 ^ 8:Int) ^ j:=by rw[Int.natCast_pow];rfl
 rw[<- this];congr 1
theorem cell_one (w:World)(u:Value)(ty:TypeId):∀ j x,[u][j]?=some x->(w.alloc (.cells #[u] ty)).cell? ((⟨w.heap.size,0,none⟩:Addr).add j)=some x:=by
 intro j x hj
 match j,hj with
 | 0,hj=>
  have e:x=u:=by simpa using hj.symm
  subst e;exact World.cell?_alloc_at _ _ _ _ rfl
set_option maxRecDepth 100000 in
set_option maxHeartbeats 1000000 in
theorem add_any (base:Nat)(v:Value)(n:Nat)(l:List UInt8)(x many:Nat)(w:World)(hown:w.ownsRow base 5 1 v n (l.map byteVal))(hb:base<=w.heap.size)(hn:n+many<=100)(hm:many<=7) :
  Calls Tryz.prog 323 #[v,.int .i64 (x:Int),.int .i64 (many:Int)] w fun e w'=>∃ v',e=.returned v'/\w'.ownsRow base 5 1 v' (n+many) ((l++be many x).map byteVal)/\Below base w w':=by
 obtain⟨i0,hi,hz0,hz1,hz2⟩:=Tryz.infoByte;go_enter Tryz.func323,Tryz.ntmps323
 go_wp2_with fail
 go_loopw [0,7] (fun u i wr=>∃ (j:Nat) (pre:List UInt8),j<=many/\i=.int .i64 ((j:Int) - 1)/\l++be many x=pre++be j x/\wr.ownsRow base 5 1 u (n+many - j) (pre.map byteVal)/\Below base w wr) (fun _ i _=>(intOf i+1).toNat)
 case atStart=>exact⟨many,l,Nat.le_refl _,rfl,rfl,by rw[Nat.add_sub_cancel];exact hown,Below.refl _ _⟩
 case round=>
  obtain⟨j,pre,hj,rfl,hpre,hown',hbel⟩:=hrel
  cases j with
  | succ j=>
   rw[show (((j+1:Nat):Int) - 1)=(j:Int) by omega];have HV:Hid _:=add_val x j;have hsz:=hbel.size;have HP:Hid (l++be many x=(pre++[UInt8.ofNat (x / 256 ^ j)])++be j x):=by
    show _=_
    rw[hpre];simp[be]
   have HM:Hid ((pre++[UInt8.ofNat (x / 256 ^ j)]).map byteVal=pre.map byteVal++[.int .u8 ((x:Int) / 2 ^ (8*j) % 256)]):=by
    show _=_
    rw[List.map_append,List.map_cons,List.map_nil,HV.out]
   clear hpre;go_wp2_with (at_builtin;refine wpList_append_own _ rfl (.tmp 14) (.tmp 20) 58 rfl base 5 i0 (.int .u8 0) 1 1 Tryz.underlying58 hi hz0 hz1 hz2 rfl (by decide) _ _ _ rfl (hown'.alloc _) ⟨wr.heap.size,0,none⟩ 1 1 [.int .u8 ((x:Int) / 2 ^ (8*j) % 256)] rfl rfl (cell_one _ _ _) (by intro u hu;simp at hu;subst hu;rfl) (by unfold maxLen;omega) (by omega) (by simp;omega) ?_;intro v1 w1 hown1 hgrow1 hlt1)
   go_roundw
   case rel=>exact⟨j,pre++[UInt8.ofNat (x / 256 ^ j)],by omega,by go_num,HP.out,by rw[HM.out,show n+many - j=n+many - (j+1)+1 by omega];exact hown1,(hbel.alloc (by omega) _).grown hgrow1 (by simp;omega) (fun k hk=>(hown'.lt k hk).1)⟩
   case measure=>simp[intOf]
  | zero=>
   go_wp2;go_ret;simp only[be,List.append_nil] at hpre;exact⟨_,rfl,by rw[hpre];exact hown',hbel⟩
structure Rec where
 seq:Nat
 ent:Nat
 kind:Nat
 tick:Nat
def Rec.list (r:Rec):List Value:=[.int .i64 (r.seq:Int),.int .i64 (r.ent:Int),.int .i64 (r.kind:Int),.int .i64 (r.tick:Int)]
def Rec.val (r:Rec):Value:=.agg #[.int .i64 (r.seq:Int),.int .i64 (r.ent:Int),.int .i64 (r.kind:Int),.int .i64 (r.tick:Int)]
def Rec.none:Rec:=⟨0,0,0,0⟩
structure RecAt (w:World)(b:Nat)(r:Rec):Prop where
 c0:w.cell? ⟨b,0,.none⟩=some (.int .i64 (r.seq:Int))
 c1:w.cell? ⟨b,1,.none⟩=some (.int .i64 (r.ent:Int))
 c2:w.cell? ⟨b,2,.none⟩=some (.int .i64 (r.kind:Int))
 c3:w.cell? ⟨b,3,.none⟩=some (.int .i64 (r.tick:Int))
theorem RecAt.below {w w':World}{b B:Nat}{r:Rec}(h:RecAt w b r)(hb:Below B w w')(hlt:b < B):RecAt w' b r:=
 ⟨(hb.cell (by exact hlt)).trans h.c0,(hb.cell (by exact hlt)).trans h.c1,(hb.cell (by exact hlt)).trans h.c2,(hb.cell (by exact hlt)).trans h.c3⟩
theorem RecAt.new (w:World)(r:Rec)(ty:TypeId):RecAt (w.alloc (.cells #[.int .i64 (r.seq:Int),.int .i64 (r.ent:Int),.int .i64 (r.kind:Int),.int .i64 (r.tick:Int)] ty)) w.heap.size r:=
 ⟨World.cell?_alloc_at _ _ _ _ rfl,World.cell?_alloc_at _ _ _ _ rfl,World.cell?_alloc_at _ _ _ _ rfl,World.cell?_alloc_at _ _ _ _ rfl⟩
def enc12 (r:Rec):List UInt8:=be 4 r.seq++be 1 r.ent++be 1 r.kind++be 6 r.tick
def enc16 (r:Rec):List UInt8:=enc12 r++be 4 (crc (enc12 r))
def enc (r:Rec):List UInt8:=enc16 r++[165]
theorem enc12_length (r:Rec):(enc12 r).length=12:=by simp[enc12,be_length]
theorem enc16_length (r:Rec):(enc16 r).length=16:=by simp[enc16,enc12_length,be_length]
theorem enc_length (r:Rec):(enc r).length=17:=by simp[enc,enc16_length]
theorem own_form {w:World}{base n:Nat}{v:Value}{l:List UInt8}(h:w.ownsRow base 5 1 v n (l.map byteVal))(hn:0 < n) :
  ∃ g c,v=.slice (some ⟨g,0,.none⟩) l.length c/\l.length=n/\∀ i (hi:i < l.length),w.cell? ((⟨g,0,.none⟩:Addr).add i)=some (.int .u8 (l[i].toNat:Int)):=by
 obtain⟨hl,h | ⟨g,c,cur,rfl,-,hg,hnc,-,hcs,hx⟩⟩:=h
 ·omega
 ·have hln:l.length=n:=by simpa using hl
  refine⟨g,c,by rw[hln],hln,fun i hi=>?_⟩;have e:cur[i]?=some (byteVal l[i]):=by
   have:=congrArg (fun z=>z[i]?) hx;simp only[List.getElem?_take,List.getElem?_map,List.getElem?_eq_getElem hi,Nat.mul_one,Array.getElem?_toList,if_pos (show i < n by omega)] at this;simpa using this
  have ea:(⟨g,0,.none⟩:Addr).add i=⟨g,i,.none⟩:=by unfold Addr.add;split <;> simp_all
  rw[ea];simp only[World.cell?,hg];simpa[byteVal] using e
theorem conv_own {w:World}{base n:Nat}{v:Value}{l:List UInt8}(h:w.ownsRow base 5 1 v n (l.map byteVal))(hn:0 < n) :
  (convert 58 9 v).run Tryz.prog w=.ok (.string ⟨l.toArray⟩) w:=by
 obtain⟨g,c,rfl,-,hc⟩:=own_form h hn;exact run_convert_bytes_back (P:=Tryz.prog) w 58 9 5 ⟨g,0,.none⟩ c l Tryz.underlying58 Tryz.underlying5 Tryz.underlying9 hc
set_option maxRecDepth 100000 in
set_option maxHeartbeats 2000000 in
theorem encode_any (r:Rec)(w:World) :
  Calls Tryz.prog 304 #[r.val] w fun e w'=>e=.returned (.string ⟨(enc r).toArray⟩)/\Below w.heap.size w w':=by
 obtain⟨i0,hi,hz0,hz1,hz2⟩:=Tryz.infoByte;have R0:=RecAt.new w r 118;unfold Rec.val;go_enter Tryz.func304,Tryz.ntmps304
 go_upto_region 2 with (at_make;refine wpList_make_own _ rfl _ _ 58 rfl (w.heap.size+1) 5 i0 (.int .u8 0) 1 Tryz.underlying58 hi hz0 hz1 .i64 .i64 17 17 rfl rfl rfl (by rw[hz2];omega) (by unfold maxLen;omega) (by simp) ?_;intro w0 hown0 hgrow0)
 have R1:=R0.below ((Below.refl (w.heap.size+1) _).grown hgrow0 (by simp) (fun k h=>by cases h)) (Nat.lt_succ_self _);have B1:=((Below.refl w.heap.size w).alloc (Nat.le_refl _) (.cells #[.int .i64 (r.seq:Int),.int .i64 (r.ent:Int),.int .i64 (r.kind:Int),.int .i64 (r.tick:Int)] 118)).grown hgrow0 (by simp) (fun k h=>by cases h);have s1:=hgrow0.size;simp only[World.size_alloc] at s1 hown0;have q0:=R1.c0;go_wp2_with fail
 refine(add_any (w.heap.size+1) _ 0 [] r.seq 4 _ hown0 s1 (by omega) (by omega)).mono ?_;rintro e w2 ⟨v2,rfl,hown2,hb2⟩;have R2:=R1.below hb2 (Nat.lt_succ_self _);have s2:=hb2.size;have q1:=R2.c1;go_wp2_with fail
 refine(add_any (w.heap.size+1) v2 _ _ r.ent 1 _ hown2 (by omega) (by omega) (by omega)).mono ?_;rintro e w3 ⟨v3,rfl,hown3,hb3⟩;have R3:=R2.below hb3 (Nat.lt_succ_self _);have s3:=hb3.size;have q2:=R3.c2;go_wp2_with fail
 refine(add_any (w.heap.size+1) v3 _ _ r.kind 1 _ hown3 (by omega) (by omega) (by omega)).mono ?_;rintro e w4 ⟨v4,rfl,hown4,hb4⟩;have R4:=R3.below hb4 (Nat.lt_succ_self _);have s4:=hb4.size;have q3:=R4.c3;go_wp2_with fail
 refine(add_any (w.heap.size+1) v4 _ _ r.tick 6 _ hown4 (by omega) (by omega) (by omega)).mono ?_;rintro e w5 ⟨v5,rfl,hown5,hb5⟩;have s5:=hb5.size;have E12:[]++be 4 r.seq++be 1 r.ent++be 1 r.kind++be 6 r.tick=enc12 r:=by unfold enc12;rw[List.nil_append]
 rw[E12] at hown5;obtain⟨g,c,rfl,hlen,hcells⟩:=own_form hown5 (by omega);go_wp2_with fail
 refine(sum_any _ c (enc12 r) _ hcells (by rw[enc12_length];omega)).mono ?_;rintro e w6 ⟨rfl,rfl⟩;have HW:Hid (wrap64 ((crc (enc12 r):Nat):Int)=((crc (enc12 r):Nat):Int)):=w64 _ (by have:=crc_lt (enc12 r);omega);have HM:Hid ((enc r).map byteVal=(enc12 r++be 4 (crc (enc12 r))).map byteVal++[.int .u8 165]):=by
  show _=_
  unfold enc enc16;rw[List.map_append];rfl
 go_wp2_with fail
 rw[HW.out]
 refine(add_any (w.heap.size+1) _ _ _ (crc (enc12 r)) 4 _ hown5 (by omega) (by omega) (by omega)).mono ?_;rintro e w7 ⟨v7,rfl,hown7,hb7⟩;have s7:=hb7.size;go_wp2_with (at_builtin;refine wpList_append_own _ rfl (.tmp 26) (.tmp 27) 58 rfl (w.heap.size+1) 5 i0 (.int .u8 0) 1 1 Tryz.underlying58 hi hz0 hz1 hz2 rfl (by decide) _ _ _ rfl (hown7.alloc _) ⟨w7.heap.size,0,.none⟩ 1 1 [.int .u8 165] rfl rfl (cell_one _ _ _) (by intro u hu;simp at hu;subst hu;rfl) (by unfold maxLen;omega) (by omega) (by simp;omega) ?_;intro v8 w8 hown8 hgrow8 hlt8;rw[<- HM.out] at hown8;have cv:=conv_own hown8 (by omega))
 go_ret
 refine⟨rfl,?_⟩;have B5:=(((B1.trans (hb2.mono (by omega))).trans (hb3.mono (by omega))).trans (hb4.mono (by omega))).trans (hb5.mono (by omega));have B7:=B5.trans (hb7.mono (by omega));exact(B7.alloc (by omega) _).grown hgrow8 (by simp;omega) (fun k hk=>by have:=(hown7.lt k hk).1;omega)
structure RecRow (w:World)(b:Nat)(r:Rec):Prop where
 heap:w.heap[b]?=some (.cells #[.int .i64 (r.seq:Int),.int .i64 (r.ent:Int),.int .i64 (r.kind:Int),.int .i64 (r.tick:Int)] 118 (0,0))
theorem RecRow.at {w:World}{b:Nat}{r:Rec}(h:RecRow w b r):RecAt w b r:=by
 refine⟨?_,?_,?_,?_⟩ <;> simp[World.cell?,h.heap]
theorem RecRow.frozen {w:World}{b:Nat}{r:Rec}(h:RecRow w b r)(i:Nat):w.frozen? ⟨b,i,.none⟩=false:=by simp[World.frozen?,h.heap]
theorem RecRow.below {w w':World}{b B:Nat}{r:Rec}(h:RecRow w b r)(hb:Below B w w')(hlt:b < B):RecRow w' b r:=⟨(hb.block b hlt).trans h.heap⟩
theorem RecRow.lt {w:World}{b:Nat}{r:Rec}(h:RecRow w b r):b < w.heap.size:=lt_of_row h.heap
theorem res_rec {fn:Func}{p u:Tmp}(h:fn.results=#[.cell p 118,.tmp u])(tmps:Array Value)(w:World)(b:Nat)(r:Rec)(hp:tmps.getD p undef=.pointer (some ⟨b,0,.none⟩))(hr:RecAt w b r) :
  (results fn tmps).run Tryz.prog w=.ok (.tuple #[r.val,tmps.getD u undef]) w:=by
 obtain⟨c0,c1,c2,c3⟩:=hr;rw[results_cell_tmp h,hp];go_simp
 rfl
theorem RecRow.set4 {w:World}{b:Nat}{r0:Rec}(h:RecRow w b r0)(r:Rec) :
  RecRow ((((w.setCell ⟨b,0,.none⟩ (.int .i64 (r.seq:Int))).setCell ⟨b,1,.none⟩ (.int .i64 (r.ent:Int))).setCell ⟨b,2,.none⟩ (.int .i64 (r.kind:Int))).setCell ⟨b,3,.none⟩ (.int .i64 (r.tick:Int))) b r:=by
 refine⟨?_⟩;simp[World.setCell,Array.getElem?_modify,h.heap]
theorem grown_set4 (w:World)(b:Nat)(v0 v1 v2 v3:Value) :
  w.grownBy ((((w.setCell ⟨b,0,.none⟩ v0).setCell ⟨b,1,.none⟩ v1).setCell ⟨b,2,.none⟩ v2).setCell ⟨b,3,.none⟩ v3) (some b):=
 grown_set (grown_set (grown_set (grown_set (grown_refl _ _) _ _) _ _) _ _) _ _
theorem RecRow.new (w:World)(r:Rec):RecRow (w.alloc (.cells #[.int .i64 (r.seq:Int),.int .i64 (r.ent:Int),.int .i64 (r.kind:Int),.int .i64 (r.tick:Int)] 118)) w.heap.size r:=
 ⟨heap_alloc_new w _⟩
theorem text_inj {a b:ByteArray}(h:a.toList=b.toList):a=b:=by
 rw[ByteArray.toList_eq,ByteArray.toList_eq] at h;exact ByteArray.ext (Array.toList_inj.1 h)
theorem two_new1 (w:World)(a b:Obj):((w.alloc a).alloc b).drew.heap[w.heap.size+1]?=some b:=by
 have:=heap_alloc_new (w.alloc a) b;simp only[World.size_alloc] at this;exact this
theorem two_new0 (w:World)(a b:Obj):((w.alloc a).alloc b).drew.heap[w.heap.size]?=some a:=
 (((Below.refl (w.heap.size+1) (w.alloc a)).alloc (by simp) b).block w.heap.size (Nat.lt_succ_self _)).trans (heap_alloc_new w a)
def dec0 (l:List UInt8):Rec:=⟨numB (l.take 4),numB ((l.drop 4).take 1),numB ((l.drop 5).take 1),numB ((l.drop 6).take 6)⟩
open Classical in
def dec (l:List UInt8):Option Rec:=if (dec0 l).seq < 1\/enc (dec0 l)≠l then none else some (dec0 l)
def decR (l:List UInt8):Rec:=(dec l).getD .none
def decB (l:List UInt8):Bool:=(dec l).isSome
theorem number_ext (t:ByteArray)(p q:Nat)(w:World)(h:p<=q/\q<=p+6/\q<=t.size) :
  Calls Tryz.prog 303 #[.string (t.extract p q)] w fun e w'=>e=.returned (.int .i64 (numB ((t.data.toList.drop p).take (q - p)):Nat))/\w'=w:=by
 have h:=number_any (t.extract p q) w (by simp;omega);rw[Lib.extract_data] at h;exact h
set_option maxRecDepth 100000 in
set_option maxHeartbeats 2000000 in
theorem decode_any (t:ByteArray)(w:World)(ht:t.size=17) :
  Calls Tryz.prog 269 #[.string t] w fun e w'=>e=.returned (.tuple #[(decR t.data.toList).val,.bool (decB t.data.toList)])/\Below w.heap.size w w':=by
 have ht':(t.size:Int)=17:=by omega
 go_enter Tryz.func269,Tryz.ntmps269
 go_upto_region 1 with fail
 go_cut [4] (fun p wx=>p=.pointer (some ⟨w.heap.size+1,0,none⟩)/\wx.heap.size=w.heap.size+2/\RecRow wx (w.heap.size+1) (dec0 t.data.toList)/\RecRow wx w.heap.size .none/\Below w.heap.size w wx)
 case first=>
  go_region_held3 (fun _=>True) (exact trivial) (first | (go_at_call 303;refine(number_ext t _ _ _ ?_).mono ?_;omega;rintro e w' ⟨rfl,rfl⟩))
  all_goals
   go_wp2_with fail
   go_meet
   case rel=>
    refine⟨rfl,by simp,⟨?_⟩,⟨?_⟩,?_⟩
    ·exact two_new1 w _ _
    ·exact two_new0 w _ _
    ·exact(((Below.refl _ _).alloc (Nat.le_refl _) _).alloc (by simp) _).drew
 case rest=>
  obtain⟨rfl,hsz,hx,hz,hb⟩:=hcut;obtain⟨x0,x1,x2,x3⟩:=hx.at;obtain⟨z0,z1,z2,z3⟩:=hz.at;have f0:=hz.frozen 0;have f1:=hz.frozen 1;have f2:=hz.frozen 2;have f3:=hz.frozen 3
  by_cases h1:(dec0 t.data.toList).seq < 1
  ·have h1':((dec0 t.data.toList).seq:Int) < 1:=by omega
   have HR:Hid (decR t.data.toList=.none/\decB t.data.toList=false):=by
    have:dec t.data.toList=none:=if_pos (Or.inl h1);exact⟨by unfold decR;rw[this];rfl,by unfold decB;rw[this];rfl⟩
   clear hx;go_wp2_with fail
   refine bodyPost_ret (res_rec rfl _ _ w.heap.size .none rfl (hz.set4 .none).at) rfl ?_;rw[HR.out.1,HR.out.2];exact⟨rfl,below_grown hb (grown_set4 _ _ _ _ _ _) (by omega) (Nat.le_refl _)⟩
  ·have h1':¬((dec0 t.data.toList).seq:Int) < 1:=by omega
   go_wp2_with fail
   refine(encode_any (dec0 t.data.toList) _).mono ?_;rintro e w3 ⟨rfl,hb3⟩;have hx3:=hx.below hb3 hx.lt;have hz3:=hz.below hb3 hz.lt;obtain⟨x0,x1,x2,x3⟩:=hx3.at;obtain⟨z0,z1,z2,z3⟩:=hz3.at;have f0:=hz3.frozen 0;have f1:=hz3.frozen 1;have f2:=hz3.frozen 2;have f3:=hz3.frozen 3;have B3:=hb.trans (hb3.mono (by omega));have s3:=hb3.size;have HE:Hid (enc (dec0 t.data.toList)=t.data.toList ↔ (⟨(enc (dec0 t.data.toList)).toArray⟩:ByteArray)=t):=
    ⟨fun h=>by rw[h],fun h=>by have:=congrArg (fun z:ByteArray=>z.data.toList) h;simpa using this⟩
   generalize hG:(⟨(enc (dec0 t.data.toList)).toArray⟩:ByteArray)=E at HE
   by_cases he:E=t
   ·have HR:Hid (decR t.data.toList=dec0 t.data.toList/\decB t.data.toList=true):=by
     have:dec t.data.toList=some (dec0 t.data.toList):=if_neg (fun h=>by
      rcases h with h | h
      ·exact h1 h
      ·exact h (HE.out.2 he))
     exact⟨by unfold decR;rw[this];rfl,by unfold decB;rw[this];rfl⟩
    clear HE hG;subst he;go_wp2_with fail
    refine bodyPost_ret (res_rec rfl _ _ w.heap.size (dec0 E.data.toList) rfl (hz3.set4 _).at) rfl ?_;rw[HR.out.1,HR.out.2];exact⟨rfl,below_grown B3 (grown_set4 _ _ _ _ _ _) (by omega) (Nat.le_refl _)⟩
   ·have HR:Hid (decR t.data.toList=.none/\decB t.data.toList=false):=by
     have:dec t.data.toList=none:=if_pos (Or.inr fun h=>he (HE.out.1 h));exact⟨by unfold decR;rw[this];rfl,by unfold decB;rw[this];rfl⟩
    have hne:(E.toList == t.toList)=false:=by
     rw[beq_eq_false_iff_ne];exact fun h=>he (text_inj h)
    clear HE hG;go_wp2_with fail
    refine bodyPost_ret (res_rec rfl _ _ w.heap.size .none rfl (hz3.set4 .none).at) rfl ?_;rw[HR.out.1,HR.out.2];exact⟨rfl,below_grown B3 (grown_set4 _ _ _ _ _ _) (by omega) (Nat.le_refl _)⟩
theorem slotOf_any (n:Nat)(w:World)(h:1<=n)(h2:n < 9223372036854775808) :
  Calls Tryz.prog 270 #[.int .i64 (n:Int)] w fun e w'=>e=.returned (.int .i64 (((n - 1) % 9:Nat):Int))/\w'=w:=by
 obtain⟨m,rfl⟩:∃ m,n=m+1:=⟨n - 1,by omega⟩;have e:((m+1:Nat):Int) - 1=(m:Int):=by omega
 go_enter Tryz.func270,Tryz.ntmps270
 go_wp2;go_ret
 refine⟨?_,rfl⟩;show Ending.returned (.int .i64 ((m:Int) % 9))=_
 rw[show ((m:Int) % 9)=(((m+1 - 1) % 9:Nat):Int) by omega]
def recCells (L:List Rec):List Value:=L.flatMap Rec.list
theorem recCells_length (L:List Rec):(recCells L).length=4*L.length:=by
 induction L with
 | nil=>rfl
 | cons x r ih=>simp only[recCells,List.flatMap_cons,List.length_append] at ih ⊢;rw[ih];simp[Rec.list];omega
theorem recCells_cons (x:Rec)(L:List Rec):recCells (x :: L)=x.list++recCells L:=rfl
theorem recCells_append (K L:List Rec):recCells (K++L)=recCells K++recCells L:=by simp[recCells]
theorem recCells_get (L:List Rec):∀ (k j:Nat) (hk:k < L.length),j < 4->(recCells L)[k*4+j]?=(L[k].list)[j]?:=by
 induction L with
 | nil=>intro k j hk;simp at hk
 | cons x r ih=>
  intro k j hk hj;rw[recCells_cons]
  cases k with
  | zero=>rw[List.getElem?_append_left (by simp[Rec.list];omega)];simp
  | succ k=>
   rw[List.getElem?_append_right (by simp[Rec.list];omega),show (k+1)*4+j - x.list.length=k*4+j by simp[Rec.list];omega];exact ih k j (by simpa using hk) hj
theorem recCells_set (L:List Rec):∀ (k:Nat) (r:Rec),k < L.length ->
  ((((recCells L).set (k*4) (.int .i64 (r.seq:Int))).set (k*4+1) (.int .i64 (r.ent:Int))).set (k*4+2) (.int .i64 (r.kind:Int))).set (k*4+3) (.int .i64 (r.tick:Int))=recCells (L.set k r):=by
 induction L with
 | nil=>intro k r hk;simp at hk
 | cons x t ih=>
  intro k r hk
  cases k with
  | zero=>simp[recCells_cons,Rec.list]
  | succ k=>
   have:=ih k r (by simpa using hk);rw[List.set_cons_succ,recCells_cons,recCells_cons,<- this];have e:∀ j,(k+1)*4+j=(k*4+j)+4:=fun j=>by omega
   rw[show (k+1)*4=(k*4+0)+4 by omega];simp[Rec.list]
structure RecsRow (w:World)(b:Nat)(L:List Rec):Prop where
 heap:w.heap[b]?=some (.cells (recCells L).toArray 302 (0,0))
theorem RecsRow.cell {w:World}{b:Nat}{L:List Rec}(h:RecsRow w b L)(k j:Nat)(hk:k < L.length)(hj:j < 4):w.cell? ⟨b,k*4+j,.none⟩=(L[k].list)[j]?:=by
 rw[<- recCells_get L k j hk hj];simp[World.cell?,h.heap]
theorem RecsRow.frozen {w:World}{b:Nat}{L:List Rec}(h:RecsRow w b L)(i:Nat):w.frozen? ⟨b,i,.none⟩=false:=by simp[World.frozen?,h.heap]
theorem RecsRow.below {w w':World}{b B:Nat}{L:List Rec}(h:RecsRow w b L)(hb:Below B w w')(hlt:b < B):RecsRow w' b L:=⟨(hb.block b hlt).trans h.heap⟩
theorem RecsRow.lt {w:World}{b:Nat}{L:List Rec}(h:RecsRow w b L):b < w.heap.size:=lt_of_row h.heap
theorem RecsRow.set {w:World}{b:Nat}{L:List Rec}(h:RecsRow w b L)(k:Nat)(r:Rec)(hk:k < L.length) :
  RecsRow ((((w.setCell ⟨b,k*4,.none⟩ (.int .i64 (r.seq:Int))).setCell ⟨b,k*4+1,.none⟩ (.int .i64 (r.ent:Int))).setCell ⟨b,k*4+2,.none⟩ (.int .i64 (r.kind:Int))).setCell ⟨b,k*4+3,.none⟩ (.int .i64 (r.tick:Int))) b (L.set k r):=by
 refine⟨?_⟩;rw[<- recCells_set L k r hk];simp[World.setCell,Array.getElem?_modify,h.heap]
theorem recs_grown (w:World)(b o:Nat)(v0 v1 v2 v3:Value) :
  w.grownBy ((((w.setCell ⟨b,o,.none⟩ v0).setCell ⟨b,o+1,.none⟩ v1).setCell ⟨b,o+2,.none⟩ v2).setCell ⟨b,o+3,.none⟩ v3) (some b):=
 grown_set (grown_set (grown_set (grown_set (grown_refl _ _) _ _) _ _) _ _) _ _
def slotB (l:List UInt8)(i:Nat):List UInt8:=(l.drop (i*17)).take 17
def slotR (l:List UInt8)(i:Nat):Rec:=if decB (slotB l i)=true/\((decR (slotB l i)).seq - 1) % 9=i then decR (slotB l i) else .none
def helds (l:List UInt8)(k:Nat):List Rec:=(List.range 9).map fun i=>if i < k then slotR l i else .none
theorem helds_length (l:List UInt8)(k:Nat):(helds l k).length=9:=by simp[helds]
theorem helds_succ (l:List UInt8)(k:Nat)(_hk:k < 9):helds l (k+1)=(helds l k).set k (slotR l k):=by
 apply List.ext_getElem (by simp[helds])
 intro i h1 h2;rw[List.getElem_set];simp only[helds,List.getElem_map,List.getElem_range]
 by_cases e:k=i
 ·subst e;simp
 ·simp only[if_neg e]
  by_cases h:i < k
  ·rw[if_pos h,if_pos (by omega)]
  ·rw[if_neg h,if_neg (by omega)]
theorem helds_zero (l:List UInt8):helds l 0=List.replicate 9 .none:=by simp[helds,List.map_const']
theorem dec_seq {l:List UInt8}(h:decB l=true):1<=(decR l).seq/\(decR l).seq < 4294967296/\decR l=dec0 l/\enc (dec0 l)=l:=by
 unfold decB at h;unfold decR;unfold dec at h ⊢
 split
 ·rename_i hc;rw[if_pos hc] at h;simp at h
 ·rename_i hc;simp only[not_or,Decidable.not_not] at hc
  refine⟨by simp;omega,?_,rfl,hc.2⟩;have:=num_lt (l.take 4);have h4:(l.take 4).length<=4:=by rw[List.length_take];omega
  have:256 ^ (l.take 4).length<=256 ^ 4:=Nat.pow_le_pow_right (by decide) h4;simp[dec0]
  omega
def zero9:Array Value:=(recCells (List.replicate 9 .none)).toArray
theorem held_start (w:World)(o:Obj):RecsRow (((w.alloc o).alloc (.cells zero9 302)).alloc (.cells zero9 302)) (w.heap.size+1+1) (List.replicate 9 .none)/\RecsRow (((w.alloc o).alloc (.cells zero9 302)).alloc (.cells zero9 302)) (w.heap.size+1) (List.replicate 9 .none)/\Below w.heap.size w (((w.alloc o).alloc (.cells zero9 302)).alloc (.cells zero9 302))/\(((w.alloc o).alloc (.cells zero9 302)).alloc (.cells zero9 302)).heap.size=w.heap.size+3:=by
 have h1:=heap_alloc_new ((w.alloc o).alloc (.cells zero9 302)) (.cells zero9 302);have h2:=heap_alloc_new (w.alloc o) (.cells zero9 302);simp only[World.size_alloc] at h1 h2
 refine⟨⟨h1⟩,⟨?_⟩,(((Below.refl _ _).alloc (Nat.le_refl _) _).alloc (by simp) _).alloc (by simp;omega) _,by simp⟩;exact(((Below.refl (w.heap.size+1+1) ((w.alloc o).alloc (.cells zero9 302))).alloc (by simp) _).block (w.heap.size+1) (Nat.lt_succ_self _)).trans h2
theorem slot_cut (l:List UInt8)(k:Nat)(hl:l.length=153)(hk:k < 9):(slotB l k).length=17:=by
 unfold slotB;rw[List.length_take,List.length_drop];omega
theorem res_recs {fn:Func}{p u:Tmp}(h:fn.results=#[.cell p 302,.tmp u])(tmps:Array Value)(w:World)(b:Nat)(L:List Rec)(hL:L.length=9)(hp:tmps.getD p undef=.pointer (some ⟨b,0,.none⟩))(hr:RecsRow w b L) :
  (results fn tmps).run Tryz.prog w=.ok (.tuple #[.agg (recCells L).toArray,tmps.getD u undef]) w:=by
 have hi:(Tryz.prog.info? 302).map (·.size)=some (recCells L).toArray.size:=by
  rw[List.size_toArray,recCells_length,hL];kernel_rfl
 rw[results_cell_tmp h,hp];simp only[asAddr,Sem.run_pure,Result.andThen_ok,run_loadVar_row w b _ _ _ _ _ hr.heap Tryz.underlying302 rfl hi]
theorem recs_one (L:List Rec):(recCells L).toArray.all (·.oneCell')=true:=by
 apply Array.all_eq_true_iff_forall_mem.2
 intro v hv;simp only[List.mem_toArray,recCells,List.mem_flatMap,Rec.list,List.mem_cons,List.not_mem_nil,or_false] at hv;obtain⟨r,-,rfl | rfl | rfl | rfl⟩:=hv <;> rfl
theorem info_recs (L:List Rec)(hL:L.length=9):(Tryz.prog.info? 302).map (·.size)=some (recCells L).toArray.size:=by
 rw[List.size_toArray,recCells_length,hL];kernel_rfl
theorem helds_same (l:List UInt8)(k:Nat)(_hk:k < 9):(helds l k).set k .none=helds l k:=by
 apply List.ext_getElem (by simp[helds])
 intro i h1 h2;rw[List.getElem_set]
 by_cases e:k=i
 ·subst e;simp[helds]
 ·rw[if_neg e]
theorem RecsRow.cells {w:World}{b:Nat}{L:List Rec}(h:RecsRow w b L)(k:Nat)(hk:k < L.length) :
  w.cell? ⟨b,k*4,.none⟩=some (.int .i64 (L[k].seq:Int))/\w.cell? ⟨b,k*4+1,.none⟩=some (.int .i64 (L[k].ent:Int))/\w.cell? ⟨b,k*4+2,.none⟩=some (.int .i64 (L[k].kind:Int))/\w.cell? ⟨b,k*4+3,.none⟩=some (.int .i64 (L[k].tick:Int)):=
 ⟨(h.cell k 0 hk (by decide)).trans rfl,(h.cell k 1 hk (by decide)).trans rfl,(h.cell k 2 hk (by decide)).trans rfl,(h.cell k 3 hk (by decide)).trans rfl⟩
theorem RecsRow.other4 {w:World}{b c:Nat}{L:List Rec}(h:RecsRow w b L)(hne:b≠c)(o:Nat)(v0 v1 v2 v3:Value) :
  RecsRow ((((w.setCell ⟨c,o,.none⟩ v0).setCell ⟨c,o+1,.none⟩ v1).setCell ⟨c,o+2,.none⟩ v2).setCell ⟨c,o+3,.none⟩ v3) b L:=
 ⟨((recs_grown w c o v0 v1 v2 v3).block b h.lt (by simpa using hne)).trans h.heap⟩
theorem slot_text (T:ByteArray)(l:List UInt8)(k:Nat)(hT:T.data.toList=l)(hs:(T.size:Int)=153)(hk:k < 9) :
  ∃ P:ByteArray,P.data.toList=slotB l k/\P.size=17/\∀ W,(Instr.slice 9 (.string T) (some (.int .i64 ((k:Int)*17))) (some (.int .i64 (((k:Int)+1)*17))) Option.none).run Tryz.prog W=.ok (.string P) W:=by
 refine⟨T.extract (k*17) (k*17+17),?_,by simp;omega,fun W=>?_⟩
 ·rw[Lib.extract_data,hT,Nat.add_sub_cancel_left];rfl
 ·rw[run_slice_string _ _ T _ _ _ _ Tryz.underlying9 (by omega) (by omega) (by omega)];congr 3 <;> omega
set_option maxRecDepth 100000 in
set_option maxHeartbeats 2000000 in
theorem held_on (A:Nat->Addr)(b:Nat)(s:CSt)(w:World)(h:CellsAt w b s)(hs:Sen4 A w)(he:s.err 0 153=0) :
  Calls Tryz.prog 228 #[.agg #[.pointer (some ⟨b,0,.none⟩)]] w fun e w'=>e=.returned (.tuple #[.agg (recCells (helds (s.bytes.take 153) 9)).toArray,.nilIface])/\Below w.heap.size w w':=by
 have HE:Hid (s.err ((0:Nat):Int) ((153:Nat):Int)=0):=he;obtain⟨st1,st2,st3,st4⟩:=held_start w (.cells #[.pointer (some ⟨b,0,.none⟩)] 301);have hl:(s.bytes.take 153).length=153:=by rw[List.length_take,h.len];omega
 have h':=h.below st3;have hs':=hs.below st3;have RD:=read_on4 A b s 0 153 _ h' hs' HE.out;rw[List.drop_zero] at RD;generalize s.bytes.take 153=l at *;obtain⟨T,hT⟩:∃ T:ByteArray,T=⟨l.toArray⟩:=⟨_,rfl⟩;have hTl:T.data.toList=l:=by rw[hT]
 have hTs:(T.size:Int)=153:=by rw[hT];show (l.toArray.size:Int)=153;simp[hl]
 rw[<- hT] at RD;clear hT;have HRD:Hid _:=RD;clear RD;go_enter Tryz.func228,Tryz.ntmps228
 go_wp2_with fail
 refine Calls.mono HRD.out ?_;rintro e w1 ⟨rfl,hw1⟩;rw[<- hw1] at st1 st2 st3 st4;clear hw1 HRD h' hs';go_wp2_with fail
 go_loopw [20] (fun i wr=>∃ k:Nat,k<=9/\i=.int .i64 k/\RecsRow wr (w.heap.size+1+1) (helds l k)/\RecsRow wr (w.heap.size+1) (List.replicate 9 .none)/\Below w.heap.size w wr/\w.heap.size+3<=wr.heap.size) (fun i _=>9 - (intOf i).toNat)
 case atStart=>exact⟨0,Nat.zero_le _,rfl,by rw[helds_zero];exact st1,st2,st3,by omega⟩
 case round=>
  obtain⟨k,hk,rfl,hrow,hz,hb,hsz⟩:=hrel
  by_cases hlt:k < 9
  ·have HSR:=helds_succ l k hlt;have hsl:=slot_cut l k hl hlt;obtain⟨P,hPl,hPs,sl⟩:=slot_text T l k hTl hTs hlt;go_wp2_with fail
   refine(decode_any P _ hPs).mono ?_;rintro e w2 ⟨rfl,hb2⟩;rw[hPl];unfold Rec.val;have hrow2:=hrow.below hb2 hrow.lt;have hz2:=hz.below hb2 hz.lt;have s2:=hb2.size;have hq:=helds_length l k
   cases hd:decB (slotB l k)
   ·have HN:Hid (slotR l k=.none):=if_neg (by rw[hd];simp);go_wp2_with fail
    go_roundw
    case rel=>exact⟨k+1,by omega,by go_num,by rw[HSR,HN.out,helds_same l k hlt];exact hrow2.below ((Below.refl w2.heap.size w2).alloc (Nat.le_refl _) _) hrow2.lt,hz2.below ((Below.refl w2.heap.size w2).alloc (Nat.le_refl _) _) hz2.lt,(hb.trans (hb2.mono (by omega))).alloc (by omega) _,by simp;omega⟩
    case measure=>simp[intOf];omega
   ·obtain⟨d1,d2,-,-⟩:=dec_seq hd;have B3:=(Below.refl w2.heap.size w2).alloc (Nat.le_refl _) (.cells #[.int .i64 ((decR (slotB l k)).seq:Int),.int .i64 ((decR (slotB l k)).ent:Int),.int .i64 ((decR (slotB l k)).kind:Int),.int .i64 ((decR (slotB l k)).tick:Int)] 118);have hrow3:=hrow2.below B3 hrow2.lt;have hz3:=hz2.below B3 hz2.lt;obtain⟨x0,x1,x2,x3⟩:=RecAt.new w2 (decR (slotB l k)) 118;obtain⟨c0,c1,c2,c3⟩:=hrow3.cells k (by omega);have f0:=hrow3.frozen (k*4);have f1:=hrow3.frozen (k*4+1);have f2:=hrow3.frozen (k*4+2);have f3:=hrow3.frozen (k*4+3);have hB:=(hb.trans (hb2.mono (by omega))).trans (B3.mono (by omega));have s3:=B3.size;generalize hw3:w2.alloc (.cells #[.int .i64 ((decR (slotB l k)).seq:Int),.int .i64 ((decR (slotB l k)).ent:Int),.int .i64 ((decR (slotB l k)).kind:Int),.int .i64 ((decR (slotB l k)).tick:Int)] 118)=w3 at *;have HW:Hid _:=hw3;clear hw3 B3 hrow2 hz2 hrow hz hb hb2
    by_cases hq9:((decR (slotB l k)).seq - 1) % 9=k
    ·have HN:Hid (slotR l k=decR (slotB l k)):=if_pos ⟨hd,hq9⟩;go_wp2_with fail
     rw[HW.out]
     refine(slotOf_any _ _ d1 (by omega)).mono ?_;rintro e w4 ⟨rfl,rfl⟩;rw[hq9];go_wp2_with fail
     go_roundw
     case rel=>exact⟨k+1,by omega,by go_num,by rw[HSR,HN.out];exact hrow3.set k _ (by omega),hz3.other4 (by omega) _ _ _ _ _,below_grown hB (recs_grown _ _ _ _ _ _ _) (by omega) (by omega),by simp;omega⟩
     case measure=>simp[intOf];omega
    ·have HN:Hid (slotR l k=.none):=if_neg (fun h=>hq9 h.2);go_wp2_with fail
     rw[HW.out]
     refine(slotOf_any _ _ d1 (by omega)).mono ?_;rintro e w4 ⟨rfl,rfl⟩;have hq9':¬((((decR (slotB l k)).seq - 1) % 9:Nat):Int)=(k:Int):=by omega
     go_wp2_with fail
     go_roundw
     case rel=>exact⟨k+1,by omega,by go_num,by rw[HSR,HN.out,helds_same l k hlt];exact hrow3,hz3,hB,by omega⟩
     case measure=>simp[intOf];omega
  ·have ek:k=9:=by omega
   subst ek;go_wp2_with (first | refine wpList_load_row rfl 302 _ rfl (w.heap.size+1+1) rfl _ _ _ _ hrow.heap Tryz.underlying302 rfl (info_recs _ (helds_length _ _)) ?_ | refine wpList_store_row rfl 302 _ _ rfl (w.heap.size+1) _ rfl rfl 302 _ hz.heap (info_recs _ (helds_length l 9)) (by simp[recCells_length,helds_length]) (recs_one _) ?_)
   refine bodyPost_ret (res_recs rfl _ _ (w.heap.size+1) (helds l 9) (helds_length _ _) rfl ⟨setRow_heap _ _ _ _ _ _ hz.heap⟩) rfl ?_;exact⟨rfl,below_setRow hb (by omega) _⟩
def Recs (w:World)(base:Nat)(v:Value)(L:List Rec):Prop:=w.ownsRow base 118 4 v L.length (recCells L)
theorem Recs.form {w:World}{base:Nat}{v:Value}{L:List Rec}(h:Recs w base v L) :
  (v=.slice .none 0 0/\L=[])\/∃ g cap cur,v=.slice (some ⟨g,0,.none⟩) L.length cap/\base<=g/\w.heap[g]?=some (.cells cur 118 (0,0))/\L.length<=cap/\cap<=maxLen/\cur.size=cap*4/\cur.toList.take (L.length*4)=recCells L:=by
 obtain⟨-,⟨h1,h2⟩ | h⟩:=h
 ·exact Or.inl ⟨h1,List.length_eq_zero_iff.1 h2⟩
 ·exact Or.inr h
theorem recs_cell {w:World}{g cap:Nat}{cur:Array Value}{L:List Rec}(hg:w.heap[g]?=some (.cells cur 118 (0,0)))(hx:cur.toList.take (L.length*4)=recCells L)(_hc:cur.size=cap*4)(k j:Nat)(hk:k < L.length)(hj:j < 4) :
  w.cell? ⟨g,k*4+j,.none⟩=(L[k].list)[j]?:=by
 rw[<- recCells_get L k j hk hj,<- hx,List.getElem?_take,if_pos (by omega)];simp[World.cell?,hg]
theorem recs_cells {w:World}{g cap:Nat}{cur:Array Value}{L:List Rec}(hg:w.heap[g]?=some (.cells cur 118 (0,0)))(hx:cur.toList.take (L.length*4)=recCells L)(hc:cur.size=cap*4)(k:Nat)(hk:k < L.length) :
  (w.cell? ⟨g,k*4,.none⟩=some (.int .i64 (L[k].seq:Int))/\w.cell? ⟨g,k*4+1,.none⟩=some (.int .i64 (L[k].ent:Int))/\w.cell? ⟨g,k*4+2,.none⟩=some (.int .i64 (L[k].kind:Int))/\w.cell? ⟨g,k*4+3,.none⟩=some (.int .i64 (L[k].tick:Int))) /\
  w.frozen? ⟨g,k*4,.none⟩=false/\w.frozen? ⟨g,k*4+1,.none⟩=false/\w.frozen? ⟨g,k*4+2,.none⟩=false/\w.frozen? ⟨g,k*4+3,.none⟩=false:=by
 refine⟨⟨(recs_cell hg hx hc k 0 hk (by decide)).trans rfl,(recs_cell hg hx hc k 1 hk (by decide)).trans rfl,(recs_cell hg hx hc k 2 hk (by decide)).trans rfl,(recs_cell hg hx hc k 3 hk (by decide)).trans rfl⟩,?_,?_,?_,?_⟩ <;> simp[World.frozen?,hg]
structure SlRow (w:World)(g cap:Nat)(L:List Rec):Prop where
 row:∃ cur,w.heap[g]?=some (.cells cur 118 (0,0))/\cur.size=cap*4/\cur.toList.take (L.length*4)=recCells L
theorem SlRow.lt {w:World}{g cap:Nat}{L:List Rec}(h:SlRow w g cap L):g < w.heap.size:=by obtain⟨cur,hg,-,-⟩:=h.row;exact lt_of_row hg
theorem SlRow.cells {w:World}{g cap:Nat}{L:List Rec}(h:SlRow w g cap L)(k:Nat)(hk:k < L.length) :
  (w.cell? ⟨g,k*4,.none⟩=some (.int .i64 (L[k].seq:Int))/\w.cell? ⟨g,k*4+1,.none⟩=some (.int .i64 (L[k].ent:Int))/\w.cell? ⟨g,k*4+2,.none⟩=some (.int .i64 (L[k].kind:Int))/\w.cell? ⟨g,k*4+3,.none⟩=some (.int .i64 (L[k].tick:Int))) /\
  w.frozen? ⟨g,k*4,.none⟩=false/\w.frozen? ⟨g,k*4+1,.none⟩=false/\w.frozen? ⟨g,k*4+2,.none⟩=false/\w.frozen? ⟨g,k*4+3,.none⟩=false:=by
 obtain⟨cur,hg,hc,hx⟩:=h.row;exact recs_cells hg hx hc k hk
theorem SlRow.set {w:World}{g cap:Nat}{L:List Rec}(h:SlRow w g cap L)(k:Nat)(r:Rec)(hk:k < L.length) :
  SlRow ((((w.setCell ⟨g,k*4,.none⟩ (.int .i64 (r.seq:Int))).setCell ⟨g,k*4+1,.none⟩ (.int .i64 (r.ent:Int))).setCell ⟨g,k*4+2,.none⟩ (.int .i64 (r.kind:Int))).setCell ⟨g,k*4+3,.none⟩ (.int .i64 (r.tick:Int))) g cap (L.set k r):=by
 obtain⟨cur,hg,hc,hx⟩:=h.row
 refine⟨⟨(((cur.setIfInBounds (k*4) (.int .i64 (r.seq:Int))).setIfInBounds (k*4+1) (.int .i64 (r.ent:Int))).setIfInBounds (k*4+2) (.int .i64 (r.kind:Int))).setIfInBounds (k*4+3) (.int .i64 (r.tick:Int)),?_,by simp[hc],?_⟩⟩
 ·simp[World.setCell,Array.getElem?_modify,hg]
 ·rw[List.length_set,<- recCells_set L k r hk,<- hx];simp only[Array.toList_setIfInBounds,List.take_set]
theorem Recs.of_row {w:World}{base g cap:Nat}{L:List Rec}(h:SlRow w g cap L)(hb:base<=g)(hl:L.length<=cap)(hm:cap<=maxLen):Recs w base (.slice (some ⟨g,0,.none⟩) L.length cap) L:=by
 obtain⟨cur,hg,hc,hx⟩:=h.row;exact⟨by rw[recCells_length];omega,Or.inr ⟨g,cap,cur,rfl,hb,hg,hl,hm,hc,hx⟩⟩
theorem Recs.row_form {w:World}{base:Nat}{v:Value}{L:List Rec}(h:Recs w base v L) :
  (v=.slice .none 0 0/\L=[])\/∃ g cap,v=.slice (some ⟨g,0,.none⟩) L.length cap/\base<=g/\SlRow w g cap L/\L.length<=cap/\cap<=maxLen:=by
 rcases h.form with h | ⟨g,cap,cur,h1,h2,h3,h4,h5,h6,h7⟩
 ·exact Or.inl h
 ·exact Or.inr ⟨g,cap,h1,h2,⟨cur,h3,h6,h7⟩,h4,h5⟩
def turned (L:List Rec)(i:Nat):List Rec:=(List.range L.length).map fun k=>if k < i\/L.length - 1 - i < k then L.getD (L.length - 1 - k) .none else L.getD k .none
theorem turned_length (L:List Rec)(i:Nat):(turned L i).length=L.length:=by simp[turned]
theorem turned_get (L:List Rec)(i k:Nat)(hk:k < (turned L i).length):(turned L i)[k]=if k < i\/L.length - 1 - i < k then L.getD (L.length - 1 - k) .none else L.getD k .none:=by simp[turned]
theorem turned_zero (L:List Rec):turned L 0=L:=by
 apply List.ext_getElem (turned_length L 0)
 intro k h1 h2;rw[turned_get,if_neg (by omega),List.getD_eq_getElem?_getD,List.getElem?_eq_getElem h2];rfl
theorem turned_end (L:List Rec)(i:Nat)(h:¬((i:Int) < (L.length:Int) - 1 - i)):turned L i=L.reverse:=by
 apply List.ext_getElem (by rw[turned_length,List.length_reverse])
 intro k h1 h2;rw[turned_length] at h1;rw[turned_get,List.getElem_reverse,List.getD_eq_getElem?_getD,List.getD_eq_getElem?_getD]
 by_cases hc:k < i\/L.length - 1 - i < k
 ·rw[if_pos hc,List.getElem?_eq_getElem (by omega)];rfl
 ·rw[if_neg hc,List.getElem?_eq_getElem h1];have e:L.length - 1 - k=k:=by omega
  simp only[e];rfl
theorem turned_succ (L:List Rec)(i j:Nat)(hj:i+j=L.length - 1)(hij:i < j)(hjl:j < L.length) :
  ((turned L i).set i (L.getD j .none)).set j (L.getD i .none)=turned L (i+1):=by
 apply List.ext_getElem (by simp[turned])
 intro k h1 h2;rw[turned_length] at h2;rw[List.getElem_set,turned_get]
 by_cases e1:j=k
 ·subst e1;rw[if_pos rfl,if_pos (by omega),show L.length - 1 - j=i by omega]
 ·rw[if_neg e1,List.getElem_set]
  by_cases e2:i=k
  ·subst e2;rw[if_pos rfl,if_pos (by omega),show L.length - 1 - i=j by omega]
  ·rw[if_neg e2,turned_get]
   by_cases hc:k < i\/L.length - 1 - i < k
   ·rw[if_pos hc,if_pos (by omega)]
   ·rw[if_neg hc,if_neg (by omega)]
end Go.Proofs.YtffpcbdlbcjihadGreatDoor
