/-
  Several texts as one: CellsOps, CellsMore, RingSum, RingNum, RingEnc.
-/
import Derived.Test.YtdpdbfhbojgigacGreatDoorC09S
import Derived.BigQuiet
import Derived.Deep.QuietTactic
import Derived.WalkSmall
import Derived.Laws.IdiomStrings
import Derived.Laws.BitsAllLaws
import Derived.Laws.ShiftsVarLaws
import Derived.Deep.AppendLies
import Derived.Laws.MakeOwn
import Derived.Deep.DeepCutAuto
import Derived.Lib.BufferWrite
namespace Go.Proofs.YtdpdbfhbojgigacGreatDoor
open Go.RowKit Go.Extern.Stop Go.Stop Go.Extern
def zeros (n:Nat):List UInt8:=List.replicate n 0
theorem zeros_length (n:Nat):(zeros n).length=n:=List.length_replicate
def CSt.new (n:Nat):CSt:=⟨zeros 4096,n,0,false,false,0⟩
theorem zero_row:Tryz.zeroCells109=(CSt.new 0).row:=by kernel_rfl
theorem new_row (n:Nat):Tryz.zeroCells109.setIfInBounds 4096 (.int .i64 (n:Int))=(CSt.new n).row:=by
 rw[zero_row];exact row_set_tail (CSt.new 0).bytes (zeros_length _) (CSt.new 0).tail 0 _
set_option maxHeartbeats 400000 in
theorem new_in (n:Nat)(w:World)(h1:n<=4096) :
  Calls Tryz.prog 49 #[.int .i64 (n:Int)] w fun e w'=>e=.returned (.tuple #[.pointer (some ⟨w.heap.size,0,none⟩),.nilIface])/\Below w.heap.size w w'/\CellsAt w' w.heap.size (CSt.new n)/\w'.heap.size=w.heap.size+1:=by
 have g1:¬(n:Int) < 0:=by omega
 have g2:¬4096 < (n:Int):=by omega
 go_enter Tryz.func49,Tryz.ntmps49
 go_wp2;go_ret2
 refine⟨rfl,(Below.refl _ _).alloc (Nat.le_refl _) _,⟨?_,zeros_length _,h1⟩,by simp⟩;rw[new_row];show (w.heap.push _)[w.heap.size]?=_
 simp
theorem power_any (b:Nat)(s:CSt)(w:World)(h:CellsAt w b s) :
  Calls Tryz.prog 28 #[.pointer (some ⟨b,0,none⟩)] w fun e w'=>e=.returned (.bool (!s.off))/\w'=w:=by
 have c2:=h.c2;go_enter Tryz.func28,Tryz.ntmps28
 go_wp2;go_ret;exact⟨rfl,rfl⟩
theorem on_any (b:Nat)(s:CSt)(w:World)(h:CellsAt w b s) :
  Calls Tryz.prog 32 #[.pointer (some ⟨b,0,none⟩)] w fun e w'=>e=.returned (.tuple #[])/\CellsAt w' b { s with off:=false,cut:=false,left:=0 }/\w.grownBy w' (some b)/\w'.heap.size=w.heap.size:=by
 have c2:=h.c2;have c3:=h.c3;have c4:=h.c4;have f2:=h.frozen 4098;have f3:=h.frozen 4099;have f4:=h.frozen 4100;go_enter Tryz.func32,Tryz.ntmps32
 go_wp2;go_end0
 exact⟨rfl,((h.set2 false).set3 false).set4 0,grown_set (grown_set (grown_set (grown_refl _ _) _ _) _ _) _ _,by simp⟩
def errVal (A:Nat->Addr):Nat->Value
 | 0=>.nilIface
 | i+1=>.iface 298 (.pointer (some (A i)))
def CSt.err (s:CSt)(p n:Int):Nat:=if p < 0\/n < 0\/(s.size:Int) - p < n then 2 else if s.off=true then 8 else 0
set_option maxHeartbeats 1000000 in
theorem check_any4 (A:Nat->Addr)(b:Nat)(s:CSt)(p n:Int)(w:World)(h:CellsAt w b s)(hs:Sen4 A w)(hp:p<=9223372036854775807) :
  Calls Tryz.prog 137 #[.pointer (some ⟨b,0,none⟩),.int .i64 p,.int .i64 n] w fun e w'=>e=.returned (errVal A (s.err p n))/\w'=w:=by
 have c0:=h.c0;have c2:=h.c2;have g1:=hs.c1;have g7:=hs.c7;have hz:=h.size;clear h hs
 by_cases h1:p < 0
 ·have E:Hid (s.err p n=2):=if_pos (Or.inl h1);go_enter Tryz.func137,Tryz.ntmps137
  go_wp2;go_ret;rw[E.out];exact⟨rfl,rfl⟩
 by_cases h2:n < 0
 ·have E:Hid (s.err p n=2):=if_pos (Or.inr (Or.inl h2));go_enter Tryz.func137,Tryz.ntmps137
  go_wp2;go_ret;rw[E.out];exact⟨rfl,rfl⟩
 by_cases h3:(s.size:Int) - p < n
 ·have E:Hid (s.err p n=2):=if_pos (Or.inr (Or.inr h3));go_enter Tryz.func137,Tryz.ntmps137
  go_wp2;go_ret;rw[E.out];exact⟨rfl,rfl⟩
 have hno:¬(p < 0\/n < 0\/(s.size:Int) - p < n):=by omega
 cases ho:s.off
 ·have E:Hid (s.err p n=0):=by unfold CSt.err;rw[if_neg hno,ho];rfl
  clear hno;go_enter Tryz.func137,Tryz.ntmps137
  go_wp2;go_ret;rw[E.out];exact⟨rfl,rfl⟩
 ·have E:Hid (s.err p n=8):=by unfold CSt.err;rw[if_neg hno,ho];rfl
  clear hno;go_enter Tryz.func137,Tryz.ntmps137
  go_wp2;go_ret;rw[E.out];exact⟨rfl,rfl⟩
theorem put_off4 (A:Nat->Addr)(b:Nat)(s:CSt)(p:Int)(x:UInt8)(w:World)(h:CellsAt w b s)(hs:Sen4 A w)(hb:11<=b)(h1:s.cut=true)(h2:s.left=0) :
  Calls Tryz.prog 236 #[.pointer (some ⟨b,0,none⟩),.int .i64 p,.int .u8 (x.toNat:Int)] w fun e w'=>e=.returned (errVal A 8)/\CellsAt w' b { s with off:=true }/\w.grownBy w' (some b)/\w'.heap.size=w.heap.size:=by
 have c2:=h.c2;have c3:=h.c3;have c4:=h.c4;have f2:=h.frozen 4098;have g7:=hs.c7;have hne:¬b=2:=by omega
 rw[h1] at c3;rw[h2] at c4;go_enter Tryz.func236,Tryz.ntmps236
 go_wp2;go_ret;exact⟨rfl,h.set2 true,grown_set (grown_refl _ _) _ _,by simp⟩
def CSt.put (s:CSt)(p:Nat)(x:UInt8):CSt:={ s with bytes:=s.bytes.set p x,written:=s.written+1,left:=if s.cut then s.left - 1 else s.left }
set_option maxHeartbeats 1000000 in
theorem put_on (b:Nat)(s:CSt)(p:Nat)(x:UInt8)(w:World)(h:CellsAt w b s)(hp:p < 4096)(hw:s.written<=1099511627776)(hl:s.left<=9223372036854775807)(h1:s.cut=true->0 < s.left) :
  Calls Tryz.prog 236 #[.pointer (some ⟨b,0,none⟩),.int .i64 (p:Int),.int .u8 (x.toNat:Int)] w fun e w'=>e=.returned .nilIface/\CellsAt w' b (s.put p x)/\w.grownBy w' (some b)/\w'.heap.size=w.heap.size:=by
 have c1:=h.c1;have c3:=h.c3;have c4:=h.c4;have cb:=h.byte p hp;have f1:=h.frozen 4097;have f4:=h.frozen 4100;have fb:=h.frozen p;have ew:((s.written+1:Nat):Int)=(s.written:Int)+1:=by omega
 cases hc:s.cut
 ·rw[hc] at c3;have R:=(h.setB p hp x).set1 (s.written+1);have e:({ s with bytes:=s.bytes.set p x,written:=s.written+1 }:CSt)=s.put p x:=by simp[CSt.put,hc]
  simp only[] at R;rw[hc] at e;rw[ew,hc,e] at R;clear e hc h1;go_enter Tryz.func236,Tryz.ntmps236
  go_wp2;go_ret;exact⟨rfl,R,grown_set (grown_set (grown_refl _ _) _ _) _ _,by simp⟩
 ·have hpos:=h1 hc;have el:((s.left - 1:Nat):Int)=(s.left:Int) - 1:=by omega
  have hnz:((s.left:Int) == 0)=false:=by rw[beq_eq_false_iff_ne];omega
  have R:=((h.set4 (s.left - 1)).setB p hp x).set1 (s.written+1);have e:({ s with bytes:=s.bytes.set p x,written:=s.written+1,left:=s.left - 1 }:CSt)=s.put p x:=by simp[CSt.put,hc]
  simp only[] at R;rw[hc] at e;rw[el,ew,hc,e] at R;rw[hc] at c3;clear e hc h1;go_enter Tryz.func236,Tryz.ntmps236
  go_wp2;go_ret;exact⟨rfl,R,grown_set (grown_set (grown_set (grown_refl _ _) _ _) _ _) _ _,by simp⟩
def CSt.puts (s:CSt)(p:Nat):List UInt8->CSt
 | []=>s
 | x :: r=>(s.put p x).puts (p+1) r
theorem CSt.puts_snoc (l:List UInt8)(x:UInt8):∀ (s:CSt) (p:Nat),s.puts p (l++[x])=(s.puts p l).put (p+l.length) x:=by
 induction l with
 | nil=>intro s p;rfl
 | cons y r ih=>intro s p;simp only[List.cons_append,CSt.puts,ih,List.length_cons];congr 1;omega
theorem CSt.puts_cut (l:List UInt8):∀ (s:CSt) (p:Nat),(s.puts p l).cut=s.cut:=by
 induction l with
 | nil=>intro s p;rfl
 | cons y r ih=>intro s p;simp only[CSt.puts,ih];rfl
theorem CSt.puts_off (l:List UInt8):∀ (s:CSt) (p:Nat),(s.puts p l).off=s.off:=by
 induction l with
 | nil=>intro s p;rfl
 | cons y r ih=>intro s p;simp only[CSt.puts,ih];rfl
theorem CSt.puts_size (l:List UInt8):∀ (s:CSt) (p:Nat),(s.puts p l).size=s.size:=by
 induction l with
 | nil=>intro s p;rfl
 | cons y r ih=>intro s p;simp only[CSt.puts,ih];rfl
theorem CSt.puts_written (l:List UInt8):∀ (s:CSt) (p:Nat),(s.puts p l).written=s.written+l.length:=by
 induction l with
 | nil=>intro s p;rfl
 | cons y r ih=>intro s p;simp only[CSt.puts,ih,List.length_cons];show s.written+1+r.length=_;omega
theorem CSt.puts_left (l:List UInt8):∀ (s:CSt) (p:Nat),(s.puts p l).left=if s.cut then s.left - l.length else s.left:=by
 induction l with
 | nil=>intro s p;simp[CSt.puts]
 | cons y r ih=>
  intro s p;simp only[CSt.puts,ih,List.length_cons]
  cases hc:s.cut <;> simp[CSt.put,hc]
  omega
theorem CSt.puts_bytes (l:List UInt8):∀ (s:CSt) (p:Nat),p+l.length<=s.bytes.length->(s.puts p l).bytes=s.bytes.take p++l++s.bytes.drop (p+l.length):=by
 induction l with
 | nil=>intro s p h;simp[CSt.puts]
 | cons y r ih=>
  intro s p h;simp only[List.length_cons] at h;have e:=ih (s.put p y) (p+1) (by simp[CSt.put];omega);simp only[CSt.puts,e,List.length_cons];have h1:(s.put p y).bytes=s.bytes.set p y:=rfl;have hset:s.bytes.set p y=s.bytes.take p++y :: s.bytes.drop (p+1):=by rw[List.set_eq_take_append_cons_drop,if_pos (by omega)]
  have hlp:(s.bytes.take p).length=p:=by rw[List.length_take];omega
  have e1:p+1 - p=1:=by omega
  have e2:p+1+r.length - p=r.length+1:=by omega
  have e3:p+1+r.length=p+(r.length+1):=by omega
  have t1:(s.bytes.take p++y :: s.bytes.drop (p+1)).take (p+1)=s.bytes.take p++[y]:=by
   rw[List.take_append,hlp,e1,List.take_of_length_le (l:=s.bytes.take p) (by rw[hlp];omega)];rfl
  have t0:(s.bytes.take p).drop (p+1+r.length)=[]:=List.drop_eq_nil_of_le (by rw[hlp];omega);have t2:(s.bytes.take p++y :: s.bytes.drop (p+1)).drop (p+1+r.length)=s.bytes.drop (p+1+r.length):=by
   rw[List.drop_append,hlp,e2,t0,List.drop_succ_cons,List.drop_drop];rfl
  rw[h1,hset,t1,t2,e3];simp
def CSt.write (s:CSt)(p:Nat)(l:List UInt8):CSt × Nat:=
 if s.cut=true/\s.left < l.length then ({ s.puts p (l.take s.left) with off:=true },8) else (s.puts p l,0)
theorem take_snoc (s:ByteArray)(k:Nat)(h:k < s.size):s.data.toList.take (k+1)=s.data.toList.take k++[s[k]]:=by
 rw[List.take_succ_eq_append_getElem (by simpa using h)];rfl
set_option maxHeartbeats 1000000 in
theorem write_on4 (A:Nat->Addr)(b:Nat)(s:CSt)(p:Nat)(t:ByteArray)(w:World)(h:CellsAt w b s)(hs:Sen4 A w)(hb:11<=b)(hw:s.written+t.size<=1099511627776)(hl:s.left<=9223372036854775807)(he:s.err p t.size=0) :
  Calls Tryz.prog 221 #[.pointer (some ⟨b,0,none⟩),.int .i64 (p:Int),.string t] w fun e w'=>e=.returned (errVal A (s.write p t.data.toList).2)/\CellsAt w' b (s.write p t.data.toList).1/\w.grownBy w' (some b)/\w'.heap.size=w.heap.size:=by
 have hfit:p+t.size<=s.size:=by
  unfold CSt.err at he
  split at he
  ·cases he
  ·omega
 have hz:=h.size;have HE:Hid (s.err p t.size=0):=he;clear he;go_enter Tryz.func221,Tryz.ntmps221
 go_wp2_with fail
 refine(check_any4 A b s p t.size _ h hs (by omega)).mono ?_;rintro e w1 ⟨rfl,rfl⟩;rw[HE.out];unfold errVal;go_wp2_with fail
 go_loopw [20] (fun i wr=>∃ k:Nat,k<=t.size/\i=.int .i64 k/\(s.cut=true->k<=s.left)/\CellsAt wr b (s.puts p (t.data.toList.take k))/\w1.grownBy wr (some b)/\wr.heap.size=w1.heap.size) (fun i _=>t.size - (intOf i).toNat)
 case atStart=>exact⟨0,Nat.zero_le _,rfl,fun _=>Nat.zero_le _,h,grown_refl _ _,rfl⟩
 case round=>
  obtain⟨k,hk,rfl,hcut,hat,hg,hsz⟩:=hrel;have hlen:(t.data.toList.take k).length=k:=by rw[List.length_take];simp;omega
  have hlf:=CSt.puts_left (t.data.toList.take k) s p;have hct:=CSt.puts_cut (t.data.toList.take k) s p;have hwr:=CSt.puts_written (t.data.toList.take k) s p;rw[hlen] at hlf hwr
  by_cases hlt:k < t.size
  ·by_cases hoff:s.cut=true/\s.left=k
   ·have hs':=hs.grown hg hb;have e1:(s.puts p (t.data.toList.take k)).cut=true:=hct.trans hoff.1;have e2:(s.puts p (t.data.toList.take k)).left=0:=by rw[hlf,if_pos hoff.1];omega
    have E:Hid (s.write p t.data.toList=({ s.puts p (t.data.toList.take k) with off:=true },8)):=by
     show s.write p t.data.toList=_
     unfold CSt.write;rw[if_pos ⟨hoff.1,by simp;omega⟩,hoff.2]
    have E1:Hid _:=e1;have E2:Hid _:=e2;clear hs hlf hct hwr hcut hlen hoff e1 e2 hl hw;go_wp2_with fail
    refine(put_off4 A b _ _ _ _ hat hs' hb E1 E2).mono ?_;rintro e w2 ⟨rfl,hat2,hg2,hsz2⟩;unfold errVal;go_wp2;go_ret;rw[E.out];exact⟨rfl,hat2,grown_trans hg hg2,by rw[hsz2,hsz]⟩
   ·have hw2:(s.puts p (t.data.toList.take k)).written<=1099511627776:=by rw[hwr];omega
    have hl2:(s.puts p (t.data.toList.take k)).left<=9223372036854775807:=by rw[hlf];split <;> omega
    have H1:Hid ((s.puts p (t.data.toList.take k)).cut=true->0 < (s.puts p (t.data.toList.take k)).left):=fun hc=>by
     rw[hct] at hc;have h1:=hcut hc;have h2:s.left≠k:=fun e=>hoff ⟨hc,e⟩
     rw[hlf,if_pos hc];omega
    have HC:Hid (s.cut=true->k+1<=s.left):=fun hc=>by
     have h1:=hcut hc;have h2:s.left≠k:=fun e=>hoff ⟨hc,e⟩
     omega
    have HP:Hid (s.puts p (t.data.toList.take (k+1))=(s.puts p (t.data.toList.take k)).put (p+k) t[k]):=by
     show _=_
     rw[take_snoc t k hlt,CSt.puts_snoc,hlen]
    have EP:Hid ((p:Int)+(k:Int)=((p+k:Nat):Int)):=by show _=_;omega
    clear hlf hct hwr hcut hlen hoff hl hs;go_wp2_with fail
    rw[EP.out]
    refine(put_on b _ _ _ _ hat (by omega) hw2 hl2 H1.out).mono ?_;rintro e w2 ⟨rfl,hat2,hg2,hsz2⟩;go_wp2;go_roundw
    case rel=>exact⟨k+1,by omega,by go_num,HC.out,by rw[HP.out];exact hat2,grown_trans hg hg2,by rw[hsz2,hsz]⟩
    case measure=>simp[intOf];omega
  ·have ek:k=t.size:=by omega
   have E:Hid (s.write p t.data.toList=(s.puts p (t.data.toList.take k),0)):=by
    show _=_
    unfold CSt.write;rw[if_neg (by rintro⟨a,b⟩;have:=hcut a;simp at b;omega),List.take_of_length_le (by simp;omega)]
   clear hlf hct hwr hcut hlen ek;go_wp2;go_ret;rw[E.out];exact⟨rfl,hat,hg,hsz⟩
set_option maxHeartbeats 1000000 in
theorem write_no4 (A:Nat->Addr)(b:Nat)(s:CSt)(p:Int)(t:ByteArray)(j:Nat)(w:World)(h:CellsAt w b s)(hs:Sen4 A w)(hp:p<=9223372036854775807)(he:s.err p t.size=j+1) :
  Calls Tryz.prog 221 #[.pointer (some ⟨b,0,none⟩),.int .i64 p,.string t] w fun e w'=>e=.returned (errVal A (j+1))/\w'=w:=by
 have HE:Hid (s.err p t.size=j+1):=he;clear he;go_enter Tryz.func221,Tryz.ntmps221
 go_wp2_with fail
 refine(check_any4 A b s p t.size _ h hs hp).mono ?_;rintro e w1 ⟨rfl,rfl⟩;rw[HE.out];unfold errVal;go_wp2;go_ret;exact⟨rfl,rfl⟩
set_option maxHeartbeats 1000000 in
theorem cut_on (b:Nat)(s:CSt)(n:Nat)(w:World)(h:CellsAt w b s)(ho:s.off=false) :
  Calls Tryz.prog 30 #[.pointer (some ⟨b,0,none⟩),.int .i64 (n:Int)] w fun e w'=>e=.returned .nilIface/\CellsAt w' b { s with cut:=true,left:=n }/\w.grownBy w' (some b)/\w'.heap.size=w.heap.size:=by
 have c2:=h.c2;have c3:=h.c3;have c4:=h.c4;have f3:=h.frozen 4099;have f4:=h.frozen 4100;have g0:¬(n:Int) < 0:=by omega
 rw[ho] at c2;have R:=(h.set3 true).set4 n;clear h ho;go_enter Tryz.func30,Tryz.ntmps30
 go_wp2;go_ret;exact⟨rfl,R,grown_set (grown_set (grown_refl _ _) _ _) _ _,by simp⟩
theorem cut_low4 (A:Nat->Addr)(b:Nat)(n:Int)(w:World)(hs:Sen4 A w)(hn:n < 0) :
  Calls Tryz.prog 30 #[.pointer (some ⟨b,0,none⟩),.int .i64 n] w fun e w'=>e=.returned (errVal A 2)/\w'=w:=by
 have g1:=hs.c1;go_enter Tryz.func30,Tryz.ntmps30
 go_wp2;go_ret;exact⟨rfl,rfl⟩
theorem cut_off4 (A:Nat->Addr)(b:Nat)(s:CSt)(n:Int)(w:World)(h:CellsAt w b s)(hs:Sen4 A w)(hn:¬n < 0)(ho:s.off=true) :
  Calls Tryz.prog 30 #[.pointer (some ⟨b,0,none⟩),.int .i64 n] w fun e w'=>e=.returned (errVal A 8)/\w'=w:=by
 have g7:=hs.c7;have c2:=h.c2;rw[ho] at c2;go_enter Tryz.func30,Tryz.ntmps30
 go_wp2;go_ret;exact⟨rfl,rfl⟩
theorem Tryz.arrT:Tryz.prog.underlying 107=some (.array (Tryz.prog.arrayLen 107) (Tryz.prog.elem 107)):=by kernel_rfl
theorem Tryz.arrN:Tryz.prog.arrayLen 107=4096:=by kernel_rfl
theorem Tryz.arrE (W:World):(sizeOf (Tryz.prog.elem 107)).run Tryz.prog W=.ok 1 W:=by kernel_rfl
theorem slice_to (b n:Nat)(hn:n<=4096)(W:World):(Instr.sliceAt 107 (.pointer (some ⟨b,0,none⟩)) none (some (.int .i64 (n:Int))) none).run Tryz.prog W=.ok (.slice (some ⟨b,0,none⟩) n 4096) W:=by
 rw[run_sliceAt_array_h W _ _ Tryz.arrT .i64 (n:Int) (by omega) (by rw[Tryz.arrN];omega),Tryz.arrE,Tryz.arrN];simp[Result.andThen,slicedAt,Addr.add]
theorem slice_part (b p q:Nat)(hp:p<=q)(hq:q<=4096)(W:World):∃ a c,(Instr.sliceAt 107 (.pointer (some ⟨b,0,none⟩)) (some (.int .i64 (p:Int))) (some (.int .i64 (q:Int))) none).run Tryz.prog W=.ok (.slice (some a) (q - p) c) W/\(a=⟨b,p,none⟩\/p=4096):=by
 refine⟨if 4096=p then ⟨b,0,none⟩ else (⟨b,0,none⟩:Addr).add p,4096 - p,?_,?_⟩
 ·rw[run_sliceAt_array_lh W _ _ Tryz.arrT .i64 .i64 (p:Int) (q:Int) (by omega) (by omega) (by rw[Tryz.arrN];omega),Tryz.arrE,Tryz.arrN];simp[Result.andThen,slicedAt]
 ·by_cases h:4096=p
  ·exact Or.inr h.symm
  ·left;rw[if_neg h];unfold Addr.add;split <;> simp_all
theorem conv_part (b:Nat)(s:CSt)(p n c:Nat)(w:World)(h:CellsAt w b s)(hf:p+n<=4096) :
  (convert 86 9 (.slice (some ⟨b,p,none⟩) n c)).run Tryz.prog w=.ok (.string ⟨((s.bytes.drop p).take n).toArray⟩) w:=by
 have hl:((s.bytes.drop p).take n).length=n:=by rw[List.length_take,List.length_drop,h.len];omega
 have:=run_convert_bytes_back (P:=Tryz.prog) w 86 9 5 ⟨b,p,none⟩ c ((s.bytes.drop p).take n) Tryz.underlying86 Tryz.underlying5 Tryz.underlying9 (fun j hj=>by
  have hj':j < n:=by rw[hl] at hj;exact hj
  have e:=h.byte (p+j) (by omega);have ea:(⟨b,p,none⟩:Addr).add j=⟨b,p+j,none⟩:=by unfold Addr.add;split <;> simp_all
  rw[ea,e];simp)
 rw[hl] at this;exact this
theorem conv_none (a:Addr)(c:Nat)(w:World) :
  (convert 86 9 (.slice (some a) 0 c)).run Tryz.prog w=.ok (.string ⟨#[]⟩) w:=
 run_convert_bytes_back (P:=Tryz.prog) w 86 9 5 a c [] Tryz.underlying86 Tryz.underlying5 Tryz.underlying9 (fun j hj=>by simp at hj)
theorem CellsAt.drewN {w:World}{b:Nat}{s:CSt}(h:CellsAt w b s)(q:Nat):CellsAt (w.drewN q) b s:=⟨h.heap,h.len,h.size⟩
set_option maxHeartbeats 1000000 in
theorem bytes_any (b:Nat)(s:CSt)(w:World)(h:CellsAt w b s) :
  Calls Tryz.prog 46 #[.pointer (some ⟨b,0,none⟩)] w fun e w'=>e=.returned (.string ⟨(s.bytes.take s.size).toArray⟩)/\∃ q,w'=w.drewN q:=by
 have c0:=h.c0;have hz:=h.size;have sl:=slice_to b s.size hz;have cv:∀ q,(convert 86 9 (.slice (some ⟨b,0,none⟩) s.size 4096)).run Tryz.prog (w.drewN q)=.ok (.string ⟨(s.bytes.take s.size).toArray⟩) (w.drewN q):=fun q=>by
  have:=conv_part b s 0 s.size 4096 (w.drewN q) (h.drewN q) (by omega);simpa using this
 go_enter Tryz.func46,Tryz.ntmps46
 go_wp2_with fail
 go_quiet (fail)
 go_wp2;go_ret;exact⟨rfl,_,rfl⟩
set_option maxHeartbeats 1000000 in
theorem read_on4 (A:Nat->Addr)(b:Nat)(s:CSt)(p n:Nat)(w:World)(h:CellsAt w b s)(hs:Sen4 A w)(he:s.err p n=0) :
  Calls Tryz.prog 101 #[.pointer (some ⟨b,0,none⟩),.int .i64 (p:Int),.int .i64 (n:Int)] w fun e w'=>e=.returned (.tuple #[.string ⟨((s.bytes.drop p).take n).toArray⟩,.nilIface])/\w'=w:=by
 have hfit:p+n<=s.size:=by
  unfold CSt.err at he
  split at he
  ·cases he
  ·omega
 have hz:=h.size;have HE:Hid (s.err p n=0):=he;clear he;obtain⟨a,c,sl,ha⟩:=slice_part b p (p+n) (by omega) (by omega) w;have en:p+n - p=n:=by omega
 have ep:((p+n:Nat):Int)=(p:Int)+(n:Int):=by omega
 rw[en,ep] at sl;have cv:(convert 86 9 (.slice (some a) n c)).run Tryz.prog w=.ok (.string ⟨((s.bytes.drop p).take n).toArray⟩) w:=by
  rcases ha with rfl | hp
  ·exact conv_part b s p n c w h (by omega)
  ·have hn:n=0:=by omega
   subst hn;rw[conv_none];simp
 clear ep en ha;go_enter Tryz.func101,Tryz.ntmps101
 go_wp2_with fail
 refine(check_any4 A b s p n _ h hs (by omega)).mono ?_;rintro e w1 ⟨rfl,rfl⟩;rw[HE.out];unfold errVal;go_wp2;go_ret2
 exact⟨rfl,rfl⟩
set_option maxHeartbeats 1000000 in
theorem read_no4 (A:Nat->Addr)(b:Nat)(s:CSt)(p n:Int)(j:Nat)(w:World)(h:CellsAt w b s)(hs:Sen4 A w)(hp:p<=9223372036854775807)(he:s.err p n=j+1) :
  Calls Tryz.prog 101 #[.pointer (some ⟨b,0,none⟩),.int .i64 p,.int .i64 n] w fun e w'=>e=.returned (.tuple #[.string ⟨#[]⟩,errVal A (j+1)])/\w'=w:=by
 have HE:Hid (s.err p n=j+1):=he;clear he;go_enter Tryz.func101,Tryz.ntmps101
 go_wp2_with fail
 refine(check_any4 A b s p n _ h hs hp).mono ?_;rintro e w1 ⟨rfl,rfl⟩;rw[HE.out];unfold errVal;go_wp2;go_ret2
 exact⟨rfl,rfl⟩
def crcStep (s:Nat):Nat:=(s / 2) ^^^ (3988292384*(s % 2))
def crcSteps:Nat->Nat->Nat
 | 0,s=>s
 | k+1,s=>crcSteps k (crcStep s)
def crcFrom (s:Nat)(l:List UInt8):Nat:=l.foldl (fun s v=>crcSteps 8 (s ^^^ v.toNat)) s
def crc (l:List UInt8):Nat:=4294967295 ^^^ crcFrom 4294967295 l
theorem crcStep_lt {s:Nat}(h:s < 4294967296):crcStep s < 4294967296:=
 Nat.xor_lt_two_pow (n:=32) (by omega) (by omega)
theorem crcSteps_lt (k:Nat):∀ {s:Nat},s < 4294967296->crcSteps k s < 4294967296:=by
 induction k with
 | zero=>intro s h;exact h
 | succ k ih=>intro s h;exact ih (crcStep_lt h)
theorem crcByte_lt {s:Nat}(h:s < 4294967296)(v:UInt8):s ^^^ v.toNat < 4294967296:=
 Nat.xor_lt_two_pow (n:=32) h (by have:=v.toNat_lt;omega)
theorem crcFrom_lt (l:List UInt8):∀ {s:Nat},s < 4294967296->crcFrom s l < 4294967296:=by
 induction l with
 | nil=>intro s h;exact h
 | cons v r ih=>intro s h;exact ih (crcSteps_lt 8 (crcByte_lt h v))
theorem crc_lt (l:List UInt8):crc l < 4294967296:=Nat.xor_lt_two_pow (n:=32) (by decide) (crcFrom_lt l (by decide))
theorem xor_byte (n:Nat)(v:UInt8)(hn:n < 4294967296):bits BinOp.xor IntKind.u32 (n:Int) ((v.toNat:Int) % 4294967296)=((n ^^^ v.toNat:Nat):Int):=by
 have:=v.toNat_lt;rw[show ((v.toNat:Int) % 4294967296)=((v.toNat:Nat):Int) by omega];exact u32_xor_nat n v.toNat hn (by omega)
theorem and_one (m:Nat):m &&& 1=m % 2:=by rw[show (1:Nat)=2 ^ 1 - 1 from rfl,Nat.and_two_pow_sub_one_eq_mod]
theorem step_val (m:Nat)(hm:m < 4294967296):bits BinOp.xor IntKind.u32 ((m:Int) / 2) (3988292384*bits BinOp.and IntKind.u32 (m:Int) 1 % 4294967296)=((crcStep m:Nat):Int):=by
 have h1:bits BinOp.and IntKind.u32 (m:Int) 1=((m % 2:Nat):Int):=by
  have:=u32_and_nat m 1 hm (by decide);rw[and_one] at this;exact this
 rw[h1,show ((m:Int) / 2)=((m / 2:Nat):Int) by omega,show ((3988292384*((m % 2:Nat):Int)) % 4294967296)=((3988292384*(m % 2):Nat):Int) by omega];exact u32_xor_nat _ _ (by omega) (by omega)
set_option maxHeartbeats 1000000 in
theorem sum_any (a:Addr)(c:Nat)(l:List UInt8)(w:World)(hc:∀ i (hi:i < l.length),w.cell? (a.add i)=some (.int .u8 (l[i].toNat:Int)))(hl:l.length<=4096) :
  Calls Tryz.prog 178 #[.slice (some a) l.length c] w fun e w'=>e=.returned (.int .u32 (crc l:Nat))/\w'=w:=by
 go_enter Tryz.func178,Tryz.ntmps178
 go_wp2_with fail
 go_loopw [3,8] (fun s i wr=>∃ (k n:Nat),k<=l.length/\n < 4294967296/\i=.int .i64 k/\s=.int .u32 (n:Int)/\crcFrom n (l.drop k)=crcFrom 4294967295 l/\wr=w) (fun _ i _=>l.length - (intOf i).toNat)
 case atStart=>exact⟨0,4294967295,Nat.zero_le _,by decide,rfl,rfl,by simp,rfl⟩
 case round=>
  obtain⟨k,n,hk,hn,rfl,rfl,hcr,rfl⟩:=hrel
  by_cases hlt:k < l.length
  ·have hcell:=hc k hlt;have HB:Hid (n ^^^ l[k].toNat < 4294967296):=crcByte_lt hn _;have HX:Hid _:=xor_byte n l[k] hn;have HN:Hid (crcFrom (crcSteps 8 (n ^^^ l[k].toNat)) (l.drop (k+1))=crcFrom 4294967295 l):=by
    show _=_
    rw[<- hcr,List.drop_eq_getElem_cons hlt];rfl
   clear hcr;go_wp2_with fail
   rw[HX.out]
   go_loopw [3,16] (fun s i wx=>∃ (j m:Nat),j<=8/\m < 4294967296/\i=.int .i64 j/\s=.int .u32 (m:Int)/\crcSteps (8 - j) m=crcSteps 8 (n ^^^ l[k].toNat)/\wx=wr) (fun _ i _=>8 - (intOf i).toNat)
   case atStart=>exact⟨0,_,Nat.zero_le _,HB.out,rfl,rfl,rfl,rfl⟩
   case round=>
    obtain⟨j,m,hj,hm,rfl,rfl,hst,rfl⟩:=hrel
    by_cases hj8:j < 8
    ·have HS:Hid _:=step_val m hm;have HM:Hid (crcStep m < 4294967296):=crcStep_lt hm;have HT:Hid (crcSteps (8 - (j+1)) (crcStep m)=crcSteps 8 (n ^^^ l[k].toNat)):=by
      show _=_
      rw[<- hst,show 8 - j=8 - (j+1)+1 by omega];rfl
     clear hst hm;go_wp2_with fail
     rw[HS.out];go_roundw
     case rel=>exact⟨j+1,crcStep m,by omega,HM.out,by go_num,rfl,HT.out,trivial⟩
     case measure=>simp[intOf];omega
    ·have ej:j=8:=by omega
     subst ej;have HT:Hid (m=crcSteps 8 (n ^^^ l[k].toNat)):=hst;clear hst;go_wp2_with fail
     go_roundw
     case rel=>exact⟨k+1,m,by omega,hm,by go_num,rfl,by rw[HT.out];exact HN.out,trivial⟩
     case measure=>simp[intOf];omega
  ·have HR:Hid (((n ^^^ 4294967295:Nat):Int)=((crc l:Nat):Int)):=by
    show _=_
    have:l.drop k=[]:=List.drop_eq_nil_of_le (by omega);rw[this] at hcr;unfold crc;rw[<- hcr,Nat.xor_comm];rfl
   clear hcr;have HX:Hid (bits BinOp.xor IntKind.u32 IntKind.u32.max (n:Int)=((crc l:Nat):Int)):=by
    show _=_
    rw[show IntKind.u32.max=((4294967295:Nat):Int) from rfl,u32_xor_nat _ _ (by decide) hn,Nat.xor_comm];exact HR.out
   go_wp2;go_ret;rw[HX.out];exact⟨rfl,rfl⟩
def numB (l:List UInt8):Nat:=l.foldl (fun a b=>a*256+b.toNat) 0
def be:Nat->Nat->List UInt8
 | 0,_=>[]
 | n+1,v=>UInt8.ofNat (v / 256 ^ n) :: be n v
theorem be_length (n v:Nat):(be n v).length=n:=by induction n with
 | zero=>rfl
 | succ n ih=>simp[be,ih]
theorem num_from (l:List UInt8):∀ a,l.foldl (fun a b=>a*256+b.toNat) a=a*256 ^ l.length+numB l:=by
 induction l with
 | nil=>intro a;simp[numB]
 | cons x r ih=>
  intro a;have e:numB (x :: r)=x.toNat*256 ^ r.length+numB r:=by
   show r.foldl _ (0*256+x.toNat)=_
   rw[ih,Nat.zero_mul,Nat.zero_add]
  simp only[List.foldl_cons,ih,e,List.length_cons,Nat.pow_succ,Nat.add_mul];rw[Nat.mul_assoc,Nat.mul_comm 256 (256 ^ r.length)];omega
theorem num_cons (x:UInt8)(r:List UInt8):numB (x :: r)=x.toNat*256 ^ r.length+numB r:=by
 show r.foldl _ (0*256+x.toNat)=_
 rw[num_from,Nat.zero_mul,Nat.zero_add]
theorem num_snoc (l:List UInt8)(x:UInt8):numB (l++[x])=numB l*256+x.toNat:=by simp[numB,List.foldl_append]
theorem num_lt (l:List UInt8):numB l < 256 ^ l.length:=by
 induction l with
 | nil=>simp[numB]
 | cons x r ih=>
  rw[num_cons,List.length_cons,Nat.pow_succ,Nat.mul_comm (256 ^ r.length)];have h:=x.toNat_lt;have:x.toNat*256 ^ r.length<=255*256 ^ r.length:=Nat.mul_le_mul_right _ (by omega);omega
theorem wraps_i64 (n:Int)(h₀:0<=n)(h₁:n < 2 ^ 63):IntKind.i64.wrap n=n:=by
 simp only[IntKind.wrap,IntKind.bits,IntKind.signed];simp
 omega
theorem w64 (n:Int)(h:-9223372036854775808<=n/\n<=9223372036854775807):wrap64 n=n:=by unfold wrap64;omega
theorem or_low (v:Nat)(x:UInt8)(h:v < 1099511627776):bits BinOp.or IntKind.i64 (wrap64 ((v:Int)*256)) (wrap64 (x.toNat:Int))=((v*256+x.toNat:Nat):Int):=by
 have hx:=x.toNat_lt;rw[w64 _ (by omega),w64 _ (by omega),bits_join .i64 63 (by decide) wraps_i64 8 ((v:Int)*256) (x.toNat:Int) (by omega) (by omega) (by omega) (by omega) (by omega) (by omega)];omega
set_option maxHeartbeats 1000000 in
theorem number_any (t:ByteArray)(w:World)(hl:t.size<=6) :
  Calls Tryz.prog 138 #[.string t] w fun e w'=>e=.returned (.int .i64 (numB t.data.toList:Nat))/\w'=w:=by
 go_enter Tryz.func138,Tryz.ntmps138
 go_wp2_with fail
 go_loopw [3,7] (fun s i wr=>∃ (k:Nat),k<=t.size/\i=.int .i64 k/\s=.int .i64 (numB (t.data.toList.take k):Nat)/\wr=w) (fun _ i _=>t.size - (intOf i).toNat)
 case atStart=>exact⟨0,Nat.zero_le _,rfl,rfl,rfl⟩
 case round=>
  obtain⟨k,hk,rfl,rfl,rfl⟩:=hrel
  by_cases hlt:k < t.size
  ·have HV:Hid (numB (t.data.toList.take k) < 1099511627776):=by
    show _ < _
    have h1:=num_lt (t.data.toList.take k);have h2:(t.data.toList.take k).length<=5:=by rw[List.length_take];simp;omega
    have h3:256 ^ (t.data.toList.take k).length<=256 ^ 5:=Nat.pow_le_pow_right (by decide) h2;omega
   have HN:Hid (numB (t.data.toList.take (k+1))=numB (t.data.toList.take k)*256+t[k].toNat):=by
    show _=_
    rw[take_snoc t k hlt,num_snoc]
   go_wp2_with fail
   rw[or_low _ _ HV.out,<- HN.out];exact⟨⟨k+1,by omega,by go_num,rfl,trivial⟩,by simp[intOf];omega⟩
  ·have HT:Hid (t.data.toList.take k=t.data.toList):=List.take_of_length_le (by simp;omega);go_wp2;go_ret;rw[HT.out];exact⟨rfl,rfl⟩
theorem Tryz.infoByte:∃ i:TypeInfo,Tryz.prog.info? 5=some i/\i.zero=some (.int .u8 0)/\i.size=1/\i.bytes=1:=by
 have h:(Tryz.prog.info? 5).map (fun i=>(i.zero,i.size,i.bytes))=some (some (.int .u8 0),1,1):=by kernel_rfl
 obtain⟨i,hi,he⟩:=Option.map_eq_some_iff.1 h;simp only[Prod.mk.injEq] at he;exact⟨i,hi,he.1,he.2.1,he.2.2⟩
theorem add_val (x j:Nat):byteVal (UInt8.ofNat (x / 256 ^ j))=.int .u8 ((x:Int) / 2 ^ (8*j) % 256):=by
 unfold byteVal;rw[UInt8.toNat_ofNat',Int.pow_mul];have:((256 ^ j:Nat):Int)=(2 ^ 8:Int) ^ j:=by rw[Int.natCast_pow];rfl
 rw[<- this];congr 1
theorem cell_one (w:World)(u:Value)(ty:TypeId):∀ j x,[u][j]?=some x->(w.alloc (.cells #[u] ty)).cell? ((⟨w.heap.size,0,none⟩:Addr).add j)=some x:=by
 intro j x hj
 match j,hj with
 | 0,hj=>
  have e:x=u:=by simpa using hj.symm
  subst e;exact World.cell?_alloc_at _ _ _ _ rfl
set_option maxRecDepth 100000 in
set_option maxHeartbeats 1000000 in
theorem add_any (base:Nat)(v:Value)(n:Nat)(l:List UInt8)(x many:Nat)(w:World)(hown:w.ownsRow base 5 1 v n (l.map byteVal))(hb:base<=w.heap.size)(hn:n+many<=100)(hm:many<=7) :
  Calls Tryz.prog 177 #[v,.int .i64 (x:Int),.int .i64 (many:Int)] w fun e w'=>∃ v',e=.returned v'/\w'.ownsRow base 5 1 v' (n+many) ((l++be many x).map byteVal)/\Below base w w':=by
 obtain⟨i0,hi,hz0,hz1,hz2⟩:=Tryz.infoByte;go_enter Tryz.func177,Tryz.ntmps177
 go_wp2_with fail
 go_loopw [0,7] (fun u i wr=>∃ (j:Nat) (pre:List UInt8),j<=many/\i=.int .i64 ((j:Int) - 1)/\l++be many x=pre++be j x/\wr.ownsRow base 5 1 u (n+many - j) (pre.map byteVal)/\Below base w wr) (fun _ i _=>(intOf i+1).toNat)
 case atStart=>exact⟨many,l,Nat.le_refl _,rfl,rfl,by rw[Nat.add_sub_cancel];exact hown,Below.refl _ _⟩
 case round=>
  obtain⟨j,pre,hj,rfl,hpre,hown',hbel⟩:=hrel
  cases j with
  | succ j=>
   rw[show (((j+1:Nat):Int) - 1)=(j:Int) by omega];have HV:Hid _:=add_val x j;have hsz:=hbel.size;have HP:Hid (l++be many x=(pre++[UInt8.ofNat (x / 256 ^ j)])++be j x):=by
    show _=_
    rw[hpre];simp[be]
   have HM:Hid ((pre++[UInt8.ofNat (x / 256 ^ j)]).map byteVal=pre.map byteVal++[.int .u8 ((x:Int) / 2 ^ (8*j) % 256)]):=by
    show _=_
    rw[List.map_append,List.map_cons,List.map_nil,HV.out]
   clear hpre;go_wp2_with (at_builtin;refine wpList_append_own _ rfl (.tmp 14) (.tmp 20) 86 rfl base 5 i0 (.int .u8 0) 1 1 Tryz.underlying86 hi hz0 hz1 hz2 rfl (by decide) _ _ _ rfl (hown'.alloc _) ⟨wr.heap.size,0,none⟩ 1 1 [.int .u8 ((x:Int) / 2 ^ (8*j) % 256)] rfl rfl (cell_one _ _ _) (by intro u hu;simp at hu;subst hu;rfl) (by unfold maxLen;omega) (by omega) (by simp;omega) ?_;intro v1 w1 hown1 hgrow1 hlt1)
   go_roundw
   case rel=>exact⟨j,pre++[UInt8.ofNat (x / 256 ^ j)],by omega,by go_num,HP.out,by rw[HM.out,show n+many - j=n+many - (j+1)+1 by omega];exact hown1,(hbel.alloc (by omega) _).grown hgrow1 (by simp;omega) (fun k hk=>(hown'.lt k hk).1)⟩
   case measure=>simp[intOf]
  | zero=>
   go_wp2;go_ret;simp only[be,List.append_nil] at hpre;exact⟨_,rfl,by rw[hpre];exact hown',hbel⟩
structure Rec where
 seq:Nat
 ent:Nat
 kind:Nat
 tick:Nat
def Rec.list (r:Rec):List Value:=[.int .i64 (r.seq:Int),.int .i64 (r.ent:Int),.int .i64 (r.kind:Int),.int .i64 (r.tick:Int)]
def Rec.val (r:Rec):Value:=.agg #[.int .i64 (r.seq:Int),.int .i64 (r.ent:Int),.int .i64 (r.kind:Int),.int .i64 (r.tick:Int)]
def Rec.none:Rec:=⟨0,0,0,0⟩
structure Rec.Ok (r:Rec):Prop where
 seq:r.seq < 9223372036854775808
 ent:r.ent < 9223372036854775808
 kind:r.kind < 9223372036854775808
 tick:r.tick < 9223372036854775808
structure RecAt (w:World)(b:Nat)(r:Rec):Prop where
 c0:w.cell? ⟨b,0,.none⟩=some (.int .i64 (r.seq:Int))
 c1:w.cell? ⟨b,1,.none⟩=some (.int .i64 (r.ent:Int))
 c2:w.cell? ⟨b,2,.none⟩=some (.int .i64 (r.kind:Int))
 c3:w.cell? ⟨b,3,.none⟩=some (.int .i64 (r.tick:Int))
theorem RecAt.below {w w':World}{b B:Nat}{r:Rec}(h:RecAt w b r)(hb:Below B w w')(hlt:b < B):RecAt w' b r:=
 ⟨(hb.cell (by exact hlt)).trans h.c0,(hb.cell (by exact hlt)).trans h.c1,(hb.cell (by exact hlt)).trans h.c2,(hb.cell (by exact hlt)).trans h.c3⟩
theorem RecAt.new (w:World)(r:Rec)(ty:TypeId):RecAt (w.alloc (.cells #[.int .i64 (r.seq:Int),.int .i64 (r.ent:Int),.int .i64 (r.kind:Int),.int .i64 (r.tick:Int)] ty)) w.heap.size r:=
 ⟨World.cell?_alloc_at _ _ _ _ rfl,World.cell?_alloc_at _ _ _ _ rfl,World.cell?_alloc_at _ _ _ _ rfl,World.cell?_alloc_at _ _ _ _ rfl⟩
def enc12 (r:Rec):List UInt8:=be 4 r.seq++be 1 r.ent++be 1 r.kind++be 6 r.tick
def enc16 (r:Rec):List UInt8:=enc12 r++be 4 (crc (enc12 r))
def enc (r:Rec):List UInt8:=enc16 r++[165]
theorem enc12_length (r:Rec):(enc12 r).length=12:=by simp[enc12,be_length]
theorem enc16_length (r:Rec):(enc16 r).length=16:=by simp[enc16,enc12_length,be_length]
theorem enc_length (r:Rec):(enc r).length=17:=by simp[enc,enc16_length]
theorem own_form {w:World}{base n:Nat}{v:Value}{l:List UInt8}(h:w.ownsRow base 5 1 v n (l.map byteVal))(hn:0 < n) :
  ∃ g c,v=.slice (some ⟨g,0,.none⟩) l.length c/\l.length=n/\∀ i (hi:i < l.length),w.cell? ((⟨g,0,.none⟩:Addr).add i)=some (.int .u8 (l[i].toNat:Int)):=by
 obtain⟨hl,h | ⟨g,c,cur,rfl,-,hg,hnc,-,hcs,hx⟩⟩:=h
 ·omega
 ·have hln:l.length=n:=by simpa using hl
  refine⟨g,c,by rw[hln],hln,fun i hi=>?_⟩;have e:cur[i]?=some (byteVal l[i]):=by
   have:=congrArg (fun z=>z[i]?) hx;simp only[List.getElem?_take,List.getElem?_map,List.getElem?_eq_getElem hi,Nat.mul_one,Array.getElem?_toList,if_pos (show i < n by omega)] at this;simpa using this
  have ea:(⟨g,0,.none⟩:Addr).add i=⟨g,i,.none⟩:=by unfold Addr.add;split <;> simp_all
  rw[ea];simp only[World.cell?,hg];simpa[byteVal] using e
theorem conv_own {w:World}{base n:Nat}{v:Value}{l:List UInt8}(h:w.ownsRow base 5 1 v n (l.map byteVal))(hn:0 < n) :
  (convert 86 9 v).run Tryz.prog w=.ok (.string ⟨l.toArray⟩) w:=by
 obtain⟨g,c,rfl,-,hc⟩:=own_form h hn;exact run_convert_bytes_back (P:=Tryz.prog) w 86 9 5 ⟨g,0,.none⟩ c l Tryz.underlying86 Tryz.underlying5 Tryz.underlying9 hc
set_option maxRecDepth 100000 in
set_option maxHeartbeats 2000000 in
theorem encode_any (r:Rec)(w:World) :
  Calls Tryz.prog 139 #[r.val] w fun e w'=>e=.returned (.string ⟨(enc r).toArray⟩)/\Below w.heap.size w w':=by
 obtain⟨i0,hi,hz0,hz1,hz2⟩:=Tryz.infoByte;have R0:=RecAt.new w r 57;unfold Rec.val;go_enter Tryz.func139,Tryz.ntmps139
 go_upto_region 2 with (at_make;refine wpList_make_own _ rfl _ _ 86 rfl (w.heap.size+1) 5 i0 (.int .u8 0) 1 Tryz.underlying86 hi hz0 hz1 .i64 .i64 17 17 rfl rfl rfl (by rw[hz2];omega) (by unfold maxLen;omega) (by simp) ?_;intro w0 hown0 hgrow0)
 have R1:=R0.below ((Below.refl (w.heap.size+1) _).grown hgrow0 (by simp) (fun k h=>by cases h)) (Nat.lt_succ_self _);have B1:=((Below.refl w.heap.size w).alloc (Nat.le_refl _) (.cells #[.int .i64 (r.seq:Int),.int .i64 (r.ent:Int),.int .i64 (r.kind:Int),.int .i64 (r.tick:Int)] 57)).grown hgrow0 (by simp) (fun k h=>by cases h);have s1:=hgrow0.size;simp only[World.size_alloc] at s1 hown0;have q0:=R1.c0;go_wp2_with fail
 refine(add_any (w.heap.size+1) _ 0 [] r.seq 4 _ hown0 s1 (by omega) (by omega)).mono ?_;rintro e w2 ⟨v2,rfl,hown2,hb2⟩;have R2:=R1.below hb2 (Nat.lt_succ_self _);have s2:=hb2.size;have q1:=R2.c1;go_wp2_with fail
 refine(add_any (w.heap.size+1) v2 _ _ r.ent 1 _ hown2 (by omega) (by omega) (by omega)).mono ?_;rintro e w3 ⟨v3,rfl,hown3,hb3⟩;have R3:=R2.below hb3 (Nat.lt_succ_self _);have s3:=hb3.size;have q2:=R3.c2;go_wp2_with fail
 refine(add_any (w.heap.size+1) v3 _ _ r.kind 1 _ hown3 (by omega) (by omega) (by omega)).mono ?_;rintro e w4 ⟨v4,rfl,hown4,hb4⟩;have R4:=R3.below hb4 (Nat.lt_succ_self _);have s4:=hb4.size;have q3:=R4.c3;go_wp2_with fail
 refine(add_any (w.heap.size+1) v4 _ _ r.tick 6 _ hown4 (by omega) (by omega) (by omega)).mono ?_;rintro e w5 ⟨v5,rfl,hown5,hb5⟩;have s5:=hb5.size;have E12:[]++be 4 r.seq++be 1 r.ent++be 1 r.kind++be 6 r.tick=enc12 r:=by unfold enc12;rw[List.nil_append]
 rw[E12] at hown5;obtain⟨g,c,rfl,hlen,hcells⟩:=own_form hown5 (by omega);go_wp2_with fail
 refine(sum_any _ c (enc12 r) _ hcells (by rw[enc12_length];omega)).mono ?_;rintro e w6 ⟨rfl,rfl⟩;have HW:Hid (wrap64 ((crc (enc12 r):Nat):Int)=((crc (enc12 r):Nat):Int)):=w64 _ (by have:=crc_lt (enc12 r);omega);have HM:Hid ((enc r).map byteVal=(enc12 r++be 4 (crc (enc12 r))).map byteVal++[.int .u8 165]):=by
  show _=_
  unfold enc enc16;rw[List.map_append];rfl
 go_wp2_with fail
 rw[HW.out]
 refine(add_any (w.heap.size+1) _ _ _ (crc (enc12 r)) 4 _ hown5 (by omega) (by omega) (by omega)).mono ?_;rintro e w7 ⟨v7,rfl,hown7,hb7⟩;have s7:=hb7.size;go_wp2_with (at_builtin;refine wpList_append_own _ rfl (.tmp 26) (.tmp 27) 86 rfl (w.heap.size+1) 5 i0 (.int .u8 0) 1 1 Tryz.underlying86 hi hz0 hz1 hz2 rfl (by decide) _ _ _ rfl (hown7.alloc _) ⟨w7.heap.size,0,.none⟩ 1 1 [.int .u8 165] rfl rfl (cell_one _ _ _) (by intro u hu;simp at hu;subst hu;rfl) (by unfold maxLen;omega) (by omega) (by simp;omega) ?_;intro v8 w8 hown8 hgrow8 hlt8;rw[<- HM.out] at hown8;have cv:=conv_own hown8 (by omega))
 go_ret
 refine⟨rfl,?_⟩;have B5:=(((B1.trans (hb2.mono (by omega))).trans (hb3.mono (by omega))).trans (hb4.mono (by omega))).trans (hb5.mono (by omega));have B7:=B5.trans (hb7.mono (by omega));exact(B7.alloc (by omega) _).grown hgrow8 (by simp;omega) (fun k hk=>by have:=(hown7.lt k hk).1;omega)
end Go.Proofs.YtdpdbfhbojgigacGreatDoor
