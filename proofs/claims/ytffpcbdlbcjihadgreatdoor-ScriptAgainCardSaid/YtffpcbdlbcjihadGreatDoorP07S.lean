/-
  Several texts as one: RingPure, RingInv, RingMore, Orders, DogSt.
-/
import Derived.Test.YtffpcbdlbcjihadGreatDoorP06S
import Derived.Orders
import Derived.Outline
import Derived.BigQuiet
import Derived.Deep.QuietTactic
import Derived.Deep.DeepCutAuto
import Derived.WalkSmall
namespace Go.Proofs.YtffpcbdlbcjihadGreatDoor
open Go.RowKit
def sl (s:CSt)(i:Nat):List UInt8:=(s.bytes.drop (i*17)).take 17
structure Big (s:CSt):Prop where
 len:s.bytes.length=4096
 size:153<=s.size
 top:s.size<=4096
theorem sl_length {s:CSt}(h:Big s)(i:Nat)(hi:i < 9):(sl s i).length=17:=by
 unfold sl;rw[List.length_take,List.length_drop,h.len];omega
theorem sl_slotB {s:CSt}(i:Nat)(hi:i < 9):slotB (s.bytes.take 153) i=sl s i:=by
 unfold slotB sl;rw[List.drop_take,List.take_take];congr 1
 omega
theorem puts_len0 (l:List UInt8):∀ (s:CSt) (p:Nat),(s.puts p l).bytes.length=s.bytes.length:=by
 induction l with
 | nil=>intro s p;rfl
 | cons y r ih=>intro s p;simp only[CSt.puts,ih];simp[CSt.put]
theorem Big.puts {s:CSt}(h:Big s)(p:Nat)(l:List UInt8):Big (s.puts p l):=⟨by rw[puts_len0];exact h.len,by rw[CSt.puts_size];exact h.size,by rw[CSt.puts_size];exact h.top⟩
theorem sl_get {s:CSt}(i k:Nat)(hk:k < 17):(sl s i)[k]?=s.bytes[i*17+k]?:=by
 unfold sl;rw[List.getElem?_take,if_pos hk,List.getElem?_drop]
theorem puts_get (s:CSt)(p:Nat)(l:List UInt8)(hf:p+l.length<=s.bytes.length)(k:Nat):(s.puts p l).bytes[k]?=if p<=k/\k < p+l.length then l[k - p]? else s.bytes[k]?:=by
 rw[CSt.puts_bytes l s p hf];have hp:(s.bytes.take p).length=p:=by rw[List.length_take];omega
 by_cases h1:k < p
 ·rw[if_neg (by omega),List.append_assoc,List.getElem?_append_left (by omega),List.getElem?_take,if_pos h1]
 ·by_cases h2:k < p+l.length
  ·rw[if_pos ⟨by omega,h2⟩,List.getElem?_append_left (by rw[List.length_append,hp];omega),List.getElem?_append_right (by omega),hp]
  ·rw[if_neg (by omega),List.getElem?_append_right (by rw[List.length_append,hp];omega),List.getElem?_drop];congr 1
   rw[List.length_append,hp];omega
theorem sl_puts_other {s:CSt}(h:Big s)(q i p:Nat)(l:List UInt8)(hq:q < 9)(hi:i < 9)(hne:i≠q)(h1:q*17<=p)(h2:p+l.length<=q*17+17):sl (s.puts p l) i=sl s i:=by
 apply List.ext_getElem?
 intro k
 by_cases hk:k < 17
 ·rw[sl_get _ _ hk,sl_get _ _ hk,puts_get _ _ _ (by rw[h.len];omega),if_neg (by omega)]
 ·rw[List.getElem?_eq_none (by rw[sl_length (h.puts p l) i hi];omega),List.getElem?_eq_none (by rw[sl_length h i hi];omega)]
theorem sl_puts_same {s:CSt}(h:Big s)(q p k:Nat)(l:List UInt8)(hq:q < 9)(_h1:q*17<=p)(h2:p+l.length<=q*17+17)(hk:k < 17):(sl (s.puts p l) q)[k]?=if p<=q*17+k/\q*17+k < p+l.length then l[q*17+k - p]? else (sl s q)[k]?:=by
 rw[sl_get _ _ hk,sl_get _ _ hk,puts_get _ _ _ (by rw[h.len];omega)]
structure Others (s s':CSt)(q:Nat):Prop where
 big:Big s'
 size:s'.size=s.size
 same:∀ i,i < 9->i≠q->sl s' i=sl s i
theorem Others.refl {s:CSt}(h:Big s)(q:Nat):Others s s q:=⟨h,rfl,fun _ _ _=>rfl⟩
theorem Others.trans {a b c:CSt}{q:Nat}(h:Others a b q)(k:Others b c q):Others a c q:=⟨k.big,k.size.trans h.size,fun i hi hn=>(k.same i hi hn).trans (h.same i hi hn)⟩
theorem Others.off {s s':CSt}{q:Nat}(h:Others s s' q)(x:Bool):Others s { s' with off:=x } q:=⟨⟨h.big.len,h.big.size,h.big.top⟩,h.size,h.same⟩
theorem Others.puts {s:CSt}(h:Big s)(q p:Nat)(l:List UInt8)(hq:q < 9)(h1:q*17<=p)(h2:p+l.length<=q*17+17):Others s (s.puts p l) q:=
 ⟨h.puts p l,CSt.puts_size _ _ _,fun i hi hn=>sl_puts_other h q i p l hq hi hn h1 h2⟩
theorem write_in {s:CSt}(h:Big s)(ho:s.off=false)(q p:Nat)(l:List UInt8)(hq:q < 9)(_h1:q*17<=p)(h2:p+l.length<=q*17+17) :
  (∃ m,m < l.length/\s.writeE p l=({ s.puts p (l.take m) with off:=true },8))\/s.writeE p l=(s.puts p l,0):=by
 have hz:=h.size;have he:s.err p l.length=0:=by
  unfold CSt.err;rw[if_neg (by omega),ho];rfl
 unfold CSt.writeE;rw[if_pos he];unfold CSt.write
 by_cases hc:s.cut=true/\s.left < l.length
 ·rw[if_pos hc];exact Or.inl ⟨s.left,hc.2,rfl⟩
 ·rw[if_neg hc];exact Or.inr rfl
theorem put_cases {s:CSt}(h:Big s)(ho:s.off=false)(r:Rec) :
  ((s.putRec r).2=0/\Others s (s.putRec r).1 ((r.seq - 1) % 9)/\(s.putRec r).1.off=false/\sl (s.putRec r).1 ((r.seq - 1) % 9)=enc r) \/
  ((s.putRec r).2=8/\Others s (s.putRec r).1 ((r.seq - 1) % 9)/\(sl (s.putRec r).1 ((r.seq - 1) % 9)=sl s ((r.seq - 1) % 9)\/(sl (s.putRec r).1 ((r.seq - 1) % 9))[16]?=some 0)):=by
 have hq:(r.seq - 1) % 9 < 9:=Nat.mod_lt _ (by decide);unfold CSt.putRec;generalize (r.seq - 1) % 9=q at *;simp only[];have hz:(s.zeroAt (q*17+16)=({ s.puts (q*17+16) [] with off:=true },8))\/(∃ a,s.zeroAt (q*17+16)=(a,0)/\Others s a q/\a.off=false/\(sl a q)[16]?=some 0):=by
  have he:s.err ((q*17+16:Nat):Int) 1=0:=by
   unfold CSt.err;have:=h.size;rw[if_neg (by omega),ho];rfl
  unfold CSt.zeroAt;rw[if_pos he]
  by_cases hb:s.bytes.getD (q*17+16) 0=0
  ·rw[if_pos hb]
   refine Or.inr ⟨s,rfl,Others.refl h q,ho,?_⟩;rw[sl_get _ _ (by decide)];rw[List.getD_eq_getElem?_getD,List.getElem?_eq_getElem (by rw[h.len];omega)] at hb;rw[List.getElem?_eq_getElem (by rw[h.len];omega)];exact congrArg some hb
  ·rw[if_neg hb]
   rcases write_in h ho q (q*17+16) [0] hq (by omega) (by simp) with ⟨m,hm,e⟩ | e
   ·have:m=0:=by simpa using hm
    subst this;exact Or.inl e
   ·refine Or.inr ⟨_,e,Others.puts h q _ _ hq (by omega) (by simp),by rw[CSt.puts_off];exact ho,?_⟩;rw[sl_puts_same h q _ 16 [0] hq (by omega) (by simp) (by decide),if_pos (by simp)];simp
 rcases hz with e | ⟨a,e,oa,ao,al⟩
 ·rw[e];right
  refine⟨rfl,(Others.puts h q (q*17+16) [] hq (by omega) (by simp)).off true,Or.inl rfl⟩
 ·rw[e];rw[if_pos rfl];have l16:=enc16_length r
  rcases write_in oa.big ao q (q*17) (enc16 r) hq (Nat.le_refl _) (by omega) with ⟨m,hm,e2⟩ | e2
  ·rw[e2];right
   have hl:((enc16 r).take m).length=m:=by rw[List.length_take];omega
   refine⟨rfl,(oa.trans (Others.puts oa.big q _ _ hq (Nat.le_refl _) (by omega))).off true,Or.inr ?_⟩;show (sl (a.puts (q*17) ((enc16 r).take m)) q)[16]?=_
   rw[sl_puts_same oa.big q _ 16 _ hq (Nat.le_refl _) (by omega) (by decide),if_neg (by omega)];exact al
  ·rw[e2];have ob:=Others.puts oa.big q (q*17) (enc16 r) hq (Nat.le_refl _) (by omega);have bo:(a.puts (q*17) (enc16 r)).off=false:=by rw[CSt.puts_off];exact ao
   have bl:∀ k,k < 17->(sl (a.puts (q*17) (enc16 r)) q)[k]?=if k < 16 then (enc16 r)[k]? else some 0:=by
    intro k hk;rw[sl_puts_same oa.big q _ k _ hq (Nat.le_refl _) (by omega) hk]
    by_cases h16:k < 16
    ·rw[if_pos (by omega),if_pos h16];congr 1
     omega
    ·have:k=16:=by omega
     subst this;rw[if_neg (by omega),if_neg (by omega)];exact al
   rw[if_pos rfl]
   rcases write_in ob.big bo q (q*17+16) [165] hq (by omega) (by simp) with ⟨m,hm,e3⟩ | e3
   ·have:m=0:=by simpa using hm
    subst this;rw[e3];right
    refine⟨rfl,((oa.trans ob).trans (Others.puts ob.big q (q*17+16) [] hq (by omega) (by simp))).off true,Or.inr ?_⟩;show (sl (a.puts (q*17) (enc16 r)) q)[16]?=_
    rw[bl 16 (by decide)];rfl
   ·rw[e3];left
    refine⟨rfl,(oa.trans ob).trans (Others.puts ob.big q (q*17+16) [165] hq (by omega) (by simp)),by rw[CSt.puts_off];exact bo,?_⟩;apply List.ext_getElem?
    intro k
    by_cases hk:k < 17
    ·rw[sl_puts_same ob.big q _ k [165] hq (by omega) (by simp) hk,bl k hk];unfold enc
     by_cases h16:k < 16
     ·rw[if_neg (by simp;omega),if_pos h16,List.getElem?_append_left (by omega)]
     ·have:k=16:=by omega
      subst this;rw[if_pos (by simp),List.getElem?_append_right (by omega),l16];simp
    ·rw[List.getElem?_eq_none (by rw[sl_length (ob.big.puts _ _) q hq];omega),List.getElem?_eq_none (by rw[enc_length];omega)]
theorem enc_last (r:Rec):(enc r)[16]?=some 165:=by
 unfold enc;rw[List.getElem?_append_right (by rw[enc16_length];omega),enc16_length];rfl
theorem dec_zero {l:List UInt8}(h:l[16]?=some 0):decB l=false:=by
 cases hd:decB l with
 | false=>rfl
 | true=>
  have e:=(dec_seq hd).2.2.2;rw[<- e,enc_last] at h
  cases h
def sr (s:CSt)(i:Nat):Rec:=slotR (s.bytes.take 153) i
theorem sr_eq {s:CSt}{i:Nat}(hi:i < 9):sr s i=if decB (sl s i)=true/\((decR (sl s i)).seq - 1) % 9=i then decR (sl s i) else .none:=by
 unfold sr slotR;rw[sl_slotB i hi]
theorem sr_zero {s:CSt}{i:Nat}(hi:i < 9)(h:(sl s i)[16]?=some 0):sr s i=.none:=by
 rw[sr_eq hi,dec_zero h,if_neg (by simp)]
theorem helds_get (s:CSt)(i:Nat)(hi:i < 9):(helds (s.bytes.take 153) 9).getD i .none=sr s i:=by
 rw[List.getD_eq_getElem?_getD,List.getElem?_eq_getElem (by rw[helds_length];exact hi)];simp[helds,hi,sr]
theorem mem_helds {s:CSt}{r:Rec}(h:r∈helds (s.bytes.take 153) 9):∃ i,i < 9/\r=sr s i:=by
 simp only[helds,List.mem_map,List.mem_range] at h;obtain⟨i,hi,rfl⟩:=h;exact⟨i,hi,by rw[if_pos hi];rfl⟩
theorem helds_mem (s:CSt)(i:Nat)(hi:i < 9):sr s i∈helds (s.bytes.take 153) 9:=by
 simp only[helds,List.mem_map,List.mem_range];exact⟨i,hi,by rw[if_pos hi];rfl⟩
theorem maxFrom_ge (L:List Rec):∀ m,m<=L.foldl (fun m r=>max m r.seq) m:=by
 induction L with
 | nil=>intro m;exact Nat.le_refl _
 | cons r t ih=>intro m;exact Nat.le_trans (Nat.le_max_left _ _) (ih _)
theorem maxFrom_le (L:List Rec)(n:Nat):∀ m,m<=n->(∀ r∈L,r.seq<=n)->L.foldl (fun m r=>max m r.seq) m<=n:=by
 induction L with
 | nil=>intro m h _;exact h
 | cons r t ih=>intro m h h2;exact ih _ (Nat.max_le.2 ⟨h,h2 r (by simp)⟩) (fun x hx=>h2 x (by simp[hx]))
theorem maxFrom_mem (L:List Rec):∀ m r,r∈L->r.seq<=L.foldl (fun m r=>max m r.seq) m:=by
 induction L with
 | nil=>intro m r h;cases h
 | cons x t ih=>
  intro m r h
  rcases List.mem_cons.1 h with rfl | h
  ·exact Nat.le_trans (Nat.le_max_right m r.seq) (maxFrom_ge t _)
  ·exact ih _ r h
theorem maxSeq_eq {L:List Rec}{n:Nat}(h1:∀ r∈L,r.seq<=n)(h2:n=0\/∃ r∈L,r.seq=n):maxSeq L=n:=by
 have a:=maxFrom_le L n 0 (Nat.zero_le _) h1;have b:n<=maxSeq L:=by
  rcases h2 with rfl | ⟨r,hr,rfl⟩
  ·exact Nat.zero_le _
  ·exact maxFrom_mem L 0 r hr
 exact Nat.le_antisymm a b
structure Inv (s:CSt)(done:List Rec):Prop where
 big:Big s
 seq:∀ i (h:i < done.length),done[i].seq=i+1
 i1:∀ j (h:j < done.length),done.length<=j+8->sr s (j % 9)=done[j]
 i2:sr s (done.length % 9)=.none\/(9<=done.length/\sr s (done.length % 9)=done.getD (done.length - 9) .none)
 i3:∀ i,done.length < i->i < 9->sr s i=.none
theorem Inv.le {s:CSt}{done:List Rec}(h:Inv s done)(i:Nat)(hi:i < 9):(sr s i).seq<=done.length:=by
 by_cases h0:done.length < i
 ·rw[h.i3 i h0 hi];exact Nat.zero_le _
 ·by_cases e:i=done.length % 9
  ·rw[e]
   rcases h.i2 with e2 | ⟨h9,e2⟩
   ·rw[e2];exact Nat.zero_le _
   ·rw[e2,List.getD_eq_getElem?_getD,List.getElem?_eq_getElem (by omega)];show (done[done.length - 9]).seq<=_
    rw[h.seq];omega
  ·obtain⟨j,hj,hj2,hj3⟩:∃ j,j < done.length/\done.length<=j+8/\j % 9=i:=by
    refine⟨done.length - 1 - (done.length+8 - i) % 9,?_,?_,?_⟩ <;> omega
   have:=h.i1 j hj hj2;rw[hj3] at this;rw[this,h.seq];omega
theorem Inv.chain {s:CSt}{done:List Rec}(h:Inv s done):∀ (m n:Nat),n<=done.length->done.length+m<=n+8->chain (helds (s.bytes.take 153) 9) m n=((done.take n).drop (n - m)).reverse:=by
 intro m
 induction m with
 | zero=>
  intro n hn hm;rw[Nat.sub_zero,List.drop_eq_nil_of_le (by rw[List.length_take];omega)];rfl
 | succ m ih=>
  intro n hn hm
  cases n with
  | zero=>rw[chain_stop _ _ _ (fun h=>absurd h.1 (by omega))];simp
  | succ n=>
   have hlt:n < done.length:=by omega
   have hg:(helds (s.bytes.take 153) 9).getD (n % 9) .none=done[n]:=by
    rw[helds_get s _ (Nat.mod_lt _ (by decide)),h.i1 n hlt (by omega)]
   have hst:=chain_step (helds (s.bytes.take 153) 9) m (n+1) (by omega) (by rw[Nat.add_sub_cancel,hg,h.seq n hlt]);rw[Nat.add_sub_cancel,hg] at hst;rw[hst,ih n (by omega) (by omega),List.take_succ_eq_append_getElem hlt,List.drop_append,List.reverse_append];have e1:n+1 - (m+1)=n - m:=by omega
   have e2:n - m - (done.take n).length=0:=by rw[List.length_take];omega
   rw[e1,e2,List.drop_zero];rfl
theorem Inv.opens {s:CSt}{done:List Rec}(h:Inv s done):openL s.bytes=done.drop (done.length - 8):=by
 have hm:maxSeq (helds (s.bytes.take 153) 9)=done.length:=by
  apply maxSeq_eq
  ·intro r hr;obtain⟨i,hi,rfl⟩:=mem_helds hr;exact h.le i hi
  ·cases hd:done.length with
   | zero=>exact Or.inl rfl
   | succ n=>
    right
    refine⟨_,helds_mem s (n % 9) (Nat.mod_lt _ (by decide)),?_⟩;rw[h.i1 n (by omega) (by omega),h.seq n (by omega)]
 unfold openL newestL;rw[hm,h.chain 8 done.length (Nat.le_refl _) (by omega),List.reverse_reverse,List.take_length]
theorem sl_new (n i:Nat)(hi:i < 9):(sl (CSt.new n) i)[16]?=some 0:=by
 rw[sl_get _ _ (by decide)];show (zeros 4096)[_]?=_
 unfold zeros;rw[List.getElem?_replicate,if_pos (by omega)]
theorem Inv.new (n:Nat)(h1:153<=n)(h2:n<=4096):Inv (CSt.new n) []:=
 ⟨⟨zeros_length _,h1,h2⟩,fun i h=>by simp at h,fun j h=>by simp at h,Or.inl (sr_zero (by decide) (sl_new n _ (by decide))),fun i _ hi=>sr_zero hi (sl_new n i hi)⟩
theorem keepL_len {L:List Rec}(x:Rec)(h:L.length<=8):(keepL L x).length<=8:=by
 unfold keepL
 split
 ·rw[List.length_append,List.length_tail,List.length_singleton];omega
 ·rw[List.length_append,List.length_singleton];omega
theorem keepL_last (L:List Rec)(x:Rec):lastR (keepL L x)=x:=by
 unfold keepL lastR;simp
theorem putRec_big {s:CSt}(h:Big s)(ho:s.off=false)(r:Rec):Big (s.putRec r).1/\((s.putRec r).2=0->(s.putRec r).1.off=false):=by
 rcases put_cases h ho r with ⟨-,e,e2,-⟩ | ⟨e8,e,-⟩
 ·exact⟨e.big,fun _=>e2⟩
 ·exact⟨e.big,fun e0=>by rw[e8] at e0;cases e0⟩
theorem putRec_err {s:CSt}(h:Big s)(ho:s.off=false)(r:Rec):(s.putRec r).2<=11:=by
 rcases put_cases h ho r with ⟨e,-⟩ | ⟨e,-⟩ <;> omega
theorem chain_lt (L:List Rec)(h:∀ r∈L,r.seq < 4294967296):∀ m n,∀ r∈chain L m n,r.seq < 4294967296:=by
 intro m
 induction m with
 | zero=>intro n r hr;cases hr
 | succ m ih=>
  intro n r hr
  by_cases hc:0 < n/\(L.getD ((n - 1) % 9) .none).seq=n
  ·rw[chain_step L m n hc.1 hc.2] at hr
   rcases List.mem_cons.1 hr with rfl | hr
   ·rw[List.getD_eq_getElem?_getD]
    cases hg:L[(n - 1) % 9]? with
    | none=>exact(by decide:(0:Nat) < 4294967296)
    | some x=>exact h x (List.mem_of_getElem? hg)
   ·exact ih _ r hr
  ·rw[chain_stop L (m+1) n hc] at hr;cases hr
theorem openL_last (l:List UInt8):(lastR (openL l)).seq<=4294967295:=by
 unfold lastR openL newestL
 cases hg:(chain (helds (l.take 153) 9) 8 (maxSeq (helds (l.take 153) 9))).reverse.getLast? with
 | none=>exact(by decide:(0:Nat)<=4294967295)
 | some x=>
  have hm:=List.mem_of_getLast? hg;rw[List.mem_reverse] at hm;have:=chain_lt _ (helds_lt _) _ _ x hm;show x.seq<=_
  omega
theorem openL_eight (l:List UInt8):(openL l).length<=8:=by unfold openL newestL;rw[List.length_reverse];exact chain_len _ 8 _
theorem openL_take (l:List UInt8)(n:Nat)(h:153<=n):openL (l.take n)=openL l:=by unfold openL;rw[List.take_take,Nat.min_eq_left h]
theorem writeE_off {s:CSt}{p:Nat}{l:List UInt8}(h:(s.writeE p l).2=8):(s.writeE p l).1.off=true:=by
 unfold CSt.writeE at h ⊢
 split at h
 ·rename_i h0;rw[if_pos h0];unfold CSt.write at h ⊢
  split at h
  ·rename_i h1;rw[if_pos h1]
  ·cases h
 ·rename_i h0;rw[if_neg h0];have h':s.err p l.length=8:=h;unfold CSt.err at h'
  split at h'
  ·cases h'
  ·split at h'
   ·assumption
   ·cases h'
theorem zeroAt_off {s:CSt}{p:Nat}(h:(s.zeroAt p).2=8):(s.zeroAt p).1.off=true:=by
 unfold CSt.zeroAt at h ⊢
 split at h
 ·rename_i h0;rw[if_pos h0]
  split at h
  ·cases h
  ·rename_i h1;rw[if_neg h1];exact writeE_off h
 ·rename_i h0;rw[if_neg h0];have h':s.err p 1=8:=h;unfold CSt.err at h'
  split at h'
  ·cases h'
  ·split at h'
   ·assumption
   ·cases h'
theorem putRec_off {s:CSt}{r:Rec}(h:(s.putRec r).2=8):(s.putRec r).1.off=true:=by
 unfold CSt.putRec at h ⊢;simp only[] at h ⊢
 split at h
 ·rename_i h0;rw[if_pos h0]
  split at h
  ·rename_i h1;rw[if_pos h1];exact writeE_off h
  ·rename_i h1;rw[if_neg h1];exact writeE_off h
 ·rename_i h0;rw[if_neg h0];exact zeroAt_off h
theorem putRec_code {s:CSt}(h:Big s)(ho:s.off=false)(r:Rec):(s.putRec r).2=0\/(s.putRec r).2=8:=by
 rcases put_cases h ho r with ⟨e,-⟩ | ⟨e,-⟩
 ·exact Or.inl e
 ·exact Or.inr e
theorem writeE_writtenM (s:CSt)(p:Nat)(l:List UInt8):(s.writeE p l).1.written<=s.written+l.length:=by
 unfold CSt.writeE
 split
 ·unfold CSt.write
  split
  ·show (s.puts p (l.take s.left)).written<=_
   rw[CSt.puts_written,List.length_take];omega
  ·show (s.puts p l).written<=_
   rw[CSt.puts_written];omega
 ·show s.written<=_;omega
theorem zeroAt_writtenM (s:CSt)(p:Nat):(s.zeroAt p).1.written<=s.written+1:=by
 unfold CSt.zeroAt
 split
 ·split
  ·show s.written<=_;omega
  ·exact writeE_writtenM s p [0]
 ·show s.written<=_;omega
theorem putRec_written (s:CSt)(r:Rec):(s.putRec r).1.written<=s.written+18:=by
 have h1:=zeroAt_writtenM s ((r.seq - 1) % 9*17+16);have h2:=writeE_writtenM (s.zeroAt ((r.seq - 1) % 9*17+16)).1 ((r.seq - 1) % 9*17) (enc16 r);have h3:=writeE_writtenM ((s.zeroAt ((r.seq - 1) % 9*17+16)).1.writeE ((r.seq - 1) % 9*17) (enc16 r)).1 ((r.seq - 1) % 9*17+16) [165];rw[enc16_length] at h2;have h4:([165]:List UInt8).length=1:=rfl;rw[h4] at h3;unfold CSt.putRec;simp only[]
 split
 ·split
  ·omega
  ·omega
 ·omega
theorem putRec_left {s:CSt}(r:Rec)(h:s.left<=9223372036854775807):(s.putRec r).1.left<=9223372036854775807:=by
 have hz:∀ (a:CSt) (p:Nat) (l:List UInt8),a.left<=9223372036854775807->(a.writeE p l).1.left<=9223372036854775807:=fun a p l ha=>by
  unfold CSt.writeE
  split
  ·unfold CSt.write
   split
   ·show (a.puts p (l.take a.left)).left<=_
    rw[CSt.puts_left]
    split <;> omega
   ·rw[CSt.puts_left]
    split <;> omega
  ·exact ha
 have h1:(s.zeroAt ((r.seq - 1) % 9*17+16)).1.left<=9223372036854775807:=by
  unfold CSt.zeroAt
  split
  ·split
   ·exact h
   ·exact hz s _ _ h
  ·exact h
 unfold CSt.putRec;simp only[]
 split
 ·split
  ·exact hz _ _ _ (hz _ _ _ h1)
  ·exact hz _ _ _ h1
 ·exact h1
end Go.Proofs.YtffpcbdlbcjihadGreatDoor
namespace Go.Proofs.YtffpcbdlbcjihadGreatDoor
open Go
def dstOf (ops:Array Oper)(j:Nat):Option Tmp:=(ops[j]?).bind (·.dst)
def fill (ops:Array Oper)(a0:Act)(vals:Nat->Option Value):Nat->Act
 | 0=>a0
 | k+1=>match vals k with
  | none=>fill ops a0 vals k
  | some v=>(fill ops a0 vals k).put (dstOf ops k) v
def upd (vals:Nat->Option Value)(i:Nat)(v:Value):Nat->Option Value:=fun j=>if j=i then some v else vals j
def Distinct (ops:Array Oper):Prop:=∀ i j d,i≠j->dstOf ops i=some d->dstOf ops j≠some d
theorem fill_size (ops:Array Oper)(a0:Act)(vals:Nat->Option Value):∀ k,(fill ops a0 vals k).tmps.size=a0.tmps.size:=by
 intro k
 induction k with
 | zero=>rfl
 | succ k ih=>
  unfold fill
  split
  ·exact ih
  ·cases dstOf ops k <;> simp[Act.put,ih]
theorem fill_other (ops:Array Oper)(a0:Act)(vals:Nat->Option Value)(d:Tmp):∀ k,(∀ j,j < k->dstOf ops j≠some d)->(fill ops a0 vals k).eval (.tmp d)=a0.eval (.tmp d):=by
 intro k
 induction k with
 | zero=>intro _;rfl
 | succ k ih=>
  intro h;unfold fill
  split
  ·exact ih (fun j hj=>h j (by omega))
  ·rw[Act.eval_put (fun e he hx=>h k (by omega) (by rw[he];cases hx;rfl))];exact ih (fun j hj=>h j (by omega))
theorem fill_at (ops:Array Oper)(a0:Act)(vals:Nat->Option Value)(hd:Distinct ops)(j:Nat)(d:Tmp)(v:Value)(hj:vals j=some v)(hdst:dstOf ops j=some d)(hlt:d < a0.tmps.size):∀ k,j < k->(fill ops a0 vals k).eval (.tmp d)=v:=by
 intro k
 induction k with
 | zero=>intro h;omega
 | succ k ih=>
  intro h;unfold fill
  by_cases e:j=k
  ·subst e;rw[hj];have hs:=fill_size ops a0 vals j;simp only[hdst,Act.put,Act.eval];simp[hs,hlt]
  ·have hk:=ih (by omega)
   split
   ·exact hk
   ·rw[Act.eval_put (fun e2 he hx=>hd j k d e hdst (by rw[he];cases hx;rfl))];exact hk
theorem fill_upd_out (ops:Array Oper)(a0:Act)(vals:Nat->Option Value)(i:Nat)(v:Value):∀ k,k<=i->fill ops a0 (upd vals i v) k=fill ops a0 vals k:=by
 intro k
 induction k with
 | zero=>intro _;rfl
 | succ k ih=>
  intro h;have e:upd vals i v k=vals k:=by simp[upd];omega
  unfold fill;rw[e,ih (by omega)]
theorem fill_upd (ops:Array Oper)(a0:Act)(vals:Nat->Option Value)(hd:Distinct ops)(i:Nat)(v:Value)(hi:vals i=none):∀ k,i < k->fill ops a0 (upd vals i v) k=(fill ops a0 vals k).put (dstOf ops i) v:=by
 intro k
 induction k with
 | zero=>intro h;omega
 | succ k ih=>
  intro h
  by_cases e:i=k
  ·subst e;have e1:upd vals i v i=some v:=by simp[upd]
   have e2:=fill_upd_out ops a0 vals i v i (Nat.le_refl _);simp only[fill,e1,hi,e2]
  ·have e1:upd vals i v k=vals k:=by simp[upd,Ne.symm e]
   have hk:=ih (by omega);simp only[fill,e1,hk]
   cases hv:vals k with
   | none=>rfl
   | some u=>exact(Act.put_comm _ v u (fun d hdi=>hd i k d e hdi))
def cnt (vals:Nat->Option Value):Nat->Nat
 | 0=>0
 | k+1=>cnt vals k+(if (vals k).isNone then 1 else 0)
theorem cnt_upd_out (vals:Nat->Option Value)(i:Nat)(v:Value):∀ k,k<=i->cnt (upd vals i v) k=cnt vals k:=by
 intro k
 induction k with
 | zero=>intro _;rfl
 | succ k ih=>
  intro h;have e:upd vals i v k=vals k:=by simp[upd];omega
  simp only[cnt,e,ih (by omega)]
theorem cnt_upd (vals:Nat->Option Value)(i:Nat)(v:Value)(hi:vals i=none):∀ k,i < k->cnt (upd vals i v) k+1=cnt vals k:=by
 intro k
 induction k with
 | zero=>intro h;omega
 | succ k ih=>
  intro h
  by_cases e:i=k
  ·subst e;have e1:upd vals i v i=some v:=by simp[upd]
   simp only[cnt,e1,hi,cnt_upd_out vals i v i (Nat.le_refl _)];simp
  ·have e1:upd vals i v k=vals k:=by simp[upd,Ne.symm e]
   have:=ih (by omega);simp only[cnt,e1];omega
theorem cnt_zero (vals:Nat->Option Value):∀ k,cnt vals k=0->∀ j,j < k->(vals j).isSome=true:=by
 intro k
 induction k with
 | zero=>intro _ j h;omega
 | succ k ih=>
  intro h j hj;simp only[cnt] at h
  by_cases e:j=k
  ·subst e
   cases hv:vals j with
   | none=>simp[hv] at h
   | some v=>rfl
  ·exact ih (by omega) j (by omega)
def goodRun (P:Program)(S:Nat->Value->World->Prop)(C:World->Prop)(i:Nat)(w:World):Result Next->Prop
 | .ok (.value u) w'=>C w'/\(∀ j v,S j v w->S j v w')/\S i u w'
 | .ok .skip w'=>C w'/\(∀ j v,S j v w->S j v w')/\S i undef w'
 | .ok (.enter f args) w'=>Calls P f args w' fun e w''=>∃ v,e=.returned v/\C w''/\(∀ j v,S j v w->S j v w'')/\S i v w''
 | _=>False
section
variable {P:Program}{ops:Array Oper}{Q:Exit->Act->World->Prop}{md:Region.Mode}{S:Nat->Value->World->Prop}{C:World->Prop}{a0:Act}
def StepOk (P:Program)(md:Region.Mode)(ops:Array Oper)(S:Nat->Value->World->Prop)(C:World->Prop)(a0:Act)(i:Nat)(o:Oper):Prop:=
 ∀ (a:Act) (w:World),C w->a.tmps.size=a0.tmps.size->(∀ e d,e∈o.after->Region.binds md e=true->dstOf ops e.on=some d->S e.on (a.eval (.tmp d)) w) ->
  (∀ d,(∀ j,dstOf ops j≠some d)->a.eval (.tmp d)=a0.eval (.tmp d)) ->
  if Region.wanted o (yielded ops a.tmps)=true then goodRun P S C i w ((execOp a.eval o).run P w) else S i undef w
theorem wpAny_spec (hd:Distinct ops)(hin:∀ j d,dstOf ops j=some d->d < a0.tmps.size)
  (hback:∀ i o,ops[i]?=some o->∀ e,e∈o.after->Region.binds md e=true->e.on < i)
  (step:∀ i o,ops[i]?=some o->StepOk P md ops S C a0 i o)
  (fin:∀ (vals:Nat->Value) (w:World),C w->(∀ j,j < ops.size->S j (vals j) w)->Q .normal (fill ops a0 (fun j=>some (vals j)) ops.size) w) :
  ∀ (fuel:Nat) (listed:Array Bool) (vals:Nat->Option Value) (w:World),listed.size=ops.size->(∀ j,j < ops.size->listed.getD j true=(vals j).isSome)->C w ->
   (∀ j v,vals j=some v->S j v w)->cnt vals ops.size<=fuel->wpAny P md ops Q fuel listed (fill ops a0 vals ops.size) w:=by
 have hfin:∀ (vals:Nat->Option Value) (w:World),C w->(∀ j v,vals j=some v->S j v w)->(∀ j,j < ops.size->(vals j).isSome=true)->Q .normal (fill ops a0 vals ops.size) w:=by
  intro vals w hC hS hall;have e:fill ops a0 vals ops.size=fill ops a0 (fun j=>some ((vals j).getD undef)) ops.size:=by
   have:∀ k,k<=ops.size->fill ops a0 vals k=fill ops a0 (fun j=>some ((vals j).getD undef)) k:=by
    intro k
    induction k with
    | zero=>intro _;rfl
    | succ k ih=>
     intro hk;have hs:=hall k (by omega)
     cases hv:vals k with
     | none=>rw[hv] at hs;cases hs
     | some v=>simp only[fill,hv,Option.getD_some,ih (by omega)]
   exact this _ (Nat.le_refl _)
  rw[e]
  refine fin (fun j=>(vals j).getD undef) w hC (fun j hj=>?_);have hs:=hall j hj
  cases hv:vals j with
  | none=>rw[hv] at hs;cases hs
  | some v=>exact hS j v hv
 have hready:∀ (listed:Array Bool) (vals:Nat->Option Value),listed.size=ops.size->(∀ j,j < ops.size->listed.getD j true=(vals j).isSome)->Region.ready md ops listed=[]->∀ j,j < ops.size->(vals j).isSome=true:=by
  intro listed vals hsz hl hr j
  induction j using Nat.strongRecOn with
  | ind j ih=>
   intro hj
   cases hv:(vals j).isSome with
   | true=>rfl
   | false=>
    exfalso
    have hm:j∈Region.ready md ops listed:=by
     rw[mem_ready]
     refine⟨by rw[hl j hj,hv],ops[j],Array.getElem?_eq_getElem hj,fun e he hb=>?_⟩;have hlt:=hback j _ (Array.getElem?_eq_getElem hj) e he hb;have h1:=ih e.on hlt (by omega);have h2:=hl e.on (by omega);rw[h1] at h2;have h3:e.on < listed.size:=by omega
     simp only[Array.getD_eq_getD_getElem?,Array.getElem?_eq_getElem h3,Option.getD_some] at h2 ⊢;exact h2
    rw[hr] at hm
    cases hm
 intro fuel
 induction fuel with
 | zero=>
  intro listed vals w hsz hl hC hS hc;have hall:=cnt_zero vals ops.size (by omega)
  refine⟨?_,hfin vals w hC hS hall⟩
  cases hr:Region.ready md ops listed with
  | nil=>rfl
  | cons i r=>
   have hm:i∈Region.ready md ops listed:=by rw[hr];exact List.mem_cons_self ..
   rw[mem_ready] at hm;obtain⟨h0,o,ho,-⟩:=hm;have hi:i < ops.size:=(Array.getElem?_eq_some_iff.1 ho).1;rw[hl i hi,hall i hi] at h0
   cases h0
 | succ fuel ih=>
  intro listed vals w hsz hl hC hS hc
  refine⟨fun hr=>hfin vals w hC hS (hready listed vals hsz hl hr),fun i hm=>?_⟩;rw[mem_ready] at hm;obtain⟨h0,o,ho,hdeps⟩:=hm;have hi:i < ops.size:=(Array.getElem?_eq_some_iff.1 ho).1;have hnone:vals i=none:=by
   rw[hl i hi] at h0
   cases hv:vals i with
   | none=>rfl
   | some v=>rw[hv] at h0;cases h0
  have hdo:dstOf ops i=o.dst:=by simp[dstOf,ho]
  have hst:=step i o ho (fill ops a0 vals ops.size) w hC (fill_size _ _ _ _) (fun e d he hb hde=>by
    have h1:=hdeps e he hb;have hlt:=hback i o ho e he hb;have h2:=hl e.on (by omega);have h3:e.on < listed.size:=by omega
    have h4:(vals e.on).isSome=true:=by
     rw[<- h2];simp only[Array.getD_eq_getD_getElem?,Array.getElem?_eq_getElem h3,Option.getD_some] at h1 ⊢;exact h1
    cases hv:vals e.on with
    | none=>rw[hv] at h4;cases h4
    | some v=>
     rw[fill_at ops a0 vals hd e.on d v hv hde (hin _ _ hde) ops.size (by omega)];exact hS _ _ hv)
   (fun d hnd=>fill_other ops a0 vals d ops.size (fun j _=>hnd j))
  have hnext:∀ (v:Value) (w':World),C w'->(∀ j v,S j v w->S j v w')->S i v w'->wpAny P md ops Q fuel (listed.setIfInBounds i true) ((fill ops a0 vals ops.size).put o.dst v) w':=by
   intro v w' hC' hK hSi;rw[<- hdo,<- fill_upd ops a0 vals hd i v hnone ops.size hi]
   refine ih _ (upd vals i v) w' (by simp[hsz]) (fun j hj=>?_) hC' (fun j u hu=>?_) (by have:=cnt_upd vals i v hnone ops.size hi;omega)
   ·by_cases e:j=i
    ·subst e;simp[upd,hsz,hi]
    ·rw[getD_set_ne true (Ne.symm e),hl j hj];simp[upd,e]
   ·by_cases e:j=i
    ·subst e;simp[upd] at hu
     subst hu;exact hSi
    ·simp[upd,e] at hu
     exact hK _ _ (hS _ _ hu)
  unfold wpOp;simp only[ho]
  split
  ·rename_i hw;rw[if_pos hw] at hst
   refine .inl ?_;unfold Oper.wp;generalize (execOp (fill ops a0 vals ops.size).eval o).run P w=r at hst
   cases r with
   | ok n w'=>
    cases n <;> simp only[goodRun] at hst <;> simp only[Oper.upon]
    case value u=>exact hnext _ _ hst.1 hst.2.1 hst.2.2
    case skip=>exact hnext _ _ hst.1 hst.2.1 hst.2.2
    case enter f args=>exact hst.mono fun e w'' ⟨v,he,h1,h2,h3⟩=>by subst he;exact hnext _ _ h1 h2 h3
   | halt x w'=>simp only[goodRun] at hst
  ·rename_i hw;rw[if_neg hw] at hst;exact hnext _ _ hC (fun _ _ h=>h) hst
def regionB (ops:Array Oper)(n:Nat):Bool:=
 ((List.range ops.size).all fun i=>(List.range ops.size).all fun j=>i == j || (match dstOf ops i,dstOf ops j with | some d,some e=>d != e | _,_=>true)) &&
 ((List.range ops.size).all fun i=>match dstOf ops i with | some d=>decide (d < n) | none=>true) &&
 ((List.range ops.size).all fun i=>match ops[i]? with | some o=>o.after.toList.all fun e=>!Region.binds .any e || decide (e.on < i) | none=>true)
theorem dstOf_lt {ops:Array Oper}{j:Nat}{d:Tmp}(h:dstOf ops j=some d):j < ops.size:=by
 rcases Nat.lt_or_ge j ops.size with h' | h'
 ·exact h'
 ·simp[dstOf,Array.getElem?_eq_none h'] at h
theorem region_spec {id:Nat}{w:World}(n:Nat)(hn:ops.size=n)(S:Nat->Value->World->Prop)(C:World->Prop)(hm:P.follows .mixedOrders=true)(hB:regionB ops a0.tmps.size=true)(hC:C w.drew)
  (step:∀ i o,ops[i]?=some o->StepOk P .any ops S C a0 i o)
  (fin:∀ (vals:Nat->Value) (w:World),C w->(∀ j,j < n->S j (vals j) w)->Q .normal (fill ops a0 (fun j=>some (vals j)) n) w) :
  (Code.region id ops true).wp P Q a0 w:=by
 subst hn;unfold regionB at hB;simp only[Bool.and_eq_true,List.all_eq_true,List.mem_range] at hB;obtain⟨⟨h1,h2⟩,h3⟩:=hB
 refine wp_region_any hm ?_;have hnone:fill ops a0 (fun _=>none) ops.size=a0:=by
  have:∀ k,fill ops a0 (fun _=>none) k=a0:=by
   intro k
   induction k with
   | zero=>rfl
   | succ k ih=>simp only[fill,ih]
  exact this _
 have key:=wpAny_spec (P:=P) (ops:=ops) (Q:=Q) (md:=.any) (S:=S) (C:=C) (a0:=a0)
  (fun i j d hne hi hj=>by
   have h:=h1 i (dstOf_lt hi) j (dstOf_lt hj);simp[hne,hi,hj] at h)
  (fun j d hj=>by
   have h:=h2 j (dstOf_lt hj);rw[hj] at h;simpa using h)
  (fun i o ho e he hb=>by
   have h:=h3 i (Array.getElem?_eq_some_iff.1 ho).1;rw[ho] at h;have:=List.all_eq_true.1 h e (by simpa using he);simpa[hb] using this)
  step fin ops.size (Array.replicate ops.size false) (fun _=>none) w.drew (by simp) (fun j hj=>by simp[hj]) hC (fun j v h=>by cases h) (by
   have:∀ k,cnt (fun _=>none) k<=k:=by
    intro k
    induction k with
    | zero=>exact Nat.le_refl _
    | succ k ih=>simp only[cnt];split <;> omega
   exact this _)
 rw[hnone] at key;exact key
theorem notDst {ops:Array Oper}{d:Tmp}(h:((List.range ops.size).all fun j=>!(dstOf ops j == some d))=true):∀ j,dstOf ops j≠some d:=fun j e=>by
 have:=List.all_eq_true.1 h j (List.mem_range.2 (dstOf_lt e));simp[e] at this
theorem slot_of {a:Act}{d:Tmp}{c:Value}(h:a.eval (.tmp d)=c):a.tmps[d]?.getD undef=c:=by
 rw[<- Array.getD_eq_getD_getElem?];exact h
theorem StepOk.free {i:Nat}{o:Oper}(hg:o.guard=none)
  (hrun:∀ (a:Act) (w:World),C w->(∀ e d,e∈o.after->Region.binds md e=true->dstOf ops e.on=some d->S e.on (a.eval (.tmp d)) w)->(∀ d,(∀ j,dstOf ops j≠some d)->a.eval (.tmp d)=a0.eval (.tmp d))->goodRun P S C i w ((execOp a.eval o).run P w)) :
  StepOk P md ops S C a0 i o:=by
 intro a w hC _ hdep hoth;rw[if_pos (by unfold Region.wanted;rw[hg])];exact hrun a w hC hdep hoth
theorem goodRun.made {i:Nat}{w w':World}{c:Value}{r:Result Next}(hr:r=.ok (.value c) w')(hC:C w')(hK:∀ j v,S j v w->S j v w')(hS:S i c w'):goodRun P S C i w r:=by
 subst hr;exact⟨hC,hK,hS⟩
theorem goodRun.call {i:Nat}{w:World}{f:FuncId}{args:Array Value}{r:Result Next}(hr:r=.ok (.enter f args) w)
  (hc:Calls P f args w fun e w''=>∃ v,e=.returned v/\C w''/\(∀ j v,S j v w->S j v w'')/\S i v w''):goodRun P S C i w r:=by
 subst hr;exact hc
theorem goodRun.val {i:Nat}{w:World}{c:Value}{r:Result Next}(hr:r=.ok (.value c) w)(hC:C w)(hS:S i c w):goodRun P S C i w r:=by
 subst hr;exact⟨hC,fun _ _ h=>h,hS⟩
end
end Go.Proofs.YtffpcbdlbcjihadGreatDoor
namespace Go.Proofs.YtffpcbdlbcjihadGreatDoor
open Go.RowKit Go.Extern.Stop Go.Stop Go.Extern
structure DSt where
 closed:Nat
 opn:Nat
 now:Nat
 begun:Nat
 kicks:Nat
 reset:Bool
def DSt.row (d:DSt):Array Value:=#[.int .i64 (d.closed:Int),.int .i64 (d.opn:Int),.int .i64 (d.now:Int),.int .i64 (d.begun:Int),.int .i64 (d.kicks:Int),.bool d.reset]
structure DogAt (w:World)(b:Nat)(d:DSt):Prop where
 heap:w.heap[b]?=some (.cells d.row 238 (0,0))
 hc:d.closed<=1000
 ho:d.opn<=1000
 hk:d.kicks<=d.begun
 hb:d.begun<=d.now
 hn:d.now<=1099511627776
theorem DogAt.cell {w:World}{b:Nat}{d:DSt}(h:DogAt w b d)(i:Nat):w.cell? ⟨b,i,none⟩=d.row[i]?:=by simp[World.cell?,h.heap]
theorem DogAt.frozen {w:World}{b:Nat}{d:DSt}(h:DogAt w b d)(i:Nat):w.frozen? ⟨b,i,none⟩=false:=by simp[World.frozen?,h.heap]
theorem DogAt.c0 {w:World}{b:Nat}{d:DSt}(h:DogAt w b d):w.cell? ⟨b,0,none⟩=some (.int .i64 (d.closed:Int)):=h.cell 0
theorem DogAt.c1 {w:World}{b:Nat}{d:DSt}(h:DogAt w b d):w.cell? ⟨b,1,none⟩=some (.int .i64 (d.opn:Int)):=h.cell 1
theorem DogAt.c2 {w:World}{b:Nat}{d:DSt}(h:DogAt w b d):w.cell? ⟨b,2,none⟩=some (.int .i64 (d.now:Int)):=h.cell 2
theorem DogAt.c3 {w:World}{b:Nat}{d:DSt}(h:DogAt w b d):w.cell? ⟨b,3,none⟩=some (.int .i64 (d.begun:Int)):=h.cell 3
theorem DogAt.c4 {w:World}{b:Nat}{d:DSt}(h:DogAt w b d):w.cell? ⟨b,4,none⟩=some (.int .i64 (d.kicks:Int)):=h.cell 4
theorem DogAt.c5 {w:World}{b:Nat}{d:DSt}(h:DogAt w b d):w.cell? ⟨b,5,none⟩=some (.bool d.reset):=h.cell 5
theorem DogAt.lt {w:World}{b:Nat}{d:DSt}(h:DogAt w b d):b < w.heap.size:=lt_of_row h.heap
theorem DogAt.set {w:World}{b:Nat}{d d':DSt}(h:DogAt w b d)(i:Nat)(v:Value)(hr:d.row.setIfInBounds i v=d'.row)(hc:d'.closed<=1000)(ho:d'.opn<=1000)(hk:d'.kicks<=d'.begun)(hb:d'.begun<=d'.now)(hn:d'.now<=1099511627776):DogAt (w.setCell ⟨b,i,none⟩ v) b d':=by
 refine⟨?_,hc,ho,hk,hb,hn⟩;simp only[World.setCell,Array.getElem?_modify,h.heap];simp[hr]
theorem DogAt.below {w w':World}{b:Nat}{d:DSt}(h:DogAt w b d)(hb:Below w.heap.size w w'):DogAt w' b d:=⟨row_below hb h.heap,h.hc,h.ho,h.hk,h.hb,h.hn⟩
theorem DogAt.drewN {w:World}{b:Nat}{d:DSt}(h:DogAt w b d)(q:Nat):DogAt (w.drewN q) b d:=⟨h.heap,h.hc,h.ho,h.hk,h.hb,h.hn⟩
theorem DogAt.drew {w:World}{b:Nat}{d:DSt}(h:DogAt w b d):DogAt w.drew b d:=⟨h.heap,h.hc,h.ho,h.hk,h.hb,h.hn⟩
theorem grown_drewN {a w:World}{r:Option Nat}(h:a.grownBy w r)(q:Nat):a.grownBy (w.drewN q) r:=⟨h.os,h.tape,h.output,h.size,h.block⟩
def DSt.new (c o:Nat):DSt:=⟨c,o,0,0,0,false⟩
def DSt.isOpen (d:DSt):Bool:=!d.reset && decide (d.closed < d.now - d.begun)
def DSt.tick (d:DSt):DSt:={ d with now:=d.now+1,reset:=decide (d.closed+d.opn < d.now+1 - d.begun) }
def DSt.kick (d:DSt):DSt:={ d with begun:=d.now,kicks:=d.kicks+1 }
def DSt.start (d:DSt):DSt:={ d with begun:=d.now,reset:=false }
set_option maxHeartbeats 400000 in
theorem dog_new (c o:Nat)(w:World)(h1:c<=1000)(h2:1<=o)(h3:o<=1000) :
  Calls Tryz.prog 105 #[.int .i64 (c:Int),.int .i64 (o:Int)] w fun e w'=>e=.returned (.tuple #[.pointer (some ⟨w.heap.size,0,none⟩),.nilIface])/\Below w.heap.size w w'/\DogAt w' w.heap.size (DSt.new c o):=by
 have g1:¬(c:Int) < 0:=by omega
 have g2:¬1000 < (c:Int):=by omega
 have g3:¬(o:Int) < 1:=by omega
 have g4:¬1000 < (o:Int):=by omega
 go_enter Tryz.func105,Tryz.ntmps105
 go_wp2;go_ret2
 refine⟨rfl,?_,⟨?_,h1,h3,Nat.le_refl _,Nat.le_refl _,Nat.zero_le _⟩⟩
 ·exact(Below.refl _ _).alloc (Nat.le_refl _) _
 ·show (w.heap.push _)[w.heap.size]?=_
  simp
  rfl
theorem dog_reset (b:Nat)(d:DSt)(w:World)(h:DogAt w b d) :
  Calls Tryz.prog 122 #[.pointer (some ⟨b,0,none⟩)] w fun e w'=>e=.returned (.bool d.reset)/\w'=w:=by
 have c5:=h.c5;go_enter Tryz.func122,Tryz.ntmps122
 go_wp2;go_ret;exact⟨rfl,rfl⟩
theorem dog_now (b:Nat)(d:DSt)(w:World)(h:DogAt w b d) :
  Calls Tryz.prog 116 #[.pointer (some ⟨b,0,none⟩)] w fun e w'=>e=.returned (.int .i64 (d.now:Int))/\w'=w:=by
 have c2:=h.c2;go_enter Tryz.func116,Tryz.ntmps116
 go_wp2;go_ret;exact⟨rfl,rfl⟩
theorem dog_kicks (b:Nat)(d:DSt)(w:World)(h:DogAt w b d) :
  Calls Tryz.prog 117 #[.pointer (some ⟨b,0,none⟩)] w fun e w'=>e=.returned (.int .i64 (d.kicks:Int))/\w'=w:=by
 have c4:=h.c4;go_enter Tryz.func117,Tryz.ntmps117
 go_wp2;go_ret;exact⟨rfl,rfl⟩
theorem dog_behind (b:Nat)(d:DSt)(w:World)(h:DogAt w b d) :
  Calls Tryz.prog 275 #[.pointer (some ⟨b,0,none⟩)] w fun e w'=>e=.returned (.int .i64 ((d.now - d.begun:Nat):Int))/\∃ q,w'=w.drewN q:=by
 have c2:=h.c2;have c3:=h.c3;have hb:=h.hb;have hn:=h.hn;have wr:IntKind.i64.wrap ((d.now:Int) - (d.begun:Int))=((d.now - d.begun:Nat):Int):=by rw[IntKind.wrap_i64];omega
 go_enter Tryz.func275,Tryz.ntmps275
 go_wp2_with fail
 go_quiet (fail)
 go_wp2;go_ret;exact⟨rfl,_,rfl⟩
end Go.Proofs.YtffpcbdlbcjihadGreatDoor
