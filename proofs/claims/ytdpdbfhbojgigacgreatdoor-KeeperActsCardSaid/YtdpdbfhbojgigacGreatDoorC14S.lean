/-
  Several texts as one: RingInv, RingMore, DogSt, DogOps, RefDog, Mks, LcCount.
-/
import Derived.Test.YtdpdbfhbojgigacGreatDoorC13S
import Derived.BigQuiet
import Derived.Deep.QuietTactic
import Derived.Deep.DeepCutAuto
import Derived.WalkSmall
namespace Go.Proofs.YtdpdbfhbojgigacGreatDoor
open Go.RowKit
theorem enc_last (r:Rec):(enc r)[16]?=some 165:=by
 unfold enc;rw[List.getElem?_append_right (by rw[enc16_length];omega),enc16_length];rfl
theorem dec_zero {l:List UInt8}(h:l[16]?=some 0):decB l=false:=by
 cases hd:decB l with
 | false=>rfl
 | true=>
  have e:=(dec_seq hd).2.2.2;rw[<- e,enc_last] at h
  cases h
def sr (s:CSt)(i:Nat):Rec:=slotR (s.bytes.take 153) i
theorem sr_eq {s:CSt}{i:Nat}(hi:i < 9):sr s i=if decB (sl s i)=true/\((decR (sl s i)).seq - 1) % 9=i then decR (sl s i) else .none:=by
 unfold sr slotR;rw[sl_slotB i hi]
theorem sr_zero {s:CSt}{i:Nat}(hi:i < 9)(h:(sl s i)[16]?=some 0):sr s i=.none:=by
 rw[sr_eq hi,dec_zero h,if_neg (by simp)]
theorem helds_get (s:CSt)(i:Nat)(hi:i < 9):(helds (s.bytes.take 153) 9).getD i .none=sr s i:=by
 rw[List.getD_eq_getElem?_getD,List.getElem?_eq_getElem (by rw[helds_length];exact hi)];simp[helds,hi,sr]
theorem mem_helds {s:CSt}{r:Rec}(h:r∈helds (s.bytes.take 153) 9):∃ i,i < 9/\r=sr s i:=by
 simp only[helds,List.mem_map,List.mem_range] at h;obtain⟨i,hi,rfl⟩:=h;exact⟨i,hi,by rw[if_pos hi];rfl⟩
theorem helds_mem (s:CSt)(i:Nat)(hi:i < 9):sr s i∈helds (s.bytes.take 153) 9:=by
 simp only[helds,List.mem_map,List.mem_range];exact⟨i,hi,by rw[if_pos hi];rfl⟩
theorem maxFrom_ge (L:List Rec):∀ m,m<=L.foldl (fun m r=>max m r.seq) m:=by
 induction L with
 | nil=>intro m;exact Nat.le_refl _
 | cons r t ih=>intro m;exact Nat.le_trans (Nat.le_max_left _ _) (ih _)
theorem maxFrom_le (L:List Rec)(n:Nat):∀ m,m<=n->(∀ r∈L,r.seq<=n)->L.foldl (fun m r=>max m r.seq) m<=n:=by
 induction L with
 | nil=>intro m h _;exact h
 | cons r t ih=>intro m h h2;exact ih _ (Nat.max_le.2 ⟨h,h2 r (by simp)⟩) (fun x hx=>h2 x (by simp[hx]))
theorem maxFrom_mem (L:List Rec):∀ m r,r∈L->r.seq<=L.foldl (fun m r=>max m r.seq) m:=by
 induction L with
 | nil=>intro m r h;cases h
 | cons x t ih=>
  intro m r h
  rcases List.mem_cons.1 h with rfl | h
  ·exact Nat.le_trans (Nat.le_max_right m r.seq) (maxFrom_ge t _)
  ·exact ih _ r h
theorem maxSeq_eq {L:List Rec}{n:Nat}(h1:∀ r∈L,r.seq<=n)(h2:n=0\/∃ r∈L,r.seq=n):maxSeq L=n:=by
 have a:=maxFrom_le L n 0 (Nat.zero_le _) h1;have b:n<=maxSeq L:=by
  rcases h2 with rfl | ⟨r,hr,rfl⟩
  ·exact Nat.zero_le _
  ·exact maxFrom_mem L 0 r hr
 exact Nat.le_antisymm a b
structure Inv (s:CSt)(done:List Rec):Prop where
 big:Big s
 seq:∀ i (h:i < done.length),done[i].seq=i+1
 i1:∀ j (h:j < done.length),done.length<=j+8->sr s (j % 9)=done[j]
 i2:sr s (done.length % 9)=.none\/(9<=done.length/\sr s (done.length % 9)=done.getD (done.length - 9) .none)
 i3:∀ i,done.length < i->i < 9->sr s i=.none
theorem Inv.le {s:CSt}{done:List Rec}(h:Inv s done)(i:Nat)(hi:i < 9):(sr s i).seq<=done.length:=by
 by_cases h0:done.length < i
 ·rw[h.i3 i h0 hi];exact Nat.zero_le _
 ·by_cases e:i=done.length % 9
  ·rw[e]
   rcases h.i2 with e2 | ⟨h9,e2⟩
   ·rw[e2];exact Nat.zero_le _
   ·rw[e2,List.getD_eq_getElem?_getD,List.getElem?_eq_getElem (by omega)];show (done[done.length - 9]).seq<=_
    rw[h.seq];omega
  ·obtain⟨j,hj,hj2,hj3⟩:∃ j,j < done.length/\done.length<=j+8/\j % 9=i:=by
    refine⟨done.length - 1 - (done.length+8 - i) % 9,?_,?_,?_⟩ <;> omega
   have:=h.i1 j hj hj2;rw[hj3] at this;rw[this,h.seq];omega
theorem Inv.chain {s:CSt}{done:List Rec}(h:Inv s done):∀ (m n:Nat),n<=done.length->done.length+m<=n+8->chain (helds (s.bytes.take 153) 9) m n=((done.take n).drop (n - m)).reverse:=by
 intro m
 induction m with
 | zero=>
  intro n hn hm;rw[Nat.sub_zero,List.drop_eq_nil_of_le (by rw[List.length_take];omega)];rfl
 | succ m ih=>
  intro n hn hm
  cases n with
  | zero=>rw[chain_stop _ _ _ (fun h=>absurd h.1 (by omega))];simp
  | succ n=>
   have hlt:n < done.length:=by omega
   have hg:(helds (s.bytes.take 153) 9).getD (n % 9) .none=done[n]:=by
    rw[helds_get s _ (Nat.mod_lt _ (by decide)),h.i1 n hlt (by omega)]
   have hst:=chain_step (helds (s.bytes.take 153) 9) m (n+1) (by omega) (by rw[Nat.add_sub_cancel,hg,h.seq n hlt]);rw[Nat.add_sub_cancel,hg] at hst;rw[hst,ih n (by omega) (by omega),List.take_succ_eq_append_getElem hlt,List.drop_append,List.reverse_append];have e1:n+1 - (m+1)=n - m:=by omega
   have e2:n - m - (done.take n).length=0:=by rw[List.length_take];omega
   rw[e1,e2,List.drop_zero];rfl
theorem Inv.opens {s:CSt}{done:List Rec}(h:Inv s done):openL s.bytes=done.drop (done.length - 8):=by
 have hm:maxSeq (helds (s.bytes.take 153) 9)=done.length:=by
  apply maxSeq_eq
  ·intro r hr;obtain⟨i,hi,rfl⟩:=mem_helds hr;exact h.le i hi
  ·cases hd:done.length with
   | zero=>exact Or.inl rfl
   | succ n=>
    right
    refine⟨_,helds_mem s (n % 9) (Nat.mod_lt _ (by decide)),?_⟩;rw[h.i1 n (by omega) (by omega),h.seq n (by omega)]
 unfold openL newestL;rw[hm,h.chain 8 done.length (Nat.le_refl _) (by omega),List.reverse_reverse,List.take_length]
theorem sl_new (n i:Nat)(hi:i < 9):(sl (CSt.new n) i)[16]?=some 0:=by
 rw[sl_get _ _ (by decide)];show (zeros 4096)[_]?=_
 unfold zeros;rw[List.getElem?_replicate,if_pos (by omega)]
theorem Inv.new (n:Nat)(h1:153<=n)(h2:n<=4096):Inv (CSt.new n) []:=
 ⟨⟨zeros_length _,h1,h2⟩,fun i h=>by simp at h,fun j h=>by simp at h,Or.inl (sr_zero (by decide) (sl_new n _ (by decide))),fun i _ hi=>sr_zero hi (sl_new n i hi)⟩
theorem keepL_len {L:List Rec}(x:Rec)(h:L.length<=8):(keepL L x).length<=8:=by
 unfold keepL
 split
 ·rw[List.length_append,List.length_tail,List.length_singleton];omega
 ·rw[List.length_append,List.length_singleton];omega
theorem keepL_last (L:List Rec)(x:Rec):lastR (keepL L x)=x:=by
 unfold keepL lastR;simp
theorem putRec_big {s:CSt}(h:Big s)(ho:s.off=false)(r:Rec):Big (s.putRec r).1/\((s.putRec r).2=0->(s.putRec r).1.off=false):=by
 rcases put_cases h ho r with ⟨-,e,e2,-⟩ | ⟨e8,e,-⟩
 ·exact⟨e.big,fun _=>e2⟩
 ·exact⟨e.big,fun e0=>by rw[e8] at e0;cases e0⟩
theorem putRec_err {s:CSt}(h:Big s)(ho:s.off=false)(r:Rec):(s.putRec r).2<=11:=by
 rcases put_cases h ho r with ⟨e,-⟩ | ⟨e,-⟩ <;> omega
theorem chain_lt (L:List Rec)(h:∀ r∈L,r.seq < 4294967296):∀ m n,∀ r∈chain L m n,r.seq < 4294967296:=by
 intro m
 induction m with
 | zero=>intro n r hr;cases hr
 | succ m ih=>
  intro n r hr
  by_cases hc:0 < n/\(L.getD ((n - 1) % 9) .none).seq=n
  ·rw[chain_step L m n hc.1 hc.2] at hr
   rcases List.mem_cons.1 hr with rfl | hr
   ·rw[List.getD_eq_getElem?_getD]
    cases hg:L[(n - 1) % 9]? with
    | none=>exact(by decide:(0:Nat) < 4294967296)
    | some x=>exact h x (List.mem_of_getElem? hg)
   ·exact ih _ r hr
  ·rw[chain_stop L (m+1) n hc] at hr;cases hr
theorem openL_last (l:List UInt8):(lastR (openL l)).seq<=4294967295:=by
 unfold lastR openL newestL
 cases hg:(chain (helds (l.take 153) 9) 8 (maxSeq (helds (l.take 153) 9))).reverse.getLast? with
 | none=>exact(by decide:(0:Nat)<=4294967295)
 | some x=>
  have hm:=List.mem_of_getLast? hg;rw[List.mem_reverse] at hm;have:=chain_lt _ (helds_lt _) _ _ x hm;show x.seq<=_
  omega
theorem openL_eight (l:List UInt8):(openL l).length<=8:=by unfold openL newestL;rw[List.length_reverse];exact chain_len _ 8 _
theorem openL_take (l:List UInt8)(n:Nat)(h:153<=n):openL (l.take n)=openL l:=by unfold openL;rw[List.take_take,Nat.min_eq_left h]
theorem writeE_off {s:CSt}{p:Nat}{l:List UInt8}(h:(s.writeE p l).2=8):(s.writeE p l).1.off=true:=by
 unfold CSt.writeE at h ⊢
 split at h
 ·rename_i h0;rw[if_pos h0];unfold CSt.write at h ⊢
  split at h
  ·rename_i h1;rw[if_pos h1]
  ·cases h
 ·rename_i h0;rw[if_neg h0];have h':s.err p l.length=8:=h;unfold CSt.err at h'
  split at h'
  ·cases h'
  ·split at h'
   ·assumption
   ·cases h'
theorem zeroAt_off {s:CSt}{p:Nat}(h:(s.zeroAt p).2=8):(s.zeroAt p).1.off=true:=by
 unfold CSt.zeroAt at h ⊢
 split at h
 ·rename_i h0;rw[if_pos h0]
  split at h
  ·cases h
  ·rename_i h1;rw[if_neg h1];exact writeE_off h
 ·rename_i h0;rw[if_neg h0];have h':s.err p 1=8:=h;unfold CSt.err at h'
  split at h'
  ·cases h'
  ·split at h'
   ·assumption
   ·cases h'
theorem putRec_off {s:CSt}{r:Rec}(h:(s.putRec r).2=8):(s.putRec r).1.off=true:=by
 unfold CSt.putRec at h ⊢;simp only[] at h ⊢
 split at h
 ·rename_i h0;rw[if_pos h0]
  split at h
  ·rename_i h1;rw[if_pos h1];exact writeE_off h
  ·rename_i h1;rw[if_neg h1];exact writeE_off h
 ·rename_i h0;rw[if_neg h0];exact zeroAt_off h
theorem putRec_code {s:CSt}(h:Big s)(ho:s.off=false)(r:Rec):(s.putRec r).2=0\/(s.putRec r).2=8:=by
 rcases put_cases h ho r with ⟨e,-⟩ | ⟨e,-⟩
 ·exact Or.inl e
 ·exact Or.inr e
theorem writeE_writtenM (s:CSt)(p:Nat)(l:List UInt8):(s.writeE p l).1.written<=s.written+l.length:=by
 unfold CSt.writeE
 split
 ·unfold CSt.write
  split
  ·show (s.puts p (l.take s.left)).written<=_
   rw[CSt.puts_written,List.length_take];omega
  ·show (s.puts p l).written<=_
   rw[CSt.puts_written];omega
 ·show s.written<=_;omega
theorem zeroAt_writtenM (s:CSt)(p:Nat):(s.zeroAt p).1.written<=s.written+1:=by
 unfold CSt.zeroAt
 split
 ·split
  ·show s.written<=_;omega
  ·exact writeE_writtenM s p [0]
 ·show s.written<=_;omega
theorem putRec_written (s:CSt)(r:Rec):(s.putRec r).1.written<=s.written+18:=by
 have h1:=zeroAt_writtenM s ((r.seq - 1) % 9*17+16);have h2:=writeE_writtenM (s.zeroAt ((r.seq - 1) % 9*17+16)).1 ((r.seq - 1) % 9*17) (enc16 r);have h3:=writeE_writtenM ((s.zeroAt ((r.seq - 1) % 9*17+16)).1.writeE ((r.seq - 1) % 9*17) (enc16 r)).1 ((r.seq - 1) % 9*17+16) [165];rw[enc16_length] at h2;have h4:([165]:List UInt8).length=1:=rfl;rw[h4] at h3;unfold CSt.putRec;simp only[]
 split
 ·split
  ·omega
  ·omega
 ·omega
theorem putRec_left {s:CSt}(r:Rec)(h:s.left<=9223372036854775807):(s.putRec r).1.left<=9223372036854775807:=by
 have hz:∀ (a:CSt) (p:Nat) (l:List UInt8),a.left<=9223372036854775807->(a.writeE p l).1.left<=9223372036854775807:=fun a p l ha=>by
  unfold CSt.writeE
  split
  ·unfold CSt.write
   split
   ·show (a.puts p (l.take a.left)).left<=_
    rw[CSt.puts_left]
    split <;> omega
   ·rw[CSt.puts_left]
    split <;> omega
  ·exact ha
 have h1:(s.zeroAt ((r.seq - 1) % 9*17+16)).1.left<=9223372036854775807:=by
  unfold CSt.zeroAt
  split
  ·split
   ·exact h
   ·exact hz s _ _ h
  ·exact h
 unfold CSt.putRec;simp only[]
 split
 ·split
  ·exact hz _ _ _ (hz _ _ _ h1)
  ·exact hz _ _ _ h1
 ·exact h1
end Go.Proofs.YtdpdbfhbojgigacGreatDoor
namespace Go.Proofs.YtdpdbfhbojgigacGreatDoor
open Go.RowKit Go.Extern.Stop Go.Stop Go.Extern
structure DSt where
 closed:Nat
 opn:Nat
 now:Nat
 begun:Nat
 kicks:Nat
 reset:Bool
def DSt.row (d:DSt):Array Value:=#[.int .i64 (d.closed:Int),.int .i64 (d.opn:Int),.int .i64 (d.now:Int),.int .i64 (d.begun:Int),.int .i64 (d.kicks:Int),.bool d.reset]
structure DogAt (w:World)(b:Nat)(d:DSt):Prop where
 heap:w.heap[b]?=some (.cells d.row 158 (0,0))
 hc:d.closed<=1000
 ho:d.opn<=1000
 hk:d.kicks<=d.begun
 hb:d.begun<=d.now
 hn:d.now<=1099511627776
theorem DogAt.cell {w:World}{b:Nat}{d:DSt}(h:DogAt w b d)(i:Nat):w.cell? ⟨b,i,none⟩=d.row[i]?:=by simp[World.cell?,h.heap]
theorem DogAt.frozen {w:World}{b:Nat}{d:DSt}(h:DogAt w b d)(i:Nat):w.frozen? ⟨b,i,none⟩=false:=by simp[World.frozen?,h.heap]
theorem DogAt.c0 {w:World}{b:Nat}{d:DSt}(h:DogAt w b d):w.cell? ⟨b,0,none⟩=some (.int .i64 (d.closed:Int)):=h.cell 0
theorem DogAt.c1 {w:World}{b:Nat}{d:DSt}(h:DogAt w b d):w.cell? ⟨b,1,none⟩=some (.int .i64 (d.opn:Int)):=h.cell 1
theorem DogAt.c2 {w:World}{b:Nat}{d:DSt}(h:DogAt w b d):w.cell? ⟨b,2,none⟩=some (.int .i64 (d.now:Int)):=h.cell 2
theorem DogAt.c3 {w:World}{b:Nat}{d:DSt}(h:DogAt w b d):w.cell? ⟨b,3,none⟩=some (.int .i64 (d.begun:Int)):=h.cell 3
theorem DogAt.c4 {w:World}{b:Nat}{d:DSt}(h:DogAt w b d):w.cell? ⟨b,4,none⟩=some (.int .i64 (d.kicks:Int)):=h.cell 4
theorem DogAt.c5 {w:World}{b:Nat}{d:DSt}(h:DogAt w b d):w.cell? ⟨b,5,none⟩=some (.bool d.reset):=h.cell 5
theorem DogAt.lt {w:World}{b:Nat}{d:DSt}(h:DogAt w b d):b < w.heap.size:=lt_of_row h.heap
theorem DogAt.set {w:World}{b:Nat}{d d':DSt}(h:DogAt w b d)(i:Nat)(v:Value)(hr:d.row.setIfInBounds i v=d'.row)(hc:d'.closed<=1000)(ho:d'.opn<=1000)(hk:d'.kicks<=d'.begun)(hb:d'.begun<=d'.now)(hn:d'.now<=1099511627776):DogAt (w.setCell ⟨b,i,none⟩ v) b d':=by
 refine⟨?_,hc,ho,hk,hb,hn⟩;simp only[World.setCell,Array.getElem?_modify,h.heap];simp[hr]
theorem DogAt.below {w w':World}{b:Nat}{d:DSt}(h:DogAt w b d)(hb:Below w.heap.size w w'):DogAt w' b d:=⟨row_below hb h.heap,h.hc,h.ho,h.hk,h.hb,h.hn⟩
theorem DogAt.drewN {w:World}{b:Nat}{d:DSt}(h:DogAt w b d)(q:Nat):DogAt (w.drewN q) b d:=⟨h.heap,h.hc,h.ho,h.hk,h.hb,h.hn⟩
theorem DogAt.drew {w:World}{b:Nat}{d:DSt}(h:DogAt w b d):DogAt w.drew b d:=⟨h.heap,h.hc,h.ho,h.hk,h.hb,h.hn⟩
theorem grown_drewN {a w:World}{r:Option Nat}(h:a.grownBy w r)(q:Nat):a.grownBy (w.drewN q) r:=⟨h.os,h.tape,h.output,h.size,h.block⟩
def DSt.new (c o:Nat):DSt:=⟨c,o,0,0,0,false⟩
def DSt.isOpen (d:DSt):Bool:=!d.reset && decide (d.closed < d.now - d.begun)
def DSt.tick (d:DSt):DSt:={ d with now:=d.now+1,reset:=decide (d.closed+d.opn < d.now+1 - d.begun) }
def DSt.kick (d:DSt):DSt:={ d with begun:=d.now,kicks:=d.kicks+1 }
def DSt.start (d:DSt):DSt:={ d with begun:=d.now,reset:=false }
set_option maxHeartbeats 400000 in
theorem dog_new (c o:Nat)(w:World)(h1:c<=1000)(h2:1<=o)(h3:o<=1000) :
  Calls Tryz.prog 71 #[.int .i64 (c:Int),.int .i64 (o:Int)] w fun e w'=>e=.returned (.tuple #[.pointer (some ⟨w.heap.size,0,none⟩),.nilIface])/\Below w.heap.size w w'/\DogAt w' w.heap.size (DSt.new c o):=by
 have g1:¬(c:Int) < 0:=by omega
 have g2:¬1000 < (c:Int):=by omega
 have g3:¬(o:Int) < 1:=by omega
 have g4:¬1000 < (o:Int):=by omega
 go_enter Tryz.func71,Tryz.ntmps71
 go_wp2;go_ret2
 refine⟨rfl,?_,⟨?_,h1,h3,Nat.le_refl _,Nat.le_refl _,Nat.zero_le _⟩⟩
 ·exact(Below.refl _ _).alloc (Nat.le_refl _) _
 ·show (w.heap.push _)[w.heap.size]?=_
  simp
  rfl
theorem dog_reset (b:Nat)(d:DSt)(w:World)(h:DogAt w b d) :
  Calls Tryz.prog 57 #[.pointer (some ⟨b,0,none⟩)] w fun e w'=>e=.returned (.bool d.reset)/\w'=w:=by
 have c5:=h.c5;go_enter Tryz.func57,Tryz.ntmps57
 go_wp2;go_ret;exact⟨rfl,rfl⟩
theorem dog_now (b:Nat)(d:DSt)(w:World)(h:DogAt w b d) :
  Calls Tryz.prog 59 #[.pointer (some ⟨b,0,none⟩)] w fun e w'=>e=.returned (.int .i64 (d.now:Int))/\w'=w:=by
 have c2:=h.c2;go_enter Tryz.func59,Tryz.ntmps59
 go_wp2;go_ret;exact⟨rfl,rfl⟩
theorem dog_kicks (b:Nat)(d:DSt)(w:World)(h:DogAt w b d) :
  Calls Tryz.prog 60 #[.pointer (some ⟨b,0,none⟩)] w fun e w'=>e=.returned (.int .i64 (d.kicks:Int))/\w'=w:=by
 have c4:=h.c4;go_enter Tryz.func60,Tryz.ntmps60
 go_wp2;go_ret;exact⟨rfl,rfl⟩
theorem dog_behind (b:Nat)(d:DSt)(w:World)(h:DogAt w b d) :
  Calls Tryz.prog 125 #[.pointer (some ⟨b,0,none⟩)] w fun e w'=>e=.returned (.int .i64 ((d.now - d.begun:Nat):Int))/\∃ q,w'=w.drewN q:=by
 have c2:=h.c2;have c3:=h.c3;have hb:=h.hb;have hn:=h.hn;have wr:IntKind.i64.wrap ((d.now:Int) - (d.begun:Int))=((d.now - d.begun:Nat):Int):=by rw[IntKind.wrap_i64];omega
 go_enter Tryz.func125,Tryz.ntmps125
 go_wp2_with fail
 go_quiet (fail)
 go_wp2;go_ret;exact⟨rfl,_,rfl⟩
theorem dog_open (b:Nat)(d:DSt)(w:World)(h:DogAt w b d) :
  Calls Tryz.prog 129 #[.pointer (some ⟨b,0,none⟩)] w fun e w'=>e=.returned (.bool d.isOpen)/\∃ q,w'=w.drewN q:=by
 have c0:=h.c0;have c5:=h.c5
 cases hr:d.reset
 ·rw[hr] at c5;have E:Hid (d.isOpen=decide (d.closed < d.now - d.begun)):=by
   show _=_
   unfold DSt.isOpen;rw[hr];simp only[Bool.not_false,Bool.true_and]
  go_enter Tryz.func129,Tryz.ntmps129
  go_wp2_with fail
  go_quiet (first | (go_at_call 125;exact Calls.quiet_of (dog_behind _ _ _ (h.drewN _))))
  go_wp2;go_ret;rw[E.out];exact⟨rfl,_,rfl⟩
 ·rw[hr] at c5;have E:Hid (d.isOpen=false):=by
   show _=_
   unfold DSt.isOpen;rw[hr];rfl
  go_enter Tryz.func129,Tryz.ntmps129
  go_wp2_with fail
  go_quiet (fail)
  go_wp2;go_ret;rw[E.out];exact⟨rfl,_,rfl⟩
theorem goodRun.skipped {P:Program}{S:Nat->Value->World->Prop}{C:World->Prop}{i:Nat}{w w':World}{r:Result Next}(hr:r=.ok .skip w')(hC:C w')(hK:∀ j v,S j v w->S j v w')(hS:S i undef w'):goodRun P S C i w r:=by
 subst hr;exact⟨hC,hK,hS⟩
def DSt.tickR (d:DSt)(r:Bool):DSt:=⟨d.closed,d.opn,d.now+1,d.begun,d.kicks,r⟩
def tickS (b:Nat)(d:DSt):Nat->Value->World->Prop
 | 0=>fun v _=>v=.pointer (some ⟨b,0,none⟩)
 | 1=>fun v _=>v=.pointer (some ⟨b,0,none⟩)
 | 2=>fun v _=>v=.int .i64 ((d.now+1 - d.begun:Nat):Int)
 | 3=>fun v _=>v=.pointer (some ⟨b,0,none⟩)
 | 4=>fun v _=>v=.pointer (some ⟨b,0,none⟩)
 | 5=>fun v _=>v=.pointer (some ⟨b,0,none⟩)
 | 6=>fun v _=>v=.int .i64 (d.closed:Int)
 | 7=>fun v _=>v=.pointer (some ⟨b,0,none⟩)
 | 8=>fun v _=>v=.pointer (some ⟨b,0,none⟩)
 | 9=>fun v _=>v=.pointer (some ⟨b,1,none⟩)
 | 10=>fun v _=>v=.int .i64 (d.opn:Int)
 | 11=>fun v _=>v=.int .i64 ((d.closed+d.opn:Nat):Int)
 | 12=>fun v _=>v=.bool (decide (d.closed+d.opn < d.now+1 - d.begun))
 | 13=>fun v _=>v=.pointer (some ⟨b,0,none⟩)
 | 14=>fun v _=>v=.pointer (some ⟨b,5,none⟩)
 | 15=>fun _ w=>DogAt w b d.tick
 | _=>fun _ _=>True
theorem tickS_keeps {b:Nat}{d:DSt}{w w':World}(hb:DogAt w b d.tick->DogAt w' b d.tick):∀ j v,tickS b d j v w->tickS b d j v w':=by
 intro j v h
 match j,h with
 | 0,h=>exact h
 | 1,h=>exact h
 | 2,h=>exact h
 | 3,h=>exact h
 | 4,h=>exact h
 | 5,h=>exact h
 | 6,h=>exact h
 | 7,h=>exact h
 | 8,h=>exact h
 | 9,h=>exact h
 | 10,h=>exact h
 | 11,h=>exact h
 | 12,h=>exact h
 | 13,h=>exact h
 | 14,h=>exact h
 | 15,h=>exact hb h
 | n+16,h=>exact h
set_option maxHeartbeats 1000000 in
set_option maxRecDepth 20000 in
theorem dog_tick (b:Nat)(d:DSt)(w:World)(h:DogAt w b d)(hr:d.reset=false)(hlt:d.now < 1099511627776) :
  Calls Tryz.prog 92 #[.pointer (some ⟨b,0,none⟩)] w fun e w'=>e=.returned .nilIface/\DogAt w' b d.tick/\w.grownBy w' (some b):=by
 have c5:=h.c5;have c2:=h.c2;have f2:=h.frozen 2;have hc:=h.hc;have ho:=h.ho;rw[hr] at c5;have g1:¬1099511627776<=(d.now:Int):=by omega
 have wr:IntKind.i64.wrap ((d.closed:Int)+(d.opn:Int))=((d.closed+d.opn:Nat):Int):=by rw[IntKind.wrap_i64];omega
 have e1:((d.now+1:Nat):Int)=(d.now:Int)+1:=by omega
 have hT:DogAt (w.setCell ⟨b,2,none⟩ (.int .i64 ((d.now:Int)+1))) b (d.tickR d.reset):=by
  rw[<- e1];exact h.set 2 _ rfl h.hc h.ho h.hk (Nat.le_succ_of_le h.hb) hlt
 have HT:Hid _:=hT;clear hT h hlt e1;go_enter Tryz.func92,Tryz.ntmps92
 go_upto_region 6 with fail
 refine region_spec 16 rfl (tickS b d) (fun w'=>w.grownBy w' (some b)/\∃ r,DogAt w' b (d.tickR r)) (by kernel_rfl) (by kernel_rfl) ⟨grown_drewN (grown_set (grown_refl _ _) _ _) 1,_,HT.out.drew⟩ ?_ ?_
 ·intro i o ho
  match i,ho with
  | 0,ho=>
   obtain rfl:=Option.some.inj ho
   refine StepOk.free rfl ?_;intro a w hC hdep hoth;have x0:a.tmps[0]?.getD undef=.pointer (some ⟨b,0,none⟩):=slot_of (hoth 0 (notDst (by kernel_rfl)));exact goodRun.val (c:=.pointer (some ⟨b,0,none⟩)) (by clear hdep hoth;go_simp) hC rfl
  | 1,ho=>
   obtain rfl:=Option.some.inj ho
   refine StepOk.free rfl ?_;intro a w hC hdep hoth;have x0:a.tmps[0]?.getD undef=.pointer (some ⟨b,0,none⟩):=slot_of (hoth 0 (notDst (by kernel_rfl)));exact goodRun.val (c:=.pointer (some ⟨b,0,none⟩)) (by clear hdep hoth;go_simp) hC rfl
  | 2,ho=>
   obtain rfl:=Option.some.inj ho
   refine StepOk.free rfl ?_;intro a w hC hdep hoth;have x22:a.tmps[22]?.getD undef=.pointer (some ⟨b,0,none⟩):=slot_of (hdep _ 22 (Array.mem_of_getElem? (i:=0) rfl) rfl rfl);obtain⟨r,hr⟩:=hC.2
   refine goodRun.call (f:=125) (args:=#[.pointer (some ⟨b,0,none⟩)]) (by clear hdep hoth;go_simp) ?_
   refine(dog_behind _ _ _ hr).mono ?_;rintro e w' ⟨rfl,q,rfl⟩;exact⟨_,rfl,⟨grown_drewN hC.1 _,r,hr.drewN _⟩,tickS_keeps (fun h=>h.drewN _),rfl⟩
  | 3,ho=>
   obtain rfl:=Option.some.inj ho
   refine StepOk.free rfl ?_;intro a w hC hdep hoth;have x0:a.tmps[0]?.getD undef=.pointer (some ⟨b,0,none⟩):=slot_of (hoth 0 (notDst (by kernel_rfl)));exact goodRun.val (c:=.pointer (some ⟨b,0,none⟩)) (by clear hdep hoth;go_simp) hC rfl
  | 4,ho=>
   obtain rfl:=Option.some.inj ho
   refine StepOk.free rfl ?_;intro a w hC hdep hoth;have x24:a.tmps[24]?.getD undef=.pointer (some ⟨b,0,none⟩):=slot_of (hdep _ 24 (Array.mem_of_getElem? (i:=0) rfl) rfl rfl);exact goodRun.val (c:=.pointer (some ⟨b,0,none⟩)) (by clear hdep hoth;go_simp) hC rfl
  | 5,ho=>
   obtain rfl:=Option.some.inj ho
   refine StepOk.free rfl ?_;intro a w hC hdep hoth;have x25:a.tmps[25]?.getD undef=.pointer (some ⟨b,0,none⟩):=slot_of (hdep _ 25 (Array.mem_of_getElem? (i:=0) rfl) rfl rfl);exact goodRun.val (c:=.pointer (some ⟨b,0,none⟩)) (by clear hdep hoth;go_simp) hC rfl
  | 6,ho=>
   obtain rfl:=Option.some.inj ho
   refine StepOk.free rfl ?_;intro a w hC hdep hoth;have x26:a.tmps[26]?.getD undef=.pointer (some ⟨b,0,none⟩):=slot_of (hdep _ 26 (Array.mem_of_getElem? (i:=0) rfl) rfl rfl);obtain⟨r,hr⟩:=hC.2;have c:w.cell? ⟨b,0,none⟩=some (.int .i64 (d.closed:Int)):=hr.c0;exact goodRun.val (c:=.int .i64 (d.closed:Int)) (by clear hdep hoth;go_simp) hC rfl
  | 7,ho=>
   obtain rfl:=Option.some.inj ho
   refine StepOk.free rfl ?_;intro a w hC hdep hoth;have x0:a.tmps[0]?.getD undef=.pointer (some ⟨b,0,none⟩):=slot_of (hoth 0 (notDst (by kernel_rfl)));exact goodRun.val (c:=.pointer (some ⟨b,0,none⟩)) (by clear hdep hoth;go_simp) hC rfl
  | 8,ho=>
   obtain rfl:=Option.some.inj ho
   refine StepOk.free rfl ?_;intro a w hC hdep hoth;have x28:a.tmps[28]?.getD undef=.pointer (some ⟨b,0,none⟩):=slot_of (hdep _ 28 (Array.mem_of_getElem? (i:=0) rfl) rfl rfl);exact goodRun.val (c:=.pointer (some ⟨b,0,none⟩)) (by clear hdep hoth;go_simp) hC rfl
  | 9,ho=>
   obtain rfl:=Option.some.inj ho
   refine StepOk.free rfl ?_;intro a w hC hdep hoth;have x29:a.tmps[29]?.getD undef=.pointer (some ⟨b,0,none⟩):=slot_of (hdep _ 29 (Array.mem_of_getElem? (i:=0) rfl) rfl rfl);exact goodRun.val (c:=.pointer (some ⟨b,1,none⟩)) (by clear hdep hoth;go_simp) hC rfl
  | 10,ho=>
   obtain rfl:=Option.some.inj ho
   refine StepOk.free rfl ?_;intro a w hC hdep hoth;have x30:a.tmps[30]?.getD undef=.pointer (some ⟨b,1,none⟩):=slot_of (hdep _ 30 (Array.mem_of_getElem? (i:=0) rfl) rfl rfl);obtain⟨r,hr⟩:=hC.2;have c:w.cell? ⟨b,1,none⟩=some (.int .i64 (d.opn:Int)):=hr.c1;exact goodRun.val (c:=.int .i64 (d.opn:Int)) (by clear hdep hoth;go_simp) hC rfl
  | 11,ho=>
   obtain rfl:=Option.some.inj ho
   refine StepOk.free rfl ?_;intro a w hC hdep hoth;have x27:a.tmps[27]?.getD undef=.int .i64 (d.closed:Int):=slot_of (hdep _ 27 (Array.mem_of_getElem? (i:=0) rfl) rfl rfl);have x31:a.tmps[31]?.getD undef=.int .i64 (d.opn:Int):=slot_of (hdep _ 31 (Array.mem_of_getElem? (i:=1) rfl) rfl rfl);exact goodRun.val (c:=.int .i64 ((d.closed+d.opn:Nat):Int)) (by clear hdep hoth;go_simp) hC rfl
  | 12,ho=>
   obtain rfl:=Option.some.inj ho
   refine StepOk.free rfl ?_;intro a w hC hdep hoth;have x23:a.tmps[23]?.getD undef=.int .i64 ((d.now+1 - d.begun:Nat):Int):=slot_of (hdep _ 23 (Array.mem_of_getElem? (i:=0) rfl) rfl rfl);have x32:a.tmps[32]?.getD undef=.int .i64 ((d.closed+d.opn:Nat):Int):=slot_of (hdep _ 32 (Array.mem_of_getElem? (i:=1) rfl) rfl rfl);exact goodRun.val (c:=.bool (decide (d.closed+d.opn < d.now+1 - d.begun))) (by clear hdep hoth;go_simp;omega) hC rfl
  | 13,ho=>
   obtain rfl:=Option.some.inj ho
   refine StepOk.free rfl ?_;intro a w hC hdep hoth;have x21:a.tmps[21]?.getD undef=.pointer (some ⟨b,0,none⟩):=slot_of (hdep _ 21 (Array.mem_of_getElem? (i:=0) rfl) rfl rfl);exact goodRun.val (c:=.pointer (some ⟨b,0,none⟩)) (by clear hdep hoth;go_simp) hC rfl
  | 14,ho=>
   obtain rfl:=Option.some.inj ho
   refine StepOk.free rfl ?_;intro a w hC hdep hoth;have x34:a.tmps[34]?.getD undef=.pointer (some ⟨b,0,none⟩):=slot_of (hdep _ 34 (Array.mem_of_getElem? (i:=0) rfl) rfl rfl);exact goodRun.val (c:=.pointer (some ⟨b,5,none⟩)) (by clear hdep hoth;go_simp) hC rfl
  | 15,ho=>
   obtain rfl:=Option.some.inj ho
   refine StepOk.free rfl ?_;intro a w hC hdep hoth;have x35:a.tmps[35]?.getD undef=.pointer (some ⟨b,5,none⟩):=slot_of (hdep _ 35 (Array.mem_of_getElem? (i:=0) rfl) rfl rfl);have x33:a.tmps[33]?.getD undef=.bool (decide (d.closed+d.opn < d.now+1 - d.begun)):=slot_of (hdep _ 33 (Array.mem_of_getElem? (i:=1) rfl) rfl rfl);obtain⟨r,hr⟩:=hC.2;have c5:w.cell? ⟨b,5,none⟩=some (.bool r):=hr.c5;have f5:=hr.frozen 5;have hT:DogAt (w.setCell ⟨b,5,none⟩ (.bool (decide (d.closed+d.opn < d.now+1 - d.begun)))) b d.tick:=hr.set 5 _ rfl hr.hc hr.ho hr.hk hr.hb hr.hn;exact goodRun.skipped (w':=w.setCell ⟨b,5,none⟩ (.bool (decide (d.closed+d.opn < d.now+1 - d.begun)))) (by clear hdep hoth hT;go_simp) ⟨grown_set hC.1 _ _,_,hT⟩ (tickS_keeps (fun _=>hT)) hT
  | n+16,ho=>simp at ho
 ·intro vals w5 hC hS;have hT:DogAt w5 b d.tick:=hS 15 (by decide);have hg:=hC.1;clear hS hC HT;simp only[fill,dstOf];go_simp
  go_wp2;go_ret;exact⟨rfl,hT,hg⟩
theorem dog_kick (b:Nat)(d:DSt)(w:World)(h:DogAt w b d)(ho:d.isOpen=true) :
  Calls Tryz.prog 130 #[.pointer (some ⟨b,0,none⟩)] w fun e w'=>e=.returned .nilIface/\DogAt w' b d.kick/\w.grownBy w' (some b):=by
 have hk:=h.hk;have hb:=h.hb;have hn:=h.hn;have hlt:d.kicks < d.now:=by
  unfold DSt.isOpen at ho;simp only[Bool.and_eq_true,decide_eq_true_eq] at ho;omega
 have HO:Hid (d.isOpen=true):=ho;have h1:∀ q,DogAt ((w.drewN q).setCell ⟨b,3,none⟩ (.int .i64 (d.now:Int))) b { d with begun:=d.now }:=fun q=>(h.drewN q).set 3 _ rfl h.hc h.ho (Nat.le_trans h.hk h.hb) (Nat.le_refl _) h.hn
 have h2:∀ q,DogAt (((w.drewN q).setCell ⟨b,3,none⟩ (.int .i64 (d.now:Int))).setCell ⟨b,4,none⟩ (.int .i64 ((d.kicks:Int)+1))) b d.kick:=fun q=>by
  have e:((d.kicks+1:Nat):Int)=(d.kicks:Int)+1:=by omega
  rw[<- e];exact(h1 q).set 4 _ rfl h.hc h.ho (show d.kicks+1<=d.now by omega) (Nat.le_refl _) h.hn
 have c2:=h.c2;have c3:=h.c3;have c4:=h.c4;have f3:=h.frozen 3;have f4:=h.frozen 4;have H1:Hid _:=h1;have H2:Hid _:=h2;clear h1 h2 ho;go_enter Tryz.func130,Tryz.ntmps130
 go_wp2_with fail
 refine(dog_open _ _ _ h).mono ?_;rintro e w1 ⟨rfl,q,rfl⟩;rw[HO.out];clear h;go_wp2;go_ret;exact⟨rfl,H2.out q,grown_set (grown_set (grown_drewN (grown_refl _ _) _) _ _) _ _⟩
theorem dog_start (b:Nat)(d:DSt)(w:World)(h:DogAt w b d) :
  Calls Tryz.prog 67 #[.pointer (some ⟨b,0,none⟩)] w fun e w'=>e=.returned (.tuple #[])/\DogAt w' b d.start/\w.grownBy w' (some b):=by
 have c2:=h.c2;have c3:=h.c3;have c5:=h.c5;have f3:=h.frozen 3;have f5:=h.frozen 5;have hk:=Nat.le_trans h.hk h.hb;have R1:DogAt ((w.setCell ⟨b,3,none⟩ (.int .i64 (d.now:Int))).setCell ⟨b,5,none⟩ (.bool false)) b d.start:=(h.set (d':={ d with begun:=d.now }) 3 _ rfl h.hc h.ho hk (Nat.le_refl _) h.hn).set 5 _ rfl h.hc h.ho hk (Nat.le_refl _) h.hn;have H1:Hid _:=R1;clear R1 h hk;go_enter Tryz.func67,Tryz.ntmps67
 go_wp2;go_end0
 exact⟨rfl,H1.out,grown_set (grown_set (grown_refl _ _) _ _) _ _⟩
structure MDogAt (w:World)(b:Nat)(d:DSt):Prop where
 heap:w.heap[b]?=some (.cells d.row 125 (0,0))
 hc:d.closed<=1000
 ho:d.opn<=1000
 hk:d.kicks<=d.begun
 hb:d.begun<=d.now
 hn:d.now<=1099511627776
theorem MDogAt.cell {w:World}{b:Nat}{d:DSt}(h:MDogAt w b d)(i:Nat):w.cell? ⟨b,i,none⟩=d.row[i]?:=by simp[World.cell?,h.heap]
theorem MDogAt.frozen {w:World}{b:Nat}{d:DSt}(h:MDogAt w b d)(i:Nat):w.frozen? ⟨b,i,none⟩=false:=by simp[World.frozen?,h.heap]
theorem MDogAt.c0 {w:World}{b:Nat}{d:DSt}(h:MDogAt w b d):w.cell? ⟨b,0,none⟩=some (.int .i64 (d.closed:Int)):=h.cell 0
theorem MDogAt.c1 {w:World}{b:Nat}{d:DSt}(h:MDogAt w b d):w.cell? ⟨b,1,none⟩=some (.int .i64 (d.opn:Int)):=h.cell 1
theorem MDogAt.c2 {w:World}{b:Nat}{d:DSt}(h:MDogAt w b d):w.cell? ⟨b,2,none⟩=some (.int .i64 (d.now:Int)):=h.cell 2
theorem MDogAt.c3 {w:World}{b:Nat}{d:DSt}(h:MDogAt w b d):w.cell? ⟨b,3,none⟩=some (.int .i64 (d.begun:Int)):=h.cell 3
theorem MDogAt.c4 {w:World}{b:Nat}{d:DSt}(h:MDogAt w b d):w.cell? ⟨b,4,none⟩=some (.int .i64 (d.kicks:Int)):=h.cell 4
theorem MDogAt.c5 {w:World}{b:Nat}{d:DSt}(h:MDogAt w b d):w.cell? ⟨b,5,none⟩=some (.bool d.reset):=h.cell 5
theorem MDogAt.lt {w:World}{b:Nat}{d:DSt}(h:MDogAt w b d):b < w.heap.size:=lt_of_row h.heap
theorem MDogAt.set {w:World}{b:Nat}{d d':DSt}(h:MDogAt w b d)(i:Nat)(v:Value)(hr:d.row.setIfInBounds i v=d'.row)(hc:d'.closed<=1000)(ho:d'.opn<=1000)(hk:d'.kicks<=d'.begun)(hb:d'.begun<=d'.now)(hn:d'.now<=1099511627776):MDogAt (w.setCell ⟨b,i,none⟩ v) b d':=by
 refine⟨?_,hc,ho,hk,hb,hn⟩;simp only[World.setCell,Array.getElem?_modify,h.heap];simp[hr]
theorem MDogAt.below {w w':World}{b:Nat}{d:DSt}(h:MDogAt w b d)(hb:Below w.heap.size w w'):MDogAt w' b d:=⟨row_below hb h.heap,h.hc,h.ho,h.hk,h.hb,h.hn⟩
theorem MDogAt.drewN {w:World}{b:Nat}{d:DSt}(h:MDogAt w b d)(q:Nat):MDogAt (w.drewN q) b d:=⟨h.heap,h.hc,h.ho,h.hk,h.hb,h.hn⟩
theorem mdog_open (b:Nat)(d:DSt)(w:World)(h:MDogAt w b d) :
  Calls Tryz.prog 164 #[.pointer (some ⟨b,0,none⟩)] w fun e w'=>e=.returned (.bool d.isOpen)/\∃ q,w'=w.drewN q:=by
 have c0:=h.c0;have c2:=h.c2;have c3:=h.c3;have c5:=h.c5;have hc:=h.hc;have hb:=h.hb;have hn:=h.hn;have wr:IntKind.i64.wrap ((d.begun:Int)+(d.closed:Int))=(d.begun:Int)+(d.closed:Int):=by rw[IntKind.wrap_i64];omega
 cases hr:d.reset
 ·rw[hr] at c5;have E:Hid (d.isOpen=decide (d.begun+d.closed < d.now)):=by
   show _=_
   unfold DSt.isOpen;rw[hr];simp only[Bool.not_false,Bool.true_and];rw[decide_eq_decide];omega
  clear h hc hb hn;go_enter Tryz.func164,Tryz.ntmps164
  go_wp2_with fail
  go_quiet (fail)
  go_wp2;go_ret;rw[E.out]
  refine⟨?_,_,rfl⟩;show Ending.returned (.bool _)=_
  congr 2
  first | rfl | (rw[decide_eq_decide];omega)
 ·rw[hr] at c5;have E:Hid (d.isOpen=false):=by
   show _=_
   unfold DSt.isOpen;rw[hr];rfl
  clear h hc hb hn;go_enter Tryz.func164,Tryz.ntmps164
  go_wp2_with fail
  go_quiet (fail)
  go_wp2;go_ret;rw[E.out];exact⟨rfl,_,rfl⟩
set_option maxRecDepth 100000 in
set_option maxHeartbeats 1000000 in
theorem mdog_tick (b:Nat)(d:DSt)(w:World)(h:MDogAt w b d)(hr:d.reset=false)(hlt:d.now < 1099511627776) :
  Calls Tryz.prog 160 #[.pointer (some ⟨b,0,none⟩)] w fun e w'=>e=.returned (.int .i64 0)/\MDogAt w' b d.tick/\w.grownBy w' (some b):=by
 have hc:=h.hc;have ho:=h.ho;have hb:=h.hb;have hn:=h.hn;have c5:=h.c5;rw[hr] at c5;have c0:=h.c0;have c1:=h.c1;have c2:=h.c2;have c3:=h.c3;have f2:=h.frozen 2;have f5:=h.frozen 5;have g1:¬1099511627776<=(d.now:Int):=by omega
 have e1:((d.now+1:Nat):Int)=(d.now:Int)+1:=by omega
 have wr1:IntKind.i64.wrap ((d.begun:Int)+(d.closed:Int))=(d.begun:Int)+(d.closed:Int):=by rw[IntKind.wrap_i64];omega
 have wr2:IntKind.i64.wrap ((d.begun:Int)+(d.closed:Int)+(d.opn:Int))=(d.begun:Int)+(d.closed:Int)+(d.opn:Int):=by rw[IntKind.wrap_i64];omega
 have hT:MDogAt (w.setCell ⟨b,2,none⟩ (.int .i64 ((d.now:Int)+1))) b (d.tickR false):=by
  rw[<- e1,<- hr];exact h.set 2 _ rfl h.hc h.ho h.hk (Nat.le_succ_of_le h.hb) hlt
 have HT:Hid _:=hT
 by_cases hx:d.begun+d.closed+d.opn < d.now+1
 ·have E:Hid (d.tick=d.tickR true):=by
   show _=_
   unfold DSt.tick DSt.tickR;rw[decide_eq_true (by omega)]
  have hR:∀ q,MDogAt (((w.setCell ⟨b,2,none⟩ (.int .i64 ((d.now:Int)+1))).drewN q).setCell ⟨b,5,none⟩ (.bool true)) b (d.tickR true):=fun q=>(HT.out.drewN q).set 5 _ rfl HT.out.hc HT.out.ho HT.out.hk HT.out.hb HT.out.hn
  have HR:Hid _:=hR;have hx':(d.begun:Int)+(d.closed:Int)+(d.opn:Int) < (d.now:Int)+1:=by omega
  clear hR hT h hlt e1 hc ho hb hn;go_enter Tryz.func160,Tryz.ntmps160
  go_wp2_with fail
  go_quiet (fail)
  go_wp2;go_ret;rw[E.out];exact⟨rfl,HR.out _,grown_set (grown_drewN (grown_set (grown_refl _ _) _ _) _) _ _⟩
 ·have E:Hid (d.tick=d.tickR false):=by
   show _=_
   unfold DSt.tick DSt.tickR;rw[decide_eq_false (by omega)]
  have hdI:decide ((d.begun:Int)+(d.closed:Int)+(d.opn:Int) < (d.now:Int)+1)=false:=decide_eq_false (by omega);clear hT h hlt e1 hc ho hb hn hx;go_enter Tryz.func160,Tryz.ntmps160
  go_wp2_with fail
  go_quiet (fail)
  go_wp2;go_ret;rw[E.out];exact⟨rfl,HT.out.drewN _,grown_drewN (grown_set (grown_refl _ _) _ _) _⟩
theorem mdog_kick (b:Nat)(d:DSt)(w:World)(h:MDogAt w b d)(ho:d.isOpen=true) :
  Calls Tryz.prog 165 #[.pointer (some ⟨b,0,none⟩)] w fun e w'=>e=.returned (.int .i64 0)/\MDogAt w' b d.kick/\w.grownBy w' (some b):=by
 have hk:=h.hk;have hb:=h.hb;have hn:=h.hn;have hlt:d.kicks < d.now:=by
  unfold DSt.isOpen at ho;simp only[Bool.and_eq_true,decide_eq_true_eq] at ho;omega
 have HO:Hid (d.isOpen=true):=ho;have h1:∀ q,MDogAt ((w.drewN q).setCell ⟨b,3,none⟩ (.int .i64 (d.now:Int))) b { d with begun:=d.now }:=fun q=>(h.drewN q).set 3 _ rfl h.hc h.ho (Nat.le_trans h.hk h.hb) (Nat.le_refl _) h.hn
 have h2:∀ q,MDogAt (((w.drewN q).setCell ⟨b,3,none⟩ (.int .i64 (d.now:Int))).setCell ⟨b,4,none⟩ (.int .i64 ((d.kicks:Int)+1))) b d.kick:=fun q=>by
  have e:((d.kicks+1:Nat):Int)=(d.kicks:Int)+1:=by omega
  rw[<- e];exact(h1 q).set 4 _ rfl h.hc h.ho (show d.kicks+1<=d.now by omega) (Nat.le_refl _) h.hn
 have c2:=h.c2;have c3:=h.c3;have c4:=h.c4;have f3:=h.frozen 3;have f4:=h.frozen 4;have H2:Hid _:=h2;clear h1 h2 ho;go_enter Tryz.func165,Tryz.ntmps165
 go_wp2_with fail
 refine(mdog_open _ _ _ h).mono ?_;rintro e w1 ⟨rfl,q,rfl⟩;rw[HO.out];clear h;go_wp2;go_ret;exact⟨rfl,H2.out q,grown_set (grown_set (grown_drewN (grown_refl _ _) _) _ _) _ _⟩
def encM (m:MkD):List Value:=[.int .i64 m.pt,.int .i64 m.tick,.int .i64 m.cyc]
theorem encM_len (m:MkD):(encM m).length=3:=rfl
theorem encM_one:∀ (x:MkD),∀ u∈encM x,u.oneCell'=true:=by intro x u hu;simp[encM] at hu;rcases hu with rfl | rfl | rfl <;> rfl
def MksAt (w:World)(g o:Nat)(l:List MkD):Prop:=∀ i m,l[i]?=some m->∀ j u,(encM m)[j]?=some u->w.cell? ⟨g,o+i*3+j,none⟩=some u
theorem Tryz.infoMark:(Tryz.prog.info? 232).map (fun i=>(i.zero,i.size,i.bytes))=some (some (.agg #[.int .i64 0,.int .i64 0,.int .i64 0]),3,24):=by kernel_rfl
def MkOwn (B:Nat)(w:World)(v:Value)(ms:List MkD):Prop:=w.ownsRow B 232 3 v ms.length (ms.flatMap encM)
theorem MkOwn.below {B:Nat}{w w':World}{v:Value}{ms:List MkD}(h:MkOwn B w v ms)(hb:Below w.heap.size w w'):MkOwn B w' v ms:=SlOwnR.below h hb
theorem MkOwn.slat {B:Nat}{w:World}{v:Value}{ms:List MkD}(h:MkOwn B w v ms):SlAt encM 3 w v ms:=SlOwn.slat (enc:=encM) h encM_len
theorem countIn_take {cnt:Int}{l:List MkD}{cyc:Int}{k:Nat}{m:MkD}(h:l[k]?=some m):countIn cnt (l.take (k+1)) cyc=countIn cnt (l.take k) cyc+(if m.cyc=cyc/\m.pt=cnt then 1 else 0):=by
 rw[List.take_add_one,h];exact countIn_snoc cnt _ m cyc
set_option maxHeartbeats 2000000 in
set_option maxRecDepth 100000 in
theorem countIn_at (e:EntD)(pa ga ea fa la:Option Addr)(pc gc ec fc lc:Nat)(l:List MkD)(cyc:Int)(sa:Option Addr)(cap:Nat)(w:World)(hl:SlAt encM 3 w (.slice sa l.length cap) l)(hn:l.length<=1000) :
  Calls Tryz.prog 232 #[.agg #[.string e.name,.int .i64 e.tol,.slice pa e.pts.length pc,.int .i64 e.cnt,.int .i64 e.mn,.int .i64 e.mx,.slice ga e.gaps.length gc,.slice ea e.edges.length ec,.slice fa e.first.length fc,.slice la e.last.length lc],.slice sa l.length cap,.int .i64 cyc] w fun v w'=>v=.returned (.int .i64 (countIn e.cnt l cyc:Nat))/\Below w.heap.size w w':=by
 have HL:Hid (∀ V,Below w.heap.size w V->SlAt encM 3 V (.slice sa l.length cap) l):=fun V hV=>hl.below hV
 have HN:Hid (l.length<=1000):=hn;clear hl hn;go_enter Tryz.func232,Tryz.ntmps232
 go_upto_region 1 with fail
 obtain⟨W,hW⟩:∃ V,V=w.alloc (.cells #[.string e.name,.int .i64 e.tol,.slice pa e.pts.length pc,.int .i64 e.cnt,.int .i64 e.mn,.int .i64 e.mx,.slice ga e.gaps.length gc,.slice ea e.edges.length ec,.slice fa e.first.length fc,.slice la e.last.length lc] 38):=⟨_,rfl⟩;rw[<- hW];have HBW:Hid (Below w.heap.size w W):=by show Below _ _ _;rw[hW];exact Below.one _ _
 have HX:Hid (∀ V,Below W.heap.size W V->V.heap[w.heap.size]?=some (.cells #[.string e.name,.int .i64 e.tol,.slice pa e.pts.length pc,.int .i64 e.cnt,.int .i64 e.mn,.int .i64 e.mx,.slice ga e.gaps.length gc,.slice ea e.edges.length ec,.slice fa e.first.length fc,.slice la e.last.length lc] 38 (0,0))):=fun V hV=>row_below hV (by rw[hW];exact heap_alloc_new w _)
 clear hW;go_upto_region 2 with fail
 go_cut [8] (fun i wx=>i=.int .i64 0/\wx=W)
 case first=>
  go_wp2_with fail
  go_meet
  case rel=>exact⟨rfl,rfl⟩
 obtain⟨rfl,rfl⟩:=hcut;rename World=>W
 go_wp2_with fail
 go_loopw [7,8] (fun nv iv wr=>∃ k:Nat,k<=l.length/\iv=.int .i64 k/\nv=.int .i64 (countIn e.cnt (l.take k) cyc:Nat)/\Below W.heap.size W wr) (fun _ iv _=>l.length - (intOf iv).toNat)
 case atStart=>exact⟨0,Nat.zero_le _,rfl,rfl,Below.refl _ _⟩
 case round=>
  obtain⟨k,hk,rfl,rfl,hbk⟩:=hrel;have HB:Hid (Below W.heap.size W wr):=hbk;have HBw:Hid (Below w.heap.size w wr):=HBW.out.trans (hbk.mono HBW.out.size);clear hbk
  by_cases hlt:k < l.length
  ·have k1:(k:Int) < (l.length:Int):=by omega
   have k2:k < 1000:=by have:=HN.out;omega
   have hn:countIn e.cnt (l.take k) cyc<=1000:=Nat.le_trans (countIn_le _ _ _) (by rw[List.length_take];omega);obtain⟨m,hm⟩:∃ m,l[k]?=some m:=⟨_,List.getElem?_eq_getElem hlt⟩;have HS:Hid _:=countIn_take (cnt:=e.cnt) (cyc:=cyc) hm;obtain⟨n,hnn⟩:∃ n,n=countIn e.cnt (l.take k) cyc:=⟨_,rfl⟩;rw[<- hnn] at HS hn;rw[<- hnn];clear hnn;obtain⟨sa',cap',hsl,-,hcc⟩:=HL.out wr HBw.out
   cases hsl
   obtain⟨gb,o,rfl,hc0⟩:=hcc (fun h=>by rw[h] at hm;simp at hm);have c0:wr.cell? ⟨gb,o+k*3,none⟩=some (.int .i64 m.pt):=hc0 k m hm 0 _ rfl;have c2:wr.cell? ⟨gb,o+k*3+2,none⟩=some (.int .i64 m.cyc):=hc0 k m hm 2 _ rfl;have x3:wr.cell? ⟨w.heap.size,3,none⟩=some (.int .i64 e.cnt):=by have:=HX.out wr HB.out;simp[World.cell?,this]
   clear hcc hc0 hm
   by_cases h1:m.cyc=cyc
   ·by_cases h2:m.pt=e.cnt
    ·have HS2:Hid (countIn e.cnt (l.take (k+1)) cyc=n+1):=by show _=_;rw[HS.out,if_pos ⟨h1,h2⟩]
     go_wp2_with fail
     go_quiet (fail)
     go_wp2_with fail
     go_roundw
     case rel=>exact⟨k+1,hlt,rfl,by rw[HS2.out];rfl,below_drewN HB.out _⟩
     case measure=>simp[intOf];omega
    ·have HS2:Hid (countIn e.cnt (l.take (k+1)) cyc=n):=by show _=_;rw[HS.out,if_neg (fun x=>h2 x.2)];rfl
     go_wp2_with fail
     go_quiet (fail)
     go_wp2_with fail
     go_roundw
     case rel=>exact⟨k+1,hlt,rfl,by rw[HS2.out],below_drewN HB.out _⟩
     case measure=>simp[intOf];omega
   ·have HS2:Hid (countIn e.cnt (l.take (k+1)) cyc=n):=by show _=_;rw[HS.out,if_neg (fun x=>h1 x.1)];rfl
    go_wp2_with fail
    go_quiet (fail)
    go_wp2_with fail
    go_roundw
    case rel=>exact⟨k+1,hlt,rfl,by rw[HS2.out],below_drewN HB.out _⟩
    case measure=>simp[intOf];omega
  ·have k1:¬(k:Int) < (l.length:Int):=by omega
   have HE:Hid (countIn e.cnt (l.take k) cyc=countIn e.cnt l cyc):=by show _=_;rw[List.take_of_length_le (by omega)]
   obtain⟨n,hnn⟩:∃ n,n=countIn e.cnt (l.take k) cyc:=⟨_,rfl⟩;rw[<- hnn] at HE;rw[<- hnn];clear hnn;go_wp2;go_ret;exact⟨by rw[HE.out];rfl,HBw.out⟩
end Go.Proofs.YtdpdbfhbojgigacGreatDoor
