/-
  Several texts as one: KmTicks, RefHeld, RefRecs, KmOpen, KmOpR.
-/
import Derived.Test.YtdpdbfhbojgigacGreatDoorC35S
namespace Go.Proofs.YtdpdbfhbojgigacGreatDoor
open Go.RowKit Go.Extern.Stop Go.Stop Go.Extern
section
variable {F:Nat->Prop}{w0 w w':World}{c:CfgD}{ev:Value}{kb bm:Nat}{K:KSt}{k:Nat}
theorem km_tick (h:KmAt F w0 w c ev kb bm K)(hr:KRt c)(hf:KFit c K k (144*K.d.now))(hk:k<=1000)(hn:k+K.d.now+1<=900000) :
  Calls Tryz.prog 116 #[.pointer (some ⟨kb,0,none⟩)] w fun e w'=>e=.returned (.int .i64 ((K.tick c).2:Int))/\KmPost F w0 w c ev kb bm (K.tick c).1 w':=by
 by_cases ho:K.on=0
 ·cases hre:K.ticked.d.reset
  ·by_cases hm:K.ticked.d.now % c.cycle.toNat=0
   ·exact km_tick_long h hr hf hk hn ho hre hm
   ·exact km_tick_short h hr (by omega) ho (Or.inr hm)
  ·exact km_tick_short h hr (by omega) ho (Or.inl hre)
 ·exact km_tick_off h ho
set_option maxHeartbeats 2000000 in
set_option maxRecDepth 100000 in
theorem km_ticks (n:Int)(h:KmAt F w0 w c ev kb bm K)(hr:KRt c)(hf:KFit c K k (144*K.d.now))(hk:k<=1000)(hn:(k:Int)+(K.d.now:Int)+1+n<=900000)(hn2:k+K.d.now+1<=900000) :
  Calls Tryz.prog 78 #[.pointer (some ⟨kb,0,none⟩),.int .i64 n] w fun e w'=>e=.returned (.int .i64 ((K.ticks c n.toNat).2:Int))/\KmPost F w0 w c ev kb bm (K.ticks c n.toNat).1 w':=by
 obtain⟨N,hN⟩:∃ N,N=n.toNat:=⟨_,rfl⟩;rw[<- hN];have HR:Hid (KRt c):=hr;have HP:Hid (KmPost F w0 w c ev kb bm K w):=KmPost.same h;have HB:Hid (k<=1000/\k+K.d.now+1+N<=900000):=⟨hk,by omega⟩;have HF:Hid _:=hf;have hn10:n<=900000:=by omega
 have hN10:N<=900000:=by omega
 have HNN:Hid (N=n.toNat):=hN;clear h hr hf hn hn2 hk hN;go_enter Tryz.func78,Tryz.ntmps78
 go_wp2_with fail
 go_loopw [5,6] (fun i _ wr=>∃ (j:Nat) (Kj:KSt),j<=N/\i=.int .i64 j/\Hid (K.ticks c N=Kj.ticks c (N - j))/\Hid (KFit c Kj k (144*Kj.d.now))/\Hid (Kj.d.now<=K.d.now+j)/\Hid (KmPost F w0 w c ev kb bm Kj wr)) (fun i _ _=>N - (intOf i).toNat)
 case atStart=>exact⟨0,K,Nat.zero_le _,rfl,rfl,HF.out,Nat.le_refl _,HP.out⟩
 case round=>
  clear HP HF;obtain⟨j,Kj,hj,rfl,HE,HFj,HNj,HPj⟩:=hrel
  by_cases hlt:j < N
  ·have k1:(j:Int) < n:=by have:=HNN.out;omega
   have HE2:Hid (K.ticks c N=if (Kj.tick c).2=0 then (Kj.tick c).1.ticks c (N - (j+1)) else Kj.tick c):=by
    show _=_
    rw[HE.out,show N - j=(N - (j+1))+1 by omega];rfl
   have HX:Hid _:=km_tick HPj.out.1 HR.out HFj.out HB.out.1 (by have:=HB.out.2;have:=HNj.out;omega);have HFn:Hid (KFit c (Kj.tick c).1 k (144*(Kj.tick c).1.d.now)/\(Kj.tick c).1.d.now<=K.d.now+(j+1)):=⟨HFj.out.tick HR.out (by have:=HB.out.2;have:=HNj.out;omega),by have:=tick_now c Kj;have:=HNj.out;omega⟩;go_wp2_with fail
   refine Calls.mono HX.out ?_;rintro u w3 ⟨rfl,hp⟩;have HP3:Hid _:=HPj.out.trans hp;clear hp HX
   by_cases hc0:(Kj.tick c).2=0
   ·rw[hc0];go_wp2_with fail
    go_roundw
    case rel=>exact⟨j+1,(Kj.tick c).1,by omega,by go_num,by show _=_;rw[HE2.out,if_pos hc0],HFn.out.1,HFn.out.2,HP3.out⟩
    case measure=>simp[intOf];omega
   ·have g9:0 < ((Kj.tick c).2:Int):=by omega
    go_wp2;go_ret;rw[HE2.out,if_neg hc0];exact⟨rfl,HP3.out⟩
  ·have k1:¬(j:Int) < n:=by have:=HNN.out;omega
   have HE2:Hid (K.ticks c N=(Kj,0)):=by
    show _=_
    rw[HE.out,show N - j=0 by omega];rfl
   go_wp2;go_ret;rw[HE2.out];exact⟨rfl,HPj.out⟩
end
def enAt:Nat->Nat
 | 0=>4
 | 1=>5
 | 2=>6
 | _=>12
def stAt:Nat->Nat
 | 0=>0
 | 1=>4
 | 2=>5
 | 3=>6
 | _=>12
theorem st_next (i:Nat)(h:i < 4):stAt (i+1)=enAt i:=by
 match i,h with
 | 0,_=>rfl
 | 1,_=>rfl
 | 2,_=>rfl
 | 3,_=>rfl
theorem st_le (i:Nat)(h:i < 4):stAt i<=enAt i/\enAt i<=12/\enAt i<=stAt i+6:=by
 match i,h with
 | 0,_=>decide
 | 1,_=>decide
 | 2,_=>decide
 | 3,_=>decide
def numsTo (s:List UInt8)(i:Nat):List Nat:=(List.range i).map fun j=>numB ((s.drop (stAt j)).take (enAt j - stAt j))
theorem numsTo_succ (s:List UInt8)(i:Nat):numsTo s (i+1)=numsTo s i++[numB ((s.drop (stAt i)).take (enAt i - stAt i))]:=by simp[numsTo,List.range_succ]
theorem numsTo_four (s:List UInt8):numsTo s 4=[(dec0 s).seq,(dec0 s).ent,(dec0 s).kind,(dec0 s).tick]:=by
 simp[numsTo,List.range_succ,stAt,enAt,dec0]
theorem num_next (s:List UInt8)(a b:Nat)(h:b < s.length)(hab:a<=b):numB ((s.drop a).take (b+1 - a))=256*numB ((s.drop a).take (b - a))+s[b].toNat:=by
 have e:(s.drop a).take (b+1 - a)=(s.drop a).take (b - a)++[s[b]]:=by
  rw[show b+1 - a=b - a+1 by omega,List.take_succ_eq_append_getElem (by rw[List.length_drop];omega),List.getElem_drop];congr 3
  omega
 rw[e,num_snoc];omega
theorem Tryz.infoInt:∃ i:TypeInfo,Tryz.prog.info? 3=some i/\i.zero=some (.int .i64 0)/\i.size=1/\i.bytes=8:=by
 have h:(Tryz.prog.info? 3).map (fun i=>(i.zero,i.size,i.bytes))=some (some (.int .i64 0),1,8):=by kernel_rfl
 obtain⟨i,hi,he⟩:=Option.map_eq_some_iff.1 h;simp only[Prod.mk.injEq] at he;exact⟨i,hi,he.1,he.2.1,he.2.2⟩
def intVal (n:Nat):Value:=.int .i64 (n:Int)
open Classical in
def hasR (l:List UInt8)(k:Nat):Bool:=decide (decB (slotB l k)=true/\((decR (slotB l k)).seq - 1) % 9=k)
theorem dec0_ok (s:List UInt8):(dec0 s).Ok:=by
 have key:∀ (t:List UInt8),t.length<=6->numB t < 9223372036854775808:=fun t ht=>by
  have q1:=num_lt t;have q3:256 ^ t.length<=256 ^ 6:=Nat.pow_le_pow_right (by decide) ht;omega
 exact⟨key _ (by rw[List.length_take];omega),key _ (by rw[List.length_take];omega),key _ (by rw[List.length_take];omega),key _ (by rw[List.length_take];omega)⟩
theorem slot_none (l:List UInt8)(k:Nat)(h:¬(decB (slotB l k)=true/\((decR (slotB l k)).seq - 1) % 9=k)):slotR l k=.none/\hasR l k=false:=
 ⟨if_neg h,decide_eq_false h⟩
theorem slot_low (l:List UInt8)(k:Nat)(x:Rec)(hx:dec0 (slotB l k)=x)(h:x.seq < 1):slotR l k=.none/\hasR l k=false:=by
 apply slot_none
 have:dec (slotB l k)=none:=if_pos (Or.inl (by rw[hx];exact h));unfold decB;rw[this];simp
theorem slot_bad (l:List UInt8)(k:Nat)(x:Rec)(hx:dec0 (slotB l k)=x)(h:enc x≠slotB l k):slotR l k=.none/\hasR l k=false:=by
 apply slot_none
 have:dec (slotB l k)=none:=if_pos (Or.inr (by rw[hx];exact h));unfold decB;rw[this];simp
theorem slot_else (l:List UInt8)(k:Nat)(x:Rec)(hx:dec0 (slotB l k)=x)(h:(x.seq - 1) % 9≠k):slotR l k=.none/\hasR l k=false:=by
 apply slot_none
 rintro⟨hd,he⟩;have:=(dec_seq hd).2.2.1;rw[this,hx] at he;exact h he
theorem slot_good (l:List UInt8)(k:Nat)(x:Rec)(hx:dec0 (slotB l k)=x)(h1:¬x.seq < 1)(h2:(x.seq - 1) % 9=k)(h3:enc x=slotB l k):slotR l k=x/\hasR l k=true:=by
 have:dec (slotB l k)=some x:=by
  unfold dec;rw[hx,if_neg (fun h=>by
   rcases h with h | h
   ·exact h1 h
   ·exact h h3)]
 have hd:decB (slotB l k)=true:=by unfold decB;rw[this];rfl
 have hr:decR (slotB l k)=x:=by unfold decR;rw[this];rfl
 have hc:decB (slotB l k)=true/\((decR (slotB l k)).seq - 1) % 9=k:=⟨hd,by rw[hr];exact h2⟩;exact⟨(if_pos hc).trans hr,decide_eq_true hc⟩
theorem own_ints {w:World}{base:Nat}{v:Value}{s:List UInt8}(h:w.ownsRow base 3 1 v 4 ((numsTo s 4).map intVal)) :
  ∃ g c,v=.slice (some ⟨g,0,.none⟩) 4 c/\g < w.heap.size/\w.cell? ⟨g,0,.none⟩=some (intVal (dec0 s).seq)/\w.cell? ⟨g,1,.none⟩=some (intVal (dec0 s).ent)/\w.cell? ⟨g,2,.none⟩=some (intVal (dec0 s).kind)/\w.cell? ⟨g,3,.none⟩=some (intVal (dec0 s).tick):=by
 rw[numsTo_four] at h;obtain⟨hl,⟨-,h4⟩ | ⟨g,c,cur,rfl,-,hg,hnc,-,hcs,hx⟩⟩:=h
 ·cases h4
 ·refine⟨g,c,rfl,lt_of_row hg,?_⟩;have key:∀ i,i < 4->w.cell? ⟨g,i,.none⟩=(([(dec0 s).seq,(dec0 s).ent,(dec0 s).kind,(dec0 s).tick].map intVal))[i]?:=fun i hi=>by
   rw[<- hx,List.getElem?_take,if_pos (by omega)];simp[World.cell?,hg]
  exact⟨(key 0 (by decide)).trans rfl,(key 1 (by decide)).trans rfl,(key 2 (by decide)).trans rfl,(key 3 (by decide)).trans rfl⟩
theorem rheld_start (w:World):∃ W,((w.alloc (.cells #[.int .i64 0,.int .i64 0,.int .i64 0,.int .i64 0] 57)).alloc (.cells #[.int .i64 4,.int .i64 5,.int .i64 6,.int .i64 12] 3))=W/\RecRow W w.heap.size .none/\(∀ j,j < 4->W.cell? ⟨w.heap.size+1,j,.none⟩=some (.int .i64 (enAt j:Nat)))/\Below w.heap.size w W/\W.heap.size=w.heap.size+2:=by
 refine⟨_,rfl,(RecRow.new w .none).below ((Below.refl (w.heap.size+1) _).alloc (by simp) _) (Nat.lt_succ_self _),?_,((Below.refl _ _).alloc (Nat.le_refl _) _).alloc (by simp) _,by simp⟩;intro j hj;have e:w.heap.size+1=(w.alloc (.cells #[.int .i64 0,.int .i64 0,.int .i64 0,.int .i64 0] 57)).heap.size:=by simp
 rw[e]
 match j,hj with
 | 0,_=>exact World.cell?_alloc_at _ _ _ _ rfl
 | 1,_=>exact World.cell?_alloc_at _ _ _ _ rfl
 | 2,_=>exact World.cell?_alloc_at _ _ _ _ rfl
 | 3,_=>exact World.cell?_alloc_at _ _ _ _ rfl
set_option maxRecDepth 100000 in
set_option maxHeartbeats 2000000 in
theorem rheld_any (T P:ByteArray)(k:Nat)(w:World)(hk:k < 9)(hP:P.size=17)
  (sl:∀ W,(Instr.slice 9 (.string T) (some (.int .i64 ((k:Int)*17))) (some (.int .i64 (((k:Int)+1)*17))) Option.none).run Tryz.prog W=.ok (.string P) W) (l:List UInt8) (hPl:P.data.toList=slotB l k) :
  Calls Tryz.prog 158 #[.string T,.int .i64 (k:Int)] w fun e w'=>e=.returned (.tuple #[(slotR l k).val,.bool (hasR l k)])/\Below w.heap.size w w':=by
 obtain⟨i0,hi,hz0,hz1,hz2⟩:=Tryz.infoInt;have hP':(P.size:Int)=17:=by omega
 go_enter Tryz.func158,Tryz.ntmps158
 go_upto_region 7 with fail
 obtain⟨W,hW,Z0,E0,B0,s0⟩:=rheld_start w;rw[hW];clear hW;have hlen:P.data.toList.length=17:=by simpa using hP
 go_loopw [7,8,10,11] (fun _ lv a i wr=>∃ (j:Nat),j<=4/\i=.int .i64 j/\a=.int .i64 (stAt j:Nat)/\wr.ownsRow (w.heap.size+2) 3 1 lv j ((numsTo P.data.toList j).map intVal)/\Below (w.heap.size+2) W wr) (fun _ _ _ i _=>4 - (intOf i).toNat)
 case atStart=>exact⟨0,by decide,rfl,rfl,World.ownsRow_nil _ _ _ _,Below.refl _ _⟩
 case round=>
  obtain⟨j,hj,rfl,rfl,hown,hb⟩:=hrel;have hsz:=hb.size
  by_cases hj4:j < 4
  ·have ec:wr.cell? ⟨w.heap.size+1,j,.none⟩=some (.int .i64 (enAt j:Nat)):=(hb.cell (by show w.heap.size+1 < _;omega)).trans (E0 j hj4);obtain⟨h1,h2,h3⟩:=st_le j hj4;have hn:=st_next j hj4;have j0:(0:Int)<=(j:Int):=by omega
   have j1:(j:Int) < 4:=by omega
   have HNX:Hid _:=numsTo_succ P.data.toList j;generalize hst:stAt j=st at *;generalize hen:enAt j=en at *;clear hst hen;go_wp2_with fail
   go_loopw [7,10] (fun v a wx=>∃ (m:Nat),st<=m/\m<=en/\a=.int .i64 m/\v=.int .i64 (numB ((P.data.toList.drop st).take (m - st)):Nat)/\wx=wr) (fun _ a _=>en - (intOf a).toNat)
   case atStart=>exact⟨st,Nat.le_refl _,h1,rfl,by rw[Nat.sub_self];rfl,rfl⟩
   case round=>
    obtain⟨m,hm1,hm2,rfl,rfl,rfl⟩:=hrel
    by_cases hme:m < en
    ·have HV:Hid (numB ((P.data.toList.drop st).take (m - st)) < 1099511627776):=by
      show _ < _
      have q1:=num_lt ((P.data.toList.drop st).take (m - st));have q2:((P.data.toList.drop st).take (m - st)).length<=5:=by rw[List.length_take];omega
      have q3:256 ^ ((P.data.toList.drop st).take (m - st)).length<=256 ^ 5:=Nat.pow_le_pow_right (by decide) q2;omega
     have hmP:m < P.size:=by omega
     have HN:Hid ((256:Int)*(numB ((P.data.toList.drop st).take (m - st)):Nat)+((P[m]'hmP).toNat:Int)=(numB ((P.data.toList.drop st).take (m+1 - st)):Nat)):=by
      show _=_
      rw[num_next P.data.toList st m (by omega) hm1];have:P.data.toList[m]'(by omega)=P[m]'hmP:=rfl;rw[this];omega
     have HB:=(P[m]'hmP).toNat_lt;have hvi:=HV.out;have m0:(0:Int)<=(m:Int):=by omega
     have m1:(m:Int) < (P.size:Int):=by omega
     generalize numB ((P.data.toList.drop st).take (m - st))=N at *;go_wp2_with fail
     exact⟨⟨m+1,by omega,by omega,by go_num,congrArg (Value.int .i64) HN.out,trivial⟩,by simp[intOf];omega⟩
    ·have em:m=en:=by omega
     subst em;have HM:Hid ((numsTo P.data.toList (j+1)).map intVal=(numsTo P.data.toList j).map intVal++[.int .i64 (numB ((P.data.toList.drop st).take (m - st)):Nat)]):=by
      show _=_
      rw[HNX.out,List.map_append];rfl
     generalize numB ((P.data.toList.drop st).take (m - st))=N at *;go_wp2_with (at_builtin;refine wpList_append_own _ rfl (.tmp 40) (.tmp 42) 36 rfl (w.heap.size+2) 3 i0 (.int .i64 0) 1 8 Tryz.underlying36 hi hz0 hz1 hz2 rfl (by decide) _ _ _ rfl (hown.alloc _) ⟨wr.heap.size,0,.none⟩ 1 1 [.int .i64 (N:Int)] rfl rfl (cell_one _ _ _) (by intro u hu;simp at hu;subst hu;rfl) (by unfold maxLen;omega) (by omega) (by simp;omega) ?_;intro v1 w1 hown1 hgrow1 hlt1)
     go_roundw
     case rel=>exact⟨j+1,by omega,by go_num,by rw[hn],by rw[HM.out];exact hown1,(hb.alloc (by omega) _).grown hgrow1 (by simp;omega) (fun q hq=>(hown.lt q hq).1)⟩
     case measure=>simp[intOf];omega
  ·have ej:j=4:=by omega
   subst ej;have Z1:=Z0.below hb (by omega);obtain⟨g,c,rfl,hglt,hcs⟩:=own_ints hown;have hgne:¬g=wr.heap.size:=by omega
   rw[hPl] at hcs;unfold intVal at hcs;obtain⟨n0,n1,n2,n3⟩:=hcs;have bel:Below w.heap.size w wr:=B0.trans (hb.mono (by omega));generalize hx:dec0 (slotB l k)=x at *;go_upto_region 14 with fail
   go_region
   obtain⟨W2,hW2⟩:∃ W2,(wr.alloc (.cells #[.int .i64 (x.seq:Int),.int .i64 (x.ent:Int),.int .i64 (x.kind:Int),.int .i64 (x.tick:Int)] 57)).drew=W2:=⟨_,rfl⟩;have X2:RecRow W2 wr.heap.size x:=by rw[<- hW2];exact(RecRow.new wr x).drew
   have B2:Below wr.heap.size wr W2:=by rw[<- hW2];exact((Below.refl _ _).alloc (Nat.le_refl _) _).drew
   rw[hW2];have s2:=X2.lt;clear hW2 n0 n1 n2 n3;have Z2:=Z1.below B2 Z1.lt;have zl:=Z2.lt;have bel2:=bel.trans (B2.mono bel.size);have hok:=dec0_ok (slotB l k);rw[hx] at hok;have x0:=X2.at.c0;have x1:=X2.at.c1;have x2:=X2.at.c2;have x3:=X2.at.c3;have z0:=Z2.at.c0;have z1:=Z2.at.c1;have z2:=Z2.at.c2;have z3:=Z2.at.c3;have f0:=Z2.frozen 0;have f1:=Z2.frozen 1;have f2:=Z2.frozen 2;have f3:=Z2.frozen 3
   by_cases h1:x.seq < 1
   ·have h1':(x.seq:Int) < 1:=by omega
    have HR:Hid _:=slot_low l k x hx h1;go_wp2_with fail
    refine bodyPost_ret (res_rec rfl _ _ w.heap.size .none rfl (Z2.set4 .none).at) rfl ?_;rw[HR.out.1,HR.out.2];exact⟨rfl,below_grown bel2 (grown_set4 _ _ _ _ _ _) bel2.size (Nat.le_refl _)⟩
   ·have h1':¬(x.seq:Int) < 1:=by omega
    by_cases hq:(x.seq - 1) % 9=k
    ·go_wp2_with fail
     refine(rslot_any x.seq W2 (by omega) hok.seq).mono ?_;rintro e w3 ⟨rfl,rfl⟩;rw[hq];have EV:Rec.val x=.agg #[.int .i64 (x.seq:Int),.int .i64 (x.ent:Int),.int .i64 (x.kind:Int),.int .i64 (x.tick:Int)]:=rfl;have BD:=body_any x w3 hok;rw[EV] at BD;have HBD:Hid _:=BD;clear BD EV;go_wp2_with fail
     refine Calls.mono HBD.out ?_;rintro e w4 ⟨T4,rfl,hT4,hs4,hb4⟩;go_wp2_with fail
     refine(byte_any 165 w4).mono ?_;rintro e w5 ⟨rfl,hb5⟩;have hs5:(⟨#[UInt8.ofNat 165]⟩:ByteArray).size=1:=rfl;have hT5:(⟨#[UInt8.ofNat 165]⟩:ByteArray).data.toList=[165]:=rfl;generalize (⟨#[UInt8.ofNat 165]⟩:ByteArray)=T5 at *;have HE:Hid ((T4++T5).data.toList=enc x):=by
      show _=_
      simp only[ByteArray.data_append,Array.toList_append,hT4,hT5];rfl
     have b5:=bel2.trans ((hb4.mono bel2.size).trans (hb5.mono (Nat.le_trans bel2.size hb4.size)));have Z5:=(Z2.below hb4 Z2.lt).below hb5 (Nat.lt_of_lt_of_le Z2.lt hb4.size);have X5:=(X2.below hb4 X2.lt).below hb5 (Nat.lt_of_lt_of_le X2.lt hb4.size);clear hT4 hT5 x0 x1 x2 x3 z0 z1 z2 z3 f0 f1 f2 f3 HBD;have x0:=X5.at.c0;have x1:=X5.at.c1;have x2:=X5.at.c2;have x3:=X5.at.c3;have z0:=Z5.at.c0;have z1:=Z5.at.c1;have z2:=Z5.at.c2;have z3:=Z5.at.c3;have f0:=Z5.frozen 0;have f1:=Z5.frozen 1;have f2:=Z5.frozen 2;have f3:=Z5.frozen 3
     by_cases he:T4++T5=P
     ·have HR:Hid _:=slot_good l k x hx h1 hq (by rw[<- HE.out,he,hPl]);have heq:((T4++T5).toList == P.toList)=true:=by rw[he];simp
      go_wp2_with fail
      refine bodyPost_ret (res_rec rfl _ _ w.heap.size x rfl (Z5.set4 x).at) rfl ?_;rw[HR.out.1,HR.out.2];exact⟨rfl,below_grown b5 (grown_set4 _ _ _ _ _ _) b5.size (Nat.le_refl _)⟩
     ·have HR:Hid _:=slot_bad l k x hx (fun e=>he (by
       apply ByteArray.ext
       apply Array.toList_inj.1
       rw[HE.out,hPl];exact e))
      have heq:((T4++T5).toList == P.toList)=false:=by
       rw[beq_eq_false_iff_ne];exact fun e=>he (text_inj e)
      go_wp2_with fail
      refine bodyPost_ret (res_rec rfl _ _ w.heap.size .none rfl (Z5.set4 .none).at) rfl ?_;rw[HR.out.1,HR.out.2];exact⟨rfl,below_grown b5 (grown_set4 _ _ _ _ _ _) b5.size (Nat.le_refl _)⟩
    ·have HR:Hid _:=slot_else l k x hx hq;go_wp2_with fail
     refine(rslot_any x.seq W2 (by omega) hok.seq).mono ?_;rintro e w3 ⟨rfl,rfl⟩;have hq':¬(((x.seq - 1) % 9:Nat):Int)=(k:Int):=by omega
     go_wp2_with fail
     refine bodyPost_ret (res_rec rfl _ _ w.heap.size .none rfl (Z2.set4 .none).at) rfl ?_;rw[HR.out.1,HR.out.2];exact⟨rfl,below_grown bel2 (grown_set4 _ _ _ _ _ _) bel2.size (Nat.le_refl _)⟩
theorem slot_textB (T:ByteArray)(k:Nat)(hs:(153:Int)<=(T.size:Int))(hk:k < 9) :
  ∃ P:ByteArray,P.data.toList=slotB (T.data.toList.take 153) k/\P.size=17/\∀ W,(Instr.slice 9 (.string T) (some (.int .i64 ((k:Int)*17))) (some (.int .i64 (((k:Int)+1)*17))) Option.none).run Tryz.prog W=.ok (.string P) W:=by
 refine⟨T.extract (k*17) (k*17+17),?_,by simp;omega,fun W=>?_⟩
 ·rw[Lib.extract_data,Nat.add_sub_cancel_left];unfold slotB;rw[List.drop_take,List.take_take];congr 1
  omega
 ·rw[run_slice_string _ _ T _ _ _ _ Tryz.underlying9 (by omega) (by omega) (by omega)];congr 3 <;> omega
theorem rheld_at (T:ByteArray)(k:Nat)(w:World)(hs:(153:Int)<=(T.size:Int))(hk:k < 9) :
  Calls Tryz.prog 158 #[.string T,.int .i64 (k:Int)] w fun e w'=>e=.returned (.tuple #[(slotR (T.data.toList.take 153) k).val,.bool (hasR (T.data.toList.take 153) k)])/\Below w.heap.size w w':=by
 obtain⟨P,h1,h2,h3⟩:=slot_textB T k hs hk;exact rheld_any T P k w hk h2 h3 _ h1
theorem has_seq (l:List UInt8)(k:Nat):(hasR l k=true->1<=(slotR l k).seq/\(slotR l k).seq < 4294967296)/\(hasR l k=false->slotR l k=.none):=by
 constructor
 ·intro h;have hc:=of_decide_eq_true h;have e:slotR l k=decR (slotB l k):=if_pos hc;rw[e];exact⟨(dec_seq hc.1).1,(dec_seq hc.1).2.1⟩
 ·intro h;exact if_neg (of_decide_eq_false h)
theorem helds_at (l:List UInt8)(i:Nat)(hi:i < 9):(helds l 9)[i]?=some (slotR l i):=by
 rw[List.getElem?_eq_getElem (by rw[helds_length];exact hi)];simp[helds,hi]
theorem helds_getD (l:List UInt8)(i:Nat)(hi:i < 9):(helds l 9).getD i .none=slotR l i:=by
 rw[List.getD_eq_getElem?_getD,List.getElem?_eq_getElem (by rw[helds_length];exact hi)];simp[helds,hi]
theorem recCells_one (x:Rec):recCells [x]=x.list:=by simp[recCells]
set_option maxRecDepth 100000 in
set_option maxHeartbeats 2000000 in
theorem recordsOf_any (T:ByteArray)(w:World)(hs:(153:Int)<=(T.size:Int)) :
  Calls Tryz.prog 110 #[.string T] w fun e w'=>∃ v,e=.returned v/\Recs w' w.heap.size v (openL T.data.toList)/\Below w.heap.size w w':=by
 obtain⟨i0,hi,hz0,hz1,hz2⟩:=Tryz.infoRec;have HML:Hid _:=maxSeq_lt (helds (T.data.toList.take 153) 9) (helds_lt _);have HHE:Hid _:=fun k w' hk=>rheld_at T k w' hs hk
 unfold openL;have HAS:Hid _:=has_seq (T.data.toList.take 153);have HAT:Hid _:=helds_at (T.data.toList.take 153);have HGD:Hid _:=helds_getD (T.data.toList.take 153);have HLN:Hid _:=helds_length (T.data.toList.take 153) 9;generalize T.data.toList.take 153=l at *;generalize helds l 9=L at *;go_enter Tryz.func110,Tryz.ntmps110
 go_wp2_with fail
 go_loopw [3,4] (fun b i wr=>∃ k:Nat,k<=9/\i=.int .i64 k/\b=.int .i64 (maxSeq (L.take k):Nat)/\Below w.heap.size w wr) (fun _ i _=>9 - (intOf i).toNat)
 case atStart=>exact⟨0,Nat.zero_le _,rfl,rfl,Below.refl _ _⟩
 case round=>
  obtain⟨k,hk,rfl,rfl,hb⟩:=hrel;have hsz:=hb.size
  by_cases h9:k < 9
  ·have HT:Hid (maxSeq (L.take (k+1))=max (maxSeq (L.take k)) (slotR l k).seq):=by
    show _=_
    have e:=HAT.out k h9;rw[List.getElem?_eq_getElem (by rw[HLN.out];exact h9)] at e;rw[List.take_succ_eq_append_getElem (by rw[HLN.out];exact h9),maxSeq_snoc,Option.some.inj e]
   go_wp2_with fail
   refine Calls.mono (HHE.out k wr h9) ?_;rintro e w2 ⟨rfl,hb2⟩;have HA:=HAS.out k;have b2:=hb.trans (hb2.mono hsz);generalize slotR l k=x at *;generalize maxSeq (L.take k)=M at *;unfold Rec.val
   cases hh:hasR l k
   ·have hx:=HA.2 hh;subst hx;go_wp2_with fail
    refine⟨⟨k+1,by omega,by go_num,?_,b2.alloc b2.size _⟩,by simp[intOf];omega⟩;rw[HT.out];show _=Value.int _ ((max M 0:Nat):Int)
    rw[Nat.max_zero]
   ·by_cases hgt:(M:Int) < (x.seq:Int)
    ·go_wp2_with fail
     refine⟨⟨k+1,by omega,by go_num,?_,b2.alloc b2.size _⟩,by simp[intOf];omega⟩;rw[HT.out];congr 1
     omega
    ·go_wp2_with fail
     refine⟨⟨k+1,by omega,by go_num,?_,b2.alloc b2.size _⟩,by simp[intOf];omega⟩;rw[HT.out];congr 1
     omega
  ·have ek:L.take k=L:=List.take_of_length_le (by rw[HLN.out];omega);rw[ek];clear ek;have HM:=HML.out;generalize hbest:maxSeq L=best at *;have HNL:Hid (newestL L=(chain L 8 best).reverse):=by show _=_;unfold newestL;rw[hbest]
   clear hbest HML;go_wp2_with fail
   go_loopw [7,8] (fun v i wx=>∃ (n:Nat) (acc:List Rec),n<=best/\i=.int .i64 n/\acc.length<=8/\acc++chain L (8 - acc.length) n=chain L 8 best/\Recs wx w.heap.size v acc.reverse/\(acc=[]->v=.slice .none 0 0)/\Below w.heap.size w wx) (fun _ i _=>(intOf i).toNat)
   case atStart=>exact⟨best,[],Nat.le_refl _,rfl,by simp,rfl,World.ownsRow_nil _ _ _ _,fun _=>rfl,hb⟩
   case round=>
    obtain⟨n,acc,hn,rfl,hacc,hch,hown,hnil,hb2⟩:=hrel;have hsz2:=hb2.size;obtain⟨sa,c,rfl⟩:=hown.len;rw[List.length_reverse] at hown hnil ⊢
    by_cases hn0:0 < n
    ·have hn0':(0:Int) < (n:Int):=by omega
     by_cases ha8:acc.length < 8
     ·have ha8':(acc.length:Int) < 8:=by omega
      have hq:(n - 1) % 9 < 9:=Nat.mod_lt _ (by decide);obtain⟨q,hqe⟩:∃ q,(n - 1) % 9=q:=⟨_,rfl⟩;rw[hqe] at hq;have HSTOP:=chain_stop L (8 - acc.length) n;have HSTEP:=chain_step L (8 - (acc.length+1)) n hn0;rw[hqe,HGD.out q hq] at HSTOP HSTEP;go_wp2_with fail
      refine(rslot_any n _ hn0 (by omega)).mono ?_;rintro e w3 ⟨rfl,rfl⟩;rw[hqe];go_wp2_with fail
      refine Calls.mono (HHE.out q w3 hq) ?_;rintro e w4 ⟨rfl,hb4⟩;have HA:=HAS.out q;have b4:=hb2.trans (hb4.mono hsz2);have s4:=hb4.size;generalize slotR l q=x at *;unfold Rec.val
      by_cases hseq:x.seq=n
      ·cases hh:hasR l q
       ·have hx:=HA.2 hh;rw[hx] at hseq;have:(0:Nat)=n:=hseq;omega
       ·have HS:Hid _:=HSTEP hseq;have hown4:Recs w4 w.heap.size (.slice sa acc.length c) acc.reverse:=hown.below hb4 (Nat.le_refl _);clear HSTOP HSTEP HA;subst hseq;have hz4:=Nat.le_trans hsz2 s4;obtain⟨x0,x1,x2,x3⟩:=RecAt.new w4 x 57;go_upto_region 16 with (at_builtin;refine wpList_append_lies _ rfl (.tmp 56) (.tmp 58) 52 rfl w.heap.size 57 i0 (.agg #[.int .i64 0,.int .i64 0,.int .i64 0,.int .i64 0]) 4 32 Tryz.underlying52 hi hz0 hz1 hz2 rfl (by decide) (.slice .none 0 0) 0 [] rfl (World.ownsRow_nil _ _ _ _) ⟨w4.heap.size+1,0,.none⟩ 1 1 x.list rfl rfl (cell_four' _ _ _ _) (list_one x) (by decide) (by unfold maxLen;omega) (by omega) (by simp;omega) (w4.heap.size+2) (by simp) ?_;intro g5 cp5 w5 hown5 hg5 hor5 hlt5)
        have b45:Below w4.heap.size w4 w5:=(((Below.refl w4.heap.size w4).alloc (Nat.le_refl _) _).alloc (by simp) _).grown hg5 (by simp;omega) (fun k hk=>by cases hk);have h5:=hown4.below b45 (Nat.le_refl _);have b5:=b4.trans (b45.mono hz4);have s5:=b45.size;have R1:w5.ownsRow w.heap.size 57 4 (.slice (some ⟨g5,0,.none⟩) 1 cp5) 1 x.list:=hown5;have HCH:Hid ((acc++[x])++chain L (8 - (acc++[x]).length) (x.seq - 1)=chain L 8 best):=by
         show _=_
         rw[List.append_assoc,List.length_append,List.length_singleton,<- hch,show 8 - acc.length=8 - (acc.length+1)+1 by omega,HS.out];rfl
        have hcap5:1<=cp5:=by
         obtain⟨-,⟨e,-⟩ | ⟨g',c',cur,e,-,-,hle,-⟩⟩:=R1
         ·cases e
         ·simp only[Value.slice.injEq] at e;rw[e.2.2];exact hle
        clear hch hown5 hg5 hor5 b45 hown4 x0 x1 x2 x3
        by_cases hae:acc=[]
        ·have e:=hnil hae;simp only[Value.slice.injEq] at e;obtain⟨rfl,-,rfl⟩:=e;subst hae;go_wp2_with fail
         refine⟨⟨x.seq - 1,[x],by omega,by congr 1;omega,by simp,HCH.out,?_,fun e=>by simp at e,b5⟩,by simp[intOf];omega⟩;show w5.ownsRow _ _ _ _ _ _
         rw[List.reverse_singleton,recCells_one];exact R1
        ·rcases h5.row_form with ⟨e,e2⟩ | ⟨g6,cap6,e,-,hrow,-,-⟩
         ·exact absurd (List.reverse_eq_nil_iff.1 e2) hae
         simp only[Value.slice.injEq] at e;obtain⟨rfl,-,rfl⟩:=e;have hll:Hid ((recCells acc.reverse).length=acc.length*4):=by show _=_;rw[recCells_length,List.length_reverse];omega
         have hones:Hid (∀ u∈recCells acc.reverse,u.oneCell'=true):=fun u hu=>Array.all_eq_true_iff_forall_mem.1 (recs_one acc.reverse) u (by simpa using hu)
         have hcs:Hid _:=hrow.raw;clear hnil h5 hrow;go_wp2_with (at_builtin;refine wpList_append_own _ rfl (.tmp 60) (.tmp 61) 52 rfl w.heap.size 57 i0 (.agg #[.int .i64 0,.int .i64 0,.int .i64 0,.int .i64 0]) 4 32 Tryz.underlying52 hi hz0 hz1 hz2 rfl (by decide) _ _ _ rfl R1 ⟨g6,0,.none⟩ acc.length c (recCells acc.reverse) rfl hll.out hcs.out hones.out (by unfold maxLen;omega) (by omega) (by omega) ?_;intro v8 w8 hown8 hgrow8 hlt8)
         go_roundw
         case rel=>
          refine⟨x.seq - 1,acc++[x],by omega,by go_num,by simp;omega,HCH.out,?_,fun e=>by simp at e,b5.grown hgrow8 b5.size (fun q hq=>(World.ownsRow.lt R1 q hq).1)⟩;show w8.ownsRow _ _ _ _ _ _
          rw[show (acc++[x]).reverse=[x]++acc.reverse by simp,recCells_append,List.length_append,List.length_reverse,recCells_one];exact hown8
         case measure=>simp[intOf];omega
      ·have HS:Hid (chain L 8 best=acc):=by
        show _=_
        rw[<- hch,HSTOP (fun h=>hseq h.2),List.append_nil]
       have hseq':¬(x.seq:Int)=(n:Int):=by omega
       have h4:=(hown.below hb4 (Nat.le_refl _));clear HSTOP HSTEP hch hseq HA
       cases hh:hasR l q
       all_goals
        go_wp2;go_ret
        refine⟨_,rfl,?_,b4.alloc (by omega) _⟩;rw[HNL.out,HS.out];exact h4.below ((Below.refl _ _).alloc (Nat.le_refl _) _) (Nat.le_refl _)
     ·have HS:Hid (chain L 8 best=acc):=by
       show _=_
       rw[<- hch,show 8 - acc.length=0 by omega];simp[chain]
      have ha8':¬(acc.length:Int) < 8:=by omega
      clear hch;go_wp2;go_ret
      refine⟨_,rfl,?_,hb2⟩;rw[HNL.out,HS.out];exact hown
    ·have HS:Hid (chain L 8 best=acc):=by
      show _=_
      rw[<- hch,chain_stop L _ n (fun h=>hn0 h.1),List.append_nil]
     have hn0':¬(0:Int) < (n:Int):=by omega
     clear hch;go_wp2;go_ret
     refine⟨_,rfl,?_,hb2⟩;rw[HNL.out,HS.out];exact hown
def kmRowV (c:CfgD)(ev:Value)(bm bd:Nat)(rv lv tv:Value):Array Value:=#[.int .i64 c.closed,.int .i64 c.opn,.int .i64 c.cycle,.int .i64 c.delay,ev,.pointer (some ⟨bm,0,none⟩),.pointer (some ⟨bd,0,none⟩),rv,lv,tv]
theorem Tryz.infoPtrL:(Tryz.prog.info? 137).map (fun i=>(i.zero,i.size,i.bytes))=some (some (.pointer none),1,8):=by kernel_rfl
section
variable {w0 W1 wr wr' V2 V3:World}{c:CfgD}{ev:Value}{kb bm bd:Nat}{rv lv tv:Value}{bs:List Nat}
structure OpL (w0 W1 wr:World)(c:CfgD)(ev:Value)(kb bm bd:Nat)(rv tv lv:Value)(bs:List Nat):Prop where
 row:wr.heap[kb]?=some (.cells (kmRowV c ev bm bd rv lv tv) 130 (0,0))
 kl:kb < W1.heap.size
 off:Off (fun k=>k=kb) W1 wr
 own:SlOwn encB 1 137 W1.heap.size wr lv bs
 loc:∀ (j b:Nat),bs[j]?=some b->∃ (e:EntD) (E:EA),c.ents[j]?=some e/\W1.heap.size<=b/\wr.heap[b]?=some (.cells (lmRow e E.pa E.ga E.ea E.fa E.la E.pc E.gc E.ec E.fc E.lc LSt.new (.slice none 0 0)) 185 (0,0))/\EntParts w0 e (.slice E.pa e.pts.length E.pc) (.slice E.ga e.gaps.length E.gc) (.slice E.ea e.edges.length E.ec) (.slice E.fa e.first.length E.fc) (.slice E.la e.last.length E.lc)
 dist:∀ (i j b:Nat),bs[i]?=some b->bs[j]?=some b->i=j
theorem OpL.below (h:OpL w0 W1 wr c ev kb bm bd rv tv lv bs)(hb:Below wr.heap.size wr wr'):OpL w0 W1 wr' c ev kb bm bd rv tv lv bs:=
 ⟨row_below hb h.row,h.kl,h.off.trans (Off.of_below hb _) (fun _ _ e=>e),h.own.below hb,fun j b hj=>by obtain⟨e,E,h1,h2,h3,h4⟩:=h.loc j b hj;exact⟨e,E,h1,h2,row_below hb h3,h4⟩,h.dist⟩
theorem OpL.more (h:OpL w0 W1 wr c ev kb bm bd rv tv lv bs){e:EntD}{E:EA}{g cap:Nat}{o:Obj}(he:c.ents[bs.length]?=some e)
  (hP:EntParts w0 e (.slice E.pa e.pts.length E.pc) (.slice E.ga e.gaps.length E.gc) (.slice E.ea e.edges.length E.ec) (.slice E.fa e.first.length E.fc) (.slice E.la e.last.length E.lc))
  (hV2:V2=(wr.alloc (.cells (lmRow e E.pa E.ga E.ea E.fa E.la E.pc E.gc E.ec E.fc E.lc LSt.new (.slice none 0 0)) 185)).alloc o)
  (hown:V3.ownsRow W1.heap.size 137 1 (.slice (some ⟨g,0,none⟩) (bs.length+1) cap) (bs.length+1) (bs.flatMap encB++[.pointer (some ⟨wr.heap.size,0,none⟩)])) (hg:V2.grownBy V3 lv.ownBlock)
  (hw:wr'=V3.setCell ⟨kb,8,none⟩ (.slice (some ⟨g,0,none⟩) (bs.length+1) cap)):OpL w0 W1 wr' c ev kb bm bd rv tv (.slice (some ⟨g,0,none⟩) (bs.length+1) cap) (bs++[wr.heap.size]):=by
 have b1:=Below.one wr (.cells (lmRow e E.pa E.ga E.ea E.fa E.la E.pc E.gc E.ec E.fc E.lc LSt.new (.slice none 0 0)) 185);have b2:Below wr.heap.size wr V2:=by rw[hV2];exact b1.alloc (by simp) o
 have hn:V2.heap[wr.heap.size]?=some (.cells (lmRow e E.pa E.ga E.ea E.fa E.la E.pc E.gc E.ec E.fc E.lc LSt.new (.slice none 0 0)) 185 (0,0)):=by
  rw[hV2];exact row_below (Below.one _ o) (heap_alloc_new wr _)
 have hlz:W1.heap.size<=wr.heap.size:=h.off.size;have hrow2:=row_below b2 h.row;have hkb:lv.ownBlock≠some kb:=ow_ne h.own h.row (by decide);have hrow3:V3.heap[kb]?=some (.cells (kmRowV c ev bm bd rv lv tv) 130 (0,0)):=(hg.block kb (lt_of_row hrow2) (fun e=>hkb e.symm)).trans hrow2;have hof3:Off (fun k=>lv.ownBlock=some k) V2 V3:=⟨hg.os,hg.tape,hg.output,hg.size,fun k hk hn=>hg.block k hk (fun e=>hn e.symm)⟩;have hof4:Off (fun k=>k=kb) V3 wr':=by rw[hw];exact Off.of_grown (grown_setCell _ _ _ _)
 have keep:∀ (b:Nat) (cs:Array Value),V2.heap[b]?=some (.cells cs 185 (0,0))->wr'.heap[b]?=some (.cells cs 185 (0,0)):=fun b cs hb=>by
  have h3:V3.heap[b]?=some (.cells cs 185 (0,0)):=(hg.block b (lt_of_row hb) (fun e=>ow_ne (h.own.below b2) hb (by decide) e.symm)).trans hb
  refine(hof4.block b (lt_of_row h3) (fun e=>?_)).trans h3;subst e;rw[hrow3] at h3;simp at h3
 refine⟨?_,h.kl,?_,?_,fun j b hj=>?_,fun i j b hi hj=>?_⟩
 ·rw[hw];exact row_put hrow3 _
 ·exact((h.off.trans (Off.of_below b2 _) (fun _ _ e=>e)).trans hof3 (fun k hk e=>absurd ((h.own.lt k e).1) (by omega))).trans hof4 (fun _ _ e=>e)
 ·have e1:(bs++[wr.heap.size]).flatMap encB=bs.flatMap encB++[.pointer (some ⟨wr.heap.size,0,none⟩)]:=by rw[List.flatMap_append];rfl
  show wr'.ownsRow _ _ _ _ _ _
  rw[e1,List.length_append,List.length_singleton];exact ow_same hown (fun q hq=>hof4.block q (hown.lt q hq).2 (fun e=>by rw[e] at hq;exact ow_ne hown hrow3 (by decide) hq))
 ·rw[List.getElem?_append] at hj
  split at hj
  ·obtain⟨e',E',a1,a2,a3,a4⟩:=h.loc j b hj;exact⟨e',E',a1,a2,keep b _ (row_below b2 a3),a4⟩
  ·rename_i hlt;obtain rfl:j=bs.length:=by
    have:=(List.getElem?_eq_some_iff.1 hj).1;simp at this
    omega
   simp at hj
   subst hj;exact⟨e,E,he,hlz,keep _ _ hn,hP⟩
 ·have old:∀ (i b:Nat),bs[i]?=some b->b < wr.heap.size:=fun i b hi=>by obtain⟨_,_,_,_,a3,_⟩:=h.loc i b hi;exact lt_of_row a3
  have last:∀ (i b:Nat),¬i < bs.length->(bs++[wr.heap.size])[i]?=some b->i=bs.length/\b=wr.heap.size:=fun i b hn hi=>by
   rw[List.getElem?_append_right (by omega)] at hi;have:=(List.getElem?_eq_some_iff.1 hi).1;simp at this
   have e:i=bs.length:=by omega
   subst e;simp at hi
   exact⟨rfl,hi.symm⟩
  by_cases hi2:i < bs.length
  ·rw[List.getElem?_append_left hi2] at hi
   by_cases hj2:j < bs.length
   ·rw[List.getElem?_append_left hj2] at hj;exact h.dist i j b hi hj
   ·obtain⟨-,rfl⟩:=last j b hj2 hj;have:=old i _ hi;omega
  ·obtain⟨rfl,rfl⟩:=last i b hi2 hi
   by_cases hj2:j < bs.length
   ·rw[List.getElem?_append_left hj2] at hj;have:=old j _ hj;omega
   ·exact(last j _ hj2 hj).1.symm
end
theorem exec_appK {a:Act}{o:Oper}{s x:Operand}{t ty:TypeId}{vs vx v':Value}{V V':World}(ho:o.op=.call { callee:=.builtin .append,args:=#[s,x],argTypes:=#[t,t] })(hty:o.type=ty)(hs:a.eval s=vs)(hx:a.eval x=vx)
  (hr:(Builtin.append_ #[t,t] ty #[vs,vx]).run Tryz.prog V=.ok v' V'):(execOp a.eval o).run Tryz.prog V=.ok (.value v') V':=by
 subst hty hs hx;simp[execOp,ho,resolve,invoke,builtin,hr,Result.andThen]
def opK (kb b n N:Nat)(la:Option Addr)(lc eb eo ec:Nat)(e:EntD)(E:EA):Nat->Value
 | 0=>.pointer (some ⟨kb,0,none⟩)
 | 1=>.pointer (some ⟨kb,0,none⟩)
 | 2=>.pointer (some ⟨kb,0,none⟩)
 | 3=>.pointer (some ⟨kb,8,none⟩)
 | 4=>.slice la n lc
 | 5=>.pointer (some ⟨kb,0,none⟩)
 | 6=>.pointer (some ⟨kb,0,none⟩)
 | 7=>.pointer (some ⟨kb,0,none⟩)
 | 8=>.pointer (some ⟨kb,4,none⟩)
 | 9=>.slice (some ⟨eb,eo,none⟩) N ec
 | 10=>.int .i64 (n:Int)
 | 11=>.pointer (some ⟨eb,eo+n*10,none⟩)
 | 12=>.agg #[.string e.name,.int .i64 e.tol,.slice E.pa e.pts.length E.pc,.int .i64 e.cnt,.int .i64 e.mn,.int .i64 e.mx,.slice E.ga e.gaps.length E.gc,.slice E.ea e.edges.length E.ec,.slice E.fa e.first.length E.fc,.slice E.la e.last.length E.lc]
 | 13=>.agg #[.string e.name,.int .i64 e.tol,.slice E.pa e.pts.length E.pc,.int .i64 e.cnt,.int .i64 e.mn,.int .i64 e.mx,.slice E.ga e.gaps.length E.gc,.slice E.ea e.edges.length E.ec,.slice E.fa e.first.length E.fc,.slice E.la e.last.length E.lc,.bool false,.int .i64 0,.slice none 0 0,.int .i64 0,.bool false]
 | 14=>.pointer (some ⟨b,0,none⟩)
 | 15=>.slice (some ⟨b+1,0,none⟩) 1 1
 | 17=>.pointer (some ⟨kb,0,none⟩)
 | 18=>.pointer (some ⟨kb,8,none⟩)
 | _=>undef
structure OpC (V0 A1 A2:World)(kb n:Nat)(K:Nat->Value)(Q:Nat->Nat->World->Prop)(vals:Nat->Option Value)(V:World):Prop where
 cs:∀ j,j < 20->j≠16->j≠19->∀ v,vals j=some v->v=K j
 st:(vals 14=none/\vals 15=none/\vals 16=none/\vals 19=none/\V=V0)\/(vals 14≠none/\vals 15=none/\vals 16=none/\vals 19=none/\V=A1)\/(vals 14≠none/\vals 15≠none/\vals 16=none/\vals 19=none/\V=A2) \/
  (vals 14≠none/\vals 15≠none/\∃ g cap V3,vals 16=some (.slice (some ⟨g,0,none⟩) (n+1) cap)/\Q g cap V3/\((vals 19=none/\V=V3)\/(vals 19≠none/\V=V3.setCell ⟨kb,8,none⟩ (.slice (some ⟨g,0,none⟩) (n+1) cap))))
 cl:vals 19≠none->vals 4≠none/\vals 9≠none/\vals 12≠none
section
variable {V0 A1 A2 V V':World}{kb n:Nat}{K:Nat->Value}{Q:Nat->Nat->World->Prop}{vals:Nat->Option Value}{i:Nat}{u:Value}
theorem OpC.start:OpC V0 A1 A2 kb n K Q (fun _=>.none) V0:=⟨fun _ _ _ _ _ h=>(by cases h),Or.inl ⟨rfl,rfl,rfl,rfl,rfl⟩,fun h=>absurd rfl h⟩
theorem OpC.good (h:OpC V0 A1 A2 kb n K Q vals V)(hi:i=4\/i=9\/i=12)(hn:vals i=.none):V=V0\/V=A1\/V=A2\/∃ g cap,Q g cap V:=by
 rcases h.st with ⟨_,_,_,_,e⟩ | ⟨_,_,_,_,e⟩ | ⟨_,_,_,_,e⟩ | ⟨_,_,g,cap,V3,_,hq,⟨_,e⟩ | ⟨h19,_⟩⟩
 ·exact Or.inl e
 ·exact Or.inr (Or.inl e)
 ·exact Or.inr (Or.inr (Or.inl e))
 ·exact Or.inr (Or.inr (Or.inr ⟨g,cap,e ▸ hq⟩))
 ·obtain⟨a,b,c⟩:=h.cl h19
  rcases hi with rfl | rfl | rfl
  ·exact absurd hn a
  ·exact absurd hn b
  ·exact absurd hn c
theorem OpC.const (h:OpC V0 A1 A2 kb n K Q vals V)(hi:i < 14\/i=17\/i=18)(hu:u=K i):OpC V0 A1 A2 kb n K Q (upd vals i u) V:=by
 have o:∀ j,j=14\/j=15\/j=16\/j=19->upd vals i u j=vals j:=fun j hj=>upd_other vals u (by omega)
 refine⟨fun j h1 h2 h3 v hv=>?_,?_,fun h19=>?_⟩
 ·by_cases e:j=i
  ·subst e;rw[upd_same] at hv;exact(Option.some.inj hv).symm.trans hu
  ·exact h.cs j h1 h2 h3 v (by rwa [upd_other vals u e] at hv)
 ·rw[o 14 (by omega),o 15 (by omega),o 16 (by omega),o 19 (by omega)];exact h.st
 ·obtain⟨a,b,c⟩:=h.cl (by rwa [o 19 (by omega)] at h19);exact⟨neUpd a,neUpd b,neUpd c⟩
theorem OpC.mem (h:OpC V0 A1 A2 kb n K Q vals V)(hi:i=14\/i=15\/i=16\/i=19)(hu:i=14\/i=15->u=K i)(hs:(upd vals i u 14=.none/\upd vals i u 15=.none/\upd vals i u 16=.none/\upd vals i u 19=.none/\V'=V0)\/(upd vals i u 14≠.none/\upd vals i u 15=.none/\upd vals i u 16=.none/\upd vals i u 19=.none/\V'=A1)\/(upd vals i u 14≠.none/\upd vals i u 15≠.none/\upd vals i u 16=.none/\upd vals i u 19=.none/\V'=A2) \/
  (upd vals i u 14≠.none/\upd vals i u 15≠.none/\∃ g cap V3,upd vals i u 16=some (.slice (some ⟨g,0,.none⟩) (n+1) cap)/\Q g cap V3/\((upd vals i u 19=.none/\V'=V3)\/(upd vals i u 19≠.none/\V'=V3.setCell ⟨kb,8,.none⟩ (.slice (some ⟨g,0,.none⟩) (n+1) cap)))))
  (hc:i=19->vals 4≠.none/\vals 9≠.none/\vals 12≠.none):OpC V0 A1 A2 kb n K Q (upd vals i u) V':=by
 refine⟨fun j h1 h2 h3 v hv=>?_,hs,fun h19=>?_⟩
 ·by_cases e:j=i
  ·subst e;rw[upd_same] at hv;exact(Option.some.inj hv).symm.trans (hu (by omega))
  ·exact h.cs j h1 h2 h3 v (by rwa [upd_other vals u e] at hv)
 ·by_cases e:i=19
  ·obtain⟨a,b,c⟩:=hc e;exact⟨neUpd a,neUpd b,neUpd c⟩
  ·obtain⟨a,b,c⟩:=h.cl (by rwa [upd_other vals u (fun e2=>e e2.symm)] at h19);exact⟨neUpd a,neUpd b,neUpd c⟩
theorem OpC.box (h:OpC V0 A1 A2 kb n K Q vals V)(hn:vals 14=.none)(hu:u=K 14):V=V0/\OpC V0 A1 A2 kb n K Q (upd vals 14 u) A1:=by
 rcases h.st with ⟨_,b,c,d,e⟩ | ⟨a,_⟩ | ⟨a,_⟩ | ⟨a,_⟩
 ·refine⟨e,h.mem (Or.inl rfl) (fun _=>hu) (Or.inr (Or.inl ⟨by rw[upd_same];simp,?_,?_,?_,rfl⟩)) (fun e=>by cases e)⟩
  ·rw[upd_other vals u (by decide)];exact b
  ·rw[upd_other vals u (by decide)];exact c
  ·rw[upd_other vals u (by decide)];exact d
 ·exact absurd hn a
 ·exact absurd hn a
 ·exact absurd hn a
theorem OpC.built (h:OpC V0 A1 A2 kb n K Q vals V)(hn:vals 15=.none)(h14:vals 14≠.none)(hu:u=K 15):V=A1/\OpC V0 A1 A2 kb n K Q (upd vals 15 u) A2:=by
 rcases h.st with ⟨a,_⟩ | ⟨a,b,c,d,e⟩ | ⟨_,a,_⟩ | ⟨_,a,_⟩
 ·exact absurd a h14
 ·refine⟨e,h.mem (Or.inr (Or.inl rfl)) (fun _=>hu) (Or.inr (Or.inr (Or.inl ⟨?_,by rw[upd_same];simp,?_,?_,rfl⟩))) (fun e=>by cases e)⟩
  ·rw[upd_other vals u (by decide)];exact a
  ·rw[upd_other vals u (by decide)];exact c
  ·rw[upd_other vals u (by decide)];exact d
 ·exact absurd hn a
 ·exact absurd hn a
theorem OpC.app (h:OpC V0 A1 A2 kb n K Q vals V)(hn:vals 16=.none)(h15:vals 15≠.none):V=A2/\∀ g cap V3,Q g cap V3->OpC V0 A1 A2 kb n K Q (upd vals 16 (.slice (some ⟨g,0,.none⟩) (n+1) cap)) V3:=by
 rcases h.st with ⟨_,a,_⟩ | ⟨_,a,_⟩ | ⟨a,b,c,d,e⟩ | ⟨_,_,_,_,_,a,_⟩
 ·exact absurd a h15
 ·exact absurd a h15
 ·refine⟨e,fun g cap V3 hq=>h.mem (Or.inr (Or.inr (Or.inl rfl))) (fun e=>by omega) (Or.inr (Or.inr (Or.inr ⟨?_,?_,g,cap,V3,upd_same _ _ _,hq,Or.inl ⟨?_,rfl⟩⟩))) (fun e=>by cases e)⟩
  ·rw[upd_other vals _ (by decide)];exact a
  ·rw[upd_other vals _ (by decide)];exact b
  ·rw[upd_other vals _ (by decide)];exact d
 ·rw[hn] at a;cases a
theorem OpC.put (h:OpC V0 A1 A2 kb n K Q vals V)(hn:vals 19=.none)(h16:vals 16≠.none)(hc:vals 4≠.none/\vals 9≠.none/\vals 12≠.none):∃ g cap,vals 16=some (.slice (some ⟨g,0,.none⟩) (n+1) cap)/\Q g cap V/\OpC V0 A1 A2 kb n K Q (upd vals 19 undef) (V.setCell ⟨kb,8,.none⟩ (.slice (some ⟨g,0,.none⟩) (n+1) cap)):=by
 rcases h.st with ⟨_,_,a,_⟩ | ⟨_,_,a,_⟩ | ⟨_,_,a,_⟩ | ⟨a,b,g,cap,V3,d,hq,⟨_,rfl⟩ | ⟨e,_⟩⟩
 ·exact absurd a h16
 ·exact absurd a h16
 ·exact absurd a h16
 ·refine⟨g,cap,d,hq,h.mem (Or.inr (Or.inr (Or.inr rfl))) (fun e=>by omega) (Or.inr (Or.inr (Or.inr ⟨?_,?_,g,cap,_,?_,hq,Or.inr ⟨by rw[upd_same];simp,rfl⟩⟩))) (fun _=>hc)⟩
  ·rw[upd_other vals _ (by decide)];exact a
  ·rw[upd_other vals _ (by decide)];exact b
  ·rw[upd_other vals _ (by decide)];exact d
 ·exact absurd hn e
end
end Go.Proofs.YtdpdbfhbojgigacGreatDoor
