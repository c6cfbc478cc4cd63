/-
  Several texts as one: KeEnd, KeTick, KeCut, KeRnw, PlStep, ScDone.
-/
import Derived.Test.YtffpcbdlbcjihadGreatDoorP20S
import Derived.Deep.AppendLies
import Derived.Laws.MakeOwn
namespace Go.Proofs.YtffpcbdlbcjihadGreatDoor
open Go.RowKit Go.Extern.Stop Go.Stop Go.Extern
theorem Tryz.infoStrE:(Tryz.prog.info? 9).map (fun i=>(i.zero,i.size,i.bytes))=some (some (.string ⟨#[]⟩),1,16):=by kernel_rfl
structure KeLp (H0 H:Nat->Nat->Prop)(w0 w wr:World)(c:CfgD)(kb bc bd rb bt:Nat)(lv:Value)(bs:List Nat)(K:KSt)(kv:Value)(xs:List ByteArray):Prop where
 ke:KeIn H w0 wr c kb bc bd rb bt lv bs K
 hg:∀ i k,H i k->gr (fun k=>∃ i,H0 i k) w wr k
 off:Off (fun k=>∃ i,H0 i k) w wr
 own:SlOwn encS 1 9 w.heap.size wr kv xs
 no:∀ k,kv.ownBlock=some k->∀ i,¬H i k
section
variable {A:Nat->Addr}{H H0:Nat->Nat->Prop}{F:Nat->Prop}{w0 w w' wr wr':World}{c:CfgD}{kb bc bd rb bt:Nat}{lv kv:Value}{bs:List Nat}{K K':KSt}{k W:Nat}{xs:List ByteArray}
theorem KeLp.to (h:KeLp H0 H w0 w wr c kb bc bd rb bt lv bs K kv xs)(t:KeTo H w0 wr c kb bc bd rb bt lv bs K' wr'):∃ H',KeLp H0 H' w0 w wr' c kb bc bd rb bt lv bs K' kv xs:=by
 obtain⟨H1,t1,t2,t3⟩:=id t
 refine⟨H1,t1,fun i k hk=>?_,?_,SlOwn.same h.own (fun g hg=>t3.block g (h.own.lt g hg).2 (fun ⟨i,hi⟩=>h.no g hg i hi)),fun k hk i hi=>?_⟩
 ·rcases t2 i k hk with ⟨j,hj⟩ | ⟨a,b⟩
  ·exact(h.hg j k hj).imp id (fun ⟨a,b⟩=>⟨a,Nat.lt_of_lt_of_le b t3.size⟩)
  ·exact Or.inr ⟨Nat.le_trans h.off.size a,b⟩
 ·exact h.off.trans t3 (fun k hk ⟨i,hi⟩=>by
   rcases h.hg i k hi with a | ⟨a,_⟩
   ·exact a
   ·omega)
 ·rcases t2 i k hi with ⟨j,hj⟩ | ⟨a,_⟩
  ·exact h.no k hk j hj
  ·have:=(h.own.lt k hk).2;omega
theorem KeLp.below (h:KeLp H0 H w0 w wr c kb bc bd rb bt lv bs K kv xs)(hb:Below wr.heap.size wr wr'):KeLp H0 H w0 w wr' c kb bc bd rb bt lv bs K kv xs:=
 ⟨h.ke.below hb,fun i k hk=>(h.hg i k hk).imp id (fun ⟨a,b⟩=>⟨a,Nat.lt_of_lt_of_le b hb.size⟩),h.off.trans (Off.of_below hb _) (fun _ _ h=>h),h.own.below hb,h.no⟩
theorem KeLp.kt (h:KeLp H0 H w0 w wr c kb bc bd rb bt lv bs K kv xs):KeTo H0 w0 w c kb bc bd rb bt lv bs K wr:=⟨H,h.ke,h.hg,h.off⟩
theorem KeLp.more (h:KeLp H0 H w0 w wr c kb bc bd rb bt lv bs K kv xs)(hw:w0.heap.size<=w.heap.size){o:Obj}{y:ByteArray}{g cap n:Nat}(hn:xs.length+1=n)(hown:wr'.ownsRow w.heap.size 9 1 (.slice (some ⟨g,0,none⟩) n cap) n (xs.flatMap encS++[.string y]))(hg:(wr.alloc o).grownBy wr' kv.ownBlock)(hor:kv.ownBlock=some g\/g=wr.heap.size+1):KeLp H0 H w0 w wr' c kb bc bd rb bt lv bs K (.slice (some ⟨g,0,none⟩) n cap) (xs++[y]):=by
 have h1:=h.below (Below.one wr o);have hof:Off (fun k=>kv.ownBlock=some k) (wr.alloc o) wr':=⟨hg.os,hg.tape,hg.output,hg.size,fun k hk hn=>hg.block k hk (fun e=>hn e.symm)⟩;have hlt:∀ k,kv.ownBlock=some k->w.heap.size<=k:=fun k hk=>(h.own.lt k hk).1
 refine⟨h1.ke.off hof (fun i k hk e=>h.no k e i hk) (fun k hk=>Nat.le_trans hw (hlt k hk)),fun i k hk=>(h1.hg i k hk).imp id (fun ⟨a,b⟩=>⟨a,Nat.lt_of_lt_of_le b hof.size⟩),h1.off.trans hof (fun k hk e=>absurd (hlt k e) (by omega)),?_,fun k hk i hi=>?_⟩
 ·have e:(xs++[y]).flatMap encS=xs.flatMap encS++[.string y]:=by rw[List.flatMap_append];rfl
  show wr'.ownsRow _ _ _ _ _ _
  rw[e,List.length_append,List.length_singleton,hn];exact hown
 ·cases hk
  rcases hor with hor | hor
  ·exact h.no g hor i hi
  ·have:=h.ke.fam.lt i g hi;omega
theorem statsL_all {K:KSt}{n:Nat}(h:K.ls.length=n):statsL K n=K.ls.map fun s=>statB s.status:=by unfold statsL;rw[List.take_of_length_le (by omega)]
def KSt.fins (c:CfgD)(K:KSt):KSt × Nat:=if (K.ends c c.ents.length).2=0 then ((K.ends c c.ents.length).1.last,0) else K.ends c c.ents.length
theorem ke_tend (h:KeIn H w0 w c kb bc bd rb bt lv bs K)(hf:TFit K.t 20)(l:List ByteArray)(sa:Option Addr)(cap:Nat)(hl:∀ V,w.grownBy V (some bt)->SlAt encS 1 V (.slice sa l.length cap) l)(hn:l.length<=1000000) :
  Calls Tryz.prog 238 #[.pointer (some ⟨bt,0,none⟩),.slice sa l.length cap] w fun e w'=>(∃ y,e=.returned (.string y))/\KeIn (updH H 4 w w') w0 w' c kb bc bd rb bt lv bs { K with t:=K.t.fin l }/\Off (H 4) w w':=by
 refine(to_endG w0 w bt 20 K.t l sa cap h.to hf (by decide) hl hn).mono ?_;rintro e w' ⟨rfl,ht,hg⟩;have hof:Off (H 4) w w':=(Off.of_grown hg).mono (fun k _ e=>by rw[e];exact h.ht);exact⟨⟨_,rfl⟩,h.toTot hof ht.heap,hof⟩
theorem ke_feed (h:KeIn H w0 w c kb bc bd rb bt lv bs K)(cy:Int) :
  Calls Tryz.prog 240 #[.agg #[.pointer (some ⟨bd,0,none⟩),.int .i64 cy]] w fun e w'=>e=.returned .nilIface/\KeIn (updH H 3 w w') w0 w' c kb bc bd rb bt lv bs { K with d:=if K.d.isOpen=true then K.d.kick else K.d }/\Off (H 3) w w':=by
 refine(wd_feed cy h.dog).mono ?_;rintro e w' ⟨rfl,hd,ho⟩;have hof:Off (H 3) w w':=ho.mono (fun k _ e=>by rw[e];exact h.hd);exact⟨rfl,h.toDog hof hd,hof⟩
set_option maxHeartbeats 8000000 in
set_option maxRecDepth 100000 in
theorem ke_end (h:KeIn H w0 w c kb bc bd rb bt lv bs K)(hs:SenK A w0)(hr:KRt c)(hf:KFit c K k W)(hn:k+K.d.now<=900000)(hW:W+200<=1099511627776)(ho:K.c.off=false)(h1:1<=K.d.now)(hi:∀ s∈K.ls,LFit s (k+K.d.now - 1)) :
  Calls Tryz.prog 172 #[.pointer (some ⟨kb,0,none⟩)] w fun v w'=>v=.returned (errVal A (K.fins c).2)/\KeTo H w0 w c kb bc bd rb bt lv bs (K.fins c).1 w':=by
 obtain⟨i0,hi0,hz0,hz1,hz2⟩:=info_parts Tryz.infoStrE;have c5:w.cell? ⟨kb,5,none⟩=some lv:=h.cell 5 _ rfl;obtain⟨la,lc,rfl⟩:=ow_form h.own;rw[h.blen] at c5;have hN8:=hr.nn;obtain⟨W1,hmk,hown1,hg1⟩:=run_make_own (P:=Tryz.prog) w w.heap.size 22 9 i0 (.string ⟨#[]⟩) 1 Tryz.underlying22 hi0 hz0 hz1 .i64 .i64 c.ents.length (by rw[hz2];omega) (by unfold maxLen;omega) (Nat.le_refl _);have hb1:Below w.heap.size w W1:=⟨hg1.os,hg1.tape,hg1.output,hg1.size,fun k hk=>hg1.block k hk (by simp)⟩;have HL:Hid (KeLp H H w0 w W1 c kb bc bd rb bt (.slice la bs.length lc) bs K (.slice (some ⟨w.heap.size,0,none⟩) 0 c.ents.length) []):=⟨h.below hb1,fun i k hk=>Or.inl ⟨i,hk⟩,Off.of_below hb1 _,hown1,fun k hk i hi=>by cases hk;exact Nat.lt_irrefl _ (h.fam.lt i _ hi)⟩;have HW0:Hid (w0.heap.size<=w.heap.size):=h.bel.size;have HE:Hid (∀ n,KFit c (K.ends c n).1 k (W+18*n)/\((K.ends c n).2=0->(K.ends c n).1.c.off=false/\(K.ends c n).1.sp=false)/\(K.ends c n).1.d=K.d/\(K.ends c n).1.t=K.t/\∀ j,n<=j->(K.ends c n).1.ls[j]?=K.ls[j]?):=hf.ends ho hi h1;have HT2:Hid ((∀ s∈K.ls,LFit s (k+K.d.now - 1))/\1<=K.d.now/\k+K.d.now<=900000/\W+200<=1099511627776/\c.ents.length<=8):=⟨hi,h1,hn,hW,hr.nn⟩;have HTot:Hid (TFit K.t 20):=hf.tot;have HR:Hid (KRt c):=hr;have HSv:Hid _:=hs;have hbl:=h.blen;rw[hbl] at HL ⊢;have c5':W1.cell? ⟨kb,5,none⟩=some (.slice la c.ents.length lc):=cell_below hb1 c5;clear h hs hr hf hn hW ho h1 hi hown1 hg1 hb1 hbl;go_enter Tryz.func172,Tryz.ntmps172
 go_upto_region 1 with fail
 go_cut [3] (fun kv wx=>kv=.slice (some ⟨w.heap.size,0,none⟩) 0 c.ents.length/\wx=W1)
 case first=>
  go_wp2_with fail
  go_meet
  case rel=>exact⟨rfl,rfl⟩
 obtain⟨rfl,rfl⟩:=hcut;clear hmk c5;rename World=>W1
 go_upto_region 2 with fail
 go_cut [16,17,18] (fun l n i wx=>l=.slice la c.ents.length lc/\n=.int .i64 (c.ents.length:Int)/\i=.int .i64 0/\wx=W1)
 case first=>
  go_wp2_with fail
  go_meet
  case rel=>exact⟨rfl,rfl,rfl,rfl⟩
 obtain⟨rfl,rfl,rfl,rfl⟩:=hcut;clear c5';go_wp2_with fail
 go_loopw [3,4,5,6,18] (fun kv _ _ _ i wr=>∃ n:Nat,n<=c.ents.length/\i=.int .i64 n/\(K.ends c n).2=0/\∃ H1,KeLp H H1 w0 w wr c kb bc bd rb bt (.slice la c.ents.length lc) bs (K.ends c n).1 kv (statsL (K.ends c n).1 n)) (fun _ _ _ _ i _=>c.ents.length - (intOf i).toNat)
 case atStart=>exact⟨0,Nat.zero_le _,rfl,rfl,_,HL.out⟩
 case round=>
  clear HL;obtain⟨n,hnl,rfl,h0,H1,L⟩:=hrel;have hsl:(statsL (K.ends c n).1 n).length=n:=by unfold statsL;rw[List.length_map,List.length_take,L.ke.llen];omega
  obtain⟨ka,kc,hkv⟩:=ow_form L.own;rw[hsl] at hkv;subst hkv;have HSl:Hid ((statsL (K.ends c n).1 n).length=n):=hsl;clear hsl
  by_cases hlt:n < c.ents.length
  ·have hlen:(K.ends c n).1.ls.length=c.ents.length:=L.ke.llen;obtain⟨s,hs⟩:∃ s,(K.ends c n).1.ls[n]?=some s:=⟨_,List.getElem?_eq_getElem (by omega)⟩;obtain⟨b,e,g,cap,hb,he,hlv,cp,h4⟩:=L.ke.locAt hs;rw[hlen] at hlv;simp only[Value.slice.injEq,true_and] at hlv;obtain⟨rfl,rfl⟩:=hlv;obtain⟨f1,f2,f3,f4,f5⟩:=HE.out n;have f2':=f2 h0;have hT2:=HT2.out;have HX:Hid _:=ke_endOf (A:=A) n b L.ke HSv.out HR.out f1 (by rw[f3];exact hT2.2.2.1) (by omega) f2'.1 (by rw[f3];exact hT2.2.1) (by rw[f3];exact hT2.1 s (by rw[f5 n (Nat.le_refl _)] at hs;exact List.mem_of_getElem? hs)) hs hb he (by omega);have HStep:Hid (K.ends c (n+1)=(K.ends c n).1.endOne c n):=by
    show (if (K.ends c n).2=0 then (K.ends c n).1.endOne c n else K.ends c n)=_
    rw[if_pos h0]
   have hst:=ends_step c K n h0 hs he;have HLs:Hid ((K.ends c (n+1)).1.ls[n]?=some (s.fin e)/\statsL (K.ends c (n+1)).1 (n+1)=statsL (K.ends c n).1 n++[statB (s.fin e).status]):=by
    have hls:(K.ends c (n+1)).1.ls=((K.ends c n).1.setL n (s.fin e)).ls:=by
     rw[hst]
     split
     ·rw[app_ls]
     ·rfl
    refine⟨?_,?_⟩
    ·rw[hls];show (List.set _ _ _)[n]?=_
     rw[List.getElem?_set_self (by omega)]
    ·rw[<- stats_set (s:=s.fin e) (by omega:n < (K.ends c n).1.ls.length)];unfold statsL;rw[hls]
   rw[<- HStep.out] at HX;have HBE:Hid (bs[n]?=some b/\c.ents[n]?=some e):=⟨hb,he⟩;have HL:Hid _:=L;have k1:(n:Int) < (c.ents.length:Int):=by omega
   have k2:n < 8:=by omega
   clear L hb he h4 hs hlen f1 f2 f3 f4 f5 f2' hT2 hst;go_wp2_with fail
   refine Calls.mono HX.out ?_;rintro u w3 ⟨rfl,hto⟩;obtain⟨H3,L3⟩:=HL.out.to hto
   by_cases hc0:(K.ends c (n+1)).2=0
   ·rw[hc0,show errVal A 0=.nilIface from rfl];have HSt:Hid _:=los_status (L3.ke.loc n b e (s.fin e) HBE.out.1 HBE.out.2 HLs.out.1);have hO5:w3.ownsRow w.heap.size 9 1 (.slice ka n kc) n ((statsL (K.ends c n).1 n).flatMap encS):=by
     have:w3.ownsRow w.heap.size 9 1 (.slice ka n kc) (statsL (K.ends c n).1 n).length ((statsL (K.ends c n).1 n).flatMap encS):=L3.own;rwa [HSl.out] at this
    have hz3:w.heap.size<=w3.heap.size:=L3.off.size;have HL3:Hid _:=L3;have HO5:Hid _:=hO5;obtain⟨y,hy⟩:∃ y,y=statB (s.fin e).status:=⟨_,rfl⟩;have HY:Hid (y=statB (s.fin e).status):=hy;rw[<- hy] at HSt;clear hy L3 hO5 hto HX;go_wp2_with fail
    refine Calls.mono HSt.out ?_;rintro u w5 ⟨rfl,rfl⟩;go_wp2_with (at_builtin;refine wpList_append_lies _ rfl _ _ 22 rfl w.heap.size 9 i0 (.string ⟨#[]⟩) 1 16 Tryz.underlying22 hi0 hz0 hz1 hz2 rfl (by decide) (.slice ka n kc) n ((statsL (K.ends c n).1 n).flatMap encS) rfl (World.ownsRow.alloc HO5.out _) ⟨w5.heap.size,0,none⟩ 1 1 [.string y] rfl rfl (ce_at w5 [.string y] 9) (fun u hu=>by rw[List.mem_singleton] at hu;subst hu;rfl) (by decide) (by unfold maxLen;omega) (by omega) (by simp;omega) (w5.heap.size+1) (by simp) ?_;intro gg cc w12 hown hg hor hlt12)
    have L5:=HL3.out.more HW0.out (by rw[HSl.out]) hown hg hor;have HL5:Hid _:=L5;clear L5 hown hg hor hlt12 HO5 HSt cp;go_roundw
    case rel=>exact⟨n+1,by omega,by go_num,hc0,H3,by rw[HLs.out.2,<- HY.out];exact HL5.out⟩
    case measure=>simp[intOf];omega
   ·obtain⟨j,hj⟩:=errVal_pos (A:=A) hc0;have HEnd:Hid (K.fins c=K.ends c (n+1)):=by
     show _=_
     have:=ends_stop c K hc0 (n:=c.ents.length) (by omega);unfold KSt.fins;rw[this,if_neg hc0]
    have HJ:Hid _:=hj;rw[hj];have HK3:Hid _:=L3.kt;clear L3 hto hj HX cp;go_wp2;go_ret;rw[HEnd.out,HJ.out];exact⟨rfl,HK3.out⟩
  ·obtain rfl:n=c.ents.length:=by omega
   have k1:¬(c.ents.length:Int) < (c.ents.length:Int):=by omega
   obtain⟨f1,f2,f3,f4,f5⟩:=HE.out c.ents.length;have hlen:(K.ends c c.ents.length).1.ls.length=c.ents.length:=L.ke.llen;have hall:=statsL_all hlen;have e6:wr.cell? ⟨kb,6,none⟩=some (.pointer (some ⟨bt,0,none⟩)):=L.ke.cell 6 _ rfl;have hown:=L.own;have hno:=L.no;have HX:Hid _:=ke_tend L.ke f1.tot (statsL (K.ends c c.ents.length).1 c.ents.length) ka kc (fun V hV=>by
    rw[HSl.out];have:SlOwn encS 1 9 w.heap.size V (.slice ka c.ents.length kc) (statsL (K.ends c c.ents.length).1 c.ents.length):=SlOwn.same hown (fun g hg=>hV.block g (hown.lt g hg).2 (fun e=>hno g hg 4 (by have:=Option.some.inj e;rw[this];exact L.ke.ht)));exact this.slat (fun _=>rfl)) (by rw[HSl.out];omega)
   rw[HSl.out] at HX;have HL:Hid _:=L;have HFin:Hid (K.fins c=((K.ends c c.ents.length).1.last,0)):=by show _=_;unfold KSt.fins;rw[if_pos h0]
   have HTl:Hid (statsL (K.ends c c.ents.length).1 c.ents.length=(K.ends c c.ents.length).1.ls.map fun s=>statB s.status):=hall;have HT3:Hid (((K.ends c c.ents.length).1.t.fin (statsL (K.ends c c.ents.length).1 c.ents.length)).st<=3):=(f1.tot.fin20 _).st;clear L hown hno f1 f2 f3 f4 f5 hlen hall;go_wp2_with fail
   refine Calls.mono HX.out ?_;rintro u w3 ⟨⟨y,rfl⟩,hk3,hof3⟩;have e6':w3.cell? ⟨kb,6,none⟩=some (.pointer (some ⟨bt,0,none⟩)):=hk3.cell 6 _ rfl;have e0:w3.cell? ⟨kb,0,none⟩=some (.pointer (some ⟨bd,0,none⟩)):=hk3.cell 0 _ rfl;have e1:w3.cell? ⟨kb,1,none⟩=some (.int .i64 c.cycle):=hk3.cell 1 _ rfl;have HMay:Hid _:=to_may hk3.to HT3.out;have HK3:Hid (KeTo H w0 w c kb bc bd rb bt (.slice la c.ents.length lc) bs _ w3):=KeTo.trans HL.out.hg HL.out.off (KeTo.one hof3 hk3);have HFd:Hid _:=ke_feed hk3 c.cycle;have HK4:Hid (∀ w4,Off (updH H1 4 wr w3 3) w3 w4->KeIn (updH (updH H1 4 wr w3) 3 w3 w4) w0 w4 c kb bc bd rb bt (.slice la c.ents.length lc) bs { ({ (K.ends c c.ents.length).1 with t:=(K.ends c c.ents.length).1.t.fin (statsL (K.ends c c.ents.length).1 c.ents.length) }:KSt) with d:=if (K.ends c c.ents.length).1.d.isOpen=true then (K.ends c c.ents.length).1.d.kick else (K.ends c c.ents.length).1.d }->KeTo H w0 w c kb bc bd rb bt (.slice la c.ents.length lc) bs { ({ (K.ends c c.ents.length).1 with t:=(K.ends c c.ents.length).1.t.fin (statsL (K.ends c c.ents.length).1 c.ents.length) }:KSt) with d:=if (K.ends c c.ents.length).1.d.isOpen=true then (K.ends c c.ents.length).1.d.kick else (K.ends c c.ents.length).1.d } w4):=fun w4 hof4 hk4=>by
    have t1:KeTo H1 w0 wr c kb bc bd rb bt (.slice la c.ents.length lc) bs _ w4:=KeTo.trans (H1:=updH H1 4 wr w3) (updH_all (fun i _ hk=>⟨i,hk⟩) 4) (Off.all (fun i _ hk=>⟨i,hk⟩) hof3) (KeTo.one hof4 hk4);exact KeTo.trans HL.out.hg HL.out.off t1
   clear hk3 hof3 HX e6 HL;generalize hK1:(K.ends c c.ents.length).1=K1 at HMay HK3 HFd HK4 HFin HTl HT3;generalize hl:statsL K1 c.ents.length=l at HMay HK3 HFd HK4 HTl HT3;clear hl hK1
   by_cases h3:(K1.t.fin l).st=3
   ·have HM:Hid (decide ((K1.t.fin l).st≠3)=false):=decide_eq_false (fun e=>e h3);have HLast:Hid (K1.last={ K1 with t:=K1.t.fin l }):=by
     show _=_
     unfold KSt.last;simp only[<- HTl.out];rw[if_neg (fun e=>e.1 h3)]
    rw[HM.out] at HMay;go_wp2_with fail
    refine Calls.mono HMay.out ?_;rintro u w4 ⟨rfl,rfl⟩;go_wp2;go_ret;rw[HFin.out,HLast.out];exact⟨rfl,HK3.out⟩
   ·have HM:Hid (decide ((K1.t.fin l).st≠3)=true):=decide_eq_true h3;have HLast:Hid (K1.last={ ({ K1 with t:=K1.t.fin l }:KSt) with d:=if K1.d.isOpen=true then K1.d.kick else K1.d }):=by
     show _=_
     unfold KSt.last;simp only[<- HTl.out]
     cases ho:K1.d.isOpen
     ·rw[if_neg (fun e=>by cases e.2)];rfl
     ·rw[if_pos ⟨h3,rfl⟩];rfl
    rw[HM.out] at HMay;go_wp2_with fail
    refine Calls.mono HMay.out ?_;rintro u w4 ⟨rfl,rfl⟩;go_wp2_with fail
    refine Calls.mono HFd.out ?_;rintro u w5 ⟨rfl,hk5,hof5⟩;go_wp2;go_ret;rw[HFin.out,HLast.out];exact⟨rfl,HK4.out w5 hof5 hk5⟩
end
section
variable {A:Nat->Addr}{H:Nat->Nat->Prop}{F:Nat->Prop}{w0 w w':World}{c:CfgD}{kb bc bd rb bt:Nat}{lv:Value}{bs:List Nat}{K:KSt}{k W:Nat}
theorem ke_step (h:KeIn H w0 w c kb bc bd rb bt lv bs K)(hs:SenK A w0)(hr:KRt c)(hre:K.d.reset=false)(hn:K.d.now < 1099511627776) :
  Calls Tryz.prog 171 #[.agg #[.pointer (some ⟨bd,0,none⟩),.int .i64 c.cycle]] w fun e w'=>e=wdOut A K.d c.cycle.toNat/\KeIn (updH H 3 w w') w0 w' c kb bc bd rb bt lv bs K.ticked/\Off (H 3) w w':=by
 have hcy:=hr.cy;have h1:=wd_step (A:=A) c.cycle.toNat h.dog hre hn (by omega) hs h.bel (h.fam.lo 3 bd h.hd);rw[show ((c.cycle.toNat:Nat):Int)=c.cycle by omega] at h1
 refine h1.mono ?_;rintro e w' ⟨rfl,hd,ho⟩;have hof:Off (H 3) w w':=ho.mono (fun k _ e=>by rw[e];exact h.hd);exact⟨rfl,h.toDog hof hd,hof⟩
theorem tick_fins (c:CfgD)(K:KSt)(ho:K.on=0)(hre:K.ticked.d.reset=false)(hm:K.ticked.d.now % c.cycle.toNat=0):K.tick c=K.ticked.fins c:=by
 unfold KSt.tick KSt.fins;rw[if_neg (by omega),if_neg (by rw[hre];simp),if_neg (by omega)]
set_option maxHeartbeats 2000000 in
theorem ke_tick (h:KeAt F w0 w c kb bc K)(hs:SenK A w0)(hr:KRt c)(hf:KFit c K k (144*K.d.now))(hn:k+K.d.now+1<=900000) :
  Calls Tryz.prog 112 #[.pointer (some ⟨kb,0,none⟩)] w fun e w'=>e=.returned (errVal A (K.tick c).2)/\KePost F w0 w c kb bc (K.tick c).1 w':=by
 have HS:Hid (KePost F w0 w c kb bc K w):=KePost.same h;obtain⟨H,bd,rb,bt,lv,bs,h1,hF⟩:=h;have HC:Hid _:=ke_ready h1 hs
 by_cases ho:K.on=0
 ·rw[ho,show errVal A 0=.nilIface from rfl] at HC;obtain⟨o1,o2⟩:=KSt.on_zero.1 ho;have c0:w.cell? ⟨kb,0,none⟩=some (.pointer (some ⟨bd,0,none⟩)):=h1.cell 0 _ rfl;have c1:w.cell? ⟨kb,1,none⟩=some (.int .i64 c.cycle):=h1.cell 1 _ rfl;have HX:Hid _:=ke_step h1 hs hr o2 (by omega);have HF:Hid _:=hF;have HR:Hid _:=hr;have HSv:Hid _:=hs;have HFit:Hid (KFit c K.ticked k (144*K.d.now)/\(∀ s∈K.ticked.ls,LFit s (k+K.ticked.d.now - 1))/\1<=K.ticked.d.now/\K.ticked.c.off=false/\k+K.ticked.d.now<=900000):=by
   obtain⟨t1,t2,t3⟩:=hf.ticked (by omega);exact⟨t1,t2,t3,o1,by show k+(K.d.now+1)<=900000;omega⟩
  cases hre:K.ticked.d.reset
  ·by_cases hm:K.ticked.d.now % c.cycle.toNat=0
   ·have HB:Hid (K.tick c=K.ticked.fins c):=tick_fins c K ho hre hm;have e:wdOut A K.d c.cycle.toNat=.returned (.tuple #[.bool true,.nilIface]):=by
     unfold wdOut;rw[show K.d.tick.reset=false from hre,decide_eq_true (show K.d.tick.now % c.cycle.toNat=0 from hm)];rfl
    rw[e] at HX;clear h1 hs hr hf hn ho hre hm e o1 o2 hF HS;go_enter Tryz.func112,Tryz.ntmps112
    go_wp2_with fail
    refine Calls.mono HC.out ?_;rintro u w2 ⟨rfl,rfl⟩;go_wp2_with fail
    refine Calls.mono HX.out ?_;rintro u w3 ⟨rfl,hk3,hof3⟩;have HE:Hid _:=ke_end hk3 HSv.out HR.out HFit.out.1 HFit.out.2.2.2.2 (by have:=HFit.out.2.2.2.2;have e:K.ticked.d.now=K.d.now+1:=rfl;omega) HFit.out.2.2.2.1 HFit.out.2.2.1 HFit.out.2.1;have HO3:Hid _:=hof3;clear hk3 hof3 HX HC;go_wp2_with fail
    refine Calls.mono HE.out ?_;rintro u w4 ⟨rfl,hto⟩;go_wp2;go_ret;rw[HB.out];exact⟨rfl,(KeTo.trans (updH_all (fun i _ hk=>⟨i,hk⟩) 3) (Off.all (fun i _ hk=>⟨i,hk⟩) HO3.out) hto).post HF.out⟩
   ·have HB:Hid (K.tick c=(K.ticked,0)):=by show _=_;unfold KSt.tick;rw[if_neg (by omega),if_neg (by rw[hre];simp),if_pos hm]
    have e:wdOut A K.d c.cycle.toNat=.returned (.tuple #[.bool false,.nilIface]):=by
     unfold wdOut;rw[show K.d.tick.reset=false from hre,decide_eq_false (show ¬K.d.tick.now % c.cycle.toNat=0 from hm)];rfl
    rw[e] at HX;clear h1 hs hr hf hn ho hre hm e o1 o2 hF HS;go_enter Tryz.func112,Tryz.ntmps112
    go_wp2_with fail
    refine Calls.mono HC.out ?_;rintro u w2 ⟨rfl,rfl⟩;go_wp2_with fail
    refine Calls.mono HX.out ?_;rintro u w3 ⟨rfl,hk3,hof3⟩;go_wp2;go_ret;rw[HB.out];exact⟨rfl,KeIn.post HF.out hof3 hk3⟩
  ·have HB:Hid (K.tick c=(K.ticked,11)):=by show _=_;unfold KSt.tick;rw[if_neg (by omega),if_pos hre]
   have e:wdOut A K.d c.cycle.toNat=.returned (.tuple #[.bool false,.iface 400 (.pointer (some (A 10)))]):=by
    unfold wdOut;rw[show K.d.tick.reset=true from hre];rfl
   rw[e] at HX;clear h1 hs hr hf hn ho hre e o1 o2 hF HS;go_enter Tryz.func112,Tryz.ntmps112
   go_wp2_with fail
   refine Calls.mono HC.out ?_;rintro u w2 ⟨rfl,rfl⟩;go_wp2_with fail
   refine Calls.mono HX.out ?_;rintro u w3 ⟨rfl,hk3,hof3⟩;go_wp2;go_ret;rw[HB.out];exact⟨rfl,KeIn.post HF.out hof3 hk3⟩
 ·have HB:Hid (K.tick c=(K,K.on)):=by show _=_;unfold KSt.tick;rw[if_pos ho]
  obtain⟨j,hj⟩:=errVal_pos (A:=A) ho;have HJ:Hid _:=hj;rw[hj] at HC;clear h1 hF ho hs hj hr hf hn;go_enter Tryz.func112,Tryz.ntmps112
  go_wp2_with fail
  refine Calls.mono HC.out ?_;rintro u w2 ⟨rfl,rfl⟩;go_wp2;go_ret;rw[HB.out,HJ.out];exact⟨rfl,HS.out⟩
end
section
variable {A:Nat->Addr}{F:Nat->Prop}{w0 w w':World}{c:CfgD}{kb bc:Nat}{K:KSt}
theorem ke_cut (n:Int)(h:KeAt F w0 w c kb bc K)(hs:SenK A w0) :
  Calls Tryz.prog 59 #[.pointer (some ⟨bc,0,none⟩),.int .i64 n] w fun e w'=>e=.returned (errVal A (K.cut n).2)/\KePost F w0 w c kb bc (K.cut n).1 w':=by
 obtain⟨H,bd,rb,bt,lv,bs,h1,hF⟩:=h
 refine(rgs_cut (A:=A) h1.ring (h1.senv hs).four n).mono ?_;rintro e w' ⟨rfl,h2,h3⟩;have h4:=h1.toRing h3 h2;have e1:(K.cut n).1={ K with c:=(K.cut n).1.c,L:=(K.cut n).1.L,sp:=(K.cut n).1.sp }:=by
  unfold KSt.cut
  split
  ·rfl
  ·split <;> rfl
 rw[<- e1] at h4;exact⟨rfl,KeIn.post hF h3 h4⟩
end
structure KeHd (H:Nat->Nat->Prop)(w0 w:World)(c:CfgD)(kb bc bd:Nat)(rv tv lv:Value)(bs:List Nat)(s:CSt)(d:DSt)(ls:List LSt):Prop where
 fam:Fam H w0.heap.size w
 row:w.heap[kb]?=some (.cells (keRow c bd bc rv lv tv) 177 (0,0))
 hk:H 0 kb
 own:SlOwn encB 1 178 w0.heap.size w lv bs
 hl:∀ k,lv.ownBlock=some k->H 1 k
 cells:CellsAt w bc s
 hc:H 2 bc
 dog:DogAt w bd d
 hd:H 3 bd
 loc:∀ i b e s,bs[i]?=some b->c.ents[i]?=some e->ls[i]?=some s->LoS (H (5+i)) w b e s
 blen:bs.length=ls.length
 bel:Below w0.heap.size w0 w
section
variable {A:Nat->Addr}{H:Nat->Nat->Prop}{F:Nat->Prop}{w0 w w' w1 w2:World}{c:CfgD}{kb bc bd rb bt:Nat}{rv tv lv:Value}{bs:List Nat}{s:CSt}{d:DSt}{ls:List LSt}{K:KSt}{k W:Nat}
theorem KeIn.hd' (h:KeIn H w0 w c kb bc bd rb bt lv bs K):KeHd H w0 w c kb bc bd (.pointer (some ⟨rb,0,none⟩)) (.pointer (some ⟨bt,0,none⟩)) lv bs K.c K.d K.ls:=
 ⟨h.fam,h.row,h.hk,h.own,h.hl,h.ring.cells,h.ring.fc,h.dog,h.hd,h.loc,by rw[h.blen,h.llen],h.bel⟩
theorem KeHd.cell (h:KeHd H w0 w c kb bc bd rv tv lv bs s d ls)(j:Nat)(u:Value)(hu:(keRow c bd bc rv lv tv)[j]?=some u):w.cell? ⟨kb,j,none⟩=some u:=by
 simp[World.cell?,h.row,hu]
theorem KeHd.below (h:KeHd H w0 w c kb bc bd rv tv lv bs s d ls)(hb:Below w.heap.size w w'):KeHd H w0 w' c kb bc bd rv tv lv bs s d ls:=
 ⟨h.fam.grow hb.size,row_below hb h.row,h.hk,h.own.below hb,h.hl,h.cells.below hb,h.hc,h.dog.below hb,h.hd,fun i b e s h1 h2 h3=>(h.loc i b e s h1 h2 h3).same (fun k hk=>hb.block k (h.fam.lt _ k hk)) hb.size,h.blen,h.bel.trans (hb.mono h.bel.size)⟩
theorem KeHd.laid {L:List Rec}{t:TSt}(h:KeHd H w0 w c kb bc bd rv tv lv bs s d ls)(hlen:ls.length=c.ents.length)(hb1:Below w.heap.size w w1)(hr:RgS (fun k=>k=bc\/(w.heap.size<=k/\k < w1.heap.size)) w0.heap.size w1 rb bc s L false)(ht:ToIn w1 w2 bt t)
  (hW:w'=(w2.setCell ⟨kb,4,none⟩ (.pointer (some ⟨rb,0,none⟩))).setCell ⟨kb,6,none⟩ (.pointer (some ⟨bt,0,none⟩))) :
  KeIn (updH (updH H 2 w w1) 4 w1 w2) w0 w' c kb bc bd rb bt lv bs ⟨s,d,L,false,ls,t⟩/\Off (fun k=>k=kb) w w'/\w2.heap.size=w'.heap.size:=by
 have hb2:Below w1.heap.size w1 w2:=ht.bel;have hb12:Below w.heap.size w w2:=hb1.trans (hb2.mono hb1.size);have h2:=h.below hb12;have hz:w2.heap.size=w'.heap.size:=by rw[hW];simp[World.setCell]
 have hof:Off (fun k=>k=kb) w2 w':=by rw[hW];exact Off.of_grown ((grown_setCell _ _ _ _).trans (grown_setCell _ _ _ _))
 have hf1:Fam (updH H 2 w w1) w0.heap.size w1:=h.fam.upd hb1.size h.bel.size 2;have hf2:Fam (updH (updH H 2 w w1) 4 w1 w2) w0.heap.size w2:=hf1.upd hb2.size (Nat.le_trans h.bel.size hb1.size) 4;have hf3:Fam (updH (updH H 2 w w1) 4 w1 w2) w0.heap.size w':=hf2.grow (by omega);have up:∀ i k,H i k->updH (updH H 2 w w1) 4 w1 w2 i k:=fun i k hk=>Or.inl (Or.inl hk)
 have hk2:=up 0 kb h.hk;have no:∀ i k,i≠0->updH (updH H 2 w w1) 4 w1 w2 i k->k≠kb:=fun i k hi hk e=>by rw[e] at hk;exact hi (hf2.dis i 0 kb hk hk2)
 have same:∀ i k,i≠0->updH (updH H 2 w w1) 4 w1 w2 i k->w'.heap[k]?=w2.heap[k]?:=fun i k hi hk=>hof.block k (hf2.lt i k hk) (no i k hi hk)
 have hbt:updH (updH H 2 w w1) 4 w1 w2 4 bt:=Or.inr ⟨rfl,ht.lo,lt_of_row ht.heap⟩;have hkw:kb < w.heap.size:=lt_of_row h.row
 refine⟨⟨hf3,?_,hk2,SlOwn.same h2.own (fun g hg=>same 1 g (by decide) (up 1 g (h.hl g hg))),fun k hk=>up 1 k (h.hl k hk),?_,h2.dog.off hof (no 3 bd (by decide) (up 3 bd h.hd)),up 3 bd h.hd,(same 4 bt (by decide) hbt).trans ht.heap,hbt,fun i b e s' h3 h4 h5=>?_,?_,hlen,?_⟩,?_,hz⟩
 ·rw[hW];exact row_put (row_put h2.row _) _
 ·have r2:=hr.off (Off.of_below hb2 (fun _=>False)) (fun _ _ e=>e);have r3:RgS (updH (updH H 2 w w1) 4 w1 w2 2) w0.heap.size w2 rb bc s L false:=r2.grow (fun k hk=>by
   rcases hk with rfl | hk
   ·exact up 2 k h.hc
   ·exact Or.inl (Or.inr ⟨rfl,hk⟩)) (fun k hk=>hf2.lt 2 k hk)
  exact r3.off hof (fun k hk=>no 2 k (by decide) hk)
 ·exact((h2.loc i b e s' h3 h4 h5).grow (fun k hk=>up _ k hk) (fun k hk=>hf2.lt _ k hk)).same (fun k hk=>same (5+i) k (by omega) hk) (by omega)
 ·rw[h.blen,hlen]
 ·exact Off.below h2.bel hof h2.bel.size (fun k hk=>by rw[hk];exact h.fam.lo 0 kb h.hk)
 ·exact(Off.of_below hb12 _).trans hof (fun _ _ e=>e)
def stopN (ls:List LSt)(n:Nat):List LSt:=(ls.take n).map LSt.stop++ls.drop n
theorem stopN_at {ls:List LSt}{n:Nat}{s:LSt}(h:ls[n]?=some s):(stopN ls n)[n]?=some s/\(stopN ls n).set n s.stop=stopN ls (n+1):=by
 have hn:n < ls.length:=(List.getElem?_eq_some_iff.1 h).1;have hl:((ls.take n).map LSt.stop).length=n:=by rw[List.length_map,List.length_take];omega
 have hd:ls.drop n=s :: ls.drop (n+1):=by
  rw[List.drop_eq_getElem_cons hn];rw[List.getElem?_eq_getElem hn] at h;rw[Option.some.inj h]
 unfold stopN
 refine⟨?_,?_⟩
 ·rw[List.getElem?_append_right (by omega),hl,Nat.sub_self,hd];rfl
 ·rw[List.set_append_right _ _ (by omega),hl,Nat.sub_self,hd,List.take_add_one,h,List.map_append];simp
theorem stopN_len (ls:List LSt)(n:Nat):(stopN ls n).length=ls.length:=by
 unfold stopN;rw[List.length_append,List.length_map,List.length_take,List.length_drop];omega
theorem stopN_all (ls:List LSt):∀ s∈stopN ls ls.length,s.act=false:=by
 intro s hs;unfold stopN at hs;rw[List.take_length,List.drop_length,List.append_nil,List.mem_map] at hs;obtain⟨x,-,rfl⟩:=hs;rfl
theorem KeIn.idle (h:KeIn H w0 w c kb bc bd rb bt lv bs K)(ls:List LSt)(hl:ls.length=c.ents.length)(h1:∀ s∈K.ls,s.act=false)(h2:∀ s∈ls,s.act=false):KeIn H w0 w c kb bc bd rb bt lv bs { K with ls:=ls }:=
 ⟨h.fam,h.row,h.hk,h.own,h.hl,h.ring,h.dog,h.hd,h.tot,h.ht,fun i b e s hb he hs=>by
  obtain⟨s0,hs0⟩:∃ s0,K.ls[i]?=some s0:=⟨_,List.getElem?_eq_getElem (by rw[h.llen];exact(List.getElem?_eq_some_iff.1 he).1)⟩;exact(h.loc i b e s0 hb he hs0).idle (h1 s0 (List.mem_of_getElem? hs0)) (h2 s (List.mem_of_getElem? hs)),h.blen,hl,h.bel⟩
def KeRn (H:Nat->Nat->Prop)(w0 w:World)(c:CfgD)(kb bc bd:Nat)(lv:Value)(bs:List Nat)(K:KSt)(w':World):Prop:=
 ∃ H' rb bt,KeIn H' w0 w' c kb bc bd rb bt lv bs K/\(∀ i k,H' i k->gr (fun k=>∃ i,H i k) w w' k)/\Off (fun k=>∃ i,H i k) w w'
set_option maxHeartbeats 4000000 in
set_option maxRecDepth 100000 in
theorem ke_renew (h:KeHd H w0 w c kb bc bd rv tv lv bs s d ls)(hs:SenK A w0)(hr:KRt c)(hlen:ls.length=c.ents.length)(hbig:153<=s.size)(hoff:s.off=false) :
  Calls Tryz.prog 107 #[.pointer (some ⟨kb,0,none⟩)] w fun e w'=>e=.returned .nilIface/\KeRn H w0 w c kb bc bd lv bs (KSt.opened c ⟨s,d,[],false,[],TSt.new 0⟩) w':=by
 obtain⟨la,lc,rfl⟩:=ow_form h.own;have hbl:bs.length=c.ents.length:=by rw[h.blen,hlen]
 rw[hbl] at h ⊢;have c2:w.cell? ⟨kb,2,none⟩=some (.pointer (some ⟨bc,0,none⟩)):=h.cell 2 _ rfl;obtain⟨de,hde⟩:∃ de:Nat,c.delay=(de:Int):=⟨c.delay.toNat,by have:=hr.de;omega⟩;have hde20:de<=20:=by have:=hr.de;omega
 have c3:w.cell? ⟨kb,3,none⟩=some (.int .i64 (de:Int)):=by rw[<- hde];exact h.cell 3 _ rfl
 have HX:Hid _:=rgs_open (A:=A) (D:=w0.heap.size) h.cells (hs.below h.bel).four hbig hoff h.bel.size;have HH:Hid _:=h;have HSv:Hid _:=hs;have HN:Hid (ls.length=c.ents.length/\c.ents.length<=8/\c.delay.toNat=de):=⟨hlen,hr.nn,by omega⟩;have HT:Hid (∀ V,Calls Tryz.prog 167 #[.int .i64 (de:Int)] V fun v w'=>∃ b,v=.returned (.tuple #[.pointer (some ⟨b,0,none⟩),.nilIface])/\ToIn V w' b (TSt.new de)):=fun V=>to_new de V hde20
 clear h hs hr hlen hbig hoff hde hde20;go_enter Tryz.func107,Tryz.ntmps107
 go_wp2_with fail
 refine Calls.mono HX.out ?_;rintro u w1 ⟨rb,rfl,hr1,hb1⟩;have e3:=cell_below hb1 c3;have HR1:Hid _:=hr1;have HB1:Hid _:=hb1;clear hr1 hb1 HX c2 c3;go_wp2_with fail
 refine Calls.mono (HT.out w1) ?_;rintro u w2 ⟨bt,rfl,ht2⟩;have HT2:Hid _:=ht2;have hb12:Below w.heap.size w w2:=HB1.out.trans (ht2.bel.mono HB1.out.size);have h2:=HH.out.below hb12;have e4:w2.cell? ⟨kb,4,none⟩=some rv:=h2.cell 4 _ rfl;have e6:w2.cell? ⟨kb,6,none⟩=some tv:=h2.cell 6 _ rfl;have q4:∀ j,w2.frozen? ⟨kb,j,none⟩=false:=fun j=>by simp[World.frozen?,h2.row]
 have e6':(w2.setCell ⟨kb,4,none⟩ (.pointer (some ⟨rb,0,none⟩))).cell? ⟨kb,6,none⟩=some tv:=by
  have:=row_put (j:=4) h2.row (.pointer (some ⟨rb,0,none⟩));simp[World.cell?,this,keRow]
 have q6':(w2.setCell ⟨kb,4,none⟩ (.pointer (some ⟨rb,0,none⟩))).frozen? ⟨kb,6,none⟩=false:=by
  have:=row_put (j:=4) h2.row (.pointer (some ⟨rb,0,none⟩));simp[World.frozen?,this]
 clear ht2 hb12 h2 e3 HT;go_upto_region 8 with fail
 obtain⟨W3,hW3⟩:∃ X,X=(w2.setCell ⟨kb,4,none⟩ (.pointer (some ⟨rb,0,none⟩))).setCell ⟨kb,6,none⟩ (.pointer (some ⟨bt,0,none⟩)):=⟨_,rfl⟩;obtain⟨hk3,hof3,hz3⟩:=HH.out.laid HN.out.1 HB1.out HR1.out HT2.out hW3;rw[<- hW3];clear hW3 e4 e6 q4 e6' q6';have c5:W3.cell? ⟨kb,5,none⟩=some (.slice la c.ents.length lc):=hk3.cell 5 _ rfl;have HTo:Hid (KeTo (updH (updH H 2 w w1) 4 w1 w2) w0 W3 c kb bc bd rb bt (.slice la c.ents.length lc) bs ⟨s,d,openL (s.bytes.take s.size),false,stopN ls 0,TSt.new de⟩ W3):=KeTo.same hk3;have HO3:Hid _:=hof3;have HZ:Hid (updH (updH H 2 w w1) 4 w1 w2 0 kb/\(∀ i k,updH (updH H 2 w w1) 4 w1 w2 i k->H i k\/(w.heap.size<=k/\k < W3.heap.size))/\H 0 kb):=⟨hk3.hk,fun i k hk=>by
  have a1:w1.heap.size<=w2.heap.size:=HT2.out.bel.size;have a2:w.heap.size<=w1.heap.size:=HB1.out.size
  rcases hk with (hk | ⟨_,x,y⟩) | ⟨_,x,y⟩
  ·exact Or.inl hk
  ·exact Or.inr ⟨x,by omega⟩
  ·exact Or.inr ⟨by omega,by omega⟩,HH.out.hk⟩
 have HOp:Hid (KSt.opened c ⟨s,d,[],false,[],TSt.new 0⟩=⟨s,d,openL (s.bytes.take s.size),false,c.ents.map fun _=>LSt.new,TSt.new de⟩):=by show _=_;unfold KSt.opened;rw[HN.out.2.2]
 clear hk3 hof3 hz3 HR1 HB1 HT2 HH;generalize updH (updH H 2 w w1) 4 w1 w2=H3 at HTo HZ;generalize openL (s.bytes.take s.size)=OL at HTo HOp
 go_cut [41,42,43] (fun l n i wx=>l=.slice la c.ents.length lc/\n=.int .i64 (c.ents.length:Int)/\i=.int .i64 0/\wx=W3)
 case first=>
  go_wp2_with fail
  go_meet
  case rel=>exact⟨rfl,rfl,rfl,rfl⟩
 obtain⟨rfl,rfl,rfl,rfl⟩:=hcut;rename World=>W3
 clear c5;go_wp2_with fail
 go_loopw [7,43] (fun _ i wr=>∃ n:Nat,n<=c.ents.length/\i=.int .i64 n/\KeTo H3 w0 W3 c kb bc bd rb bt (.slice la c.ents.length lc) bs ⟨s,d,OL,false,stopN ls n,TSt.new de⟩ wr) (fun _ i _=>c.ents.length - (intOf i).toNat)
 case atStart=>exact⟨0,Nat.zero_le _,rfl,HTo.out⟩
 case round=>
  clear HTo;obtain⟨n,hnl,rfl,hto⟩:=hrel
  by_cases hlt:n < c.ents.length
  ·obtain⟨H4,k4,g4,o4⟩:=hto;obtain⟨sn,hsn⟩:∃ x,ls[n]?=some x:=⟨_,List.getElem?_eq_getElem (by rw[HN.out.1];exact hlt)⟩;obtain⟨hs1,hs2⟩:=stopN_at hsn;obtain⟨b,e,g,cap,hb,he,hlv,cp,h4⟩:=k4.locAt (K:=⟨s,d,OL,false,stopN ls n,TSt.new de⟩) hs1;rw[show (stopN ls n).length=c.ents.length by rw[stopN_len,HN.out.1]] at hlv;simp only[Value.slice.injEq,true_and] at hlv;obtain⟨rfl,rfl⟩:=hlv;have HX:Hid _:=los_stop (A:=A) h4 ((k4.senv HSv.out).c8);have HNx:Hid (∀ w5,LoS (gr (H4 (5+n)) wr w5) w5 b e sn.stop->Off (H4 (5+n)) wr w5->KeTo H3 w0 W3 c kb bc bd rb bt (.slice (some ⟨g,0,none⟩) c.ents.length lc) bs ⟨s,d,OL,false,stopN ls (n+1),TSt.new de⟩ w5):=fun w5 hl5 ho5=>by
    have:=KeTo.one ho5 (k4.toLoc ho5 hb he hl5);rw[show KSt.setL ⟨s,d,OL,false,stopN ls n,TSt.new de⟩ n sn.stop=⟨s,d,OL,false,stopN ls (n+1),TSt.new de⟩ by unfold KSt.setL;rw[<- hs2]] at this;exact KeTo.trans g4 o4 this
   have k1:(n:Int) < (c.ents.length:Int):=by omega
   have k2:c.ents.length<=8:=HN.out.2.1;clear k4 g4 o4 hs1 hs2 hsn hb he h4;go_wp2_with fail
   refine Calls.mono HX.out ?_;rintro u w5 ⟨rfl,hl5,ho5⟩;have HK5:Hid _:=HNx.out w5 hl5 ho5;clear hl5 ho5 HNx HX;go_wp2_with fail
   go_roundw
   case rel=>exact⟨n+1,by omega,by go_num,HK5.out⟩
   case measure=>simp[intOf];omega
  ·obtain rfl:n=c.ents.length:=by omega
   have k1:¬(c.ents.length:Int) < (c.ents.length:Int):=by omega
   have HTo:Hid _:=hto;clear hto;go_wp2;go_ret;obtain⟨H5,k5,g5,o5⟩:=HTo.out;have hall:=stopN_all ls;rw[HN.out.1] at hall;have k6:=k5.idle (c.ents.map fun _=>LSt.new) (by rw[List.length_map]) hall (fun s hs=>by
    simp only[List.mem_map] at hs;obtain⟨_,_,rfl⟩:=hs;rfl)
   rw[HOp.out]
   refine⟨rfl,H5,rb,bt,k6,fun i k hk=>?_,?_⟩
   ·rcases g5 i k hk with ⟨j,hj⟩ | ⟨x,y⟩
    ·rcases HZ.out.2.1 j k hj with hj | ⟨x,y⟩
     ·exact Or.inl ⟨j,hj⟩
     ·exact Or.inr ⟨x,Nat.lt_of_lt_of_le y o5.size⟩
    ·exact Or.inr ⟨Nat.le_trans HO3.out.size x,y⟩
   ·refine(HO3.out.mono (fun k _ e=>⟨0,by rw[e];exact HZ.out.2.2⟩)).trans o5 (fun k hk ⟨j,hj⟩=>?_)
    rcases HZ.out.2.1 j k hj with hj | ⟨x,_⟩
    ·exact⟨j,hj⟩
    ·omega
theorem KeRn.post {bd':Nat}(h:KeRn H w0 w c kb bc bd' lv bs K w')(hF:∀ i k,H i k->F k):KePost F w0 w c kb bc K w':=by
 obtain⟨H2,rb,bt,h1,h2,h3⟩:=h;exact⟨⟨H2,_,_,_,_,_,h1,fun i k hk=>(h2 i k hk).imp (fun ⟨j,hj⟩=>hF j k hj) id⟩,h3.mono (fun k _ ⟨j,hj⟩=>hF j k hj)⟩
theorem opened_d2 (c:CfgD)(s:CSt)(d d':DSt)(L:List Rec)(sp:Bool)(ls:List LSt)(t:TSt):KSt.opened c ⟨s,d',L,sp,ls,t⟩={ KSt.opened c ⟨s,d,[],false,[],TSt.new 0⟩ with d:=d' }:=by
 unfold KSt.opened;generalize openL (s.bytes.take s.size)=X;rfl
set_option maxHeartbeats 2000000 in
theorem ke_boot (h:KeAt F w0 w c kb bc K)(hs:SenK A w0)(hr:KRt c)(hf:KFit c K k W) :
  Calls Tryz.prog 61 #[.pointer (some ⟨kb,0,none⟩)] w fun e w'=>e=.returned (errVal A (K.boot c).2)/\KePost F w0 w c kb bc (K.boot c).1 w':=by
 have HS:Hid (KePost F w0 w c kb bc K w):=KePost.same h;obtain⟨H,bd,rb,bt,lv,bs,h1,hF⟩:=h;have HC:Hid _:=ke_state h1;have g9:=(h1.senv hs).c9
 by_cases ho:K.on=0
 ·have HB:Hid (K.boot c=(K,10)):=by show _=_;unfold KSt.boot;rw[if_pos ho]
  rw[ho,show stateB 0=⟨#[111,110]⟩ from rfl] at HC;clear h1 hF hf hr ho hs;go_enter Tryz.func61,Tryz.ntmps61
  go_wp2_with fail
  refine Calls.mono HC.out ?_;rintro e w' ⟨rfl,rfl⟩;go_wp2;go_ret;rw[HB.out];exact⟨rfl,HS.out⟩
 ·have HB:Hid (K.boot c=(KSt.opened c { K with c:={ K.c with off:=false,cut:=false,left:=0 },d:=K.d.start },0)):=by show _=_;unfold KSt.boot;rw[if_neg ho]
  have c2:w.cell? ⟨kb,2,none⟩=some (.pointer (some ⟨bc,0,none⟩)):=h1.cell 2 _ rfl;have HOn:Hid _:=rgs_on h1.ring;have H1:Hid _:=h1;have HF:Hid _:=hF;have HBig:Hid (153<=K.c.size):=hf.big.size;have HR:Hid _:=hr;have HSv:Hid _:=hs;clear h1 hF hf hr HS hs
  rcases K.on_cases with he | he | he
  ·exact absurd he ho
  all_goals
   rw[he] at HC
   first | rw[show stateB 8=⟨#[111,102,102]⟩ from rfl] at HC | rw[show stateB 11=⟨#[114,101,115,101,116]⟩ from rfl] at HC
   clear he ho;go_enter Tryz.func61,Tryz.ntmps61
   go_wp2_with fail
   refine Calls.mono HC.out ?_;rintro e w' ⟨rfl,rfl⟩;go_wp2_with fail
   refine Calls.mono HOn.out ?_;rintro e w2 ⟨rfl,hr2,hof2⟩;have k2:=H1.out.toRing hof2 hr2;have HX:Hid _:=ke_renew (A:=A) k2.hd' HSv.out HR.out k2.llen HBig.out rfl;have HP2:Hid (KePost F w0 w' c kb bc _ w2):=KeIn.post HF.out hof2 k2;have HU:Hid (∀ i k,updH H 2 w' w2 i k->gr F w' w2 k):=updH_all HF.out 2;clear k2 hr2 hof2 HOn HC c2;go_wp2_with fail
   refine Calls.mono HX.out ?_;rintro u w4 ⟨rfl,hrn⟩;have HP4:Hid (KePost F w0 w' c kb bc _ w4):=HP2.out.trans (hrn.post HU.out);obtain⟨H4,rb4,bt4,k4,g4,o4⟩:=hrn;have c0:w4.cell? ⟨kb,0,none⟩=some (.pointer (some ⟨bd,0,none⟩)):=k4.cell 0 _ rfl;have HSt:Hid _:=dog_start bd _ w4 k4.dog;have HH4:Hid (∀ i k,H4 i k->gr F w' w4 k):=fun i k hk=>by
    rcases g4 i k hk with ⟨j,hj⟩ | ⟨x,y⟩
    ·exact(HU.out j k hj).imp id (fun ⟨x,y⟩=>⟨x,Nat.lt_of_lt_of_le y o4.size⟩)
    ·exact Or.inr ⟨Nat.le_trans HP2.out.2.size x,y⟩
   have HK4:Hid _:=k4;clear k4 g4 o4 HX;go_wp2_with fail
   refine Calls.mono HSt.out ?_;rintro u w5 ⟨rfl,hd5,hg5⟩;go_wp2;go_ret;rw[HB.out]
   refine⟨rfl,?_⟩;have hof5:Off (H4 3) w4 w5:=(Off.of_grown hg5).mono (fun k _ e=>by rw[e];exact HK4.out.hd);have k5:=HK4.out.toDog hof5 hd5;have p5:=KeIn.post HH4.out hof5 k5;have p6:=HP4.out.trans p5;rw[opened_d2 c { K.c with off:=false,cut:=false,left:=0 } K.d K.d.start K.L K.sp K.ls K.t];exact p6
end
section
variable {A:Nat->Addr}{F F':Nat->Prop}{w0 w w':World}{c:CfgD}{kb bc:Nat}{K:KSt}{k:Nat}
theorem KeAt.trim (h:KeAt F w0 w c kb bc K):KeAt (fun k=>F k/\k < w.heap.size) w0 w c kb bc K:=by
 obtain⟨H,bd,rb,bt,lv,bs,h1,h2⟩:=h;exact⟨H,bd,rb,bt,lv,bs,h1,fun i k hk=>⟨h2 i k hk,h1.fam.lt i k hk⟩⟩
theorem KePost.mono (h:KePost F w0 w c kb bc K w')(hF:∀ k,F k->F' k):KePost F' w0 w c kb bc K w':=by
 obtain⟨⟨H,bd,rb,bt,lv,bs,h1,h2⟩,h3⟩:=h;exact⟨⟨H,bd,rb,bt,lv,bs,h1,fun i k hk=>(h2 i k hk).imp (hF k) id⟩,h3.mono (fun k _ e=>hF k e)⟩
end
theorem done_at (A:Nat->Addr)(j:Nat)(w:World):Calls Tryz.prog 50 #[errVal A j] w fun e w'=>e=.returned (.tuple #[.string ⟨(doneT j).toArray⟩,errVal A j])/\w'=w:=by
 cases j with
 | zero=>
  show Calls Tryz.prog 50 #[.nilIface] w fun e w'=>e=.returned (.tuple #[.string ⟨#[111,107]⟩,.nilIface])/\w'=w
  go_enter Tryz.func50,Tryz.ntmps50
  go_wp2;go_ret2
  exact⟨rfl,rfl⟩
 | succ i=>
  show Calls Tryz.prog 50 #[.iface 400 (.pointer (some (A i)))] w fun e w'=>e=.returned (.tuple #[.string ⟨#[]⟩,.iface 400 (.pointer (some (A i)))])/\w'=w
  go_enter Tryz.func50,Tryz.ntmps50
  go_wp2;go_ret2
  exact⟨rfl,rfl⟩
section
variable {A:Nat->Addr}{F F':Nat->Prop}{w0 w w':World}{c:CfgD}{kb bc:Nat}{K:KSt}{k:Nat}
set_option maxHeartbeats 2000000 in
set_option maxRecDepth 100000 in
theorem sc_ticks (N:Nat)(sv:Value)(h:KeAt F w0 w c kb bc K)(hs:SenK A w0)(hr:KRt c)(hf:KFit c K k (144*K.d.now))(hn:k+K.d.now+1+N<=900000) :
  Calls Tryz.prog 57 #[.agg (plRow c kb bc sv),.int .i64 (N:Int)] w fun e w'=>e=.returned (errVal A (K.ticks c N).2)/\KePost F w0 w c kb bc (K.ticks c N).1 w':=by
 obtain⟨W,hW,hbox,-⟩:=pl_box w c kb bc sv;have HBx:Hid (∀ V,Off (fun k=>F k/\k < w.heap.size) W V->V.cell? ⟨w.heap.size,0,none⟩=some (.pointer (some ⟨kb,0,none⟩))):=fun V hV=>by
  have h1:W.heap[w.heap.size]?=some (.cells (plRow c kb bc sv) 66 (0,0)):=by rw[hW];exact heap_alloc_new _ _
  have h2:=(hV.block w.heap.size (lt_of_row h1) (fun e=>Nat.lt_irrefl _ e.2)).trans h1;simp[World.cell?,h2,plRow]
 have HR:Hid (KRt c):=hr;have HSv:Hid (SenK A w0):=hs;have HP:Hid (KePost (fun k=>F k/\k < w.heap.size) w0 W c kb bc K W):=KePost.same (h.trim.below hbox);have HB:Hid (k+K.d.now+1+N<=900000):=hn;have HF:Hid _:=hf;have hN10:N<=900000:=by omega
 have HTo:Hid (∀ K' V,KePost (fun k=>F k/\k < w.heap.size) w0 W c kb bc K' V->KePost F w0 w c kb bc K' V):=fun K' V hp=>(hp.from hbox).mono (fun k hk=>hk.1)
 clear h hr hf hn hs hbox;unfold plRow at hW ⊢;go_enter Tryz.func57,Tryz.ntmps57
 go_upto_region 1 with fail
 rw[<- hW];clear hW;go_wp2_with fail
 go_loopw [5,7] (fun _ i wr=>∃ (j:Nat) (Kj:KSt),j<=N/\i=.int .i64 j/\Hid (K.ticks c N=Kj.ticks c (N - j))/\Hid (KFit c Kj k (144*Kj.d.now))/\Hid (Kj.d.now<=K.d.now+j)/\Hid (KePost (fun k=>F k/\k < w.heap.size) w0 W c kb bc Kj wr)) (fun _ i _=>N - (intOf i).toNat)
 case atStart=>exact⟨0,K,Nat.zero_le _,rfl,rfl,HF.out,Nat.le_refl _,HP.out⟩
 case round=>
  clear HP HF;obtain⟨j,Kj,hj,rfl,HE,HFj,HNj,HPj⟩:=hrel
  by_cases hlt:j < N
  ·have k1:(j:Int) < (N:Int):=by omega
   have HE2:Hid (K.ticks c N=if (Kj.tick c).2=0 then (Kj.tick c).1.ticks c (N - (j+1)) else Kj.tick c):=by
    show _=_
    rw[HE.out,show N - j=(N - (j+1))+1 by omega];rfl
   have HX:Hid _:=ke_tick HPj.out.1 HSv.out HR.out HFj.out (by have:=HB.out;have:=HNj.out;omega);have HFn:Hid (KFit c (Kj.tick c).1 k (144*(Kj.tick c).1.d.now)/\(Kj.tick c).1.d.now<=K.d.now+(j+1)):=⟨HFj.out.tick HR.out (by have:=HB.out;have:=HNj.out;omega),by have:=tick_now c Kj;have:=HNj.out;omega⟩;have x0:=HBx.out wr HPj.out.2;go_wp2_with fail
   refine Calls.mono HX.out ?_;rintro u w3 ⟨rfl,hp⟩;have HP3:Hid _:=HPj.out.trans hp;clear hp HX x0
   by_cases hc0:(Kj.tick c).2=0
   ·rw[hc0,show errVal A 0=.nilIface from rfl];go_wp2_with fail
    go_roundw
    case rel=>exact⟨j+1,(Kj.tick c).1,by omega,by go_num,by show _=_;rw[HE2.out,if_pos hc0],HFn.out.1,HFn.out.2,HP3.out⟩
    case measure=>simp[intOf];omega
   ·obtain⟨q,hq⟩:=errVal_pos (A:=A) hc0;have HQ:Hid _:=hq;rw[hq];clear hq;go_wp2;go_ret;rw[HE2.out,if_neg hc0,HQ.out];exact⟨rfl,HTo.out _ _ HP3.out⟩
  ·have k1:¬(j:Int) < (N:Int):=by omega
   have HE2:Hid (K.ticks c N=(Kj,0)):=by
    show _=_
    rw[HE.out,show N - j=0 by omega];rfl
   go_wp2;go_ret;rw[HE2.out];exact⟨rfl,HTo.out _ _ HPj.out⟩
end
end Go.Proofs.YtffpcbdlbcjihadGreatDoor
