/-
  Several texts as one: KeEnd, KeTick, KpCalm, KpQuiet, RingL8, KpInv, KpQc, KpRt.
-/
import Derived.Test.YtdpdbfhbojgigacGreatDoorC25S
import Derived.Deep.AppendLies
import Derived.Laws.MakeOwn
namespace Go.Proofs.YtdpdbfhbojgigacGreatDoor
open Go.RowKit Go.Extern.Stop Go.Stop Go.Extern
theorem Tryz.infoStrE:(Tryz.prog.info? 9).map (fun i=>(i.zero,i.size,i.bytes))=some (some (.string ⟨#[]⟩),1,16):=by kernel_rfl
structure KeLp (H0 H:Nat->Nat->Prop)(w0 w wr:World)(c:CfgD)(kb bc bd rb bt:Nat)(lv:Value)(bs:List Nat)(K:KSt)(kv:Value)(xs:List ByteArray):Prop where
 ke:KeIn H w0 wr c kb bc bd rb bt lv bs K
 hg:∀ i k,H i k->gr (fun k=>∃ i,H0 i k) w wr k
 off:Off (fun k=>∃ i,H0 i k) w wr
 own:SlOwn encS 1 9 w.heap.size wr kv xs
 no:∀ k,kv.ownBlock=some k->∀ i,¬H i k
section
variable {A:Nat->Addr}{H H0:Nat->Nat->Prop}{F:Nat->Prop}{w0 w w' wr wr':World}{c:CfgD}{kb bc bd rb bt:Nat}{lv kv:Value}{bs:List Nat}{K K':KSt}{k W:Nat}{xs:List ByteArray}
theorem KeLp.to (h:KeLp H0 H w0 w wr c kb bc bd rb bt lv bs K kv xs)(t:KeTo H w0 wr c kb bc bd rb bt lv bs K' wr'):∃ H',KeLp H0 H' w0 w wr' c kb bc bd rb bt lv bs K' kv xs:=by
 obtain⟨H1,t1,t2,t3⟩:=id t
 refine⟨H1,t1,fun i k hk=>?_,?_,SlOwn.same h.own (fun g hg=>t3.block g (h.own.lt g hg).2 (fun ⟨i,hi⟩=>h.no g hg i hi)),fun k hk i hi=>?_⟩
 ·rcases t2 i k hk with ⟨j,hj⟩ | ⟨a,b⟩
  ·exact(h.hg j k hj).imp id (fun ⟨a,b⟩=>⟨a,Nat.lt_of_lt_of_le b t3.size⟩)
  ·exact Or.inr ⟨Nat.le_trans h.off.size a,b⟩
 ·exact h.off.trans t3 (fun k hk ⟨i,hi⟩=>by
   rcases h.hg i k hi with a | ⟨a,_⟩
   ·exact a
   ·omega)
 ·rcases t2 i k hi with ⟨j,hj⟩ | ⟨a,_⟩
  ·exact h.no k hk j hj
  ·have:=(h.own.lt k hk).2;omega
theorem KeLp.below (h:KeLp H0 H w0 w wr c kb bc bd rb bt lv bs K kv xs)(hb:Below wr.heap.size wr wr'):KeLp H0 H w0 w wr' c kb bc bd rb bt lv bs K kv xs:=
 ⟨h.ke.below hb,fun i k hk=>(h.hg i k hk).imp id (fun ⟨a,b⟩=>⟨a,Nat.lt_of_lt_of_le b hb.size⟩),h.off.trans (Off.of_below hb _) (fun _ _ h=>h),h.own.below hb,h.no⟩
theorem KeLp.kt (h:KeLp H0 H w0 w wr c kb bc bd rb bt lv bs K kv xs):KeTo H0 w0 w c kb bc bd rb bt lv bs K wr:=⟨H,h.ke,h.hg,h.off⟩
theorem KeLp.more (h:KeLp H0 H w0 w wr c kb bc bd rb bt lv bs K kv xs)(hw:w0.heap.size<=w.heap.size){o:Obj}{y:ByteArray}{g cap n:Nat}(hn:xs.length+1=n)(hown:wr'.ownsRow w.heap.size 9 1 (.slice (some ⟨g,0,none⟩) n cap) n (xs.flatMap encS++[.string y]))(hg:(wr.alloc o).grownBy wr' kv.ownBlock)(hor:kv.ownBlock=some g\/g=wr.heap.size+1):KeLp H0 H w0 w wr' c kb bc bd rb bt lv bs K (.slice (some ⟨g,0,none⟩) n cap) (xs++[y]):=by
 have h1:=h.below (Below.one wr o);have hof:Off (fun k=>kv.ownBlock=some k) (wr.alloc o) wr':=⟨hg.os,hg.tape,hg.output,hg.size,fun k hk hn=>hg.block k hk (fun e=>hn e.symm)⟩;have hlt:∀ k,kv.ownBlock=some k->w.heap.size<=k:=fun k hk=>(h.own.lt k hk).1
 refine⟨h1.ke.off hof (fun i k hk e=>h.no k e i hk) (fun k hk=>Nat.le_trans hw (hlt k hk)),fun i k hk=>(h1.hg i k hk).imp id (fun ⟨a,b⟩=>⟨a,Nat.lt_of_lt_of_le b hof.size⟩),h1.off.trans hof (fun k hk e=>absurd (hlt k e) (by omega)),?_,fun k hk i hi=>?_⟩
 ·have e:(xs++[y]).flatMap encS=xs.flatMap encS++[.string y]:=by rw[List.flatMap_append];rfl
  show wr'.ownsRow _ _ _ _ _ _
  rw[e,List.length_append,List.length_singleton,hn];exact hown
 ·cases hk
  rcases hor with hor | hor
  ·exact h.no g hor i hi
  ·have:=h.ke.fam.lt i g hi;omega
theorem statsL_all {K:KSt}{n:Nat}(h:K.ls.length=n):statsL K n=K.ls.map fun s=>statB s.status:=by unfold statsL;rw[List.take_of_length_le (by omega)]
def KSt.fins (c:CfgD)(K:KSt):KSt × Nat:=if (K.ends c c.ents.length).2=0 then ((K.ends c c.ents.length).1.last,0) else K.ends c c.ents.length
theorem ke_tend (h:KeIn H w0 w c kb bc bd rb bt lv bs K)(hf:TFit K.t 20)(l:List ByteArray)(sa:Option Addr)(cap:Nat)(hl:∀ V,w.grownBy V (some bt)->SlAt encS 1 V (.slice sa l.length cap) l)(hn:l.length<=1000000) :
  Calls Tryz.prog 95 #[.pointer (some ⟨bt,0,none⟩),.slice sa l.length cap] w fun e w'=>(∃ y,e=.returned (.string y))/\KeIn (updH H 4 w w') w0 w' c kb bc bd rb bt lv bs { K with t:=K.t.fin l }/\Off (H 4) w w':=by
 refine(to_endG w0 w bt 20 K.t l sa cap h.to hf (by decide) hl hn).mono ?_;rintro e w' ⟨rfl,ht,hg⟩;have hof:Off (H 4) w w':=(Off.of_grown hg).mono (fun k _ e=>by rw[e];exact h.ht);exact⟨⟨_,rfl⟩,h.toTot hof ht.heap,hof⟩
theorem ke_feed (h:KeIn H w0 w c kb bc bd rb bt lv bs K)(cy:Int) :
  Calls Tryz.prog 97 #[.agg #[.pointer (some ⟨bd,0,none⟩),.int .i64 cy]] w fun e w'=>e=.returned .nilIface/\KeIn (updH H 3 w w') w0 w' c kb bc bd rb bt lv bs { K with d:=if K.d.isOpen=true then K.d.kick else K.d }/\Off (H 3) w w':=by
 refine(wd_feed cy h.dog).mono ?_;rintro e w' ⟨rfl,hd,ho⟩;have hof:Off (H 3) w w':=ho.mono (fun k _ e=>by rw[e];exact h.hd);exact⟨rfl,h.toDog hof hd,hof⟩
set_option maxHeartbeats 8000000 in
set_option maxRecDepth 100000 in
theorem ke_end (h:KeIn H w0 w c kb bc bd rb bt lv bs K)(hs:SenK A w0)(hr:KRt c)(hf:KFit c K k W)(hn:k+K.d.now<=900000)(hW:W+200<=1099511627776)(ho:K.c.off=false)(h1:1<=K.d.now)(hi:∀ s∈K.ls,LFit s (k+K.d.now - 1)) :
  Calls Tryz.prog 64 #[.pointer (some ⟨kb,0,none⟩)] w fun v w'=>v=.returned (errVal A (K.fins c).2)/\KeTo H w0 w c kb bc bd rb bt lv bs (K.fins c).1 w':=by
 obtain⟨i0,hi0,hz0,hz1,hz2⟩:=info_parts Tryz.infoStrE;have c5:w.cell? ⟨kb,5,none⟩=some lv:=h.cell 5 _ rfl;obtain⟨la,lc,rfl⟩:=ow_form h.own;rw[h.blen] at c5;have hN8:=hr.nn;obtain⟨W1,hmk,hown1,hg1⟩:=run_make_own (P:=Tryz.prog) w w.heap.size 33 9 i0 (.string ⟨#[]⟩) 1 Tryz.underlying33 hi0 hz0 hz1 .i64 .i64 c.ents.length (by rw[hz2];omega) (by unfold maxLen;omega) (Nat.le_refl _);have hb1:Below w.heap.size w W1:=⟨hg1.os,hg1.tape,hg1.output,hg1.size,fun k hk=>hg1.block k hk (by simp)⟩;have HL:Hid (KeLp H H w0 w W1 c kb bc bd rb bt (.slice la bs.length lc) bs K (.slice (some ⟨w.heap.size,0,none⟩) 0 c.ents.length) []):=⟨h.below hb1,fun i k hk=>Or.inl ⟨i,hk⟩,Off.of_below hb1 _,hown1,fun k hk i hi=>by cases hk;exact Nat.lt_irrefl _ (h.fam.lt i _ hi)⟩;have HW0:Hid (w0.heap.size<=w.heap.size):=h.bel.size;have HE:Hid (∀ n,KFit c (K.ends c n).1 k (W+18*n)/\((K.ends c n).2=0->(K.ends c n).1.c.off=false/\(K.ends c n).1.sp=false)/\(K.ends c n).1.d=K.d/\(K.ends c n).1.t=K.t/\∀ j,n<=j->(K.ends c n).1.ls[j]?=K.ls[j]?):=hf.ends ho hi h1;have HT2:Hid ((∀ s∈K.ls,LFit s (k+K.d.now - 1))/\1<=K.d.now/\k+K.d.now<=900000/\W+200<=1099511627776/\c.ents.length<=8):=⟨hi,h1,hn,hW,hr.nn⟩;have HTot:Hid (TFit K.t 20):=hf.tot;have HR:Hid (KRt c):=hr;have HSv:Hid _:=hs;have hbl:=h.blen;rw[hbl] at HL ⊢;have c5':W1.cell? ⟨kb,5,none⟩=some (.slice la c.ents.length lc):=cell_below hb1 c5;clear h hs hr hf hn hW ho h1 hi hown1 hg1 hb1 hbl;go_enter Tryz.func64,Tryz.ntmps64
 go_upto_region 1 with fail
 go_cut [3] (fun kv wx=>kv=.slice (some ⟨w.heap.size,0,none⟩) 0 c.ents.length/\wx=W1)
 case first=>
  go_wp2_with fail
  go_meet
  case rel=>exact⟨rfl,rfl⟩
 obtain⟨rfl,rfl⟩:=hcut;clear hmk c5;rename World=>W1
 go_upto_region 2 with fail
 go_cut [16,17,18] (fun l n i wx=>l=.slice la c.ents.length lc/\n=.int .i64 (c.ents.length:Int)/\i=.int .i64 0/\wx=W1)
 case first=>
  go_wp2_with fail
  go_meet
  case rel=>exact⟨rfl,rfl,rfl,rfl⟩
 obtain⟨rfl,rfl,rfl,rfl⟩:=hcut;clear c5';go_wp2_with fail
 go_loopw [3,4,5,6,18] (fun kv _ _ _ i wr=>∃ n:Nat,n<=c.ents.length/\i=.int .i64 n/\(K.ends c n).2=0/\∃ H1,KeLp H H1 w0 w wr c kb bc bd rb bt (.slice la c.ents.length lc) bs (K.ends c n).1 kv (statsL (K.ends c n).1 n)) (fun _ _ _ _ i _=>c.ents.length - (intOf i).toNat)
 case atStart=>exact⟨0,Nat.zero_le _,rfl,rfl,_,HL.out⟩
 case round=>
  clear HL;obtain⟨n,hnl,rfl,h0,H1,L⟩:=hrel;have hsl:(statsL (K.ends c n).1 n).length=n:=by unfold statsL;rw[List.length_map,List.length_take,L.ke.llen];omega
  obtain⟨ka,kc,hkv⟩:=ow_form L.own;rw[hsl] at hkv;subst hkv;have HSl:Hid ((statsL (K.ends c n).1 n).length=n):=hsl;clear hsl
  by_cases hlt:n < c.ents.length
  ·have hlen:(K.ends c n).1.ls.length=c.ents.length:=L.ke.llen;obtain⟨s,hs⟩:∃ s,(K.ends c n).1.ls[n]?=some s:=⟨_,List.getElem?_eq_getElem (by omega)⟩;obtain⟨b,e,g,cap,hb,he,hlv,cp,h4⟩:=L.ke.locAt hs;rw[hlen] at hlv;simp only[Value.slice.injEq,true_and] at hlv;obtain⟨rfl,rfl⟩:=hlv;obtain⟨f1,f2,f3,f4,f5⟩:=HE.out n;have f2':=f2 h0;have hT2:=HT2.out;have HX:Hid _:=ke_endOf (A:=A) n b L.ke HSv.out HR.out f1 (by rw[f3];exact hT2.2.2.1) (by omega) f2'.1 (by rw[f3];exact hT2.2.1) (by rw[f3];exact hT2.1 s (by rw[f5 n (Nat.le_refl _)] at hs;exact List.mem_of_getElem? hs)) hs hb he (by omega);have HStep:Hid (K.ends c (n+1)=(K.ends c n).1.endOne c n):=by
    show (if (K.ends c n).2=0 then (K.ends c n).1.endOne c n else K.ends c n)=_
    rw[if_pos h0]
   have hst:=ends_step c K n h0 hs he;have HLs:Hid ((K.ends c (n+1)).1.ls[n]?=some (s.fin e)/\statsL (K.ends c (n+1)).1 (n+1)=statsL (K.ends c n).1 n++[statB (s.fin e).status]):=by
    have hls:(K.ends c (n+1)).1.ls=((K.ends c n).1.setL n (s.fin e)).ls:=by
     rw[hst]
     split
     ·rw[app_ls]
     ·rfl
    refine⟨?_,?_⟩
    ·rw[hls];show (List.set _ _ _)[n]?=_
     rw[List.getElem?_set_self (by omega)]
    ·rw[<- stats_set (s:=s.fin e) (by omega:n < (K.ends c n).1.ls.length)];unfold statsL;rw[hls]
   rw[<- HStep.out] at HX;have HBE:Hid (bs[n]?=some b/\c.ents[n]?=some e):=⟨hb,he⟩;have HL:Hid _:=L;have k1:(n:Int) < (c.ents.length:Int):=by omega
   have k2:n < 8:=by omega
   clear L hb he h4 hs hlen f1 f2 f3 f4 f5 f2' hT2 hst;go_wp2_with fail
   refine Calls.mono HX.out ?_;rintro u w3 ⟨rfl,hto⟩;obtain⟨H3,L3⟩:=HL.out.to hto
   by_cases hc0:(K.ends c (n+1)).2=0
   ·rw[hc0,show errVal A 0=.nilIface from rfl];have HSt:Hid _:=los_status (L3.ke.loc n b e (s.fin e) HBE.out.1 HBE.out.2 HLs.out.1);have hO5:w3.ownsRow w.heap.size 9 1 (.slice ka n kc) n ((statsL (K.ends c n).1 n).flatMap encS):=by
     have:w3.ownsRow w.heap.size 9 1 (.slice ka n kc) (statsL (K.ends c n).1 n).length ((statsL (K.ends c n).1 n).flatMap encS):=L3.own;rwa [HSl.out] at this
    have hz3:w.heap.size<=w3.heap.size:=L3.off.size;have HL3:Hid _:=L3;have HO5:Hid _:=hO5;obtain⟨y,hy⟩:∃ y,y=statB (s.fin e).status:=⟨_,rfl⟩;have HY:Hid (y=statB (s.fin e).status):=hy;rw[<- hy] at HSt;clear hy L3 hO5 hto HX;go_wp2_with fail
    refine Calls.mono HSt.out ?_;rintro u w5 ⟨rfl,rfl⟩;go_wp2_with (at_builtin;refine wpList_append_lies _ rfl _ _ 33 rfl w.heap.size 9 i0 (.string ⟨#[]⟩) 1 16 Tryz.underlying33 hi0 hz0 hz1 hz2 rfl (by decide) (.slice ka n kc) n ((statsL (K.ends c n).1 n).flatMap encS) rfl (World.ownsRow.alloc HO5.out _) ⟨w5.heap.size,0,none⟩ 1 1 [.string y] rfl rfl (ce_at w5 [.string y] 9) (fun u hu=>by rw[List.mem_singleton] at hu;subst hu;rfl) (by decide) (by unfold maxLen;omega) (by omega) (by simp;omega) (w5.heap.size+1) (by simp) ?_;intro gg cc w12 hown hg hor hlt12)
    have L5:=HL3.out.more HW0.out (by rw[HSl.out]) hown hg hor;have HL5:Hid _:=L5;clear L5 hown hg hor hlt12 HO5 HSt cp;go_roundw
    case rel=>exact⟨n+1,by omega,by go_num,hc0,H3,by rw[HLs.out.2,<- HY.out];exact HL5.out⟩
    case measure=>simp[intOf];omega
   ·obtain⟨j,hj⟩:=errVal_pos (A:=A) hc0;have HEnd:Hid (K.fins c=K.ends c (n+1)):=by
     show _=_
     have:=ends_stop c K hc0 (n:=c.ents.length) (by omega);unfold KSt.fins;rw[this,if_neg hc0]
    have HJ:Hid _:=hj;rw[hj];have HK3:Hid _:=L3.kt;clear L3 hto hj HX cp;go_wp2;go_ret;rw[HEnd.out,HJ.out];exact⟨rfl,HK3.out⟩
  ·obtain rfl:n=c.ents.length:=by omega
   have k1:¬(c.ents.length:Int) < (c.ents.length:Int):=by omega
   obtain⟨f1,f2,f3,f4,f5⟩:=HE.out c.ents.length;have hlen:(K.ends c c.ents.length).1.ls.length=c.ents.length:=L.ke.llen;have hall:=statsL_all hlen;have e6:wr.cell? ⟨kb,6,none⟩=some (.pointer (some ⟨bt,0,none⟩)):=L.ke.cell 6 _ rfl;have hown:=L.own;have hno:=L.no;have HX:Hid _:=ke_tend L.ke f1.tot (statsL (K.ends c c.ents.length).1 c.ents.length) ka kc (fun V hV=>by
    rw[HSl.out];have:SlOwn encS 1 9 w.heap.size V (.slice ka c.ents.length kc) (statsL (K.ends c c.ents.length).1 c.ents.length):=SlOwn.same hown (fun g hg=>hV.block g (hown.lt g hg).2 (fun e=>hno g hg 4 (by have:=Option.some.inj e;rw[this];exact L.ke.ht)));exact this.slat (fun _=>rfl)) (by rw[HSl.out];omega)
   rw[HSl.out] at HX;have HL:Hid _:=L;have HFin:Hid (K.fins c=((K.ends c c.ents.length).1.last,0)):=by show _=_;unfold KSt.fins;rw[if_pos h0]
   have HTl:Hid (statsL (K.ends c c.ents.length).1 c.ents.length=(K.ends c c.ents.length).1.ls.map fun s=>statB s.status):=hall;have HT3:Hid (((K.ends c c.ents.length).1.t.fin (statsL (K.ends c c.ents.length).1 c.ents.length)).st<=3):=(f1.tot.fin20 _).st;clear L hown hno f1 f2 f3 f4 f5 hlen hall;go_wp2_with fail
   refine Calls.mono HX.out ?_;rintro u w3 ⟨⟨y,rfl⟩,hk3,hof3⟩;have e6':w3.cell? ⟨kb,6,none⟩=some (.pointer (some ⟨bt,0,none⟩)):=hk3.cell 6 _ rfl;have e0:w3.cell? ⟨kb,0,none⟩=some (.pointer (some ⟨bd,0,none⟩)):=hk3.cell 0 _ rfl;have e1:w3.cell? ⟨kb,1,none⟩=some (.int .i64 c.cycle):=hk3.cell 1 _ rfl;have HMay:Hid _:=to_may hk3.to HT3.out;have HK3:Hid (KeTo H w0 w c kb bc bd rb bt (.slice la c.ents.length lc) bs _ w3):=KeTo.trans HL.out.hg HL.out.off (KeTo.one hof3 hk3);have HFd:Hid _:=ke_feed hk3 c.cycle;have HK4:Hid (∀ w4,Off (updH H1 4 wr w3 3) w3 w4->KeIn (updH (updH H1 4 wr w3) 3 w3 w4) w0 w4 c kb bc bd rb bt (.slice la c.ents.length lc) bs { ({ (K.ends c c.ents.length).1 with t:=(K.ends c c.ents.length).1.t.fin (statsL (K.ends c c.ents.length).1 c.ents.length) }:KSt) with d:=if (K.ends c c.ents.length).1.d.isOpen=true then (K.ends c c.ents.length).1.d.kick else (K.ends c c.ents.length).1.d }->KeTo H w0 w c kb bc bd rb bt (.slice la c.ents.length lc) bs { ({ (K.ends c c.ents.length).1 with t:=(K.ends c c.ents.length).1.t.fin (statsL (K.ends c c.ents.length).1 c.ents.length) }:KSt) with d:=if (K.ends c c.ents.length).1.d.isOpen=true then (K.ends c c.ents.length).1.d.kick else (K.ends c c.ents.length).1.d } w4):=fun w4 hof4 hk4=>by
    have t1:KeTo H1 w0 wr c kb bc bd rb bt (.slice la c.ents.length lc) bs _ w4:=KeTo.trans (H1:=updH H1 4 wr w3) (updH_all (fun i _ hk=>⟨i,hk⟩) 4) (Off.all (fun i _ hk=>⟨i,hk⟩) hof3) (KeTo.one hof4 hk4);exact KeTo.trans HL.out.hg HL.out.off t1
   clear hk3 hof3 HX e6 HL;generalize hK1:(K.ends c c.ents.length).1=K1 at HMay HK3 HFd HK4 HFin HTl HT3;generalize hl:statsL K1 c.ents.length=l at HMay HK3 HFd HK4 HTl HT3;clear hl hK1
   by_cases h3:(K1.t.fin l).st=3
   ·have HM:Hid (decide ((K1.t.fin l).st≠3)=false):=decide_eq_false (fun e=>e h3);have HLast:Hid (K1.last={ K1 with t:=K1.t.fin l }):=by
     show _=_
     unfold KSt.last;simp only[<- HTl.out];rw[if_neg (fun e=>e.1 h3)]
    rw[HM.out] at HMay;go_wp2_with fail
    refine Calls.mono HMay.out ?_;rintro u w4 ⟨rfl,rfl⟩;go_wp2;go_ret;rw[HFin.out,HLast.out];exact⟨rfl,HK3.out⟩
   ·have HM:Hid (decide ((K1.t.fin l).st≠3)=true):=decide_eq_true h3;have HLast:Hid (K1.last={ ({ K1 with t:=K1.t.fin l }:KSt) with d:=if K1.d.isOpen=true then K1.d.kick else K1.d }):=by
     show _=_
     unfold KSt.last;simp only[<- HTl.out]
     cases ho:K1.d.isOpen
     ·rw[if_neg (fun e=>by cases e.2)];rfl
     ·rw[if_pos ⟨h3,rfl⟩];rfl
    rw[HM.out] at HMay;go_wp2_with fail
    refine Calls.mono HMay.out ?_;rintro u w4 ⟨rfl,rfl⟩;go_wp2_with fail
    refine Calls.mono HFd.out ?_;rintro u w5 ⟨rfl,hk5,hof5⟩;go_wp2;go_ret;rw[HFin.out,HLast.out];exact⟨rfl,HK4.out w5 hof5 hk5⟩
end
section
variable {A:Nat->Addr}{H:Nat->Nat->Prop}{F:Nat->Prop}{w0 w w':World}{c:CfgD}{kb bc bd rb bt:Nat}{lv:Value}{bs:List Nat}{K:KSt}{k W:Nat}
theorem ke_step (h:KeIn H w0 w c kb bc bd rb bt lv bs K)(hs:SenK A w0)(hr:KRt c)(hre:K.d.reset=false)(hn:K.d.now < 1099511627776) :
  Calls Tryz.prog 63 #[.agg #[.pointer (some ⟨bd,0,none⟩),.int .i64 c.cycle]] w fun e w'=>e=wdOut A K.d c.cycle.toNat/\KeIn (updH H 3 w w') w0 w' c kb bc bd rb bt lv bs K.ticked/\Off (H 3) w w':=by
 have hcy:=hr.cy;have h1:=wd_step (A:=A) c.cycle.toNat h.dog hre hn (by omega) hs h.bel (h.fam.lo 3 bd h.hd);rw[show ((c.cycle.toNat:Nat):Int)=c.cycle by omega] at h1
 refine h1.mono ?_;rintro e w' ⟨rfl,hd,ho⟩;have hof:Off (H 3) w w':=ho.mono (fun k _ e=>by rw[e];exact h.hd);exact⟨rfl,h.toDog hof hd,hof⟩
theorem tick_fins (c:CfgD)(K:KSt)(ho:K.on=0)(hre:K.ticked.d.reset=false)(hm:K.ticked.d.now % c.cycle.toNat=0):K.tick c=K.ticked.fins c:=by
 unfold KSt.tick KSt.fins;rw[if_neg (by omega),if_neg (by rw[hre];simp),if_neg (by omega)]
set_option maxHeartbeats 2000000 in
theorem ke_tick (h:KeAt F w0 w c kb bc K)(hs:SenK A w0)(hr:KRt c)(hf:KFit c K k (144*K.d.now))(hn:k+K.d.now+1<=900000) :
  Calls Tryz.prog 25 #[.pointer (some ⟨kb,0,none⟩)] w fun e w'=>e=.returned (errVal A (K.tick c).2)/\KePost F w0 w c kb bc (K.tick c).1 w':=by
 have HS:Hid (KePost F w0 w c kb bc K w):=KePost.same h;obtain⟨H,bd,rb,bt,lv,bs,h1,hF⟩:=h;have HC:Hid _:=ke_ready h1 hs
 by_cases ho:K.on=0
 ·rw[ho,show errVal A 0=.nilIface from rfl] at HC;obtain⟨o1,o2⟩:=KSt.on_zero.1 ho;have c0:w.cell? ⟨kb,0,none⟩=some (.pointer (some ⟨bd,0,none⟩)):=h1.cell 0 _ rfl;have c1:w.cell? ⟨kb,1,none⟩=some (.int .i64 c.cycle):=h1.cell 1 _ rfl;have HX:Hid _:=ke_step h1 hs hr o2 (by omega);have HF:Hid _:=hF;have HR:Hid _:=hr;have HSv:Hid _:=hs;have HFit:Hid (KFit c K.ticked k (144*K.d.now)/\(∀ s∈K.ticked.ls,LFit s (k+K.ticked.d.now - 1))/\1<=K.ticked.d.now/\K.ticked.c.off=false/\k+K.ticked.d.now<=900000):=by
   obtain⟨t1,t2,t3⟩:=hf.ticked (by omega);exact⟨t1,t2,t3,o1,by show k+(K.d.now+1)<=900000;omega⟩
  cases hre:K.ticked.d.reset
  ·by_cases hm:K.ticked.d.now % c.cycle.toNat=0
   ·have HB:Hid (K.tick c=K.ticked.fins c):=tick_fins c K ho hre hm;have e:wdOut A K.d c.cycle.toNat=.returned (.tuple #[.bool true,.nilIface]):=by
     unfold wdOut;rw[show K.d.tick.reset=false from hre,decide_eq_true (show K.d.tick.now % c.cycle.toNat=0 from hm)];rfl
    rw[e] at HX;clear h1 hs hr hf hn ho hre hm e o1 o2 hF HS;go_enter Tryz.func25,Tryz.ntmps25
    go_wp2_with fail
    refine Calls.mono HC.out ?_;rintro u w2 ⟨rfl,rfl⟩;go_wp2_with fail
    refine Calls.mono HX.out ?_;rintro u w3 ⟨rfl,hk3,hof3⟩;have HE:Hid _:=ke_end hk3 HSv.out HR.out HFit.out.1 HFit.out.2.2.2.2 (by have:=HFit.out.2.2.2.2;have e:K.ticked.d.now=K.d.now+1:=rfl;omega) HFit.out.2.2.2.1 HFit.out.2.2.1 HFit.out.2.1;have HO3:Hid _:=hof3;clear hk3 hof3 HX HC;go_wp2_with fail
    refine Calls.mono HE.out ?_;rintro u w4 ⟨rfl,hto⟩;go_wp2;go_ret;rw[HB.out];exact⟨rfl,(KeTo.trans (updH_all (fun i _ hk=>⟨i,hk⟩) 3) (Off.all (fun i _ hk=>⟨i,hk⟩) HO3.out) hto).post HF.out⟩
   ·have HB:Hid (K.tick c=(K.ticked,0)):=by show _=_;unfold KSt.tick;rw[if_neg (by omega),if_neg (by rw[hre];simp),if_pos hm]
    have e:wdOut A K.d c.cycle.toNat=.returned (.tuple #[.bool false,.nilIface]):=by
     unfold wdOut;rw[show K.d.tick.reset=false from hre,decide_eq_false (show ¬K.d.tick.now % c.cycle.toNat=0 from hm)];rfl
    rw[e] at HX;clear h1 hs hr hf hn ho hre hm e o1 o2 hF HS;go_enter Tryz.func25,Tryz.ntmps25
    go_wp2_with fail
    refine Calls.mono HC.out ?_;rintro u w2 ⟨rfl,rfl⟩;go_wp2_with fail
    refine Calls.mono HX.out ?_;rintro u w3 ⟨rfl,hk3,hof3⟩;go_wp2;go_ret;rw[HB.out];exact⟨rfl,KeIn.post HF.out hof3 hk3⟩
  ·have HB:Hid (K.tick c=(K.ticked,11)):=by show _=_;unfold KSt.tick;rw[if_neg (by omega),if_pos hre]
   have e:wdOut A K.d c.cycle.toNat=.returned (.tuple #[.bool false,.iface 298 (.pointer (some (A 10)))]):=by
    unfold wdOut;rw[show K.d.tick.reset=true from hre];rfl
   rw[e] at HX;clear h1 hs hr hf hn ho hre e o1 o2 hF HS;go_enter Tryz.func25,Tryz.ntmps25
   go_wp2_with fail
   refine Calls.mono HC.out ?_;rintro u w2 ⟨rfl,rfl⟩;go_wp2_with fail
   refine Calls.mono HX.out ?_;rintro u w3 ⟨rfl,hk3,hof3⟩;go_wp2;go_ret;rw[HB.out];exact⟨rfl,KeIn.post HF.out hof3 hk3⟩
 ·have HB:Hid (K.tick c=(K,K.on)):=by show _=_;unfold KSt.tick;rw[if_pos ho]
  obtain⟨j,hj⟩:=errVal_pos (A:=A) ho;have HJ:Hid _:=hj;rw[hj] at HC;clear h1 hF ho hs hj hr hf hn;go_enter Tryz.func25,Tryz.ntmps25
  go_wp2_with fail
  refine Calls.mono HC.out ?_;rintro u w2 ⟨rfl,rfl⟩;go_wp2;go_ret;rw[HB.out,HJ.out];exact⟨rfl,HS.out⟩
end
end Go.Proofs.YtdpdbfhbojgigacGreatDoor
namespace Go.Proofs.YtdpdbfhbojgigacGreatDoor
open Go
theorem writeE_calm {s:CSt}{p:Nat}{l:List UInt8}(he:s.err p l.length=0)(hc:s.cut=false):s.writeE p l=(s.puts p l,0):=by
 unfold CSt.writeE CSt.write;rw[if_pos he,if_neg (fun h=>by rw[hc] at h;cases h.1)]
theorem err_in {s:CSt}{p n:Nat}(ho:s.off=false)(h:p+n<=s.size):s.err p n=0:=by
 unfold CSt.err;rw[if_neg (by omega),if_neg (by rw[ho];simp)]
theorem putRec_calm {s:CSt}(h:Big s)(ho:s.off=false)(hc:s.cut=false)(r:Rec):(s.putRec r).2=0/\(s.putRec r).1.cut=false/\(s.putRec r).1.off=false:=by
 have hq:(r.seq - 1) % 9 < 9:=Nat.mod_lt _ (by decide);have hz:=h.size;have z:(s.zeroAt ((r.seq - 1) % 9*17+16)).2=0/\(s.zeroAt ((r.seq - 1) % 9*17+16)).1.cut=false/\(s.zeroAt ((r.seq - 1) % 9*17+16)).1.off=false/\(s.zeroAt ((r.seq - 1) % 9*17+16)).1.size=s.size:=by
  unfold CSt.zeroAt;have hz1:s.err (((r.seq - 1) % 9*17+16:Nat):Int) 1=0:=err_in (n:=1) ho (by omega);rw[if_pos hz1]
  split
  ·exact⟨rfl,hc,ho,rfl⟩
  ·rw[writeE_calm (err_in (n:=1) ho (by omega)) hc];exact⟨rfl,by rw[CSt.puts_cut];exact hc,by rw[CSt.puts_off];exact ho,by rw[CSt.puts_size]⟩
 obtain⟨z1,z2,z3,z4⟩:=z;unfold CSt.putRec;simp only[];rw[if_pos z1];have e1:=writeE_calm (s:=(s.zeroAt ((r.seq - 1) % 9*17+16)).1) (p:=(r.seq - 1) % 9*17) (l:=enc16 r) (err_in z3 (by rw[enc16_length,z4];omega)) z2;rw[e1,if_pos rfl];have e2:=writeE_calm (s:=(s.zeroAt ((r.seq - 1) % 9*17+16)).1.puts ((r.seq - 1) % 9*17) (enc16 r)) (p:=(r.seq - 1) % 9*17+16) (l:=[165]) (err_in (n:=1) (by rw[CSt.puts_off];exact z3) (by rw[CSt.puts_size,z4];omega)) (by rw[CSt.puts_cut];exact z2);rw[e2];exact⟨rfl,by rw[CSt.puts_cut,CSt.puts_cut];exact z2,by rw[CSt.puts_off,CSt.puts_off];exact z3⟩
structure Calm (K:KSt)(S:Nat):Prop where
 off:K.c.off=false
 cut:K.c.cut=false
 sp:K.sp=false
 seq:(lastR K.L).seq<=S
section
variable {c:CfgD}{K:KSt}{k W S:Nat}
theorem Calm.app (h:Calm K S)(hf:KFit c K k W)(hS:S < 4294967295)(e kd t:Nat):(K.app e kd t).2=0/\Calm (K.app e kd t).1 (S+1):=by
 obtain⟨a1,a2,a3⟩:=putRec_calm hf.big h.off h.cut (nextR K.L e kd t);have hs:=h.seq;have hB:K.app e kd t=({ K with c:=(K.c.putRec (nextR K.L e kd t)).1,L:=keepL K.L (nextR K.L e kd t) },0):=by unfold KSt.app;rw[if_neg (by rw[h.sp];simp),if_neg (by omega),if_pos a1]
 rw[hB]
 refine⟨rfl,a3,a2,h.sp,?_⟩;show (lastR (keepL K.L _)).seq<=_
 rw[keepL_last];show (lastR K.L).seq+1<=_
 omega
theorem Calm.mono (h:Calm K S){S':Nat}(hS:S<=S'):Calm K S':=⟨h.off,h.cut,h.sp,Nat.le_trans h.seq hS⟩
theorem Calm.setL (h:Calm K S)(i:Nat)(s:LSt):Calm (K.setL i s) S:=⟨h.off,h.cut,h.sp,h.seq⟩
theorem Calm.ends (h:Calm K S)(hf:KFit c K k W)(hi:∀ s∈K.ls,LFit s (k+K.d.now - 1))(h1:1<=K.d.now)(n:Nat)(hS:S+n < 4294967295):(K.ends c n).2=0/\Calm (K.ends c n).1 (S+n):=by
 induction n with
 | zero=>exact⟨rfl,h⟩
 | succ n ih=>
  obtain⟨i1,i2⟩:=ih (by omega);obtain⟨f1,-,f3,-,f5⟩:=hf.ends h.off hi h1 n;show (if (K.ends c n).2=0 then (K.ends c n).1.endOne c n else K.ends c n).2=0/\Calm (if (K.ends c n).2=0 then (K.ends c n).1.endOne c n else K.ends c n).1 _
  rw[if_pos i1];unfold KSt.endOne
  split
  ·exact⟨rfl,i2.mono (by omega)⟩
  ·rename_i s hs
   split
   ·refine(i2.setL n _).app (f1.finL hs ?_ ?_ _) (by omega) _ _ _
    ·rw[f3];rw[f5 n (Nat.le_refl _)] at hs;exact hi s (List.mem_of_getElem? hs)
    ·rw[f3];exact h1
   ·exact⟨rfl,(i2.setL n _).mono (by omega)⟩
structure TickF (c:CfgD)(K K':KSt)(code:Nat):Prop where
 now:K'.d.now=K.d.now+1
 win:K'.d.closed=K.d.closed/\K'.d.opn=K.d.opn
 reset:K'.d.reset=decide (K.d.closed+K.d.opn < K.d.now+1 - K.d.begun)
 code:code=if K.d.closed+K.d.opn < K.d.now+1 - K.d.begun then 11 else 0
 kick:(K'.d.kicks=K.d.kicks/\K'.d.begun=K.d.begun)\/(K'.d.kicks=K.d.kicks+1/\K'.d.begun=K.d.now+1/\(K.d.now+1) % c.cycle.toNat=0/\K.d.closed < K.d.now+1 - K.d.begun/\¬K.d.closed+K.d.opn < K.d.now+1 - K.d.begun)
theorem Calm.tick (h:Calm K S)(hf:KFit c K k W)(hr:KRt c)(hn:K.d.now < 1099511627776)(hre:K.d.reset=false)(hS:S+8 < 4294967295):TickF c K (K.tick c).1 (K.tick c).2/\Calm (K.tick c).1 (S+8):=by
 have hon:K.on=0:=KSt.on_zero.2 ⟨h.off,hre⟩;have ht:Calm K.ticked S:=⟨h.off,h.cut,h.sp,h.seq⟩;obtain⟨t1,t2,t3⟩:=hf.ticked hn;have hnn:=hr.nn;obtain⟨e1,e2⟩:=ht.ends t1 t2 t3 c.ents.length (by omega);obtain⟨-,-,e3,-,-⟩:=t1.ends h.off t2 t3 c.ents.length;unfold KSt.tick;rw[if_neg (by omega)]
 by_cases hl:K.d.closed+K.d.opn < K.d.now+1 - K.d.begun
 ·have hr1:K.ticked.d.reset=true:=decide_eq_true hl;rw[if_pos hr1];exact⟨⟨rfl,⟨rfl,rfl⟩,rfl,by rw[if_pos hl],Or.inl ⟨rfl,rfl⟩⟩,ht.mono (by omega)⟩
 ·have hr1:K.ticked.d.reset=false:=decide_eq_false hl;rw[if_neg (by rw[hr1];simp)]
  split
  ·exact⟨⟨rfl,⟨rfl,rfl⟩,rfl,by rw[if_neg hl],Or.inl ⟨rfl,rfl⟩⟩,ht.mono (by omega)⟩
  ·rename_i hm;have hm':(K.d.now+1) % c.cycle.toNat=0:=by have:¬(K.d.now+1) % c.cycle.toNat≠0:=hm;omega
   have e2':=e2.mono (S':=S+8) (by omega);generalize (K.ticked.ends c c.ents.length).1=K5 at e2' e3;show TickF c K K5.last 0/\Calm K5.last (S+8)
   unfold KSt.last;simp only[]
   split
   ·rename_i hk;have ho:=hk.2;rw[e3] at ho;unfold DSt.isOpen at ho;simp only[Bool.and_eq_true,decide_eq_true_eq] at ho;have ho2:K.d.closed < K.d.now+1 - K.d.begun:=ho.2
    refine⟨⟨?_,?_,?_,by rw[if_neg hl],Or.inr ⟨?_,?_,hm',ho2,hl⟩⟩,⟨e2'.off,e2'.cut,e2'.sp,e2'.seq⟩⟩
    ·show K5.d.now=_;rw[e3];rfl
    ·constructor
     ·show K5.d.closed=_;rw[e3];rfl
     ·show K5.d.opn=_;rw[e3];rfl
    ·show K5.d.reset=_;rw[e3];rfl
    ·show K5.d.kicks+1=_;rw[e3];rfl
    ·show K5.d.now=_;rw[e3];rfl
   ·refine⟨⟨?_,?_,?_,by rw[if_neg hl],Or.inl ⟨?_,?_⟩⟩,⟨e2'.off,e2'.cut,e2'.sp,e2'.seq⟩⟩
    ·show K5.d.now=_;rw[e3];rfl
    ·constructor
     ·show K5.d.closed=_;rw[e3];rfl
     ·show K5.d.opn=_;rw[e3];rfl
    ·show K5.d.reset=_;rw[e3];rfl
    ·show K5.d.kicks=_;rw[e3];rfl
    ·show K5.d.begun=_;rw[e3];rfl
end
def quietE (e:EntD):Prop:=e.cnt=-1/\e.gaps=[]/\e.edges=[]
theorem kindL_quiet {e:EntD}(h:quietE e)(l:List MkD)(cyc:Int):kindL e l cyc=0:=by
 obtain⟨h1,h2,h3⟩:=h;have hf:flowBad e l cyc=false:=flowBad_no (fun k _=>by
  unfold fbadI
  split
  ·simp[fbadM,bearsE,h3]
  ·rfl)
 unfold kindL;rw[if_neg (by rw[h1];omega),h2,if_neg (by simp),hf,if_neg (by simp)]
def qk (cl cy:Nat):Nat->Nat × Nat
 | 0=>(0,0)
 | m+1=>if cl < (m+1)*cy - (qk cl cy m).2 then ((qk cl cy m).1+1,(m+1)*cy) else qk cl cy m
theorem qk_le (cl cy:Nat):∀ m,(qk cl cy m).2<=m*cy/\m*cy - (qk cl cy m).2<=cl
 | 0=>⟨by simp[qk],by simp[qk]⟩
 | m+1=>by
  obtain⟨h1,h2⟩:=qk_le cl cy m;unfold qk
  split
  ·exact⟨Nat.le_refl _,by show (m+1)*cy - (m+1)*cy<=cl;omega⟩
  ·rename_i h;rw[Nat.succ_mul] at h ⊢;exact⟨by omega,by omega⟩
structure Quiet (c:CfgD)(K:KSt):Prop where
 st:K.t.st=0
 ls:∀ s∈K.ls,s.run=0/\s.ex=false
 none:K.L=[]
 cl:K.d.closed=c.closed.toNat
 op:K.d.opn=c.opn.toNat
 res:K.d.reset=false
 kk:(K.d.kicks,K.d.begun)=qk c.closed.toNat c.cycle.toNat (K.d.now / c.cycle.toNat)
section
variable {c:CfgD}{K:KSt}{k W S:Nat}
theorem Quiet.endsQ (hq:∀ e∈c.ents,quietE e/\0<=e.tol)(h:∀ s∈K.ls,s.run=0/\s.ex=false)(hl:K.ls.length=c.ents.length):∀ n,(K.ends c n).2=0/\(∀ s∈(K.ends c n).1.ls,s.run=0/\s.ex=false)/\(K.ends c n).1.L=K.L/\(K.ends c n).1.d=K.d/\(K.ends c n).1.t=K.t/\(K.ends c n).1.ls.length=c.ents.length
 | 0=>⟨rfl,h,rfl,rfl,rfl,hl⟩
 | n+1=>by
  obtain⟨i1,i2,i3,i4,i5,i6⟩:=Quiet.endsQ hq h hl n;have e:K.ends c (n+1)=(K.ends c n).1.endOne c n:=by
   show (if (K.ends c n).2=0 then (K.ends c n).1.endOne c n else K.ends c n)=_
   rw[if_pos i1]
  rw[e];unfold KSt.endOne
  split
  ·exact⟨rfl,i2,i3,i4,i5,i6⟩
  ·rename_i s hs;obtain⟨s1,s2⟩:=i2 s (List.mem_of_getElem? hs);have hn:n < c.ents.length:=by rw[<- i6];exact(List.getElem?_eq_some_iff.1 hs).1
   have hm:c.ents.getD n noEnt∈c.ents:=by
    rw[List.getD_eq_getElem?_getD,List.getElem?_eq_getElem hn];exact List.getElem_mem hn
   obtain⟨q1,q2⟩:=hq _ hm;have hr1:s.run1 (c.ents.getD n noEnt)=0:=by unfold LSt.run1;rw[kindL_quiet q1,if_pos rfl]
   have ht:s.turns (c.ents.getD n noEnt)=false:=by
    unfold LSt.turns;rw[hr1,decide_eq_false (by omega)];simp
   rw[if_neg (by rw[ht];simp)]
   refine⟨rfl,fun x hx=>?_,i3,i4,i5,by show (List.set _ _ _).length=_;rw[List.length_set];exact i6⟩
   rcases List.mem_or_eq_of_mem_set hx with hx | rfl
   ·exact i2 x hx
   ·unfold LSt.fin
    split
    ·exact⟨hr1,by show (s.ex || _)=false;rw[s2,hr1,decide_eq_false (by omega)];rfl⟩
    ·exact⟨s1,s2⟩
theorem worst_quiet {ls:List LSt}(h:∀ s∈ls,s.run=0/\s.ex=false):worstOf (ls.map fun s=>statB s.status)=0:=by
 have hs:∀ s∈ls,statB s.status=statB 0\/statB s.status=statB 1:=fun s hm=>by
  obtain⟨a,b⟩:=h s hm;unfold LSt.status;rw[a,b]
  split
  ·exact Or.inr rfl
  ·exact Or.inl rfl
 have no:∀ x:ByteArray,x≠statB 0->x≠statB 1->hasB (ls.map fun s=>statB s.status) x=false:=fun x h0 h1=>by
  unfold hasB;rw[List.any_eq_false];intro y hy;obtain⟨s,hm,rfl⟩:=List.mem_map.1 hy
  rcases hs s hm with e | e
  ·rw[e];simp;exact fun e2=>h0 e2.symm
  ·rw[e];simp;exact fun e2=>h1 e2.symm
 unfold worstOf;rw[no expiredB (by unfold expiredB statB;simp) (by unfold expiredB statB;simp),no failedB (by unfold failedB statB;simp) (by unfold failedB statB;simp)];rfl
theorem Quiet.tick (h:Quiet c K)(hr:KRt c)(hq:∀ e∈c.ents,quietE e)(hl:K.ls.length=c.ents.length)(hoff:K.c.off=false):Quiet c (K.tick c).1/\(K.tick c).2=0/\(K.tick c).1.d.now=K.d.now+1:=by
 have hon:K.on=0:=KSt.on_zero.2 ⟨hoff,h.res⟩;have hcy:=hr.cy;have hle:=hr.le;have hop:=hr.op;have hcl:=hr.cl;obtain⟨cy,hcy2⟩:∃ cy,cy=c.cycle.toNat:=⟨_,rfl⟩;have cy1:1<=cy:=by omega
 have hkk:=h.kk;rw[<- hcy2] at hkk;have hb:K.d.begun=(qk c.closed.toNat cy (K.d.now / cy)).2:=by rw[<- hkk]
 obtain⟨g1,g2⟩:=qk_le c.closed.toNat cy (K.d.now / cy);rw[<- hb] at g1 g2;have hdm:=Nat.div_add_mod K.d.now cy;have hmm:=Nat.mod_lt K.d.now (show 0 < cy by omega);rw[Nat.mul_comm] at hdm;have nores:¬K.d.closed+K.d.opn < K.d.now+1 - K.d.begun:=by rw[h.cl,h.op];omega
 have hre:K.ticked.d.reset=false:=decide_eq_false nores;unfold KSt.tick;rw[if_neg (by omega),if_neg (by rw[hre];simp),<- hcy2]
 by_cases hm:(K.d.now+1) % cy=0
 ·have hdiv:(K.d.now+1) / cy=K.d.now / cy+1:=Nat.succ_div_of_mod_eq_zero hm;have hmul:(K.d.now / cy+1)*cy=K.d.now+1:=by rw[<- hdiv];exact Nat.div_mul_cancel (Nat.dvd_of_mod_eq_zero hm)
  have hm2:K.ticked.d.now % cy=0:=hm;rw[if_neg (by omega)];obtain⟨e1,e2,e3,e4,e5,e6⟩:=Quiet.endsQ (K:=K.ticked) (fun e he=>⟨hq e he,(hr.each e he).2.2.1⟩) h.ls hl c.ents.length;rw[if_pos e1];generalize (K.ticked.ends c c.ents.length).1=K5 at e2 e3 e4 e5 e6;have hst:(K5.t.fin (K5.ls.map fun (s:LSt)=>statB s.status)).st=0:=by
   rw[e5];show (K.t.fin _).st=0
   unfold TSt.fin;rw[h.st,if_neg (by decide),if_neg (by decide),worst_quiet e2];rfl
  show Quiet c K5.last/\0=0/\K5.last.d.now=_
  have hop5:K5.d.isOpen=decide (c.closed.toNat < K.d.now+1 - K.d.begun):=by
   rw[e4];unfold DSt.isOpen;rw[hre];show (!false && decide (K.d.closed < K.d.now+1 - K.d.begun))=_
   rw[h.cl];rfl
  by_cases ho:c.closed.toNat < K.d.now+1 - K.d.begun
  ·have hL:K5.last={ { K5 with t:=K5.t.fin (K5.ls.map fun (s:LSt)=>statB s.status) } with d:=K5.d.kick }:=by
    unfold KSt.last;simp only[];rw[if_pos ⟨by rw[hst];decide,by rw[hop5];exact decide_eq_true ho⟩]
   rw[hL]
   refine⟨⟨hst,e2,e3.trans h.none,?_,?_,?_,?_⟩,rfl,?_⟩
   ·show K5.d.closed=_;rw[e4];exact h.cl
   ·show K5.d.opn=_;rw[e4];exact h.op
   ·show K5.d.reset=_;rw[e4];exact hre
   ·show (K5.d.kicks+1,K5.d.now)=_
    rw[e4,<- hcy2];show (K.d.kicks+1,K.d.now+1)=qk c.closed.toNat cy ((K.d.now+1) / cy)
    rw[hdiv];unfold qk;rw[if_pos (by rw[hmul,<- hb];exact ho),hmul,<- hkk]
   ·show K5.d.now=_;rw[e4];rfl
  ·have hL:K5.last={ K5 with t:=K5.t.fin (K5.ls.map fun (s:LSt)=>statB s.status) }:=by
    unfold KSt.last;simp only[];rw[if_neg (fun x=>by have:=x.2;rw[hop5] at this;exact ho (of_decide_eq_true this))]
   rw[hL]
   refine⟨⟨hst,e2,e3.trans h.none,?_,?_,?_,?_⟩,rfl,?_⟩
   ·show K5.d.closed=_;rw[e4];exact h.cl
   ·show K5.d.opn=_;rw[e4];exact h.op
   ·show K5.d.reset=_;rw[e4];exact hre
   ·show (K5.d.kicks,K5.d.begun)=_
    rw[e4,<- hcy2];show (K.d.kicks,K.d.begun)=qk c.closed.toNat cy ((K.d.now+1) / cy)
    rw[hdiv];unfold qk;rw[if_neg (by rw[hmul,<- hb];exact ho)];exact hkk
   ·show K5.d.now=_;rw[e4];rfl
 ·have hm2:K.ticked.d.now % cy≠0:=hm;rw[if_pos hm2]
  refine⟨⟨h.st,h.ls,h.none,h.cl,h.op,hre,?_⟩,rfl,rfl⟩;rw[<- hcy2];show (K.d.kicks,K.d.begun)=qk c.closed.toNat cy ((K.d.now+1) / cy)
  rw[Nat.succ_div_of_mod_ne_zero hm];exact hkk
end
end Go.Proofs.YtdpdbfhbojgigacGreatDoor
namespace Go.Proofs.YtdpdbfhbojgigacGreatDoor
open Go.RowKit Go.Extern.Stop Go.Stop Go.Extern
def last8 (D:List Rec):List Rec:=D.drop (D.length - 8)
theorem last8_last {s:CSt}{D:List Rec}(h:Inv s D):(lastR (last8 D)).seq=D.length:=by
 unfold lastR last8
 by_cases h0:D.length=0
 ·have:D=[]:=List.length_eq_zero_iff.1 h0;subst this;rfl
 ·rw[List.getLast?_eq_getElem?,List.length_drop,List.getElem?_drop,show D.length - 8+(D.length - (D.length - 8) - 1)=D.length - 1 by omega,List.getElem?_eq_getElem (by omega)];show (D[D.length - 1]).seq=_
  rw[h.seq];omega
end Go.Proofs.YtdpdbfhbojgigacGreatDoor
namespace Go.Proofs.YtdpdbfhbojgigacGreatDoor
open Go
structure KInv (K:KSt)(D:List Rec):Prop where
 inv:Inv K.c D
 L:K.L=last8 D
section
variable {c:CfgD}{K:KSt}{k W S:Nat}{D:List Rec}
theorem KInv.lastSeq (h:KInv K D):(lastR K.L).seq=D.length:=by rw[h.L];exact last8_last h.inv
theorem KInv.opened (h:Inv K.c D):KInv (KSt.opened c K) D:=by
 have e:openL (K.c.bytes.take K.c.size)=last8 D:=by rw[openL_take _ _ h.big.size,h.opens,last8]
 unfold KSt.opened;rw[e];exact⟨h,rfl⟩
theorem KInv.new:KInv (KSt.new c (CSt.new 4096)) []:=KInv.opened (Inv.new 4096 (by decide) (by decide))
theorem Calm.new:Calm (KSt.new c (CSt.new 4096)) 0:=⟨rfl,rfl,rfl,by rw[(KInv.new (c:=c)).lastSeq];exact Nat.le_refl _⟩
end
section
variable {c:CfgD}{K:KSt}{k W:Nat}
structure QC (c:CfgD)(K:KSt):Prop where
 q:Quiet c K
 a:Calm K 0
theorem QC.tick (h:QC c K)(hr:KRt c)(hq:∀ e∈c.ents,quietE e)(hf:KFit c K k W)(hn:K.d.now < 1099511627776):QC c (K.tick c).1/\(K.tick c).2=0/\(K.tick c).1.d.now=K.d.now+1:=by
 obtain⟨a1,a2,a3⟩:=h.q.tick hr hq hf.len h.a.off;obtain⟨-,b2⟩:=h.a.tick hf hr hn h.q.res (by decide);exact⟨⟨a1,b2.off,b2.cut,b2.sp,by rw[a1.none];exact Nat.le_refl _⟩,a2,a3⟩
end
theorem krt_of {c:CfgD}(h:(cfgErr c).1=0):KRt c:=by
 have ok:=okC_of h;have sz:=cfg_size h
 refine⟨ok.closed,ok.opn,ok.cycle,ok.delay,?_,ok.many,fun e he=>?_⟩
 ·unfold cfgErr at h
  split at h
  ·rename_i h0;unfold wholeErr at h0;obtain⟨-,h0⟩:=firstOf_cons (by simp) h0;obtain⟨-,h0⟩:=firstOf_cons (by simp) h0;obtain⟨-,h0⟩:=firstOf_cons (by simp) h0;obtain⟨-,h0⟩:=firstOf_cons (by simp) h0;obtain⟨q5,-⟩:=firstOf_cons (by simp) h0;simp at q5
   exact q5
  ·rename_i h0;exact absurd h h0
 ·have oe:=ok.ents e he;have se:=sz e he;have nm:∀ s:ByteArray,isName s=true->s.size<=12:=fun s hs=>by
   unfold isName at hs;simp only[Bool.and_eq_true,decide_eq_true_eq] at hs;exact hs.1.1.2
  have n1:=nm _ oe.name;have n2:=se.pts;have n3:=se.gaps;have n4:=se.edges;have n5:=se.first;have n6:=se.last
  refine⟨⟨by omega,by omega,fun p hp=>Nat.le_trans (nm p (oe.pn p hp)) (by decide),by omega,by omega,by omega,by omega⟩,?_,oe.tol.1,fun p hp=>?_⟩
  ·rcases oe.cnt with hc | hc
   ·omega
   ·exact hc.2
  ·obtain⟨h1,h2⟩:=oe.edges p hp;exact⟨wf64_of (by omega) (by omega),wf64_of (by omega) (by omega)⟩
end Go.Proofs.YtdpdbfhbojgigacGreatDoor
