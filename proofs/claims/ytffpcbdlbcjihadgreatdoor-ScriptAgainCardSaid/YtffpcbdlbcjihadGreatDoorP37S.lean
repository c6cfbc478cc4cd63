/-
  Several texts as one: ScRun, ScHel, DcSmT, ScLaw, ScAgW, ScAgArg.
-/
import Derived.Test.YtffpcbdlbcjihadGreatDoorP36S
import Derived.Deep.AppendLies
import Derived.Laws.MakeOwn
import Derived.Deep.QuietTactic
import Derived.BigQuiet
namespace Go.Proofs.YtffpcbdlbcjihadGreatDoor
open Go.RowKit Go.Extern.Stop Go.Stop Go.Extern
structure ScLp (v0 v1 w0 wr:World)(c:CfgD)(kb bc:Nat)(K:KSt)(av:Value)(xs:List ByteArray):Prop where
 at':∃ G,KeAt G w0 wr c kb bc K/\(∀ k,G k->k < v0.heap.size\/v1.heap.size<=k)/\∀ k,av.ownBlock=some k->¬G k
 st:∀ k,v0.heap.size<=k->k < v1.heap.size->wr.heap[k]?=v1.heap[k]?
 sz:v1.heap.size<=wr.heap.size
 own:wr.ownsRow v1.heap.size 9 1 av xs.length (xs.flatMap encS)
section
variable {A:Nat->Addr}{G:Nat->Prop}{v0 v1 w0 w wr wr':World}{c:CfgD}{kb bc:Nat}{K K':KSt}{k:Nat}{av:Value}{xs:List ByteArray}
theorem ScLp.step (h2:∀ k,G k->k < v0.heap.size\/v1.heap.size<=k)(h3:∀ k,av.ownBlock=some k->¬G k)(st:∀ k,v0.heap.size<=k->k < v1.heap.size->wr.heap[k]?=v1.heap[k]?)(sz:v1.heap.size<=wr.heap.size)(own:wr.ownsRow v1.heap.size 9 1 av xs.length (xs.flatMap encS))(hp:KePost G w0 wr c kb bc K' wr'):ScLp v0 v1 w0 wr' c kb bc K' av xs:=by
 refine⟨⟨_,hp.1,fun k hk=>?_,fun k hk hg=>?_⟩,fun k h4 h5=>?_,Nat.le_trans sz hp.2.size,ow_same own (fun g hg=>hp.2.block g (own.lt g hg).2 (h3 g hg))⟩
 ·rcases hk with hk | ⟨a,b⟩
  ·exact h2 k hk
  ·exact Or.inr (Nat.le_trans sz a)
 ·rcases hg with hg | ⟨a,_⟩
  ·exact h3 k hk hg
  ·have:=(own.lt k hk).2;omega
 ·exact(hp.2.block k (by omega) (fun e=>by rcases h2 k e with a | a <;> omega)).trans (st k h4 h5)
theorem ScLp.more (h:ScLp v0 v1 w0 wr c kb bc K av xs)(hw:w0.heap.size<=v1.heap.size){o:Obj}{y:ByteArray}{g cap n:Nat}(hn:xs.length+1=n)(hown:wr'.ownsRow v1.heap.size 9 1 (.slice (some ⟨g,0,none⟩) n cap) n (xs.flatMap encS++[.string y]))(hg:(wr.alloc o).grownBy wr' av.ownBlock)(hor:av.ownBlock=some g\/g=wr.heap.size+1):ScLp v0 v1 w0 wr' c kb bc K (.slice (some ⟨g,0,none⟩) n cap) (xs++[y]):=by
 have hb:=Below.one wr o;have hof:Off (fun k=>av.ownBlock=some k) (wr.alloc o) wr':=⟨hg.os,hg.tape,hg.output,hg.size,fun k hk hn=>hg.block k hk (fun e=>hn e.symm)⟩;have hlt:∀ k,av.ownBlock=some k->v1.heap.size<=k:=fun k hk=>(h.own.lt k hk).1
 obtain⟨G,h1,h2,h3⟩:=h.at';have hz:wr.heap.size<=wr'.heap.size:=Nat.le_trans hb.size hof.size
 refine⟨⟨fun k=>G k/\k < wr.heap.size,(h1.trim.below hb).off hof (fun k hk e=>h3 k e hk.1) (fun k hk=>Nat.le_trans hw (hlt k hk)),fun k hk=>h2 k hk.1,fun k hk hi=>?_⟩,fun k h4 h5=>?_,Nat.le_trans h.sz hz,?_⟩
 ·cases hk
  rcases hor with hor | hor
  ·exact h3 g hor hi.1
  ·have h5:g < wr.heap.size:=hi.2;omega
 ·have h6:=h.sz;rw[hof.block k (Nat.lt_of_lt_of_le (show k < wr.heap.size by omega) hb.size) (fun e=>by have:=hlt k e;omega),hb.block k (by omega)];exact h.st k h4 h5
 ·have e:(xs++[y]).flatMap encS=xs.flatMap encS++[.string y]:=by rw[List.flatMap_append];rfl
  rw[e,List.length_append,List.length_singleton,hn];exact hown
end
def txts (l:List Bs):List ByteArray:=l.map fun x=>⟨x.toArray⟩
def RnOut (A:Nat->Addr)(T:Nat->Bs)(w:World)(s:Bs)(ls:List Bs)(e:Ending)(w':World):Prop:=
 Below w.heap.size w w'/\∃ av ev,e=.returned (.tuple #[av,ev])/\(100 < ls.length->av=.slice none 0 0/\ev=errVal A 2) /\
  (ls.length<=100->(readR lookL s).1.1≠0->av=.slice none 0 0/\ErrAt A w' ev (readR lookL s).1) /\
  (ls.length<=100->(readR lookL s).1.1=0->ev=.nilIface/\SlOwn encS 1 9 w.heap.size w' av (txts (scAns (readR lookL s).2 T (KSt.new (readR lookL s).2 (CSt.new 4096)) ls)))
set_option maxHeartbeats 8000000 in
set_option maxRecDepth 100000 in
theorem run_at (A:Nat->Addr)(T:Nat->Bs)(s:ByteArray)(ls:List ByteArray)(la:Option Addr)(lc:Nat)(w:World)(h:ScEnv A w)(hT:∀ i,i < 11->w.cell? (A i)=some (.string ⟨(T (i+1)).toArray⟩))(hn:s.size<=9223372036854775807)(hls:SlAt encS 1 w (.slice la ls.length lc) ls)(hsz:∀ l∈ls,l.size<=1000000)(hlen:ls.length<=1000000)(htk:scTicks (ls.map bl)<=800000) :
  Calls Tryz.prog 7 #[.string s,.slice la ls.length lc] w fun e w'=>RnOut A T w (bl s) (ls.map bl) e w':=by
 by_cases h100:100 < ls.length
 ·have k1:(100:Int) < (ls.length:Int):=by omega
  have sen:=h.sk.c1;clear h hT hn hls hsz hlen htk;go_enter Tryz.func7,Tryz.ntmps7
  go_wp2_with fail
  go_region
  all_goals go_wp2
  all_goals go_ret2
  all_goals exact⟨below_drewN (Below.refl _ _) 1,_,_,rfl,fun _=>⟨rfl,rfl⟩,fun e=>absurd h100 (by rw[List.length_map] at e;omega),fun e=>absurd h100 (by rw[List.length_map] at e;omega)⟩
 ·have k1:¬(100:Int) < (ls.length:Int):=by omega
  have HX:Hid _:=newPlayer_at A s w h hn;have HE:Hid _:=h;have HT:Hid _:=hT;have HLs:Hid _:=hls;have HSz:Hid (∀ l∈ls,l.size<=1000000):=hsz;have HTk:Hid (scTicks (ls.map bl)<=800000/\ls.length<=100):=⟨htk,by omega⟩
  by_cases h0:(readR lookL (bl s)).1.1=0
  ·have H0:Hid _:=h0;clear h hT hn hls hsz hlen htk h100 h0;go_enter Tryz.func7,Tryz.ntmps7
   go_wp2_with fail
   refine Calls.mono HX.out ?_;intro e w1 he;obtain⟨sa,sc,w0,F,kb,bc,rfl,hctx,hat,hF,hb0⟩:=he.2 H0.out;obtain⟨c,hcd⟩:∃ c,c=(readR lookL (bl s)).2:=⟨_,rfl⟩;rw[<- hcd] at hctx hat ⊢;have HCd:Hid _:=hcd;obtain⟨v0,hv0⟩:∃ V,V=w1.alloc (.cells (plRow c kb bc (.slice sa c.ents.length sc)) 66):=⟨_,rfl⟩;have hbv:Below w1.heap.size w1 v0:=by rw[hv0];exact Below.one _ _
   have hrv:v0.heap[w1.heap.size]?=some (.cells (plRow c kb bc (.slice sa c.ents.length sc)) 66 (0,0)):=by rw[hv0];exact heap_alloc_new w1 _
   have HRv:Hid _:=hrv;have HCm:Hid (Calls Tryz.prog 23 #[.agg #[.pointer (some ⟨kb,0,none⟩),.pointer (some ⟨bc,0,none⟩),.int .i64 c.closed,.int .i64 c.opn,.int .i64 c.cycle,.int .i64 c.delay,.slice sa c.ents.length sc]] v0 fun e w'=>e=.returned (.map (some (v0.heap.size+1)))/\CmN v0 w' v0.heap.size (v0.heap.size+1) (plRow c kb bc (.slice sa c.ents.length sc)) 14):=commands_at c kb bc (.slice sa c.ents.length sc) v0;have HAt0:Hid (KeAt F w0 v0 c kb bc (KSt.new c (CSt.new 4096))/\ScCtx A w0 c sa sc/\(∀ k,F k->k < v0.heap.size)/\w0.heap.size<=v0.heap.size):=⟨hat.below hbv,hctx,fun k hk=>Nat.lt_of_lt_of_le (hF k hk).2 hbv.size,Nat.le_trans hat.bel.size hbv.size⟩;have HB0:Hid _:=hb0;clear he hctx hat hF hb0 hcd hbv hrv HX;unfold plRow at hv0 ⊢;go_upto_region 4 with fail
   rw[<- hv0];clear hv0;go_wp2_with (refine wpList_load_row rfl 66 _ rfl w1.heap.size rfl _ _ _ _ HRv.out Tryz.underlying66 rfl Tryz.sizePl ?_)
   refine Calls.mono HCm.out ?_;rintro e v1 ⟨rfl,hcm⟩;obtain⟨i0,hi0,hz0,hz1,hz2⟩:=info_parts Tryz.infoStrT;obtain⟨W1,hmk,hown1,hg1⟩:=run_make_own (P:=Tryz.prog) v1 v1.heap.size 22 9 i0 (.string ⟨#[]⟩) 1 Tryz.underlying22 hi0 hz0 hz1 .i64 .i64 ls.length (by rw[hz2];have:=HTk.out.2;omega) (by have:=HTk.out.2;unfold maxLen;omega) (Nat.le_refl _);have hb1:Below v1.heap.size v1 W1:=⟨hg1.os,hg1.tape,hg1.output,hg1.size,fun k hk=>hg1.block k hk (by simp)⟩;have hzv:v0.heap.size<=v1.heap.size:=hcm.bel.size;have HL:Hid (ScLp v0 v1 w0 W1 c kb bc (KSt.new c (CSt.new 4096)) (.slice (some ⟨v1.heap.size,0,none⟩) 0 ls.length) []):=⟨⟨F,(HAt0.out.1.below hcm.bel).below hb1,fun k hk=>Or.inl (HAt0.out.2.2.1 k hk),fun k hk hF=>by cases hk;have h5:v1.heap.size < v0.heap.size:=HAt0.out.2.2.1 _ hF;omega⟩,fun k _ h5=>hb1.block k h5,hb1.size,hown1⟩;have HCm2:Hid _:=hcm.toCmL;have HZ:Hid (w0.heap.size<=v1.heap.size/\v0.heap.size < v1.heap.size):=⟨Nat.le_trans HAt0.out.2.2.2 hzv,lt_of_row hcm.box⟩;have HC9:Hid (ScCtx A w0 c sa sc/\KRt c):=⟨HAt0.out.2.1,HAt0.out.2.1.rt⟩;have hmap:Option.map (fun x:Addr=>x.add 0) la=la:=by cases la with | none=>rfl | some a=>simp[add_zero'']
   have HFt:Hid (∀ i,i<=ls.length->KFit c (scRun c (KSt.new c (CSt.new 4096)) ((ls.map bl).take i)) (0+i) (144*(scRun c (KSt.new c (CSt.new 4096)) ((ls.map bl).take i)).d.now)/\(scRun c (KSt.new c (CSt.new 4096)) ((ls.map bl).take i)).d.now<=scTicks ((ls.map bl).take i)/\(scRun c (KSt.new c (CSt.new 4096)) ((ls.map bl).take i)).LB):=fun i hi=>by
    have hk0:(KSt.new c (CSt.new 4096)).d.now=0:=rfl;have h5:=scTicks_take (ls.map bl) i;have h6:=HTk.out.1;have h7:=scRun_fit HC9.out.2 ((ls.map bl).take i) (KSt.new c (CSt.new 4096)) 0 (kfit_new HC9.out.2) (by rw[hk0];omega);rw[List.length_take,List.length_map,Nat.min_eq_left hi,hk0] at h7;exact⟨h7.1,by omega,LB.scRun HC9.out.2 _ _ 0 (LB.new c _) (kfit_new HC9.out.2) (by rw[hk0];omega)⟩
   clear hcm hown1 hg1 hb1 hzv HCm HRv HAt0;go_upto_region 8 with fail
   go_cut [29,30,31] (fun l' n i wx=>l'=.slice la ls.length lc/\n=.int .i64 (ls.length:Int)/\i=.int .i64 0/\wx=W1)
   case first=>
    go_wp2_with fail
    go_meet
    case rel=>exact⟨rfl,rfl,rfl,rfl⟩
   obtain⟨rfl,rfl,rfl,rfl⟩:=hcut;clear hmk hmap;rename World=>W1
   go_wp2_with fail
   generalize hK0:KSt.new c (CSt.new 4096)=K0 at HL HFt;have HK0:Hid (KSt.new c (CSt.new 4096)=K0):=hK0;clear hK0
   go_loopw [9,11,31] (fun av _ i wr=>∃ n:Nat,n<=ls.length/\i=.int .i64 n/\Hid (ScLp v0 v1 w0 wr c kb bc (scRun c K0 ((ls.map bl).take n)) av (txts (scAns c T K0 ((ls.map bl).take n))))) (fun _ _ i _=>ls.length - (intOf i).toNat)
   case atStart=>exact⟨0,Nat.zero_le _,rfl,HL.out⟩
   case round=>
    clear HL;obtain⟨n,hnl,rfl,HL⟩:=hrel;have hal:(txts (scAns c T K0 ((ls.map bl).take n))).length=n:=by unfold txts;rw[List.length_map,scAns_length,List.length_take,List.length_map];omega
    obtain⟨ka,kc,hkv⟩:=ow_form HL.out.own;rw[hal] at hkv;subst hkv;have HAl:Hid ((txts (scAns c T K0 ((ls.map bl).take n))).length=n):=hal;clear hal;obtain⟨G,a1,a2,a3⟩:=HL.out.at';have hBw:Below w.heap.size w wr:=HB0.out.trans (a1.bel.mono HB0.out.size);have HBw:Hid _:=hBw
    by_cases hlt:n < ls.length
    ·have l1:(n:Int) < (ls.length:Int):=by omega
     obtain⟨x,hx⟩:∃ x,ls[n]?=some x:=⟨_,List.getElem?_eq_getElem hlt⟩;obtain⟨g,o,rfl,hc⟩:=slatS_cell (SlAt.below HLs.out hBw) hx;have c0:=hc n x hx;obtain⟨f1,f2,f3⟩:=HFt.out n hnl;have hmx:(ls.map bl)[n]?=some (bl x):=by rw[List.getElem?_map,hx];rfl
     have htk9:scTicks ((ls.map bl).take n)+scTick (bl x)<=800000:=by
      have h5:=scTicks_take (ls.map bl) (n+1);rw[List.take_add_one,hmx,scTicks_append] at h5;have h6:=HTk.out.1;have h7:scTicks (some (bl x)).toList=scTick (bl x):=by show scTick (bl x)+0=_;omega
      omega
     have HX:Hid _:=answer_at T x (⟨HC9.out.1,a1,f1,f3,HCm2.out.kept HL.out.st,by have:=HTk.out.2;omega,fun e=>by rcases a2 _ e with h5 | h5;exact Nat.lt_irrefl _ h5;have:=HZ.out.2;omega⟩:ScAt A G w0 wr c kb bc sa sc v0.heap.size v0.heap.size (v0.heap.size+1) (scRun c K0 ((ls.map bl).take n)) (0+n)) (fun i hi=>cell_below HB0.out (HT.out i hi)) (HSz.out x (List.mem_of_getElem? hx)) (by have:=HTk.out.2;omega);have HSt:Hid (∀ K' wr',KePost G w0 wr c kb bc K' wr'->ScLp v0 v1 w0 wr' c kb bc K' (.slice ka n kc) (txts (scAns c T K0 ((ls.map bl).take n)))):=fun K' wr' hp=>ScLp.step a2 a3 HL.out.st HL.out.sz HL.out.own hp
     have HTn:Hid (scRun c K0 ((ls.map bl).take (n+1))=((scRun c K0 ((ls.map bl).take n)).scPlay c (bl x)).1/\txts (scAns c T K0 ((ls.map bl).take (n+1)))=txts (scAns c T K0 ((ls.map bl).take n))++[⟨(scOut T ((scRun c K0 ((ls.map bl).take n)).scPlay c (bl x))).toArray⟩]):=⟨scRun_take hmx,by unfold txts;rw[scAns_take hmx,List.map_append];rfl⟩;generalize hKn:(scRun c K0 ((ls.map bl).take n)).scPlay c (bl x)=Kn at HX HTn;generalize hAn:txts (scAns c T K0 ((ls.map bl).take n))=an at HSt HTn HAl;generalize hy:(⟨(scOut T Kn).toArray⟩:ByteArray)=y at HX HTn;clear hc hx a1 a2 a3 f1 f2 f3 hmx htk9 HL hKn hAn hy hBw;go_wp2_with fail
     refine Calls.mono HX.out ?_;rintro u w3 ⟨rfl,hp⟩;have HL3:Hid _:=HSt.out _ w3 hp;have HO3:Hid (w3.ownsRow v1.heap.size 9 1 (.slice ka n kc) n (an.flatMap encS)):=by
      have:w3.ownsRow v1.heap.size 9 1 (.slice ka n kc) an.length (an.flatMap encS):=HL3.out.own;rw[HAl.out] at this;exact this
     have hz3:v1.heap.size<=w3.heap.size:=HL3.out.sz;have hl9:ls.length<=100:=HTk.out.2;clear hp HX HSt c0;go_wp2_with (at_builtin;refine wpList_append_lies _ rfl _ _ 22 rfl v1.heap.size 9 i0 (.string ⟨#[]⟩) 1 16 Tryz.underlying22 hi0 hz0 hz1 hz2 rfl (by decide) (.slice ka n kc) n (an.flatMap encS) rfl (World.ownsRow.alloc HO3.out _) ⟨w3.heap.size,0,none⟩ 1 1 [.string y] rfl rfl (ce_at w3 [.string y] 9) (fun u hu=>by rw[List.mem_singleton] at hu;subst hu;rfl) (by decide) (by unfold maxLen;omega) (by omega) (by simp;omega) (w3.heap.size+1) (by simp) ?_;intro gg cc w12 hown hg hor hlt12)
     have HL5:Hid _:=HL3.out.more HZ.out.1 (by rw[HAl.out]) hown hg hor;clear hown hg hor hlt12 HO3 HL3 hl9;go_roundw
     case rel=>exact⟨n+1,by omega,by go_num,by show ScLp _ _ _ _ _ _ _ _ _ _;rw[HTn.out.1,HTn.out.2];exact HL5.out⟩
     case measure=>simp[intOf];omega
    ·obtain rfl:n=ls.length:=by omega
     have l1:¬(ls.length:Int) < (ls.length:Int):=by omega
     have HO:Hid (SlOwn encS 1 9 w.heap.size wr (.slice ka ls.length kc) (txts (scAns c T K0 (ls.map bl)))):=by
      have h5:=HL.out.own;rw[List.take_of_length_le (by rw[List.length_map];exact Nat.le_refl _)] at h5;exact⟨h5.1,h5.2.imp id fun ⟨g,cap,cur,h6,h7,h8⟩=>⟨g,cap,cur,h6,Nat.le_trans (Nat.le_trans HB0.out.size HZ.out.1) h7,h8⟩⟩
     clear HL HAl a1 a2 a3 hBw;go_wp2;go_ret2
     refine⟨HBw.out,_,_,rfl,fun e=>absurd e (by rw[List.length_map];have:=HTk.out.2;omega),fun _ e=>absurd H0.out e,fun _ _=>⟨rfl,?_⟩⟩;rw[<- HCd.out,HK0.out];exact HO.out
  ·have H0:Hid _:=h0;clear h hT hn hls hsz hlen htk h100 h0;go_enter Tryz.func7,Tryz.ntmps7
   go_wp2_with fail
   refine Calls.mono HX.out ?_;intro e w1 he;obtain⟨hb1,ev,rfl,herr⟩:=he.1 H0.out;obtain⟨et,ex,rfl⟩:=herr.some H0.out;have HB1:Hid _:=hb1;have HEr:Hid _:=herr;clear he hb1 herr HX;go_wp2_with fail
   go_ret2
   exact⟨HB1.out.trans ((Below.one _ _).mono HB1.out.size),_,_,rfl,fun e=>absurd e (by rw[List.length_map];have:=HTk.out.2;omega),fun _ _=>⟨rfl,ErrAt.below HEr.out (Below.one _ _)⟩,fun _ e=>absurd e H0.out⟩
end Go.Proofs.YtffpcbdlbcjihadGreatDoor
namespace Go.Proofs.YtffpcbdlbcjihadGreatDoor
open Go
def helC:CfgD:=⟨1,2,2,0,[]⟩
def helS:Bs:=[119,105,110,100,111,119,32,49,32,50,10,99,121,99,108,101,32,50,10,100,101,108,97,121,32,48,10]
def helL:List Bs:=[[116,105,99,107,32,50],[107,105,99,107,115],[99,97,117,115,101],[99,111,110,102,105,103]]
def helA:List Bs:=[[111,107],[49],[110,111,116,104,105,110,103],[119,105,110,100,111,119,32,49,32,50,59,32,99,121,99,108,101,32,50,59,32,100,101,108,97,121,32,48]]
theorem hel_text:confText helC=helS:=by
 have d0:num 0=[48]:=by unfold num;rw[decN_small (by decide)];rfl
 have d1:num 1=[49]:=by unfold num;rw[decN_small (by decide)];rfl
 have d2:num 2=[50]:=by unfold num;rw[decN_small (by decide)];rfl
 simp[confText,confLines,helC,helS,d0,d1,d2,kwLine,kw]
theorem hel_read:readR lookL helS=((0,-1),helC):=by
 rw[<- hel_text];exact text_read good_lookL (by decide) (by rw[hel_text];decide)
theorem hel_tick:(KSt.ticks helC (KSt.new helC (CSt.new 4096)) 2).2=0/\(KSt.ticks helC (KSt.new helC (CSt.new 4096)) 2).1.d.kicks=1:=by
 constructor <;> kernel_rfl
theorem hel_log:(KSt.ticks helC (KSt.new helC (CSt.new 4096)) 2).1.L=(KSt.new helC (CSt.new 4096)).L:=by kernel_rfl
theorem hel_nums:scNums [5] [[50]]=some [2]:=by
 have d2:num 2=[50]:=by unfold num;rw[decN_small (by decide)];rfl
 have:scNum [50] 5=some 2:=by
  unfold scNum;rw[if_neg (by decide),show Lib.atoi [50]=some 2 from by decide];show (if (2:Int) < 0\/num 2≠[50] then none else some 2)=some 2
  rw[d2];rfl
 rw[scNums,this];rfl
theorem hel_two:scTick [116,105,99,107,32,50]=2:=by
 unfold scTick;rw[show cutBy 32 [116,105,99,107,32,50]=[[116,105,99,107],[50]] from by decide];show (if scKind [116,105,99,107]=some 3 then (((scNums [5] [[50]]).getD []).getD 0 0).toNat else 0)=2
 rw[if_pos (by decide),hel_nums];rfl
theorem hel_line:KSt.scPlay helC (KSt.new helC (CSt.new 4096)) [116,105,99,107,32,50]=scAct (KSt.ticks helC (KSt.new helC (CSt.new 4096)) 2):=by
 have h1:scNums (scDigs 3) [[50]]=some [2]:=hel_nums;show KSt.scWords helC _ (cutBy 32 [116,105,99,107,32,50])=_
 rw[show cutBy 32 [116,105,99,107,32,50]=[[116,105,99,107],[50]] from by decide,scWords_ok (show scKind [116,105,99,107]=some 3 from by decide) h1];rfl
theorem hel_cfg:cfgT helC=[119,105,110,100,111,119,32,49,32,50,59,32,99,121,99,108,101,32,50,59,32,100,101,108,97,121,32,48]:=by
 unfold cfgT;rw[hel_text];decide
theorem hel_ans (T:Nat->Bs):scAns helC T (KSt.new helC (CSt.new 4096)) helL=helA:=by
 have d1:num 1=[49]:=by unfold num;rw[decN_small (by decide)];rfl
 have hL:(KSt.new helC (CSt.new 4096)).L=[]:=open_new 4096 (by decide) (by decide);obtain⟨t1,t2⟩:=hel_tick;have t3:=hel_log.trans hL;unfold helL scAns;rw[hel_line];unfold scAct;generalize KSt.ticks helC (KSt.new helC (CSt.new 4096)) 2=p at t1 t2 t3;obtain⟨K2,j⟩:=p;simp only at t1 t2 t3;subst t1;have l1:KSt.scPlay helC K2 [107,105,99,107,115]=(K2,[49],0):=by
  show KSt.scWords helC _ (cutBy 32 [107,105,99,107,115])=_
  rw[show cutBy 32 [107,105,99,107,115]=[[107,105,99,107,115]] from by decide,scWords_ok (show scKind [107,105,99,107,115]=some 7 from by decide) (show scNums (scDigs 7) []=some [] from rfl)];show (K2,num K2.d.kicks,0)=_
  rw[t2];show (K2,num 1,0)=_
  rw[d1]
 have l2:KSt.scPlay helC K2 [99,97,117,115,101]=(K2,nothT,0):=by
  show KSt.scWords helC _ (cutBy 32 [99,97,117,115,101])=_
  rw[show cutBy 32 [99,97,117,115,101]=[[99,97,117,115,101]] from by decide,scWords_ok (show scKind [99,97,117,115,101]=some 11 from by decide) (show scNums (scDigs 11) []=some [] from rfl)];show (K2,causeT K2.L,0)=_
  rw[t3];rfl
 have l3:KSt.scPlay helC K2 [99,111,110,102,105,103]=(K2,cfgT helC,0):=by
  show KSt.scWords helC _ (cutBy 32 [99,111,110,102,105,103])=_
  rw[show cutBy 32 [99,111,110,102,105,103]=[[99,111,110,102,105,103]] from by decide,scWords_ok (show scKind [99,111,110,102,105,103]=some 13 from by decide) (show scNums (scDigs 13) []=some [] from rfl)];rfl
 show scOut T (K2,doneT 0,0) :: scAns helC T K2 _=_
 unfold scAns;rw[l1];show _ :: scOut T (K2,[49],0) :: scAns helC T K2 _=_
 unfold scAns;rw[l2];show _ :: _ :: scOut T (K2,nothT,0) :: scAns helC T K2 _=_
 unfold scAns;rw[l3,hel_cfg];rfl
end Go.Proofs.YtffpcbdlbcjihadGreatDoor
namespace Go.Proofs.YtffpcbdlbcjihadGreatDoor
open Go.RowKit Go.Extern.Stop Go.Stop Go.Extern
set_option maxRecDepth 100000 in
theorem sameTexts_at (l:List ByteArray)(sa sb:Option Addr)(ca cb:Nat)(w:World)(ha:SlAt encS 1 w (.slice sa l.length ca) l)(hb:SlAt encS 1 w (.slice sb l.length cb) l)(hn:l.length<=1000000) :
  Calls Tryz.prog 14 #[.slice sa l.length ca,.slice sb l.length cb] w fun e w'=>e=.returned (.bool true)/\Below w.heap.size w w':=by
 have HA:Hid (SlAt encS 1 w (.slice sa l.length ca) l):=ha;have HB:Hid (SlAt encS 1 w (.slice sb l.length cb) l):=hb;clear ha hb;go_enter Tryz.func14,Tryz.ntmps14
 go_wp2_with fail
 go_loopw [5] (fun i wr=>∃ k:Nat,k<=l.length/\i=.int .i64 k/\Below w.heap.size w wr) (fun i _=>l.length - (intOf i).toNat)
 case atStart=>exact⟨0,Nat.zero_le _,rfl,Below.refl _ _⟩
 case round=>
  obtain⟨k,hk,rfl,hbr⟩:=hrel;have HR:Hid (Below w.heap.size w wr):=hbr;clear hbr
  by_cases hlt:k < l.length
  ·have k1:(k:Int) < (l.length:Int):=by omega
   obtain⟨x,hx⟩:∃ x,l[k]?=some x:=⟨_,List.getElem?_eq_getElem hlt⟩;obtain⟨g,o,rfl,hc⟩:=slatS_cell (HA.out.below HR.out) hx;have c0:=hc k x hx;obtain⟨g2,o2,rfl,hc2⟩:=slatS_cell (HB.out.below HR.out) hx;have c1:=hc2 k x hx;clear hc hc2 hx;go_wp2_with fail
   go_quiet (fail)
   go_wp2_with fail
   go_roundw
   case rel=>exact⟨k+1,by omega,by go_num,below_drewN HR.out _⟩
   case measure=>simp[intOf];omega
  ·have k1:¬(k:Int) < (l.length:Int):=by omega
   go_wp2;go_ret;exact⟨rfl,HR.out⟩
theorem slat_newS (w:World)(xs:List ByteArray):SlAt encS 1 (w.alloc (.cells (xs.map Value.string).toArray 9)) (.slice (some ⟨w.heap.size,0,none⟩) xs.length xs.length) xs:=by
 refine⟨_,_,rfl,Nat.le_refl _,fun _=>⟨_,_,rfl,fun i x hx j u hu=>?_⟩⟩;have hj:j=0/\u=.string x:=by
  cases j with
  | zero=>exact⟨rfl,(Option.some.inj hu).symm⟩
  | succ j=>simp[encS] at hu
 obtain⟨rfl,rfl⟩:=hj;have h1:=heap_alloc_new w (.cells (xs.map Value.string).toArray 9);simp only[World.cell?,h1];simp[hx]
set_option maxHeartbeats 4000000 in
set_option maxRecDepth 100000 in
theorem hello_at (A:Nat->Addr)(T:Nat->Bs)(w:World)(h:ScEnv A w)(hT:∀ i,i < 11->w.cell? (A i)=some (.string ⟨(T (i+1)).toArray⟩)) :
  Calls Tryz.prog 6 #[] w fun e w'=>e=.returned (.bool true)/\Below w.heap.size w w':=by
 obtain⟨W,hW⟩:∃ V,V=w.alloc (.cells #[.string ⟨#[116,105,99,107,32,50]⟩,.string ⟨#[107,105,99,107,115]⟩,.string ⟨#[99,97,117,115,101]⟩,.string ⟨#[99,111,110,102,105,103]⟩] 9):=⟨_,rfl⟩;have hb:Below w.heap.size w W:=by rw[hW];exact Below.one _ _
 have hsl:SlAt encS 1 W (.slice (some ⟨w.heap.size,0,none⟩) 4 4) [⟨#[116,105,99,107,32,50]⟩,⟨#[107,105,99,107,115]⟩,⟨#[99,97,117,115,101]⟩,⟨#[99,111,110,102,105,103]⟩]:=by rw[hW];exact slat_newS w [⟨#[116,105,99,107,32,50]⟩,⟨#[107,105,99,107,115]⟩,⟨#[99,97,117,115,101]⟩,⟨#[99,111,110,102,105,103]⟩]
 have HX:Hid (Calls Tryz.prog 7 #[.string ⟨#[119,105,110,100,111,119,32,49,32,50,10,99,121,99,108,101,32,50,10,100,101,108,97,121,32,48,10]⟩,.slice (some ⟨w.heap.size,0,none⟩) 4 4] W fun e w'=>Below W.heap.size W w'/\∃ av,e=.returned (.tuple #[av,.nilIface])/\SlOwn encS 1 9 W.heap.size w' av (txts helA)):=by
  have h1:=run_at A T ⟨helS.toArray⟩ [⟨#[116,105,99,107,32,50]⟩,⟨#[107,105,99,107,115]⟩,⟨#[99,97,117,115,101]⟩,⟨#[99,111,110,102,105,103]⟩] (some ⟨w.heap.size,0,none⟩) 4 W (h.below hb) (fun i hi=>cell_below hb (hT i hi)) (by decide) hsl (by
   intro l hl;simp only[List.mem_cons,List.not_mem_nil,or_false] at hl
   rcases hl with rfl | rfl | rfl | rfl <;> decide) (by decide) (by
   have d2:scTick [116,105,99,107,32,50]=2:=hel_two;show scTick [116,105,99,107,32,50]+(scTick [107,105,99,107,115]+(scTick [99,97,117,115,101]+(scTick [99,111,110,102,105,103]+0)))<=800000
   rw[d2];decide)
  refine Calls.mono h1 ?_;rintro e w' ⟨h2,av,ev,rfl,-,-,h3⟩;have e1:bl ⟨helS.toArray⟩=helS:=by simp[bl]
  rw[e1,hel_read] at h3;obtain⟨rfl,h4⟩:=h3 (by decide) rfl
  refine⟨h2,av,rfl,?_⟩;have h5:=hel_ans T;unfold helL at h5;have h6:SlOwn encS 1 9 W.heap.size w' av (txts (scAns helC T (KSt.new helC (CSt.new 4096)) [[116,105,99,107,32,50],[107,105,99,107,115],[99,97,117,115,101],[99,111,110,102,105,103]])):=h4;rw[h5] at h6;exact h6
 have HB:Hid _:=hb;clear h hT hb hsl;go_enter Tryz.func6,Tryz.ntmps6
 go_wp2_with (go_at_call 7;rw[<- hW];refine Calls.mono HX.out ?_)
 clear hW;rintro e w1 ⟨hb1,av,rfl,how⟩;have HB1:Hid (Below w.heap.size w w1):=HB.out.trans (hb1.mono HB.out.size);obtain⟨sa,sc,rfl⟩:=ow_form how;obtain⟨V,hV⟩:∃ V,V=w1.alloc (.cells #[.string ⟨#[111,107]⟩,.string ⟨#[49]⟩,.string ⟨#[110,111,116,104,105,110,103]⟩,.string ⟨#[119,105,110,100,111,119,32,49,32,50,59,32,99,121,99,108,101,32,50,59,32,100,101,108,97,121,32,48]⟩] 9):=⟨_,rfl⟩;have hbV:Below w1.heap.size w1 V:=by rw[hV];exact Below.one _ _
 have HS:Hid (Calls Tryz.prog 14 #[.slice sa 4 sc,.slice (some ⟨w1.heap.size,0,none⟩) 4 4] V fun e w'=>e=.returned (.bool true)/\Below V.heap.size V w'):=
  sameTexts_at (txts helA) sa (some ⟨w1.heap.size,0,none⟩) sc 4 V ((how.slat (fun _=>rfl)).below hbV) (by rw[hV];exact slat_newS w1 (txts helA)) (by decide)
 have HBV:Hid (Below w.heap.size w V):=HB1.out.trans (hbV.mono HB1.out.size);have hl4:(txts helA).length=4:=rfl;rw[hl4];clear hb1 how hbV HX hl4;go_wp2_with (go_at_call 14;rw[<- hV];refine Calls.mono HS.out ?_)
 clear hV;rintro e w2 ⟨rfl,hb2⟩;go_wp2;go_ret;exact⟨rfl,HBV.out.trans (hb2.mono HBV.out.size)⟩
def LnsAt (w:World)(v:Value)(L:List (ByteArray × List Int)):Prop:=
 ∃ sa cap,v=.slice sa L.length cap/\(L≠[]->∃ b o,sa=some ⟨b,o,none⟩/\∀ i x,L[i]?=some x->∃ na nc,SlAt encI 1 w (.slice na x.2.length nc) x.2/\w.cell? ⟨b,o+i*2,none⟩=some (.string x.1)/\w.cell? ⟨b,o+i*2+1,none⟩=some (.slice na x.2.length nc))
theorem LnsAt.below {w w':World}{v:Value}{L:List (ByteArray × List Int)}(h:LnsAt w v L)(hb:Below w.heap.size w w'):LnsAt w' v L:=by
 obtain⟨sa,cap,h1,h2⟩:=h
 refine⟨sa,cap,h1,fun hne=>?_⟩;obtain⟨b,o,h3,h4⟩:=h2 hne
 refine⟨b,o,h3,fun i x hx=>?_⟩;obtain⟨na,nc,h5,h6,h7⟩:=h4 i x hx;exact⟨na,nc,h5.below hb,cell_below hb h6,cell_below hb h7⟩
theorem LnsAt.at {w:World}{sa:Option Addr}{cap:Nat}{L:List (ByteArray × List Int)}(h:LnsAt w (.slice sa L.length cap) L){i:Nat}{x:ByteArray × List Int}(hx:L[i]?=some x):∃ b o na nc,sa=some ⟨b,o,none⟩/\SlAt encI 1 w (.slice na x.2.length nc) x.2/\w.cell? ⟨b,o+i*2,none⟩=some (.string x.1)/\w.cell? ⟨b,o+i*2+1,none⟩=some (.slice na x.2.length nc):=by
 obtain⟨sa',cap',h1,h2⟩:=h
 cases h1
 obtain⟨b,o,h3,h4⟩:=h2 (fun e=>by subst e;simp at hx);obtain⟨na,nc,h5,h6,h7⟩:=h4 i x hx;exact⟨b,o,na,nc,h3,h5,h6,h7⟩
theorem slatS_take {w:World}{sl:Option Addr}{slc n:Nat}{l:List ByteArray}(h:SlAt encS 1 w (.slice sl l.length slc) l)(hn:n<=l.length):SlAt encS 1 w (.slice sl (l.take n).length slc) (l.take n):=by
 obtain⟨sa',cap',h1,h2,h3⟩:=h
 cases h1
 refine⟨sl,slc,rfl,by rw[List.length_take];omega,fun hne=>?_⟩;obtain⟨b,o,e,hc⟩:=h3 (fun e=>hne (by rw[e,List.take_nil]))
 refine⟨b,o,e,fun i y hy j u hu=>hc i y ?_ j u hu⟩;rw[List.getElem?_take] at hy
 split at hy
 ·exact hy
 ·cases hy
theorem slatS_cap {w:World}{sl:Option Addr}{slc:Nat}{l:List ByteArray}(h:SlAt encS 1 w (.slice sl l.length slc) l):l.length<=slc:=by
 obtain⟨sa',cap',h1,h2,-⟩:=h
 cases h1
 exact h2
theorem add_map (sl:Option Addr):Option.map (fun x:Addr=>x.add 0) sl=sl:=by cases sl with | none=>rfl | some a=>simp[add_zero'']
set_option maxHeartbeats 8000000 in
set_option maxRecDepth 100000 in
theorem again_in (A:Nat->Addr)(T:Nat->Bs)(s:ByteArray)(L:List (ByteArray × List Int))(la:Option Addr)(lc:Nat)(cut:Int)(w:World)(h:ScEnv A w)(hT:∀ i,i < 11->w.cell? (A i)=some (.string ⟨(T (i+1)).toArray⟩))(hL:LnsAt w (.slice la L.length lc) L) :
  Calls Tryz.prog 4 #[.string s,.slice la L.length lc,.int .i64 cut] w fun e w'=>e=.returned (.bool true)/\Below w.heap.size w w':=by
 have HH:Hid _:=hello_at A T w h hT
 by_cases c1:2000 < (s.size:Int)
 ·clear h hT hL;go_enter Tryz.func4,Tryz.ntmps4
  go_wp2_with fail
  refine Calls.mono HH.out ?_;rintro e w1 ⟨rfl,hb⟩;go_wp2;go_ret;exact⟨rfl,hb⟩
 by_cases c2:40 < (L.length:Int)
 ·clear h hT hL;go_enter Tryz.func4,Tryz.ntmps4
  go_wp2_with fail
  refine Calls.mono HH.out ?_;rintro e w1 ⟨rfl,hb⟩;go_wp2;go_ret;exact⟨rfl,hb⟩
 by_cases c3:cut < 0
 ·clear h hT hL;go_enter Tryz.func4,Tryz.ntmps4
  go_wp2_with fail
  refine Calls.mono HH.out ?_;rintro e w1 ⟨rfl,hb⟩;go_wp2;go_ret;exact⟨rfl,hb⟩
 by_cases c4:(L.length:Int) < cut
 ·clear h hT hL;go_enter Tryz.func4,Tryz.ntmps4
  go_wp2_with fail
  refine Calls.mono HH.out ?_;rintro e w1 ⟨rfl,hb⟩;go_wp2;go_ret;exact⟨rfl,hb⟩
 obtain⟨m,rfl⟩:∃ m:Nat,cut=(m:Int):=⟨cut.toNat,by omega⟩;have HE:Hid _:=h;have HT:Hid _:=hT;have HLn:Hid _:=hL;obtain⟨i0,hi0,hz0,hz1,hz2⟩:=info_parts Tryz.infoStrT;have hlen:L.length<=40:=by omega
 have HS:Hid (s.size<=2000):=by show _<=_;omega
 clear h hT hL;go_enter Tryz.func4,Tryz.ntmps4
 go_wp2_with fail
 refine Calls.mono HH.out ?_;rintro e W ⟨rfl,hb⟩;have HB:Hid _:=hb;have HS0:Hid (StL W W (.slice none 0 0) []):=⟨Below.refl _ _,World.ownsRow_nil _ _ _ _⟩;clear hb HH;go_upto_region 7 with fail
 clear c1 c2 c3 c4
 go_cut [11] (fun i wx=>i=.int .i64 0/\wx=W)
 case first=>
  go_wp2_with fail
  go_meet
  case rel=>exact⟨rfl,rfl⟩
 obtain⟨rfl,rfl⟩:=hcut;rename World=>W
 go_wp2_with fail
 go_loopw [8,9,10,11,12,13] (fun lv av tv i _ _ wr=>∃ (n a tk:Nat) (xs:List ByteArray),n<=L.length/\i=.int .i64 n/\av=.int .i64 a/\tv=.int .i64 tk/\a<=xs.length/\xs.length<=n/\tk<=1500/\Hid (scTicks (xs.map bl)<=tk/\∀ x∈xs,x.size<=10000)/\Hid (StL W wr lv xs)) (fun _ _ _ i _ _ _=>L.length - (intOf i).toNat)
 case atStart=>exact⟨0,0,0,[],Nat.zero_le _,rfl,rfl,rfl,Nat.le_refl _,Nat.le_refl _,Nat.zero_le _,⟨Nat.le_refl _,fun x hx=>by cases hx⟩,HS0.out⟩
 case round=>
  clear HS0;obtain⟨n,a,tk,xs,hn,rfl,rfl,rfl,ha,hxl,htk,HX,HL⟩:=hrel;obtain⟨ka,kc,hkv⟩:=ow_form HL.out.own;subst hkv
  by_cases hlt:n < L.length
  ·have k1:(n:Int) < (L.length:Int):=by omega
   obtain⟨x,hx⟩:∃ x,L[n]?=some x:=⟨_,List.getElem?_eq_getElem hlt⟩;obtain⟨wd,N⟩:=x;have hBr:Below w.heap.size w wr:=HB.out.trans (HL.out.bel.mono HB.out.size);obtain⟨b,o,na,nc,rfl,hsl,y0,y1⟩:=(LnsAt.below HLn.out hBr).at hx;simp only at hsl y0 y1;have HBr:Hid _:=hBr;clear hBr hx
   by_cases q1:5 < (N.length:Int)
   ·clear hsl;go_wp2;go_ret;exact⟨rfl,HBr.out⟩
   by_cases q2:60 < (wd.size:Int)
   ·clear hsl;go_wp2;go_ret;exact⟨rfl,HBr.out⟩
   have HLo:Hid _:=lineOf_at wd N na nc wr hsl (by omega) (by omega);have HSl:Hid _:=hsl;clear hsl;go_wp2_with fail
   refine Calls.mono HLo.out ?_;rintro e w3 ⟨hb3,hno,hyes⟩;have HL3:Hid _:=HL.out.below hb3;have HB3:Hid (Below w.heap.size w w3):=HBr.out.trans (hb3.mono HBr.out.size);have z0:=cell_below hb3 y0;have z1:=cell_below hb3 y1;have hsl3:=SlAt.below HSl.out hb3;clear y0 y1 hb3 HL HBr HLo HSl
   cases hv:lineV (bl wd) N with
   | none=>
    obtain rfl:=hno hv;clear hno hyes hv hsl3 z0 z1;go_wp2_with fail
    go_roundw
    case rel=>exact⟨n+1,a,tk,xs,by omega,by go_num,rfl,rfl,ha,by omega,htk,HX.out,HL3.out⟩
    case measure=>simp[intOf];omega
   | some t=>
    obtain rfl:=hyes t hv;obtain⟨t1,t2⟩:=line_tick hv;have hlt9:t.length<=10000:=line_len hv (by rw[show (bl wd).length=wd.size by simp[bl]];omega) (by omega);obtain⟨y,hy⟩:∃ y:ByteArray,y=⟨t.toArray⟩:=⟨_,rfl⟩;have HY:Hid (bl y=t/\y.size<=10000):=⟨by rw[hy];simp[bl],by rw[hy];show t.toArray.size<=10000;rw[List.size_toArray];exact hlt9⟩;rw[<- hy];clear hno hyes hv hy hlt9;go_upto_if 79 with fail
    go_cut [10] (fun tv wx=>∃ tk':Nat,tv=.int .i64 tk'/\tk'<=1500/\Hid (tk+scTick t<=tk')/\wx=w3)
    case first=>
     by_cases hw:bl wd=scWord 3
     ·obtain⟨q,rfl,q0,q9,q3⟩:=t2 hw;obtain⟨g,o',rfl,hc⟩:=slatI_cell hsl3 (k:=0) (x:=q) rfl;rw[show ([q]:List Int).length=1 from rfl] at z1;have c0:w3.cell? ⟨g,o',none⟩=some (.int .i64 q):=by simpa using hc 0 q rfl
      have hwd:(wd.toList == [116,105,99,107])=true:=by rw[ByteArray.toList_eq,beq_iff_eq];exact hw
      rw[hwd];clear hwd;obtain⟨q',rfl⟩:∃ q':Nat,q=(q':Int):=⟨q.toNat,by omega⟩;have HQ:Hid (scTick t<=q'):=q3;clear hc t1 t2 hsl3 hw q3
      by_cases hbig:1500 < (tk:Int)+(q':Int)
      ·go_wp2;go_ret;exact⟨rfl,HB3.out⟩
      ·go_wp2_with fail
       go_meet
       case rel=>exact⟨tk+q',by go_num,by omega,by have:=HQ.out;show _<=_;omega,rfl⟩
     ·have hwd:(wd.toList == [116,105,99,107])=false:=by rw[ByteArray.toList_eq,beq_eq_false_iff_ne];exact hw
      rw[hwd];have HQ:Hid (scTick t=0):=t1 hw;clear t1 t2 hsl3 hw hwd;go_wp2_with fail
      go_meet
      case rel=>exact⟨tk,rfl,htk,by have:=HQ.out;show _<=_;omega,rfl⟩
    obtain⟨tk',rfl,htk',HQ,rfl⟩:=hcut;rename World=>w3
    clear t1 t2 hsl3 z0 z1;have HO3:Hid (w3.ownsRow W.heap.size 9 1 (.slice ka xs.length kc) xs.length (xs.flatMap encS)):=HL3.out.own;have hz3:W.heap.size<=w3.heap.size:=HL3.out.bel.size;have HX2:Hid (scTicks ((xs++[y]).map bl)<=tk'/\∀ x∈xs++[y],x.size<=10000):=by
     refine⟨?_,fun x hx=>?_⟩
     ·rw[List.map_append,scTicks_append];have h5:scTicks (List.map bl [y])=scTick t:=by show scTick (bl y)+0=_;rw[HY.out.1];rfl
      have h6:=HX.out.1;have h7:=HQ.out;omega
     ·rcases List.mem_append.1 hx with hx | hx
      ·exact HX.out.2 x hx
      ·rw[List.mem_singleton.1 hx];exact HY.out.2
    clear HX HQ HY
    by_cases hcu:(n:Int) < (m:Int)
    ·go_wp2_with (at_builtin;refine wpList_append_lies _ rfl _ _ 22 rfl W.heap.size 9 i0 (.string ⟨#[]⟩) 1 16 Tryz.underlying22 hi0 hz0 hz1 hz2 rfl (by decide) (.slice ka xs.length kc) xs.length (xs.flatMap encS) rfl (World.ownsRow.alloc HO3.out _) ⟨w3.heap.size,0,none⟩ 1 1 [.string y] rfl rfl (ce_at w3 [.string y] 9) (fun u hu=>by rw[List.mem_singleton] at hu;subst hu;rfl) (by decide) (by unfold maxLen;omega) (by omega) (by simp;omega) (w3.heap.size+1) (by simp) ?_;intro gg cc w12 hown hg hor hlt12)
     have HL5:Hid _:=HL3.out.more rfl hown hg;clear hown hg hor hlt12 HO3 HL3;go_roundw
     case rel=>exact⟨n+1,xs.length+1,tk',xs++[y],by omega,by go_num,by go_num,rfl,by simp,by simp;omega,htk',HX2.out,HL5.out⟩
     case measure=>simp[intOf];omega
    ·go_wp2_with (at_builtin;refine wpList_append_lies _ rfl _ _ 22 rfl W.heap.size 9 i0 (.string ⟨#[]⟩) 1 16 Tryz.underlying22 hi0 hz0 hz1 hz2 rfl (by decide) (.slice ka xs.length kc) xs.length (xs.flatMap encS) rfl (World.ownsRow.alloc HO3.out _) ⟨w3.heap.size,0,none⟩ 1 1 [.string y] rfl rfl (ce_at w3 [.string y] 9) (fun u hu=>by rw[List.mem_singleton] at hu;subst hu;rfl) (by decide) (by unfold maxLen;omega) (by omega) (by simp;omega) (w3.heap.size+1) (by simp) ?_;intro gg cc w12 hown hg hor hlt12)
     have HL5:Hid _:=HL3.out.more rfl hown hg;clear hown hg hor hlt12 HO3 HL3;go_roundw
     case rel=>exact⟨n+1,a,tk',xs++[y],by omega,by go_num,rfl,rfl,by simp;omega,by simp;omega,htk',HX2.out,HL5.out⟩
     case measure=>simp[intOf];omega
  ·obtain rfl:n=L.length:=by omega
   have k1:¬(L.length:Int) < (L.length:Int):=by omega
   have hsl:SlAt encS 1 wr (.slice ka xs.length kc) xs:=SlOwn.slat (B:=W.heap.size) (T:=9) HL.out.own (fun _=>rfl);have hkc:=slatS_cap hsl;have hka:=add_map ka;have HBr:Hid (Below w.heap.size w wr):=HB.out.trans (HL.out.bel.mono HB.out.size);have HRn:Hid (∀ V,Below w.heap.size w V->∀ ys ya yc,SlAt encS 1 V (.slice ya ys.length yc) ys->(∀ x∈ys,x.size<=10000)->ys.length<=40->scTicks (ys.map bl)<=1500->Calls Tryz.prog 7 #[.string s,.slice ya ys.length yc] V fun e w'=>RnOut A T V (bl s) (ys.map bl) e w'):=fun V hV ys ya yc h1 h2 h3 h4=>run_at A T s ys ya yc V (ScEnv.below HE.out hV) (fun i hi=>cell_below hV (HT.out i hi)) (by have:=HS.out;omega) h1 (fun x hx=>Nat.le_trans (h2 x hx) (by decide)) (by omega) (by omega)
   have HTk:Hid (scTicks (xs.map bl)<=1500/\∀ x∈xs,x.size<=10000):=⟨Nat.le_trans HX.out.1 htk,HX.out.2⟩;have HSl:Hid _:=hsl;have hx40:xs.length<=40:=by omega
   clear HL HX hlt hxl htk hn;go_wp2_with (at_builtin;refine wpList_copy rfl _ _ 22 rfl wr.heap.size 9 i0 (.string ⟨#[]⟩) 1 16 Tryz.underlying22 hi0 hz0 hz1 hz2 rfl (by decide) rfl encS (fun _=>rfl) (fun x u hu=>by simp[encS] at hu;subst hu;rfl) (.slice ka xs.length kc) xs rfl HSl.out (by omega) (by decide) (Nat.le_refl _) ?_;intro sa' cap' w4 hown4 hb4)
   have HB4:Hid (Below w.heap.size w w4):=HBr.out.trans (hb4.mono HBr.out.size);have HX4:Hid _:=HRn.out w4 HB4.out xs sa' cap' (hown4.slat (fun _=>rfl)) HTk.out.2 hx40 HTk.out.1;have HSl4:Hid _:=SlAt.below HSl.out hb4;clear hown4 hb4 HSl hsl
   refine Calls.mono HX4.out ?_;rintro e w5 ⟨hb5,av,ev,rfl,-,hbad,hgood⟩;have HB5:Hid (Below w.heap.size w w5):=HB4.out.trans (hb5.mono HB4.out.size)
   by_cases h0:(readR lookL (bl s)).1.1=0
   ·obtain⟨rfl,how⟩:=hgood (by rw[List.length_map];omega) h0;obtain⟨sa1,sc1,hv1⟩:=ow_form how;have hl1:(txts (scAns (readR lookL (bl s)).2 T (KSt.new (readR lookL (bl s)).2 (CSt.new 4096)) (xs.map bl))).length=xs.length:=by unfold txts;rw[List.length_map,scAns_length,List.length_map]
    rw[hl1] at hv1;subst hv1;have hsl5:=SlAt.below HSl4.out hb5;have hxa:(xs.take a).length=a:=by rw[List.length_take];omega
    have HX5:Hid (Calls Tryz.prog 7 #[.string s,.slice ka a kc] w5 fun e w'=>RnOut A T w5 (bl s) ((xs.take a).map bl) e w'):=by
     have h5:=HRn.out w5 HB5.out (xs.take a) ka kc (slatS_take hsl5 ha) (fun x hx=>HTk.out.2 x (List.mem_of_mem_take hx)) (by rw[hxa];omega) (by
      have h6:=scTicks_take (xs.map bl) a;rw[<- List.map_take] at h6;have h7:=HTk.out.1;omega)
     rw[hxa] at h5;exact h5
    have HA1:Hid (SlAt encS 1 w5 (.slice sa1 xs.length sc1) (txts (scAns (readR lookL (bl s)).2 T (KSt.new (readR lookL (bl s)).2 (CSt.new 4096)) (xs.map bl)))):=how.slat (fun _=>rfl);have hsc1:xs.length<=sc1:=by
     have h5:=HA1.out;rw[<- hl1] at h5;have:=slatS_cap h5;omega
    have hsa1:=add_map sa1;have HH0:Hid _:=h0;have HL1:Hid _:=hl1;have a9:(a:Int)<=(kc:Int):=by omega
    have b9:(a:Int)<=(sc1:Int):=by omega
    clear how hl1 hbad hgood h0 hb5 HX4 HRn hsl5 HSl4;go_wp2_with fail
    refine Calls.mono HX5.out ?_;rintro e w6 ⟨hb6,bv,ev2,rfl,-,-,hgood2⟩;obtain⟨rfl,how2⟩:=hgood2 (by rw[List.length_map,hxa];omega) HH0.out;obtain⟨sa2,sc2,hv2⟩:=ow_form how2;have hl2:(txts (scAns (readR lookL (bl s)).2 T (KSt.new (readR lookL (bl s)).2 (CSt.new 4096)) ((xs.take a).map bl))).length=a:=by unfold txts;rw[List.length_map,scAns_length,List.length_map,hxa]
    rw[hl2] at hv2;subst hv2;have hpre:txts (scAns (readR lookL (bl s)).2 T (KSt.new (readR lookL (bl s)).2 (CSt.new 4096)) ((xs.take a).map bl))=(txts (scAns (readR lookL (bl s)).2 T (KSt.new (readR lookL (bl s)).2 (CSt.new 4096)) (xs.map bl))).take a:=by
     unfold txts;have e1:xs.map bl=(xs.take a).map bl++(xs.drop a).map bl:=by rw[<- List.map_append,List.take_append_drop]
     rw[e1,scAns_append,List.map_append,List.take_left' (by rw[List.length_map,scAns_length,List.length_map,hxa])]
    have HSm:Hid (Calls Tryz.prog 14 #[.slice sa1 a sc1,.slice sa2 a sc2] w6 fun e w'=>e=.returned (.bool true)/\Below w6.heap.size w6 w'):=by
     have h5:=SlAt.below HA1.out hb6;rw[<- HL1.out] at h5;have h6:=slatS_take h5 (n:=a) (by rw[HL1.out];exact ha);rw[<- hpre] at h6;have h7:=how2.slat (fun _=>rfl);have h8:=sameTexts_at _ sa1 sa2 sc1 sc2 w6 h6 (by rw[hl2];exact h7) (by rw[hl2];omega);rw[hl2] at h8;exact h8
    have HB6:Hid (Below w.heap.size w w6):=HB5.out.trans (hb6.mono HB5.out.size);clear how2 hl2 hgood2 hb6 HX5 hpre HA1 HL1 HH0;go_wp2_with fail
    refine Calls.mono HSm.out ?_;rintro e w7 ⟨rfl,hb7⟩;go_wp2;go_ret;exact⟨rfl,HB6.out.trans (hb7.mono HB6.out.size)⟩
   ·obtain⟨rfl,herr⟩:=hbad (by rw[List.length_map];omega) h0;obtain⟨et,ex,rfl⟩:=herr.some h0;clear hbad hgood herr h0 hb5 HX4 HRn;go_wp2;go_ret;exact⟨rfl,HB5.out⟩
end Go.Proofs.YtffpcbdlbcjihadGreatDoor
namespace Go.Proofs.YtffpcbdlbcjihadGreatDoor
open Go.ChangeShapes Go.WideShapes Go.ChangeAt Go.RowKit Go.Deep
set_option maxRecDepth 100000 in
theorem line_of_trod {H:Type}{enc:TypeId × Value->H}{W:World}(n:Nat)(cs:List Value)(x:DataW H × List MemPlace)(h:DataW.trod enc Tryz.prog W 0 (fun _=>true) true n 44 cs=some x):∃ z:ByteArray × List Int,∃ na nc,cs=[.string z.1,.slice na z.2.length nc]/\SlAt encI 1 W (.slice na z.2.length nc) z.2:=by
 obtain⟨xs,m,-,-,hl,hxs,hf⟩:=DataW.trod_struct Tryz.underlying44 h;rw[show Tryz.prog.cellsOf 44=2 by kernel_rfl] at hl
 match cs,hl with
 | [c0,c1],_=>
  have g:∀ i,i < 2->∃ y,xs[i]?=some y:=fun i hi=>⟨xs[i]'(by rw[hxs];exact hi),List.getElem?_eq_getElem _⟩
  obtain⟨y0,k0⟩:=g 0 (by decide);obtain⟨y1,k1⟩:=g 1 (by decide);have e0:DataW.trod enc Tryz.prog W 0 (fun _=>true) true m 9 [c0]=some y0:=by have e:=hf 0 _ rfl;rw[k0] at e;simpa[Tryz.cellsOne] using e
  have e1:DataW.trod enc Tryz.prog W 0 (fun _=>true) true m 42 [c1]=some y1:=by have e:=hf 1 _ rfl;rw[k1] at e;simpa[Tryz.cellsOne] using e
  obtain⟨n0,q0,-,-⟩:=DataW.trod_string Tryz.underlying9 e0;obtain⟨l,h1⟩:=sl_of_trod (0:Int) (ec:=encI) Tryz.underlying42 Tryz.cellsOne.1 (by decide) int_of_trod e1;obtain⟨na,nc,rfl,-⟩:=id h1;simp at q0
  subst q0;exact⟨(n0,l),na,nc,rfl,h1⟩
theorem lines_of_trod {H:Type}{enc:TypeId × Value->H}{W:World}{fuel:Nat}{v:Value}{x:DataW H × List MemPlace}(h:DataW.trod enc Tryz.prog W 0 (fun _=>true) true fuel 41 [v]=some x):∃ sa sc,∃ L:List (ByteArray × List Int),v=.slice sa L.length sc/\LnsAt W (.slice sa L.length sc) L:=by
 obtain⟨sa,cap,xs,hcs,hl,hx⟩:=sl_gen ((ByteArray.empty,[]):ByteArray × List Int) (Q:=fun cs z=>∃ na nc,cs=[.string z.1,.slice na z.2.length nc]/\SlAt encI 1 W (.slice na z.2.length nc) z.2) Tryz.underlying41 (show Tryz.prog.cellsOf 44=2 by kernel_rfl) (by decide) line_of_trod h;simp only[List.cons.injEq,and_true] at hcs
 refine⟨sa,cap,xs,hcs,sa,cap,rfl,fun hne=>?_⟩;obtain⟨b,o,h1,h2⟩:=hx hne
 refine⟨b,o,h1,fun i y hy=>?_⟩;obtain⟨cs',⟨na,nc,rfl,h3⟩,h4⟩:=h2 i y hy;exact⟨na,nc,h3,h4 0 _ rfl,h4 1 _ rfl⟩
end Go.Proofs.YtffpcbdlbcjihadGreatDoor
