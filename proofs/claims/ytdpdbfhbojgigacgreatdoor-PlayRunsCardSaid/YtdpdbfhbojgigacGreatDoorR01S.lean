/-
  Several texts as one: PlRun, DcSmI, PlBase, PrWalk.
-/
import Derived.Test.YtdpdbfhbojgigacGreatDoorR00S
import Derived.Deep.AppendLies
import Derived.Laws.MakeOwn
import Derived.Deep.CutBlock
namespace Go.Proofs.YtdpdbfhbojgigacGreatDoor
open Go.RowKit Go.Extern.Stop Go.Stop Go.Extern
theorem Tryz.infoIntP:(Tryz.prog.info? 3).map (fun i=>(i.zero,i.size,i.bytes))=some (some (.int .i64 0),1,8):=by kernel_rfl
structure PlLp (F:Nat->Prop)(w0 w wr:World)(c:CfgD)(kb bc:Nat)(K:KSt)(av:Value)(xs:List Int):Prop where
 at':∃ G,KeAt G w0 wr c kb bc K/\(∀ k,G k->gr F w wr k)/\∀ k,av.ownBlock=some k->¬G k
 off:Off F w wr
 own:SlOwn encI 1 3 w.heap.size wr av xs
section
variable {A:Nat->Addr}{F G:Nat->Prop}{w0 w w' wr wr':World}{c:CfgD}{kb bc:Nat}{K K':KSt}{k:Nat}{av:Value}{xs:List Int}
theorem PlLp.step (h2:∀ k,G k->gr F w wr k)(h3:∀ k,av.ownBlock=some k->¬G k)(hof:Off F w wr)(hown:SlOwn encI 1 3 w.heap.size wr av xs)(hp:KePost G w0 wr c kb bc K' wr'):PlLp F w0 w wr' c kb bc K' av xs:=by
 refine⟨⟨_,hp.1,fun k hk=>?_,fun k hk hg=>?_⟩,?_,SlOwn.same hown (fun g hg=>hp.2.block g (hown.lt g hg).2 (h3 g hg))⟩
 ·rcases hk with hk | ⟨a,b⟩
  ·exact(h2 k hk).imp id (fun ⟨a,b⟩=>⟨a,Nat.lt_of_lt_of_le b hp.2.size⟩)
  ·exact Or.inr ⟨Nat.le_trans hof.size a,b⟩
 ·rcases hg with hg | ⟨a,_⟩
  ·exact h3 k hk hg
  ·have:=(hown.lt k hk).2;omega
 ·exact hof.trans hp.2 (fun k hk hi=>by
   rcases h2 k hi with a | ⟨a,_⟩
   ·exact a
   ·omega)
theorem PlLp.more (h:PlLp F w0 w wr c kb bc K av xs)(hw:w0.heap.size<=w.heap.size){o:Obj}{y:Int}{g cap n:Nat}(hn:xs.length+1=n)(hown:wr'.ownsRow w.heap.size 3 1 (.slice (some ⟨g,0,none⟩) n cap) n (xs.flatMap encI++[.int .i64 y]))(hg:(wr.alloc o).grownBy wr' av.ownBlock)(hor:av.ownBlock=some g\/g=wr.heap.size+1):PlLp F w0 w wr' c kb bc K (.slice (some ⟨g,0,none⟩) n cap) (xs++[y]):=by
 have hb:=Below.one wr o;have hof:Off (fun k=>av.ownBlock=some k) (wr.alloc o) wr':=⟨hg.os,hg.tape,hg.output,hg.size,fun k hk hn=>hg.block k hk (fun e=>hn e.symm)⟩;have hlt:∀ k,av.ownBlock=some k->w.heap.size<=k:=fun k hk=>(h.own.lt k hk).1
 obtain⟨G,h1,h2,h3⟩:=h.at';have hz:wr.heap.size<=wr'.heap.size:=Nat.le_trans hb.size hof.size
 refine⟨⟨fun k=>G k/\k < wr.heap.size,(h1.trim.below hb).off hof (fun k hk e=>h3 k e hk.1) (fun k hk=>Nat.le_trans hw (hlt k hk)),fun k hk=>(h2 k hk.1).imp id (fun ⟨a,b⟩=>⟨a,Nat.lt_of_lt_of_le b hz⟩),fun k hk hi=>?_⟩,?_,?_⟩
 ·cases hk
  rcases hor with hor | hor
  ·exact h3 g hor hi.1
  ·have h5:g < wr.heap.size:=hi.2;omega
 ·exact(h.off.trans (Off.of_below hb F) (fun _ _ h=>h)).trans hof (fun k hk e=>absurd (hlt k e) (by omega))
 ·have e:(xs++[y]).flatMap encI=xs.flatMap encI++[.int .i64 y]:=by rw[List.flatMap_append];rfl
  show wr'.ownsRow _ _ _ _ _ _
  rw[e,List.length_append,List.length_singleton,hn];exact hown
theorem PlLp.from {V:World}(h:PlLp F w0 V wr c kb bc K av xs)(hb:Below w.heap.size w V):PlLp F w0 w wr c kb bc K av xs:=by
 obtain⟨G,h1,h2,h3⟩:=h.at'
 refine⟨⟨G,h1,fun k hk=>(h2 k hk).imp id (fun ⟨a,b⟩=>⟨Nat.le_trans hb.size a,b⟩),h3⟩,(Off.of_below hb F).trans h.off (fun _ _ h=>h),?_⟩
 rcases h.own with ⟨h1,h2 | ⟨g,cap,cur,h3,h4,h5⟩⟩
 ·exact⟨h1,Or.inl h2⟩
 ·exact⟨h1,Or.inr ⟨g,cap,cur,h3,Nat.le_trans hb.size h4,h5⟩⟩
theorem add_zero' (a:Addr):a.add 0=a:=by obtain⟨b,o,s⟩:=a;unfold Addr.add;split <;> simp_all
def PlOut (F:Nat->Prop)(w0 w:World)(c:CfgD)(kb bc:Nat)(K:KSt)(l:List Int)(u:Ending)(w':World):Prop:=∃ av,u=.returned av/\PlLp F w0 w w' c kb bc (runK c K l) av (ansK c K l)
set_option maxHeartbeats 8000000 in
set_option maxRecDepth 100000 in
theorem pl_run (l:List Int)(sa:Option Addr)(sc:Nat)(h:KeAt F w0 w c kb bc K)(hFl:∀ k,F k->k < w.heap.size)(hs:Senv A w0)(hr:KRt c)(hf:KFit c K k (144*K.d.now))(hn:k+K.d.now+20*l.length+20<=800000)(hk:k+l.length < 1000)(hl:∀ V,Off F w V->SlAt encI 1 V (.slice sa l.length sc) l)(hv:∀ v∈l,v<=9223372036854775807) :
  Calls Tryz.prog 44 #[.pointer (some ⟨kb,0,none⟩),.pointer (some ⟨bc,0,none⟩),.slice sa l.length sc] w fun u w'=>PlOut F w0 w c kb bc K l u w':=by
 obtain⟨i0,hi0,hz0,hz1,hz2⟩:=info_parts Tryz.infoIntP;obtain⟨W,hW⟩:∃ X,X=w.alloc (.cells #[.pointer (some ⟨kb,0,none⟩),.pointer (some ⟨bc,0,none⟩)] 141):=⟨_,rfl⟩;have hbox:PlBox w W kb bc:=by rw[hW];exact PlBox.new w kb bc
 obtain⟨W1,hmk,hown1,hg1⟩:=run_make_own (P:=Tryz.prog) W W.heap.size 36 3 i0 (.int .i64 0) 1 Tryz.underlying36 hi0 hz0 hz1 .i64 .i64 l.length (by rw[hz2];omega) (by unfold maxLen;omega) (Nat.le_refl _);have hb1:Below W.heap.size W W1:=⟨hg1.os,hg1.tape,hg1.output,hg1.size,fun k hk=>hg1.block k hk (by simp)⟩;have hbW:Below w.heap.size w W1:=hbox.bel.trans (hb1.mono hbox.bel.size);have HL:Hid (PlLp F w0 W W1 c kb bc K (.slice (some ⟨W.heap.size,0,none⟩) 0 l.length) []):=⟨⟨F,h.below hbW,fun k hk=>Or.inl hk,fun k hk hF=>by cases hk;have h5:W.heap.size < w.heap.size:=hFl _ hF;have:=hbox.lt;omega⟩,Off.of_below hb1 F,hown1⟩;have HBx:Hid _:=hbox;have HFl:Hid (∀ k,F k->k < w.heap.size):=hFl;have HW0:Hid (w0.heap.size<=W.heap.size):=Nat.le_trans h.bel.size hbox.bel.size;have HR:Hid (KRt c):=hr;have HSv:Hid _:=hs;have HSl:Hid _:=hl;have HVl:Hid _:=hv;have HFt:Hid (∀ i,i<=l.length->KFit c (runK c K (l.take i)) (k+i) (144*(runK c K (l.take i)).d.now)/\(runK c K (l.take i)).d.now<=K.d.now+15*i):=fun i hi=>by
  have:=runK_fit hr (l.take i) K k hf (by rw[List.length_take];omega);rw[List.length_take,Nat.min_eq_left hi] at this;exact this
 have HNk:Hid (k+K.d.now+20*l.length+20<=800000/\k+l.length < 1000):=⟨hn,hk⟩;have hl9:l.length<=1000:=by omega
 have hslW:=hl W1 (Off.of_below hbW F);clear h hFl hs hr hf hn hk hl hv hown1 hg1 hb1 hbox hbW;go_enter Tryz.func44,Tryz.ntmps44
 go_upto_region 2 with fail
 rw[<- hW];clear hW;have hcap:l.length<=sc:=by obtain⟨sa',cap',h1,h2,-⟩:=hslW;cases h1;exact h2
 have hmap:Option.map (fun x:Addr=>x.add 0) sa=sa:=by cases sa with | none=>rfl | some a=>simp[add_zero']
 clear hslW;go_upto_region 4 with fail
 go_cut [22,23,24] (fun l' n i wx=>l'=.slice sa l.length sc/\n=.int .i64 (l.length:Int)/\i=.int .i64 0/\wx=W1)
 case first=>
  go_wp2_with fail
  go_meet
  case rel=>exact⟨rfl,rfl,rfl,rfl⟩
 obtain⟨rfl,rfl,rfl,rfl⟩:=hcut;clear hmk hcap hmap;rename World=>W1
 go_wp2_with fail
 go_loopw [9,11,24] (fun av _ i wr=>∃ n:Nat,n<=l.length/\i=.int .i64 n/\Hid (PlLp F w0 W wr c kb bc (runK c K (l.take n)) av (ansK c K (l.take n)))) (fun _ _ i _=>l.length - (intOf i).toNat)
 case atStart=>exact⟨0,Nat.zero_le _,rfl,HL.out⟩
 case round=>
  clear HL;obtain⟨n,hnl,rfl,HL⟩:=hrel;have hal:(ansK c K (l.take n)).length=n:=by rw[ansK_length,List.length_take];omega
  obtain⟨ka,kc,hkv⟩:=ow_form HL.out.own;rw[hal] at hkv;subst hkv;have HAl:Hid ((ansK c K (l.take n)).length=n):=hal;clear hal
  by_cases hlt:n < l.length
  ·have k1:(n:Int) < (l.length:Int):=by omega
   obtain⟨x,hx⟩:∃ x,l[n]?=some x:=⟨_,List.getElem?_eq_getElem hlt⟩;obtain⟨g,o,rfl,hc⟩:=slatI_cell (HSl.out wr ((Off.of_below HBx.out.bel F).trans HL.out.off (fun _ _ h=>h))) hx;have c0:=hc n x hx;have hrow:wr.heap[w.heap.size]?=_:=(HL.out.off.block _ HBx.out.lt (fun h5=>Nat.lt_irrefl _ (HFl.out _ h5))).trans HBx.out.heap;have x0:wr.cell? ⟨w.heap.size,0,none⟩=some (.pointer (some ⟨kb,0,none⟩)):=by simp[World.cell?,hrow]
   have x1:wr.cell? ⟨w.heap.size,1,none⟩=some (.pointer (some ⟨bc,0,none⟩)):=by simp[World.cell?,hrow]
   obtain⟨G,a1,a2,a3⟩:=HL.out.at';obtain⟨f1,f2⟩:=HFt.out n hnl;have hnk:=HNk.out;have HX:Hid _:=pl_answer (A:=A) x a1 HSv.out HR.out f1 (by omega) (by omega) (HVl.out x (List.mem_of_getElem? hx));have HSt:Hid (∀ K' wr',KePost G w0 wr c kb bc K' wr'->PlLp F w0 W wr' c kb bc K' (.slice ka n kc) (ansK c K (l.take n))):=fun K' wr' hp=>PlLp.step a2 a3 HL.out.off HL.out.own hp
   have HTk:Hid (runK c K (l.take (n+1))=((runK c K (l.take n)).one c x).1/\ansK c K (l.take (n+1))=ansK c K (l.take n)++[((runK c K (l.take n)).one c x).2]):=⟨runK_take hx,ansK_take hx⟩;generalize hKn:(runK c K (l.take n)).one c x=Kn at HX HTk;generalize hAn:ansK c K (l.take n)=an at HSt HTk HAl;clear hc hx hrow a1 a2 a3 f1 f2 hnk HL hKn hAn;obtain⟨K',y⟩:=Kn;go_wp2_with fail
   refine Calls.mono HX.out ?_;rintro u w3 ⟨rfl,hp⟩;have HL3:Hid _:=HSt.out K' w3 hp;have HO3:Hid (w3.ownsRow W.heap.size 3 1 (.slice ka n kc) n (an.flatMap encI)):=by
    have:w3.ownsRow W.heap.size 3 1 (.slice ka n kc) an.length (an.flatMap encI):=HL3.out.own;rw[HAl.out] at this;exact this
   have hz3:W.heap.size<=w3.heap.size:=HL3.out.off.size;clear hp HX HSt x0 x1 c0;go_wp2_with (at_builtin;refine wpList_append_lies _ rfl _ _ 36 rfl W.heap.size 3 i0 (.int .i64 0) 1 8 Tryz.underlying36 hi0 hz0 hz1 hz2 rfl (by decide) (.slice ka n kc) n (an.flatMap encI) rfl (World.ownsRow.alloc HO3.out _) ⟨w3.heap.size,0,none⟩ 1 1 [.int .i64 y] rfl rfl (ce_at w3 [.int .i64 y] 3) (fun u hu=>by rw[List.mem_singleton] at hu;subst hu;rfl) (by decide) (by unfold maxLen;omega) (by omega) (by simp;omega) (w3.heap.size+1) (by simp) ?_;intro gg cc w12 hown hg hor hlt12)
   have HL5:Hid _:=HL3.out.more HW0.out (by rw[HAl.out]) hown hg hor;clear hown hg hor hlt12 HO3 HL3;go_roundw
   case rel=>exact⟨n+1,by omega,by go_num,by show PlLp _ _ _ _ _ _ _ _ _ _;rw[HTk.out.1,HTk.out.2];exact HL5.out⟩
   case measure=>simp[intOf];omega
  ·obtain rfl:n=l.length:=by omega
   have k1:¬(l.length:Int) < (l.length:Int):=by omega
   have HE:Hid (PlLp F w0 w wr c kb bc (runK c K l) (.slice ka l.length kc) (ansK c K l)):=by
    have h5:=HL.out;rw[List.take_length] at h5;exact h5.from HBx.out.bel
   clear HL HAl;go_wp2;go_ret;exact⟨_,rfl,HE.out⟩
end
set_option maxRecDepth 100000 in
theorem sameInts_at (l:List Int)(sa sb:Option Addr)(ca cb:Nat)(w:World)(ha:SlAt encI 1 w (.slice sa l.length ca) l)(hb:SlAt encI 1 w (.slice sb l.length cb) l)(hn:l.length<=1000000) :
  Calls Tryz.prog 45 #[.slice sa l.length ca,.slice sb l.length cb] w fun e w'=>e=.returned (.bool true)/\Below w.heap.size w w':=by
 have HA:Hid (SlAt encI 1 w (.slice sa l.length ca) l):=ha;have HB:Hid (SlAt encI 1 w (.slice sb l.length cb) l):=hb;clear ha hb;go_enter Tryz.func45,Tryz.ntmps45
 go_wp2_with fail
 go_loopw [5] (fun i wr=>∃ k:Nat,k<=l.length/\i=.int .i64 k/\Below w.heap.size w wr) (fun i _=>l.length - (intOf i).toNat)
 case atStart=>exact⟨0,Nat.zero_le _,rfl,Below.refl _ _⟩
 case round=>
  obtain⟨k,hk,rfl,hbr⟩:=hrel;have HR:Hid (Below w.heap.size w wr):=hbr;clear hbr
  by_cases hlt:k < l.length
  ·have k1:(k:Int) < (l.length:Int):=by omega
   obtain⟨x,hx⟩:∃ x,l[k]?=some x:=⟨_,List.getElem?_eq_getElem hlt⟩;obtain⟨g,o,rfl,hc⟩:=slatI_cell (HA.out.below HR.out) hx;have c0:=hc k x hx;obtain⟨g2,o2,rfl,hc2⟩:=slatI_cell (HB.out.below HR.out) hx;have c1:=hc2 k x hx;clear hc hc2 hx;go_wp2_with fail
   go_quiet (fail)
   go_wp2_with fail
   go_roundw
   case rel=>exact⟨k+1,by omega,by go_num,below_drewN HR.out _⟩
   case measure=>simp[intOf];omega
  ·have k1:¬(k:Int) < (l.length:Int):=by omega
   go_wp2;go_ret;exact⟨rfl,HR.out⟩
def cfg2:CfgD:={ closed:=0,opn:=1,cycle:=1,delay:=0,ents:=[] }
theorem cfg2_ok:(cfgErr cfg2).1=0:=by decide
theorem cfg2_small:SmallC cfg2:=⟨by decide,fun e he=>by cases he⟩
theorem played_pure:ansK cfg2 (KSt.new cfg2 (CSt.new 4096)) [0,-1,27,7]=[0,-1,0,10]/\(runK cfg2 (KSt.new cfg2 (CSt.new 4096)) [0,-1,27,7]).d.kicks=4:=by
 have hr:KRt cfg2:=krt_of cfg2_ok;have hq:∀ e∈cfg2.ents,quietE e:=fun e he=>by cases he
 have q0:QC cfg2 (KSt.new cfg2 (CSt.new 4096)):=⟨Quiet.new,Calm.new⟩;have f0:=kfit_new hr;obtain⟨q1,c1,n1⟩:=q0.tick hr hq f0 (by decide);have f1:=f0.tick hr (by decide);have hn0:(KSt.new cfg2 (CSt.new 4096)).d.now=0:=rfl;rw[hn0] at n1;obtain⟨q2,c2,n2⟩:=QC.ticks hr hq 3 _ q1 f1 (by rw[n1];decide);rw[n1] at n2;generalize KSt.new cfg2 (CSt.new 4096)=K0 at *;have e0:K0.one cfg2 0=((K0.tick cfg2).1,0):=by
  have:K0.oneN cfg2 0=K0.tick cfg2:=rfl;exact(one_pos (c:=cfg2) (K:=K0) 0).trans (by rw[this,c1];rfl)
 generalize (K0.tick cfg2).1=K1 at *;have e1:K1.one cfg2 (-1)=(K1,-1):=one_neg (by decide);have e2:K1.one cfg2 27=((K1.ticks cfg2 3).1,0):=by
  have:K1.oneN cfg2 27=K1.ticks cfg2 3:=rfl;rw[show (27:Int)=((27:Nat):Int) from rfl,one_pos,this,c2];rfl
 generalize (K1.ticks cfg2 3).1=K2 at *;have hon:K2.on=0:=KSt.on_zero.2 ⟨q2.a.off,q2.q.res⟩;have e3:K2.one cfg2 7=(K2,10):=by
  have:K2.oneN cfg2 7=K2.boot cfg2:=rfl;rw[show (7:Int)=((7:Nat):Int) from rfl,one_pos,this];unfold KSt.boot;rw[if_pos hon];rfl
 have kk:=q2.q.kk;rw[n2] at kk;have kk2:K2.d.kicks=4:=by
  have:qk cfg2.closed.toNat cfg2.cycle.toNat ((0+1+3) / cfg2.cycle.toNat)=(4,4):=by decide
  rw[this] at kk;exact congrArg Prod.fst kk
 refine⟨?_,?_⟩
 ·show [_,_,_,_]=_
  rw[e0,e1,e2,e3]
 ·show ((((K0.one cfg2 0).1.one cfg2 (-1)).1.one cfg2 27).1.one cfg2 7).1.d.kicks=4
  rw[e0,e1,e2,e3];exact kk2
set_option maxRecDepth 100000 in
set_option maxHeartbeats 4000000 in
theorem played_at (A:Nat->Addr)(w:World)(hs:Senv A w):Calls Tryz.prog 43 #[] w fun e w'=>e=.returned (.bool true)/\Below w.heap.size w w':=by
 have hr:KRt cfg2:=krt_of cfg2_ok;have HF:Hid (Calls Tryz.prog 15 #[.agg #[.int .i64 0,.int .i64 1,.int .i64 1,.int .i64 0,.slice none 0 0]] w fun u w'=>FrOut w cfg2 u w'):=fresh_at A cfg2 none 0 w hs.ten cfg2_ok ⟨none,0,rfl,fun x=>absurd rfl x⟩ cfg2_small;have HP:Hid _:=played_pure;have HS:Hid _:=hs;have HR:Hid _:=hr;have HK:Hid _:=kfit_new hr;clear hs hr;go_enter Tryz.func43,Tryz.ntmps43
 go_wp2_with fail
 refine Calls.mono HF.out ?_;rintro u w1 ⟨kb,bc,F,rfl,hat,hb1,hF1⟩;obtain⟨V,hV⟩:∃ X,X=w1.alloc (.cells #[.int .i64 0,.int .i64 (-1),.int .i64 27,.int .i64 7] 3):=⟨_,rfl⟩;have hbV:Below w1.heap.size w1 V:=by rw[hV];exact Below.one _ _
 have hrV:V.heap[w1.heap.size]?=some (.cells #[.int .i64 0,.int .i64 (-1),.int .i64 27,.int .i64 7] 3 (0,0)):=by rw[hV];exact heap_alloc_new w1 _
 have hlt:w1.heap.size < V.heap.size:=lt_of_row hrV;have HX:Hid (Calls Tryz.prog 44 #[.pointer (some ⟨kb,0,none⟩),.pointer (some ⟨bc,0,none⟩),.slice (some ⟨w1.heap.size,0,none⟩) 4 4] V fun u w'=>PlOut F w V cfg2 kb bc (KSt.new cfg2 (CSt.new 4096)) [0,-1,27,7] u w'):=
  pl_run (A:=A) [0,-1,27,7] (some ⟨w1.heap.size,0,none⟩) 4 (hat.below hbV) (fun k hk=>Nat.lt_of_lt_of_le (hF1 k hk).2 hbV.size) HS.out HR.out HK.out (by decide) (by decide) (fun U hU=>by
   have hrow:=(hU.block _ hlt (fun e=>Nat.lt_irrefl _ (hF1 _ e).2)).trans hrV
   refine⟨_,_,rfl,by decide,fun _=>⟨_,_,rfl,fun i x hx j u hu=>?_⟩⟩
   match i,hx with
   | 0,hx=>cases hx;cases j with | zero=>cases hu;simp[World.cell?,hrow] | succ j=>simp[encI] at hu
   | 1,hx=>cases hx;cases j with | zero=>cases hu;simp[World.cell?,hrow] | succ j=>simp[encI] at hu
   | 2,hx=>cases hx;cases j with | zero=>cases hu;simp[World.cell?,hrow] | succ j=>simp[encI] at hu
   | 3,hx=>cases hx;cases j with | zero=>cases hu;simp[World.cell?,hrow] | succ j=>simp[encI] at hu
   | n+4,hx=>simp at hx) (by decide)
 have HB1:Hid (Below w.heap.size w V):=hb1.trans (hbV.mono hb1.size);have HFl:Hid (∀ k,F k->w.heap.size<=k):=fun k hk=>(hF1 k hk).1
 clear hat hb1 hF1 HF HK hbV hrV hlt;go_wp2_with (go_at_call 44;rw[<- hV];refine Calls.mono HX.out ?_)
 clear hV;rintro u w2 ⟨av,rfl,hL⟩;have hb2:Below w.heap.size w w2:=Off.below HB1.out hL.off HB1.out.size HFl.out;rw[HP.out.1] at hL;obtain⟨sa,sc,rfl⟩:=ow_form hL.own;obtain⟨V2,hV2⟩:∃ X,X=w2.alloc (.cells #[.int .i64 0,.int .i64 (-1),.int .i64 0,.int .i64 10] 3):=⟨_,rfl⟩;have hbV2:Below w2.heap.size w2 V2:=by rw[hV2];exact Below.one _ _
 have hrV2:V2.heap[w2.heap.size]?=some (.cells #[.int .i64 0,.int .i64 (-1),.int .i64 0,.int .i64 10] 3 (0,0)):=by rw[hV2];exact heap_alloc_new w2 _
 have HX2:Hid (Calls Tryz.prog 45 #[.slice sa 4 sc,.slice (some ⟨w2.heap.size,0,none⟩) 4 4] V2 fun e w'=>e=.returned (.bool true)/\Below V2.heap.size V2 w'):=
  sameInts_at [0,-1,0,10] sa (some ⟨w2.heap.size,0,none⟩) sc 4 V2 ((hL.own.slat (fun _=>rfl)).below hbV2) (by
   refine⟨_,_,rfl,by decide,fun _=>⟨_,_,rfl,fun i x hx j u hu=>?_⟩⟩
   match i,hx with
   | 0,hx=>cases hx;cases j with | zero=>cases hu;simp[World.cell?,hrV2] | succ j=>simp[encI] at hu
   | 1,hx=>cases hx;cases j with | zero=>cases hu;simp[World.cell?,hrV2] | succ j=>simp[encI] at hu
   | 2,hx=>cases hx;cases j with | zero=>cases hu;simp[World.cell?,hrV2] | succ j=>simp[encI] at hu
   | 3,hx=>cases hx;cases j with | zero=>cases hu;simp[World.cell?,hrV2] | succ j=>simp[encI] at hu
   | n+4,hx=>simp at hx) (by decide)
 have HAt:Hid (∀ U,Below V2.heap.size V2 U->Calls Tryz.prog 23 #[.pointer (some ⟨kb,0,none⟩)] U fun e w'=>e=.returned (.int .i64 4)/\w'=U):=fun U hU=>by
  obtain⟨G,g1,-,-⟩:=hL.at';have:=kat_kicks ((g1.below hbV2).below hU);rw[HP.out.2] at this;exact this
 have HB2:Hid (Below w.heap.size w V2):=hb2.trans (hbV2.mono hb2.size);clear hL hb2 hbV2 hrV2 HX HB1 HFl;go_wp2_with (go_at_call 45;rw[<- hV2];refine Calls.mono HX2.out ?_)
 clear hV2;rintro u w3 ⟨rfl,hb3⟩;have HK3:Hid _:=HAt.out w3 hb3;have HB3:Hid (Below w.heap.size w w3):=HB2.out.trans (hb3.mono HB2.out.size);clear hb3 HX2 HAt;go_wp2_with fail
 refine Calls.mono HK3.out ?_;rintro u w4 ⟨rfl,rfl⟩;go_wp2;go_ret;exact⟨rfl,HB3.out⟩
set_option maxRecDepth 100000 in
set_option maxHeartbeats 8000000 in
theorem pr_in (A:Nat->Addr)(c:CfgD)(sa:Option Addr)(sc:Nat)(l:List Int)(sl:Option Addr)(slc:Nat)(w:World)(hs:Senv A w)(hE:EntsAt w (.slice sa c.ents.length sc) c.ents)(hI:SlAt encI 1 w (.slice sl l.length slc) l)(hlen:l.length<=9223372036854775807)(hv:∀ v∈l,v<=9223372036854775807) :
  Calls Tryz.prog 9 #[.agg #[.int .i64 c.closed,.int .i64 c.opn,.int .i64 c.cycle,.int .i64 c.delay,.slice sa c.ents.length sc],.slice sl l.length slc] w fun v w'=>v=.returned (.bool true)/\Below w.heap.size w w':=by
 obtain⟨i0,hi0,hz0,hz1,hz2⟩:=info_parts Tryz.infoIntP;obtain⟨W0,hW0⟩:∃ X,X=w.alloc (.cells #[.int .i64 c.closed,.int .i64 c.opn,.int .i64 c.cycle,.int .i64 c.delay,.slice sa c.ents.length sc] 24):=⟨_,rfl⟩;have b0:Below w.heap.size w W0:=by rw[hW0];exact Below.one _ _
 have r0:W0.heap[w.heap.size]?=some (.cells #[.int .i64 c.closed,.int .i64 c.opn,.int .i64 c.cycle,.int .i64 c.delay,.slice sa c.ents.length sc] 24 (0,0)):=by rw[hW0];exact heap_alloc_new w _
 have y:∀ V,Below W0.heap.size W0 V->(V.cell? ⟨w.heap.size,0,none⟩=some (.int .i64 c.closed)/\V.cell? ⟨w.heap.size,1,none⟩=some (.int .i64 c.opn)/\V.cell? ⟨w.heap.size,2,none⟩=some (.int .i64 c.cycle)/\V.cell? ⟨w.heap.size,3,none⟩=some (.int .i64 c.delay)/\V.cell? ⟨w.heap.size,4,none⟩=some (.slice sa c.ents.length sc)):=fun V hV=>by
  have:=row_below hV r0
  refine⟨?_,?_,?_,?_,?_⟩ <;> simp[World.cell?,this]
 have HY:Hid _:=y;have HB0:Hid _:=b0;have HWa:Hid _:=played_at A W0 (hs.below b0);have HE:Hid (∀ V,Below w.heap.size w V->EntsAt V (.slice sa c.ents.length sc) c.ents):=fun V hV=>hE.below hV
 have HSv:Hid (∀ V,Below w.heap.size w V->Senv A V):=fun V hV=>hs.below hV
 have HI:Hid (∀ V,Below w.heap.size w V->SlAt encI 1 V (.slice sl l.length slc) l):=fun V hV=>hI.below hV
 have HVl:Hid (∀ v∈l,v<=9223372036854775807):=hv;have hlen':(l.length:Int)<=9223372036854775807:=by omega
 clear hs hE hI hv b0 r0 y;go_enter Tryz.func9,Tryz.ntmps9
 go_upto_region 1 with fail
 rw[<- hW0];clear hW0;go_wp2_with fail
 refine Calls.mono HWa.out ?_;rintro u w1 ⟨rfl,hb1⟩;have HBb1:Hid (Below W0.heap.size W0 w1):=hb1;have HB1:Hid (Below w.heap.size w w1):=HB0.out.trans (hb1.mono HB0.out.size);clear hb1 HWa;obtain⟨y0,y1,y2,y3,y4⟩:=HY.out w1 HBb1.out;go_wp2_with fail
 clear y0 y1 y2 y3 y4
 refine Calls.mono (heavyC_at c sa sc w1 (HE.out w1 HB1.out)) ?_;rintro u w2 ⟨rfl,hb2⟩;have HBb2:Hid (Below W0.heap.size W0 w2):=HBb1.out.trans (hb2.mono HBb1.out.size);have HB2:Hid (Below w.heap.size w w2):=HB1.out.trans (hb2.mono HB1.out.size);clear hb2
 cases hh:heavyC c
 ·rw[show one01 false=0 from rfl];have HSm:Hid (SmallC c):=heavyC_small hh;clear hh
  by_cases hl0:150 < l.length
  ·have g1:(150:Int) < (l.length:Int):=by omega
   go_wp2;go_ret;exact⟨rfl,HB2.out⟩
  have g1:¬(150:Int) < (l.length:Int):=by omega
  obtain⟨y0,y1,y2,y3,y4⟩:=HY.out w2 HBb2.out;go_wp2_with fail
  clear y0 y1 y2 y3 y4
  refine Calls.mono (cfault_at c sa sc w2 (HE.out w2 HB2.out) HSm.out) ?_;rintro u w3 ⟨rfl,hb3⟩;have HBb3:Hid (Below W0.heap.size W0 w3):=HBb2.out.trans (hb3.mono HBb2.out.size);have HB3:Hid (Below w.heap.size w w3):=HB2.out.trans (hb3.mono HB2.out.size);clear hb3;obtain⟨code,hcode⟩:∃ x,x=(cfgErr c).1:=⟨_,rfl⟩;rw[<- hcode];have hfl:=fld_fault (code:Int) (cfgErr c).2 w3;have HCo:Hid (code=(cfgErr c).1):=hcode;clear hcode
  by_cases hc0:code=0
  ·subst hc0;simp only[Int.ofNat_zero] at hfl ⊢;have h0:(cfgErr c).1=0:=HCo.out.symm;have HR:Hid (KRt c):=krt_of h0;have HC0:Hid ((cfgErr c).1=0):=h0;have HFr:Hid _:=fresh_at A c sa sc w3 (HSv.out w3 HB3.out).ten h0 (HE.out w3 HB3.out) HSm.out;clear h0;obtain⟨y0,y1,y2,y3,y4⟩:=HY.out w3 HBb3.out;go_wp2_with fail
   clear y0 y1 y2 y3 y4;clear hfl
   refine Calls.mono HFr.out ?_;rintro u w4 ⟨kb,bc,F,rfl,hat,hb4,hF4⟩;have HB34:Hid (Below w3.heap.size w3 w4):=hb4;have HBb4:Hid (Below W0.heap.size W0 w4):=HBb3.out.trans (hb4.mono HBb3.out.size);have HB4:Hid (Below w.heap.size w w4):=HB3.out.trans (hb4.mono HB3.out.size);have HKe:Hid (KeAt F w3 w4 c kb bc (KSt.new c (CSt.new 4096))):=hat;have HF4:Hid (∀ k,F k->w3.heap.size<=k/\k < w4.heap.size):=hF4;clear hat hb4 hF4 HFr HBb1 HB1 HBb2 HB2 HSm;have hmk1:∀ V:World,(Instr.makeSlice 86 (.int .i64 4096) (.int .i64 4096)).run Tryz.prog V=.ok (.slice (some ⟨V.heap.size,0,none⟩) 4096 4096) (V.alloc (.cells (madeCells #[.int .u8 0] 4096) 5)):=fun V=>run_make_row' (P:=Tryz.prog) 86 5 (.int .u8 0) 1 Tryz.underlying86 Tryz.infoBP rfl .i64 .i64 4096 (by omega) (by omega) V
   go_upto_region 7 with fail
   go_cut [9] (fun m wx=>PrM w3 w4 c (.slice sa c.ents.length sc) m wx/\Below w4.heap.size w4 wx)
   case first=>
    refine region_spec 7 rfl (prS w3 w4 c (.slice sa c.ents.length sc)) (fun V=>Below w4.heap.size w4 V) (by kernel_rfl) (by kernel_rfl) (below_drew (Below.refl _ _)) ?_ ?_
    ·intro i o ho
     match i,ho with
     | 0,ho=>
      obtain rfl:=Option.some.inj ho
      refine StepOk.free rfl ?_;intro a V hC hdep hoth;have x0:a.tmps[2]?.getD undef=.pointer (some ⟨w.heap.size,0,none⟩):=slot_of (hoth 2 (notDst (by kernel_rfl)));obtain⟨y0,y1,y2,y3,y4⟩:=HY.out V (HBb4.out.trans (hC.mono HBb4.out.size));exact goodRun.val (c:=.agg #[.int .i64 c.closed,.int .i64 c.opn,.int .i64 c.cycle,.int .i64 c.delay,.slice sa c.ents.length sc]) (by clear hdep hoth;go_simp) hC rfl
     | 1,ho=>
      obtain rfl:=Option.some.inj ho
      refine StepOk.free rfl ?_;intro a V hC hdep hoth;exact goodRun.made (c:=(.slice (some ⟨V.heap.size,0,none⟩) 4096 4096)) (w':=V.alloc (.cells (madeCells #[.int .u8 0] 4096) 5)) (by clear hdep hoth;go_simp) (hC.alloc hC.size _) (prS_keeps ((Below.refl _ _).alloc (Nat.le_refl _) _)) ⟨V.heap.size,rfl,heap_firstP V _⟩
     | 2,ho=>
      obtain rfl:=Option.some.inj ho
      refine StepOk.free rfl ?_;intro a V hC hdep hoth;obtain⟨b,hv,hrow⟩:=hdep _ 40 (Array.mem_of_getElem? (i:=0) rfl) rfl rfl;have x40:=slot_of hv;have cv:=conv_madeP _ _ _ 4096 hrow;clear hv hrow;exact goodRun.val (c:=.string (ZP 4096)) (by clear hdep hoth;go_simp) hC rfl
     | 3,ho=>
      obtain rfl:=Option.some.inj ho
      refine StepOk.free rfl ?_;intro a V hC hdep hoth;have x41:a.tmps[41]?.getD undef=.string (ZP 4096):=slot_of (hdep _ 41 (Array.mem_of_getElem? (i:=0) rfl) rfl rfl);generalize hZ:ZP 4096=Z at x41;exact goodRun.val (c:=.agg #[.string Z,.bool false,.int .i64 0,.bool false,.int .i64 0]) (by clear hdep hoth;go_simp) hC (by show _=_;rw[hZ])
     | 4,ho=>
      obtain rfl:=Option.some.inj ho
      refine StepOk.free rfl ?_;intro a V hC hdep hoth;have x42:a.tmps[42]?.getD undef=.agg #[.string (ZP 4096),.bool false,.int .i64 0,.bool false,.int .i64 0]:=slot_of (hdep _ 42 (Array.mem_of_getElem? (i:=0) rfl) rfl rfl);generalize hZ:ZP 4096=Z at x42;exact goodRun.made (c:=(.pointer (some ⟨V.heap.size,0,none⟩))) (w':=V.alloc (.cells #[.string Z,.bool false,.int .i64 0,.bool false,.int .i64 0] 78)) (by clear hdep hoth;go_simp) (hC.alloc hC.size _) (prS_keeps ((Below.refl _ _).alloc (Nat.le_refl _) _)) ⟨V.heap.size,rfl,hC.size,by rw[hZ];exact⟨heap_firstP V _⟩⟩
     | 5,ho=>
      obtain rfl:=Option.some.inj ho
      refine StepOk.free rfl ?_;intro a V hC hdep hoth;have x39:a.tmps[39]?.getD undef=.agg #[.int .i64 c.closed,.int .i64 c.opn,.int .i64 c.cycle,.int .i64 c.delay,.slice sa c.ents.length sc]:=slot_of (hdep _ 39 (Array.mem_of_getElem? (i:=0) rfl) rfl rfl);obtain⟨b,hv,hlo,hmod⟩:=hdep _ 43 (Array.mem_of_getElem? (i:=1) rfl) rfl rfl;have x43:a.tmps[43]?.getD undef=.pointer (some ⟨b,0,none⟩):=slot_of hv
      refine goodRun.call (f:=40) (args:=#[.agg #[.int .i64 c.closed,.int .i64 c.opn,.int .i64 c.cycle,.int .i64 c.delay,.slice sa c.ents.length sc],.pointer (some ⟨b,0,none⟩)]) (by clear hdep hoth hv hmod;go_simp) ?_
      refine(pr_new HR.out (HE.out w3 HB3.out) HB34.out hC hlo hmod).mono ?_;rintro u V' ⟨⟨v,rfl,hM⟩,hb⟩;exact⟨_,rfl,hC.trans (hb.mono hC.size),prS_keeps hb,hM⟩
     | 6,ho=>
      obtain rfl:=Option.some.inj ho
      refine StepOk.free rfl ?_;intro a V hC hdep hoth;have hM:=hdep _ 44 (Array.mem_of_getElem? (i:=0) rfl) rfl rfl;obtain⟨mb,bm,G,hv,hM2⟩:=hM;have x44:a.tmps[44]?.getD undef=.pointer (some ⟨mb,0,none⟩):=slot_of hv;exact goodRun.val (c:=.pointer (some ⟨mb,0,none⟩)) (by clear hdep hoth hv hM2;go_simp) hC ⟨mb,bm,G,rfl,hM2⟩
     | n+7,ho=>simp at ho
    ·intro vals V hC hS;have hM:PrM w3 w4 c (.slice sa c.ents.length sc) (vals 6) V:=hS 6 (by decide);obtain⟨mb,bm,G,hv,hM2⟩:=hM;have HM2:Hid _:=hM2;clear hS hM2;simp only[fill,dstOf];go_simp
     go_wp2_with fail
     go_meet
     case rel=>exact⟨⟨mb,bm,G,rfl,HM2.out⟩,hC⟩
   obtain⟨⟨mb,bm,G,rfl,hM,hG⟩,hb5⟩:=hcut;rename World=>w5
   have HM5:Hid _:=hM;have HG5:Hid _:=hG;have HB45:Hid (Below w4.heap.size w4 w5):=hb5;have HB5:Hid (Below w.heap.size w w5):=HB4.out.trans (hb5.mono HB4.out.size);clear hM hG hb5 hmk1;go_upto_region 9 with fail
   go_wp2_with (at_builtin;refine wpList_copy (w:=w5) rfl _ _ 36 rfl w5.heap.size 3 i0 (.int .i64 0) 1 8 Tryz.underlying36 hi0 hz0 hz1 hz2 rfl (by decide) rfl encI (fun _=>rfl) encI_one (.slice sl l.length slc) (l) rfl (HI.out w5 HB5.out) (by omega) (by decide) (Nat.le_refl _) ?_;intro s6 c6 w6 hown6 hb6)
   have HB56:Hid (Below w5.heap.size w5 w6):=hb6;have HO6:Hid _:=hown6;have HB46:Hid (Below w4.heap.size w4 w6):=HB45.out.trans (hb6.mono HB45.out.size);have HX:Hid _:=pl_run (A:=A) l s6 c6 (KeAt.below HKe.out HB46.out) (fun k hk=>Nat.lt_of_lt_of_le (HF4.out k hk).2 HB46.out.size) (HSv.out w3 HB3.out) HR.out (kfit_new HR.out) (by show 0+0+20*l.length+20<=800000;omega) (by omega) (fun V hV=>(SlOwn.same hown6 (fun g hg=>hV.block g (hown6.lt g hg).2 (fun hf=>by have h1:=(HF4.out g hf).2;have h2:=(hown6.lt g hg).1;have h3:=HB45.out.size;omega))).slat (fun _=>rfl)) HVl.out;clear hown6 hb6 HO6;go_wp2_with fail
   refine Calls.mono HX.out ?_;rintro u w7 ⟨av,rfl,hL⟩;have HL:Hid _:=hL;have HM7:Hid (KmAt G w3 w7 c (.slice sa c.ents.length sc) mb bm (KSt.new c (CSt.new 4096))):=KmAt.off (KmAt.below HM5.out HB56.out) hL.off (fun k hk hf=>by have h1:=(HF4.out k hf).2;have h2:=(HG5.out k hk).1;omega) (fun k hk=>(HF4.out k hk).1);have HB37:Hid (Below w3.heap.size w3 w7):=by obtain⟨G1,g1,-⟩:=hL.at';exact KeAt.bel g1
   have HX2:Hid _:=km_run l sl slc HM7.out HR.out (kfit_new HR.out) (by show 0+0+20*l.length+20<=800000;omega) (by omega) (fun V hV=>HI.out V (Off.below (HB3.out.trans (HB37.out.mono HB3.out.size)) hV (Nat.le_trans HB3.out.size HB37.out.size) (fun k hk=>Nat.le_trans HB4.out.size (HG5.out k hk).1))) HVl.out;clear hL HX;go_wp2_with fail
   refine Calls.mono HX2.out ?_;rintro u w8 ⟨mv,rfl,hL2⟩;obtain⟨sv,ac,rfl⟩:=ow_form HL.out.own;obtain⟨ms,mc,rfl⟩:=ow_form hL2.own;have HAv:Hid (SlAt encI 1 w8 (.slice sv (ansK c (KSt.new c (CSt.new 4096)) l).length ac) (ansK c (KSt.new c (CSt.new 4096)) l)):=(SlOwn.same HL.out.own (fun g hg=>hL2.off.block g (HL.out.own.lt g hg).2 (fun hf=>by have h1:=(HG5.out g hf).2;have h2:=(HL.out.own.lt g hg).1;have h3:=HB56.out.size;omega))).slat (fun _=>rfl);have HX3:Hid _:=sameInts_at _ sv ms ac mc w8 HAv.out (hL2.own.slat (fun _=>rfl)) (by rw[ansK_length];omega);obtain⟨F1,k1,k2,-⟩:=HL.out.at';obtain⟨G1,m1,m2,-⟩:=hL2.at';have HK8:Hid (KeAt F1 w3 w8 c kb bc (runK c (KSt.new c (CSt.new 4096)) l)):=KeAt.off k1 hL2.off (fun k hk hf=>by
    have h1:=HG5.out k hf;have h3:=HB56.out.size
    rcases k2 k hk with h2 | ⟨h2,_⟩
    ·have:=(HF4.out k h2).2;omega
    ·omega) (fun k hk=>Nat.le_trans HB34.out.size (HG5.out k hk).1)
   have HM8:Hid _:=m1;have hft:=(runK_fit HR.out l (KSt.new c (CSt.new 4096)) 0 (kfit_new HR.out) (by show 0+15*l.length<=900000;omega)).1;have HL8:Hid ((runK c (KSt.new c (CSt.new 4096)) l).L.length<=8):=hft.llen;clear hL2 HX2 k1 k2 m1 m2 hft HL HAv;go_wp2_with fail
   refine Calls.mono HX3.out ?_;rintro u w9 ⟨rfl,hb9⟩;have HX4:Hid _:=asKeeper_at (A:=A) (KeAt.below HK8.out hb9) (KmAt.below HM8.out hb9) (HSv.out w3 HB3.out) HL8.out HR.out.nn;have HB9:Hid (Below w.heap.size w w9):=HB3.out.trans ((KeAt.below HK8.out hb9).bel.mono HB3.out.size);clear hb9 HX3;go_wp2_with fail
   refine Calls.mono HX4.out ?_;rintro u w10 ⟨rfl,hb10⟩;go_wp2;go_ret;exact⟨rfl,HB9.out.trans (hb10.mono HB9.out.size)⟩
  ·have g0:0 < (code:Int):=by omega
   go_wp2;go_ret;exact⟨rfl,HB3.out⟩
 ·rw[show one01 true=1 from rfl];go_wp2;go_ret;exact⟨rfl,HB2.out⟩
end Go.Proofs.YtdpdbfhbojgigacGreatDoor
