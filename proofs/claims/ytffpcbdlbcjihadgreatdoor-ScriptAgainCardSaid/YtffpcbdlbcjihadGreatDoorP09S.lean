/-
  Several texts as one: GaNew, DcHas, EqPair, LcMod, KpPure, CfArgB, CfArgE, FlKey, KpFit, KpMem.
-/
import Derived.Test.YtffpcbdlbcjihadGreatDoorP08S
import Derived.Deep.RegionHeld3
import Derived.Laws.StructEq
import Derived.BigQuiet
import Derived.Deep.QuietTactic
import Derived.Deep.DeepCutAuto
import Derived.WalkSmall
import Derived.Deep.AppendLies
import Derived.Deep.RegionLaw
import Derived.Lib.LaidTab
import Derived.ProofKit
import Derived.OpenShut
import Derived.Deep.Slices
import Derived.Carry
import Derived.DeepKeys4
import Derived.Maps.OwnSet
import Derived.Maps.Own
namespace Go.Proofs.YtffpcbdlbcjihadGreatDoor
open Go.RowKit Go.Extern.Stop Go.Stop Go.Extern
theorem Tryz.infoGap:(Tryz.prog.info? 347).map (fun i=>(i.zero,i.size,i.bytes))=some (some (.agg #[.int .i64 0,.int .i64 0,.int .i64 0,.int .i64 0,.int .i64 0]),5,40):=by kernel_rfl
theorem wpList_make0 {w:World}{ops:Array Oper}{rest:List Oper}{o:Oper}{a:Act}{Q:Exit->Act->World->Prop}(hgd:o.guard=none)(l c:Operand)(t:TypeId)
  (ho:o.op=Op.makeSlice t l c) (B:Nat) (e:TypeId) (i:TypeInfo) (z:Value) (size bytes:Nat) (ht:Tryz.prog.underlying t=some (.slice e)) (hi:Tryz.prog.info? e=some i) (hz:i.zero=some z) (hsize:i.size=size) (hby:i.bytes=bytes) (n:Nat)
  (hl:a.eval l=.int .i64 0) (hc:a.eval c=.int .i64 (n:Int)) (hn:n<=1000000) (hbb:bytes<=1000) (hB:B<=w.heap.size)
  (h:∀ w',w'.ownsRow B e size (.slice (some ⟨w.heap.size,0,none⟩) 0 n) 0 []->Below w.heap.size w w'->w'.heap.size=w.heap.size+1->wpList Tryz.prog ops Q rest (a.put o.dst (.slice (some ⟨w.heap.size,0,none⟩) 0 n)) w'):wpList Tryz.prog ops Q (o :: rest) a w:=by
 refine wpList_plain hgd fun K hK=>?_
 have hm:i.bytes*n<=1000*1000000:=Nat.mul_le_mul (by omega) hn;have hr:=run_make (P:=Tryz.prog) w t e i z ht hi hz .i64 .i64 0 n (Int.le_refl _) (by omega) (by have:((i.bytes*n:Nat):Int)<=281474976710656:=(by omega);rwa [Int.natCast_mul] at this) (by omega);simp only[Int.toNat_zero,Int.toNat_natCast] at hr;unfold Oper.wp execOp;simp only[ho,hl,hc,Sem.run_bind,Sem.run_pure,Result.andThen_ok,hr]
 refine hK _ _ (h _ ?_ (Below.one _ _) (by simp));have:=World.ownsRow_made (e:=e) (size:=size) w (madeCells z.cells (n*i.size)) n hB (by unfold maxLen;omega) (by rw[size_madeCells,hsize]);exact this
variable {B b cap:Nat}{w0 w w':World}{sa:Option Addr}{s:GSt}{xs:List WG}
theorem gp_of_own {v:Value}{xs:List WG}{bad:Bool}(hb:w.heap[b]?=some (.cells #[v,.bool bad] 345 (0,0)))(ho:SlOwn encW 5 347 B w v xs)(hlo:B<=b)(hf:GSt.fit ⟨xs,bad⟩):∃ sa cap,GpAt B w b sa cap ⟨xs,bad⟩:=by
 rcases ho.2 with ⟨rfl,h0⟩ | ⟨g,cap,cur,rfl,hB,hg,hle,-⟩
 ·have:xs=[]:=List.eq_nil_of_length_eq_zero h0;subst this;exact⟨none,0,hb,fun e=>absurd rfl e,hlo,hf⟩
 ·refine⟨_,cap,hb,fun hne=>⟨g,0,rfl,fun e=>?_,hB,fun i x hx j u hu=>?_,cur,hg⟩,hlo,hf⟩
  ·subst e;rw[hg] at hb;simp only[Option.some.injEq,Obj.cells.injEq] at hb;exact absurd hb.2.1 (by decide)
  ·have:=ho.cells (g:=g) rfl (i*5+j) u (flat_at encW_len xs i j x u hx hu);rw[addC_plain] at this;rw[Nat.add_assoc];exact this
set_option maxHeartbeats 2000000 in
set_option maxRecDepth 100000 in
theorem gp_new (name:ByteArray)(tol cnt mn mx:Int)(pv ev fv lv:Value)(ga:Option Addr)(gc:Nat)(gs:List GapD)(w:World)(hg:SlAt encG 4 w (.slice ga gs.length gc) gs)(hlen:gs.length<=1000000) :
  Calls Tryz.prog 231 #[.agg #[.string name,.int .i64 tol,pv,.int .i64 cnt,.int .i64 mn,.int .i64 mx,.slice ga gs.length gc,ev,fv,lv]] w fun v w'=>∃ b,v=.returned (.pointer (some ⟨b,0,none⟩))/\GpIn w w' b (GSt.new gs):=by
 obtain⟨i0,hi,hz0,hz1,hz2⟩:=info_parts Tryz.infoGap;have HG:Hid (SlAt encG 4 w (.slice ga gs.length gc) gs):=hg;have HL:Hid (gs.length<=1000000):=hlen;clear hg hlen;go_enter Tryz.func231,Tryz.ntmps231
 go_upto_region 2 with (refine wpList_make0 rfl _ _ 343 rfl w.heap.size 347 i0 (.agg #[.int .i64 0,.int .i64 0,.int .i64 0,.int .i64 0,.int .i64 0]) 5 40 Tryz.underlying343 hi hz0 hz1 hz2 gs.length rfl rfl HL.out (by decide) (by simp) ?_;intro w1 hown1 hb1 hs1)
 obtain⟨W,hW⟩:∃ V,V=w1.alloc (.cells #[.slice (some ⟨w.heap.size+1,0,none⟩) 0 gs.length,.bool false] 345):=⟨_,rfl⟩;have hs1':w1.heap.size=w.heap.size+2:=by rw[hs1];simp
 clear hs1;have hBl:Below w.heap.size w W:=by rw[hW];exact(((Below.refl _ _).alloc (Nat.le_refl _) _).trans (hb1.mono (by simp))).alloc (by omega) _
 have HBW:Hid (Below w.heap.size w W):=hBl;have HG0:Hid (W.heap[w.heap.size+2]?=some (.cells #[.slice (some ⟨w.heap.size+1,0,none⟩) 0 gs.length,.bool false] 345 (0,0))):=by
  show _=_
  rw[hW,<- hs1'];exact heap_alloc_new w1 _
 have e6:W.cell? ⟨w.heap.size,6,none⟩=some (.slice ga gs.length gc):=by
  have h1:=row_below hb1 (heap_alloc_new w (.cells #[.string name,.int .i64 tol,pv,.int .i64 cnt,.int .i64 mn,.int .i64 mx,.slice ga gs.length gc,ev,fv,lv] 83));have h2:=row_below (Below.one w1 (.cells #[.slice (some ⟨w.heap.size+1,0,none⟩) 0 gs.length,.bool false] 345)) h1;rw[hW];simp[World.cell?,h2]
 have HOw:Hid (W.ownsRow w.heap.size 347 5 (.slice (some ⟨w.heap.size+1,0,none⟩) 0 gs.length) 0 []):=by
  show World.ownsRow _ _ _ _ _ _ _
  have h3:=hown1;simp only[World.size_alloc] at h3;rw[hW];exact h3.alloc _
 have HSW:Hid (W.heap.size=w.heap.size+3):=by show _=_;rw[hW,World.size_alloc];omega
 rw[<- hW,show w.heap.size+1+1=w.heap.size+2 from rfl];clear hW hown1 hb1 hs1' hBl;go_wp2_with fail
 go_loopw [15,5] (fun i _ wr=>∃ k:Nat,k<=gs.length/\i=.int .i64 k/\Below w.heap.size w wr/\∃ va vc,wr.heap[w.heap.size+2]?=some (.cells #[.slice va k vc,.bool false] 345 (0,0))/\wr.ownsRow w.heap.size 347 5 (.slice va k vc) k (((gs.take k).map WG.new).flatMap encW)) (fun i _ _=>gs.length - (intOf i).toNat)
 case atStart=>exact⟨0,Nat.zero_le _,rfl,HBW.out,_,_,HG0.out,by simpa using HOw.out⟩
 case round=>
  clear e6 HG0 HOw HBW HSW;obtain⟨k,hk,rfl,hbk,va,vc,hgk,hok⟩:=hrel;have HB:Hid (Below w.heap.size w wr):=hbk;have HGk:Hid (wr.heap[w.heap.size+2]?=some (.cells #[.slice va k vc,.bool false] 345 (0,0))):=hgk;have HOk:Hid (wr.ownsRow w.heap.size 347 5 (.slice va k vc) k (((gs.take k).map WG.new).flatMap encW)):=hok;clear hbk hgk hok
  by_cases hlt:k < gs.length
  ·have k1:(k:Int) < (gs.length:Int):=by omega
   have k2:k < 1000000:=by have:=HL.out;omega
   obtain⟨x,hx⟩:∃ x,gs[k]?=some x:=⟨_,List.getElem?_eq_getElem hlt⟩;have HX:Hid (((gs.take (k+1)).map WG.new).flatMap encW=((gs.take k).map WG.new).flatMap encW++[.int .i64 x.fr,.int .i64 x.to,.int .i64 x.mn,.int .i64 x.mx,.int .i64 (-1)]):=by
    show _=_
    rw[List.take_add_one,hx];simp[encW,WG.new]
   obtain⟨sa',cap',hsl,-,hcc⟩:=id HG.out
   cases hsl
   obtain⟨g,o,rfl,hc0⟩:=hcc (fun h=>by rw[h] at hx;simp at hx);have c0:wr.cell? ⟨g,o+k*4,none⟩=some (.int .i64 x.fr):=cell_below HB.out (hc0 k _ hx 0 _ rfl);have c1:wr.cell? ⟨g,o+k*4+1,none⟩=some (.int .i64 x.to):=cell_below HB.out (hc0 k _ hx 1 _ rfl);have c2:wr.cell? ⟨g,o+k*4+2,none⟩=some (.int .i64 x.mn):=cell_below HB.out (hc0 k _ hx 2 _ rfl);have c3:wr.cell? ⟨g,o+k*4+3,none⟩=some (.int .i64 x.mx):=cell_below HB.out (hc0 k _ hx 3 _ rfl);clear hcc hc0 hx;go_upto_region 5 with fail
   obtain⟨V,hV⟩:∃ V,V=wr.alloc (.cells #[.int .i64 x.fr,.int .i64 x.to,.int .i64 x.mn,.int .i64 x.mx] 96):=⟨_,rfl⟩;rw[<- hV];have HBV:Hid (Below wr.heap.size wr V):=by show Below _ _ _;rw[hV];exact Below.one _ _
   have HSV:Hid (V.heap.size=wr.heap.size+1):=by show _=_;rw[hV,World.size_alloc]
   have dd:∀ (j:Nat) u,([.int .i64 x.fr,.int .i64 x.to,.int .i64 x.mn,.int .i64 x.mx]:List Value)[j]?=some u->V.cell? ⟨wr.heap.size,0+j,none⟩=some u:=fun j u hu=>by
    rw[hV];have:=ce_at wr [.int .i64 x.fr,.int .i64 x.to,.int .i64 x.mn,.int .i64 x.mx] 96 j u hu;rwa [addC_plain] at this
   have d0:=dd 0 _ rfl;have d1:=dd 1 _ rfl;have d2:=dd 2 _ rfl;have d3:=dd 3 _ rfl;simp only[Nat.zero_add] at d0 d1 d2 d3;clear hV c0 c1 c2 c3 dd;have HGv:Hid (V.heap[w.heap.size+2]?=some (.cells #[.slice va k vc,.bool false] 345 (0,0))):=row_below HBV.out HGk.out;have HOv:Hid (V.ownsRow w.heap.size 347 5 (.slice va k vc) k (((gs.take k).map WG.new).flatMap encW)):=SlOwnR.below HOk.out HBV.out;have hown:V.drew.ownsRow w.heap.size 347 5 (.slice va k vc) k (((gs.take k).map WG.new).flatMap encW):=HOv.out;have hLz:w.heap.size<=V.heap.size:=Nat.le_trans HB.out.size (by have:=HSV.out;omega);have c8:V.cell? ⟨w.heap.size+2,0,none⟩=some (.slice va k vc):=by simp[World.cell?,HGv.out]
   have c8':∀ ob,(V.alloc ob).cell? ⟨w.heap.size+2,0,none⟩=some (.slice va k vc):=fun ob=>cell_below (Below.one _ _) c8
   have d0':∀ ob,(V.alloc ob).cell? ⟨wr.heap.size,0,none⟩=some (.int .i64 x.fr):=fun ob=>cell_below (Below.one _ _) d0
   have KB:Hid (∀ (ob:Obj) (w8:World),(V.drew.alloc ob).grownBy w8 (Value.slice va k vc).ownBlock->w8.heap[w.heap.size+2]?=some (.cells #[.slice va k vc,.bool false] 345 (0,0))):=fun ob w8 hg=>by
    have h1:(V.drew.alloc ob).heap[w.heap.size+2]?=some (.cells #[.slice va k vc,.bool false] 345 (0,0)):=row_below (w:=V.drew) (Below.one _ _) HGv.out;exact(hg.block _ (lt_of_row h1) (fun e2=>ow_ne (w:=V.drew) hown HGv.out (by decide) e2.symm)).trans h1
   have KL:Hid (∀ (ob:Obj) (w8:World),(V.drew.alloc ob).grownBy w8 (Value.slice va k vc).ownBlock->Below w.heap.size w w8):=fun ob w8 hg=>by
    have h1:Below w.heap.size w (V.drew.alloc ob):=(HB.out.trans (HBV.out.mono HB.out.size)).drew.alloc (by simp;omega) _;exact h1.grown hg h1.size (fun i hi=>(hown.lt i hi).1)
   go_wp2_with fail
   go_region_law (refine step_append_lies _ rfl (.tmp 23) (.tmp 26) 343 rfl w.heap.size 347 i0 (.agg #[.int .i64 0,.int .i64 0,.int .i64 0,.int .i64 0,.int .i64 0]) 5 40 Tryz.underlying343 hi hz0 hz1 hz2 rfl (by decide) (.slice va k vc) k (((gs.take k).map WG.new).flatMap encW) (by simp[Act.eval]) (hown.alloc _) ⟨V.heap.size,0,.none⟩ 1 1 [.int .i64 x.fr,.int .i64 x.to,.int .i64 x.mn,.int .i64 x.mx,.int .i64 (-1)] (by simp[Act.eval]) rfl (ce_at V.drew [.int .i64 x.fr,.int .i64 x.to,.int .i64 x.mn,.int .i64 x.mx,.int .i64 (-1)] 347) (encW_one ⟨x,-1⟩) (by decide) (by unfold maxLen;omega) (by omega) (by simp;omega) (V.heap.size+1) (by simp) ?_;intro g' cap' w8 hown8 hgrow8 hor hlt8;have r8:=KB.out _ _ hgrow8;have d8:w8.cell? ⟨w.heap.size+2,0,none⟩=some (.slice va k vc):=(by simp[World.cell?,r8]);have d9:w8.frozen? ⟨w.heap.size+2,0,none⟩=false:=(by simp[World.frozen?,r8]))
   all_goals
    go_wp2_with fail
    go_roundw
    case rel=>
     refine⟨k+1,by omega,by go_num,?_,some ⟨g',0,none⟩,cap',?_,?_⟩
     ·exact(KL.out _ _ hgrow8).setCell (p:=⟨w.heap.size+2,0,none⟩) (by simp) _
     ·simp[World.setCell,Array.getElem?_modify,r8]
     ·rw[HX.out];exact hown8.kept (grown_setCell w8 _ _ _) (Or.inr (fun e2=>ow_ne hown8 r8 (by decide) e2))
    case measure=>simp[intOf];omega
  ·have k1:¬(k:Int) < (gs.length:Int):=by omega
   have hkk:k=gs.length:=by omega
   have HF:Hid (∃ sa cap,GpAt w.heap.size wr (w.heap.size+2) sa cap ⟨(gs.take k).map WG.new,false⟩):=gp_of_own HGk.out (by
    have:=HOk.out;show World.ownsRow _ _ _ _ _ _ _
    rw[show ((gs.take k).map WG.new).length=k by simp;omega];exact this) (by omega) (by rw[hkk,List.take_length];exact GSt.fit_new gs)
   have HE:Hid (GSt.new gs=⟨(gs.take k).map WG.new,false⟩):=by show _=_;rw[hkk,List.take_length];rfl
   go_wp2;go_ret
   refine⟨_,rfl,HB.out,?_⟩;rw[HE.out];exact HF.out
end Go.Proofs.YtffpcbdlbcjihadGreatDoor
namespace Go.Proofs.YtffpcbdlbcjihadGreatDoor
open Go.RowKit Go.Extern.Stop Go.Stop Go.Extern
theorem slatI_cell {w:World}{sa:Option Addr}{cap:Nat}{l:List Int}(h:SlAt encI 1 w (.slice sa l.length cap) l){k:Nat}{x:Int}(hx:l[k]?=some x):∃ g o,sa=some ⟨g,o,none⟩/\∀ i x,l[i]?=some x->w.cell? ⟨g,o+i,none⟩=some (.int .i64 x):=by
 obtain⟨sa',cap',hsl,-,hcc⟩:=h
 cases hsl
 obtain⟨g,o,rfl,hc0⟩:=hcc (fun h=>by rw[h] at hx;simp at hx);exact⟨g,o,rfl,fun i x hx=>by have:=hc0 i x hx 0 _ rfl;simpa using this⟩
theorem eqlIn_pair (a b c d:Int)(w:World):(Op.equalIn 10000 97 (.agg #[.int .i64 a,.int .i64 b]) (.agg #[.int .i64 c,.int .i64 d])).run Tryz.prog w=.ok ((a == c) && (b == d)) w:=by
 rw[show (10000:Nat)=9998+2 from rfl,Op.equalIn];simp only[Sem.run_bind,run_underlying Tryz.underlying97,Result.andThen_ok,Tryz.sizeOf3,Std.Legacy.Range.forIn_eq_forIn_range',Std.Legacy.Range.size,Nat.sub_zero,Nat.add_sub_cancel,Nat.div_one];have p0:∀ x y:Int,(part 3 #[.int .i64 x,.int .i64 y] (0*1)).run Tryz.prog w=.ok (.int .i64 x) w:=fun x y=>by simp[part,isAgg,run_underlying Tryz.underlying3]
 have p1:∀ x y:Int,(part 3 #[.int .i64 x,.int .i64 y] (1*1)).run Tryz.prog w=.ok (.int .i64 y) w:=fun x y=>by simp[part,isAgg,run_underlying Tryz.underlying3]
 have pe:∀ x y:Int,(Op.equalIn (9998+1) 3 (.int .i64 x) (.int .i64 y)).run Tryz.prog w=.ok (x == y) w:=fun x y=>run_equalIn_int w 9998 3 .i64 .i64 _ _ Tryz.underlying3
 have hr:List.range' 0 2 1=[0,1]:=by decide
 rw[hr];simp only[List.forIn_cons,List.forIn_nil,Sem.run_bind,p0,pe,Result.andThen_ok]
 cases h1:(a == c)
 ·simp
 ·simp only[Bool.not_true,Bool.false_eq_true,if_false,Sem.run_pure,Result.andThen_ok,Bool.true_and,Sem.run_bind,p1,pe]
  cases h2:(b == d) <;> simp
theorem eql_pair (a b c d:Int)(w:World):(binOp .eql 97 (.agg #[.int .i64 a,.int .i64 b]) (.agg #[.int .i64 c,.int .i64 d])).run Tryz.prog w=.ok (.bool ((a == c) && (b == d))) w:=by
 rw[run_eql_struct,eqlIn_pair];rfl
theorem Tryz.guardPair:Tryz.prog.eqGuardType Tryz.prog.depth 97=false:=by kernel_rfl
theorem row_put {w:World}{b j:Nat}{cs:Array Value}{T:TypeId}(h:w.heap[b]?=some (.cells cs T (0,0)))(u:Value):(w.setCell ⟨b,j,none⟩ u).heap[b]?=some (.cells (cs.setIfInBounds j u) T (0,0)):=by
 simp only[World.setCell,Array.getElem?_modify,h];simp
section
variable {w0 w w':World}{b:Nat}{e:EntD}{pa ga ea fa la:Option Addr}{pc gc ec fc lc:Nat}{s s':LSt}{sv sv':Value}
def statB:Nat->ByteArray
 | 0=>⟨#[105,100,108,101]⟩
 | 1=>⟨#[111,107]⟩
 | 2=>⟨#[102,97,105,108,101,100]⟩
 | _=>⟨#[101,120,112,105,114,101,100]⟩
end
end Go.Proofs.YtffpcbdlbcjihadGreatDoor
namespace Go.Proofs.YtffpcbdlbcjihadGreatDoor
open Go
structure KSt where
 c:CSt
 d:DSt
 L:List Rec
 sp:Bool
 ls:List LSt
 t:TSt
def KSt.on (K:KSt):Nat:=if K.c.off=true then 8 else if K.d.reset=true then 11 else 0
def KSt.setL (K:KSt)(i:Nat)(s:LSt):KSt:={ K with ls:=K.ls.set i s }
def LSt.begN (s:LSt):Nat:=if s.act then 10 else 0
def LSt.stopN (s:LSt):Nat:=if s.act then 0 else 9
def LSt.repN (e:EntD)(s:LSt)(p:Int):Nat:=if s.act then (if hasP e p=true then 0 else 5) else 9
def KSt.begin (K:KSt)(i:Int):KSt × Nat:=
 if K.on≠0 then (K,K.on) else if i < 0 then (K,5) else match K.ls[i.toNat]? with
 | none=>(K,5)
 | some s=>(K.setL i.toNat s.begin,s.begN)
def KSt.stop (K:KSt)(i:Int):KSt × Nat:=
 if K.on≠0 then (K,K.on) else if i < 0 then (K,5) else match K.ls[i.toNat]? with
 | none=>(K,5)
 | some s=>(K.setL i.toNat s.stop,s.stopN)
def noEnt:EntD:=⟨⟨#[]⟩,0,[],0,0,0,[],[],[],[]⟩
def KSt.report (c:CfgD)(K:KSt)(i p:Int):KSt × Nat:=
 if K.on≠0 then (K,K.on) else if i < 0 then (K,5) else match K.ls[i.toNat]? with
 | none=>(K,5)
 | some s=>(K.setL i.toNat (s.rep (c.ents.getD i.toNat noEnt) p (K.d.now:Int)),s.repN (c.ents.getD i.toNat noEnt) p)
def KSt.app (K:KSt)(e k t:Nat):KSt × Nat:=
 if K.sp=true then (K,8) else if (lastR K.L).seq=4294967295 then (K,7)
 else if (K.c.putRec (nextR K.L e k t)).2=0 then ({ K with c:=(K.c.putRec (nextR K.L e k t)).1,L:=keepL K.L (nextR K.L e k t) },0)
 else ({ K with c:=(K.c.putRec (nextR K.L e k t)).1,sp:=true },(K.c.putRec (nextR K.L e k t)).2)
def KSt.endOne (c:CfgD)(K:KSt)(i:Nat):KSt × Nat:=match K.ls[i]? with
 | none=>(K,0)
 | some s=>if s.turns (c.ents.getD i noEnt)=true then (K.setL i (s.fin (c.ents.getD i noEnt))).app i (s.kind (c.ents.getD i noEnt)).toNat K.d.now else (K.setL i (s.fin (c.ents.getD i noEnt)),0)
def KSt.ends (c:CfgD)(K:KSt):Nat->KSt × Nat
 | 0=>(K,0)
 | n+1=>if (K.ends c n).2=0 then (K.ends c n).1.endOne c n else K.ends c n
def KSt.last (K:KSt):KSt:=
 let K1:={ K with t:=K.t.fin (K.ls.map fun s=>statB s.status) }
 if K1.t.st≠3/\K1.d.isOpen=true then { K1 with d:=K1.d.kick } else K1
def KSt.ticked (K:KSt):KSt:={ K with d:=K.d.tick }
def KSt.tick (c:CfgD)(K:KSt):KSt × Nat:=
 if K.on≠0 then (K,K.on)
 else if K.ticked.d.reset=true then (K.ticked,11)
 else if K.ticked.d.now % c.cycle.toNat≠0 then (K.ticked,0)
 else if (K.ticked.ends c c.ents.length).2=0 then ((K.ticked.ends c c.ents.length).1.last,0)
 else K.ticked.ends c c.ents.length
def KSt.opened (c:CfgD)(K:KSt):KSt:=⟨K.c,K.d,openL (K.c.bytes.take K.c.size),false,c.ents.map fun _=>LSt.new,TSt.new c.delay.toNat⟩
def KSt.new (c:CfgD)(s:CSt):KSt:=KSt.opened c ⟨s,DSt.new c.closed.toNat c.opn.toNat,[],false,[],TSt.new 0⟩
def KSt.boot (c:CfgD)(K:KSt):KSt × Nat:=
 if K.on=0 then (K,10) else (KSt.opened c { K with c:={ K.c with off:=false,cut:=false,left:=0 },d:=K.d.start },0)
def KSt.ticks (c:CfgD)(K:KSt):Nat->KSt × Nat
 | 0=>(K,0)
 | n+1=>if (K.tick c).2=0 then (K.tick c).1.ticks c n else K.tick c
def KSt.cut (K:KSt)(n:Int):KSt × Nat:=if n < 0 then (K,2) else if K.c.off=true then (K,8) else ({ K with c:={ K.c with cut:=true,left:=n.toNat } },0)
structure KFit (c:CfgD)(K:KSt)(k W:Nat):Prop where
 big:Big K.c
 left:K.c.left<=9223372036854775807
 wr:K.c.written<=W
 sp:K.sp=true->K.c.off=true
 llen:K.L.length<=8
 last:(lastR K.L).seq<=4294967295
 len:K.ls.length=c.ents.length
 each:∀ s∈K.ls,LFit s (k+K.d.now)/\s.ms.length<=k/\∀ m∈s.ms,0<=m.tick/\m.tick<=1099511627776
 tot:TFit K.t 20
 now:K.d.now<=1099511627776
 win:K.d.closed<=1000/\K.d.opn<=1000/\K.d.kicks<=K.d.begun/\K.d.begun<=K.d.now
end Go.Proofs.YtffpcbdlbcjihadGreatDoor
namespace Go.Proofs.YtffpcbdlbcjihadGreatDoor
open Go.ChangeShapes Go.WideShapes Go.ChangeAt Go.RowKit Go.Deep
theorem Tryz.laidOut:laidOutB Tryz.prog=true:=by kernel_rfl
theorem spot_none {W:World}{a:Addr}{v:Value}(h:W.cell? a=some v):a=⟨a.block,a.off,none⟩:=by
 obtain⟨b,o,s⟩:=a
 cases s with
 | none=>rfl
 | some x=>
  exfalso
  unfold World.cell? at h
  split at h
  ·simp at h
  ·cases h
theorem add_plain (b o j:Nat):(⟨b,o,none⟩:Addr).add j=⟨b,o+j,none⟩:=by unfold Addr.add;split <;> simp_all
theorem cells_of {W:World}{a:Addr}{k:Nat}{cs:List Value}(h:W.cells? 0 a k=some cs):cs.length=k/\∀ j u,cs[j]?=some u->W.cell? (a.add j)=some u:=by
 unfold World.cells? at h;rw[if_pos (Nat.zero_le _)] at h;have hl:cs.length=k:=by simpa using Lib.mapM_length h
 refine⟨hl,fun j u hu=>?_⟩;have hj:j < k:=by have:=(List.getElem?_eq_some_iff.1 hu).1;omega
 obtain⟨b,h1,h2⟩:=Lib.mapM_at h j j (by simp[hj]);rw[hu] at h1
 cases h1
 exact h2
theorem choose_any {α:Type}(d:α){n:Nat}{p:Nat->α->Prop}(h:∀ i,i < n->∃ x,p i x):∃ f:Nat->α,∀ i,i < n->p i (f i):=by
 classical
 refine⟨fun i=>if hi:i < n then Classical.choose (h i hi) else d,fun i hi=>?_⟩;simp only[dif_pos hi];exact Classical.choose_spec (h i hi)
theorem sl_gen {α:Type}(d:α){Q:List Value->α->Prop}{H:Type}{enc:TypeId × Value->H}{W:World}{T Ts:TypeId}{k fuel:Nat}{cs:List Value}{x:DataW H × List MemPlace}(hs:Tryz.prog.underlying Ts=some (.slice T))(hk:Tryz.prog.cellsOf T=k)(hk0:0 < k)
  (hel:∀ n cs x,DataW.trod enc Tryz.prog W 0 (fun _=>true) true n T cs=some x->∃ a,Q cs a) (h:DataW.trod enc Tryz.prog W 0 (fun _=>true) true fuel Ts cs=some x) :
  ∃ (sa:Option Addr) (cap:Nat) (xs:List α),cs=[.slice sa xs.length cap]/\xs.length<=cap/\(xs≠[]->∃ b o,sa=some ⟨b,o,none⟩/\∀ i a,xs[i]?=some a->∃ cs',Q cs' a/\∀ j u,cs'[j]?=some u->W.cell? ⟨b,o+i*k+j,none⟩=some u):=by
 rcases open_slice hs h with ⟨hcs,-⟩ | ⟨a,len,cap,m,n,D,Pl,hcs,-,hlc,hcm,hm,-,hall⟩
 ·exact⟨none,0,[],by simpa using hcs,Nat.le_refl _,fun e=>absurd rfl e⟩
 ·simp only[if_true] at hm;subst hm;rw[hk] at hall;obtain⟨f,hf⟩:=choose_any d (n:=len) (p:=fun i y=>∃ cs',Q cs' y/\W.cells? 0 (a.add (i*k)) k=some cs') (fun i hi=>by
   obtain⟨cs',h1,h2⟩:=hall i (by omega);obtain⟨y,hy⟩:=hel _ _ _ h2;exact⟨y,cs',hy,h1⟩)
  have hxl:((List.range len).map f).length=len:=by simp
  refine⟨some a,m,(List.range len).map f,by rw[hxl];exact hcs,by rw[hxl];exact hlc,fun hne=>?_⟩;have hpos:0 < len:=by
   rcases Nat.eq_zero_or_pos len with h0 | h0
   ·subst h0;exact absurd rfl hne
   ·exact h0
  have ha:a=⟨a.block,a.off,none⟩:=by
   obtain⟨cs',-,h1⟩:=hf 0 hpos;obtain⟨hl,hc⟩:=cells_of h1;have e:(a.add (0*k)).add 0=a:=by simp[Addr.add]
   have:=hc 0 (cs'[0]'(by omega)) (List.getElem?_eq_getElem _);rw[e] at this;exact spot_none this
  refine⟨a.block,a.off,congrArg some ha,fun i y hy=>?_⟩;rw[List.getElem?_map,Option.map_eq_some_iff] at hy;obtain⟨i',hi',rfl⟩:=hy;obtain⟨hil0,hi2⟩:=List.getElem?_eq_some_iff.1 hi';have hil:i < len:=by simpa using hil0
  obtain rfl:i=i':=by simpa using hi2
  obtain⟨cs',h1,h2⟩:=hf i hil
  refine⟨cs',h1,fun j u hu=>?_⟩;have:=(cells_of h2).2 j u hu;rw[ha,add_plain,add_plain] at this;exact this
theorem sl_of_trod {α:Type}(d:α){ec:α->List Value}{H:Type}{enc:TypeId × Value->H}{W:World}{T Ts:TypeId}{k fuel:Nat}{v:Value}{x:DataW H × List MemPlace}(hs:Tryz.prog.underlying Ts=some (.slice T))(hk:Tryz.prog.cellsOf T=k)(hk0:0 < k)
  (hel:∀ n cs x,DataW.trod enc Tryz.prog W 0 (fun _=>true) true n T cs=some x->∃ a,cs=ec a) (h:DataW.trod enc Tryz.prog W 0 (fun _=>true) true fuel Ts [v]=some x):∃ xs:List α,SlAt ec k W v xs:=by
 obtain⟨sa,cap,xs,hcs,hl,hx⟩:=sl_gen d (Q:=fun cs a=>cs=ec a) hs hk hk0 hel h;simp only[List.cons.injEq,and_true] at hcs
 refine⟨xs,sa,cap,hcs,hl,fun hne=>?_⟩;obtain⟨b,o,h1,h2⟩:=hx hne
 refine⟨b,o,h1,fun i y hy j u hu=>?_⟩;obtain⟨cs',rfl,h3⟩:=h2 i y hy;exact h3 j u hu
theorem int_of_trod {H:Type}{enc:TypeId × Value->H}{W:World}(n:Nat)(cs:List Value)(x:DataW H × List MemPlace)(h:DataW.trod enc Tryz.prog W 0 (fun _=>true) true n 3 cs=some x):∃ z:Int,cs=encI z:=by
 obtain⟨z,h1,-,-⟩:=DataW.trod_int Tryz.underlying3 h;exact⟨z,h1⟩
theorem Tryz.cellsTwo:Tryz.prog.cellsOf 97=2:=by kernel_rfl
theorem Tryz.cellsOne:Tryz.prog.cellsOf 3=1/\Tryz.prog.cellsOf 9=1/\Tryz.prog.cellsOf 22=1/\Tryz.prog.cellsOf 80=1/\Tryz.prog.cellsOf 81=1/\Tryz.prog.cellsOf 42=1:=⟨by kernel_rfl,by kernel_rfl,by kernel_rfl,by kernel_rfl,by kernel_rfl,by kernel_rfl⟩
end Go.Proofs.YtffpcbdlbcjihadGreatDoor
namespace Go.Proofs.YtffpcbdlbcjihadGreatDoor
open Go.RowKit Go.Extern.Stop Go.Stop Go.Extern Go.Maps
theorem Tryz.rowTwo:(97:TypeId) < Tryz.prog.types.size:=of_decide_eq_true (by kernel_rfl)
theorem Tryz.wideTwo:(match Tryz.prog.underlying 97 with | some (.array _ _) | some (.struct _)=>true | _=>false)=true:=by rw[Tryz.underlying97]
set_option maxRecDepth 100000 in
theorem Tryz.lawTwo:Maps.Keyed Tryz.prog 97:=Maps.Keyed.of_law (deep_law_laid Tryz.laidOut (m:=2) (by omega) Tryz.rowTwo (by kernel_rfl) Tryz.wideTwo)
theorem Tryz.keyTwo:Tryz.prog.keyType 97=true:=by kernel_rfl
theorem Tryz.ntypes:Tryz.prog.types.size=438:=by kernel_rfl
def wf64 (n:Int):Prop:=(Lit.int .i64 n).wf=true
theorem wf64_of {n:Int}(h0:-1<=n)(h1:n<=1000000):wf64 n:=by
 show (decide (IntKind.min .i64<=n) && decide (n<=IntKind.max .i64))=true
 have e1:IntKind.min .i64=-9223372036854775808:=by decide
 have e2:IntKind.max .i64=9223372036854775807:=by decide
 rw[e1,e2,decide_eq_true (by omega),decide_eq_true (by omega)];rfl
def WfE (l:List (Int × Int)):Prop:=∀ p∈l,wf64 p.1/\wf64 p.2
def ekey (p:Int × Int):Lit:=.string (keyBytes [.int .i64 p.1,.int .i64 p.2])
set_option maxRecDepth 100000 in
theorem keyOf_two {a b:Int}(ha:wf64 a)(hb:wf64 b):keyOf Tryz.prog 97 (.agg #[.int .i64 a,.int .i64 b])=some (ekey (a,b)):=by
 unfold wf64 at ha hb;have hf:(Value.agg #[.int .i64 a,.int .i64 b]).formed Tryz.prog 97=true:=by simp[Value.formed,Tryz.underlying97,Tryz.cellsTwo]
 have hl:Tryz.prog.keyLits (438+1) 97 [.int .i64 a,.int .i64 b]=some [.int .i64 a,.int .i64 b]:=by
  have h1:∀ (n:Nat) (c:Int),(Lit.int .i64 c).wf=true->Tryz.prog.keyLits (n+1) 3 [.int .i64 c]=some [.int .i64 c]:=fun n c hc=>by simp[Program.keyLits,Tryz.underlying3,hc]
  unfold Program.keyLits;simp only[Tryz.underlying97,Tryz.cellsTwo,Tryz.cellsOne];have e0:=h1 (438 - 1) a ha;have e1:=h1 (438 - 1) b hb;simp[List.range,List.range.loop,e0,e1]
 unfold keyOf;rw[Tryz.underlying97];simp only[Tryz.keyTwo,hf,Bool.and_self,if_true,Tryz.ntypes];rw[show (Value.agg #[.int .i64 a,.int .i64 b]).cells.toList=[.int .i64 a,.int .i64 b] from rfl,hl];rfl
theorem ekey_inj {p q:Int × Int}(hp:wf64 p.1/\wf64 p.2)(hq:wf64 q.1/\wf64 q.2)(h:ekey p=ekey q):p=q:=by
 have h1:=keyOf_two hp.1 hp.2;have h2:=keyOf_two hq.1 hq.2;have e:=Tryz.lawTwo.inj h1 (h2.trans (by rw[show ekey (p.1,p.2)=ekey (q.1,q.2) from h]));simp at e
 exact Prod.ext e.1 e.2
def EdgeMap (D:DataW Unit)(l:List (Int × Int)):Prop:=
 IsMap D/\(l=[]->Maps.size D=0)/\∀ p:Int × Int,wf64 p.1->wf64 p.2->Maps.has D (ekey p)=decide (p∈l)
theorem edgeMap_nil:EdgeMap (.map []) []:=⟨isMap_empty,fun _=>rfl,fun _ _ _=>by simp[Maps.has]⟩
theorem edgeMap_put {D:DataW Unit}{l:List (Int × Int)}(h:EdgeMap D l)(p:Int × Int)(hp:wf64 p.1/\wf64 p.2):EdgeMap (D.put (ekey p) (.agg [])) (l++[p]):=by
 refine⟨h.1.put _ _,fun e=>by simp at e,fun q h1 h2=>?_⟩
 by_cases e:q=p
 ·subst e;rw[Maps.has_put_same h.1 (by trivial)];simp
 ·have hne:ekey q≠ekey p:=fun h'=>e (ekey_inj ⟨h1,h2⟩ hp h')
  rw[Maps.has_put_other hne,h.2.2 q h1 h2];simp[e]
theorem edgeMap_size {D:DataW Unit}{l:List (Int × Int)}(h:EdgeMap D l)(hw:WfE l):(Maps.size D=0 ↔ l=[]):=by
 refine⟨fun hs=>?_,h.2.1⟩
 cases l with
 | nil=>rfl
 | cons p t=>
  have h1:=h.2.2 p (hw p (by simp)).1 (hw p (by simp)).2;obtain⟨es,rfl⟩:=h.1;have h0:es=[]:=List.eq_nil_of_length_eq_zero hs;subst h0;simp[Maps.has] at h1
end Go.Proofs.YtffpcbdlbcjihadGreatDoor
namespace Go.Proofs.YtffpcbdlbcjihadGreatDoor
open Go
structure KRt (c:CfgD):Prop where
 cl:0<=c.closed/\c.closed<=1000
 op:1<=c.opn/\c.opn<=1000
 cy:1<=c.cycle/\c.cycle<=100
 de:0<=c.delay/\c.delay<=20
 le:c.cycle<=c.opn
 nn:c.ents.length<=8
 each:∀ e∈c.ents,SmallE e/\e.cnt < (e.pts.length:Int)/\0<=e.tol/\WfE e.edges
theorem TFit.fin20 {s:TSt}(h:TFit s 20)(l:List ByteArray):TFit (s.fin l) 20:=by
 have h':=h.fin l
 refine⟨h'.d,?_,h'.lt,h'.st,h'.z⟩;have hd:=h.d;have h0:=h.s0;have hl:=h.lt;unfold TSt.fin
 split
 ·exact h0
 ·split
  ·rename_i h2;have:=hl h2;unfold TSt.cut
   split <;> (show s.since+1<=20;omega)
  ·unfold TSt.cut
   split <;> exact Nat.zero_le _
section
variable {c:CfgD}{K:KSt}{k W:Nat}
theorem kindL_le (e:EntD)(l:List MkD)(cyc:Int):0<=kindL e l cyc/\kindL e l cyc<=3:=by
 unfold kindL
 split
 ·decide
 ·split
  ·decide
  ·split <;> decide
theorem kind_le (e:EntD)(s:LSt):0<=s.kind e/\s.kind e<=3:=by
 unfold LSt.kind
 split
 ·exact kindL_le _ _ _
 ·decide
theorem KSt.on_zero:K.on=0 ↔ K.c.off=false/\K.d.reset=false:=by
 unfold KSt.on
 cases K.c.off <;> cases K.d.reset <;> simp
theorem KFit.mono (h:KFit c K k W){k' W':Nat}(hk:k<=k')(hW:W<=W'):KFit c K k' W':=
 ⟨h.big,h.left,Nat.le_trans h.wr hW,h.sp,h.llen,h.last,h.len,fun s hs=>⟨(h.each s hs).1.mono (by omega),Nat.le_trans (h.each s hs).2.1 hk,(h.each s hs).2.2⟩,h.tot,h.now,h.win⟩
theorem KFit.setL (h:KFit c K k W){i:Nat}{s:LSt}(hs:LFit s (k+K.d.now)/\s.ms.length<=k/\∀ m∈s.ms,0<=m.tick/\m.tick<=1099511627776):KFit c (K.setL i s) k W:=
 ⟨h.big,h.left,h.wr,h.sp,h.llen,h.last,by show (K.ls.set i s).length=_;rw[List.length_set];exact h.len,fun x hx=>by
  rcases List.mem_or_eq_of_mem_set hx with hx | rfl
  ·exact h.each x hx
  ·exact hs,h.tot,h.now,h.win⟩
theorem begin_ms (s:LSt):s.begin.ms=s.ms\/s.begin.ms=[]:=by unfold LSt.begin;split;exact Or.inl rfl;exact Or.inr rfl
theorem KFit.begin (h:KFit c K k W)(i:Int):KFit c (K.begin i).1 (k+1) W:=by
 unfold KSt.begin
 split
 ·exact h.mono (by omega) (Nat.le_refl _)
 ·split
  ·exact h.mono (by omega) (Nat.le_refl _)
  ·split
   ·exact h.mono (by omega) (Nat.le_refl _)
   ·rename_i s hs;obtain⟨h1,h2,h3⟩:=h.each s (List.mem_of_getElem? hs)
    refine(h.mono (k':=k+1) (by omega) (Nat.le_refl _)).setL ⟨h1.begin.mono (by omega),?_,?_⟩
    ·rcases begin_ms s with e | e <;> rw[e]
     ·omega
     ·exact Nat.zero_le _
    ·rcases begin_ms s with e | e <;> rw[e]
     ·exact h3
     ·intro m hm;cases hm
theorem KFit.stop (h:KFit c K k W)(i:Int):KFit c (K.stop i).1 (k+1) W:=by
 unfold KSt.stop
 split
 ·exact h.mono (by omega) (Nat.le_refl _)
 ·split
  ·exact h.mono (by omega) (Nat.le_refl _)
  ·split
   ·exact h.mono (by omega) (Nat.le_refl _)
   ·rename_i s hs;obtain⟨h1,h2,h3⟩:=h.each s (List.mem_of_getElem? hs);exact(h.mono (k':=k+1) (by omega) (Nat.le_refl _)).setL ⟨h1.stop.mono (by omega),Nat.le_succ_of_le h2,h3⟩
theorem KFit.report (h:KFit c K k W)(i p:Int):KFit c (K.report c i p).1 (k+1) W:=by
 unfold KSt.report
 split
 ·exact h.mono (by omega) (Nat.le_refl _)
 ·split
  ·exact h.mono (by omega) (Nat.le_refl _)
  ·split
   ·exact h.mono (by omega) (Nat.le_refl _)
   ·rename_i s hs;obtain⟨h1,h2,h3⟩:=h.each s (List.mem_of_getElem? hs)
    refine(h.mono (k':=k+1) (by omega) (Nat.le_refl _)).setL ⟨(h1.rep p _).mono (by omega),?_,?_⟩
    ·unfold LSt.rep
     split
     ·show (s.ms++_).length<=_
      rw[List.length_append,List.length_singleton];omega
     ·omega
    ·unfold LSt.rep
     split
     ·intro m hm;have hm':m∈s.ms++[⟨p,(K.d.now:Int),s.since⟩]:=hm
      rcases List.mem_append.1 hm' with hm' | hm'
      ·exact h3 m hm'
      ·rw[List.mem_singleton] at hm';subst hm';have:=h.now;exact⟨Int.natCast_nonneg _,by show (K.d.now:Int)<=_;omega⟩
     ·exact h3
theorem KFit.cut (h:KFit c K k W)(n:Int)(hn:n<=9223372036854775807):KFit c (K.cut n).1 k W:=by
 unfold KSt.cut
 split
 ·exact h
 ·split
  ·exact h
  ·exact⟨⟨h.big.len,h.big.size,h.big.top⟩,by show n.toNat<=_;omega,h.wr,h.sp,h.llen,h.last,h.len,h.each,h.tot,h.now,h.win⟩
theorem KFit.app (h:KFit c K k W)(ho:K.c.off=false)(e kd t:Nat):KFit c (K.app e kd t).1 k (W+18)/\((K.app e kd t).2=0->(K.app e kd t).1.c.off=false/\(K.app e kd t).1.sp=false)/\(K.app e kd t).1.d=K.d/\(K.app e kd t).1.ls=K.ls/\(K.app e kd t).1.t=K.t:=by
 have hsp:K.sp=false:=by
  cases e:K.sp with
  | false=>rfl
  | true=>rw[h.sp e] at ho;cases ho
 have hB:=(putRec_big h.big ho (nextR K.L e kd t));unfold KSt.app;rw[if_neg (by rw[hsp];simp)]
 split
 ·exact⟨h.mono (Nat.le_refl _) (by omega),fun e=>(by cases e),rfl,rfl,rfl⟩
 ·rename_i hq;have hlast:=h.last
  split
  ·rename_i h0
   refine⟨⟨hB.1,putRec_left _ h.left,Nat.le_trans (putRec_written _ _) (by have:=h.wr;omega),fun e=>?_,keepL_len _ h.llen,?_,h.len,h.each,h.tot,h.now,h.win⟩,fun _=>⟨hB.2 h0,hsp⟩,rfl,rfl,rfl⟩
   ·rw[show K.sp=true from e] at hsp;cases hsp
   ·show (lastR (keepL K.L _)).seq<=_
    rw[keepL_last];show (lastR K.L).seq+1<=_
    omega
  ·rename_i h0
   refine⟨⟨hB.1,putRec_left _ h.left,Nat.le_trans (putRec_written _ _) (by have:=h.wr;omega),fun _=>?_,h.llen,h.last,h.len,h.each,h.tot,h.now,h.win⟩,fun e=>absurd e h0,rfl,rfl,rfl⟩
   rcases putRec_code h.big ho (nextR K.L e kd t) with e8 | e8
   ·exact absurd e8 h0
   ·exact putRec_off e8
theorem KFit.finL (h:KFit c K k W){i:Nat}{s:LSt}(hs:K.ls[i]?=some s)(h4:LFit s (k+K.d.now - 1))(h5:1<=K.d.now)(e:EntD):KFit c (K.setL i (s.fin e)) k W:=by
 obtain⟨h1,h2,h3⟩:=h.each s (List.mem_of_getElem? hs);have hms:(s.fin e).ms=s.ms:=by unfold LSt.fin;split <;> rfl
 exact h.setL ⟨h4.fin.mono (by omega),by rw[hms];exact h2,by rw[hms];exact h3⟩
theorem KFit.endOne (h:KFit c K k W)(ho:K.c.off=false)(i:Nat)(hi:∀ s,K.ls[i]?=some s->LFit s (k+K.d.now - 1)/\1<=K.d.now):KFit c (K.endOne c i).1 k (W+18)/\((K.endOne c i).2=0->(K.endOne c i).1.c.off=false/\(K.endOne c i).1.sp=false)/\(K.endOne c i).1.d=K.d/\(K.endOne c i).1.t=K.t/\∀ j,j≠i->(K.endOne c i).1.ls[j]?=K.ls[j]?:=by
 have hsp:K.sp=false:=by
  cases e:K.sp with
  | false=>rfl
  | true=>rw[h.sp e] at ho;cases ho
 unfold KSt.endOne
 split
 ·exact⟨h.mono (Nat.le_refl _) (by omega),fun _=>⟨ho,hsp⟩,rfl,rfl,fun _ _=>rfl⟩
 ·rename_i s hs;obtain⟨h1,h2,h3⟩:=h.each s (List.mem_of_getElem? hs);obtain⟨h4,h5⟩:=hi s hs;have hms:(s.fin (c.ents.getD i noEnt)).ms=s.ms:=by unfold LSt.fin;split <;> rfl
  have h':KFit c (K.setL i (s.fin (c.ents.getD i noEnt))) k W:=h.setL ⟨h4.fin.mono (by omega),by rw[hms];exact h2,by rw[hms];exact h3⟩;have hj:∀ j,j≠i->(K.setL i (s.fin (c.ents.getD i noEnt))).ls[j]?=K.ls[j]?:=fun j hj=>by
   show (K.ls.set i _)[j]?=_
   rw[List.getElem?_set_ne (fun e=>hj e.symm)]
  split
  ·obtain⟨a1,a2,a3,a4,a5⟩:=h'.app ho i (s.kind (c.ents.getD i noEnt)).toNat K.d.now;exact⟨a1,a2,a3,a5,fun j hj'=>by rw[a4];exact hj j hj'⟩
  ·exact⟨h'.mono (Nat.le_refl _) (by omega),fun _=>⟨ho,hsp⟩,rfl,rfl,hj⟩
theorem KFit.ends (h:KFit c K k W)(ho:K.c.off=false)(hi:∀ s∈K.ls,LFit s (k+K.d.now - 1))(h1:1<=K.d.now):∀ n,KFit c (K.ends c n).1 k (W+18*n)/\((K.ends c n).2=0->(K.ends c n).1.c.off=false/\(K.ends c n).1.sp=false)/\(K.ends c n).1.d=K.d/\(K.ends c n).1.t=K.t/\∀ j,n<=j->(K.ends c n).1.ls[j]?=K.ls[j]?
 | 0=>⟨h,fun _=>⟨ho,by
   cases e:K.sp with
   | false=>exact e
   | true=>rw[h.sp e] at ho;cases ho⟩,rfl,rfl,fun _ _=>rfl⟩
 | n+1=>by
  obtain⟨a1,a2,a3,a4,a5⟩:=KFit.ends h ho hi h1 n;unfold KSt.ends
  split
  ·rename_i h0;obtain⟨b1,b2,b3,b4,b5⟩:=a1.endOne (a2 h0).1 n (fun s hs=>by
    rw[a5 n (Nat.le_refl _)] at hs;rw[a3];exact⟨hi s (List.mem_of_getElem? hs),h1⟩)
   exact⟨b1.mono (Nat.le_refl _) (by omega),b2,b3.trans a3,b4.trans a4,fun j hj=>(b5 j (by omega)).trans (a5 j (by omega))⟩
  ·rename_i h0;exact⟨a1.mono (Nat.le_refl _) (by omega),fun e=>absurd e h0,a3,a4,fun j hj=>a5 j (by omega)⟩
theorem KFit.ticked (h:KFit c K k W)(hn:K.d.now < 1099511627776):KFit c K.ticked k W/\(∀ s∈K.ticked.ls,LFit s (k+K.ticked.d.now - 1))/\1<=K.ticked.d.now:=
 ⟨⟨h.big,h.left,h.wr,h.sp,h.llen,h.last,h.len,fun s hs=>⟨(h.each s hs).1.mono (by show _<=k+(K.d.now+1);omega),(h.each s hs).2⟩,h.tot,hn,⟨h.win.1,h.win.2.1,h.win.2.2.1,by have:=h.win.2.2.2;show K.d.begun<=K.d.now+1;omega⟩⟩,fun s hs=>(h.each s hs).1.mono (by show _<=k+(K.d.now+1) - 1;omega),by show 1<=K.d.now+1;omega⟩
theorem KFit.last' (h:KFit c K k W):KFit c K.last k W:=by
 have hw:=h.win;have h1:KFit c { K with t:=K.t.fin (K.ls.map fun s=>statB s.status) } k W:=⟨h.big,h.left,h.wr,h.sp,h.llen,h.last,h.len,h.each,h.tot.fin20 _,h.now,h.win⟩;unfold KSt.last;simp only[]
 split
 ·rename_i hc
  refine⟨h1.big,h1.left,h1.wr,h1.sp,h1.llen,h1.last,h1.len,h1.each,h1.tot,h1.now,⟨hw.1,hw.2.1,?_,Nat.le_refl _⟩⟩;show K.d.kicks+1<=K.d.now
  have ho:=hc.2;unfold DSt.isOpen at ho;simp only[Bool.and_eq_true,decide_eq_true_eq] at ho;omega
 ·exact h1
theorem last_now:K.last.d.now=K.d.now:=by unfold KSt.last;simp only[];split <;> rfl
theorem KFit.tick (hr:KRt c)(h:KFit c K k (144*K.d.now))(hn:K.d.now < 1099511627776):KFit c (K.tick c).1 k (144*(K.tick c).1.d.now):=by
 unfold KSt.tick
 split
 ·exact h
 ·rename_i hon;have hon':K.on=0:=by omega
  obtain⟨ho,-⟩:=KSt.on_zero.1 hon';obtain⟨t1,t2,t3⟩:=h.ticked hn;have hW:144*K.ticked.d.now=144*K.d.now+144:=by show 144*(K.d.now+1)=_;omega
  split
  ·rw[hW];exact t1.mono (Nat.le_refl _) (by omega)
  ·split
   ·rw[hW];exact t1.mono (Nat.le_refl _) (by omega)
   ·obtain⟨a1,-,a3,-⟩:=t1.ends ho t2 t3 c.ents.length;have hnn:=hr.nn
    split
    ·show KFit c (K.ticked.ends c c.ents.length).1.last k (144*(K.ticked.ends c c.ents.length).1.last.d.now)
     rw[last_now,a3,hW];exact(a1.mono (Nat.le_refl _) (by omega)).last'
    ·rw[a3,hW];exact a1.mono (Nat.le_refl _) (by omega)
theorem KFit.opened (hr:KRt c)(h:Big K.c)(h0:K.c.left<=9223372036854775807)(hw:K.c.written<=W)(hn:K.d.now<=1099511627776)(hd:K.d.closed<=1000/\K.d.opn<=1000/\K.d.kicks<=K.d.begun/\K.d.begun<=K.d.now):KFit c (KSt.opened c K) k W:=by
 have hde:=hr.de;have e1:=openL_eight (K.c.bytes.take K.c.size);have e2:=openL_last (K.c.bytes.take K.c.size);unfold KSt.opened;revert e1 e2
 generalize openL (K.c.bytes.take K.c.size)=X;intro e1 e2
 refine⟨h,h0,hw,fun e=>(by cases e),e1,e2,by simp,fun s hs=>?_,?_,hn,hd⟩
 ·have:s=LSt.new:=by
   simp only[List.mem_map] at hs;obtain⟨_,_,rfl⟩:=hs;rfl
  subst this;exact⟨LFit.new.mono (Nat.zero_le _),Nat.zero_le _,fun m hm=>(by cases hm)⟩
 ·have:=TFit.new (d:=c.delay.toNat) (by omega);exact⟨this.d,Nat.zero_le _,this.lt,this.st,this.z⟩
theorem KFit.new (hr:KRt c){s:CSt}(h:Big s)(h0:s.left<=9223372036854775807)(hw:s.written=0):KFit c (KSt.new c s) 0 0:=by
 have h1:=hr.cl;have h2:=hr.op;exact KFit.opened hr h h0 (by show s.written<=0;omega) (Nat.zero_le _) ⟨by show c.closed.toNat<=1000;omega,by show c.opn.toNat<=1000;omega,Nat.le_refl _,Nat.le_refl _⟩
theorem KFit.boot (hr:KRt c)(h:KFit c K k W):KFit c (K.boot c).1 k W:=by
 unfold KSt.boot
 split
 ·exact h
 ·exact KFit.opened hr ⟨h.big.len,h.big.size,h.big.top⟩ (Nat.zero_le _) h.wr h.now ⟨h.win.1,h.win.2.1,Nat.le_trans h.win.2.2.1 h.win.2.2.2,Nat.le_refl _⟩
theorem boot_now:(K.boot c).1.d.now=K.d.now:=by unfold KSt.boot;split <;> rfl
theorem begin_now (i:Int):(K.begin i).1.d=K.d:=by unfold KSt.begin;split;rfl;split;rfl;split <;> rfl
theorem stop_now (i:Int):(K.stop i).1.d=K.d:=by unfold KSt.stop;split;rfl;split;rfl;split <;> rfl
theorem report_now (i p:Int):(K.report c i p).1.d=K.d:=by unfold KSt.report;split;rfl;split;rfl;split <;> rfl
theorem cut_now (n:Int):(K.cut n).1.d=K.d:=by unfold KSt.cut;split;rfl;split <;> rfl
end
end Go.Proofs.YtffpcbdlbcjihadGreatDoor
namespace Go.Proofs.YtffpcbdlbcjihadGreatDoor
open Go.RowKit Go.Extern.Stop Go.Stop Go.Extern
def gr (F:Nat->Prop)(w w':World):Nat->Prop:=fun k=>F k\/(w.heap.size<=k/\k < w'.heap.size)
structure Fam (H:Nat->Nat->Prop)(B:Nat)(w:World):Prop where
 lo:∀ i k,H i k->B<=k
 lt:∀ i k,H i k->k < w.heap.size
 dis:∀ i j k,H i k->H j k->i=j
def updH (H:Nat->Nat->Prop)(i:Nat)(w w':World):Nat->Nat->Prop:=fun j k=>H j k\/(j=i/\w.heap.size<=k/\k < w'.heap.size)
section
variable {H:Nat->Nat->Prop}{B:Nat}{w w' w'':World}{F:Nat->Prop}
theorem Fam.upd (h:Fam H B w)(hs:w.heap.size<=w'.heap.size)(hB:B<=w.heap.size)(i:Nat):Fam (updH H i w w') B w':=by
 refine⟨fun j k hk=>?_,fun j k hk=>?_,fun j j' k hk hk'=>?_⟩
 ·rcases hk with hk | ⟨_,hk,_⟩
  ·exact h.lo j k hk
  ·exact Nat.le_trans hB hk
 ·rcases hk with hk | ⟨_,_,hk⟩
  ·exact Nat.lt_of_lt_of_le (h.lt j k hk) hs
  ·exact hk
 ·rcases hk with hk | ⟨e,hk,_⟩ <;> rcases hk' with hk' | ⟨e',hk',_⟩
  ·exact h.dis j j' k hk hk'
  ·have:=h.lt j k hk;omega
  ·have:=h.lt j' k hk';omega
  ·rw[e,e']
theorem Fam.grow (h:Fam H B w)(hs:w.heap.size<=w'.heap.size):Fam H B w':=⟨h.lo,fun i k hk=>Nat.lt_of_lt_of_le (h.lt i k hk) hs,h.dis⟩
theorem Fam.keep (h:Fam H B w){i j:Nat}(hne:j≠i)(ho:Off (H i) w w'):∀ k,H j k->w'.heap[k]?=w.heap[k]?:=fun k hk=>ho.block k (h.lt j k hk) (fun hi=>hne (h.dis j i k hk hi))
theorem Fam.not (h:Fam H B w){i j:Nat}(hne:j≠i){k:Nat}(hk:H j k):¬H i k:=fun hi=>hne (h.dis j i k hk hi)
theorem updH_all (hF:∀ i k,H i k->F k)(i:Nat):∀ j k,updH H i w w' j k->gr F w w' k:=fun j k hk=>by
 rcases hk with hk | ⟨_,h1,h2⟩
 ·exact Or.inl (hF j k hk)
 ·exact Or.inr ⟨h1,h2⟩
theorem Off.all (hF:∀ i k,H i k->F k){i:Nat}(h:Off (H i) w w'):Off F w w':=h.mono (fun k _ hk=>hF i k hk)
theorem Off.gr (h:Off F w w')(h':Off (gr F w w') w' w''):Off F w w'':=h.trans h' (fun k hk hg=>by
 rcases hg with hg | ⟨h1,_⟩
 ·exact hg
 ·omega)
theorem gr_gr {k:Nat}(h1:w.heap.size<=w'.heap.size)(h2:w'.heap.size<=w''.heap.size)(hk:gr (gr F w w') w' w'' k):gr F w w'' k:=by
 rcases hk with (hk | ⟨a,b⟩) | ⟨a,b⟩
 ·exact Or.inl hk
 ·exact Or.inr ⟨a,by omega⟩
 ·exact Or.inr ⟨by omega,b⟩
theorem ow_same {B k n:Nat}{T:TypeId}{v:Value}{xs:List Value}(h:w.ownsRow B T k v n xs)(hs:∀ g,v.ownBlock=some g->w'.heap[g]?=w.heap[g]?):w'.ownsRow B T k v n xs:=by
 refine⟨h.1,?_⟩
 rcases h.2 with hn | ⟨g,cap,cur,rfl,hb,hgg,rest⟩
 ·exact .inl hn
 ·exact .inr ⟨g,cap,cur,rfl,hb,(hs g rfl).trans hgg,rest⟩
end
end Go.Proofs.YtffpcbdlbcjihadGreatDoor
