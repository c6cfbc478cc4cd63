/-
  Several texts as one: CellsZe, KeMem, KpQc, KlBase, PlPure, KmCut, PlArg, PrNew, PlNum, PmRun, PmRuns, PlStep.
-/
import Derived.Test.YtdpdbfhbojgigacGreatDoorC38S
import Derived.WalkKit
import Derived.LaidEql
import Derived.Stop.Asserts
import Derived.RowKitTokens
import Derived.Outline
import Derived.LaidLaws
import Derived.LaidHandle
import Derived.LaidMore
import Derived.BigQuiet
import Derived.Deep.QuietTactic
import Derived.Deep.DeepCutAuto
import Derived.WalkSmall
import Derived.Lib.LaidTab
import Derived.ProofKit
import Derived.OpenShut
import Derived.Deep.Slices
import Derived.Carry
import Derived.DeepKeys4
import Derived.Maps.OwnSet
import Derived.Maps.Own
import Derived.Deep.Upon
import Derived.Lib.Builder
import Derived.Laws.Tables
import Derived.Laws.Rows
import Derived.Maps.RangeWalk
import Derived.Maps.AppendAt
import Derived.Orders
import Derived.Lib.LazyBuf
import Derived.Laws.MakeOwn
import Derived.Deep.AppendLies
import Derived.Deep.RegionLaw
import Derived.Laws.IdiomStrings
import Derived.Laws.BitsAllLaws
import Derived.Laws.ShiftsVarLaws
import Derived.Lib.BufferWrite
import Derived.Deep.RegionHeld3
import Derived.Laws.ResultCell
import Derived.Laws.CopyOwn
import Derived.Laws.Strings2
import Derived.BigRegion
import Derived.RegionTactic
import Derived.Lib.SliceRun
import Derived.Laws.StructEq
import Derived.Lib.ConvBytes
import Derived.Laws.EntriesVeiled
import Derived.Shelf.Abstract
import Derived.StringKeys
import Derived.OwnWalk
import Derived.Deep.MidRow
import Derived.Lib.Strings
import Derived.Laws.Concat
import Derived.Deep.CutBlock
import Derived.Deep.DrawnRows
import Derived.Deep.OwnRows
namespace Go.Proofs.YtdpdbfhbojgigacGreatDoor
open Go.RowKit Go.Extern.Stop Go.Stop Go.Extern
theorem zeros_take (n m:Nat)(h:m<=n):(zeros n).take m=zeros m:=by unfold zeros;rw[List.take_replicate];congr 1;omega
section
variable {H:Nat->Nat->Prop}{F:Nat->Prop}{w0 w w' V:World}{c:CfgD}{kb bc bd rb bt:Nat}{lv:Value}{bs:List Nat}{K K1:KSt}
theorem KePost.from (h:KePost F w0 V c kb bc K w')(hb:Below w.heap.size w V):KePost F w0 w c kb bc K w':=by
 obtain⟨⟨H,bd,rb,bt,lv,bs,h1,h2⟩,h3⟩:=h;exact⟨⟨H,bd,rb,bt,lv,bs,h1,fun i k hk=>(h2 i k hk).imp id (fun ⟨a,b⟩=>⟨Nat.le_trans hb.size a,b⟩)⟩,(Off.of_below hb F).trans h3 (fun _ _ h=>h)⟩
end
end Go.Proofs.YtdpdbfhbojgigacGreatDoor
namespace Go.Proofs.YtdpdbfhbojgigacGreatDoor
open Go
section
variable {c:CfgD}{K:KSt}{k W:Nat}
theorem QC.ticks (hr:KRt c)(hq:∀ e∈c.ents,quietE e):∀ (n:Nat) (K:KSt),QC c K->KFit c K k (144*K.d.now)->K.d.now+n<=1099511627776->QC c (K.ticks c n).1/\(K.ticks c n).2=0/\(K.ticks c n).1.d.now=K.d.now+n
 | 0,K,h,_,_=>⟨h,rfl,rfl⟩
 | n+1,K,h,hf,hn=>by
  obtain⟨a1,a2,a3⟩:=h.tick hr hq hf (by omega);obtain⟨b1,b2,b3⟩:=QC.ticks hr hq n (K.tick c).1 a1 (hf.tick hr (by omega)) (by omega);show QC c (if (K.tick c).2=0 then (K.tick c).1.ticks c n else K.tick c).1/\(if (K.tick c).2=0 then (K.tick c).1.ticks c n else K.tick c).2=0/\(if (K.tick c).2=0 then (K.tick c).1.ticks c n else K.tick c).1.d.now=_
  rw[if_pos a2];exact⟨b1,b2,by omega⟩
end
end Go.Proofs.YtdpdbfhbojgigacGreatDoor
namespace Go.Proofs.YtdpdbfhbojgigacGreatDoor
open Go.RowKit Go.Extern.Stop Go.Stop Go.Extern
theorem fld_fault (x y:Int)(W:World):(Instr.field 29 (.agg #[.int .i64 x,.int .i64 y]) 0).run Tryz.prog W=.ok (.int .i64 x) W:=by kernel_rfl
def FrOut (w:World)(c:CfgD)(u:Ending)(w':World):Prop:=∃ kb bc F,u=.returned (.tuple #[.pointer (some ⟨kb,0,none⟩),.pointer (some ⟨bc,0,none⟩),.bool true])/\KeAt F w w' c kb bc (KSt.new c (CSt.new 4096))/\Below w.heap.size w w'/\∀ k,F k->w.heap.size<=k/\k < w'.heap.size
set_option maxRecDepth 100000 in
set_option maxHeartbeats 4000000 in
theorem fresh_at (A:Nat->Addr)(c:CfgD)(sa:Option Addr)(sc:Nat)(w:World)(hs:SenK A w)(h0:(cfgErr c).1=0)(hE:EntsAt w (.slice sa c.ents.length sc) c.ents)(hS:SmallC c) :
  Calls Tryz.prog 15 #[.agg #[.int .i64 c.closed,.int .i64 c.opn,.int .i64 c.cycle,.int .i64 c.delay,.slice sa c.ents.length sc]] w fun u w'=>FrOut w c u w':=by
 have hr:KRt c:=krt_of h0;obtain⟨W0,hW0⟩:∃ X,X=w.alloc (.cells #[.int .i64 c.closed,.int .i64 c.opn,.int .i64 c.cycle,.int .i64 c.delay,.slice sa c.ents.length sc] 24):=⟨_,rfl⟩;have b0:Below w.heap.size w W0:=by rw[hW0];exact Below.one _ _
 have r0:W0.heap[w.heap.size]?=some (.cells #[.int .i64 c.closed,.int .i64 c.opn,.int .i64 c.cycle,.int .i64 c.delay,.slice sa c.ents.length sc] 24 (0,0)):=by rw[hW0];exact heap_alloc_new w _
 have HC:Hid (Calls Tryz.prog 49 #[.int .i64 4096] W0 fun e w'=>e=.returned (.tuple #[.pointer (some ⟨W0.heap.size,0,none⟩),.nilIface])/\Below W0.heap.size W0 w'/\CellsAt w' W0.heap.size (CSt.new 4096)/\w'.heap.size=W0.heap.size+1):=new_in 4096 W0 (Nat.le_refl _);have HCf:Hid (∀ V,Below w.heap.size w V->Calls Tryz.prog 12 #[.agg #[.int .i64 c.closed,.int .i64 c.opn,.int .i64 c.cycle,.int .i64 c.delay,.slice sa c.ents.length sc]] V fun v w'=>v=.returned (.agg #[.int .i64 0,.int .i64 (cfgErr c).2])/\Below V.heap.size V w'):=fun V hV=>by
  have:=cfault_at c sa sc V (hE.below hV) hS;rw[h0] at this;exact this
 have HO:Hid (∀ V,Below w.heap.size w V->Calls Tryz.prog 37 #[.agg #[.int .i64 c.closed,.int .i64 c.opn,.int .i64 c.cycle,.int .i64 c.delay,.slice sa c.ents.length sc]] V _):=fun V hV=>ownConfig_at c sa sc V (hE.below hV) hS
 have HN:Hid (∀ sa' sc' V bc,Below w.heap.size w V->w.heap.size<=bc->EntsAt V (.slice sa' c.ents.length sc') c.ents->CellsAt V bc (CSt.new 4096)->Calls Tryz.prog 36 #[.agg #[.int .i64 c.closed,.int .i64 c.opn,.int .i64 c.cycle,.int .i64 c.delay,.slice sa' c.ents.length sc'],.pointer (some ⟨bc,0,none⟩)] V fun u w'=>KeNw w V c bc (CSt.new 4096) u w'):=fun sa' sc' V bc hV hlo hEV hcV=>ke_new (A:=A) sa' sc' hs hr h0 hEV hS hcV hlo hV (by decide) rfl
 have HR0:Hid _:=r0;have HB0:Hid _:=b0;have y:∀ V,Below W0.heap.size W0 V->(V.cell? ⟨w.heap.size,0,none⟩=some (.int .i64 c.closed)/\V.cell? ⟨w.heap.size,1,none⟩=some (.int .i64 c.opn)/\V.cell? ⟨w.heap.size,2,none⟩=some (.int .i64 c.cycle)/\V.cell? ⟨w.heap.size,3,none⟩=some (.int .i64 c.delay)/\V.cell? ⟨w.heap.size,4,none⟩=some (.slice sa c.ents.length sc)):=fun V hV=>by
  have:=row_below hV r0
  refine⟨?_,?_,?_,?_,?_⟩ <;> simp[World.cell?,this]
 have HY:Hid _:=y;clear hs h0 hE hS hr b0 r0 y;go_enter Tryz.func15,Tryz.ntmps15
 go_upto_region 1 with fail
 rw[<- hW0];clear hW0;go_wp2_with fail
 refine Calls.mono HC.out ?_;rintro u w1 ⟨rfl,hb1,hc1,-⟩;obtain⟨y0,y1,y2,y3,y4⟩:=HY.out w1 hb1;have HB1:Hid (Below w.heap.size w w1):=HB0.out.trans (hb1.mono HB0.out.size);have HBb:Hid _:=hb1;have HC1:Hid _:=hc1;clear hb1 hc1 HC;go_wp2_with fail
 clear y0 y1 y2 y3 y4
 refine Calls.mono (HCf.out w1 HB1.out) ?_;rintro u w2 ⟨rfl,hb2⟩;have hfl:=fld_fault 0 (cfgErr c).2 w2;have HBb2:Hid (Below W0.heap.size W0 w2):=HBb.out.trans (hb2.mono HBb.out.size);obtain⟨y0,y1,y2,y3,y4⟩:=HY.out w2 HBb2.out;have HB2:Hid (Below w.heap.size w w2):=HB1.out.trans (hb2.mono HB1.out.size);have HC2:Hid _:=HC1.out.below hb2;clear hb2 HCf HC1 HBb HB1;go_wp2_with fail
 clear y0 y1 y2 y3 y4 hfl
 refine Calls.mono (HO.out w2 HB2.out) ?_;rintro u w3 ⟨⟨sa',sc',rfl,hown⟩,hb3⟩;have HB3:Hid (Below w.heap.size w w3):=HB2.out.trans (hb3.mono HB2.out.size);have HX:Hid _:=HN.out sa' sc' w3 W0.heap.size HB3.out HB0.out.size hown.ents (HC2.out.below hb3);have HZ:Hid (w.heap.size<=W0.heap.size):=HB0.out.size;clear hown hb3 HC2 HO HN HB2 HBb2 HY HR0 HB0;go_wp2_with fail
 refine Calls.mono HX.out ?_;rintro u w4 ⟨kb,F,rfl,hat,hb4,hF⟩;have HAt:Hid _:=hat;have HB4:Hid (Below w.heap.size w w4):=HB3.out.trans (hb4.mono HB3.out.size);have HF4:Hid (∀ k,F k->w.heap.size<=k/\k < w4.heap.size):=fun k hk=>⟨by
  rcases(hF k hk).1 with e | e
  ·rw[e];exact HZ.out
  ·exact Nat.le_trans HB3.out.size e,(hF k hk).2⟩
 clear hat hb4 hF HX;go_wp2;(try simp only[Exit.inBlock,Exit.then])
 refine bodyPost_ret (results_tmp3 rfl _ _ _) rfl ?_;exact⟨kb,W0.heap.size,F,rfl,HAt.out,HB4.out,HF4.out⟩
end Go.Proofs.YtdpdbfhbojgigacGreatDoor
namespace Go.Proofs.YtdpdbfhbojgigacGreatDoor
open Go
def KSt.oneN (c:CfgD)(K:KSt)(n:Nat):KSt × Nat:=
 if n % 8=2 then K.report c ((n / 8 % 8:Nat):Int) ((n / 8 / 8 % 16:Nat):Int)
 else if n % 8=3 then K.ticks c (n / 8 % 16)
 else if n % 8=4 then K.begin ((n / 8 % 8:Nat):Int)
 else if n % 8=5 then K.stop ((n / 8 % 8:Nat):Int)
 else if n % 8=6 then K.cut ((n / 8 % 64:Nat):Int)
 else if n % 8=7 then K.boot c
 else K.tick c
def KSt.one (c:CfgD)(K:KSt)(v:Int):KSt × Int:=if v < 0 then (K,-1) else ((K.oneN c v.toNat).1,((K.oneN c v.toNat).2:Int))
def runK (c:CfgD):KSt->List Int->KSt
 | K,[]=>K
 | K,v :: t=>runK c (K.one c v).1 t
def ansK (c:CfgD):KSt->List Int->List Int
 | _,[]=>[]
 | K,v :: t=>(K.one c v).2 :: ansK c (K.one c v).1 t
theorem runK_append (c:CfgD):∀ (l t:List Int) (K:KSt),runK c K (l++t)=runK c (runK c K l) t
 | [],_,_=>rfl
 | v :: l,t,K=>runK_append c l t (K.one c v).1
theorem ansK_append (c:CfgD):∀ (l t:List Int) (K:KSt),ansK c K (l++t)=ansK c K l++ansK c (runK c K l) t
 | [],_,_=>rfl
 | v :: l,t,K=>by
  show _ :: ansK c _ (l++t)=_ :: (_++_)
  rw[ansK_append c l t (K.one c v).1];rfl
theorem ansK_length (c:CfgD):∀ (l:List Int) (K:KSt),(ansK c K l).length=l.length
 | [],_=>rfl
 | v :: l,K=>by show (ansK c _ l).length+1=l.length+1;rw[ansK_length c l]
theorem runK_take {c:CfgD}{K:KSt}{l:List Int}{i:Nat}{v:Int}(h:l[i]?=some v):runK c K (l.take (i+1))=((runK c K (l.take i)).one c v).1:=by
 rw[List.take_add_one,h,runK_append];rfl
theorem ansK_take {c:CfgD}{K:KSt}{l:List Int}{i:Nat}{v:Int}(h:l[i]?=some v):ansK c K (l.take (i+1))=ansK c K (l.take i)++[((runK c K (l.take i)).one c v).2]:=by
 rw[List.take_add_one,h,ansK_append];rfl
section
variable {c:CfgD}{K:KSt}{k:Nat}
theorem oneN_fit (hr:KRt c)(h:KFit c K k (144*K.d.now))(hn:K.d.now+15<=1099511627776)(n:Nat):KFit c (K.oneN c n).1 (k+1) (144*(K.oneN c n).1.d.now)/\(K.oneN c n).1.d.now<=K.d.now+15:=by
 unfold KSt.oneN
 split
 ·rw[report_now];exact⟨h.report _ _,by omega⟩
 split
 ·obtain⟨a,b⟩:=KFit.ticks hr (n / 8 % 16) K h (by omega);exact⟨a.mono (by omega) (Nat.le_refl _),by omega⟩
 split
 ·rw[begin_now];exact⟨h.begin _,by omega⟩
 split
 ·rw[stop_now];exact⟨h.stop _,by omega⟩
 split
 ·rw[cut_now];exact⟨(h.cut _ (by omega)).mono (by omega) (Nat.le_refl _),by omega⟩
 split
 ·rw[boot_now];exact⟨(h.boot hr).mono (by omega) (Nat.le_refl _),by omega⟩
 ·have:=tick_now c K;exact⟨(h.tick hr (by omega)).mono (by omega) (Nat.le_refl _),by omega⟩
theorem one_fit (hr:KRt c)(h:KFit c K k (144*K.d.now))(hn:K.d.now+15<=1099511627776)(v:Int):KFit c (K.one c v).1 (k+1) (144*(K.one c v).1.d.now)/\(K.one c v).1.d.now<=K.d.now+15:=by
 unfold KSt.one
 split
 ·exact⟨h.mono (by omega) (Nat.le_refl _),by show K.d.now<=_;omega⟩
 ·exact oneN_fit hr h hn _
theorem runK_fit (hr:KRt c):∀ (l:List Int) (K:KSt) (k:Nat),KFit c K k (144*K.d.now)->K.d.now+15*l.length<=900000->KFit c (runK c K l) (k+l.length) (144*(runK c K l).d.now)/\(runK c K l).d.now<=K.d.now+15*l.length
 | [],K,k,h,_=>⟨h,Nat.le_refl _⟩
 | v :: l,K,k,h,hn=>by
  have hl:(v :: l).length=l.length+1:=rfl;obtain⟨a,b⟩:=one_fit hr h (by omega) v;obtain⟨a2,b2⟩:=runK_fit hr l _ _ a (by omega);have e:k+(v :: l).length=k+1+l.length:=by omega
  rw[e];exact⟨a2,by show (runK c (K.one c v).1 l).d.now<=_;omega⟩
theorem oneN_le (hr:KRt c)(h:KFit c K k (144*K.d.now))(hn:K.d.now+15<=1099511627776)(n:Nat):(K.oneN c n).2<=11:=by
 unfold KSt.oneN
 split
 ·exact report_le K _ _
 split
 ·exact ticks_le hr _ K h (by omega)
 split
 ·exact begin_le K _
 split
 ·exact stop_le K _
 split
 ·exact cut_le K _
 split
 ·exact boot_le c K
 ·exact tick_le h (by omega)
theorem one_neg {v:Int}(h:v < 0):K.one c v=(K,-1):=by unfold KSt.one;rw[if_pos h]
theorem one_pos (n:Nat):K.one c (n:Int)=((K.oneN c n).1,((K.oneN c n).2:Int)):=by unfold KSt.one;rw[if_neg (by omega)];rfl
end
end Go.Proofs.YtdpdbfhbojgigacGreatDoor
namespace Go.Proofs.YtdpdbfhbojgigacGreatDoor
open Go.RowKit Go.Extern.Stop Go.Stop Go.Extern
section
variable {F F':Nat->Prop}{w0 w w':World}{c:CfgD}{ev:Value}{kb bm:Nat}{K:KSt}
theorem KmAt.trim (h:KmAt F w0 w c ev kb bm K):KmAt (fun k=>F k/\k < w.heap.size) w0 w c ev kb bm K:=by
 obtain⟨H,bd,rm,bt,v,lv,m,bs,h1,h2⟩:=h;exact⟨H,bd,rm,bt,v,lv,m,bs,h1,fun i k hk=>⟨h2 i k hk,h1.fam.lt i k hk⟩⟩
theorem KmAt.bel (h:KmAt F w0 w c ev kb bm K):Below w0.heap.size w0 w:=by
 obtain⟨H,bd,rm,bt,v,lv,m,bs,h1,h2⟩:=h;exact h1.bel
end
structure IntB where
 z:Int
 le:z<=9223372036854775807
def encIB (x:IntB):List Value:=[.int .i64 x.z]
theorem intB_of_trod {H:Type}{enc:TypeId × Value->H}{W:World}(n:Nat)(cs:List Value)(x:DataW H × List MemPlace)(h:DataW.trod enc Tryz.prog W 0 (fun _=>true) true n 3 cs=some x):∃ z:IntB,cs=encIB z:=by
 obtain⟨z,h1,-,h2⟩:=DataW.trod_int Tryz.underlying3 h;have h3:z<=9223372036854775807:=by
  simp[Lit.wf,IntKind.min,IntKind.max,IntKind.bits,IntKind.signed] at h2
  omega
 exact⟨⟨z,h3⟩,h1⟩
theorem ints_of_trodB {H:Type}{enc:TypeId × Value->H}{W:World}{fuel:Nat}{v:Value}{x:DataW H × List MemPlace}(h:DataW.trod enc Tryz.prog W 0 (fun _=>true) true fuel 36 [v]=some x):∃ l:List Int,SlAt encI 1 W v l/\l.length<=9223372036854775807/\∀ z∈l,z<=9223372036854775807:=by
 obtain⟨l,hl⟩:∃ l:List IntB,SlAt encIB 1 W v l:=sl_of_trod (⟨0,by decide⟩:IntB) (ec:=encIB) Tryz.underlying36 Tryz.cellsOne.1 (by decide) intB_of_trod h
 refine⟨l.map IntB.z,?_,?_,fun z hz=>?_⟩
 ·obtain⟨sa,cap,rfl,hle,hc⟩:=hl
  refine⟨sa,cap,by rw[List.length_map],by rw[List.length_map];exact hle,fun hne=>?_⟩;obtain⟨b,o,e,hc2⟩:=hc (fun e=>hne (by rw[e];rfl))
  refine⟨b,o,e,fun i y hy j u hu=>?_⟩;rw[List.getElem?_map] at hy;obtain⟨y',h1,rfl⟩:=Option.map_eq_some_iff.1 hy;exact hc2 i y' h1 j u hu
 ·rw[List.length_map];obtain⟨sa,cap,rfl,-,-⟩:=hl
  rcases DataW.trod_slice Tryz.underlying36 h with ⟨h1,-⟩ | ⟨a,len,cap',elems,rest,n,-,h1,-,-,h2,h3,-⟩
  ·simp only[List.cons.injEq,Value.slice.injEq,and_true] at h1;omega
  ·simp only[List.cons.injEq,Value.slice.injEq,and_true] at h1;unfold maxLen at h3;omega
 ·obtain⟨y,-,rfl⟩:=List.mem_map.1 hz;exact y.le
theorem Tryz.infoBP:(Tryz.prog.info? 5).map (fun i=>(i.zero,i.size,i.bytes))=some (some (.int .u8 0),1,1):=by kernel_rfl
def ZP (n:Nat):ByteArray:=⟨(zeros n).toArray⟩
theorem conv_madeP (W:World)(b n c:Nat)(h:W.heap[b]?=some (.cells (madeCells #[.int .u8 0] n) 5 (0,0))) :
  (convert 86 9 (.slice (some ⟨b,0,none⟩) n c)).run Tryz.prog W=.ok (.string (ZP n)) W:=by
 have:=run_convert_bytes_back (P:=Tryz.prog) W 86 9 5 ⟨b,0,none⟩ c (zeros n) Tryz.underlying86 Tryz.underlying5 Tryz.underlying9 (fun j hj=>by
  rw[zeros_length] at hj;have ea:(⟨b,0,none⟩:Addr).add j=⟨b,j,none⟩:=by unfold Addr.add;split <;> simp_all
  have e:(madeCells #[Value.int .u8 0] n)[j]?=some (.int .u8 0):=by
   rw[<- Array.getElem?_toList,toList_madeCells_one,List.getElem?_replicate,if_pos hj]
  rw[ea];simp only[World.cell?,h];simp[e,zeros])
 rw[zeros_length] at this;exact this
theorem heap_firstP (w:World)(a:Obj):(w.heap.push a)[w.heap.size]?=some a:=by simp
theorem sim_newP:Sim (CSt.new 4096) ⟨ZP 4096,false,0,false,0⟩:=
 ⟨zeros_length 4096,Nat.le_refl _,by show (zeros 4096).toArray.toList=(zeros 4096).take 4096;rw[zeros_take _ _ (Nat.le_refl _)],rfl,rfl,fun e=>(by cases e),rfl,Nat.zero_le _,Nat.zero_le _⟩
def PrM (w0 w4:World)(c:CfgD)(ev:Value)(v:Value)(V:World):Prop:=∃ mb bm G,v=.pointer (some ⟨mb,0,none⟩)/\KmAt G w0 V c ev mb bm (KSt.new c (CSt.new 4096))/\∀ k,G k->w4.heap.size<=k/\k < V.heap.size
theorem PrM.below {w0 w4 V V':World}{c:CfgD}{ev v:Value}(h:PrM w0 w4 c ev v V)(hb:Below V.heap.size V V'):PrM w0 w4 c ev v V':=by
 obtain⟨mb,bm,G,h1,h2,h3⟩:=h;exact⟨mb,bm,G,h1,h2.below hb,fun k hk=>⟨(h3 k hk).1,Nat.lt_of_lt_of_le (h3 k hk).2 hb.size⟩⟩
def prS (w0 w4:World)(c:CfgD)(ev:Value):Nat->Value->World->Prop
 | 0=>fun v _=>v=.agg #[.int .i64 c.closed,.int .i64 c.opn,.int .i64 c.cycle,.int .i64 c.delay,ev]
 | 1=>fun v w=>∃ b,v=.slice (some ⟨b,0,none⟩) 4096 4096/\w.heap[b]?=some (.cells (madeCells #[.int .u8 0] 4096) 5 (0,0))
 | 2=>fun v _=>v=.string (ZP 4096)
 | 3=>fun v _=>v=.agg #[.string (ZP 4096),.bool false,.int .i64 0,.bool false,.int .i64 0]
 | 4=>fun v w=>∃ b,v=.pointer (some ⟨b,0,none⟩)/\w4.heap.size<=b/\ModAt w b ⟨ZP 4096,false,0,false,0⟩
 | 5=>fun v w=>PrM w0 w4 c ev v w
 | 6=>fun v w=>PrM w0 w4 c ev v w
 | _=>fun _ _=>True
theorem prS_keeps {w0 w4 w w':World}{c:CfgD}{ev:Value}(hb:Below w.heap.size w w'):∀ j v,prS w0 w4 c ev j v w->prS w0 w4 c ev j v w':=by
 intro j v h
 match j,h with
 | 0,h=>exact h
 | 1,h=>exact⟨h.choose,h.choose_spec.1,row_below hb h.choose_spec.2⟩
 | 2,h=>exact h
 | 3,h=>exact h
 | 4,h=>exact⟨h.choose,h.choose_spec.1,h.choose_spec.2.1,h.choose_spec.2.2.below hb⟩
 | 5,h=>exact PrM.below h hb
 | 6,h=>exact PrM.below h hb
 | n+7,h=>exact h
theorem pr_new {w0 w4 V:World}{c:CfgD}{sa:Option Addr}{sc bm:Nat}(hr:KRt c)(hE:EntsAt w0 (.slice sa c.ents.length sc) c.ents)(h0:Below w0.heap.size w0 w4)(hV:Below w4.heap.size w4 V)(hlo:w4.heap.size<=bm)(hm:ModAt V bm ⟨ZP 4096,false,0,false,0⟩) :
  Calls Tryz.prog 40 #[.agg #[.int .i64 c.closed,.int .i64 c.opn,.int .i64 c.cycle,.int .i64 c.delay,.slice sa c.ents.length sc],.pointer (some ⟨bm,0,none⟩)] V fun u V'=>(∃ v,u=.returned v/\PrM w0 w4 c (.slice sa c.ents.length sc) v V')/\Below V.heap.size V V':=by
 refine(km_new (w0:=w0) (s:=CSt.new 4096) hr hm sim_newP (by decide) (Nat.le_trans h0.size hlo) hE (h0.trans (hV.mono h0.size))).mono ?_;rintro u V' ⟨kb,F,rfl,hat,hb,hF⟩
 refine⟨⟨_,rfl,kb,bm,F,rfl,hat,fun k hk=>⟨?_,(hF k hk).2⟩⟩,hb⟩
 rcases(hF k hk).1 with rfl | h
 ·exact hlo
 ·exact Nat.le_trans hV.size h
section
variable {c:CfgD}{K:KSt}
theorem oneN_at (n r:Nat)(h:n % 8=r):K.oneN c n=(if r=2 then K.report c ((n / 8 % 8:Nat):Int) ((n / 8 / 8 % 16:Nat):Int) else if r=3 then K.ticks c (n / 8 % 16) else if r=4 then K.begin ((n / 8 % 8:Nat):Int) else if r=5 then K.stop ((n / 8 % 8:Nat):Int) else if r=6 then K.cut ((n / 8 % 64:Nat):Int) else if r=7 then K.boot c else K.tick c):=by
 unfold KSt.oneN;rw[h]
theorem tdiv8 (n:Nat):Int.tdiv (n:Int) 8=((n / 8:Nat):Int):=by
 rw[Int.tdiv_eq_ediv_of_nonneg (by omega)];omega
theorem tmod_nat (n m:Nat):Int.tmod (n:Int) (m:Int)=((n % m:Nat):Int):=by
 rw[Int.tmod_eq_emod_of_nonneg (by omega)];exact(Int.natCast_emod n m).symm
theorem oneN_parts (c:CfgD)(K:KSt)(n:Nat)(hn:n<=9223372036854775807):∃ r q q8 q16 q64 qq qp:Nat,r < 8 /\
  Hid (K.oneN c n=(if r=2 then K.report c (q8:Int) (qp:Int) else if r=3 then K.ticks c q16 else if r=4 then K.begin (q8:Int) else if r=5 then K.stop (q8:Int) else if r=6 then K.cut (q64:Int) else if r=7 then K.boot c else K.tick c)) /\
  Int.tdiv (n:Int) 8=(q:Int)/\Int.tdiv (q:Int) 8=(qq:Int)/\Int.tmod (q:Int) 8=(q8:Int)/\Int.tmod (n:Int) 8=(r:Int)/\Int.tmod (q:Int) 16=(q16:Int)/\Int.tmod (q:Int) 64=(q64:Int)/\Int.tmod (qq:Int) 16=(qp:Int) /\
  q<=1152921504606846975/\qq<=1152921504606846975/\q8 < 8/\q16 < 16/\q64 < 64/\qp < 16:=
 ⟨n % 8,n / 8,n / 8 % 8,n / 8 % 16,n / 8 % 64,n / 8 / 8,n / 8 / 8 % 16,by omega,oneN_at n _ rfl,tdiv8 n,tdiv8 _,tmod_nat _ 8,tmod_nat _ 8,tmod_nat _ 16,tmod_nat _ 64,tmod_nat _ 16,by omega,by omega,by omega,by omega,by omega,by omega⟩
end
section
variable {F F':Nat->Prop}{w0 w w':World}{c:CfgD}{ev:Value}{kb bm:Nat}{K:KSt}{k:Nat}
set_option maxHeartbeats 4000000 in
set_option maxRecDepth 100000 in
theorem km_one (v:Int)(h:KmAt F w0 w c ev kb bm K)(hr:KRt c)(hf:KFit c K k (144*K.d.now))(hn:k+K.d.now+20<=900000)(hk:k < 1000)(hv:v<=9223372036854775807) :
  Calls Tryz.prog 83 #[.pointer (some ⟨kb,0,none⟩),.int .i64 v] w fun e w'=>e=.returned (.int .i64 (K.one c v).2)/\KmPost F w0 w c ev kb bm (K.one c v).1 w':=by
 have HAt:Hid _:=h
 by_cases hv0:v < 0
 ·have HO:Hid (K.one c v=(K,-1)):=one_neg hv0;clear h hr hf hn hk;go_enter Tryz.func83,Tryz.ntmps83
  go_wp2;go_ret;rw[HO.out];exact⟨rfl,KmPost.same HAt.out⟩
 ·obtain⟨n,rfl⟩:∃ n:Nat,v=(n:Int):=⟨v.toNat,by omega⟩;obtain⟨r,q,q8,q16,q64,qq,qp,hr9,HO,e1,e2,e3,e4,e5,e6,e7,q1,q2,g1,g2,g3,g4⟩:=oneN_parts c K n (by omega);have HO1:Hid _:=one_pos (c:=c) (K:=K) n;have HR:Hid (KRt c):=hr;have HF:Hid _:=hf;have HNn:Hid (k+K.d.now+20<=900000/\k < 1000):=⟨hn,hk⟩;have hn63:(n:Int)<=9223372036854775807:=hv;obtain⟨c5⟩:Nonempty (w.cell? ⟨kb,5,none⟩=some (.pointer (some ⟨bm,0,none⟩))):=by
   obtain⟨H,bd,rm,bt,v,lv,m,bs,h1,-⟩:=h;exact⟨h1.cell 5 _ rfl⟩
  clear h hr hf hn hk hv;go_enter Tryz.func83,Tryz.ntmps83
  match r,hr9 with
  | 2,_=>
   have HX:Hid _:=km_report (q8:Int) (qp:Int) HAt.out HF.out HNn.out.2;go_wp2_with fail
   refine Calls.mono HX.out ?_;rintro u w3 ⟨rfl,hp⟩;go_wp2;go_ret;rw[HO1.out,HO.out];exact⟨rfl,hp⟩
  | 3,_=>
   have HX:Hid _:=km_ticks (q16:Int) HAt.out HR.out HF.out (by have:=HNn.out;omega) (by have:=HNn.out;omega) (by have:=HNn.out;omega);go_wp2_with fail
   refine Calls.mono HX.out ?_;rintro u w3 ⟨rfl,hp⟩;go_wp2;go_ret;rw[HO1.out,HO.out];exact⟨rfl,hp⟩
  | 4,_=>
   have HX:Hid _:=km_begin (q8:Int) 0 HAt.out;go_wp2_with fail
   refine Calls.mono HX.out ?_;rintro u w3 ⟨rfl,hp⟩;go_wp2;go_ret;rw[HO1.out,HO.out];exact⟨rfl,hp⟩
  | 5,_=>
   have HX:Hid _:=km_stop (q8:Int) 0 HAt.out;go_wp2_with fail
   refine Calls.mono HX.out ?_;rintro u w3 ⟨rfl,hp⟩;go_wp2;go_ret;rw[HO1.out,HO.out];exact⟨rfl,hp⟩
  | 6,_=>
   have HX:Hid _:=km_cut (q64:Int) HAt.out (by omega);go_wp2_with fail
   refine Calls.mono HX.out ?_;rintro u w3 ⟨rfl,hp⟩;go_wp2;go_ret;rw[HO1.out,HO.out];exact⟨rfl,hp⟩
  | 7,_=>
   have HX:Hid _:=km_boot HAt.out HR.out HF.out;go_wp2_with fail
   refine Calls.mono HX.out ?_;rintro u w3 ⟨rfl,hp⟩;go_wp2;go_ret;rw[HO1.out,HO.out];exact⟨rfl,hp⟩
  | 0,_=>
   have HX:Hid _:=km_tick HAt.out HR.out HF.out (by have:=HNn.out;omega) (by have:=HNn.out;omega);go_wp2_with fail
   refine Calls.mono HX.out ?_;rintro u w3 ⟨rfl,hp⟩;go_wp2;go_ret;rw[HO1.out,HO.out];exact⟨rfl,hp⟩
  | 1,_=>
   have HX:Hid _:=km_tick HAt.out HR.out HF.out (by have:=HNn.out;omega) (by have:=HNn.out;omega);go_wp2_with fail
   refine Calls.mono HX.out ?_;rintro u w3 ⟨rfl,hp⟩;go_wp2;go_ret;rw[HO1.out,HO.out];exact⟨rfl,hp⟩
end
theorem Tryz.infoIntQ:(Tryz.prog.info? 3).map (fun i=>(i.zero,i.size,i.bytes))=some (some (.int .i64 0),1,8):=by kernel_rfl
structure PmLp (F:Nat->Prop)(w0 w wr:World)(c:CfgD)(ev:Value)(kb bm:Nat)(K:KSt)(av:Value)(xs:List Int):Prop where
 at':∃ G,KmAt G w0 wr c ev kb bm K/\(∀ k,G k->gr F w wr k)/\∀ k,av.ownBlock=some k->¬G k
 off:Off F w wr
 own:SlOwn encI 1 3 w.heap.size wr av xs
section
variable {F G:Nat->Prop}{w0 w wr wr':World}{c:CfgD}{ev:Value}{kb bm:Nat}{K K':KSt}{av:Value}{xs:List Int}
theorem PmLp.step (h2:∀ k,G k->gr F w wr k)(h3:∀ k,av.ownBlock=some k->¬G k)(hof:Off F w wr)(hown:SlOwn encI 1 3 w.heap.size wr av xs)(hp:KmPost G w0 wr c ev kb bm K' wr'):PmLp F w0 w wr' c ev kb bm K' av xs:=by
 refine⟨⟨_,hp.1,fun k hk=>?_,fun k hk hg=>?_⟩,?_,SlOwn.same hown (fun g hg=>hp.2.block g (hown.lt g hg).2 (h3 g hg))⟩
 ·rcases hk with hk | ⟨a,b⟩
  ·exact(h2 k hk).imp id (fun ⟨a,b⟩=>⟨a,Nat.lt_of_lt_of_le b hp.2.size⟩)
  ·exact Or.inr ⟨Nat.le_trans hof.size a,b⟩
 ·rcases hg with hg | ⟨a,_⟩
  ·exact h3 k hk hg
  ·have:=(hown.lt k hk).2;omega
 ·exact hof.trans hp.2 (fun k hk hi=>by
   rcases h2 k hi with a | ⟨a,_⟩
   ·exact a
   ·omega)
theorem PmLp.more (h:PmLp F w0 w wr c ev kb bm K av xs)(hw:w0.heap.size<=w.heap.size){o:Obj}{y:Int}{g cap n:Nat}(hn:xs.length+1=n)(hown:wr'.ownsRow w.heap.size 3 1 (.slice (some ⟨g,0,none⟩) n cap) n (xs.flatMap encI++[.int .i64 y]))(hg:(wr.alloc o).grownBy wr' av.ownBlock)(hor:av.ownBlock=some g\/g=wr.heap.size+1):PmLp F w0 w wr' c ev kb bm K (.slice (some ⟨g,0,none⟩) n cap) (xs++[y]):=by
 have hb:=Below.one wr o;have hof:Off (fun k=>av.ownBlock=some k) (wr.alloc o) wr':=⟨hg.os,hg.tape,hg.output,hg.size,fun k hk hn=>hg.block k hk (fun e=>hn e.symm)⟩;have hlt:∀ k,av.ownBlock=some k->w.heap.size<=k:=fun k hk=>(h.own.lt k hk).1
 obtain⟨G,h1,h2,h3⟩:=h.at';have hz:wr.heap.size<=wr'.heap.size:=Nat.le_trans hb.size hof.size
 refine⟨⟨fun k=>G k/\k < wr.heap.size,(h1.trim.below hb).off hof (fun k hk e=>h3 k e hk.1) (fun k hk=>Nat.le_trans hw (hlt k hk)),fun k hk=>(h2 k hk.1).imp id (fun ⟨a,b⟩=>⟨a,Nat.lt_of_lt_of_le b hz⟩),fun k hk hi=>?_⟩,?_,?_⟩
 ·cases hk
  rcases hor with hor | hor
  ·exact h3 g hor hi.1
  ·have h5:g < wr.heap.size:=hi.2;omega
 ·exact(h.off.trans (Off.of_below hb F) (fun _ _ h=>h)).trans hof (fun k hk e=>absurd (hlt k e) (by omega))
 ·have e:(xs++[y]).flatMap encI=xs.flatMap encI++[.int .i64 y]:=by rw[List.flatMap_append];rfl
  show wr'.ownsRow _ _ _ _ _ _
  rw[e,List.length_append,List.length_singleton,hn];exact hown
def PmOut (F:Nat->Prop)(w0 w:World)(c:CfgD)(ev:Value)(kb bm:Nat)(K:KSt)(l:List Int)(u:Ending)(w':World):Prop:=∃ av,u=.returned av/\PmLp F w0 w w' c ev kb bm (runK c K l) av (ansK c K l)
set_option maxHeartbeats 8000000 in
set_option maxRecDepth 100000 in
theorem km_run {k:Nat}(l:List Int)(sa:Option Addr)(sc:Nat)(h:KmAt F w0 w c ev kb bm K)(hr:KRt c)(hf:KFit c K k (144*K.d.now))(hn:k+K.d.now+20*l.length+20<=800000)(hk:k+l.length < 1000)(hl:∀ V,Off F w V->SlAt encI 1 V (.slice sa l.length sc) l)(hv:∀ v∈l,v<=9223372036854775807) :
  Calls Tryz.prog 48 #[.pointer (some ⟨kb,0,none⟩),.slice sa l.length sc] w fun u w'=>PmOut F w0 w c ev kb bm K l u w':=by
 obtain⟨i0,hi0,hz0,hz1,hz2⟩:=info_parts Tryz.infoIntQ;have HL:Hid (PmLp F w0 w w c ev kb bm K (.slice none 0 0) []):=⟨⟨F,h,fun k hk=>Or.inl hk,fun k hk=>by cases hk⟩,Off.refl _ _,⟨rfl,Or.inl ⟨rfl,rfl⟩⟩⟩;have HW0:Hid (w0.heap.size<=w.heap.size):=h.bel.size;have HR:Hid (KRt c):=hr;have HSl:Hid _:=hl;have HVl:Hid _:=hv;have HFt:Hid (∀ i,i<=l.length->KFit c (runK c K (l.take i)) (k+i) (144*(runK c K (l.take i)).d.now)/\(runK c K (l.take i)).d.now<=K.d.now+15*i):=fun i hi=>by
  have:=runK_fit hr (l.take i) K k hf (by rw[List.length_take];omega);rw[List.length_take,Nat.min_eq_left hi] at this;exact this
 have HNk:Hid (k+K.d.now+20*l.length+20<=800000/\k+l.length < 1000):=⟨hn,hk⟩;have hl9:l.length<=1000:=by omega
 clear h hr hf hn hk hl hv;go_enter Tryz.func48,Tryz.ntmps48
 go_wp2_with fail
 go_loopw [5,6,7] (fun av i _ wr=>∃ n:Nat,n<=l.length/\i=.int .i64 n/\Hid (PmLp F w0 w wr c ev kb bm (runK c K (l.take n)) av (ansK c K (l.take n)))) (fun _ i _ _=>l.length - (intOf i).toNat)
 case atStart=>exact⟨0,Nat.zero_le _,rfl,HL.out⟩
 case round=>
  clear HL;obtain⟨n,hnl,rfl,HL⟩:=hrel;have hal:(ansK c K (l.take n)).length=n:=by rw[ansK_length,List.length_take];omega
  obtain⟨ka,kc,hkv⟩:=ow_form HL.out.own;rw[hal] at hkv;subst hkv;have HAl:Hid ((ansK c K (l.take n)).length=n):=hal;clear hal
  by_cases hlt:n < l.length
  ·have k1:(n:Int) < (l.length:Int):=by omega
   have k2:(n:Int) < 3000:=by omega
   obtain⟨x,hx⟩:∃ x,l[n]?=some x:=⟨_,List.getElem?_eq_getElem hlt⟩;obtain⟨g,o,rfl,hc⟩:=slatI_cell (HSl.out wr HL.out.off) hx;have c0:=hc n x hx;obtain⟨G,a1,a2,a3⟩:=HL.out.at';obtain⟨f1,f2⟩:=HFt.out n hnl;have hnk:=HNk.out;have HX:Hid _:=km_one x a1 HR.out f1 (by omega) (by omega) (HVl.out x (List.mem_of_getElem? hx));have HSt:Hid (∀ K' wr',KmPost G w0 wr c ev kb bm K' wr'->PmLp F w0 w wr' c ev kb bm K' (.slice ka n kc) (ansK c K (l.take n))):=fun K' wr' hp=>PmLp.step a2 a3 HL.out.off HL.out.own hp
   have HTk:Hid (runK c K (l.take (n+1))=((runK c K (l.take n)).one c x).1/\ansK c K (l.take (n+1))=ansK c K (l.take n)++[((runK c K (l.take n)).one c x).2]):=⟨runK_take hx,ansK_take hx⟩;generalize hKn:(runK c K (l.take n)).one c x=Kn at HX HTk;generalize hAn:ansK c K (l.take n)=an at HSt HTk HAl;clear hc hx a1 a2 a3 f1 f2 hnk HL hKn hAn;obtain⟨K',y⟩:=Kn;go_wp2_with fail
   refine Calls.mono HX.out ?_;rintro u w3 ⟨rfl,hp⟩;have HL3:Hid _:=HSt.out K' w3 hp;have HO3:Hid (w3.ownsRow w.heap.size 3 1 (.slice ka n kc) n (an.flatMap encI)):=by
    have:w3.ownsRow w.heap.size 3 1 (.slice ka n kc) an.length (an.flatMap encI):=HL3.out.own;rw[HAl.out] at this;exact this
   have hz3:w.heap.size<=w3.heap.size:=HL3.out.off.size;clear hp HX HSt c0;go_wp2_with (at_builtin;refine wpList_append_lies _ rfl _ _ 36 rfl w.heap.size 3 i0 (.int .i64 0) 1 8 Tryz.underlying36 hi0 hz0 hz1 hz2 rfl (by decide) (.slice ka n kc) n (an.flatMap encI) rfl (World.ownsRow.alloc HO3.out _) ⟨w3.heap.size,0,none⟩ 1 1 [.int .i64 y] rfl rfl (ce_at w3 [.int .i64 y] 3) (fun u hu=>by rw[List.mem_singleton] at hu;subst hu;rfl) (by decide) (by unfold maxLen;omega) (by omega) (by simp;omega) (w3.heap.size+1) (by simp) ?_;intro gg cc w12 hown hg hor hlt12)
   have HL5:Hid _:=HL3.out.more HW0.out (by rw[HAl.out]) hown hg hor;clear hown hg hor hlt12 HO3 HL3;go_roundw
   case rel=>exact⟨n+1,by omega,by go_num,by show PmLp _ _ _ _ _ _ _ _ _ _ _;rw[HTk.out.1,HTk.out.2];exact HL5.out⟩
   case measure=>simp[intOf];omega
  ·obtain rfl:n=l.length:=by omega
   have k1:¬(l.length:Int) < (l.length:Int):=by omega
   have HE:Hid (PmLp F w0 w wr c ev kb bm (runK c K l) (.slice ka l.length kc) (ansK c K l)):=by
    have h5:=HL.out;rw[List.take_length] at h5;exact h5
   clear HL HAl;go_wp2;go_ret;exact⟨_,rfl,HE.out⟩
end
theorem code_same (A:Nat->Addr)(j:Nat)(w:World)(hs:Senv A w)(hj:j<=11) :
  Calls Tryz.prog 65 #[errVal A j] w fun e w'=>e=.returned (.tuple #[.int .i64 (j:Int),.int .i64 (-1)])/\Below w.heap.size w w':=by
 cases j with
 | zero=>
  refine(code_nil w).mono ?_;rintro e w' ⟨rfl,rfl⟩;exact⟨rfl,Below.refl _ _⟩
 | succ i=>
  obtain⟨c,t,hr⟩:=hs.row i (by omega)
  refine(code_errs A (A i) i c t w hs (by omega) (fun k hk=>hs.ne i k (by omega) (by omega) (by omega)) (fun _=>rfl) hr).mono ?_;rintro e w' ⟨rfl,hb⟩;rw[if_pos (by omega)];exact⟨by congr 3,hb⟩
section
variable {A:Nat->Addr}{F F':Nat->Prop}{w0 w w':World}{c:CfgD}{kb bc:Nat}{K:KSt}{k:Nat}
theorem KeAt.trim (h:KeAt F w0 w c kb bc K):KeAt (fun k=>F k/\k < w.heap.size) w0 w c kb bc K:=by
 obtain⟨H,bd,rb,bt,lv,bs,h1,h2⟩:=h;exact⟨H,bd,rb,bt,lv,bs,h1,fun i k hk=>⟨h2 i k hk,h1.fam.lt i k hk⟩⟩
theorem KePost.mono (h:KePost F w0 w c kb bc K w')(hF:∀ k,F k->F' k):KePost F' w0 w c kb bc K w':=by
 obtain⟨⟨H,bd,rb,bt,lv,bs,h1,h2⟩,h3⟩:=h;exact⟨⟨H,bd,rb,bt,lv,bs,h1,fun i k hk=>(h2 i k hk).imp (hF k) id⟩,h3.mono (fun k _ e=>hF k e)⟩
structure PlBox (w W:World)(kb bc:Nat):Prop where
 bel:Below w.heap.size w W
 heap:W.heap[w.heap.size]?=some (.cells #[.pointer (some ⟨kb,0,none⟩),.pointer (some ⟨bc,0,none⟩)] 141 (0,0))
theorem PlBox.lt {W:World}(h:PlBox w W kb bc):w.heap.size < W.heap.size:=by
 rcases Nat.lt_or_ge w.heap.size W.heap.size with h1 | h1
 ·exact h1
 ·have:=h.heap;rw[Array.getElem?_eq_none (by omega)] at this
  cases this
theorem PlBox.cc {W:World}(h:PlBox w W kb bc):W.cell? ⟨w.heap.size,0,none⟩=some (.pointer (some ⟨kb,0,none⟩))/\W.cell? ⟨w.heap.size,1,none⟩=some (.pointer (some ⟨bc,0,none⟩)):=by
 constructor <;> simp[World.cell?,h.heap]
theorem PlBox.off {W V:World}(h:PlBox w W kb bc)(ho:Off (fun k=>F k/\k < w.heap.size) W V):V.cell? ⟨w.heap.size,0,none⟩=some (.pointer (some ⟨kb,0,none⟩))/\V.cell? ⟨w.heap.size,1,none⟩=some (.pointer (some ⟨bc,0,none⟩)):=by
 have:=(ho.block _ h.lt (fun e=>Nat.lt_irrefl _ e.2)).trans h.heap
 constructor <;> simp[World.cell?,this]
theorem PlBox.new (w:World)(kb bc:Nat):PlBox w (w.alloc (.cells #[.pointer (some ⟨kb,0,none⟩),.pointer (some ⟨bc,0,none⟩)] 141)) kb bc:=⟨Below.one _ _,heap_alloc_new w _⟩
set_option maxHeartbeats 2000000 in
set_option maxRecDepth 100000 in
theorem pl_ticks (N:Nat)(h:KeAt F w0 w c kb bc K)(hs:SenK A w0)(hr:KRt c)(hf:KFit c K k (144*K.d.now))(hn:k+K.d.now+1+N<=900000) :
  Calls Tryz.prog 166 #[.agg #[.pointer (some ⟨kb,0,none⟩),.pointer (some ⟨bc,0,none⟩)],.int .i64 (N:Int)] w fun e w'=>e=.returned (errVal A (K.ticks c N).2)/\KePost F w0 w c kb bc (K.ticks c N).1 w':=by
 obtain⟨W,hW⟩:∃ X,X=w.alloc (.cells #[.pointer (some ⟨kb,0,none⟩),.pointer (some ⟨bc,0,none⟩)] 141):=⟨_,rfl⟩;have hbox:PlBox w W kb bc:=by rw[hW];exact PlBox.new w kb bc
 have HBx:Hid _:=hbox;have HR:Hid (KRt c):=hr;have HSv:Hid (SenK A w0):=hs;have HP:Hid (KePost (fun k=>F k/\k < w.heap.size) w0 W c kb bc K W):=KePost.same (h.trim.below hbox.bel);have HB:Hid (k+K.d.now+1+N<=900000):=hn;have HF:Hid _:=hf;have hN10:N<=900000:=by omega
 have HTo:Hid (∀ K' V,KePost (fun k=>F k/\k < w.heap.size) w0 W c kb bc K' V->KePost F w0 w c kb bc K' V):=fun K' V hp=>(hp.from hbox.bel).mono (fun k hk=>hk.1)
 clear h hr hf hn hs hbox;go_enter Tryz.func166,Tryz.ntmps166
 go_upto_region 1 with fail
 rw[<- hW];clear hW;go_wp2_with fail
 go_loopw [5,7] (fun _ i wr=>∃ (j:Nat) (Kj:KSt),j<=N/\i=.int .i64 j/\Hid (K.ticks c N=Kj.ticks c (N - j))/\Hid (KFit c Kj k (144*Kj.d.now))/\Hid (Kj.d.now<=K.d.now+j)/\Hid (KePost (fun k=>F k/\k < w.heap.size) w0 W c kb bc Kj wr)) (fun _ i _=>N - (intOf i).toNat)
 case atStart=>exact⟨0,K,Nat.zero_le _,rfl,rfl,HF.out,Nat.le_refl _,HP.out⟩
 case round=>
  clear HP HF;obtain⟨j,Kj,hj,rfl,HE,HFj,HNj,HPj⟩:=hrel
  by_cases hlt:j < N
  ·have k1:(j:Int) < (N:Int):=by omega
   have HE2:Hid (K.ticks c N=if (Kj.tick c).2=0 then (Kj.tick c).1.ticks c (N - (j+1)) else Kj.tick c):=by
    show _=_
    rw[HE.out,show N - j=(N - (j+1))+1 by omega];rfl
   have HX:Hid _:=ke_tick HPj.out.1 HSv.out HR.out HFj.out (by have:=HB.out;have:=HNj.out;omega);have HFn:Hid (KFit c (Kj.tick c).1 k (144*(Kj.tick c).1.d.now)/\(Kj.tick c).1.d.now<=K.d.now+(j+1)):=⟨HFj.out.tick HR.out (by have:=HB.out;have:=HNj.out;omega),by have:=tick_now c Kj;have:=HNj.out;omega⟩;obtain⟨x0,x1⟩:=HBx.out.off HPj.out.2;go_wp2_with fail
   refine Calls.mono HX.out ?_;rintro u w3 ⟨rfl,hp⟩;have HP3:Hid _:=HPj.out.trans hp;clear hp HX x0 x1
   by_cases hc0:(Kj.tick c).2=0
   ·rw[hc0,show errVal A 0=.nilIface from rfl];go_wp2_with fail
    go_roundw
    case rel=>exact⟨j+1,(Kj.tick c).1,by omega,by go_num,by show _=_;rw[HE2.out,if_pos hc0],HFn.out.1,HFn.out.2,HP3.out⟩
    case measure=>simp[intOf];omega
   ·obtain⟨q,hq⟩:=errVal_pos (A:=A) hc0;have HQ:Hid _:=hq;rw[hq];clear hq;go_wp2;go_ret;rw[HE2.out,if_neg hc0,HQ.out];exact⟨rfl,HTo.out _ _ HP3.out⟩
  ·have k1:¬(j:Int) < (N:Int):=by omega
   have HE2:Hid (K.ticks c N=(Kj,0)):=by
    show _=_
    rw[HE.out,show N - j=0 by omega];rfl
   go_wp2;go_ret;rw[HE2.out];exact⟨rfl,HTo.out _ _ HPj.out⟩
set_option maxHeartbeats 4000000 in
set_option maxRecDepth 100000 in
theorem pl_step (n:Nat)(h:KeAt F w0 w c kb bc K)(hs:SenK A w0)(hr:KRt c)(hf:KFit c K k (144*K.d.now))(hn:k+K.d.now+20<=900000)(hk:k < 1000)(hn63:n<=9223372036854775807) :
  Calls Tryz.prog 117 #[.agg #[.pointer (some ⟨kb,0,none⟩),.pointer (some ⟨bc,0,none⟩)],.int .i64 (n:Int)] w fun e w'=>e=.returned (errVal A (K.oneN c n).2)/\KePost F w0 w c kb bc (K.oneN c n).1 w':=by
 obtain⟨W,hW⟩:∃ X,X=w.alloc (.cells #[.pointer (some ⟨kb,0,none⟩),.pointer (some ⟨bc,0,none⟩)] 141):=⟨_,rfl⟩;have hbox:PlBox w W kb bc:=by rw[hW];exact PlBox.new w kb bc
 obtain⟨x0,x1⟩:=hbox.cc;have HTo:Hid (∀ K' V,KePost F w0 W c kb bc K' V->KePost F w0 w c kb bc K' V):=fun K' V hp=>hp.from hbox.bel
 have hat:KeAt F w0 W c kb bc K:=h.below hbox.bel;have HSv:Hid (SenK A w0):=hs;have HR:Hid (KRt c):=hr;have HAt:Hid _:=hat;have HF:Hid _:=hf;have HNn:Hid (k+K.d.now+20<=900000/\k < 1000):=⟨hn,hk⟩;obtain⟨r,q,q8,q16,q64,qq,qp,hr9,HO,e1,e2,e3,e4,e5,e6,e7,q1,q2,g1,g2,g3,g4⟩:=oneN_parts c K n hn63;clear h hs hr hf hn hk hbox hat;go_enter Tryz.func117,Tryz.ntmps117
 go_upto_region 1 with fail
 rw[<- hW];clear hW
 match r,hr9 with
 | 2,_=>
  have HX:Hid _:=ke_report (q8:Int) (qp:Int) HAt.out HSv.out HR.out HF.out HNn.out.2;go_wp2_with fail
  refine Calls.mono HX.out ?_;rintro u w3 ⟨rfl,hp⟩;go_wp2;go_ret;rw[HO.out];exact⟨rfl,HTo.out _ _ hp⟩
 | 3,_=>
  have HX:Hid _:=pl_ticks q16 HAt.out HSv.out HR.out HF.out (by have:=HNn.out;omega);go_wp2_with fail
  refine Calls.mono HX.out ?_;rintro u w3 ⟨rfl,hp⟩;go_wp2;go_ret;rw[HO.out];exact⟨rfl,HTo.out _ _ hp⟩
 | 4,_=>
  have HX:Hid _:=ke_begin (q8:Int) HAt.out HSv.out HR.out;go_wp2_with fail
  refine Calls.mono HX.out ?_;rintro u w3 ⟨rfl,hp⟩;go_wp2;go_ret;rw[HO.out];exact⟨rfl,HTo.out _ _ hp⟩
 | 5,_=>
  have HX:Hid _:=ke_stop (q8:Int) HAt.out HSv.out HR.out;go_wp2_with fail
  refine Calls.mono HX.out ?_;rintro u w3 ⟨rfl,hp⟩;go_wp2;go_ret;rw[HO.out];exact⟨rfl,HTo.out _ _ hp⟩
 | 6,_=>
  have HX:Hid _:=ke_cut (q64:Int) HAt.out HSv.out;go_wp2_with fail
  refine Calls.mono HX.out ?_;rintro u w3 ⟨rfl,hp⟩;go_wp2;go_ret;rw[HO.out];exact⟨rfl,HTo.out _ _ hp⟩
 | 7,_=>
  have HX:Hid _:=ke_boot HAt.out HSv.out HR.out HF.out;go_wp2_with fail
  refine Calls.mono HX.out ?_;rintro u w3 ⟨rfl,hp⟩;go_wp2;go_ret;rw[HO.out];exact⟨rfl,HTo.out _ _ hp⟩
 | 0,_=>
  have HX:Hid _:=ke_tick HAt.out HSv.out HR.out HF.out (by have:=HNn.out;omega);go_wp2_with fail
  refine Calls.mono HX.out ?_;rintro u w3 ⟨rfl,hp⟩;go_wp2;go_ret;rw[HO.out];exact⟨rfl,HTo.out _ _ hp⟩
 | 1,_=>
  have HX:Hid _:=ke_tick HAt.out HSv.out HR.out HF.out (by have:=HNn.out;omega);go_wp2_with fail
  refine Calls.mono HX.out ?_;rintro u w3 ⟨rfl,hp⟩;go_wp2;go_ret;rw[HO.out];exact⟨rfl,HTo.out _ _ hp⟩
set_option maxHeartbeats 2000000 in
set_option maxRecDepth 100000 in
theorem pl_answer (v:Int)(h:KeAt F w0 w c kb bc K)(hs:Senv A w0)(hr:KRt c)(hf:KFit c K k (144*K.d.now))(hn:k+K.d.now+20<=900000)(hk:k < 1000)(hv:v<=9223372036854775807) :
  Calls Tryz.prog 82 #[.agg #[.pointer (some ⟨kb,0,none⟩),.pointer (some ⟨bc,0,none⟩)],.int .i64 v] w fun e w'=>e=.returned (.int .i64 (K.one c v).2)/\KePost F w0 w c kb bc (K.one c v).1 w':=by
 obtain⟨W,hW⟩:∃ X,X=w.alloc (.cells #[.pointer (some ⟨kb,0,none⟩),.pointer (some ⟨bc,0,none⟩)] 141):=⟨_,rfl⟩;have hbox:PlBox w W kb bc:=by rw[hW];exact PlBox.new w kb bc
 have HTo:Hid (∀ K' V,KePost F w0 W c kb bc K' V->KePost F w0 w c kb bc K' V):=fun K' V hp=>hp.from hbox.bel
 have hat:KeAt F w0 W c kb bc K:=h.below hbox.bel;have HAt:Hid _:=hat
 by_cases hv0:v < 0
 ·have HO:Hid (K.one c v=(K,-1)):=one_neg hv0;clear h hs hr hf hn hk hbox hat;go_enter Tryz.func82,Tryz.ntmps82
  go_upto_region 1 with fail
  rw[<- hW];clear hW;go_wp2;go_ret;rw[HO.out];exact⟨rfl,HTo.out _ _ (KePost.same HAt.out)⟩
 ·obtain⟨n,rfl⟩:∃ n:Nat,v=(n:Int):=⟨v.toNat,by omega⟩;obtain⟨x0,x1⟩:=hbox.cc;have HO:Hid _:=one_pos (c:=c) (K:=K) n;have HX:Hid _:=pl_step n hat hs.ten hr hf hn hk (by omega);have HLe:Hid _:=oneN_le hr hf (by omega) n;have HSv:Hid (∀ V,Below w0.heap.size w0 V->Senv A V):=fun V hV=>hs.below hV
  clear h hs hr hf hn hk hbox hat;go_enter Tryz.func82,Tryz.ntmps82
  go_upto_region 1 with fail
  rw[<- hW];clear hW;go_wp2_with fail
  refine Calls.mono HX.out ?_;rintro u w3 ⟨rfl,hp⟩;have HCd:Hid _:=code_same A (K.oneN c n).2 w3 (HSv.out w3 hp.1.bel) HLe.out;have HP3:Hid _:=hp;clear hp HX HAt x0 x1 HSv;go_wp2_with fail
  refine Calls.mono HCd.out ?_;rintro u w4 ⟨rfl,hb4⟩;have HP4:Hid _:=HTo.out _ _ (KePost.below HP3.out hb4);clear hb4;go_wp2;go_ret;rw[HO.out];exact⟨rfl,HP4.out⟩
end
end Go.Proofs.YtdpdbfhbojgigacGreatDoor
