/-
  Several texts as one: ScNew, ScAgLaid, DcDec, ScLine, ScAgP.
-/
import Derived.Test.YtffpcbdlbcjihadGreatDoorP34S
import Derived.Test.YtffpcbdlbcjihadGreatDoorP35S
import Derived.Lay
import Derived.Lib.ConvBytes
import Derived.Laws.Concat
namespace Go.Proofs.YtffpcbdlbcjihadGreatDoor
open Go.RowKit Go.Extern.Stop Go.Stop Go.Extern
theorem readR_okc {look:Look}{s:Bs}(h:(readR look s).1.1=0):(cfgErr (readR look s).2).1=0:=by
 unfold readR at h ⊢
 split
 ·rename_i h8;rw[if_pos h8] at h;simp at h
 ·rename_i h8;rw[if_neg h8] at h
  split
  ·rename_i h0;rw[if_pos h0] at h
   split
   ·rename_i h1;exact h1
   ·rename_i h1;rw[if_neg h1] at h;exact absurd h h1
  ·rename_i h0;rw[if_neg h0] at h;exact absurd h h0
theorem Tryz.sizePl:(Tryz.prog.info? 66).map (·.size)=some 7:=by kernel_rfl
theorem results_pl {fn:Func}{p u:Tmp}(h:fn.results=#[.cell p 66,.tmp u])(tmps:Array Value)(w:World)(g:Nat)(a b c d e f x:Value)
  (hp:tmps.getD p undef=.pointer (some ⟨g,0,none⟩)) (hg:w.heap[g]?=some (.cells #[a,b,c,d,e,f,x] 66 (0,0))) :
  (results fn tmps).run Tryz.prog w=.ok (.tuple #[.agg #[a,b,c,d,e,f,x],tmps.getD u undef]) w:=by
 rw[results_cell_tmp h,hp];simp[asAddr,run_loadVar_row w g _ 66 #[a,b,c,d,e,f,x] _ _ hg Tryz.underlying66 rfl Tryz.sizePl,Result.andThen]
theorem EntsOwn.otherP {B b:Nat}{w w':World}{v:Value}{es:List EntD}(h:EntsOwn B w v es)(hg:w.grownBy w' (some b)){c:Array Value}{fr:Nat × Nat}(hb:w.heap[b]?=some (.cells c 66 fr)):EntsOwn B w' v es:=by
 obtain⟨cells,ho,hp⟩:=h;have hne:v.ownBlock≠some b:=by
  rcases ho.2 with ⟨rfl,_⟩ | ⟨g,cap,cur,rfl,_,hg',_⟩
  ·simp[Value.ownBlock]
  ·intro e;simp only[Value.ownBlock,Option.some.injEq] at e;subst e;rw[hg'] at hb;simp only[Option.some.injEq,Obj.cells.injEq] at hb;exact absurd hb.2.1 (by decide)
 refine⟨cells,ho.kept hg (Or.inr hne),fun i e he=>?_⟩;obtain⟨pv,gv,ev,fv,lv,h1,h2⟩:=hp i e he;exact⟨pv,gv,ev,fv,lv,⟨h1.hp.other hg hb (by decide),h1.hg.other hg hb (by decide),h1.he.other hg hb (by decide),h1.hf.other hg hb (by decide),h1.hl.other hg hb (by decide)⟩,h2⟩
structure ScEnv (A:Nat->Addr)(w:World):Prop where
 sk:SenK A w
 six:Sen6 A w
 kw:KwAt w
 tab:TabAt w
 mx:MxAt w
 syn:SynAt w
 gb:(max 12 13+1)<=w.heap.size
section
variable {A:Nat->Addr}{H:Nat->Nat->Prop}{F:Nat->Prop}{w0 w0' w w':World}{c:CfgD}{kb bc bd rb bt:Nat}{lv:Value}{bs:List Nat}{K:KSt}
theorem ScEnv.below (h:ScEnv A w)(hb:Below w.heap.size w w'):ScEnv A w':=⟨h.sk.below hb,h.six.below hb,h.kw.below hb (block_lt (h.kw 0 (by decide))),h.tab.below hb h.gb,h.mx.below hb,h.syn.below hb,Nat.le_trans h.gb hb.size⟩
theorem KeIn.turn (h:KeIn H w0 w c kb bc bd rb bt lv bs K)(hz:w0'.heap.size=w0.heap.size)(ho:Off (fun k=>k < w0.heap.size) w w')(hb:Below w0'.heap.size w0' w'):KeIn H w0' w' c kb bc bd rb bt lv bs K:=by
 have hS:∀ i k,H i k->¬k < w0.heap.size:=fun i k hk=>Nat.not_lt.2 (h.fam.lo i k hk)
 have hs:∀ i k,H i k->w'.heap[k]?=w.heap[k]?:=fun i k hk=>ho.block k (h.fam.lt i k hk) (hS i k hk)
 exact⟨by rw[hz];exact h.fam.grow ho.size,(hs 0 kb h.hk).trans h.row,h.hk,by rw[hz];exact SlOwn.same h.own (fun g hg=>hs 1 g (h.hl g hg)),h.hl,by rw[hz];exact h.ring.off ho (fun k hk=>hS 2 k hk),h.dog.off ho (hS 3 bd h.hd),h.hd,(hs 4 bt h.ht).trans h.tot,h.ht,
  fun i b e s h1 h2 h3=>(h.loc i b e s h1 h2 h3).same (hs (5+i)) ho.size,h.blen,h.llen,hb⟩
theorem KeAt.turn (h:KeAt F w0 w c kb bc K)(hz:w0'.heap.size=w0.heap.size)(ho:Off (fun k=>k < w0.heap.size) w w')(hb:Below w0'.heap.size w0' w'):KeAt F w0' w' c kb bc K:=by
 obtain⟨H,bd,rb,bt,lv,bs,h1,h2⟩:=h;exact⟨H,bd,rb,bt,lv,bs,h1.turn hz ho hb,h2⟩
end
def NpOk (A:Nat->Addr)(w:World)(c:CfgD)(e:Ending)(w':World):Prop:=
 ∃ sa sc w0 F kb bc,e=.returned (.tuple #[.agg (plRow c kb bc (.slice sa c.ents.length sc)),.nilIface])/\ScCtx A w0 c sa sc/\KeAt F w0 w' c kb bc (KSt.new c (CSt.new 4096))/\(∀ k,F k->w0.heap.size<=k/\k < w'.heap.size)/\Below w.heap.size w w0
def NpOut (A:Nat->Addr)(w:World)(s:Bs)(e:Ending)(w':World):Prop:=
 ((readR lookL s).1.1≠0->Below w.heap.size w w'/\∃ ev,e=.returned (.tuple #[.agg #[.pointer none,.pointer none,.int .i64 0,.int .i64 0,.int .i64 0,.int .i64 0,.slice none 0 0],ev])/\ErrAt A w' ev (readR lookL s).1)/\((readR lookL s).1.1=0->NpOk A w (readR lookL s).2 e w')
set_option maxHeartbeats 8000000 in
set_option maxRecDepth 100000 in
theorem newPlayer_at (A:Nat->Addr)(s:ByteArray)(w:World)(h:ScEnv A w)(hn:s.size<=9223372036854775807) :
  Calls Tryz.prog 22 #[.string s] w fun e w'=>NpOut A w (bl s) e w':=by
 obtain⟨W0,hW0⟩:∃ V,V=w.alloc (.cells #[.pointer none,.pointer none,.int .i64 0,.int .i64 0,.int .i64 0,.int .i64 0,.slice none 0 0] 66):=⟨_,rfl⟩;have hb0:Below w.heap.size w W0:=by rw[hW0];exact Below.one _ _
 have hr0:W0.heap[w.heap.size]?=some (.cells #[.pointer none,.pointer none,.int .i64 0,.int .i64 0,.int .i64 0,.int .i64 0,.slice none 0 0] 66 (0,0)):=by rw[hW0];exact heap_alloc_new w _
 have HRow:Hid (∀ V,Below W0.heap.size W0 V->V.heap[w.heap.size]?=some (.cells #[.pointer none,.pointer none,.int .i64 0,.int .i64 0,.int .i64 0,.int .i64 0,.slice none 0 0] 66 (0,0))):=fun V hV=>row_below hV hr0
 have HE:Hid (ScEnv A w):=h;have hE0:=h.below hb0;have HRd:Hid _:=read_at A s W0 hE0.six hE0.kw hE0.mx hn;have HB0:Hid _:=hb0;clear h hn hb0 hr0 hE0;go_enter Tryz.func22,Tryz.ntmps22
 go_upto_region 1 with fail
 rw[<- hW0];clear hW0;go_wp2_with fail
 refine Calls.mono HRd.out ?_;rintro v w1 ⟨c,sv,ev,rfl,hb1,hc,⟨B',hEo⟩,herr,hsm⟩;obtain⟨sa,sc,rfl,-⟩:=id hEo.ents;have HB1:Hid _:=hb1;obtain⟨v1,hv1⟩:∃ V,V=w1.alloc (.cells #[.int .i64 c.closed,.int .i64 c.opn,.int .i64 c.cycle,.int .i64 c.delay,.slice sa c.ents.length sc] 30):=⟨_,rfl⟩;have hbv:Below w1.heap.size w1 v1:=by rw[hv1];exact Below.one _ _
 have HBv:Hid (Below W0.heap.size W0 v1):=hb1.trans (hbv.mono hb1.size);have HV4:Hid (∀ X,Below v1.heap.size v1 X->X.heap[w1.heap.size]?=some (.cells #[.int .i64 c.closed,.int .i64 c.opn,.int .i64 c.cycle,.int .i64 c.delay,.slice sa c.ents.length sc] 30 (0,0))):=fun X hX=>row_below hX (by rw[hv1];exact heap_alloc_new w1 _)
 by_cases h0:(readR lookL (bl s)).1.1=0
 ·have hev:=herr.nil h0;subst hev;have hok:=readR_okc h0;rw[<- hc] at hok;have HOw:Hid (EntsOwn B' v1 (.slice sa c.ents.length sc) c.ents):=hEo.below hbv;have HSm:Hid (SmallC c/\(cfgErr c).1=0/\c=(readR lookL (bl s)).2/\(readR lookL (bl s)).1.1=0):=⟨hsm,hok,hc,h0⟩;have HN:Hid (Calls Tryz.prog 47 #[.int .i64 4096] v1 fun e w'=>e=.returned (.tuple #[.pointer (some ⟨v1.heap.size,0,none⟩),.nilIface])/\Below v1.heap.size v1 w'/\CellsAt w' v1.heap.size (CSt.new 4096)/\w'.heap.size=v1.heap.size+1):=new_in 4096 v1 (Nat.le_refl _);clear h0 hok hc hsm herr hEo hb1 hbv;go_upto_region 2 with fail
  rw[<- hv1];clear hv1;go_wp2_with fail
  refine Calls.mono HN.out ?_;rintro u w2 ⟨rfl,hb2,hc2,-⟩;have HB2:Hid _:=hb2;have HKn:Hid (Calls Tryz.prog 48 #[.agg #[.int .i64 c.closed,.int .i64 c.opn,.int .i64 c.cycle,.int .i64 c.delay,.slice sa c.ents.length sc],.pointer (some ⟨v1.heap.size,0,none⟩)] w2 fun u w'=>KeNw v1 w2 c v1.heap.size (CSt.new 4096) u w'):=
   ke_new (A:=A) sa sc ((HE.out.below (HB0.out.trans (HBv.out.mono HB0.out.size))).sk) (krt_of HSm.out.2.1) HSm.out.2.1 (HOw.out.ents.below hb2) HSm.out.1 hc2 (Nat.le_refl _) hb2 (by decide) rfl
  clear hb2 hc2 HN;go_wp2_with (refine wpList_load_row rfl 30 _ rfl w1.heap.size rfl _ _ _ _ (HV4.out _ HB2.out) Tryz.underlying30 rfl Tryz.sizeCfg ?_)
  refine Calls.mono HKn.out ?_;rintro u w3 ⟨kb,F,rfl,hat,hb3,hF⟩;have HB3:Hid (Below v1.heap.size v1 w3):=HB2.out.trans (hb3.mono HB2.out.size);have HAt:Hid _:=hat;have HF:Hid _:=hF;have HZ:Hid (v1.heap.size<=w2.heap.size):=HB2.out.size;clear hat hb3 hF HKn;have HB9:Hid (Below W0.heap.size W0 w3):=HBv.out.trans (HB3.out.mono HBv.out.size);go_wp2_with (first | (refine wpList_load_row rfl 30 _ rfl w1.heap.size rfl _ _ _ _ (HV4.out _ HB3.out) Tryz.underlying30 rfl Tryz.sizeCfg ?_) | (refine wpList_store_row rfl 66 _ _ rfl w.heap.size (plRow c kb v1.heap.size (.slice sa c.ents.length sc)) rfl rfl 66 #[.pointer none,.pointer none,.int .i64 0,.int .i64 0,.int .i64 0,.int .i64 0,.slice none 0 0] (HRow.out _ HB9.out) Tryz.sizePl rfl (by simp[Value.oneCell',plRow]) ?_))
  refine bodyPost_ret (results_pl rfl _ _ w.heap.size _ _ _ _ _ _ _ rfl (heap_setRow _ (HRow.out _ HB9.out))) rfl ?_
  refine⟨fun e=>absurd HSm.out.2.2.2 e,fun _=>?_⟩;have hrv:=HRow.out v1 HBv.out;have hlt:w.heap.size < v1.heap.size:=lt_of_row hrv;have hbw:=HB0.out.trans (HBv.out.mono HB0.out.size);have hb0':Below w.heap.size w (v1.setRow w.heap.size (plRow c kb v1.heap.size (.slice sa c.ents.length sc))):=hbw.grown (grown_setRow _ _ _) hbw.size (fun j hj=>by cases hj;exact Nat.le_refl _);have hz:(v1.setRow w.heap.size (plRow c kb v1.heap.size (.slice sa c.ents.length sc))).heap.size=v1.heap.size:=by simp[World.setRow]
  have hz3:(w3.setRow w.heap.size (plRow c kb v1.heap.size (.slice sa c.ents.length sc))).heap.size=w3.heap.size:=by simp[World.setRow]
  have hE1:=HE.out.below hb0';rw[<- HSm.out.2.2.1]
  refine⟨sa,sc,v1.setRow w.heap.size (plRow c kb v1.heap.size (.slice sa c.ents.length sc)),F,kb,v1.heap.size,rfl,⟨hE1.sk,hE1.six,hE1.kw,hE1.tab,hE1.mx,hE1.syn,hE1.gb,(HOw.out.otherP (grown_setRow _ _ _) hrv).ents,HSm.out.1,HSm.out.2.1,krt_of HSm.out.2.1⟩,KeAt.turn HAt.out hz ?_ ?_,fun k hk=>?_,hb0'⟩
  ·have hg:=grown_setRow w3 w.heap.size (plRow c kb v1.heap.size (.slice sa c.ents.length sc));exact⟨hg.os,hg.tape,hg.output,hg.size,fun k hk hn=>hg.block k hk (fun e=>hn (by cases e;exact hlt))⟩
  ·refine⟨HB3.out.os,HB3.out.tape,HB3.out.output,by rw[hz,hz3];exact HB3.out.size,fun k hk=>?_⟩;rw[hz] at hk;have hk3:=HB3.out.block k hk
   by_cases e:k=w.heap.size
   ·subst e;rw[heap_setRow _ (HRow.out _ HB9.out),heap_setRow _ hrv]
   ·simp only[World.setRow,Array.getElem?_modify];rw[if_neg (fun e2=>e e2.symm),if_neg (fun e2=>e e2.symm)];exact hk3
  ·rw[hz,hz3];have h5:=HF.out k hk
   refine⟨?_,h5.2⟩
   rcases h5.1 with e | e
   ·omega
   ·exact Nat.le_trans HZ.out e
 ·obtain⟨et,ex,he⟩:=herr.some h0;subst he;have HH0:Hid (¬(readR lookL (bl s)).1.1=0):=h0;have HEr:Hid _:=herr.below hbv;clear h0 hc hsm herr hEo hb1 hbv;go_upto_region 2 with fail
  rw[<- hv1];clear hv1;go_wp2_with (refine wpList_store_row rfl 66 _ _ rfl w.heap.size #[.pointer none,.pointer none,.int .i64 0,.int .i64 0,.int .i64 0,.int .i64 0,.slice none 0 0] rfl rfl 66 #[.pointer none,.pointer none,.int .i64 0,.int .i64 0,.int .i64 0,.int .i64 0,.slice none 0 0] (HRow.out _ HBv.out) Tryz.sizePl rfl (by simp[Value.oneCell']) ?_)
  rw[setRow_same (HRow.out _ HBv.out)]
  refine bodyPost_ret (results_pl rfl _ _ w.heap.size _ _ _ _ _ _ _ rfl (HRow.out _ HBv.out)) rfl ?_;exact⟨fun _=>⟨HB0.out.trans (HBv.out.mono HB0.out.size),_,rfl,HEr.out⟩,fun e=>absurd e HH0.out⟩
end Go.Proofs.YtffpcbdlbcjihadGreatDoor
namespace Go.Proofs.YtffpcbdlbcjihadGreatDoor
open Go.RowKit Go.ChangeShapes
def agNames : List (String × List UInt8) := sixNames ++ [("nightwatch/api.ErrFull", [110, 105, 103, 104, 116, 119, 97, 116, 99, 104, 58, 32, 102, 117, 108, 108]), ("nightwatch/api.ErrOff", [110, 105, 103, 104, 116, 119, 97, 116, 99, 104, 58, 32, 111, 102, 102]), ("nightwatch/api.ErrIdle", [110, 105, 103, 104, 116, 119, 97, 116, 99, 104, 58, 32, 105, 100, 108, 101]), ("nightwatch/api.ErrHeld", [110, 105, 103, 104, 116, 119, 97, 116, 99, 104, 58, 32, 104, 101, 108, 100]), ("nightwatch/api.ErrReset", [110, 105, 103, 104, 116, 119, 97, 116, 99, 104, 58, 32, 114, 101, 115, 101, 116]), ("strconv.ErrRange", [118, 97, 108, 117, 101, 32, 111, 117, 116, 32, 111, 102, 32, 114, 97, 110, 103, 101]), ("strconv.ErrSyntax", [105, 110, 118, 97, 108, 105, 100, 32, 115, 121, 110, 116, 97, 120])]
def agT (i : Nat) : Bs := (agNames.getD (i - 1) ("", [])).2
theorem Tryz.g6 : Tryz.prog.globalNamed "nightwatch/api.ErrFull" = some 6 := by kernel_rfl
theorem Tryz.g7 : Tryz.prog.globalNamed "nightwatch/api.ErrOff" = some 7 := by kernel_rfl
theorem Tryz.g8 : Tryz.prog.globalNamed "nightwatch/api.ErrIdle" = some 8 := by kernel_rfl
theorem Tryz.g9 : Tryz.prog.globalNamed "nightwatch/api.ErrHeld" = some 9 := by kernel_rfl
theorem Tryz.g10 : Tryz.prog.globalNamed "nightwatch/api.ErrReset" = some 10 := by kernel_rfl
theorem Tryz.gSyn : Tryz.prog.globalNamed "strconv.ErrSyntax" = some 19 := by kernel_rfl
theorem Tryz.gAg:(agNames.map fun x=>(Tryz.prog.globalNamed x.1).bind fun g=>(Tryz.prog.globals[g]?).map (·.type))=List.replicate 13 (some 25):=by kernel_rfl
def agLaid : List (String × DataW Unit) := [("math/bits.deBruijn32tab", Rows.laid_math_bits_deBruijn32tab), ("math/bits.deBruijn64tab", Rows.laid_math_bits_deBruijn64tab), ("internal/strconv.uint64pow10", Rows.laid_internal_strconv_uint64pow10), ("unicode/utf8.acceptRanges", Rows.laid_unicode_utf8_acceptRanges), ("nightwatch/api.ErrText", Rows.laid_nightwatch_api_ErrText), ("nightwatch/api.ErrBound", Rows.laid_nightwatch_api_ErrBound), ("nightwatch/api.ErrShape", Rows.laid_nightwatch_api_ErrShape), ("nightwatch/api.ErrName", Rows.laid_nightwatch_api_ErrName), ("nightwatch/api.ErrNone", Rows.laid_nightwatch_api_ErrNone), ("nightwatch/api.ErrExist", Rows.laid_nightwatch_api_ErrExist), ("nightwatch/api.ErrFull", Rows.laid_nightwatch_api_ErrFull), ("nightwatch/api.ErrOff", Rows.laid_nightwatch_api_ErrOff), ("nightwatch/api.ErrIdle", Rows.laid_nightwatch_api_ErrIdle), ("nightwatch/api.ErrHeld", Rows.laid_nightwatch_api_ErrHeld), ("nightwatch/api.ErrReset", Rows.laid_nightwatch_api_ErrReset), ("strconv.ErrRange", Rows.laid_strconv_ErrRange), ("strconv.ErrSyntax", Rows.laid_strconv_ErrSyntax), ("nightwatch/conf.keywords", Rows.laid_nightwatch_conf_keywords), ("unicode/utf8.first", Rows.laid_unicode_utf8_first)]
theorem ag_split : agLaid = [("math/bits.deBruijn32tab", Rows.laid_math_bits_deBruijn32tab), ("math/bits.deBruijn64tab", Rows.laid_math_bits_deBruijn64tab)] ++ ([("internal/strconv.uint64pow10", Rows.laid_internal_strconv_uint64pow10)] ++ ([("unicode/utf8.acceptRanges", Rows.laid_unicode_utf8_acceptRanges)] ++ (sentList agNames ++ ([("nightwatch/conf.keywords", Rows.laid_nightwatch_conf_keywords)] ++ [("unicode/utf8.first", Rows.laid_unicode_utf8_first)])))) := rfl
theorem ag_plain (W:World):laidMetH Tryz.prog agLaid W=laidMet Tryz.prog agLaid W:=MakeChecks.laidMetH_plain _ _ _ (by kernel_rfl)
theorem ag_vars {W:World}{ps:List MemPlace}(hl:DataW.LaidVars Tryz.prog W (sentList agNames) ps)(hnd:ps.Nodup)
  (hrows:∀ b off,MemPlace.cell b off∈ps->(∃ c t,W.heap[b]?=some (.cells c t (0,0)))/\∀ u v,W.cell? ⟨b,off,none⟩=some (.iface u v)->Value.okWide Tryz.prog W .any 0 u v) :
  ∃ A:Nat->Addr,SenK A W/\Sen6 A W/\SynAt W/\∀ i,i < 11->W.cell? (A i)=some (.string ⟨(agT (i+1)).toArray⟩):=by
 have hgs:∀ x,x∈agNames->∃ g,Tryz.prog.globalNamed x.1=some g/\(Tryz.prog.globals[g]?).map (·.type)=some 25:=fun x hx=>by
  have h1:((Tryz.prog.globalNamed x.1).bind fun g=>(Tryz.prog.globals[g]?).map (·.type))∈List.replicate 13 (some 25):=by
   rw[<- Tryz.gAg];exact List.mem_map_of_mem hx
  have h2:=List.eq_of_mem_replicate h1;simp only[Option.bind_eq_some_iff] at h2;obtain⟨g,a,b⟩:=h2;exact⟨g,a,b⟩
 obtain⟨A,hv,hr,-,hne,ht⟩:=sents Tryz.underlying25 Tryz.oneErr Tryz.underlying400 Tryz.underlying402 rfl rfl Tryz.underlying9 Tryz.cellsES Tryz.cellsStr agNames ps hgs hl hnd hrows;have hn:agNames.length=13:=rfl
 refine⟨A,⟨by simpa using World.var?_cell Tryz.g1 (hv 1 _ rfl) 0,by simpa using World.var?_cell Tryz.g2 (hv 2 _ rfl) 0,by simpa using World.var?_cell Tryz.g3 (hv 3 _ rfl) 0,by simpa using World.var?_cell Tryz.g4 (hv 4 _ rfl) 0,by simpa using World.var?_cell Tryz.g5 (hv 5 _ rfl) 0,by simpa using World.var?_cell Tryz.g6 (hv 6 _ rfl) 0,by simpa using World.var?_cell Tryz.g7 (hv 7 _ rfl) 0,by simpa using World.var?_cell Tryz.g8 (hv 8 _ rfl) 0,by simpa using World.var?_cell Tryz.g9 (hv 9 _ rfl) 0,by simpa using World.var?_cell Tryz.g10 (hv 10 _ rfl) 0⟩,⟨by simpa using World.var?_cell Tryz.g0 (hv 0 _ rfl) 0,by simpa using World.var?_cell Tryz.g1 (hv 1 _ rfl) 0,by simpa using World.var?_cell Tryz.g2 (hv 2 _ rfl) 0,by simpa using World.var?_cell Tryz.g3 (hv 3 _ rfl) 0,by simpa using World.var?_cell Tryz.g4 (hv 4 _ rfl) 0,by simpa using World.var?_cell Tryz.g5 (hv 5 _ rfl) 0,fun i hi=>hr i (by omega),fun i j hi hj hij=>hne i j (by omega) (by omega) hij⟩,⟨_,by simpa using World.var?_cell Tryz.gSyn (hv 12 _ rfl) 0,Or.inr ⟨_,_,rfl⟩⟩,fun i hi=>?_⟩
 have e : agNames[i]? = some (agNames.getD i ("", [])) := by rw [List.getD_eq_getElem?_getD, List.getElem?_eq_getElem (by omega)]; rfl
 exact ht i _ e
theorem ag_lt {W:World}{b o:Nat}{v:Value}(h:W.cell? ⟨b,o,none⟩=some v):b < W.heap.size:=block_lt h
theorem ag_globals {W:World}(hK:KwAt W)(hT:TabAt W):max 12 13+1<=W.heap.size:=by
 have h1:=ag_lt (hK 0 (by decide));have h2:=ag_lt (Lib.TabIs.cell hT Tryz.tabNamed 0 (by decide));omega
theorem ag_of_laid {W:World}(h:laidMetH Tryz.prog agLaid W)(hM:MxAt W):∃ A:Nat->Addr,ScEnv A W/\∀ i,i < 11->W.cell? (A i)=some (.string ⟨(agT (i+1)).toArray⟩):=by
 rw[ag_plain] at h;obtain⟨ps,hl,hnd,hrows⟩:=h;rw[ag_split] at hl;obtain⟨p0,r0,rfl,-,hl⟩:=laidVars_split _ _ _ hl;obtain⟨p1,r1,rfl,htab,hl⟩:=laidVars_split _ _ _ hl;obtain⟨p2,r2,rfl,-,hl⟩:=laidVars_split _ _ _ hl;obtain⟨p3,r3,rfl,hsix,hl⟩:=laidVars_split _ _ _ hl;obtain⟨p4,r4,rfl,hkw,-⟩:=laidVars_split _ _ _ hl;obtain⟨A,h1,h2,h3,h4⟩:=ag_vars hsix (List.Nodup.sublist ((List.sublist_append_left _ _).trans ((List.sublist_append_right _ _).trans ((List.sublist_append_right _ _).trans (List.sublist_append_right _ _)))) hnd) (fun b off hm=>hrows b off (by simp[hm]));have hK:=kw_of_vars hkw;have hT:=tab_of_vars htab;exact⟨A,⟨h1,h2,hK,hT,hM,h3,ag_globals hK hT⟩,h4⟩
theorem ag_met (os:Os)(args:Array Value):laidMetH Tryz.prog agLaid ((World.laidAll Tryz.prog os agLaid).forCall (fun _ _=>0) ⟨#[],args,[]⟩).memory:=by
 rw[ag_plain];exact laidMet_laidAll _ (by kernel_rfl) (by kernel_rfl)
end Go.Proofs.YtffpcbdlbcjihadGreatDoor
namespace Go.Proofs.YtffpcbdlbcjihadGreatDoor
open Go.RowKit Go.Extern.Stop Go.Stop Go.Extern
set_option maxRecDepth 100000 in
theorem byteD_any (n:Nat)(w:World) :
  Calls Tryz.prog 136 #[.int .i64 (n:Int)] w fun e w'=>e=.returned (.string ⟨#[UInt8.ofNat n]⟩)/\Below w.heap.size w w':=by
 have e:Hid ((n:Int) % 256=((UInt8.ofNat n).toNat:Int)):=by show _=_;rw[UInt8.toNat_ofNat'];omega
 have cv:=run_convert_bytes_back (P:=Tryz.prog) (w.alloc (.cells #[.int .u8 ((n:Int) % 256)] 5)) 58 9 5 ⟨w.heap.size,0,.none⟩ 1 [UInt8.ofNat n] Tryz.underlying58 Tryz.underlying5 Tryz.underlying9 (fun j hj=>by
  have:j=0:=by simpa using hj
  subst this;rw[e.out];exact World.cell?_alloc_at _ _ _ _ rfl)
 simp only[List.length_singleton] at cv;go_enter Tryz.func136,Tryz.ntmps136
 go_wp2_with fail
 go_ret;exact⟨rfl,(Below.refl _ _).alloc (Nat.le_refl _) _⟩
theorem cat_bytes (a b:List UInt8):(⟨a.toArray⟩:ByteArray)++⟨b.toArray⟩=⟨(a++b).toArray⟩:=by
 apply ByteArray.ext
 rw[ByteArray.data_append];simp
set_option maxRecDepth 100000 in
theorem below_at (n:Nat):∀ (w:World),n<=1099511627776 ->
  Calls Tryz.prog 85 #[.int .i64 (-(n:Int))] w fun e w'=>e=.returned (.string ⟨(decN n).toArray⟩)/\Below w.heap.size w w':=by
 induction n using Nat.strongRecOn with
 | ind n ih=>
  intro w hn
  by_cases h:n < 10
  ·obtain⟨s,hs⟩:∃ s:ByteArray,s=⟨#[UInt8.ofNat (48+n)]⟩:=⟨_,rfl⟩;have HE:Hid ((⟨(decN n).toArray⟩:ByteArray)=s):=by show _=_;rw[decN_small h,hs]
   have g1:-10 < -(n:Int):=by omega
   have HB:Hid (Calls Tryz.prog 136 #[.int .i64 ((48+n:Nat):Int)] w fun e w'=>e=.returned (.string s)/\Below w.heap.size w w'):=by rw[hs];exact byteD_any (48+n) w
   clear ih hn hs;go_enter Tryz.func85,Tryz.ntmps85
   go_wp2_with fail
   have e1:(48:Int) - -(n:Int)=((48+n:Nat):Int):=by omega
   have e2:(48:Int)+(n:Int)=((48+n:Nat):Int):=by omega
   first | rw[e1] | rw[e2] | skip
   clear e1 e2
   refine Calls.mono HB.out ?_;rintro v w1 ⟨rfl,hb1⟩;go_wp2;go_ret;exact⟨by rw[HE.out];rfl,hb1⟩
  ·obtain⟨s,hs⟩:∃ s:ByteArray,s=⟨#[UInt8.ofNat (48+n % 10)]⟩:=⟨_,rfl⟩;obtain⟨r,hr⟩:∃ r:ByteArray,r=⟨(decN (n / 10)).toArray⟩:=⟨_,rfl⟩;have HE:Hid ((⟨(decN n).toArray⟩:ByteArray)=r++s):=by show _=_;rw[decN_big h,hs,hr];exact(cat_bytes _ [_]).symm
   have rs:r.size<=100:=by
    have h1:=(decN_all (n / 10)).2.2.2.2 12 (by omega);rw[hr];show (decN (n / 10)).toArray.size<=100
    simp
    omega
   have ss:s.size<=100:=by rw[hs];show 1<=100;decide
   have g1:¬-10 < -(n:Int):=by omega
   have HI:Hid (Calls Tryz.prog 85 #[.int .i64 (-((n / 10:Nat):Int))] w fun e w'=>e=.returned (.string r)/\Below w.heap.size w w'):=by rw[hr];exact ih (n / 10) (by omega) w (by omega)
   have HB:Hid (∀ W,Calls Tryz.prog 136 #[.int .i64 ((48+n % 10:Nat):Int)] W fun e w'=>e=.returned (.string s)/\Below W.heap.size W w'):=fun W=>by rw[hs];exact byteD_any (48+n % 10) W
   have q1:Int.tdiv (-(n:Int)) 10=-((n / 10:Nat):Int):=by rw[Int.neg_tdiv];rfl
   have r1:Int.tmod (-(n:Int)) 10=-((n % 10:Nat):Int):=by rw[Int.neg_tmod];rfl
   obtain⟨d,hd⟩:∃ d,d=n / 10:=⟨_,rfl⟩;obtain⟨m,hm⟩:∃ m,m=n % 10:=⟨_,rfl⟩;rw[<- hd] at q1 HI;rw[<- hm] at r1 HB;have n3:(d:Int)<=1099511627776:=by omega
   have n6:(m:Int)<=9:=by omega
   clear ih hs hr h hd hm hn;go_enter Tryz.func85,Tryz.ntmps85
   go_wp2_with fail
   refine Calls.mono HI.out ?_;rintro v w1 ⟨rfl,hb1⟩;go_wp2_with fail
   have e1:(48:Int) - -(m:Int)=((48+m:Nat):Int):=by omega
   have e2:(48:Int)+(m:Int)=((48+m:Nat):Int):=by omega
   first | rw[e1] | rw[e2] | skip
   clear e1 e2
   refine Calls.mono (HB.out _) ?_;rintro v w2 ⟨rfl,hb2⟩;go_wp2;go_ret;exact⟨by rw[HE.out];rfl,hb1.trans (hb2.mono hb1.size)⟩
set_option maxRecDepth 100000 in
theorem decimal_at (n:Nat)(w:World)(hn:n<=1099511627776) :
  Calls Tryz.prog 28 #[.int .i64 (n:Int)] w fun e w'=>e=.returned (.string ⟨(decN n).toArray⟩)/\Below w.heap.size w w':=by
 obtain⟨r,hr⟩:∃ r:ByteArray,r=⟨(decN n).toArray⟩:=⟨_,rfl⟩;have HB:Hid (Calls Tryz.prog 85 #[.int .i64 (-(n:Int))] w fun e w'=>e=.returned (.string r)/\Below w.heap.size w w'):=by rw[hr];exact below_at n w hn
 have g1:¬(n:Int) < 0:=by omega
 have n3:(n:Int)<=1099511627776:=by omega
 rw[<- hr];clear hr hn;go_enter Tryz.func28,Tryz.ntmps28
 go_wp2_with fail
 refine Calls.mono HB.out ?_;rintro v w1 ⟨rfl,hb1⟩;go_wp2;go_ret;exact⟨rfl,hb1⟩
def scFirst:Nat->Int
 | 0=>9
 | 1=>9
 | 2=>9
 | 3=>99999
 | 4=>99999
 | 8=>9
 | _=>0
def lineN (first:Int):Nat->List Int->Option Bs
 | _,[]=>some []
 | i,n :: t=>if n < 0\/(if i=0 then first else 99999) < n then none else (lineN first (i+1) t).map fun r=>32 :: (num n++r)
def lineV (wd:Bs)(N:List Int):Option Bs:=match scKind wd with
 | none=>none
 | some k=>if N.length=(scDigs k).length then (lineN (scFirst k) 0 N).map fun r=>wd++r else none
set_option maxHeartbeats 4000000 in
set_option maxRecDepth 100000 in
theorem formOf_no (s:ByteArray)(w:World)(h:scKind (bl s)=none) :
  Calls Tryz.prog 11 #[.string s] w fun e w'=>e=.returned (.tuple #[.int .i64 0,.int .i64 0,.bool false])/\w'=w:=by
 have hne:∀ k,k < 14->(s.toList == scWord k)=false:=fun k hk=>by rw[ByteArray.toList_eq,beq_eq_false_iff_ne];exact fun e=>scKind_none h k hk e.symm
 have h0:(s.toList == [98,101,103,105,110])=false:=hne 0 (by decide);have h1:(s.toList == [115,116,111,112])=false:=hne 1 (by decide);have h2:(s.toList == [114,101,112,111,114,116])=false:=hne 2 (by decide);have h3:(s.toList == [116,105,99,107])=false:=hne 3 (by decide);have h4:(s.toList == [99,117,116])=false:=hne 4 (by decide);have h5:(s.toList == [98,111,111,116])=false:=hne 5 (by decide);have h6:(s.toList == [110,111,119])=false:=hne 6 (by decide);have h7:(s.toList == [107,105,99,107,115])=false:=hne 7 (by decide);have h8:(s.toList == [115,116,97,116,117,115])=false:=hne 8 (by decide);have h9:(s.toList == [116,111,116,97,108])=false:=hne 9 (by decide);have h10:(s.toList == [115,116,97,116,101])=false:=hne 10 (by decide);have h11:(s.toList == [99,97,117,115,101])=false:=hne 11 (by decide);have h12:(s.toList == [108,111,103])=false:=hne 12 (by decide);have h13:(s.toList == [99,111,110,102,105,103])=false:=hne 13 (by decide);clear h hne;go_enter Tryz.func11,Tryz.ntmps11
 go_wp2
 refine bodyPost_ret (results_tmp3 rfl _ _ _) rfl ?_;exact⟨rfl,rfl⟩
set_option maxHeartbeats 4000000 in
set_option maxRecDepth 100000 in
theorem formOf_yes (s:ByteArray)(k:Nat)(w:World)(h:scKind (bl s)=some k) :
  Calls Tryz.prog 11 #[.string s] w fun e w'=>e=.returned (.tuple #[.int .i64 ((scDigs k).length:Int),.int .i64 (scFirst k),.bool true])/\w'=w:=by
 obtain⟨h1,h2⟩:=scKind_some h;have hs:s=wordB k:=bl_inj (by rw[<- h2];simp[bl,wordB]);subst hs;clear h h2;have h3:k=0\/k=1\/k=2\/k=3\/k=4\/k=5\/k=6\/k=7\/k=8\/k=9\/k=10\/k=11\/k=12\/k=13:=by omega
 clear h1
 rcases h3 with rfl | rfl | rfl | rfl | rfl | rfl | rfl | rfl | rfl | rfl | rfl | rfl | rfl | rfl
 all_goals
  unfold wordB scWord;go_enter Tryz.func11,Tryz.ntmps11
  go_wp2
  refine bodyPost_ret (results_tmp3 rfl _ _ _) rfl ?_;exact⟨rfl,rfl⟩
theorem addOL (a b:ByteArray)(h:a.size+b.size<=9223372036854775807):∀ w,(Op.stringOp .add a b).run Tryz.prog w=.ok (.string (a++b)) w:=fun w=>run_string_add_sum (P:=Tryz.prog) w a b h
theorem lineN_step {fi n:Int}{j:Nat}{N:List Int}{acc:Bs}(hn:N[j]?=some n)(h:lineN fi 0 N=(lineN fi j (N.drop j)).map fun r=>acc++r) :
  ((n < 0\/(if j=0 then fi else 99999) < n)->lineN fi 0 N=none)/\(¬(n < 0\/(if j=0 then fi else 99999) < n)->lineN fi 0 N=(lineN fi (j+1) (N.drop (j+1))).map fun r=>(acc++32 :: num n)++r):=by
 obtain⟨hj,rfl⟩:=List.getElem?_eq_some_iff.1 hn;rw[List.drop_eq_getElem_cons hj,lineN] at h
 refine⟨fun hb=>by rw[h,if_pos hb];rfl,fun hb=>?_⟩;rw[h,if_neg hb,Option.map_map];congr 1
 funext r
 simp
theorem scDigs_len (k:Nat):(scDigs k).length<=2:=by unfold scDigs;split <;> simp
def LnOut (wd:Bs)(N:List Int)(w:World)(e:Ending)(w':World):Prop:=
 Below w.heap.size w w'/\(lineV wd N=none->e=.returned (.tuple #[.string ⟨#[]⟩,.bool false]))/\∀ t,lineV wd N=some t->e=.returned (.tuple #[.string ⟨t.toArray⟩,.bool true])
set_option maxHeartbeats 4000000 in
set_option maxRecDepth 100000 in
theorem lineOf_at (wd:ByteArray)(N:List Int)(na:Option Addr)(nc:Nat)(w:World)(hN:SlAt encI 1 w (.slice na N.length nc) N)(hw:wd.size<=1000)(hl:N.length<=1000) :
  Calls Tryz.prog 13 #[.agg #[.string wd,.slice na N.length nc]] w fun e w'=>LnOut (bl wd) N w e w':=by
 obtain⟨W,hW⟩:∃ V,V=w.alloc (.cells #[.string wd,.slice na N.length nc] 44):=⟨_,rfl⟩;have hb:Below w.heap.size w W:=by rw[hW];exact Below.one _ _
 have hrow:W.heap[w.heap.size]?=some (.cells #[.string wd,.slice na N.length nc] 44 (0,0)):=by rw[hW];exact heap_alloc_new w _
 have x0:W.cell? ⟨w.heap.size,0,none⟩=some (.string wd):=by simp[World.cell?,hrow]
 have x1:W.cell? ⟨w.heap.size,1,none⟩=some (.slice na N.length nc):=by simp[World.cell?,hrow]
 have HB:Hid _:=hb;have HN:Hid (SlAt encI 1 W (.slice na N.length nc) N):=hN.below hb;have HR:Hid _:=hrow;clear hN hb hrow
 cases hk:scKind (bl wd) with
 | none=>
  have HV:Hid (lineV (bl wd) N=none):=by show _=_;unfold lineV;rw[hk]
  have HF:Hid _:=formOf_no wd W hk;clear hk HN;go_enter Tryz.func13,Tryz.ntmps13
  go_upto_region 1 with fail
  rw[<- hW];clear hW;go_wp2_with fail
  refine Calls.mono HF.out ?_;rintro e wr ⟨rfl,rfl⟩;go_wp2;go_ret2
  exact⟨HB.out,fun _=>rfl,fun t h=>by rw[HV.out] at h;cases h⟩
 | some k=>
  have HF:Hid _:=formOf_yes wd k W hk;have hd2:=scDigs_len k
  by_cases hq:N.length=(scDigs k).length
  ·have HV:Hid (lineV (bl wd) N=(lineN (scFirst k) 0 N).map fun r=>bl wd++r):=by show _=_;unfold lineV;rw[hk];exact if_pos hq
   have HFi:Hid (scFirst k<=99999):=by show _<=_;unfold scFirst;split <;> omega
   rw[<- hq] at HF hd2;generalize scFirst k=fi at HF HV HFi;have k0:((N.length:Int) != (N.length:Int))=false:=by simp
   clear hk hq;go_enter Tryz.func13,Tryz.ntmps13
   go_upto_region 1 with fail
   rw[<- hW];clear hW;go_wp2_with fail
   refine Calls.mono HF.out ?_;rintro e wr ⟨rfl,rfl⟩;rename World=>Wb
   go_wp2_with fail
   go_loopw [7,8,9] (fun ov i _ wr=>∃ (j:Nat) (acc:Bs) (ob:ByteArray),j<=N.length/\i=.int .i64 j/\ov=.string ob/\Hid (bl ob=bl wd++acc)/\Hid (ob.size<=1000+100*j)/\Hid (lineN fi 0 N=(lineN fi j (N.drop j)).map fun r=>acc++r)/\Hid (Below Wb.heap.size Wb wr)) (fun _ i _ _=>N.length - (intOf i).toNat)
   case atStart=>exact⟨0,[],wd,Nat.zero_le _,rfl,rfl,by show _=_;simp,by show _<=_;omega,by show _=_;simp,Below.refl _ _⟩
   case round=>
    clear x0 x1;obtain⟨j,acc,ob,hj,rfl,rfl,HO,HS,HA,HX⟩:=hrel
    by_cases hlt:j < N.length
    ·have k1:(j:Int) < (N.length:Int):=by omega
     obtain⟨n,hn⟩:∃ n,N[j]?=some n:=⟨_,List.getElem?_eq_getElem hlt⟩;obtain⟨g,o,rfl,hc⟩:=slatI_cell (SlAt.below HN.out HX.out) hn;have hrx:=row_below HX.out HR.out;have y1:wr.cell? ⟨w.heap.size,1,none⟩=some (.slice (some ⟨g,o,none⟩) N.length nc):=by simp[World.cell?,hrx]
     clear hrx
     rcases Nat.eq_zero_or_pos j with rfl | hj0
     ·have HSt:Hid ((n < 0\/fi < n->lineN fi 0 N=none)/\(¬(n < 0\/fi < n)->lineN fi 0 N=(lineN fi (0+1) (N.drop (0+1))).map fun r=>(acc++32 :: num n)++r)):=lineN_step hn HA.out;have c0:wr.cell? ⟨g,o,none⟩=some (.int .i64 n):=by simpa using hc 0 n hn
      clear HA hc hn
      by_cases hneg:n < 0
      ·have HNo:Hid (lineV (bl wd) N=none):=by show _=_;rw[HV.out,HSt.out.1 (Or.inl hneg)];rfl
       clear HSt;go_wp2;go_ret2
       exact⟨HB.out.trans (HX.out.mono HB.out.size),fun _=>rfl,fun t h=>by rw[HNo.out] at h;cases h⟩
      by_cases hbig:fi < n
      ·have HNo:Hid (lineV (bl wd) N=none):=by show _=_;rw[HV.out,HSt.out.1 (Or.inr hbig)];rfl
       clear HSt;go_wp2;go_ret2
       exact⟨HB.out.trans (HX.out.mono HB.out.size),fun _=>rfl,fun t h=>by rw[HNo.out] at h;cases h⟩
      have HSy:Hid _:=HSt.out.2 (fun h=>h.elim hneg hbig);have hn9:n<=99999:=by have:=HFi.out;omega
      obtain⟨q,rfl⟩:∃ q:Nat,n=(q:Int):=⟨n.toNat,by omega⟩;obtain⟨dq,hdq⟩:∃ d:ByteArray,d=⟨(decN q).toArray⟩:=⟨_,rfl⟩;have HD:Hid (Calls Tryz.prog 28 #[.int .i64 (q:Int)] wr fun e w'=>e=.returned (.string dq)/\Below wr.heap.size wr w'):=by rw[hdq];exact decimal_at q wr (by omega)
      have hds:dq.size<=19:=by have:=num_len (n:=(q:Int)) (by omega);rw[hdq];show (decN q).toArray.size<=19;rw[List.size_toArray];exact Nat.le_trans this (by decide)
      have HDq:Hid (bl dq=num (q:Int)):=by show _=_;rw[hdq];simp[bl,num]
      have hos:=HS.out;have a1:=addOL ob ⟨#[32]⟩ (by show ob.size+1<=_;omega);have hsz:(ob++⟨#[32]⟩:ByteArray).size=ob.size+1:=by rw[ByteArray.size_append];rfl
      have a2:=addOL (ob++⟨#[32]⟩) dq (by rw[hsz];omega);have HOz:Hid (((ob++⟨#[32]⟩)++dq:ByteArray).size<=1000+100*(0+1)):=by show _<=_;rw[ByteArray.size_append,hsz];omega
      have HOb:Hid (bl ((ob++⟨#[32]⟩)++dq)=bl wd++(acc++32 :: num (q:Int))):=by show _=_;unfold bl;rw[ByteArray.data_append,ByteArray.data_append,Array.toList_append,Array.toList_append];show (bl ob++[32])++bl dq=_;rw[HO.out,HDq.out];simp[bl]
      generalize hz1:(ob++⟨#[32]⟩:ByteArray)=o1 at a1 a2 HOz HOb;generalize hz2:(o1++dq:ByteArray)=o2 at a2 HOz HOb;clear HSt hdq hos hsz hz1 hz2 HS HO;go_wp2_with fail
      refine Calls.mono HD.out ?_;rintro e wy ⟨rfl,hby⟩;have HXy:Hid (Below Wb.heap.size Wb wy):=HX.out.trans (hby.mono HX.out.size);clear hby HD c0 y1;go_wp2_with fail
      go_roundw
      case rel=>exact⟨0+1,acc++32 :: num (q:Int),o2,by omega,by go_num,rfl,HOb.out,HOz.out,HSy.out,HXy.out⟩
      case measure=>simp[intOf];omega
     ·have HSt:Hid ((n < 0\/(99999:Int) < n->lineN fi 0 N=none)/\(¬(n < 0\/(99999:Int) < n)->lineN fi 0 N=(lineN fi (j+1) (N.drop (j+1))).map fun r=>(acc++32 :: num n)++r)):=by have:=lineN_step hn HA.out;rw[if_neg (by omega)] at this;exact this
      have k2:((j:Int) == 0)=false:=by rw[beq_eq_false_iff_ne];omega
      have c0:wr.cell? ⟨g,o+j,none⟩=some (.int .i64 n):=hc j n hn;clear HA hc hn
      by_cases hneg:n < 0
      ·have HNo:Hid (lineV (bl wd) N=none):=by show _=_;rw[HV.out,HSt.out.1 (Or.inl hneg)];rfl
       clear HSt;go_wp2;go_ret2
       exact⟨HB.out.trans (HX.out.mono HB.out.size),fun _=>rfl,fun t h=>by rw[HNo.out] at h;cases h⟩
      by_cases hbig:99999 < n
      ·have HNo:Hid (lineV (bl wd) N=none):=by show _=_;rw[HV.out,HSt.out.1 (Or.inr hbig)];rfl
       clear HSt;go_wp2;go_ret2
       exact⟨HB.out.trans (HX.out.mono HB.out.size),fun _=>rfl,fun t h=>by rw[HNo.out] at h;cases h⟩
      have HSy:Hid _:=HSt.out.2 (fun h=>h.elim hneg hbig);have hn9:n<=99999:=by have:=HFi.out;omega
      obtain⟨q,rfl⟩:∃ q:Nat,n=(q:Int):=⟨n.toNat,by omega⟩;obtain⟨dq,hdq⟩:∃ d:ByteArray,d=⟨(decN q).toArray⟩:=⟨_,rfl⟩;have HD:Hid (Calls Tryz.prog 28 #[.int .i64 (q:Int)] wr fun e w'=>e=.returned (.string dq)/\Below wr.heap.size wr w'):=by rw[hdq];exact decimal_at q wr (by omega)
      have hds:dq.size<=19:=by have:=num_len (n:=(q:Int)) (by omega);rw[hdq];show (decN q).toArray.size<=19;rw[List.size_toArray];exact Nat.le_trans this (by decide)
      have HDq:Hid (bl dq=num (q:Int)):=by show _=_;rw[hdq];simp[bl,num]
      have hos:=HS.out;have a1:=addOL ob ⟨#[32]⟩ (by show ob.size+1<=_;omega);have hsz:(ob++⟨#[32]⟩:ByteArray).size=ob.size+1:=by rw[ByteArray.size_append];rfl
      have a2:=addOL (ob++⟨#[32]⟩) dq (by rw[hsz];omega);have HOz:Hid (((ob++⟨#[32]⟩)++dq:ByteArray).size<=1000+100*(j+1)):=by show _<=_;rw[ByteArray.size_append,hsz];omega
      have HOb:Hid (bl ((ob++⟨#[32]⟩)++dq)=bl wd++(acc++32 :: num (q:Int))):=by show _=_;unfold bl;rw[ByteArray.data_append,ByteArray.data_append,Array.toList_append,Array.toList_append];show (bl ob++[32])++bl dq=_;rw[HO.out,HDq.out];simp[bl]
      generalize hz1:(ob++⟨#[32]⟩:ByteArray)=o1 at a1 a2 HOz HOb;generalize hz2:(o1++dq:ByteArray)=o2 at a2 HOz HOb;clear HSt hdq hos hsz hz1 hz2 HS HO;go_wp2_with fail
      refine Calls.mono HD.out ?_;rintro e wy ⟨rfl,hby⟩;have HXy:Hid (Below Wb.heap.size Wb wy):=HX.out.trans (hby.mono HX.out.size);clear hby HD c0 y1;go_wp2_with fail
      go_roundw
      case rel=>exact⟨j+1,acc++32 :: num (q:Int),o2,by omega,by go_num,rfl,HOb.out,HOz.out,HSy.out,HXy.out⟩
      case measure=>simp[intOf];omega
    ·obtain rfl:j=N.length:=by omega
     have k1:¬(N.length:Int) < (N.length:Int):=by omega
     have HVs:Hid (lineV (bl wd) N=some (bl ob)):=by
      show _=_
      rw[HV.out,HA.out,List.drop_length];show some (bl wd++(acc++[]))=_
      rw[List.append_nil,HO.out]
     have HBb:Hid ((⟨(bl ob).toArray⟩:ByteArray)=ob):=by show _=_;unfold bl;rw[Array.toArray_toList]
     clear HA;go_wp2;go_ret2
     refine⟨HB.out.trans (HX.out.mono HB.out.size),fun h=>(by rw[HVs.out] at h;cases h),fun t h=>?_⟩;rw[HVs.out] at h
     cases h
     rw[HBb.out];rfl
  ·have HV:Hid (lineV (bl wd) N=none):=by show _=_;unfold lineV;rw[hk];exact if_neg hq
   have k0:((N.length:Int) != ((scDigs k).length:Int))=true:=by rw[bne_iff_ne];omega
   generalize (scDigs k).length=m at *;clear hk hq HN;go_enter Tryz.func13,Tryz.ntmps13
   go_upto_region 1 with fail
   rw[<- hW];clear hW;go_wp2_with fail
   refine Calls.mono HF.out ?_;rintro e wr ⟨rfl,rfl⟩;go_wp2;go_ret2
   exact⟨HB.out,fun _=>rfl,fun t h=>by rw[HV.out] at h;cases h⟩
end Go.Proofs.YtffpcbdlbcjihadGreatDoor
namespace Go.Proofs.YtffpcbdlbcjihadGreatDoor
open Go
theorem num_inj {n m:Int}(hn:0<=n)(hm:0<=m)(h:num n=num m):n=m:=by
 unfold num at h;have h1:=(decN_all n.toNat).1;rw[h,(decN_all m.toNat).1] at h1;omega
theorem lineN_some {fi:Int}:∀ (N:List Int) (i:Nat) (r:Bs),lineN fi i N=some r->r=N.flatMap (fun n=>32 :: num n)/\∀ n∈N,0<=n/\n<=max fi 99999
 | [],i,r,h=>by cases h;exact⟨rfl,fun n hn=>by cases hn⟩
 | n :: N,i,r,h=>by
  rw[lineN] at h
  by_cases hb:n < 0\/(if i=0 then fi else 99999) < n
  ·rw[if_pos hb] at h;cases h
  ·rw[if_neg hb] at h
   cases hr:lineN fi (i+1) N with
   | none=>rw[hr] at h;cases h
   | some r'=>
    rw[hr] at h
    cases h
    obtain⟨h1,h2⟩:=lineN_some N (i+1) r' hr
    refine⟨by rw[h1];simp,fun m hm=>?_⟩
    rcases List.mem_cons.1 hm with rfl | hm
    ·split at hb <;> omega
    ·exact h2 m hm
theorem scWord_clean:∀ k:Fin 14,(32:UInt8) ∉ scWord k.1:=by decide
theorem line_cut {wd t:Bs}{N:List Int}(h:lineV wd N=some t):∃ k,scKind wd=some k/\N.length=(scDigs k).length/\(∀ n∈N,0<=n/\n<=99999)/\t=wd++N.flatMap (fun n=>32 :: num n)/\cutBy 32 t=wd :: N.map num:=by
 unfold lineV at h
 cases hk:scKind wd with
 | none=>rw[hk] at h;cases h
 | some k=>
  rw[hk] at h;simp only at h
  split at h
  ·rename_i hl
   cases hr:lineN (scFirst k) 0 N with
   | none=>rw[hr] at h;cases h
   | some r=>
    rw[hr] at h
    cases h
    obtain⟨h1,h2⟩:=lineN_some N 0 r hr;obtain⟨hk1,hk2⟩:=scKind_some hk;have hf:scFirst k<=99999:=by unfold scFirst;split <;> omega
    refine⟨k,rfl,hl,fun n hn=>⟨(h2 n hn).1,by have:=(h2 n hn).2;omega⟩,by rw[h1],?_⟩;have:=cut_join 32 (N.map num) wd (by rw[<- hk2];exact scWord_clean ⟨k,hk1⟩) (fun x hx=>by
     obtain⟨n,-,rfl⟩:=List.mem_map.1 hx;exact(num_clean n).2.1)
    rw[<- this,h1];unfold joinBy;rw[List.flatMap_map]
  ·cases h
theorem line_tick {wd t:Bs}{N:List Int}(h:lineV wd N=some t):(wd≠scWord 3->scTick t=0)/\(wd=scWord 3->∃ n,N=[n]/\0<=n/\n<=99999/\scTick t<=n.toNat):=by
 obtain⟨k,hk,hl,hb,ht,hc⟩:=line_cut h;have h1:=(scKind_some hk).2;unfold scTick;rw[hc]
 refine⟨fun hw=>?_,fun hw=>?_⟩
 ·show (if scKind wd=some 3 then _ else _)=0
  rw[if_neg (fun e=>hw (scKind_some e).2.symm)]
 ·have hk3:k=3:=by
   have:scKind wd=some 3:=by rw[hw];decide
   rw[hk] at this;exact Option.some.inj this
  subst hk3
  match N,hl,hb with
  | [n],_,hb=>
   have hn:=hb n (List.mem_cons_self ..)
   refine⟨n,rfl,hn.1,hn.2,?_⟩;show (if scKind wd=some 3 then (((scNums [5] [num n]).getD []).getD 0 0).toNat else 0)<=_
   rw[if_pos hk];rw[scNums]
   cases hs:scNum (num n) 5 with
   | none=>show (0:Nat)<=_;omega
   | some m=>
    obtain⟨h2,h3,-,-⟩:=scNum_some hs;rw[num_inj h2 hn.1 h3];show ([n].getD 0 0).toNat<=_
    exact Nat.le_refl _
theorem line_len {wd t:Bs}{N:List Int}(h:lineV wd N=some t)(hw:wd.length<=1000)(hN:N.length<=100):t.length<=10000:=by
 obtain⟨k,hk,hl,hb,ht,-⟩:=line_cut h;have h1:∀ N:List Int,(∀ n∈N,0<=n/\n<=99999)->(N.flatMap (fun n=>32 :: num n)).length<=20*N.length:=by
  intro N
  induction N with
  | nil=>intro _;exact Nat.le_refl _
  | cons n N ih=>
   intro hb;have h2:=ih (fun m hm=>hb m (List.mem_cons_of_mem _ hm));have h3:=num_len (n:=n) (by have:=hb n (List.mem_cons_self ..);omega);rw[List.flatMap_cons,List.length_append];simp only[List.length_cons];omega
 have:=h1 N hb;rw[ht,List.length_append];omega
end Go.Proofs.YtffpcbdlbcjihadGreatDoor
