/-
  Several texts as one: CfRStep, CfRLines, CfRRead.
-/
import Derived.Test.YtffpcbdlbcjihadGreatDoorP32S
import Derived.Laws.ResultCell
import Derived.BigRegion
namespace Go.Proofs.YtffpcbdlbcjihadGreatDoor
open Go.RowKit Go.Extern.Stop Go.Stop Go.Extern Go.Maps
theorem line_inv {look:Look}{st:RS}{l:Bs}(h:(lineR look st l).1=0):∃ (k:Nat) (hd:Bs) (ws:List Bs) (vs:List Int),k < 10/\cutBy 32 l=hd :: ws/\may st.last k=true/\(lineR look st l).2=⟨k,updC st.cfg k ws vs⟩:=by
 unfold lineR at h ⊢
 cases hc:cutBy 32 l with
 | nil=>rw[hc] at h;simp at h
 | cons hd ws=>
  rw[hc] at h;simp only[lineW] at h ⊢
  cases hk:kindOf hd with
  | none=>rw[hk] at h;simp at h
  | some k=>
   rw[hk] at h;simp only at h ⊢
   split at h
   ·simp at h
   ·rename_i hm;rw[if_neg hm]
    split at h
    ·rename_i hf;rw[if_pos hf];exact⟨k,hd,ws,_,(kindOf_some hk).2,rfl,by simpa using hm,rfl⟩
    ·rename_i hf;exact absurd h hf
def SmE (e:EntD):Prop:=e.name.size<=1000000/\∀ p∈e.pts,p.size<=1000000
theorem may_ge {last:Int}{k:Nat}(hk:4<=k)(h:may last k=true):3<=last:=by
 unfold may at h;rw[if_neg (by omega),if_neg (by omega)] at h
 split at h
 ·simp at h;omega
 ·simp at h;omega
theorem word_small {c:UInt8}{l hd:Bs}{ws:List Bs}(hc:cutBy c l=hd :: ws)(hl:l.length<=1000000)(i:Nat):(⟨(ws.getD i []).toArray⟩:ByteArray).size<=1000000:=by
 have:(ws.getD i []).length<=1000000:=by
  rw[List.getD_eq_getElem?_getD]
  cases hw:ws[i]? with
  | none=>simp
  | some x=>
   have:=cut_size c l x (by rw[hc];exact List.mem_cons_of_mem _ (List.mem_of_getElem? hw));simp
   omega
 show (ws.getD i []).toArray.size<=1000000
 simpa using this
theorem stOk_step {look:Look}{n:Nat}{st:RS}{l:Bs}(I:StOk n st.cfg st.last)(S:∀ e∈st.cfg.ents,SmE e)(hl:l.length<=1000000)(h:(lineR look st l).1=0) :
  StOk (n+1) (lineR look st l).2.cfg (lineR look st l).2.last/\∀ e∈(lineR look st l).2.cfg.ents,SmE e:=by
 obtain⟨k,hd,ws,vs,k10,hc,hm,e⟩:=line_inv h;rw[e];have same:StOk n st.cfg st.last->∀ c:CfgD,c.ents=st.cfg.ents->(((k:Nat):Int)<=1->st.cfg.ents=[])->(k:Int)<=2->StOk (n+1) c k:=fun I c hce h0 h2=>
  ⟨fun h=>by rw[hce];exact h0 h,fun h=>by omega,by rw[hce];have:=I.len;omega,fun e he=>by rw[hce] at he;exact(I.sz e he).mono (by omega)⟩
 match k,k10 with
 | 0,_=>exact⟨same I _ rfl (fun _=>I.e0 (by simp[may] at hm;omega)) (by simp),S⟩
 | 1,_=>exact⟨same I _ rfl (fun _=>I.e0 (by simp[may] at hm;omega)) (by simp),S⟩
 | 2,_=>exact⟨same I _ rfl (fun h=>by simp at h) (by simp),S⟩
 | 3,_=>
  refine⟨⟨fun h=>by simp at h,fun _=>by simp[updC],by have:=I.len;simp[updC];omega,fun e he=>?_⟩,fun e he=>?_⟩
  ·simp only[updC,List.mem_append,List.mem_singleton] at he
   rcases he with he | rfl
   ·exact(I.sz e he).mono (by omega)
   ·exact⟨by simp[newEnt],by simp[newEnt],by simp[newEnt],by simp[newEnt],by simp[newEnt]⟩
  ·simp only[updC,List.mem_append,List.mem_singleton] at he
   rcases he with he | rfl
   ·exact S e he
   ·exact⟨word_small hc hl 0,fun p hp=>by simp[newEnt] at hp⟩
 | k+4,_=>
  have h3:=may_ge (by omega) hm;obtain⟨es,e1,he⟩:∃ es e1,st.cfg.ents=es++[e1]:=⟨_,_,(List.dropLast_concat_getLast (I.e3 h3)).symm⟩;have hu:(updC st.cfg (k+4) ws vs).ents=es++[updE (k+4) ws vs e1]:=by
   show updLast _ _=_
   rw[he,updLast_snoc]
  have hlen:=I.len;rw[he] at hlen
  refine⟨⟨fun h=>by simp at h;omega,fun _=>by show (updC st.cfg (k+4) ws vs).ents≠[];rw[hu];simp,by show (updC st.cfg (k+4) ws vs).ents.length<=_;rw[hu];simp at hlen ⊢;omega,fun e2 he2=>?_⟩,fun e2 he2=>?_⟩
  ·have he2':e2∈(updC st.cfg (k+4) ws vs).ents:=he2;rw[hu,List.mem_append,List.mem_singleton] at he2'
   rcases he2' with h' | rfl
   ·exact(I.sz e2 (by rw[he];simp[h'])).mono (by omega)
   ·exact(I.sz e1 (by rw[he];simp)).upd
  ·have he2':e2∈(updC st.cfg (k+4) ws vs).ents:=he2;rw[hu,List.mem_append,List.mem_singleton] at he2'
   rcases he2' with h' | rfl
   ·exact S e2 (by rw[he];simp[h'])
   ·obtain⟨a,b⟩:=S e1 (by rw[he];simp);unfold updE SmE
    split
    ·refine⟨a,fun p hp=>?_⟩;simp only[List.mem_append,List.mem_singleton] at hp
     rcases hp with hp | rfl
     ·exact b p hp
     ·exact word_small hc hl 0
    all_goals exact⟨a,b⟩
theorem fillV_codes {look:Bs->Option Nat}:∀ (fs:List Nat) (ws:List Bs) (nn:Bool),(fillV look nn fs ws).1<=5
 | [],[],nn=>by cases nn <;> simp[fillV]
 | [],_ :: _,_=>by simp[fillV]
 | _ :: _,[],_=>by simp[fillV]
 | f :: fs,w :: ws,nn=>by
  unfold fillV
  split
  ·simp
  ·exact fillV_codes fs ws _
theorem line_codes (look:Look)(st:RS)(l:Bs):(lineR look st l).1<=5:=by
 unfold lineR
 split
 ·simp
 ·unfold lineW
  split
  ·simp
  ·split
   ·simp
   ·split
    ·simp
    ·exact fillV_codes _ _ _
theorem RdA.entsOwn {B rb:Nat}{w:World}{c:CfgD}{last:Int}{ev mv:Value}{es:List EntD}{cells:List Value}(h:RdA B rb w c last ev mv es cells):EntsOwn B w ev es:=
 ⟨cells,h.ents,fun i e he=>by
  obtain⟨x,a,-,d⟩:=h.olds i e he;exact⟨x.p,x.g,x.e,x.f,x.l,a,d⟩⟩
theorem RdS.toA {B rb:Nat}{w:World}{c:CfgD}{last:Int}(h:RdS B rb w c last):∃ ev mv cells,RdA B rb w c last ev mv c.ents cells:=by
 rcases h with h | ⟨L,g,cap,mb,es,e,x,cells,he,h,hL⟩
 ·have h2:=h.toA;rw[<- h.nil] at h2;exact⟨_,_,_,h2⟩
 ·have h2:=h.toA hL;rw[<- he] at h2;exact⟨_,_,_,h2⟩
theorem results_cfg {fn:Func}{p u:Tmp}(h:fn.results=#[.cell p 30,.tmp u])(tmps:Array Value)(w:World)(g:Nat)(a b c d e:Value)
  (hp:tmps.getD p undef=.pointer (some ⟨g,0,none⟩)) (hg:w.heap[g]?=some (.cells #[a,b,c,d,e] 30 (0,0))) :
  (results fn tmps).run Tryz.prog w=.ok (.tuple #[.agg #[a,b,c,d,e],tmps.getD u undef]) w:=by
 rw[results_cell_tmp h,hp];simp[asAddr,run_loadVar_row w g _ 30 #[a,b,c,d,e] _ _ hg Tryz.underlying30 rfl Tryz.sizeCfg,Result.andThen]
theorem RdA.other {B rb b:Nat}{w w':World}{c:CfgD}{last:Int}{ev mv:Value}{es:List EntD}{cells:List Value}(h:RdA B rb w c last ev mv es cells)(hg:w.grownBy w' (some b)){cs:Array Value}{fr:Nat × Nat}(hb:w.heap[b]?=some (.cells cs 30 fr))(hne:rb≠b):RdA B rb w' c last ev mv es cells:=
 ⟨h.lo,(hg.block rb (lt_of_row h.row) (by simpa using hne)).trans h.row,h.ents.kept hg (Or.inr (own_ne h.ents hb (by decide))),fun i e he=>by
  obtain⟨x,a,b',d⟩:=h.olds i e he;exact⟨x,a.other hg hb (by decide) (by decide) (by decide) (by decide),b'.mono hg.size,d⟩⟩
def cfgOf (R:(Nat × Int) × RS):CfgD:=if R.1.1=0 then R.2.cfg else cfg0
theorem linesR_stop {look:Look}{k:Nat}{st:RS}{l:Bs}{ls:List Bs}(h:(lineR look st l).1≠0):linesR look k st (l :: ls)=(((lineR look st l).1,(k:Int)),st):=by rw[linesR,if_neg h]
theorem linesR_go {look:Look}{k:Nat}{st:RS}{l:Bs}{ls:List Bs}(h:(lineR look st l).1=0):linesR look k st (l :: ls)=linesR look (k+1) (lineR look st l).2 ls:=by rw[linesR,if_pos h]
theorem entsOwn_nil (w:World):∃ B',EntsOwn B' w (.slice none 0 0) cfg0.ents:=⟨0,EntsOwn.nil _ _⟩
theorem smallC_0:SmallC cfg0:=⟨by decide,fun e he=>by simp[cfg0] at he⟩
theorem fault_end {A:Nat->Addr}{w W:World}{R:(Nat × Int) × RS}{st:RS}{j fb:Nat}{k:Int}(hE:R=((j+1,k),st))(hj:j+1<=11)(hb:Below w.heap.size w W)(hrow:W.heap[fb]?=some (.cells #[.int .i64 k,errV A (j+1)] 141 (0,0))) :
  ∃ c sv ev,Ending.returned (.tuple #[.agg #[.int .i64 0,.int .i64 0,.int .i64 0,.int .i64 0,.slice none 0 0],.iface 137 (.pointer (some ⟨fb,0,none⟩))])=.returned (.tuple #[.agg #[.int .i64 c.closed,.int .i64 c.opn,.int .i64 c.cycle,.int .i64 c.delay,sv],ev])/\Below w.heap.size w W/\c=cfgOf R/\(∃ B',EntsOwn B' W sv c.ents)/\ErrAt A W ev R.1/\SmallC c:=by
 subst hE
 refine⟨cfg0,.slice none 0 0,_,rfl,hb,by unfold cfgOf;rw[if_neg (by simp)],entsOwn_nil _,⟨hj,Or.inr ⟨by simp,fb,rfl,?_,?_⟩⟩,smallC_0⟩
 ·unfold World.cell?;simp only;rw[hrow];rfl
 ·unfold World.cell?;simp only;rw[hrow];rfl
theorem fault_row {w w5:World}{o:Obj}(cs:Array Value)(hb:Below w.heap.size w w5)(hlt:w.heap.size < w5.heap.size):Below w.heap.size w ((w5.alloc o).setRow w.heap.size cs)/\((w5.alloc o).setRow w.heap.size cs).heap[w5.heap.size]?=some o:=by
 have hg:=grown_setRow (w5.alloc o) w.heap.size cs;have b1:Below w.heap.size w (w5.alloc o):=hb.alloc (by omega) _;exact⟨b1.grown hg b1.size (fun i hi=>by cases hi;exact Nat.le_refl _),(hg.block w5.heap.size (by simp) (by simp;omega)).trans (heap_alloc_new w5 _)⟩
theorem five_same {V:World}{b:Nat}(h:V.heap[b]?=some (.cells #[.int .i64 0,.int .i64 0,.int .i64 0,.int .i64 0,.slice none 0 0] 30 (0,0))) :
  ((((V.setCell ⟨b,0,none⟩ (.int .i64 0)).setCell ⟨b,1,none⟩ (.int .i64 0)).setCell ⟨b,2,none⟩ (.int .i64 0)).setCell ⟨b,3,none⟩ (.int .i64 0)).setCell ⟨b,4,none⟩ (.slice none 0 0)=V:=by
 rw[setCell_same (o:=0) (by simp[World.cell?,h]),setCell_same (o:=1) (by simp[World.cell?,h]),setCell_same (o:=2) (by simp[World.cell?,h]),setCell_same (o:=3) (by simp[World.cell?,h]),setCell_same (o:=4) (by simp[World.cell?,h])]
set_option maxHeartbeats 8000000 in
set_option maxRecDepth 100000 in
theorem lines_at (A:Nat->Addr)(w:World)(sa:Option Addr)(lines:List ByteArray)(sc:Nat)(hs:Sen6 A w)(hK:KwAt w)(hM:MxAt w)(hL:SlAt encS 1 w (.slice sa lines.length sc) lines)(hn:lines.length<=100000)(hz:∀ l∈lines,l.size<=1000000) :
  Calls Tryz.prog 102 #[.slice sa lines.length sc] w fun v w'=>∃ c sv ev,v=.returned (.tuple #[.agg #[.int .i64 c.closed,.int .i64 c.opn,.int .i64 c.cycle,.int .i64 c.delay,sv],ev])/\Below w.heap.size w w'/\c=cfgOf (linesR lookL 0 ⟨-1,cfg0⟩ (lines.map bl))/\(∃ B',EntsOwn B' w' sv c.ents)/\ErrAt A w' ev (linesR lookL 0 ⟨-1,cfg0⟩ (lines.map bl)).1/\SmallC c:=by
 have HL:Hid (SlAt encS 1 w (.slice sa lines.length sc) lines):=hL;have HN:Hid (lines.length<=100000/\∀ l∈lines,l.size<=1000000):=⟨hn,hz⟩;obtain⟨Wc,hWc⟩:∃ V,V=w.alloc (.cells #[.int .i64 0,.int .i64 0,.int .i64 0,.int .i64 0,.slice none 0 0] 30):=⟨_,rfl⟩;have HBc:Hid (Below w.heap.size w Wc):=by show Below _ _ _;rw[hWc];exact Below.one _ _
 have HSz:Hid (Wc.heap.size=w.heap.size+1):=by show _=_;rw[hWc];simp
 have HCr:Hid (Wc.heap[w.heap.size]?=some (.cells #[.int .i64 0,.int .i64 0,.int .i64 0,.int .i64 0,.slice none 0 0] 30 (0,0))):=by show _=_;rw[hWc];exact heap_alloc_new w _
 have HS:Hid (Sen6 A Wc/\KwAt Wc/\MxAt Wc):=⟨hs.below HBc.out,hK.below HBc.out (block_lt (hK 0 (by decide))),hM.below HBc.out⟩;have HW0:Hid (Sen6 A w):=hs;clear hs hK hM hL hn hz;go_enter Tryz.func102,Tryz.ntmps102
 go_upto_region 2 with fail
 rw[<- hWc];obtain⟨Wr,hWr⟩:∃ V,V=Wc.alloc (.cells #[.int .i64 0,.int .i64 0,.int .i64 0,.int .i64 0,.slice none 0 0,.int .i64 (-1),.map none] 234):=⟨_,rfl⟩;rw[<- hWr];obtain⟨rb,hrb⟩:∃ rb,rb=w.heap.size+1:=⟨_,rfl⟩;have HRb:Hid (rb=Wc.heap.size/\rb≠w.heap.size):=⟨by rw[hrb,HSz.out],by omega⟩;have HB0:Hid (Below Wc.heap.size Wc Wr):=by show Below _ _ _;rw[hWr];exact Below.one _ _
 have HR0:Hid (RdS Wc.heap.size rb Wr cfg0 (-1)):=Or.inl ⟨by rw[HRb.out.1];exact Nat.le_refl _,rfl,by rw[HRb.out.1,hWr];exact heap_alloc_new Wc _⟩;rw[<- hrb];clear hWc hWr hrb;go_wp2_with fail
 go_loopw [11,5,6,7] (fun i _ _ _ wr=>∃ (k:Nat) (st:RS),k<=lines.length/\i=.int .i64 k/\Below Wc.heap.size Wc wr/\RdS Wc.heap.size rb wr st.cfg st.last/\StOk k st.cfg st.last/\(∀ e∈st.cfg.ents,SmE e)/\linesR lookL 0 ⟨-1,cfg0⟩ (lines.map bl)=linesR lookL k st ((lines.drop k).map bl)) (fun i _ _ _ _=>lines.length - (intOf i).toNat)
 case atStart=>exact⟨0,⟨-1,cfg0⟩,Nat.zero_le _,rfl,HB0.out,HR0.out,⟨fun _=>rfl,fun h=>by simp at h,Nat.le_refl _,fun e he=>by simp[cfg0] at he⟩,fun e he=>by simp[cfg0] at he,rfl⟩
 case round=>
  clear HB0 HR0;obtain⟨k,st,hk,rfl,hbk,hrk,hok,hsm,hln⟩:=hrel;have HB:Hid (Below Wc.heap.size Wc wr):=hbk;have HR:Hid (RdS Wc.heap.size rb wr st.cfg st.last):=hrk;have HO:Hid (StOk k st.cfg st.last/\∀ e∈st.cfg.ents,SmE e):=⟨hok,hsm⟩;have HLn:Hid (linesR lookL 0 ⟨-1,cfg0⟩ (lines.map bl)=linesR lookL k st ((lines.drop k).map bl)):=hln;clear hbk hrk hok hsm hln
  by_cases hlt:k < lines.length
  ·have k1:(k:Int) < (lines.length:Int):=by omega
   have k2:k < 100000:=by have:=HN.out.1;omega
   obtain⟨l,hl⟩:∃ l,lines[k]?=some l:=⟨_,List.getElem?_eq_getElem hlt⟩;have HLz:Hid (l.size<=1000000):=HN.out.2 l (List.mem_of_getElem? hl);have HDr:Hid ((lines.drop k).map bl=bl l :: (lines.drop (k+1)).map bl):=by
    show _=_
    rw[List.drop_eq_getElem_cons hlt];rw[List.getElem?_eq_getElem hlt] at hl
    cases hl;rfl
   obtain⟨sa',cap',hsl,-,hcc⟩:=id HL.out
   cases hsl
   obtain⟨g,o,rfl,hc0⟩:=hcc (fun h=>by rw[h] at hl;simp at hl);have c0:wr.cell? ⟨g,o+k,none⟩=some (.string l):=by
    have:=cell_below (HBc.out.trans (HB.out.mono HBc.out.size)) (hc0 k _ hl 0 _ rfl);simpa using this
   clear hcc hc0 hl;go_wp2_with fail
   refine(lineR_at A Wc wr rb st.cfg st.last l HS.out.1 HS.out.2.1 HS.out.2.2 HB.out HR.out HLz.out ⟨HO.out.1.e0,HO.out.1.e3,Nat.le_trans HO.out.1.len (by omega),fun e he=>(HO.out.1.sz e he).mono (by omega)⟩).mono ?_;rintro v w5 ⟨rfl,hb5,hr5⟩;have HB5:Hid (Below Wc.heap.size Wc w5):=hb5;have HR5:Hid _:=hr5;clear hb5 hr5 c0 HR HB
   cases hcode:(lineR lookL ⟨st.last,st.cfg⟩ (bl l)).1 with
   | zero=>
    have HC:Hid ((lineR lookL ⟨st.last,st.cfg⟩ (bl l)).1=0):=hcode;clear hcode;rw[show errV A 0=.nilIface from rfl];go_wp2_with fail
    go_roundw
    case rel=>
     have hll:(bl l).length<=1000000:=by have:=HLz.out;have e:(bl l).length=l.size:=(by simp[bl]);omega
     obtain⟨s1,s2⟩:=stOk_step HO.out.1 HO.out.2 hll HC.out;exact⟨k+1,(lineR lookL ⟨st.last,st.cfg⟩ (bl l)).2,by omega,by go_num,HB5.out,HR5.out HC.out,s1,s2,by rw[HLn.out,HDr.out,linesR_go HC.out]⟩
    case measure=>simp[intOf];omega
   | succ j=>
    have HC:Hid ((lineR lookL ⟨st.last,st.cfg⟩ (bl l)).1=j+1):=hcode;have HE:Hid (linesR lookL 0 ⟨-1,cfg0⟩ (lines.map bl)=((j+1,(k:Int)),st)):=by
     show _=_
     rw[HLn.out,HDr.out,linesR_stop (by have:=HC.out;rw[this];simp),HC.out]
    have HJ:Hid (j+1<=11):=by show _<=_;have:=line_codes lookL ⟨st.last,st.cfg⟩ (bl l);rw[hcode] at this;omega
    clear hcode;have hrow5:=row_below HB5.out HCr.out;rw[show errV A (j+1)=.iface 400 (.pointer (some (A j))) from rfl];have HRow:Hid (∀ ob,(w5.alloc ob).heap[w.heap.size]?=some (.cells #[.int .i64 0,.int .i64 0,.int .i64 0,.int .i64 0,.slice none 0 0] 30 (0,0))):=fun ob=>row_below (Below.one _ _) hrow5
    clear hrow5;go_wp2_with (refine wpList_store_row rfl 30 _ _ rfl w.heap.size #[.int .i64 0,.int .i64 0,.int .i64 0,.int .i64 0,.slice none 0 0] rfl rfl 30 #[.int .i64 0,.int .i64 0,.int .i64 0,.int .i64 0,.slice none 0 0] (HRow.out _) Tryz.sizeCfg rfl (by simp[Value.oneCell']) ?_)
    refine bodyPost_ret (results_cfg rfl _ _ w.heap.size _ _ _ _ _ rfl (heap_setRow _ (HRow.out _))) rfl ?_;have hfr:=fault_row (o:=.cells #[.int .i64 (k:Int),errV A (j+1)] 141) #[.int .i64 0,.int .i64 0,.int .i64 0,.int .i64 0,.slice none 0 0] (HBc.out.trans (HB5.out.mono HBc.out.size)) (by have:=HB5.out.size;have:=HSz.out;omega);exact fault_end HE.out HJ.out hfr.1 hfr.2
  ·have k1:¬(k:Int) < (lines.length:Int):=by omega
   obtain rfl:k=lines.length:=by omega
   have HLe:Hid (linesR lookL 0 ⟨-1,cfg0⟩ (lines.map bl)=linesR lookL lines.length st []):=by show _=_;have:=HLn.out;rw[List.drop_length] at this;exact this
   obtain⟨ev,mv,cells,hA⟩:=HR.out.toA;have HA:Hid (RdA Wc.heap.size rb wr st.cfg st.last ev mv st.cfg.ents cells):=hA;have hrow:=hA.row;have HRow:Hid (∀ V,Below wr.heap.size wr V->V.heap[w.heap.size]?=some (.cells #[.int .i64 0,.int .i64 0,.int .i64 0,.int .i64 0,.slice none 0 0] 30 (0,0))):=fun V hV=>row_below hV (row_below HB.out HCr.out)
   have r5:wr.cell? ⟨rb,5,none⟩=some (.int .i64 st.last):=by simp[World.cell?,hrow,rdRow]
   by_cases hl2:st.last < 2
   ·have HE:Hid (linesR lookL 0 ⟨-1,cfg0⟩ (lines.map bl)=((1,(lines.length:Int)),st)):=by show _=_;rw[HLe.out,linesR,if_pos hl2]
    have sen:=(HS.out.1.below HB.out).c0;clear hA hrow;have zz:=HRow.out wr (Below.refl _ _);have z0:wr.cell? ⟨w.heap.size,0,none⟩=some (.int .i64 0):=by simp[World.cell?,zz]
    have z1:wr.cell? ⟨w.heap.size,1,none⟩=some (.int .i64 0):=by simp[World.cell?,zz]
    have z2:wr.cell? ⟨w.heap.size,2,none⟩=some (.int .i64 0):=by simp[World.cell?,zz]
    have z3:wr.cell? ⟨w.heap.size,3,none⟩=some (.int .i64 0):=by simp[World.cell?,zz]
    have z4:wr.cell? ⟨w.heap.size,4,none⟩=some (.slice none 0 0):=by simp[World.cell?,zz]
    have f0:wr.frozen? ⟨w.heap.size,0,none⟩=false:=by simp[World.frozen?,zz]
    have f1:wr.frozen? ⟨w.heap.size,1,none⟩=false:=by simp[World.frozen?,zz]
    have f2:wr.frozen? ⟨w.heap.size,2,none⟩=false:=by simp[World.frozen?,zz]
    have f3:wr.frozen? ⟨w.heap.size,3,none⟩=false:=by simp[World.frozen?,zz]
    have f4:wr.frozen? ⟨w.heap.size,4,none⟩=false:=by simp[World.frozen?,zz]
    have ne1:¬w.heap.size=1:=by
     have h1:=block_lt HW0.out.c0;have h2:1 < w.heap.size:=h1;omega
    have ne2:¬1=w.heap.size:=fun e=>ne1 e.symm
    have y0:∀ ob,(wr.alloc ob).cell? ⟨w.heap.size,0,none⟩=some (.int .i64 0):=fun ob=>by simp[World.cell?,HRow.out _ (Below.one wr ob)]
    have g0:∀ ob,(wr.alloc ob).frozen? ⟨w.heap.size,0,none⟩=false:=fun ob=>by simp[World.frozen?,HRow.out _ (Below.one wr ob)]
    have y1:∀ ob,(wr.alloc ob).cell? ⟨w.heap.size,1,none⟩=some (.int .i64 0):=fun ob=>by simp[World.cell?,HRow.out _ (Below.one wr ob)]
    have g1:∀ ob,(wr.alloc ob).frozen? ⟨w.heap.size,1,none⟩=false:=fun ob=>by simp[World.frozen?,HRow.out _ (Below.one wr ob)]
    have y2:∀ ob,(wr.alloc ob).cell? ⟨w.heap.size,2,none⟩=some (.int .i64 0):=fun ob=>by simp[World.cell?,HRow.out _ (Below.one wr ob)]
    have g2:∀ ob,(wr.alloc ob).frozen? ⟨w.heap.size,2,none⟩=false:=fun ob=>by simp[World.frozen?,HRow.out _ (Below.one wr ob)]
    have y3:∀ ob,(wr.alloc ob).cell? ⟨w.heap.size,3,none⟩=some (.int .i64 0):=fun ob=>by simp[World.cell?,HRow.out _ (Below.one wr ob)]
    have g3:∀ ob,(wr.alloc ob).frozen? ⟨w.heap.size,3,none⟩=false:=fun ob=>by simp[World.frozen?,HRow.out _ (Below.one wr ob)]
    have y4:∀ ob,(wr.alloc ob).cell? ⟨w.heap.size,4,none⟩=some (.slice none 0 0):=fun ob=>by simp[World.cell?,HRow.out _ (Below.one wr ob)]
    have g4:∀ ob,(wr.alloc ob).frozen? ⟨w.heap.size,4,none⟩=false:=fun ob=>by simp[World.frozen?,HRow.out _ (Below.one wr ob)]
    clear zz;go_wp2_with fail
    go_region
    all_goals
     clear y0 y1 y2 y3 y4 g0 g1 g2 g3 g4 z0 z1 z2 z3 z4 f0 f1 f2 f3 f4 ne1 ne2 sen r5
     first | rw[five_same (HRow.out _ (Below.one _ _))] | rw[five_same (HRow.out _ (Below.refl _ _))]
     go_wp2
     refine bodyPost_ret (results_cfg rfl _ _ w.heap.size _ _ _ _ _ rfl (HRow.out _ (Below.one _ _).drew)) rfl ?_;have b1:=HBc.out.trans (HB.out.mono HBc.out.size);exact fault_end HE.out (by decide) (b1.trans (((Below.one wr _).drew).mono b1.size)) (heap_alloc_new wr _)
   ·have HE:Hid (linesR lookL 0 ⟨-1,cfg0⟩ (lines.map bl)=((0,-1),st)):=by show _=_;rw[HLe.out,linesR,if_neg hl2]
    have r0:wr.cell? ⟨rb,0,none⟩=some (.int .i64 st.cfg.closed):=by simp[World.cell?,hrow,rdRow]
    have r1:wr.cell? ⟨rb,1,none⟩=some (.int .i64 st.cfg.opn):=by simp[World.cell?,hrow,rdRow]
    have r2:wr.cell? ⟨rb,2,none⟩=some (.int .i64 st.cfg.cycle):=by simp[World.cell?,hrow,rdRow]
    have r3:wr.cell? ⟨rb,3,none⟩=some (.int .i64 st.cfg.delay):=by simp[World.cell?,hrow,rdRow]
    have r4:wr.cell? ⟨rb,4,none⟩=some ev:=by simp[World.cell?,hrow,rdRow]
    obtain⟨va,vc,rfl⟩:=own_formR hA.ents;clear hA hrow;go_wp2_with (refine wpList_store_row rfl 30 _ _ rfl w.heap.size #[.int .i64 st.cfg.closed,.int .i64 st.cfg.opn,.int .i64 st.cfg.cycle,.int .i64 st.cfg.delay,.slice va st.cfg.ents.length vc] rfl rfl 30 #[.int .i64 0,.int .i64 0,.int .i64 0,.int .i64 0,.slice none 0 0] (HRow.out _ (Below.refl _ _)) Tryz.sizeCfg rfl (by simp[Value.oneCell']) ?_)
    refine bodyPost_ret (results_cfg rfl _ _ w.heap.size _ _ _ _ _ rfl (heap_setRow _ (HRow.out _ (Below.refl _ _)))) rfl ?_
    refine⟨st.cfg,.slice va st.cfg.ents.length vc,.nilIface,rfl,?_,by rw[HE.out];rfl,?_,by rw[HE.out];exact⟨by simp,Or.inl ⟨rfl,rfl⟩⟩,⟨Nat.le_trans HO.out.1.len (by have:=HN.out.1;omega),fun e he=>?_⟩⟩
    ·have b1:=HBc.out.trans (HB.out.mono HBc.out.size);exact b1.grown (grown_setRow _ _ _) b1.size (fun j hj=>by cases hj;exact Nat.le_refl _)
    ·exact⟨_,(HA.out.other (grown_setRow _ _ _) (HRow.out _ (Below.refl _ _)) HRb.out.2).entsOwn⟩
    ·obtain⟨a,b⟩:=HO.out.2 e he;have sz:=(HO.out.1.sz e he).mono (m:=1000000) (by have:=HN.out.1;omega);exact⟨a,sz.p,b,sz.g,sz.d,sz.f,sz.l⟩
theorem trim_suffix (l:List UInt8):Lib.trimSuffix l [10]=trim l:=by
 unfold Lib.trimSuffix trim;have hs:Lib.hasSuffix l [10]=true ↔ l.getLast?=some 10:=by
  unfold Lib.hasSuffix;rw[List.isSuffixOf_iff_suffix]
  constructor
  ·rintro⟨t,rfl⟩;simp
  ·intro h;have hne:l≠[]:=fun e=>by subst e;simp at h
   rw[List.getLast?_eq_some_getLast hne] at h;have e2:=List.dropLast_concat_getLast hne;rw[Option.some.inj h] at e2;exact⟨_,e2⟩
 by_cases h:l.getLast?=some 10
 ·rw[if_pos h,if_pos (hs.2 h)];rw[List.dropLast_eq_take];rfl
 ·rw[if_neg h,if_neg (fun e=>h (hs.1 e))]
theorem lines_of (s sep:ByteArray)(hsep:sep.data.toList=[10]):(Lib.splitB sep 0 (Lib.countB s sep) s).map bl=cutBy 10 (bl s)/\(Lib.splitB sep 0 (Lib.countB s sep) s).length=Lib.countB s sep+1:=
 ⟨splitB_one 10 s sep hsep,Lib.splitB_all sep (by rw[<- ByteArray.size_data,<- Array.length_toList,hsep];decide) 0 _ s rfl⟩
theorem setRow_same {w:World}{b:Nat}{cs:Array Value}{T:TypeId}{fr:Nat × Nat}(h:w.heap[b]?=some (.cells cs T fr)):w.setRow b cs=w:=by
 have hh:(w.setRow b cs).heap=w.heap:=by
  apply Array.ext_getElem?
  intro i
  by_cases e:i=b
  ·subst e;rw[heap_setRow cs h,h]
  ·simp only[World.setRow,Array.getElem?_modify];rw[if_neg (fun e2=>e e2.symm)]
 cases w
 simp only[World.setRow] at hh ⊢;rw[hh]
set_option maxHeartbeats 8000000 in
set_option maxRecDepth 100000 in
theorem read_at (A:Nat->Addr)(s:ByteArray)(w:World)(hs:Sen6 A w)(hK:KwAt w)(hM:MxAt w)(hn:s.size<=9223372036854775807) :
  Calls Tryz.prog 46 #[.string s] w fun v w'=>∃ c sv ev,v=.returned (.tuple #[.agg #[.int .i64 c.closed,.int .i64 c.opn,.int .i64 c.cycle,.int .i64 c.delay,sv],ev])/\Below w.heap.size w w'/\c=(readR lookL (bl s)).2/\(∃ B',EntsOwn B' w' sv c.ents)/\ErrAt A w' ev (readR lookL (bl s)).1/\SmallC c:=by
 have hbl:(bl s).length=s.size:=by simp[bl]
 obtain⟨Wc,hWc⟩:∃ V,V=w.alloc (.cells #[.int .i64 0,.int .i64 0,.int .i64 0,.int .i64 0,.slice none 0 0] 30):=⟨_,rfl⟩;have HBc:Hid (Below w.heap.size w Wc):=by show Below _ _ _;rw[hWc];exact Below.one _ _
 have HSz:Hid (Wc.heap.size=w.heap.size+1):=by show _=_;rw[hWc];simp
 have HRow:Hid (∀ V,Below Wc.heap.size Wc V->V.heap[w.heap.size]?=some (.cells #[.int .i64 0,.int .i64 0,.int .i64 0,.int .i64 0,.slice none 0 0] 30 (0,0))):=fun V hV=>row_below hV (by rw[hWc];exact heap_alloc_new w _)
 have HS:Hid (Sen6 A Wc/\KwAt Wc/\MxAt Wc):=⟨hs.below HBc.out,hK.below HBc.out (block_lt (hK 0 (by decide))),hM.below HBc.out⟩;have hg1:0 < w.heap.size:=block_lt hs.c1
 by_cases hl:8000 < s.size
 ·have HE:Hid (readR lookL (bl s)=((2,-1),cfg0)):=by show _=_;unfold readR;rw[if_pos (by omega)]
  have l1:(8000:Int) < (s.size:Int):=by omega
  have sen:=HS.out.1.c1;have zz:=HRow.out Wc (Below.refl _ _);have ne1:¬w.heap.size=0:=by omega
  have ne2:¬0=w.heap.size:=by omega
  have z0:Wc.cell? ⟨w.heap.size,0,none⟩=some (.int .i64 0):=by simp[World.cell?,zz]
  have f0:Wc.frozen? ⟨w.heap.size,0,none⟩=false:=by simp[World.frozen?,zz]
  have z1:Wc.cell? ⟨w.heap.size,1,none⟩=some (.int .i64 0):=by simp[World.cell?,zz]
  have f1:Wc.frozen? ⟨w.heap.size,1,none⟩=false:=by simp[World.frozen?,zz]
  have z2:Wc.cell? ⟨w.heap.size,2,none⟩=some (.int .i64 0):=by simp[World.cell?,zz]
  have f2:Wc.frozen? ⟨w.heap.size,2,none⟩=false:=by simp[World.frozen?,zz]
  have z3:Wc.cell? ⟨w.heap.size,3,none⟩=some (.int .i64 0):=by simp[World.cell?,zz]
  have f3:Wc.frozen? ⟨w.heap.size,3,none⟩=false:=by simp[World.frozen?,zz]
  have z4:Wc.cell? ⟨w.heap.size,4,none⟩=some (.slice none 0 0):=by simp[World.cell?,zz]
  have f4:Wc.frozen? ⟨w.heap.size,4,none⟩=false:=by simp[World.frozen?,zz]
  clear zz hg1 hs hK hM;go_enter Tryz.func46,Tryz.ntmps46
  go_upto_region 1 with fail
  rw[<- hWc];clear hWc;go_wp2_with fail
  go_region
  all_goals
   clear z0 z1 z2 z3 z4 f0 f1 f2 f3 f4 ne1 ne2 sen;rw[five_same (HRow.out _ (Below.refl _ _))];go_wp2
   refine bodyPost_ret (results_cfg rfl _ _ w.heap.size _ _ _ _ _ rfl (HRow.out _ (Below.refl _ _).drew)) rfl ?_
   refine⟨cfg0,.slice none 0 0,errV A 2,rfl,HBc.out.drew,by rw[HE.out],entsOwn_nil _,by rw[HE.out];exact⟨by simp,Or.inl ⟨rfl,rfl⟩⟩,smallC_0⟩
 ·obtain⟨st,hst⟩:∃ st:ByteArray,st=⟨(Lib.trimSuffix s.data.toList [10]).toArray⟩:=⟨_,rfl⟩;have hbt:bl st=trim (bl s):=by rw[hst,bl_mk,trim_suffix];rfl
  obtain⟨lines,hlines⟩:∃ L,L=Lib.splitB ⟨#[10]⟩ 0 (Lib.countB st ⟨#[10]⟩) st:=⟨_,rfl⟩;obtain⟨e1,e2⟩:=lines_of st ⟨#[10]⟩ rfl;rw[<- hlines] at e1 e2;have htl:(trim (bl s)).length<=8000:=by
   unfold trim
   split
   ·simp;omega
   ·omega
  have hstz:st.size<=8000:=by
   have:(bl st).length=st.size:=by simp[bl]
   rw[hbt] at this;omega
  have HT:Hid (Calls Tryz.prog 104 #[.string s,.string ⟨#[10]⟩] Wc fun e w'=>e=.returned (.string st)/\w'=Wc):=by
   rw[hst];exact Tryz.strings_TrimSuffix s ⟨#[10]⟩ Wc hn
  have HSp:Hid (Calls Tryz.prog 103 #[.string st,.string ⟨#[10]⟩] Wc fun e w'=>e=.returned (.slice (some ⟨Wc.heap.size,0,none⟩) lines.length lines.length)/\w'=Wc.alloc (.cells (lines.map Value.string).toArray 9)):=by
   have:=split_at st ⟨#[10]⟩ Wc HS.out.2.2 (by omega) (by decide);rw[<- hlines,<- e2] at this;exact this
  have HRd:Hid (∀ w1,Below Wc.heap.size Wc w1->w1.heap[Wc.heap.size]?=some (.cells (lines.map Value.string).toArray 9 (0,0))->Calls Tryz.prog 102 #[.slice (some ⟨Wc.heap.size,0,none⟩) lines.length lines.length] w1 _):=fun w1 hb hrow=>lines_at A w1 (some ⟨Wc.heap.size,0,none⟩) lines lines.length (HS.out.1.below hb) (HS.out.2.1.below hb (block_lt (HS.out.2.1 0 (by decide)))) (HS.out.2.2.below hb) ⟨_,_,rfl,Nat.le_refl _,fun _=>⟨Wc.heap.size,0,rfl,fun i x hx j u hu=>by
   match j,hu with
   | 0,hu=>
    simp[encS] at hu
    subst hu;simp[World.cell?,hrow,hx]
   | j+1,hu=>simp[encS] at hu⟩⟩ (by
    have h1:=(cut_sizes 10 (trim (bl s))).2;rw[<- hbt,<- e1,List.length_map,hbt] at h1;omega) (fun l hl=>by
    have h1:=cut_size 10 (bl st) (bl l) (by rw[<- e1];exact List.mem_map_of_mem (f:=bl) hl);have h2:(bl l).length=l.size:=by simp[bl]
    rw[hbt] at h1;omega)
  have HRr:Hid (readR lookL (bl s)=if (linesR lookL 0 ⟨-1,cfg0⟩ (lines.map bl)).1.1=0 then (if (cfgErr (linesR lookL 0 ⟨-1,cfg0⟩ (lines.map bl)).2.cfg).1=0 then ((0,-1),(linesR lookL 0 ⟨-1,cfg0⟩ (lines.map bl)).2.cfg) else (cfgErr (linesR lookL 0 ⟨-1,cfg0⟩ (lines.map bl)).2.cfg,cfg0)) else ((linesR lookL 0 ⟨-1,cfg0⟩ (lines.map bl)).1,cfg0)):=by
   show _=_
   unfold readR;rw[if_neg (by omega),e1,hbt]
  have l1:¬(8000:Int) < (s.size:Int):=by omega
  clear hs hK hM hg1 hst hbt hlines e1 e2 htl hstz hbl;go_enter Tryz.func46,Tryz.ntmps46
  go_upto_region 1 with fail
  rw[<- hWc];clear hWc;go_wp2_with fail
  refine Calls.mono HT.out ?_;rintro v w1 ⟨rfl,hw1⟩
  cases hw1
  go_wp2_with fail
  refine Calls.mono HSp.out ?_;rintro v w1 ⟨rfl,hw1⟩;have HB1:Hid (Below Wc.heap.size Wc w1):=by show Below _ _ _;rw[hw1];exact Below.one _ _
  have HC1:Hid (w1.heap[Wc.heap.size]?=some (.cells (lines.map Value.string).toArray 9 (0,0))):=by show _=_;rw[hw1];exact heap_alloc_new Wc _
  clear hw1 HT HSp;go_wp2_with fail
  refine Calls.mono (HRd.out w1 HB1.out HC1.out) ?_;rintro v w2 ⟨c,sv,ev,rfl,hb2,hc,hE,hErr,hSm⟩;obtain⟨B',hE⟩:=hE;obtain⟨va,vc,rfl,-⟩:=id hE.ents;have HB2:Hid (Below Wc.heap.size Wc w2):=HB1.out.trans (hb2.mono HB1.out.size);have HC:Hid (c=cfgOf (linesR lookL 0 ⟨-1,cfg0⟩ (lines.map bl))):=hc;have HE:Hid (EntsOwn B' w2 (.slice va c.ents.length vc) c.ents/\SmallC c):=⟨hE,hSm⟩;have HErr:Hid (ErrAt A w2 ev (linesR lookL 0 ⟨-1,cfg0⟩ (lines.map bl)).1):=hErr;clear hb2 hc hE hErr hSm HRd HB1 HC1
  by_cases h0:(linesR lookL 0 ⟨-1,cfg0⟩ (lines.map bl)).1.1=0
  ·have hev:=HErr.out.nil h0;subst hev;have HCc:Hid (c=(linesR lookL 0 ⟨-1,cfg0⟩ (lines.map bl)).2.cfg):=by show _=_;rw[HC.out];unfold cfgOf;rw[if_pos h0]
   have HRr2:Hid (readR lookL (bl s)=if (cfgErr c).1=0 then ((0,-1),c) else (cfgErr c,cfg0)):=by show _=_;rw[HRr.out,if_pos h0,HCc.out]
   clear h0 HErr HRr;obtain⟨V,hV⟩:∃ V,V=w2.alloc (.cells #[.int .i64 c.closed,.int .i64 c.opn,.int .i64 c.cycle,.int .i64 c.delay,.slice va c.ents.length vc] 30):=⟨_,rfl⟩;have HBV:Hid (Below Wc.heap.size Wc V):=by show Below _ _ _;rw[hV];exact HB2.out.trans ((Below.one _ _).mono HB2.out.size)
   have HV4:Hid (∀ X,Below V.heap.size V X->X.heap[w2.heap.size]?=some (.cells #[.int .i64 c.closed,.int .i64 c.opn,.int .i64 c.cycle,.int .i64 c.delay,.slice va c.ents.length vc] 30 (0,0))):=fun X hX=>row_below hX (by rw[hV];exact heap_alloc_new w2 _)
   have HEV:Hid (EntsOwn B' V (.slice va c.ents.length vc) c.ents):=by show EntsOwn _ _ _ _;rw[hV];exact HE.out.1.below (Below.one _ _)
   go_upto_region 5 with fail
   rw[<- hV];clear hV;go_wp2_with (refine wpList_load_row rfl 30 _ rfl w2.heap.size rfl _ _ _ _ (HV4.out _ (Below.refl _ _)) Tryz.underlying30 rfl Tryz.sizeCfg ?_)
   refine(check_at A c va vc V (HS.out.1.below HBV.out) HEV.out.ents HE.out.2).mono ?_;rintro v w4 ⟨r,rfl,he,hb4⟩;have HB4:Hid (Below V.heap.size V w4):=hb4;have HB4c:Hid (Below Wc.heap.size Wc w4):=HBV.out.trans (hb4.mono HBV.out.size);have HEr:Hid (ErrAt A w4 r (cfgErr c)):=he;clear he hb4
   by_cases h1:(cfgErr c).1=0
   ·have hr:=HEr.out.nil h1;subst hr;have HRr3:Hid (readR lookL (bl s)=((0,-1),c)):=by show _=_;rw[HRr2.out,if_pos h1]
    clear h1 HRr2;go_wp2_with (first | (refine wpList_load_row rfl 30 _ rfl w2.heap.size rfl _ _ _ _ (HV4.out _ HB4.out) Tryz.underlying30 rfl Tryz.sizeCfg ?_) | (refine wpList_store_row rfl 30 _ _ rfl w.heap.size #[.int .i64 c.closed,.int .i64 c.opn,.int .i64 c.cycle,.int .i64 c.delay,.slice va c.ents.length vc] rfl rfl 30 #[.int .i64 0,.int .i64 0,.int .i64 0,.int .i64 0,.slice none 0 0] (HRow.out _ HB4c.out) Tryz.sizeCfg rfl (by simp[Value.oneCell']) ?_))
    refine bodyPost_ret (results_cfg rfl _ _ w.heap.size _ _ _ _ _ rfl (heap_setRow _ (HRow.out _ HB4c.out))) rfl ?_;have b1:=HBc.out.trans (HB4c.out.mono HBc.out.size)
    refine⟨c,.slice va c.ents.length vc,.nilIface,rfl,b1.grown (grown_setRow _ _ _) b1.size (fun j hj=>by cases hj;exact Nat.le_refl _),by rw[HRr3.out],⟨B',(HEV.out.below HB4.out).other (grown_setRow _ _ _) (HRow.out _ HB4c.out)⟩,by rw[HRr3.out];exact⟨by simp,Or.inl ⟨rfl,rfl⟩⟩,HE.out.2⟩
   ·obtain⟨et,ex,he⟩:=HEr.out.some h1;subst he;have HRr3:Hid (readR lookL (bl s)=(cfgErr c,cfg0)):=by show _=_;rw[HRr2.out,if_neg h1]
    clear h1 HRr2;go_wp2_with (refine wpList_store_row rfl 30 _ _ rfl w.heap.size #[.int .i64 0,.int .i64 0,.int .i64 0,.int .i64 0,.slice none 0 0] rfl rfl 30 #[.int .i64 0,.int .i64 0,.int .i64 0,.int .i64 0,.slice none 0 0] (HRow.out _ HB4c.out) Tryz.sizeCfg rfl (by simp[Value.oneCell']) ?_)
    rw[setRow_same (HRow.out _ HB4c.out)]
    refine bodyPost_ret (results_cfg rfl _ _ w.heap.size _ _ _ _ _ rfl (HRow.out _ HB4c.out)) rfl ?_;exact⟨cfg0,.slice none 0 0,_,rfl,HBc.out.trans (HB4c.out.mono HBc.out.size),by rw[HRr3.out],entsOwn_nil _,by rw[HRr3.out];exact HEr.out,smallC_0⟩
  ·obtain⟨et,ex,he⟩:=HErr.out.some h0;subst he;have HRr2:Hid (readR lookL (bl s)=((linesR lookL 0 ⟨-1,cfg0⟩ (lines.map bl)).1,cfg0)):=by show _=_;rw[HRr.out,if_neg h0]
   clear h0;go_wp2_with (refine wpList_store_row rfl 30 _ _ rfl w.heap.size #[.int .i64 0,.int .i64 0,.int .i64 0,.int .i64 0,.slice none 0 0] rfl rfl 30 #[.int .i64 0,.int .i64 0,.int .i64 0,.int .i64 0,.slice none 0 0] (HRow.out _ (HB2.out.trans ((Below.one _ _).mono HB2.out.size))) Tryz.sizeCfg rfl (by simp[Value.oneCell']) ?_)
   rw[setRow_same (HRow.out _ (HB2.out.trans ((Below.one _ _).mono HB2.out.size)))]
   refine bodyPost_ret (results_cfg rfl _ _ w.heap.size _ _ _ _ _ rfl (HRow.out _ (HB2.out.trans ((Below.one _ _).mono HB2.out.size)))) rfl ?_;have b1:=HBc.out.trans (HB2.out.mono HBc.out.size);exact⟨cfg0,.slice none 0 0,_,rfl,b1.trans ((Below.one _ _).mono b1.size),by rw[HRr2.out],entsOwn_nil _,by rw[HRr2.out];exact HErr.out.below (Below.one _ _),smallC_0⟩
end Go.Proofs.YtffpcbdlbcjihadGreatDoor
