/-
  Several texts as one: LdBase, CellsSt, Four, CellsOps, CellsMore, RingSum.
-/
import Derived.Test.YtffpcbdlbcjihadGreatDoorP02S
import Derived.Test.YtffpcbdlbcjihadGreatDoorRows
import Derived.Lib.LaidTab
import Derived.LaidLaws
import Derived.LaidHandle
import Derived.LaidMore
import Derived.BigQuiet
import Derived.Deep.QuietTactic
import Derived.WalkSmall
import Derived.Laws.IdiomStrings
import Derived.Laws.BitsAllLaws
namespace Go.Proofs.YtffpcbdlbcjihadGreatDoor
open Go.RowKit Go.ChangeShapes
def sentList (l : List (String × List UInt8)) : List (String × DataW Unit) := l.map fun x => (x.1, .iface "*errors.errorString" (.ptr (.agg [.lit (.string x.2)])))
theorem sents {P:Program}{W:World}{ti tp te ts:TypeId}{ms:Array (String × TypeId)}{f:Field}
  (hi : P.underlying ti = some (.interface ms)) (hrow : ∀ u, P.typeName? 3 u = some "*errors.errorString" → u = tp)
  (hp:P.underlying tp=some (.pointer te)) (he:P.underlying te=some (.struct #[f])) (hft:f.type=ts) (hfo:f.offset=0) (hs:P.underlying ts=some .string) (hc:P.cellsOf te=1) (hcs:P.cellsOf ts=1) :
  ∀ (l:List (String × List UInt8)) (ps:List MemPlace),(∀ x,x∈l->∃ g,P.globalNamed x.1=some g/\(P.globals[g]?).map (·.type)=some ti)->DataW.LaidVars P W (sentList l) ps->ps.Nodup ->
   (∀ b off,MemPlace.cell b off∈ps->(∃ c t,W.heap[b]?=some (.cells c t (0,0)))/\∀ u v,W.cell? ⟨b,off,none⟩=some (.iface u v)->Value.okWide P W .any 0 u v) ->
   ∃ A:Nat->Addr,(∀ i x,l[i]?=some x->W.var? P x.1=some #[.iface tp (.pointer (some (A i)))])/\(∀ i,i < l.length->∃ c t,W.heap[(A i).block]?=some (.cells c t (0,0))) /\
    (∀ i,i < l.length->MemPlace.cell (A i).block (A i).off∈ps)/\(∀ i j,i < l.length->j < l.length->i≠j->A i≠A j)/\∀ i x,l[i]?=some x->W.cell? (A i)=some (.string ⟨x.2.toArray⟩):=by
 intro l
 induction l with
 | nil=>exact fun ps _ _ _ _=>⟨fun _=>⟨0,0,none⟩,fun i x h=>by simp at h,fun i h=>by simp at h,fun i h=>by simp at h,fun i j h=>by simp at h,fun i x h=>by simp at h⟩
 | cons x r ih=>
  intro ps hg hl hnd hrows;obtain⟨n,text⟩:=x;obtain⟨g,t,cs,fuel,p,q,hg0,ht0,hv0,hd0,hq,rfl⟩:=hl;obtain⟨g',hg1,ht1⟩:=hg (n,text) (List.mem_cons_self ..);obtain rfl:=Option.some.inj (hg1.symm.trans hg0);obtain rfl:=Option.some.inj (ht1.symm.trans ht0);obtain⟨lc⟩:=cs;have ok0:∀ u v,lc=[.iface u v]->Value.okWide P W .any 0 u v:=fun u v e=>by
   subst e;exact(hrows g' 0 (by simp[MemPlace.row])).2 u v (by simpa using World.var?_cell hg0 hv0 0)
  obtain⟨a0,s0,rfl,hc0,hs0,hz0,rfl⟩:=errorString_of_trod hi hrow hp he hft hfo hs hc hcs hd0 ok0;obtain⟨A,v,b,m,d,tx⟩:=ih q (fun y hy=>hg y (List.mem_cons_of_mem _ hy)) hq (List.Nodup.sublist (List.sublist_append_right _ _) hnd) (fun b off hm=>hrows b off (List.mem_append_right _ hm));have h0m:∀ i,i < r.length->a0≠A i:=fun i hi e=>by
   have hm:=m i hi;rw[<- e] at hm;have:=List.nodup_append.1 hnd;exact this.2.2 _ (List.mem_append_right _ (by simp[MemPlace.row])) _ hm rfl
  refine⟨fun i=>match i with | 0=>a0 | i+1=>A i,fun i y hy=>?_,fun i hi=>?_,fun i hi=>?_,fun i j hi hj hne=>?_,fun i y hy=>?_⟩
  ·cases i with
   | zero=>simp only[List.getElem?_cons_zero,Option.some.injEq] at hy;subst hy;exact hv0
   | succ i=>exact v i y (by simpa using hy)
  ·cases i with
   | zero=>exact(hrows a0.block a0.off (by simp[MemPlace.row])).1
   | succ i=>exact b i (by simpa using hi)
  ·cases i with
   | zero=>exact List.mem_append_left _ (List.mem_append_right _ (by simp[MemPlace.row]))
   | succ i=>exact List.mem_append_right _ (m i (by simpa using hi))
  ·cases i with
   | zero=>
    cases j with
    | zero=>exact absurd rfl hne
    | succ j=>exact h0m j (by simpa using hj)
   | succ i=>
    cases j with
    | zero=>exact fun e=>h0m i (by simpa using hi) e.symm
    | succ j=>exact d i j (by simpa using hi) (by simpa using hj) (by omega)
  ·cases i with
   | zero=>
    simp only[List.getElem?_cons_zero,Option.some.injEq] at hy;subst hy;rw[hc0];obtain⟨⟨z⟩⟩:=s0;subst hs0;rfl
   | succ i=>exact tx i y (by simpa using hy)
theorem own:ownKnob Tryz.prog.godebug=none:=by kernel_rfl
theorem Tryz.g0 : Tryz.prog.globalNamed "nightwatch/api.ErrText" = some 1 := by kernel_rfl
theorem Tryz.g1 : Tryz.prog.globalNamed "nightwatch/api.ErrBound" = some 0 := by kernel_rfl
theorem Tryz.g2 : Tryz.prog.globalNamed "nightwatch/api.ErrShape" = some 2 := by kernel_rfl
theorem Tryz.g3 : Tryz.prog.globalNamed "nightwatch/api.ErrName" = some 3 := by kernel_rfl
theorem Tryz.g4 : Tryz.prog.globalNamed "nightwatch/api.ErrNone" = some 4 := by kernel_rfl
theorem Tryz.g5 : Tryz.prog.globalNamed "nightwatch/api.ErrExist" = some 5 := by kernel_rfl
theorem star : "*" ++ "errors.errorString" = "*errors.errorString" := by decide
theorem Tryz.oneErr (u : TypeId) (h : Tryz.prog.typeName? 3 u = some "*errors.errorString") : u = 400 :=
 typeName_ptr_named (nm := "errors.errorString") (by rw [star]; kernel_rfl) (by kernel_rfl) (by decide) u (by rw [star]; exact h)
theorem Tryz.cellsES:Tryz.prog.cellsOf 402=1:=by kernel_rfl
theorem Tryz.cellsStr:Tryz.prog.cellsOf 9=1:=by kernel_rfl
theorem laidVars_split {P:Program}{W:World}:∀ (a b:List (String × DataW Unit)) (ps:List MemPlace),DataW.LaidVars P W (a++b) ps->∃ p q,ps=p++q/\DataW.LaidVars P W a p/\DataW.LaidVars P W b q
 | [],b,ps,h=>⟨[],ps,rfl,rfl,h⟩
 | (n,d) :: a,b,ps,h=>by
  obtain⟨g,t,cs,fuel,p,q,hg0,ht0,hv0,hd0,hq,rfl⟩:=h;obtain⟨p1,q1,rfl,h1,h2⟩:=laidVars_split a b q hq;exact⟨MemPlace.row ⟨g,0,none⟩ cs.size++p++p1,q1,by simp[List.append_assoc],⟨g,t,cs,fuel,p,p1,hg0,ht0,hv0,hd0,h1,rfl⟩,h2⟩
theorem cells_of_strs {H:Type}{enc:TypeId × Value->H}{P:Program}{w:World}{base:Nat}{sp:Nat->Bool}{held:Bool}{fuel:Nat}{t e:TypeId}{n:Nat}{cs:List Value}{zs:List (List UInt8)}{p:List MemPlace}
  (ht:P.underlying t=some (.array n e)) (he:P.underlying e=some .string) (hce:P.cellsOf e=1) (hct:P.cellsOf t=n)
  (h:DataW.trod enc P w base sp held fuel t cs=some (.agg (zs.map fun z=>.lit (.string z)),p)):cs=zs.map fun z=>Value.string ⟨z.toArray⟩:=by
 cases fuel with
 | zero=>simp[DataW.trod] at h
 | succ fuel=>
  simp only[DataW.trod,ht,hce,hct,Nat.mul_one] at h
  split at h
  ·rename_i hl;obtain⟨xs,hm,hx⟩:=Option.map_eq_some_iff.1 h;have hxs:xs.map (·.1)=zs.map fun z=>(DataW.lit (.string z):DataW H):=by
    have:=congrArg Prod.fst hx;simpa using this
   have hxl:xs.length=n:=by simpa using Lib.mapM_length hm
   have hzl:zs.length=n:=by
    have:=congrArg List.length hxs;simp at this
    omega
   apply List.ext_getElem?
   intro i
   by_cases hi:i < n
   ·obtain⟨b,hb,hf⟩:=Lib.mapM_at hm i i (by simp[hi]);obtain⟨z,hc,rfl,_⟩:=DataW.trod_string he hf;have h1:cs[i]?=some (.string z):=by
     have:=congrArg (·[0]?) hc;simpa[List.getElem?_take,List.getElem?_drop] using this
    have h2:(xs.map (·.1))[i]?=some (DataW.lit (.string z.data.toList):DataW H):=by simp[hb]
    rw[hxs] at h2;simp only[List.getElem?_map,Option.map_eq_some_iff,DataW.lit.injEq,Lit.string.injEq] at h2;obtain⟨z',hz',rfl⟩:=h2;simp[h1,hz']
   ·rw[List.getElem?_eq_none (by omega),List.getElem?_eq_none (by simp;omega)]
  ·cases h
theorem kwData:(Rows.laid_nightwatch_conf_keywords:DataW Unit)=.agg ([kw 0,kw 1,kw 2,kw 3,kw 4,kw 5,kw 6,kw 7,kw 8,kw 9].map fun z=>.lit (.string z)):=rfl
theorem tabDataIs:(Rows.laid_internal_strconv_uint64pow10:DataW Unit)=Lib.tabData .u64 Lib.pow10Tab:=rfl
theorem Tryz.gTab : Tryz.prog.globalNamed "internal/strconv.uint64pow10" = some 13 := by kernel_rfl
theorem Tryz.gTabT:(Tryz.prog.globals[13]?).map (·.type)=some 354:=by kernel_rfl
theorem Tryz.gKw : Tryz.prog.globalNamed "nightwatch/conf.keywords" = some 12 := by kernel_rfl
theorem Tryz.gKwT:(Tryz.prog.globals[12]?).map (·.type)=some 286:=by kernel_rfl
theorem Tryz.cTab:Tryz.prog.cellsOf 354=20/\Tryz.prog.cellsOf 315=1:=⟨by kernel_rfl,by kernel_rfl⟩
theorem Tryz.cKw:Tryz.prog.cellsOf 286=10:=by kernel_rfl
theorem tab_of_vars {W : World} {p : List MemPlace} (h : DataW.LaidVars Tryz.prog W [("internal/strconv.uint64pow10", Rows.laid_internal_strconv_uint64pow10)] p) : TabAt W := by
 obtain⟨g',t',cs,fuel,p,q,hg',ht',hvar,hd,_,_⟩:=h;obtain rfl:=Option.some.inj (Tryz.gTab.symm.trans hg');obtain rfl:=Option.some.inj (Tryz.gTabT.symm.trans ht');rw[tabDataIs] at hd;unfold TabAt Lib.TabIs;rw[hvar,<- Lib.cells_of_tab Tryz.underlying354 Tryz.underlying315 Tryz.cTab.2 Tryz.cTab.1 hd]
theorem kw_of_vars {W : World} {p : List MemPlace} (h : DataW.LaidVars Tryz.prog W [("nightwatch/conf.keywords", Rows.laid_nightwatch_conf_keywords)] p) : KwAt W := by
 obtain⟨g',t',cs,fuel,p,q,hg',ht',hvar,hd,_,_⟩:=h;obtain rfl:=Option.some.inj (Tryz.gKw.symm.trans hg');obtain rfl:=Option.some.inj (Tryz.gKwT.symm.trans ht');rw[kwData] at hd;have hc:=cells_of_strs Tryz.underlying286 Tryz.underlying9 Tryz.cellsStr Tryz.cKw hd;intro i hi;have:=World.var?_cell Tryz.gKw hvar i;rw[this];have e:cs[i]?=cs.toList[i]?:=by rw[Array.getElem?_toList]
 rw[e,hc]
 match i,hi with
 | 0,_=>rfl
 | 1,_=>rfl
 | 2,_=>rfl
 | 3,_=>rfl
 | 4,_=>rfl
 | 5,_=>rfl
 | 6,_=>rfl
 | 7,_=>rfl
 | 8,_=>rfl
 | 9,_=>rfl
def sixNames : List (String × List UInt8) := [("nightwatch/api.ErrText", [110, 105, 103, 104, 116, 119, 97, 116, 99, 104, 58, 32, 116, 101, 120, 116]), ("nightwatch/api.ErrBound", [110, 105, 103, 104, 116, 119, 97, 116, 99, 104, 58, 32, 98, 111, 117, 110, 100]), ("nightwatch/api.ErrShape", [110, 105, 103, 104, 116, 119, 97, 116, 99, 104, 58, 32, 115, 104, 97, 112, 101]), ("nightwatch/api.ErrName", [110, 105, 103, 104, 116, 119, 97, 116, 99, 104, 58, 32, 110, 97, 109, 101]), ("nightwatch/api.ErrNone", [110, 105, 103, 104, 116, 119, 97, 116, 99, 104, 58, 32, 110, 111, 110, 101]), ("nightwatch/api.ErrExist", [110, 105, 103, 104, 116, 119, 97, 116, 99, 104, 58, 32, 101, 120, 105, 115, 116])]
end Go.Proofs.YtffpcbdlbcjihadGreatDoor
namespace Go.Proofs.YtffpcbdlbcjihadGreatDoor
open Go.RowKit Go.Extern.Stop Go.Stop Go.Extern
structure CSt where
 bytes:List UInt8
 size:Nat
 written:Nat
 off:Bool
 cut:Bool
 left:Nat
def byteVal (x:UInt8):Value:=.int .u8 (x.toNat:Int)
def CSt.tail (s:CSt):List Value:=[.int .i64 (s.size:Int),.int .i64 (s.written:Int),.bool s.off,.bool s.cut,.int .i64 (s.left:Int)]
def CSt.row (s:CSt):Array Value:=(s.bytes.map byteVal++s.tail).toArray
structure CellsAt (w:World)(b:Nat)(s:CSt):Prop where
 heap:w.heap[b]?=some (.cells s.row 167 (0,0))
 len:s.bytes.length=4096
 size:s.size<=4096
theorem CellsAt.lt {w:World}{b:Nat}{s:CSt}(h:CellsAt w b s):b < w.heap.size:=lt_of_row h.heap
theorem CellsAt.cell {w:World}{b:Nat}{s:CSt}(h:CellsAt w b s)(i:Nat):w.cell? ⟨b,i,none⟩=s.row[i]?:=by
 simp[World.cell?,h.heap]
theorem CellsAt.frozen {w:World}{b:Nat}{s:CSt}(h:CellsAt w b s)(i:Nat):w.frozen? ⟨b,i,none⟩=false:=by
 simp[World.frozen?,h.heap]
theorem CSt.row_byte (s:CSt)(i:Nat)(hi:i < s.bytes.length):s.row[i]?=some (byteVal s.bytes[i]):=by
 unfold CSt.row;simp[List.getElem?_append_left,hi]
theorem CSt.row_tail (s:CSt)(hl:s.bytes.length=4096)(i:Nat):s.row[4096+i]?=s.tail[i]?:=by
 unfold CSt.row;rw[List.getElem?_toArray,List.getElem?_append_right (by simp[hl])];simp[hl]
theorem CellsAt.byte {w:World}{b:Nat}{s:CSt}(h:CellsAt w b s)(i:Nat)(hi:i < 4096):w.cell? ⟨b,i,none⟩=some (.int .u8 ((s.bytes[i]'(by rw[h.len];exact hi)).toNat:Int)):=by
 rw[h.cell,CSt.row_byte s i (by rw[h.len];exact hi)];rfl
theorem CellsAt.c0 {w:World}{b:Nat}{s:CSt}(h:CellsAt w b s):w.cell? ⟨b,4096,none⟩=some (.int .i64 (s.size:Int)):=by
 rw[h.cell,CSt.row_tail s h.len 0];rfl
theorem CellsAt.c1 {w:World}{b:Nat}{s:CSt}(h:CellsAt w b s):w.cell? ⟨b,4097,none⟩=some (.int .i64 (s.written:Int)):=by
 rw[h.cell,CSt.row_tail s h.len 1];rfl
theorem CellsAt.c2 {w:World}{b:Nat}{s:CSt}(h:CellsAt w b s):w.cell? ⟨b,4098,none⟩=some (.bool s.off):=by
 rw[h.cell,CSt.row_tail s h.len 2];rfl
theorem CellsAt.c3 {w:World}{b:Nat}{s:CSt}(h:CellsAt w b s):w.cell? ⟨b,4099,none⟩=some (.bool s.cut):=by
 rw[h.cell,CSt.row_tail s h.len 3];rfl
theorem CellsAt.c4 {w:World}{b:Nat}{s:CSt}(h:CellsAt w b s):w.cell? ⟨b,4100,none⟩=some (.int .i64 (s.left:Int)):=by
 rw[h.cell,CSt.row_tail s h.len 4];rfl
theorem CellsAt.set {w:World}{b:Nat}{s s':CSt}(h:CellsAt w b s)(i:Nat)(v:Value)(hr:s.row.setIfInBounds i v=s'.row)(hl:s'.bytes.length=4096)(hs:s'.size<=4096):CellsAt (w.setCell ⟨b,i,none⟩ v) b s':=by
 refine⟨?_,hl,hs⟩;simp only[World.setCell,Array.getElem?_modify,h.heap];simp[hr]
theorem row_set_tail (bs:List UInt8)(hl:bs.length=4096)(t:List Value)(i:Nat)(v:Value):(bs.map byteVal++t).toArray.setIfInBounds (4096+i) v=(bs.map byteVal++t.set i v).toArray:=by
 rw[List.setIfInBounds_toArray,List.set_append_right _ _ (by simp[hl])];simp[hl]
theorem CellsAt.set1 {w:World}{b:Nat}{s:CSt}(h:CellsAt w b s)(n:Nat):CellsAt (w.setCell ⟨b,4097,none⟩ (.int .i64 (n:Int))) b { s with written:=n }:=
 h.set _ _ (row_set_tail s.bytes h.len s.tail 1 _) h.len h.size
theorem CellsAt.set2 {w:World}{b:Nat}{s:CSt}(h:CellsAt w b s)(v:Bool):CellsAt (w.setCell ⟨b,4098,none⟩ (.bool v)) b { s with off:=v }:=
 h.set _ _ (row_set_tail s.bytes h.len s.tail 2 _) h.len h.size
theorem CellsAt.set3 {w:World}{b:Nat}{s:CSt}(h:CellsAt w b s)(v:Bool):CellsAt (w.setCell ⟨b,4099,none⟩ (.bool v)) b { s with cut:=v }:=
 h.set _ _ (row_set_tail s.bytes h.len s.tail 3 _) h.len h.size
theorem CellsAt.set4 {w:World}{b:Nat}{s:CSt}(h:CellsAt w b s)(n:Nat):CellsAt (w.setCell ⟨b,4100,none⟩ (.int .i64 (n:Int))) b { s with left:=n }:=
 h.set _ _ (row_set_tail s.bytes h.len s.tail 4 _) h.len h.size
theorem CellsAt.setB {w:World}{b:Nat}{s:CSt}(h:CellsAt w b s)(i:Nat)(hi:i < 4096)(x:UInt8):CellsAt (w.setCell ⟨b,i,none⟩ (.int .u8 (x.toNat:Int))) b { s with bytes:=s.bytes.set i x }:=by
 refine h.set _ _ ?_ (by simp[h.len]) h.size;unfold CSt.row;rw[List.setIfInBounds_toArray,List.set_append_left _ _ (by simp[h.len,hi]),List.map_set];rfl
theorem CellsAt.below {w w':World}{b:Nat}{s:CSt}(h:CellsAt w b s)(hb:Below w.heap.size w w'):CellsAt w' b s:=⟨row_below hb h.heap,h.len,h.size⟩
theorem grown_refl (w:World)(r:Option Nat):w.grownBy w r:=⟨rfl,rfl,rfl,Nat.le_refl _,fun _ _ _=>rfl⟩
theorem grown_trans {a b c:World}{r:Option Nat}(h:a.grownBy b r)(k:b.grownBy c r):a.grownBy c r:=
 ⟨k.os.trans h.os,k.tape.trans h.tape,k.output.trans h.output,Nat.le_trans h.size k.size,fun i hi hn=>(k.block i (Nat.lt_of_lt_of_le hi h.size) hn).trans (h.block i hi hn)⟩
theorem grown_set {a w:World}{b:Nat}(h:a.grownBy w (some b))(i:Nat)(v:Value):a.grownBy (w.setCell ⟨b,i,none⟩ v) (some b):=
 grown_trans h ⟨rfl,rfl,rfl,by simp[World.setCell],fun k _ hn=>Below.heap_setCell _ _ _ _ (by simpa using hn)⟩
theorem grown_below {a w w':World}{r:Option Nat}(h:a.grownBy w r)(k:Below w.heap.size w w'):a.grownBy w' r:=
 grown_trans h ⟨k.os,k.tape,k.output,k.size,fun i hi _=>k.block i hi⟩
structure Sen4 (A:Nat->Addr)(w:World):Prop where
 c1:w.cell? ⟨0,0,none⟩=some (.iface 400 (.pointer (some (A 1))))
 c2:w.cell? ⟨2,0,none⟩=some (.iface 400 (.pointer (some (A 2))))
 c6:w.cell? ⟨6,0,none⟩=some (.iface 400 (.pointer (some (A 6))))
 c7:w.cell? ⟨7,0,none⟩=some (.iface 400 (.pointer (some (A 7))))
theorem Sen4.below {A:Nat->Addr}{w w':World}(h:Sen4 A w)(hb:Below w.heap.size w w'):Sen4 A w':=
 ⟨cell_below hb h.c1,cell_below hb h.c2,cell_below hb h.c6,cell_below hb h.c7⟩
theorem Sen4.grown {A:Nat->Addr}{w w':World}{b:Nat}(h:Sen4 A w)(k:w.grownBy w' (some b))(hb:8<=b):Sen4 A w':=by
 have hc:∀ {g:Nat} {v:Value},g < 8->w.cell? ⟨g,0,none⟩=some v->w'.cell? ⟨g,0,none⟩=some v:=fun {g v} hg e=>
  (World.cell?_of_block (k.block g (block_lt e) (by intro e2;cases e2;omega))).trans e
 exact⟨hc (by omega) h.c1,hc (by omega) h.c2,hc (by omega) h.c6,hc (by omega) h.c7⟩
def zeros (n:Nat):List UInt8:=List.replicate n 0
theorem zeros_length (n:Nat):(zeros n).length=n:=List.length_replicate
def CSt.new (n:Nat):CSt:=⟨zeros 4096,n,0,false,false,0⟩
theorem zero_row:Tryz.zeroCells167=(CSt.new 0).row:=by kernel_rfl
theorem new_row (n:Nat):Tryz.zeroCells167.setIfInBounds 4096 (.int .i64 (n:Int))=(CSt.new n).row:=by
 rw[zero_row];exact row_set_tail (CSt.new 0).bytes (zeros_length _) (CSt.new 0).tail 0 _
set_option maxHeartbeats 400000 in
theorem new_in (n:Nat)(w:World)(h1:n<=4096) :
  Calls Tryz.prog 47 #[.int .i64 (n:Int)] w fun e w'=>e=.returned (.tuple #[.pointer (some ⟨w.heap.size,0,none⟩),.nilIface])/\Below w.heap.size w w'/\CellsAt w' w.heap.size (CSt.new n)/\w'.heap.size=w.heap.size+1:=by
 have g1:¬(n:Int) < 0:=by omega
 have g2:¬4096 < (n:Int):=by omega
 go_enter Tryz.func47,Tryz.ntmps47
 go_wp2;go_ret2
 refine⟨rfl,(Below.refl _ _).alloc (Nat.le_refl _) _,⟨?_,zeros_length _,h1⟩,by simp⟩;rw[new_row];show (w.heap.push _)[w.heap.size]?=_
 simp
theorem power_any (b:Nat)(s:CSt)(w:World)(h:CellsAt w b s) :
  Calls Tryz.prog 121 #[.pointer (some ⟨b,0,none⟩)] w fun e w'=>e=.returned (.bool (!s.off))/\w'=w:=by
 have c2:=h.c2;go_enter Tryz.func121,Tryz.ntmps121
 go_wp2;go_ret;exact⟨rfl,rfl⟩
theorem on_any (b:Nat)(s:CSt)(w:World)(h:CellsAt w b s) :
  Calls Tryz.prog 113 #[.pointer (some ⟨b,0,none⟩)] w fun e w'=>e=.returned (.tuple #[])/\CellsAt w' b { s with off:=false,cut:=false,left:=0 }/\w.grownBy w' (some b)/\w'.heap.size=w.heap.size:=by
 have c2:=h.c2;have c3:=h.c3;have c4:=h.c4;have f2:=h.frozen 4098;have f3:=h.frozen 4099;have f4:=h.frozen 4100;go_enter Tryz.func113,Tryz.ntmps113
 go_wp2;go_end0
 exact⟨rfl,((h.set2 false).set3 false).set4 0,grown_set (grown_set (grown_set (grown_refl _ _) _ _) _ _) _ _,by simp⟩
def errVal (A:Nat->Addr):Nat->Value
 | 0=>.nilIface
 | i+1=>.iface 400 (.pointer (some (A i)))
def CSt.err (s:CSt)(p n:Int):Nat:=if p < 0\/n < 0\/(s.size:Int) - p < n then 2 else if s.off=true then 8 else 0
set_option maxHeartbeats 1000000 in
theorem check_any4 (A:Nat->Addr)(b:Nat)(s:CSt)(p n:Int)(w:World)(h:CellsAt w b s)(hs:Sen4 A w)(hp:p<=9223372036854775807) :
  Calls Tryz.prog 302 #[.pointer (some ⟨b,0,none⟩),.int .i64 p,.int .i64 n] w fun e w'=>e=.returned (errVal A (s.err p n))/\w'=w:=by
 have c0:=h.c0;have c2:=h.c2;have g1:=hs.c1;have g7:=hs.c7;have hz:=h.size;clear h hs
 by_cases h1:p < 0
 ·have E:Hid (s.err p n=2):=if_pos (Or.inl h1);go_enter Tryz.func302,Tryz.ntmps302
  go_wp2;go_ret;rw[E.out];exact⟨rfl,rfl⟩
 by_cases h2:n < 0
 ·have E:Hid (s.err p n=2):=if_pos (Or.inr (Or.inl h2));go_enter Tryz.func302,Tryz.ntmps302
  go_wp2;go_ret;rw[E.out];exact⟨rfl,rfl⟩
 by_cases h3:(s.size:Int) - p < n
 ·have E:Hid (s.err p n=2):=if_pos (Or.inr (Or.inr h3));go_enter Tryz.func302,Tryz.ntmps302
  go_wp2;go_ret;rw[E.out];exact⟨rfl,rfl⟩
 have hno:¬(p < 0\/n < 0\/(s.size:Int) - p < n):=by omega
 cases ho:s.off
 ·have E:Hid (s.err p n=0):=by unfold CSt.err;rw[if_neg hno,ho];rfl
  clear hno;go_enter Tryz.func302,Tryz.ntmps302
  go_wp2;go_ret;rw[E.out];exact⟨rfl,rfl⟩
 ·have E:Hid (s.err p n=8):=by unfold CSt.err;rw[if_neg hno,ho];rfl
  clear hno;go_enter Tryz.func302,Tryz.ntmps302
  go_wp2;go_ret;rw[E.out];exact⟨rfl,rfl⟩
theorem put_off4 (A:Nat->Addr)(b:Nat)(s:CSt)(p:Int)(x:UInt8)(w:World)(h:CellsAt w b s)(hs:Sen4 A w)(hb:8<=b)(h1:s.cut=true)(h2:s.left=0) :
  Calls Tryz.prog 335 #[.pointer (some ⟨b,0,none⟩),.int .i64 p,.int .u8 (x.toNat:Int)] w fun e w'=>e=.returned (errVal A 8)/\CellsAt w' b { s with off:=true }/\w.grownBy w' (some b)/\w'.heap.size=w.heap.size:=by
 have c2:=h.c2;have c3:=h.c3;have c4:=h.c4;have f2:=h.frozen 4098;have g7:=hs.c7;have hne:¬b=7:=by omega
 rw[h1] at c3;rw[h2] at c4;go_enter Tryz.func335,Tryz.ntmps335
 go_wp2;go_ret;exact⟨rfl,h.set2 true,grown_set (grown_refl _ _) _ _,by simp⟩
def CSt.put (s:CSt)(p:Nat)(x:UInt8):CSt:={ s with bytes:=s.bytes.set p x,written:=s.written+1,left:=if s.cut then s.left - 1 else s.left }
set_option maxHeartbeats 1000000 in
theorem put_on (b:Nat)(s:CSt)(p:Nat)(x:UInt8)(w:World)(h:CellsAt w b s)(hp:p < 4096)(hw:s.written<=1099511627776)(hl:s.left<=9223372036854775807)(h1:s.cut=true->0 < s.left) :
  Calls Tryz.prog 335 #[.pointer (some ⟨b,0,none⟩),.int .i64 (p:Int),.int .u8 (x.toNat:Int)] w fun e w'=>e=.returned .nilIface/\CellsAt w' b (s.put p x)/\w.grownBy w' (some b)/\w'.heap.size=w.heap.size:=by
 have c1:=h.c1;have c3:=h.c3;have c4:=h.c4;have cb:=h.byte p hp;have f1:=h.frozen 4097;have f4:=h.frozen 4100;have fb:=h.frozen p;have ew:((s.written+1:Nat):Int)=(s.written:Int)+1:=by omega
 cases hc:s.cut
 ·rw[hc] at c3;have R:=(h.setB p hp x).set1 (s.written+1);have e:({ s with bytes:=s.bytes.set p x,written:=s.written+1 }:CSt)=s.put p x:=by simp[CSt.put,hc]
  simp only[] at R;rw[hc] at e;rw[ew,hc,e] at R;clear e hc h1;go_enter Tryz.func335,Tryz.ntmps335
  go_wp2;go_ret;exact⟨rfl,R,grown_set (grown_set (grown_refl _ _) _ _) _ _,by simp⟩
 ·have hpos:=h1 hc;have el:((s.left - 1:Nat):Int)=(s.left:Int) - 1:=by omega
  have hnz:((s.left:Int) == 0)=false:=by rw[beq_eq_false_iff_ne];omega
  have R:=((h.set4 (s.left - 1)).setB p hp x).set1 (s.written+1);have e:({ s with bytes:=s.bytes.set p x,written:=s.written+1,left:=s.left - 1 }:CSt)=s.put p x:=by simp[CSt.put,hc]
  simp only[] at R;rw[hc] at e;rw[el,ew,hc,e] at R;rw[hc] at c3;clear e hc h1;go_enter Tryz.func335,Tryz.ntmps335
  go_wp2;go_ret;exact⟨rfl,R,grown_set (grown_set (grown_set (grown_refl _ _) _ _) _ _) _ _,by simp⟩
def CSt.puts (s:CSt)(p:Nat):List UInt8->CSt
 | []=>s
 | x :: r=>(s.put p x).puts (p+1) r
theorem CSt.puts_snoc (l:List UInt8)(x:UInt8):∀ (s:CSt) (p:Nat),s.puts p (l++[x])=(s.puts p l).put (p+l.length) x:=by
 induction l with
 | nil=>intro s p;rfl
 | cons y r ih=>intro s p;simp only[List.cons_append,CSt.puts,ih,List.length_cons];congr 1;omega
theorem CSt.puts_cut (l:List UInt8):∀ (s:CSt) (p:Nat),(s.puts p l).cut=s.cut:=by
 induction l with
 | nil=>intro s p;rfl
 | cons y r ih=>intro s p;simp only[CSt.puts,ih];rfl
theorem CSt.puts_off (l:List UInt8):∀ (s:CSt) (p:Nat),(s.puts p l).off=s.off:=by
 induction l with
 | nil=>intro s p;rfl
 | cons y r ih=>intro s p;simp only[CSt.puts,ih];rfl
theorem CSt.puts_size (l:List UInt8):∀ (s:CSt) (p:Nat),(s.puts p l).size=s.size:=by
 induction l with
 | nil=>intro s p;rfl
 | cons y r ih=>intro s p;simp only[CSt.puts,ih];rfl
theorem CSt.puts_written (l:List UInt8):∀ (s:CSt) (p:Nat),(s.puts p l).written=s.written+l.length:=by
 induction l with
 | nil=>intro s p;rfl
 | cons y r ih=>intro s p;simp only[CSt.puts,ih,List.length_cons];show s.written+1+r.length=_;omega
theorem CSt.puts_left (l:List UInt8):∀ (s:CSt) (p:Nat),(s.puts p l).left=if s.cut then s.left - l.length else s.left:=by
 induction l with
 | nil=>intro s p;simp[CSt.puts]
 | cons y r ih=>
  intro s p;simp only[CSt.puts,ih,List.length_cons]
  cases hc:s.cut <;> simp[CSt.put,hc]
  omega
theorem CSt.puts_bytes (l:List UInt8):∀ (s:CSt) (p:Nat),p+l.length<=s.bytes.length->(s.puts p l).bytes=s.bytes.take p++l++s.bytes.drop (p+l.length):=by
 induction l with
 | nil=>intro s p h;simp[CSt.puts]
 | cons y r ih=>
  intro s p h;simp only[List.length_cons] at h;have e:=ih (s.put p y) (p+1) (by simp[CSt.put];omega);simp only[CSt.puts,e,List.length_cons];have h1:(s.put p y).bytes=s.bytes.set p y:=rfl;have hset:s.bytes.set p y=s.bytes.take p++y :: s.bytes.drop (p+1):=by rw[List.set_eq_take_append_cons_drop,if_pos (by omega)]
  have hlp:(s.bytes.take p).length=p:=by rw[List.length_take];omega
  have e1:p+1 - p=1:=by omega
  have e2:p+1+r.length - p=r.length+1:=by omega
  have e3:p+1+r.length=p+(r.length+1):=by omega
  have t1:(s.bytes.take p++y :: s.bytes.drop (p+1)).take (p+1)=s.bytes.take p++[y]:=by
   rw[List.take_append,hlp,e1,List.take_of_length_le (l:=s.bytes.take p) (by rw[hlp];omega)];rfl
  have t0:(s.bytes.take p).drop (p+1+r.length)=[]:=List.drop_eq_nil_of_le (by rw[hlp];omega);have t2:(s.bytes.take p++y :: s.bytes.drop (p+1)).drop (p+1+r.length)=s.bytes.drop (p+1+r.length):=by
   rw[List.drop_append,hlp,e2,t0,List.drop_succ_cons,List.drop_drop];rfl
  rw[h1,hset,t1,t2,e3];simp
def CSt.write (s:CSt)(p:Nat)(l:List UInt8):CSt × Nat:=
 if s.cut=true/\s.left < l.length then ({ s.puts p (l.take s.left) with off:=true },8) else (s.puts p l,0)
theorem take_snoc (s:ByteArray)(k:Nat)(h:k < s.size):s.data.toList.take (k+1)=s.data.toList.take k++[s[k]]:=by
 rw[List.take_succ_eq_append_getElem (by simpa using h)];rfl
set_option maxHeartbeats 1000000 in
theorem write_on4 (A:Nat->Addr)(b:Nat)(s:CSt)(p:Nat)(t:ByteArray)(w:World)(h:CellsAt w b s)(hs:Sen4 A w)(hb:8<=b)(hw:s.written+t.size<=1099511627776)(hl:s.left<=9223372036854775807)(he:s.err p t.size=0) :
  Calls Tryz.prog 329 #[.pointer (some ⟨b,0,none⟩),.int .i64 (p:Int),.string t] w fun e w'=>e=.returned (errVal A (s.write p t.data.toList).2)/\CellsAt w' b (s.write p t.data.toList).1/\w.grownBy w' (some b)/\w'.heap.size=w.heap.size:=by
 have hfit:p+t.size<=s.size:=by
  unfold CSt.err at he
  split at he
  ·cases he
  ·omega
 have hz:=h.size;have HE:Hid (s.err p t.size=0):=he;clear he;go_enter Tryz.func329,Tryz.ntmps329
 go_wp2_with fail
 refine(check_any4 A b s p t.size _ h hs (by omega)).mono ?_;rintro e w1 ⟨rfl,rfl⟩;rw[HE.out];unfold errVal;go_wp2_with fail
 go_loopw [20] (fun i wr=>∃ k:Nat,k<=t.size/\i=.int .i64 k/\(s.cut=true->k<=s.left)/\CellsAt wr b (s.puts p (t.data.toList.take k))/\w1.grownBy wr (some b)/\wr.heap.size=w1.heap.size) (fun i _=>t.size - (intOf i).toNat)
 case atStart=>exact⟨0,Nat.zero_le _,rfl,fun _=>Nat.zero_le _,h,grown_refl _ _,rfl⟩
 case round=>
  obtain⟨k,hk,rfl,hcut,hat,hg,hsz⟩:=hrel;have hlen:(t.data.toList.take k).length=k:=by rw[List.length_take];simp;omega
  have hlf:=CSt.puts_left (t.data.toList.take k) s p;have hct:=CSt.puts_cut (t.data.toList.take k) s p;have hwr:=CSt.puts_written (t.data.toList.take k) s p;rw[hlen] at hlf hwr
  by_cases hlt:k < t.size
  ·by_cases hoff:s.cut=true/\s.left=k
   ·have hs':=hs.grown hg hb;have e1:(s.puts p (t.data.toList.take k)).cut=true:=hct.trans hoff.1;have e2:(s.puts p (t.data.toList.take k)).left=0:=by rw[hlf,if_pos hoff.1];omega
    have E:Hid (s.write p t.data.toList=({ s.puts p (t.data.toList.take k) with off:=true },8)):=by
     show s.write p t.data.toList=_
     unfold CSt.write;rw[if_pos ⟨hoff.1,by simp;omega⟩,hoff.2]
    have E1:Hid _:=e1;have E2:Hid _:=e2;clear hs hlf hct hwr hcut hlen hoff e1 e2 hl hw;go_wp2_with fail
    refine(put_off4 A b _ _ _ _ hat hs' hb E1 E2).mono ?_;rintro e w2 ⟨rfl,hat2,hg2,hsz2⟩;unfold errVal;go_wp2;go_ret;rw[E.out];exact⟨rfl,hat2,grown_trans hg hg2,by rw[hsz2,hsz]⟩
   ·have hw2:(s.puts p (t.data.toList.take k)).written<=1099511627776:=by rw[hwr];omega
    have hl2:(s.puts p (t.data.toList.take k)).left<=9223372036854775807:=by rw[hlf];split <;> omega
    have H1:Hid ((s.puts p (t.data.toList.take k)).cut=true->0 < (s.puts p (t.data.toList.take k)).left):=fun hc=>by
     rw[hct] at hc;have h1:=hcut hc;have h2:s.left≠k:=fun e=>hoff ⟨hc,e⟩
     rw[hlf,if_pos hc];omega
    have HC:Hid (s.cut=true->k+1<=s.left):=fun hc=>by
     have h1:=hcut hc;have h2:s.left≠k:=fun e=>hoff ⟨hc,e⟩
     omega
    have HP:Hid (s.puts p (t.data.toList.take (k+1))=(s.puts p (t.data.toList.take k)).put (p+k) t[k]):=by
     show _=_
     rw[take_snoc t k hlt,CSt.puts_snoc,hlen]
    have EP:Hid ((p:Int)+(k:Int)=((p+k:Nat):Int)):=by show _=_;omega
    clear hlf hct hwr hcut hlen hoff hl hs;go_wp2_with fail
    rw[EP.out]
    refine(put_on b _ _ _ _ hat (by omega) hw2 hl2 H1.out).mono ?_;rintro e w2 ⟨rfl,hat2,hg2,hsz2⟩;go_wp2;go_roundw
    case rel=>exact⟨k+1,by omega,by go_num,HC.out,by rw[HP.out];exact hat2,grown_trans hg hg2,by rw[hsz2,hsz]⟩
    case measure=>simp[intOf];omega
  ·have ek:k=t.size:=by omega
   have E:Hid (s.write p t.data.toList=(s.puts p (t.data.toList.take k),0)):=by
    show _=_
    unfold CSt.write;rw[if_neg (by rintro⟨a,b⟩;have:=hcut a;simp at b;omega),List.take_of_length_le (by simp;omega)]
   clear hlf hct hwr hcut hlen ek;go_wp2;go_ret;rw[E.out];exact⟨rfl,hat,hg,hsz⟩
set_option maxHeartbeats 1000000 in
theorem write_no4 (A:Nat->Addr)(b:Nat)(s:CSt)(p:Int)(t:ByteArray)(j:Nat)(w:World)(h:CellsAt w b s)(hs:Sen4 A w)(hp:p<=9223372036854775807)(he:s.err p t.size=j+1) :
  Calls Tryz.prog 329 #[.pointer (some ⟨b,0,none⟩),.int .i64 p,.string t] w fun e w'=>e=.returned (errVal A (j+1))/\w'=w:=by
 have HE:Hid (s.err p t.size=j+1):=he;clear he;go_enter Tryz.func329,Tryz.ntmps329
 go_wp2_with fail
 refine(check_any4 A b s p t.size _ h hs hp).mono ?_;rintro e w1 ⟨rfl,rfl⟩;rw[HE.out];unfold errVal;go_wp2;go_ret;exact⟨rfl,rfl⟩
set_option maxHeartbeats 1000000 in
theorem cut_on (b:Nat)(s:CSt)(n:Nat)(w:World)(h:CellsAt w b s)(ho:s.off=false) :
  Calls Tryz.prog 59 #[.pointer (some ⟨b,0,none⟩),.int .i64 (n:Int)] w fun e w'=>e=.returned .nilIface/\CellsAt w' b { s with cut:=true,left:=n }/\w.grownBy w' (some b)/\w'.heap.size=w.heap.size:=by
 have c2:=h.c2;have c3:=h.c3;have c4:=h.c4;have f3:=h.frozen 4099;have f4:=h.frozen 4100;have g0:¬(n:Int) < 0:=by omega
 rw[ho] at c2;have R:=(h.set3 true).set4 n;clear h ho;go_enter Tryz.func59,Tryz.ntmps59
 go_wp2;go_ret;exact⟨rfl,R,grown_set (grown_set (grown_refl _ _) _ _) _ _,by simp⟩
theorem cut_low4 (A:Nat->Addr)(b:Nat)(n:Int)(w:World)(hs:Sen4 A w)(hn:n < 0) :
  Calls Tryz.prog 59 #[.pointer (some ⟨b,0,none⟩),.int .i64 n] w fun e w'=>e=.returned (errVal A 2)/\w'=w:=by
 have g1:=hs.c1;go_enter Tryz.func59,Tryz.ntmps59
 go_wp2;go_ret;exact⟨rfl,rfl⟩
theorem cut_off4 (A:Nat->Addr)(b:Nat)(s:CSt)(n:Int)(w:World)(h:CellsAt w b s)(hs:Sen4 A w)(hn:¬n < 0)(ho:s.off=true) :
  Calls Tryz.prog 59 #[.pointer (some ⟨b,0,none⟩),.int .i64 n] w fun e w'=>e=.returned (errVal A 8)/\w'=w:=by
 have g7:=hs.c7;have c2:=h.c2;rw[ho] at c2;go_enter Tryz.func59,Tryz.ntmps59
 go_wp2;go_ret;exact⟨rfl,rfl⟩
theorem Tryz.arrT:Tryz.prog.underlying 165=some (.array (Tryz.prog.arrayLen 165) (Tryz.prog.elem 165)):=by kernel_rfl
theorem Tryz.arrN:Tryz.prog.arrayLen 165=4096:=by kernel_rfl
theorem Tryz.arrE (W:World):(sizeOf (Tryz.prog.elem 165)).run Tryz.prog W=.ok 1 W:=by kernel_rfl
theorem slice_part (b p q:Nat)(hp:p<=q)(hq:q<=4096)(W:World):∃ a c,(Instr.sliceAt 165 (.pointer (some ⟨b,0,none⟩)) (some (.int .i64 (p:Int))) (some (.int .i64 (q:Int))) none).run Tryz.prog W=.ok (.slice (some a) (q - p) c) W/\(a=⟨b,p,none⟩\/p=4096):=by
 refine⟨if 4096=p then ⟨b,0,none⟩ else (⟨b,0,none⟩:Addr).add p,4096 - p,?_,?_⟩
 ·rw[run_sliceAt_array_lh W _ _ Tryz.arrT .i64 .i64 (p:Int) (q:Int) (by omega) (by omega) (by rw[Tryz.arrN];omega),Tryz.arrE,Tryz.arrN];simp[Result.andThen,slicedAt]
 ·by_cases h:4096=p
  ·exact Or.inr h.symm
  ·left;rw[if_neg h];unfold Addr.add;split <;> simp_all
theorem conv_part (b:Nat)(s:CSt)(p n c:Nat)(w:World)(h:CellsAt w b s)(hf:p+n<=4096) :
  (convert 58 9 (.slice (some ⟨b,p,none⟩) n c)).run Tryz.prog w=.ok (.string ⟨((s.bytes.drop p).take n).toArray⟩) w:=by
 have hl:((s.bytes.drop p).take n).length=n:=by rw[List.length_take,List.length_drop,h.len];omega
 have:=run_convert_bytes_back (P:=Tryz.prog) w 58 9 5 ⟨b,p,none⟩ c ((s.bytes.drop p).take n) Tryz.underlying58 Tryz.underlying5 Tryz.underlying9 (fun j hj=>by
  have hj':j < n:=by rw[hl] at hj;exact hj
  have e:=h.byte (p+j) (by omega);have ea:(⟨b,p,none⟩:Addr).add j=⟨b,p+j,none⟩:=by unfold Addr.add;split <;> simp_all
  rw[ea,e];simp)
 rw[hl] at this;exact this
theorem conv_none (a:Addr)(c:Nat)(w:World) :
  (convert 58 9 (.slice (some a) 0 c)).run Tryz.prog w=.ok (.string ⟨#[]⟩) w:=
 run_convert_bytes_back (P:=Tryz.prog) w 58 9 5 a c [] Tryz.underlying58 Tryz.underlying5 Tryz.underlying9 (fun j hj=>by simp at hj)
set_option maxHeartbeats 1000000 in
theorem read_on4 (A:Nat->Addr)(b:Nat)(s:CSt)(p n:Nat)(w:World)(h:CellsAt w b s)(hs:Sen4 A w)(he:s.err p n=0) :
  Calls Tryz.prog 268 #[.pointer (some ⟨b,0,none⟩),.int .i64 (p:Int),.int .i64 (n:Int)] w fun e w'=>e=.returned (.tuple #[.string ⟨((s.bytes.drop p).take n).toArray⟩,.nilIface])/\w'=w:=by
 have hfit:p+n<=s.size:=by
  unfold CSt.err at he
  split at he
  ·cases he
  ·omega
 have hz:=h.size;have HE:Hid (s.err p n=0):=he;clear he;obtain⟨a,c,sl,ha⟩:=slice_part b p (p+n) (by omega) (by omega) w;have en:p+n - p=n:=by omega
 have ep:((p+n:Nat):Int)=(p:Int)+(n:Int):=by omega
 rw[en,ep] at sl;have cv:(convert 58 9 (.slice (some a) n c)).run Tryz.prog w=.ok (.string ⟨((s.bytes.drop p).take n).toArray⟩) w:=by
  rcases ha with rfl | hp
  ·exact conv_part b s p n c w h (by omega)
  ·have hn:n=0:=by omega
   subst hn;rw[conv_none];simp
 clear ep en ha;go_enter Tryz.func268,Tryz.ntmps268
 go_wp2_with fail
 refine(check_any4 A b s p n _ h hs (by omega)).mono ?_;rintro e w1 ⟨rfl,rfl⟩;rw[HE.out];unfold errVal;go_wp2;go_ret2
 exact⟨rfl,rfl⟩
set_option maxHeartbeats 1000000 in
theorem read_no4 (A:Nat->Addr)(b:Nat)(s:CSt)(p n:Int)(j:Nat)(w:World)(h:CellsAt w b s)(hs:Sen4 A w)(hp:p<=9223372036854775807)(he:s.err p n=j+1) :
  Calls Tryz.prog 268 #[.pointer (some ⟨b,0,none⟩),.int .i64 p,.int .i64 n] w fun e w'=>e=.returned (.tuple #[.string ⟨#[]⟩,errVal A (j+1)])/\w'=w:=by
 have HE:Hid (s.err p n=j+1):=he;clear he;go_enter Tryz.func268,Tryz.ntmps268
 go_wp2_with fail
 refine(check_any4 A b s p n _ h hs hp).mono ?_;rintro e w1 ⟨rfl,rfl⟩;rw[HE.out];unfold errVal;go_wp2;go_ret2
 exact⟨rfl,rfl⟩
def crcStep (s:Nat):Nat:=(s / 2) ^^^ (3988292384*(s % 2))
def crcSteps:Nat->Nat->Nat
 | 0,s=>s
 | k+1,s=>crcSteps k (crcStep s)
def crcFrom (s:Nat)(l:List UInt8):Nat:=l.foldl (fun s v=>crcSteps 8 (s ^^^ v.toNat)) s
def crc (l:List UInt8):Nat:=4294967295 ^^^ crcFrom 4294967295 l
theorem crcStep_lt {s:Nat}(h:s < 4294967296):crcStep s < 4294967296:=
 Nat.xor_lt_two_pow (n:=32) (by omega) (by omega)
theorem crcSteps_lt (k:Nat):∀ {s:Nat},s < 4294967296->crcSteps k s < 4294967296:=by
 induction k with
 | zero=>intro s h;exact h
 | succ k ih=>intro s h;exact ih (crcStep_lt h)
theorem crcByte_lt {s:Nat}(h:s < 4294967296)(v:UInt8):s ^^^ v.toNat < 4294967296:=
 Nat.xor_lt_two_pow (n:=32) h (by have:=v.toNat_lt;omega)
theorem crcFrom_lt (l:List UInt8):∀ {s:Nat},s < 4294967296->crcFrom s l < 4294967296:=by
 induction l with
 | nil=>intro s h;exact h
 | cons v r ih=>intro s h;exact ih (crcSteps_lt 8 (crcByte_lt h v))
theorem crc_lt (l:List UInt8):crc l < 4294967296:=Nat.xor_lt_two_pow (n:=32) (by decide) (crcFrom_lt l (by decide))
theorem xor_byte (n:Nat)(v:UInt8)(hn:n < 4294967296):bits BinOp.xor IntKind.u32 (n:Int) ((v.toNat:Int) % 4294967296)=((n ^^^ v.toNat:Nat):Int):=by
 have:=v.toNat_lt;rw[show ((v.toNat:Int) % 4294967296)=((v.toNat:Nat):Int) by omega];exact u32_xor_nat n v.toNat hn (by omega)
theorem and_one (m:Nat):m &&& 1=m % 2:=by rw[show (1:Nat)=2 ^ 1 - 1 from rfl,Nat.and_two_pow_sub_one_eq_mod]
theorem step_val (m:Nat)(hm:m < 4294967296):bits BinOp.xor IntKind.u32 ((m:Int) / 2) (3988292384*bits BinOp.and IntKind.u32 (m:Int) 1 % 4294967296)=((crcStep m:Nat):Int):=by
 have h1:bits BinOp.and IntKind.u32 (m:Int) 1=((m % 2:Nat):Int):=by
  have:=u32_and_nat m 1 hm (by decide);rw[and_one] at this;exact this
 rw[h1,show ((m:Int) / 2)=((m / 2:Nat):Int) by omega,show ((3988292384*((m % 2:Nat):Int)) % 4294967296)=((3988292384*(m % 2):Nat):Int) by omega];exact u32_xor_nat _ _ (by omega) (by omega)
set_option maxHeartbeats 1000000 in
theorem sum_any (a:Addr)(c:Nat)(l:List UInt8)(w:World)(hc:∀ i (hi:i < l.length),w.cell? (a.add i)=some (.int .u8 (l[i].toNat:Int)))(hl:l.length<=4096) :
  Calls Tryz.prog 324 #[.slice (some a) l.length c] w fun e w'=>e=.returned (.int .u32 (crc l:Nat))/\w'=w:=by
 go_enter Tryz.func324,Tryz.ntmps324
 go_wp2_with fail
 go_loopw [3,8] (fun s i wr=>∃ (k n:Nat),k<=l.length/\n < 4294967296/\i=.int .i64 k/\s=.int .u32 (n:Int)/\crcFrom n (l.drop k)=crcFrom 4294967295 l/\wr=w) (fun _ i _=>l.length - (intOf i).toNat)
 case atStart=>exact⟨0,4294967295,Nat.zero_le _,by decide,rfl,rfl,by simp,rfl⟩
 case round=>
  obtain⟨k,n,hk,hn,rfl,rfl,hcr,rfl⟩:=hrel
  by_cases hlt:k < l.length
  ·have hcell:=hc k hlt;have HB:Hid (n ^^^ l[k].toNat < 4294967296):=crcByte_lt hn _;have HX:Hid _:=xor_byte n l[k] hn;have HN:Hid (crcFrom (crcSteps 8 (n ^^^ l[k].toNat)) (l.drop (k+1))=crcFrom 4294967295 l):=by
    show _=_
    rw[<- hcr,List.drop_eq_getElem_cons hlt];rfl
   clear hcr;go_wp2_with fail
   rw[HX.out]
   go_loopw [3,16] (fun s i wx=>∃ (j m:Nat),j<=8/\m < 4294967296/\i=.int .i64 j/\s=.int .u32 (m:Int)/\crcSteps (8 - j) m=crcSteps 8 (n ^^^ l[k].toNat)/\wx=wr) (fun _ i _=>8 - (intOf i).toNat)
   case atStart=>exact⟨0,_,Nat.zero_le _,HB.out,rfl,rfl,rfl,rfl⟩
   case round=>
    obtain⟨j,m,hj,hm,rfl,rfl,hst,rfl⟩:=hrel
    by_cases hj8:j < 8
    ·have HS:Hid _:=step_val m hm;have HM:Hid (crcStep m < 4294967296):=crcStep_lt hm;have HT:Hid (crcSteps (8 - (j+1)) (crcStep m)=crcSteps 8 (n ^^^ l[k].toNat)):=by
      show _=_
      rw[<- hst,show 8 - j=8 - (j+1)+1 by omega];rfl
     clear hst hm;go_wp2_with fail
     rw[HS.out];go_roundw
     case rel=>exact⟨j+1,crcStep m,by omega,HM.out,by go_num,rfl,HT.out,trivial⟩
     case measure=>simp[intOf];omega
    ·have ej:j=8:=by omega
     subst ej;have HT:Hid (m=crcSteps 8 (n ^^^ l[k].toNat)):=hst;clear hst;go_wp2_with fail
     go_roundw
     case rel=>exact⟨k+1,m,by omega,hm,by go_num,rfl,by rw[HT.out];exact HN.out,trivial⟩
     case measure=>simp[intOf];omega
  ·have HR:Hid (((n ^^^ 4294967295:Nat):Int)=((crc l:Nat):Int)):=by
    show _=_
    have:l.drop k=[]:=List.drop_eq_nil_of_le (by omega);rw[this] at hcr;unfold crc;rw[<- hcr,Nat.xor_comm];rfl
   clear hcr;have HX:Hid (bits BinOp.xor IntKind.u32 IntKind.u32.max (n:Int)=((crc l:Nat):Int)):=by
    show _=_
    rw[show IntKind.u32.max=((4294967295:Nat):Int) from rfl,u32_xor_nat _ _ (by decide) hn,Nat.xor_comm];exact HR.out
   go_wp2;go_ret;rw[HX.out];exact⟨rfl,rfl⟩
end Go.Proofs.YtffpcbdlbcjihadGreatDoor
