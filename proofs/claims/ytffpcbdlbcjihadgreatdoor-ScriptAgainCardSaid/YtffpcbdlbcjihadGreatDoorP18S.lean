/-
  Several texts as one: CfCfg, CfNames, ScMap, ScCmd, KeOps, KeActs, KeSee, RingSm.
-/
import Derived.Test.YtffpcbdlbcjihadGreatDoorP17S
import Derived.Shelf.Abstract
import Derived.Maps.OwnSet
import Derived.StringKeys
import Derived.BigQuiet
import Derived.Deep.QuietTactic
import Derived.Deep.DeepCutAuto
import Derived.WalkSmall
import Derived.Laws.StructEq
namespace Go.Proofs.YtffpcbdlbcjihadGreatDoor
open Go.RowKit Go.Extern.Stop Go.Stop Go.Extern
theorem cfg1_at (A:Nat->Addr)(x0 x1 x2 x3:Int)(sa:Option Addr)(sn sc:Nat)(w:World)(hs:Sen5 A w):Calls Tryz.prog 138 #[.agg #[.int .i64 x0,.int .i64 x1,.int .i64 x2,.int .i64 x3,.slice sa sn sc]] w fun e w'=>e=.returned (.bool (!(within x0 0 1000 && within x1 1 1000)))/\Below w.heap.size w w':=by
 have H:=isWindow_at A x0 x1 _ (hs.alloc (.cells #[.int .i64 x0,.int .i64 x1,.int .i64 x2,.int .i64 x3,.slice sa sn sc] 30));go_enter Tryz.func138,Tryz.ntmps138
 go_wp2_with fail
 refine H.mono ?_;rintro e w' ⟨rfl,hb⟩;go_wp2;go_ret;exact⟨by rw[Bool.not_and];rfl,((Below.refl _ _).alloc (Nat.le_refl _) _).trans (hb.mono (by simp))⟩
theorem cfg2_at (x0 x1 x2 x3:Int)(sa:Option Addr)(sn sc:Nat)(w:World):Calls Tryz.prog 140 #[.agg #[.int .i64 x0,.int .i64 x1,.int .i64 x2,.int .i64 x3,.slice sa sn sc]] w fun e w'=>e=.returned (.bool (!within x2 1 100))/\Below w.heap.size w w':=by
 go_enter Tryz.func140,Tryz.ntmps140
 go_wp2_with fail
 refine(within_at x2 1 100 _).mono ?_;rintro e w' ⟨rfl,rfl⟩;go_wp2;go_ret;exact⟨rfl,(Below.refl _ _).alloc (Nat.le_refl _) _⟩
theorem cfg3_at (x0 x1 x2 x3:Int)(sa:Option Addr)(sn sc:Nat)(w:World):Calls Tryz.prog 142 #[.agg #[.int .i64 x0,.int .i64 x1,.int .i64 x2,.int .i64 x3,.slice sa sn sc]] w fun e w'=>e=.returned (.bool (!within x3 0 20))/\Below w.heap.size w w':=by
 go_enter Tryz.func142,Tryz.ntmps142
 go_wp2_with fail
 refine(within_at x3 0 20 _).mono ?_;rintro e w' ⟨rfl,rfl⟩;go_wp2;go_ret;exact⟨rfl,(Below.refl _ _).alloc (Nat.le_refl _) _⟩
theorem cfg4_at (x0 x1 x2 x3:Int)(sa:Option Addr)(sn sc:Nat)(w:World):Calls Tryz.prog 143 #[.agg #[.int .i64 x0,.int .i64 x1,.int .i64 x2,.int .i64 x3,.slice sa sn sc]] w fun e w'=>e=.returned (.bool (decide (8 < sn)))/\Below w.heap.size w w':=by
 have hd:decide (8 < sn)=decide ((8:Int) < (sn:Int)):=decide_eq_decide.2 (by omega);rw[hd];go_enter Tryz.func143,Tryz.ntmps143
 go_wp2;go_ret;exact⟨rfl,(Below.refl _ _).alloc (Nat.le_refl _) _⟩
theorem cfg5_at (x0 x1 x2 x3:Int)(sa:Option Addr)(sn sc:Nat)(w:World):Calls Tryz.prog 144 #[.agg #[.int .i64 x0,.int .i64 x1,.int .i64 x2,.int .i64 x3,.slice sa sn sc]] w fun e w'=>e=.returned (.bool (decide (x1 < x2)))/\Below w.heap.size w w':=by
 go_enter Tryz.func144,Tryz.ntmps144
 go_wp2;go_ret;exact⟨rfl,(Below.refl _ _).alloc (Nat.le_refl _) _⟩
def cfgRow (A:Nat->Addr):Array Value:=#[.iface 400 (.pointer (some (A 1))),.func (.func 138) #[] #[],.iface 400 (.pointer (some (A 1))),.func (.func 140) #[] #[],.iface 400 (.pointer (some (A 1))),.func (.func 142) #[] #[],
 .iface 400 (.pointer (some (A 1))),.func (.func 143) #[] #[],.iface 400 (.pointer (some (A 2))),.func (.func 144) #[] #[]]
theorem configRules_at (A:Nat->Addr)(w:World)(hs:Sen5 A w):Calls Tryz.prog 90 #[] w fun e w'=>e=.returned (.slice (some ⟨w.heap.size,0,none⟩) 5 5)/\w'=w.alloc (.cells (cfgRow A) 208):=by
 have c1:=hs.c1;have c2:=hs.c2;unfold cfgRow;go_enter Tryz.func90,Tryz.ntmps90
 go_wp2;go_ret;exact⟨rfl,rfl⟩
def cfgFns (i:Nat):Nat:=[138,140,142,143,144].getD i 0
theorem cfg_rules (A:Nat->Addr)(c:CfgD)(sa:Option Addr)(sc:Nat)(r:Nat)(W:World)(hs:Sen5 A W)(hr:W.heap[r]?=some (.cells (cfgRow A) 208 (0,0))) :
  RulesAt A W r (.agg #[.int .i64 c.closed,.int .i64 c.opn,.int .i64 c.cycle,.int .i64 c.delay,.slice sa c.ents.length sc])
   [(!(within c.closed 0 1000 && within c.opn 1 1000),2),(!within c.cycle 1 100,2),(!within c.delay 0 20,2),(decide (8 < c.ents.length),2),(decide (c.opn < c.cycle),3)] cfgFns:=by
 have hcell:∀ j v,(cfgRow A)[j]?=some v->W.cell? ⟨r,j,none⟩=some v:=fun j v e=>by simp[World.cell?,hr,e]
 refine⟨fun i b d e=>?_,fun i b d e=>?_,fun i b d e V hV=>?_,by simp,fun i b d e=>?_⟩
 ·match i,e with
  | 0,e=>cases e;exact⟨hcell 0 _ rfl,hcell 1 _ rfl⟩
  | 1,e=>cases e;exact⟨hcell 2 _ rfl,hcell 3 _ rfl⟩
  | 2,e=>cases e;exact⟨hcell 4 _ rfl,hcell 5 _ rfl⟩
  | 3,e=>cases e;exact⟨hcell 6 _ rfl,hcell 7 _ rfl⟩
  | 4,e=>cases e;exact⟨hcell 8 _ rfl,hcell 9 _ rfl⟩
  | i+5,e=>cases e
 ·match i,e with
  | 0,_=>exact enters_of Tryz.func138 (by kernel_rfl) rfl
  | 1,_=>exact enters_of Tryz.func140 (by kernel_rfl) rfl
  | 2,_=>exact enters_of Tryz.func142 (by kernel_rfl) rfl
  | 3,_=>exact enters_of Tryz.func143 (by kernel_rfl) rfl
  | 4,_=>exact enters_of Tryz.func144 (by kernel_rfl) rfl
  | i+5,e=>cases e
 ·match i,e with
  | 0,e=>cases e;exact cfg1_at A _ _ _ _ _ _ _ _ (hs.below hV)
  | 1,e=>cases e;exact cfg2_at _ _ _ _ _ _ _ _
  | 2,e=>cases e;exact cfg3_at _ _ _ _ _ _ _ _
  | 3,e=>cases e;exact cfg4_at _ _ _ _ _ _ _ _
  | 4,e=>cases e;exact cfg5_at _ _ _ _ _ _ _ _
  | i+5,e=>cases e
 ·match i,e with
  | 0,e=>cases e;decide
  | 1,e=>cases e;decide
  | 2,e=>cases e;decide
  | 3,e=>cases e;decide
  | 4,e=>cases e;decide
  | i+5,e=>cases e
end Go.Proofs.YtffpcbdlbcjihadGreatDoor
namespace Go.Proofs.YtffpcbdlbcjihadGreatDoor
open Go.RowKit Go.Extern.Stop Go.Stop Go.Extern Go.Maps
def keyL (s:ByteArray):Lit:=.string s.data.toList
def setN (a:List ByteArray):DataW Unit:=setOf (.agg []) (a.map keyL)
theorem has_setN (a:List ByteArray)(s:ByteArray):Maps.has (setN a) (keyL s)=a.any (fun x=>decide (x=s)):=by
 unfold setN;rw[has_setOf _ _ _ (by intro x hx;simp only[List.mem_map] at hx;obtain⟨y,-,rfl⟩:=hx;trivial),List.any_map];congr 1
 funext x
 show (x.data.toList == s.data.toList)=decide (x=s)
 by_cases h:x=s
 ·subst h;simp
 ·rw[decide_eq_false h,beq_eq_false_iff_ne];exact fun e=>h (bl_inj e)
theorem setN_snoc (a:List ByteArray)(s:ByteArray):setN (a++[s])=(setN a).put (keyL s) (.agg []):=by
 unfold setN;rw[List.map_append];exact setOf_snoc _ _ _
theorem Tryz.lawStr:Keyed Tryz.prog 9:=string_keyed Tryz.underlying9
theorem Tryz.zeroUnit (w:World):(zeroValue 214).run Tryz.prog w=.ok (.agg #[]) w:=by kernel_rfl
structure NamesIn (A:Nat->Addr)(w0 w:World)(rb bx mb:Nat)(a:List ByteArray):Prop where
 bel:Below w0.heap.size w0 w
 lo:w0.heap.size<=mb
 nr:rb≠mb
 nb:bx≠mb
 r0:w.cell? ⟨rb,0,none⟩=some (.iface 400 (.pointer (some (A 3))))
 r1:w.cell? ⟨rb,1,none⟩=some (.func (.func 145) #[] #[])
 r2:w.cell? ⟨rb,2,none⟩=some (.iface 400 (.pointer (some (A 5))))
 r3:w.cell? ⟨rb,3,none⟩=some (.func (.func 147) #[] #[.pointer (some ⟨bx,0,none⟩)])
 b0:w.cell? ⟨bx,0,none⟩=some (.map (some mb))
 own:w.ownsMap Tryz.prog 9 unitElem mb a.length (setN a)
theorem owns_below {w w':World}{mb n:Nat}{D:DataW Unit}(h:w.ownsMap Tryz.prog 9 unitElem mb n D)(hb:Below w.heap.size w w'):w'.ownsMap Tryz.prog 9 unitElem mb n D:=by
 have hlt:=h.lt;obtain⟨es,clock,h1,h2⟩:=h;exact⟨es,clock,(hb.block mb hlt).trans h1,h2⟩
theorem NamesIn.below {A:Nat->Addr}{w0 w w':World}{rb bx mb:Nat}{a:List ByteArray}(h:NamesIn A w0 w rb bx mb a)(hb:Below w.heap.size w w'):NamesIn A w0 w' rb bx mb a:=
 ⟨h.bel.trans (hb.mono h.bel.size),h.lo,h.nr,h.nb,cell_below hb h.r0,cell_below hb h.r1,cell_below hb h.r2,cell_below hb h.r3,cell_below hb h.b0,owns_below h.own hb⟩
theorem cell_grown {w w':World}{mb:Nat}{a:Addr}{v:Value}(hg:w.grownBy w' (some mb))(hne:a.block≠mb)(h:w.cell? a=some v):w'.cell? a=some v:=
 (World.cell?_of_block (hg.block a.block (block_lt h) (by simpa using hne))).trans h
theorem NamesIn.grown {A:Nat->Addr}{w0 w w':World}{rb bx mb:Nat}{a a':List ByteArray}(h:NamesIn A w0 w rb bx mb a)(hg:w.grownBy w' (some mb))(ho:w'.ownsMap Tryz.prog 9 unitElem mb a'.length (setN a')):NamesIn A w0 w' rb bx mb a':=
 ⟨h.bel.grown hg h.bel.size (fun j hj=>by cases hj;exact h.lo),h.lo,h.nr,h.nb,cell_grown hg h.nr h.r0,cell_grown hg h.nr h.r1,cell_grown hg h.nr h.r2,cell_grown hg h.nr h.r3,cell_grown hg h.nb h.b0,ho⟩
set_option maxHeartbeats 400000 in
theorem nameRules_at (A:Nat->Addr)(w:World)(hs:Sen5 A w):Calls Tryz.prog 91 #[] w fun e w'=>e=.returned (.slice (some ⟨w.heap.size+2,0,none⟩) 2 2)/\NamesIn A w w' (w.heap.size+2) (w.heap.size+1) w.heap.size []:=by
 have hmm:=@run_makeMap Tryz.prog;have c3:=hs.c3;have c5:=hs.c5;have ha:∀ (g:Nat) (v:Value),w.cell? ⟨g,0,none⟩=some v->∀ o1 o2,((w.alloc o1).alloc o2).cell? ⟨g,0,none⟩=some v:=fun g v e o1 o2=>cell_below (((Below.refl _ _).alloc (Nat.le_refl _) _).alloc (by simp) _) e
 have d3:=ha _ _ c3;have d5:=ha _ _ c5;clear c3 c5 ha;go_enter Tryz.func91,Tryz.ntmps91
 go_wp2;go_ret
 refine⟨rfl,⟨(((Below.refl _ _).alloc (Nat.le_refl _) _).alloc (by simp) _).alloc (by simp;omega) _,Nat.le_refl _,by omega,by omega,?_,?_,?_,?_,?_,?_⟩⟩;iterate 4
  ·rw[show w.heap.size+2=((w.alloc (.map #[] 0)).alloc (.cells #[.map (some w.heap.size)] 211)).heap.size by simp,World.cell?_alloc_at _ _ _ _ rfl];rfl
 ·rw[World.cell?_alloc_lt _ _ ⟨w.heap.size+1,0,none⟩ (by simp)];have e:w.heap.size+1=(w.alloc (.map #[] 0)).heap.size:=by simp
  rw[e,World.cell?_alloc_at _ _ _ _ rfl];rfl
 ·exact((World.ownsMap_made w Tryz.prog 9 unitElem).alloc _).alloc _
set_option maxHeartbeats 400000 in
theorem names2_at (A:Nat->Addr)(w0 w:World)(rb bx mb:Nat)(a:List ByteArray)(s:ByteArray)(h:NamesIn A w0 w rb bx mb a)(hs:s.size<=1000000)(hn:a.length<=1000000) :
  Calls Tryz.prog 147 #[.string s,.pointer (some ⟨bx,0,none⟩)] w fun e w'=>e=.returned (.bool (a.any (fun x=>decide (x=s))))/\NamesIn A w0 w' rb bx mb (a++[s])/\∀ (p:Addr) (v:Value),p.block≠mb->w.cell? p=some v->w'.cell? p=some v:=by
 have b0:=h.b0;have b1:∀ o,(w.alloc o).cell? ⟨bx,0,none⟩=some (.map (some mb)):=fun o=>cell_below ((Below.refl _ _).alloc (Nat.le_refl _) _) b0
 have hown:=h.own;have hkey:keyOf Tryz.prog 9 (.string s)=some (keyL s):=Go.WideMaps.keyOf_string_mk Tryz.underlying9 (by unfold maxLen;omega);have HA:=has_setN a s;have H:Hid (NamesIn A w0 w rb bx mb a):=h;clear h;go_enter Tryz.func147,Tryz.ntmps147
 go_wp2_with (first
  | (at_lookup;refine wpList_lookup_own_unit _ rfl _ _ 211 rfl 9 214 Tryz.lawStr Tryz.underlying211 (Tryz.zeroUnit _) mb a.length _ rfl hown _ _ rfl hkey ?_)
  | (at_mapUpdate;refine wpList_mapUpdate_own _ rfl _ _ _ 211 rfl 9 214 Tryz.lawStr Tryz.underlying211 (unitElem (H:=Unit)) mb a.length _ rfl (hown.alloc _) (by unfold maxLen;omega) _ _ _ rfl rfl hkey _ [] unitElem_mk ?_;intro w1 hown1 hgrow1)
  | go_in)
 go_ret;exact⟨rfl,(H.out.below ((Below.refl _ _).alloc (Nat.le_refl _) _)).grown hgrow1 (by rw[setN_snoc];simpa using hown1),fun p v hne e=>cell_grown hgrow1 hne (cell_below ((Below.refl _ _).alloc (Nat.le_refl _) _) e)⟩
end Go.Proofs.YtffpcbdlbcjihadGreatDoor
namespace Go.Proofs.YtffpcbdlbcjihadGreatDoor
open Go.RowKit Go.Extern.Stop Go.Stop Go.Extern Go.Maps
open Go.ChangeMaps (setBlock heap_setBlock_same)
def wordB (k:Nat):ByteArray:=⟨(scWord k).toArray⟩
def cmFn:Nat->Nat
 | 0=>49
 | 1=>52
 | 2=>54
 | 3=>56
 | 4=>58
 | 5=>60
 | 6=>62
 | 7=>65
 | 8=>67
 | 9=>69
 | 10=>71
 | 11=>73
 | 12=>75
 | _=>77
def CmdV (lo:Nat)(w:World)(pb k:Nat)(v:Value):Prop:=∃ sv,v=.agg #[sv,.func (.func (cmFn k)) #[] #[.pointer (some ⟨pb,0,none⟩)]]/\SlAt encI 1 w sv (scDigs k)/\∀ b,sv.ownBlock=some b->lo<=b
structure CmL (lo:Nat)(w:World)(pb mb:Nat)(bx:Array Value)(n:Nat):Prop where
 box:w.heap[pb]?=some (.cells bx 66 (0,0))
 lob:lo<=pb
 lom:lo<=mb
 ex:∃ es:Array MapEntry,w.heap[mb]?=some (.map es n)/\es.size=n/\∀ k,k < n->∃ v,es[k]?=some ⟨.string (wordB k),v,k⟩/\CmdV lo w pb k v
structure CmN (w0 w:World)(pb mb:Nat)(bx:Array Value)(n:Nat):Prop extends CmL w0.heap.size w pb mb bx n where
 bel:Below w0.heap.size w0 w
section
variable {w0 w w':World}{lo pb mb n k:Nat}{bx:Array Value}{v:Value}
theorem CmdV.cells (h:CmdV lo w pb k v)(hc:∀ a u,w.cell? a=some u->lo<=a.block->w'.cell? a=some u):CmdV lo w' pb k v:=by
 obtain⟨sv,h1,⟨sa,cap,rfl,h0,h2⟩,h3⟩:=h
 refine⟨_,h1,⟨sa,cap,rfl,h0,fun hne=>?_⟩,h3⟩;obtain⟨b,o,rfl,h4⟩:=h2 hne;exact⟨b,o,rfl,fun i x hx j u hu=>hc _ _ (h4 i x hx j u hu) (h3 b rfl)⟩
theorem CmL.kept (h:CmL lo w pb mb bx n)(hk:∀ k,lo<=k->k < w.heap.size->w'.heap[k]?=w.heap[k]?):CmL lo w' pb mb bx n:=by
 obtain⟨es,h1,h2,h3⟩:=h.ex
 refine⟨(hk pb h.lob (lt_of_row h.box)).trans h.box,h.lob,h.lom,es,(hk mb h.lom (by rcases Nat.lt_or_ge mb w.heap.size with a | a;exact a;rw[Array.getElem?_eq_none a] at h1;cases h1)).trans h1,h2,fun k hk'=>?_⟩;obtain⟨v,h4,h5⟩:=h3 k hk'
 refine⟨v,h4,h5.cells (fun a u hu hl=>?_)⟩;have:=hk a.block hl (block_lt hu);simp only[World.cell?,this] at hu ⊢;exact hu
theorem CmN.below (h:CmN w0 w pb mb bx n)(hb:Below w.heap.size w w'):CmN w0 w' pb mb bx n:=⟨h.toCmL.kept (fun k _ hk=>hb.block k hk),h.bel.trans (hb.mono h.bel.size)⟩
theorem CmN.alloc (h:CmN w0 w pb mb bx n)(o:Obj):CmN w0 (w.alloc o) pb mb bx n:=h.below (Below.one w o)
theorem wordB_inj:∀ a:Fin 14,∀ b:Fin 14,scWord a.1=scWord b.1->a=b:=by decide
theorem wordB_ne {j:Nat}(hj:j < 14)(hk:k < 14)(h:Value.string (wordB j)=.string (wordB k)):j=k:=by
 have h1:=Value.string.inj h;unfold wordB at h1;have h2:=congrArg (fun b:ByteArray=>b.data.toList) h1;have h3:=wordB_inj ⟨j,hj⟩ ⟨k,hk⟩ (by simpa using h2);exact congrArg Fin.val h3
theorem word_key (s:ByteArray)(hs:s.size<=1000000):keyOf Tryz.prog 9 (.string s)=some (keyL s):=Go.WideMaps.keyOf_string_mk Tryz.underlying9 (by unfold maxLen;omega)
theorem wordB_size (k:Nat):(wordB k).size<=1000000:=by
 unfold wordB scWord
 split <;> decide
theorem CmN.keys {es:Array MapEntry}(h3:∀ k,k < n->∃ v,es[k]?=some (⟨.string (wordB k),v,k⟩:MapEntry)/\CmdV lo w pb k v)(h2:es.size=n):∀ e∈es.toList,∃ l,keyOf Tryz.prog 9 e.key=some l:=by
 intro e he;obtain⟨i,hi,rfl⟩:=List.getElem_of_mem he;have hi':i < n:=by rw[<- h2];simpa using hi
 obtain⟨v,h4,-⟩:=h3 i hi';have:es.toList[i]?=some es.toList[i]:=List.getElem?_eq_getElem hi;rw[Array.getElem?_toList,h4] at this;rw[<- Option.some.inj this];exact⟨_,word_key _ (wordB_size _)⟩
theorem CmN.put (h:CmN w0 w pb mb bx n)(hn:n < 14)(hv:CmdV w0.heap.size w pb n v) :
  ∃ w',(Instr.mapUpdate 69 (.map (some mb)) (.string (wordB n)) v).run Tryz.prog w=.ok () w'/\CmN w0 w' pb mb bx (n+1):=by
 obtain⟨es,hb,h2,h3⟩:=h.ex;have hkey:=word_key (wordB n) (wordB_size n);have hk:=CmN.keys h3 h2
 rcases Tryz.lawStr.find w hkey es.toList hk with ⟨f1,f2⟩ | ⟨j,e,f1,f2,f3⟩
 ·refine⟨setBlock w mb (.map (es.push ⟨.string (wordB n),v,n⟩) (n+1)),?_,?_⟩
  ·simp[Instr.mapUpdate,run_underlying Tryz.underlying69,MapKept.run_getObj_map hb,Tryz.lawStr.check w false hkey,f1,MapKept.run_setObj_map _ hb,Result.andThen,setBlock]
  ·have hne:pb≠mb:=fun e=>by have:=h.box;rw[e,hb] at this;cases this
   have hother:∀ k,k≠mb->(setBlock w mb (.map (es.push ⟨.string (wordB n),v,n⟩) (n+1))).heap[k]?=w.heap[k]?:=fun k hk=>by
    show (w.heap.setIfInBounds mb _)[k]?=_
    rw[Array.getElem?_setIfInBounds_ne (fun e=>hk e.symm)]
   have hcell:∀ a u,w.cell? a=some u->(setBlock w mb (.map (es.push ⟨.string (wordB n),v,n⟩) (n+1))).cell? a=some u:=fun a u hu=>by
    by_cases ha:a.block=mb
    ·simp[World.cell?,ha,hb] at hu
    ·simp only[World.cell?,hother _ ha] at hu ⊢;exact hu
   refine⟨⟨(hother pb hne).trans h.box,h.lob,h.lom,_,heap_setBlock_same hb _,by rw[Array.size_push,h2],fun k hk'=>?_⟩,?_⟩;rotate_left
   ·exact⟨h.bel.os,h.bel.tape,h.bel.output,Nat.le_trans h.bel.size (by simp[setBlock]),fun k hk=>(hother k (by have:=h.lom;omega)).trans (h.bel.block k hk)⟩
   ·by_cases hkn:k=n
    ·subst hkn;exact⟨v,by rw[<- h2,Array.getElem?_push_size],hv.cells (fun a u hu _=>hcell a u hu)⟩
    ·obtain⟨u,h4,h5⟩:=h3 k (by omega);exact⟨u,by rw[Array.getElem?_push_lt (by omega)];rw[Array.getElem?_eq_getElem (by omega)] at h4;exact h4,h5.cells (fun a u hu _=>hcell a u hu)⟩
 ·have hj:j < n:=by have:=(List.getElem?_eq_some_iff.1 f2).1;rw[<- h2];simpa using this
  obtain⟨u,h4,-⟩:=h3 j hj;rw[Array.getElem?_toList,h4] at f2
  cases f2
  exact absurd (wordB_ne (by omega) hn f3) (by omega)
theorem wpList_insert_cm {ops:Array Oper}{rest:List Oper}{o:Oper}{a:Act}{Q:Exit->Act->World->Prop}(w:World)(h:CmN w0 w pb mb bx n)(hn:n < 14)(hg:o.guard=none)(m x u:Operand)(hop:o.op=Op.insert 69 m x u)(hm:a.eval m=.map (some mb))(hx:a.eval x=.string (wordB n))(hu:a.eval u=v)(hv:CmdV w0.heap.size w pb n v)
  (hK:∀ w',CmN w0 w' pb mb bx (n+1)->wpList Tryz.prog ops Q rest (a.put o.dst undef) w'):wpList Tryz.prog ops Q (o :: rest) a w:=by
 refine wpList_plain hg fun K' hK'=>?_
 obtain⟨w',hrun,h1⟩:=h.put hn hv;unfold Oper.wp;simp[execOp,hop,hm,hx,hu,hrun,Result.andThen]
 exact hK' _ _ (hK w' h1)
theorem cmdV_none (hk:scDigs k=[]):CmdV lo w pb k (.agg #[.slice none 0 0,.func (.func (cmFn k)) #[] #[.pointer (some ⟨pb,0,none⟩)]]):=⟨_,rfl,by rw[hk];exact⟨none,0,rfl,Nat.le_refl _,fun h=>absurd rfl h⟩,fun b hb=>by cases hb⟩
theorem slat_new (w:World)(xs:List Int):SlAt encI 1 (w.alloc (.cells (xs.map (Value.int .i64)).toArray 3)) (.slice (some ⟨w.heap.size,0,none⟩) xs.length xs.length) xs:=by
 refine⟨_,_,rfl,Nat.le_refl _,fun _=>⟨_,_,rfl,fun i x hx j u hu=>?_⟩⟩;have hj:j=0/\u=.int .i64 x:=by
  cases j with
  | zero=>exact⟨rfl,(Option.some.inj hu).symm⟩
  | succ j=>simp[encI] at hu
 obtain⟨rfl,rfl⟩:=hj;have h1:=heap_alloc_new w (.cells (xs.map (Value.int .i64)).toArray 3);simp only[World.cell?,h1];simp[hx]
theorem cmdV_some {g:Nat}(hg:w.heap.size=g)(hl:lo<=w.heap.size):CmdV lo (w.alloc (.cells ((scDigs k).map (Value.int .i64)).toArray 3)) pb k (.agg #[.slice (some ⟨g,0,none⟩) (scDigs k).length (scDigs k).length,.func (.func (cmFn k)) #[] #[.pointer (some ⟨pb,0,none⟩)]]):=hg ▸ ⟨_,rfl,slat_new w _,fun b hb=>by cases hb;exact hl⟩
theorem wpList_insert_some {ops:Array Oper}{rest:List Oper}{o:Oper}{a:Act}{Q:Exit->Act->World->Prop}{W:World}{g:Nat}(h:CmN w0 w pb mb bx n)(hW:W=w.alloc (.cells ((scDigs n).map (Value.int .i64)).toArray 3))(hg':w.heap.size=g)(hn:n < 14)(hg:o.guard=none)(m x u:Operand)(hop:o.op=Op.insert 69 m x u)(hm:a.eval m=.map (some mb))(hx:a.eval x=.string (wordB n))(hu:a.eval u=.agg #[.slice (some ⟨g,0,none⟩) (scDigs n).length (scDigs n).length,.func (.func (cmFn n)) #[] #[.pointer (some ⟨pb,0,none⟩)]])
  (hK:∀ w',CmN w0 w' pb mb bx (n+1)->wpList Tryz.prog ops Q rest (a.put o.dst undef) w'):wpList Tryz.prog ops Q (o :: rest) a W:=by
 subst hW;exact wpList_insert_cm _ (h.alloc _) hn hg m x u hop hm hx hu (cmdV_some hg' h.bel.size) hK
theorem CmN.new (w:World)(bx:Array Value):CmN w ((w.alloc (.cells bx 66)).alloc (.map #[] 0)) w.heap.size (w.heap.size+1) bx 0:=by
 have h1:=heap_alloc_new w (.cells bx 66);have h2:=heap_alloc_new (w.alloc (.cells bx 66)) (.map #[] 0);have hb:=Below.one (w.alloc (.cells bx 66)) (.map #[] 0)
 refine⟨⟨row_below hb h1,Nat.le_refl _,Nat.le_succ _,#[],?_,rfl,fun k hk=>absurd hk (Nat.not_lt_zero _)⟩,(Below.one w _).trans (hb.mono (Below.one w _).size)⟩;simpa using h2
end
def plRow (c:CfgD)(kb bc:Nat)(sv:Value):Array Value:=#[.pointer (some ⟨kb,0,none⟩),.pointer (some ⟨bc,0,none⟩),.int .i64 c.closed,.int .i64 c.opn,.int .i64 c.cycle,.int .i64 c.delay,sv]
section
variable {w0 w w':World}{lo pb mb n k:Nat}{bx:Array Value}{v:Value}
theorem CmL.look (h:CmL lo w pb mb bx 14)(s:ByteArray)(hs:s.size<=1000000) :
  (scKind (bl s)=none->(Instr.lookup 69 (.map (some mb)) (.string s) true).run Tryz.prog w=.ok (.tuple #[.agg #[.slice none 0 0,.nilFunc],.bool false]) w) /\
  ∀ k,scKind (bl s)=some k->∃ v,CmdV lo w pb k v/\(Instr.lookup 69 (.map (some mb)) (.string s) true).run Tryz.prog w=.ok (.tuple #[v,.bool true]) w:=by
 obtain⟨es,hb,h2,h3⟩:=h.ex;have hkey:=word_key s hs;have hw:∀ k,Value.string (wordB k)=.string s ↔ scWord k=bl s:=fun k=>by
  constructor
  ·intro e;have:=congrArg (fun b:ByteArray=>b.data.toList) (Value.string.inj e);simp only[wordB] at this;exact this
  ·intro e;show Value.string ⟨(scWord k).toArray⟩=_
   rw[e];show Value.string ⟨s.data.toList.toArray⟩=_
   rw[Array.toArray_toList]
 rcases Tryz.lawStr.find w hkey es.toList (CmN.keys h3 h2) with ⟨f1,f2⟩ | ⟨j,e,f1,f2,f3⟩
 ·refine⟨fun _=>by
   simp[Instr.lookup,run_underlying Tryz.underlying69,MapKept.run_getObj_map hb,Tryz.lawStr.check w _ hkey,f1,Result.andThen],fun k hk=>?_⟩
  obtain⟨h5,h6⟩:=scKind_some hk;obtain⟨v,h4,-⟩:=h3 k h5;exact absurd ((hw k).2 h6) (f2 _ (List.mem_of_getElem? (by rw[Array.getElem?_toList];exact h4)))
 ·have hj:j < 14:=by have:=(List.getElem?_eq_some_iff.1 f2).1;rw[<- h2];simpa using this
  obtain⟨u,h4,h5⟩:=h3 j hj;rw[Array.getElem?_toList,h4] at f2
  cases f2
  have hjs:=(hw j).1 f3
  refine⟨fun hk=>absurd hjs (scKind_none hk j hj),fun k hk=>?_⟩;obtain⟨h7,h8⟩:=scKind_some hk;obtain rfl:k=j:=wordB_ne h7 hj (((hw k).2 h8).trans (show Value.string (wordB j)=.string s from f3).symm);exact⟨u,h5,by simp[Instr.lookup,run_underlying Tryz.underlying69,MapKept.run_getObj_map hb,Tryz.lawStr.check w _ hkey,f1,Result.andThen]⟩
end
set_option maxHeartbeats 4000000 in
set_option maxRecDepth 100000 in
theorem commands_at (c:CfgD)(kb bc:Nat)(sv:Value)(w:World) :
  Calls Tryz.prog 23 #[.agg (plRow c kb bc sv)] w fun e w'=>e=.returned (.map (some (w.heap.size+1)))/\CmN w w' w.heap.size (w.heap.size+1) (plRow c kb bc sv) 14:=by
 have HM:=CmN.new w (plRow c kb bc sv);have hmm:=@run_makeMap Tryz.prog;unfold plRow at HM ⊢;go_enter Tryz.func23,Tryz.ntmps23
 go_wp2_with (first
  | (refine wpList_insert_some HM rfl ?_ (by decide) rfl _ _ _ rfl rfl rfl rfl ?_;(first | rfl | simp);clear HM;intro W HM)
  | (refine wpList_insert_cm _ HM (by decide) rfl _ _ _ rfl rfl rfl rfl (cmdV_none rfl) ?_;clear HM;intro W HM))
 go_ret;exact⟨rfl,HM⟩
end Go.Proofs.YtffpcbdlbcjihadGreatDoor
namespace Go.Proofs.YtffpcbdlbcjihadGreatDoor
open Go.RowKit Go.Extern.Stop Go.Stop Go.Extern
section
variable {A:Nat->Addr}{H:Nat->Nat->Prop}{F:Nat->Prop}{w0 w w':World}{c:CfgD}{kb bc bd rb bt:Nat}{lv:Value}{bs:List Nat}{K:KSt}{k W:Nat}
theorem KeIn.senv (h:KeIn H w0 w c kb bc bd rb bt lv bs K)(hs:SenK A w0):SenK A w:=hs.below h.bel
theorem ke_state (h:KeIn H w0 w c kb bc bd rb bt lv bs K) :
  Calls Tryz.prog 72 #[.pointer (some ⟨kb,0,none⟩)] w fun e w'=>e=.returned (.string (stateB K.on))/\w'=w:=by
 have c2:w.cell? ⟨kb,2,none⟩=some (.pointer (some ⟨bc,0,none⟩)):=h.cell 2 _ rfl;have c0:w.cell? ⟨kb,0,none⟩=some (.pointer (some ⟨bd,0,none⟩)):=h.cell 0 _ rfl;have HP:Hid _:=power_any bc K.c w h.ring.cells;have HD:Hid _:=dog_reset bd K.d w h.dog;clear h
 cases ho:K.c.off
 ·cases hr:K.d.reset
  ·have HO:Hid (K.on=0):=by show _=_;unfold KSt.on;rw[ho,hr];rfl
   rw[ho] at HP;rw[hr] at HD;go_enter Tryz.func72,Tryz.ntmps72
   go_wp2_with fail
   refine Calls.mono HP.out ?_;rintro e w' ⟨rfl,rfl⟩;go_wp2_with fail
   refine Calls.mono HD.out ?_;rintro e w' ⟨rfl,rfl⟩;go_wp2;go_ret;exact⟨by rw[HO.out];rfl,rfl⟩
  ·have HO:Hid (K.on=11):=by show _=_;unfold KSt.on;rw[ho,hr];rfl
   rw[ho] at HP;rw[hr] at HD;go_enter Tryz.func72,Tryz.ntmps72
   go_wp2_with fail
   refine Calls.mono HP.out ?_;rintro e w' ⟨rfl,rfl⟩;go_wp2_with fail
   refine Calls.mono HD.out ?_;rintro e w' ⟨rfl,rfl⟩;go_wp2;go_ret;exact⟨by rw[HO.out];rfl,rfl⟩
 ·have HO:Hid (K.on=8):=by show _=_;unfold KSt.on;rw[ho];rfl
  rw[ho] at HP;go_enter Tryz.func72,Tryz.ntmps72
  go_wp2_with fail
  refine Calls.mono HP.out ?_;rintro e w' ⟨rfl,rfl⟩;go_wp2;go_ret;exact⟨by rw[HO.out];rfl,rfl⟩
theorem ke_ready (h:KeIn H w0 w c kb bc bd rb bt lv bs K)(hs:SenK A w0) :
  Calls Tryz.prog 168 #[.pointer (some ⟨kb,0,none⟩)] w fun e w'=>e=.returned (errVal A K.on)/\w'=w:=by
 have HC:Hid _:=ke_state h;have g7:=(h.senv hs).c7;have g10:=(h.senv hs).c10;clear h hs
 rcases K.on_cases with ho | ho | ho
 all_goals
  rw[ho] at HC ⊢;go_enter Tryz.func168,Tryz.ntmps168
  go_wp2_with fail
  refine Calls.mono HC.out ?_;rintro e w' ⟨rfl,rfl⟩
  first | rw[show stateB 0=⟨#[111,110]⟩ from rfl] | rw[show stateB 8=⟨#[111,102,102]⟩ from rfl] | rw[show stateB 11=⟨#[114,101,115,101,116]⟩ from rfl]
  go_wp2;go_ret;exact⟨rfl,rfl⟩
theorem ke_find_no (i:Int)(h:KeIn H w0 w c kb bc bd rb bt lv bs K)(hs:SenK A w0)(hi:i < 0\/(K.ls.length:Int)<=i) :
  Calls Tryz.prog 118 #[.pointer (some ⟨kb,0,none⟩),.int .i64 i] w fun e w'=>e=.returned (.tuple #[.pointer none,errVal A 5])/\Below w.heap.size w w':=by
 have c5:w.cell? ⟨kb,5,none⟩=some lv:=h.cell 5 _ rfl;have g4:=(h.senv hs).c4;obtain⟨la,lc,rfl⟩:=ow_form h.own;rw[show bs.length=K.ls.length by rw[h.blen,h.llen]] at c5;clear h hs
 by_cases h0:i < 0
 ·clear hi;go_enter Tryz.func118,Tryz.ntmps118
  go_wp2_with fail
  go_quiet (fail)
  go_wp2;go_ret2
  exact⟨rfl,below_drewN (Below.refl _ _) _⟩
 ·have h1:(K.ls.length:Int)<=i:=by omega
  clear hi;go_enter Tryz.func118,Tryz.ntmps118
  go_wp2_with fail
  go_quiet (fail)
  go_wp2;go_ret2
  exact⟨rfl,below_drewN (Below.refl _ _) _⟩
theorem ke_find (n:Nat){b g cap:Nat}(h:KeIn H w0 w c kb bc bd rb bt lv bs K)(hn:n < K.ls.length)(hlv:lv=.slice (some ⟨g,0,none⟩) K.ls.length cap)(hc:w.cell? ⟨g,n,none⟩=some (.pointer (some ⟨b,0,none⟩))) :
  Calls Tryz.prog 118 #[.pointer (some ⟨kb,0,none⟩),.int .i64 (n:Int)] w fun e w'=>e=.returned (.tuple #[.pointer (some ⟨b,0,none⟩),.nilIface])/\w'=w:=by
 have c5:w.cell? ⟨kb,5,none⟩=some lv:=h.cell 5 _ rfl;subst hlv;clear h;have g0:¬(n:Int) < 0:=by omega
 have g1:¬(K.ls.length:Int)<=(n:Int):=by omega
 have g2:(n:Int) < (K.ls.length:Int):=by omega
 go_enter Tryz.func118,Tryz.ntmps118
 go_wp2;go_ret2
 exact⟨rfl,rfl⟩
theorem errVal_pos {j:Nat}(h:j≠0):∃ i,errVal A j=.iface 400 (.pointer (some (A i))):=by
 cases j with
 | zero=>exact absurd rfl h
 | succ i=>exact⟨i,rfl⟩
theorem ke_reach_off (i:Int)(h:KeIn H w0 w c kb bc bd rb bt lv bs K)(hs:SenK A w0)(ho:K.on≠0) :
  Calls Tryz.prog 108 #[.pointer (some ⟨kb,0,none⟩),.int .i64 i] w fun e w'=>e=.returned (.tuple #[.pointer none,errVal A K.on])/\w'=w:=by
 have HC:Hid _:=ke_ready h hs;clear h;obtain⟨j,hj⟩:=errVal_pos (A:=A) ho;rw[hj] at HC ⊢;go_enter Tryz.func108,Tryz.ntmps108
 go_wp2_with fail
 refine Calls.mono HC.out ?_;rintro e w' ⟨rfl,rfl⟩;go_wp2;go_ret2
 exact⟨rfl,rfl⟩
theorem ke_reach_no (i:Int)(h:KeIn H w0 w c kb bc bd rb bt lv bs K)(hs:SenK A w0)(ho:K.on=0)(hi:i < 0\/(K.ls.length:Int)<=i) :
  Calls Tryz.prog 108 #[.pointer (some ⟨kb,0,none⟩),.int .i64 i] w fun e w'=>e=.returned (.tuple #[.pointer none,errVal A 5])/\Below w.heap.size w w':=by
 have HC:Hid _:=ke_ready h hs;have HX:Hid _:=ke_find_no i h hs hi;clear h hi;rw[ho,show errVal A 0=.nilIface from rfl] at HC;go_enter Tryz.func108,Tryz.ntmps108
 go_wp2_with fail
 refine Calls.mono HC.out ?_;rintro e w' ⟨rfl,rfl⟩;go_wp2_with fail
 refine Calls.mono HX.out ?_;rintro e w2 ⟨rfl,hb⟩;go_wp2;go_ret2
 exact⟨rfl,hb⟩
theorem ke_reach (n:Nat){b g cap:Nat}(h:KeIn H w0 w c kb bc bd rb bt lv bs K)(hs:SenK A w0)(ho:K.on=0)(hn:n < K.ls.length)(hlv:lv=.slice (some ⟨g,0,none⟩) K.ls.length cap)(hc:w.cell? ⟨g,n,none⟩=some (.pointer (some ⟨b,0,none⟩))) :
  Calls Tryz.prog 108 #[.pointer (some ⟨kb,0,none⟩),.int .i64 (n:Int)] w fun e w'=>e=.returned (.tuple #[.pointer (some ⟨b,0,none⟩),.nilIface])/\w'=w:=by
 have HC:Hid _:=ke_ready h hs;have HX:Hid _:=ke_find n h hn hlv hc;clear h hlv hc hn;rw[ho,show errVal A 0=.nilIface from rfl] at HC;go_enter Tryz.func108,Tryz.ntmps108
 go_wp2_with fail
 refine Calls.mono HC.out ?_;rintro e w' ⟨rfl,rfl⟩;go_wp2_with fail
 refine Calls.mono HX.out ?_;rintro e w2 ⟨rfl,rfl⟩;go_wp2;go_ret2
 exact⟨rfl,rfl⟩
theorem ke_now (h:KeIn H w0 w c kb bc bd rb bt lv bs K) :
  Calls Tryz.prog 64 #[.pointer (some ⟨kb,0,none⟩)] w fun e w'=>e=.returned (.int .i64 (K.d.now:Int))/\w'=w:=by
 have c0:w.cell? ⟨kb,0,none⟩=some (.pointer (some ⟨bd,0,none⟩)):=h.cell 0 _ rfl;have HX:Hid _:=dog_now bd K.d w h.dog;clear h;go_enter Tryz.func64,Tryz.ntmps64
 go_wp2_with fail
 refine Calls.mono HX.out ?_;rintro e w' ⟨rfl,rfl⟩;go_wp2;go_ret;exact⟨rfl,rfl⟩
theorem ke_kicks (h:KeIn H w0 w c kb bc bd rb bt lv bs K) :
  Calls Tryz.prog 66 #[.pointer (some ⟨kb,0,none⟩)] w fun e w'=>e=.returned (.int .i64 (K.d.kicks:Int))/\w'=w:=by
 have c0:w.cell? ⟨kb,0,none⟩=some (.pointer (some ⟨bd,0,none⟩)):=h.cell 0 _ rfl;have HX:Hid _:=dog_kicks bd K.d w h.dog;clear h;go_enter Tryz.func66,Tryz.ntmps66
 go_wp2_with fail
 refine Calls.mono HX.out ?_;rintro e w' ⟨rfl,rfl⟩;go_wp2;go_ret;exact⟨rfl,rfl⟩
theorem ke_total (h:KeIn H w0 w c kb bc bd rb bt lv bs K) :
  Calls Tryz.prog 70 #[.pointer (some ⟨kb,0,none⟩)] w fun e w'=>e=.returned (.string (totB K.t.st))/\w'=w:=by
 have c6:w.cell? ⟨kb,6,none⟩=some (.pointer (some ⟨bt,0,none⟩)):=h.cell 6 _ rfl;have HX:Hid _:=to_status h.to;clear h;go_enter Tryz.func70,Tryz.ntmps70
 go_wp2_with fail
 refine Calls.mono HX.out ?_;rintro e w' ⟨rfl,rfl⟩;go_wp2;go_ret;exact⟨rfl,rfl⟩
end
section
variable {A:Nat->Addr}{H:Nat->Nat->Prop}{F:Nat->Prop}{w0 w w':World}{c:CfgD}{kb bc bd rb bt:Nat}{lv:Value}{bs:List Nat}{K:KSt}{k W:Nat}
theorem ent_cases (K:KSt)(i:Int):(i < 0\/(K.ls.length:Int)<=i)\/∃ (n:Nat) (s:LSt),i=(n:Int)/\K.ls[n]?=some s/\n < K.ls.length:=by
 by_cases h:i < 0\/(K.ls.length:Int)<=i
 ·exact Or.inl h
 ·exact Or.inr ⟨i.toNat,_,by omega,List.getElem?_eq_getElem (by omega),by omega⟩
theorem ent_none_begin {i:Int}(ho:K.on=0)(hi:i < 0\/(K.ls.length:Int)<=i):K.begin i=(K,5):=by
 unfold KSt.begin;rw[if_neg (by omega)]
 by_cases h0:i < 0
 ·rw[if_pos h0]
 ·rw[if_neg h0,List.getElem?_eq_none (by omega)]
set_option maxHeartbeats 1000000 in
theorem ke_begin (i:Int)(h:KeAt F w0 w c kb bc K)(hs:SenK A w0)(hr:KRt c) :
  Calls Tryz.prog 51 #[.pointer (some ⟨kb,0,none⟩),.int .i64 i] w fun e w'=>e=.returned (errVal A (K.begin i).2)/\KePost F w0 w c kb bc (K.begin i).1 w':=by
 have HS:Hid (KePost F w0 w c kb bc K w):=KePost.same h;obtain⟨H,bd,rb,bt,lv,bs,h1,hF⟩:=h
 by_cases ho:K.on=0
 ·rcases ent_cases K i with hi | ⟨n,s,rfl,hsn,hn⟩
  ·have HB:Hid (K.begin i=(K,5)):=ent_none_begin ho hi;have HX:Hid _:=ke_reach_no i h1 hs ho hi;rw[show errVal A 5=.iface 400 (.pointer (some (A 4))) from rfl] at HX;clear h1 hF hi ho hs hr;go_enter Tryz.func51,Tryz.ntmps51
   go_wp2_with fail
   refine Calls.mono HX.out ?_;rintro e w2 ⟨rfl,hb⟩;go_wp2;go_ret;rw[HB.out];exact⟨rfl,HS.out.below hb⟩
  ·obtain⟨b,e,g,cap,hb,he,hlv,cp,h4⟩:=h1.locAt hsn;have hge:c.ents.getD n noEnt=e:=by rw[List.getD_eq_getElem?_getD,he];rfl
   have HB:Hid (K.begin (n:Int)=(K.setL n (s.begin),s.begN)):=by
    show _=_
    unfold KSt.begin;rw[if_neg (by omega),if_neg (by omega),show ((n:Int)).toNat=n by omega,hsn]
   have HX:Hid _:=ke_reach n h1 hs ho hn hlv cp;have HR:Hid _:=hr;have HE:Hid (e∈c.ents):=List.mem_of_getElem? he;have hsv:=h1.senv hs;have HL:Hid _:=los_begin (A:=A) h4 hsv.c9 (hr.each e HE.out).1 (hr.each e HE.out).2.2.2;have H1:Hid _:=h1;have HF:Hid _:=hF;have Hb:Hid (bs[n]?=some b/\c.ents[n]?=some e):=⟨hb,he⟩;clear h1 hF hs ho hsn hn hb he hlv cp h4 hge hsv hr HS;go_enter Tryz.func51,Tryz.ntmps51
   go_wp2_with fail
   refine Calls.mono HX.out ?_;rintro e w2 ⟨rfl,rfl⟩;go_wp2_with fail
   refine Calls.mono HL.out ?_;rintro u w3 ⟨rfl,hl,hof⟩;go_wp2;go_ret;rw[HB.out];exact⟨rfl,KeIn.post HF.out hof (H1.out.toLoc hof Hb.out.1 Hb.out.2 hl)⟩
 ·have HB:Hid (K.begin i=(K,K.on)):=by show _=_;unfold KSt.begin;rw[if_pos ho]
  have HX:Hid _:=ke_reach_off i h1 hs ho;obtain⟨j,hj⟩:=errVal_pos (A:=A) ho;have HJ:Hid _:=hj;rw[hj] at HX;clear h1 hF ho hs hj hr;go_enter Tryz.func51,Tryz.ntmps51
  go_wp2_with fail
  refine Calls.mono HX.out ?_;rintro e w2 ⟨rfl,rfl⟩;go_wp2;go_ret;rw[HB.out,HJ.out];exact⟨rfl,HS.out⟩
theorem ent_none_stop {i:Int}(ho:K.on=0)(hi:i < 0\/(K.ls.length:Int)<=i):K.stop i=(K,5):=by
 unfold KSt.stop;rw[if_neg (by omega)]
 by_cases h0:i < 0
 ·rw[if_pos h0]
 ·rw[if_neg h0,List.getElem?_eq_none (by omega)]
set_option maxHeartbeats 1000000 in
theorem ke_stop (i:Int)(h:KeAt F w0 w c kb bc K)(hs:SenK A w0)(hr:KRt c) :
  Calls Tryz.prog 53 #[.pointer (some ⟨kb,0,none⟩),.int .i64 i] w fun e w'=>e=.returned (errVal A (K.stop i).2)/\KePost F w0 w c kb bc (K.stop i).1 w':=by
 have HS:Hid (KePost F w0 w c kb bc K w):=KePost.same h;obtain⟨H,bd,rb,bt,lv,bs,h1,hF⟩:=h
 by_cases ho:K.on=0
 ·rcases ent_cases K i with hi | ⟨n,s,rfl,hsn,hn⟩
  ·have HB:Hid (K.stop i=(K,5)):=ent_none_stop ho hi;have HX:Hid _:=ke_reach_no i h1 hs ho hi;rw[show errVal A 5=.iface 400 (.pointer (some (A 4))) from rfl] at HX;clear h1 hF hi ho hs hr;go_enter Tryz.func53,Tryz.ntmps53
   go_wp2_with fail
   refine Calls.mono HX.out ?_;rintro e w2 ⟨rfl,hb⟩;go_wp2;go_ret;rw[HB.out];exact⟨rfl,HS.out.below hb⟩
  ·obtain⟨b,e,g,cap,hb,he,hlv,cp,h4⟩:=h1.locAt hsn;have hge:c.ents.getD n noEnt=e:=by rw[List.getD_eq_getElem?_getD,he];rfl
   have HB:Hid (K.stop (n:Int)=(K.setL n (s.stop),s.stopN)):=by
    show _=_
    unfold KSt.stop;rw[if_neg (by omega),if_neg (by omega),show ((n:Int)).toNat=n by omega,hsn]
   have HX:Hid _:=ke_reach n h1 hs ho hn hlv cp;have HR:Hid _:=hr;have HE:Hid (e∈c.ents):=List.mem_of_getElem? he;have hsv:=h1.senv hs;have HL:Hid _:=los_stop (A:=A) h4 hsv.c8;have H1:Hid _:=h1;have HF:Hid _:=hF;have Hb:Hid (bs[n]?=some b/\c.ents[n]?=some e):=⟨hb,he⟩;clear h1 hF hs ho hsn hn hb he hlv cp h4 hge hsv hr HS;go_enter Tryz.func53,Tryz.ntmps53
   go_wp2_with fail
   refine Calls.mono HX.out ?_;rintro e w2 ⟨rfl,rfl⟩;go_wp2_with fail
   refine Calls.mono HL.out ?_;rintro u w3 ⟨rfl,hl,hof⟩;go_wp2;go_ret;rw[HB.out];exact⟨rfl,KeIn.post HF.out hof (H1.out.toLoc hof Hb.out.1 Hb.out.2 hl)⟩
 ·have HB:Hid (K.stop i=(K,K.on)):=by show _=_;unfold KSt.stop;rw[if_pos ho]
  have HX:Hid _:=ke_reach_off i h1 hs ho;obtain⟨j,hj⟩:=errVal_pos (A:=A) ho;have HJ:Hid _:=hj;rw[hj] at HX;clear h1 hF ho hs hj hr;go_enter Tryz.func53,Tryz.ntmps53
  go_wp2_with fail
  refine Calls.mono HX.out ?_;rintro e w2 ⟨rfl,rfl⟩;go_wp2;go_ret;rw[HB.out,HJ.out];exact⟨rfl,HS.out⟩
theorem ent_none_report {i:Int}{p:Int}(ho:K.on=0)(hi:i < 0\/(K.ls.length:Int)<=i):K.report c i p=(K,5):=by
 unfold KSt.report;rw[if_neg (by omega)]
 by_cases h0:i < 0
 ·rw[if_pos h0]
 ·rw[if_neg h0,List.getElem?_eq_none (by omega)]
set_option maxHeartbeats 1000000 in
theorem ke_report (i p:Int)(h:KeAt F w0 w c kb bc K)(hs:SenK A w0)(hr:KRt c)(hf:KFit c K k W)(hk:k < 1000) :
  Calls Tryz.prog 55 #[.pointer (some ⟨kb,0,none⟩),.int .i64 i,.int .i64 p] w fun e w'=>e=.returned (errVal A (K.report c i p).2)/\KePost F w0 w c kb bc (K.report c i p).1 w':=by
 have HS:Hid (KePost F w0 w c kb bc K w):=KePost.same h;obtain⟨H,bd,rb,bt,lv,bs,h1,hF⟩:=h
 by_cases ho:K.on=0
 ·rcases ent_cases K i with hi | ⟨n,s,rfl,hsn,hn⟩
  ·have HB:Hid (K.report c i p=(K,5)):=ent_none_report ho hi;have HX:Hid _:=ke_reach_no i h1 hs ho hi;rw[show errVal A 5=.iface 400 (.pointer (some (A 4))) from rfl] at HX;clear h1 hF hi ho hs hr hf hk;go_enter Tryz.func55,Tryz.ntmps55
   go_wp2_with fail
   refine Calls.mono HX.out ?_;rintro e w2 ⟨rfl,hb⟩;go_wp2;go_ret;rw[HB.out];exact⟨rfl,HS.out.below hb⟩
  ·obtain⟨b,e,g,cap,hb,he,hlv,cp,h4⟩:=h1.locAt hsn;have hge:c.ents.getD n noEnt=e:=by rw[List.getD_eq_getElem?_getD,he];rfl
   have HB:Hid (K.report c (n:Int) p=(K.setL n (s.rep e p (K.d.now:Int)),s.repN e p)):=by
    show _=_
    unfold KSt.report;rw[if_neg (by omega),if_neg (by omega),show ((n:Int)).toNat=n by omega,hsn];simp only[hge]
   have HX:Hid _:=ke_reach n h1 hs ho hn hlv cp;have HR:Hid _:=hr;have HE:Hid (e∈c.ents):=List.mem_of_getElem? he;have hsv:=h1.senv hs;have HL:Hid _:=los_report (A:=A) p (K.d.now:Int) h4 hsv.c8 hsv.c4 (hr.each e HE.out).1 (by have:=(hf.each s (List.mem_of_getElem? hsn)).2.1;omega) (by have:=hf.now;omega);have H1:Hid _:=h1;have HF:Hid _:=hF;have Hb:Hid (bs[n]?=some b/\c.ents[n]?=some e):=⟨hb,he⟩;have HNw:Hid _:=ke_now h1;clear h1 hF hs ho hsn hn hb he hlv cp h4 hge hsv hr HS hf hk;go_enter Tryz.func55,Tryz.ntmps55
   go_wp2_with fail
   refine Calls.mono HX.out ?_;rintro e w2 ⟨rfl,rfl⟩;go_wp2_with fail
   refine Calls.mono HNw.out ?_;rintro e w2 ⟨rfl,rfl⟩;go_wp2_with fail
   refine Calls.mono HL.out ?_;rintro u w3 ⟨rfl,hl,hof⟩;go_wp2;go_ret;rw[HB.out];exact⟨rfl,KeIn.post HF.out hof (H1.out.toLoc hof Hb.out.1 Hb.out.2 hl)⟩
 ·have HB:Hid (K.report c i p=(K,K.on)):=by show _=_;unfold KSt.report;rw[if_pos ho]
  have HX:Hid _:=ke_reach_off i h1 hs ho;obtain⟨j,hj⟩:=errVal_pos (A:=A) ho;have HJ:Hid _:=hj;rw[hj] at HX;clear h1 hF ho hs hj hr hf hk;go_enter Tryz.func55,Tryz.ntmps55
  go_wp2_with fail
  refine Calls.mono HX.out ?_;rintro e w2 ⟨rfl,rfl⟩;go_wp2;go_ret;rw[HB.out,HJ.out];exact⟨rfl,HS.out⟩
end
section
variable {A:Nat->Addr}{H:Nat->Nat->Prop}{F:Nat->Prop}{w0 w w':World}{c:CfgD}{kb bc bd rb bt:Nat}{lv:Value}{bs:List Nat}{K:KSt}{k W:Nat}
theorem ke_log (h:KeAt F w0 w c kb bc K)(hl:K.L.length<=8) :
  Calls Tryz.prog 125 #[.pointer (some ⟨kb,0,none⟩)] w fun e w'=>∃ v',e=.returned v'/\Recs w' w.heap.size v' K.L/\Below w.heap.size w w':=by
 obtain⟨H,bd,rb,bt,lv,bs,h1,-⟩:=h;have c4:w.cell? ⟨kb,4,none⟩=some (.pointer (some ⟨rb,0,none⟩)):=h1.cell 4 _ rfl;obtain⟨v,hv,-⟩:=h1.ring.ring;have HX:Hid _:=records_any _ rb bc v K.L K.sp w hv (by omega);clear h1 hv;go_enter Tryz.func125,Tryz.ntmps125
 go_wp2_with fail
 refine Calls.mono HX.out ?_;rintro e w1 ⟨v1,rfl,hr,hb⟩;go_wp2;go_ret;exact⟨_,rfl,hr,hb⟩
set_option maxRecDepth 100000 in
set_option maxHeartbeats 1000000 in
theorem ke_cause (h:KeAt F w0 w c kb bc K)(hl:K.L.length<=8) :
  Calls Tryz.prog 123 #[.pointer (some ⟨kb,0,none⟩)] w fun e w'=>e=.returned (.tuple #[(lastR K.L).val,.bool (decide (0 < K.L.length))])/\Below w.heap.size w w':=by
 obtain⟨H,bd,rb,bt,lv,bs,h1,-⟩:=h;have B1:=Below.one w (.cells #[.int .i64 ((Rec.none.seq:Nat):Int),.int .i64 ((Rec.none.ent:Nat):Int),.int .i64 ((Rec.none.kind:Nat):Int),.int .i64 ((Rec.none.tick:Nat):Int)] 118);have Z1:=RecRow.new w .none;have h2:=h1.below B1;obtain⟨W,hW⟩:∃ W,w.alloc (.cells #[.int .i64 ((Rec.none.seq:Nat):Int),.int .i64 ((Rec.none.ent:Nat):Int),.int .i64 ((Rec.none.kind:Nat):Int),.int .i64 ((Rec.none.tick:Nat):Int)] 118)=W:=⟨_,rfl⟩;rw[hW] at B1 Z1 h2;have HW:Hid (w.alloc (.cells #[.int .i64 0,.int .i64 0,.int .i64 0,.int .i64 0] 118)=W):=hW;clear hW;have c4:W.cell? ⟨kb,4,none⟩=some (.pointer (some ⟨rb,0,none⟩)):=h2.cell 4 _ rfl;obtain⟨v,hv,-⟩:=h2.ring.ring;have HX:Hid _:=last_any _ rb bc v K.L K.sp W hv (by omega);have HB1:Hid _:=B1;have HZ1:Hid _:=Z1;generalize lastR K.L=x at HX ⊢;clear h1 hv h2 B1 Z1;go_enter Tryz.func123,Tryz.ntmps123
 go_upto_region 1 with fail
 rw[HW.out];go_wp2_with fail
 refine Calls.mono HX.out ?_;rintro e w1 ⟨rfl,hb⟩;have Z2:RecRow w1 w.heap.size .none:=HZ1.out.below hb HZ1.out.lt;obtain⟨z0,z1,z2,z3⟩:=Z2.at;have f0:=Z2.frozen 0;have f1:=Z2.frozen 1;have f2:=Z2.frozen 2;have f3:=Z2.frozen 3;have HB2:Hid (Below w.heap.size w w1):=HB1.out.trans (hb.mono HB1.out.size);have HZ2:Hid _:=Z2;clear hb Z2 HX c4;unfold Rec.val;go_wp2_with fail
 refine bodyPost_ret (res_rec rfl _ _ w.heap.size x rfl (HZ2.out.set4 x).at) rfl ?_;exact⟨rfl,below_grown HB2.out (grown_set4 _ _ _ _ _ _) HB2.out.size (Nat.le_refl _)⟩
theorem ke_status_no (i:Int)(h:KeAt F w0 w c kb bc K)(hs:SenK A w0)(hi:i < 0\/(K.ls.length:Int)<=i) :
  Calls Tryz.prog 68 #[.pointer (some ⟨kb,0,none⟩),.int .i64 i] w fun e w'=>e=.returned (.tuple #[.string ⟨#[]⟩,errVal A 5])/\Below w.heap.size w w':=by
 obtain⟨H,bd,rb,bt,lv,bs,h1,-⟩:=h;have HX:Hid _:=ke_find_no i h1 hs hi;rw[show errVal A 5=.iface 400 (.pointer (some (A 4))) from rfl] at HX;clear h1 hs hi;go_enter Tryz.func68,Tryz.ntmps68
 go_wp2_with fail
 refine Calls.mono HX.out ?_;rintro e w1 ⟨rfl,hb⟩;go_wp2;go_ret2
 exact⟨rfl,hb⟩
theorem ke_status (n:Nat){s:LSt}(h:KeAt F w0 w c kb bc K)(hsn:K.ls[n]?=some s) :
  Calls Tryz.prog 68 #[.pointer (some ⟨kb,0,none⟩),.int .i64 (n:Int)] w fun e w'=>e=.returned (.tuple #[.string (statB s.status),.nilIface])/\w'=w:=by
 obtain⟨H,bd,rb,bt,lv,bs,h1,-⟩:=h;obtain⟨b,e,g,cap,hb,he,hlv,cp,h4⟩:=h1.locAt hsn;have HX:Hid _:=ke_find n h1 (List.getElem?_eq_some_iff.1 hsn).1 hlv cp;have HL:Hid _:=los_status h4;clear h1 hb he hlv cp h4;generalize statB s.status=y at HL ⊢;go_enter Tryz.func68,Tryz.ntmps68
 go_wp2_with fail
 refine Calls.mono HX.out ?_;rintro e w1 ⟨rfl,rfl⟩;go_wp2_with fail
 refine Calls.mono HL.out ?_;rintro e w1 ⟨rfl,rfl⟩;go_wp2;go_ret2
 exact⟨rfl,rfl⟩
end
structure Reads (w:World)(sa:Option Addr)(L:List Rec):Prop where
 at':L≠[]->∃ g o,sa=some ⟨g,o,.none⟩/\∀ i (h:i < L.length),w.cell? ⟨g,o+i*4,.none⟩=some (.int .i64 (L[i].seq:Int))/\w.cell? ⟨g,o+i*4+1,.none⟩=some (.int .i64 (L[i].ent:Int))/\w.cell? ⟨g,o+i*4+2,.none⟩=some (.int .i64 (L[i].kind:Int))/\w.cell? ⟨g,o+i*4+3,.none⟩=some (.int .i64 (L[i].tick:Int))
theorem Recs.reads {w:World}{B:Nat}{sa:Option Addr}{n c:Nat}{L:List Rec}(h:Recs w B (.slice sa n c) L):Reads w sa L/\n=L.length:=by
 rcases h.row_form with ⟨e,rfl⟩ | ⟨g,cap,e,-,hrow,-,-⟩
 ·cases e;exact⟨⟨fun h=>absurd rfl h⟩,rfl⟩
 ·simp only[Value.slice.injEq] at e;obtain⟨rfl,rfl,rfl⟩:=e
  refine⟨⟨fun _=>⟨g,0,rfl,fun i hi=>?_⟩⟩,rfl⟩;simp only[Nat.zero_add];exact(hrow.cells i hi).1
end Go.Proofs.YtffpcbdlbcjihadGreatDoor
