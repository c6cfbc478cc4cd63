/-
  Several texts as one: CfRFillB, CfOwnC, CfRSt.
-/
import Derived.Test.YtffpcbdlbcjihadGreatDoorP27S
namespace Go.Proofs.YtffpcbdlbcjihadGreatDoor
open Go.RowKit Go.Extern.Stop Go.Stop Go.Extern Go.Maps
structure FillRel (A:Nat->Addr)(pts:List ByteArray)(fs:List Nat)(tg:List (Nat × Nat))(ws:List ByteArray)(w:World)(k:Nat)(nn:Bool)(V:World):Prop where
 us:∃ us:List Value,us.length=k/\(∀ (i:Nat) f u,fs[i]?=some f->us[i]?=some u->Typed f u)/\(nn=false->∀ (i:Nat) f s u,fs[i]?=some f->ws[i]?=some s->us[i]?=some u->u=valOf f s (wordV (lookL pts) f (bl s)).2)/\Below w.heap.size (sets w (tg.take k) us) V
 code:(fillV (lookL pts) false fs (ws.map bl)).1=(fillV (lookL pts) nn (fs.drop k) ((ws.map bl).drop k)).1
theorem fill_start {A:Nat->Addr}{pts:List ByteArray}{fs:List Nat}{tg:List (Nat × Nat)}{ws:List ByteArray}{w:World}:FillRel A pts fs tg ws w 0 false w:=
 ⟨⟨[],rfl,fun i f u _ h=>by simp at h,fun _ i f s u _ _ h=>by simp at h,Below.refl _ _⟩,rfl⟩
theorem fill_next {A:Nat->Addr}{w V V':World}{pts:List ByteArray}{fs:List Nat}{tg:List (Nat × Nat)}{ws:List ByteArray}{k f:Nat}{nn:Bool}{s:ByteArray}{t:Nat × Nat}{u:Value}(h:FillRel A pts fs tg ws w k nn V)(h1:fs[k]?=some f)(h2:tg[k]?=some t)(h3:ws[k]?=some s)
  (hT:Typed f u) (hv:(wordV (lookL pts) f (bl s)).1=0->u=valOf f s (wordV (lookL pts) f (bl s)).2) (hb:Below V.heap.size (V.setCell ⟨t.1,t.2,none⟩ u) V') (hc:(wordV (lookL pts) f (bl s)).1≠1):FillRel A pts fs tg ws w (k+1) (nn || decide ((wordV (lookL pts) f (bl s)).1=5)) V':=by
 obtain⟨us,e0,e1,e2,e3⟩:=h.us;have hk:k < tg.length:=(List.getElem?_eq_some_iff.1 h2).1
 refine⟨⟨us++[u],by simp[e0],fun i g x hg hx=>?_,fun hn i g y x hg hy hx=>?_,?_⟩,?_⟩
 ·by_cases hi:i < us.length
  ·rw[List.getElem?_append_left hi] at hx;exact e1 i g x hg hx
  ·rw[List.getElem?_append_right (by omega)] at hx;have:i=us.length:=by
    have:=(List.getElem?_eq_some_iff.1 hx).1;simp at this
    omega
   subst this;simp at hx
   subst hx;rw[e0,h1] at hg
   cases hg
   exact hT
 ·rw[Bool.or_eq_false_iff,decide_eq_false_iff_not] at hn
  by_cases hi:i < us.length
  ·rw[List.getElem?_append_left hi] at hx;exact e2 hn.1 i g y x hg hy hx
  ·rw[List.getElem?_append_right (by omega)] at hx;have:i=us.length:=by
    have:=(List.getElem?_eq_some_iff.1 hx).1;simp at this
    omega
   subst this;simp at hx
   subst hx;rw[e0,h1] at hg
   cases hg
   rw[e0,h3] at hy
   cases hy
   refine hv ?_
   rcases wordV_cases (lookL pts) f (bl s) with h | h | h
   ·exact h
   ·exact absurd h hc
   ·exact absurd h hn.2
 ·have ht:tg.take (k+1)=tg.take k++[t]:=by rw[List.take_add_one,h2];rfl
  rw[ht,sets_snoc _ _ _ _ _ (by rw[List.length_take,e0];omega)];have:=Below.setBoth e3 ⟨t.1,t.2,none⟩ u
  refine this.trans (hb.mono ?_);have:=e3.size;rw[sets_size] at this;exact this
 ·rw[h.code,fillV_step h1 (by rw[List.getElem?_map,h3];rfl),if_neg hc]
theorem fill_ret {A:Nat->Addr}{w0 w V V':World}{rb:Nat}{pts:List ByteArray}{fs:List Nat}{tg:List (Nat × Nat)}{ws:List ByteArray}{wb wo ib k f:Nat}{nn:Bool}{s:ByteArray}{t:Nat × Nat}{u:Value}(hF:FillIn w0 rb pts fs tg ws wb wo ib w)(h:FillRel A pts fs tg ws w k nn V)(h1:fs[k]?=some f)(h2:tg[k]?=some t)(h3:ws[k]?=some s)
  (hT:Typed f u) (hb:Below V.heap.size (V.setCell ⟨t.1,t.2,none⟩ u) V') (hc:(wordV (lookL pts) f (bl s)).1=1):FillPost A pts fs tg ws w (.returned (errV A 1)) V':=by
 have hcode:(fillV (lookL pts) false fs (ws.map bl)).1=1:=by rw[h.code,fillV_step h1 (by rw[List.getElem?_map,h3];rfl),if_pos hc]
 obtain⟨us,e0,e1,e2,e3⟩:=h.us;have hk:k < tg.length:=(List.getElem?_eq_some_iff.1 h2).1;have hold:∀ i,∃ o:Value,∀ g x,fs[k+1+i]?=some g->tg[k+1+i]?=some x->w.cell? ⟨x.1,x.2,none⟩=some o/\Typed g o:=fun i=>by
  by_cases hi:k+1+i < tg.length
  ·have hi2:k+1+i < fs.length:=by rw[hF.len];exact hi
   obtain⟨⟨o,a1,a2⟩,-⟩:=hF.tgt (k+1+i) _ _ (List.getElem?_eq_getElem hi2) (List.getElem?_eq_getElem hi)
   refine⟨o,fun g x hg hx=>?_⟩;rw[List.getElem?_eq_getElem hi2] at hg;rw[List.getElem?_eq_getElem hi] at hx
   cases hg
   cases hx
   exact⟨a1,a2⟩
  ·refine⟨undef,fun g x _ hx=>?_⟩;rw[List.getElem?_eq_none (by omega)] at hx
   cases hx
 obtain⟨ov,hov⟩:=Classical.axiomOfChoice hold;obtain⟨vs,hvs⟩:∃ vs:List Value,vs=(List.range (tg.length - (k+1))).map ov:=⟨_,rfl⟩;have hvl:vs.length=tg.length - (k+1):=by rw[hvs];simp
 have hvi:∀ i x,vs[i]?=some x->x=ov i/\i < tg.length - (k+1):=fun i x hx=>by
  have hi:=(List.getElem?_eq_some_iff.1 hx).1;rw[hvl] at hi;rw[hvs,List.getElem?_map,List.getElem?_range hi] at hx;simp at hx
  exact⟨hx.symm,hi⟩
 refine⟨by rw[hcode],us++([u]++vs),?_,fun i g x hg hx=>?_,(fun hz=>by rw[hcode] at hz;cases hz),?_⟩
 ·simp[e0,hvl];omega
 ·by_cases hi:i < us.length
  ·rw[List.getElem?_append_left hi] at hx;exact e1 i g x hg hx
  ·rw[List.getElem?_append_right (by omega),e0] at hx
   by_cases hi2:i=k
   ·subst hi2;simp at hx
    subst hx;rw[h1] at hg
    cases hg
    exact hT
   ·rw[List.getElem?_append_right (by simp;omega)] at hx;obtain⟨rfl,q⟩:=hvi _ _ hx;have hii:k+1+(i - k - 1)=i:=by omega
    have hit:i < tg.length:=by simp at q;omega
    exact(hov (i - k - 1) g _ (by rw[hii];exact hg) (by rw[hii];exact List.getElem?_eq_getElem hit)).2
 ·have ht:tg=(tg.take k++[t])++tg.drop (k+1):=by
   have:tg.take (k+1)=tg.take k++[t]:=by rw[List.take_add_one,h2];rfl
   rw[<- this,List.take_append_drop]
  have hl:(tg.take k).length=us.length:=by rw[List.length_take,e0];omega
  have hse:sets w tg (us++([u]++vs))=(sets w (tg.take k) us).setCell ⟨t.1,t.2,none⟩ u:=by
   conv=>lhs;rw[ht]
   rw[<- List.append_assoc us [u] vs,sets_append _ _ _ _ _ (by simp[hl]),sets_snoc _ _ _ _ _ hl]
   refine sets_same _ _ _ (fun i b v hb' hv'=>?_);obtain⟨rfl,q⟩:=hvi _ _ hv';rw[List.getElem?_drop] at hb';have hif:k+1+i < fs.length:=by rw[hF.len];omega
   obtain⟨a1,-⟩:=hov i _ _ (List.getElem?_eq_getElem hif) hb';have hne:=take_ne hF.nd hb';have hnt:t≠b:=hne t (by
    have:tg.take (k+1+i)=tg.take (k+1)++(tg.drop (k+1)).take i:=by rw[List.take_add]
    rw[this,List.take_add_one,h2];simp)
   rw[cell_setOther (by
    by_cases e:t.1=b.1
    ·exact Or.inr (fun e2=>hnt (Prod.ext e e2))
    ·exact Or.inl e) rfl rfl,sets_cell _ _ _ _ _ (fun x hx=>hne x (by
     have:tg.take (k+1+i)=tg.take k++(tg.drop k).take (1+i):=by rw[Nat.add_assoc,List.take_add]
     rw[this];exact List.mem_append_left _ hx))]
   exact a1
  rw[hse];have:=Below.setBoth e3 ⟨t.1,t.2,none⟩ u
  refine this.trans (hb.mono ?_);have:=e3.size;rw[sets_size] at this;exact this
theorem fill_done {A:Nat->Addr}{w0 w V:World}{rb:Nat}{pts:List ByteArray}{fs:List Nat}{tg:List (Nat × Nat)}{ws:List ByteArray}{wb wo ib k:Nat}{nn:Bool}(hF:FillIn w0 rb pts fs tg ws wb wo ib w)(h:FillRel A pts fs tg ws w k nn V)(h1:fs.length=k)(h2:ws.length=k):FillPost A pts fs tg ws w (.returned (errV A (if nn then 5 else 0))) V:=by
 obtain⟨us,e0,e1,e2,e3⟩:=h.us;have hc:=h.code;rw[fillV_end h1 (by rw[List.length_map];exact h2)] at hc;have hk:tg.take k=tg:=List.take_of_length_le (by rw[<- hF.len];omega);rw[hk] at e3
 refine⟨by rw[hc],us,by rw[e0,<- hF.len];omega,e1,fun hz=>?_,e3⟩
 cases nn
 ·exact e2 rfl
 ·rw[hc] at hz;cases hz
structure FillLoop (A:Nat->Addr)(pts:List ByteArray)(fs:List Nat)(tg:List (Nat × Nat))(ws:List ByteArray)(w:World)(m i:Value)(wr:World):Prop where
 ex:∃ (k:Nat) (nn:Bool),k<=ws.length/\i=.int .i64 k/\m=errV A (if nn then 5 else 0)/\FillRel A pts fs tg ws w k nn wr
set_option maxHeartbeats 4000000 in
set_option maxRecDepth 100000 in
theorem fillR_at (A:Nat->Addr)(w0 w:World)(rb:Nat)(pts:List ByteArray)(fs:List Nat)(tg:List (Nat × Nat))(ws:List ByteArray)(sa:Option Addr)(wb wo wc ib:Nat)(hs:Sen6 A w0)(hF:FillIn w0 rb pts fs tg ws wb wo ib w)(hsa:ws≠[]->sa=some ⟨wb,wo,none⟩)(hn:ws.length<=1000000) :
  Calls Tryz.prog 262 #[.pointer (some ⟨rb,0,none⟩),.slice sa ws.length wc,.slice (some ⟨ib,0,none⟩) fs.length fs.length] w (FillPost A pts fs tg ws w):=by
 have HF:Hid (FillIn w0 rb pts fs tg ws wb wo ib w):=hF;have HS:Hid (Sen6 A w0):=hs;clear hF hs
 by_cases hl:fs.length=ws.length
 ·have l2:ws.length<=4:=by have:=HF.out.few;omega
  have HL:Hid (fs.length=ws.length):=hl;rw[hl];clear hl;go_enter Tryz.func262,Tryz.ntmps262
  go_wp2_with fail
  go_loopw [6,7,8,9,10,19] (fun _ m _ _ _ i wr=>FillLoop A pts fs tg ws w m i wr) (fun _ _ _ _ _ i _=>ws.length - (intOf i).toNat)
  case atStart=>exact⟨⟨0,false,Nat.zero_le _,rfl,rfl,fill_start⟩⟩
  case round=>
   obtain⟨k,nn,hk,rfl,hm,hR⟩:=hrel.ex;have HM:Hid (u7=errV A (if nn then 5 else 0)):=hm;clear hm;have HR:Hid (FillRel A pts fs tg ws w k nn wr):=hR;clear hR
   by_cases hlt:k < ws.length
   ·have k1:(k:Int) < (ws.length:Int):=by omega
    have k2:k < 4:=by omega
    have hsa':=hsa (fun e=>by rw[e] at hlt;simp at hlt);subst hsa';obtain⟨f,hf⟩:∃ f,fs[k]?=some f:=⟨_,List.getElem?_eq_getElem (by have:=HL.out;omega)⟩;obtain⟨t,ht⟩:∃ t,tg[k]?=some t:=⟨_,List.getElem?_eq_getElem (by have:=HF.out.len;have:=HL.out;omega)⟩;obtain⟨s,hss⟩:∃ s,ws[k]?=some s:=⟨_,List.getElem?_eq_getElem hlt⟩;have hat:FillAt A rb pts f s t wr/\wr.cell? ⟨wb,wo+k,none⟩=some (.string s)/\wr.cell? ⟨ib,k,none⟩=some (.iface (tgtTy f) (.pointer (some ⟨t.1,t.2,none⟩))):=by
     obtain⟨us,-,-,-,e3⟩:=HR.out.us;exact HF.out.at' HS.out e3 hf ht hss
    obtain⟨hat,c1,c2⟩:=hat;have HAt:Hid (FillAt A rb pts f s t wr):=hat;have HK:Hid (fs[k]?=some f/\tg[k]?=some t/\ws[k]?=some s):=⟨hf,ht,hss⟩;clear hat hf ht hss hsa;go_wp2_with fail
    refine(rword_at HAt.out).mono ?_;rintro v V1 ⟨rfl,u,hT,hv,hb⟩;have HU:Hid (Typed f u/\((wordV (lookL pts) f (bl s)).1=0->u=valOf f s (wordV (lookL pts) f (bl s)).2)/\Below wr.heap.size (wr.setCell ⟨t.1,t.2,none⟩ u) V1):=⟨hT,hv,hb⟩;have HE:Hid (Sen6 A V1):=by
     have h1:=(HF.out.lo t (List.mem_of_getElem? HK.out.2.1)).1;obtain⟨us,-,-,-,e3⟩:=HR.out.us;have hw:Below w0.heap.size w0 wr:=HF.out.bel.trans ((sets_below w0.heap.size w (tg.take k) us (fun x hx=>(HF.out.lo x (List.mem_of_mem_take hx)).1)).trans (e3.mono HF.out.bel.size));exact HS.out.below (hw.trans (((Below.refl _ wr).setCell (p:=⟨t.1,t.2,none⟩) h1 u).trans (hb.mono hw.size)))
    clear hT hv hb c1 c2 HAt;have d0:=HE.out.c0;have d4:=HE.out.c4;obtain⟨ie,hie,hcmp⟩:=Option.map_eq_some_iff.1 Tryz.isComp;obtain⟨je,hje,hjs⟩:=Option.map_eq_some_iff.1 Tryz.isSize
    rcases wordV_cases (lookL pts) f (bl s) with hc | hc | hc
    ·have e1:errV A (wordV (lookL pts) f (bl s)).1=.nilIface:=by rw[hc];rfl
     rw[e1];have n0:=run_eql_iface_nil_left (P:=Tryz.prog) (w:=V1) 400 (.pointer (some (A 0))) Tryz.underlying25;have n4:=run_eql_iface_nil_left (P:=Tryz.prog) (w:=V1) 400 (.pointer (some (A 4))) Tryz.underlying25;have HN:Hid (FillRel A pts fs tg ws w (k+1) nn V1):=by
      have:=fill_next HR.out HK.out.1 HK.out.2.1 HK.out.2.2 HU.out.1 HU.out.2.1 HU.out.2.2 (by rw[hc];decide);rw[hc] at this;show FillRel _ _ _ _ _ _ _ _ _
      simpa using this
     clear e1 hc;go_wp2;go_roundw
     case rel=>
      exact⟨⟨k+1,nn,by omega,by go_num,HM.out,HN.out⟩⟩
     case measure=>simp[intOf];omega
    ·have e1:errV A (wordV (lookL pts) f (bl s)).1=.iface 400 (.pointer (some (A 0))):=by rw[hc];rfl
     rw[e1];have n0:=run_eql_iface_ptr_same (P:=Tryz.prog) (w:=V1) (A 0) Tryz.underlying25 Tryz.underlying400 hie hcmp hje;have HP:Hid (FillPost A pts fs tg ws w (.returned (errV A 1)) V1):=fill_ret HF.out HR.out HK.out.1 HK.out.2.1 HK.out.2.2 HU.out.1 HU.out.2.2 hc;clear e1 hc;go_wp2;go_ret;exact HP.out
    ·have e1:errV A (wordV (lookL pts) f (bl s)).1=.iface 400 (.pointer (some (A 4))):=by rw[hc];rfl
     rw[e1];obtain⟨ca,ta,ha⟩:=HE.out.row 4 (by decide);obtain⟨cb,tb,hb⟩:=HE.out.row 0 (by decide);have n0:=run_eql_iface_ptr_other (P:=Tryz.prog) V1 Tryz.underlying25 Tryz.underlying400 hie hcmp hje (by rw[hjs];decide) (HE.out.ne 4 0 (by decide) (by decide) (by decide)) ha hb;have n4:=run_eql_iface_ptr_same (P:=Tryz.prog) (w:=V1) (A 4) Tryz.underlying25 Tryz.underlying400 hie hcmp hje;have HN:Hid (FillRel A pts fs tg ws w (k+1) true V1):=by
      have:=fill_next HR.out HK.out.1 HK.out.2.1 HK.out.2.2 HU.out.1 HU.out.2.1 HU.out.2.2 (by rw[hc];decide);rw[hc] at this;show FillRel _ _ _ _ _ _ _ _ _
      simpa using this
     clear e1 hc ha hb;go_wp2;go_roundw
     case rel=>
      exact⟨⟨k+1,true,by omega,by go_num,rfl,HN.out⟩⟩
     case measure=>simp[intOf];omega
   ·have k1:¬(k:Int) < (ws.length:Int):=by omega
    obtain rfl:k=ws.length:=by omega
    have HP:Hid (FillPost A pts fs tg ws w (.returned u7) wr):=by
     show FillPost _ _ _ _ _ _ _ _
     rw[HM.out];exact fill_done HF.out HR.out HL.out rfl
    go_wp2;go_ret;exact HP.out
 ·have l1:¬(ws.length:Int)=(fs.length:Int):=by omega
  have c0:=(HS.out.below HF.out.bel).c0;have HP:Hid (FillPost A pts fs tg ws w (.returned (errV A 1)) w):=by
   have hcode:(fillV (lookL pts) false fs (ws.map bl)).1=1:=fillV_len _ _ _ (by rw[List.length_map];exact hl);have hold:∀ i:Nat,∃ o:Value,∀ (g:Nat) (x:Nat × Nat),fs[i]?=some g->tg[i]?=some x->w.cell? ⟨x.1,x.2,none⟩=some o/\Typed g o:=fun i=>by
    by_cases hi:i < tg.length
    ·have hi2:i < fs.length:=by rw[HF.out.len];exact hi
     obtain⟨⟨o,a1,a2⟩,-⟩:=HF.out.tgt i _ _ (List.getElem?_eq_getElem hi2) (List.getElem?_eq_getElem hi)
     refine⟨o,fun g x hg hx=>?_⟩;rw[List.getElem?_eq_getElem hi2] at hg;rw[List.getElem?_eq_getElem hi] at hx
     cases hg
     cases hx
     exact⟨a1,a2⟩
    ·refine⟨undef,fun g x _ hx=>?_⟩;rw[List.getElem?_eq_none (by omega)] at hx
     cases hx
   obtain⟨ov,hov⟩:=Classical.axiomOfChoice hold;have hvi:∀ (i:Nat) x,((List.range tg.length).map ov)[i]?=some x->x=ov i/\i < tg.length:=fun i x hx=>by
    have hi:=(List.getElem?_eq_some_iff.1 hx).1;simp at hi
    rw[List.getElem?_map,List.getElem?_range hi] at hx;simp at hx
    exact⟨hx.symm,hi⟩
   refine⟨by rw[hcode],(List.range tg.length).map ov,by simp,fun i g x hg hx=>?_,(fun hz=>by rw[hcode] at hz;cases hz),?_⟩
   ·obtain⟨rfl,q⟩:=hvi _ _ hx;exact(hov i g _ hg (List.getElem?_eq_getElem q)).2
   ·rw[sets_same _ _ _ (fun i b v hb hv=>by
     obtain⟨rfl,q⟩:=hvi _ _ hv;have hif:i < fs.length:=by rw[HF.out.len];exact q
     exact(hov i _ _ (List.getElem?_eq_getElem hif) hb).1)]
    exact Below.refl _ _
  clear hsa;go_enter Tryz.func262,Tryz.ntmps262
  go_wp2;go_ret;exact HP.out
end Go.Proofs.YtffpcbdlbcjihadGreatDoor
namespace Go.Proofs.YtffpcbdlbcjihadGreatDoor
open Go.RowKit Go.Extern.Stop Go.Stop Go.Extern
def EntsOwn (B:Nat)(w:World)(v:Value)(es:List EntD):Prop:=
 ∃ cells,w.ownsRow B 83 10 v es.length cells/\∀ i e,es[i]?=some e->∃ pv gv ev fv lv,OwnParts B w e pv gv ev fv lv/\∀ j u,(entRow e pv gv ev fv lv)[j]?=some u->cells[i*10+j]?=some u
theorem EntsOwn.ents {B:Nat}{w:World}{v:Value}{es:List EntD}(h:EntsOwn B w v es):EntsAt w v es:=by
 obtain⟨cells,ho,hp⟩:=h
 rcases id ho.2 with ⟨rfl,h0⟩ | ⟨g,cap,cur,rfl,hB,r⟩
 ·have:es=[]:=List.eq_nil_of_length_eq_zero h0;subst this;exact⟨none,0,rfl,fun e=>absurd rfl e⟩
 ·refine⟨_,cap,rfl,fun _=>⟨g,0,rfl,fun i e he=>?_⟩⟩;obtain⟨pv,gv,ev,fv,lv,h1,h2⟩:=hp i e he
  refine⟨pv,gv,ev,fv,lv,h1.parts,fun j u hu=>?_⟩;have:=ho.cells (g:=g) rfl (i*10+j) u (h2 j u hu);rw[addC_plain] at this;rw[Nat.add_assoc];exact this
theorem EntsOwn.nil (B:Nat)(w:World):EntsOwn B w (.slice none 0 0) []:=⟨[],World.ownsRow_nil _ _ _ _,fun i e h=>by simp at h⟩
theorem EntsOwn.below {B:Nat}{w w':World}{v:Value}{es:List EntD}(h:EntsOwn B w v es)(hb:Below w.heap.size w w'):EntsOwn B w' v es:=by
 obtain⟨cells,ho,hp⟩:=h
 refine⟨cells,ho.kept (row:=none) ⟨hb.os,hb.tape,hb.output,hb.size,fun k hk _=>hb.block k hk⟩ (by by_cases e:v.ownBlock=none;exact Or.inl e;exact Or.inr e),fun i e he=>?_⟩;obtain⟨pv,gv,ev,fv,lv,h1,h2⟩:=hp i e he;exact⟨pv,gv,ev,fv,lv,h1.below hb,h2⟩
theorem EntsOwn.other {B b:Nat}{w w':World}{v:Value}{es:List EntD}(h:EntsOwn B w v es)(hg:w.grownBy w' (some b)){c:Array Value}{fr:Nat × Nat}(hb:w.heap[b]?=some (.cells c 30 fr)):EntsOwn B w' v es:=by
 obtain⟨cells,ho,hp⟩:=h;have hne:v.ownBlock≠some b:=by
  rcases ho.2 with ⟨rfl,_⟩ | ⟨g,cap,cur,rfl,_,hg',_⟩
  ·simp[Value.ownBlock]
  ·intro e;simp only[Value.ownBlock,Option.some.injEq] at e;subst e;rw[hg'] at hb;simp only[Option.some.injEq,Obj.cells.injEq] at hb;exact absurd hb.2.1 (by decide)
 refine⟨cells,ho.kept hg (Or.inr hne),fun i e he=>?_⟩;obtain⟨pv,gv,ev,fv,lv,h1,h2⟩:=hp i e he;exact⟨pv,gv,ev,fv,lv,⟨h1.hp.other hg hb (by decide),h1.hg.other hg hb (by decide),h1.he.other hg hb (by decide),h1.hf.other hg hb (by decide),h1.hl.other hg hb (by decide)⟩,h2⟩
theorem Tryz.infoEnt:(Tryz.prog.info? 83).map (fun i=>(i.zero,i.size,i.bytes))=some (some (.agg #[.string ⟨#[]⟩,.int .i64 0,.slice none 0 0,.int .i64 0,.int .i64 0,.int .i64 0,.slice none 0 0,.slice none 0 0,.slice none 0 0,.slice none 0 0]),10,168):=by kernel_rfl
theorem Tryz.sizeCfg:(Tryz.prog.info? 30).map (·.size)=some 5:=by kernel_rfl
end Go.Proofs.YtffpcbdlbcjihadGreatDoor
namespace Go.Proofs.YtffpcbdlbcjihadGreatDoor
open Go.RowKit Go.Extern.Stop Go.Stop Go.Extern Go.Maps
structure PV5 where
 p:Value
 g:Value
 e:Value
 f:Value
 l:Value
def PV5.row (x:PV5)(e:EntD):Array Value:=entRow e x.p x.g x.e x.f x.l
def OwnX (B:Nat)(w:World)(e:EntD)(x:PV5):Prop:=OwnParts B w e x.p x.g x.e x.f x.l
structure LtX (L:Nat)(x:PV5):Prop where
 p:∀ b,x.p.ownBlock=some b->b < L
 g:∀ b,x.g.ownBlock=some b->b < L
 e:∀ b,x.e.ownBlock=some b->b < L
 f:∀ b,x.f.ownBlock=some b->b < L
 l:∀ b,x.l.ownBlock=some b->b < L
theorem own_lt {w:World}{B k n:Nat}{T:TypeId}{v:Value}{xs:List Value}(h:w.ownsRow B T k v n xs):∀ b,v.ownBlock=some b->b < w.heap.size:=fun b hb=>(h.lt b hb).2
theorem OwnX.ltx {B:Nat}{w:World}{e:EntD}{x:PV5}(h:OwnX B w e x):LtX w.heap.size x:=⟨own_lt h.hp,own_lt h.hg,own_lt h.he,own_lt h.hf,own_lt h.hl⟩
theorem OwnX.weak {B L:Nat}{w:World}{e:EntD}{x:PV5}(h:OwnX L w e x)(hB:B<=L):OwnX B w e x:=by
 have k:∀ {T:TypeId} {k n:Nat} {v:Value} {xs:List Value},w.ownsRow L T k v n xs->w.ownsRow B T k v n xs:=fun h=>by
  obtain⟨h1,h2 | ⟨g,cap,cur,a,b,c⟩⟩:=h
  ·exact⟨h1,Or.inl h2⟩
  ·exact⟨h1,Or.inr ⟨g,cap,cur,a,Nat.le_trans hB b,c⟩⟩
 exact⟨k h.hp,k h.hg,k h.he,k h.hf,k h.hl⟩
theorem own_ne {w:World}{B k n:Nat}{T T':TypeId}{v:Value}{xs:List Value}(h:w.ownsRow B T k v n xs){b:Nat}{c:Array Value}{fr:Nat × Nat}(hb:w.heap[b]?=some (.cells c T' fr))(hT:T'≠T):v.ownBlock≠some b:=by
 rcases h.2 with ⟨rfl,_⟩ | ⟨g,cap,cur,rfl,_,hg',_⟩
 ·simp[Value.ownBlock]
 ·intro e;simp only[Value.ownBlock,Option.some.injEq] at e;subst e;rw[hg'] at hb;simp only[Option.some.injEq,Obj.cells.injEq] at hb;exact absurd hb.2.1.symm hT
theorem own_nemap {w:World}{B k n:Nat}{T:TypeId}{v:Value}{xs:List Value}(h:w.ownsRow B T k v n xs){b:Nat}{es:Array MapEntry}{cl:Nat}(hb:w.heap[b]?=some (.map es cl)):v.ownBlock≠some b:=by
 rcases h.2 with ⟨rfl,_⟩ | ⟨g,cap,cur,rfl,_,hg',_⟩
 ·simp[Value.ownBlock]
 ·intro e;simp only[Value.ownBlock,Option.some.injEq] at e;subst e;rw[hg'] at hb
  cases hb
theorem own_ne2 {w:World}{B B' k n k' n':Nat}{T T':TypeId}{v v':Value}{xs xs':List Value}(h:w.ownsRow B T k v n xs)(h':w.ownsRow B' T' k' v' n' xs')(hT:T'≠T):v.ownBlock=none\/v.ownBlock≠v'.ownBlock:=by
 rcases h'.2 with ⟨rfl,_⟩ | ⟨g,cap,cur,rfl,_,hg',_⟩
 ·by_cases e:v.ownBlock=none
  ·exact Or.inl e
  ·exact Or.inr e
 ·exact Or.inr (own_ne h hg' hT)
theorem own_set {w:World}{B k n g cap i:Nat}{T:TypeId}{xs:List Value}(h:w.ownsRow B T k (.slice (some ⟨g,0,none⟩) n cap) n xs)(u:Value):(w.setCell ⟨g,i,none⟩ u).ownsRow B T k (.slice (some ⟨g,0,none⟩) n cap) n (xs.set i u):=by
 obtain⟨h1,h2 | ⟨g',cap',cur,a,b,c,d,e,f,q⟩⟩:=h
 ·cases h2.1
 ·simp only[Value.slice.injEq,Option.some.injEq,Addr.mk.injEq,and_true,true_and] at a;obtain⟨rfl,rfl⟩:=a
  refine⟨by rw[List.length_set];exact h1,Or.inr ⟨g,cap,cur.setIfInBounds i u,rfl,b,?_,d,e,by rw[Array.size_setIfInBounds];exact f,?_⟩⟩
  ·simp[World.setCell,Array.getElem?_modify,c]
  ·rw[Array.toList_setIfInBounds,List.take_set,q]
theorem grown_cell (w:World)(g i:Nat)(u:Value):w.grownBy (w.setCell ⟨g,i,none⟩ u) (some g):=⟨rfl,rfl,rfl,by simp[World.setCell],fun k _ hk=>Below.heap_setCell _ _ _ _ (fun e=>hk (by simp[e]))⟩
theorem OwnX.kept {B:Nat}{w w':World}{e:EntD}{x:PV5}{r:Option Nat}(h:OwnX B w e x)(hg:w.grownBy w' r)(hp:x.p.ownBlock=none\/x.p.ownBlock≠r)(hG:x.g.ownBlock=none\/x.g.ownBlock≠r)(he:x.e.ownBlock=none\/x.e.ownBlock≠r)(hf:x.f.ownBlock=none\/x.f.ownBlock≠r)(hl:x.l.ownBlock=none\/x.l.ownBlock≠r):OwnX B w' e x:=
 ⟨World.ownsRow.kept h.hp hg hp,World.ownsRow.kept h.hg hg hG,World.ownsRow.kept h.he hg he,World.ownsRow.kept h.hf hg hf,World.ownsRow.kept h.hl hg hl⟩
theorem OwnX.other {B b:Nat}{w w':World}{e:EntD}{x:PV5}(h:OwnX B w e x)(hg:w.grownBy w' (some b)){c:Array Value}{T:TypeId}{fr:Nat × Nat}(hb:w.heap[b]?=some (.cells c T fr))(h1:T≠9)(h2:T≠96)(h3:T≠97)(h4:T≠3):OwnX B w' e x:=
 h.kept hg (Or.inr (own_ne h.hp hb h1)) (Or.inr (own_ne h.hg hb h2)) (Or.inr (own_ne h.he hb h3)) (Or.inr (own_ne h.hf hb h4)) (Or.inr (own_ne h.hl hb h4))
theorem OwnX.mapped {B b:Nat}{w w':World}{e:EntD}{x:PV5}(h:OwnX B w e x)(hg:w.grownBy w' (some b)){es:Array MapEntry}{cl:Nat}(hb:w.heap[b]?=some (.map es cl)):OwnX B w' e x:=
 h.kept hg (Or.inr (own_nemap h.hp hb)) (Or.inr (own_nemap h.hg hb)) (Or.inr (own_nemap h.he hb)) (Or.inr (own_nemap h.hf hb)) (Or.inr (own_nemap h.hl hb))
theorem OwnX.far {B L:Nat}{w w':World}{e:EntD}{x:PV5}(h:OwnX B w e x)(hL:LtX L x){r:Option Nat}(hr:∀ b,r=some b->L<=b)(hg:w.grownBy w' r):OwnX B w' e x:=by
 have k:∀ v:Value,(∀ b,v.ownBlock=some b->b < L)->v.ownBlock=none\/v.ownBlock≠r:=fun v hv=>by
  cases e:v.ownBlock with
  | none=>exact Or.inl rfl
  | some b=>exact Or.inr (fun e2=>by have:=hv b e;have:=hr b e2.symm;omega)
 exact h.kept hg (k _ hL.p) (k _ hL.g) (k _ hL.e) (k _ hL.f) (k _ hL.l)
theorem fl_sym {a b:Option Nat}(h:a=none\/a≠b):b=none\/b≠a:=by
 rcases h with rfl | h
 ·cases b with
  | none=>exact Or.inl rfl
  | some=>exact Or.inr (by simp)
 ·exact Or.inr h.symm
def rdRow (c:CfgD)(ev:Value)(last:Int)(mv:Value):Array Value:=#[.int .i64 c.closed,.int .i64 c.opn,.int .i64 c.cycle,.int .i64 c.delay,ev,.int .i64 last,mv]
structure RdN (B rb:Nat)(w:World)(c:CfgD)(last:Int):Prop where
 lo:B<=rb
 nil:c.ents=[]
 row:w.heap[rb]?=some (.cells (rdRow c (.slice none 0 0) last (.map none)) 234 (0,0))
structure RdB (B rb L g cap mb:Nat)(w:World)(c:CfgD)(last:Int)(es:List EntD)(e:EntD)(x:PV5)(cells:List Value):Prop where
 lo:B<=rb
 loL:B<=L
 lom:B<=mb
 row:w.heap[rb]?=some (.cells (rdRow c (.slice (some ⟨g,0,none⟩) (es.length+1) cap) last (.map (some mb))) 234 (0,0))
 ents:w.ownsRow B 83 10 (.slice (some ⟨g,0,none⟩) (es.length+1) cap) (es.length+1) (cells++(x.row e).toList)
 clen:cells.length=es.length*10
 olds:∀ (i:Nat) e',es[i]?=some e'->∃ x',OwnX B w e' x'/\LtX L x'/\∀ (j:Nat) u,(x'.row e')[j]?=some u->cells[i*10+j]?=some u
 new:OwnX L w e x
 fl:x.f.ownBlock=none\/x.f.ownBlock≠x.l.ownBlock
structure RdE (B rb L g cap mb:Nat)(w:World)(c:CfgD)(last:Int)(es:List EntD)(e:EntD)(x:PV5)(cells:List Value):Prop extends RdB B rb L g cap mb w c last es e x cells where
 map:∃ D:DataW Unit,w.ownsMap Tryz.prog 9 (plainElem Tryz.prog 3) mb e.pts.length D/\PtsMap D e.pts
theorem RdB.grow {B rb L g cap mb:Nat}{w:World}{c:CfgD}{last:Int}{es:List EntD}{e:EntD}{x:PV5}{cells:List Value}(h:RdB B rb L g cap mb w c last es e x cells):∃ cur,w.heap[g]?=some (.cells cur 83 (0,0))/\B<=g:=by
 rcases h.ents.2 with ⟨h1,_⟩ | ⟨g',cap',cur,a,b,c',_⟩
 ·cases h1
 ·simp only[Value.slice.injEq,Option.some.injEq,Addr.mk.injEq,and_true,true_and] at a;obtain⟨rfl,rfl⟩:=a;exact⟨cur,c',b⟩
theorem RdB.ewcell {B rb L g cap mb:Nat}{w:World}{c:CfgD}{last:Int}{es:List EntD}{e:EntD}{x:PV5}{cells:List Value}(h:RdB B rb L g cap mb w c last es e x cells){j:Nat}{u:Value}(hu:(x.row e)[j]?=some u):w.cell? ⟨g,es.length*10+j,none⟩=some u/\w.frozen? ⟨g,es.length*10+j,none⟩=false:=by
 obtain⟨cur,hc,-⟩:=h.grow
 refine⟨?_,by simp[World.frozen?,hc]⟩;have:=h.ents.cells (g:=g) rfl (es.length*10+j) u (by rw[List.getElem?_append_right (by rw[h.clen];omega),h.clen,Nat.add_sub_cancel_left,Array.getElem?_toList];exact hu);rw[addC_plain] at this;simpa using this
theorem RdB.below {B rb L g cap mb:Nat}{w w':World}{c:CfgD}{last:Int}{es:List EntD}{e:EntD}{x:PV5}{cells:List Value}(h:RdB B rb L g cap mb w c last es e x cells)(hb:Below w.heap.size w w'):RdB B rb L g cap mb w' c last es e x cells:=by
 have hg:w.grownBy w' none:=⟨hb.os,hb.tape,hb.output,hb.size,fun k hk _=>hb.block k hk⟩;have k:∀ v:Value,v.ownBlock=none\/v.ownBlock≠none:=fun v=>by by_cases e:v.ownBlock=none;exact Or.inl e;exact Or.inr e
 have kx:∀ {B:Nat} {e:EntD} {x:PV5},OwnX B w e x->OwnX B w' e x:=fun hx=>hx.kept hg (k _) (k _) (k _) (k _) (k _)
 refine⟨h.lo,h.loL,h.lom,row_below hb h.row,h.ents.kept hg (k _),h.clen,fun i e' he=>?_,kx h.new,h.fl⟩;obtain⟨x',a,b,d⟩:=h.olds i e' he;exact⟨x',kx a,b,d⟩
theorem RdE.below {B rb L g cap mb:Nat}{w w':World}{c:CfgD}{last:Int}{es:List EntD}{e:EntD}{x:PV5}{cells:List Value}(h:RdE B rb L g cap mb w c last es e x cells)(hb:Below w.heap.size w w'):RdE B rb L g cap mb w' c last es e x cells:=by
 refine⟨h.toRdB.below hb,?_⟩;obtain⟨D,a,b⟩:=h.map;exact⟨D,a.kept (row:=none) ⟨hb.os,hb.tape,hb.output,hb.size,fun k hk _=>hb.block k hk⟩ (by simp),b⟩
theorem RdB.mapped {B rb L g cap mb b:Nat}{w w':World}{c:CfgD}{last:Int}{es:List EntD}{e:EntD}{x:PV5}{cells:List Value}(h:RdB B rb L g cap mb w c last es e x cells)(hg:w.grownBy w' (some b)){ms:Array MapEntry}{cl:Nat}(hb:w.heap[b]?=some (.map ms cl)):RdB B rb L g cap mb w' c last es e x cells:=by
 have hne:rb≠b:=fun e2=>by rw[<- e2,h.row] at hb;cases hb
 refine⟨h.lo,h.loL,h.lom,(hg.block rb (lt_of_row h.row) (by simpa using hne)).trans h.row,h.ents.kept hg (Or.inr (own_nemap h.ents hb)),h.clen,fun i e' he=>?_,h.new.mapped hg hb,h.fl⟩;obtain⟨x',a,b',d⟩:=h.olds i e' he;exact⟨x',a.mapped hg hb,b',d⟩
theorem RdE.setE {B rb L g cap mb:Nat}{w:World}{c:CfgD}{last:Int}{es:List EntD}{e e':EntD}{x x':PV5}{cells:List Value}(h:RdE B rb L g cap mb w c last es e x cells)(j:Nat)(u:Value)(hr:(x.row e).toList.set j u=(x'.row e').toList)(hx:OwnX L w e' x')(hfl:x'.f.ownBlock=none\/x'.f.ownBlock≠x'.l.ownBlock)(hpts:e'.pts=e.pts):RdE B rb L g cap mb (w.setCell ⟨g,es.length*10+j,none⟩ u) c last es e' x' cells:=by
 obtain⟨cur,hc,hB⟩:=h.grow;have hg:=grown_cell w g (es.length*10+j) u;have hne:rb≠g:=fun e2=>by rw[<- e2,h.row] at hc;simp at hc
 refine⟨⟨h.lo,h.loL,h.lom,(hg.block rb (lt_of_row h.row) (by simpa using hne)).trans h.row,?_,h.clen,fun i e2 he=>?_,?_,hfl⟩,?_⟩
 ·have:=own_set (i:=es.length*10+j) h.ents u;rw[List.set_append_right _ _ (by rw[h.clen];omega),h.clen,Nat.add_sub_cancel_left,hr] at this;exact this
 ·obtain⟨y,a,b,d⟩:=h.olds i e2 he;exact⟨y,a.other hg hc (by decide) (by decide) (by decide) (by decide),b,d⟩
 ·exact hx.other hg hc (by decide) (by decide) (by decide) (by decide)
 ·obtain⟨D,⟨es',cl,a1,a2⟩,b⟩:=h.map;rw[<- hpts] at a2 b
  refine⟨D,⟨es',cl,(hg.block mb (lt_of_row a1) (fun e2=>?_)).trans a1,a2⟩,b⟩;simp only[Option.some.injEq] at e2;rw[e2,hc] at a1
  cases a1
theorem RdB.app {B rb L g cap mb:Nat}{w w':World}{c:CfgD}{last:Int}{es:List EntD}{e e':EntD}{x x':PV5}{cells:List Value}{r:Option Nat}(h:RdB B rb L g cap mb w c last es e x cells)(hgr:w.grownBy w' r)(hL:∀ b,r=some b->L<=b)(hrb:r≠some rb)(hrg:r≠some g)(j:Nat)(u:Value)(hr:(x.row e).toList.set j u=(x'.row e').toList)(hx:OwnX L w' e' x')(hfl:x'.f.ownBlock=none\/x'.f.ownBlock≠x'.l.ownBlock)
  (hm:∃ D:DataW Unit,w'.ownsMap Tryz.prog 9 (plainElem Tryz.prog 3) mb e'.pts.length D/\PtsMap D e'.pts):RdE B rb L g cap mb (w'.setCell ⟨g,es.length*10+j,none⟩ u) c last es e' x' cells:=by
 obtain⟨cur,hc,hB⟩:=h.grow;have hc':w'.heap[g]?=some (.cells cur 83 (0,0)):=(hgr.block g (lt_of_row hc) (fun e2=>hrg e2.symm)).trans hc;have hrow:w'.heap[rb]?=_:=(hgr.block rb (lt_of_row h.row) (fun e2=>hrb e2.symm)).trans h.row;have hents:=h.ents.kept hgr (Or.inr (fun e2=>hrg e2.symm));have hg:=grown_cell w' g (es.length*10+j) u;have hne:rb≠g:=fun e2=>by rw[<- e2,h.row] at hc;simp at hc
 refine⟨⟨h.lo,h.loL,h.lom,(hg.block rb (lt_of_row hrow) (by simpa using hne)).trans hrow,?_,h.clen,fun i e2 he=>?_,?_,hfl⟩,?_⟩
 ·have:=own_set (i:=es.length*10+j) hents u;rw[List.set_append_right _ _ (by rw[h.clen];omega),h.clen,Nat.add_sub_cancel_left,hr] at this;exact this
 ·obtain⟨y,a,b,d⟩:=h.olds i e2 he;exact⟨y,(a.far b hL hgr).other hg hc' (by decide) (by decide) (by decide) (by decide),b,d⟩
 ·exact hx.other hg hc' (by decide) (by decide) (by decide) (by decide)
 ·obtain⟨D,⟨es',cl,a1,a2⟩,b⟩:=hm
  refine⟨D,⟨es',cl,(hg.block mb (lt_of_row a1) (fun e2=>?_)).trans a1,a2⟩,b⟩;simp only[Option.some.injEq] at e2;rw[e2,hc'] at a1
  cases a1
theorem RdE.mapKept {B rb L g cap mb:Nat}{w w':World}{c:CfgD}{last:Int}{es:List EntD}{e:EntD}{x:PV5}{cells:List Value}{T:TypeId}{k n:Nat}{v:Value}{xs:List Value}{B':Nat}(h:RdE B rb L g cap mb w c last es e x cells)(hv:w.ownsRow B' T k v n xs)(hgr:w.grownBy w' v.ownBlock):∃ D:DataW Unit,w'.ownsMap Tryz.prog 9 (plainElem Tryz.prog 3) mb e.pts.length D/\PtsMap D e.pts:=by
 obtain⟨D,a,b⟩:=h.map;obtain⟨es',cl,a1,a2⟩:=id a;exact⟨D,a.kept hgr (fun e2=>own_nemap hv a1 e2.symm),b⟩
theorem RdB.appPts {B rb L g cap mb:Nat}{w w':World}{c:CfgD}{last:Int}{es:List EntD}{e:EntD}{x:PV5}{cells:List Value}{g' cap':Nat}(h:RdB B rb L g cap mb w c last es e x cells)(q:ByteArray)(hm:∃ D:DataW Unit,w.ownsMap Tryz.prog 9 (plainElem Tryz.prog 3) mb (e.pts.length+1) D/\PtsMap D (e.pts++[q]))(hgr:w.grownBy w' x.p.ownBlock)(hown:w'.ownsRow L 9 1 (.slice (some ⟨g',0,none⟩) (e.pts.length+1) cap') (e.pts.length+1) (e.pts.flatMap encS++encS q)) :
  RdE B rb L g cap mb (w'.setCell ⟨g,es.length*10+2,none⟩ (.slice (some ⟨g',0,none⟩) (e.pts.length+1) cap')) c last es { e with pts:=e.pts++[q] } { x with p:=.slice (some ⟨g',0,none⟩) (e.pts.length+1) cap' } cells:=by
 obtain⟨cur,hc,-⟩:=h.grow
 refine h.app hgr (fun b hb=>(h.new.hp.lt b hb).1) (own_ne h.new.hp h.row (by decide)) (own_ne h.new.hp hc (by decide)) 2 _ rfl ⟨(by show w'.ownsRow _ _ _ _ _ _;simpa[List.flatMap_append] using hown),World.ownsRow.kept h.new.hg hgr (own_ne2 h.new.hg h.new.hp (by decide)),World.ownsRow.kept h.new.he hgr (own_ne2 h.new.he h.new.hp (by decide)),World.ownsRow.kept h.new.hf hgr (own_ne2 h.new.hf h.new.hp (by decide)),World.ownsRow.kept h.new.hl hgr (own_ne2 h.new.hl h.new.hp (by decide))⟩ h.fl ?_;obtain⟨D,a,b⟩:=hm;obtain⟨es',cl,a1,a2⟩:=id a;exact⟨D,by simpa using a.kept hgr (fun e2=>own_nemap h.new.hp a1 e2.symm),b⟩
theorem RdE.appGap {B rb L g cap mb:Nat}{w w':World}{c:CfgD}{last:Int}{es:List EntD}{e:EntD}{x:PV5}{cells:List Value}{g' cap':Nat}(h:RdE B rb L g cap mb w c last es e x cells)(q:GapD)(hgr:w.grownBy w' x.g.ownBlock)(hown:w'.ownsRow L 96 4 (.slice (some ⟨g',0,none⟩) (e.gaps.length+1) cap') (e.gaps.length+1) (e.gaps.flatMap encG++encG q)) :
  RdE B rb L g cap mb (w'.setCell ⟨g,es.length*10+6,none⟩ (.slice (some ⟨g',0,none⟩) (e.gaps.length+1) cap')) c last es { e with gaps:=e.gaps++[q] } { x with g:=(.slice (some ⟨g',0,none⟩) (e.gaps.length+1) cap') } cells:=by
 obtain⟨cur,hc,-⟩:=h.grow
 refine h.toRdB.app hgr (fun b hb=>(h.new.hg.lt b hb).1) (own_ne h.new.hg h.row (by decide)) (own_ne h.new.hg hc (by decide)) 6 _ rfl ⟨(World.ownsRow.kept h.new.hp hgr (own_ne2 h.new.hp h.new.hg (by decide))),(by show w'.ownsRow _ _ _ _ _ _;simpa[List.flatMap_append] using hown),(World.ownsRow.kept h.new.he hgr (own_ne2 h.new.he h.new.hg (by decide))),(World.ownsRow.kept h.new.hf hgr (own_ne2 h.new.hf h.new.hg (by decide))),(World.ownsRow.kept h.new.hl hgr (own_ne2 h.new.hl h.new.hg (by decide)))⟩ (h.fl) (h.mapKept h.new.hg hgr)
theorem RdE.appEdge {B rb L g cap mb:Nat}{w w':World}{c:CfgD}{last:Int}{es:List EntD}{e:EntD}{x:PV5}{cells:List Value}{g' cap':Nat}(h:RdE B rb L g cap mb w c last es e x cells)(q:(Int × Int))(hgr:w.grownBy w' x.e.ownBlock)(hown:w'.ownsRow L 97 2 (.slice (some ⟨g',0,none⟩) (e.edges.length+1) cap') (e.edges.length+1) (e.edges.flatMap encP++encP q)) :
  RdE B rb L g cap mb (w'.setCell ⟨g,es.length*10+7,none⟩ (.slice (some ⟨g',0,none⟩) (e.edges.length+1) cap')) c last es { e with edges:=e.edges++[q] } { x with e:=(.slice (some ⟨g',0,none⟩) (e.edges.length+1) cap') } cells:=by
 obtain⟨cur,hc,-⟩:=h.grow
 refine h.toRdB.app hgr (fun b hb=>(h.new.he.lt b hb).1) (own_ne h.new.he h.row (by decide)) (own_ne h.new.he hc (by decide)) 7 _ rfl ⟨(World.ownsRow.kept h.new.hp hgr (own_ne2 h.new.hp h.new.he (by decide))),(World.ownsRow.kept h.new.hg hgr (own_ne2 h.new.hg h.new.he (by decide))),(by show w'.ownsRow _ _ _ _ _ _;simpa[List.flatMap_append] using hown),(World.ownsRow.kept h.new.hf hgr (own_ne2 h.new.hf h.new.he (by decide))),(World.ownsRow.kept h.new.hl hgr (own_ne2 h.new.hl h.new.he (by decide)))⟩ (h.fl) (h.mapKept h.new.he hgr)
theorem RdE.appFirst {B rb L g cap mb:Nat}{w w':World}{c:CfgD}{last:Int}{es:List EntD}{e:EntD}{x:PV5}{cells:List Value}{g' cap':Nat}(h:RdE B rb L g cap mb w c last es e x cells)(q:Int)(hgr:w.grownBy w' x.f.ownBlock)(hown:w'.ownsRow L 3 1 (.slice (some ⟨g',0,none⟩) (e.first.length+1) cap') (e.first.length+1) (e.first.flatMap encI++encI q))(hne:∀ b,x.l.ownBlock=some b->b≠g') :
  RdE B rb L g cap mb (w'.setCell ⟨g,es.length*10+8,none⟩ (.slice (some ⟨g',0,none⟩) (e.first.length+1) cap')) c last es { e with first:=e.first++[q] } { x with f:=(.slice (some ⟨g',0,none⟩) (e.first.length+1) cap') } cells:=by
 obtain⟨cur,hc,-⟩:=h.grow
 refine h.toRdB.app hgr (fun b hb=>(h.new.hf.lt b hb).1) (own_ne h.new.hf h.row (by decide)) (own_ne h.new.hf hc (by decide)) 8 _ rfl ⟨(World.ownsRow.kept h.new.hp hgr (own_ne2 h.new.hp h.new.hf (by decide))),(World.ownsRow.kept h.new.hg hgr (own_ne2 h.new.hg h.new.hf (by decide))),(World.ownsRow.kept h.new.he hgr (own_ne2 h.new.he h.new.hf (by decide))),(by show w'.ownsRow _ _ _ _ _ _;simpa[List.flatMap_append] using hown),(World.ownsRow.kept h.new.hl hgr (fl_sym h.fl))⟩ (Or.inr (fun e1=>hne g' e1.symm rfl)) (h.mapKept h.new.hf hgr)
theorem RdE.appLast {B rb L g cap mb:Nat}{w w':World}{c:CfgD}{last:Int}{es:List EntD}{e:EntD}{x:PV5}{cells:List Value}{g' cap':Nat}(h:RdE B rb L g cap mb w c last es e x cells)(q:Int)(hgr:w.grownBy w' x.l.ownBlock)(hown:w'.ownsRow L 3 1 (.slice (some ⟨g',0,none⟩) (e.last.length+1) cap') (e.last.length+1) (e.last.flatMap encI++encI q))(hne:∀ b,x.f.ownBlock=some b->b≠g') :
  RdE B rb L g cap mb (w'.setCell ⟨g,es.length*10+9,none⟩ (.slice (some ⟨g',0,none⟩) (e.last.length+1) cap')) c last es { e with last:=e.last++[q] } { x with l:=(.slice (some ⟨g',0,none⟩) (e.last.length+1) cap') } cells:=by
 obtain⟨cur,hc,-⟩:=h.grow
 refine h.toRdB.app hgr (fun b hb=>(h.new.hl.lt b hb).1) (own_ne h.new.hl h.row (by decide)) (own_ne h.new.hl hc (by decide)) 9 _ rfl ⟨(World.ownsRow.kept h.new.hp hgr (own_ne2 h.new.hp h.new.hl (by decide))),(World.ownsRow.kept h.new.hg hgr (own_ne2 h.new.hg h.new.hl (by decide))),(World.ownsRow.kept h.new.he hgr (own_ne2 h.new.he h.new.hl (by decide))),(World.ownsRow.kept h.new.hf hgr h.fl),(by show w'.ownsRow _ _ _ _ _ _;simpa[List.flatMap_append] using hown)⟩ ((by cases e1:x.f.ownBlock with | none=>exact Or.inl rfl | some b=>exact Or.inr (fun e2=>hne b e1 (Option.some.inj e2)))) (h.mapKept h.new.hl hgr)
end Go.Proofs.YtffpcbdlbcjihadGreatDoor
