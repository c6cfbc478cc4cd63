/-
  Several texts as one: KeNew.
-/
import Derived.Test.YtffpcbdlbcjihadGreatDoorP32S
import Derived.Deep.AppendLies
namespace Go.Proofs.YtffpcbdlbcjihadGreatDoor
open Go.RowKit Go.Extern.Stop Go.Stop Go.Extern
theorem exec_appE {a:Act}{o:Oper}{s x:Operand}{t ty:TypeId}{vs vx v':Value}{V V':World}(ho:o.op=.call { callee:=.builtin .append,args:=#[s,x],argTypes:=#[t,t] })(hty:o.type=ty)(hs:a.eval s=vs)(hx:a.eval x=vx)
  (hr:(Builtin.append_ #[t,t] ty #[vs,vx]).run Tryz.prog V=.ok v' V'):(execOp a.eval o).run Tryz.prog V=.ok (.value v') V':=by
 subst hty hs hx;simp[execOp,ho,resolve,invoke,builtin,hr,Result.andThen]
theorem Tryz.infoPtrE:(Tryz.prog.info? 178).map (fun i=>(i.zero,i.size,i.bytes))=some (some (.pointer none),1,8):=by kernel_rfl
def nwK (kb:Nat)(lx ag:Value):Nat->Value
 | 0=>.pointer (some ⟨kb,0,none⟩)
 | 1=>.pointer (some ⟨kb,0,none⟩)
 | 2=>.pointer (some ⟨kb,0,none⟩)
 | 3=>.pointer (some ⟨kb,5,none⟩)
 | 4=>lx
 | 5=>ag
 | 9=>.pointer (some ⟨kb,0,none⟩)
 | 10=>.pointer (some ⟨kb,5,none⟩)
 | _=>undef
structure NwC (V0:World)(kb n:Nat)(K:Nat->Value)(P:Nat->World->Prop)(Q:Nat->World->Nat->Nat->World->Prop)(vals:Nat->Option Value)(V:World):Prop where
 cs:∀ j,j < 6\/j=9\/j=10->∀ v,vals j=some v->v=K j
 st:(vals 6=.none/\vals 7=.none/\vals 8=.none/\vals 11=.none/\V=V0)\/(∃ b,vals 6=some (.pointer (some ⟨b,0,.none⟩))/\vals 7=.none/\vals 8=.none/\vals 11=.none/\P b V)\/(∃ b V1,vals 6=some (.pointer (some ⟨b,0,.none⟩))/\vals 7=some (.slice (some ⟨V1.heap.size,0,.none⟩) 1 1)/\vals 8=.none/\vals 11=.none/\P b V1/\V=V1.alloc (.cells #[.pointer (some ⟨b,0,.none⟩)] 178)) \/
  (∃ b V1 g cap V3,vals 6≠.none/\vals 7≠.none/\vals 8=some (.slice (some ⟨g,0,.none⟩) (n+1) cap)/\P b V1/\Q b V1 g cap V3/\((vals 11=.none/\V=V3)\/(vals 11≠.none/\V=V3.setCell ⟨kb,5,.none⟩ (.slice (some ⟨g,0,.none⟩) (n+1) cap))))
 cl:(vals 6≠.none->vals 5≠.none)/\(vals 8≠.none->vals 4≠.none)
section
variable {V0 V V':World}{kb n:Nat}{K:Nat->Value}{P:Nat->World->Prop}{Q:Nat->World->Nat->Nat->World->Prop}{vals:Nat->Option Value}{i:Nat}{u:Value}
theorem NwC.start:NwC V0 kb n K P Q (fun _=>.none) V0:=⟨fun _ _ _ h=>(by cases h),Or.inl ⟨rfl,rfl,rfl,rfl,rfl⟩,fun h=>absurd rfl h,fun h=>absurd rfl h⟩
theorem NwC.const (h:NwC V0 kb n K P Q vals V)(hi:i < 6\/i=9\/i=10)(hu:u=K i):NwC V0 kb n K P Q (upd vals i u) V:=by
 have o:∀ j,j=6\/j=7\/j=8\/j=11->upd vals i u j=vals j:=fun j hj=>upd_other vals u (by omega)
 refine⟨fun j hj v hv=>?_,?_,fun h6=>neUpd (h.cl.1 (by rwa [o 6 (by omega)] at h6)),fun h8=>neUpd (h.cl.2 (by rwa [o 8 (by omega)] at h8))⟩
 ·by_cases e:j=i
  ·subst e;rw[upd_same] at hv;exact(Option.some.inj hv).symm.trans hu
  ·exact h.cs j hj v (by rwa [upd_other vals u e] at hv)
 ·rw[o 6 (by omega),o 7 (by omega),o 8 (by omega),o 11 (by omega)];exact h.st
theorem NwC.early4 (h:NwC V0 kb n K P Q vals V)(hn:vals 4=.none):V=V0\/(∃ b,P b V)\/∃ b V1,P b V1/\V=V1.alloc (.cells #[.pointer (some ⟨b,0,.none⟩)] 178):=by
 rcases h.st with ⟨_,_,_,_,e⟩ | ⟨b,_,_,_,_,e⟩ | ⟨b,V1,_,_,_,_,e,e2⟩ | ⟨_,_,_,_,_,_,_,h8,_⟩
 ·exact Or.inl e
 ·exact Or.inr (Or.inl ⟨b,e⟩)
 ·exact Or.inr (Or.inr ⟨b,V1,e,e2⟩)
 ·exact absurd hn (h.cl.2 (by rw[h8];simp))
theorem NwC.early6 (h:NwC V0 kb n K P Q vals V)(hn:vals 6=.none):V=V0/\vals 7=.none/\vals 8=.none/\vals 11=.none:=by
 rcases h.st with ⟨_,a,b,c,e⟩ | ⟨b,h6,_⟩ | ⟨b,V1,h6,_⟩ | ⟨_,_,_,_,_,h6,_⟩
 ·exact⟨e,a,b,c⟩
 ·rw[hn] at h6;cases h6
 ·rw[hn] at h6;cases h6
 ·exact absurd hn h6
theorem NwC.early5 (h:NwC V0 kb n K P Q vals V)(hn:vals 5=.none):V=V0:=by
 refine(h.early6 ?_).1
 cases e:vals 6 with
 | none=>rfl
 | some u=>exact absurd hn (h.cl.1 (by rw[e];simp))
theorem NwC.mem (h:NwC V0 kb n K P Q vals V)(hi:i=6\/i=7\/i=8\/i=11)(h5:i=6->vals 5≠.none)(h4:i=8->vals 4≠.none)(hs:(upd vals i u 6=.none/\upd vals i u 7=.none/\upd vals i u 8=.none/\upd vals i u 11=.none/\V'=V0)\/(∃ b,upd vals i u 6=some (.pointer (some ⟨b,0,.none⟩))/\upd vals i u 7=.none/\upd vals i u 8=.none/\upd vals i u 11=.none/\P b V')\/(∃ b V1,upd vals i u 6=some (.pointer (some ⟨b,0,.none⟩))/\upd vals i u 7=some (.slice (some ⟨V1.heap.size,0,.none⟩) 1 1)/\upd vals i u 8=.none/\upd vals i u 11=.none/\P b V1/\V'=V1.alloc (.cells #[.pointer (some ⟨b,0,.none⟩)] 178)) \/
  (∃ b V1 g cap V3,upd vals i u 6≠.none/\upd vals i u 7≠.none/\upd vals i u 8=some (.slice (some ⟨g,0,.none⟩) (n+1) cap)/\P b V1/\Q b V1 g cap V3/\((upd vals i u 11=.none/\V'=V3)\/(upd vals i u 11≠.none/\V'=V3.setCell ⟨kb,5,.none⟩ (.slice (some ⟨g,0,.none⟩) (n+1) cap))))):NwC V0 kb n K P Q (upd vals i u) V':=by
 refine⟨fun j hj v hv=>h.cs j hj v (by rwa [upd_other vals u (by omega)] at hv),hs,fun h6=>neUpd ?_,fun h8=>neUpd ?_⟩
 ·by_cases e:i=6
  ·exact h5 e
  ·exact h.cl.1 (by rwa [upd_other vals u (fun e2=>e e2.symm)] at h6)
 ·by_cases e:i=8
  ·exact h4 e
  ·exact h.cl.2 (by rwa [upd_other vals u (fun e2=>e e2.symm)] at h8)
theorem NwC.call (h:NwC V0 kb n K P Q vals V)(hn:vals 6=.none)(h5:vals 5≠.none){b:Nat}(hp:P b V'):NwC V0 kb n K P Q (upd vals 6 (.pointer (some ⟨b,0,.none⟩))) V':=by
 obtain⟨-,h7,h8,h11⟩:=h.early6 hn
 refine h.mem (Or.inl rfl) (fun _=>h5) (fun e=>by cases e) (Or.inr (Or.inl ⟨b,upd_same _ _ _,?_,?_,?_,hp⟩))
 ·rw[upd_other vals _ (by decide)];exact h7
 ·rw[upd_other vals _ (by decide)];exact h8
 ·rw[upd_other vals _ (by decide)];exact h11
theorem NwC.built (h:NwC V0 kb n K P Q vals V)(hn:vals 7=.none)(h6:vals 6=some u):∃ b,u=.pointer (some ⟨b,0,.none⟩)/\P b V/\NwC V0 kb n K P Q (upd vals 7 (.slice (some ⟨V.heap.size,0,.none⟩) 1 1)) (V.alloc (.cells #[.pointer (some ⟨b,0,.none⟩)] 178)):=by
 rcases h.st with ⟨a,_⟩ | ⟨b,a,_,h8,h11,hp⟩ | ⟨b,V1,_,a,_⟩ | ⟨_,_,_,_,_,_,a,_⟩
 ·rw[h6] at a;cases a
 ·refine⟨b,Option.some.inj (h6.symm.trans a),hp,h.mem (Or.inr (Or.inl rfl)) (fun e=>by cases e) (fun e=>by cases e) (Or.inr (Or.inr (Or.inl ⟨b,V,?_,upd_same _ _ _,?_,?_,hp,rfl⟩)))⟩
  ·rw[upd_other vals _ (by decide)];exact a
  ·rw[upd_other vals _ (by decide)];exact h8
  ·rw[upd_other vals _ (by decide)];exact h11
 ·rw[hn] at a;cases a
 ·exact absurd hn a
theorem NwC.app (h:NwC V0 kb n K P Q vals V)(hn:vals 8=.none)(h7:vals 7=some u)(h4:vals 4≠.none):∃ b V1,u=.slice (some ⟨V1.heap.size,0,.none⟩) 1 1/\P b V1/\V=V1.alloc (.cells #[.pointer (some ⟨b,0,.none⟩)] 178)/\∀ g cap V3,Q b V1 g cap V3->NwC V0 kb n K P Q (upd vals 8 (.slice (some ⟨g,0,.none⟩) (n+1) cap)) V3:=by
 rcases h.st with ⟨_,a,_⟩ | ⟨b,_,a,_⟩ | ⟨b,V1,h6,a,_,h11,hp,e⟩ | ⟨_,_,_,_,_,_,_,a,_⟩
 ·rw[h7] at a;cases a
 ·rw[h7] at a;cases a
 ·refine⟨b,V1,Option.some.inj (h7.symm.trans a),hp,e,fun g cap V3 hq=>h.mem (Or.inr (Or.inr (Or.inl rfl))) (fun e=>by cases e) (fun _=>h4) (Or.inr (Or.inr (Or.inr ⟨b,V1,g,cap,V3,?_,?_,upd_same _ _ _,hp,hq,Or.inl ⟨?_,rfl⟩⟩)))⟩
  ·rw[upd_other vals _ (by decide),h6];simp
  ·rw[upd_other vals _ (by decide),a];simp
  ·rw[upd_other vals _ (by decide)];exact h11
 ·rw[hn] at a;cases a
theorem NwC.put (h:NwC V0 kb n K P Q vals V)(hn:vals 11=.none)(h8:vals 8=some u):∃ b V1 g cap,u=.slice (some ⟨g,0,.none⟩) (n+1) cap/\P b V1/\Q b V1 g cap V/\NwC V0 kb n K P Q (upd vals 11 undef) (V.setCell ⟨kb,5,.none⟩ (.slice (some ⟨g,0,.none⟩) (n+1) cap)):=by
 rcases h.st with ⟨_,_,a,_⟩ | ⟨b,_,_,a,_⟩ | ⟨b,V1,_,_,a,_⟩ | ⟨b,V1,g,cap,V3,h6,h7,a,hp,hq,⟨_,e⟩ | ⟨e,_⟩⟩
 ·rw[h8] at a;cases a
 ·rw[h8] at a;cases a
 ·rw[h8] at a;cases a
 ·refine⟨b,V1,g,cap,Option.some.inj (h8.symm.trans a),hp,e ▸ hq,h.mem (Or.inr (Or.inr (Or.inr rfl))) (fun e=>by cases e) (fun e=>by cases e) (Or.inr (Or.inr (Or.inr ⟨b,V1,g,cap,V3,?_,?_,?_,hp,hq,Or.inr ⟨by rw[upd_same];simp,by rw[e]⟩⟩)))⟩
  ·rw[upd_other vals _ (by decide)];exact h6
  ·rw[upd_other vals _ (by decide)];exact h7
  ·rw[upd_other vals _ (by decide)];exact a
 ·exact absurd hn e
theorem NwC.fin (h:NwC V0 kb n K P Q vals V)(h11:vals 11≠.none):∃ b V1 g cap V3,P b V1/\Q b V1 g cap V3/\V=V3.setCell ⟨kb,5,.none⟩ (.slice (some ⟨g,0,.none⟩) (n+1) cap):=by
 rcases h.st with ⟨_,_,_,a,_⟩ | ⟨_,_,_,_,a,_⟩ | ⟨_,_,_,_,_,a,_⟩ | ⟨b,V1,g,cap,V3,_,_,_,hp,hq,⟨a,_⟩ | ⟨_,e⟩⟩
 ·exact absurd a h11
 ·exact absurd a h11
 ·exact absurd a h11
 ·exact absurd a h11
 ·exact⟨b,V1,g,cap,V3,hp,hq,e⟩
end
section
variable {A:Nat->Addr}{H:Nat->Nat->Prop}{F:Nat->Prop}{w0 w w' V0 V1 V3 V4:World}{c:CfgD}{kb bc bd rb bt:Nat}{rv tv lv:Value}{bs:List Nat}{s:CSt}{d:DSt}{ls:List LSt}{K:KSt}
theorem KeHd.more (h:KeHd H w0 V0 c kb bc bd rv tv lv bs s d ls){e:EntD}{b g cap:Nat}{o:Obj}(he:c.ents[bs.length]?=some e)(hb1:Below V0.heap.size V0 V1)(hl1:LoS (fun k=>V0.heap.size<=k/\k < V1.heap.size) V1 b e LSt.new)
  (hown:V3.ownsRow w0.heap.size 178 1 (.slice (some ⟨g,0,none⟩) (bs.length+1) cap) (bs.length+1) (bs.flatMap encB++[.pointer (some ⟨b,0,none⟩)])) (hg:(V1.alloc o).grownBy V3 lv.ownBlock) (hor:lv.ownBlock=some g\/V1.heap.size<=g)
  (hW:V4=V3.setCell ⟨kb,5,none⟩ (.slice (some ⟨g,0,none⟩) (bs.length+1) cap)):KeHd (updH (updH H (5+bs.length) V0 V1) 1 V1 V3) w0 V4 c kb bc bd rv tv (.slice (some ⟨g,0,none⟩) (bs.length+1) cap) (bs++[b]) s d (ls++[LSt.new])/\Off (fun k=>k=kb\/lv.ownBlock=some k) V0 V4:=by
 have h1:=h.below hb1;have hz0:=h.bel.size;have hz1:=hb1.size;have hof3:Off (fun k=>lv.ownBlock=some k) V1 V3:=(Off.of_below (Below.one V1 o) _).trans ⟨hg.os,hg.tape,hg.output,hg.size,fun k hk hn=>hg.block k hk (fun e=>hn e.symm)⟩ (fun _ _ e=>e);have hz3:=hof3.size;have hof4:Off (fun k=>k=kb) V3 V4:=by rw[hW];exact Off.of_grown (grown_setCell _ _ _ _)
 have hz4:V3.heap.size=V4.heap.size:=by rw[hW];simp[World.setCell]
 have f1:Fam (updH H (5+bs.length) V0 V1) w0.heap.size V1:=h.fam.upd hz1 hz0 _;have f3:Fam (updH (updH H (5+bs.length) V0 V1) 1 V1 V3) w0.heap.size V3:=f1.upd hz3 (by omega) 1;have f4:Fam (updH (updH H (5+bs.length) V0 V1) 1 V1 V3) w0.heap.size V4:=f3.grow (by omega);have up1:∀ i k,H i k->updH H (5+bs.length) V0 V1 i k:=fun i k hk=>Or.inl hk
 have up:∀ i k,H i k->updH (updH H (5+bs.length) V0 V1) 1 V1 V3 i k:=fun i k hk=>Or.inl (Or.inl hk)
 have hl1':∀ k,lv.ownBlock=some k->updH H (5+bs.length) V0 V1 1 k:=fun k hk=>up1 1 k (h.hl k hk)
 have s3:∀ i k,i≠1->updH H (5+bs.length) V0 V1 i k->V3.heap[k]?=V1.heap[k]?:=fun i k hi hk=>hof3.block k (f1.lt i k hk) (fun e=>hi (f1.dis i 1 k hk (hl1' k e)))
 have s4:∀ i k,i≠1->i≠0->updH H (5+bs.length) V0 V1 i k->V4.heap[k]?=V1.heap[k]?:=fun i k hi h0 hk=>(hof4.block k (Nat.lt_of_lt_of_le (f1.lt i k hk) hz3) (fun e=>by rw[e] at hk;exact h0 (f1.dis i 0 kb hk (up1 0 kb h.hk)))).trans (s3 i k hi hk)
 have hrow3:V3.heap[kb]?=some (.cells (keRow c bd bc rv lv tv) 177 (0,0)):=(s3 0 kb (by decide) (up1 0 kb h.hk)).trans h1.row;have nob:∀ i k,i≠1->updH (updH H (5+bs.length) V0 V1) 1 V1 V3 i k->updH H (5+bs.length) V0 V1 i k:=fun i k hi hk=>by
  rcases hk with hk | ⟨e,_⟩
  ·exact hk
  ·exact absurd e hi
 have offAll:Off (fun k=>k=kb\/lv.ownBlock=some k) V0 V4:=((Off.of_below hb1 _).trans (hof3.mono (fun k _ e=>Or.inr e)) (fun _ _ e=>e)).trans hof4 (fun _ _ e=>Or.inl e)
 refine⟨⟨f4,?_,up 0 kb h.hk,?_,fun k hk=>?_,?_,up 2 bc h.hc,?_,up 3 bd h.hd,fun i b' e' s' hb' he' hs'=>?_,?_,?_⟩,offAll⟩
 ·rw[hW];exact row_put hrow3 _
 ·have e1:(bs++[b]).flatMap encB=bs.flatMap encB++[.pointer (some ⟨b,0,none⟩)]:=by rw[List.flatMap_append];rfl
  show V4.ownsRow _ _ _ _ _ _
  rw[e1,List.length_append,List.length_singleton];exact ow_same hown (fun q hq=>hof4.block q (hown.lt q hq).2 (fun e=>by rw[e] at hq;exact ow_ne hown hrow3 (by decide) hq))
 ·cases hk
  rcases hor with e | e
  ·exact up 1 g (h.hl g e)
  ·exact Or.inr ⟨rfl,e,(hown.lt g rfl).2⟩
 ·exact⟨(s4 2 bc (by decide) (by decide) (up1 2 bc h.hc)).trans h1.cells.heap,h1.cells.len,h1.cells.size⟩
 ·exact⟨(s4 3 bd (by decide) (by decide) (up1 3 bd h.hd)).trans h1.dog.heap,h1.dog.hc,h1.dog.ho,h1.dog.hk,h1.dog.hb,h1.dog.hn⟩
 ·have keep:∀ {F1:Nat->Prop},LoS F1 V1 b' e' s'->(∀ k,F1 k->updH H (5+bs.length) V0 V1 (5+i) k)->LoS (updH (updH H (5+bs.length) V0 V1) 1 V1 V3 (5+i)) V4 b' e' s':=fun hL hF=>
   ((hL.grow hF (fun k hk=>f1.lt _ k hk)).same (fun k hk=>s4 (5+i) k (by omega) (by omega) hk) (by omega)).grow (fun k hk=>Or.inl hk) (fun k hk=>f4.lt _ k hk)
  rw[List.getElem?_append] at hb' hs'
  by_cases hi:i < bs.length
  ·rw[if_pos hi] at hb';rw[if_pos (by rw[<- h.blen];exact hi)] at hs';exact keep (h1.loc i b' e' s' hb' he' hs') (fun k hk=>up1 _ k hk)
  ·rw[if_neg hi] at hb';rw[if_neg (by rw[<- h.blen];exact hi)] at hs';have hi2:i=bs.length:=by
    have:=(List.getElem?_eq_some_iff.1 hb').1;simp at this
    omega
   subst hi2;rw[h.blen,Nat.sub_self] at hs';rw[Nat.sub_self] at hb';rw[he] at he';simp at hb' hs'
   cases he'
   subst hb' hs';exact keep hl1 (fun k hk=>Or.inr ⟨rfl,hk⟩)
 ·rw[List.length_append,List.length_append,h.blen];rfl
 ·exact Off.below h.bel offAll hz0 (fun k hk=>by
   rcases hk with hk | hk
   ·rw[hk];exact h.fam.lo 0 kb h.hk
   ·exact h.fam.lo 1 k (h.hl k hk))
theorem EntsAt.ent1 {w:World}{sa:Option Addr}{cap i:Nat}{es:List EntD}{e:EntD}(h:EntsAt w (.slice sa es.length cap) es)(he:es[i]?=some e):∃ (E:EA) (b o:Nat),sa=some ⟨b,o,none⟩/\PartsE w e E/\∀ (j:Nat) (u:Value),(entRow e (.slice E.pa e.pts.length E.pc) (.slice E.ga e.gaps.length E.gc) (.slice E.ea e.edges.length E.ec) (.slice E.fa e.first.length E.fc) (.slice E.la e.last.length E.lc))[j]?=some u->w.cell? ⟨b,o+i*10+j,none⟩=some u:=by
 obtain⟨sa',cap',h1,h2⟩:=h
 cases h1
 obtain⟨b,o,rfl,h3⟩:=h2 (fun x=>by rw[x] at he;simp at he);obtain⟨pv,gv,dv,fv,lv,hP,hce⟩:=h3 i e he;obtain⟨pa,pc,rfl,-⟩:=id hP.hp;obtain⟨ga,gc,rfl,-⟩:=id hP.hg;obtain⟨da,dc,rfl,-⟩:=id hP.he;obtain⟨fa,fc,rfl,-⟩:=id hP.hf;obtain⟨ya,yc,rfl,-⟩:=id hP.hl;exact⟨⟨pa,ga,da,fa,ya,pc,gc,dc,fc,yc⟩,b,o,rfl,hP,hce⟩
theorem errAt_no {A:Nat->Addr}{w:World}{r:Value}{f:Nat × Int}(h:ErrAt A w r f)(h0:f.1=0):r=.nilIface:=by
 obtain⟨-,⟨-,e⟩ | ⟨e,-⟩⟩:=h
 ·rw[e,h0];rfl
 ·omega
theorem SenK.five {A:Nat->Addr}{w:World}(h:SenK A w):Sen5 A w:=⟨h.c1,h.c2,h.c3,h.c4,h.c5⟩
def H0n (kb bc bd:Nat):Nat->Nat->Prop:=fun i k=>(i=0/\k=kb)\/(i=2/\k=bc)\/(i=3/\k=bd)
def KeNw (w0 w:World)(c:CfgD)(bc:Nat)(s:CSt)(u:Ending)(w':World):Prop:=∃ kb F,u=.returned (.tuple #[.pointer (some ⟨kb,0,none⟩),.nilIface])/\KeAt F w0 w' c kb bc (KSt.new c s)/\Below w.heap.size w w'/\∀ k,F k->(k=bc\/w.heap.size<=k)/\k < w'.heap.size
def KeNwA (A:Nat->Addr)(w0 w:World)(c:CfgD)(bc:Nat)(s:CSt)(u:Ending)(w':World):Prop:=if 153<=s.size then KeNw w0 w c bc s u w' else (u=.returned (.tuple #[.pointer none,errVal A 2])/\Below w.heap.size w w')
set_option maxHeartbeats 4000000 in
set_option maxRecDepth 100000 in
theorem ke_new_all (sa:Option Addr)(sc:Nat)(hs:SenK A w0)(hr:KRt c)(h0:(cfgErr c).1=0)(hE:EntsAt w (.slice sa c.ents.length sc) c.ents)(hS:SmallC c)(hc:CellsAt w bc s)(hlo:w0.heap.size<=bc)(hbel:Below w0.heap.size w0 w)(hoff:s.off=false) :
  Calls Tryz.prog 48 #[.agg #[.int .i64 c.closed,.int .i64 c.opn,.int .i64 c.cycle,.int .i64 c.delay,.slice sa c.ents.length sc],.pointer (some ⟨bc,0,none⟩)] w fun u w'=>KeNwA A w0 w c bc s u w':=by
 obtain⟨W0,hW0⟩:∃ X,X=w.alloc (.cells #[.int .i64 c.closed,.int .i64 c.opn,.int .i64 c.cycle,.int .i64 c.delay,.slice sa c.ents.length sc] 30):=⟨_,rfl⟩;have b0:Below w.heap.size w W0:=by rw[hW0];exact Below.one _ _
 have r0:W0.heap[w.heap.size]?=some (.cells #[.int .i64 c.closed,.int .i64 c.opn,.int .i64 c.cycle,.int .i64 c.delay,.slice sa c.ents.length sc] 30 (0,0)):=by rw[hW0];exact heap_alloc_new w _
 have HCk:Hid _:=check_at5 A c sa sc W0 (hs.below (hbel.trans (b0.mono hbel.size))).five (hE.below b0) hS;have HR0:Hid _:=r0;have HB0:Hid _:=b0;have HG:Hid (SenK A w0/\KRt c/\(cfgErr c).1=0/\EntsAt w (.slice sa c.ents.length sc) c.ents/\CellsAt w bc s/\w0.heap.size<=bc/\Below w0.heap.size w0 w/\s.off=false):=⟨hs,hr,h0,hE,hc,hlo,hbel,hoff⟩;obtain⟨cl,hcl⟩:∃ n:Nat,c.closed=(n:Int):=⟨c.closed.toNat,by have:=hr.cl;omega⟩;obtain⟨op,hop⟩:∃ n:Nat,c.opn=(n:Int):=⟨c.opn.toNat,by have:=hr.op;omega⟩;have HDg:Hid (∀ V,Calls Tryz.prog 105 #[.int .i64 c.closed,.int .i64 c.opn] V fun e w'=>e=.returned (.tuple #[.pointer (some ⟨V.heap.size,0,none⟩),.nilIface])/\Below V.heap.size V w'/\DogAt w' V.heap.size (DSt.new c.closed.toNat c.opn.toNat)):=fun V=>by
  have:=dog_new cl op V (by have:=hr.cl;omega) (by have:=hr.op;omega) (by have:=hr.op;omega);rw[hcl,hop];exact this
 clear hs hr h0 hE hS hc hlo hbel hoff b0 r0 hcl hop;go_enter Tryz.func48,Tryz.ntmps48
 go_upto_region 1 with fail
 rw[<- hW0];clear hW0;have y0:W0.cell? ⟨w.heap.size,0,none⟩=some (.int .i64 c.closed):=by have:=HR0.out;simp[World.cell?,this]
 have y1:W0.cell? ⟨w.heap.size,1,none⟩=some (.int .i64 c.opn):=by have:=HR0.out;simp[World.cell?,this]
 have y2:W0.cell? ⟨w.heap.size,2,none⟩=some (.int .i64 c.cycle):=by have:=HR0.out;simp[World.cell?,this]
 have y3:W0.cell? ⟨w.heap.size,3,none⟩=some (.int .i64 c.delay):=by have:=HR0.out;simp[World.cell?,this]
 have y4:W0.cell? ⟨w.heap.size,4,none⟩=some (.slice sa c.ents.length sc):=by have:=HR0.out;simp[World.cell?,this]
 go_wp2_with fail
 refine Calls.mono HCk.out ?_;rintro u w1 ⟨r,rfl,hErr,hb1⟩;have hev:=errAt_no hErr HG.out.2.2.1;subst hev;have r1:=row_below hb1 HR0.out;have z0:w1.cell? ⟨w.heap.size,0,none⟩=some (.int .i64 c.closed):=by simp[World.cell?,r1]
 have z1:w1.cell? ⟨w.heap.size,1,none⟩=some (.int .i64 c.opn):=by simp[World.cell?,r1]
 have HB1:Hid (Below w.heap.size w w1):=HB0.out.trans (hb1.mono HB0.out.size);have HR1:Hid _:=r1;clear hErr hb1 r1 HCk HR0 HB0 y0 y1 y2 y3 y4;go_wp2_with fail
 refine Calls.mono (HDg.out w1) ?_;rintro u w2 ⟨rfl,hb2,hd2⟩;have r2:=row_below hb2 HR1.out;have z2:w2.cell? ⟨w.heap.size,2,none⟩=some (.int .i64 c.cycle):=by simp[World.cell?,r2]
 have z3:w2.cell? ⟨w.heap.size,3,none⟩=some (.int .i64 c.delay):=by simp[World.cell?,r2]
 have z4:∀ o,(w2.alloc o).cell? ⟨w.heap.size,4,none⟩=some (.slice sa c.ents.length sc):=fun o=>by
  have:=row_below (Below.one w2 o) r2;simp[World.cell?,this]
 have hB2:Below w.heap.size w w2:=HB1.out.trans (hb2.mono HB1.out.size);have hz2:w1.heap.size < w2.heap.size:=hd2.lt;have hz1:w.heap.size<=w1.heap.size:=HB1.out.size;go_upto_region 8 with fail
 obtain⟨W3,hW3⟩:∃ X,X=w2.alloc (.cells #[.pointer (some ⟨w1.heap.size,0,none⟩),.int .i64 c.cycle,.pointer (some ⟨bc,0,none⟩),.int .i64 c.delay,.pointer none,.slice none 0 0,.pointer none] 177):=⟨_,rfl⟩;have z4':=z4 (.cells #[.pointer (some ⟨w1.heap.size,0,none⟩),.int .i64 c.cycle,.pointer (some ⟨bc,0,none⟩),.int .i64 c.delay,.pointer none,.slice none 0 0,.pointer none] 177);rw[<- hW3] at z4' ⊢;have hB3:Below w.heap.size w W3:=by rw[hW3];exact hB2.alloc hB2.size _
 have hHd:KeHd (H0n w2.heap.size bc w1.heap.size) w0 W3 c w2.heap.size bc w1.heap.size (.pointer none) (.pointer none) (.slice none 0 0) [] s (DSt.new c.closed.toNat c.opn.toNat) []:=by
  obtain⟨-,-,-,-,hc,hlo,hbel,-⟩:=HG.out;have hbw:=hc.lt;have hz3:W3.heap.size=w2.heap.size+1:=by rw[hW3];simp
  have hw0:=hbel.size
  refine⟨⟨fun i k hk=>?_,fun i k hk=>?_,fun i j k hk hk'=>?_⟩,by rw[hW3];exact heap_alloc_new w2 _,Or.inl ⟨rfl,rfl⟩,World.ownsRow_nil _ _ _ _,fun k hk=>(by cases hk),hc.below hB3,Or.inr (Or.inl ⟨rfl,rfl⟩),by rw[hW3];exact hd2.below (Below.one _ _),Or.inr (Or.inr ⟨rfl,rfl⟩),fun i b e s hb=>(by simp at hb),rfl,hbel.trans (hB3.mono hw0)⟩
  ·rcases hk with ⟨-,rfl⟩ | ⟨-,rfl⟩ | ⟨-,rfl⟩ <;> omega
  ·rcases hk with ⟨-,rfl⟩ | ⟨-,rfl⟩ | ⟨-,rfl⟩ <;> omega
  ·rcases hk with ⟨e1,e2⟩ | ⟨e1,e2⟩ | ⟨e1,e2⟩ <;> rcases hk' with ⟨e3,e4⟩ | ⟨e3,e4⟩ | ⟨e3,e4⟩ <;> omega
 have HStart:Hid (∃ H,KeHd H w0 W3 c w2.heap.size bc w1.heap.size (.pointer none) (.pointer none) (.slice none 0 0) [] s (DSt.new c.closed.toNat c.opn.toNat) []/\(∀ i k,H i k->k=bc\/w.heap.size<=k)/\Below w.heap.size w W3):=⟨_,hHd,fun i k hk=>by
  rcases hk with ⟨-,rfl⟩ | ⟨-,rfl⟩ | ⟨-,rfl⟩
  ·exact Or.inr (by omega)
  ·exact Or.inl rfl
  ·exact Or.inr (by omega),hB3⟩
 have HEn:Hid (EntsAt w (.slice sa c.ents.length sc) c.ents):=HG.out.2.2.2.1;have HKz:Hid (w.heap.size<=w2.heap.size):=by show _<=_;omega
 clear hHd hB3 hB2 hW3 z0 z1 z2 z3 z4 r2 hd2 hb2 HR1 HB1 hz1 hz2 HDg;generalize w1.heap.size=bd at HStart;generalize w2.heap.size=kb at HStart HKz;obtain⟨dg,hdg⟩:∃ x,x=DSt.new c.closed.toNat c.opn.toNat:=⟨_,rfl⟩;have HDd:Hid (dg=DSt.new c.closed.toNat c.opn.toNat):=hdg;rw[<- hdg] at HStart;clear hdg
 go_cut [39,40,41] (fun l n i wx=>l=.slice sa c.ents.length sc/\n=.int .i64 (c.ents.length:Int)/\i=.int .i64 0/\wx=W3)
 case first=>
  go_wp2_with fail
  go_meet
  case rel=>exact⟨rfl,rfl,rfl,rfl⟩
 obtain⟨rfl,rfl,rfl,rfl⟩:=hcut;rename World=>W3
 clear z4';go_wp2_with fail
 obtain⟨j0,hj0,hy0,hy1,hy2⟩:=info_parts Tryz.infoPtrE
 go_loopw [11,41] (fun _ i wr=>∃ (bs:List Nat) (lx:Value) (H:Nat->Nat->Prop),bs.length<=c.ents.length/\i=.int .i64 bs.length/\KeHd H w0 wr c kb bc bd (.pointer none) (.pointer none) lx bs s dg (List.replicate bs.length LSt.new)/\(∀ i k,H i k->k=bc\/w.heap.size<=k)/\Below w.heap.size w wr) (fun _ i _=>c.ents.length - (intOf i).toNat)
 case atStart=>obtain⟨H,a1,a2,a3⟩:=HStart.out;exact⟨[],_,H,Nat.zero_le _,rfl,a1,a2,a3⟩
 case round=>
  clear HStart;obtain⟨bs,lx,H,hbl,rfl,hd,hH,hB⟩:=hrel
  by_cases hlt:bs.length < c.ents.length
  ·obtain⟨e,he⟩:∃ e,c.ents[bs.length]?=some e:=⟨_,List.getElem?_eq_getElem hlt⟩;obtain⟨E,eb,eo,rfl,hP,hce⟩:=EntsAt.ent1 (HEn.out.below hB) he;obtain⟨la,lc,hlx⟩:=ow_form hd.own;subst hlx;have k1:(bs.length:Int) < (c.ents.length:Int):=by omega
   have k8:bs.length < 8:=by have:=HG.out.2.1.nn;omega
   have x0:wr.cell? ⟨eb,eo+bs.length*10,none⟩=some (.string e.name):=hce 0 _ rfl;have x1:wr.cell? ⟨eb,eo+bs.length*10+1,none⟩=some (.int .i64 e.tol):=hce 1 _ rfl;have x2:wr.cell? ⟨eb,eo+bs.length*10+2,none⟩=some (.slice E.pa e.pts.length E.pc):=hce 2 _ rfl;have x3:wr.cell? ⟨eb,eo+bs.length*10+3,none⟩=some (.int .i64 e.cnt):=hce 3 _ rfl;have x4:wr.cell? ⟨eb,eo+bs.length*10+4,none⟩=some (.int .i64 e.mn):=hce 4 _ rfl;have x5:wr.cell? ⟨eb,eo+bs.length*10+5,none⟩=some (.int .i64 e.mx):=hce 5 _ rfl;have x6:wr.cell? ⟨eb,eo+bs.length*10+6,none⟩=some (.slice E.ga e.gaps.length E.gc):=hce 6 _ rfl;have x7:wr.cell? ⟨eb,eo+bs.length*10+7,none⟩=some (.slice E.ea e.edges.length E.ec):=hce 7 _ rfl;have x8:wr.cell? ⟨eb,eo+bs.length*10+8,none⟩=some (.slice E.fa e.first.length E.fc):=hce 8 _ rfl;have x9:wr.cell? ⟨eb,eo+bs.length*10+9,none⟩=some (.slice E.la e.last.length E.lc):=hce 9 _ rfl;have HHd:Hid _:=hd;have HHH:Hid _:=hH;have HBw:Hid _:=hB;have HP:Hid _:=hP;have HEt:Hid _:=he;clear hd hH hB hP he hce;go_upto_region 11 with fail
   obtain⟨V0,hV0⟩:∃ X,X=wr.alloc (.cells #[.string e.name,.int .i64 e.tol,.slice E.pa e.pts.length E.pc,.int .i64 e.cnt,.int .i64 e.mn,.int .i64 e.mx,.slice E.ga e.gaps.length E.gc,.slice E.ea e.edges.length E.ec,.slice E.fa e.first.length E.fc,.slice E.la e.last.length E.lc] 83):=⟨_,rfl⟩;rw[<- hV0];have hb0:Below wr.heap.size wr V0.drew:=by rw[hV0];exact(Below.one _ _).drew
   have hbx:V0.drew.heap[wr.heap.size]?=some (.cells #[.string e.name,.int .i64 e.tol,.slice E.pa e.pts.length E.pc,.int .i64 e.cnt,.int .i64 e.mn,.int .i64 e.mx,.slice E.ga e.gaps.length E.gc,.slice E.ea e.edges.length E.ec,.slice E.fa e.first.length E.fc,.slice E.la e.last.length E.lc] 83 (0,0)):=by rw[hV0];exact heap_alloc_new wr _
   have hd0:=HHd.out.below hb0;have HHd0:Hid _:=hd0;have HBx:Hid _:=hbx;have HB0:Hid (Below w.heap.size w V0.drew):=HBw.out.trans (hb0.mono HBw.out.size);have HNw:Hid _:=los_new V0.drew e E (EntParts.below HP.out hb0) (HG.out.2.1.each e (List.mem_of_getElem? HEt.out)).1;have hC5:∀ V,Below V0.drew.heap.size V0.drew V->V.heap[kb]?=some (.cells (keRow c bd bc (.pointer none) (.slice la bs.length lc) (.pointer none)) 177 (0,0)):=fun V hV=>row_below hV hd0.row
   have HApp:Hid (∀ b V1,(fun b V=>LoS (fun k=>V0.drew.heap.size<=k/\k < V.heap.size) V b e LSt.new/\Below V0.drew.heap.size V0.drew V) b V1->∃ g cap V3,(Builtin.append_ #[174,174] 174 #[.slice la bs.length lc,.slice (some ⟨V1.heap.size,0,none⟩) 1 1]).run Tryz.prog (V1.alloc (.cells #[.pointer (some ⟨b,0,none⟩)] 178))=.ok (.slice (some ⟨g,0,none⟩) (bs.length+1) cap) V3/\(fun b V1 g cap V3=>V3.ownsRow w0.heap.size 178 1 (.slice (some ⟨g,0,none⟩) (bs.length+1) cap) (bs.length+1) (bs.flatMap encB++[.pointer (some ⟨b,0,none⟩)])/\(V1.alloc (.cells #[.pointer (some ⟨b,0,none⟩)] 178)).grownBy V3 (Value.slice la bs.length lc).ownBlock/\((Value.slice la bs.length lc).ownBlock=some g\/V1.heap.size<=g)) b V1 g cap V3):=fun b V1 hp=>by
    have hz:w0.heap.size<=V1.heap.size:=Nat.le_trans hd0.bel.size hp.2.size;obtain⟨g,cap,V3,hr,h2,h3,h4,-⟩:=run_append_lies (P:=Tryz.prog) (V1.alloc (.cells #[.pointer (some ⟨b,0,none⟩)] 178)) 174 174 w0.heap.size 178 j0 (.pointer none) 1 8 Tryz.underlying174 hj0 hy0 hy1 hy2 rfl (by decide) (.slice la bs.length lc) bs.length (bs.flatMap encB) (SlOwnR.below (SlOwnR.below hd0.own hp.2) (Below.one _ _)) ⟨V1.heap.size,0,none⟩ 1 1 [.pointer (some ⟨b,0,none⟩)] rfl (ce_at V1 [.pointer (some ⟨b,0,none⟩)] 178) (fun u hu=>by rw[List.mem_singleton] at hu;subst hu;rfl) (by decide) (by unfold maxLen;omega) (by omega) (by simp;omega) _ rfl;exact⟨g,cap,V3,hr,h2,h3,h4.imp id (fun e=>by rw[e];simp)⟩
   have hkbo:(Value.slice la bs.length lc).ownBlock≠some kb:=ow_ne hd0.own hd0.row (by decide);have HQk:Hid (∀ b V1 g cap V,(fun b V=>LoS (fun k=>V0.drew.heap.size<=k/\k < V.heap.size) V b e LSt.new/\Below V0.drew.heap.size V0.drew V) b V1->(fun b V1 g cap V3=>V3.ownsRow w0.heap.size 178 1 (.slice (some ⟨g,0,none⟩) (bs.length+1) cap) (bs.length+1) (bs.flatMap encB++[.pointer (some ⟨b,0,none⟩)])/\(V1.alloc (.cells #[.pointer (some ⟨b,0,none⟩)] 178)).grownBy V3 (Value.slice la bs.length lc).ownBlock/\((Value.slice la bs.length lc).ownBlock=some g\/V1.heap.size<=g)) b V1 g cap V->V.cell? ⟨kb,5,none⟩=some (.slice la bs.length lc)/\V.frozen? ⟨kb,5,none⟩=false):=fun b V1 g cap V hp hq=>by
    have h1:=hC5 V1 hp.2;have h2:=row_below (Below.one V1 (.cells #[.pointer (some ⟨b,0,none⟩)] 178)) h1;have h3:=(hq.2.1.block kb (lt_of_row h2) (fun e=>hkbo e.symm)).trans h2;exact⟨by simp[World.cell?,h3,keRow],by simp[World.frozen?,h3]⟩
   have HC5:Hid (∀ V,(V=V0.drew\/(∃ b,(fun b V=>LoS (fun k=>V0.drew.heap.size<=k/\k < V.heap.size) V b e LSt.new/\Below V0.drew.heap.size V0.drew V) b V)\/∃ b V1,(fun b V=>LoS (fun k=>V0.drew.heap.size<=k/\k < V.heap.size) V b e LSt.new/\Below V0.drew.heap.size V0.drew V) b V1/\V=V1.alloc (.cells #[.pointer (some ⟨b,0,none⟩)] 178))->V.cell? ⟨kb,5,none⟩=some (.slice la bs.length lc)):=fun V hV=>by
    have hb:Below V0.drew.heap.size V0.drew V:=by
     rcases hV with rfl | ⟨b,hp⟩ | ⟨b,V1,hp,rfl⟩
     ·exact Below.refl _ _
     ·exact hp.2
     ·exact hp.2.alloc hp.2.size _
    have:=hC5 V hb;simp[World.cell?,this,keRow]
   clear hV0 hb0 hbx hd0 hC5 hkbo x0 x1 x2 x3 x4 x5 x6 x7 x8 x9
   refine region_spec3 12 rfl (NwC V0.drew kb bs.length (nwK kb (.slice la bs.length lc) (.agg #[.string e.name,.int .i64 e.tol,.slice E.pa e.pts.length E.pc,.int .i64 e.cnt,.int .i64 e.mn,.int .i64 e.mx,.slice E.ga e.gaps.length E.gc,.slice E.ea e.edges.length E.ec,.slice E.fa e.first.length E.fc,.slice E.la e.last.length E.lc])) (fun b V=>LoS (fun k=>V0.drew.heap.size<=k/\k < V.heap.size) V b e LSt.new/\Below V0.drew.heap.size V0.drew V) (fun b V1 g cap V3=>V3.ownsRow w0.heap.size 178 1 (.slice (some ⟨g,0,none⟩) (bs.length+1) cap) (bs.length+1) (bs.flatMap encB++[.pointer (some ⟨b,0,none⟩)])/\(V1.alloc (.cells #[.pointer (some ⟨b,0,none⟩)] 178)).grownBy V3 (Value.slice la bs.length lc).ownBlock/\((Value.slice la bs.length lc).ownBlock=some g\/V1.heap.size<=g))) (by kernel_rfl) (by kernel_rfl) NwC.start ?_ ?_
   ·intro i o ho
    match i,ho with
    | 0,ho=>
     obtain rfl:=Option.some.inj ho
     refine StepOk3.free rfl ?_;intro vals a V hC hn hdep hoth;have x9:a.tmps[9]?.getD undef=.pointer (some ⟨kb,0,none⟩):=slot_of (hoth 9 (notDst (by kernel_rfl)));exact goodRun3.val (w:=V) (c:=.pointer (some ⟨kb,0,none⟩)) (by clear hdep hoth hC;go_simp) (hC.const (by decide) rfl)
    | 1,ho=>
     obtain rfl:=Option.some.inj ho
     refine StepOk3.free rfl ?_;intro vals a V hC hn hdep hoth;have x9:a.tmps[9]?.getD undef=.pointer (some ⟨kb,0,none⟩):=slot_of (hoth 9 (notDst (by kernel_rfl)));exact goodRun3.val (w:=V) (c:=.pointer (some ⟨kb,0,none⟩)) (by clear hdep hoth hC;go_simp) (hC.const (by decide) rfl)
    | 2,ho=>
     obtain rfl:=Option.some.inj ho
     refine StepOk3.free rfl ?_;intro vals a V hC hn hdep hoth;obtain⟨v1,hv1,hev1⟩:=hdep _ (Array.mem_of_getElem? (i:=0) rfl) rfl;have x46:a.tmps[46]?.getD undef=.pointer (some ⟨kb,0,none⟩):=(slot_of (hev1 46 rfl)).trans (hC.cs 1 (by decide) v1 hv1);clear hev1;exact goodRun3.val (w:=V) (c:=.pointer (some ⟨kb,0,none⟩)) (by clear hdep hoth hC;go_simp) (hC.const (by decide) rfl)
    | 3,ho=>
     obtain rfl:=Option.some.inj ho
     refine StepOk3.free rfl ?_;intro vals a V hC hn hdep hoth;obtain⟨v2,hv2,hev2⟩:=hdep _ (Array.mem_of_getElem? (i:=0) rfl) rfl;have x47:a.tmps[47]?.getD undef=.pointer (some ⟨kb,0,none⟩):=(slot_of (hev2 47 rfl)).trans (hC.cs 2 (by decide) v2 hv2);clear hev2;exact goodRun3.val (w:=V) (c:=.pointer (some ⟨kb,5,none⟩)) (by clear hdep hoth hC;go_simp) (hC.const (by decide) rfl)
    | 4,ho=>
     obtain rfl:=Option.some.inj ho
     refine StepOk3.free rfl ?_;intro vals a V hC hn hdep hoth;have cc:=HC5.out V (hC.early4 hn);obtain⟨v3,hv3,hev3⟩:=hdep _ (Array.mem_of_getElem? (i:=0) rfl) rfl;have x48:a.tmps[48]?.getD undef=.pointer (some ⟨kb,5,none⟩):=(slot_of (hev3 48 rfl)).trans (hC.cs 3 (by decide) v3 hv3);clear hev3;exact goodRun3.val (w:=V) (c:=.slice la bs.length lc) (by clear hdep hoth hC;go_simp) (hC.const (by decide) rfl)
    | 5,ho=>
     obtain rfl:=Option.some.inj ho
     refine StepOk3.free rfl ?_;intro vals a V hC hn hdep hoth;obtain rfl:=hC.early5 hn;have z0:V0.drew.cell? ⟨wr.heap.size,0,none⟩=some (.string e.name):=by have:=HBx.out;simp[World.cell?,this]
     have z1:V0.drew.cell? ⟨wr.heap.size,1,none⟩=some (.int .i64 e.tol):=by have:=HBx.out;simp[World.cell?,this]
     have z2:V0.drew.cell? ⟨wr.heap.size,2,none⟩=some (.slice E.pa e.pts.length E.pc):=by have:=HBx.out;simp[World.cell?,this]
     have z3:V0.drew.cell? ⟨wr.heap.size,3,none⟩=some (.int .i64 e.cnt):=by have:=HBx.out;simp[World.cell?,this]
     have z4:V0.drew.cell? ⟨wr.heap.size,4,none⟩=some (.int .i64 e.mn):=by have:=HBx.out;simp[World.cell?,this]
     have z5:V0.drew.cell? ⟨wr.heap.size,5,none⟩=some (.int .i64 e.mx):=by have:=HBx.out;simp[World.cell?,this]
     have z6:V0.drew.cell? ⟨wr.heap.size,6,none⟩=some (.slice E.ga e.gaps.length E.gc):=by have:=HBx.out;simp[World.cell?,this]
     have z7:V0.drew.cell? ⟨wr.heap.size,7,none⟩=some (.slice E.ea e.edges.length E.ec):=by have:=HBx.out;simp[World.cell?,this]
     have z8:V0.drew.cell? ⟨wr.heap.size,8,none⟩=some (.slice E.fa e.first.length E.fc):=by have:=HBx.out;simp[World.cell?,this]
     have z9:V0.drew.cell? ⟨wr.heap.size,9,none⟩=some (.slice E.la e.last.length E.lc):=by have:=HBx.out;simp[World.cell?,this]
     have x11:a.tmps[11]?.getD undef=.pointer (some ⟨wr.heap.size,0,none⟩):=slot_of (hoth 11 (notDst (by kernel_rfl)));exact goodRun3.val (w:=V0.drew) (c:=.agg #[.string e.name,.int .i64 e.tol,.slice E.pa e.pts.length E.pc,.int .i64 e.cnt,.int .i64 e.mn,.int .i64 e.mx,.slice E.ga e.gaps.length E.gc,.slice E.ea e.edges.length E.ec,.slice E.fa e.first.length E.fc,.slice E.la e.last.length E.lc]) (by clear hdep hoth hC;go_simp) (hC.const (by decide) rfl)
    | 6,ho=>
     obtain rfl:=Option.some.inj ho
     refine StepOk3.free rfl ?_;intro vals a V hC hn hdep hoth;obtain⟨v5,hv5,hev5⟩:=hdep _ (Array.mem_of_getElem? (i:=0) rfl) rfl;have x50:a.tmps[50]?.getD undef=.agg #[.string e.name,.int .i64 e.tol,.slice E.pa e.pts.length E.pc,.int .i64 e.cnt,.int .i64 e.mn,.int .i64 e.mx,.slice E.ga e.gaps.length E.gc,.slice E.ea e.edges.length E.ec,.slice E.fa e.first.length E.fc,.slice E.la e.last.length E.lc]:=(slot_of (hev5 50 rfl)).trans (hC.cs 5 (by decide) v5 hv5);clear hev5;obtain⟨rfl,-⟩:=hC.early6 hn
     refine goodRun3.call (w:=V0.drew) (f:=106) (args:=#[.agg #[.string e.name,.int .i64 e.tol,.slice E.pa e.pts.length E.pc,.int .i64 e.cnt,.int .i64 e.mn,.int .i64 e.mx,.slice E.ga e.gaps.length E.gc,.slice E.ea e.edges.length E.ec,.slice E.fa e.first.length E.fc,.slice E.la e.last.length E.lc]]) (by clear hdep hoth hC;go_simp) ?_
     refine Calls.mono HNw.out ?_;rintro u w4 ⟨b,rfl,hl4,hb4⟩;exact⟨_,rfl,hC.call hn (by have e2:vals 5=some v5:=hv5;rw[e2];simp) ⟨hl4,hb4⟩⟩
    | 7,ho=>
     obtain rfl:=Option.some.inj ho
     refine StepOk3.free rfl ?_;intro vals a V hC hn hdep hoth;obtain⟨v6,hv6,hev6⟩:=hdep _ (Array.mem_of_getElem? (i:=0) rfl) rfl;obtain⟨b,rfl,hp,hA⟩:=hC.built hn hv6;have x51:a.tmps[51]?.getD undef=.pointer (some ⟨b,0,none⟩):=slot_of (hev6 51 rfl);exact goodRun3.val (w:=V.alloc (.cells #[.pointer (some ⟨b,0,none⟩)] 178)) (c:=.slice (some ⟨V.heap.size,0,none⟩) 1 1) (by clear hdep hoth hC hA hev6 hp;go_simp) hA
    | 8,ho=>
     obtain rfl:=Option.some.inj ho
     refine StepOk3.free rfl ?_;intro vals a V hC hn hdep hoth;obtain⟨v4,hv4,hev4⟩:=hdep _ (Array.mem_of_getElem? (i:=0) rfl) rfl;have x49:a.tmps[49]?.getD undef=.slice la bs.length lc:=(slot_of (hev4 49 rfl)).trans (hC.cs 4 (by decide) v4 hv4);obtain⟨v7,hv7,hev7⟩:=hdep _ (Array.mem_of_getElem? (i:=1) rfl) rfl;obtain⟨b,V1,rfl,hp,rfl,hA⟩:=hC.app hn hv7 (by have e2:vals 4=some v4:=hv4;rw[e2];simp);have y49:a.eval (.tmp 49)=.slice la bs.length lc:=(hev4 49 rfl).trans (hC.cs 4 (by decide) v4 hv4);have y52:a.eval (.tmp 52)=.slice (some ⟨V1.heap.size,0,none⟩) 1 1:=hev7 52 rfl;obtain⟨g,cap,V3,hrun,hq⟩:=HApp.out b V1 hp;exact goodRun3.val (w:=V3) (c:=.slice (some ⟨g,0,none⟩) (bs.length+1) cap) (exec_appE (s:=.tmp 49) (x:=.tmp 52) (t:=174) (ty:=_) rfl rfl y49 y52 hrun) (hA g cap V3 hq)
    | 9,ho=>
     obtain rfl:=Option.some.inj ho
     refine StepOk3.free rfl ?_;intro vals a V hC hn hdep hoth;obtain⟨v0,hv0,hev0⟩:=hdep _ (Array.mem_of_getElem? (i:=0) rfl) rfl;have x45:a.tmps[45]?.getD undef=.pointer (some ⟨kb,0,none⟩):=(slot_of (hev0 45 rfl)).trans (hC.cs 0 (by decide) v0 hv0);clear hev0;exact goodRun3.val (w:=V) (c:=.pointer (some ⟨kb,0,none⟩)) (by clear hdep hoth hC;go_simp) (hC.const (by decide) rfl)
    | 10,ho=>
     obtain rfl:=Option.some.inj ho
     refine StepOk3.free rfl ?_;intro vals a V hC hn hdep hoth;obtain⟨v9,hv9,hev9⟩:=hdep _ (Array.mem_of_getElem? (i:=0) rfl) rfl;have x54:a.tmps[54]?.getD undef=.pointer (some ⟨kb,0,none⟩):=(slot_of (hev9 54 rfl)).trans (hC.cs 9 (by decide) v9 hv9);clear hev9;exact goodRun3.val (w:=V) (c:=.pointer (some ⟨kb,5,none⟩)) (by clear hdep hoth hC;go_simp) (hC.const (by decide) rfl)
    | 11,ho=>
     obtain rfl:=Option.some.inj ho
     refine StepOk3.free rfl ?_;intro vals a V hC hn hdep hoth;obtain⟨v10,hv10,hev10⟩:=hdep _ (Array.mem_of_getElem? (i:=0) rfl) rfl;have x55:a.tmps[55]?.getD undef=.pointer (some ⟨kb,5,none⟩):=(slot_of (hev10 55 rfl)).trans (hC.cs 10 (by decide) v10 hv10);clear hev10;obtain⟨v8,hv8,hev8⟩:=hdep _ (Array.mem_of_getElem? (i:=1) rfl) rfl;obtain⟨b,V1,g,cap,rfl,hp,hq,hC2⟩:=hC.put hn hv8;have x53:a.tmps[53]?.getD undef=.slice (some ⟨g,0,none⟩) (bs.length+1) cap:=slot_of (hev8 53 rfl);obtain⟨cc5,cq5⟩:=HQk.out b V1 g cap V hp hq;exact goodRun3.skip (w:=V.setCell ⟨kb,5,none⟩ (.slice (some ⟨g,0,none⟩) (bs.length+1) cap)) (by clear hdep hoth hC hC2 hq hp hev8;go_simp) hC2
    | n+12,ho=>simp at ho
   ·intro vals V hC hall;obtain⟨y0,hy0'⟩:=Option.isSome_iff_exists.1 (hall 0 (by decide));obtain⟨y1,hy1'⟩:=Option.isSome_iff_exists.1 (hall 1 (by decide));obtain⟨y2,hy2'⟩:=Option.isSome_iff_exists.1 (hall 2 (by decide));obtain⟨y3,hy3'⟩:=Option.isSome_iff_exists.1 (hall 3 (by decide));obtain⟨y4,hy4'⟩:=Option.isSome_iff_exists.1 (hall 4 (by decide));obtain⟨y5,hy5'⟩:=Option.isSome_iff_exists.1 (hall 5 (by decide));obtain⟨y6,hy6'⟩:=Option.isSome_iff_exists.1 (hall 6 (by decide));obtain⟨y7,hy7'⟩:=Option.isSome_iff_exists.1 (hall 7 (by decide));obtain⟨y8,hy8'⟩:=Option.isSome_iff_exists.1 (hall 8 (by decide));obtain⟨y9,hy9'⟩:=Option.isSome_iff_exists.1 (hall 9 (by decide));obtain⟨y10,hy10'⟩:=Option.isSome_iff_exists.1 (hall 10 (by decide));obtain⟨y11,hy11'⟩:=Option.isSome_iff_exists.1 (hall 11 (by decide));obtain⟨b,V1,g,cap,V3,hp,hq,hV⟩:=hC.fin (by rw[hy11'];simp);obtain⟨hm,hof⟩:=HHd0.out.more HEt.out hp.2 hp.1 hq.1 hq.2.1 hq.2.2 hV;have HM:Hid (∃ H,KeHd H w0 V c kb bc bd (.pointer none) (.pointer none) (.slice (some ⟨g,0,none⟩) (bs++[b]).length cap) (bs++[b]) s dg (List.replicate (bs++[b]).length LSt.new)/\(∀ i k,H i k->k=bc\/w.heap.size<=k)/\Below w.heap.size w V):=by
     have hz0:w.heap.size<=V0.drew.heap.size:=HB0.out.size;have hz1:V0.drew.heap.size<=V1.heap.size:=hp.2.size;have e1:(bs++[b]).length=bs.length+1:=by rw[List.length_append,List.length_singleton]
     refine⟨updH (updH H (5+bs.length) V0.drew V1) 1 V1 V3,?_,fun i k hk=>?_,?_⟩
     ·rw[e1,List.replicate_succ'];exact hm
     ·rcases hk with (hk | ⟨_,x,_⟩) | ⟨_,x,_⟩
      ·exact HHH.out i k hk
      ·exact Or.inr (by omega)
      ·exact Or.inr (by omega)
     ·refine Off.below HB0.out hof hz0 (fun k hk=>?_)
      rcases hk with hk | hk
      ·rw[hk];exact HKz.out
      ·rcases HHH.out 1 k (HHd.out.hl k hk) with e | e
       ·exfalso
        rw[e] at hk;have h2:=HHd.out.hc;have:=HHd.out.fam.dis 1 2 bc (HHd.out.hl bc hk) h2;omega
       ·exact e
    clear hC hall hp hq hV hm hof;simp only[fill,dstOf,hy0',hy1',hy2',hy3',hy4',hy5',hy6',hy7',hy8',hy9',hy10',hy11'];clear hy0' hy1' hy2' hy3' hy4' hy5' hy6' hy7' hy8' hy9' hy10' hy11';go_simp
    go_wp2_with fail
    obtain⟨H2,m1,m2,m3⟩:=HM.out;have HM1:Hid _:=m1;have HM2:Hid _:=m2;have HM3:Hid _:=m3;clear m1 m2 m3 HM;go_roundw
    case rel=>exact⟨bs++[b],_,H2,by rw[List.length_append,List.length_singleton];omega,by rw[List.length_append,List.length_singleton];go_num,HM1.out,HM2.out,HM3.out⟩
    case measure=>simp[intOf];omega
  ·have k1:¬(bs.length:Int) < (c.ents.length:Int):=by omega
   have hle:bs.length=c.ents.length:=by omega
   obtain⟨hs,hr,h0,hE,hc,hlo,hbel,hoff⟩:=HG.out
   by_cases hbig:153<=s.size
   ·have HBg:∀ _:Unit,153<=s.size:=fun _=>hbig
    have HRn:Hid _:=ke_renew (A:=A) hd hs hr (by rw[List.length_replicate];exact hle) hbig hoff;have HHd:Hid _:=hd;have HHH:Hid _:=hH;have HBw:Hid _:=hB;have HCw:Hid _:=hc;have HDg:Hid (KSt.opened c ⟨s,dg,[],false,[],TSt.new 0⟩=KSt.new c s):=by show _=_;rw[HDd.out];rfl
    clear hd hH hB hs hr h0 hE hc hlo hbel hbig hoff;go_wp2_with fail
    refine Calls.mono HRn.out ?_;rintro u w5 ⟨rfl,hrn⟩;have HRr:Hid _:=hrn;clear hrn HRn;go_wp2;go_ret2
    obtain⟨H5,rb,bt,k5,g5,o5⟩:=HRr.out;rw[HDg.out] at k5;unfold KeNwA;rw[if_pos (HBg ())]
    refine⟨kb,fun k=>∃ i,H5 i k,rfl,⟨H5,_,_,_,_,_,k5,fun i k hk=>⟨i,hk⟩⟩,?_,fun k ⟨i,hk⟩=>⟨?_,k5.fam.lt i k hk⟩⟩
    ·have hB:=HBw.out
     refine⟨o5.os.trans hB.os,o5.tape.trans hB.tape,o5.output.trans hB.output,Nat.le_trans hB.size o5.size,fun k hk=>?_⟩
     by_cases e:k=bc
     ·rw[e];exact k5.ring.cells.heap.trans HCw.out.heap.symm
     ·refine(o5.block k (Nat.lt_of_lt_of_le hk hB.size) (fun ⟨i,hi⟩=>?_)).trans (hB.block k hk)
      rcases HHH.out i k hi with e2 | e2
      ·exact e e2
      ·omega
    ·rcases g5 i k hk with ⟨j,hj⟩ | ⟨x,_⟩
     ·exact HHH.out j k hj
     ·exact Or.inr (Nat.le_trans HBw.out.size x)
   ·have HBg:∀ _:Unit,¬153<=s.size:=fun _=>hbig
    have HRn:Hid (Calls Tryz.prog 107 #[.pointer (some ⟨kb,0,none⟩)] wr fun e w'=>e=.returned (.iface 400 (.pointer (some (A 1))))/\Below wr.heap.size wr w'):=ke_renew_no (A:=A) hd hs hbig;have HBw:Hid _:=hB;clear hd hH hB hs hr h0 hE hc hlo hbel hbig hoff;go_wp2_with fail
    refine Calls.mono HRn.out ?_;rintro u w5 ⟨rfl,hb5⟩;have HB5:Hid _:=HBw.out.trans (hb5.mono HBw.out.size);clear hb5 HRn;go_wp2;go_ret2
    unfold KeNwA;rw[if_neg (HBg ())];exact⟨rfl,HB5.out⟩
theorem ke_new (sa:Option Addr)(sc:Nat)(hs:SenK A w0)(hr:KRt c)(h0:(cfgErr c).1=0)(hE:EntsAt w (.slice sa c.ents.length sc) c.ents)(hS:SmallC c)(hc:CellsAt w bc s)(hlo:w0.heap.size<=bc)(hbel:Below w0.heap.size w0 w)(hbig:153<=s.size)(hoff:s.off=false) :
  Calls Tryz.prog 48 #[.agg #[.int .i64 c.closed,.int .i64 c.opn,.int .i64 c.cycle,.int .i64 c.delay,.slice sa c.ents.length sc],.pointer (some ⟨bc,0,none⟩)] w fun u w'=>KeNw w0 w c bc s u w':=
 (ke_new_all sa sc hs hr h0 hE hS hc hlo hbel hoff).mono fun u w' h=>by unfold KeNwA at h;rw[if_pos hbig] at h;exact h
end
end Go.Proofs.YtffpcbdlbcjihadGreatDoor
