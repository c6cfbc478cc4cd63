/-
  Several texts as one: KeRnw, KeRnN, Orders3, CfNamP, CfName.
-/
import Derived.Test.YtdpdbfhbojgigacGreatDoorC18S
import Derived.BigQuiet
import Derived.Deep.QuietTactic
import Derived.Deep.DeepCutAuto
import Derived.WalkSmall
import Derived.Lib.ConvBytes
import Derived.Lib.BufferWrite
namespace Go.Proofs.YtdpdbfhbojgigacGreatDoor
open Go.RowKit Go.Extern.Stop Go.Stop Go.Extern
structure KeHd (H:Nat->Nat->Prop)(w0 w:World)(c:CfgD)(kb bc bd:Nat)(rv tv lv:Value)(bs:List Nat)(s:CSt)(d:DSt)(ls:List LSt):Prop where
 fam:Fam H w0.heap.size w
 row:w.heap[kb]?=some (.cells (keRow c bd bc rv lv tv) 102 (0,0))
 hk:H 0 kb
 own:SlOwn encB 1 93 w0.heap.size w lv bs
 hl:∀ k,lv.ownBlock=some k->H 1 k
 cells:CellsAt w bc s
 hc:H 2 bc
 dog:DogAt w bd d
 hd:H 3 bd
 loc:∀ i b e s,bs[i]?=some b->c.ents[i]?=some e->ls[i]?=some s->LoS (H (5+i)) w b e s
 blen:bs.length=ls.length
 bel:Below w0.heap.size w0 w
section
variable {A:Nat->Addr}{H:Nat->Nat->Prop}{F:Nat->Prop}{w0 w w' w1 w2:World}{c:CfgD}{kb bc bd rb bt:Nat}{rv tv lv:Value}{bs:List Nat}{s:CSt}{d:DSt}{ls:List LSt}{K:KSt}{k W:Nat}
theorem KeIn.hd' (h:KeIn H w0 w c kb bc bd rb bt lv bs K):KeHd H w0 w c kb bc bd (.pointer (some ⟨rb,0,none⟩)) (.pointer (some ⟨bt,0,none⟩)) lv bs K.c K.d K.ls:=
 ⟨h.fam,h.row,h.hk,h.own,h.hl,h.ring.cells,h.ring.fc,h.dog,h.hd,h.loc,by rw[h.blen,h.llen],h.bel⟩
theorem KeHd.cell (h:KeHd H w0 w c kb bc bd rv tv lv bs s d ls)(j:Nat)(u:Value)(hu:(keRow c bd bc rv lv tv)[j]?=some u):w.cell? ⟨kb,j,none⟩=some u:=by
 simp[World.cell?,h.row,hu]
theorem KeHd.below (h:KeHd H w0 w c kb bc bd rv tv lv bs s d ls)(hb:Below w.heap.size w w'):KeHd H w0 w' c kb bc bd rv tv lv bs s d ls:=
 ⟨h.fam.grow hb.size,row_below hb h.row,h.hk,h.own.below hb,h.hl,h.cells.below hb,h.hc,h.dog.below hb,h.hd,fun i b e s h1 h2 h3=>(h.loc i b e s h1 h2 h3).same (fun k hk=>hb.block k (h.fam.lt _ k hk)) hb.size,h.blen,h.bel.trans (hb.mono h.bel.size)⟩
theorem KeHd.laid {L:List Rec}{t:TSt}(h:KeHd H w0 w c kb bc bd rv tv lv bs s d ls)(hlen:ls.length=c.ents.length)(hb1:Below w.heap.size w w1)(hr:RgS (fun k=>k=bc\/(w.heap.size<=k/\k < w1.heap.size)) w0.heap.size w1 rb bc s L false)(ht:ToIn w1 w2 bt t)
  (hW:w'=(w2.setCell ⟨kb,4,none⟩ (.pointer (some ⟨rb,0,none⟩))).setCell ⟨kb,6,none⟩ (.pointer (some ⟨bt,0,none⟩))) :
  KeIn (updH (updH H 2 w w1) 4 w1 w2) w0 w' c kb bc bd rb bt lv bs ⟨s,d,L,false,ls,t⟩/\Off (fun k=>k=kb) w w'/\w2.heap.size=w'.heap.size:=by
 have hb2:Below w1.heap.size w1 w2:=ht.bel;have hb12:Below w.heap.size w w2:=hb1.trans (hb2.mono hb1.size);have h2:=h.below hb12;have hz:w2.heap.size=w'.heap.size:=by rw[hW];simp[World.setCell]
 have hof:Off (fun k=>k=kb) w2 w':=by rw[hW];exact Off.of_grown ((grown_setCell _ _ _ _).trans (grown_setCell _ _ _ _))
 have hf1:Fam (updH H 2 w w1) w0.heap.size w1:=h.fam.upd hb1.size h.bel.size 2;have hf2:Fam (updH (updH H 2 w w1) 4 w1 w2) w0.heap.size w2:=hf1.upd hb2.size (Nat.le_trans h.bel.size hb1.size) 4;have hf3:Fam (updH (updH H 2 w w1) 4 w1 w2) w0.heap.size w':=hf2.grow (by omega);have up:∀ i k,H i k->updH (updH H 2 w w1) 4 w1 w2 i k:=fun i k hk=>Or.inl (Or.inl hk)
 have hk2:=up 0 kb h.hk;have no:∀ i k,i≠0->updH (updH H 2 w w1) 4 w1 w2 i k->k≠kb:=fun i k hi hk e=>by rw[e] at hk;exact hi (hf2.dis i 0 kb hk hk2)
 have same:∀ i k,i≠0->updH (updH H 2 w w1) 4 w1 w2 i k->w'.heap[k]?=w2.heap[k]?:=fun i k hi hk=>hof.block k (hf2.lt i k hk) (no i k hi hk)
 have hbt:updH (updH H 2 w w1) 4 w1 w2 4 bt:=Or.inr ⟨rfl,ht.lo,lt_of_row ht.heap⟩;have hkw:kb < w.heap.size:=lt_of_row h.row
 refine⟨⟨hf3,?_,hk2,SlOwn.same h2.own (fun g hg=>same 1 g (by decide) (up 1 g (h.hl g hg))),fun k hk=>up 1 k (h.hl k hk),?_,h2.dog.off hof (no 3 bd (by decide) (up 3 bd h.hd)),up 3 bd h.hd,(same 4 bt (by decide) hbt).trans ht.heap,hbt,fun i b e s' h3 h4 h5=>?_,?_,hlen,?_⟩,?_,hz⟩
 ·rw[hW];exact row_put (row_put h2.row _) _
 ·have r2:=hr.off (Off.of_below hb2 (fun _=>False)) (fun _ _ e=>e);have r3:RgS (updH (updH H 2 w w1) 4 w1 w2 2) w0.heap.size w2 rb bc s L false:=r2.grow (fun k hk=>by
   rcases hk with rfl | hk
   ·exact up 2 k h.hc
   ·exact Or.inl (Or.inr ⟨rfl,hk⟩)) (fun k hk=>hf2.lt 2 k hk)
  exact r3.off hof (fun k hk=>no 2 k (by decide) hk)
 ·exact((h2.loc i b e s' h3 h4 h5).grow (fun k hk=>up _ k hk) (fun k hk=>hf2.lt _ k hk)).same (fun k hk=>same (5+i) k (by omega) hk) (by omega)
 ·rw[h.blen,hlen]
 ·exact Off.below h2.bel hof h2.bel.size (fun k hk=>by rw[hk];exact h.fam.lo 0 kb h.hk)
 ·exact(Off.of_below hb12 _).trans hof (fun _ _ e=>e)
def stopN (ls:List LSt)(n:Nat):List LSt:=(ls.take n).map LSt.stop++ls.drop n
theorem stopN_at {ls:List LSt}{n:Nat}{s:LSt}(h:ls[n]?=some s):(stopN ls n)[n]?=some s/\(stopN ls n).set n s.stop=stopN ls (n+1):=by
 have hn:n < ls.length:=(List.getElem?_eq_some_iff.1 h).1;have hl:((ls.take n).map LSt.stop).length=n:=by rw[List.length_map,List.length_take];omega
 have hd:ls.drop n=s :: ls.drop (n+1):=by
  rw[List.drop_eq_getElem_cons hn];rw[List.getElem?_eq_getElem hn] at h;rw[Option.some.inj h]
 unfold stopN
 refine⟨?_,?_⟩
 ·rw[List.getElem?_append_right (by omega),hl,Nat.sub_self,hd];rfl
 ·rw[List.set_append_right _ _ (by omega),hl,Nat.sub_self,hd,List.take_add_one,h,List.map_append];simp
theorem stopN_len (ls:List LSt)(n:Nat):(stopN ls n).length=ls.length:=by
 unfold stopN;rw[List.length_append,List.length_map,List.length_take,List.length_drop];omega
theorem stopN_all (ls:List LSt):∀ s∈stopN ls ls.length,s.act=false:=by
 intro s hs;unfold stopN at hs;rw[List.take_length,List.drop_length,List.append_nil,List.mem_map] at hs;obtain⟨x,-,rfl⟩:=hs;rfl
theorem KeIn.idle (h:KeIn H w0 w c kb bc bd rb bt lv bs K)(ls:List LSt)(hl:ls.length=c.ents.length)(h1:∀ s∈K.ls,s.act=false)(h2:∀ s∈ls,s.act=false):KeIn H w0 w c kb bc bd rb bt lv bs { K with ls:=ls }:=
 ⟨h.fam,h.row,h.hk,h.own,h.hl,h.ring,h.dog,h.hd,h.tot,h.ht,fun i b e s hb he hs=>by
  obtain⟨s0,hs0⟩:∃ s0,K.ls[i]?=some s0:=⟨_,List.getElem?_eq_getElem (by rw[h.llen];exact(List.getElem?_eq_some_iff.1 he).1)⟩;exact(h.loc i b e s0 hb he hs0).idle (h1 s0 (List.mem_of_getElem? hs0)) (h2 s (List.mem_of_getElem? hs)),h.blen,hl,h.bel⟩
def KeRn (H:Nat->Nat->Prop)(w0 w:World)(c:CfgD)(kb bc bd:Nat)(lv:Value)(bs:List Nat)(K:KSt)(w':World):Prop:=
 ∃ H' rb bt,KeIn H' w0 w' c kb bc bd rb bt lv bs K/\(∀ i k,H' i k->gr (fun k=>∃ i,H i k) w w' k)/\Off (fun k=>∃ i,H i k) w w'
set_option maxHeartbeats 4000000 in
set_option maxRecDepth 100000 in
theorem ke_renew (h:KeHd H w0 w c kb bc bd rv tv lv bs s d ls)(hs:SenK A w0)(hr:KRt c)(hlen:ls.length=c.ents.length)(hbig:153<=s.size)(hoff:s.off=false) :
  Calls Tryz.prog 66 #[.pointer (some ⟨kb,0,none⟩)] w fun e w'=>e=.returned .nilIface/\KeRn H w0 w c kb bc bd lv bs (KSt.opened c ⟨s,d,[],false,[],TSt.new 0⟩) w':=by
 obtain⟨la,lc,rfl⟩:=ow_form h.own;have hbl:bs.length=c.ents.length:=by rw[h.blen,hlen]
 rw[hbl] at h ⊢;have c2:w.cell? ⟨kb,2,none⟩=some (.pointer (some ⟨bc,0,none⟩)):=h.cell 2 _ rfl;obtain⟨de,hde⟩:∃ de:Nat,c.delay=(de:Int):=⟨c.delay.toNat,by have:=hr.de;omega⟩;have hde20:de<=20:=by have:=hr.de;omega
 have c3:w.cell? ⟨kb,3,none⟩=some (.int .i64 (de:Int)):=by rw[<- hde];exact h.cell 3 _ rfl
 have HX:Hid _:=rgs_open (A:=A) (D:=w0.heap.size) h.cells (hs.below h.bel).four hbig hoff h.bel.size;have HH:Hid _:=h;have HSv:Hid _:=hs;have HN:Hid (ls.length=c.ents.length/\c.ents.length<=8/\c.delay.toNat=de):=⟨hlen,hr.nn,by omega⟩;have HT:Hid (∀ V,Calls Tryz.prog 100 #[.int .i64 (de:Int)] V fun v w'=>∃ b,v=.returned (.tuple #[.pointer (some ⟨b,0,none⟩),.nilIface])/\ToIn V w' b (TSt.new de)):=fun V=>to_new de V hde20
 clear h hs hr hlen hbig hoff hde hde20;go_enter Tryz.func66,Tryz.ntmps66
 go_wp2_with fail
 refine Calls.mono HX.out ?_;rintro u w1 ⟨rb,rfl,hr1,hb1⟩;have e3:=cell_below hb1 c3;have HR1:Hid _:=hr1;have HB1:Hid _:=hb1;clear hr1 hb1 HX c2 c3;go_wp2_with fail
 refine Calls.mono (HT.out w1) ?_;rintro u w2 ⟨bt,rfl,ht2⟩;have HT2:Hid _:=ht2;have hb12:Below w.heap.size w w2:=HB1.out.trans (ht2.bel.mono HB1.out.size);have h2:=HH.out.below hb12;have e4:w2.cell? ⟨kb,4,none⟩=some rv:=h2.cell 4 _ rfl;have e6:w2.cell? ⟨kb,6,none⟩=some tv:=h2.cell 6 _ rfl;have q4:∀ j,w2.frozen? ⟨kb,j,none⟩=false:=fun j=>by simp[World.frozen?,h2.row]
 have e6':(w2.setCell ⟨kb,4,none⟩ (.pointer (some ⟨rb,0,none⟩))).cell? ⟨kb,6,none⟩=some tv:=by
  have:=row_put (j:=4) h2.row (.pointer (some ⟨rb,0,none⟩));simp[World.cell?,this,keRow]
 have q6':(w2.setCell ⟨kb,4,none⟩ (.pointer (some ⟨rb,0,none⟩))).frozen? ⟨kb,6,none⟩=false:=by
  have:=row_put (j:=4) h2.row (.pointer (some ⟨rb,0,none⟩));simp[World.frozen?,this]
 clear ht2 hb12 h2 e3 HT;go_upto_region 8 with fail
 obtain⟨W3,hW3⟩:∃ X,X=(w2.setCell ⟨kb,4,none⟩ (.pointer (some ⟨rb,0,none⟩))).setCell ⟨kb,6,none⟩ (.pointer (some ⟨bt,0,none⟩)):=⟨_,rfl⟩;obtain⟨hk3,hof3,hz3⟩:=HH.out.laid HN.out.1 HB1.out HR1.out HT2.out hW3;rw[<- hW3];clear hW3 e4 e6 q4 e6' q6';have c5:W3.cell? ⟨kb,5,none⟩=some (.slice la c.ents.length lc):=hk3.cell 5 _ rfl;have HTo:Hid (KeTo (updH (updH H 2 w w1) 4 w1 w2) w0 W3 c kb bc bd rb bt (.slice la c.ents.length lc) bs ⟨s,d,openL (s.bytes.take s.size),false,stopN ls 0,TSt.new de⟩ W3):=KeTo.same hk3;have HO3:Hid _:=hof3;have HZ:Hid (updH (updH H 2 w w1) 4 w1 w2 0 kb/\(∀ i k,updH (updH H 2 w w1) 4 w1 w2 i k->H i k\/(w.heap.size<=k/\k < W3.heap.size))/\H 0 kb):=⟨hk3.hk,fun i k hk=>by
  have a1:w1.heap.size<=w2.heap.size:=HT2.out.bel.size;have a2:w.heap.size<=w1.heap.size:=HB1.out.size
  rcases hk with (hk | ⟨_,x,y⟩) | ⟨_,x,y⟩
  ·exact Or.inl hk
  ·exact Or.inr ⟨x,by omega⟩
  ·exact Or.inr ⟨by omega,by omega⟩,HH.out.hk⟩
 have HOp:Hid (KSt.opened c ⟨s,d,[],false,[],TSt.new 0⟩=⟨s,d,openL (s.bytes.take s.size),false,c.ents.map fun _=>LSt.new,TSt.new de⟩):=by show _=_;unfold KSt.opened;rw[HN.out.2.2]
 clear hk3 hof3 hz3 HR1 HB1 HT2 HH;generalize updH (updH H 2 w w1) 4 w1 w2=H3 at HTo HZ;generalize openL (s.bytes.take s.size)=OL at HTo HOp
 go_cut [41,42,43] (fun l n i wx=>l=.slice la c.ents.length lc/\n=.int .i64 (c.ents.length:Int)/\i=.int .i64 0/\wx=W3)
 case first=>
  go_wp2_with fail
  go_meet
  case rel=>exact⟨rfl,rfl,rfl,rfl⟩
 obtain⟨rfl,rfl,rfl,rfl⟩:=hcut;rename World=>W3
 clear c5;go_wp2_with fail
 go_loopw [7,43] (fun _ i wr=>∃ n:Nat,n<=c.ents.length/\i=.int .i64 n/\KeTo H3 w0 W3 c kb bc bd rb bt (.slice la c.ents.length lc) bs ⟨s,d,OL,false,stopN ls n,TSt.new de⟩ wr) (fun _ i _=>c.ents.length - (intOf i).toNat)
 case atStart=>exact⟨0,Nat.zero_le _,rfl,HTo.out⟩
 case round=>
  clear HTo;obtain⟨n,hnl,rfl,hto⟩:=hrel
  by_cases hlt:n < c.ents.length
  ·obtain⟨H4,k4,g4,o4⟩:=hto;obtain⟨sn,hsn⟩:∃ x,ls[n]?=some x:=⟨_,List.getElem?_eq_getElem (by rw[HN.out.1];exact hlt)⟩;obtain⟨hs1,hs2⟩:=stopN_at hsn;obtain⟨b,e,g,cap,hb,he,hlv,cp,h4⟩:=k4.locAt (K:=⟨s,d,OL,false,stopN ls n,TSt.new de⟩) hs1;rw[show (stopN ls n).length=c.ents.length by rw[stopN_len,HN.out.1]] at hlv;simp only[Value.slice.injEq,true_and] at hlv;obtain⟨rfl,rfl⟩:=hlv;have HX:Hid _:=los_stop (A:=A) h4 ((k4.senv HSv.out).c8);have HNx:Hid (∀ w5,LoS (gr (H4 (5+n)) wr w5) w5 b e sn.stop->Off (H4 (5+n)) wr w5->KeTo H3 w0 W3 c kb bc bd rb bt (.slice (some ⟨g,0,none⟩) c.ents.length lc) bs ⟨s,d,OL,false,stopN ls (n+1),TSt.new de⟩ w5):=fun w5 hl5 ho5=>by
    have:=KeTo.one ho5 (k4.toLoc ho5 hb he hl5);rw[show KSt.setL ⟨s,d,OL,false,stopN ls n,TSt.new de⟩ n sn.stop=⟨s,d,OL,false,stopN ls (n+1),TSt.new de⟩ by unfold KSt.setL;rw[<- hs2]] at this;exact KeTo.trans g4 o4 this
   have k1:(n:Int) < (c.ents.length:Int):=by omega
   have k2:c.ents.length<=8:=HN.out.2.1;clear k4 g4 o4 hs1 hs2 hsn hb he h4;go_wp2_with fail
   refine Calls.mono HX.out ?_;rintro u w5 ⟨rfl,hl5,ho5⟩;have HK5:Hid _:=HNx.out w5 hl5 ho5;clear hl5 ho5 HNx HX;go_wp2_with fail
   go_roundw
   case rel=>exact⟨n+1,by omega,by go_num,HK5.out⟩
   case measure=>simp[intOf];omega
  ·obtain rfl:n=c.ents.length:=by omega
   have k1:¬(c.ents.length:Int) < (c.ents.length:Int):=by omega
   have HTo:Hid _:=hto;clear hto;go_wp2;go_ret;obtain⟨H5,k5,g5,o5⟩:=HTo.out;have hall:=stopN_all ls;rw[HN.out.1] at hall;have k6:=k5.idle (c.ents.map fun _=>LSt.new) (by rw[List.length_map]) hall (fun s hs=>by
    simp only[List.mem_map] at hs;obtain⟨_,_,rfl⟩:=hs;rfl)
   rw[HOp.out]
   refine⟨rfl,H5,rb,bt,k6,fun i k hk=>?_,?_⟩
   ·rcases g5 i k hk with ⟨j,hj⟩ | ⟨x,y⟩
    ·rcases HZ.out.2.1 j k hj with hj | ⟨x,y⟩
     ·exact Or.inl ⟨j,hj⟩
     ·exact Or.inr ⟨x,Nat.lt_of_lt_of_le y o5.size⟩
    ·exact Or.inr ⟨Nat.le_trans HO3.out.size x,y⟩
   ·refine(HO3.out.mono (fun k _ e=>⟨0,by rw[e];exact HZ.out.2.2⟩)).trans o5 (fun k hk ⟨j,hj⟩=>?_)
    rcases HZ.out.2.1 j k hj with hj | ⟨x,_⟩
    ·exact⟨j,hj⟩
    ·omega
theorem KeRn.post {bd':Nat}(h:KeRn H w0 w c kb bc bd' lv bs K w')(hF:∀ i k,H i k->F k):KePost F w0 w c kb bc K w':=by
 obtain⟨H2,rb,bt,h1,h2,h3⟩:=h;exact⟨⟨H2,_,_,_,_,_,h1,fun i k hk=>(h2 i k hk).imp (fun ⟨j,hj⟩=>hF j k hj) id⟩,h3.mono (fun k _ ⟨j,hj⟩=>hF j k hj)⟩
theorem opened_d2 (c:CfgD)(s:CSt)(d d':DSt)(L:List Rec)(sp:Bool)(ls:List LSt)(t:TSt):KSt.opened c ⟨s,d',L,sp,ls,t⟩={ KSt.opened c ⟨s,d,[],false,[],TSt.new 0⟩ with d:=d' }:=by
 unfold KSt.opened;generalize openL (s.bytes.take s.size)=X;rfl
set_option maxHeartbeats 2000000 in
theorem ke_boot (h:KeAt F w0 w c kb bc K)(hs:SenK A w0)(hr:KRt c)(hf:KFit c K k W) :
  Calls Tryz.prog 27 #[.pointer (some ⟨kb,0,none⟩)] w fun e w'=>e=.returned (errVal A (K.boot c).2)/\KePost F w0 w c kb bc (K.boot c).1 w':=by
 have HS:Hid (KePost F w0 w c kb bc K w):=KePost.same h;obtain⟨H,bd,rb,bt,lv,bs,h1,hF⟩:=h;have HC:Hid _:=ke_state h1;have g9:=(h1.senv hs).c9
 by_cases ho:K.on=0
 ·have HB:Hid (K.boot c=(K,10)):=by show _=_;unfold KSt.boot;rw[if_pos ho]
  rw[ho,show stateB 0=⟨#[111,110]⟩ from rfl] at HC;clear h1 hF hf hr ho hs;go_enter Tryz.func27,Tryz.ntmps27
  go_wp2_with fail
  refine Calls.mono HC.out ?_;rintro e w' ⟨rfl,rfl⟩;go_wp2;go_ret;rw[HB.out];exact⟨rfl,HS.out⟩
 ·have HB:Hid (K.boot c=(KSt.opened c { K with c:={ K.c with off:=false,cut:=false,left:=0 },d:=K.d.start },0)):=by show _=_;unfold KSt.boot;rw[if_neg ho]
  have c2:w.cell? ⟨kb,2,none⟩=some (.pointer (some ⟨bc,0,none⟩)):=h1.cell 2 _ rfl;have HOn:Hid _:=rgs_on h1.ring;have H1:Hid _:=h1;have HF:Hid _:=hF;have HBig:Hid (153<=K.c.size):=hf.big.size;have HR:Hid _:=hr;have HSv:Hid _:=hs;clear h1 hF hf hr HS hs
  rcases K.on_cases with he | he | he
  ·exact absurd he ho
  all_goals
   rw[he] at HC
   first | rw[show stateB 8=⟨#[111,102,102]⟩ from rfl] at HC | rw[show stateB 11=⟨#[114,101,115,101,116]⟩ from rfl] at HC
   clear he ho;go_enter Tryz.func27,Tryz.ntmps27
   go_wp2_with fail
   refine Calls.mono HC.out ?_;rintro e w' ⟨rfl,rfl⟩;go_wp2_with fail
   refine Calls.mono HOn.out ?_;rintro e w2 ⟨rfl,hr2,hof2⟩;have k2:=H1.out.toRing hof2 hr2;have HX:Hid _:=ke_renew (A:=A) k2.hd' HSv.out HR.out k2.llen HBig.out rfl;have HP2:Hid (KePost F w0 w' c kb bc _ w2):=KeIn.post HF.out hof2 k2;have HU:Hid (∀ i k,updH H 2 w' w2 i k->gr F w' w2 k):=updH_all HF.out 2;clear k2 hr2 hof2 HOn HC c2;go_wp2_with fail
   refine Calls.mono HX.out ?_;rintro u w4 ⟨rfl,hrn⟩;have HP4:Hid (KePost F w0 w' c kb bc _ w4):=HP2.out.trans (hrn.post HU.out);obtain⟨H4,rb4,bt4,k4,g4,o4⟩:=hrn;have c0:w4.cell? ⟨kb,0,none⟩=some (.pointer (some ⟨bd,0,none⟩)):=k4.cell 0 _ rfl;have HSt:Hid _:=dog_start bd _ w4 k4.dog;have HH4:Hid (∀ i k,H4 i k->gr F w' w4 k):=fun i k hk=>by
    rcases g4 i k hk with ⟨j,hj⟩ | ⟨x,y⟩
    ·exact(HU.out j k hj).imp id (fun ⟨x,y⟩=>⟨x,Nat.lt_of_lt_of_le y o4.size⟩)
    ·exact Or.inr ⟨Nat.le_trans HP2.out.2.size x,y⟩
   have HK4:Hid _:=k4;clear k4 g4 o4 HX;go_wp2_with fail
   refine Calls.mono HSt.out ?_;rintro u w5 ⟨rfl,hd5,hg5⟩;go_wp2;go_ret;rw[HB.out]
   refine⟨rfl,?_⟩;have hof5:Off (H4 3) w4 w5:=(Off.of_grown hg5).mono (fun k _ e=>by rw[e];exact HK4.out.hd);have k5:=HK4.out.toDog hof5 hd5;have p5:=KeIn.post HH4.out hof5 k5;have p6:=HP4.out.trans p5;rw[opened_d2 c { K.c with off:=false,cut:=false,left:=0 } K.d K.d.start K.L K.sp K.ls K.t];exact p6
end
section
variable {A:Nat->Addr}{H:Nat->Nat->Prop}{w0 w w':World}{c:CfgD}{kb bc bd:Nat}{rv tv lv:Value}{bs:List Nat}{s:CSt}{d:DSt}{ls:List LSt}
set_option maxHeartbeats 1000000 in
theorem ke_renew_no (h:KeHd H w0 w c kb bc bd rv tv lv bs s d ls)(hs:SenK A w0)(hsm:¬153<=s.size) :
  Calls Tryz.prog 66 #[.pointer (some ⟨kb,0,none⟩)] w fun e w'=>e=.returned (errVal A 2)/\Below w.heap.size w w':=by
 have c2:w.cell? ⟨kb,2,none⟩=some (.pointer (some ⟨bc,0,none⟩)):=h.cell 2 _ rfl;have HX:Hid (Calls Tryz.prog 33 #[.pointer (some ⟨bc,0,.none⟩)] w fun e w'=>e=.returned (.tuple #[.pointer .none,.iface 298 (.pointer (some (A 1)))])/\Below w.heap.size w w'):=
  open_no A bc s 1 w h.cells (hs.below h.bel).four (by unfold CSt.err;rw[if_pos (by omega)])
 clear h hs hsm;go_enter Tryz.func66,Tryz.ntmps66
 go_wp2_with fail
 refine Calls.mono HX.out ?_;rintro u w1 ⟨rfl,hb1⟩;have HB1:Hid _:=hb1;clear hb1 HX c2;go_wp2;go_ret;exact⟨rfl,HB1.out⟩
end
end Go.Proofs.YtdpdbfhbojgigacGreatDoor
namespace Go.Proofs.YtdpdbfhbojgigacGreatDoor
open Go
def goodRun3 (P:Program)(C:(Nat->Option Value)->World->Prop)(vals:Nat->Option Value)(i:Nat):Result Next->Prop
 | .ok (.value u) w'=>C (upd vals i u) w'
 | .ok .skip w'=>C (upd vals i undef) w'
 | .ok (.enter f args) w'=>Calls P f args w' fun e w''=>∃ v,e=.returned v/\C (upd vals i v) w''
 | _=>False
section
variable {P:Program}{ops:Array Oper}{Q:Exit->Act->World->Prop}{md:Region.Mode}{C:(Nat->Option Value)->World->Prop}{a0:Act}
def StepOk3 (P:Program)(md:Region.Mode)(ops:Array Oper)(C:(Nat->Option Value)->World->Prop)(a0:Act)(i:Nat)(o:Oper):Prop:=
 ∀ (vals:Nat->Option Value) (a:Act) (w:World),C vals w->vals i=none->(∀ e,e∈o.after->Region.binds md e=true->∃ v,vals e.on=some v/\∀ d,dstOf ops e.on=some d->a.eval (.tmp d)=v) ->
  (∀ d,(∀ j,dstOf ops j≠some d)->a.eval (.tmp d)=a0.eval (.tmp d)) ->
  if Region.wanted o (yielded ops a.tmps)=true then goodRun3 P C vals i ((execOp a.eval o).run P w) else C (upd vals i undef) w
theorem wpAny_spec3 (hd:Distinct ops)(hin:∀ j d,dstOf ops j=some d->d < a0.tmps.size)
  (hback:∀ i o,ops[i]?=some o->∀ e,e∈o.after->Region.binds md e=true->e.on < i)
  (step:∀ i o,ops[i]?=some o->StepOk3 P md ops C a0 i o)
  (fin:∀ (vals:Nat->Option Value) (w:World),C vals w->(∀ j,j < ops.size->(vals j).isSome=true)->Q .normal (fill ops a0 vals ops.size) w) :
  ∀ (fuel:Nat) (listed:Array Bool) (vals:Nat->Option Value) (w:World),listed.size=ops.size->(∀ j,j < ops.size->listed.getD j true=(vals j).isSome)->C vals w ->
   cnt vals ops.size<=fuel->wpAny P md ops Q fuel listed (fill ops a0 vals ops.size) w:=by
 have hready:∀ (listed:Array Bool) (vals:Nat->Option Value),listed.size=ops.size->(∀ j,j < ops.size->listed.getD j true=(vals j).isSome)->Region.ready md ops listed=[]->∀ j,j < ops.size->(vals j).isSome=true:=by
  intro listed vals hsz hl hr j
  induction j using Nat.strongRecOn with
  | ind j ih=>
   intro hj
   cases hv:(vals j).isSome with
   | true=>rfl
   | false=>
    exfalso
    have hm:j∈Region.ready md ops listed:=by
     rw[mem_ready]
     refine⟨by rw[hl j hj,hv],ops[j],Array.getElem?_eq_getElem hj,fun e he hb=>?_⟩;have hlt:=hback j _ (Array.getElem?_eq_getElem hj) e he hb;have h1:=ih e.on hlt (by omega);have h2:=hl e.on (by omega);rw[h1] at h2;have h3:e.on < listed.size:=by omega
     simp only[Array.getD_eq_getD_getElem?,Array.getElem?_eq_getElem h3,Option.getD_some] at h2 ⊢;exact h2
    rw[hr] at hm
    cases hm
 intro fuel
 induction fuel with
 | zero=>
  intro listed vals w hsz hl hC hc;have hall:=cnt_zero vals ops.size (by omega)
  refine⟨?_,fin vals w hC hall⟩
  cases hr:Region.ready md ops listed with
  | nil=>rfl
  | cons i r=>
   have hm:i∈Region.ready md ops listed:=by rw[hr];exact List.mem_cons_self ..
   rw[mem_ready] at hm;obtain⟨h0,o,ho,-⟩:=hm;have hi:i < ops.size:=(Array.getElem?_eq_some_iff.1 ho).1;rw[hl i hi,hall i hi] at h0
   cases h0
 | succ fuel ih=>
  intro listed vals w hsz hl hC hc
  refine⟨fun hr=>fin vals w hC (hready listed vals hsz hl hr),fun i hm=>?_⟩;rw[mem_ready] at hm;obtain⟨h0,o,ho,hdeps⟩:=hm;have hi:i < ops.size:=(Array.getElem?_eq_some_iff.1 ho).1;have hnone:vals i=none:=by
   rw[hl i hi] at h0
   cases hv:vals i with
   | none=>rfl
   | some v=>rw[hv] at h0;cases h0
  have hdo:dstOf ops i=o.dst:=by simp[dstOf,ho]
  have hst:=step i o ho vals (fill ops a0 vals ops.size) w hC hnone (fun e he hb=>by
    have h1:=hdeps e he hb;have hlt:=hback i o ho e he hb;have h2:=hl e.on (by omega);have h3:e.on < listed.size:=by omega
    have h4:(vals e.on).isSome=true:=by
     rw[<- h2];simp only[Array.getD_eq_getD_getElem?,Array.getElem?_eq_getElem h3,Option.getD_some] at h1 ⊢;exact h1
    cases hv:vals e.on with
    | none=>rw[hv] at h4;cases h4
    | some v=>exact⟨v,rfl,fun d hde=>fill_at ops a0 vals hd e.on d v hv hde (hin _ _ hde) ops.size (by omega)⟩)
   (fun d hnd=>fill_other ops a0 vals d ops.size (fun j _=>hnd j))
  have hnext:∀ (v:Value) (w':World),C (upd vals i v) w'->wpAny P md ops Q fuel (listed.setIfInBounds i true) ((fill ops a0 vals ops.size).put o.dst v) w':=by
   intro v w' hC';rw[<- hdo,<- fill_upd ops a0 vals hd i v hnone ops.size hi]
   refine ih _ (upd vals i v) w' (by simp[hsz]) (fun j hj=>?_) hC' (by have:=cnt_upd vals i v hnone ops.size hi;omega)
   by_cases e:j=i
   ·subst e;simp[upd,hsz,hi]
   ·rw[getD_set_ne true (Ne.symm e),hl j hj];simp[upd,e]
  unfold wpOp;simp only[ho]
  split
  ·rename_i hw;rw[if_pos hw] at hst
   refine .inl ?_;unfold Oper.wp;generalize (execOp (fill ops a0 vals ops.size).eval o).run P w=r at hst
   cases r with
   | ok n w'=>
    cases n <;> simp only[goodRun3] at hst <;> simp only[Oper.upon]
    case value u=>exact hnext _ _ hst
    case skip=>exact hnext _ _ hst
    case enter f args=>exact hst.mono fun e w'' ⟨v,he,h1⟩=>by subst he;exact hnext _ _ h1
   | halt x w'=>simp only[goodRun3] at hst
  ·rename_i hw;rw[if_neg hw] at hst;exact hnext _ _ hst
theorem region_spec3 {id:Nat}{w:World}(n:Nat)(hn:ops.size=n)(C:(Nat->Option Value)->World->Prop)(hm:P.follows .mixedOrders=true)(hB:regionB ops a0.tmps.size=true)(hC:C (fun _=>none) w.drew)
  (step:∀ i o,ops[i]?=some o->StepOk3 P .any ops C a0 i o)
  (fin:∀ (vals:Nat->Option Value) (w:World),C vals w->(∀ j,j < n->(vals j).isSome=true)->Q .normal (fill ops a0 vals n) w) :
  (Code.region id ops true).wp P Q a0 w:=by
 subst hn;unfold regionB at hB;simp only[Bool.and_eq_true,List.all_eq_true,List.mem_range] at hB;obtain⟨⟨h1,h2⟩,h3⟩:=hB
 refine wp_region_any hm ?_;have hnone:fill ops a0 (fun _=>none) ops.size=a0:=by
  have:∀ k,fill ops a0 (fun _=>none) k=a0:=by
   intro k
   induction k with
   | zero=>rfl
   | succ k ih=>simp only[fill,ih]
  exact this _
 have key:=wpAny_spec3 (P:=P) (ops:=ops) (Q:=Q) (md:=.any) (C:=C) (a0:=a0)
  (fun i j d hne hi hj=>by
   have h:=h1 i (dstOf_lt hi) j (dstOf_lt hj);simp[hne,hi,hj] at h)
  (fun j d hj=>by
   have h:=h2 j (dstOf_lt hj);rw[hj] at h;simpa using h)
  (fun i o ho e he hb=>by
   have h:=h3 i (Array.getElem?_eq_some_iff.1 ho).1;rw[ho] at h;have:=List.all_eq_true.1 h e (by simpa using he);simpa[hb] using this)
  step fin ops.size (Array.replicate ops.size false) (fun _=>none) w.drew (by simp) (fun j hj=>by simp[hj]) hC (by
   have:∀ k,cnt (fun _=>none) k<=k:=by
    intro k
    induction k with
    | zero=>exact Nat.le_refl _
    | succ k ih=>simp only[cnt];split <;> omega
   exact this _)
 rw[hnone] at key;exact key
theorem StepOk3.free {i:Nat}{o:Oper}(hg:o.guard=none)
  (hrun:∀ (vals:Nat->Option Value) (a:Act) (w:World),C vals w->vals i=none->(∀ e,e∈o.after->Region.binds md e=true->∃ v,vals e.on=some v/\∀ d,dstOf ops e.on=some d->a.eval (.tmp d)=v)->(∀ d,(∀ j,dstOf ops j≠some d)->a.eval (.tmp d)=a0.eval (.tmp d))->goodRun3 P C vals i ((execOp a.eval o).run P w)) :
  StepOk3 P md ops C a0 i o:=by
 intro vals a w hC hi hdep hoth;rw[if_pos (by unfold Region.wanted;rw[hg])];exact hrun vals a w hC hi hdep hoth
theorem goodRun3.val {i:Nat}{vals:Nat->Option Value}{w:World}{c:Value}{r:Result Next}(hr:r=.ok (.value c) w)(hC:C (upd vals i c) w):goodRun3 P C vals i r:=by
 subst hr;exact hC
theorem goodRun3.call {i:Nat}{vals:Nat->Option Value}{w:World}{f:FuncId}{args:Array Value}{r:Result Next}(hr:r=.ok (.enter f args) w)
  (hc:Calls P f args w fun e w''=>∃ v,e=.returned v/\C (upd vals i v) w''):goodRun3 P C vals i r:=by
 subst hr;exact hc
theorem upd_same (vals:Nat->Option Value)(i:Nat)(v:Value):upd vals i v i=some v:=by simp[upd]
theorem upd_other (vals:Nat->Option Value){i j:Nat}(v:Value)(h:j≠i):upd vals i v j=vals j:=by simp[upd,h]
theorem goodRun3.skip {P:Program}{C:(Nat->Option Value)->World->Prop}{i:Nat}{vals:Nat->Option Value}{w:World}{r:Result Next}(hr:r=.ok .skip w)(hC:C (upd vals i undef) w):goodRun3 P C vals i r:=by
 subst hr;exact hC
theorem neUpd {vals:Nat->Option Value}{i:Nat}{u:Value}{j:Nat}(h:vals j≠none):upd vals i u j≠none:=by
 by_cases e:j=i
 ·subst e;rw[upd_same];simp
 ·rw[upd_other vals u e];exact h
end
end Go.Proofs.YtdpdbfhbojgigacGreatDoor
namespace Go.Proofs.YtdpdbfhbojgigacGreatDoor
open Go.RowKit Go.Extern.Stop Go.Stop Go.Extern
theorem byte_at (s:ByteArray)(k:Nat)(h:k < s.size):s[k]=s.data.toList.getD k 0:=by
 have:k < s.data.toList.length:=by rw[Array.length_toList];exact h
 rw[List.getD_eq_getElem?_getD,List.getElem?_eq_getElem this];rfl
theorem isName_no {s:ByteArray}(h:s.size < 1\/12 < s.size):isName s=false:=by
 unfold isName
 rcases h with h | h
 ·have:decide (1<=s.size)=false:=decide_eq_false (by omega);rw[this];rfl
 ·have:decide (s.size<=12)=false:=decide_eq_false (by omega);rw[this];simp
theorem isName_first {s:ByteArray}(h:isLetter (s.data.toList.getD 0 0)=false):isName s=false:=by
 have e:s.data.getD 0 0=s.data.toList.getD 0 0:=by simp
 unfold isName;rw[e,h];simp
theorem isName_bad {s:ByteArray}{k:Nat}(h1:k < s.size)(h:nameByte (s.data.toList.getD k 0)=false):isName s=false:=by
 have hk:k < s.data.toList.length:=by rw[Array.length_toList];exact h1
 have:s.data.toList.all nameByte=false:=by
  rw[List.all_eq_false]
  refine⟨s.data.toList.getD k 0,?_,by simpa using h⟩;rw[List.getD_eq_getElem?_getD,List.getElem?_eq_getElem hk];exact List.getElem_mem hk
 unfold isName;rw[this];simp
theorem isName_yes {s:ByteArray}(h1:1<=s.size)(h2:s.size<=12)(h3:isLetter (s.data.toList.getD 0 0)=true)(h:∀ j,j < s.size->nameByte (s.data.toList.getD j 0)=true):isName s=true:=by
 have e:s.data.getD 0 0=s.data.toList.getD 0 0:=by simp
 have ha:s.data.toList.all nameByte=true:=by
  rw[List.all_eq_true];intro b hb;obtain⟨j,hj,rfl⟩:=List.getElem_of_mem hb;have:=h j (by rw[Array.length_toList] at hj;exact hj);rw[List.getD_eq_getElem?_getD,List.getElem?_eq_getElem hj] at this;exact this
 unfold isName;rw[e,h3,ha];simp[h1,h2]
theorem bytes_madeC (w:World)(t:ByteArray):∃ cap W,(convert 9 86 (.string t)).run Tryz.prog w=.ok (.slice (some ⟨w.heap.size,0,.none⟩) t.size cap) W/\Below w.heap.size w W /\
  (∀ j,j < t.size->W.cell? ⟨w.heap.size,j,.none⟩=some (.int .u8 ((t.data.toList.getD j 0).toNat:Int))):=by
 exact⟨_,_,Lib.run_convert_string_bytes w 9 86 5 t Tryz.underlying9 Tryz.underlying86 Tryz.underlying5,⟨rfl,rfl,rfl,by rw[Lib.bytesWorld_size];omega,fun i hi=>Lib.bytesWorld_at_old w _ t i hi⟩,fun j hj=>Lib.bytesWorld_cell w _ t j hj⟩
set_option maxHeartbeats 1000000 in
theorem isName_at (s:ByteArray)(w:World)(hs:s.size<=1000000):Calls Tryz.prog 148 #[.string s] w fun e w'=>e=.returned (.bool (isName s))/\Below w.heap.size w w':=by
 by_cases hsz:1<=s.size/\s.size<=12
 ·obtain⟨z1,z2⟩:=hsz;have hw:=within_at (s.size:Int) 1 12 w;rw[show within (s.size:Int) 1 12=true by simp[within];omega] at hw;have k0:(0:Int) < (s.size:Int):=by omega
  have hb0:Hid (∀ h:0 < s.size,s[0]=s.data.toList.getD 0 0):=fun h=>byte_at s 0 h
  have hl:=isLetter_at (s.data.toList.getD 0 0) w
  by_cases hL:isLetter (s.data.toList.getD 0 0)=true
  ·rw[hL] at hl;have HZ:Hid (1<=s.size/\s.size<=12/\isLetter (s.data.toList.getD 0 0)=true):=⟨z1,z2,hL⟩;clear z1 z2 hL hs;go_enter Tryz.func148,Tryz.ntmps148
   go_wp2_with fail
   refine hw.mono ?_;rintro e w' ⟨rfl,rfl⟩;go_wp2_with fail
   rw[hb0.out]
   refine hl.mono ?_;rintro e w ⟨rfl,rfl⟩;clear hl hw hb0 k0;obtain⟨cap,W,hcv,hbW,hcell⟩:=bytes_madeC w s;have HCl:Hid (∀ j,j < s.size->W.cell? ⟨w.heap.size,j,.none⟩=some (.int .u8 ((s.data.toList.getD j 0).toNat:Int))):=hcell;have HbW:Hid (Below w.heap.size w W):=hbW;clear hcell hbW;go_wp2_with fail
   go_loopw [4,18] (fun _ i wr=>∃ k:Nat,k<=s.size/\i=.int .i64 k/\wr=W/\∀ j,j < k->nameByte (s.data.toList.getD j 0)=true) (fun _ i _=>s.size - (intOf i).toNat)
   case atStart=>exact⟨0,Nat.zero_le _,rfl,rfl,fun j hj=>absurd hj (Nat.not_lt_zero _)⟩
   case round=>
    obtain⟨k,hk,rfl,rfl,hall⟩:=hrel
    by_cases hlt:k < s.size
    ·have hc:=HCl.out k hlt;have HB:Hid (∀ j,j < k->nameByte (s.data.toList.getD j 0)=true):=hall;have HY:Hid (nameByte (s.data.toList.getD k 0)=false->isName s=false):=fun h=>isName_bad hlt h
     have k1:(k:Int) < (s.size:Int):=by omega
     have k12:k < 12:=by have:=HZ.out.2.1;omega
     have HX:Hid (∀ b:Bool,nameByte (s.data.toList.getD k 0)=b->nameByte (s.data.toList.getD k 0)=b):=fun b h=>h
     have HK:Hid (∃ c,c=s.data.toList.getD k 0):=⟨_,rfl⟩;clear hall hcv;obtain⟨c,hcc⟩:=HK.out;rw[<- hcc] at hc;have HC:Hid (c=s.data.toList.getD k 0):=hcc;clear hcc HK HX;have hd:=isDigit_at c;have hl2:=isLetter_at c
     by_cases b1:isLetter c=true
     ·rw[b1] at hl2;go_wp2_with fail
      refine(hl2 _).mono ?_;rintro e w' ⟨rfl,rfl⟩;go_wp2;go_roundw
      case rel=>
       refine⟨k+1,by omega,by go_num,by first | trivial | rfl,fun j hj=>?_⟩
       by_cases e:j=k
       ·rw[e,<- HC.out];simp[nameByte,b1]
       ·exact HB.out j (by omega)
      case measure=>simp[intOf];omega
     ·simp only[Bool.not_eq_true] at b1;rw[b1] at hl2
      by_cases b2:isDig c=true
      ·rw[b2] at hd;go_wp2_with fail
       refine(hl2 _).mono ?_;rintro e w' ⟨rfl,rfl⟩;go_wp2_with fail
       refine(hd _).mono ?_;rintro e w' ⟨rfl,rfl⟩;go_wp2;go_roundw
       case rel=>
        refine⟨k+1,by omega,by go_num,by first | trivial | rfl,fun j hj=>?_⟩
        by_cases e:j=k
        ·rw[e,<- HC.out];simp[nameByte,b2]
        ·exact HB.out j (by omega)
       case measure=>simp[intOf];omega
      ·simp only[Bool.not_eq_true] at b2;rw[b2] at hd
       by_cases b3:(c.toNat:Int)=45
       ·have b4:((c.toNat:Int) == 45)=true:=by simpa using b3
        have HN:Hid (nameByte c=true):=by show _=_;simp[nameByte];right;omega
        clear b3;go_wp2_with fail
        refine(hl2 _).mono ?_;rintro e w' ⟨rfl,rfl⟩;go_wp2_with fail
        refine(hd _).mono ?_;rintro e w' ⟨rfl,rfl⟩;go_wp2;go_roundw
        case rel=>
         refine⟨k+1,by omega,by go_num,by first | trivial | rfl,fun j hj=>?_⟩
         by_cases e:j=k
         ·rw[e,<- HC.out];exact HN.out
         ·exact HB.out j (by omega)
        case measure=>simp[intOf];omega
       ·have HN:Hid (nameByte c=false):=by show _=_;simp[nameByte,b1,b2];omega
        go_wp2_with fail
        refine(hl2 _).mono ?_;rintro e w' ⟨rfl,rfl⟩;go_wp2_with fail
        refine(hd _).mono ?_;rintro e w' ⟨rfl,rfl⟩;go_wp2;go_ret;exact⟨by rw[HY.out (by rw[<- HC.out];exact HN.out)];rfl,HbW.out⟩
    ·have HY:Hid (isName s=true):=isName_yes HZ.out.1 HZ.out.2.1 HZ.out.2.2 (fun j hj=>hall j (by omega));have k1:¬(k:Int) < (s.size:Int):=by omega
     clear hall hcv;go_wp2;go_ret;exact⟨by rw[HY.out];rfl,HbW.out⟩
  ·simp only[Bool.not_eq_true] at hL;rw[hL] at hl;have HY:Hid (isName s=false):=isName_first hL;go_enter Tryz.func148,Tryz.ntmps148
   go_wp2_with fail
   refine hw.mono ?_;rintro e w' ⟨rfl,rfl⟩;go_wp2_with fail
   rw[hb0.out]
   refine hl.mono ?_;rintro e w' ⟨rfl,rfl⟩;go_wp2;go_ret;exact⟨by rw[HY.out];rfl,Below.refl _ _⟩
 ·have hw:=within_at (s.size:Int) 1 12 w;rw[show within (s.size:Int) 1 12=false by simp[within];omega] at hw;have HY:Hid (isName s=false):=isName_no (by omega);clear hsz;go_enter Tryz.func148,Tryz.ntmps148
  go_wp2_with fail
  refine hw.mono ?_;rintro e w' ⟨rfl,rfl⟩;go_wp2;go_ret;exact⟨by rw[HY.out];rfl,Below.refl _ _⟩
end Go.Proofs.YtdpdbfhbojgigacGreatDoor
