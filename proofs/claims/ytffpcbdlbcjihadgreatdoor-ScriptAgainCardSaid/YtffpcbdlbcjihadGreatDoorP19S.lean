/-
  Several texts as one: ScTell, ScTell2, Orders3.
-/
import Derived.Test.YtffpcbdlbcjihadGreatDoorP18S
import Derived.Test.YtffpcbdlbcjihadGreatDoorP01S
namespace Go.Proofs.YtffpcbdlbcjihadGreatDoor
open Go.RowKit Go.Extern.Stop Go.Stop Go.Extern
theorem itoaN_at (n:Int)(h0:0<=n)(h1:n<=9223372036854775807)(W:World)(hT:TabAt W):Calls Tryz.prog 63 #[.int .i64 n] W fun e w'=>e=.returned (.string ⟨(num n).toArray⟩)/\Below W.heap.size W w':=by
 refine Calls.mono (Tryz.strconv_Itoa n (by omega) (by omega) W hT) ?_;rintro e w' ⟨rfl,k,os,rfl⟩
 refine⟨?_,?_⟩
 ·unfold Lib.itoa num;rw[if_neg (by omega),decN_lib]
 ·refine⟨rfl,rfl,rfl,(by show W.heap.size<=((W.drewN k).heap++os).size;rw[Array.size_append];exact Nat.le_add_right _ _),fun i hi=>?_⟩;show ((W.drewN k).heap++os)[i]?=_
  rw[Array.getElem?_append_left (by show i < W.heap.size;omega)];rfl
theorem Tryz.infoStrT:(Tryz.prog.info? 9).map (fun i=>(i.zero,i.size,i.bytes))=some (some (.string ⟨#[]⟩),1,16):=by kernel_rfl
structure StL (w0 wr:World)(av:Value)(xs:List ByteArray):Prop where
 bel:Below w0.heap.size w0 wr
 own:wr.ownsRow w0.heap.size 9 1 av xs.length (xs.flatMap encS)
section
variable {w0 wr wr':World}{av:Value}{xs:List ByteArray}
theorem StL.below (h:StL w0 wr av xs)(hb:Below wr.heap.size wr wr'):StL w0 wr' av xs:=⟨h.bel.trans (hb.mono h.bel.size),SlOwnR.below h.own hb⟩
theorem StL.more (h:StL w0 wr av xs){o:Obj}{y:ByteArray}{g cap n:Nat}(hn:xs.length+1=n)(hown:wr'.ownsRow w0.heap.size 9 1 (.slice (some ⟨g,0,none⟩) n cap) n (xs.flatMap encS++[.string y]))(hg:(wr.alloc o).grownBy wr' av.ownBlock):StL w0 wr' (.slice (some ⟨g,0,none⟩) n cap) (xs++[y]):=by
 refine⟨(h.bel.alloc h.bel.size _).grown hg (Nat.le_trans h.bel.size (by simp)) (fun k hk=>(h.own.lt k hk).1),?_⟩;have e:(xs++[y]).flatMap encS=xs.flatMap encS++[.string y]:=by rw[List.flatMap_append];rfl
 rw[e,List.length_append,List.length_singleton,hn];exact hown
theorem StL.join (h:StL w0 wr av xs)(sep:ByteArray)(hne:xs≠[])(hl:xs.length<=1000)(hlen:(Lib.join (xs.map (·.data.toList)) sep.data.toList).length<=140737488355328) :
  Calls Tryz.prog 126 #[av,.string sep] wr fun e w'=>e=.returned (.string ⟨(Lib.join (xs.map (·.data.toList)) sep.data.toList).toArray⟩)/\Below wr.heap.size wr w':=by
 have h1:SlAt encS 1 wr av xs:=SlOwn.slat (B:=w0.heap.size) (T:=9) h.own (fun _=>rfl);obtain⟨sa,c,rfl,hc,h2⟩:=h1;obtain⟨b,o,rfl,h3⟩:=h2 hne;have h4:∀ (j:Nat) x,xs[j]?=some x->wr.cell? ⟨b,o+j,none⟩=some (.string x):=fun j x hx=>by have:=h3 j x hx 0 (.string x) rfl;simpa using this
 obtain⟨x,hx⟩:∃ x,xs[0]?=some x:=⟨_,List.getElem?_eq_getElem (List.length_pos_iff.2 hne)⟩;exact Tryz.strings_Join b o c xs sep wr h4 (block_lt (h4 0 x hx)) (by omega) hc hlen
end
theorem num_big {n:Int}(h1:n<=9223372036854775807):(num n).length<=19:=decN_len 18 n.toNat (by
 have:n.toNat<=9223372036854775807:=by omega
 exact Nat.lt_of_le_of_lt this (by decide))
theorem recT_len {r:Rec}(h:RBd r):(recT r).length<=1000:=by
 obtain⟨a,b,c,d⟩:=h;have h1:=num_big (n:=(r.seq:Int)) (by omega);have h2:=num_big (n:=(r.ent:Int)) (by omega);have h3:=num_big (n:=(r.kind:Int)) (by omega);have h4:=num_big (n:=(r.tick:Int)) (by omega);unfold recT Lib.join;simp[List.intercalate]
 omega
set_option maxHeartbeats 4000000 in
set_option maxRecDepth 100000 in
theorem recordText_at (r:Rec)(w:World)(hT:TabAt w)(hG:(max 12 13+1)<=w.heap.size)(hr:RBd r) :
  Calls Tryz.prog 124 #[r.val] w fun e w'=>e=.returned (.string ⟨(recT r).toArray⟩)/\Below w.heap.size w w':=by
 obtain⟨i0,hi0,hz0,hz1,hz2⟩:=info_parts Tryz.infoStrT;obtain⟨W1,hW1⟩:∃ X,X=w.alloc (.cells #[.int .i64 (r.seq:Int),.int .i64 (r.ent:Int),.int .i64 (r.kind:Int),.int .i64 (r.tick:Int)] 118):=⟨_,rfl⟩;have hrow:RecRow W1 w.heap.size r:=by rw[hW1];exact RecRow.new w r
 obtain⟨c0,c1,c2,c3⟩:=hrow.at;obtain⟨W2,hW2⟩:∃ X,X=W1.alloc (.cells #[.int .i64 (r.seq:Int),.int .i64 (r.ent:Int),.int .i64 (r.kind:Int),.int .i64 (r.tick:Int)] 3):=⟨_,rfl⟩;have hb1:Below w.heap.size w W1:=by rw[hW1];exact Below.one _ _
 have hb2:Below W1.heap.size W1 W2:=by rw[hW2];exact Below.one _ _
 obtain⟨xs,hxs⟩:∃ xs:List Int,xs=[(r.seq:Int),(r.ent:Int),(r.kind:Int),(r.tick:Int)]:=⟨_,rfl⟩;have hsl:SlAt encI 1 W2 (.slice (some ⟨W1.heap.size,0,none⟩) xs.length 4) xs:=by rw[hW2,hxs];exact slat_new W1 [(r.seq:Int),(r.ent:Int),(r.kind:Int),(r.tick:Int)]
 have hx4:xs.length=4:=by rw[hxs];rfl
 have HX:Hid (∀ x∈xs,0<=x/\x<=9223372036854775807):=by
  obtain⟨a,b,c,d⟩:=hr;rw[hxs];intro x hx;simp only[List.mem_cons,List.not_mem_nil,or_false] at hx
  rcases hx with rfl | rfl | rfl | rfl <;> omega
 have hbb:Below w.heap.size w W2:=hb1.trans (hb2.mono hb1.size);have HS:Hid (StL W2 W2 (.slice none 0 0) []):=⟨Below.refl _ _,World.ownsRow_nil _ _ _ _⟩;have HT:Hid (∀ V,Below W2.heap.size W2 V->TabAt V/\SlAt encI 1 V (.slice (some ⟨W1.heap.size,0,none⟩) xs.length 4) xs):=fun V hV=>⟨hT.below (hbb.trans (hV.mono hbb.size)) hG,hsl.below hV⟩
 have HB:Hid _:=hbb;have HJ:Hid (recT r=Lib.join (xs.map num) [32]/\(recT r).length<=1000):=⟨by rw[hxs];rfl,recT_len hr⟩;have HRow:Hid _:=hrow;unfold Rec.val;clear hT hG hr hsl hxs hb1 hb2 hbb hrow;go_enter Tryz.func124,Tryz.ntmps124
 go_upto_region 2 with fail
 rw[<- hW1]
 go_cut [14,15,16] (fun l n i wx=>l=.slice (some ⟨W1.heap.size,0,none⟩) 4 4/\n=.int .i64 4/\i=.int .i64 0/\wx=W2)
 case first=>
  clear hW1;go_wp2_with fail
  go_meet
  case rel=>exact⟨rfl,rfl,rfl,hW2.symm⟩
 obtain⟨rfl,rfl,rfl,rfl⟩:=hcut;clear hW1 hW2 c0 c1 c2 c3 HRow;rename World=>W2
 go_wp2_with fail
 go_loopw [3,5,16] (fun av _ i wr=>∃ (n:Nat),n<=4/\i=.int .i64 n/\Hid (StL W2 wr av ((xs.take n).map fun x=>⟨(num x).toArray⟩))) (fun _ _ i _=>4 - (intOf i).toNat)
 case atStart=>exact⟨0,Nat.zero_le _,rfl,HS.out⟩
 case round=>
  clear HS;obtain⟨n,hn,rfl,HL⟩:=hrel;have hlen:((xs.take n).map fun x=>(⟨(num x).toArray⟩:ByteArray)).length=n:=by rw[List.length_map,List.length_take];omega
  obtain⟨ka,kc,hkv⟩:=ow_form HL.out.own;rw[hlen] at hkv;subst hkv
  by_cases hlt:n < 4
  ·have k1:(n:Int) < 4:=by omega
   obtain⟨x,hx⟩:∃ x,xs[n]?=some x:=⟨_,List.getElem?_eq_getElem (by omega)⟩;obtain⟨t1,t2⟩:=HT.out wr HL.out.bel;obtain⟨g,o,hgo,hc⟩:=slatI_cell t2 hx;have c0:=hc n x hx
   cases hgo
   rw[Nat.zero_add] at c0;have hxb:=HX.out x (List.mem_of_getElem? hx);have HI:Hid _:=itoaN_at x hxb.1 hxb.2 wr t1;have HE:Hid ((xs.take (n+1)).map (fun x=>(⟨(num x).toArray⟩:ByteArray))=(xs.take n).map (fun x=>(⟨(num x).toArray⟩:ByteArray))++[⟨(num x).toArray⟩]):=by show _=_;rw[List.take_add_one,hx,List.map_append];rfl
   have HLn:Hid _:=hlen;clear hc t1 t2 hx hlen;go_wp2_with fail
   refine Calls.mono HI.out ?_;rintro e w3 ⟨rfl,hb3⟩;have HL3:Hid _:=HL.out.below hb3;have HO3:Hid (w3.ownsRow W2.heap.size 9 1 (.slice ka n kc) n (((xs.take n).map fun x=>(⟨(num x).toArray⟩:ByteArray)).flatMap encS)):=by
    have:=HL3.out.own;rw[HLn.out] at this;exact this
   have hz3:W2.heap.size<=w3.heap.size:=HL3.out.bel.size;generalize hy:(⟨(num x).toArray⟩:ByteArray)=y at HE ⊢;clear hy hb3 HI c0 hxb HL;go_wp2_with (at_builtin;refine wpList_append_lies _ rfl _ _ 22 rfl W2.heap.size 9 i0 (.string ⟨#[]⟩) 1 16 Tryz.underlying22 hi0 hz0 hz1 hz2 rfl (by decide) (.slice ka n kc) n (((xs.take n).map fun x=>(⟨(num x).toArray⟩:ByteArray)).flatMap encS) rfl (World.ownsRow.alloc HO3.out _) ⟨w3.heap.size,0,none⟩ 1 1 [.string y] rfl rfl (ce_at w3 [.string y] 9) (fun u hu=>by rw[List.mem_singleton] at hu;subst hu;rfl) (by decide) (by unfold maxLen;omega) (by omega) (by simp;omega) (w3.heap.size+1) (by simp) ?_;intro gg cc w12 hown hg hor hlt12)
   have HL5:Hid _:=HL3.out.more (by rw[HLn.out]) hown hg;clear hown hg hor hlt12 HO3 HL3;go_roundw
   case rel=>exact⟨n+1,by omega,by go_num,by show StL _ _ _ _;rw[HE.out];exact HL5.out⟩
   case measure=>simp[intOf];omega
  ·obtain rfl:n=4:=by omega
   have k1:¬(4:Int) < 4:=by omega
   have hx9:xs.take 4=xs:=by rw[<- hx4,List.take_length]
   rw[hx9] at HL hlen;have HJn:Hid _:=HL.out.join ⟨#[32]⟩ (fun e=>by rw[e] at hlen;cases hlen) (by omega) (by
    have h5:=HJ.out;rw[h5.1] at h5;rw[List.map_map];exact Nat.le_trans h5.2 (by decide))
   have HE:Hid ((⟨(Lib.join ((xs.map fun x=>(⟨(num x).toArray⟩:ByteArray)).map (·.data.toList)) (⟨#[32]⟩:ByteArray).data.toList).toArray⟩:ByteArray)=⟨(recT r).toArray⟩):=by
    show _=_
    rw[HJ.out.1,List.map_map];rfl
   rw[HE.out] at HJn;have HB9:Hid _:=HL.out.bel;clear hlen HL HX HT;go_wp2_with fail
   refine Calls.mono HJn.out ?_;rintro e w3 ⟨rfl,hb3⟩;go_wp2;go_ret;have h6:=HB.out.trans (HB9.out.mono HB.out.size);exact⟨rfl,h6.trans (hb3.mono h6.size)⟩
section
variable {F:Nat->Prop}{w0 w w':World}{c:CfgD}{kb bc:Nat}{K:KSt}
theorem pl_box (w:World)(c:CfgD)(kb bc:Nat)(sv:Value):∃ W,W=w.alloc (.cells (plRow c kb bc sv) 66)/\Below w.heap.size w W/\W.cell? ⟨w.heap.size,0,none⟩=some (.pointer (some ⟨kb,0,none⟩)):=by
 refine⟨_,rfl,Below.one _ _,?_⟩;have h1:=heap_alloc_new w (.cells (plRow c kb bc sv) 66);simp only[World.cell?,h1];rfl
theorem rec_put (w:World)(x:Rec):∃ V,V=w.alloc (.cells #[.int .i64 (x.seq:Int),.int .i64 (x.ent:Int),.int .i64 (x.kind:Int),.int .i64 (x.tick:Int)] 118)/\Below w.heap.size w V/\RecRow V w.heap.size x:=⟨_,rfl,Below.one _ _,RecRow.new w x⟩
set_option maxHeartbeats 2000000 in
set_option maxRecDepth 100000 in
theorem cause_at (sv:Value)(h:KeAt F w0 w c kb bc K)(hl:K.L.length<=8)(hB:K.LB)(hT:TabAt w)(hG:(max 12 13+1)<=w.heap.size) :
  Calls Tryz.prog 74 #[.agg (plRow c kb bc sv)] w fun e w'=>e=.returned (.string ⟨(causeT K.L).toArray⟩)/\Below w.heap.size w w':=by
 obtain⟨W,hW,hb,x0⟩:=pl_box w c kb bc sv;have HX:Hid _:=ke_cause (h.below hb) hl;have HB:Hid _:=hb;have HR:Hid (∀ V,Below w.heap.size w V->Calls Tryz.prog 124 #[(lastR K.L).val] V fun e w'=>e=.returned (.string ⟨(recT (lastR K.L)).toArray⟩)/\Below V.heap.size V w'):=fun V hV=>recordText_at _ V (hT.below hV hG) (Nat.le_trans hG hV.size) (LB.last hB)
 have hc:causeT K.L=if K.L.length=0 then nothT else recT (lastR K.L):=rfl
 rw[hc];clear hc;generalize lastR K.L=x at *;clear h hl hB hT hG hb;unfold Rec.val at HX HR;unfold plRow at hW ⊢
 by_cases h0:K.L.length=0
 ·rw[if_pos h0];have d0:decide (0 < K.L.length)=false:=decide_eq_false (by omega);rw[d0] at HX;clear h0 d0 HR;go_enter Tryz.func74,Tryz.ntmps74
  go_upto_region 1 with fail
  rw[<- hW];clear hW;go_wp2_with fail
  refine Calls.mono HX.out ?_;rintro e w1 ⟨rfl,hb1⟩;obtain⟨V,hV,hbV,-⟩:=rec_put w1 x;have HBV:Hid (Below w.heap.size w V):=by
   have h6:=HB.out.trans (hb1.mono HB.out.size);exact h6.trans (hbV.mono h6.size)
  clear hb1 hbV HX;go_upto_region 2 with fail
  rw[<- hV];clear hV;go_wp2_with fail
  go_ret;exact⟨rfl,HBV.out⟩
 ·rw[if_neg h0];have d0:decide (0 < K.L.length)=true:=decide_eq_true (by omega);rw[d0] at HX;clear h0 d0;go_enter Tryz.func74,Tryz.ntmps74
  go_upto_region 1 with fail
  rw[<- hW];clear hW;go_wp2_with fail
  refine Calls.mono HX.out ?_;rintro e w1 ⟨rfl,hb1⟩;obtain⟨V,hV,hbV,hrw⟩:=rec_put w1 x;have hBV:Below w.heap.size w V:=by
   have h6:=HB.out.trans (hb1.mono HB.out.size);exact h6.trans (hbV.mono h6.size)
  have HBV:Hid _:=hBV;have HR2:Hid _:=HR.out V hBV;obtain⟨c0,c1,c2,c3⟩:=hrw.at;clear hb1 hbV HX HR hBV hrw;go_upto_region 2 with fail
  rw[<- hV];clear hV;go_wp2_with fail
  refine Calls.mono HR2.out ?_;rintro e w2 ⟨rfl,hb2⟩;go_wp2;go_ret;exact⟨rfl,HBV.out.trans (hb2.mono HBV.out.size)⟩
set_option maxHeartbeats 4000000 in
set_option maxRecDepth 100000 in
theorem log_at (sv:Value)(h:KeAt F w0 w c kb bc K)(hl:K.L.length<=8)(hB:K.LB)(hT:TabAt w)(hG:(max 12 13+1)<=w.heap.size) :
  Calls Tryz.prog 76 #[.agg (plRow c kb bc sv)] w fun e w'=>e=.returned (.string ⟨(logT K.L).toArray⟩)/\Below w.heap.size w w':=by
 obtain⟨i0,hi0,hz0,hz1,hz2⟩:=info_parts Tryz.infoStrT;obtain⟨W,hW,hb,x0⟩:=pl_box w c kb bc sv;have HX:Hid _:=ke_log (h.below hb) hl;have HB:Hid _:=hb;have HR:Hid (∀ V,Below w.heap.size w V->∀ x∈K.L,Calls Tryz.prog 124 #[x.val] V fun e w'=>e=.returned (.string ⟨(recT x).toArray⟩)/\Below V.heap.size V w'):=fun V hV x hx=>recordText_at _ V (hT.below hV hG) (Nat.le_trans hG hV.size) (hB x hx)
 have HJl:Hid ((Lib.join (K.L.map recT) [44,32]).length<=140737488355328):=by
  have h1:∀ L:List Rec,(∀ x∈L,RBd x)->(Lib.join (L.map recT) [44,32]).length<=1100*L.length:=by
   intro L
   induction L with
   | nil=>intro _;exact Nat.le_refl _
   | cons x L ih=>
    intro hx;have h2:=recT_len (hx x (List.mem_cons_self ..));have h3:=ih (fun y hy=>hx y (List.mem_cons_of_mem _ hy))
    cases L with
    | nil=>simp[Lib.join,List.intercalate];omega
    | cons y L=>
     unfold Lib.join at h3 ⊢;rw[List.map_cons,List.map_cons,List.intercalate_cons_cons];rw[List.map_cons] at h3;simp only[List.length_append,List.length_cons,List.length_nil] at h3 ⊢;omega
  have h2:=h1 K.L hB;show _<=_
  omega
 generalize K.L=L at *;clear h hB hT hG hb;unfold plRow at hW ⊢;go_enter Tryz.func76,Tryz.ntmps76
 go_upto_region 2 with fail
 rw[<- hW];clear hW;go_wp2_with fail
 refine Calls.mono HX.out ?_;rintro e w1 ⟨v1,rfl,hr,hb1⟩;obtain⟨sb,cb,rfl⟩:=hr.len;have HB1:Hid (Below w.heap.size w w1):=HB.out.trans (hb1.mono HB.out.size);have HRd:Hid (∀ V,Below w1.heap.size w1 V->Reads V sb L):=fun V hV=>(hr.below hV (Nat.le_refl _)).reads.1
 have HS:Hid (StL w1 w1 (.slice none 0 0) []):=⟨Below.refl _ _,World.ownsRow_nil _ _ _ _⟩;clear hr hb1 HX x0;go_wp2_with fail
 go_loopw [3,5,10] (fun av _ i wr=>∃ (n:Nat),n<=L.length/\i=.int .i64 n/\Hid (StL w1 wr av ((L.take n).map fun x=>⟨(recT x).toArray⟩))) (fun _ _ i _=>L.length - (intOf i).toNat)
 case atStart=>exact⟨0,Nat.zero_le _,rfl,HS.out⟩
 case round=>
  clear HS;obtain⟨n,hn,rfl,HL⟩:=hrel;have hlen:((L.take n).map fun x=>(⟨(recT x).toArray⟩:ByteArray)).length=n:=by rw[List.length_map,List.length_take];omega
  obtain⟨ka,kc,hkv⟩:=ow_form HL.out.own;rw[hlen] at hkv;subst hkv;have HLn:Hid _:=hlen;clear hlen
  by_cases hlt:n < L.length
  ·have k1:(n:Int) < (L.length:Int):=by omega
   obtain⟨g,o,rfl,hc⟩:=(HRd.out wr HL.out.bel).at' (by intro e;rw[e] at hlt;simp at hlt);obtain⟨c0,c1,c2,c3⟩:=hc n hlt;have hx:L[n]?=some L[n]:=List.getElem?_eq_getElem hlt;have hmem:L[n]∈L:=List.getElem_mem hlt;obtain⟨V,hV,hbV,hrw⟩:=rec_put wr L[n];obtain⟨d0,d1,d2,d3⟩:=hrw.at;have h6:=HB1.out.trans (HL.out.bel.mono HB1.out.size);have HR2:Hid _:=HR.out V (h6.trans (hbV.mono h6.size)) _ hmem;have HE:Hid ((L.take (n+1)).map (fun x=>(⟨(recT x).toArray⟩:ByteArray))=(L.take n).map (fun x=>(⟨(recT x).toArray⟩:ByteArray))++[⟨(recT L[n]).toArray⟩]):=by show _=_;rw[List.take_add_one,hx,List.map_append];rfl
   have HLV:Hid _:=HL.out.below hbV;generalize L[n]=x at *;unfold Rec.val at HR2;clear hc hx hmem hbV hrw HL h6;go_upto_region 5 with fail
   rw[<- hV];clear hV c0 c1 c2 c3;go_wp2_with fail
   refine Calls.mono HR2.out ?_;rintro e w3 ⟨rfl,hb3⟩;have HL3:Hid _:=HLV.out.below hb3;have HO3:Hid (w3.ownsRow w1.heap.size 9 1 (.slice ka n kc) n (((L.take n).map fun x=>(⟨(recT x).toArray⟩:ByteArray)).flatMap encS)):=by
    have:=HL3.out.own;rw[HLn.out] at this;exact this
   have hz3:w1.heap.size<=w3.heap.size:=HL3.out.bel.size;generalize hy:(⟨(recT x).toArray⟩:ByteArray)=y at HE ⊢;clear hy hb3 HR2 HLV d0 d1 d2 d3;go_wp2_with (at_builtin;refine wpList_append_lies _ rfl _ _ 22 rfl w1.heap.size 9 i0 (.string ⟨#[]⟩) 1 16 Tryz.underlying22 hi0 hz0 hz1 hz2 rfl (by decide) (.slice ka n kc) n (((L.take n).map fun x=>(⟨(recT x).toArray⟩:ByteArray)).flatMap encS) rfl (World.ownsRow.alloc HO3.out _) ⟨w3.heap.size,0,none⟩ 1 1 [.string y] rfl rfl (ce_at w3 [.string y] 9) (fun u hu=>by rw[List.mem_singleton] at hu;subst hu;rfl) (by decide) (by unfold maxLen;omega) (by omega) (by simp;omega) (w3.heap.size+1) (by simp) ?_;intro gg cc w12 hown hg hor hlt12)
   have HL5:Hid _:=HL3.out.more (by rw[HLn.out]) hown hg;clear hown hg hor hlt12 HO3 HL3;go_roundw
   case rel=>exact⟨n+1,by omega,by go_num,by show StL _ _ _ _;rw[HE.out];exact HL5.out⟩
   case measure=>simp[intOf];omega
  ·obtain rfl:n=L.length:=by omega
   have k1:¬(L.length:Int) < (L.length:Int):=by omega
   rw[List.take_length] at HL;have HB9:Hid _:=HL.out.bel
   by_cases h0:L.length=0
   ·have k2:((L.length:Int) == 0)=true:=by rw[beq_iff_eq];omega
    have HIf:Hid (logT L=nothT):=if_pos h0;clear HL HLn HR HJl HRd h0;go_wp2_with fail
    go_ret;rw[HIf.out];exact⟨rfl,HB1.out.trans (HB9.out.mono HB1.out.size)⟩
   ·have k2:((L.length:Int) == 0)=false:=by rw[beq_eq_false_iff_ne];omega
    have HIf:Hid (logT L=Lib.join (L.map recT) [44,32]):=if_neg h0;have hm:(L.map fun x=>(⟨(recT x).toArray⟩:ByteArray)).map (·.data.toList)=L.map recT:=by rw[List.map_map];rfl
    have HJn:Hid _:=HL.out.join ⟨#[44,32]⟩ (fun e=>h0 (by rw[List.map_eq_nil_iff] at e;rw[e];rfl)) (by rw[List.length_map];omega) (by rw[hm];exact HJl.out);rw[hm] at HJn;clear HL HLn HR HJl HRd h0 hm;go_wp2_with fail
    refine Calls.mono HJn.out ?_;rintro e w3 ⟨rfl,hb3⟩;go_wp2;go_ret;rw[HIf.out];have h6:=HB1.out.trans (HB9.out.mono HB1.out.size);exact⟨rfl,h6.trans (hb3.mono h6.size)⟩
end
end Go.Proofs.YtffpcbdlbcjihadGreatDoor
namespace Go.Proofs.YtffpcbdlbcjihadGreatDoor
open Go
def goodRun3 (P:Program)(C:(Nat->Option Value)->World->Prop)(vals:Nat->Option Value)(i:Nat):Result Next->Prop
 | .ok (.value u) w'=>C (upd vals i u) w'
 | .ok .skip w'=>C (upd vals i undef) w'
 | .ok (.enter f args) w'=>Calls P f args w' fun e w''=>∃ v,e=.returned v/\C (upd vals i v) w''
 | _=>False
section
variable {P:Program}{ops:Array Oper}{Q:Exit->Act->World->Prop}{md:Region.Mode}{C:(Nat->Option Value)->World->Prop}{a0:Act}
def StepOk3 (P:Program)(md:Region.Mode)(ops:Array Oper)(C:(Nat->Option Value)->World->Prop)(a0:Act)(i:Nat)(o:Oper):Prop:=
 ∀ (vals:Nat->Option Value) (a:Act) (w:World),C vals w->vals i=none->(∀ e,e∈o.after->Region.binds md e=true->∃ v,vals e.on=some v/\∀ d,dstOf ops e.on=some d->a.eval (.tmp d)=v) ->
  (∀ d,(∀ j,dstOf ops j≠some d)->a.eval (.tmp d)=a0.eval (.tmp d)) ->
  if Region.wanted o (yielded ops a.tmps)=true then goodRun3 P C vals i ((execOp a.eval o).run P w) else C (upd vals i undef) w
theorem wpAny_spec3 (hd:Distinct ops)(hin:∀ j d,dstOf ops j=some d->d < a0.tmps.size)
  (hback:∀ i o,ops[i]?=some o->∀ e,e∈o.after->Region.binds md e=true->e.on < i)
  (step:∀ i o,ops[i]?=some o->StepOk3 P md ops C a0 i o)
  (fin:∀ (vals:Nat->Option Value) (w:World),C vals w->(∀ j,j < ops.size->(vals j).isSome=true)->Q .normal (fill ops a0 vals ops.size) w) :
  ∀ (fuel:Nat) (listed:Array Bool) (vals:Nat->Option Value) (w:World),listed.size=ops.size->(∀ j,j < ops.size->listed.getD j true=(vals j).isSome)->C vals w ->
   cnt vals ops.size<=fuel->wpAny P md ops Q fuel listed (fill ops a0 vals ops.size) w:=by
 have hready:∀ (listed:Array Bool) (vals:Nat->Option Value),listed.size=ops.size->(∀ j,j < ops.size->listed.getD j true=(vals j).isSome)->Region.ready md ops listed=[]->∀ j,j < ops.size->(vals j).isSome=true:=by
  intro listed vals hsz hl hr j
  induction j using Nat.strongRecOn with
  | ind j ih=>
   intro hj
   cases hv:(vals j).isSome with
   | true=>rfl
   | false=>
    exfalso
    have hm:j∈Region.ready md ops listed:=by
     rw[mem_ready]
     refine⟨by rw[hl j hj,hv],ops[j],Array.getElem?_eq_getElem hj,fun e he hb=>?_⟩;have hlt:=hback j _ (Array.getElem?_eq_getElem hj) e he hb;have h1:=ih e.on hlt (by omega);have h2:=hl e.on (by omega);rw[h1] at h2;have h3:e.on < listed.size:=by omega
     simp only[Array.getD_eq_getD_getElem?,Array.getElem?_eq_getElem h3,Option.getD_some] at h2 ⊢;exact h2
    rw[hr] at hm
    cases hm
 intro fuel
 induction fuel with
 | zero=>
  intro listed vals w hsz hl hC hc;have hall:=cnt_zero vals ops.size (by omega)
  refine⟨?_,fin vals w hC hall⟩
  cases hr:Region.ready md ops listed with
  | nil=>rfl
  | cons i r=>
   have hm:i∈Region.ready md ops listed:=by rw[hr];exact List.mem_cons_self ..
   rw[mem_ready] at hm;obtain⟨h0,o,ho,-⟩:=hm;have hi:i < ops.size:=(Array.getElem?_eq_some_iff.1 ho).1;rw[hl i hi,hall i hi] at h0
   cases h0
 | succ fuel ih=>
  intro listed vals w hsz hl hC hc
  refine⟨fun hr=>fin vals w hC (hready listed vals hsz hl hr),fun i hm=>?_⟩;rw[mem_ready] at hm;obtain⟨h0,o,ho,hdeps⟩:=hm;have hi:i < ops.size:=(Array.getElem?_eq_some_iff.1 ho).1;have hnone:vals i=none:=by
   rw[hl i hi] at h0
   cases hv:vals i with
   | none=>rfl
   | some v=>rw[hv] at h0;cases h0
  have hdo:dstOf ops i=o.dst:=by simp[dstOf,ho]
  have hst:=step i o ho vals (fill ops a0 vals ops.size) w hC hnone (fun e he hb=>by
    have h1:=hdeps e he hb;have hlt:=hback i o ho e he hb;have h2:=hl e.on (by omega);have h3:e.on < listed.size:=by omega
    have h4:(vals e.on).isSome=true:=by
     rw[<- h2];simp only[Array.getD_eq_getD_getElem?,Array.getElem?_eq_getElem h3,Option.getD_some] at h1 ⊢;exact h1
    cases hv:vals e.on with
    | none=>rw[hv] at h4;cases h4
    | some v=>exact⟨v,rfl,fun d hde=>fill_at ops a0 vals hd e.on d v hv hde (hin _ _ hde) ops.size (by omega)⟩)
   (fun d hnd=>fill_other ops a0 vals d ops.size (fun j _=>hnd j))
  have hnext:∀ (v:Value) (w':World),C (upd vals i v) w'->wpAny P md ops Q fuel (listed.setIfInBounds i true) ((fill ops a0 vals ops.size).put o.dst v) w':=by
   intro v w' hC';rw[<- hdo,<- fill_upd ops a0 vals hd i v hnone ops.size hi]
   refine ih _ (upd vals i v) w' (by simp[hsz]) (fun j hj=>?_) hC' (by have:=cnt_upd vals i v hnone ops.size hi;omega)
   by_cases e:j=i
   ·subst e;simp[upd,hsz,hi]
   ·rw[getD_set_ne true (Ne.symm e),hl j hj];simp[upd,e]
  unfold wpOp;simp only[ho]
  split
  ·rename_i hw;rw[if_pos hw] at hst
   refine .inl ?_;unfold Oper.wp;generalize (execOp (fill ops a0 vals ops.size).eval o).run P w=r at hst
   cases r with
   | ok n w'=>
    cases n <;> simp only[goodRun3] at hst <;> simp only[Oper.upon]
    case value u=>exact hnext _ _ hst
    case skip=>exact hnext _ _ hst
    case enter f args=>exact hst.mono fun e w'' ⟨v,he,h1⟩=>by subst he;exact hnext _ _ h1
   | halt x w'=>simp only[goodRun3] at hst
  ·rename_i hw;rw[if_neg hw] at hst;exact hnext _ _ hst
theorem region_spec3 {id:Nat}{w:World}(n:Nat)(hn:ops.size=n)(C:(Nat->Option Value)->World->Prop)(hm:P.follows .mixedOrders=true)(hB:regionB ops a0.tmps.size=true)(hC:C (fun _=>none) w.drew)
  (step:∀ i o,ops[i]?=some o->StepOk3 P .any ops C a0 i o)
  (fin:∀ (vals:Nat->Option Value) (w:World),C vals w->(∀ j,j < n->(vals j).isSome=true)->Q .normal (fill ops a0 vals n) w) :
  (Code.region id ops true).wp P Q a0 w:=by
 subst hn;unfold regionB at hB;simp only[Bool.and_eq_true,List.all_eq_true,List.mem_range] at hB;obtain⟨⟨h1,h2⟩,h3⟩:=hB
 refine wp_region_any hm ?_;have hnone:fill ops a0 (fun _=>none) ops.size=a0:=by
  have:∀ k,fill ops a0 (fun _=>none) k=a0:=by
   intro k
   induction k with
   | zero=>rfl
   | succ k ih=>simp only[fill,ih]
  exact this _
 have key:=wpAny_spec3 (P:=P) (ops:=ops) (Q:=Q) (md:=.any) (C:=C) (a0:=a0)
  (fun i j d hne hi hj=>by
   have h:=h1 i (dstOf_lt hi) j (dstOf_lt hj);simp[hne,hi,hj] at h)
  (fun j d hj=>by
   have h:=h2 j (dstOf_lt hj);rw[hj] at h;simpa using h)
  (fun i o ho e he hb=>by
   have h:=h3 i (Array.getElem?_eq_some_iff.1 ho).1;rw[ho] at h;have:=List.all_eq_true.1 h e (by simpa using he);simpa[hb] using this)
  step fin ops.size (Array.replicate ops.size false) (fun _=>none) w.drew (by simp) (fun j hj=>by simp[hj]) hC (by
   have:∀ k,cnt (fun _=>none) k<=k:=by
    intro k
    induction k with
    | zero=>exact Nat.le_refl _
    | succ k ih=>simp only[cnt];split <;> omega
   exact this _)
 rw[hnone] at key;exact key
theorem StepOk3.free {i:Nat}{o:Oper}(hg:o.guard=none)
  (hrun:∀ (vals:Nat->Option Value) (a:Act) (w:World),C vals w->vals i=none->(∀ e,e∈o.after->Region.binds md e=true->∃ v,vals e.on=some v/\∀ d,dstOf ops e.on=some d->a.eval (.tmp d)=v)->(∀ d,(∀ j,dstOf ops j≠some d)->a.eval (.tmp d)=a0.eval (.tmp d))->goodRun3 P C vals i ((execOp a.eval o).run P w)) :
  StepOk3 P md ops C a0 i o:=by
 intro vals a w hC hi hdep hoth;rw[if_pos (by unfold Region.wanted;rw[hg])];exact hrun vals a w hC hi hdep hoth
theorem goodRun3.val {i:Nat}{vals:Nat->Option Value}{w:World}{c:Value}{r:Result Next}(hr:r=.ok (.value c) w)(hC:C (upd vals i c) w):goodRun3 P C vals i r:=by
 subst hr;exact hC
theorem goodRun3.call {i:Nat}{vals:Nat->Option Value}{w:World}{f:FuncId}{args:Array Value}{r:Result Next}(hr:r=.ok (.enter f args) w)
  (hc:Calls P f args w fun e w''=>∃ v,e=.returned v/\C (upd vals i v) w''):goodRun3 P C vals i r:=by
 subst hr;exact hc
theorem upd_same (vals:Nat->Option Value)(i:Nat)(v:Value):upd vals i v i=some v:=by simp[upd]
theorem upd_other (vals:Nat->Option Value){i j:Nat}(v:Value)(h:j≠i):upd vals i v j=vals j:=by simp[upd,h]
theorem goodRun3.skip {P:Program}{C:(Nat->Option Value)->World->Prop}{i:Nat}{vals:Nat->Option Value}{w:World}{r:Result Next}(hr:r=.ok .skip w)(hC:C (upd vals i undef) w):goodRun3 P C vals i r:=by
 subst hr;exact hC
theorem neUpd {vals:Nat->Option Value}{i:Nat}{u:Value}{j:Nat}(h:vals j≠none):upd vals i u j≠none:=by
 by_cases e:j=i
 ·subst e;rw[upd_same];simp
 ·rw[upd_other vals u e];exact h
end
end Go.Proofs.YtffpcbdlbcjihadGreatDoor
