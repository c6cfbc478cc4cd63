/-
  Several texts as one: RefBody, RefFull, RefAppGo.
-/
import Derived.Test.YtdpdbfhbojgigacGreatDoorC32S
import Derived.BigRegion
import Derived.Deep.RegionHeld3
namespace Go.Proofs.YtdpdbfhbojgigacGreatDoor
open Go.RowKit Go.Extern.Stop Go.Stop Go.Extern
theorem wide_ex (x many:Nat)(w:World)(hx:x<=9223372036854775807/\many<=16) :
  Calls Tryz.prog 230 #[.int .i64 (x:Int),.int .i64 (many:Int)] w fun e w'=>∃ T:ByteArray,e=.returned (.string T)/\T.data.toList=be many x/\T.size=many/\Below w.heap.size w w':=
 (wide_any x many w hx.1 hx.2).mono fun e w' ⟨h1,h2⟩=>⟨_,h1,rfl,by show (be many x).toArray.size=many;rw[List.size_toArray,be_length],h2⟩
theorem wide_i (x:Nat)(many:Int)(w:World)(hx:x<=9223372036854775807)(hm:0<=many/\many<=16) :
  Calls Tryz.prog 230 #[.int .i64 (x:Int),.int .i64 many] w fun e w'=>∃ T:ByteArray,e=.returned (.string T)/\T.data.toList=be many.toNat x/\T.size=many.toNat/\Below w.heap.size w w':=by
 obtain⟨m,rfl⟩:=Int.eq_ofNat_of_zero_le hm.1;exact wide_ex x m w ⟨hx,by omega⟩
theorem rslot_any (n:Nat)(w:World)(h:1<=n)(h2:n < 9223372036854775808) :
  Calls Tryz.prog 159 #[.int .i64 (n:Int)] w fun e w'=>e=.returned (.int .i64 (((n - 1) % 9:Nat):Int))/\w'=w:=by
 obtain⟨m,rfl⟩:∃ m,n=m+1:=⟨n - 1,by omega⟩;have e:((m+1:Nat):Int) - 1=(m:Int):=by omega
 go_enter Tryz.func159,Tryz.ntmps159
 go_wp2;go_ret
 refine⟨?_,rfl⟩;show Ending.returned (.int .i64 ((m:Int) % 9))=_
 rw[show ((m:Int) % 9)=(((m+1 - 1) % 9:Nat):Int) by omega]
set_option maxRecDepth 100000 in
set_option maxHeartbeats 1000000 in
theorem body_any (r:Rec)(w:World)(hr:r.Ok) :
  Calls Tryz.prog 209 #[r.val] w fun e w'=>∃ T:ByteArray,e=.returned (.string T)/\T.data.toList=enc16 r/\T.size=16/\Below w.heap.size w w':=by
 have hX:=RecAt.new w r 57;have B1:=(Below.refl w.heap.size w).alloc (Nat.le_refl _) (.cells #[.int .i64 (r.seq:Int),.int .i64 (r.ent:Int),.int .i64 (r.kind:Int),.int .i64 (r.tick:Int)] 57);obtain⟨W,hW⟩:∃ W,w.alloc (.cells #[.int .i64 (r.seq:Int),.int .i64 (r.ent:Int),.int .i64 (r.kind:Int),.int .i64 (r.tick:Int)] 57)=W:=⟨_,rfl⟩;have hsz:W.heap.size=w.heap.size+1:=by rw[<- hW];simp
 rw[hW] at hX B1;have HW:Hid _:=hW;clear hW;obtain⟨o1,o2,o3,o4⟩:=hr;have q1:r.seq<=9223372036854775807:=by omega
 have q2:r.ent<=9223372036854775807:=by omega
 have q3:r.kind<=9223372036854775807:=by omega
 have q4:r.tick<=9223372036854775807:=by omega
 have R:RecAt W.drew w.heap.size r:=⟨hX.c0,hX.c1,hX.c2,hX.c3⟩;have hH:w.heap.size < W.drew.heap.size:=by show _ < W.heap.size;omega
 have BB:Below w.heap.size w W.drew:=B1.drew;obtain⟨a0,a1,a2,a3⟩:=R;unfold Rec.val;go_enter Tryz.func209,Tryz.ntmps209
 go_upto_region 1 with fail
 rw[HW.out];go_region_held3 (fun w'=>w'.cell? ⟨w.heap.size,0,.none⟩=some (.int .i64 (r.seq:Int))/\w'.cell? ⟨w.heap.size,1,.none⟩=some (.int .i64 (r.ent:Int))/\w'.cell? ⟨w.heap.size,2,.none⟩=some (.int .i64 (r.kind:Int))/\w'.cell? ⟨w.heap.size,3,.none⟩=some (.int .i64 (r.tick:Int))) (exact⟨a0,a1,a2,a3⟩)
  (first | (go_at_call 230;refine(wide_i _ _ _ ?_ ?_).mono ?_;(first | exact q1 | exact q2 | exact q3 | exact q4);(exact⟨by decide,by decide⟩);rintro e w1 ⟨T,rfl,hT,hs,hb⟩;have a0:=cell_below hb a0;have a1:=cell_below hb a1;have a2:=cell_below hb a2;have a3:=cell_below hb a3;have BB:=BB.trans (hb.mono BB.size)))
 rename_i wA TA hTA hsA hbA x1 x2 x3 x4 x5 wB TB hTB hsB hbB y1 y2 y3 y4 y5 wC TC hTC hsC hbC z1 z2 z3 z4 z5 hHeld;have HC:Hid ((TA++TB++TC++T).data.toList=enc12 r/\(TA++TB++TC++T).size=12):=by
  have e:(TA++TB++TC++T).data.toList=enc12 r:=by
   simp only[ByteArray.data_append,Array.toList_append,hTA,hTB,hTC,hT];rfl
  refine⟨e,?_⟩;have:=congrArg List.length e;rw[enc12_length] at this;simp at this ⊢
  omega
 clear hTA hsA hbA x1 x2 x3 x4 x5 hTB hsB hbB y1 y2 y3 y4 y5 hTC hsC hbC z1 z2 z3 z4 z5 hHeld hT hs a0 a1 a2 a3;generalize TA++TB++TC++T=S at *;have hS12:=HC.out.2;have hcl:=crc_lt (enc12 r);go_wp2_with fail
 refine(rsum_any S w1 (by omega)).mono ?_;rintro e w5 ⟨rfl,rfl⟩;rw[HC.out.1];go_wp2_with fail
 refine(wide_i _ _ _ (by omega) ⟨by decide,by decide⟩).mono ?_;rintro e w6 ⟨T6,rfl,hT6,hs6,hb6⟩;have hs6':T6.size=4:=hs6;clear hs6;have HT6:Hid _:=hT6;clear hT6;go_wp2;go_ret
 refine⟨_,rfl,?_,?_,BB.trans (hb6.mono BB.size)⟩
 ·simp only[ByteArray.data_append,Array.toList_append,HC.out.1,HT6.out];rfl
 ·simp[hS12,hs6']
theorem lastR_at {L:List Rec}{n:Nat}(h:L.length=n+1):lastR L=L[n]'(by omega):=by
 unfold lastR;rw[List.getLast?_eq_getElem?,List.getElem?_eq_getElem (by omega)];simp[h]
structure MaSt (w wx:World)(B rm bm:Nat)(v:Value)(L:List Rec)(x:Rec)(m:MSt):Prop where
 ring:MRingAt wx B rm bm v L false
 mod:ModAt wx bm m
 res:RecRow wx w.heap.size .none
 row:RecRow wx (w.heap.size+1) x
 off:Off (fun k=>k=bm) w wx
 size:w.heap.size+2<=wx.heap.size
 hm:bm < w.heap.size
 hr:rm < w.heap.size
 hv:∀ k,v.ownBlock=some k->k < w.heap.size
theorem MaSt.below {w wx wx':World}{B rm bm:Nat}{v:Value}{L:List Rec}{x:Rec}{m:MSt}(h:MaSt w wx B rm bm v L x m)(hb:Below wx.heap.size wx wx'):MaSt w wx' B rm bm v L x m:=
 ⟨h.ring.below hb,h.mod.below hb,h.res.below hb h.res.lt,h.row.below hb h.row.lt,h.off.trans (Off.of_below hb (fun _=>False)) (fun _ _ e=>e.elim),Nat.le_trans h.size hb.size,h.hm,h.hr,h.hv⟩
theorem MaSt.write {w wx wx':World}{B rm bm:Nat}{v:Value}{L:List Rec}{x:Rec}{m m':MSt}(h:MaSt w wx B rm bm v L x m)(hm:ModAt wx' bm m')(hg:wx.grownBy wx' (some bm)):MaSt w wx' B rm bm v L x m':=by
 have hb:=h.hm;exact⟨h.ring.off (Off.of_grown hg) h.ring.ne (fun g e e2=>h.ring.sep.2 (by rw[e,e2])),hm,h.res.off (Off.of_grown hg) (by omega),h.row.off (Off.of_grown hg) (by omega),h.off.trans (Off.of_grown hg) (fun _ _ e=>e),Nat.le_trans h.size hg.size,h.hm,h.hr,h.hv⟩
set_option maxRecDepth 100000 in
set_option maxHeartbeats 4000000 in
theorem mappend_full (B rm bm:Nat)(v:Value)(L:List Rec)(m:MSt)(n1 n2 n3:Nat)(w:World)(h:MRingAt w B rm bm v L false)(hmod:ModAt w bm m)(hf1:n1<=255)(hf2:n2<=255)(hf3:n3<=281474976710655)(hl:L.length<=8)(hq:(lastR L).seq=4294967295) :
  Calls Tryz.prog 162 #[.pointer (some ⟨rm,0,.none⟩),.int .i64 (n1:Int),.int .i64 (n2:Int),.int .i64 (n3:Int)] w fun e w'=>e=.returned (.tuple #[Rec.none.val,.int .i64 7])/\Off (fun k=>k=bm) w w'/\ModAt w' bm m/\MRingAt w' B rm bm v L false:=by
 have hlq:(lastR L).seq<=4294967295:=by omega
 have HQ:Hid _:=hq;clear hq;obtain⟨W,hW,Z1,B1,s1⟩:=app_zero w;have R1:=h.below B1;have M1:=hmod.below B1;have hrm:=h.lt;have hbm:=hmod.lt;have hvl:=fun k e=>(h.sl.lt k e).2
 have HW:Hid _:=hW;clear hW;have c2:=R1.c2;have g1:¬(n1:Int) < 0:=by omega
 have g2:¬255 < (n1:Int):=by omega
 have g3:¬(n2:Int) < 0:=by omega
 have g4:¬255 < (n2:Int):=by omega
 have g5:¬(n3:Int) < 0:=by omega
 have g6:¬281474976710656<=(n3:Int):=by omega
 go_enter Tryz.func162,Tryz.ntmps162
 go_upto_region 1 with fail
 rw[HW.out];go_upto_region 6 with fail
 obtain⟨W2,hW2⟩:∃ W2,W.alloc (.cells #[.int .i64 1,.int .i64 (n1:Int),.int .i64 (n2:Int),.int .i64 (n3:Int)] 57)=W2:=⟨_,rfl⟩;have B2:Below W.heap.size W W2:=by rw[<- hW2];exact(Below.refl _ _).alloc (Nat.le_refl _) _
 have X2:RecRow W2 (w.heap.size+1) ⟨1,n1,n2,n3⟩:=by
  refine⟨?_⟩;rw[<- hW2,<- s1];exact heap_alloc_new _ _
 have s2:W2.heap.size=w.heap.size+2:=by rw[<- hW2,<- Nat.add_assoc (n:=w.heap.size) (m:=1) (k:=1),<- s1];simp
 rw[hW2];clear hW2;have ST2:MaSt w W2 B rm bm v L ⟨1,n1,n2,n3⟩ m:=
  ⟨R1.below B2,M1.below B2,Z1.below B2 Z1.lt,X2,(Off.of_below (B1.trans (B2.mono (by omega))) (fun k=>k=bm)),by omega,hbm,hrm,hvl⟩
 clear R1 M1 Z1 B1 B2 X2 HW c2 g1 g2 g3 g4 g5 g6 s1 s2;have r1:=ST2.ring.c1;obtain⟨sa,c,rfl⟩:=ST2.ring.sl.len;go_upto_if 52 with fail
 go_cut [9] (fun e wx=>e=.int .i64 0/\MaSt w wx B rm bm (.slice sa L.length c) L (nextR L n1 n2 n3) m)
 case first=>
  by_cases hL:L=[]
  ·subst hL;go_wp2_with fail
   all_goals
    go_meet
    case rel=>exact⟨rfl,ST2⟩
  ·obtain⟨n,hn⟩:∃ n,L.length=n+1:=⟨L.length - 1,by have:=List.length_pos_iff.2 hL;omega⟩;obtain⟨g,o,hsa,hcell⟩:=ST2.ring.sl.reads.2 hL;have cn:=(hcell n (by omega)).1;rw[<- lastR_at hn] at cn;have x0:=ST2.row.at.c0;have xf:=ST2.row.frozen 0;have ngx:¬g=w.heap.size+1:=by
    have:=ST2.hv g (by rw[hsa];rfl);omega
   have ngr:¬rm=w.heap.size+1:=by omega
   have hST:∀ q,MaSt w ((W2.drewN q).setCell ⟨w.heap.size+1,0,.none⟩ (.int .i64 (((lastR L).seq:Int)+1))) B rm bm (.slice sa L.length c) L (nextR L n1 n2 n3) m:=fun q=>by
    have hG:(W2.drewN q).grownBy ((W2.drewN q).setCell ⟨w.heap.size+1,0,.none⟩ (.int .i64 (((lastR L).seq:Int)+1))) (some (w.heap.size+1)):=grown_set (grown_refl _ _) _ _;have S3:=ST2.below (below_drewN (Below.refl _ _) q);have hz:=S3.size
    refine⟨S3.ring.off (Off.of_grown hG) (by omega) (fun k e e2=>by have:=ST2.hv k e;omega),S3.mod.other hG (by omega),S3.res.off (Off.of_grown hG) (by omega),⟨?_⟩,S3.off.trans (Off.of_grown hG) (fun k hk e=>by omega),by simpa using hz,hbm,hrm,ST2.hv⟩;have hh:=S3.row.heap;simp only[World.setCell,Array.getElem?_modify,hh];simp[nextR]
   have HST:Hid _:=hST;have hlw:IntKind.i64.wrap (((lastR L).seq:Int)+1)=((lastR L).seq:Int)+1:=by rw[IntKind.wrap_i64];omega
   clear hST hcell ST2;rw[hn] at r1 ⊢;subst hsa;have wn:IntKind.i64.wrap (n:Int)=(n:Int):=by rw[IntKind.wrap_i64];omega
   have i0:(0:Int)<=(n:Int):=by omega
   have i1:(n:Int) < (n:Int)+1:=by omega
   generalize lastR L=y at *;go_wp2_with fail
   go_region
   all_goals
    go_wp2_with fail
    go_meet
    case rel=>exact⟨rfl,HST.out 1⟩
 clear ST2 r1;obtain⟨rfl,ST⟩:=hcut;have x0:=ST.row.at.c0;rw[show ((nextR L n1 n2 n3).seq:Int)=4294967296 by show (((lastR L).seq+1:Nat):Int)=_;have:=HQ.out;omega] at x0;have Z:=ST.res;obtain⟨z0,z1,z2,z3⟩:=Z.at;have f0:=Z.frozen 0;have f1:=Z.frozen 1;have f2:=Z.frozen 2;have f3:=Z.frozen 3;have hO:=ST.off;have hM:=ST.mod;have hR:=ST.ring;have hVL:=ST.hv;clear ST HQ;go_wp2_with fail
 refine bodyPost_ret (res_rec rfl _ _ w.heap.size .none rfl (Z.set4 .none).at) rfl ?_;have G9:=grown_set4 wc w.heap.size (.int .i64 0) (.int .i64 0) (.int .i64 0) (.int .i64 0);exact⟨rfl,hO.trans (Off.of_grown G9) (fun k hk e=>by omega),hM.other G9 (by omega),hR.off (Off.of_grown G9) (by omega) (fun k e e2=>by have:=hVL k e;omega)⟩
theorem MaSt.drew {w wx:World}{B rm bm:Nat}{v:Value}{L:List Rec}{x:Rec}{m:MSt}(h:MaSt w wx B rm bm v L x m):MaSt w wx.drew B rm bm v L x m:=h.below (below_drewN (Below.refl _ _) 1)
theorem rslotx (n:Nat)(w:World)(h:1<=n)(h2:n < 9223372036854775808) :
  Calls Tryz.prog 159 #[.int .i64 (n:Int)] w fun e w'=>∃ Q:Nat,Q=(n - 1) % 9/\e=.returned (.int .i64 (Q:Int))/\w'=w:=
 (rslot_any n w h h2).mono fun _ _ ⟨h1,h2⟩=>⟨_,rfl,h1,h2⟩
theorem zero_here {s:CSt}{p:Nat}(he:s.err p 1=0)(hz:s.bytes.getD p 0=0):s.zeroAt p=(s,0):=by unfold CSt.zeroAt;rw[if_pos he,if_pos hz]
theorem zero_not {s:CSt}{p:Nat}(he:s.err p 1=0)(hz:¬s.bytes.getD p 0=0):s.zeroAt p=s.writeE p [0]:=by unfold CSt.zeroAt;rw[if_pos he,if_neg hz]
theorem writeE_written (s:CSt)(p:Nat)(l:List UInt8):(s.writeE p l).1.written<=s.written+l.length:=by
 unfold CSt.writeE
 split
 ·unfold CSt.write
  split
  ·show (s.puts p (l.take s.left)).written<=_
   rw[CSt.puts_written,List.length_take];omega
  ·show (s.puts p l).written<=_
   rw[CSt.puts_written];exact Nat.le_refl _
 ·exact Nat.le_add_right _ _
theorem zeroAt_written (s:CSt)(p:Nat):(s.zeroAt p).1.written<=s.written+1:=by
 unfold CSt.zeroAt
 split
 ·split
  ·exact Nat.le_succ _
  ·exact writeE_written s p [0]
 ·exact Nat.le_succ _
theorem step_append_msl {ops:Array Oper}{o:Oper}{a:Act}{K:Act->World->Prop}{Q:Exit->Act->World->Prop}{E:Prop}(hgd:o.guard=none)(so xo:Operand)
  (ho:o.op=.call { callee:=.builtin .append,args:=#[so,xo],argTypes:=#[52,52] }) {B:Nat} {v:Value} {L:List Rec} {w:World} (x:Rec) (hs:a.eval so=v) (h:MSl w B v L) (ad:Addr) (c:Nat) (hx:a.eval xo=.slice (some ad) 1 c)
  (hnews:∀ j u,x.list[j]?=some u->w.cell? (ad.add j)=some u) (hl:L.length<=100) (hB:B<=w.heap.size) (H:Nat) (hH:w.heap.size=H)
  (hK:∀ sa' c' w',MSl w' B (.slice sa' (L.length+1) c') (L++[x])->Off (fun k=>v.ownBlock=some k) w w'->(∀ k,(Value.slice sa' (L.length+1) c').ownBlock=some k->v.ownBlock=some k\/k=H)->K (a.put o.dst (.slice sa' (L.length+1) c')) w') :
  if Region.wanted o (yielded ops a.tmps)=true then Oper.wp Tryz.prog o a w K Q else E:=by
 have hw:Region.wanted o (yielded ops a.tmps)=true:=by simp[Region.wanted,hgd]
 rw[if_pos hw];obtain⟨v',w',hrun,h1,h2,h3⟩:=h.append x o.type ad c hnews hl hB;obtain⟨sa',c',rfl⟩:=h1.len;rw[List.length_append,List.length_singleton] at *;subst hH;unfold Oper.wp;simp[execOp,ho,resolve,invoke,builtin,hs,hx,hrun,Result.andThen]
 exact hK sa' c' w' h1 h2 h3
def putB (a:CSt × Nat)(p:Nat)(l:List UInt8):CSt × Nat:=if a.2=0 then a.1.writeE p l else a
theorem putB_written (a:CSt × Nat)(p:Nat)(l:List UInt8):(putB a p l).1.written<=a.1.written+l.length:=by
 unfold putB
 split
 ·exact writeE_written _ _ _
 ·exact Nat.le_add_right _ _
theorem putRec_steps (s:CSt)(r:Rec):s.putRec r=putB (putB (s.zeroAt ((r.seq - 1) % 9*17+16)) ((r.seq - 1) % 9*17) (enc16 r)) ((r.seq - 1) % 9*17+16) [165]:=by
 unfold CSt.putRec putB;simp only[]
 split
 ·rfl
 ·rfl
set_option maxRecDepth 100000 in
set_option maxHeartbeats 8000000 in
theorem mappend_go (B rm bm:Nat)(v:Value)(L:List Rec)(s:CSt)(m:MSt)(n1 n2 n3:Nat)(w:World)(h:MRingAt w B rm bm v L false)(hmod:ModAt w bm m)(hsim:Sim s m)(hbig:153<=s.size)(hoff:s.off=false)(hlow:s.written+18<=1099511627776)(hf1:n1<=255)(hf2:n2<=255)(hf3:n3<=281474976710655)(hl:L.length<=8)(hq:(lastR L).seq < 4294967295)(hB:B<=w.heap.size) :
  Calls Tryz.prog 162 #[.pointer (some ⟨rm,0,.none⟩),.int .i64 (n1:Int),.int .i64 (n2:Int),.int .i64 (n3:Int)] w fun e w'=>∃ m',Sim (s.putRec (nextR L n1 n2 n3)).1 m'/\ModAt w' bm m'/\Off (fun k=>k=bm\/k=rm\/v.ownBlock=some k) w w' /\
   ((∃ j,(s.putRec (nextR L n1 n2 n3)).2=j+1/\e=.returned (.tuple #[Rec.none.val,.int .i64 ((j+1:Nat):Int)])/\MRingAt w' B rm bm v L true) \/
    ((s.putRec (nextR L n1 n2 n3)).2=0/\e=.returned (.tuple #[(nextR L n1 n2 n3).val,.int .i64 0])/\∃ v',MRingAt w' B rm bm v' (keepL L (nextR L n1 n2 n3)) false/\∀ k,v'.ownBlock=some k->v.ownBlock=some k\/w.heap.size<=k)):=by
 have hlq:(lastR L).seq<=4294967295:=by omega
 have HQ:Hid _:=hq;have HSIM:Hid _:=hsim;clear hq hsim;obtain⟨W,hW,Z1,B1,s1⟩:=app_zero w;have R1:=h.below B1;have M1:=hmod.below B1;have hrm:=h.lt;have hbm:=hmod.lt;have hvl:=fun k e=>(h.sl.lt k e).2
 have HW:Hid _:=hW;clear hW;have c2:=R1.c2;have g1:¬(n1:Int) < 0:=by omega
 have g2:¬255 < (n1:Int):=by omega
 have g3:¬(n2:Int) < 0:=by omega
 have g4:¬255 < (n2:Int):=by omega
 have g5:¬(n3:Int) < 0:=by omega
 have g6:¬281474976710656<=(n3:Int):=by omega
 go_enter Tryz.func162,Tryz.ntmps162
 go_upto_region 1 with fail
 rw[HW.out];go_upto_region 6 with fail
 obtain⟨W2,hW2⟩:∃ W2,W.alloc (.cells #[.int .i64 1,.int .i64 (n1:Int),.int .i64 (n2:Int),.int .i64 (n3:Int)] 57)=W2:=⟨_,rfl⟩;have B2:Below W.heap.size W W2:=by rw[<- hW2];exact(Below.refl _ _).alloc (Nat.le_refl _) _
 have X2:RecRow W2 (w.heap.size+1) ⟨1,n1,n2,n3⟩:=by
  refine⟨?_⟩;rw[<- hW2,<- s1];exact heap_alloc_new _ _
 have s2:W2.heap.size=w.heap.size+2:=by rw[<- hW2,<- Nat.add_assoc (n:=w.heap.size) (m:=1) (k:=1),<- s1];simp
 rw[hW2];clear hW2;have ST2:MaSt w W2 B rm bm v L ⟨1,n1,n2,n3⟩ m:=
  ⟨R1.below B2,M1.below B2,Z1.below B2 Z1.lt,X2,(Off.of_below (B1.trans (B2.mono (by omega))) (fun k=>k=bm)),by omega,hbm,hrm,hvl⟩
 clear R1 M1 Z1 B1 B2 X2 HW c2 g1 g2 g3 g4 g5 g6 s1 s2;have r1:=ST2.ring.c1;obtain⟨sa,c,rfl⟩:=ST2.ring.sl.len;go_upto_if 52 with fail
 go_cut [9] (fun e wx=>e=.int .i64 0/\MaSt w wx B rm bm (.slice sa L.length c) L (nextR L n1 n2 n3) m)
 case first=>
  by_cases hL:L=[]
  ·subst hL;go_wp2_with fail
   all_goals
    go_meet
    case rel=>exact⟨rfl,ST2⟩
  ·obtain⟨n,hn⟩:∃ n,L.length=n+1:=⟨L.length - 1,by have:=List.length_pos_iff.2 hL;omega⟩;obtain⟨g,o,hsa,hcell⟩:=ST2.ring.sl.reads.2 hL;have cn:=(hcell n (by omega)).1;rw[<- lastR_at hn] at cn;have x0:=ST2.row.at.c0;have xf:=ST2.row.frozen 0;have ngx:¬g=w.heap.size+1:=by
    have:=ST2.hv g (by rw[hsa];rfl);omega
   have ngr:¬rm=w.heap.size+1:=by omega
   have hST:∀ q,MaSt w ((W2.drewN q).setCell ⟨w.heap.size+1,0,.none⟩ (.int .i64 (((lastR L).seq:Int)+1))) B rm bm (.slice sa L.length c) L (nextR L n1 n2 n3) m:=fun q=>by
    have hG:(W2.drewN q).grownBy ((W2.drewN q).setCell ⟨w.heap.size+1,0,.none⟩ (.int .i64 (((lastR L).seq:Int)+1))) (some (w.heap.size+1)):=grown_set (grown_refl _ _) _ _;have S3:=ST2.below (below_drewN (Below.refl _ _) q);have hz:=S3.size
    refine⟨S3.ring.off (Off.of_grown hG) (by omega) (fun k e e2=>by have:=ST2.hv k e;omega),S3.mod.other hG (by omega),S3.res.off (Off.of_grown hG) (by omega),⟨?_⟩,S3.off.trans (Off.of_grown hG) (fun k hk e=>by omega),by simpa using hz,hbm,hrm,ST2.hv⟩;have hh:=S3.row.heap;simp only[World.setCell,Array.getElem?_modify,hh];simp[nextR]
   have HST:Hid _:=hST;have hlw:IntKind.i64.wrap (((lastR L).seq:Int)+1)=((lastR L).seq:Int)+1:=by rw[IntKind.wrap_i64];omega
   clear hST hcell ST2;rw[hn] at r1 ⊢;subst hsa;have wn:IntKind.i64.wrap (n:Int)=(n:Int):=by rw[IntKind.wrap_i64];omega
   have i0:(0:Int)<=(n:Int):=by omega
   have i1:(n:Int) < (n:Int)+1:=by omega
   generalize lastR L=y at *;go_wp2_with fail
   go_region
   all_goals
    go_wp2_with fail
    go_meet
    case rel=>exact⟨rfl,HST.out 1⟩
 clear ST2 r1;obtain⟨rfl,ST⟩:=hcut;have hseq:(nextR L n1 n2 n3).seq < 4294967296:=by show (lastR L).seq+1 < _;have:=HQ.out;omega
 have hseq1:1<=(nextR L n1 n2 n3).seq:=Nat.le_add_left _ _;have hok:(nextR L n1 n2 n3).Ok:=⟨by omega,by show n1 < _;omega,by show n2 < _;omega,by show n3 < _;omega⟩;have HP:Hid _:=putRec_steps s (nextR L n1 n2 n3);have HOK:Hid _:=hok;clear hok HQ hlq;generalize hxe:nextR L n1 n2 n3=x at *;have HX:Hid _:=hxe;clear hxe;have x0:=ST.row.at.c0;have r0:=ST.ring.c0;have gx:¬4294967296<=(x.seq:Int):=by omega
 go_upto_region 10 with fail
 clear gx
 go_cut [11] (fun a wx=>a=.int .i64 (((x.seq - 1) % 9*17:Nat):Int)/\wx=wc)
 case first=>
  go_wp2_with fail
  refine(rslotx x.seq wc hseq1 (by omega)).mono ?_;rintro e w7 ⟨Q,hQ,rfl,rfl⟩;have hq9:=Nat.mod_lt (x.seq - 1) (show 0 < 9 by decide);rw[<- hQ] at hq9;have HQQ:Hid _:=hQ;clear hQ;go_wp2_with fail
  go_meet
  case rel=>
   rw[<- HQQ.out];exact⟨by go_num,rfl⟩
 obtain⟨rfl,rfl⟩:=hcut;have hq9:=Nat.mod_lt (x.seq - 1) (show 0 < 9 by decide);generalize (x.seq - 1) % 9=Q at *;go_upto_region 11 with fail
 go_cut [12] (fun a wx=>a=.int .i64 ((Q*17+16:Nat):Int)/\wx=wc)
 case first=>
  go_wp2_with fail
  go_meet
  case rel=>exact⟨by go_num,rfl⟩
 obtain⟨rfl,rfl⟩:=hcut;have hsz:=HSIM.out.size;have hbz:m.B.size<=4096:=by rw[HSIM.out.bsize];exact hsz
 have hes:s.err ((Q*17+16:Nat):Int) 1=0:=by
  unfold CSt.err;rw[if_neg (by omega),hoff];rfl
 have hem:m.err ((Q*17+16:Nat):Int) 1=0:=by rw[HSIM.out.err];exact hes
 obtain⟨hbp,hbe⟩:=HSIM.out.byte (Q*17+16) (by omega);have HES:Hid _:=hes;have HEM:Hid _:=hem;have HBE:Hid _:=hbe;clear hes hem hbe;have r1:=ST.ring.c0;have mb:=ST.mod.c0;have mi0:(0:Int)<=((Q*17+16:Nat):Int):=by omega
 have mi1:((Q*17+16:Nat):Int) < (m.B.size:Int):=by omega
 generalize hPe:Q*17+16=P at *;go_wp2_with fail
 refine(merr_any bm m (P:Int) 1 wc ST.mod hbz (by omega)).mono ?_;rintro e w7 ⟨rfl,rfl⟩;rw[HEM.out];go_upto_if 98 with fail
 go_cut [13] (fun e wx=>∃ m1,e=.int .i64 ((s.zeroAt P).2:Nat)/\Sim (s.zeroAt P).1 m1/\MaSt w wx B rm bm (.slice sa L.length c) L x m1)
 case first=>
  obtain⟨y,hy⟩:∃ y,m.B[P]=y:=⟨_,rfl⟩;rw[hy] at HBE;rw[hy];clear hy mb
  by_cases hy0:y=0
  ·subst hy0;have HZ:Hid _:=zero_here HES.out HBE.out.symm;go_wp2_with fail
   all_goals
    go_meet
    case rel=>exact⟨m,by rw[HZ.out];rfl,by rw[HZ.out];exact HSIM.out,ST⟩
  ·have HZ:Hid _:=zero_not HES.out (fun e=>hy0 (HBE.out.trans e));have y1:((y.toNat:Int) == 0)=false:=by
    rw[beq_eq_false_iff_ne];intro e;exact hy0 (UInt8.toNat_inj.1 (by rw[show (0:UInt8).toNat=0 from rfl];omega))
   have y2:¬(y.toNat:Int)=0:=by simpa using y1
   obtain⟨m1,hs1,hw1⟩:=mwrite_sim bm s m P ⟨#[UInt8.ofNat 0]⟩ HSIM.out (by show _+1<=_;omega) (by omega);have HS1:Hid _:=hs1;have HW1:Hid _:=hw1;clear hs1 hw1;have STd:=ST.drew;have r1d:=STd.ring.c0;clear r1 r0;go_upto_region 14 with fail
   go_region_held3 (fun w'=>w'.cell? ⟨rm,0,.none⟩=some (.pointer (some ⟨bm,0,.none⟩))) (first | exact r1d | exact rB | exact rW) (first | (go_at_call 210;refine(byte_any 0 _).mono ?_;rintro e wB ⟨rfl,hbB⟩;have STB:=STd.below hbB;have rB:=STB.ring.c0) | (go_at_call 213;refine Calls.mono (HW1.out _ STB.mod) ?_;rintro e wW ⟨rfl,MW,GW⟩;have STW:=STB.write MW GW;have rW:=STW.ring.c0))
   go_wp2_with fail
   go_meet
   case rel=>exact⟨m1,by rw[HZ.out],by rw[HZ.out];exact HS1.out,STW⟩
 clear ST x0 r0 r1 mb mi0 mi1 HES HEM HBE HSIM hbp hbz;obtain⟨m1,rfl,hs1,ST⟩:=hcut;have hwa:=zeroAt_written s P;generalize s.zeroAt P=a at *;have HS1:Hid _:=hs1;clear hs1;go_upto_if 107 with fail
 go_cut [13] (fun e wx=>∃ m2,e=.int .i64 ((putB a (Q*17) (enc16 x)).2:Nat)/\Sim (putB a (Q*17) (enc16 x)).1 m2/\MaSt w wx B rm bm (.slice sa L.length c) L x m2)
 case first=>
  by_cases ha:a.2=0
  ·have HZ:Hid (putB a (Q*17) (enc16 x)=a.1.writeE (Q*17) (enc16 x)):=if_pos ha;have HWW:Hid _:=fun T (hT:T.size=16)=>mwrite_sim bm a.1 m1 (Q*17) T HS1.out (by rw[hT];omega) (by omega)
   have STd:=ST.drew;have r1d:=STd.ring.c0;obtain⟨e0,e1,e2,e3⟩:=STd.row.at;have a1:(a.2:Int)=0:=by omega
   rw[a1];clear ha a1;go_upto_region 16 with fail
   go_region_held3 (fun w'=>w'.cell? ⟨rm,0,.none⟩=some (.pointer (some ⟨bm,0,.none⟩))/\w'.cell? ⟨w.heap.size+1,0,.none⟩=some (.int .i64 (x.seq:Int))/\w'.cell? ⟨w.heap.size+1,1,.none⟩=some (.int .i64 (x.ent:Int))/\w'.cell? ⟨w.heap.size+1,2,.none⟩=some (.int .i64 (x.kind:Int))/\w'.cell? ⟨w.heap.size+1,3,.none⟩=some (.int .i64 (x.tick:Int))) (first | exact⟨r1d,e0,e1,e2,e3⟩ | exact⟨rB,k0,k1,k2,k3⟩ | exact⟨rW,l0,l1,l2,l3⟩) (first | (go_at_call 209;refine(body_any x _ HOK.out).mono ?_;rintro e wB ⟨T,rfl,hT1,hT2,hbB⟩;have STB:=STd.below hbB;have rB:=STB.ring.c0;obtain⟨k0,k1,k2,k3⟩:=STB.row.at;obtain⟨m2,hs2,hw2⟩:=HWW.out T hT2;have HS2:Hid _:=hs2;have HW2:Hid _:=hw2;clear hs2 hw2) | (go_at_call 213;refine Calls.mono (HW2.out _ STB.mod) ?_;rintro e wW ⟨rfl,MW,GW⟩;have STW:=STB.write MW GW;have rW:=STW.ring.c0;obtain⟨l0,l1,l2,l3⟩:=STW.row.at))
   go_wp2_with fail
   go_meet
   case rel=>exact⟨m2,by rw[HZ.out,<- hT1],by rw[HZ.out,<- hT1];exact HS2.out,STW⟩
  ·have HZ:Hid (putB a (Q*17) (enc16 x)=a):=if_neg ha;have a1:((a.2:Int) == 0)=false:=by rw[beq_eq_false_iff_ne];omega
   have a2:¬(a.2:Int)=0:=by omega
   go_wp2_with fail
   all_goals
    go_meet
    case rel=>exact⟨m1,by rw[HZ.out],by rw[HZ.out];exact HS1.out,ST⟩
 clear ST HS1;obtain⟨m2,rfl,hs2,ST⟩:=hcut;have hwb:=putB_written a (Q*17) (enc16 x);rw[enc16_length] at hwb;generalize putB a (Q*17) (enc16 x)=b at *;have HS2:Hid _:=hs2;clear hs2;go_upto_if 117 with fail
 go_cut [13] (fun e wx=>∃ m3,e=.int .i64 ((putB b P [165]).2:Nat)/\Sim (putB b P [165]).1 m3/\MaSt w wx B rm bm (.slice sa L.length c) L x m3)
 case first=>
  by_cases hb:b.2=0
  ·have HZ:Hid (putB b P [165]=b.1.writeE P [165]):=if_pos hb;obtain⟨m3,hs3,hw3⟩:=mwrite_sim bm b.1 m2 P ⟨#[UInt8.ofNat 165]⟩ HS2.out (by show _+1<=_;omega) (by omega);have HS3:Hid _:=hs3;have HW3:Hid _:=hw3;clear hs3 hw3;have STd:=ST.drew;have r1d:=STd.ring.c0;have b1:(b.2:Int)=0:=by omega
   rw[b1];clear hb b1;go_upto_region 18 with fail
   go_region_held3 (fun w'=>w'.cell? ⟨rm,0,.none⟩=some (.pointer (some ⟨bm,0,.none⟩))) (first | exact r1d | exact rB | exact rW) (first | (go_at_call 210;refine(byte_any 165 _).mono ?_;rintro e wB ⟨rfl,hbB⟩;have STB:=STd.below hbB;have rB:=STB.ring.c0) | (go_at_call 213;refine Calls.mono (HW3.out _ STB.mod) ?_;rintro e wW ⟨rfl,MW,GW⟩;have STW:=STB.write MW GW;have rW:=STW.ring.c0))
   go_wp2_with fail
   go_meet
   case rel=>exact⟨m3,by rw[HZ.out],by rw[HZ.out];exact HS3.out,STW⟩
  ·have HZ:Hid (putB b P [165]=b):=if_neg hb;have b1:((b.2:Int) == 0)=false:=by rw[beq_eq_false_iff_ne];omega
   have b2:¬(b.2:Int)=0:=by omega
   go_wp2_with fail
   all_goals
    go_meet
    case rel=>exact⟨m2,by rw[HZ.out],by rw[HZ.out];exact HS2.out,ST⟩
 clear ST HS2;obtain⟨m3,rfl,hs3,ST⟩:=hcut;rw[<- HP.out] at hs3 ⊢;have HS3:Hid _:=hs3;clear hs3 HP;generalize hre:s.putRec x=r at *;have HR:Hid _:=hre;clear hre;have hRing:=ST.ring;have hMod:=ST.mod;have hRes:=ST.res;have hRow:=ST.row;have hOff:=ST.off;have hSz:=ST.size;have hVl:=ST.hv;have HOF:Hid _:=hOff;clear ST hOff
 cases hr2:r.2 with
 | succ j=>
  have c2:=hRing.c2;have f2:=hRing.frozen 2;have nrb:¬w.heap.size=rm:=by omega
  have nrb':¬rm=w.heap.size:=by omega
  have G8:wc.grownBy (wc.setCell ⟨rm,2,.none⟩ (.bool true)) (some rm):=grown_set (grown_refl _ _) _ _;have R8:=hRing.spent;have Z8:=hRes.off (Off.of_grown G8) nrb;have M8:=hMod.other G8 (Ne.symm hRing.ne);have z0:=Z8.at.c0;have z1:=Z8.at.c1;have z2:=Z8.at.c2;have z3:=Z8.at.c3;have q0:=Z8.frozen 0;have q1:=Z8.frozen 1;have q2:=Z8.frozen 2;have q3:=Z8.frozen 3;have hpos:(0:Int) < ((j+1:Nat):Int):=by omega
  go_upto_region 21 with fail
  obtain⟨W8,hW8⟩:∃ W8,wc.setCell ⟨rm,2,.none⟩ (.bool true)=W8:=⟨_,rfl⟩;rw[hW8] at R8 Z8 M8 z0 z1 z2 z3 q0 q1 q2 q3 G8;rw[hW8];clear hW8 c2 f2;go_wp2_with fail
  have G9:=grown_set4 W8 w.heap.size (.int .i64 0) (.int .i64 0) (.int .i64 0) (.int .i64 0)
  refine bodyPost_ret (res_rec rfl _ _ w.heap.size .none rfl (Z8.set4 .none).at) rfl ?_;rw[HX.out,HR.out]
  refine⟨m3,HS3.out,M8.other G9 (by omega),?_,Or.inl ⟨j,hr2,rfl,R8.off (Off.of_grown G9) nrb' (fun k e e2=>by have:=hVl k e;omega)⟩⟩;exact((HOF.out.mono (fun k _ e=>Or.inl e)).trans (Off.of_grown G8) (fun k _ e=>Or.inr (Or.inl e))).trans (Off.of_grown G9) (fun k hk e=>by omega)
 | zero=>
  rename World=>wD
  have r1:=hRing.c1;obtain⟨e0,e1,e2,e3⟩:=hRow.at;have hsl:MSl wD.drew B (.slice sa L.length c) L:=hRing.sl.below (below_drewN (Below.refl _ _) 1);have hslA:=fun o=>hsl.below ((Below.refl wD.drew.heap.size wD.drew).alloc (Nat.le_refl _) o)
  have HSL:Hid _:=hslA;have hBw:B<=wD.heap.size+1:=by omega
  have hrl:rm < wD.heap.size:=by omega
  have hxl:w.heap.size+1 < wD.heap.size:=by omega
  have hrn:¬rm=wD.heap.size:=by omega
  have hxn:¬w.heap.size+1=wD.heap.size:=by omega
  go_upto_region 22 with fail
  go_cut [14] (fun l wx=>∃ sa' c',l=.slice sa' (L.length+1) c'/\MSl wx B (.slice sa' (L.length+1) c') (L++[x])/\Off (fun k=>(Value.slice sa L.length c).ownBlock=some k) wD wx/\∀ k,(Value.slice sa' (L.length+1) c').ownBlock=some k->(Value.slice sa L.length c).ownBlock=some k\/wD.heap.size<=k)
  case first=>
   go_region_law (refine step_append_msl rfl (.tmp 135) (.tmp 137) rfl x (by simp[Act.eval]) (HSL.out _) ⟨wD.heap.size,0,.none⟩ 1 (by simp[Act.eval]) (cell_four wD.drew x 57) (by omega) (by simpa using hBw) (wD.heap.size+1) (by simp) ?_;intro sa' c' w8 S8 O8 K8)
   all_goals
    go_wp2_with fail
    go_meet
    case rel=>exact⟨sa',c',rfl,S8,(Off.of_below (((Below.refl wD.heap.size wD).drew).alloc (Nat.le_refl _) _) _).trans O8 (fun k _ e=>e),fun k e=>(K8 k e).imp id (fun h=>by omega)⟩
  clear HSL hsl hslA r1 e0 e1 e2 e3;obtain⟨sa',c',rfl,S8,O8,K8⟩:=hcut;have hsD:=O8.size;have nv:∀ k,(Value.slice sa' (L.length+1) c').ownBlock=some k->k≠rm/\k≠bm/\k≠w.heap.size/\k≠w.heap.size+1:=fun k e=>by
   have q1:=hRing.sep.1;have q2:=hRing.sep.2
   rcases K8 k e with h | h
   ·have:=hVl k h;exact⟨fun e2=>q1 (by rw[h,e2]),fun e2=>q2 (by rw[h,e2]),by omega,by omega⟩
   ·exact⟨by omega,by omega,by omega,by omega⟩
  have no:∀ k,k=rm\/k=bm\/k=w.heap.size\/k=w.heap.size+1->¬(Value.slice sa L.length c).ownBlock=some k:=fun k hk e=>by
   have q1:=hRing.sep.1;have q2:=hRing.sep.2;have:=hVl k e
   rcases hk with h | h | h | h
   ·exact q1 (by rw[e,h])
   ·exact q2 (by rw[e,h])
   ·omega
   ·omega
  have H8:wc.heap[rm]?=some (.cells #[.pointer (some ⟨bm,0,.none⟩),.slice sa L.length c,.bool false] 139 (0,0)):=(O8.block rm (by omega) (no rm (Or.inl rfl))).trans hRing.heap;have M8:ModAt wc bm m3:=⟨(O8.block bm (by omega) (no bm (Or.inr (Or.inl rfl)))).trans hMod.heap⟩;have Z8:=hRes.off O8 (no _ (Or.inr (Or.inr (Or.inl rfl))));have X8:=hRow.off O8 (no _ (Or.inr (Or.inr (Or.inr rfl))));clear hRes hRow hMod;go_upto_if 141 with fail
  go_cut [14] (fun l wx=>∃ v',l=v'/\(∃ s1 n1' c1,v'=.slice s1 n1' c1)/\MSl wx B v' (keepL L x)/\(∀ k,v'.ownBlock=some k->(Value.slice sa' (L.length+1) c').ownBlock=some k)/\wx=wc)
  case first=>
   by_cases h8:L.length=8
   ·have hk:keepL L x=(L++[x]).tail:=by
     unfold keepL;rw[if_pos h8]
     cases L with
     | nil=>cases h8
     | cons y M=>rfl
    obtain⟨g',o',hsa',-⟩:=S8.reads.2 (by simp);have S9:=S8;rw[hsa'] at S9;have HT9:Hid _:=S9.tail (by simp);rw[h8] at HT9 ⊢;have HKL:Hid _:=hk;have hc9:9<=c':=by
     obtain⟨-,ao,g2,o2,c2,e2,hc2,-⟩:=S8;simp only[Value.slice.injEq] at e2;obtain⟨-,-,rfl⟩:=e2;have:=hc2.le;rw[List.length_append,List.length_singleton] at this;omega
    have hc9':(9:Int)<=(c':Int):=by omega
    subst hsa';clear hk S9;go_wp2_with fail
    all_goals
     go_meet
     case rel=>exact⟨_,rfl,⟨_,_,_,rfl⟩,by rw[HKL.out];exact HT9.out,fun k e=>e,rfl⟩
   ·have hk:keepL L x=L++[x]:=by unfold keepL;rw[if_neg h8]
    have h8':¬8 < (L.length:Int)+1:=by omega
    have HKL:Hid _:=hk;clear hk;go_wp2_with fail
    all_goals
     go_meet
     case rel=>exact⟨_,rfl,⟨_,_,_,rfl⟩,by rw[HKL.out];exact S8,fun k e=>e,rfl⟩
  obtain⟨v',rfl,⟨sb,nb,cb,rfl⟩,S9,K9,rfl⟩:=hcut;rename World=>wE
  have cE:wE.cell? ⟨rm,1,.none⟩=some (.slice sa L.length c):=by simp[World.cell?,H8]
  have fE:wE.frozen? ⟨rm,1,.none⟩=false:=by simp[World.frozen?,H8]
  have hRE:MRingAt (wE.setCell ⟨rm,1,.none⟩ (.slice sb nb cb)) B rm bm (.slice sb nb cb) (keepL L x) false:=by
   refine⟨?_,S9.off (Off.of_grown (grown_set (grown_refl wE (some rm)) _ _)) (fun k e e2=>(nv k (K9 k e)).1 e2),⟨fun e=>(nv _ (K9 _ e)).1 rfl,fun e=>(nv _ (K9 _ e)).2.1 rfl⟩,hRing.lo,hRing.ne⟩;simp[World.setCell,Array.getElem?_modify,H8]
  have GE:wE.grownBy (wE.setCell ⟨rm,1,.none⟩ (.slice sb nb cb)) (some rm):=grown_set (grown_refl _ _) _ _;have ME:=M8.other GE (Ne.symm hRing.ne);have ZE:=Z8.off (Off.of_grown GE) (by omega);have XE:=X8.off (Off.of_grown GE) (by omega);have HRE:Hid _:=hRE;clear hRE S8 S9 M8 Z8 X8;go_upto_region 26 with fail
  obtain⟨W9,hW9⟩:∃ W9,wE.setCell ⟨rm,1,.none⟩ (.slice sb nb cb)=W9:=⟨_,rfl⟩;rw[hW9] at HRE GE ME ZE XE;rw[hW9];clear hW9 cE fE H8;have e0:=XE.at.c0;have e1:=XE.at.c1;have e2:=XE.at.c2;have e3:=XE.at.c3;have z0:=ZE.at.c0;have z1:=ZE.at.c1;have z2:=ZE.at.c2;have z3:=ZE.at.c3;have q0:=ZE.frozen 0;have q1:=ZE.frozen 1;have q2:=ZE.frozen 2;have q3:=ZE.frozen 3;go_wp2_with fail
  have G9:=grown_set4 W9 w.heap.size (.int .i64 (x.seq:Int)) (.int .i64 (x.ent:Int)) (.int .i64 (x.kind:Int)) (.int .i64 (x.tick:Int))
  refine bodyPost_ret (res_rec rfl _ _ w.heap.size x rfl (ZE.set4 x).at) rfl ?_;rw[HX.out,HR.out]
  refine⟨m3,HS3.out,ME.other G9 (by omega),?_,Or.inr ⟨hr2,rfl,_,HRE.out.off (Off.of_grown G9) (by omega) (fun k e e2=>(nv k (K9 k e)).2.2.1 e2),fun k e=>(K8 k (K9 k e)).imp id (fun h=>by omega)⟩⟩;exact(((HOF.out.mono (fun k _ e=>Or.inl e)).trans O8 (fun k _ e=>Or.inr (Or.inr e))).trans (Off.of_grown GE) (fun k _ e=>Or.inr (Or.inl e))).trans (Off.of_grown G9) (fun k hk e=>by omega)
end Go.Proofs.YtdpdbfhbojgigacGreatDoor
