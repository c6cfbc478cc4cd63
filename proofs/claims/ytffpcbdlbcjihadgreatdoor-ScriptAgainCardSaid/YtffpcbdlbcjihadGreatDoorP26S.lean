/-
  Several texts as one: CfPent, CfTextAll, CfRNum, CfRMap.
-/
import Derived.Test.YtffpcbdlbcjihadGreatDoorP25S
namespace Go.Proofs.YtffpcbdlbcjihadGreatDoor
open Go.RowKit Go.Extern.Stop Go.Stop Go.Extern
theorem pre_len {e:EntD}(hO:OkE e)(hZ:SizeE e){pre rest:List Bs}(h:entLines e=pre++rest):(pre.flatMap (fun x=>x++[10])).length<=1000000:=by
 have hl:=entLines_len hO hZ;have h1:=len_flat (fun x:Bs=>x++[10]) 63 pre (fun x hx=>by have:=hl.2 x (by rw[h];exact List.mem_append_left _ hx);simp;omega);have h2:pre.length<=122:=by have:=hl.1;rw[h,List.length_append] at this;omega
 have h3:pre.length*63<=122*63:=Nat.mul_le_mul_right _ h2;omega
theorem map_cut {α β:Type}(f:α->β)(l:List α)(k:Nat)(r:List β):(l.take k).map f++((l.drop k).map f++r)=l.map f++r:=by rw[<- List.append_assoc,<- List.map_append,List.take_append_drop]
def entTail (e:EntD):List Bs:=(if e.cnt=-1 then [] else [kwLine 5 [pt e.pts e.cnt,num e.mn,num e.mx]]) ++
  (e.gaps.map (fun g=>kwLine 6 [pt e.pts g.fr,pt e.pts g.to,num g.mn,num g.mx])++(e.edges.map (fun d=>kwLine 7 [pt e.pts d.1,pt e.pts d.2]) ++
   (e.first.map (fun x=>kwLine 8 [pt e.pts x])++e.last.map (fun x=>kwLine 9 [pt e.pts x]))))
def entTail6 (e:EntD):List Bs:=e.gaps.map (fun g=>kwLine 6 [pt e.pts g.fr,pt e.pts g.to,num g.mn,num g.mx])++(e.edges.map (fun d=>kwLine 7 [pt e.pts d.1,pt e.pts d.2]) ++
   (e.first.map (fun x=>kwLine 8 [pt e.pts x])++e.last.map (fun x=>kwLine 9 [pt e.pts x])))
theorem ent_split (e:EntD)(k:Nat):entLines e=(kwLine 3 [bl e.name,num e.tol] :: (e.pts.take k).map (fun p=>kwLine 4 [bl p]))++((e.pts.drop k).map (fun p=>kwLine 4 [bl p])++entTail e):=by
 rw[List.cons_append,<- List.append_assoc,<- List.map_append,List.take_append_drop];rfl
set_option maxHeartbeats 8000000 in
set_option maxRecDepth 100000 in
theorem entity_at (B pb:Nat)(e:EntD)(w0 w:World)(hb0:Below w0.heap.size w0 w)(hw0:w0.heap.size<=B)(hO:OkE e)(hZ:SizeE e)(hK:KwAt w)(hT:TabAt w)(hG:(max 12 13+1)<=B):EntOk B pb w0 w e:=by
 intro W l pv pa ga ea fa la pc gc ec fc lc hfr hp hl hparts;unfold entRow;have HB0:Hid (∀ V,Below B W V->Below w0.heap.size w0 V):=fun V hV=>hb0.trans ((hfr.bel.trans hV).mono hw0)
 have hKW:KwAt W:=hK.below hfr.bel (Nat.lt_of_lt_of_le (show 12 < (max 12 13+1) by decide) hG);have hTW:TabAt W:=hT.below hfr.bel hG;have hps:∀ p∈e.pts,p.size<=1000000:=fun p hp=>by
  have:=name_len (hO.pn p hp);have e1:(bl p).length=p.size:=by unfold bl;rw[Array.length_toList];rfl
  omega
 have HWs:Hid (WordOk B pb (.slice pa e.pts.length pc) W (.iface 9 (.string e.name),bl e.name)/\(∀ p∈e.pts,WordOk B pb (.slice pa e.pts.length pc) W (.iface 9 (.string p),bl p))):=⟨wordOk_str _ (by
  have:=name_len hO.name;have e1:(bl e.name).length=e.name.size:=by unfold bl;rw[Array.length_toList];rfl
  omega),fun p hp=>wordOk_str _ (hps p hp)⟩
 have HWi:Hid (∀ n:Int,0<=n->n<=1099511627776->WordOk B pb (.slice pa e.pts.length pc) W (.iface 3 (.int .i64 n),num n)):=fun n h0 h1=>wordOk_int n h0 h1 hTW hG
 have HWp:Hid (∀ x:Int,0<=x->x < (e.pts.length:Int)->WordOk B pb (.slice pa e.pts.length pc) W (.iface 223 (.int .i64 x),pt e.pts x)):=fun x h0 h1=>wordOk_place x (fun V hV=>hparts.hp.below (HB0.out V hV)) h0 h1 hps
 have HLn:Hid (∀ (U V:World) (pre:List Bs) (k:Nat) (ws:List (Value × Bs)),PFr B pb W U->PgIn B pb (.slice pa e.pts.length pc) U l pre V->k < 10->(∀ x∈ws,WordOk B pb (.slice pa e.pts.length pc) W x/\x.2.length<=13)->ws.length<=4->(pre.flatMap (fun x=>x++[10])).length<=1000000->Calls Tryz.prog 93 #[.pointer (some ⟨pb,0,none⟩),.slice (some ⟨V.heap.size,0,none⟩) (ws.length+1) (ws.length+1)] (V.alloc (.cells (.iface 154 (.int .i64 (k:Int)) :: ws.map (·.1)).toArray 20)) fun v V'=>v=.returned (.tuple #[])/\PgIn B pb (.slice pa e.pts.length pc) U l (pre++[kwLine k (ws.map (·.2))]) V'):=
  fun U V pre k ws hU h hk hw hn hp=>line_pre h k ws hk (hKW.below hU.bel (Nat.lt_of_lt_of_le (show 12 < (max 12 13+1) by decide) hG)) hG (fun x hx=>((hw x hx).1).later hU) (fun x hx=>(hw x hx).2) hn hl hp
 have HOk:Hid (OkE e/\SizeE e):=⟨hO,hZ⟩;have HPt:Hid (∀ V,Below B W V->EntParts V e (.slice pa e.pts.length pc) (.slice ga e.gaps.length gc) (.slice ea e.edges.length ec) (.slice fa e.first.length fc) (.slice la e.last.length lc)):=fun V hV=>hparts.below (HB0.out V hV)
 have HPB:Hid (pb < W.heap.size/\B<=W.heap.size):=⟨hp.lt,hp.2.1⟩;have HP:Hid (PageAt B pb pv l W):=hp;clear hb0 hw0 hO hZ hK hT hG hfr hp hl hparts hKW hTW hps;go_enter Tryz.func94,Tryz.ntmps94
 go_upto_region 1 with fail
 obtain⟨W0,hW0⟩:∃ V,V=W.alloc (.cells #[.string e.name,.int .i64 e.tol,.slice pa e.pts.length pc,.int .i64 e.cnt,.int .i64 e.mn,.int .i64 e.mx,.slice ga e.gaps.length gc,.slice ea e.edges.length ec,.slice fa e.first.length fc,.slice la e.last.length lc] 83):=⟨_,rfl⟩;rw[<- hW0];have HF0:Hid (PFr B pb W W0):=by show PFr _ _ _ _;rw[hW0];exact(PFr.refl B pb W).alloc HPB.out.2 _
 have HP0:Hid (PageAt B pb pv l W0):=by show PageAt _ _ _ _ _;rw[hW0];exact HP.out.below (Below.oneC _ _)
 have HX0:Hid (∀ V,PFr B pb W0 V->∀ (j:Nat) u,(#[.string e.name,.int .i64 e.tol,.slice pa e.pts.length pc,.int .i64 e.cnt,.int .i64 e.mn,.int .i64 e.mx,.slice ga e.gaps.length gc,.slice ea e.edges.length ec,.slice fa e.first.length fc,.slice la e.last.length lc]:Array Value)[j]?=some u->V.cell? ⟨W.heap.size,j,none⟩=some u):=fun V hV j u hu=>by
  have hb:=hV.box (by rw[hW0];exact heap_newC W _ _) (by have:=HPB.out.1;omega) (by decide);simp[World.cell?,hb,hu]
 clear hW0;have x2:W0.cell? ⟨W.heap.size,2,none⟩=some (.slice pa e.pts.length pc):=HX0.out W0 (PFr.refl _ _ _) 2 _ rfl;obtain⟨-,-,pp,vv,-,hrow,-⟩:=id HP0.out;have q2:W0.cell? ⟨pb,2,none⟩=some pv:=by simp[World.cell?,hrow]
 have f2:W0.frozen? ⟨pb,2,none⟩=false:=by simp[World.frozen?,hrow]
 clear hrow;go_upto_region 2 with fail
 obtain⟨W1,hW1⟩:∃ V,V=W0.setCell ⟨pb,2,none⟩ (.slice pa e.pts.length pc):=⟨_,rfl⟩;rw[<- hW1];have HG1:Hid (PFr B pb W0 W1):=by show PFr _ _ _ _;rw[hW1];exact(HP0.out.setPts _).2
 have HI1:Hid (PgIn B pb (.slice pa e.pts.length pc) W0 l [] W1):=⟨by simpa[hW1] using (HP0.out.setPts (.slice pa e.pts.length pc)).1,HG1.out⟩;clear hW1 x2 q2 f2 HP0;have HPre:Hid (∀ pre rest:List Bs,entLines e=pre++rest->(pre.flatMap (fun x=>x++[10])).length<=1000000):=fun pre rest h=>pre_len HOk.out.1 HOk.out.2 h
 have x0:W1.cell? ⟨W.heap.size,0,none⟩=some (.string e.name):=HX0.out W1 HG1.out 0 _ rfl;have x1:W1.cell? ⟨W.heap.size,1,none⟩=some (.int .i64 e.tol):=HX0.out W1 HG1.out 1 _ rfl;have HC:Hid (Calls Tryz.prog 93 #[.pointer (some ⟨pb,0,none⟩),.slice (some ⟨W1.heap.size,0,none⟩) 3 3] (W1.alloc (.cells #[.iface 154 (.int .i64 3),.iface 9 (.string e.name),.iface 3 (.int .i64 e.tol)] 20)) fun v V'=>v=.returned (.tuple #[])/\PgIn B pb (.slice pa e.pts.length pc) W0 l ([]++[kwLine 3 [bl e.name,num e.tol]]) V'):=
  HLn.out W0 W1 [] 3 [(.iface 9 (.string e.name),bl e.name),(.iface 3 (.int .i64 e.tol),num e.tol)] HF0.out HI1.out (by decide) (fun x hx=>by
   simp only[List.mem_cons,List.not_mem_nil,or_false] at hx
   rcases hx with rfl | rfl
   ·exact⟨HWs.out.1,name_len HOk.out.1.name⟩
   ·have:=HOk.out.1.tol;exact⟨HWi.out _ (by omega) (by omega),num_len (by omega)⟩) (by simp) (by simp)
 go_wp2_with fail
 refine Calls.mono HC.out ?_;rintro v W2 ⟨rfl,hi2⟩;have HI2:Hid (PgIn B pb (.slice pa e.pts.length pc) W0 l (kwLine 3 [bl e.name,num e.tol] :: (e.pts.take 0).map (fun p=>kwLine 4 [bl p])) W2):=hi2;clear hi2 HC x0 x1 HI1 HG1;have x2:W2.cell? ⟨W.heap.size,2,none⟩=some (.slice pa e.pts.length pc):=HX0.out W2 HI2.out.fr 2 _ rfl;go_wp2_with fail
 clear x2
 go_loopw [5,32] (fun _ i wr=>∃ k:Nat,k<=e.pts.length/\i=.int .i64 k/\PgIn B pb (.slice pa e.pts.length pc) W0 l (kwLine 3 [bl e.name,num e.tol] :: (e.pts.take k).map (fun p=>kwLine 4 [bl p])) wr) (fun _ i _=>e.pts.length - (intOf i).toNat)
 case atStart=>exact⟨0,Nat.zero_le _,rfl,HI2.out⟩
 case round=>
  clear HI2;obtain⟨k,hk,rfl,hi⟩:=hrel;have HI:Hid (PgIn B pb (.slice pa e.pts.length pc) W0 l (kwLine 3 [bl e.name,num e.tol] :: (e.pts.take k).map (fun p=>kwLine 4 [bl p])) wr):=hi;clear hi
  by_cases hlt:k < e.pts.length
  ·obtain⟨q,hq⟩:∃ q,e.pts[k]?=some q:=⟨_,List.getElem?_eq_getElem hlt⟩;obtain⟨sa',cap',hsl,-,hcc⟩:=(HPt.out wr (HF0.out.trans HI.out.fr).bel).hp
   cases hsl
   obtain⟨b,o,rfl,hc0⟩:=hcc (fun h=>by rw[h] at hq;simp at hq);have c0:wr.cell? ⟨b,o+k,none⟩=some (.string q):=by have:=hc0 k q hq 0 _ rfl;simpa using this
   have HQ:Hid (e.pts[k]?=some q):=hq;have HC:Hid (Calls Tryz.prog 93 #[.pointer (some ⟨pb,0,none⟩),.slice (some ⟨wr.heap.size,0,none⟩) 2 2] (wr.alloc (.cells #[.iface 154 (.int .i64 4),.iface 9 (.string q)] 20)) fun v V'=>v=.returned (.tuple #[])/\PgIn B pb (.slice (some ⟨b,o,none⟩) e.pts.length pc) W0 l ((kwLine 3 [bl e.name,num e.tol] :: (e.pts.take k).map (fun p=>kwLine 4 [bl p]))++[kwLine 4 [bl q]]) V'):=
    HLn.out W0 wr _ 4 [(.iface 9 (.string q),bl q)] HF0.out HI.out (by decide) (fun x hx=>by
     simp only[List.mem_singleton] at hx;subst hx;exact⟨HWs.out.2 q (List.mem_of_getElem? hq),name_len (HOk.out.1.pn q (List.mem_of_getElem? hq))⟩) (by simp) (HPre.out _ _ (ent_split e k))
   have k1:(k:Int) < (e.pts.length:Int):=by omega
   have k0:k < 100:=by have:=HOk.out.2.pts;omega
   clear hq hcc hc0;go_wp2_with fail
   refine Calls.mono HC.out ?_;rintro v W3 ⟨rfl,hi3⟩;have HR:Hid (PgIn B pb (.slice (some ⟨b,o,none⟩) e.pts.length pc) W0 l (kwLine 3 [bl e.name,num e.tol] :: (e.pts.take (k+1)).map (fun p=>kwLine 4 [bl p])) W3):=by
    have e1:(e.pts.take (k+1)).map (fun p=>kwLine 4 [bl p])=(e.pts.take k).map (fun p=>kwLine 4 [bl p])++[kwLine 4 [bl q]]:=by rw[List.take_add_one,HQ.out];simp
    show PgIn _ _ _ _ _ _ _
    rw[e1];exact hi3
   clear hi3 HC;go_wp2;go_roundw
   case rel=>exact⟨k+1,by omega,by go_num,HR.out⟩
   case measure=>simp[intOf];omega
  ·have k1:¬(k:Int) < (e.pts.length:Int):=by omega
   obtain rfl:k=e.pts.length:=by omega
   have HI8:Hid (PgIn B pb (.slice pa e.pts.length pc) W0 l (kwLine 3 [bl e.name,num e.tol] :: e.pts.map (fun p=>kwLine 4 [bl p])) wr):=by have:=HI.out;rw[List.take_length] at this;exact this
   clear HI;obtain⟨z,hz⟩:∃ z,z=e.cnt:=⟨_,rfl⟩;have HZc:Hid (z=e.cnt):=hz;have x3:wr.cell? ⟨W.heap.size,3,none⟩=some (.int .i64 z):=by rw[hz];exact HX0.out wr HI8.out.fr 3 _ rfl
   clear hz;have x4:wr.cell? ⟨W.heap.size,4,none⟩=some (.int .i64 e.mn):=HX0.out wr HI8.out.fr 4 _ rfl;have x5:wr.cell? ⟨W.heap.size,5,none⟩=some (.int .i64 e.mx):=HX0.out wr HI8.out.fr 5 _ rfl;go_upto_if 45 with fail
   go_cut [44,45,58] (fun _ _ _ wx=>∃ base:List Bs,entLines e=base++entTail6 e/\PgIn B pb (.slice pa e.pts.length pc) W0 l base wx)
   case first=>
    by_cases hc:z=-1
    ·have HE6:Hid (entLines e=(kwLine 3 [bl e.name,num e.tol] :: e.pts.map (fun p=>kwLine 4 [bl p]))++entTail6 e):=by show _=_;have hc:=hc;rw[HZc.out] at hc;simp[entLines,entTail6,hc]
     go_wp2_with fail
     go_meet
     case rel=>exact⟨_,HE6.out,HI8.out⟩
    ·have HE6:Hid (entLines e=((kwLine 3 [bl e.name,num e.tol] :: e.pts.map (fun p=>kwLine 4 [bl p]))++[kwLine 5 [pt e.pts e.cnt,num e.mn,num e.mx]])++entTail6 e):=by show _=_;have hc:=hc;rw[HZc.out] at hc;simp[entLines,entTail6,hc]
     have HC:Hid (Calls Tryz.prog 93 #[.pointer (some ⟨pb,0,none⟩),.slice (some ⟨wr.heap.size,0,none⟩) 4 4] (wr.alloc (.cells #[.iface 154 (.int .i64 5),.iface 223 (.int .i64 z),.iface 3 (.int .i64 e.mn),.iface 3 (.int .i64 e.mx)] 20)) fun v V'=>v=.returned (.tuple #[])/\PgIn B pb (.slice pa e.pts.length pc) W0 l ((kwLine 3 [bl e.name,num e.tol] :: e.pts.map (fun p=>kwLine 4 [bl p]))++[kwLine 5 [pt e.pts e.cnt,num e.mn,num e.mx]]) V'):=by
      rw[HZc.out];exact HLn.out W0 wr _ 5 [(.iface 223 (.int .i64 e.cnt),pt e.pts e.cnt),(.iface 3 (.int .i64 e.mn),num e.mn),(.iface 3 (.int .i64 e.mx),num e.mx)] HF0.out HI8.out (by decide) (fun x hx=>by
       have hm:=HOk.out.1.mm;have hq:0<=e.cnt/\e.cnt < (e.pts.length:Int):=by rcases HOk.out.1.cnt with h | h;exact absurd (HZc.out.trans h.1) hc;exact h
       simp only[List.mem_cons,List.not_mem_nil,or_false] at hx
       rcases hx with rfl | rfl | rfl
       ·exact⟨HWp.out _ hq.1 hq.2,pt_len HOk.out.1.pn _⟩
       ·exact⟨HWi.out _ (by omega) (by omega),num_len (by omega)⟩
       ·exact⟨HWi.out _ (by omega) (by omega),num_len (by omega)⟩) (by simp) (HPre.out _ _ (by rw[HE6.out,List.append_assoc]))
     go_wp2_with fail
     refine Calls.mono HC.out ?_;rintro v W3 ⟨rfl,hi3⟩;have HI9:Hid _:=hi3;clear hi3;go_wp2_with fail
     go_meet
     case rel=>exact⟨_,HE6.out,HI9.out⟩
   obtain⟨base,hbase,hbi⟩:=hcut;rename World=>W4
   have HEgaps:Hid (entLines e=base++entTail6 e):=hbase;have HI:Hid (PgIn B pb (.slice pa e.pts.length pc) W0 l base W4):=hbi;clear hbase hbi;have x9:W4.cell? ⟨W.heap.size,6,none⟩=some (.slice ga e.gaps.length gc):=HX0.out W4 HI.out.fr 6 _ rfl;go_wp2_with fail
   clear x9
   go_loopw [7,62] (fun _ i wr=>∃ k:Nat,k<=e.gaps.length/\i=.int .i64 k/\PgIn B pb (.slice pa e.pts.length pc) W0 l (base++(e.gaps.take k).map (fun x=>kwLine 6 [pt e.pts x.fr,pt e.pts x.to,num x.mn,num x.mx])) wr) (fun _ i _=>e.gaps.length - (intOf i).toNat)
   case atStart=>exact⟨0,Nat.zero_le _,rfl,by simpa using HI.out⟩
   case round=>
    clear HI;obtain⟨k,hk,rfl,hi⟩:=hrel;have HI:Hid (PgIn B pb (.slice pa e.pts.length pc) W0 l (base++(e.gaps.take k).map (fun x=>kwLine 6 [pt e.pts x.fr,pt e.pts x.to,num x.mn,num x.mx])) wr):=hi;clear hi
    by_cases hlt:k < e.gaps.length
    ·obtain⟨q,hq⟩:∃ q,e.gaps[k]?=some q:=⟨_,List.getElem?_eq_getElem hlt⟩;obtain⟨sa',cap',hsl,-,hcc⟩:=(HPt.out wr (HF0.out.trans HI.out.fr).bel).hg
     cases hsl
     obtain⟨b,o,rfl,hc0⟩:=hcc (fun h=>by rw[h] at hq;simp at hq);have c0:wr.cell? ⟨b,o+k*4,none⟩=some (.int .i64 q.fr):=hc0 k q hq 0 _ rfl;have c1:wr.cell? ⟨b,o+k*4+1,none⟩=some (.int .i64 q.to):=hc0 k q hq 1 _ rfl;have c2:wr.cell? ⟨b,o+k*4+2,none⟩=some (.int .i64 q.mn):=hc0 k q hq 2 _ rfl;have c3:wr.cell? ⟨b,o+k*4+3,none⟩=some (.int .i64 q.mx):=hc0 k q hq 3 _ rfl;have HQ:Hid (e.gaps[k]?=some q):=hq;have k1:(k:Int) < (e.gaps.length:Int):=by omega
     have k0:k < 100:=by have:=HOk.out.2.gaps;omega
     clear hq hcc hc0;go_upto_region 13 with fail
     obtain⟨V1,hV1⟩:∃ V,V=wr.alloc (.cells #[.int .i64 q.fr,.int .i64 q.to,.int .i64 q.mn,.int .i64 q.mx] 96):=⟨_,rfl⟩;rw[<- hV1];have HV:Hid (PgIn B pb (.slice pa e.pts.length pc) W0 l (base++(e.gaps.take k).map (fun x=>kwLine 6 [pt e.pts x.fr,pt e.pts x.to,num x.mn,num x.mx])) V1):=by
      have hb:Below wr.heap.size wr V1:=by rw[hV1];exact Below.oneC _ _
      exact⟨HI.out.page.below hb,HI.out.fr.trans (PFr.of_below HI.out.page hb)⟩
     have d0:V1.cell? ⟨wr.heap.size,0,none⟩=some (.int .i64 q.fr):=by rw[hV1,World.cell?_alloc_at _ _ _ _ rfl];rfl
     have d1:V1.cell? ⟨wr.heap.size,1,none⟩=some (.int .i64 q.to):=by rw[hV1,World.cell?_alloc_at _ _ _ _ rfl];rfl
     have d2:V1.cell? ⟨wr.heap.size,2,none⟩=some (.int .i64 q.mn):=by rw[hV1,World.cell?_alloc_at _ _ _ _ rfl];rfl
     have d3:V1.cell? ⟨wr.heap.size,3,none⟩=some (.int .i64 q.mx):=by rw[hV1,World.cell?_alloc_at _ _ _ _ rfl];rfl
     clear hV1 c0 c1 c2 c3;have HC:Hid (Calls Tryz.prog 93 #[.pointer (some ⟨pb,0,none⟩),.slice (some ⟨V1.heap.size,0,none⟩) 5 5] (V1.alloc (.cells #[.iface 154 (.int .i64 6),.iface 223 (.int .i64 q.fr),.iface 223 (.int .i64 q.to),.iface 3 (.int .i64 q.mn),.iface 3 (.int .i64 q.mx)] 20)) fun v V'=>v=.returned (.tuple #[])/\PgIn B pb (.slice pa e.pts.length pc) W0 l ((base++(e.gaps.take k).map (fun x=>kwLine 6 [pt e.pts x.fr,pt e.pts x.to,num x.mn,num x.mx]))++[kwLine 6 [pt e.pts q.fr,pt e.pts q.to,num q.mn,num q.mx]]) V'):=
      HLn.out W0 V1 _ 6 [(.iface 223 (.int .i64 q.fr),pt e.pts q.fr),(.iface 223 (.int .i64 q.to),pt e.pts q.to),(.iface 3 (.int .i64 q.mn),num q.mn),(.iface 3 (.int .i64 q.mx),num q.mx)] HF0.out HV.out (by decide) (fun x hx=>by
       have hb:=HOk.out.1.gaps q (List.mem_of_getElem? HQ.out);simp only[List.mem_cons,List.not_mem_nil,or_false] at hx
       rcases hx with rfl | rfl | rfl | rfl
       ·exact⟨HWp.out _ hb.1.1 hb.1.2,pt_len HOk.out.1.pn _⟩
       ·exact⟨HWp.out _ hb.2.1.1 hb.2.1.2,pt_len HOk.out.1.pn _⟩
       ·exact⟨HWi.out _ (by omega) (by omega),num_len (by omega)⟩
       ·exact⟨HWi.out _ (by omega) (by omega),num_len (by omega)⟩) (by simp) (HPre.out _ (((e.gaps.drop k).map (fun x=>kwLine 6 [pt e.pts x.fr,pt e.pts x.to,num x.mn,num x.mx]))++(e.edges.map (fun d=>kwLine 7 [pt e.pts d.1,pt e.pts d.2])++(e.first.map (fun x=>kwLine 8 [pt e.pts x])++e.last.map (fun x=>kwLine 9 [pt e.pts x])))) (by rw[HEgaps.out,List.append_assoc,map_cut];rfl))
     go_wp2_with fail
     refine Calls.mono HC.out ?_;rintro v W9 ⟨rfl,hi3⟩;have HR:Hid (PgIn B pb (.slice pa e.pts.length pc) W0 l (base++(e.gaps.take (k+1)).map (fun x=>kwLine 6 [pt e.pts x.fr,pt e.pts x.to,num x.mn,num x.mx])) W9):=by
      have e1:(e.gaps.take (k+1)).map (fun x=>kwLine 6 [pt e.pts x.fr,pt e.pts x.to,num x.mn,num x.mx])=(e.gaps.take k).map (fun x=>kwLine 6 [pt e.pts x.fr,pt e.pts x.to,num x.mn,num x.mx])++[kwLine 6 [pt e.pts q.fr,pt e.pts q.to,num q.mn,num q.mx]]:=by rw[List.take_add_one,HQ.out];simp
      show PgIn _ _ _ _ _ _ _
      rw[e1,<- List.append_assoc];exact hi3
     clear hi3 HC;go_wp2;go_roundw
     case rel=>exact⟨k+1,by omega,by go_num,HR.out⟩
     case measure=>simp[intOf];omega
    ·have k1:¬(k:Int) < (e.gaps.length:Int):=by omega
     obtain rfl:k=e.gaps.length:=by omega
     obtain⟨base1,hbase,hbi⟩:∃ zs,entLines e=zs++(e.edges.map (fun d=>kwLine 7 [pt e.pts d.1,pt e.pts d.2])++(e.first.map (fun x=>kwLine 8 [pt e.pts x])++e.last.map (fun x=>kwLine 9 [pt e.pts x])))/\PgIn B pb (.slice pa e.pts.length pc) W0 l zs wr:=⟨_,by rw[HEgaps.out,List.append_assoc];rfl,by have:=HI.out;rw[List.take_length] at this;exact this⟩;clear HI HEgaps;have HEedges:Hid (entLines e=base1++(e.edges.map (fun d=>kwLine 7 [pt e.pts d.1,pt e.pts d.2])++(e.first.map (fun x=>kwLine 8 [pt e.pts x])++e.last.map (fun x=>kwLine 9 [pt e.pts x])))):=hbase;have HI:Hid (PgIn B pb (.slice pa e.pts.length pc) W0 l base1 wr):=hbi;clear hbase hbi;have x9:wr.cell? ⟨W.heap.size,7,none⟩=some (.slice ea e.edges.length ec):=HX0.out wr HI.out.fr 7 _ rfl;go_wp2_with fail
     clear x9
     go_loopw [9,86] (fun _ i wr=>∃ k:Nat,k<=e.edges.length/\i=.int .i64 k/\PgIn B pb (.slice pa e.pts.length pc) W0 l (base1++(e.edges.take k).map (fun x=>kwLine 7 [pt e.pts x.1,pt e.pts x.2])) wr) (fun _ i _=>e.edges.length - (intOf i).toNat)
     case atStart=>exact⟨0,Nat.zero_le _,rfl,by simpa using HI.out⟩
     case round=>
      clear HI;obtain⟨k,hk,rfl,hi⟩:=hrel;have HI:Hid (PgIn B pb (.slice pa e.pts.length pc) W0 l (base1++(e.edges.take k).map (fun x=>kwLine 7 [pt e.pts x.1,pt e.pts x.2])) wr):=hi;clear hi
      by_cases hlt:k < e.edges.length
      ·obtain⟨q,hq⟩:∃ q,e.edges[k]?=some q:=⟨_,List.getElem?_eq_getElem hlt⟩;obtain⟨sa',cap',hsl,-,hcc⟩:=(HPt.out wr (HF0.out.trans HI.out.fr).bel).he
       cases hsl
       obtain⟨b,o,rfl,hc0⟩:=hcc (fun h=>by rw[h] at hq;simp at hq);have c0:wr.cell? ⟨b,o+k*2,none⟩=some (.int .i64 q.1):=hc0 k q hq 0 _ rfl;have c1:wr.cell? ⟨b,o+k*2+1,none⟩=some (.int .i64 q.2):=hc0 k q hq 1 _ rfl;have HQ:Hid (e.edges[k]?=some q):=hq;have k1:(k:Int) < (e.edges.length:Int):=by omega
       have k0:k < 100:=by have:=HOk.out.2.edges;omega
       clear hq hcc hc0;go_upto_region 18 with fail
       obtain⟨V1,hV1⟩:∃ V,V=wr.alloc (.cells #[.int .i64 q.1,.int .i64 q.2] 97):=⟨_,rfl⟩;rw[<- hV1];have HV:Hid (PgIn B pb (.slice pa e.pts.length pc) W0 l (base1++(e.edges.take k).map (fun x=>kwLine 7 [pt e.pts x.1,pt e.pts x.2])) V1):=by
        have hb:Below wr.heap.size wr V1:=by rw[hV1];exact Below.oneC _ _
        exact⟨HI.out.page.below hb,HI.out.fr.trans (PFr.of_below HI.out.page hb)⟩
       have d0:V1.cell? ⟨wr.heap.size,0,none⟩=some (.int .i64 q.1):=by rw[hV1,World.cell?_alloc_at _ _ _ _ rfl];rfl
       have d1:V1.cell? ⟨wr.heap.size,1,none⟩=some (.int .i64 q.2):=by rw[hV1,World.cell?_alloc_at _ _ _ _ rfl];rfl
       clear hV1 c0 c1;have HC:Hid (Calls Tryz.prog 93 #[.pointer (some ⟨pb,0,none⟩),.slice (some ⟨V1.heap.size,0,none⟩) 3 3] (V1.alloc (.cells #[.iface 154 (.int .i64 7),.iface 223 (.int .i64 q.1),.iface 223 (.int .i64 q.2)] 20)) fun v V'=>v=.returned (.tuple #[])/\PgIn B pb (.slice pa e.pts.length pc) W0 l ((base1++(e.edges.take k).map (fun x=>kwLine 7 [pt e.pts x.1,pt e.pts x.2]))++[kwLine 7 [pt e.pts q.1,pt e.pts q.2]]) V'):=
        HLn.out W0 V1 _ 7 [(.iface 223 (.int .i64 q.1),pt e.pts q.1),(.iface 223 (.int .i64 q.2),pt e.pts q.2)] HF0.out HV.out (by decide) (fun x hx=>by
         have hb:=HOk.out.1.edges q (List.mem_of_getElem? HQ.out);simp only[List.mem_cons,List.not_mem_nil,or_false] at hx
         rcases hx with rfl | rfl
         ·exact⟨HWp.out _ hb.1.1 hb.1.2,pt_len HOk.out.1.pn _⟩
         ·exact⟨HWp.out _ hb.2.1 hb.2.2,pt_len HOk.out.1.pn _⟩) (by simp) (HPre.out _ (((e.edges.drop k).map (fun x=>kwLine 7 [pt e.pts x.1,pt e.pts x.2]))++(e.first.map (fun x=>kwLine 8 [pt e.pts x])++e.last.map (fun x=>kwLine 9 [pt e.pts x]))) (by rw[HEedges.out,List.append_assoc,map_cut]))
       go_wp2_with fail
       refine Calls.mono HC.out ?_;rintro v W9 ⟨rfl,hi3⟩;have HR:Hid (PgIn B pb (.slice pa e.pts.length pc) W0 l (base1++(e.edges.take (k+1)).map (fun x=>kwLine 7 [pt e.pts x.1,pt e.pts x.2])) W9):=by
        have e1:(e.edges.take (k+1)).map (fun x=>kwLine 7 [pt e.pts x.1,pt e.pts x.2])=(e.edges.take k).map (fun x=>kwLine 7 [pt e.pts x.1,pt e.pts x.2])++[kwLine 7 [pt e.pts q.1,pt e.pts q.2]]:=by rw[List.take_add_one,HQ.out];simp
        show PgIn _ _ _ _ _ _ _
        rw[e1,<- List.append_assoc];exact hi3
       clear hi3 HC;go_wp2;go_roundw
       case rel=>exact⟨k+1,by omega,by go_num,HR.out⟩
       case measure=>simp[intOf];omega
      ·have k1:¬(k:Int) < (e.edges.length:Int):=by omega
       obtain rfl:k=e.edges.length:=by omega
       obtain⟨base11,hbase,hbi⟩:∃ zs,entLines e=zs++(e.first.map (fun x=>kwLine 8 [pt e.pts x])++e.last.map (fun x=>kwLine 9 [pt e.pts x]))/\PgIn B pb (.slice pa e.pts.length pc) W0 l zs wr:=⟨_,by rw[HEedges.out,List.append_assoc],by have:=HI.out;rw[List.take_length] at this;exact this⟩;clear HI HEedges;have HEfirst:Hid (entLines e=base11++(e.first.map (fun x=>kwLine 8 [pt e.pts x])++e.last.map (fun x=>kwLine 9 [pt e.pts x]))):=hbase;have HI:Hid (PgIn B pb (.slice pa e.pts.length pc) W0 l base11 wr):=hbi;clear hbase hbi;have x9:wr.cell? ⟨W.heap.size,8,none⟩=some (.slice fa e.first.length fc):=HX0.out wr HI.out.fr 8 _ rfl;go_wp2_with fail
       clear x9
       go_loopw [11,104] (fun _ i wr=>∃ k:Nat,k<=e.first.length/\i=.int .i64 k/\PgIn B pb (.slice pa e.pts.length pc) W0 l (base11++(e.first.take k).map (fun x=>kwLine 8 [pt e.pts x])) wr) (fun _ i _=>e.first.length - (intOf i).toNat)
       case atStart=>exact⟨0,Nat.zero_le _,rfl,by simpa using HI.out⟩
       case round=>
        clear HI;obtain⟨k,hk,rfl,hi⟩:=hrel;have HI:Hid (PgIn B pb (.slice pa e.pts.length pc) W0 l (base11++(e.first.take k).map (fun x=>kwLine 8 [pt e.pts x])) wr):=hi;clear hi
        by_cases hlt:k < e.first.length
        ·obtain⟨q,hq⟩:∃ q,e.first[k]?=some q:=⟨_,List.getElem?_eq_getElem hlt⟩;obtain⟨sa',cap',hsl,-,hcc⟩:=(HPt.out wr (HF0.out.trans HI.out.fr).bel).hf
         cases hsl
         obtain⟨b,o,rfl,hc0⟩:=hcc (fun h=>by rw[h] at hq;simp at hq);have c0:wr.cell? ⟨b,o+k,none⟩=some (.int .i64 q):=by have:=hc0 k q hq 0 _ rfl;simpa using this
         have HQ:Hid (e.first[k]?=some q):=hq;have k1:(k:Int) < (e.first.length:Int):=by omega
         have k0:k < 100:=by have:=HOk.out.2.first;omega
         clear hq hcc hc0;have HC:Hid (Calls Tryz.prog 93 #[.pointer (some ⟨pb,0,none⟩),.slice (some ⟨wr.heap.size,0,none⟩) 2 2] (wr.alloc (.cells #[.iface 154 (.int .i64 8),.iface 223 (.int .i64 q)] 20)) fun v V'=>v=.returned (.tuple #[])/\PgIn B pb (.slice pa e.pts.length pc) W0 l ((base11++(e.first.take k).map (fun x=>kwLine 8 [pt e.pts x]))++[kwLine 8 [pt e.pts q]]) V'):=
          HLn.out W0 wr _ 8 [(.iface 223 (.int .i64 q),pt e.pts q)] HF0.out HI.out (by decide) (fun x hx=>by
           have hb:=HOk.out.1.first q (List.mem_of_getElem? HQ.out);simp only[List.mem_cons,List.not_mem_nil,or_false] at hx
           rcases hx with rfl
           ·exact⟨HWp.out _ hb.1 hb.2,pt_len HOk.out.1.pn _⟩) (by simp) (HPre.out _ (((e.first.drop k).map (fun x=>kwLine 8 [pt e.pts x]))++e.last.map (fun x=>kwLine 9 [pt e.pts x])) (by rw[HEfirst.out,List.append_assoc,map_cut]))
         go_wp2_with fail
         refine Calls.mono HC.out ?_;rintro v W9 ⟨rfl,hi3⟩;have HR:Hid (PgIn B pb (.slice pa e.pts.length pc) W0 l (base11++(e.first.take (k+1)).map (fun x=>kwLine 8 [pt e.pts x])) W9):=by
          have e1:(e.first.take (k+1)).map (fun x=>kwLine 8 [pt e.pts x])=(e.first.take k).map (fun x=>kwLine 8 [pt e.pts x])++[kwLine 8 [pt e.pts q]]:=by rw[List.take_add_one,HQ.out];simp
          show PgIn _ _ _ _ _ _ _
          rw[e1,<- List.append_assoc];exact hi3
         clear hi3 HC;go_wp2;go_roundw
         case rel=>exact⟨k+1,by omega,by go_num,HR.out⟩
         case measure=>simp[intOf];omega
        ·have k1:¬(k:Int) < (e.first.length:Int):=by omega
         obtain rfl:k=e.first.length:=by omega
         obtain⟨base111,hbase,hbi⟩:∃ zs,entLines e=zs++e.last.map (fun x=>kwLine 9 [pt e.pts x])/\PgIn B pb (.slice pa e.pts.length pc) W0 l zs wr:=⟨_,by rw[HEfirst.out,List.append_assoc],by have:=HI.out;rw[List.take_length] at this;exact this⟩;clear HI HEfirst;have HElast:Hid (entLines e=base111++e.last.map (fun x=>kwLine 9 [pt e.pts x])):=hbase;have HI:Hid (PgIn B pb (.slice pa e.pts.length pc) W0 l base111 wr):=hbi;clear hbase hbi;have x9:wr.cell? ⟨W.heap.size,9,none⟩=some (.slice la e.last.length lc):=HX0.out wr HI.out.fr 9 _ rfl;go_wp2_with fail
         clear x9
         go_loopw [13,118] (fun _ i wr=>∃ k:Nat,k<=e.last.length/\i=.int .i64 k/\PgIn B pb (.slice pa e.pts.length pc) W0 l (base111++(e.last.take k).map (fun x=>kwLine 9 [pt e.pts x])) wr) (fun _ i _=>e.last.length - (intOf i).toNat)
         case atStart=>exact⟨0,Nat.zero_le _,rfl,by simpa using HI.out⟩
         case round=>
          clear HI;obtain⟨k,hk,rfl,hi⟩:=hrel;have HI:Hid (PgIn B pb (.slice pa e.pts.length pc) W0 l (base111++(e.last.take k).map (fun x=>kwLine 9 [pt e.pts x])) wr):=hi;clear hi
          by_cases hlt:k < e.last.length
          ·obtain⟨q,hq⟩:∃ q,e.last[k]?=some q:=⟨_,List.getElem?_eq_getElem hlt⟩;obtain⟨sa',cap',hsl,-,hcc⟩:=(HPt.out wr (HF0.out.trans HI.out.fr).bel).hl
           cases hsl
           obtain⟨b,o,rfl,hc0⟩:=hcc (fun h=>by rw[h] at hq;simp at hq);have c0:wr.cell? ⟨b,o+k,none⟩=some (.int .i64 q):=by have:=hc0 k q hq 0 _ rfl;simpa using this
           have HQ:Hid (e.last[k]?=some q):=hq;have k1:(k:Int) < (e.last.length:Int):=by omega
           have k0:k < 100:=by have:=HOk.out.2.last;omega
           clear hq hcc hc0;have HC:Hid (Calls Tryz.prog 93 #[.pointer (some ⟨pb,0,none⟩),.slice (some ⟨wr.heap.size,0,none⟩) 2 2] (wr.alloc (.cells #[.iface 154 (.int .i64 9),.iface 223 (.int .i64 q)] 20)) fun v V'=>v=.returned (.tuple #[])/\PgIn B pb (.slice pa e.pts.length pc) W0 l ((base111++(e.last.take k).map (fun x=>kwLine 9 [pt e.pts x]))++[kwLine 9 [pt e.pts q]]) V'):=
            HLn.out W0 wr _ 9 [(.iface 223 (.int .i64 q),pt e.pts q)] HF0.out HI.out (by decide) (fun x hx=>by
             have hb:=HOk.out.1.last q (List.mem_of_getElem? HQ.out);simp only[List.mem_cons,List.not_mem_nil,or_false] at hx
             rcases hx with rfl
             ·exact⟨HWp.out _ hb.1 hb.2,pt_len HOk.out.1.pn _⟩) (by simp) (HPre.out _ ((e.last.drop k).map (fun x=>kwLine 9 [pt e.pts x])) (by rw[HElast.out,List.append_assoc,<- List.map_append,List.take_append_drop]))
           go_wp2_with fail
           refine Calls.mono HC.out ?_;rintro v W9 ⟨rfl,hi3⟩;have HR:Hid (PgIn B pb (.slice pa e.pts.length pc) W0 l (base111++(e.last.take (k+1)).map (fun x=>kwLine 9 [pt e.pts x])) W9):=by
            have e1:(e.last.take (k+1)).map (fun x=>kwLine 9 [pt e.pts x])=(e.last.take k).map (fun x=>kwLine 9 [pt e.pts x])++[kwLine 9 [pt e.pts q]]:=by rw[List.take_add_one,HQ.out];simp
            show PgIn _ _ _ _ _ _ _
            rw[e1,<- List.append_assoc];exact hi3
           clear hi3 HC;go_wp2;go_roundw
           case rel=>exact⟨k+1,by omega,by go_num,HR.out⟩
           case measure=>simp[intOf];omega
          ·have k1:¬(k:Int) < (e.last.length:Int):=by omega
           obtain rfl:k=e.last.length:=by omega
           obtain⟨base1111,hbase,hbi⟩:∃ zs,entLines e=zs++[]/\PgIn B pb (.slice pa e.pts.length pc) W0 l zs wr:=⟨_,by rw[HElast.out,List.append_nil],by have:=HI.out;rw[List.take_length] at this;exact this⟩;clear HI HElast;have HB:Hid (entLines e=base1111):=by show _=_;rw[hbase,List.append_nil]
           have HI:Hid (PgIn B pb (.slice pa e.pts.length pc) W0 l base1111 wr):=hbi;clear hbase hbi;go_wp2;go_end0
           exact⟨rfl,⟨_,by rw[HB.out];exact HI.out.page⟩,HF0.out.trans HI.out.fr⟩
theorem text_right (A:Nat->Addr)(c:CfgD)(sa:Option Addr)(sc:Nat)(w:World)(hs:Sen6 A w)(hK:KwAt w)(hT:TabAt w)(hG:(max 12 13+1)<=w.heap.size)(hE:EntsAt w (.slice sa c.ents.length sc) c.ents)(hS:SmallC c)(h0:(cfgErr c).1=0) :
  Calls Tryz.prog 17 #[.agg #[.int .i64 c.closed,.int .i64 c.opn,.int .i64 c.cycle,.int .i64 c.delay,.slice sa c.ents.length sc]] w fun e w'=>e=.returned (.tuple #[.string ⟨(confText c).toArray⟩,.nilIface])/\Below w.heap.size w w':=
 text_ok A c sa sc w hs hK hT hG hE hS h0 (fun B pb w' hb hB e he=>entity_at B pb e w w' hb hB ((okC_of h0).ents e he) (cfg_size h0 e he)
  (hK.below hb (Nat.lt_of_lt_of_le (show 12 < (max 12 13+1) by decide) hG)) (hT.below hb hG) (Nat.le_trans hG hB)) (ents_len h0)
theorem dig_bnd {b:UInt8}(h:isDig b=true):48<=b.toNat/\b.toNat<=57:=by
 unfold isDig at h;simp only[Bool.and_eq_true,decide_eq_true_eq] at h;exact h
theorem valD_step {w:Bs}{k:Nat}(h:k < w.length):valD (w.take (k+1))=valD (w.take k)*10+((w.getD k 0).toNat - 48):=by
 rw[List.take_add_one,List.getElem?_eq_getElem h];simp only[Option.toList_some];rw[valD_snoc,List.getD_eq_getElem?_getD,List.getElem?_eq_getElem h];rfl
theorem valD_take {w:Bs}:∀ k,k<=w.length->(∀ j,j < k->isDig (w.getD j 0)=true)->valD (w.take k) < 10 ^ k
 | 0,_,_=>by simp[valD]
 | k+1,h,hd=>by
  rw[valD_step (by omega)];have h1:=dig_bnd (hd k (by omega));have h2:=valD_take k (by omega) (fun j hj=>hd j (by omega));rw[Nat.pow_succ];omega
theorem numOf_long {w:Bs}(h:13 < w.length):numOf w=none:=by unfold numOf;rw[if_pos (Or.inr (Or.inl h))]
theorem numOf_zero {w:Bs}(h:1 < w.length)(h0:w.getD 0 0=48):numOf w=none:=by
 have:w.head?=some 48:=by cases w with
  | nil=>simp at h
  | cons a t=>simp at h0;simp[h0]
 unfold numOf;rw[if_pos (Or.inr (Or.inr (Or.inl ⟨h,this⟩)))]
theorem numOf_bad {w:Bs}{k:Nat}(hk:k < w.length)(h:isDig (w.getD k 0)=false):numOf w=none:=by
 have:w.all isDig=false:=by
  rw[List.all_eq_false]
  refine⟨w[k],List.getElem_mem hk,?_⟩;rw[List.getD_eq_getElem?_getD,List.getElem?_eq_getElem hk] at h;simpa using h
 unfold numOf;rw[if_pos (Or.inr (Or.inr (Or.inr this)))]
theorem numOf_yes {w:Bs}(h1:0 < w.length)(h2:w.length<=13)(h3:¬(1 < w.length/\w.getD 0 0=48))(h:∀ j,j < w.length->isDig (w.getD j 0)=true):numOf w=some (valD w):=by
 have ha:w.all isDig=true:=by
  rw[List.all_eq_true];intro b hb;obtain⟨j,hj,rfl⟩:=List.getElem_of_mem hb;have:=h j hj;rw[List.getD_eq_getElem?_getD,List.getElem?_eq_getElem hj] at this;exact this
 unfold numOf;rw[if_neg];rintro(h' | h' | ⟨h',h''⟩ | h')
 ·omega
 ·omega
 ·exact h3 ⟨h',by cases w with
   | nil=>simp at h'
   | cons a t=>simp at h'';simp[h'']⟩
 ·rw[ha] at h';cases h'
theorem blen (s:ByteArray):(bl s).length=s.size:=by unfold bl;rw[Array.length_toList];rfl
set_option maxHeartbeats 2000000 in
set_option maxRecDepth 100000 in
theorem number_at (s:ByteArray)(w:World)(h1:1<=s.size)(hs:s.size<=1000000) :
  Calls Tryz.prog 320 #[.string s] w fun e w'=>e=.returned (.tuple #[.int .i64 (((numOf (bl s)).getD 0:Nat):Int),.bool (numOf (bl s)).isSome])/\Below w.heap.size w w':=by
 by_cases h13:13 < s.size
 ·have HN:Hid (numOf (bl s)=none):=numOf_long (by rw[blen];exact h13);have g1:13 < (s.size:Int):=by omega
  go_enter Tryz.func320,Tryz.ntmps320
  go_wp2;go_ret2
  rw[HN.out];exact⟨rfl,Below.refl _ _⟩
 have g1:¬13 < (s.size:Int):=by omega
 have k0:(0:Int) < (s.size:Int):=by omega
 have hb0:∀ h:0 < s.size,s[0]'h=(bl s)[0]?.getD 0:=fun h=>by rw[byte_at s 0 h,List.getD_eq_getElem?_getD];rfl
 have hgd:(bl s).getD 0 0=(bl s)[0]?.getD 0:=List.getD_eq_getElem?_getD
 by_cases hz:1 < s.size/\(bl s)[0]?.getD 0=48
 ·have HN:Hid (numOf (bl s)=none):=numOf_zero (by rw[blen];exact hz.1) (by rw[hgd];exact hz.2);have g2:1 < (s.size:Int):=by omega
  have g3:(((bl s)[0]?.getD 0).toNat:Int)=48:=by rw[hz.2];rfl
  clear hz hgd;go_enter Tryz.func320,Tryz.ntmps320
  go_wp2;go_ret2
  rw[HN.out];exact⟨rfl,Below.refl _ _⟩
 have HZ:Hid (1<=s.size/\s.size<=13):=⟨h1,by omega⟩;have HE:Hid (∀ k,k < s.size->isDig ((bl s).getD k 0)=false->numOf (bl s)=none):=fun k h2 h3=>numOf_bad (by rw[blen];exact h2) h3
 have HY:Hid ((∀ j,j < s.size->isDig ((bl s).getD j 0)=true)->numOf (bl s)=some (valD (bl s))):=fun h=>numOf_yes (by rw[blen];exact h1) (by rw[blen];omega) (by rw[blen,hgd];exact hz) (by rw[blen];exact h)
 have HV:Hid (∀ k,k < s.size->(∀ j,j < k->isDig ((bl s).getD j 0)=true)->valD ((bl s).take k) < 1000000000000/\valD ((bl s).take (k+1))=valD ((bl s).take k)*10+(((bl s).getD k 0).toNat - 48)):=fun k hk hd=>⟨Nat.lt_of_lt_of_le (valD_take k (by rw[blen];omega) hd) (Nat.pow_le_pow_right (by decide) (show k<=12 by omega)),valD_step (by rw[blen];exact hk)⟩
 have hq:((((bl s)[0]?.getD 0).toNat:Int)=48/\¬1 < (s.size:Int))\/¬(((bl s)[0]?.getD 0).toNat:Int)=48:=by
  by_cases q:(((bl s)[0]?.getD 0).toNat:Int)=48
  ·refine Or.inl ⟨q,fun h=>hz ⟨by omega,?_⟩⟩;apply UInt8.toNat_inj.1
   show _=48
   omega
  ·exact Or.inr q
 obtain⟨cap,W,hcv,hbW,hcell⟩:=bytes_madeC w s;have HCl:Hid (∀ j,j < s.size->W.cell? ⟨w.heap.size,j,.none⟩=some (.int .u8 (((bl s).getD j 0).toNat:Int))):=hcell;have HbW:Hid (Below w.heap.size w W):=hbW;clear hcell hbW hz hgd h1 hs h13
 rcases hq with ⟨q1,q2⟩ | q1
 all_goals
  go_enter Tryz.func320,Tryz.ntmps320
  go_wp2_with fail
  go_loopw [4,6,23] (fun m _ i wr=>∃ k:Nat,k<=s.size/\i=.int .i64 k/\m=.int .i64 (valD ((bl s).take k):Nat)/\wr=W/\∀ j,j < k->isDig ((bl s).getD j 0)=true) (fun _ _ i _=>s.size - (intOf i).toNat)
  case atStart=>exact⟨0,Nat.zero_le _,rfl,rfl,rfl,fun j hj=>absurd hj (Nat.not_lt_zero _)⟩
  case round=>
   obtain⟨k,hk,rfl,rfl,rfl,hall⟩:=hrel
   by_cases hlt:k < s.size
   ·have hc:=HCl.out k hlt;obtain⟨hv1,hv2⟩:=HV.out k hlt hall;have HB:Hid (∀ j,j < k->isDig ((bl s).getD j 0)=true):=hall;have HV2:Hid (valD ((bl s).take (k+1))=valD ((bl s).take k)*10+(((bl s).getD k 0).toNat - 48)):=hv2;have HY2:Hid (isDig ((bl s).getD k 0)=false->numOf (bl s)=none):=HE.out k hlt;have k1:(k:Int) < (s.size:Int):=by omega
    have k12:k < 13:=by have:=HZ.out.2;omega
    clear hall hcv hv2;generalize hcc:(bl s).getD k 0=c at hc HV2 HY2;have HC:Hid ((bl s).getD k 0=c):=hcc;clear hcc;generalize valD ((bl s).take k)=m at hv1 HV2 ⊢
    by_cases hd:isDig c=true
    ·have hdc:=isDigit_at c;rw[hd] at hdc;have hb:=dig_bnd hd;go_wp2_with fail
     refine(hdc _).mono ?_;rintro e w' ⟨rfl,rfl⟩;go_wp2;go_roundw
     case rel=>
      refine⟨k+1,by omega,by go_num,by rw[HV2.out];go_num,by first | trivial | rfl,fun j hj=>?_⟩
      by_cases e:j=k
      ·rw[e,HC.out];exact hd
      ·exact HB.out j (by omega)
     case measure=>simp[intOf];omega
    ·simp only[Bool.not_eq_true] at hd;have hdc:=isDigit_at c;rw[hd] at hdc;go_wp2_with fail
     refine(hdc _).mono ?_;rintro e w' ⟨rfl,rfl⟩;go_wp2;go_ret2
     rw[HY2.out hd];exact⟨rfl,HbW.out⟩
   ·have k1:¬(k:Int) < (s.size:Int):=by omega
    obtain rfl:k=s.size:=by omega
    have HR:Hid (numOf (bl s)=some (valD ((bl s).take s.size))):=by
     show _=_
     rw[HY.out hall,<- blen,List.take_length]
    clear hall;go_wp2;go_ret2
    rw[HR.out];exact⟨rfl,HbW.out⟩
end Go.Proofs.YtffpcbdlbcjihadGreatDoor
namespace Go.Proofs.YtffpcbdlbcjihadGreatDoor
open Go.RowKit Go.Extern.Stop Go.Stop Go.Extern Go.Maps
def lookL:Look
 | [],_=>none
 | p :: t,w=>match lookL t w with
  | some i=>some (i+1)
  | none=>if bl p=w then some 0 else none
theorem lookL_snoc:∀ (t:List ByteArray) (p:ByteArray) (w:Bs),lookL (t++[p]) w=if bl p=w then some t.length else lookL t w
 | [],p,w=>by simp only[List.nil_append,lookL,List.length_nil]
 | q :: t,p,w=>by
  rw[List.cons_append,lookL,lookL_snoc t p w]
  by_cases h:bl p=w
  ·rw[if_pos h,if_pos h];rfl
  ·rw[if_neg h,if_neg h];rfl
theorem lookL_hit:∀ (pts:List ByteArray) (w:Bs) (i:Nat),lookL pts w=some i->∃ p,pts[i]?=some p/\bl p=w
 | [],w,i,h=>by simp[lookL] at h
 | p :: t,w,i,h=>by
  rw[lookL] at h
  cases hl:lookL t w with
  | some j=>
   rw[hl] at h
   cases h
   obtain⟨q,h1,h2⟩:=lookL_hit t w j hl;exact⟨q,by simpa using h1,h2⟩
  | none=>
   rw[hl] at h;simp only at h
   split at h
   ·rename_i hp
    cases h
    exact⟨p,rfl,hp⟩
   ·cases h
theorem lookL_miss:∀ (pts:List ByteArray) (w:Bs),lookL pts w=none->∀ p∈pts,bl p≠w
 | [],w,_,p,hp=>by cases hp
 | q :: t,w,h,p,hp=>by
  rw[lookL] at h
  cases hl:lookL t w with
  | some j=>rw[hl] at h;cases h
  | none=>
   rw[hl] at h;simp only at h
   split at h
   ·cases h
   ·rename_i hq
    rcases List.mem_cons.1 hp with rfl | hp
    ·exact hq
    ·exact lookL_miss t w hl p hp
theorem good_lookL:GoodLook lookL:=⟨lookL_hit,lookL_miss⟩
def PtsMap (D:DataW Unit)(pts:List ByteArray):Prop:=
 ∀ s:ByteArray,Maps.has D (keyL s)=(lookL pts (bl s)).isSome/\D.atKey (keyL s) (.lit (.int .i64 0))=.lit (.int .i64 (((lookL pts (bl s)).getD 0:Nat):Int))
theorem ptsMap_nil:PtsMap (.map []) []:=fun _=>⟨rfl,rfl⟩
theorem ptsMap_put {D:DataW Unit}{pts:List ByteArray}(h:PtsMap D pts)(hD:IsMap D)(p:ByteArray):PtsMap (D.put (keyL p) (.lit (.int .i64 (pts.length:Int)))) (pts++[p]):=by
 intro s;rw[lookL_snoc]
 by_cases e:bl p=bl s
 ·have e':=bl_inj e;subst e';rw[if_pos rfl];exact⟨Maps.has_put_same hD (by trivial) _,Maps.atKey_put_same hD (by trivial) _ _⟩
 ·rw[if_neg e];have hne:keyL s≠keyL p:=fun h=>e (by unfold keyL at h;exact(Lit.string.inj h).symm)
  rw[Maps.has_put_other hne,Maps.atKey_put_other hne];exact h s
end Go.Proofs.YtffpcbdlbcjihadGreatDoor
