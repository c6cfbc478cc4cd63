/-
  Several texts as one: CfLine, CfConf, CfFirstS, CfAny.
-/
import Derived.Test.YtffpcbdlbcjihadGreatDoorP18S
namespace Go.Proofs.YtffpcbdlbcjihadGreatDoor
open Go.RowKit Go.Extern.Stop Go.Stop Go.Extern
def preW (bs:List Bs):Nat->Bs
 | 0=>[]
 | k+1=>preW bs k++((if k=0 then [] else [32])++bs.getD k [])
theorem preW_join (h:Bs)(t:List Bs):∀ k,k<=t.length->preW (h :: t) (k+1)=joinBy 32 h (t.take k)
 | 0,_=>by simp[preW,joinBy]
 | k+1,hk=>by
  rw[preW,preW_join h t k (by omega),if_neg (by omega)];have hlt:k < t.length:=by omega
  have ht:t.take (k+1)=t.take k++[t[k]]:=by rw[List.take_add_one,List.getElem?_eq_getElem hlt];rfl
  have hg:(h :: t).getD (k+1) []=t[k]:=by simp[List.getD_eq_getElem?_getD,List.getElem?_eq_getElem hlt]
  rw[ht,hg];unfold joinBy;rw[List.flatMap_append,List.append_assoc];simp
theorem preW_all (h:Bs)(t:List Bs):preW (h :: t) (h :: t).length=joinBy 32 h t:=by
 have:=preW_join h t t.length (Nat.le_refl _);simpa using this
theorem preW_le (bs:List Bs):∀ (k j:Nat),k<=j->(preW bs k).length<=(preW bs j).length:=by
 intro k j hkj
 induction j with
 | zero=>
  have:k=0:=by omega
  rw[this];exact Nat.le_refl _
 | succ j ih=>
  by_cases h:k=j+1
  ·subst h;exact Nat.le_refl _
  ·have:=ih (by omega);rw[preW,List.length_append];omega
def WordOk (B pb:Nat)(pv:Value)(w:World)(x:Value × Bs):Prop:=
 ∀ W l,PFr B pb w W->PageAt B pb pv l W->l.length<=800000000->Calls Tryz.prog 153 #[.pointer (some ⟨pb,0,none⟩),x.1] W fun e W'=>e=.returned (.tuple #[])/\PageAt B pb pv (l++x.2) W'/\PFr B pb W W'
set_option maxHeartbeats 2000000 in
set_option maxRecDepth 100000 in
theorem line_at (B pb:Nat)(pv:Value)(l:List UInt8)(vb:Nat)(ws:List (Value × Bs))(w:World)(h:PageAt B pb pv l w)(hv:w.heap[vb]?=some (.cells (ws.map (·.1)).toArray 20 (0,0)))(hne:vb≠pb)(hw:∀ x∈ws,WordOk B pb pv w x)(hn:ws.length<=100)(hl:l.length+(preW (ws.map (·.2)) ws.length).length<=700000000) :
  Calls Tryz.prog 93 #[.pointer (some ⟨pb,0,none⟩),.slice (some ⟨vb,0,none⟩) ws.length ws.length] w fun e w'=>e=.returned (.tuple #[])/\PageAt B pb pv (l++(preW (ws.map (·.2)) ws.length++[10])) w'/\PFr B pb w w':=by
 have H:Hid (PageAt B pb pv l w):=h;have HV:Hid (∀ W,PFr B pb w W->∀ (i:Nat) x,ws[i]?=some x->W.cell? ⟨vb,i,none⟩=some x.1):=fun W hW i x hx=>by
  have hb:=hW.box hv hne (by decide);simp[World.cell?,hb,hx]
 have HW:Hid (∀ x∈ws,WordOk B pb pv w x):=hw;have HN:Hid (ws.length<=100):=hn;have HL:Hid (l.length+(preW (ws.map (·.2)) ws.length).length<=700000000):=hl;have HP:Hid (∀ W,PageAt B pb pv l W->True):=fun _ _=>trivial
 clear h hv hw hn hl hne HP;go_enter Tryz.func93,Tryz.ntmps93
 go_wp2_with fail
 go_loopw [4,5,8] (fun _ _ i wr=>∃ k:Nat,k<=ws.length/\i=.int .i64 k/\PageAt B pb pv (l++preW (ws.map (·.2)) k) wr/\PFr B pb w wr) (fun _ _ i _=>ws.length - (intOf i).toNat)
 case atStart=>exact⟨0,Nat.zero_le _,rfl,by simpa[preW] using H.out,PFr.refl _ _ _⟩
 case round=>
  obtain⟨k,hk,rfl,hpg,hfr⟩:=hrel;have HPG:Hid (PageAt B pb pv (l++preW (ws.map (·.2)) k) wr):=hpg;have HFR:Hid (PFr B pb w wr):=hfr;have hle:(l++preW (ws.map (·.2)) k).length<=700000000:=by
   have h1:=HL.out;have h2:=preW_le (ws.map (·.2)) k ws.length hk;rw[List.length_append];omega
  have HLE:Hid ((l++preW (ws.map (·.2)) k).length<=700000000):=hle;clear hpg hfr hle
  by_cases hlt:k < ws.length
  ·obtain⟨x,hx⟩:∃ x,ws[k]?=some x:=⟨_,List.getElem?_eq_getElem hlt⟩;have c0:=HV.out wr HFR.out k x hx;have HX:Hid (preW (ws.map (·.2)) (k+1)=preW (ws.map (·.2)) k++((if k=0 then [] else [32])++x.2)):=by
    show _=_
    rw[preW,List.getD_eq_getElem?_getD,List.getElem?_map,hx];rfl
   have HO:=HW.out x (List.mem_of_getElem? hx);have HOk:Hid (WordOk B pb pv w x):=HO;have k0:k < 100:=by have:=HN.out;omega
   have k1:(k:Int) < (ws.length:Int):=by omega
   clear hx HO
   by_cases hk0:k=0
   ·subst hk0;have hwc:Hid _:=HOk.out wr _ HFR.out HPG.out (by have:=HLE.out;omega);go_wp2_with fail
    refine Calls.mono hwc.out ?_;rintro e W' ⟨rfl,h1,h2⟩;have H1:Hid (PageAt B pb pv (l++preW (ws.map (·.2)) (0+1)) W'/\PFr B pb w W'):=⟨by rw[HX.out];simpa[preW] using h1,HFR.out.trans h2⟩;clear h1 h2 hwc;go_wp2;go_roundw
    case rel=>exact⟨1,by omega,by go_num,H1.out.1,H1.out.2⟩
    case measure=>simp[intOf];omega
   ·have kp:(0:Int) < (k:Int):=by omega
    have hbc:Hid _:=bld_byte B pb pv _ 32 wr HPG.out (by have:=HLE.out;omega);have HC:Hid (∀ W,PageAt B pb pv (l++preW (ws.map (·.2)) k++[32]) W->PFr B pb wr W->_):=fun W h1 h2=>HOk.out W (l++preW (ws.map (·.2)) k++[32]) (HFR.out.trans h2) h1 (by have:=HLE.out;rw[List.length_append];simp only[List.length_cons,List.length_nil];omega)
    have HK0:Hid (¬k=0):=hk0;have e32:Hid (((32:UInt8).toNat:Int)=32):=rfl;clear hk0;go_wp2_with fail
    refine Calls.mono hbc.out ?_;rintro e W1 ⟨rfl,h1,h2⟩;have H1:Hid (PageAt B pb pv (l++preW (ws.map (·.2)) k++[32]) W1/\PFr B pb wr W1):=⟨h1,h2⟩;clear h1 h2 hbc;go_wp2_with fail
    refine Calls.mono (HC.out _ H1.out.1 H1.out.2) ?_;rintro e W2 ⟨rfl,h1,h2⟩;have H2:Hid (PageAt B pb pv (l++preW (ws.map (·.2)) (k+1)) W2/\PFr B pb w W2):=⟨by rw[HX.out,if_neg HK0.out];simpa using h1,(HFR.out.trans H1.out.2).trans h2⟩;clear h1 h2 HC H1;go_wp2;go_roundw
    case rel=>exact⟨k+1,by omega,by go_num,H2.out.1,H2.out.2⟩
    case measure=>simp[intOf];omega
  ·have k1:¬(k:Int) < (ws.length:Int):=by omega
   obtain rfl:k=ws.length:=by omega
   have hbc:Hid _:=bld_byte B pb pv _ 10 wr HPG.out (by have:=HLE.out;omega);go_wp2_with fail
   refine Calls.mono hbc.out ?_;rintro e W1 ⟨rfl,h1,h2⟩;have H1:Hid (PageAt B pb pv (l++(preW (ws.map (·.2)) ws.length++[10])) W1/\PFr B pb w W1):=⟨by rw[<- List.append_assoc];exact h1,HFR.out.trans h2⟩;clear h1 h2 hbc;go_wp2;go_end0
   exact⟨rfl,H1.out.1,H1.out.2⟩
theorem wordOk_kind {B pb:Nat}{pv:Value}{w:World}(k:Nat)(hk:k < 10)(hK:KwAt w)(hG:(max 12 13+1)<=B):WordOk B pb pv w (.iface 154 (.int .i64 (k:Int)),kw k):=
 fun W l hfr hp hle=>word_kind B pb pv l k W hp (by omega) hk (hK.below hfr.bel (Nat.lt_of_lt_of_le (show 12 < (max 12 13+1) by decide) hG)) hG
theorem wordOk_int {B pb:Nat}{pv:Value}{w:World}(n:Int)(h0:0<=n)(h1:n<=1099511627776)(hT:TabAt w)(hG:(max 12 13+1)<=B):WordOk B pb pv w (.iface 3 (.int .i64 n),num n):=
 fun W l hfr hp hle=>word_int B pb pv l n W hp (by omega) h0 h1 (hT.below hfr.bel hG) hG
theorem wordOk_str {B pb:Nat}{pv:Value}{w:World}(s:ByteArray)(hs:s.size<=1000000):WordOk B pb pv w (.iface 9 (.string s),bl s):=
 fun W l _ hp hle=>word_str B pb pv l s W hp (by omega)
theorem wordOk_place {B pb:Nat}{pa:Option Addr}{pc:Nat}{pts:List ByteArray}{w:World}(x:Int)(hB:∀ W,Below B w W->SlAt encS 1 W (.slice pa pts.length pc) pts)(h0:0<=x)(h1:x < (pts.length:Int))(hs:∀ p∈pts,p.size<=1000000):WordOk B pb (.slice pa pts.length pc) w (.iface 223 (.int .i64 x),pt pts x):=
 fun W l hfr hp hle=>word_place B pb pa pc pts l x W hp (by omega) (fun V hV=>hB V (hfr.bel.trans hV)) h0 h1 hs
theorem line_kw (B pb:Nat)(pv:Value)(l:List UInt8)(vb k:Nat)(ws:List (Value × Bs))(w:World)(h:PageAt B pb pv l w)(hv:w.heap[vb]?=some (.cells (.iface 154 (.int .i64 (k:Int)) :: ws.map (·.1)).toArray 20 (0,0)))(hne:vb≠pb)(hk:k < 10)(hK:KwAt w)(hG:(max 12 13+1)<=B)(hw:∀ x∈ws,WordOk B pb pv w x)(hn:ws.length<=20)(hl:l.length+(kwLine k (ws.map (·.2))).length<=700000000) :
  Calls Tryz.prog 93 #[.pointer (some ⟨pb,0,none⟩),.slice (some ⟨vb,0,none⟩) (ws.length+1) (ws.length+1)] w fun e w'=>e=.returned (.tuple #[])/\PageAt B pb pv (l++(kwLine k (ws.map (·.2))++[10])) w'/\PFr B pb w w':=by
 have e:preW (((.iface 154 (.int .i64 (k:Int)),kw k) :: ws).map (·.2)) ((.iface 154 (.int .i64 (k:Int)),kw k) :: ws).length=kwLine k (ws.map (·.2)):=by
  have:=preW_all (kw k) (ws.map (·.2));rw[kwLine_join,<- this];simp
 have:=line_at B pb pv l vb ((.iface 154 (.int .i64 (k:Int)),kw k) :: ws) w h hv hne (fun x hx=>by
  rcases List.mem_cons.1 hx with rfl | hx
  ·exact wordOk_kind k hk hK hG
  ·exact hw x hx) (by simp;omega) (by rw[e];exact hl)
 rw[e] at this;exact this
theorem num_le (n:Int)(h1:n<=1099511627776):(num n).length<=13:=by
 obtain⟨-,-,-,-,hh⟩:=decN_all n.toNat;exact hh 12 (by omega)
theorem heap_newC (V:World)(c:Array Value)(t:TypeId):(V.alloc (.cells c t)).heap[V.heap.size]?=some (.cells c t (0,0)):=by
 show (V.heap.push _)[V.heap.size]?=_
 simp
theorem Below.oneC (w:World)(o:Obj):Below w.heap.size w (w.alloc o):=(Below.refl _ _).alloc (Nat.le_refl _) _
def EntOk (B:Nat)(pb:Nat)(w0 w:World)(e:EntD):Prop:=∀ (W:World) (l:List UInt8) (pv:Value) (pa ga ea fa la:Option Addr) (pc gc ec fc lc:Nat),PFr B pb w W->PageAt B pb pv l W->l.length<=500000000 ->
 EntParts w0 e (.slice pa e.pts.length pc) (.slice ga e.gaps.length gc) (.slice ea e.edges.length ec) (.slice fa e.first.length fc) (.slice la e.last.length lc) ->
 Calls Tryz.prog 94 #[.pointer (some ⟨pb,0,none⟩),.agg (entRow e (.slice pa e.pts.length pc) (.slice ga e.gaps.length gc) (.slice ea e.edges.length ec) (.slice fa e.first.length fc) (.slice la e.last.length lc))] W fun v W'=>v=.returned (.tuple #[])/\(∃ pv',PageAt B pb pv' (l++(entLines e).flatMap (fun x=>x++[10])) W')/\PFr B pb W W'
set_option maxHeartbeats 4000000 in
set_option maxRecDepth 100000 in
theorem config_at (B pb:Nat)(pv:Value)(c:CfgD)(sa:Option Addr)(sc:Nat)(w0 w:World)(hb0:Below w0.heap.size w0 w)(hw0:w0.heap.size<=B)(h:PageAt B pb pv [] w)(hK:KwAt w)(hT:TabAt w)(hG:(max 12 13+1)<=B)(h1:0<=c.closed/\c.closed<=1099511627776)(h2:0<=c.opn/\c.opn<=1099511627776)(h3:0<=c.cycle/\c.cycle<=1099511627776)(h4:0<=c.delay/\c.delay<=1099511627776)
  (hE:EntsAt w0 (.slice sa c.ents.length sc) c.ents) (hO:∀ e∈c.ents,EntOk B pb w0 w e) (hn:c.ents.length<=1000000) (hl:((c.ents.flatMap entLines).flatMap (fun x=>x++[10])).length<=400000000) :
  Calls Tryz.prog 33 #[.pointer (some ⟨pb,0,none⟩),.agg #[.int .i64 c.closed,.int .i64 c.opn,.int .i64 c.cycle,.int .i64 c.delay,.slice sa c.ents.length sc]] w fun e w'=>e=.returned (.tuple #[])/\(∃ pv',PageAt B pb pv' (confText c) w')/\PFr B pb w w':=by
 have hpb:=h.lt;have HK:Hid (KwAt w):=hK;have HT:Hid (TabAt w):=hT;have HG:Hid ((max 12 13+1)<=B):=hG;have HBw:Hid (B<=w.heap.size):=h.2.1;have Hpb:Hid (pb < w.heap.size):=hpb;have HN:Hid ((0<=c.closed/\c.closed<=1099511627776)/\(0<=c.opn/\c.opn<=1099511627776)/\(0<=c.cycle/\c.cycle<=1099511627776)/\(0<=c.delay/\c.delay<=1099511627776)):=⟨h1,h2,h3,h4⟩;have HE:Hid (EntsAt w0 (.slice sa c.ents.length sc) c.ents):=hE;have HO:Hid (∀ e∈c.ents,EntOk B pb w0 w e):=hO;have HB0:Hid (∀ W,PFr B pb w W->Below w0.heap.size w0 W):=fun W hW=>hb0.trans (hW.bel.mono hw0)
 have HM:Hid (c.ents.length<=1000000):=hn;have HL:Hid (((c.ents.flatMap entLines).flatMap (fun x=>x++[10])).length<=400000000):=hl;have H0:Hid (PageAt B pb pv [] (w.alloc (.cells #[.int .i64 c.closed,.int .i64 c.opn,.int .i64 c.cycle,.int .i64 c.delay,.slice sa c.ents.length sc] 30))):=h.below (Below.oneC _ _);have HF0:Hid (PFr B pb w (w.alloc (.cells #[.int .i64 c.closed,.int .i64 c.opn,.int .i64 c.cycle,.int .i64 c.delay,.slice sa c.ents.length sc] 30))):=(PFr.refl B pb w).alloc h.2.1 _;have HX0:Hid (∀ W,PFr B pb (w.alloc (.cells #[.int .i64 c.closed,.int .i64 c.opn,.int .i64 c.cycle,.int .i64 c.delay,.slice sa c.ents.length sc] 30)) W->∀ j v,(#[.int .i64 c.closed,.int .i64 c.opn,.int .i64 c.cycle,.int .i64 c.delay,.slice sa c.ents.length sc]:Array Value)[j]?=some v->W.cell? ⟨w.heap.size,j,none⟩=some v):=fun W hW j v e=>by
  have hb:=hW.box (heap_newC w _ _) (by omega) (by decide);simp[World.cell?,hb,e]
 clear h hpb hK hT hG h1 h2 h3 h4 hE hO hn hl hb0 hw0;go_enter Tryz.func33,Tryz.ntmps33
 go_upto_region 1 with fail
 obtain⟨W0,hW0⟩:∃ W0,W0=w.alloc (.cells #[.int .i64 c.closed,.int .i64 c.opn,.int .i64 c.cycle,.int .i64 c.delay,.slice sa c.ents.length sc] 30):=⟨_,rfl⟩;rw[<- hW0] at H0 HF0 HX0 ⊢;clear hW0;have HP0:Hid (PageAt B pb pv [] W0):=H0.out;have HG0:Hid (PFr B pb W0 W0):=PFr.refl _ _ _;have p0:W0.cell? ⟨w.heap.size,0,none⟩=some (.int .i64 c.closed):=HX0.out W0 HG0.out 0 _ rfl;have p1:W0.cell? ⟨w.heap.size,1,none⟩=some (.int .i64 c.opn):=HX0.out W0 HG0.out 1 _ rfl;have HC0:Hid (Calls Tryz.prog 93 #[.pointer (some ⟨pb,0,none⟩),.slice (some ⟨W0.heap.size,0,none⟩) 3 3] (W0.alloc (.cells #[.iface 154 (.int .i64 0),.iface 3 (.int .i64 c.closed),.iface 3 (.int .i64 c.opn)] 20)) fun e w'=>e=.returned (.tuple #[])/\PageAt B pb pv ([]++(kwLine 0 [num c.closed,num c.opn]++[10])) w'/\PFr B pb (W0.alloc (.cells #[.iface 154 (.int .i64 0),.iface 3 (.int .i64 c.closed),.iface 3 (.int .i64 c.opn)] 20)) w'):=
  line_kw B pb pv ([]) W0.heap.size 0 [(.iface 3 (.int .i64 c.closed),num c.closed),(.iface 3 (.int .i64 c.opn),num c.opn)] _ (HP0.out.below (Below.oneC _ _)) (heap_newC _ _ _) (by have:=HF0.out.bel.size;have:=Hpb.out;omega) (by decide) (HK.out.below (HF0.out.bel.alloc (Nat.le_trans HBw.out HF0.out.bel.size) _) (Nat.lt_of_lt_of_le (show 12 < (max 12 13+1) by decide) HG.out)) HG.out
  (fun x hx=>by
  simp only[List.mem_cons,List.not_mem_nil,or_false] at hx
  rcases hx with rfl | rfl
  ·exact wordOk_int _ (HN.out.1).1 (HN.out.1).2 (HT.out.below (HF0.out.bel.alloc (Nat.le_trans HBw.out HF0.out.bel.size) _) HG.out) HG.out
  ·exact wordOk_int _ (HN.out.2.1).1 (HN.out.2.1).2 (HT.out.below (HF0.out.bel.alloc (Nat.le_trans HBw.out HF0.out.bel.size) _) HG.out) HG.out) (by simp) (by simp[kwLine,kw];have:=num_le _ HN.out.1.2;have:=num_le _ HN.out.2.1.2;have:=num_le _ HN.out.2.2.1.2;have:=num_le _ HN.out.2.2.2.2;omega)
 go_wp2_with fail
 refine Calls.mono HC0.out ?_;rintro e W1 ⟨rfl,hp,hf⟩;have HP1:Hid (PageAt B pb pv ([]++(kwLine 0 [num c.closed,num c.opn]++[10])) W1):=hp;have HF1:Hid (PFr B pb w W1):=(HF0.out.alloc (Nat.le_trans HBw.out HF0.out.bel.size) _).trans hf;have HG1:Hid (PFr B pb W0 W1):=(HG0.out.alloc (Nat.le_trans HBw.out HF0.out.bel.size) _).trans hf;clear hp hf HC0;clear p0 p1;have p2:W1.cell? ⟨w.heap.size,2,none⟩=some (.int .i64 c.cycle):=HX0.out W1 HG1.out 2 _ rfl;have HC1:Hid (Calls Tryz.prog 93 #[.pointer (some ⟨pb,0,none⟩),.slice (some ⟨W1.heap.size,0,none⟩) 2 2] (W1.alloc (.cells #[.iface 154 (.int .i64 1),.iface 3 (.int .i64 c.cycle)] 20)) fun e w'=>e=.returned (.tuple #[])/\PageAt B pb pv ([]++(kwLine 0 [num c.closed,num c.opn]++[10])++(kwLine 1 [num c.cycle]++[10])) w'/\PFr B pb (W1.alloc (.cells #[.iface 154 (.int .i64 1),.iface 3 (.int .i64 c.cycle)] 20)) w'):=
  line_kw B pb pv ([]++(kwLine 0 [num c.closed,num c.opn]++[10])) W1.heap.size 1 [(.iface 3 (.int .i64 c.cycle),num c.cycle)] _ (HP1.out.below (Below.oneC _ _)) (heap_newC _ _ _) (by have:=HF1.out.bel.size;have:=Hpb.out;omega) (by decide) (HK.out.below (HF1.out.bel.alloc (Nat.le_trans HBw.out HF1.out.bel.size) _) (Nat.lt_of_lt_of_le (show 12 < (max 12 13+1) by decide) HG.out)) HG.out
  (fun x hx=>by
  simp only[List.mem_singleton] at hx;subst hx;exact wordOk_int _ (HN.out.2.2.1).1 (HN.out.2.2.1).2 (HT.out.below (HF1.out.bel.alloc (Nat.le_trans HBw.out HF1.out.bel.size) _) HG.out) HG.out) (by simp) (by simp[kwLine,kw];have:=num_le _ HN.out.1.2;have:=num_le _ HN.out.2.1.2;have:=num_le _ HN.out.2.2.1.2;have:=num_le _ HN.out.2.2.2.2;omega)
 go_wp2_with fail
 refine Calls.mono HC1.out ?_;rintro e W2 ⟨rfl,hp,hf⟩;have HP2:Hid (PageAt B pb pv ([]++(kwLine 0 [num c.closed,num c.opn]++[10])++(kwLine 1 [num c.cycle]++[10])) W2):=hp;have HF2:Hid (PFr B pb w W2):=(HF1.out.alloc (Nat.le_trans HBw.out HF1.out.bel.size) _).trans hf;have HG2:Hid (PFr B pb W0 W2):=(HG1.out.alloc (Nat.le_trans HBw.out HF1.out.bel.size) _).trans hf;clear hp hf HC1;clear p2;have p3:W2.cell? ⟨w.heap.size,3,none⟩=some (.int .i64 c.delay):=HX0.out W2 HG2.out 3 _ rfl;have HC2:Hid (Calls Tryz.prog 93 #[.pointer (some ⟨pb,0,none⟩),.slice (some ⟨W2.heap.size,0,none⟩) 2 2] (W2.alloc (.cells #[.iface 154 (.int .i64 2),.iface 3 (.int .i64 c.delay)] 20)) fun e w'=>e=.returned (.tuple #[])/\PageAt B pb pv ([]++(kwLine 0 [num c.closed,num c.opn]++[10])++(kwLine 1 [num c.cycle]++[10])++(kwLine 2 [num c.delay]++[10])) w'/\PFr B pb (W2.alloc (.cells #[.iface 154 (.int .i64 2),.iface 3 (.int .i64 c.delay)] 20)) w'):=
  line_kw B pb pv ([]++(kwLine 0 [num c.closed,num c.opn]++[10])++(kwLine 1 [num c.cycle]++[10])) W2.heap.size 2 [(.iface 3 (.int .i64 c.delay),num c.delay)] _ (HP2.out.below (Below.oneC _ _)) (heap_newC _ _ _) (by have:=HF2.out.bel.size;have:=Hpb.out;omega) (by decide) (HK.out.below (HF2.out.bel.alloc (Nat.le_trans HBw.out HF2.out.bel.size) _) (Nat.lt_of_lt_of_le (show 12 < (max 12 13+1) by decide) HG.out)) HG.out
  (fun x hx=>by
  simp only[List.mem_singleton] at hx;subst hx;exact wordOk_int _ (HN.out.2.2.2).1 (HN.out.2.2.2).2 (HT.out.below (HF2.out.bel.alloc (Nat.le_trans HBw.out HF2.out.bel.size) _) HG.out) HG.out) (by simp) (by simp[kwLine,kw];have:=num_le _ HN.out.1.2;have:=num_le _ HN.out.2.1.2;have:=num_le _ HN.out.2.2.1.2;have:=num_le _ HN.out.2.2.2.2;omega)
 go_wp2_with fail
 refine Calls.mono HC2.out ?_;rintro e W3 ⟨rfl,hp,hf⟩;have HP3:Hid (PageAt B pb pv ([]++(kwLine 0 [num c.closed,num c.opn]++[10])++(kwLine 1 [num c.cycle]++[10])++(kwLine 2 [num c.delay]++[10])) W3):=hp;have HF3:Hid (PFr B pb w W3):=(HF2.out.alloc (Nat.le_trans HBw.out HF2.out.bel.size) _).trans hf;have HG3:Hid (PFr B pb W0 W3):=(HG2.out.alloc (Nat.le_trans HBw.out HF2.out.bel.size) _).trans hf;clear hp hf HC2;clear p3;have p4:W3.cell? ⟨w.heap.size,4,none⟩=some (.slice sa c.ents.length sc):=HX0.out W3 HG3.out 4 _ rfl;go_wp2_with fail
 clear p4;have HT3:Hid ([]++(kwLine 0 [num c.closed,num c.opn]++[10])++(kwLine 1 [num c.cycle]++[10])++(kwLine 2 [num c.delay]++[10])=(kwLine 0 [num c.closed,num c.opn] :: kwLine 1 [num c.cycle] :: kwLine 2 [num c.delay] :: (c.ents.take 0).flatMap entLines).flatMap (fun x=>x++[10])):=by show _=_;simp
 have HH:Hid ((kwLine 0 [num c.closed,num c.opn]).length<=100/\(kwLine 1 [num c.cycle]).length<=100/\(kwLine 2 [num c.delay]).length<=100):=by
  have a1:=num_le _ HN.out.1.2;have a2:=num_le _ HN.out.2.1.2;have a3:=num_le _ HN.out.2.2.1.2;have a4:=num_le _ HN.out.2.2.2.2
  refine⟨?_,?_,?_⟩ <;> (simp[kwLine,kw];omega)
 go_loopw [5,33] (fun _ i wr=>∃ k:Nat,k<=c.ents.length/\i=.int .i64 k/\(∃ pv',PageAt B pb pv' ((kwLine 0 [num c.closed,num c.opn] :: kwLine 1 [num c.cycle] :: kwLine 2 [num c.delay] :: (c.ents.take k).flatMap entLines).flatMap (fun x=>x++[10])) wr)/\PFr B pb w wr/\PFr B pb W0 wr) (fun _ i _=>c.ents.length - (intOf i).toNat)
 case atStart=>exact⟨0,Nat.zero_le _,rfl,⟨pv,by rw[<- HT3.out];exact HP3.out⟩,HF3.out,HG3.out⟩
 case round=>
  clear HP0 HP1 HP2 HP3 HF0 HF1 HF2 HF3 HG0 HG1 HG2 HG3 HT3 H0;obtain⟨k,hk,rfl,⟨pv',hpg⟩,hfr,hg0⟩:=hrel
  by_cases hlt:k < c.ents.length
  ·obtain⟨e,hq⟩:∃ e,c.ents[k]?=some e:=⟨_,List.getElem?_eq_getElem hlt⟩;obtain⟨sa',cap',hsl,hcc⟩:=HE.out
   cases hsl
   obtain⟨b,o,rfl,hc0⟩:=hcc (fun h=>by rw[h] at hq;simp at hq);obtain⟨pv1,gv,ev,fv,lv,hparts,hcell⟩:=hc0 k e hq;obtain⟨pa,pc,rfl,-,-⟩:=id hparts.hp;obtain⟨ga,gc,rfl,-,-⟩:=id hparts.hg;obtain⟨ea,ec,rfl,-,-⟩:=id hparts.he;obtain⟨fa,fc,rfl,-,-⟩:=id hparts.hf;obtain⟨la,lc,rfl,-,-⟩:=id hparts.hl;have c0:wr.cell? ⟨b,o+k*10,none⟩=some (.string e.name):=cell_below (HB0.out wr hfr) (hcell 0 _ rfl);have c1:wr.cell? ⟨b,o+k*10+1,none⟩=some (.int .i64 e.tol):=cell_below (HB0.out wr hfr) (hcell 1 _ rfl);have c2:wr.cell? ⟨b,o+k*10+2,none⟩=some (.slice pa e.pts.length pc):=cell_below (HB0.out wr hfr) (hcell 2 _ rfl);have c3:wr.cell? ⟨b,o+k*10+3,none⟩=some (.int .i64 e.cnt):=cell_below (HB0.out wr hfr) (hcell 3 _ rfl);have c4:wr.cell? ⟨b,o+k*10+4,none⟩=some (.int .i64 e.mn):=cell_below (HB0.out wr hfr) (hcell 4 _ rfl);have c5:wr.cell? ⟨b,o+k*10+5,none⟩=some (.int .i64 e.mx):=cell_below (HB0.out wr hfr) (hcell 5 _ rfl);have c6:wr.cell? ⟨b,o+k*10+6,none⟩=some (.slice ga e.gaps.length gc):=cell_below (HB0.out wr hfr) (hcell 6 _ rfl);have c7:wr.cell? ⟨b,o+k*10+7,none⟩=some (.slice ea e.edges.length ec):=cell_below (HB0.out wr hfr) (hcell 7 _ rfl);have c8:wr.cell? ⟨b,o+k*10+8,none⟩=some (.slice fa e.first.length fc):=cell_below (HB0.out wr hfr) (hcell 8 _ rfl);have c9:wr.cell? ⟨b,o+k*10+9,none⟩=some (.slice la e.last.length lc):=cell_below (HB0.out wr hfr) (hcell 9 _ rfl);have HQ:Hid (c.ents[k]?=some e):=hq;have HPG:Hid (PageAt B pb pv' ((kwLine 0 [num c.closed,num c.opn] :: kwLine 1 [num c.cycle] :: kwLine 2 [num c.delay] :: (c.ents.take k).flatMap entLines).flatMap (fun x=>x++[10])) wr):=hpg;have HFR:Hid (PFr B pb w wr):=hfr;have HG0:Hid (PFr B pb W0 wr):=hg0;have HLE:Hid (((kwLine 0 [num c.closed,num c.opn] :: kwLine 1 [num c.cycle] :: kwLine 2 [num c.delay] :: (c.ents.take k).flatMap entLines).flatMap (fun x=>x++[10])).length<=500000000):=by
    show _<=_
    have hl:=HL.out;have e1:c.ents.flatMap entLines=(c.ents.take k).flatMap entLines++(c.ents.drop k).flatMap entLines:=by rw[<- List.flatMap_append,List.take_append_drop]
    rw[e1,List.flatMap_append,List.length_append] at hl;have:=HH.out;simp only[List.flatMap_cons,List.length_append,List.length_cons,List.length_nil];omega
   have HP2:Hid (EntParts w0 e (.slice pa e.pts.length pc) (.slice ga e.gaps.length gc) (.slice ea e.edges.length ec) (.slice fa e.first.length fc) (.slice la e.last.length lc)):=hparts;have k1:(k:Int) < (c.ents.length:Int):=by omega
   have k0:k < 1000000:=by have:=HM.out;omega
   have HCE:Hid (∀ W,PFr B pb wr W->PageAt B pb pv' ((kwLine 0 [num c.closed,num c.opn] :: kwLine 1 [num c.cycle] :: kwLine 2 [num c.delay] :: (c.ents.take k).flatMap entLines).flatMap (fun x=>x++[10])) W->_):=fun W hW hPW=>HO.out e (List.mem_of_getElem? hq) W _ pv' pa ga ea fa la pc gc ec fc lc (HFR.out.trans hW) hPW HLE.out HP2.out
   unfold entRow at HCE;clear hq hcell hparts hcc hc0 hpg hfr hg0;go_wp2_with fail
   refine Calls.mono (HCE.out _ ((PFr.refl B pb wr).alloc HPG.out.2.1 _) (HPG.out.below (Below.oneC _ _))) ?_;rintro v W' ⟨rfl,hp',hf'⟩;have HR:Hid ((∃ pv',PageAt B pb pv' ((kwLine 0 [num c.closed,num c.opn] :: kwLine 1 [num c.cycle] :: kwLine 2 [num c.delay] :: (c.ents.take (k+1)).flatMap entLines).flatMap (fun x=>x++[10])) W')/\PFr B pb w W'/\PFr B pb W0 W'):=by
    have hf2:=((PFr.refl B pb wr).alloc HPG.out.2.1 _).trans hf'
    refine⟨?_,HFR.out.trans hf2,HG0.out.trans hf2⟩;obtain⟨pv2,hp2⟩:=hp'
    refine⟨pv2,?_⟩;have e1:(c.ents.take (k+1)).flatMap entLines=(c.ents.take k).flatMap entLines++entLines e:=by rw[List.take_add_one,HQ.out,List.flatMap_append];simp
    rw[e1];simpa[List.flatMap_append] using hp2
   clear hp' hf' HCE;go_wp2;go_roundw
   case rel=>exact⟨k+1,by omega,by go_num,HR.out.1,HR.out.2.1,HR.out.2.2⟩
   case measure=>simp[intOf];omega
  ·have k1:¬(k:Int) < (c.ents.length:Int):=by omega
   obtain rfl:k=c.ents.length:=by omega
   have HR:Hid ((∃ pv',PageAt B pb pv' (confText c) wr)/\PFr B pb w wr):=⟨⟨pv',by unfold confText confLines;rw[List.take_length] at hpg;exact hpg⟩,hfr⟩;clear hpg hfr hg0;go_wp2;go_end0
   exact⟨rfl,HR.out.1,HR.out.2⟩
theorem names1_at (s:ByteArray)(w:World)(hs:s.size<=1000000):Calls Tryz.prog 145 #[.string s] w fun e w'=>e=.returned (.bool (!isName s))/\Below w.heap.size w w':=by
 go_enter Tryz.func145,Tryz.ntmps145
 go_wp2_with fail
 refine(isName_at s _ hs).mono ?_;rintro e w' ⟨rfl,hb⟩;go_wp2;go_ret;exact⟨rfl,hb⟩
def KeptBut (mb:Nat)(w w':World):Prop:=∀ (p:Addr) (v:Value),p.block≠mb->w.cell? p=some v->w'.cell? p=some v
theorem KeptBut.refl (mb:Nat)(w:World):KeptBut mb w w:=fun _ _ _ h=>h
theorem KeptBut.trans {mb:Nat}{w w' w'':World}(h:KeptBut mb w w')(h2:KeptBut mb w' w''):KeptBut mb w w'':=fun p v hn e=>h2 p v hn (h p v hn e)
theorem KeptBut.of {mb:Nat}{w w':World}(h:Below w.heap.size w w'):KeptBut mb w w':=fun _ _ _ e=>cell_below h e
set_option maxHeartbeats 2000000 in
theorem first_str (A:Nat->Addr)(w0 w:World)(rb bx mb:Nat)(a:List ByteArray)(s:ByteArray)(h:NamesIn A w0 w rb bx mb a)(hs:s.size<=1000000)(hn:a.length<=1000000) :
  Calls Tryz.prog 148 #[.string s,.slice (some ⟨rb,0,none⟩) 2 2] w fun e w'=>e=.returned (errV A (nameErr a s))/\Below w0.heap.size w0 w'/\(nameErr a s=0->NamesIn A w0 w' rb bx mb (a++[s]))/\KeptBut mb w w':=by
 have eg1:=enters_of Tryz.func145 (by kernel_rfl) rfl;have eg2:=enters_of Tryz.func147 (by kernel_rfl) rfl;have HN:Hid (∀ W,Calls Tryz.prog 145 #[.string s] W fun e w'=>e=.returned (.bool (!isName s))/\Below W.heap.size W w'):=fun W=>names1_at s W hs
 have HM:Hid (∀ W,NamesIn A w0 W rb bx mb a->Calls Tryz.prog 147 #[.string s,.pointer (some ⟨bx,0,none⟩)] W fun e w'=>e=.returned (.bool (a.any (fun x=>decide (x=s))))/\NamesIn A w0 w' rb bx mb (a++[s])/\∀ (p:Addr) (v:Value),p.block≠mb->W.cell? p=some v->w'.cell? p=some v):=fun W hW=>names2_at A w0 W rb bx mb a s hW hs hn
 go_enter Tryz.func148,Tryz.ntmps148
 go_wp2_with fail
 clear hs hn
 go_loopw [6,9] (fun _ i wr=>KeptBut mb w wr/\((i=.int .i64 0/\NamesIn A w0 wr rb bx mb a)\/(i=.int .i64 1/\isName s=true/\NamesIn A w0 wr rb bx mb a)\/(i=.int .i64 2/\nameErr a s=0/\NamesIn A w0 wr rb bx mb (a++[s])))) (fun _ i _=>2 - (intOf i).toNat)
 case atStart=>exact⟨KeptBut.refl _ _,Or.inl ⟨rfl,h⟩⟩
 case round=>
  clear h;obtain⟨hkp,hrel⟩:=hrel;have HKP:Hid (KeptBut mb w wr):=hkp;clear hkp
  rcases hrel with ⟨rfl,h⟩ | ⟨rfl,hN,h⟩ | ⟨rfl,hE,h⟩
  ·have r0:=h.r0;have r1:=h.r1;have H:Hid (NamesIn A w0 wr rb bx mb a):=h;clear h
   cases hN:isName s with
   | true=>
    have HN2:=HN.out;rw[hN] at HN2;have HN3:Hid _:=HN2;clear HN2;have HNN:Hid (isName s=true):=hN;clear hN HM HN;go_wp2_with fail
    refine(HN3.out _).mono ?_;rintro e W' ⟨rfl,hb'⟩;have H2:Hid (NamesIn A w0 W' rb bx mb a):=(H.out.below (Below.one _ _)).below hb';have HK2:Hid (KeptBut mb w W'):=(HKP.out.trans (KeptBut.of (Below.one _ _))).trans (KeptBut.of hb');clear hb';go_wp2;go_roundw
    case rel=>exact⟨HK2.out,Or.inr (Or.inl ⟨by go_num,by first | trivial | exact HNN.out,H2.out⟩)⟩
    case measure=>simp[intOf]
   | false=>
    have HN2:=HN.out;rw[hN] at HN2;have HN3:Hid _:=HN2;clear HN2;have HNN:Hid (nameErr a s=4):=by show _=_;simp[nameErr,hN]
    clear hN HM HN;go_wp2_with fail
    refine(HN3.out _).mono ?_;rintro e W' ⟨rfl,hb'⟩;have d0:W'.cell? ⟨wr.heap.size,0,none⟩=some (.iface 400 (.pointer (some (A 3)))):=cell_below hb' (by simp);have H2:Hid (NamesIn A w0 W' rb bx mb a):=(H.out.below (Below.one _ _)).below hb';have HK2:Hid (KeptBut mb w W'):=(HKP.out.trans (KeptBut.of (Below.one _ _))).trans (KeptBut.of hb');clear hb';go_wp2;go_ret;exact⟨by rw[HNN.out];rfl,H2.out.bel,fun e=>by (rw[HNN.out] at e;cases e),HK2.out⟩
  ·have r2:=h.r2;have r3:=h.r3;have H:Hid (NamesIn A w0 wr rb bx mb a):=h;clear h
   cases hA:a.any (fun x=>decide (x=s)) with
   | false=>
    have HM2:=HM.out;rw[hA] at HM2;have HM3:Hid _:=HM2;have HNN:Hid (nameErr a s=0):=by show _=_;simp only[nameErr,hN,hA];rfl
    clear hA hN HM HN HM2;go_wp2_with fail
    refine(HM3.out _ (H.out.below (Below.one _ _))).mono ?_;rintro e W' ⟨rfl,h',hk'⟩;have H2:Hid (NamesIn A w0 W' rb bx mb (a++[s])):=h';have HK2:Hid (KeptBut mb w W'):=(HKP.out.trans (KeptBut.of (Below.one _ _))).trans hk';clear h' hk';go_wp2;go_roundw
    case rel=>exact⟨HK2.out,Or.inr (Or.inr ⟨by go_num,HNN.out,H2.out⟩)⟩
    case measure=>simp[intOf]
   | true=>
    have HM2:=HM.out;rw[hA] at HM2;have HM3:Hid _:=HM2;have HNN:Hid (nameErr a s=6):=by show _=_;simp only[nameErr,hN,hA];rfl
    clear hA hN HM HN HM2;go_wp2_with fail
    refine(HM3.out _ (H.out.below (Below.one _ _))).mono ?_;rintro e W' ⟨rfl,h',hk'⟩;have H2:Hid (NamesIn A w0 W' rb bx mb (a++[s])):=h';have HK2:Hid (KeptBut mb w W'):=(HKP.out.trans (KeptBut.of (Below.one _ _))).trans hk';have d0:W'.cell? ⟨wr.heap.size,0,none⟩=some (.iface 400 (.pointer (some (A 5)))):=hk' ⟨wr.heap.size,0,none⟩ _ (fun e=>by have:=H.out.own.lt;simp at e;omega) (by simp);clear h' hk';go_wp2;go_ret;exact⟨by rw[HNN.out];rfl,H2.out.bel,fun e=>by (rw[HNN.out] at e;cases e),HK2.out⟩
  ·have HNN:Hid (nameErr a s=0):=hE;have H2:Hid (NamesIn A w0 wr rb bx mb (a++[s])):=h;clear hE h HM HN;go_wp2;go_ret;exact⟨by rw[HNN.out];rfl,H2.out.bel,fun _=>H2.out,HKP.out⟩
def idxP {α:Type}(p:α->Bool):List α->Int
 | []=>-1
 | x :: t=>if p x then 0 else if idxP p t < 0 then -1 else idxP p t+1
theorem idxP_none {α:Type}(p:α->Bool):∀ (xs:List α),(∀ (i:Nat) (x:α),xs[i]?=some x->p x=false)->idxP p xs=-1
 | [],_=>rfl
 | x :: t,h=>by
  have h0:=h 0 x rfl;have:=idxP_none p t (fun i y e=>h (i+1) y (by simpa using e));simp[idxP,h0,this]
theorem idxP_hit {α:Type}(p:α->Bool):∀ (xs:List α) (k:Nat) (x:α),(∀ (i:Nat) (y:α),i < k->xs[i]?=some y->p y=false)->xs[k]?=some x->p x=true->idxP p xs=(k:Int)
 | [],k,x,_,h,_=>by simp at h
 | y :: t,0,x,_,h,hp=>by simp at h;subst h;simp[idxP,hp]
 | y :: t,k+1,x,h,h2,hp=>by
  have h0:=h 0 y (by omega) rfl;have:=idxP_hit p t k x (fun i z hi e=>h (i+1) z (by omega) (by simpa using e)) (by simpa using h2) hp;simp only[idxP,h0,this];rw[if_neg (by simp),if_neg (by omega)];omega
theorem idxP_any {α:Type}(p:α->Bool):∀ (xs:List α),decide (0<=idxP p xs)=xs.any p
 | []=>rfl
 | x :: t=>by
  have:=idxP_any p t;unfold idxP
  by_cases h:p x=true
  ·simp[h]
  ·simp only[Bool.not_eq_true] at h;rw[List.any_cons,h,Bool.false_or,<- this];simp only[Bool.false_eq_true,if_false]
   by_cases h2:idxP p t < 0
   ·rw[if_pos h2];exact decide_eq_decide.2 (by omega)
   ·rw[if_neg h2];exact decide_eq_decide.2 (by omega)
set_option maxHeartbeats 1000000 in
theorem idx_int (v:Value)(xs:List Int)(p:Int->Bool)(g:Nat)(lb:Array Value)(w:World)(hv:SlAt encI 1 w v xs)(hn:xs.length<=1000000)(eg:∀ args w,(callFunc g args).run Tryz.prog w=.ok (.enter g args) w)
  (hp:∀ W,Below w.heap.size w W->∀ x,x∈xs->Calls Tryz.prog g (#[.int .i64 x]++lb) W fun e W'=>e=.returned (.bool (p x))/\Below W.heap.size W W') :
  Calls Tryz.prog 290 #[v,.func (.func g) #[] lb] w fun e w'=>e=.returned (.int .i64 (idxP p xs))/\Below w.heap.size w w':=by
 obtain⟨sa,cap,rfl,-,hcell⟩:=hv;have HC:Hid (xs≠[]->∃ b o,sa=some ⟨b,o,none⟩/\∀ (i:Nat) x,xs[i]?=some x->∀ (j:Nat) u,(encI x)[j]?=some u->w.cell? ⟨b,o+i*1+j,none⟩=some u):=hcell;have HP:Hid (∀ W,Below w.heap.size w W->∀ x,x∈xs->Calls Tryz.prog g (#[.int .i64 x]++lb) W fun e W'=>e=.returned (.bool (p x))/\Below W.heap.size W W'):=hp;have HL:Hid (xs.length<=1000000):=hn;clear hcell hp hn;go_enter Tryz.func290,Tryz.ntmps290
 go_wp2_with fail
 go_loopw [5,8] (fun _ i wr=>∃ k:Nat,k<=xs.length/\i=.int .i64 k/\Below w.heap.size w wr/\Hid (∀ (i:Nat) (y:Int),i < k->xs[i]?=some y->p y=false)) (fun _ i _=>xs.length - (intOf i).toNat)
 case atStart=>exact⟨0,Nat.zero_le _,rfl,Below.refl _ _,fun i b hi=>absurd hi (Nat.not_lt_zero _)⟩
 case round=>
  obtain⟨k,hk,rfl,hbw,hall⟩:=hrel
  by_cases hlt:k < xs.length
  ·obtain⟨x,hx⟩:∃ x,xs[k]?=some x:=⟨_,List.getElem?_eq_getElem hlt⟩;obtain⟨b,o,rfl,hc0⟩:=HC.out (fun e=>by subst e;simp at hx);have hc:∀ (i:Nat) x,xs[i]?=some x->∀ (j:Nat) u,(encI x)[j]?=some u->wr.cell? ⟨b,o+i*1+j,none⟩=some u:=fun i x h j u hu=>cell_below hbw (hc0 i x h j u hu)
   have c0:=hc k x hx 0 _ rfl;simp only[Nat.mul_one,Nat.add_zero] at c0;have HX:Hid (xs[k]?=some x):=hx;have hm:=HP.out _ hbw x (List.mem_of_getElem? hx);have k1:(k:Int) < (xs.length:Int):=by omega
   have k0:k < 1000000:=by have:=HL.out;omega
   have HB:Hid (Below w.heap.size w wr):=hbw;clear hx hc0 hc HC HP hbw
   cases hpx:p x with
   | true=>
    rw[hpx] at hm;have HM:Hid _:=hm;have HPX:Hid (p x=true):=hpx;clear hm hpx;go_wp2_with fail
    refine Calls.mono HM.out ?_;rintro e W' ⟨rfl,hb'⟩;go_wp2;go_ret;exact⟨by rw[idxP_hit p xs k x hall.out HX.out HPX.out];rfl,HB.out.trans (hb'.mono HB.out.size)⟩
   | false=>
    rw[hpx] at hm;have HM:Hid _:=hm;have HPX:Hid (p x=false):=hpx;clear hm hpx;go_wp2_with fail
    refine Calls.mono HM.out ?_;rintro e W' ⟨rfl,hb'⟩;have HW:Hid (Below w.heap.size w W'):=HB.out.trans (hb'.mono HB.out.size);clear hb';go_wp2;go_roundw
    case rel=>
     refine⟨k+1,by omega,by go_num,HW.out,fun i y hi e=>?_⟩
     by_cases hik:i=k
     ·subst hik;have h2:=HX.out;rw[h2] at e
      cases e
      exact HPX.out
     ·exact hall.out i y (by omega) e
    case measure=>simp[intOf];omega
  ·have k1:¬(k:Int) < (xs.length:Int):=by omega
   have HN:Hid (idxP p xs=-1):=idxP_none p xs (fun i x e=>hall.out i x (by have:=(List.getElem?_eq_some_iff.1 e).1;omega) e);clear HC HP;go_wp2;go_ret;exact⟨by rw[HN.out];rfl,hbw⟩
theorem any_int (v:Value)(xs:List Int)(p:Int->Bool)(g:Nat)(lb:Array Value)(w:World)(hv:SlAt encI 1 w v xs)(hn:xs.length<=1000000)(eg:∀ args w,(callFunc g args).run Tryz.prog w=.ok (.enter g args) w)
  (hp:∀ W,Below w.heap.size w W->∀ x,x∈xs->Calls Tryz.prog g (#[.int .i64 x]++lb) W fun e W'=>e=.returned (.bool (p x))/\Below W.heap.size W W') :
  Calls Tryz.prog 249 #[v,.func (.func g) #[] lb] w fun e w'=>e=.returned (.bool (xs.any p))/\Below w.heap.size w w':=by
 have H:=idx_int v xs p g lb w hv hn eg hp;rw[<- idxP_any];obtain⟨sa,cap,rfl,-⟩:=hv;clear hp hn;go_enter Tryz.func249,Tryz.ntmps249
 go_wp2_with fail
 refine H.mono ?_;rintro e w' ⟨rfl,hb⟩;go_wp2;go_ret;exact⟨rfl,hb⟩
set_option maxHeartbeats 1000000 in
theorem idx_pair (v:Value)(xs:List (Int × Int))(p:(Int × Int)->Bool)(g:Nat)(lb:Array Value)(w:World)(hv:SlAt encP 2 w v xs)(hn:xs.length<=1000000)(eg:∀ args w,(callFunc g args).run Tryz.prog w=.ok (.enter g args) w)
  (hp:∀ W,Below w.heap.size w W->∀ x,x∈xs->Calls Tryz.prog g (#[.agg #[.int .i64 x.1,.int .i64 x.2]]++lb) W fun e W'=>e=.returned (.bool (p x))/\Below W.heap.size W W') :
  Calls Tryz.prog 252 #[v,.func (.func g) #[] lb] w fun e w'=>e=.returned (.int .i64 (idxP p xs))/\Below w.heap.size w w':=by
 obtain⟨sa,cap,rfl,-,hcell⟩:=hv;have HC:Hid (xs≠[]->∃ b o,sa=some ⟨b,o,none⟩/\∀ (i:Nat) x,xs[i]?=some x->∀ (j:Nat) u,(encP x)[j]?=some u->w.cell? ⟨b,o+i*2+j,none⟩=some u):=hcell;have HP:Hid (∀ W,Below w.heap.size w W->∀ x,x∈xs->Calls Tryz.prog g (#[.agg #[.int .i64 x.1,.int .i64 x.2]]++lb) W fun e W'=>e=.returned (.bool (p x))/\Below W.heap.size W W'):=hp;have HL:Hid (xs.length<=1000000):=hn;clear hcell hp hn;go_enter Tryz.func252,Tryz.ntmps252
 go_wp2_with fail
 go_loopw [5,8] (fun _ i wr=>∃ k:Nat,k<=xs.length/\i=.int .i64 k/\Below w.heap.size w wr/\Hid (∀ (i:Nat) (y:(Int × Int)),i < k->xs[i]?=some y->p y=false)) (fun _ i _=>xs.length - (intOf i).toNat)
 case atStart=>exact⟨0,Nat.zero_le _,rfl,Below.refl _ _,fun i b hi=>absurd hi (Nat.not_lt_zero _)⟩
 case round=>
  obtain⟨k,hk,rfl,hbw,hall⟩:=hrel
  by_cases hlt:k < xs.length
  ·obtain⟨x,hx⟩:∃ x,xs[k]?=some x:=⟨_,List.getElem?_eq_getElem hlt⟩;obtain⟨b,o,rfl,hc0⟩:=HC.out (fun e=>by subst e;simp at hx);have hc:∀ (i:Nat) x,xs[i]?=some x->∀ (j:Nat) u,(encP x)[j]?=some u->wr.cell? ⟨b,o+i*2+j,none⟩=some u:=fun i x h j u hu=>cell_below hbw (hc0 i x h j u hu)
   have c0:=hc k x hx 0 _ rfl;have c1:=hc k x hx 1 _ rfl;simp only[Nat.add_zero] at c0;have HX:Hid (xs[k]?=some x):=hx;have hm:=HP.out _ hbw x (List.mem_of_getElem? hx);have k1:(k:Int) < (xs.length:Int):=by omega
   have k0:k < 1000000:=by have:=HL.out;omega
   have HB:Hid (Below w.heap.size w wr):=hbw;clear hx hc0 hc HC HP hbw
   cases hpx:p x with
   | true=>
    rw[hpx] at hm;have HM:Hid _:=hm;have HPX:Hid (p x=true):=hpx;clear hm hpx;go_wp2_with fail
    refine Calls.mono HM.out ?_;rintro e W' ⟨rfl,hb'⟩;go_wp2;go_ret;exact⟨by rw[idxP_hit p xs k x hall.out HX.out HPX.out];rfl,HB.out.trans (hb'.mono HB.out.size)⟩
   | false=>
    rw[hpx] at hm;have HM:Hid _:=hm;have HPX:Hid (p x=false):=hpx;clear hm hpx;go_wp2_with fail
    refine Calls.mono HM.out ?_;rintro e W' ⟨rfl,hb'⟩;have HW:Hid (Below w.heap.size w W'):=HB.out.trans (hb'.mono HB.out.size);clear hb';go_wp2;go_roundw
    case rel=>
     refine⟨k+1,by omega,by go_num,HW.out,fun i y hi e=>?_⟩
     by_cases hik:i=k
     ·subst hik;have h2:=HX.out;rw[h2] at e
      cases e
      exact HPX.out
     ·exact hall.out i y (by omega) e
    case measure=>simp[intOf];omega
  ·have k1:¬(k:Int) < (xs.length:Int):=by omega
   have HN:Hid (idxP p xs=-1):=idxP_none p xs (fun i x e=>hall.out i x (by have:=(List.getElem?_eq_some_iff.1 e).1;omega) e);clear HC HP;go_wp2;go_ret;exact⟨by rw[HN.out];rfl,hbw⟩
theorem any_pair (v:Value)(xs:List (Int × Int))(p:(Int × Int)->Bool)(g:Nat)(lb:Array Value)(w:World)(hv:SlAt encP 2 w v xs)(hn:xs.length<=1000000)(eg:∀ args w,(callFunc g args).run Tryz.prog w=.ok (.enter g args) w)
  (hp:∀ W,Below w.heap.size w W->∀ x,x∈xs->Calls Tryz.prog g (#[.agg #[.int .i64 x.1,.int .i64 x.2]]++lb) W fun e W'=>e=.returned (.bool (p x))/\Below W.heap.size W W') :
  Calls Tryz.prog 196 #[v,.func (.func g) #[] lb] w fun e w'=>e=.returned (.bool (xs.any p))/\Below w.heap.size w w':=by
 have H:=idx_pair v xs p g lb w hv hn eg hp;rw[<- idxP_any];obtain⟨sa,cap,rfl,-⟩:=hv;clear hp hn;go_enter Tryz.func196,Tryz.ntmps196
 go_wp2_with fail
 refine H.mono ?_;rintro e w' ⟨rfl,hb⟩;go_wp2;go_ret;exact⟨rfl,hb⟩
set_option maxHeartbeats 1000000 in
theorem idx_gap (v:Value)(xs:List GapD)(p:GapD->Bool)(g:Nat)(lb:Array Value)(w:World)(hv:SlAt encG 4 w v xs)(hn:xs.length<=1000000)(eg:∀ args w,(callFunc g args).run Tryz.prog w=.ok (.enter g args) w)
  (hp:∀ W,Below w.heap.size w W->∀ x,x∈xs->Calls Tryz.prog g (#[.agg #[.int .i64 x.fr,.int .i64 x.to,.int .i64 x.mn,.int .i64 x.mx]]++lb) W fun e W'=>e=.returned (.bool (p x))/\Below W.heap.size W W') :
  Calls Tryz.prog 251 #[v,.func (.func g) #[] lb] w fun e w'=>e=.returned (.int .i64 (idxP p xs))/\Below w.heap.size w w':=by
 obtain⟨sa,cap,rfl,-,hcell⟩:=hv;have HC:Hid (xs≠[]->∃ b o,sa=some ⟨b,o,none⟩/\∀ (i:Nat) x,xs[i]?=some x->∀ (j:Nat) u,(encG x)[j]?=some u->w.cell? ⟨b,o+i*4+j,none⟩=some u):=hcell;have HP:Hid (∀ W,Below w.heap.size w W->∀ x,x∈xs->Calls Tryz.prog g (#[.agg #[.int .i64 x.fr,.int .i64 x.to,.int .i64 x.mn,.int .i64 x.mx]]++lb) W fun e W'=>e=.returned (.bool (p x))/\Below W.heap.size W W'):=hp;have HL:Hid (xs.length<=1000000):=hn;clear hcell hp hn;go_enter Tryz.func251,Tryz.ntmps251
 go_wp2_with fail
 go_loopw [5,8] (fun _ i wr=>∃ k:Nat,k<=xs.length/\i=.int .i64 k/\Below w.heap.size w wr/\Hid (∀ (i:Nat) (y:GapD),i < k->xs[i]?=some y->p y=false)) (fun _ i _=>xs.length - (intOf i).toNat)
 case atStart=>exact⟨0,Nat.zero_le _,rfl,Below.refl _ _,fun i b hi=>absurd hi (Nat.not_lt_zero _)⟩
 case round=>
  obtain⟨k,hk,rfl,hbw,hall⟩:=hrel
  by_cases hlt:k < xs.length
  ·obtain⟨x,hx⟩:∃ x,xs[k]?=some x:=⟨_,List.getElem?_eq_getElem hlt⟩;obtain⟨b,o,rfl,hc0⟩:=HC.out (fun e=>by subst e;simp at hx);have hc:∀ (i:Nat) x,xs[i]?=some x->∀ (j:Nat) u,(encG x)[j]?=some u->wr.cell? ⟨b,o+i*4+j,none⟩=some u:=fun i x h j u hu=>cell_below hbw (hc0 i x h j u hu)
   have c0:=hc k x hx 0 _ rfl;have c1:=hc k x hx 1 _ rfl;have c2:=hc k x hx 2 _ rfl;have c3:=hc k x hx 3 _ rfl;simp only[Nat.add_zero] at c0;have HX:Hid (xs[k]?=some x):=hx;have hm:=HP.out _ hbw x (List.mem_of_getElem? hx);have k1:(k:Int) < (xs.length:Int):=by omega
   have k0:k < 1000000:=by have:=HL.out;omega
   have HB:Hid (Below w.heap.size w wr):=hbw;clear hx hc0 hc HC HP hbw
   cases hpx:p x with
   | true=>
    rw[hpx] at hm;have HM:Hid _:=hm;have HPX:Hid (p x=true):=hpx;clear hm hpx;go_wp2_with fail
    refine Calls.mono HM.out ?_;rintro e W' ⟨rfl,hb'⟩;go_wp2;go_ret;exact⟨by rw[idxP_hit p xs k x hall.out HX.out HPX.out];rfl,HB.out.trans (hb'.mono HB.out.size)⟩
   | false=>
    rw[hpx] at hm;have HM:Hid _:=hm;have HPX:Hid (p x=false):=hpx;clear hm hpx;go_wp2_with fail
    refine Calls.mono HM.out ?_;rintro e W' ⟨rfl,hb'⟩;have HW:Hid (Below w.heap.size w W'):=HB.out.trans (hb'.mono HB.out.size);clear hb';go_wp2;go_roundw
    case rel=>
     refine⟨k+1,by omega,by go_num,HW.out,fun i y hi e=>?_⟩
     by_cases hik:i=k
     ·subst hik;have h2:=HX.out;rw[h2] at e
      cases e
      exact HPX.out
     ·exact hall.out i y (by omega) e
    case measure=>simp[intOf];omega
  ·have k1:¬(k:Int) < (xs.length:Int):=by omega
   have HN:Hid (idxP p xs=-1):=idxP_none p xs (fun i x e=>hall.out i x (by have:=(List.getElem?_eq_some_iff.1 e).1;omega) e);clear HC HP;go_wp2;go_ret;exact⟨by rw[HN.out];rfl,hbw⟩
theorem any_gap (v:Value)(xs:List GapD)(p:GapD->Bool)(g:Nat)(lb:Array Value)(w:World)(hv:SlAt encG 4 w v xs)(hn:xs.length<=1000000)(eg:∀ args w,(callFunc g args).run Tryz.prog w=.ok (.enter g args) w)
  (hp:∀ W,Below w.heap.size w W->∀ x,x∈xs->Calls Tryz.prog g (#[.agg #[.int .i64 x.fr,.int .i64 x.to,.int .i64 x.mn,.int .i64 x.mx]]++lb) W fun e W'=>e=.returned (.bool (p x))/\Below W.heap.size W W') :
  Calls Tryz.prog 193 #[v,.func (.func g) #[] lb] w fun e w'=>e=.returned (.bool (xs.any p))/\Below w.heap.size w w':=by
 have H:=idx_gap v xs p g lb w hv hn eg hp;rw[<- idxP_any];obtain⟨sa,cap,rfl,-⟩:=hv;clear hp hn;go_enter Tryz.func193,Tryz.ntmps193
 go_wp2_with fail
 refine H.mono ?_;rintro e w' ⟨rfl,hb⟩;go_wp2;go_ret;exact⟨rfl,hb⟩
end Go.Proofs.YtffpcbdlbcjihadGreatDoor
