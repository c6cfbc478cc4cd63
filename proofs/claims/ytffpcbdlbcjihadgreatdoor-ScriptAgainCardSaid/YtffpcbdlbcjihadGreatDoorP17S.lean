/-
  Several texts as one: ScNum, ScBnd, CfNamP, CfName, CfFirst.
-/
import Derived.Test.YtffpcbdlbcjihadGreatDoorP16S
import Derived.Deep.AppendLies
import Derived.Laws.MakeOwn
import Derived.BigQuiet
import Derived.Deep.QuietTactic
import Derived.Deep.DeepCutAuto
import Derived.WalkSmall
import Derived.Lib.ConvBytes
import Derived.Lib.BufferWrite
import Derived.Laws.EntriesVeiled
namespace Go.Proofs.YtffpcbdlbcjihadGreatDoor
open Go.RowKit Go.Extern.Stop Go.Stop Go.Extern
def SynAt (w:World):Prop:=∃ ev,w.cell? ⟨19,0,none⟩=some ev/\(ev=.nilIface\/∃ te pe,ev=.iface te pe)
theorem SynAt.below {w w':World}(h:SynAt w)(hb:Below w.heap.size w w'):SynAt w':=by
 obtain⟨ev,h1,h2⟩:=h;exact⟨ev,cell_below hb h1,h2⟩
theorem add_zero'' (a:Addr):a.add 0=a:=by obtain⟨b,o,s⟩:=a;unfold Addr.add;split <;> simp_all
set_option maxHeartbeats 2000000 in
set_option maxRecDepth 100000 in
theorem scRead_at (s:ByteArray)(d:Int)(w:World)(hT:TabAt w)(hS:SynAt w)(hG:(max 12 13+1)<=w.heap.size)(hd:d<=18) :
  Calls Tryz.prog 179 #[.string s,.int .i64 d] w fun e w'=>e=.returned (.tuple #[.int .i64 ((scNum (bl s) d).getD 0),.bool (scNum (bl s) d).isSome])/\Below w.heap.size w w':=by
 have hlen:((bl s).length:Int)=(s.size:Int):=by rw[show (bl s).length=s.size from by simp[bl]]
 by_cases h1:d < (s.size:Int)
 ·have HE:Hid (scNum (bl s) d=none):=by show _=_;unfold scNum;rw[if_pos (by omega)]
  clear hlen;go_enter Tryz.func179,Tryz.ntmps179
  go_wp2_with fail
  go_ret2
  rw[HE.out];exact⟨rfl,Below.refl _ _⟩
 ·have hs:s.size<=18:=by omega
  cases hat:Lib.atoi s.data.toList with
  | none=>
   have HE:Hid (scNum (bl s) d=none):=by show _=_;unfold scNum;rw[if_neg (by omega),show bl s=s.data.toList from rfl,hat]
   obtain⟨ev,hv,hev⟩:=hS;have HX:Hid _:=Tryz.strconv_Atoi_err s hs hat ev w hv hev;clear hlen hat hv hev hT;go_enter Tryz.func179,Tryz.ntmps179
   go_wp2_with fail
   refine Calls.mono HX.out ?_;rintro e w1 ⟨N,rfl,-,-,hb⟩;go_wp2_with fail
   go_ret2
   rw[HE.out];exact⟨rfl,hb⟩
  | some n=>
   have hbn:=Lib.atoi_bound hat (by rw[show s.data.toList.length=s.size from by simp];exact hs);have HX:Hid (Calls Tryz.prog 248 #[.string s] w fun e w'=>e=.returned (.tuple #[.int .i64 n,.nilIface])/\Below w.heap.size w w'):=by
    refine Calls.mono (Tryz.strconv_Atoi s n hs hat w) ?_;rintro e w' ⟨rfl,t,rfl⟩;exact⟨rfl,Lib.bytesWorld_below _ _ _⟩
   by_cases hn:n < 0
   ·have HE:Hid (scNum (bl s) d=none):=by show _=_;unfold scNum;rw[if_neg (by omega),show bl s=s.data.toList from rfl,hat];exact if_pos (Or.inl hn)
    clear hlen hat hS hT;go_enter Tryz.func179,Tryz.ntmps179
    go_wp2_with fail
    refine Calls.mono HX.out ?_;rintro e w1 ⟨rfl,hb⟩;go_wp2_with fail
    go_ret2
    rw[HE.out];exact⟨rfl,hb⟩
   ·have HI:Hid (∀ W,Below w.heap.size w W->Calls Tryz.prog 63 #[.int .i64 n] W fun e w'=>e=.returned (.string ⟨(num n).toArray⟩)/\Below W.heap.size W w'):=fun W hW=>by
     refine Calls.mono (Tryz.strconv_Itoa n (by omega) (by omega) W (hT.below hW hG)) ?_;rintro e w' ⟨rfl,k,os,rfl⟩
     refine⟨?_,?_⟩
     ·unfold Lib.itoa num;rw[if_neg (by omega),decN_lib]
     ·refine⟨rfl,rfl,rfl,(by show W.heap.size<=((W.drewN k).heap++os).size;rw[Array.size_append];exact Nat.le_add_right _ _),fun i hi=>?_⟩;show ((W.drewN k).heap++os)[i]?=_
      rw[Array.getElem?_append_left (by show i < W.heap.size;omega)];rfl
    obtain⟨y,hy⟩:∃ y:ByteArray,y=⟨(num n).toArray⟩:=⟨_,rfl⟩;rw[<- hy] at HI;have hyb:bl y=num n:=by rw[hy];simp[bl]
    by_cases he:y=s
    ·have HE:Hid (scNum (bl s) d=some n):=by show _=_;unfold scNum;rw[if_neg (by omega),show bl s=s.data.toList from rfl,hat];exact if_neg (fun h=>h.elim (fun h=>hn h) (fun h=>h (by rw[<- hyb,he];rfl)))
     subst he;clear hlen hat hS hT hy hyb;go_enter Tryz.func179,Tryz.ntmps179
     go_wp2_with fail
     refine Calls.mono HX.out ?_;rintro e w1 ⟨rfl,hb⟩;have HI1:Hid _:=HI.out w1 hb;have HB:Hid _:=hb;clear hb HI;go_wp2_with fail
     refine Calls.mono HI1.out ?_;rintro e w2 ⟨rfl,hb2⟩;go_wp2_with fail
     go_ret2
     rw[HE.out];exact⟨rfl,HB.out.trans (hb2.mono HB.out.size)⟩
    ·have HE:Hid (scNum (bl s) d=none):=by show _=_;unfold scNum;rw[if_neg (by omega),show bl s=s.data.toList from rfl,hat];exact if_pos (Or.inr (fun h=>he (bl_inj (hyb.trans h))))
     have hne:(y.toList == s.toList)=false:=(Lib.bytes_beq_false_iff y s).2 he;clear hlen hat hS hT hy hyb he;go_enter Tryz.func179,Tryz.ntmps179
     go_wp2_with fail
     refine Calls.mono HX.out ?_;rintro e w1 ⟨rfl,hb⟩;have HI1:Hid _:=HI.out w1 hb;have HB:Hid _:=hb;clear hb HI;go_wp2_with fail
     refine Calls.mono HI1.out ?_;rintro e w2 ⟨rfl,hb2⟩;go_wp2_with fail
     go_ret2
     rw[HE.out];exact⟨rfl,HB.out.trans (hb2.mono HB.out.size)⟩
theorem scNums_append:∀ (d1:List Int) (w1:List Bs) (d2:List Int) (w2:List Bs),d1.length=w1.length->scNums (d1++d2) (w1++w2)=(scNums d1 w1).bind fun a=>(scNums d2 w2).map fun b=>a++b
 | [],[],d2,w2,_=>by show scNums d2 w2=(scNums d2 w2).map _;cases scNums d2 w2 <;> rfl
 | [],_ :: _,_,_,h=>by cases h
 | _ :: _,[],_,_,h=>by cases h
 | d :: d1,w :: w1,d2,w2,h=>by
  have ih:=scNums_append d1 w1 d2 w2 (by simpa using h);rw[List.cons_append,List.cons_append,scNums,scNums]
  cases scNum w d with
  | none=>rfl
  | some n=>
   simp only[ih]
   cases scNums d1 w1 with
   | none=>rfl
   | some a=>cases scNums d2 w2 <;> rfl
theorem scNums_ne:∀ (ds:List Int) (ws:List Bs),ds.length≠ws.length->scNums ds ws=none
 | [],[],h=>absurd rfl h
 | [],_ :: _,_=>rfl
 | _ :: _,[],_=>rfl
 | d :: ds,w :: ws,h=>by
  rw[scNums,scNums_ne ds ws (fun e=>h (by simp[e]))]
  cases scNum w d <;> rfl
theorem scNums_step {ds:List Int}{ws:List Bs}{k:Nat}{d:Int}{w:Bs}{ns:List Int}(hl:ds.length=ws.length)(hd:ds[k]?=some d)(hw:ws[k]?=some w)(h:scNums (ds.take k) (ws.take k)=some ns) :
  (scNum w d=none->scNums ds ws=none)/\∀ n,scNum w d=some n->scNums (ds.take (k+1)) (ws.take (k+1))=some (ns++[n]):=by
 have h1:(ds.take k).length=(ws.take k).length:=by simp[hl]
 have e:scNums (ds.take (k+1)) (ws.take (k+1))=(scNum w d).map fun n=>ns++[n]:=by
  rw[List.take_add_one,List.take_add_one,hd,hw,scNums_append _ _ _ _ h1,h];show ((scNums [d] [w]).map _)=_
  rw[scNums]
  cases scNum w d <;> rfl
 refine⟨fun hn=>?_,fun n hn=>by rw[e,hn];rfl⟩;rw[hn] at e;have h2:(ds.take (k+1)).length=(ws.take (k+1)).length:=by simp[hl]
 have:=scNums_append (ds.take (k+1)) (ws.take (k+1)) (ds.drop (k+1)) (ws.drop (k+1)) h2;rw[List.take_append_drop,List.take_append_drop,e] at this;exact this
theorem Tryz.infoIntN:(Tryz.prog.info? 3).map (fun i=>(i.zero,i.size,i.bytes))=some (some (.int .i64 0),1,8):=by kernel_rfl
def NumOut (A:Nat->Addr)(ds:List Int)(ws:List ByteArray)(w:World)(e:Ending)(w':World):Prop:=
 ∃ nv ev,e=.returned (.tuple #[nv,ev])/\Below w.heap.size w w'/\(scNums ds (ws.map bl)=none->ev=errVal A 1)/\∀ ns,scNums ds (ws.map bl)=some ns->ev=.nilIface/\SlAt encI 1 w' nv ns/\∀ g,nv.ownBlock=some g->w.heap.size<=g
set_option maxHeartbeats 4000000 in
set_option maxRecDepth 100000 in
theorem numbers_at (A:Nat->Addr)(ds:List Int)(ws:List ByteArray)(wa:Option Addr)(wc:Nat)(da:Option Addr)(dc:Nat)(w:World)(hT:TabAt w)(hS:SynAt w)(hG:(max 12 13+1)<=w.heap.size)(hE:w.cell? ⟨1,0,none⟩=some (.iface 400 (.pointer (some (A 0)))))
  (hd:∀ d∈ds,d<=18) (hws:SlAt encS 1 w (.slice wa ws.length wc) ws) (hds:SlAt encI 1 w (.slice da ds.length dc) ds) (hn:ds.length<=10) :
  Calls Tryz.prog 128 #[.slice wa ws.length wc,.slice da ds.length dc] w fun e w'=>NumOut A ds ws w e w':=by
 by_cases hl:ds.length=ws.length
 ·obtain⟨i0,hi0,hz0,hz1,hz2⟩:=info_parts Tryz.infoIntN;obtain⟨W1,hmk,hown1,hg1⟩:=run_make_own (P:=Tryz.prog) w w.heap.size 42 3 i0 (.int .i64 0) 1 Tryz.underlying42 hi0 hz0 hz1 .i64 .i64 ws.length (by rw[hz2];omega) (by unfold maxLen;omega) (Nat.le_refl _);have hb1:Below w.heap.size w W1:=⟨hg1.os,hg1.tape,hg1.output,hg1.size,fun k hk=>hg1.block k hk (by simp)⟩;have HB1:Hid _:=hb1;have HO1:Hid (W1.ownsRow w.heap.size 3 1 (.slice (some ⟨w.heap.size,0,none⟩) 0 ws.length) 0 (([]:List Int).flatMap encI)):=hown1;have HSt:Hid (∀ V,Below w.heap.size w V->TabAt V/\SynAt V/\V.cell? ⟨1,0,none⟩=some (.iface 400 (.pointer (some (A 0))))/\SlAt encS 1 V (.slice wa ws.length wc) ws/\SlAt encI 1 V (.slice da ds.length dc) ds/\(max 12 13+1)<=V.heap.size):=fun V hV=>⟨hT.below hV hG,hS.below hV,cell_below hV hE,hws.below hV,hds.below hV,Nat.le_trans hG hV.size⟩
  have HD:Hid _:=hd;have k0:((ws.length:Int) != (ds.length:Int))=false:=by simp[hl]
  have hl9:ws.length<=10:=by omega
  have HLn:Hid (ds.length=ws.length):=hl;have hmap:Option.map (fun x:Addr=>x.add 0) wa=wa:=by cases wa with | none=>rfl | some a=>simp[add_zero'']
  clear hT hS hG hE hws hds hn hl hd hown1 hg1 hb1;go_enter Tryz.func128,Tryz.ntmps128
  go_upto_region 4 with fail
  go_cut [20,21,22] (fun l' n i wx=>l'=.slice wa ws.length wc/\n=.int .i64 (ws.length:Int)/\i=.int .i64 0/\wx=W1)
  case first=>
   go_wp2_with fail
   go_meet
   case rel=>exact⟨rfl,rfl,rfl,rfl⟩
  obtain⟨rfl,rfl,rfl,rfl⟩:=hcut;clear hmk hmap;rename World=>W1
  go_wp2_with fail
  go_loopw [6,7,8,9,10,22] (fun av _ _ _ _ i wr=>∃ (n:Nat) (ns:List Int) (ka:Option Addr) (kc:Nat),n<=ws.length/\i=.int .i64 n/\av=.slice ka n kc/\Hid (scNums (ds.take n) ((ws.map bl).take n)=some ns)/\Hid (ns.length=n)/\Hid (wr.ownsRow w.heap.size 3 1 av n (ns.flatMap encI))/\Hid (Below w.heap.size w wr)) (fun _ _ _ _ _ i _=>ws.length - (intOf i).toNat)
  case atStart=>exact⟨0,[],_,_,Nat.zero_le _,rfl,rfl,rfl,rfl,HO1.out,HB1.out⟩
  case round=>
   clear HO1 HB1;obtain⟨n,ns,ka,kc,hnl,rfl,rfl,HN,HNl,HO,HB⟩:=hrel
   by_cases hlt:n < ws.length
   ·have k1:(n:Int) < (ws.length:Int):=by omega
    obtain⟨x,hx⟩:∃ x,ws[n]?=some x:=⟨_,List.getElem?_eq_getElem hlt⟩;obtain⟨d,hd⟩:∃ d,ds[n]?=some d:=⟨_,List.getElem?_eq_getElem (by have:=HLn.out;omega)⟩;obtain⟨s1,s2,s3,s4,s5,s6⟩:=HSt.out wr HB.out;obtain⟨g,o,rfl,hc⟩:=slatS_cell s4 hx;have c0:=hc n x hx;have hdl:n < ds.length:=by have:=HLn.out;omega
    obtain⟨g2,o2,rfl,hc2⟩:=slatI_cell s5 hd;have c1:=hc2 n d hd;have k2:(n:Int) < (ds.length:Int):=by omega
    have HX:Hid _:=scRead_at x d wr s1 s2 s6 (HD.out d (List.mem_of_getElem? hd));have HSn:Hid ((scNum (bl x) d=none->scNums ds (ws.map bl)=none)/\∀ n',scNum (bl x) d=some n'->scNums (ds.take (n+1)) ((ws.map bl).take (n+1))=some (ns++[n'])):=scNums_step (by simp[HLn.out]) hd (by simp[hx]) HN.out;clear hc hc2 hx hd s1 s2 s3 s4 s5 s6 hdl;go_wp2_with fail
    refine Calls.mono HX.out ?_;rintro e w3 ⟨rfl,hb3⟩;have HB3:Hid (Below w.heap.size w w3):=HB.out.trans (hb3.mono HB.out.size);have HO3:Hid (w3.ownsRow w.heap.size 3 1 (.slice ka n kc) n (ns.flatMap encI)):=SlOwnR.below HO.out hb3;clear HX hb3 HO c0 c1
    cases hv:scNum (bl x) d with
    | none=>
     have HNo:Hid _:=HSn.out.1 hv;have s3:=(HSt.out w3 HB3.out).2.2.1;rw[show (none:Option Int).getD 0=0 from rfl,show (none:Option Int).isSome=false from rfl];clear HSn hv;go_wp2_with fail
     go_region
     all_goals go_wp2
     all_goals go_ret2
     all_goals exact⟨_,_,rfl,below_drewN HB3.out 1,fun _=>rfl,fun ns h=>by rw[HNo.out] at h;cases h⟩
    | some y=>
     have HNo:Hid _:=HSn.out.2 y hv;rw[show (some y).getD 0=y from rfl,show (some y).isSome=true from rfl];have hz3:w.heap.size<=w3.heap.size:=HB3.out.size;clear HSn hv;go_wp2_with (at_builtin;refine wpList_append_lies _ rfl _ _ 42 rfl w.heap.size 3 i0 (.int .i64 0) 1 8 Tryz.underlying42 hi0 hz0 hz1 hz2 rfl (by decide) (.slice ka n kc) n (ns.flatMap encI) rfl (World.ownsRow.alloc HO3.out _) ⟨w3.heap.size,0,none⟩ 1 1 [.int .i64 y] rfl rfl (ce_at w3 [.int .i64 y] 3) (fun u hu=>by rw[List.mem_singleton] at hu;subst hu;rfl) (by decide) (by unfold maxLen;omega) (by omega) (by simp;omega) (w3.heap.size+1) (by simp) ?_;intro gg cc w12 hown hg hor hlt12)
     have HO4:Hid (w12.ownsRow w.heap.size 3 1 (.slice (some ⟨gg,0,none⟩) (n+1) cc) (n+1) ((ns++[y]).flatMap encI)):=by
      have e:(ns++[y]).flatMap encI=ns.flatMap encI++[.int .i64 y]:=by rw[List.flatMap_append];rfl
      show World.ownsRow _ _ _ _ _ _ _
      rw[e];exact hown
     have HB4:Hid (Below w.heap.size w w12):=(HB3.out.alloc hz3 _).grown hg (Nat.le_trans hz3 (by simp)) (fun k hk=>(HO3.out.lt k hk).1);clear hown hg hor hlt12 HO3;go_roundw
     case rel=>exact⟨n+1,ns++[y],_,_,by omega,by go_num,rfl,HNo.out,by show _=_;rw[List.length_append,HNl.out];rfl,HO4.out,HB4.out⟩
     case measure=>simp[intOf];omega
   ·obtain rfl:n=ws.length:=by omega
    have k1:¬(ws.length:Int) < (ws.length:Int):=by omega
    have HF:Hid (scNums ds (ws.map bl)=some ns):=by
     have h5:=HN.out;rw[<- HLn.out,List.take_length,HLn.out,show ws.length=(ws.map bl).length by simp,List.take_length] at h5;exact h5
    clear HN;go_wp2;go_ret2
    refine⟨_,_,rfl,HB.out,fun h=>(by rw[HF.out] at h;cases h),fun ns' h=>⟨rfl,?_⟩⟩;rw[HF.out] at h
    cases h
    exact⟨SlOwn.slat (B:=w.heap.size) (T:=3) (by show World.ownsRow _ _ _ _ _ _ _;rw[HNl.out];exact HO.out) (fun _=>rfl),fun g hg=>(HO.out.lt g hg).1⟩
 ·have HNo:Hid (scNums ds (ws.map bl)=none):=scNums_ne _ _ (by simpa using hl);have k0:((ws.length:Int) != (ds.length:Int))=true:=by rw[bne_iff_ne];omega
  clear hl hT hS hG hd hws hds;go_enter Tryz.func128,Tryz.ntmps128
  go_wp2_with fail
  go_region
  all_goals go_wp2
  all_goals go_ret2
  all_goals exact⟨_,_,rfl,below_drewN (Below.refl _ _) 1,fun _=>rfl,fun ns h=>by rw[HNo.out] at h;cases h⟩
end Go.Proofs.YtffpcbdlbcjihadGreatDoor
namespace Go.Proofs.YtffpcbdlbcjihadGreatDoor
open Go
def RBd (r:Rec):Prop:=r.seq < 4294967296/\r.ent < 256/\r.kind < 256/\r.tick < 281474976710656
theorem RBd.none:RBd .none:=by unfold RBd Rec.none;decide
theorem rbd_dec0 (l:List UInt8):RBd (dec0 l):=by
 have h:∀ (l:List UInt8) (n:Nat),numB (l.take n) < 256 ^ n:=fun l n=>Nat.lt_of_lt_of_le (num_lt _) (Nat.pow_le_pow_right (by decide) (by rw[List.length_take];exact Nat.min_le_left _ _))
 exact⟨h l 4,h (l.drop 4) 1,h (l.drop 5) 1,h (l.drop 6) 6⟩
theorem rbd_decR (l:List UInt8):RBd (decR l):=by
 unfold decR dec
 split
 ·exact RBd.none
 ·exact rbd_dec0 l
theorem rbd_helds (l:List UInt8):∀ r∈helds l 9,RBd r:=by
 intro r hr;simp only[helds,List.mem_map,List.mem_range] at hr;obtain⟨i,-,rfl⟩:=hr
 split
 ·unfold slotR
  split
  ·exact rbd_decR _
  ·exact RBd.none
 ·exact RBd.none
theorem rbd_chain (L:List Rec)(h:∀ r∈L,RBd r):∀ (m n:Nat),∀ r∈chain L m n,RBd r:=by
 intro m
 induction m with
 | zero=>intro n r hr;cases hr
 | succ m ih=>
  intro n r hr
  by_cases hc:0 < n/\(L.getD ((n - 1) % 9) .none).seq=n
  ·rw[chain_step L m n hc.1 hc.2] at hr
   rcases List.mem_cons.1 hr with rfl | hr
   ·rw[List.getD_eq_getElem?_getD]
    cases hg:L[(n - 1) % 9]? with
    | none=>exact RBd.none
    | some x=>exact h x (List.mem_of_getElem? hg)
   ·exact ih _ r hr
  ·rw[chain_stop L (m+1) n hc] at hr;cases hr
def KSt.LB (K:KSt):Prop:=∀ r∈K.L,RBd r
theorem lb_open (l:List UInt8):∀ r∈openL l,RBd r:=fun r hr=>by
 unfold openL newestL at hr;exact rbd_chain _ (rbd_helds _) _ _ r (List.mem_reverse.1 hr)
section
variable {c:CfgD}{K:KSt}{k W:Nat}
theorem LB.last (h:K.LB):RBd (lastR K.L):=by
 unfold lastR
 cases e:K.L.getLast? with
 | none=>exact RBd.none
 | some x=>exact h x (List.mem_of_getLast? e)
theorem LB.app (h:K.LB)(hl:(lastR K.L).seq<=4294967295)(e kd t:Nat)(h1:e<=255)(h2:kd<=255)(h3:t<=281474976710655):(K.app e kd t).1.LB:=by
 unfold KSt.app
 split
 ·exact h
 ·split
  ·exact h
  ·rename_i hq
   split
   ·intro r hr
    rcases List.mem_append.1 (show r∈keepL K.L _ from hr) with hr | hr
    ·refine h r ?_
     split at hr
     ·exact List.mem_of_mem_tail hr
     ·exact hr
    ·rw[List.mem_singleton.1 hr];exact⟨by show (lastR K.L).seq+1 < _;omega,by show e < 256;omega,by show kd < 256;omega,by show t < _;omega⟩
   ·exact h
theorem LB.ends (h:K.LB)(hf:KFit c K k W)(ho:K.c.off=false)(hi:∀ s∈K.ls,LFit s (k+K.d.now - 1))(h1:1<=K.d.now)(hn:K.d.now<=281474976710655):∀ n,n<=8->(K.ends c n).1.LB
 | 0,_=>h
 | n+1,hn8=>by
  have a1:=LB.ends h hf ho hi h1 hn n (by omega);obtain⟨f1,f2,f3,-,-⟩:=hf.ends ho hi h1 n;show KSt.LB (if (K.ends c n).2=0 then (K.ends c n).1.endOne c n else K.ends c n).1
  split
  ·unfold KSt.endOne
   split
   ·exact a1
   ·rename_i s hs
    split
    ·have hk:=kind_le (c.ents.getD n noEnt) s;exact LB.app (K:=(K.ends c n).1.setL n (s.fin (c.ents.getD n noEnt))) a1 f1.last n (s.kind (c.ents.getD n noEnt)).toNat (K.ends c n).1.d.now (by omega) (by omega) (by rw[f3];exact hn)
    ·exact a1
  ·exact a1
theorem LB.fin (h:K.LB):K.last.LB:=by unfold KSt.last;simp only[];split <;> exact h
theorem LB.tick (h:K.LB)(hf:KFit c K k W)(hr:KRt c)(hn:K.d.now < 1099511627776):(K.tick c).1.LB:=by
 unfold KSt.tick
 split
 ·exact h
 ·rename_i hon;obtain⟨ho,-⟩:=KSt.on_zero.1 (show K.on=0 by omega);obtain⟨t1,t2,t3⟩:=hf.ticked hn;have hnn:=hr.nn
  split
  ·exact h
  ·split
   ·exact h
   ·have a1:=LB.ends (K:=K.ticked) h t1 ho t2 t3 (by show K.d.now+1<=_;omega) c.ents.length hnn
    split
    ·exact LB.fin a1
    ·exact a1
theorem LB.ticks (hr:KRt c):∀ (n:Nat) (K:KSt),K.LB->KFit c K k (144*K.d.now)->K.d.now+n<=1099511627776->(K.ticks c n).1.LB
 | 0,K,h,_,_=>h
 | n+1,K,h,hf,hn=>by
  have a1:=LB.tick h hf hr (by omega);show KSt.LB (if (K.tick c).2=0 then (K.tick c).1.ticks c n else K.tick c).1
  split
  ·have h2:=tick_now c K;exact LB.ticks hr n (K.tick c).1 a1 (hf.tick hr (by omega)) (by omega)
  ·exact a1
theorem LB.opened (c:CfgD)(K:KSt):(KSt.opened c K).LB:=by
 have h:=lb_open (K.c.bytes.take K.c.size);unfold KSt.LB KSt.opened;generalize openL (K.c.bytes.take K.c.size)=L at h ⊢;exact h
theorem LB.boot (h:K.LB):(K.boot c).1.LB:=by
 unfold KSt.boot
 split
 ·exact h
 ·exact LB.opened _ _
theorem LB.cut (h:K.LB)(n:Int):(K.cut n).1.LB:=by unfold KSt.cut;split;exact h;split <;> exact h
theorem LB.begin (h:K.LB)(i:Int):(K.begin i).1.LB:=by unfold KSt.begin;split;exact h;split;exact h;split <;> exact h
theorem LB.stop (h:K.LB)(i:Int):(K.stop i).1.LB:=by unfold KSt.stop;split;exact h;split;exact h;split <;> exact h
theorem LB.report (h:K.LB)(i p:Int):(K.report c i p).1.LB:=by unfold KSt.report;split;exact h;split;exact h;split <;> exact h
theorem LB.new (c:CfgD)(s:CSt):(KSt.new c s).LB:=by unfold KSt.new;exact LB.opened _ _
theorem LB.scDo (h:K.LB)(hr:KRt c)(hf:KFit c K k (144*K.d.now))(ns:List Int)(kd N:Nat)(hN:kd=3->(ns.getD 0 0).toNat<=N)(hn:K.d.now+N<=1099511627776):(K.scDo c ns kd).1.LB:=by
 unfold KSt.scDo
 split
 ·exact LB.begin h _
 ·exact LB.stop h _
 ·exact LB.report h _ _
 ·have:=hN rfl;exact LB.ticks hr _ K h hf (by omega)
 ·exact LB.cut h _
 ·exact LB.boot h
 ·exact h
 ·exact h
 ·split <;> exact h
 ·exact h
 ·exact h
 ·exact h
 ·exact h
 ·exact h
theorem LB.scPlay (h:K.LB)(hr:KRt c)(hf:KFit c K k (144*K.d.now))(l:Bs)(hn:K.d.now+scTick l<=1099511627776):(K.scPlay c l).1.LB:=by
 unfold KSt.scPlay scTick at *;generalize cutBy 32 l=ws at *
 cases ws with
 | nil=>exact h
 | cons w ws=>
  cases hk:scKind w with
  | none=>rw[scWords_none hk];exact h
  | some kd=>
   cases hs:scNums (scDigs kd) ws with
   | none=>rw[scWords_bad hk hs];exact h
   | some ns=>
    rw[scWords_ok hk hs]
    refine LB.scDo h hr hf ns kd _ (fun e=>?_) hn;subst e;show _<=(if scKind w=some 3 then _ else _)
    rw[if_pos hk,show scNums [5] ws=some ns from hs];exact Nat.le_refl _
theorem LB.scRun (hr:KRt c):∀ (l:List Bs) (K:KSt) (k:Nat),K.LB->KFit c K k (144*K.d.now)->K.d.now+scTicks l<=900000->(scRun c K l).LB
 | [],K,k,h,_,_=>h
 | v :: l,K,k,h,hf,hn=>by
  have hl:scTicks (v :: l)=scTick v+scTicks l:=rfl;obtain⟨a,b,-⟩:=scPlay_fit hr hf v (by omega);exact LB.scRun hr l _ _ (LB.scPlay h hr hf v (by omega)) a (by omega)
end
end Go.Proofs.YtffpcbdlbcjihadGreatDoor
namespace Go.Proofs.YtffpcbdlbcjihadGreatDoor
open Go.RowKit Go.Extern.Stop Go.Stop Go.Extern
theorem byte_at (s:ByteArray)(k:Nat)(h:k < s.size):s[k]=s.data.toList.getD k 0:=by
 have:k < s.data.toList.length:=by rw[Array.length_toList];exact h
 rw[List.getD_eq_getElem?_getD,List.getElem?_eq_getElem this];rfl
theorem isName_no {s:ByteArray}(h:s.size < 1\/12 < s.size):isName s=false:=by
 unfold isName
 rcases h with h | h
 ·have:decide (1<=s.size)=false:=decide_eq_false (by omega);rw[this];rfl
 ·have:decide (s.size<=12)=false:=decide_eq_false (by omega);rw[this];simp
theorem isName_first {s:ByteArray}(h:isLetter (s.data.toList.getD 0 0)=false):isName s=false:=by
 have e:s.data.getD 0 0=s.data.toList.getD 0 0:=by simp
 unfold isName;rw[e,h];simp
theorem isName_bad {s:ByteArray}{k:Nat}(h1:k < s.size)(h:nameByte (s.data.toList.getD k 0)=false):isName s=false:=by
 have hk:k < s.data.toList.length:=by rw[Array.length_toList];exact h1
 have:s.data.toList.all nameByte=false:=by
  rw[List.all_eq_false]
  refine⟨s.data.toList.getD k 0,?_,by simpa using h⟩;rw[List.getD_eq_getElem?_getD,List.getElem?_eq_getElem hk];exact List.getElem_mem hk
 unfold isName;rw[this];simp
theorem isName_yes {s:ByteArray}(h1:1<=s.size)(h2:s.size<=12)(h3:isLetter (s.data.toList.getD 0 0)=true)(h:∀ j,j < s.size->nameByte (s.data.toList.getD j 0)=true):isName s=true:=by
 have e:s.data.getD 0 0=s.data.toList.getD 0 0:=by simp
 have ha:s.data.toList.all nameByte=true:=by
  rw[List.all_eq_true];intro b hb;obtain⟨j,hj,rfl⟩:=List.getElem_of_mem hb;have:=h j (by rw[Array.length_toList] at hj;exact hj);rw[List.getD_eq_getElem?_getD,List.getElem?_eq_getElem hj] at this;exact this
 unfold isName;rw[e,h3,ha];simp[h1,h2]
theorem bytes_madeC (w:World)(t:ByteArray):∃ cap W,(convert 9 58 (.string t)).run Tryz.prog w=.ok (.slice (some ⟨w.heap.size,0,.none⟩) t.size cap) W/\Below w.heap.size w W /\
  (∀ j,j < t.size->W.cell? ⟨w.heap.size,j,.none⟩=some (.int .u8 ((t.data.toList.getD j 0).toNat:Int))):=by
 exact⟨_,_,Lib.run_convert_string_bytes w 9 58 5 t Tryz.underlying9 Tryz.underlying58 Tryz.underlying5,⟨rfl,rfl,rfl,by rw[Lib.bytesWorld_size];omega,fun i hi=>Lib.bytesWorld_at_old w _ t i hi⟩,fun j hj=>Lib.bytesWorld_cell w _ t j hj⟩
set_option maxHeartbeats 1000000 in
theorem isName_at (s:ByteArray)(w:World)(hs:s.size<=1000000):Calls Tryz.prog 146 #[.string s] w fun e w'=>e=.returned (.bool (isName s))/\Below w.heap.size w w':=by
 by_cases hsz:1<=s.size/\s.size<=12
 ·obtain⟨z1,z2⟩:=hsz;have hw:=within_at (s.size:Int) 1 12 w;rw[show within (s.size:Int) 1 12=true by simp[within];omega] at hw;have k0:(0:Int) < (s.size:Int):=by omega
  have hb0:Hid (∀ h:0 < s.size,s[0]=s.data.toList.getD 0 0):=fun h=>byte_at s 0 h
  have hl:=isLetter_at (s.data.toList.getD 0 0) w
  by_cases hL:isLetter (s.data.toList.getD 0 0)=true
  ·rw[hL] at hl;have HZ:Hid (1<=s.size/\s.size<=12/\isLetter (s.data.toList.getD 0 0)=true):=⟨z1,z2,hL⟩;clear z1 z2 hL hs;go_enter Tryz.func146,Tryz.ntmps146
   go_wp2_with fail
   refine hw.mono ?_;rintro e w' ⟨rfl,rfl⟩;go_wp2_with fail
   rw[hb0.out]
   refine hl.mono ?_;rintro e w ⟨rfl,rfl⟩;clear hl hw hb0 k0;obtain⟨cap,W,hcv,hbW,hcell⟩:=bytes_madeC w s;have HCl:Hid (∀ j,j < s.size->W.cell? ⟨w.heap.size,j,.none⟩=some (.int .u8 ((s.data.toList.getD j 0).toNat:Int))):=hcell;have HbW:Hid (Below w.heap.size w W):=hbW;clear hcell hbW;go_wp2_with fail
   go_loopw [4,18] (fun _ i wr=>∃ k:Nat,k<=s.size/\i=.int .i64 k/\wr=W/\∀ j,j < k->nameByte (s.data.toList.getD j 0)=true) (fun _ i _=>s.size - (intOf i).toNat)
   case atStart=>exact⟨0,Nat.zero_le _,rfl,rfl,fun j hj=>absurd hj (Nat.not_lt_zero _)⟩
   case round=>
    obtain⟨k,hk,rfl,rfl,hall⟩:=hrel
    by_cases hlt:k < s.size
    ·have hc:=HCl.out k hlt;have HB:Hid (∀ j,j < k->nameByte (s.data.toList.getD j 0)=true):=hall;have HY:Hid (nameByte (s.data.toList.getD k 0)=false->isName s=false):=fun h=>isName_bad hlt h
     have k1:(k:Int) < (s.size:Int):=by omega
     have k12:k < 12:=by have:=HZ.out.2.1;omega
     have HX:Hid (∀ b:Bool,nameByte (s.data.toList.getD k 0)=b->nameByte (s.data.toList.getD k 0)=b):=fun b h=>h
     have HK:Hid (∃ c,c=s.data.toList.getD k 0):=⟨_,rfl⟩;clear hall hcv;obtain⟨c,hcc⟩:=HK.out;rw[<- hcc] at hc;have HC:Hid (c=s.data.toList.getD k 0):=hcc;clear hcc HK HX;have hd:=isDigit_at c;have hl2:=isLetter_at c
     by_cases b1:isLetter c=true
     ·rw[b1] at hl2;go_wp2_with fail
      refine(hl2 _).mono ?_;rintro e w' ⟨rfl,rfl⟩;go_wp2;go_roundw
      case rel=>
       refine⟨k+1,by omega,by go_num,by first | trivial | rfl,fun j hj=>?_⟩
       by_cases e:j=k
       ·rw[e,<- HC.out];simp[nameByte,b1]
       ·exact HB.out j (by omega)
      case measure=>simp[intOf];omega
     ·simp only[Bool.not_eq_true] at b1;rw[b1] at hl2
      by_cases b2:isDig c=true
      ·rw[b2] at hd;go_wp2_with fail
       refine(hl2 _).mono ?_;rintro e w' ⟨rfl,rfl⟩;go_wp2_with fail
       refine(hd _).mono ?_;rintro e w' ⟨rfl,rfl⟩;go_wp2;go_roundw
       case rel=>
        refine⟨k+1,by omega,by go_num,by first | trivial | rfl,fun j hj=>?_⟩
        by_cases e:j=k
        ·rw[e,<- HC.out];simp[nameByte,b2]
        ·exact HB.out j (by omega)
       case measure=>simp[intOf];omega
      ·simp only[Bool.not_eq_true] at b2;rw[b2] at hd
       by_cases b3:(c.toNat:Int)=45
       ·have b4:((c.toNat:Int) == 45)=true:=by simpa using b3
        have HN:Hid (nameByte c=true):=by show _=_;simp[nameByte];right;omega
        clear b3;go_wp2_with fail
        refine(hl2 _).mono ?_;rintro e w' ⟨rfl,rfl⟩;go_wp2_with fail
        refine(hd _).mono ?_;rintro e w' ⟨rfl,rfl⟩;go_wp2;go_roundw
        case rel=>
         refine⟨k+1,by omega,by go_num,by first | trivial | rfl,fun j hj=>?_⟩
         by_cases e:j=k
         ·rw[e,<- HC.out];exact HN.out
         ·exact HB.out j (by omega)
        case measure=>simp[intOf];omega
       ·have HN:Hid (nameByte c=false):=by show _=_;simp[nameByte,b1,b2];omega
        go_wp2_with fail
        refine(hl2 _).mono ?_;rintro e w' ⟨rfl,rfl⟩;go_wp2_with fail
        refine(hd _).mono ?_;rintro e w' ⟨rfl,rfl⟩;go_wp2;go_ret;exact⟨by rw[HY.out (by rw[<- HC.out];exact HN.out)];rfl,HbW.out⟩
    ·have HY:Hid (isName s=true):=isName_yes HZ.out.1 HZ.out.2.1 HZ.out.2.2 (fun j hj=>hall j (by omega));have k1:¬(k:Int) < (s.size:Int):=by omega
     clear hall hcv;go_wp2;go_ret;exact⟨by rw[HY.out];rfl,HbW.out⟩
  ·simp only[Bool.not_eq_true] at hL;rw[hL] at hl;have HY:Hid (isName s=false):=isName_first hL;go_enter Tryz.func146,Tryz.ntmps146
   go_wp2_with fail
   refine hw.mono ?_;rintro e w' ⟨rfl,rfl⟩;go_wp2_with fail
   rw[hb0.out]
   refine hl.mono ?_;rintro e w' ⟨rfl,rfl⟩;go_wp2;go_ret;exact⟨by rw[HY.out];rfl,Below.refl _ _⟩
 ·have hw:=within_at (s.size:Int) 1 12 w;rw[show within (s.size:Int) 1 12=false by simp[within];omega] at hw;have HY:Hid (isName s=false):=isName_no (by omega);clear hsz;go_enter Tryz.func146,Tryz.ntmps146
  go_wp2_with fail
  refine hw.mono ?_;rintro e w' ⟨rfl,rfl⟩;go_wp2;go_ret;exact⟨by rw[HY.out];rfl,Below.refl _ _⟩
structure RulesAt (A:Nat->Addr)(w:World)(rb:Nat)(v:Value)(l:List (Bool × Nat))(g:Nat->Nat):Prop where
 cell:∀ i b c,l[i]?=some (b,c)->w.cell? ⟨rb,i*2,none⟩=some (errV A c)/\w.cell? ⟨rb,i*2+1,none⟩=some (.func (.func (g i)) #[] #[])
 eg:∀ i b c,l[i]?=some (b,c)->∀ args w,(callFunc (g i) args).run Tryz.prog w=.ok (.enter (g i) args) w
 call:∀ i b c,l[i]?=some (b,c)->∀ W,Below w.heap.size w W->Calls Tryz.prog (g i) #[v] W fun e W'=>e=.returned (.bool b)/\Below W.heap.size W W'
 few:l.length<=100
 pos:∀ (i:Nat) (b:Bool) (c:Nat),l[i]?=some (b,c)->0 < c
theorem firstOf_at:∀ (l:List (Bool × Nat)) (k:Nat) (c:Nat),(∀ (i:Nat) (b:Bool) (d:Nat),i < k->l[i]?=some (b,d)->b=false)->l[k]?=some (true,c)->firstOf l=c
 | [],k,c,_,h=>by simp at h
 | (b,d) :: t,0,c,_,h=>by simp at h;obtain⟨rfl,rfl⟩:=h;simp[firstOf]
 | (b,d) :: t,k+1,c,h,h2=>by
  have:=h 0 b d (by omega) rfl;subst this;simp[firstOf]
  exact firstOf_at t k c (fun i b d hi e=>h (i+1) b d (by omega) (by simpa using e)) (by simpa using h2)
theorem firstOf_none:∀ (l:List (Bool × Nat)),(∀ (i:Nat) (b:Bool) (d:Nat),l[i]?=some (b,d)->b=false)->firstOf l=0
 | [],_=>rfl
 | (b,d) :: t,h=>by
  have:=h 0 b d rfl;subst this;simp[firstOf]
  exact firstOf_none t (fun i b d e=>h (i+1) b d (by simpa using e))
set_option maxHeartbeats 1000000 in
theorem first_cfg (A:Nat->Addr)(x0 x1 x2 x3:Int)(sa:Option Addr)(sn sc:Nat)(rb:Nat)(l:List (Bool × Nat))(g:Nat->Nat)(w:World)(h:RulesAt A w rb (.agg #[.int .i64 x0,.int .i64 x1,.int .i64 x2,.int .i64 x3,.slice sa sn sc]) l g) :
  Calls Tryz.prog 89 #[.agg #[.int .i64 x0,.int .i64 x1,.int .i64 x2,.int .i64 x3,.slice sa sn sc],.slice (some ⟨rb,0,none⟩) l.length l.length] w fun e w'=>e=.returned (errV A (firstOf l))/\Below w.heap.size w w':=by
 have hfew:Hid (l.length<=100):=h.few;have H:Hid (RulesAt A w rb (.agg #[.int .i64 x0,.int .i64 x1,.int .i64 x2,.int .i64 x3,.slice sa sn sc]) l g):=h;clear h;go_enter Tryz.func89,Tryz.ntmps89
 go_wp2_with fail
 have HS:Hid (∀ W,Below (w.heap.size+1) (w.alloc (.cells #[.int .i64 x0,.int .i64 x1,.int .i64 x2,.int .i64 x3,.slice sa sn sc] 30)) W->Below w.heap.size w W/\w.heap.size+1<=W.heap.size/\W.cell? ⟨w.heap.size,0,none⟩=some (.int .i64 x0)/\W.cell? ⟨w.heap.size,1,none⟩=some (.int .i64 x1)/\W.cell? ⟨w.heap.size,2,none⟩=some (.int .i64 x2)/\W.cell? ⟨w.heap.size,3,none⟩=some (.int .i64 x3)/\W.cell? ⟨w.heap.size,4,none⟩=some (.slice sa sn sc)):=fun W hb=>by
  have hc:∀ j v,(w.alloc (.cells #[.int .i64 x0,.int .i64 x1,.int .i64 x2,.int .i64 x3,.slice sa sn sc] 30)).cell? ⟨w.heap.size,j,none⟩=some v->W.cell? ⟨w.heap.size,j,none⟩=some v:=fun j v e=>(hb.cell (p:=⟨w.heap.size,j,none⟩) (Nat.lt_succ_self _)).trans e
  exact⟨((Below.refl _ _).alloc (Nat.le_refl _) _).trans (hb.mono (Nat.le_succ _)),by simpa using hb.size,hc 0 (.int .i64 x0) (by simp),hc 1 (.int .i64 x1) (by simp),hc 2 (.int .i64 x2) (by simp),hc 3 (.int .i64 x3) (by simp),hc 4 (.slice sa sn sc) (by simp)⟩
 go_loopw [6,9] (fun _ i wr=>∃ k:Nat,k<=l.length/\i=.int .i64 k/\Below (w.heap.size+1) (w.alloc (.cells #[.int .i64 x0,.int .i64 x1,.int .i64 x2,.int .i64 x3,.slice sa sn sc] 30)) wr/\Hid (∀ (i:Nat) (b:Bool) (d:Nat),i < k->l[i]?=some (b,d)->b=false)) (fun _ i _=>l.length - (intOf i).toNat)
 case atStart=>exact⟨0,Nat.zero_le _,rfl,Below.refl _ _,fun i b d hi=>absurd hi (Nat.not_lt_zero _)⟩
 case round=>
  obtain⟨k,hk,rfl,hbw,hall⟩:=hrel;obtain⟨hbw1,hsz,p0,p1,p2,p3,p4⟩:=HS.out _ hbw
  by_cases hlt:k < l.length
  ·obtain⟨⟨b,c⟩,hkk⟩:∃ x,l[k]?=some x:=⟨_,List.getElem?_eq_getElem hlt⟩;have c0:=cell_below hbw1 (H.out.cell k b c hkk).1;have c1:=cell_below hbw1 (H.out.cell k b c hkk).2;have egk:=H.out.eg k b c hkk;have HC:Hid (∀ W,Below w.heap.size w W->Calls Tryz.prog (g k) #[.agg #[.int .i64 x0,.int .i64 x1,.int .i64 x2,.int .i64 x3,.slice sa sn sc]] W fun e W'=>e=.returned (.bool b)/\Below W.heap.size W W'):=H.out.call k b c hkk;have HK:Hid (l[k]?=some (b,c)):=hkk;have hk100:k < 100:=by have:=hfew.out;omega
   have k1:(k:Int) < (l.length:Int):=by omega
   have HB:Hid (Below (w.heap.size+1) (w.alloc (.cells #[.int .i64 x0,.int .i64 x1,.int .i64 x2,.int .i64 x3,.slice sa sn sc] 30)) wr):=hbw;have HB1:Hid (Below w.heap.size w wr):=hbw1;have hpos:=H.out.pos k b c hkk;clear hkk hbw hbw1 HS H;have ha:∀ (j:Nat) (v:Value),wr.cell? ⟨w.heap.size,j,none⟩=some v->∀ o,(wr.alloc o).cell? ⟨w.heap.size,j,none⟩=some v:=fun j v e o=>(World.cell?_alloc_lt wr o ⟨w.heap.size,j,none⟩ (block_lt e)).trans e
   have q0:=ha _ _ p0;have q1:=ha _ _ p1;have q2:=ha _ _ p2;have q3:=ha _ _ p3;have q4:=ha _ _ p4;clear ha p0 p1 p2 p3 p4;generalize g k=gk at *;obtain⟨c,rfl⟩:∃ d,c=d+1:=⟨c - 1,by omega⟩;unfold errV at c0;clear hpos
   cases b with
   | true=>
    go_wp2_with fail
    refine(HC.out _ (HB1.out.trans (((Below.refl _ _).alloc (Nat.le_refl _) _).mono HB1.out.size))).mono ?_;rintro e W' ⟨rfl,hb'⟩;have d0:W'.cell? ⟨wr.heap.size,0,none⟩=some (.iface 400 (.pointer (some (A c)))):=cell_below hb' (by simp);have HW:Hid (Below w.heap.size w W'):=HB1.out.trans ((((Below.refl _ _).alloc (Nat.le_refl _) _).mono HB1.out.size).trans (hb'.mono (by simp;have:=HB1.out.size;omega)));clear hb';go_wp2;go_ret;exact⟨by rw[firstOf_at l k (c+1) hall.out HK.out];rfl,HW.out⟩
   | false=>
    go_wp2_with fail
    refine(HC.out _ (HB1.out.trans (((Below.refl _ _).alloc (Nat.le_refl _) _).mono HB1.out.size))).mono ?_;rintro e W' ⟨rfl,hb'⟩;have HW:Hid (Below (w.heap.size+1) (w.alloc (.cells #[.int .i64 x0,.int .i64 x1,.int .i64 x2,.int .i64 x3,.slice sa sn sc] 30)) W'):=HB.out.trans ((((Below.refl _ _).alloc (Nat.le_refl _) _).mono hsz).trans (hb'.mono (by simp;omega)));clear hb';go_wp2;go_roundw
    case rel=>
     refine⟨k+1,by omega,by go_num,HW.out,fun i b d hi e=>?_⟩
     by_cases hik:i=k
     ·subst hik;have:=HK.out;rw[this] at e
      cases e
      rfl
     ·exact hall.out i b d (by omega) e
    case measure=>simp[intOf];omega
  ·have HN:Hid (firstOf l=0):=firstOf_none l (fun i b d e=>hall.out i b d (by have:=(List.getElem?_eq_some_iff.1 e).1;omega) e);have k1:¬(k:Int) < (l.length:Int):=by omega
   clear HS H;go_wp2;go_ret;exact⟨by rw[HN.out];rfl,hbw1⟩
set_option maxHeartbeats 1000000 in
theorem first_ent (A:Nat->Addr)(nm:ByteArray)(tol cnt mn mx:Int)(pa ga ea fa la:Option Addr)(pn pc gn gc en ec fn fc ln lc:Nat)(rb:Nat)(l:List (Bool × Nat))(g:Nat->Nat)(w:World)(h:RulesAt A w rb (.agg #[.string nm,.int .i64 tol,.slice pa pn pc,.int .i64 cnt,.int .i64 mn,.int .i64 mx,.slice ga gn gc,.slice ea en ec,.slice fa fn fc,.slice la ln lc]) l g) :
  Calls Tryz.prog 149 #[.agg #[.string nm,.int .i64 tol,.slice pa pn pc,.int .i64 cnt,.int .i64 mn,.int .i64 mx,.slice ga gn gc,.slice ea en ec,.slice fa fn fc,.slice la ln lc],.slice (some ⟨rb,0,none⟩) l.length l.length] w fun e w'=>e=.returned (errV A (firstOf l))/\Below w.heap.size w w':=by
 have hfew:Hid (l.length<=100):=h.few;have H:Hid (RulesAt A w rb (.agg #[.string nm,.int .i64 tol,.slice pa pn pc,.int .i64 cnt,.int .i64 mn,.int .i64 mx,.slice ga gn gc,.slice ea en ec,.slice fa fn fc,.slice la ln lc]) l g):=h;clear h;go_enter Tryz.func149,Tryz.ntmps149
 go_wp2_with fail
 have HS:Hid (∀ W,Below (w.heap.size+1) (w.alloc (.cells #[.string nm,.int .i64 tol,.slice pa pn pc,.int .i64 cnt,.int .i64 mn,.int .i64 mx,.slice ga gn gc,.slice ea en ec,.slice fa fn fc,.slice la ln lc] 83)) W->Below w.heap.size w W/\w.heap.size+1<=W.heap.size/\W.cell? ⟨w.heap.size,0,none⟩=some (.string nm)/\W.cell? ⟨w.heap.size,1,none⟩=some (.int .i64 tol)/\W.cell? ⟨w.heap.size,2,none⟩=some (.slice pa pn pc)/\W.cell? ⟨w.heap.size,3,none⟩=some (.int .i64 cnt)/\W.cell? ⟨w.heap.size,4,none⟩=some (.int .i64 mn)/\W.cell? ⟨w.heap.size,5,none⟩=some (.int .i64 mx)/\W.cell? ⟨w.heap.size,6,none⟩=some (.slice ga gn gc)/\W.cell? ⟨w.heap.size,7,none⟩=some (.slice ea en ec)/\W.cell? ⟨w.heap.size,8,none⟩=some (.slice fa fn fc)/\W.cell? ⟨w.heap.size,9,none⟩=some (.slice la ln lc)):=fun W hb=>by
  have hc:∀ j v,(w.alloc (.cells #[.string nm,.int .i64 tol,.slice pa pn pc,.int .i64 cnt,.int .i64 mn,.int .i64 mx,.slice ga gn gc,.slice ea en ec,.slice fa fn fc,.slice la ln lc] 83)).cell? ⟨w.heap.size,j,none⟩=some v->W.cell? ⟨w.heap.size,j,none⟩=some v:=fun j v e=>(hb.cell (p:=⟨w.heap.size,j,none⟩) (Nat.lt_succ_self _)).trans e
  exact⟨((Below.refl _ _).alloc (Nat.le_refl _) _).trans (hb.mono (Nat.le_succ _)),by simpa using hb.size,hc 0 (.string nm) (by simp),hc 1 (.int .i64 tol) (by simp),hc 2 (.slice pa pn pc) (by simp),hc 3 (.int .i64 cnt) (by simp),hc 4 (.int .i64 mn) (by simp),hc 5 (.int .i64 mx) (by simp),hc 6 (.slice ga gn gc) (by simp),hc 7 (.slice ea en ec) (by simp),hc 8 (.slice fa fn fc) (by simp),hc 9 (.slice la ln lc) (by simp)⟩
 go_loopw [6,9] (fun _ i wr=>∃ k:Nat,k<=l.length/\i=.int .i64 k/\Below (w.heap.size+1) (w.alloc (.cells #[.string nm,.int .i64 tol,.slice pa pn pc,.int .i64 cnt,.int .i64 mn,.int .i64 mx,.slice ga gn gc,.slice ea en ec,.slice fa fn fc,.slice la ln lc] 83)) wr/\Hid (∀ (i:Nat) (b:Bool) (d:Nat),i < k->l[i]?=some (b,d)->b=false)) (fun _ i _=>l.length - (intOf i).toNat)
 case atStart=>exact⟨0,Nat.zero_le _,rfl,Below.refl _ _,fun i b d hi=>absurd hi (Nat.not_lt_zero _)⟩
 case round=>
  obtain⟨k,hk,rfl,hbw,hall⟩:=hrel;obtain⟨hbw1,hsz,p0,p1,p2,p3,p4,p5,p6,p7,p8,p9⟩:=HS.out _ hbw
  by_cases hlt:k < l.length
  ·obtain⟨⟨b,c⟩,hkk⟩:∃ x,l[k]?=some x:=⟨_,List.getElem?_eq_getElem hlt⟩;have c0:=cell_below hbw1 (H.out.cell k b c hkk).1;have c1:=cell_below hbw1 (H.out.cell k b c hkk).2;have egk:=H.out.eg k b c hkk;have HC:Hid (∀ W,Below w.heap.size w W->Calls Tryz.prog (g k) #[.agg #[.string nm,.int .i64 tol,.slice pa pn pc,.int .i64 cnt,.int .i64 mn,.int .i64 mx,.slice ga gn gc,.slice ea en ec,.slice fa fn fc,.slice la ln lc]] W fun e W'=>e=.returned (.bool b)/\Below W.heap.size W W'):=H.out.call k b c hkk;have HK:Hid (l[k]?=some (b,c)):=hkk;have hk100:k < 100:=by have:=hfew.out;omega
   have k1:(k:Int) < (l.length:Int):=by omega
   have HB:Hid (Below (w.heap.size+1) (w.alloc (.cells #[.string nm,.int .i64 tol,.slice pa pn pc,.int .i64 cnt,.int .i64 mn,.int .i64 mx,.slice ga gn gc,.slice ea en ec,.slice fa fn fc,.slice la ln lc] 83)) wr):=hbw;have HB1:Hid (Below w.heap.size w wr):=hbw1;have hpos:=H.out.pos k b c hkk;clear hkk hbw hbw1 HS H;have ha:∀ (j:Nat) (v:Value),wr.cell? ⟨w.heap.size,j,none⟩=some v->∀ o,(wr.alloc o).cell? ⟨w.heap.size,j,none⟩=some v:=fun j v e o=>(World.cell?_alloc_lt wr o ⟨w.heap.size,j,none⟩ (block_lt e)).trans e
   have q0:=ha _ _ p0;have q1:=ha _ _ p1;have q2:=ha _ _ p2;have q3:=ha _ _ p3;have q4:=ha _ _ p4;have q5:=ha _ _ p5;have q6:=ha _ _ p6;have q7:=ha _ _ p7;have q8:=ha _ _ p8;have q9:=ha _ _ p9;clear ha p0 p1 p2 p3 p4 p5 p6 p7 p8 p9;generalize g k=gk at *;obtain⟨c,rfl⟩:∃ d,c=d+1:=⟨c - 1,by omega⟩;unfold errV at c0;clear hpos
   cases b with
   | true=>
    go_wp2_with fail
    refine(HC.out _ (HB1.out.trans (((Below.refl _ _).alloc (Nat.le_refl _) _).mono HB1.out.size))).mono ?_;rintro e W' ⟨rfl,hb'⟩;have d0:W'.cell? ⟨wr.heap.size,0,none⟩=some (.iface 400 (.pointer (some (A c)))):=cell_below hb' (by simp);have HW:Hid (Below w.heap.size w W'):=HB1.out.trans ((((Below.refl _ _).alloc (Nat.le_refl _) _).mono HB1.out.size).trans (hb'.mono (by simp;have:=HB1.out.size;omega)));clear hb';go_wp2;go_ret;exact⟨by rw[firstOf_at l k (c+1) hall.out HK.out];rfl,HW.out⟩
   | false=>
    go_wp2_with fail
    refine(HC.out _ (HB1.out.trans (((Below.refl _ _).alloc (Nat.le_refl _) _).mono HB1.out.size))).mono ?_;rintro e W' ⟨rfl,hb'⟩;have HW:Hid (Below (w.heap.size+1) (w.alloc (.cells #[.string nm,.int .i64 tol,.slice pa pn pc,.int .i64 cnt,.int .i64 mn,.int .i64 mx,.slice ga gn gc,.slice ea en ec,.slice fa fn fc,.slice la ln lc] 83)) W'):=HB.out.trans ((((Below.refl _ _).alloc (Nat.le_refl _) _).mono hsz).trans (hb'.mono (by simp;omega)));clear hb';go_wp2;go_roundw
    case rel=>
     refine⟨k+1,by omega,by go_num,HW.out,fun i b d hi e=>?_⟩
     by_cases hik:i=k
     ·subst hik;have:=HK.out;rw[this] at e
      cases e
      rfl
     ·exact hall.out i b d (by omega) e
    case measure=>simp[intOf];omega
  ·have HN:Hid (firstOf l=0):=firstOf_none l (fun i b d e=>hall.out i b d (by have:=(List.getElem?_eq_some_iff.1 e).1;omega) e);have k1:¬(k:Int) < (l.length:Int):=by omega
   clear HS H;go_wp2;go_ret;exact⟨by rw[HN.out];rfl,hbw1⟩
end Go.Proofs.YtffpcbdlbcjihadGreatDoor
