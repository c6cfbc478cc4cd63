/-
  Several texts as one: ToSt, KeMem.
-/
import Derived.Test.YtffpcbdlbcjihadGreatDoorP15S
import Derived.Test.YtffpcbdlbcjihadGreatDoorP10S
import Derived.BigQuiet
import Derived.Deep.QuietTactic
import Derived.Deep.DeepCutAuto
import Derived.WalkSmall
import Derived.Maps.AppendAt
namespace Go.Proofs.YtffpcbdlbcjihadGreatDoor
open Go.RowKit Go.Extern.Stop Go.Stop Go.Extern
section
variable {w0 w1 w w':World}{b:Nat}{s s':TSt}
def toRow (s:TSt):Array Value:=#[.string (totB s.st),.int .i64 ((s.delay:Int) - (s.since:Int))]
structure ToIn (w0 w:World)(b:Nat)(s:TSt):Prop where
 heap:w.heap[b]?=some (.cells (toRow s) 256 (0,0))
 bel:Below w0.heap.size w0 w
 lo:w0.heap.size<=b
theorem to_new (d:Nat)(w:World)(hd:d<=20) :
  Calls Tryz.prog 167 #[.int .i64 (d:Int)] w fun v w'=>∃ b,v=.returned (.tuple #[.pointer (some ⟨b,0,none⟩),.nilIface])/\ToIn w w' b (TSt.new d):=by
 have g1:¬(d:Int) < 0:=by omega
 have g2:¬20 < (d:Int):=by omega
 have e:toRow (TSt.new d)=#[.string ⟨#[111,107]⟩,.int .i64 (d:Int)]:=by simp[toRow,TSt.new,totB]
 have HE:Hid (toRow (TSt.new d)=#[.string ⟨#[111,107]⟩,.int .i64 (d:Int)]):=e;clear e;go_enter Tryz.func167,Tryz.ntmps167
 go_wp2;go_ret2
 exact⟨w.heap.size,rfl,by rw[HE.out];exact heap_alloc_new w _,Below.one _ _,Nat.le_refl _⟩
theorem to_status (h:ToIn w0 w b s) :
  Calls Tryz.prog 120 #[.pointer (some ⟨b,0,none⟩)] w fun v w'=>v=.returned (.string (totB s.st))/\w'=w:=by
 have hr:=h.heap;have c0:w.cell? ⟨b,0,none⟩=some (.string (totB s.st)):=by simp[World.cell?,hr,toRow]
 clear h hr;go_enter Tryz.func120,Tryz.ntmps120
 go_wp2;go_ret;exact⟨rfl,rfl⟩
theorem to_may (h:ToIn w0 w b s)(hs:s.st<=3) :
  Calls Tryz.prog 239 #[.pointer (some ⟨b,0,none⟩)] w fun v w'=>v=.returned (.bool (decide (s.st≠3)))/\w'=w:=by
 have hr:=h.heap;have c2:∀ x,totB s.st=x->w.cell? ⟨b,0,none⟩=some (.string x):=fun x hx=>by simp[World.cell?,hr,hx,toRow]
 obtain⟨d,si,st⟩:=s;clear h hr;have hs':st<=3:=hs
 match st,hs' with
 | 0,_=>
  have c:=c2 ⟨#[111,107]⟩ rfl;clear c2;go_enter Tryz.func239,Tryz.ntmps239
  go_wp2;go_ret;exact⟨rfl,rfl⟩
 | 1,_=>
  have c:=c2 ⟨#[102,97,105,108,101,100]⟩ rfl;clear c2;go_enter Tryz.func239,Tryz.ntmps239
  go_wp2;go_ret;exact⟨rfl,rfl⟩
 | 2,_=>
  have c:=c2 ⟨#[101,120,112,105,114,101,100]⟩ rfl;clear c2;go_enter Tryz.func239,Tryz.ntmps239
  go_wp2;go_ret;exact⟨rfl,rfl⟩
 | 3,_=>
  have c:=c2 ⟨#[115,116,111,112,112,101,100]⟩ rfl;clear c2;go_enter Tryz.func239,Tryz.ntmps239
  go_wp2;go_ret;exact⟨rfl,rfl⟩
set_option maxRecDepth 100000 in
theorem sindex_at (l:List ByteArray)(s:ByteArray)(sa:Option Addr)(cap:Nat)(w:World)(h:SlAt encS 1 w (.slice sa l.length cap) l)(hn:l.length<=1000000) :
  Calls Tryz.prog 331 #[.slice sa l.length cap,.string s] w fun e w'=>e=.returned (.int .i64 (idxOf l s))/\w'=w:=by
 have HL:Hid (SlAt encS 1 w (.slice sa l.length cap) l):=h;clear h;go_enter Tryz.func331,Tryz.ntmps331
 go_wp2_with fail
 go_loopw [5,8] (fun _ i wr=>wr=w/\∃ k:Nat,k<=l.length/\i=.int .i64 k/\∀ j x,j < k->l[j]?=some x->x≠s) (fun _ i _=>l.length - (intOf i).toNat)
 case atStart=>exact⟨rfl,0,Nat.zero_le _,rfl,fun j x hj=>absurd hj (by omega)⟩
 case round=>
  obtain⟨rfl,k,hk,rfl,hno⟩:=hrel;have HN:Hid (∀ j x,j < k->l[j]?=some x->x≠s):=hno;clear hno
  by_cases hlt:k < l.length
  ·have k1:(k:Int) < (l.length:Int):=by omega
   obtain⟨x,hx⟩:∃ x,l[k]?=some x:=⟨_,List.getElem?_eq_getElem hlt⟩;have HX:Hid (l[k]?=some x):=hx;obtain⟨g,o,rfl,hc⟩:=slatS_cell HL.out hx;have c0:=hc k x hx;clear hc hx
   by_cases e:x=s
   ·subst e;have HE:Hid (idxOf l x=k):=idxOf_at HX.out HN.out;go_wp2;go_ret;exact⟨by rw[HE.out];rfl,rfl⟩
   ·have n1:=(bytesN e).1;have n2:=(bytesN e).2;have n3:=(bytesN (fun e'=>e e'.symm:¬s=x)).1;have n4:=(bytesN (fun e'=>e e'.symm:¬s=x)).2;go_wp2_with fail
    go_roundw
    case rel=>
     refine⟨trivial,k+1,by omega,by go_num,fun j y hj hy=>?_⟩
     rcases Nat.lt_or_ge j k with h1 | h1
     ·exact HN.out j y h1 hy
     ·obtain rfl:j=k:=by omega
      rw[HX.out] at hy
      cases hy
      exact e
    case measure=>simp[intOf];omega
  ·have k1:¬(k:Int) < (l.length:Int):=by omega
   have HE:Hid (idxOf l s=-1):=idxOf_no (fun j x hj hx=>HN.out j x (by omega) hx);go_wp2;go_ret;exact⟨by rw[HE.out];rfl,rfl⟩
theorem idx_has' (l:List ByteArray)(x:ByteArray):decide (0<=idxOf l x)=hasB l x:=by
 cases hb:hasB l x with
 | false=>
  have:idxOf l x=-1:=idxOf_no (fun j y _ hy e=>by
   have:=List.any_eq_false.1 hb y (List.mem_of_getElem? hy);simp[e] at this)
  rw[this];rfl
 | true=>
  unfold hasB at hb;obtain⟨y,hy,he⟩:=List.any_eq_true.1 hb;unfold idxOf
  split
  ·simp
  ·rename_i hn;have:=List.findIdx?_eq_none_iff.1 hn y hy;rw[he] at this
   cases this
theorem shas_at (l:List ByteArray)(s:ByteArray)(sa:Option Addr)(cap:Nat)(w:World)(h:SlAt encS 1 w (.slice sa l.length cap) l)(hn:l.length<=1000000) :
  Calls Tryz.prog 311 #[.slice sa l.length cap,.string s] w fun e w'=>e=.returned (.bool (hasB l s))/\w'=w:=by
 have H:Hid (Calls Tryz.prog 331 #[.slice sa l.length cap,.string s] w fun e w'=>e=.returned (.int .i64 (idxOf l s))/\w'=w):=sindex_at l s sa cap w h hn;rw[<- idx_has'];clear hn h;go_enter Tryz.func311,Tryz.ntmps311
 go_wp2_with fail
 refine H.out.mono ?_;rintro e w' ⟨rfl,rfl⟩;go_wp2;go_ret;exact⟨rfl,rfl⟩
set_option maxHeartbeats 1000000 in
theorem worst_at (l:List ByteArray)(sa:Option Addr)(cap:Nat)(w:World)(h:SlAt encS 1 w (.slice sa l.length cap) l)(hn:l.length<=1000000) :
  Calls Tryz.prog 278 #[.slice sa l.length cap] w fun e w'=>e=.returned (.string (totB (worstOf l)))/\w'=w:=by
 have HL:Hid (SlAt encS 1 w (.slice sa l.length cap) l):=h;have HN:Hid (l.length<=1000000):=hn;clear h hn
 cases hx:hasB l expiredB
 ·cases hf:hasB l failedB
  ·have HW:Hid (totB (worstOf l)=⟨#[111,107]⟩):=by show _=_;unfold worstOf;rw[if_neg (by rw[hx];simp),if_neg (by rw[hf];simp)];rfl
   have HX:Hid (hasB l ⟨#[101,120,112,105,114,101,100]⟩=false):=hx;have HF:Hid (hasB l ⟨#[102,97,105,108,101,100]⟩=false):=hf;clear hx hf;go_enter Tryz.func278,Tryz.ntmps278
   go_wp2_with fail
   refine(shas_at l ⟨#[101,120,112,105,114,101,100]⟩ sa cap _ HL.out HN.out).mono ?_;rintro e w' ⟨rfl,rfl⟩;rw[HX.out];go_wp2_with fail
   refine(shas_at l ⟨#[102,97,105,108,101,100]⟩ sa cap _ HL.out HN.out).mono ?_;rintro e w' ⟨rfl,rfl⟩;rw[HF.out];go_wp2;go_ret;exact⟨by rw[HW.out];rfl,rfl⟩
  ·have HW:Hid (totB (worstOf l)=⟨#[102,97,105,108,101,100]⟩):=by show _=_;unfold worstOf;rw[if_neg (by rw[hx];simp),if_pos hf];rfl
   have HX:Hid (hasB l ⟨#[101,120,112,105,114,101,100]⟩=false):=hx;have HF:Hid (hasB l ⟨#[102,97,105,108,101,100]⟩=true):=hf;clear hx hf;go_enter Tryz.func278,Tryz.ntmps278
   go_wp2_with fail
   refine(shas_at l ⟨#[101,120,112,105,114,101,100]⟩ sa cap _ HL.out HN.out).mono ?_;rintro e w' ⟨rfl,rfl⟩;rw[HX.out];go_wp2_with fail
   refine(shas_at l ⟨#[102,97,105,108,101,100]⟩ sa cap _ HL.out HN.out).mono ?_;rintro e w' ⟨rfl,rfl⟩;rw[HF.out];go_wp2;go_ret;exact⟨by rw[HW.out];rfl,rfl⟩
 ·have HW:Hid (totB (worstOf l)=⟨#[101,120,112,105,114,101,100]⟩):=by show _=_;unfold worstOf;rw[if_pos hx];rfl
  have HX:Hid (hasB l ⟨#[101,120,112,105,114,101,100]⟩=true):=hx;clear hx;go_enter Tryz.func278,Tryz.ntmps278
  go_wp2_with fail
  refine(shas_at l ⟨#[101,120,112,105,114,101,100]⟩ sa cap _ HL.out HN.out).mono ?_;rintro e w' ⟨rfl,rfl⟩;rw[HX.out];go_wp2;go_ret;exact⟨by rw[HW.out];rfl,rfl⟩
theorem ToIn.put (h:ToIn w0 w b s)(j:Nat)(u:Value)(hr:(toRow s).setIfInBounds j u=toRow s'):ToIn w0 (w.setCell ⟨b,j,none⟩ u) b s':=by
 refine⟨?_,h.bel.setCell (p:=⟨b,j,none⟩) h.lo _,h.lo⟩;simp only[World.setCell,Array.getElem?_modify,h.heap];simp[<- hr]
set_option maxHeartbeats 4000000 in
set_option maxRecDepth 100000 in
theorem to_endG (w0 w:World)(b k:Nat)(s:TSt)(l:List ByteArray)(sa:Option Addr)(cap:Nat)(h:ToIn w0 w b s)(hf:TFit s k)(_hk:k<=100000)(hl:∀ V,w.grownBy V (some b)->SlAt encS 1 V (.slice sa l.length cap) l)(hn:l.length<=1000000) :
  Calls Tryz.prog 238 #[.pointer (some ⟨b,0,none⟩),.slice sa l.length cap] w fun v w'=>v=.returned (.string (totB (s.fin l).st))/\ToIn w0 w' b (s.fin l)/\w.grownBy w' (some b):=by
 have HLs:Hid (∀ V,w.grownBy V (some b)->SlAt encS 1 V (.slice sa l.length cap) l):=hl;have HN:Hid (l.length<=1000000):=hn;obtain⟨d,si,st⟩:=s;have hr:=h.heap;have c1:w.cell? ⟨b,1,none⟩=some (.int .i64 ((d:Int) - (si:Int))):=by simp[World.cell?,hr,toRow]
 have c0':w.cell? ⟨b,0,none⟩=some (.string (totB st)):=by simp[World.cell?,hr,toRow]
 have q:∀ i,w.frozen? ⟨b,i,none⟩=false:=fun i=>by simp[World.frozen?,hr]
 have hst:st<=3:=hf.st;have hd20:d<=20:=hf.d;have hlt:st=2->si < d:=hf.lt;have hz:st < 2->si=0:=hf.z;have HFr:Hid (∀ W,w.grownBy W (some b)->w.grownBy W (some b)):=fun W hW=>hW
 have H:Hid (ToIn w0 w b ⟨d,si,st⟩):=h;clear hr h hf hl hn;have go:∀ x,totB st=x->w.cell? ⟨b,0,none⟩=some (.string x):=fun x hx=>by rw[<- hx];exact c0'
 clear c0'
 by_cases h3:st=3
 ·subst h3;have c0:=go ⟨#[115,116,111,112,112,101,100]⟩ rfl;clear go;go_enter Tryz.func238,Tryz.ntmps238
  go_wp2;go_ret;exact⟨rfl,H.out,World.grownBy.refl _ _⟩
 by_cases h2:st=2
 ·subst h2;have c0:=go ⟨#[101,120,112,105,114,101,100]⟩ rfl;clear go;have hlt':=hlt rfl;obtain⟨n,hn⟩:∃ n:Nat,d=si+1+n:=⟨d - (si+1),by omega⟩;have hc1:((d:Int) - (si:Int))=(n:Int)+1:=by omega
  rw[hc1] at c1;have hn20:n<=20:=by omega
  have HV:Hid (∀ V,V=w.setCell ⟨b,1,none⟩ (.int .i64 (n:Int))->ToIn w0 V b ⟨d,si+1,2⟩/\w.grownBy V (some b)):=fun V hV=>by
   rw[hV];exact⟨H.out.put (s':=⟨d,si+1,2⟩) 1 _ (by simp[toRow];omega),grown_setCell _ _ _ _⟩
  clear hlt hz hst hd20 hc1 hlt' h3
  by_cases hd:n=0
  ·subst hd;have HE:Hid (TSt.fin ⟨d,si,2⟩ l=⟨d,si+1,3⟩):=by show _=_;rw[show TSt.fin ⟨d,si,2⟩ l=TSt.cut ⟨d,si+1,2⟩ from rfl];unfold TSt.cut;rw[if_pos ⟨rfl,by show si+1=d;omega⟩]
   clear hn;simp only[Int.ofNat_zero,Int.zero_add] at c1 HV;go_enter Tryz.func238,Tryz.ntmps238
   go_wp2_with fail
   go_ret;obtain⟨a1,a2⟩:=HV.out _ rfl;exact⟨by rw[HE.out];rfl,by rw[HE.out];exact a1.put (s':=⟨d,si+1,3⟩) 0 _ rfl,HFr.out _ (a2.trans (grown_setCell _ _ _ _))⟩
  ·have hd':¬(n:Int)=0:=by omega
   have HE:Hid (TSt.fin ⟨d,si,2⟩ l=⟨d,si+1,2⟩):=by show _=_;rw[show TSt.fin ⟨d,si,2⟩ l=TSt.cut ⟨d,si+1,2⟩ from rfl];unfold TSt.cut;rw[if_neg (fun x=>hd (by have:si+1=d:=x.2;omega))]
   clear hn;go_enter Tryz.func238,Tryz.ntmps238
   go_wp2_with fail
   go_ret;obtain⟨a1,a2⟩:=HV.out _ rfl;exact⟨by rw[HE.out];rfl,by rw[HE.out];exact a1,HFr.out _ a2⟩
 obtain rfl:si=0:=hz (by omega);have HW:Hid (TSt.fin ⟨d,0,st⟩ l=TSt.cut ⟨d,0,worstOf l⟩):=by show _=_;unfold TSt.fin;rw[if_neg h3,if_neg h2]
 have h01:st=0\/st=1:=by omega
 have hw3:=worst_le l;have HWa:Hid (∀ x,totB (worstOf l)=x->Calls Tryz.prog 278 #[.slice sa l.length cap] w fun e w'=>e=.returned (.string x)/\w'=w):=fun x hx=>by
  rw[<- hx];exact worst_at l sa cap w (HLs.out w (World.grownBy.refl _ _)) HN.out
 simp only[Int.ofNat_zero,Int.sub_zero] at c1;clear hst h2 h3 hz hlt HLs HN;generalize worstOf l=wo at HW hw3 HWa
 rcases h01 with rfl | rfl
 ·have c0:=go ⟨#[111,107]⟩ rfl;clear go
  match wo,hw3 with
  | 0,_=>
   obtain⟨a1,a2⟩:ToIn w0 (w.setCell ⟨b,0,none⟩ (.string ⟨#[111,107]⟩)) b ⟨d,0,0⟩/\w.grownBy (w.setCell ⟨b,0,none⟩ (.string ⟨#[111,107]⟩)) (some b):=⟨H.out.put (s':=⟨d,0,0⟩) 0 _ rfl,grown_setCell _ _ _ _⟩;have HA:Hid (ToIn w0 (w.setCell ⟨b,0,none⟩ (.string ⟨#[111,107]⟩)) b ⟨d,0,0⟩):=a1;have HG:Hid (w.grownBy (w.setCell ⟨b,0,none⟩ (.string ⟨#[111,107]⟩)) (some b)):=a2;clear a1 a2;have HE:Hid (TSt.fin ⟨d,0,0⟩ l=⟨d,0,0⟩):=by show _=_;rw[HW.out];unfold TSt.cut;rw[if_neg (fun x=>by have:(0:Nat)=2:=x.1;omega)]
   go_enter Tryz.func238,Tryz.ntmps238
   go_wp2_with fail
   refine(HWa.out ⟨#[111,107]⟩ rfl).mono ?_;rintro e w' ⟨rfl,rfl⟩;go_wp2_with fail
   go_ret;exact⟨by rw[HE.out];rfl,by rw[HE.out];exact HA.out,HFr.out _ HG.out⟩
  | 1,_=>
   obtain⟨a1,a2⟩:ToIn w0 (w.setCell ⟨b,0,none⟩ (.string ⟨#[102,97,105,108,101,100]⟩)) b ⟨d,0,1⟩/\w.grownBy (w.setCell ⟨b,0,none⟩ (.string ⟨#[102,97,105,108,101,100]⟩)) (some b):=⟨H.out.put (s':=⟨d,0,1⟩) 0 _ rfl,grown_setCell _ _ _ _⟩;have HA:Hid (ToIn w0 (w.setCell ⟨b,0,none⟩ (.string ⟨#[102,97,105,108,101,100]⟩)) b ⟨d,0,1⟩):=a1;have HG:Hid (w.grownBy (w.setCell ⟨b,0,none⟩ (.string ⟨#[102,97,105,108,101,100]⟩)) (some b)):=a2;clear a1 a2;have HE:Hid (TSt.fin ⟨d,0,0⟩ l=⟨d,0,1⟩):=by show _=_;rw[HW.out];unfold TSt.cut;rw[if_neg (fun x=>by have:(1:Nat)=2:=x.1;omega)]
   go_enter Tryz.func238,Tryz.ntmps238
   go_wp2_with fail
   refine(HWa.out ⟨#[102,97,105,108,101,100]⟩ rfl).mono ?_;rintro e w' ⟨rfl,rfl⟩;go_wp2_with fail
   go_ret;exact⟨by rw[HE.out];rfl,by rw[HE.out];exact HA.out,HFr.out _ HG.out⟩
  | 2,_=>
   obtain⟨a1,a2⟩:ToIn w0 (w.setCell ⟨b,0,none⟩ (.string ⟨#[101,120,112,105,114,101,100]⟩)) b ⟨d,0,2⟩/\w.grownBy (w.setCell ⟨b,0,none⟩ (.string ⟨#[101,120,112,105,114,101,100]⟩)) (some b):=⟨H.out.put (s':=⟨d,0,2⟩) 0 _ rfl,grown_setCell _ _ _ _⟩;have HA:Hid (ToIn w0 (w.setCell ⟨b,0,none⟩ (.string ⟨#[101,120,112,105,114,101,100]⟩)) b ⟨d,0,2⟩):=a1;have HG:Hid (w.grownBy (w.setCell ⟨b,0,none⟩ (.string ⟨#[101,120,112,105,114,101,100]⟩)) (some b)):=a2;clear a1 a2
   by_cases hd:d=0
   ·subst hd;have HE:Hid (TSt.fin ⟨0,0,0⟩ l=⟨0,0,3⟩):=by show _=_;rw[HW.out];unfold TSt.cut;rw[if_pos ⟨rfl,rfl⟩]
    simp only[Int.ofNat_zero] at c1;go_enter Tryz.func238,Tryz.ntmps238
    go_wp2_with fail
    refine(HWa.out ⟨#[101,120,112,105,114,101,100]⟩ rfl).mono ?_;rintro e w' ⟨rfl,rfl⟩;go_wp2_with fail
    go_ret;exact⟨by rw[HE.out];rfl,by rw[HE.out];exact HA.out.put (s':=⟨0,0,3⟩) 0 _ rfl,HFr.out _ (HG.out.trans (grown_setCell _ _ _ _))⟩
   ·have hd':¬(d:Int)=0:=by omega
    have HE:Hid (TSt.fin ⟨d,0,0⟩ l=⟨d,0,2⟩):=by show _=_;rw[HW.out];unfold TSt.cut;rw[if_neg (fun x=>hd x.2.symm)]
    go_enter Tryz.func238,Tryz.ntmps238
    go_wp2_with fail
    refine(HWa.out ⟨#[101,120,112,105,114,101,100]⟩ rfl).mono ?_;rintro e w' ⟨rfl,rfl⟩;go_wp2_with fail
    go_ret;exact⟨by rw[HE.out];rfl,by rw[HE.out];exact HA.out,HFr.out _ HG.out⟩
 ·have c0:=go ⟨#[102,97,105,108,101,100]⟩ rfl;clear go
  match wo,hw3 with
  | 0,_=>
   obtain⟨a1,a2⟩:ToIn w0 (w.setCell ⟨b,0,none⟩ (.string ⟨#[111,107]⟩)) b ⟨d,0,0⟩/\w.grownBy (w.setCell ⟨b,0,none⟩ (.string ⟨#[111,107]⟩)) (some b):=⟨H.out.put (s':=⟨d,0,0⟩) 0 _ rfl,grown_setCell _ _ _ _⟩;have HA:Hid (ToIn w0 (w.setCell ⟨b,0,none⟩ (.string ⟨#[111,107]⟩)) b ⟨d,0,0⟩):=a1;have HG:Hid (w.grownBy (w.setCell ⟨b,0,none⟩ (.string ⟨#[111,107]⟩)) (some b)):=a2;clear a1 a2;have HE:Hid (TSt.fin ⟨d,0,1⟩ l=⟨d,0,0⟩):=by show _=_;rw[HW.out];unfold TSt.cut;rw[if_neg (fun x=>by have:(0:Nat)=2:=x.1;omega)]
   go_enter Tryz.func238,Tryz.ntmps238
   go_wp2_with fail
   refine(HWa.out ⟨#[111,107]⟩ rfl).mono ?_;rintro e w' ⟨rfl,rfl⟩;go_wp2_with fail
   go_ret;exact⟨by rw[HE.out];rfl,by rw[HE.out];exact HA.out,HFr.out _ HG.out⟩
  | 1,_=>
   obtain⟨a1,a2⟩:ToIn w0 (w.setCell ⟨b,0,none⟩ (.string ⟨#[102,97,105,108,101,100]⟩)) b ⟨d,0,1⟩/\w.grownBy (w.setCell ⟨b,0,none⟩ (.string ⟨#[102,97,105,108,101,100]⟩)) (some b):=⟨H.out.put (s':=⟨d,0,1⟩) 0 _ rfl,grown_setCell _ _ _ _⟩;have HA:Hid (ToIn w0 (w.setCell ⟨b,0,none⟩ (.string ⟨#[102,97,105,108,101,100]⟩)) b ⟨d,0,1⟩):=a1;have HG:Hid (w.grownBy (w.setCell ⟨b,0,none⟩ (.string ⟨#[102,97,105,108,101,100]⟩)) (some b)):=a2;clear a1 a2;have HE:Hid (TSt.fin ⟨d,0,1⟩ l=⟨d,0,1⟩):=by show _=_;rw[HW.out];unfold TSt.cut;rw[if_neg (fun x=>by have:(1:Nat)=2:=x.1;omega)]
   go_enter Tryz.func238,Tryz.ntmps238
   go_wp2_with fail
   refine(HWa.out ⟨#[102,97,105,108,101,100]⟩ rfl).mono ?_;rintro e w' ⟨rfl,rfl⟩;go_wp2_with fail
   go_ret;exact⟨by rw[HE.out];rfl,by rw[HE.out];exact HA.out,HFr.out _ HG.out⟩
  | 2,_=>
   obtain⟨a1,a2⟩:ToIn w0 (w.setCell ⟨b,0,none⟩ (.string ⟨#[101,120,112,105,114,101,100]⟩)) b ⟨d,0,2⟩/\w.grownBy (w.setCell ⟨b,0,none⟩ (.string ⟨#[101,120,112,105,114,101,100]⟩)) (some b):=⟨H.out.put (s':=⟨d,0,2⟩) 0 _ rfl,grown_setCell _ _ _ _⟩;have HA:Hid (ToIn w0 (w.setCell ⟨b,0,none⟩ (.string ⟨#[101,120,112,105,114,101,100]⟩)) b ⟨d,0,2⟩):=a1;have HG:Hid (w.grownBy (w.setCell ⟨b,0,none⟩ (.string ⟨#[101,120,112,105,114,101,100]⟩)) (some b)):=a2;clear a1 a2
   by_cases hd:d=0
   ·subst hd;have HE:Hid (TSt.fin ⟨0,0,1⟩ l=⟨0,0,3⟩):=by show _=_;rw[HW.out];unfold TSt.cut;rw[if_pos ⟨rfl,rfl⟩]
    simp only[Int.ofNat_zero] at c1;go_enter Tryz.func238,Tryz.ntmps238
    go_wp2_with fail
    refine(HWa.out ⟨#[101,120,112,105,114,101,100]⟩ rfl).mono ?_;rintro e w' ⟨rfl,rfl⟩;go_wp2_with fail
    go_ret;exact⟨by rw[HE.out];rfl,by rw[HE.out];exact HA.out.put (s':=⟨0,0,3⟩) 0 _ rfl,HFr.out _ (HG.out.trans (grown_setCell _ _ _ _))⟩
   ·have hd':¬(d:Int)=0:=by omega
    have HE:Hid (TSt.fin ⟨d,0,1⟩ l=⟨d,0,2⟩):=by show _=_;rw[HW.out];unfold TSt.cut;rw[if_neg (fun x=>hd x.2.symm)]
    go_enter Tryz.func238,Tryz.ntmps238
    go_wp2_with fail
    refine(HWa.out ⟨#[101,120,112,105,114,101,100]⟩ rfl).mono ?_;rintro e w' ⟨rfl,rfl⟩;go_wp2_with fail
    go_ret;exact⟨by rw[HE.out];rfl,by rw[HE.out];exact HA.out,HFr.out _ HG.out⟩
end
section
variable {F F':Nat->Prop}{B:Nat}{w w':World}{b rb bc:Nat}{e:EntD}{s s':LSt}{cs:CSt}{L:List Rec}{sp:Bool}
theorem LoS.grow (h:LoS F w b e s)(hF:∀ k,F k->F' k)(hl:∀ k,F' k->k < w.heap.size):LoS F' w b e s:=by
 obtain⟨E,so,h1,h2⟩:=h.ex;exact⟨⟨E,so,h1.mono (fun k _ hk=>hF k hk),h2⟩,hl⟩
theorem LoS.idle (h:LoS F w b e s)(h1:s.act=false)(h2:s'.act=false):LoS F w b e s':=by
 obtain⟨E,so,h3,h4⟩:=h.ex
 cases so with
 | none=>exact⟨⟨E,none,h3,h2⟩,h.lt⟩
 | some n=>
  have:=NSim.act h4;rw[h1] at this
  cases this
theorem RgS.grow (h:RgS F B w rb bc cs L sp)(hF:∀ k,F k->F' k)(hl:∀ k,F' k->k < w.heap.size):RgS F' B w rb bc cs L sp:=by
 obtain⟨v,h1,h2⟩:=h.ring;exact⟨⟨v,h1,fun k hk=>hF k (h2 k hk)⟩,h.cells,hF _ h.fr,hF _ h.fc,h.ne,hl⟩
end
structure SenK (A:Nat->Addr)(w:World):Prop where
 c1:w.cell? ⟨0,0,none⟩=some (.iface 400 (.pointer (some (A 1))))
 c2:w.cell? ⟨2,0,none⟩=some (.iface 400 (.pointer (some (A 2))))
 c3:w.cell? ⟨3,0,none⟩=some (.iface 400 (.pointer (some (A 3))))
 c4:w.cell? ⟨4,0,none⟩=some (.iface 400 (.pointer (some (A 4))))
 c5:w.cell? ⟨5,0,none⟩=some (.iface 400 (.pointer (some (A 5))))
 c6:w.cell? ⟨6,0,none⟩=some (.iface 400 (.pointer (some (A 6))))
 c7:w.cell? ⟨7,0,none⟩=some (.iface 400 (.pointer (some (A 7))))
 c8:w.cell? ⟨8,0,none⟩=some (.iface 400 (.pointer (some (A 8))))
 c9:w.cell? ⟨9,0,none⟩=some (.iface 400 (.pointer (some (A 9))))
 c10:w.cell? ⟨10,0,none⟩=some (.iface 400 (.pointer (some (A 10))))
theorem SenK.below {A:Nat->Addr}{w w':World}(h:SenK A w)(hb:Below w.heap.size w w'):SenK A w':=
 ⟨cell_below hb h.c1,cell_below hb h.c2,cell_below hb h.c3,cell_below hb h.c4,cell_below hb h.c5,cell_below hb h.c6,cell_below hb h.c7,cell_below hb h.c8,cell_below hb h.c9,cell_below hb h.c10⟩
theorem SenK.four {A:Nat->Addr}{w:World}(h:SenK A w):Sen4 A w:=⟨h.c1,h.c2,h.c6,h.c7⟩
theorem SenK.gf {A:Nat->Addr}{w:World}(h:SenK A w):8<=w.heap.size:=by
 have h1:=block_lt h.c1;have h2:=block_lt h.c2;have h3:=block_lt h.c6;have h4:=block_lt h.c7;simp only[] at h1 h2 h3 h4;omega
def keRow (c:CfgD)(bd bc:Nat)(rv lv tv:Value):Array Value:=#[.pointer (some ⟨bd,0,none⟩),.int .i64 c.cycle,.pointer (some ⟨bc,0,none⟩),.int .i64 c.delay,rv,lv,tv]
structure KeIn (H:Nat->Nat->Prop)(w0 w:World)(c:CfgD)(kb bc bd rb bt:Nat)(lv:Value)(bs:List Nat)(K:KSt):Prop where
 fam:Fam H w0.heap.size w
 row:w.heap[kb]?=some (.cells (keRow c bd bc (.pointer (some ⟨rb,0,none⟩)) lv (.pointer (some ⟨bt,0,none⟩))) 177 (0,0))
 hk:H 0 kb
 own:SlOwn encB 1 178 w0.heap.size w lv bs
 hl:∀ k,lv.ownBlock=some k->H 1 k
 ring:RgS (H 2) w0.heap.size w rb bc K.c K.L K.sp
 dog:DogAt w bd K.d
 hd:H 3 bd
 tot:w.heap[bt]?=some (.cells (toRow K.t) 256 (0,0))
 ht:H 4 bt
 loc:∀ i b e s,bs[i]?=some b->c.ents[i]?=some e->K.ls[i]?=some s->LoS (H (5+i)) w b e s
 blen:bs.length=c.ents.length
 llen:K.ls.length=c.ents.length
 bel:Below w0.heap.size w0 w
section
variable {H:Nat->Nat->Prop}{F:Nat->Prop}{w0 w w':World}{c:CfgD}{kb bc bd rb bt:Nat}{lv:Value}{bs:List Nat}{K:KSt}
theorem KeIn.offB (h:KeIn H w0 w c kb bc bd rb bt lv bs K){i:Nat}(ho:Off (H i) w w'):Below w0.heap.size w0 w':=Off.below h.bel ho h.bel.size (fun k hk=>h.fam.lo i k hk)
theorem KeIn.fam' (h:KeIn H w0 w c kb bc bd rb bt lv bs K){i:Nat}(ho:Off (H i) w w'):Fam (updH H i w w') w0.heap.size w':=h.fam.upd ho.size h.bel.size i
theorem KeIn.ring' (h:KeIn H w0 w c kb bc bd rb bt lv bs K){i:Nat}(ho:Off (H i) w w')(hi:2≠i):RgS (updH H i w w' 2) w0.heap.size w' rb bc K.c K.L K.sp:=
 (h.ring.off ho (fun _ hk=>h.fam.not hi hk)).grow (fun _ hk=>Or.inl hk) (fun k hk=>(h.fam' ho).lt 2 k hk)
theorem KeIn.loc' (h:KeIn H w0 w c kb bc bd rb bt lv bs K){i:Nat}(ho:Off (H i) w w'){j b:Nat}{e:EntD}{s:LSt}(hl:LoS (H (5+j)) w b e s)(hj:5+j≠i):LoS (updH H i w w' (5+j)) w' b e s:=
 (hl.same (h.fam.keep hj ho) ho.size).grow (fun _ hk=>Or.inl hk) (fun k hk=>(h.fam' ho).lt _ k hk)
theorem KeIn.off {S:Nat->Prop}(h:KeIn H w0 w c kb bc bd rb bt lv bs K)(ho:Off S w w')(hS:∀ i k,H i k->¬S k)(hB:∀ k,S k->w0.heap.size<=k):KeIn H w0 w' c kb bc bd rb bt lv bs K:=by
 have hs:∀ i k,H i k->w'.heap[k]?=w.heap[k]?:=fun i k hk=>ho.block k (h.fam.lt i k hk) (hS i k hk)
 exact⟨h.fam.grow ho.size,(hs 0 kb h.hk).trans h.row,h.hk,SlOwn.same h.own (fun g hg=>hs 1 g (h.hl g hg)),h.hl,h.ring.off ho (fun k hk=>hS 2 k hk),h.dog.off ho (hS 3 bd h.hd),h.hd,(hs 4 bt h.ht).trans h.tot,h.ht,
  fun i b e s h1 h2 h3=>(h.loc i b e s h1 h2 h3).same (hs (5+i)) ho.size,h.blen,h.llen,Off.below h.bel ho h.bel.size hB⟩
theorem KeIn.below (h:KeIn H w0 w c kb bc bd rb bt lv bs K)(hb:Below w.heap.size w w'):KeIn H w0 w' c kb bc bd rb bt lv bs K:=
 h.off (Off.of_below hb (fun _=>False)) (fun _ _ _ e=>e) (fun _ e=>e.elim)
theorem KeIn.toDog (h:KeIn H w0 w c kb bc bd rb bt lv bs K)(ho:Off (H 3) w w'){d:DSt}(hd:DogAt w' bd d):KeIn (updH H 3 w w') w0 w' c kb bc bd rb bt lv bs { K with d:=d }:=
 ⟨h.fam' ho,(h.fam.keep (show 0≠3 by decide) ho kb h.hk).trans h.row,Or.inl h.hk,SlOwn.same h.own (fun g hg=>h.fam.keep (show 1≠3 by decide) ho g (h.hl g hg)),fun k hk=>Or.inl (h.hl k hk),
  h.ring' ho (by decide),hd,Or.inl h.hd,(h.fam.keep (show 4≠3 by decide) ho bt h.ht).trans h.tot,Or.inl h.ht,
  fun i b e s h1 h2 h3=>h.loc' ho (h.loc i b e s h1 h2 h3) (by omega),h.blen,h.llen,h.offB ho⟩
theorem KeIn.toTot (h:KeIn H w0 w c kb bc bd rb bt lv bs K)(ho:Off (H 4) w w'){t:TSt}(ht:w'.heap[bt]?=some (.cells (toRow t) 256 (0,0))):KeIn (updH H 4 w w') w0 w' c kb bc bd rb bt lv bs { K with t:=t }:=
 ⟨h.fam' ho,(h.fam.keep (show 0≠4 by decide) ho kb h.hk).trans h.row,Or.inl h.hk,SlOwn.same h.own (fun g hg=>h.fam.keep (show 1≠4 by decide) ho g (h.hl g hg)),fun k hk=>Or.inl (h.hl k hk),
  h.ring' ho (by decide),h.dog.off ho (h.fam.not (show 3≠4 by decide) h.hd),Or.inl h.hd,ht,Or.inl h.ht,
  fun i b e s h1 h2 h3=>h.loc' ho (h.loc i b e s h1 h2 h3) (by omega),h.blen,h.llen,h.offB ho⟩
theorem KeIn.toRing (h:KeIn H w0 w c kb bc bd rb bt lv bs K)(ho:Off (H 2) w w'){s:CSt}{L:List Rec}{sp:Bool}(hr:RgS (gr (H 2) w w') w0.heap.size w' rb bc s L sp):KeIn (updH H 2 w w') w0 w' c kb bc bd rb bt lv bs { K with c:=s,L:=L,sp:=sp }:=
 ⟨h.fam' ho,(h.fam.keep (show 0≠2 by decide) ho kb h.hk).trans h.row,Or.inl h.hk,SlOwn.same h.own (fun g hg=>h.fam.keep (show 1≠2 by decide) ho g (h.hl g hg)),fun k hk=>Or.inl (h.hl k hk),
  hr.grow (fun k hk=>hk.imp id (fun a=>⟨rfl,a⟩)) (fun k hk=>(h.fam' ho).lt 2 k hk),h.dog.off ho (h.fam.not (show 3≠2 by decide) h.hd),Or.inl h.hd,(h.fam.keep (show 4≠2 by decide) ho bt h.ht).trans h.tot,Or.inl h.ht,
  fun i b e s h1 h2 h3=>h.loc' ho (h.loc i b e s h1 h2 h3) (by omega),h.blen,h.llen,h.offB ho⟩
theorem KeIn.toLoc (h:KeIn H w0 w c kb bc bd rb bt lv bs K){i b:Nat}{e:EntD}{s:LSt}(ho:Off (H (5+i)) w w')(hb:bs[i]?=some b)(he:c.ents[i]?=some e)(hl:LoS (gr (H (5+i)) w w') w' b e s):KeIn (updH H (5+i) w w') w0 w' c kb bc bd rb bt lv bs (K.setL i s):=
 ⟨h.fam' ho,(h.fam.keep (show 0≠5+i by omega) ho kb h.hk).trans h.row,Or.inl h.hk,SlOwn.same h.own (fun g hg=>h.fam.keep (show 1≠5+i by omega) ho g (h.hl g hg)),fun k hk=>Or.inl (h.hl k hk),
  h.ring' ho (by omega),h.dog.off ho (h.fam.not (show 3≠5+i by omega) h.hd),Or.inl h.hd,(h.fam.keep (show 4≠5+i by omega) ho bt h.ht).trans h.tot,Or.inl h.ht,
  fun j b' e' s' h1 h2 h3=>by
   by_cases hj:j=i
   ·subst hj;rw[hb] at h1;rw[he] at h2
    cases h1;cases h2
    have:s'=s:=by
     have h4:(K.ls.set j s)[j]?=some s':=h3;rw[List.getElem?_set_self (by rw[h.llen];exact(List.getElem?_eq_some_iff.1 he).1)] at h4;exact(Option.some.inj h4).symm
    subst this;exact hl.grow (fun k hk=>hk.imp id (fun h5=>⟨rfl,h5⟩)) (fun k hk=>(h.fam' ho).lt _ k hk)
   ·have h4:(K.ls.set i s)[j]?=some s':=h3;rw[List.getElem?_set_ne (fun e=>hj e.symm)] at h4;exact h.loc' ho (h.loc j b' e' s' h1 h2 h4) (by omega),h.blen,by show (K.ls.set i s).length=_;rw[List.length_set];exact h.llen,h.offB ho⟩
theorem KeIn.cell (h:KeIn H w0 w c kb bc bd rb bt lv bs K)(j:Nat)(u:Value)(hu:(keRow c bd bc (.pointer (some ⟨rb,0,none⟩)) lv (.pointer (some ⟨bt,0,none⟩)))[j]?=some u):w.cell? ⟨kb,j,none⟩=some u:=by
 simp[World.cell?,h.row,hu]
theorem KeIn.to (h:KeIn H w0 w c kb bc bd rb bt lv bs K):ToIn w0 w bt K.t:=⟨h.tot,h.bel,h.fam.lo 4 bt h.ht⟩
theorem KeIn.locAt (h:KeIn H w0 w c kb bc bd rb bt lv bs K){i:Nat}{s:LSt}(hs:K.ls[i]?=some s):∃ (b:Nat) (e:EntD) (g cap:Nat),bs[i]?=some b/\c.ents[i]?=some e/\lv=.slice (some ⟨g,0,none⟩) K.ls.length cap/\w.cell? ⟨g,i,none⟩=some (.pointer (some ⟨b,0,none⟩))/\LoS (H (5+i)) w b e s:=by
 have hi:i < K.ls.length:=(List.getElem?_eq_some_iff.1 hs).1;obtain⟨b,hb⟩:∃ b,bs[i]?=some b:=⟨_,List.getElem?_eq_getElem (by rw[h.blen,<- h.llen];exact hi)⟩;obtain⟨e,he⟩:∃ e,c.ents[i]?=some e:=⟨_,List.getElem?_eq_getElem (by rw[<- h.llen];exact hi)⟩;have h1:=h.loc i b e s hb he hs;have hl:bs.length=K.ls.length:=by rw[h.blen,h.llen]
 obtain⟨-,hn | ⟨g,cap,cur,h3,-,h4,h5,h6,h7,h8⟩⟩:=h.own
 ·exact absurd hn.2 (by omega)
 ·rw[hl] at h3
  refine⟨b,e,g,cap,hb,he,h3,?_,h1⟩;have:=flat_at (enc:=encB) (k:=1) (fun _=>rfl) bs i 0 b _ hb rfl;simp only[Nat.mul_one,Nat.add_zero] at this;rw[<- h8,List.getElem?_take,if_pos (by omega)] at this;simp only[World.cell?,h4];simpa using this
end
def KeAt (F:Nat->Prop)(w0 w:World)(c:CfgD)(kb bc:Nat)(K:KSt):Prop:=
 ∃ H bd rb bt lv bs,KeIn H w0 w c kb bc bd rb bt lv bs K/\∀ i k,H i k->F k
def KePost (F:Nat->Prop)(w0 w:World)(c:CfgD)(kb bc:Nat)(K:KSt)(w':World):Prop:=KeAt (gr F w w') w0 w' c kb bc K/\Off F w w'
section
variable {H:Nat->Nat->Prop}{F:Nat->Prop}{w0 w w' V:World}{c:CfgD}{kb bc bd rb bt:Nat}{lv:Value}{bs:List Nat}{K K1:KSt}
theorem KePost.same (h:KeAt F w0 w c kb bc K):KePost F w0 w c kb bc K w:=by
 obtain⟨H,bd,rb,bt,lv,bs,h1,h2⟩:=h;exact⟨⟨H,bd,rb,bt,lv,bs,h1,fun i k hk=>Or.inl (h2 i k hk)⟩,Off.refl _ _⟩
theorem KeIn.post {i bd' rb' bt':Nat}{lv':Value}{bs':List Nat}{K':KSt}(hF:∀ i k,H i k->F k)(ho:Off (H i) w w')(h:KeIn (updH H i w w') w0 w' c kb bc bd' rb' bt' lv' bs' K'):KePost F w0 w c kb bc K' w':=
 ⟨⟨_,_,_,_,_,_,h,updH_all hF i⟩,Off.all hF ho⟩
theorem KePost.trans (h1:KePost F w0 w c kb bc K1 V)(h2:KePost (gr F w V) w0 V c kb bc K w'):KePost F w0 w c kb bc K w':=by
 obtain⟨⟨H,bd,rb,bt,lv,bs,h3,h4⟩,h5⟩:=h2;exact⟨⟨H,bd,rb,bt,lv,bs,h3,fun i k hk=>gr_gr h1.2.size h5.size (h4 i k hk)⟩,h1.2.gr h5⟩
theorem KePost.below (h:KePost F w0 w c kb bc K w')(hb:Below w'.heap.size w' V):KePost F w0 w c kb bc K V:=by
 obtain⟨⟨H,bd,rb,bt,lv,bs,h3,h4⟩,h5⟩:=h;exact⟨⟨H,bd,rb,bt,lv,bs,h3.below hb,fun i k hk=>(h4 i k hk).imp id (fun ⟨a,b⟩=>⟨a,Nat.lt_of_lt_of_le b hb.size⟩)⟩,h5.trans (Off.of_below hb F) (fun _ _ h=>h)⟩
theorem KePost.from (h:KePost F w0 V c kb bc K w')(hb:Below w.heap.size w V):KePost F w0 w c kb bc K w':=by
 obtain⟨⟨H,bd,rb,bt,lv,bs,h1,h2⟩,h3⟩:=h;exact⟨⟨H,bd,rb,bt,lv,bs,h1,fun i k hk=>(h2 i k hk).imp id (fun ⟨a,b⟩=>⟨Nat.le_trans hb.size a,b⟩)⟩,(Off.of_below hb F).trans h3 (fun _ _ h=>h)⟩
theorem KeAt.bel (h:KeAt F w0 w c kb bc K):Below w0.heap.size w0 w:=by obtain⟨H,bd,rb,bt,lv,bs,h1,-⟩:=h;exact h1.bel
theorem KeAt.below (h:KeAt F w0 w c kb bc K)(hb:Below w.heap.size w w'):KeAt F w0 w' c kb bc K:=by
 obtain⟨H,bd,rb,bt,lv,bs,h1,h2⟩:=h;exact⟨H,bd,rb,bt,lv,bs,h1.below hb,h2⟩
theorem KeAt.off {S:Nat->Prop}(h:KeAt F w0 w c kb bc K)(ho:Off S w w')(hS:∀ k,F k->¬S k)(hB:∀ k,S k->w0.heap.size<=k):KeAt F w0 w' c kb bc K:=by
 obtain⟨H,bd,rb,bt,lv,bs,h1,h2⟩:=h;exact⟨H,bd,rb,bt,lv,bs,h1.off ho (fun i k hk=>hS k (h2 i k hk)) hB,h2⟩
end
def KeTo (H:Nat->Nat->Prop)(w0 w:World)(c:CfgD)(kb bc bd rb bt:Nat)(lv:Value)(bs:List Nat)(K:KSt)(w':World):Prop:=
 ∃ H',KeIn H' w0 w' c kb bc bd rb bt lv bs K/\(∀ i k,H' i k->gr (fun k=>∃ i,H i k) w w' k)/\Off (fun k=>∃ i,H i k) w w'
section
variable {H H1:Nat->Nat->Prop}{F:Nat->Prop}{w0 w w' V:World}{c:CfgD}{kb bc bd rb bt:Nat}{lv:Value}{bs:List Nat}{K K1:KSt}
theorem KeTo.same (h:KeIn H w0 w c kb bc bd rb bt lv bs K):KeTo H w0 w c kb bc bd rb bt lv bs K w:=⟨H,h,fun i _ hk=>Or.inl ⟨i,hk⟩,Off.refl _ _⟩
theorem KeTo.one {i:Nat}(ho:Off (H i) w w')(h:KeIn (updH H i w w') w0 w' c kb bc bd rb bt lv bs K):KeTo H w0 w c kb bc bd rb bt lv bs K w':=⟨_,h,updH_all (fun i _ hk=>⟨i,hk⟩) i,Off.all (fun i _ hk=>⟨i,hk⟩) ho⟩
theorem KeTo.trans (hg:∀ i k,H1 i k->gr (fun k=>∃ i,H i k) w V k)(ho:Off (fun k=>∃ i,H i k) w V)(h:KeTo H1 w0 V c kb bc bd rb bt lv bs K w'):KeTo H w0 w c kb bc bd rb bt lv bs K w':=by
 obtain⟨H2,h1,h2,h3⟩:=h
 refine⟨H2,h1,fun i k hk=>?_,ho.trans h3 (fun k hk ⟨i,hi⟩=>?_)⟩
 ·rcases h2 i k hk with ⟨j,hj⟩ | ⟨a,b⟩
  ·exact(hg j k hj).imp id (fun ⟨a,b⟩=>⟨a,Nat.lt_of_lt_of_le b h3.size⟩)
  ·exact Or.inr ⟨Nat.le_trans ho.size a,b⟩
 ·rcases hg i k hi with a | ⟨a,_⟩
  ·exact a
  ·omega
theorem KeTo.post (h:KeTo H w0 w c kb bc bd rb bt lv bs K w')(hF:∀ i k,H i k->F k):KePost F w0 w c kb bc K w':=by
 obtain⟨H2,h1,h2,h3⟩:=h;exact⟨⟨H2,_,_,_,_,_,h1,fun i k hk=>(h2 i k hk).imp (fun ⟨j,hj⟩=>hF j k hj) id⟩,h3.mono (fun k _ ⟨j,hj⟩=>hF j k hj)⟩
end
end Go.Proofs.YtffpcbdlbcjihadGreatDoor
