/-
  Several texts as one: CfBack, CfLen.
-/
import Derived.Test.YtffpcbdlbcjihadGreatDoorP00S
namespace Go.Proofs.YtffpcbdlbcjihadGreatDoor
theorem firstOf_cons {b:Bool}{c:Nat}{t:List (Bool × Nat)}(hc:c≠0)(h:firstOf ((b,c) :: t)=0):b=false/\firstOf t=0:=by
 unfold firstOf at h
 cases b with
 | false=>exact⟨rfl,by simpa using h⟩
 | true=>simp at h;exact absurd h hc
structure OkE (e:EntD):Prop where
 name:isName e.name=true
 tol:0<=e.tol/\e.tol<=20
 pn:∀ p∈e.pts,isName p=true
 nd:e.pts.Nodup
 cnt:(e.cnt=-1/\e.mn=0/\e.mx=0)\/(0<=e.cnt/\e.cnt < (e.pts.length:Int))
 mm:0<=e.mn/\e.mn<=e.mx/\e.mx<=999
 gaps:∀ g∈e.gaps,(0<=g.fr/\g.fr < (e.pts.length:Int))/\(0<=g.to/\g.to < (e.pts.length:Int))/\0<=g.mn/\g.mn<=g.mx/\g.mx<=1099511627776
 edges:∀ d∈e.edges,(0<=d.1/\d.1 < (e.pts.length:Int))/\(0<=d.2/\d.2 < (e.pts.length:Int))
 first:∀ x∈e.first,0<=x/\x < (e.pts.length:Int)
 last:∀ x∈e.last,0<=x/\x < (e.pts.length:Int)
theorem nameErr_zero {a:List ByteArray}{s:ByteArray}(h:nameErr a s=0):isName s=true/\s ∉ a:=by
 unfold nameErr at h
 split at h
 ·rename_i hn
  split at h
  ·simp at h
  ·rename_i ha
   refine⟨hn,fun hm=>ha ?_⟩;exact List.any_eq_true.2 ⟨s,hm,by simp⟩
 ·simp at h
theorem ptsErr_zero:∀ (l a:List ByteArray),ptsErr a l=0->(∀ p∈l,isName p=true/\p ∉ a)/\l.Nodup
 | [],_,_=>⟨fun p hp=>(List.not_mem_nil hp).elim,List.Pairwise.nil⟩
 | p :: t,a,h=>by
  unfold ptsErr at h
  split at h
  ·rename_i h0;obtain⟨h1,h2⟩:=nameErr_zero h0;obtain⟨h3,h4⟩:=ptsErr_zero t (a++[p]) h
   refine⟨fun q hq=>?_,List.nodup_cons.2 ⟨fun hm=>(h3 p hm).2 (by simp),h4⟩⟩
   rcases List.mem_cons.1 hq with rfl | hq
   ·exact⟨h1,h2⟩
   ·exact⟨(h3 q hq).1,fun hm=>(h3 q hq).2 (by simp[hm])⟩
  ·rename_i h0;exact absurd h h0
theorem lacks_false {n:Nat}{x:Int}(h:lacks n x=false):0<=x/\x < (n:Int):=by
 unfold lacks at h;simp at h;omega
theorem rise_true {a b c d:Int}(h:rise a b c d=true):a<=b/\b<=c/\c<=d:=by
 unfold rise at h;simp at h;omega
theorem entErr_zero {a:List ByteArray}{e:EntD}(h:entErr a e=0):nameErr a e.name=0/\sizeErr e=0/\ptsErr [] e.pts=0/\partErr e=0:=by
 unfold entErr at h
 split at h
 ·rename_i h0;exact absurd h h0
 ·rename_i h0
  split at h
  ·rename_i h1;exact absurd h h1
  ·rename_i h1
   split at h
   ·rename_i h2;exact absurd h h2
   ·rename_i h2;exact⟨by simpa using h0,by simpa using h1,by simpa using h2,h⟩
theorem okE_of {a:List ByteArray}{e:EntD}(h:entErr a e=0):OkE e:=by
 obtain⟨h1,h2,h3,h4⟩:=entErr_zero h;obtain⟨n1,-⟩:=nameErr_zero h1;obtain⟨p1,p2⟩:=ptsErr_zero _ _ h3;unfold sizeErr at h2;obtain⟨s1,-⟩:=firstOf_cons (by simp) h2;unfold partErr at h4;obtain⟨q1,h4⟩:=firstOf_cons (by simp) h4;obtain⟨q2,h4⟩:=firstOf_cons (by simp) h4;obtain⟨q3,h4⟩:=firstOf_cons (by simp) h4;obtain⟨q4,h4⟩:=firstOf_cons (by simp) h4;obtain⟨q5,h4⟩:=firstOf_cons (by simp) h4;obtain⟨q6,h4⟩:=firstOf_cons (by simp) h4;obtain⟨q7,h4⟩:=firstOf_cons (by simp) h4;obtain⟨q8,-⟩:=firstOf_cons (by simp) h4;simp only[Bool.not_eq_false'] at q7;have m7:=rise_true q7
 refine⟨n1,?_,fun p hp=>(p1 p hp).1,p2,?_,m7,fun g hg=>?_,fun d hd=>?_,fun x hx=>?_,fun x hx=>?_⟩
 ·simp[within] at s1;omega
 ·by_cases hc:e.cnt=-1
  ·left
   simp[hc] at q6
   exact⟨hc,q6⟩
  ·right
   simp[hc] at q1
   exact lacks_false q1
 ·have a1:=List.any_eq_false.1 q2 g hg;have a2:=List.any_eq_false.1 q8 g hg;simp only[Bool.or_eq_true,not_or,Bool.not_eq_true] at a1;simp only[Bool.not_eq_true,Bool.not_eq_false'] at a2;exact⟨lacks_false a1.1,lacks_false a1.2,rise_true a2⟩
 ·have a1:=List.any_eq_false.1 q3 d hd;simp only[Bool.or_eq_true,not_or,Bool.not_eq_true] at a1;exact⟨lacks_false a1.1,lacks_false a1.2⟩
 ·exact lacks_false (by simpa using List.any_eq_false.1 q4 x hx)
 ·exact lacks_false (by simpa using List.any_eq_false.1 q5 x hx)
theorem entsErr_zero:∀ (l:List EntD) (a:List ByteArray) (i:Nat),(entsErr a i l).1=0->∀ e∈l,OkE e
 | [],_,_,_,e,he=>by cases he
 | x :: t,a,i,h,e,he=>by
  unfold entsErr at h
  split at h
  ·rename_i h0
   rcases List.mem_cons.1 he with rfl | he
   ·exact okE_of h0
   ·exact entsErr_zero t _ _ h e he
  ·rename_i h0;exact absurd h h0
structure OkC (c:CfgD):Prop where
 closed:0<=c.closed/\c.closed<=1000
 opn:1<=c.opn/\c.opn<=1000
 cycle:1<=c.cycle/\c.cycle<=100
 delay:0<=c.delay/\c.delay<=20
 many:c.ents.length<=8
 ents:∀ e∈c.ents,OkE e
theorem okC_of {c:CfgD}(h:(cfgErr c).1=0):OkC c:=by
 unfold cfgErr at h
 split at h
 ·rename_i h0;unfold wholeErr at h0;obtain⟨q1,h0⟩:=firstOf_cons (by simp) h0;obtain⟨q2,h0⟩:=firstOf_cons (by simp) h0;obtain⟨q3,h0⟩:=firstOf_cons (by simp) h0;obtain⟨q4,-⟩:=firstOf_cons (by simp) h0;simp[within] at q1 q2 q3 q4
  exact⟨q1.1,q1.2,q2,q3,q4,entsErr_zero _ _ _ h⟩
 ·rename_i h0;exact absurd h h0
theorem nameByte_clean {b:UInt8}(h:nameByte b=true):b≠32/\b≠10:=by
 constructor <;> (rintro rfl;revert h;decide)
theorem name_clean {s:ByteArray}(h:isName s=true):bl s≠[]/\(32:UInt8) ∉ bl s/\(10:UInt8) ∉ bl s:=by
 unfold isName at h;simp only[Bool.and_eq_true,decide_eq_true_eq] at h;obtain⟨⟨⟨h1,-⟩,-⟩,h4⟩:=h
 refine⟨fun e=>?_,fun hm=>?_,fun hm=>?_⟩
 ·have:(bl s).length=s.size:=by unfold bl ByteArray.size;rw[Array.length_toList]
  rw[e] at this;have h0:([]:Bs).length=0:=rfl;omega
 ·exact(nameByte_clean (List.all_eq_true.1 h4 _ hm)).1 rfl
 ·exact(nameByte_clean (List.all_eq_true.1 h4 _ hm)).2 rfl
theorem num_clean (n:Int):num n≠[]/\(32:UInt8) ∉ num n/\(10:UInt8) ∉ num n:=by
 obtain⟨-,b,c,-,-⟩:=decN_all n.toNat
 refine⟨c,fun hm=>?_,fun hm=>?_⟩ <;> (have:=List.all_eq_true.1 b _ hm;revert this;decide)
theorem word0_ok (look:Bs->Option Nat){w:Bs}(h:w≠[]):wordV look 0 w=(0,0):=by unfold wordV;rw[if_neg h];rfl
theorem word1_ok (look:Bs->Option Nat){n:Int}(h0:0<=n)(h1:n < 10000000000000):wordV look 1 (num n)=(0,n):=by
 unfold wordV;rw[if_neg (num_clean n).1];have:numOf (num n)=some n.toNat:=numOf_dec _ (by omega);simp only[this];congr 1
 omega
theorem nodup_get {l:List ByteArray}(h:l.Nodup){i j:Nat}{a b:ByteArray}(hi:l[i]?=some a)(hj:l[j]?=some b)(e:a=b):i=j:=by
 subst e;obtain⟨li,ei⟩:=List.getElem?_eq_some_iff.1 hi;obtain⟨lj,ej⟩:=List.getElem?_eq_some_iff.1 hj;have hp:=List.pairwise_iff_getElem.1 h
 rcases Nat.lt_trichotomy i j with hlt | rfl | hlt
 ·exact absurd (ei.trans ej.symm) (hp i j li lj hlt)
 ·rfl
 ·exact absurd (ej.trans ei.symm) (hp j i lj li hlt)
theorem pt_at {pts:List ByteArray}{x:Int}(h0:0<=x)(h1:x < (pts.length:Int)):∃ p,pts[x.toNat]?=some p/\pt pts x=bl p/\p∈pts:=by
 have hl:x.toNat < pts.length:=by omega
 exact⟨pts[x.toNat],List.getElem?_eq_getElem hl,by simp[pt,List.getD_eq_getElem?_getD,List.getElem?_eq_getElem hl],List.getElem_mem hl⟩
theorem word2_ok {look:Look}(G:GoodLook look){pts:List ByteArray}(hn:pts.Nodup)(hp:∀ p∈pts,isName p=true){x:Int}(h0:0<=x)(h1:x < (pts.length:Int)):wordV (look pts) 2 (pt pts x)=(0,x):=by
 obtain⟨p,e,e2,hm⟩:=pt_at h0 h1;rw[e2];unfold wordV;rw[if_neg (name_clean (hp p hm)).1];simp only
 cases hl:look pts (bl p) with
 | none=>exact absurd rfl (G.miss _ _ hl p hm)
 | some i=>
  obtain⟨q,hq,hb⟩:=G.hit _ _ _ hl;have:=nodup_get hn hq e (bl_inj hb);simp only;congr 1
  omega
theorem pt_clean {pts:List ByteArray}(hp:∀ p∈pts,isName p=true){x:Int}(h0:0<=x)(h1:x < (pts.length:Int)):(32:UInt8) ∉ pt pts x/\(10:UInt8) ∉ pt pts x:=by
 obtain⟨p,-,e2,hm⟩:=pt_at h0 h1;rw[e2];exact(name_clean (hp p hm)).2
theorem fill_cons {look:Bs->Option Nat}{f:Nat}{fs:List Nat}{w:Bs}{ws:List Bs}{v:Int}{vs:List Int}(h1:wordV look f w=(0,v))(h2:fillV look false fs ws=(0,vs)):fillV look false (f :: fs) (w :: ws)=(0,v :: vs):=by
 rw[fillV,h1];simp[h2]
theorem fill_nil (look:Bs->Option Nat):fillV look false [] []=(0,[]):=by simp[fillV]
theorem line_ok {look:Look}{st:RS}{k:Nat}{ws:List Bs}{vs:List Int}(hk:k < 10)(hm:may st.last k=true)(hw:∀ w∈ws,(32:UInt8) ∉ w)(hf:fillV (look (lastPts st.cfg.ents)) false (form k) ws=(0,vs)) :
  lineR look st (kwLine k ws)=(0,⟨k,updC st.cfg k ws vs⟩):=by
 unfold lineR;rw[kwLine_join,cut_join 32 ws (kw k) (kw_clean k hk).1 hw];simp only[lineW];rw[kindOf_kw k hk];simp[hm,hf]
theorem lines_ok {look:Look}{st:RS}{k i:Nat}{ws:List Bs}{vs:List Int}(ls:List Bs)(hk:k < 10)(hm:may st.last k=true)(hw:∀ w∈ws,(32:UInt8) ∉ w)(hf:fillV (look (lastPts st.cfg.ents)) false (form k) ws=(0,vs)) :
  linesR look i st (kwLine k ws :: ls)=linesR look (i+1) ⟨k,updC st.cfg k ws vs⟩ ls:=by
 rw[linesR,line_ok hk hm hw hf];simp
theorem lastPts_snoc (es:List EntD)(e:EntD):lastPts (es++[e])=e.pts:=by simp[lastPts]
theorem run_part {look:Look}{α:Type}(k:Nat)(h4:4<=k)(h10:k < 10)(h5:k≠5)(f:α->List Bs)(g:EntD->α->EntD)(Gs:EntD->List α->EntD)(P:EntD->Prop)(g0:∀ e,Gs e []=e)(g1:∀ e x xs,Gs e (x :: xs)=Gs (g e x) xs)(a b c d:Int)(es:List EntD)(rest:List Bs) :
  ∀ (xs:List α) (i:Nat) (last:Int) (e:EntD),3<=last->last<=(k:Int)->P e ->
   (∀ x∈xs,(∀ w∈f x,(32:UInt8) ∉ w)/\∀ e,P e->∃ vs,fillV (look e.pts) false (form k) (f x)=(0,vs)/\updE k (f x) vs e=g e x/\P (g e x)) ->
   ∃ j last',linesR look i ⟨last,⟨a,b,c,d,es++[e]⟩⟩ (xs.map (fun x=>kwLine k (f x))++rest)=linesR look j ⟨last',⟨a,b,c,d,es++[Gs e xs]⟩⟩ rest/\3<=last'/\last'<=(k:Int):=by
 intro xs
 induction xs with
 | nil=>intro i last e h3 hl _ _;exact⟨i,last,by rw[g0];rfl,h3,hl⟩
 | cons x xs ih=>
  intro i last e h3 hl hP hx;obtain⟨hw,hx0⟩:=hx x (by simp);obtain⟨vs,hf,hu,hP'⟩:=hx0 e hP;have hm:may last k=true:=by
   unfold may;rw[if_neg (by omega),if_neg (by omega),if_neg h5];simp;omega
  rw[List.map_cons,List.cons_append,lines_ok _ h10 hm hw (by rw[lastPts_snoc];exact hf)];have hup:updC ⟨a,b,c,d,es++[e]⟩ k (f x) vs=⟨a,b,c,d,es++[g e x]⟩:=by
   match k,h4 with
   | k+4,_=>simp only[updC];rw[updLast_snoc,hu]
  rw[hup,g1];exact ih (i+1) k (g e x) (by omega) (Int.le_refl _) hP' (fun y hy=>hx y (by simp[hy]))
theorem run_ent {look:Look}(G:GoodLook look)(a b c d:Int)(es:List EntD)(e:EntD)(hE:OkE e)(rest:List Bs)(i:Nat)(last:Int)(hl:2<=last) :
  ∃ j last',linesR look i ⟨last,⟨a,b,c,d,es⟩⟩ (entLines e++rest)=linesR look j ⟨last',⟨a,b,c,d,es++[e]⟩⟩ rest/\2<=last':=by
 obtain⟨name,tol,pts,cnt,mn,mx,gaps,edges,first,lst⟩:=e;obtain⟨hn,ht,hpn,hnd,hcnt,hmm,hg,hed,hfi,hla⟩:=hE;simp only at hn ht hpn hnd hcnt hmm hg hed hfi hla;obtain⟨n1,n2,-⟩:=name_clean hn;have W2:∀ {x:Int},0<=x->x < (pts.length:Int)->wordV (look pts) 2 (pt pts x)=(0,x):=fun h0 h1=>word2_ok G hnd hpn h0 h1
 unfold entLines;simp only[List.cons_append,List.append_assoc];rw[lines_ok (vs:=[0,tol]) _ (by decide) (by simp[may];exact hl) (by intro w hw;simp at hw;rcases hw with rfl | rfl;exact n2;exact(num_clean tol).2.1) (fill_cons (word0_ok _ n1) (fill_cons (word1_ok _ (by omega) (by omega)) (fill_nil _)))];have hup:updC ⟨a,b,c,d,es⟩ 3 [bl name,num tol] [0,tol]=⟨a,b,c,d,es++[⟨name,tol,[],-1,0,0,[],[],[],[]⟩]⟩:=by
  have:(⟨(bl name).toArray⟩:ByteArray)=name:=bl_inj (bl_mk _);simp[updC,newEnt,this]
 rw[hup];obtain⟨j,l1,e1,h3,h4⟩:=run_part (look:=look) 4 (by decide) (by decide) (by decide) (fun p:ByteArray=>[bl p]) (fun e p=>⟨e.name,e.tol,e.pts++[p],e.cnt,e.mn,e.mx,e.gaps,e.edges,e.first,e.last⟩) (fun e ps=>⟨e.name,e.tol,e.pts++ps,e.cnt,e.mn,e.mx,e.gaps,e.edges,e.first,e.last⟩) (fun _=>True) (fun e=>by simp) (fun e x xs=>by simp) a b c d es
  ((if cnt=-1 then [] else [kwLine 5 [pt pts cnt,num mn,num mx]])++(gaps.map (fun g=>kwLine 6 [pt pts g.fr,pt pts g.to,num g.mn,num g.mx])++(edges.map (fun d=>kwLine 7 [pt pts d.1,pt pts d.2])++(first.map (fun x=>kwLine 8 [pt pts x])++(lst.map (fun x=>kwLine 9 [pt pts x])++rest)))))
  pts (i+1) 3 ⟨name,tol,[],-1,0,0,[],[],[],[]⟩ (by omega) (by omega) trivial
  (fun p hp=>⟨by intro w hw;simp at hw;subst hw;exact(name_clean (hpn p hp)).2.1,fun e _=>⟨[0],fill_cons (word0_ok _ (name_clean (hpn p hp)).1) (fill_nil _),by
   have:(⟨(bl p).toArray⟩:ByteArray)=p:=bl_inj (bl_mk _);simp[updE,this],trivial⟩⟩)
 have e1':=e1;simp only[List.nil_append] at e1';have c5:∃ j5 l5,linesR look j ⟨l1,⟨a,b,c,d,es++[⟨name,tol,pts,-1,0,0,[],[],[],[]⟩]⟩⟩ ((if cnt=-1 then [] else [kwLine 5 [pt pts cnt,num mn,num mx]])++(gaps.map (fun g=>kwLine 6 [pt pts g.fr,pt pts g.to,num g.mn,num g.mx])++(edges.map (fun d=>kwLine 7 [pt pts d.1,pt pts d.2])++(first.map (fun x=>kwLine 8 [pt pts x])++(lst.map (fun x=>kwLine 9 [pt pts x])++rest))))) =
   linesR look j5 ⟨l5,⟨a,b,c,d,es++[⟨name,tol,pts,cnt,mn,mx,[],[],[],[]⟩]⟩⟩ (gaps.map (fun g=>kwLine 6 [pt pts g.fr,pt pts g.to,num g.mn,num g.mx])++(edges.map (fun d=>kwLine 7 [pt pts d.1,pt pts d.2])++(first.map (fun x=>kwLine 8 [pt pts x])++(lst.map (fun x=>kwLine 9 [pt pts x])++rest))))/\3<=l5/\l5<=6:=by
  rcases hcnt with ⟨rfl,rfl,rfl⟩ | ⟨k0,k1⟩
  ·exact⟨j,l1,by simp,h3,by omega⟩
  ·refine⟨j+1,5,?_,by omega,by omega⟩;rw[if_neg (by omega),List.singleton_append,lines_ok (vs:=[cnt,mn,mx]) _ (by decide) (by simp[may];omega) (by intro w hw;simp at hw;rcases hw with rfl | rfl | rfl;exact(pt_clean hpn k0 k1).1;exact(num_clean mn).2.1;exact(num_clean mx).2.1)
    (by rw[lastPts_snoc];exact fill_cons (W2 k0 k1) (fill_cons (word1_ok _ (by omega) (by omega)) (fill_cons (word1_ok _ (by omega) (by omega)) (fill_nil _))))]
   simp only[updC];rw[updLast_snoc];simp[updE]
 obtain⟨j5,l5,e5,h35,h56⟩:=c5;obtain⟨j6,l6,e6,h36,h66⟩:=run_part (look:=look) 6 (by decide) (by decide) (by decide) (fun g:GapD=>[pt pts g.fr,pt pts g.to,num g.mn,num g.mx]) (fun e g=>⟨e.name,e.tol,e.pts,e.cnt,e.mn,e.mx,e.gaps++[g],e.edges,e.first,e.last⟩) (fun e gs=>⟨e.name,e.tol,e.pts,e.cnt,e.mn,e.mx,e.gaps++gs,e.edges,e.first,e.last⟩) (fun e=>e.pts=pts) (fun e=>by simp) (fun e x xs=>by simp) a b c d es
  (edges.map (fun d=>kwLine 7 [pt pts d.1,pt pts d.2])++(first.map (fun x=>kwLine 8 [pt pts x])++(lst.map (fun x=>kwLine 9 [pt pts x])++rest)))
  gaps j5 l5 ⟨name,tol,pts,cnt,mn,mx,[],[],[],[]⟩ h35 h56 rfl
  (fun g hgm=>by
   obtain⟨⟨f0,f1⟩,⟨t0,t1⟩,m0,m1,m2⟩:=hg g hgm
   refine⟨by intro w hw;simp at hw;rcases hw with rfl | rfl | rfl | rfl;exact(pt_clean hpn f0 f1).1;exact(pt_clean hpn t0 t1).1;exact(num_clean g.mn).2.1;exact(num_clean g.mx).2.1,fun e he=>⟨[g.fr,g.to,g.mn,g.mx],?_,by simp[updE],he⟩⟩;rw[he];exact fill_cons (W2 f0 f1) (fill_cons (W2 t0 t1) (fill_cons (word1_ok _ (by omega) (by omega)) (fill_cons (word1_ok _ (by omega) (by omega)) (fill_nil _)))))
 obtain⟨j7,l7,e7,h37,h67⟩:=run_part (look:=look) 7 (by decide) (by decide) (by decide) (fun g:Int × Int=>[pt pts g.1,pt pts g.2]) (fun e g=>⟨e.name,e.tol,e.pts,e.cnt,e.mn,e.mx,e.gaps,e.edges++[g],e.first,e.last⟩) (fun e gs=>⟨e.name,e.tol,e.pts,e.cnt,e.mn,e.mx,e.gaps,e.edges++gs,e.first,e.last⟩) (fun e=>e.pts=pts) (fun e=>by simp) (fun e x xs=>by simp) a b c d es
  (first.map (fun x=>kwLine 8 [pt pts x])++(lst.map (fun x=>kwLine 9 [pt pts x])++rest))
  edges j6 l6 ⟨name,tol,pts,cnt,mn,mx,[]++gaps,[],[],[]⟩ h36 (by omega) rfl
  (fun g hgm=>by
   obtain⟨⟨f0,f1⟩,t0,t1⟩:=hed g hgm
   refine⟨by intro w hw;simp at hw;rcases hw with rfl | rfl;exact(pt_clean hpn f0 f1).1;exact(pt_clean hpn t0 t1).1,fun e he=>⟨[g.1,g.2],?_,by simp[updE],he⟩⟩;rw[he];exact fill_cons (W2 f0 f1) (fill_cons (W2 t0 t1) (fill_nil _)))
 obtain⟨j8,l8,e8,h38,h68⟩:=run_part (look:=look) 8 (by decide) (by decide) (by decide) (fun g:Int=>[pt pts g]) (fun e g=>⟨e.name,e.tol,e.pts,e.cnt,e.mn,e.mx,e.gaps,e.edges,e.first++[g],e.last⟩) (fun e gs=>⟨e.name,e.tol,e.pts,e.cnt,e.mn,e.mx,e.gaps,e.edges,e.first++gs,e.last⟩) (fun e=>e.pts=pts) (fun e=>by simp) (fun e x xs=>by simp) a b c d es
  (lst.map (fun x=>kwLine 9 [pt pts x])++rest)
  first j7 l7 ⟨name,tol,pts,cnt,mn,mx,[]++gaps,[]++edges,[],[]⟩ h37 (by omega) rfl
  (fun g hgm=>by
   obtain⟨f0,f1⟩:=hfi g hgm
   refine⟨by intro w hw;simp at hw;subst hw;exact(pt_clean hpn f0 f1).1,fun e he=>⟨[g],?_,by simp[updE],he⟩⟩;rw[he];exact fill_cons (W2 f0 f1) (fill_nil _))
 obtain⟨j9,l9,e9,h39,h69⟩:=run_part (look:=look) 9 (by decide) (by decide) (by decide) (fun g:Int=>[pt pts g]) (fun e g=>⟨e.name,e.tol,e.pts,e.cnt,e.mn,e.mx,e.gaps,e.edges,e.first,e.last++[g]⟩) (fun e gs=>⟨e.name,e.tol,e.pts,e.cnt,e.mn,e.mx,e.gaps,e.edges,e.first,e.last++gs⟩) (fun e=>e.pts=pts) (fun e=>by simp) (fun e x xs=>by simp) a b c d es
  rest
  lst j8 l8 ⟨name,tol,pts,cnt,mn,mx,[]++gaps,[]++edges,[]++first,[]⟩ h38 (by omega) rfl
  (fun g hgm=>by
   obtain⟨f0,f1⟩:=hla g hgm
   refine⟨by intro w hw;simp at hw;subst hw;exact(pt_clean hpn f0 f1).1,fun e he=>⟨[g],?_,by simp[updE],he⟩⟩;rw[he];exact fill_cons (W2 f0 f1) (fill_nil _))
 exact⟨j9,l9,(((((e1'.trans e5).trans e6).trans e7).trans e8).trans e9),by omega⟩
theorem run_ents {look:Look}(G:GoodLook look)(a b c d:Int):∀ (l:List EntD) (es:List EntD) (i:Nat) (last:Int),(∀ e∈l,OkE e)->2<=last->∃ st,linesR look i ⟨last,⟨a,b,c,d,es⟩⟩ (l.flatMap entLines)=((0,-1),⟨st,⟨a,b,c,d,es++l⟩⟩)
 | [],es,i,last,_,hl=>⟨last,by simp[linesR];omega⟩
 | e :: l,es,i,last,hE,hl=>by
  rw[List.flatMap_cons];obtain⟨j,l',h1,h2⟩:=run_ent G a b c d es e (hE e (by simp)) (l.flatMap entLines) i last hl;obtain⟨st,h3⟩:=run_ents G a b c d l (es++[e]) j l' (fun x hx=>hE x (by simp[hx])) h2;exact⟨st,by rw[h1,h3];simp⟩
theorem run_conf {look:Look}(G:GoodLook look){c:CfgD}(hc:OkC c):∃ st,linesR look 0 ⟨-1,cfg0⟩ (confLines c)=((0,-1),⟨st,c⟩):=by
 obtain⟨a,b,cy,d,ents⟩:=c;obtain⟨h1,h2,h3,h4,-,h5⟩:=hc;simp only at h1 h2 h3 h4 h5;obtain⟨st,h⟩:=run_ents G a b cy d ents [] 3 2 h5 (by omega)
 refine⟨st,?_⟩;unfold confLines;simp only[];rw[lines_ok (vs:=[a,b]) _ (by decide) (by simp[may]) (by intro w hw;simp at hw;rcases hw with rfl | rfl <;> exact(num_clean _).2.1) (fill_cons (word1_ok _ (by omega) (by omega)) (fill_cons (word1_ok _ (by omega) (by omega)) (fill_nil _)))];rw[lines_ok (vs:=[cy]) _ (by decide) (by simp[may]) (by intro w hw;simp at hw;subst hw;exact(num_clean _).2.1) (fill_cons (word1_ok _ (by omega) (by omega)) (fill_nil _))];rw[lines_ok (vs:=[d]) _ (by decide) (by simp[may]) (by intro w hw;simp at hw;subst hw;exact(num_clean _).2.1) (fill_cons (word1_ok _ (by omega) (by omega)) (fill_nil _))];simpa[updC,cfg0] using h
theorem kwLine_clean {k:Nat}(hk:k < 10){ws:List Bs}(h:∀ w∈ws,(10:UInt8) ∉ w):(10:UInt8) ∉ kwLine k ws:=by
 unfold kwLine;simp only[List.mem_append,List.mem_flatMap,List.mem_cons,not_or,not_exists,not_and];exact⟨(kw_clean k hk).2,fun w hw=>⟨by decide,h w hw⟩⟩
theorem lines_clean {c:CfgD}(hc:OkC c):∀ l∈confLines c,(10:UInt8) ∉ l:=by
 intro l hl;unfold confLines at hl;simp only[List.mem_cons,List.mem_flatMap] at hl;have N:∀ n,(10:UInt8) ∉ num n:=fun n=>(num_clean n).2.2
 rcases hl with rfl | rfl | rfl | ⟨e,he,hl⟩
 ·exact kwLine_clean (by decide) (by intro w hw;simp at hw;rcases hw with rfl | rfl <;> exact N _)
 ·exact kwLine_clean (by decide) (by intro w hw;simp at hw;subst hw;exact N _)
 ·exact kwLine_clean (by decide) (by intro w hw;simp at hw;subst hw;exact N _)
 ·have E:=hc.ents e he;unfold entLines at hl;simp only[List.mem_cons,List.mem_append,List.mem_map] at hl
  rcases hl with rfl | ⟨p,hp,rfl⟩ | hl | ⟨g,hg,rfl⟩ | ⟨g,hg,rfl⟩ | ⟨g,hg,rfl⟩ | ⟨g,hg,rfl⟩
  ·exact kwLine_clean (by decide) (by intro w hw;simp at hw;rcases hw with rfl | rfl;exact(name_clean E.name).2.2;exact N _)
  ·exact kwLine_clean (by decide) (by intro w hw;simp at hw;subst hw;exact(name_clean (E.pn p hp)).2.2)
  ·split at hl
   ·simp at hl
   ·rename_i hn;simp at hl
    subst hl
    rcases E.cnt with h | ⟨k0,k1⟩
    ·exact absurd h.1 hn
    ·exact kwLine_clean (by decide) (by intro w hw;simp at hw;rcases hw with rfl | rfl | rfl;exact(pt_clean E.pn k0 k1).2;exact N _;exact N _)
  ·obtain⟨⟨f0,f1⟩,⟨t0,t1⟩,-⟩:=E.gaps g hg;exact kwLine_clean (by decide) (by intro w hw;simp at hw;rcases hw with rfl | rfl | rfl | rfl;exact(pt_clean E.pn f0 f1).2;exact(pt_clean E.pn t0 t1).2;exact N _;exact N _)
  ·obtain⟨⟨f0,f1⟩,t0,t1⟩:=E.edges g hg;exact kwLine_clean (by decide) (by intro w hw;simp at hw;rcases hw with rfl | rfl;exact(pt_clean E.pn f0 f1).2;exact(pt_clean E.pn t0 t1).2)
  ·obtain⟨f0,f1⟩:=E.first g hg;exact kwLine_clean (by decide) (by intro w hw;simp at hw;subst hw;exact(pt_clean E.pn f0 f1).2)
  ·obtain⟨f0,f1⟩:=E.last g hg;exact kwLine_clean (by decide) (by intro w hw;simp at hw;subst hw;exact(pt_clean E.pn f0 f1).2)
theorem text_read {look:Look}(G:GoodLook look){c:CfgD}(h:(cfgErr c).1=0)(hl:(confText c).length<=8000):readR look (confText c)=((0,-1),c):=by
 have hc:=okC_of h;obtain⟨st,hr⟩:=run_conf G hc;have hcl:=lines_clean hc;have hcut:cutBy 10 (trim (confText c))=confLines c:=by
  cases hL:confLines c with
  | nil=>simp[confLines] at hL
  | cons x r=>
   have:confText c=joinBy 10 x r++[10]:=by unfold confText;rw[hL,text_join]
   rw[this];have ht:trim (joinBy 10 x r++[10])=joinBy 10 x r:=by simp[trim]
   rw[ht];rw[hL] at hcl;exact cut_join 10 r x (hcl x (by simp)) (fun w hw=>hcl w (by simp[hw]))
 unfold readR;rw[if_neg (by omega),hcut,hr];simp[h]
theorem len_flat {α β:Type}(f:α->List β)(K:Nat):∀ l:List α,(∀ x∈l,(f x).length<=K)->(l.flatMap f).length<=l.length*K
 | [],_=>by simp
 | x :: l,h=>by
  have h1:=len_flat f K l (fun y hy=>h y (List.mem_cons_of_mem _ hy));have h2:=h x (List.mem_cons_self ..);rw[List.flatMap_cons,List.length_append,List.length_cons,Nat.succ_mul];omega
theorem decN_len:∀ (k u:Nat),u < 10 ^ (k+1)->(decN u).length<=k+1
 | 0,u,h=>by
  unfold decN;rw[dif_pos (by omega)];simp
 | k+1,u,h=>by
  unfold decN
  split
  ·simp
  ·have:=decN_len k (u / 10) (by rw[Nat.pow_succ] at h;omega);rw[List.length_append,List.length_singleton];omega
theorem num_len {n:Int}(h:n<=1099511627776):(num n).length<=13:=decN_len 12 n.toNat (by
 have e:(10:Nat) ^ (12+1)=10000000000000:=by decide
 rw[e];omega)
theorem kw_len (k:Nat):(kw k).length<=6:=by
 unfold kw
 split <;> decide
theorem name_len {s:ByteArray}(h:isName s=true):(bl s).length<=13:=by
 unfold isName at h;simp only[Bool.and_eq_true,decide_eq_true_eq] at h;have h2:=h.1.1.2;have e:(bl s).length=s.size:=by unfold bl;rw[Array.length_toList];rfl
 omega
theorem pt_len {pts:List ByteArray}(h:∀ p∈pts,isName p=true)(x:Int):(pt pts x).length<=13:=by
 unfold pt;rw[List.getD_eq_getElem?_getD]
 cases hq:pts[x.toNat]? with
 | none=>decide
 | some p=>exact name_len (h p (List.mem_of_getElem? hq))
theorem kwLine_len (k:Nat)(ws:List Bs)(h:∀ w∈ws,w.length<=13)(hn:ws.length<=4):(kwLine k ws).length<=62:=by
 have h1:=kw_len k;have h2:(ws.flatMap (fun w=>(32:UInt8) :: w)).length<=ws.length*14:=len_flat (fun w:Bs=>(32:UInt8) :: w) 14 ws (fun w hw=>by have:=h w hw;simp;omega);have e:(kwLine k ws).length=(kw k).length+(ws.flatMap (fun w=>(32:UInt8) :: w)).length:=by unfold kwLine;exact List.length_append
 have h3:ws.length*14<=4*14:=Nat.mul_le_mul_right _ hn;rw[e];exact Nat.le_trans (Nat.add_le_add h1 (Nat.le_trans h2 h3)) (by decide)
structure SizeE (e:EntD):Prop where
 pts:e.pts.length<=16
 gaps:e.gaps.length<=8
 edges:e.edges.length<=64
 first:e.first.length<=16
 last:e.last.length<=16
theorem sizeE_of {e:EntD}(h:sizeErr e=0):SizeE e:=by
 unfold sizeErr at h;obtain⟨-,h⟩:=firstOf_cons (by simp) h;obtain⟨q1,h⟩:=firstOf_cons (by simp) h;obtain⟨q2,h⟩:=firstOf_cons (by simp) h;obtain⟨q3,h⟩:=firstOf_cons (by simp) h;obtain⟨q4,h⟩:=firstOf_cons (by simp) h;obtain⟨q5,-⟩:=firstOf_cons (by simp) h;simp at q1 q2 q3 q4 q5
 exact⟨q1,q2,q3,q4,q5⟩
theorem entsErr_size:∀ (l:List EntD) (a:List ByteArray) (i:Nat),(entsErr a i l).1=0->∀ e∈l,SizeE e
 | [],_,_,_,e,he=>by cases he
 | x :: t,a,i,h,e,he=>by
  unfold entsErr at h
  split at h
  ·rename_i h0
   rcases List.mem_cons.1 he with rfl | he
   ·exact sizeE_of (entErr_zero h0).2.1
   ·exact entsErr_size t _ _ h e he
  ·rename_i h0;exact absurd h h0
theorem cfg_size {c:CfgD}(h:(cfgErr c).1=0):∀ e∈c.ents,SizeE e:=by
 unfold cfgErr at h
 split at h
 ·exact entsErr_size _ _ _ h
 ·rename_i h0;exact absurd h h0
theorem entLines_len {e:EntD}(h:OkE e)(hs:SizeE e):(entLines e).length<=122/\∀ l∈entLines e,l.length<=62:=by
 have h1:=hs.pts;have h2:=hs.gaps;have h3:=hs.edges;have h4:=hs.first;have h5:=hs.last;have hp:=fun x=>pt_len h.pn x
 have hm:=h.mm
 constructor
 ·unfold entLines;have:(if e.cnt=-1 then ([]:List Bs) else [kwLine 5 [pt e.pts e.cnt,num e.mn,num e.mx]]).length<=1:=by split <;> simp
  simp only[List.length_cons,List.length_append,List.length_map];omega
 ·intro l hl;unfold entLines at hl;simp only[List.mem_cons,List.mem_append,List.mem_map] at hl
  rcases hl with rfl | ⟨p,hq,rfl⟩ | hl | ⟨g,hq,rfl⟩ | ⟨d,hq,rfl⟩ | ⟨x,hq,rfl⟩ | ⟨x,hq,rfl⟩
  ·refine kwLine_len _ _ (fun w hw=>?_) (by simp);simp at hw
   rcases hw with rfl | rfl
   ·exact name_len h.name
   ·exact num_len (by have:=h.tol;omega)
  ·refine kwLine_len _ _ (fun w hw=>?_) (by simp);simp at hw
   subst hw;exact name_len (h.pn p hq)
  ·split at hl
   ·cases hl
   ·simp at hl
    subst hl
    refine kwLine_len _ _ (fun w hw=>?_) (by simp);simp at hw
    rcases hw with rfl | rfl | rfl
    ·exact hp _
    ·exact num_len (by omega)
    ·exact num_len (by omega)
  ·refine kwLine_len _ _ (fun w hw=>?_) (by simp);have hg:=h.gaps g hq;simp at hw
   rcases hw with rfl | rfl | rfl | rfl
   ·exact hp _
   ·exact hp _
   ·exact num_len (by omega)
   ·exact num_len (by omega)
  ·refine kwLine_len _ _ (fun w hw=>?_) (by simp);simp at hw
   rcases hw with rfl | rfl
   ·exact hp _
   ·exact hp _
  ·refine kwLine_len _ _ (fun w hw=>?_) (by simp);simp at hw
   subst hw;exact hp _
  ·refine kwLine_len _ _ (fun w hw=>?_) (by simp);simp at hw
   subst hw;exact hp _
theorem ents_len {c:CfgD}(h:(cfgErr c).1=0):((c.ents.flatMap entLines).flatMap (fun x=>x++[10])).length<=400000000:=by
 have hc:=okC_of h;have hs:=cfg_size h;have h1:=len_flat entLines 122 c.ents (fun e he=>(entLines_len (hc.ents e he) (hs e he)).1);have h2:=len_flat (fun x:Bs=>x++[10]) 63 (c.ents.flatMap entLines) (fun l hl=>by
  obtain⟨e,he,hl⟩:=List.mem_flatMap.1 hl;have:=(entLines_len (hc.ents e he) (hs e he)).2 l hl;simp
  omega)
 have h3:=hc.many;have h4:c.ents.length*122<=8*122:=Nat.mul_le_mul_right _ h3;have h5:(c.ents.flatMap entLines).length*63<=8*122*63:=Nat.mul_le_mul_right _ (Nat.le_trans h1 h4);omega
end Go.Proofs.YtffpcbdlbcjihadGreatDoor
