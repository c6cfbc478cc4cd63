/-
  Several texts as one: KeActs, KeSee, RingSm, ScTell, ScTell2, KeEo, KeDog, KeEnd, KeTick, KeCut, KeRnw, PlStep, ScDone, CfLine, CfConf, CfFirstS, CfAny, CfLacks, CfTwice, CfTwo, CfSize.
-/
import Derived.Test.YtgjlihibabmgcaaGreatDoorP04S
set_option linter.all false
set_option maxHeartbeats 40000000
set_option maxRecDepth 100000
abbrev cI.{u}:=@Option.isSome_iff_exists.{u}
abbrev xM:=@Go.Calls.quiet_of_same
abbrev jH:=@Go.Proofs.YtgjlihibabmgcaaGreatDoor.upd_same
open Go renaming Addr→aC,Value→aw,World→ak
open Go.Addr renaming mk→ai
open Go.Ending renaming returned→ax
open Go.IntKind renaming i64→af
open Go.Obj renaming cells→ay
open Go.RowKit renaming Hid→U
open Go.Value renaming agg→bK,bool→aL,int→ae,pointer→aq,slice→aj,string→aA,tuple→bn
open Go.World renaming cell?→aH,frozen?→bM,setCell→bN
open Option renaming none→I,some→J
open Go.Proofs.Tryz
namespace Go.Proofs.YtgjlihibabmgcaaGreatDoor
open Go.Extern Go.Extern.Stop Go.RowKit Go.Stop
variable{B b cap g mb n pb:Nat}{L:List Rec}{e:aM}{i:Int}{pv:aw}{r:Rec}{s:aZ}{sa:Option aC}{w w':ak}{y:ByteArray}
section
variable {A:Nat->aC}{H:Nat->Nat->Prop}{F:Nat->Prop}{w0 w w':ak}{c:aX}{kb bc bd rb bt:Nat}{lv:aw}{bs:List Nat}{K:aD}{k W:Nat}
def LP(K:aD)(i:Int):(i<0\/(K.ls.length:Int)<=i)\/∃(n:Nat) (s:aZ),i=(n:Int)/\K.ls[n]?=J s/\n<K.ls.length:=by
 by_cases h:i<0\/(K.ls.length:Int)<=i
 ·exact aT h
 exact aN ⟨i.toNat,_,by omega,bq (by omega),by omega⟩
def aee(ho:K.on=0)(hi:i<0\/(K.ls.length:Int)<=i):K.begin i=(K,5):=by
 unfold aD.begin;rw[aK (by omega)]
 by_cases h0:i<0
 ·rw[aU h0]
 rw[aK h0,jb (by omega)]
def aef(i:Int)(h:eZ F w0 w c kb bc K)(hs:fI A w0)(hr:er c):Calls prog 62 #[aq (J (ai kb 0 I)),ae af i] w λe w'=>e=ax (errVal A (K.begin i).2)/\dh F w0 w c kb bc (K.begin i).1 w':=by
 have HS:U (dh F w0 w c kb bc K w):=dh.same h;obtain⟨H,bd,rb,bt,lv,bs,h1,hF⟩:=h
 by_cases ho:K.on=0
 ·rcases LP K i with hi|⟨n,s,rfl,jO,hn⟩
  ·have HB:U _:=aee ho hi;have HX:U _:=LM i h1 hs ho hi;rw[show errVal A 5=.iface 357 (aq (J (A 4)))from rfl]at HX;go_enter func62,ntmps62
   go_wp2_with fail
   refine aO HX.o ?_;rintro e w2 ⟨rfl,hb⟩;go_wp2;go_ret;rw[HB.o];exact⟨rfl,HS.below hb⟩
  obtain⟨b,e,g,cap,hb,he,hlv,cp,h4⟩:=h1.qB jO;have od:c.az.getD n mQ=e:=by rw[fp,he];rfl
  have HB:U (K.begin (n:Int)=(K.dT n (s.begin),s.tZ)):=by
   show _=_
   unfold aD.begin;rw[aK (by omega),aK (by omega),show ((n:Int)).toNat=n by omega,jO]
  have HX:U _:=LN n h1 hs ho hn hlv cp;have HE:U _:=bP he;have ry:=h1.pK hs;have HL:U _:=adr (A:=A) h4 ry.c9 (hr.each e HE).1 (hr.each e HE).2.2.2;change U _ at h1 hF
  have Hb:U (bs[n]?=J b/\c.az[n]?=J e):=⟨hb,he⟩;clear hs ho jO hn hb he hlv cp h4 od ry HS;change U _ at hr;go_enter func62,ntmps62
  go_wp2_with fail
  refine aO HX.o ?_;rintro e w2 ⟨rfl,rfl⟩;go_wp2_with fail
  refine aO HL.o ?_;rintro u w3 ⟨rfl,hl,bz⟩;go_wp2;go_ret;rw[HB.o];exact⟨rfl,bS.post hF bz (h1.uh bz Hb.1 Hb.2 hl)⟩
 have HB:U (K.begin i=(K,K.on)):=by show _=_;unfold aD.begin;rw[aU ho]
 have HX:U _:=LL i h1 hs ho;obtain⟨j,hj⟩:=zD (A:=A) ho;rw[hj]at HX;clear h1 hF ho hs hr;change U _ at hj;go_enter func62,ntmps62
 go_wp2_with fail
 refine aO HX.o ?_;rintro e w2 ⟨rfl,rfl⟩;go_wp2;go_ret;rw[HB.o,hj.o];exact⟨rfl,HS⟩
def aeg(ho:K.on=0)(hi:i<0\/(K.ls.length:Int)<=i):K.stop i=(K,5):=by
 unfold aD.stop;rw[aK (by omega)]
 by_cases h0:i<0
 ·rw[aU h0]
 rw[aK h0,jb (by omega)]
def aeh(i:Int)(h:eZ F w0 w c kb bc K)(hs:fI A w0)(hr:er c):Calls prog 64 #[aq (J (ai kb 0 I)),ae af i] w λe w'=>e=ax (errVal A (K.stop i).2)/\dh F w0 w c kb bc (K.stop i).1 w':=by
 have HS:U (dh F w0 w c kb bc K w):=dh.same h;obtain⟨H,bd,rb,bt,lv,bs,h1,hF⟩:=h
 by_cases ho:K.on=0
 ·rcases LP K i with hi|⟨n,s,rfl,jO,hn⟩
  ·have HB:U _:=aeg ho hi;have HX:U _:=LM i h1 hs ho hi;rw[show errVal A 5=.iface 357 (aq (J (A 4)))from rfl]at HX;go_enter func64,ntmps64
   go_wp2_with fail
   refine aO HX.o ?_;rintro e w2 ⟨rfl,hb⟩;go_wp2;go_ret;rw[HB.o];exact⟨rfl,HS.below hb⟩
  obtain⟨b,e,g,cap,hb,he,hlv,cp,h4⟩:=h1.qB jO;have od:c.az.getD n mQ=e:=by rw[fp,he];rfl
  have HB:U (K.stop (n:Int)=(K.dT n (s.stop),s.jQ)):=by
   show _=_
   unfold aD.stop;rw[aK (by omega),aK (by omega),show ((n:Int)).toNat=n by omega,jO]
  have HX:U _:=LN n h1 hs ho hn hlv cp;change U _ at hr
  have HE:U _:=bP he;have ry:=h1.pK hs;have HL:U _:=R9 (A:=A) h4 ry.c8;change U _ at h1 hF
  have Hb:U (bs[n]?=J b/\c.az[n]?=J e):=⟨hb,he⟩;go_enter func64,ntmps64
  go_wp2_with fail
  refine aO HX.o ?_;rintro e w2 ⟨rfl,rfl⟩;go_wp2_with fail
  refine aO HL.o ?_;rintro u w3 ⟨rfl,hl,bz⟩;go_wp2;go_ret;rw[HB.o];exact⟨rfl,bS.post hF bz (h1.uh bz Hb.1 Hb.2 hl)⟩
 have HB:U (K.stop i=(K,K.on)):=by show _=_;unfold aD.stop;rw[aU ho]
 have HX:U _:=LL i h1 hs ho;obtain⟨j,hj⟩:=zD (A:=A) ho;rw[hj]at HX;clear h1 hF ho hs hr;change U _ at hj;go_enter func64,ntmps64
 go_wp2_with fail
 refine aO HX.o ?_;rintro e w2 ⟨rfl,rfl⟩;go_wp2;go_ret;rw[HB.o,hj.o];exact⟨rfl,HS⟩
def aei{p:Int}(ho:K.on=0)(hi:i<0\/(K.ls.length:Int)<=i):K.report c i p=(K,5):=by
 unfold aD.report;rw[aK (by omega)]
 by_cases h0:i<0
 ·rw[aU h0]
 rw[aK h0,jb (by omega)]
def aej(i p:Int)(h:eZ F w0 w c kb bc K)(hs:fI A w0)(hr:er c)(hf:bF c K k W)(hk:k<1000):Calls prog 66 #[aq (J (ai kb 0 I)),ae af i,ae af p] w λe w'=>e=ax (errVal A (K.report c i p).2)/\dh F w0 w c kb bc (K.report c i p).1 w':=by
 have HS:U (dh F w0 w c kb bc K w):=dh.same h;obtain⟨H,bd,rb,bt,lv,bs,h1,hF⟩:=h
 by_cases ho:K.on=0
 ·rcases LP K i with hi|⟨n,s,rfl,jO,hn⟩
  ·have HB:U (K.report c i p=(K,5)):=aei ho hi;have HX:U _:=LM i h1 hs ho hi;rw[show errVal A 5=.iface 357 (aq (J (A 4)))from rfl]at HX;go_enter func66,ntmps66
   go_wp2_with fail
   refine aO HX.o ?_;rintro e w2 ⟨rfl,hb⟩;go_wp2;go_ret;rw[HB.o];exact⟨rfl,HS.below hb⟩
  obtain⟨b,e,g,cap,hb,he,hlv,cp,h4⟩:=h1.qB jO;have od:c.az.getD n mQ=e:=by rw[fp,he];rfl
  have HB:U (K.report c (n:Int) p=(K.dT n (s.rep e p (K.d.now:Int)),s.sw e p)):=by
   show _=_
   unfold aD.report;rw[aK (by omega),aK (by omega),show ((n:Int)).toNat=n by omega,jO];simp only[od]
  have HX:U _:=LN n h1 hs ho hn hlv cp;have HE:U _:=bP he;have ry:=h1.pK hs;have HL:U _:=ads (A:=A) p (K.d.now:Int) h4 ry.c8 ry.c4 (hr.each e HE).1 (by have:=(hf.each s (bP jO)).2.1;omega) (by have:=hf.now;omega);change U _ at hF
  have Hb:U (bs[n]?=J b/\c.az[n]?=J e):=⟨hb,he⟩;have LQ:U _:=LO h1;clear hs ho jO hn hb he hlv cp h4 od ry HS hf hk;change U _ at h1 hr;go_enter func66,ntmps66
  go_wp2_with fail
  refine aO HX.o ?_;rintro e w2 ⟨rfl,rfl⟩;go_wp2_with fail
  refine aO LQ.o ?_;rintro e w2 ⟨rfl,rfl⟩;go_wp2_with fail
  refine aO HL.o ?_;rintro u w3 ⟨rfl,hl,bz⟩;go_wp2;go_ret;rw[HB.o];exact⟨rfl,bS.post hF bz (h1.uh bz Hb.1 Hb.2 hl)⟩
 have HB:U (K.report c i p=(K,K.on)):=by show _=_;unfold aD.report;rw[aU ho]
 have HX:U _:=LL i h1 hs ho;obtain⟨j,hj⟩:=zD (A:=A) ho;rw[hj]at HX;clear h1 hF ho hs hr hf hk;change U _ at hj;go_enter func66,ntmps66
 go_wp2_with fail
 refine aO HX.o ?_;rintro e w2 ⟨rfl,rfl⟩;go_wp2;go_ret;rw[HB.o,hj.o];exact⟨rfl,HS⟩
end
section
variable {A:Nat->aC}{H:Nat->Nat->Prop}{F:Nat->Prop}{w0 w w':ak}{c:aX}{kb bc bd rb bt:Nat}{lv:aw}{bs:List Nat}{K:aD}{k W:Nat}
def aek(h:eZ F w0 w c kb bc K)(hl:K.L.length<=8):Calls prog 140 #[aq (J (ai kb 0 I))] w λe w'=>∃v',e=ax v'/\eC w' w.heap.size v' K.L/\Below w.heap.size w w':=by
 obtain⟨H,bd,rb,bt,lv,bs,h1,-⟩:=h;have c4:w.cell? _=J (aq _):=h1.cell 4 _ rfl;obtain⟨v,hv,-⟩:=h1.ring.ring;have HX:U _:=ZR _ rb bc v K.L _ w hv (by omega);go_enter func140,ntmps140
 go_wp2_with fail
 refine aO HX.o ?_;rintro e w1 ⟨v1,rfl,hr,hb⟩;go_wp2;go_ret;exact⟨_,rfl,hr,hb⟩
def ael(h:eZ F w0 w c kb bc K)(hl:K.L.length<=8):Calls prog 138 #[aq (J (ai kb 0 I))] w λe w'=>e=ax (bn #[(cU K.L).val,aL (decide (0<K.L.length))])/\Below w.heap.size w w':=by
 obtain⟨H,bd,rb,bt,lv,bs,h1,-⟩:=h;have B1:=aS w (ay #[ae af ((Rec.none.seq:Nat):Int),ae af ((Rec.none.cf:Nat):Int),ae af ((Rec.none.kind:Nat):Int),ae af ((Rec.none.tick:Nat):Int)] 97);have Z1:=eu.new w .none;have h2:=h1.below B1;obtain⟨W,hW⟩:∃W,w.alloc (ay #[ae af ((Rec.none.seq:Nat):Int),ae af ((Rec.none.cf:Nat):Int),ae af ((Rec.none.kind:Nat):Int),ae af ((Rec.none.tick:Nat):Int)] 97)=W:=⟨_,rfl⟩;rw[hW]at B1 Z1 h2;have HW:U (w.alloc (ay #[ae af 0,ae af 0,ae af 0,ae af 0] 97)=W):=hW;have c4:W.cell? _=J (aq _):=h2.cell 4 _ rfl;obtain⟨v,hv,-⟩:=h2.ring.ring;have HX:U _:=J4 _ rb bc v K.L _ W hv (by omega);change U _ at B1 Z1
 generalize cU K.L=x at HX⊢;go_enter func138,ntmps138
 go_upto_region 1 with fail
 rw[HW.o];go_wp2_with fail
 refine aO HX.o ?_;rintro e w1 ⟨rfl,hb⟩;have Z2:=Z1.below hb Z1.lt;obtain⟨z0,z1,z2,z3⟩:=Z2.at;have f0:=Z2.frozen 0;have f1:=Z2.frozen 1;have f2:=Z2.frozen 2;have f3:=Z2.frozen 3;have cB:U _:=B1.trans (hb.mono B1.size);change U _ at Z2
 unfold Rec.val;go_wp2_with fail
 refine dL (nB rfl _ _ _ x rfl (Z2.iT x).at) rfl ?_;exact⟨rfl,pC cB (ma ..) cB.size (aR _)⟩
def aem(i:Int)(h:eZ F w0 w c kb bc K)(hs:fI A w0)(hi:i<0\/(K.ls.length:Int)<=i):Calls prog 79 #[aq (J (ai kb 0 I)),ae af i] w λe w'=>e=ax (bn #[aA ⟨#[]⟩,errVal A 5])/\Below w.heap.size w w':=by
 obtain⟨H,bd,rb,bt,lv,bs,h1,-⟩:=h;have HX:U _:=SB i h1 hs hi;rw[show errVal A 5=.iface 357 (aq (J (A 4)))from rfl]at HX;go_enter func79,ntmps79
 go_wp2_with fail
 refine aO HX.o ?_;rintro e w1 ⟨rfl,hb⟩;go_wp2;go_ret2
 exact⟨rfl,hb⟩
def aen(n:Nat)(h:eZ F w0 w c kb bc K)(jO:K.ls[n]?=J s):Calls prog 79 #[aq (J (ai kb 0 I)),ae af (n:Int)] w λe w'=>e=ax (bn #[aA (iY s.status),.nilIface])/\w'=w:=by
 obtain⟨H,bd,rb,bt,lv,bs,h1,-⟩:=h;obtain⟨b,e,g,cap,hb,he,hlv,cp,h4⟩:=h1.qB jO;have HX:U _:=SC n h1 (df.1 jO).1 hlv cp;have HL:U _:=R_ h4;generalize iY s.status=y at HL⊢;go_enter func79,ntmps79
 go_wp2_with fail
 refine aO HX.o ?_;rintro e w1 ⟨rfl,rfl⟩;go_wp2_with fail
 refine aO HL.o ?_;rintro e w1 ⟨rfl,rfl⟩;go_wp2;go_ret2
 exact⟨rfl,rfl⟩
end
structure Reads(w:ak)(sa:Option aC)(L:List Rec):Prop where
 at':L≠[]->∃g o,sa=J ⟨g,o,.none⟩/\∀i (h:i<L.length),w.cell? ⟨g,o+i*4,.none⟩=J (ae af (L[i].seq:Int))/\w.cell? ⟨g,o+i*4+1,.none⟩=J (ae af (L[i].cf:Int))/\w.cell? ⟨g,o+i*4+2,.none⟩=J (ae af (L[i].kind:Int))/\w.cell? ⟨g,o+i*4+3,.none⟩=J (ae af (L[i].tick:Int))
def eC.reads{c:Nat}(h:eC w B (aj sa n c) L):Reads w sa L/\n=L.length:=by
 rcases h.qd with⟨e,rfl⟩|⟨g,cap,e,-,hrow,-,-⟩
 ·cases e;exact⟨⟨λh=>absurd rfl h⟩,rfl⟩
 simp only[mf]at e;obtain⟨rfl,rfl,rfl⟩:=e
 refine⟨⟨λ_=>⟨g,0,rfl,λi hi=>?_⟩⟩,rfl⟩;simp only[lD];exact(hrow.cells i hi).1
def LR(n:Int)(h0:0<=n)(h1:n<=9223372036854775807)(W:ak)(hT:iR W):Calls prog 74 #[ae af n] W λe w'=>e=ax (aA ⟨(num n).toArray⟩)/\Below W.heap.size W w':=by
 refine aO (strconv_Itoa n (by omega) (by omega) W hT) ?_;rintro e w' ⟨rfl,k,os,rfl⟩
 refine⟨?_,?_⟩
 ·unfold Lib.itoa num;rw[aK (by omega),Jz]
 refine⟨rfl,rfl,rfl,(by show W.heap.size<=((W.drewN k).heap++os).size;rw[Array.size_append];exact Nat.le_add_right _ _),λi hi=>?_⟩;show ((W.drewN k).heap++os)[i]?=_
 rw[FT (by show i<W.heap.size;omega)];rfl
def Hm:(prog.info? 9).map (λi=>(i.zero,i.size,i.bytes))=J (J (aA ⟨#[]⟩),1,16):=by kernel_rfl
structure ot(w0 wr:ak)(av:aw)(xs:List ByteArray):Prop where
 aY:Below w0.heap.size w0 wr
 own:wr.ownsRow w0.heap.size 9 1 av xs.length (xs.flatMap ct)
section
variable {w0 wr wr':ak}{av:aw}{xs:List ByteArray}
def ot.below(h:ot w0 wr av xs)(hb:Below wr.heap.size wr wr'):ot w0 wr' av xs:=⟨h.aY.trans (hb.mono h.aY.size),xw.below h.own hb⟩
def ot.more(h:ot w0 wr av xs){o:Obj}(hn:xs.length+1=n)(hown:wr'.ownsRow w0.heap.size 9 1 (aj (J (ai g 0 I)) n cap) n (xs.flatMap ct++[aA y]))(hg:(wr.alloc o).grownBy wr' av.ownBlock):ot w0 wr' (aj (J (ai g 0 I)) n cap) (xs++[y]):=by
 refine⟨(h.aY.alloc h.aY.size _).grown hg (bp h.aY.size (by simp)) (λk hk=>(h.own.lt k hk).1),?_⟩;have e:(xs++[y]).flatMap ct=xs.flatMap ct++[aA y]:=by rw[ji];rfl
 rw[e,cY,kW,hn];exact hown
def ot.join(h:ot w0 wr av xs)(sep:ByteArray)(hne:xs≠[])(hl:xs.length<=1000)(hlen:(Lib.join (xs.map (·.data.toList)) sep.data.toList).length<=140737488355328):Calls prog 141 #[av,aA sep] wr λe w'=>e=ax (aA ⟨(Lib.join (xs.map (·.data.toList)) sep.data.toList).toArray⟩)/\Below wr.heap.size wr w':=by
 have h1:=bI.jz (B:=w0.heap.size) (T:=9) h.own (λ_=>rfl);obtain⟨sa,c,rfl,hc,h2⟩:=h1;obtain⟨b,o,rfl,h3⟩:=h2 hne;have h4:=λj x hx=>by have:=h3 j x hx 0 _ rfl;simpa using this
 obtain⟨x,hx⟩:∃x,xs[0]?=J x:=⟨_,bq (sq.2 hne)⟩;exact strings_Join b o c xs sep wr h4 (jf (h4 0 x hx)) (by omega) hc hlen
end
def Hn{n:Int}(h1:n<=9223372036854775807):(num n).length<=19:=Ju 18 n.toNat (by
 have:n.toNat<=9223372036854775807:=by omega
 exact Nat.lt_of_le_of_lt this (ar rfl))
def LS(h:ll r):(gm r).length<=1000:=by
 obtain⟨a,b,c,d⟩:=h;have h1:=Hn (n:=(r.seq:Int)) (by omega);have h2:=Hn (n:=(r.cf:Int)) (by omega);have h3:=Hn (n:=(r.kind:Int)) (by omega);have h4:=Hn (n:=(r.tick:Int)) (by omega);unfold gm Lib.join;simp[List.intercalate]
 omega
def SD(r:Rec)(w:ak)(hT:iR w)(hG:(max 8 11+1)<=w.heap.size)(hr:ll r):Calls prog 139 #[r.val] w λe w'=>e=ax (aA ⟨(gm r).toArray⟩)/\Below w.heap.size w w':=by
 obtain⟨i0,mr,hz0,hz1,hz2⟩:=iw Hm;obtain⟨W1,hW1⟩:∃X,X=w.alloc (ay #[ae af (r.seq:Int),ae af (r.cf:Int),ae af (r.kind:Int),ae af (r.tick:Int)] 97):=⟨_,rfl⟩;have hrow:eu W1 w.heap.size r:=by rw[hW1];exact eu.new w r
 obtain⟨c0,c1,c2,c3⟩:=hrow.at;obtain⟨W2,hW2⟩:∃X,X=W1.alloc (ay #[ae af (r.seq:Int),ae af (r.cf:Int),ae af (r.kind:Int),ae af (r.tick:Int)] 3):=⟨_,rfl⟩;have hb1:Below w.heap.size w W1:=by rw[hW1];exact aS _ _
 have hb2:Below W1.heap.size W1 W2:=by rw[hW2];exact aS _ _
 obtain⟨xs,kf⟩:∃xs:List Int,xs=[(r.seq:Int),(r.cf:Int),(r.kind:Int),(r.tick:Int)]:=⟨_,rfl⟩;have bH:bw bT 1 W2 (aj (J (ai W1.heap.size 0 I)) xs.length 4) xs:=by rw[hW2,kf];exact SA W1 _
 have aeo:xs.length=4:=by rw[kf];rfl
 have HX:U (∀x∈xs,0<=x/\x<=9223372036854775807):=by
  obtain⟨a,b,c,d⟩:=hr;rw[kf];intro x hx;simp only[fe,jL,j4]at hx
  rcases hx with rfl|rfl|rfl|rfl<;>omega
 have ki:=hb1.trans (hb2.mono hb1.size);have HS:U (ot W2 W2 _ []):=⟨aF _ _,gF _ _ _ _⟩;have HT:U (∀V,Below _ W2 V->iR V/\bw _ 1 V _ xs):=λV hV=>⟨hT.below (ki.trans (hV.mono ki.size)) hG,bH.below hV⟩
 change U _ at ki
 have HJ:U (gm r=Lib.join (xs.map num) _/\(gm r).length<=1000):=⟨by rw[kf];rfl,LS hr⟩;change U _ at hrow
 unfold Rec.val;clear hT hG hr bH kf hb1 hb2;go_enter func139,ntmps139
 go_upto_region 2 with fail
 rw[<- hW1]
 go_cut [14,15,16] (λl n i wx=>l=aj (J (ai W1.heap.size 0 I)) 4 4/\n=ae af 4/\i=ae af 0/\wx=W2)
 case first=>
  clear hW1;go_wp2
  go_meet
  case rel=>exact⟨rfl,rfl,rfl,hW2.symm⟩
 obtain⟨rfl,rfl,rfl,rfl⟩:=hcut;clear hW1 hW2 c0 c1 c2 c3 hrow;rename ak=>W2
 go_wp2_with fail
 go_loopw [3,5,16] (λav _ i wr=>∃(n:Nat),n<=4/\i=ae af n/\U (ot W2 wr av ((xs.take n).map λx=>⟨(num x).toArray⟩))) (λ_ _ i _=>4-(intOf i).toNat)
 case atStart=>exact⟨0,bA _,rfl,HS⟩
 case round=>
  clear HS;obtain⟨n,hn,rfl,HL⟩:=hrel;have hlen:((xs.take n).map λx=>(⟨(num x).toArray⟩:ByteArray)).length=n:=by rw[iE,eQ];omega
  obtain⟨ka,kc,kA⟩:=iB HL.own;rw[hlen]at kA;subst kA
  by_cases hlt:n<4
  ·have k1:(n:Int)<4:=by omega
   obtain⟨x,hx⟩:∃x,xs[n]?=J x:=⟨_,bq (by omega)⟩;obtain⟨t1,t2⟩:=HT wr HL.aY;obtain⟨g,o,hgo,hc⟩:=sj t2 hx;have c0:=hc n x hx
   cases hgo
   rw[lD]at c0;have LU:=HX x (bP hx);have HI:U _:=LR x LU.1 LU.2 wr t1;have HE:U ((xs.take (n+1)).map (λx=>(⟨(num x).toArray⟩:ByteArray))=(xs.take n).map (λx=>(⟨(num x).toArray⟩:ByteArray))++[⟨(num x).toArray⟩]):=by show _=_;rw[eI,hx,lC];rfl
   change U _ at hlen
   clear hc t1 t2 hx;go_wp2_with fail
   refine aO HI.o ?_;rintro e w3 ⟨rfl,hb3⟩;have jl:U _:=HL.below hb3;have gQ:U (w3.ownsRow W2.heap.size 9 1 (aj ka n kc) n (((xs.take n).map λx=>(⟨(num x).toArray⟩:ByteArray)).flatMap ct)):=by
    have:=jl.own;rw[hlen.o]at this;exact this
   have hz3:=jl.aY.size;generalize hy:(⟨(num x).toArray⟩:ByteArray)=y at HE⊢;clear hy hb3 HI c0 LU HL;go_wp2_with (at_builtin;refine vA _ rfl _ _ 37 rfl _ 9 i0 _ 1 16 underlying37 mr hz0 hz1 hz2 rfl (ar rfl) (aj ka n kc) n _ rfl (xH gQ _) _ 1 1 _ rfl rfl (mP w3 _ 9) (λu hu=>by rw[g_]at hu;subst hu;rfl) (ar rfl) (by unfold maxLen;omega) (by omega) (by simp;omega) (w3.heap.size+1) (by simp) ?_;intro gg cc sB hown hg cH ru)
   have um:U _:=jl.more (by rw[hlen.o]) hown hg;clear hown hg cH ru gQ jl;go_roundw
   case rel=>exact⟨n+1,by omega,by go_num,by show ot _ _ _ _;rw[HE.o];exact um⟩
   case measure=>simp[intOf];omega
  obtain rfl:n=4:=by omega
  have k1:¬(4:Int)<4:=by omega
  have aep:xs.take 4=xs:=by rw[<- aeo,mL]
  rw[aep]at HL hlen;have Ee:U _:=HL.join ⟨#[32]⟩ (λe=>by rw[e]at hlen;cases hlen) (by omega) (by
   have h5:=HJ.o;rw[h5.1]at h5;rw[List.map_map];exact bp h5.2 (ar rfl))
  have HE:U ((⟨(Lib.join ((xs.map λx=>(⟨(num x).toArray⟩:ByteArray)).map (·.data.toList)) (⟨#[32]⟩:ByteArray).data.toList).toArray⟩:ByteArray)=⟨(gm r).toArray⟩):=by
   show _=_
   rw[HJ.1,List.map_map];rfl
  rw[HE.o]at Ee;have rz:U _:=HL.aY;clear hlen HL HX HT;go_wp2_with fail
  refine aO Ee.o ?_;rintro e w3 ⟨rfl,hb3⟩;go_wp2;go_ret;have h6:=ki.trans (rz.mono ki.size);exact⟨rfl,h6.trans (hb3.mono h6.size)⟩
section
variable {F:Nat->Prop}{w0 w w':ak}{c:aX}{kb bc:Nat}{K:aD}
def Ho(w:ak)(c:aX)(kb bc:Nat)(sv:aw):∃W,W=w.alloc (ay (fN c kb bc sv) 101)/\Below w.heap.size w W/\W.cell? (ai w.heap.size 0 I)=J (aq (J (ai kb 0 I))):=by
 refine⟨_,rfl,aS _ _,?_⟩;have h1:=cj w (ay (fN c kb bc sv) 101);simp only[aH,h1];rfl
def LV(w:ak)(x:Rec):∃V,V=w.alloc (ay #[ae af (x.seq:Int),ae af (x.cf:Int),ae af (x.kind:Int),ae af (x.tick:Int)] 97)/\Below w.heap.size w V/\eu V w.heap.size x:=⟨_,rfl,aS _ _,eu.new w x⟩
def aeq(sv:aw)(h:eZ F w0 w c kb bc K)(hl:K.L.length<=8)(hB:K.LB)(hT:iR w)(hG:(max 8 11+1)<=w.heap.size):Calls prog 85 #[.agg (fN c kb bc sv)] w λe w'=>e=ax (aA ⟨(sx K.L).toArray⟩)/\Below w.heap.size w w':=by
 obtain⟨W,hW,hb,x0⟩:=Ho w c kb bc sv;have HX:U _:=ael (h.below hb) hl;change U _ at hb
 have HR:U _:=λV hV=>SD _ V (hT.below hV hG) (bp hG hV.size) (LB.last hB)
 have hc:sx K.L=if K.L.length=0 then D4 else gm _:=rfl
 rw[hc];clear hc;generalize cU K.L=x at *;clear h hl hB hT hG;unfold Rec.val at HX HR;unfold fN at hW⊢
 by_cases h0:K.L.length=0
 ·rw[aU h0];have d0:decide (0<K.L.length)=false:=bV (by omega);rw[d0]at HX;clear h0 d0 HR;go_enter func85,ntmps85
  go_upto_region 1 with fail
  rw[<- hW];clear hW;go_wp2_with fail
  refine aO HX.o ?_;rintro e w1 ⟨rfl,hb1⟩;obtain⟨V,hV,ou,-⟩:=LV w1 x;have nY:U (Below w.heap.size w V):=by
   have h6:=hb.trans (hb1.mono hb.size);exact h6.trans (ou.mono h6.size)
  clear hb1 ou HX;go_upto_region 2 with fail
  rw[<- hV];clear hV;go_wp2
  go_ret;exact⟨rfl,nY⟩
 rw[aK h0];have d0:decide (0<K.L.length)=true:=bD (by omega);rw[d0]at HX;clear h0 d0;go_enter func85,ntmps85
 go_upto_region 1 with fail
 rw[<- hW];clear hW;go_wp2_with fail
 refine aO HX.o ?_;rintro e w1 ⟨rfl,hb1⟩;obtain⟨V,hV,ou,Ef⟩:=LV w1 x;have zE:Below w.heap.size w V:=by
  have h6:=hb.trans (hb1.mono hb.size);exact h6.trans (ou.mono h6.size)
 have bZ:U _:=HR V zE;obtain⟨c0,c1,c2,c3⟩:=Ef.at;clear hb1 ou HX HR Ef;change U _ at zE;go_upto_region 2 with fail
 rw[<- hV];clear hV;go_wp2_with fail
 refine aO bZ.o ?_;rintro e w2 ⟨rfl,hb2⟩;go_wp2;go_ret;exact⟨rfl,zE.trans (hb2.mono zE.size)⟩
def aer(sv:aw)(h:eZ F w0 w c kb bc K)(hl:K.L.length<=8)(hB:K.LB)(hT:iR w)(hG:(max 8 11+1)<=w.heap.size):Calls prog 87 #[.agg (fN c kb bc sv)] w λe w'=>e=ax (aA ⟨(sy K.L).toArray⟩)/\Below w.heap.size w w':=by
 obtain⟨i0,mr,hz0,hz1,hz2⟩:=iw Hm;obtain⟨W,hW,hb,x0⟩:=Ho w c kb bc sv;have HX:U _:=aek (h.below hb) hl;change U _ at hb
 have HR:U _:=λV hV x hx=>SD _ V (hT.below hV hG) (bp hG hV.size) (hB x hx)
 have LW:U ((Lib.join (K.L.map gm) [44,32]).length<=140737488355328):=by
  have h1:∀L:List Rec,(∀x∈L,ll x)->(Lib.join (L.map gm) [44,32]).length<=1100*L.length:=by
   intro L
   induction L with
   |nil=>intro _;exact aR _
   |cons x L ih=>
    intro hx;have h2:=LS (hx x (nQ ..));have h3:=ih (λy hy=>hx y (rO _ hy))
    cases L with
    |nil=>simp[Lib.join];omega
    |cons y L=>
     unfold Lib.join at h3⊢;rw[qO,qO,List.intercalate_cons_cons];rw[qO]at h3;simp only[cY,lY,xp]at h3⊢;omega
  have h2:=h1 K.L hB;show _<=_
  omega
 generalize K.L=L at *;clear h hB hT hG;unfold fN at hW⊢;go_enter func87,ntmps87
 go_upto_region 2 with fail
 rw[<- hW];clear hW;go_wp2_with fail
 refine aO HX.o ?_;rintro e w1 ⟨v1,rfl,hr,hb1⟩;obtain⟨sb,cb,rfl⟩:=hr.len;have bu:U _:=hb.trans (hb1.mono hb.size);have sD:U (∀V,Below _ w1 V->Reads V sb L):=λV hV=>(hr.below hV (aR _)).reads.1
 have HS:U (ot w1 w1 _ []):=⟨aF _ _,gF _ _ _ _⟩;clear hr hb1 HX x0;go_wp2_with fail
 go_loopw [3,5,10] (λav _ i wr=>∃(n:Nat),n<=L.length/\i=ae af n/\U (ot w1 wr av ((L.take n).map λx=>⟨(gm x).toArray⟩))) (λ_ _ i _=>L.length-(intOf i).toNat)
 case atStart=>exact⟨0,bA _,rfl,HS⟩
 case round=>
  clear HS;obtain⟨n,hn,rfl,HL⟩:=hrel;have hlen:((L.take n).map λx=>(⟨(gm x).toArray⟩:ByteArray)).length=n:=by rw[iE,eQ];omega
  obtain⟨ka,kc,kA⟩:=iB HL.own;rw[hlen]at kA;subst kA;change U _ at hlen
  by_cases hlt:n<L.length
  ·have k1:(n:Int)<(L.length:Int):=by omega
   obtain⟨g,o,rfl,hc⟩:=(sD wr HL.aY).at' (by intro e;rw[e]at hlt;simp at hlt);obtain⟨c0,c1,c2,c3⟩:=hc n hlt;have hx:=bq hlt;have SE:=uZ hlt;obtain⟨V,hV,ou,Ef⟩:=LV wr L[n];obtain⟨d0,d1,d2,d3⟩:=Ef.at;have h6:=bu.trans (HL.aY.mono bu.size);have bZ:U _:=HR V (h6.trans (ou.mono h6.size)) _ SE;have HE:U ((L.take (n+1)).map (λx=>(⟨(gm x).toArray⟩:ByteArray))=(L.take n).map (λx=>(⟨(gm x).toArray⟩:ByteArray))++[⟨(gm L[n]).toArray⟩]):=by show _=_;rw[eI,hx,lC];rfl
   have SF:U _:=HL.below ou;generalize L[n]=x at *;unfold Rec.val at bZ;clear hc hx SE ou Ef HL h6;go_upto_region 5 with fail
   rw[<- hV];clear hV c0 c1 c2 c3;go_wp2_with fail
   refine aO bZ.o ?_;rintro e w3 ⟨rfl,hb3⟩;have jl:U _:=SF.below hb3;have gQ:U (w3.ownsRow w1.heap.size 9 1 (aj ka n kc) n (((L.take n).map λx=>(⟨(gm x).toArray⟩:ByteArray)).flatMap ct)):=by
    have:=jl.own;rw[hlen.o]at this;exact this
   have hz3:=jl.aY.size;generalize hy:(⟨(gm x).toArray⟩:ByteArray)=y at HE⊢;clear hy hb3 bZ SF d0 d1 d2 d3;go_wp2_with (at_builtin;refine vA _ rfl _ _ 37 rfl _ 9 i0 _ 1 16 underlying37 mr hz0 hz1 hz2 rfl (ar rfl) (aj ka n kc) n _ rfl (xH gQ _) _ 1 1 _ rfl rfl (mP w3 _ 9) (λu hu=>by rw[g_]at hu;subst hu;rfl) (ar rfl) (by unfold maxLen;omega) (by omega) (by simp;omega) (w3.heap.size+1) (by simp) ?_;intro gg cc sB hown hg cH ru)
   have um:U _:=jl.more (by rw[hlen.o]) hown hg;clear hown hg cH ru gQ jl;go_roundw
   case rel=>exact⟨n+1,by omega,by go_num,by show ot _ _ _ _;rw[HE.o];exact um⟩
   case measure=>simp[intOf];omega
  obtain rfl:n=L.length:=by omega
  have k1:¬(L.length:Int)<(L.length:Int):=by omega
  rw[mL]at HL;have rz:U _:=HL.aY
  by_cases h0:L.length=0
  ·have k2:((L.length:Int)==0)=true:=by rw[qw];omega
   have LX:U (sy L=D4):=aU h0;clear HL hlen HR LW sD h0;go_wp2
   go_ret;rw[LX.o];exact⟨rfl,bu.trans (rz.mono bu.size)⟩
  have k2:((L.length:Int)==0)=false:=by rw[gX];omega
  have LX:U (sy L=Lib.join _ _):=aK h0;have hm:(L.map λx=>(⟨(gm x).toArray⟩:ByteArray)).map (·.data.toList)=L.map gm:=by rw[List.map_map];rfl
  have Ee:U _:=HL.join ⟨#[44,32]⟩ (λe=>h0 (by rw[List.map_eq_nil_iff]at e;rw[e];rfl)) (by rw[iE];omega) (by rw[hm];exact LW);rw[hm]at Ee;clear HL hlen HR LW sD h0 hm;go_wp2_with fail
  refine aO Ee.o ?_;rintro e w3 ⟨rfl,hb3⟩;go_wp2;go_ret;rw[LX.o];have h6:=bu.trans (rz.mono bu.size);exact⟨rfl,h6.trans (hb3.mono h6.size)⟩
end
def SG(kb rb n kd tw:Nat):Nat->aw
 |0=>aq (J (ai kb 0 I))
 |1=>aq (J (ai kb 0 I))
 |2=>aq (J (ai kb 4 I))
 |3=>aq (J (ai rb 0 I))
 |4=>ae af (n:Int)
 |5=>ae af (kd:Int)
 |6=>aq (J (ai kb 0 I))
 |7=>ae af (tw:Int)
 |_=>undef
structure my(w3:ak)(kb rb n kd tw:Nat)(cv:aw)(CE:ak->Prop)(P:(Nat->Nat->Prop)->ak->Prop)(vals:Nat->Option aw)(V:ak):Prop where
 cs:∀j,j<8->∀v,vals j=J v->v=SG kb rb n kd tw j
 ce:CE V
 sz:w3.heap.size<=V.heap.size
 pre:vals 8=I->Below w3.heap.size w3 V
 oX:∀u,vals 8=J u->(∃r:Rec,u=bn #[r.val,cv])/\∃H,P H V/\(∀i k,H i k->k<V.heap.size)/\∀g,vals 12=J (aq (J (ai g 0 I)))->∀i,¬H i g
 c9:∀u,vals 9=J u->∃r:Rec,u=bn #[r.val,cv]
 c10:∀u,vals 10=J u->∃r:Rec,u=r.val
 c11:∀u,vals 11=J u->u=cv
 c12:∀u,vals 12=J u->∃(g:Nat) (r:Rec),u=aq (J (ai g 0 I))/\eu V g r/\w3.heap.size<=g
 d13:vals 13≠I->vals 8≠I
 c14:∀u,vals 14=J u->u=cv
section
variable {w3 V V':ak}{kb rb n kd tw:Nat}{cv:aw}{CE:ak->Prop}{P:(Nat->Nat->Prop)->ak->Prop}{vals:Nat->Option aw}{i:Nat}{u:aw}
def my.start(hb:Below w3.heap.size w3 V)(hc:CE V):my w3 kb rb n kd tw cv CE P (λ_=>.none) V:=
 ⟨λ_ _ _ h=>(by cases h),hc,hb.size,λ_=>hb,λ_ h=>(by cases h),λ_ h=>(by cases h),λ_ h=>(by cases h),λ_ h=>(by cases h),λ_ h=>(by cases h),λh=>absurd rfl h,λ_ h=>(by cases h)⟩
def my.const(h:my w3 kb rb n kd tw cv CE P vals V)(hi:i<8)(hu:u=SG kb rb n kd tw i):my w3 kb rb n kd tw cv CE P (upd vals i u) V:=by
 have o:∀j,8<=j->upd _ i u j=vals j:=λj hj=>dU _ u (by omega)
 refine⟨λj hj v hv=>?_,h.ce,h.sz,λh8=>h.pre (by rwa [o 8 (by omega)]at h8),λx hx=>?_,λx hx=>h.c9 x (by rwa [o 9 (by omega)]at hx),λx hx=>h.c10 x (by rwa [o 10 (by omega)]at hx),λx hx=>h.c11 x (by rwa [o 11 (by omega)]at hx),λx hx=>h.c12 x (by rwa [o 12 (by omega)]at hx),λhx=>by rw[o 8 (by omega)];exact h.d13 (by rwa [o 13 (by omega)]at hx),λx hx=>h.c14 x (by rwa [o 14 (by omega)]at hx)⟩
 ·by_cases e:j=i
  ·subst e;rw[jH]at hv;exact(fg hv).symm.trans hu
  exact h.cs j hj v (by rwa [dU vals u e]at hv)
 obtain⟨h1,H,h2,h3,h4⟩:=h.oX x (by rwa [o 8 (by omega)]at hx);exact⟨h1,H,h2,h3,λg hg=>h4 g (by rwa [o 12 (by omega)]at hg)⟩
def my.later(h:my w3 kb rb n kd tw cv CE P vals V)(hi:i=9\/i=10\/i=11\/i=14)(h9:i=9->∃r:Rec,u=bn #[r.val,cv])(h10:i=10->∃r:Rec,u=r.val)(h11:i=11->u=cv)(sF:i=14->u=cv):my w3 kb rb n kd tw cv CE P (upd vals i u) V:=by
 have o:∀j,j≠i->upd _ i u j=vals j:=λj hj=>dU _ u hj
 have g:∀j x,upd vals i u j=J x->(j=i/\x=u)\/vals j=J x:=λj x hx=>by
  by_cases e:j=i
  ·subst e;rw[jH]at hx;exact aT ⟨rfl,(fg hx).symm⟩
  exact aN (by rwa [o j e]at hx)
 refine⟨λj hj v hv=>h.cs j hj v (by rwa [o j (by omega)]at hv),h.ce,h.sz,λh8=>h.pre (by rwa [o 8 (by omega)]at h8),λx hx=>?_,λx hx=>?_,λx hx=>?_,λx hx=>?_,λx hx=>h.c12 x (by rwa [o 12 (by omega)]at hx),λhx=>by rw[o 8 (by omega)];exact h.d13 (by rwa [o 13 (by omega)]at hx),λx hx=>?_⟩
 ·obtain⟨h1,H,h2,h3,h4⟩:=h.oX x (by rwa [o 8 (by omega)]at hx);exact⟨h1,H,h2,h3,λg hg=>h4 g (by rwa [o 12 (by omega)]at hg)⟩
 ·rcases g 9 x hx with⟨e,rfl⟩|e
  ·exact h9 e.symm
  exact h.c9 x e
 ·rcases g 10 x hx with⟨e,rfl⟩|e
  ·exact h10 e.symm
  exact h.c10 x e
 ·rcases g 11 x hx with⟨e,rfl⟩|e
  ·exact h11 e.symm
  exact h.c11 x e
 rcases g 14 x hx with⟨e,rfl⟩|e
 ·exact sF e.symm
 exact h.c14 x e
def my.made(h:my w3 kb rb n kd tw cv CE P vals V)(hP:∀H W W',P H W->Below W.heap.size W W'->P H W')(aes:∀W W',CE W->Below W.heap.size W W'->CE W'):my w3 kb rb n kd tw cv CE P (upd vals 12 (aq (J (ai V.heap.size 0 I)))) (V.alloc (ay #[ae af 0,ae af 0,ae af 0,ae af 0] 97)):=by
 have o:∀j,j≠12->upd _ 12 (aq (J (ai V.heap.size 0 I))) j=vals j:=λj hj=>dU _ _ hj
 have hb:Below _ V (V.alloc (ay #[ae af 0,ae af 0,ae af 0,ae af 0] 97)):=aS _ _
 refine⟨λj hj v hv=>h.cs j hj v (by rwa [o j (by omega)]at hv),aes _ _ h.ce hb,bp h.sz hb.size,λh8=>(h.pre (by rwa [o 8 (by omega)]at h8)).trans (hb.mono h.sz),λx hx=>?_,λx hx=>h.c9 x (by rwa [o 9 (by omega)]at hx),λx hx=>h.c10 x (by rwa [o 10 (by omega)]at hx),λx hx=>h.c11 x (by rwa [o 11 (by omega)]at hx),λx hx=>?_,λhx=>by rw[o 8 (by omega)];exact h.d13 (by rwa [o 13 (by omega)]at hx),λx hx=>h.c14 x (by rwa [o 14 (by omega)]at hx)⟩
 ·obtain⟨h1,H,h2,h3,h4⟩:=h.oX x (by rwa [o 8 (by omega)]at hx)
  refine⟨h1,H,hP H V _ h2 hb,λi k hk=>cK (h3 i k hk) hb.size,λg hg i hi=>?_⟩;rw[jH]at hg
  cases hg
  have:=h3 i _ hi;omega
 rw[jH]at hx
 cases hx
 exact⟨_,_,rfl,eu.new V .none,h.sz⟩
def my.call(h:my w3 kb rb n kd tw cv CE P vals V)(hc:CE V'){H:Nat->Nat->Prop}(hp:P H V')(hz:V.heap.size<=V'.heap.size)(hl:∀i k,H i k->k<V'.heap.size)(hH:∀i k,H i k->k<w3.heap.size\/V.heap.size<=k)(hq:∀q,w3.heap.size<=q->q<V.heap.size->V'.heap[q]?=V.heap[q]?):my w3 kb rb n kd tw cv CE P (upd vals 8 (bn #[r.val,cv])) V':=by
 have o:∀j,j≠8->upd _ 8 (bn #[r.val,cv]) j=vals j:=λj hj=>dU _ _ hj
 refine⟨λj hj v hv=>h.cs j hj v (by rwa [o j (by omega)]at hv),hc,bp h.sz hz,λh8=>(by rw[jH]at h8;cases h8),λx hx=>?_,λx hx=>h.c9 x (by rwa [o 9 (by omega)]at hx),λx hx=>h.c10 x (by rwa [o 10 (by omega)]at hx),λx hx=>h.c11 x (by rwa [o 11 (by omega)]at hx),λx hx=>?_,λ_=>by rw[jH];simp,λx hx=>h.c14 x (by rwa [o 14 (by omega)]at hx)⟩
 ·rw[jH]at hx
  cases hx
  refine⟨⟨r,rfl⟩,H,hp,hl,λg hg i hi=>?_⟩;rw[o 12 (by omega)]at hg;obtain⟨g',r',e,hr,dt⟩:=h.c12 _ hg
  cases e
  have:=hr.lt
  rcases hH i g hi with h1|h1<;>omega
 rw[o 12 (by omega)]at hx;obtain⟨g,r',e,hr,dt⟩:=h.c12 x hx;exact⟨g,r',e,⟨(hq g dt hr.lt).trans hr.heap⟩,dt⟩
def my.laid(h:my w3 kb rb n kd tw cv CE P vals V)(h8:vals 8≠.none)(LY:∀H V,P H V->CE V)(hP:∀H W W' g,P H W->aG (λk=>k=g) W W'->(∀i,¬H i g)->w3.heap.size<=g->P H W'){r0:Rec}(hg:vals 12=J (.pointer (J (ai g 0 I))))(hr:eu V g r0)(dt:w3.heap.size<=g)(hV:V'=(((V.setCell ⟨g,0,.none⟩ (.int .i64 (r.seq:Int))).setCell ⟨g,1,.none⟩ (.int .i64 (r.cf:Int))).setCell ⟨g,2,.none⟩ (.int .i64 (r.kind:Int))).setCell ⟨g,3,.none⟩ (.int .i64 (r.tick:Int))):my w3 kb rb n kd tw cv CE P (upd vals 13 undef) V':=by
 have o:∀j,j≠13->upd _ 13 undef j=vals j:=λj hj=>dU _ _ hj
 have hg4:V.grownBy V' (J g):=by rw[hV];exact ma ..
 have hc':CE V':=by
  cases e:vals 8 with
  |none=>exact absurd e h8
  |some u=>
   obtain⟨_,H,h2,h3,h4⟩:=h.oX u e;exact LY H V' (hP H V V' g h2 (aG.cG hg4) (h4 g hg) dt)
 refine⟨λj hj v hv=>h.cs j hj v (by rwa [o j (by omega)]at hv),hc',bp h.sz hg4.size,λe=>(by rw[o 8 (by omega)]at e;exact absurd e h8),λx hx=>?_,λx hx=>h.c9 x (by rwa [o 9 (by omega)]at hx),λx hx=>h.c10 x (by rwa [o 10 (by omega)]at hx),λx hx=>h.c11 x (by rwa [o 11 (by omega)]at hx),λx hx=>?_,λ_=>by rw[o 8 (by omega)];exact h8,λx hx=>h.c14 x (by rwa [o 14 (by omega)]at hx)⟩
 ·obtain⟨h1,H,h2,h3,h4⟩:=h.oX x (by rwa [o 8 (by omega)]at hx);exact⟨h1,H,hP H V V' g h2 (aG.cG hg4) (h4 g hg) dt,λi k hk=>cK (h3 i k hk) hg4.size,λg' cM=>h4 g' (by rwa [o 12 (by omega)]at cM)⟩
 rw[o 12 (by omega),hg]at hx
 cases hx
 exact⟨g,r,rfl,by rw[hV];exact hr.iT r,dt⟩
end
section
variable {A:Nat->aC}{H:Nat->Nat->Prop}{F:Nat->Prop}{w0 w w':ak}{c:aX}{kb bc bd rb bt:Nat}{lv:aw}{bs:List Nat}{K:aD}{k W:Nat}
def aet(h:bS H w0 w c kb bc bd rb bt lv bs K)(hr:er c)(hf:bF c K k W)(hn:k+K.d.now<=900000){i:Nat}(hs:K.ls[i]?=J s)(hb:bs[i]?=J b)(he:c.az[i]?=J e):Calls prog 262 #[aq (J (ai b 0 I))] w λu w'=>u=ax (bn #[ae af (s.kind e),aL (s.turns e)])/\bS (cO H (5+i) w w') w0 w' c kb bc bd rb bt lv bs (K.dT i (s.fin e))/\aG (H (5+i)) w w':=by
 have hl:=h.loc i b e s hb he hs;have hE:=hr.each e (bP he)
 apply(adt hl hE.2.1 hE.2.2.1 ((hf.each s (bP hs)).1.mono hn)).mono;rintro u w' ⟨rfl,h1,h2⟩;exact⟨rfl,h.uh h2 hb he h1,h2⟩
def aeu(h:bS H w0 w c kb bc bd rb bt lv bs K)(hs:fI A w0)(hf:bF c K k W)(hW:W+18<=1099511627776)(ho:K.c.off=false)(i kd t:Nat)(h1:i<=255)(h2:kd<=255)(h3:t<=281474976710655):Calls prog 263 #[aq (J (ai rb 0 I)),ae af (i:Int),ae af (kd:Int),ae af (t:Int)] w λe w'=>∃r:Rec,e=ax (bn #[r.val,errVal A (K.app i kd t).2])/\bS (cO H 2 w w') w0 w' c kb bc bd rb bt lv bs (K.app i kd t).1/\aG (H 2) w w':=by
 have qQ:=hs.gf
 apply(adw (A:=A) h.ring hf hW ho (h.pK hs).four (by have:=h.bO.lo 2 bc h.ring.fc;omega) i kd t h1 h2 h3).mono;rintro e w' ⟨r,rfl,h4,h5⟩;have h6:=h.toRing h5 h4;have e1:=GN K i kd t;have e2:=KS K i kd t;have e3:(K.app i kd t).1.t=K.t:=by unfold aD.app;split;rfl;split;rfl;split<;>rfl
 refine⟨r,rfl,?_,h5⟩;have:(K.app i kd t).1={ K with c:=(K.app i kd t).1.c,L:=(K.app i kd t).1.L,sp:=(K.app i kd t).1.sp }:=by rw[<- e1,<- e2,<- e3]
 rw[this];exact h6
def aev(n b:Nat)(h:bS H w0 w c kb bc bd rb bt lv bs K)(hs:fI A w0)(hr:er c)(hf:bF c K k W)(hn:k+K.d.now<=900000)(hW:W+18<=1099511627776)(ho:K.c.off=false)(h1:1<=K.d.now)(hi:fX s (k+K.d.now-1))(jO:K.ls[n]?=J s)(hb:bs[n]?=J b)(he:c.az[n]?=J e)(adS:n<8):Calls prog 230 #[.pointer (J (ai kb 0 I)),.int .i64 (n:Int),.pointer (J (ai b 0 I))] w λv w'=>v=.returned (errVal A (K.ig c n).2)/\fZ H w0 w c kb bc bd rb bt lv bs (K.ig c n).1 w':=by
 have od:c.az.getD n mQ=e:=by rw[fp,he];rfl
 have vH:U (K.ig c n=if s.turns e=true then (K.dT n (s.fin e)).app n (s.kind e).toNat K.d.now else (K.dT n (s.fin e),0)):=by
  show _=_
  unfold aD.ig;rw[jO];simp only[od]
 have HX:U _:=aet h hr hf hn jO hb he;have rA:U (bF c _ k W/\W+18<=1099511627776/\(K.dT n (s.fin e)).c.off=false/\K.d.now<=900000):=⟨hf.Q6 jO hi h1 e,hW,ho,by omega⟩;obtain⟨kd,jm⟩:∃kd:Nat,s.kind e=(kd:Int):=⟨(s.kind e).toNat,by have:=(D2 e s).1;omega⟩;have aew:kd<=3:=by have:=(D2 e s).2;omega
 change U _ at hs
 have aex:U _:=h.aY.size;clear h hf hn hW ho h1 hi jO hb he od hr
 cases ht:s.turns e
 ·have fM:U (K.ig c n=(K.dT n (s.fin e),0)):=by have:=vH.o;rw[ht,aK (by simp)]at this;exact this
  rw[ht]at HX;go_enter func230,ntmps230
  go_wp2_with fail
  refine aO HX.o ?_;rintro u w3 ⟨rfl,lR,bz⟩;go_wp2;go_ret;rw[fM.o];exact⟨rfl,fZ.one bz lR⟩
 have fM:U (K.ig c n=(K.dT n (s.fin e)).app n kd K.d.now):=by have:=vH.o;rw[ht,aU rfl,jm]at this;exact this
 rw[ht,jm]at HX;go_enter func230,ntmps230
 go_wp2_with fail
 refine aO HX.o ?_;rintro u w3 ⟨rfl,lR,bz⟩;obtain⟨K2,hK2⟩:∃X,X=K.dT n (s.fin e):=⟨_,rfl⟩;obtain⟨tw,uo⟩:∃X,X=K.d.now:=⟨_,rfl⟩;have lQ:fZ H w0 w c kb bc bd rb bt lv bs K2 w3:=by rw[hK2];exact fZ.one bz lR
 have kK:=rA.o;rw[<- hK2]at lR kK;have Eg:U (K.ig c n=K2.app n kd tw):=by have:=fM.o;rw[<- hK2,<- uo]at this;exact this
 have LZ:K2.d.now=tw:=by rw[hK2,uo];rfl
 have Hp:U ((K2.app n kd tw).1.d.now=tw):=by show _=_;rw[GN,LZ]
 have aey:tw<=900000:=by rw[uo];exact kK.2.2.2
 obtain⟨H2,hk2,hg2,gJ⟩:=lQ;have HA:U (∀V,Below w3.heap.size w3 V->Calls prog 263 #[.pointer (J (ai rb 0 I)),.int .i64 (n:Int),.int .i64 (kd:Int),.int .i64 (tw:Int)] V λe w'=>∃r:Rec,e=.returned (.tuple #[r.val,errVal A (K2.app n kd tw).2])/\∃H1,bS H1 w0 w' c kb bc bd rb bt lv bs (K2.app n kd tw).1/\(∀i k,H1 i k->gr (λk=>∃i,H i k) w w' k)/\aG (λk=>∃i,H i k) w w'/\V.heap.size<=w'.heap.size/\(∀i k,H1 i k->k<w3.heap.size\/V.heap.size<=k)/\∀q,w3.heap.size<=q->q<V.heap.size->w'.heap[q]?=V.heap[q]?):=λV hV=>by
  apply(aeu (hk2.below hV) hs kK.1 kK.2.1 kK.2.2.1 n kd tw (by omega) (by omega) (by omega)).mono;rintro e w' ⟨r,rfl,hk4,pL⟩;have hg4:∀i k,H2 i k->gr (λk=>∃i,H i k) w V k:=λi k hk=>(hg2 i k hk).imp id (λ⟨a,b⟩=>⟨a,cK b hV.size⟩)
  have Hq:=gJ.trans (aG.dm hV _) (λ_ _ h=>h);obtain⟨H5,SI,jg,zF⟩:=fZ.trans hg4 Hq (fZ.one pL hk4)
  refine⟨r,rfl,_,hk4,λi k hk=>?_,zF,pL.size,λi k hk=>?_,λq h1 h2=>pL.block q h2 (λhq=>by have:=hk2.bO.lt 2 q hq;omega)⟩
  ·rcases hk with hk|⟨_,a,b⟩
   ·exact(hg4 i k hk).imp id (λ⟨a,b⟩=>⟨a,cK b pL.size⟩)
   exact aN ⟨bp Hq.size a,b⟩
  rcases hk with hk|⟨_,a,_⟩
  ·exact aT (hk2.bO.lt i k hk)
  exact aN a
 have ic:U (∃H1 K1,bS H1 w0 w3 c kb bc bd rb bt lv bs K1/\K1.d.now=tw):=⟨H2,K2,hk2,LZ⟩;have SJ:U (∀W W',(λV=>∃H1 K1,bS H1 w0 V c kb bc bd rb bt lv bs K1/\K1.d.now=tw) W->Below _ W W'->(λV=>∃H1 K1,bS H1 w0 V c kb bc bd rb bt lv bs K1/\K1.d.now=tw) W'):=λW W' ⟨H1,K1,a,b⟩ hb=>⟨H1,K1,a.below hb,b⟩
 have L0:U (∀(H':Nat->Nat->Prop) (W W':ak),(λH1 V=>bS H1 w0 V c kb bc bd rb bt lv bs _/\(∀i k,H1 i k->gr (λk=>∃i,H i k) w V k)/\aG _ w V) H' W->Below _ W W'->(λH1 V=>bS H1 w0 V c kb bc bd rb bt lv bs (K2.app n kd tw).1/\(∀i k,H1 i k->gr (λk=>∃i,H i k) w V k)/\aG (λk=>∃i,H i k) w V) H' W'):=λH' W W' ⟨a,b,d⟩ hb=>⟨a.below hb,λi k hk=>(b i k hk).imp id (λ⟨x,y⟩=>⟨x,cK y hb.size⟩),d.trans (aG.dm hb _) (λ_ _ h=>h)⟩
 have Eh:U (w.heap.size<=w3.heap.size/\w0.heap.size<=w.heap.size):=⟨bz.size,aex⟩;have L1:U (∀(H':Nat->Nat->Prop) (W W':ak) (q:Nat),(λH1 V=>bS H1 w0 V c kb bc bd rb bt lv bs _/\(∀i k,H1 i k->gr (λk=>∃i,H i k) w V k)/\aG _ w V) H' W->aG (λk=>k=q) W W'->(∀i,¬H' i q)->w3.heap.size<=q->(λH1 V=>bS H1 w0 V c kb bc bd rb bt lv bs (K2.app n kd tw).1/\(∀i k,H1 i k->gr (λk=>∃i,H i k) w V k)/\aG (λk=>∃i,H i k) w V) H' W'):=λH' W W' q ⟨a,b,d⟩ ho hno dt=>⟨a.off ho (λi k hk e=>by rw[e]at hk;exact hno i hk) (λk hk=>by rw[hk];have:=Eh.o;omega),λi k hk=>(b i k hk).imp id (λ⟨x,y⟩=>⟨x,cK y ho.size⟩),d.trans ho (λk hk e=>absurd hk (by rw[e];have:=Eh.o;omega))⟩
 clear lR bz hK2 uo kK LZ aey hk2 hg2 gJ HX rA fM vH jm;go_upto_region 4 with fail
 go_cut [9,10] (λ_ L8 wx=>L8=errVal A (K2.app n kd tw).2/\fZ H w0 w c kb bc bd rb bt lv bs (K2.app n kd tw).1 wx)
 case first=>
  refine Dt 15 rfl (my w3 kb rb n kd tw (errVal A (K2.app n kd tw).2) (λV=>∃H1 K1,bS H1 w0 V c kb bc bd rb bt lv bs K1/\K1.d.now=tw) (λH1 V=>bS H1 w0 V c kb bc bd rb bt lv bs (K2.app n kd tw).1/\(∀i k,H1 i k->gr (λk=>∃i,H i k) w V k)/\aG (λk=>∃i,H i k) w V)) (by kernel_rfl) (by kernel_rfl) (my.start (br (aF _ _) 1) (SJ _ _ ic (br (aF _ _) 1))) ?_ ?_
  ·refine mM ⟨?_,?_,?_,?_,?_,?_,?_,?_,?_,?_,?_,?_,?_,?_,?_,trivial⟩
   all_goals
    refine xt.free rfl ?_;intro vals a V hC hn aB aQ
   ·have x0:a.tmps[0]?.getD _=.pointer _:=aW (aQ 0 (dS (by kernel_rfl)));exact bY.val (w:=V) (c:=.pointer _) (by clear aB aQ hC;go_simp) (hC.const (ar rfl) rfl)
   ·obtain⟨v0,hv0,sG⟩:=aB _ (bj (i:=0) rfl) rfl;have KH:a.tmps[19]?.getD _=.pointer _:=(aW (sG 19 rfl)).trans (hC.cs 0 (ar rfl) v0 hv0);clear sG;exact bY.val (w:=V) (c:=.pointer _) (by clear aB aQ hC;go_simp) (hC.const (ar rfl) rfl)
   ·obtain⟨v1,lS,sH⟩:=aB _ (bj (i:=0) rfl) rfl;have KG:a.tmps[20]?.getD _=.pointer _:=(aW (sH 20 rfl)).trans (hC.cs 1 (ar rfl) v1 lS);clear sH;exact bY.val (w:=V) (c:=.pointer _) (by clear aB aQ hC;go_simp) (hC.const (ar rfl) rfl)
   ·obtain⟨H1,K1,pM,-⟩:=hC.ce;have cc:V.cell? _=J (.pointer _):=pM.cell 4 _ rfl;clear pM;obtain⟨v2,hv2,sI⟩:=aB _ (bj (i:=0) rfl) rfl;have Gr:a.tmps[21]?.getD _=.pointer _:=(aW (sI 21 rfl)).trans (hC.cs 2 (ar rfl) v2 hv2);clear sI;exact bY.val (w:=V) (c:=.pointer _) (by clear aB aQ hC;go_simp) (hC.const (ar rfl) rfl)
   ·have x1:a.tmps[1]?.getD _=.int .i64 _:=aW (aQ 1 (dS (by kernel_rfl)));exact bY.val (w:=V) (c:=.int .i64 _) (by clear aB aQ hC;go_simp) (hC.const (ar rfl) rfl)
   ·have x7:a.tmps[7]?.getD _=.int .i64 _:=aW (aQ 7 (dS (by kernel_rfl)));exact bY.val (w:=V) (c:=.int .i64 _) (by clear aB aQ hC;go_simp) (hC.const (ar rfl) rfl)
   ·have x0:a.tmps[0]?.getD _=.pointer _:=aW (aQ 0 (dS (by kernel_rfl)));exact bY.val (w:=V) (c:=.pointer _) (by clear aB aQ hC;go_simp) (hC.const (ar rfl) rfl)
   ·obtain⟨v6,xN,sJ⟩:=aB _ (bj (i:=0) rfl) rfl;have Ke:a.tmps[25]?.getD _=.pointer _:=(aW (sJ 25 rfl)).trans (hC.cs 6 (ar rfl) v6 xN);clear sJ;obtain⟨H1,K1,pM,hk2⟩:=hC.ce
    refine bY.call (w:=V) (f:=75) (args:=#[.pointer (J (ai kb 0 I))]) (by clear aB aQ hC pM;go_simp) ?_
    refine aO (LO pM) ?_;rintro e w4 ⟨rfl,rfl⟩;exact⟨_,rfl,hC.const (ar rfl) (by rw[hk2];rfl)⟩
   ·obtain⟨v3,hv3,sK⟩:=aB _ (bj (i:=0) rfl) rfl;have Gq:a.tmps[22]?.getD _=.pointer _:=(aW (sK 22 rfl)).trans (hC.cs 3 (ar rfl) v3 hv3);clear sK;obtain⟨v4,hv4,sL⟩:=aB _ (bj (i:=1) rfl) rfl;have Kg:a.tmps[23]?.getD _=.int .i64 _:=(aW (sL 23 rfl)).trans (hC.cs 4 (ar rfl) v4 hv4);clear sL;obtain⟨v5,xO,sM⟩:=aB _ (bj (i:=2) rfl) rfl;have QJ:a.tmps[24]?.getD _=.int .i64 _:=(aW (sM 24 rfl)).trans (hC.cs 5 (ar rfl) v5 xO);clear sM;obtain⟨v7,xP,uq⟩:=aB _ (bj (i:=3) rfl) rfl;have QK:a.tmps[26]?.getD _=.int .i64 _:=(aW (uq 26 rfl)).trans (hC.cs 7 (ar rfl) v7 xP);clear uq
    refine bY.call (w:=V) (f:=263) (args:=#[.pointer (J (ai rb 0 I)),.int .i64 (n:Int),.int .i64 (kd:Int),.int .i64 (tw:Int)]) (by clear aB aQ hC;go_simp) ?_
    refine aO (HA.o V (hC.pre hn)) ?_;rintro e w4 ⟨r,rfl,H1,hk4,hg4,Hq,L9,L_,Ma⟩;exact⟨_,rfl,hC.call ⟨H1,_,hk4,Hp⟩ ⟨hk4,hg4,Hq⟩ L9 (λi k hk=>hk4.bO.lt i k hk) L_ Ma⟩
   ·obtain⟨v8,qD,sN⟩:=aB _ (bj (i:=0) rfl) rfl;obtain⟨⟨r,hr⟩,-⟩:=hC.oX v8 qD;have QM:a.tmps[27]?.getD _=.tuple _:=(aW (sN 27 rfl)).trans hr;clear sN;exact bY.val (w:=V) (c:=.tuple _) (by clear aB aQ hC hr;go_simp) (hC.later (aT rfl) (λ_=>⟨r,rfl⟩) (λe=>by cases e) (λe=>by cases e) (λe=>by cases e))
   ·obtain⟨v9,rC,pN⟩:=aB _ (bj (i:=0) rfl) rfl;obtain⟨r,hr⟩:=hC.c9 v9 rC;have GF:a.tmps[18]?.getD _=.tuple _:=(aW (pN 18 rfl)).trans hr;clear pN;exact bY.val (w:=V) (c:=r.val) (by clear aB aQ hC hr;go_simp) (hC.later (aN (aT rfl)) (λe=>by cases e) (λ_=>⟨r,rfl⟩) (λe=>by cases e) (λe=>by cases e))
   ·obtain⟨v9,rC,pN⟩:=aB _ (bj (i:=0) rfl) rfl;obtain⟨r,hr⟩:=hC.c9 v9 rC;have GF:a.tmps[18]?.getD _=.tuple _:=(aW (pN 18 rfl)).trans hr;clear pN;exact bY.val (w:=V) (c:=errVal A _) (by clear aB aQ hC hr;go_simp) (hC.later (aN (aN (aT rfl))) (λe=>by cases e) (λe=>by cases e) (λ_=>rfl) (λe=>by cases e))
   ·exact bY.val (w:=V.alloc _) (c:=.pointer _) (by clear aB aQ hC;go_simp) (hC.made L0 SJ)
   ·obtain⟨v12,xQ,xR⟩:=aB _ (bj (i:=0) rfl) rfl;obtain⟨v10,xS,sO⟩:=aB _ (bj (i:=1) rfl) rfl;obtain⟨v8,qD,-⟩:=aB _ (bj (i:=2) rfl) rfl;obtain⟨g8,r0,rfl,hrow,dt⟩:=hC.c12 v12 xQ;obtain⟨r,rfl⟩:=hC.c10 v10 xS;have x9:a.tmps[9]?.getD _=.pointer _:=aW (xR 9 rfl);have Kf:a.tmps[28]?.getD _=r.val:=aW (sO 28 rfl);obtain⟨z0,z1,z2,z3⟩:=hrow.at;have q0:=hrow.frozen 0;have q1:=hrow.frozen 1;have q2:=hrow.frozen 2;have q3:=hrow.frozen 3;unfold Rec.val at Kf;exact bY.skip (w:=(((V.setCell _ _).setCell _ _).setCell _ _).setCell _ (.int .i64 (r.tick:Int))) (by clear aB aQ hC xR sO hrow;go_simp) (hC.laid (λe=>by have e2:vals 8=J v8:=qD;rw[e2]at e;cases e) (λH1 V hh=>⟨H1,_,hh.1,Hp⟩) L1 xQ hrow dt rfl)
   obtain⟨v11,BN,xT⟩:=aB _ (bj (i:=0) rfl) rfl;have hr:=hC.c11 v11 BN;have QL:a.tmps[29]?.getD _=errVal A _:=(aW (xT 29 rfl)).trans hr;clear xT;exact bY.val (w:=V) (c:=errVal A _) (by clear aB aQ hC hr;go_simp) (hC.later (aN (aN (aN rfl))) (λe=>by cases e) (λe=>by cases e) (λe=>by cases e) (λ_=>rfl))
  intro vals V hC hall;obtain⟨y0,qE⟩:=cI.1 (hall 0 (ar rfl));obtain⟨y1,vI⟩:=cI.1 (hall 1 (ar rfl));obtain⟨y2,sP⟩:=cI.1 (hall 2 (ar rfl));obtain⟨y3,Ei⟩:=cI.1 (hall 3 (ar rfl));obtain⟨y4,Ej⟩:=cI.1 (hall 4 (ar rfl));obtain⟨y5,Ek⟩:=cI.1 (hall 5 (ar rfl));obtain⟨y6,El⟩:=cI.1 (hall 6 (ar rfl));obtain⟨y7,Em⟩:=cI.1 (hall 7 (ar rfl));obtain⟨y8,BO⟩:=cI.1 (hall 8 (ar rfl));obtain⟨y9,En⟩:=cI.1 (hall 9 (ar rfl));obtain⟨Mb,Eo⟩:=cI.1 (hall 10 (ar rfl));obtain⟨Mc,Ep⟩:=cI.1 (hall 11 (ar rfl));obtain⟨SK,Er⟩:=cI.1 (hall 12 (ar rfl));obtain⟨Md,BP⟩:=cI.1 (hall 13 (ar rfl));obtain⟨Me,BQ⟩:=cI.1 (hall 14 (ar rfl));obtain⟨_,H',hh,-⟩:=hC.oX y8 BO;obtain rfl:=hC.c14 Me BQ;have HH:U (fZ H w0 w c kb bc bd rb bt lv bs _ V):=⟨H',hh⟩;clear hC hall hh;simp only[fill,dZ,qE,vI,sP,Ei,Ej,Ek,El,Em,BO,En,Eo,Ep,Er,BP,BQ];clear qE vI sP Ei Ej Ek El Em BO En Eo Ep Er BP BQ;go_simp
  go_wp2
  go_meet
  case rel=>exact⟨rfl,HH⟩
 case rest=>
 rename ak=>W5
 obtain⟨rfl,(hh:U _)⟩:=hcut;go_wp2;go_ret;rw[Eg.o];exact⟨rfl,hh⟩
end
def ur(A:Nat->aC)(d:bR)(cy:Nat):Ending:=ax (bn #[aL (!d.tick.reset&&decide (d.tick.now%cy=0)),errVal A (if d.tick.reset=true then 11 else 0)])
section
variable {A:Nat->aC}{w0 w w':ak}{bd:Nat}{d:bR}
def aez{w w':ak}{cs:Array aw}{T:TypeId}(hg:(w.alloc (ay cs T)).grownBy w' (J b))(hb:b<w.heap.size):w'.heap[w.heap.size]?=J (ay cs T (0,0)):=
 (hg.block _ (by simp) (λe=>by simp at e;omega)).trans (cj w _)
def aeA(cy:Nat)(h:cS w bd d)(hr:d.reset=false)(hn:d.now<1099511627776)(Es:1<=cy)(hs:fI A w0)(kg:Below w0.heap.size w0 w)(dt:w0.heap.size<=bd):Calls prog 189 #[bK #[aq (J (ai bd 0 I)),ae af (cy:Int)]] w λe w'=>e=ur A d cy/\cS w' bd d.tick/\aG (λk=>k=bd) w w':=by
 have hlt:=h.lt;have hb1:=aS w (ay #[aq (J (ai bd 0 I)),ae af (cy:Int)] 184);have HX:U _:=aaN bd d _ (h.below hb1) hr hn;change U _ at hs
 have HL:U (w0.heap.size<=bd/\w0.heap.size<=w.heap.size):=⟨dt,kg.size⟩;change U _ at hb1
 clear h dt hn hr;change U _ at kg;have post:∀w2:ak,(w.alloc _).grownBy w2 _->aG (λk=>k=bd) w w2:=λw2 hg=>(aG.dm hb1 _).trans (aG.cG hg) (λ_ _ e=>e)
 change U _ at post
 go_enter func189,ntmps189
 go_wp2_with fail
 refine aO HX.o ?_;rintro e w2 ⟨rfl,mz,hg2⟩;have hrow:=aez hg2 hlt;have bz:=post w2 hg2;have b0:w2.cell? (ai w.heap.size 0 I)=J (aq (J (ai bd 0 I))):=by simp[aH,hrow]
 have b1:w2.cell? (ai w.heap.size 1 I)=J (ae af (cy:Int)):=by simp[aH,hrow]
 have hs2:=hs.below (aG.below kg bz HL.2 (λk hk=>by rw[hk];exact HL.1));have g10:=hs2.c10;have bZ:U _:=QE bd _ w2 mz;change U _ at bz mz
 cases fW:d.tick.reset
 ·rw[fW]at bZ;go_wp2_with fail
  refine aO bZ.o ?_;rintro e w3 ⟨rfl,rfl⟩;have z0:¬(cy:Int)=0:=by omega
  obtain⟨nw,uu⟩:∃n,n=d.tick.now:=⟨_,rfl⟩;have Hp:U (∀q,Calls _ 131 _ _ λe w'=>e=ax (ae af (nw:Int))/\w'=w3.drewN q):=λq=>by rw[uu];exact QF bd _ _ (mz.drewN q)
  change U _ at uu
  go_wp2_with fail
  go_quiet (first|(go_at_call 131;exact xM (Hp _)))
  have HQ:U (((nw:Int)%(cy:Int)==0)=decide (nw%cy=0)):=by
   show _=_
   by_cases hm:nw%cy=0
   ·rw[bD hm,show (nw:Int)%(cy:Int)=0 by omega];rfl
   rw[bV hm];simp;omega
  change U _ at fW
  go_wp2;go_ret2
  exact⟨by show Ending.returned (bn #[aL _,.nilIface])=_;unfold ur;rw[fW.o,<- uu.o,HQ.o];rfl,mz.drewN _,bz.trans (aG.dm (br (aF _ _) _) _) (λ_ _ e=>e)⟩
 rw[fW]at bZ;go_wp2_with fail
 refine aO bZ.o ?_;rintro e w3 ⟨rfl,rfl⟩;go_wp2_with fail
 go_quiet (fail)
 go_wp2;go_ret2
 exact⟨by show Ending.returned (bn #[aL _,errVal A 11])=_;unfold ur;rw[fW];rfl,mz.drewN _,bz.trans (aG.dm (br (aF _ _) _) _) (λ_ _ e=>e)⟩
def aeB(cy:Int)(h:cS w bd d):Calls prog 233 #[bK #[aq (J (ai bd 0 I)),ae af cy]] w λe w'=>e=ax .nilIface/\cS w' bd (if d.iG=true then d.oO else d)/\aG (λk=>k=bd) w w':=by
 have hlt:=h.lt;have hb1:=aS w (ay #[aq (J (ai bd 0 I)),ae af cy] 184);have h1:=h.below hb1;have HX:U _:=QH bd d _ h1;change U _ at h1 hb1
 cases ho:d.iG
 ·rw[ho]at HX;go_enter func233,ntmps233
  go_wp2_with fail
  refine aO HX.o ?_;rintro e w2 ⟨rfl,q,rfl⟩;go_wp2;go_ret;exact⟨rfl,h1.drewN _,(aG.dm hb1 _).trans (aG.dm (br (aF _ _) _) _) (λ_ _ e=>e)⟩
 rw[ho]at HX;go_enter func233,ntmps233
 go_wp2_with fail
 refine aO HX.o ?_;rintro e w2 ⟨rfl,q,rfl⟩;go_wp2_with fail
 apply(aaS bd d _ (h1.drewN q) ho).mono;rintro e w3 ⟨rfl,aeC,hg3⟩;go_wp2;go_ret;exact⟨rfl,aeC,((aG.dm hb1 _).trans (aG.dm (br (aF _ _) _) _) (λ_ _ e=>e)).trans (aG.cG hg3) (λ_ _ e=>e)⟩
end
def aeD:(prog.info? 9).map (λi=>(i.zero,i.size,i.bytes))=J (J (aA ⟨#[]⟩),1,16):=by kernel_rfl
structure qF(H0 H:Nat->Nat->Prop)(w0 w wr:ak)(c:aX)(kb bc bd rb bt:Nat)(lv:aw)(bs:List Nat)(K:aD)(kv:aw)(xs:List ByteArray):Prop where
 ke:bS H w0 wr c kb bc bd rb bt lv bs K
 hg:∀i k,H i k->gr (λk=>∃i,H0 i k) w wr k
 off:aG (λk=>∃i,H0 i k) w wr
 own:bI ct 1 9 w.heap.size wr kv xs
 no:∀k,kv.ownBlock=J k->∀i,¬H i k
section
variable {A:Nat->aC}{H H0:Nat->Nat->Prop}{F:Nat->Prop}{w0 w w' wr wr':ak}{c:aX}{kb bc bd rb bt:Nat}{lv kv:aw}{bs:List Nat}{K K':aD}{k W:Nat}{xs:List ByteArray}
def qF.to(h:qF H0 H w0 w wr c kb bc bd rb bt lv bs K kv xs)(t:fZ H w0 wr c kb bc bd rb bt lv bs K' wr'):∃H',qF H0 H' w0 w wr' c kb bc bd rb bt lv bs K' kv xs:=by
 obtain⟨H1,t1,t2,t3⟩:=id t
 refine⟨H1,t1,λi k hk=>?_,?_,bI.same h.own (λg hg=>t3.block g (h.own.lt g hg).2 (λ⟨i,hi⟩=>h.no g hg i hi)),λk hk i hi=>?_⟩
 ·rcases t2 i k hk with⟨j,hj⟩|⟨a,b⟩
  ·exact(h.hg j k hj).imp id (λ⟨a,b⟩=>⟨a,cK b t3.size⟩)
  exact aN ⟨bp h.off.size a,b⟩
 ·exact h.off.trans t3 (λk hk ⟨i,hi⟩=>by
   rcases h.hg i k hi with a|⟨a,_⟩
   ·exact a
   omega)
 rcases t2 i k hi with⟨j,hj⟩|⟨a,_⟩
 ·exact h.no k hk j hj
 have:=(h.own.lt k hk).2;omega
def qF.below(h:qF H0 H w0 w wr c kb bc bd rb bt lv bs K kv xs)(hb:Below wr.heap.size wr wr'):qF H0 H w0 w wr' c kb bc bd rb bt lv bs K kv xs:=
 ⟨h.ke.below hb,λi k hk=>(h.hg i k hk).imp id (λ⟨a,b⟩=>⟨a,cK b hb.size⟩),h.off.trans (aG.dm hb _) (λ_ _ h=>h),h.own.below hb,h.no⟩
def qF.kt(h:qF H0 H w0 w wr c kb bc bd rb bt lv bs K kv xs):fZ H0 w0 w c kb bc bd rb bt lv bs K wr:=⟨H,h.ke,h.hg,h.off⟩
def qF.more(h:qF H0 H w0 w wr c kb bc bd rb bt lv bs K kv xs)(hw:w0.heap.size<=w.heap.size){o:Obj}(hn:xs.length+1=n)(hown:wr'.ownsRow w.heap.size 9 1 (aj (J (ai g 0 I)) n cap) n (xs.flatMap ct++[aA y]))(hg:(wr.alloc o).grownBy wr' kv.ownBlock)(cH:kv.ownBlock=J g\/g=wr.heap.size+1):qF H0 H w0 w wr' c kb bc bd rb bt lv bs K (aj (J (ai g 0 I)) n cap) (xs++[y]):=by
 have h1:=h.below (aS wr o);have bz:aG _ _ wr':=⟨hg.os,hg.tape,hg.output,hg.size,λk hk hn=>hg.block k hk (λe=>hn e.symm)⟩;have hlt:=λk hk=>(h.own.lt k hk).1
 refine⟨h1.ke.off bz (λi k hk e=>h.no k e i hk) (λk hk=>bp hw (hlt k hk)),λi k hk=>(h1.hg i k hk).imp id (λ⟨a,b⟩=>⟨a,cK b bz.size⟩),h1.off.trans bz (λk hk e=>absurd (hlt k e) (by omega)),?_,λk hk i hi=>?_⟩
 ·have e:(xs++[y]).flatMap ct=xs.flatMap ct++[aA y]:=by rw[ji];rfl
  show wr'.ownsRow _ _ _ _ _ _
  rw[e,cY,kW,hn];exact hown
 cases hk
 rcases cH with cH|cH
 ·exact h.no g cH i hi
 have:=h.ke.bO.lt i g hi;omega
def aeE{K:aD}(h:K.ls.length=n):eO K n=K.ls.map λs=>iY s.status:=by unfold eO;rw[iM (by omega)]
def aD.xU(c:aX)(K:aD):aD×Nat:=if (K.ends c c.az.length).2=0 then ((K.ends c c.az.length).1.last,0)else K.ends c c.az.length
def aeF(h:bS H w0 w c kb bc bd rb bt lv bs K)(hf:pw K.t 20)(l:List ByteArray)(sa:Option aC)(cap:Nat)(hl:∀V,w.grownBy V (J bt)->bw ct 1 V (aj sa l.length cap) l)(hn:l.length<=1000000):Calls prog 231 #[aq (J (ai bt 0 I)),aj sa l.length cap] w λe w'=>(∃y,e=ax (aA y))/\bS (cO H 4 w w') w0 w' c kb bc bd rb bt lv bs { K with t:=K.t.fin l }/\aG (H 4) w w':=by
 apply(adG w0 w bt 20 K.t l sa cap h.to hf (ar rfl) hl hn).mono;rintro e w' ⟨rfl,ht,hg⟩;have bz:aG (H 4) w w':=(aG.cG hg).mono (λk _ e=>by rw[e];exact h.ht);exact⟨⟨_,rfl⟩,h.Lt bz ht.heap,bz⟩
def aeG(h:bS H w0 w c kb bc bd rb bt lv bs K)(cy:Int):Calls prog 233 #[bK #[aq (J (ai bd 0 I)),ae af cy]] w λe w'=>e=ax .nilIface/\bS (cO H 3 w w') w0 w' c kb bc bd rb bt lv bs { K with d:=if K.d.iG=true then K.d.oO else K.d }/\aG (H 3) w w':=by
 apply(aeB cy h.dog).mono;rintro e w' ⟨rfl,hd,ho⟩;have bz:aG (H 3) w w':=ho.mono (λk _ e=>by rw[e];exact h.hd);exact⟨rfl,h.xL bz hd,bz⟩
def aeH(h:bS H w0 w c kb bc bd rb bt lv bs K)(hs:fI A w0)(hr:er c)(hf:bF c K k W)(hn:k+K.d.now<=900000)(hW:W+200<=1099511627776)(ho:K.c.off=false)(h1:1<=K.d.now)(hi:∀s∈K.ls,fX s (k+K.d.now-1)):Calls prog 190 #[aq (J (ai kb 0 I))] w λv w'=>v=ax (errVal A (K.xU c).2)/\fZ H w0 w c kb bc bd rb bt lv bs (K.xU c).1 w':=by
 obtain⟨i0,mr,hz0,hz1,hz2⟩:=iw aeD;have c5:w.cell? _=J lv:=h.cell 5 _ rfl;obtain⟨la,lc,rfl⟩:=iB h.own;rw[h.dY]at c5;have an1:=hr.nn;obtain⟨W1,Hk,hown1,hg1⟩:=run_make_own (P:=prog) w _ 37 9 i0 _ 1 underlying37 mr hz0 hz1 af af c.az.length (by rw[hz2];omega) (by unfold maxLen;omega) (aR _);have hb1:Below _ w W1:=⟨hg1.os,hg1.tape,hg1.output,hg1.size,λk hk=>hg1.block k hk (by simp)⟩;have HL:U (qF H H w0 w W1 c kb bc bd rb bt _ bs K _ []):=⟨h.below hb1,λi k hk=>aT ⟨i,hk⟩,aG.dm hb1 _,hown1,λk hk i hi=>by cases hk;exact Nat.lt_irrefl _ (h.bO.lt i _ hi)⟩;have zG:U _:=h.aY.size;have HE:U _:=hf.ends ho hi h1;have Hr:U ((∀s∈K.ls,fX s _)/\1<=K.d.now/\k+K.d.now<=900000/\W+200<=1099511627776/\c.az.length<=8):=⟨hi,h1,hn,hW,hr.nn⟩;have an2:U _:=hf.ij;change U _ at hr
 have lq:U _:=hs;have hbl:=h.dY;rw[hbl]at HL⊢;have an3:=aJ hb1 c5;go_enter func190,ntmps190
 go_upto_region 1 with fail
 go_cut [3] (λkv wx=>kv=aj (J (ai w.heap.size 0 I)) 0 c.az.length/\wx=W1)
 case first=>
  go_wp2
  go_meet
  case rel=>exact⟨rfl,rfl⟩
 obtain⟨rfl,rfl⟩:=hcut;rename ak=>W1
 go_upto_region 2 with fail
 go_cut [16,17,18] (λl n i wx=>l=aj la c.az.length lc/\n=ae af (c.az.length:Int)/\i=ae af 0/\wx=W1)
 case first=>
  go_wp2
  go_meet
  case rel=>exact⟨rfl,rfl,rfl,rfl⟩
 obtain⟨rfl,rfl,rfl,rfl⟩:=hcut;go_wp2_with fail
 go_loopw [3,4,5,6,18] (λkv _ _ _ i wr=>∃n:Nat,n<=c.az.length/\i=ae af n/\(K.ends c n).2=0/\∃H1,qF H H1 w0 w wr c kb bc bd rb bt (aj la c.az.length lc) bs (K.ends c n).1 kv (eO (K.ends c n).1 n)) (λ_ _ _ _ i _=>c.az.length-(intOf i).toNat)
 case atStart=>exact⟨0,bA _,rfl,rfl,_,HL⟩
 case round=>
  obtain⟨n,AY,rfl,h0,H1,L⟩:=hrel;have bH:(eO (K.ends c n).1 n).length=n:=by unfold eO;rw[iE,eQ,L.ke.dB];omega
  obtain⟨ka,kc,kA⟩:=iB L.own;rw[bH]at kA;subst kA;change U _ at bH
  by_cases hlt:n<c.az.length
  ·have hlen:=L.ke.dB;obtain⟨s,hs⟩:∃s,(K.ends c n).1.ls[n]?=J s:=⟨_,bq (by omega)⟩;obtain⟨b,e,g,cap,hb,he,hlv,cp,h4⟩:=L.ke.qB hs;rw[hlen]at hlv;simp only[mf,true_and]at hlv;obtain⟨rfl,rfl⟩:=hlv;obtain⟨f1,f2,f3,f4,f5⟩:=HE n;have Hs:=f2 h0;have zy:=Hr.o;have HX:U _:=aev (A:=A) n b L.ke lq hr f1 (by rw[f3];exact zy.2.2.1) (by omega) Hs.1 (by rw[f3];exact zy.2.1) (by rw[f3];exact zy.1 s (by rw[f5 n (aR _)]at hs;exact bP hs)) hs hb he (by omega);have vH:U (K.ends c (n+1)=(K.ends c n).1.ig c n):=by
    show (if (K.ends c n).2=0 then (K.ends c n).1.ig c n else K.ends c n)=_
    rw[aU h0]
   have hst:=Q8 c K n h0 hs he;have xV:U ((K.ends c (n+1)).1.ls[n]?=J (s.fin e)/\eO (K.ends c (n+1)).1 (n+1)=eO (K.ends c n).1 n++[iY (s.fin e).status]):=by
    have uv:(K.ends c (n+1)).1.ls=((K.ends c n).1.dT n (s.fin e)).ls:=by
     rw[hst]
     split
     ·rw[KS]
     rfl
    refine⟨?_,?_⟩
    ·rw[uv];show (List.set ..)[n]?=_
     rw[DW (by omega)]
    rw[<- Q9 (s:=s.fin e) (by omega:n<(K.ends c n).1.ls.length)];unfold eO;rw[uv]
   rw[<- vH.o]at HX;have SL:U (bs[n]?=J b/\c.az[n]?=J e):=⟨hb,he⟩;change U _ at L
   have k1:(n:Int)<(c.az.length:Int):=by omega
   have k2:n<8:=by omega
   go_wp2_with fail
   refine aO HX.o ?_;rintro u w3 ⟨rfl,lQ⟩;obtain⟨H3,L3⟩:=L.to lQ
   by_cases hc0:(K.ends c (n+1)).2=0
   ·rw[hc0,show errVal A 0=.nilIface from rfl];have gI:U _:=R_ (L3.ke.loc n b e (s.fin e) SL.1 SL.2 xV.1);have BR:w3.ownsRow w.heap.size 9 1 (aj ka n kc) n ((eO (K.ends c n).1 n).flatMap ct):=by
     have:w3.ownsRow _ 9 1 _ _ _:=L3.own;rwa [bH.o]at this
    have hz3:=L3.off.size;change U _ at L3 BR
    obtain⟨y,hy⟩:∃y,y=iY (s.fin e).status:=⟨_,rfl⟩;rw[<- hy]at gI;clear lQ HX;change U _ at hy;go_wp2_with fail
    refine aO gI.o ?_;rintro u w5 ⟨rfl,rfl⟩;go_wp2_with (at_builtin;refine vA _ rfl _ _ 37 rfl _ 9 i0 _ 1 16 underlying37 mr hz0 hz1 hz2 rfl (ar rfl) (aj ka n kc) n ((eO (K.ends c n).1 n).flatMap ct) rfl (xH BR _) ⟨w5.heap.size,0,I⟩ 1 1 [aA y] rfl rfl (mP w5 [aA y] 9) (λu hu=>by rw[g_]at hu;subst hu;rfl) (ar rfl) (by unfold maxLen;omega) (by omega) (by simp;omega) (w5.heap.size+1) (by simp) ?_;intro gg cc sB hown hg cH ru)
    have L5:=L3.more zG (by rw[bH.o]) hown hg cH;change U _ at L5
    go_roundw
    case rel=>exact⟨_,by omega,by go_num,hc0,H3,by rw[xV.2,<- hy.o];exact L5⟩
    case measure=>simp[intOf];omega
   obtain⟨j,hj⟩:=zD (A:=A) hc0;have Mf:U (K.xU c=K.ends c (n+1)):=by
    show _=_
    have:=KR c K hc0 (n:=c.az.length) (by omega);unfold aD.xU;rw[this,aK hc0]
   rw[hj];have zH:U _:=L3.kt;clear L3 lQ HX cp;change U _ at hj;go_wp2;go_ret;rw[Mf.o,hj.o];exact⟨rfl,zH⟩
  obtain rfl:n=c.az.length:=by omega
  have k1:¬(c.az.length:Int)<(c.az.length:Int):=by omega
  obtain⟨f1,f2,f3,f4,f5⟩:=HE c.az.length;have hlen:=L.ke.dB;have hall:=aeE hlen;have e6:wr.cell? _=J (aq _):=L.ke.cell 6 _ rfl;have hown:=L.own;have hno:=L.no;have HX:U _:=aeF L.ke f1.ij _ ka kc (λV hV=>by
   rw[bH.o];have:=bI.same hown (λg hg=>hV.block g (hown.lt g hg).2 (λe=>hno g hg 4 (by have:=fg e;rw[this];exact L.ke.ht)));exact this.jz (λ_=>rfl)) (by rw[bH.o];omega)
  rw[bH.o]at HX;change U _ at L
  have jS:U (K.xU c=((K.ends c c.az.length).1.last,0)):=by show _=_;unfold aD.xU;rw[aU h0]
  change U _ at hall
  have BS:U (((K.ends c c.az.length).1.t.fin (eO (K.ends c c.az.length).1 c.az.length)).st<=3):=(f1.ij.KN _).st;go_wp2_with fail
  refine aO HX.o ?_;rintro u w3 ⟨⟨y,rfl⟩,hk3,mA⟩;have Ht:w3.cell? _=J (aq _):=hk3.cell 6 _ rfl;have e0:w3.cell? _=J (aq _):=hk3.cell 0 _ rfl;have e1:w3.cell? _=J (ae af _):=hk3.cell 1 _ rfl;have BU:U _:=adC hk3.to BS;have zH:U (fZ H w0 w c kb bc bd rb bt _ bs _ w3):=fZ.trans L.hg L.off (fZ.one mA hk3);have Mg:U _:=aeG hk3 c.cycle;have Mh:U (∀w4,aG (cO H1 4 wr w3 3) w3 w4->bS (cO (cO H1 4 wr w3) 3 w3 w4) w0 w4 c kb bc bd rb bt (aj la c.az.length lc) bs { ({ (K.ends c c.az.length).1 with t:=(K.ends c c.az.length).1.t.fin (eO (K.ends c c.az.length).1 c.az.length) }:aD)with d:=if (K.ends c c.az.length).1.d.iG=true then (K.ends c c.az.length).1.d.oO else (K.ends c c.az.length).1.d }->fZ H w0 w c kb bc bd rb bt (aj la c.az.length lc) bs { ({ (K.ends c c.az.length).1 with t:=(K.ends c c.az.length).1.t.fin (eO (K.ends c c.az.length).1 c.az.length) }:aD)with d:=if (K.ends c c.az.length).1.d.iG=true then (K.ends c c.az.length).1.d.oO else (K.ends c c.az.length).1.d } w4):=λw4 pL hk4=>by
   have t1:=fZ.trans (H1:=cO H1 4 wr w3) (xC (λi _ hk=>⟨i,hk⟩) 4) (aG.all (λi _ hk=>⟨i,hk⟩) mA) (fZ.one pL hk4);exact fZ.trans L.hg L.off t1
  generalize an4:(K.ends c c.az.length).1=K1 at BU zH Mg Mh jS hall BS;generalize hl:eO K1 c.az.length=l at BU zH Mg Mh hall BS
  by_cases h3:(K1.t.fin l).st=3
  ·have HM:U (decide ((K1.t.fin l).st≠3)=false):=bV (λe=>e h3);have rD:U (K1.last={ K1 with t:=K1.t.fin l }):=by
    show _=_
    unfold aD.last;simp only[<- hall.o];rw[aK (λe=>e.1 h3)]
   rw[HM.o]at BU;go_wp2_with fail
   refine aO BU.o ?_;rintro u w4 ⟨rfl,rfl⟩;go_wp2;go_ret;rw[jS.o,rD.o];exact⟨rfl,zH⟩
  have HM:U (decide ((K1.t.fin l).st≠3)=true):=bD h3;have rD:U (K1.last={ ({ K1 with t:=K1.t.fin l }:aD)with d:=if K1.d.iG=true then K1.d.oO else K1.d }):=by
   show _=_
   unfold aD.last;simp only[<- hall.o]
   cases ho:K1.d.iG
   ·rw[aK (λe=>by cases e.2)];rfl
   rw[aU ⟨h3,rfl⟩];rfl
  rw[HM.o]at BU;go_wp2_with fail
  refine aO BU.o ?_;rintro u w4 ⟨rfl,rfl⟩;go_wp2_with fail
  refine aO Mg.o ?_;rintro u w5 ⟨rfl,SI,uw⟩;go_wp2;go_ret;rw[jS.o,rD.o];exact⟨rfl,Mh w5 uw SI⟩
end
section
variable {A:Nat->aC}{H:Nat->Nat->Prop}{F:Nat->Prop}{w0 w w':ak}{c:aX}{kb bc bd rb bt:Nat}{lv:aw}{bs:List Nat}{K:aD}{k W:Nat}
def aeI(h:bS H w0 w c kb bc bd rb bt lv bs K)(hs:fI A w0)(hr:er c)(fW:K.d.reset=false)(hn:K.d.now<1099511627776):Calls prog 189 #[bK #[aq (J (ai bd 0 I)),ae af c.cycle]] w λe w'=>e=ur A K.d c.cycle.toNat/\bS (cO H 3 w w') w0 w' c kb bc bd rb bt lv bs K.bC/\aG (H 3) w w':=by
 have Es:=hr.cy;have h1:=aeA (A:=A) c.cycle.toNat h.dog fW hn (by omega) hs h.aY (h.bO.lo 3 bd h.hd);rw[show ((c.cycle.toNat:Nat):Int)=c.cycle by omega]at h1
 refine h1.mono ?_;rintro e w' ⟨rfl,hd,ho⟩;have bz:aG (H 3) w w':=ho.mono (λk _ e=>by rw[e];exact h.hd);exact⟨rfl,h.xL bz hd,bz⟩
def aeJ(c:aX)(K:aD)(ho:K.on=0)(fW:K.bC.d.reset=false)(hm:K.bC.d.now%c.cycle.toNat=0):K.tick c=K.bC.xU c:=by
 unfold aD.tick aD.xU;rw[aK (by omega),aK (by rw[fW];simp),aK (by omega)]
def aeK(h:eZ F w0 w c kb bc K)(hs:fI A w0)(hr:er c)(hf:bF c K k (144*K.d.now))(hn:k+K.d.now+1<=900000):Calls prog 127 #[aq (J (ai kb 0 I))] w λe w'=>e=ax (errVal A (K.tick c).2)/\dh F w0 w c kb bc (K.tick c).1 w':=by
 have HS:U (dh F w0 w c kb bc K w):=dh.same h;obtain⟨H,bd,rb,bt,lv,bs,h1,hF⟩:=h;have HC:U _:=Hl h1 hs
 by_cases ho:K.on=0
 ·rw[ho,show errVal A 0=.nilIface from rfl]at HC;obtain⟨o1,o2⟩:=aD.Bv.1 ho;have c0:w.cell? _=J (aq _):=h1.cell 0 _ rfl;have c1:w.cell? _=J (ae af _):=h1.cell 1 _ rfl;have HX:U _:=aeI h1 hs hr o2 (by omega);have HF:U _:=hF;have HR:U _:=hr;have lq:U _:=hs;have rA:U (bF c K.bC k (144*K.d.now)/\(∀s∈K.bC.ls,fX s (k+K.bC.d.now-1))/\1<=K.bC.d.now/\K.bC.c.off=false/\k+K.bC.d.now<=900000):=by
   obtain⟨t1,t2,t3⟩:=hf.bC (by omega);exact⟨t1,t2,t3,o1,by show k+(K.d.now+1)<=900000;omega⟩
  cases fW:K.bC.d.reset
  ·by_cases hm:K.bC.d.now%c.cycle.toNat=0
   ·have HB:U _:=aeJ c K ho fW hm;have e:ur A K.d c.cycle.toNat=ax (bn #[aL true,.nilIface]):=by
     unfold ur;rw[show K.d.tick.reset=false from fW,bD (show K.d.tick.now%c.cycle.toNat=0 from hm)];rfl
    rw[e]at HX;go_enter func127,ntmps127
    go_wp2_with fail
    refine aO HC.o ?_;rintro u w2 ⟨rfl,rfl⟩;go_wp2_with fail
    refine aO HX.o ?_;rintro u w3 ⟨rfl,hk3,mA⟩;have HE:U _:=aeH hk3 lq HR rA.1 rA.2.2.2.2 (by have:=rA.2.2.2.2;have e:K.bC.d.now=K.d.now+1:=rfl;omega) rA.2.2.2.1 rA.2.2.1 rA.2.1;change U _ at mA
    go_wp2_with fail
    refine aO HE.o ?_;rintro u w4 ⟨rfl,lQ⟩;go_wp2;go_ret;rw[HB.o];exact⟨rfl,(fZ.trans (xC (λi _ hk=>⟨i,hk⟩) 3) (aG.all (λi _ hk=>⟨i,hk⟩) mA) lQ).post HF⟩
   have HB:U (K.tick c=(K.bC,0)):=by show _=_;unfold aD.tick;rw[aK (by omega),aK (by rw[fW];simp),aU hm]
   have e:ur A K.d c.cycle.toNat=ax (bn #[aL false,.nilIface]):=by
    unfold ur;rw[show K.d.tick.reset=false from fW,bV (show ¬K.d.tick.now%c.cycle.toNat=0 from hm)];rfl
   rw[e]at HX;go_enter func127,ntmps127
   go_wp2_with fail
   refine aO HC.o ?_;rintro u w2 ⟨rfl,rfl⟩;go_wp2_with fail
   refine aO HX.o ?_;rintro u w3 ⟨rfl,hk3,mA⟩;go_wp2;go_ret;rw[HB.o];exact⟨rfl,bS.post HF mA hk3⟩
  have HB:U (K.tick c=(K.bC,11)):=by show _=_;unfold aD.tick;rw[aK (by omega),aU fW]
  have e:ur A K.d c.cycle.toNat=ax (bn #[aL false,.iface 357 (aq (J (A 10)))]):=by
   unfold ur;rw[show K.d.tick.reset=true from fW];rfl
  rw[e]at HX;go_enter func127,ntmps127
  go_wp2_with fail
  refine aO HC.o ?_;rintro u w2 ⟨rfl,rfl⟩;go_wp2_with fail
  refine aO HX.o ?_;rintro u w3 ⟨rfl,hk3,mA⟩;go_wp2;go_ret;rw[HB.o];exact⟨rfl,bS.post HF mA hk3⟩
 have HB:U (K.tick c=(K,K.on)):=by show _=_;unfold aD.tick;rw[aU ho]
 obtain⟨j,hj⟩:=zD (A:=A) ho;rw[hj]at HC;clear h1 hF ho hs hr hf hn;change U _ at hj;go_enter func127,ntmps127
 go_wp2_with fail
 refine aO HC.o ?_;rintro u w2 ⟨rfl,rfl⟩;go_wp2;go_ret;rw[HB.o,hj.o];exact⟨rfl,HS⟩
end
section
variable {A:Nat->aC}{F:Nat->Prop}{w0 w w':ak}{c:aX}{kb bc:Nat}{K:aD}
def aeL(n:Int)(h:eZ F w0 w c kb bc K)(hs:fI A w0):Calls prog 70 #[aq (J (ai bc 0 I)),ae af n] w λe w'=>e=ax (errVal A (K.cut n).2)/\dh F w0 w c kb bc (K.cut n).1 w':=by
 obtain⟨H,bd,rb,bt,lv,bs,h1,hF⟩:=h
 apply(adx (A:=A) h1.ring (h1.pK hs).four n).mono;rintro e w' ⟨rfl,h2,h3⟩;have h4:=h1.toRing h3 h2;have e1:(K.cut n).1={ K with c:=(K.cut n).1.c,L:=(K.cut n).1.L,sp:=(K.cut n).1.sp }:=by
  unfold aD.cut
  split
  ·rfl
  split<;>rfl
 rw[<- e1]at h4;exact⟨rfl,bS.post hF h3 h4⟩
end
structure nM(H:Nat->Nat->Prop)(w0 w:ak)(c:aX)(kb bc bd:Nat)(rv tv lv:aw)(bs:List Nat)(s:aI)(d:bR)(ls:List aZ):Prop where
 bO:mq H w0.heap.size w
 row:w.heap[kb]?=J (ay (xK c bd bc rv lv tv) 189 (0,0))
 hk:H 0 kb
 own:bI lM 1 190 w0.heap.size w lv bs
 hl:∀k,lv.ownBlock=J k->H 1 k
 cells:bU w bc s
 hc:H 2 bc
 dog:cS w bd d
 hd:H 3 bd
 loc:∀i b e s,bs[i]?=J b->c.az[i]?=J e->ls[i]?=J s->dX (H (5+i)) w b e s
 dY:bs.length=ls.length
 aY:Below w0.heap.size w0 w
section
variable {A:Nat->aC}{H:Nat->Nat->Prop}{F:Nat->Prop}{w0 w w' w1 w2:ak}{c:aX}{kb bc bd rb bt:Nat}{rv tv lv:aw}{bs:List Nat}{s:aI}{d:bR}{ls:List aZ}{K:aD}{k W:Nat}
def bS.ug(h:bS H w0 w c kb bc bd rb bt lv bs K):nM H w0 w c kb bc bd (aq (J (ai rb 0 I))) (aq (J (ai bt 0 I))) lv bs K.c K.d K.ls:=
 ⟨h.bO,h.row,h.hk,h.own,h.hl,h.ring.cells,h.ring.fc,h.dog,h.hd,h.loc,by rw[h.dY,h.dB],h.aY⟩
def nM.cell(h:nM H w0 w c kb bc bd rv tv lv bs s d ls)(j:Nat)(u:aw)(hu:(xK c bd bc rv lv tv)[j]?=J u):w.cell? (ai kb j I)=J u:=by
 simp[aH,h.row,hu]
def nM.below(h:nM H w0 w c kb bc bd rv tv lv bs s d ls)(hb:Below w.heap.size w w'):nM H w0 w' c kb bc bd rv tv lv bs s d ls:=
 ⟨h.bO.grow hb.size,a8 hb h.row,h.hk,h.own.below hb,h.hl,h.cells.below hb,h.hc,h.dog.below hb,h.hd,λi b e s h1 h2 h3=>(h.loc i b e s h1 h2 h3).same (λk hk=>hb.block k (h.bO.lt _ k hk)) hb.size,h.dY,h.aY.trans (hb.mono h.aY.size)⟩
def nM.laid{t:bG}(h:nM H w0 w c kb bc bd rv tv lv bs s d ls)(hlen:ls.length=c.az.length)(hb1:Below w.heap.size w w1)(hr:jk (λk=>k=bc\/(w.heap.size<=k/\k<w1.heap.size)) w0.heap.size w1 rb bc s L false)(ht:nK w1 w2 bt t)
  (hW:w'=(w2.setCell (ai kb 4 I) (.pointer (J (ai rb 0 I)))).setCell ⟨kb,6,I⟩ (.pointer (J (ai bt 0 I)))):bS (cO (cO H 2 w w1) 4 w1 w2) w0 w' c kb bc bd rb bt lv bs ⟨s,d,L,false,ls,t⟩/\aG (λk=>k=kb) w w'/\w2.heap.size=w'.heap.size:=by
 have hb2:=ht.aY;have Et:=hb1.trans (hb2.mono hb1.size);have h2:=h.below Et;have hz:w2.heap.size=w'.heap.size:=by rw[hW];simp[bN]
 have bz:aG (λk=>k=kb) w2 w':=by rw[hW];exact aG.cG ((bJ ..).trans (bJ ..))
 have nW:=h.bO.upd hb1.size h.aY.size 2;have hf2:=nW.upd hb2.size (bp h.aY.size hb1.size) 4;have hf3:mq _ _ w':=hf2.grow (by omega);have up:∀i k,H i k->cO (cO H 2 w w1) 4 w1 w2 i k:=λi k hk=>aT (aT hk)
 have hk2:=up 0 kb h.hk;have no:∀i k,i≠0->cO _ 4 w1 w2 i k->k≠kb:=λi k hi hk e=>by rw[e]at hk;exact hi (hf2.xB i 0 kb hk hk2)
 have same:=λi k hi hk=>bz.block k (hf2.lt i k hk) (no i k hi hk)
 have qG:cO (cO H 2 w w1) 4 w1 w2 4 bt:=aN ⟨rfl,ht.lo,bL ht.heap⟩;have Mi:=bL h.row
 refine⟨⟨hf3,?_,hk2,bI.same h2.own (λg hg=>same 1 g (ar rfl) (up 1 g (h.hl g hg))),λk hk=>up 1 k (h.hl k hk),?_,h2.dog.off bz (no 3 bd (ar rfl) (up 3 bd h.hd)),up 3 bd h.hd,(same 4 bt (ar rfl) qG).trans ht.heap,qG,λi b e s' h3 h4 h5=>?_,?_,hlen,?_⟩,?_,hz⟩
 ·rw[hW];exact pF (pF h2.row _) _
 ·have r2:=hr.off (aG.dm hb2 _) (λ_ _ e=>e);have r3:=r2.grow (λk hk=>by
   rcases hk with rfl|hk
   ·exact up 2 k h.hc
   exact aT (aN ⟨rfl,hk⟩)) (λk hk=>hf2.lt 2 k hk)
  exact r3.off bz (λk hk=>no 2 k (ar rfl) hk)
 ·exact((h2.loc i b e s' h3 h4 h5).grow (λk hk=>up _ k hk) (λk hk=>hf2.lt _ k hk)).same (λk hk=>same _ k (by omega) hk) (by omega)
 ·rw[h.dY,hlen]
 ·exact aG.below h2.aY bz h2.aY.size (λk hk=>by rw[hk];exact h.bO.lo 0 kb h.hk)
 exact(aG.dm Et _).trans bz (λ_ _ e=>e)
def jQ(ls:List aZ)(n:Nat):List aZ:=(ls.take n).map aZ.stop++ls.drop n
def aeM{ls:List aZ}{s:aZ}(h:ls[n]?=J s):(jQ ls n)[n]?=J s/\(jQ ls n).set n s.stop=jQ ls (n+1):=by
 have hn:=(df.1 h).1;have hl:((ls.take n).map aZ.stop).length=n:=by rw[iE,eQ];omega
 have hd:ls.drop n=s::ls.drop (n+1):=by
  rw[lX hn];rw[bq hn]at h;rw[fg h]
 unfold jQ
 refine⟨?_,?_⟩
 ·rw[jX (by omega),hl,Nat.sub_self,hd];rfl
 rw[CN _ _ (by omega),hl,Nat.sub_self,hd,eI,h,lC];simp
def aeN(ls:List aZ)(n:Nat):(jQ ls n).length=ls.length:=by
 unfold jQ;rw[cY,iE,eQ,yK];omega
def aeO(ls:List aZ):∀s∈jQ ls ls.length,s.act=false:=by
 intro s hs;unfold jQ at hs;rw[mL,List.drop_length,pk,nS]at hs;obtain⟨x,-,rfl⟩:=hs;rfl
def bS.idle(h:bS H w0 w c kb bc bd rb bt lv bs K)(ls:List aZ)(hl:ls.length=c.az.length)(h1:∀s∈K.ls,s.act=false)(h2:∀s∈ls,s.act=false):bS H w0 w c kb bc bd rb bt lv bs { K with ls:=ls }:=
 ⟨h.bO,h.row,h.hk,h.own,h.hl,h.ring,h.dog,h.hd,h.ij,h.ht,λi b e s hb he hs=>by
  obtain⟨s0,hs0⟩:∃s0,K.ls[i]?=J s0:=⟨_,bq (by rw[h.dB];exact(df.1 he).1)⟩;exact(h.loc i b e s0 hb he hs0).idle (h1 s0 (bP hs0)) (h2 s (bP hs)),h.dY,hl,h.aY⟩
def Mj(H:Nat->Nat->Prop)(w0 w:ak)(c:aX)(kb bc bd:Nat)(lv:aw)(bs:List Nat)(K:aD)(w':ak):Prop:=
 ∃H' rb bt,bS H' w0 w' c kb bc bd rb bt lv bs K/\(∀i k,H' i k->gr (λk=>∃i,H i k) w w' k)/\aG (λk=>∃i,H i k) w w'
def SM(h:nM H w0 w c kb bc bd rv tv lv bs s d ls)(hs:fI A w0)(hr:er c)(hlen:ls.length=c.az.length)(lh:153<=s.size)(fj:s.off=false):Calls prog 122 #[.pointer (J (ai kb 0 I))] w λe w'=>e=.returned .nilIface/\Mj H w0 w c kb bc bd lv bs (aD.opened c ⟨s,d,[],false,[],bG.new 0⟩) w':=by
 obtain⟨la,lc,rfl⟩:=iB h.own;have hbl:bs.length=c.az.length:=by rw[h.dY,hlen]
 rw[hbl]at h⊢;have c2:w.cell? _=J (.pointer _):=h.cell 2 _ rfl;obtain⟨de,tS⟩:∃de:Nat,c.bE=(de:Int):=⟨c.bE.toNat,by have:=hr.de;omega⟩;have SN:de<=20:=by have:=hr.de;omega
 have c3:w.cell? (ai kb 3 I)=J (.int .i64 (de:Int)):=by rw[<- tS];exact h.cell 3 _ rfl
 have HX:U _:=adz (A:=A) (D:=w0.heap.size) h.cells (hs.below h.aY).four lh fj h.aY.size;change U _ at h
 have lq:U _:=hs;have HN:U (ls.length=c.az.length/\c.az.length<=8/\c.bE.toNat=de):=⟨hlen,hr.nn,by omega⟩;have HT:U _:=λV=>adA de V SN
 clear hs hr hlen lh fj tS SN;go_enter func122,ntmps122
 go_wp2_with fail
 refine aO HX.o ?_;rintro u w1 ⟨rb,rfl,hr1,hb1⟩;have e3:=aJ hb1 c3;change U _ at hr1 hb1
 clear HX c2 c3;go_wp2_with fail
 refine aO (HT.o w1) ?_;rintro u w2 ⟨bt,rfl,vJ⟩;have Et:=hb1.trans (vJ.aY.mono hb1.size);have h2:=h.below Et;have e4:w2.cell? _=J rv:=h2.cell 4 _ rfl;have e6:w2.cell? _=J tv:=h2.cell 6 _ rfl;have q4:∀j,w2.frozen? (ai kb j I)=false:=λj=>by simp[bM,h2.row]
 have Ht:(w2.setCell (ai kb 4 I) (.pointer (J (ai rb 0 I)))).cell? ⟨kb,6,I⟩=J tv:=by
  have:=pF (j:=4) h2.row (.pointer (J (ai rb 0 I)));simp[aH,this,xK]
 have aeP:(w2.setCell (ai kb 4 I) (.pointer (J (ai rb 0 I)))).frozen? ⟨kb,6,I⟩=false:=by
  have:=pF (j:=4) h2.row (.pointer (J (ai rb 0 I)));simp[bM,this]
 clear Et h2 e3 HT;change U _ at vJ;go_upto_region 8 with fail
 obtain⟨W3,hW3⟩:∃X,X=(w2.setCell (ai kb 4 I) (.pointer (J (ai rb 0 I)))).setCell ⟨kb,6,I⟩ (.pointer (J (ai bt 0 I))):=⟨_,rfl⟩;obtain⟨hk3,mA,hz3⟩:=h.laid HN.1 hb1 hr1 vJ hW3;rw[<- hW3];clear hW3 e4 e6 q4 Ht aeP;have c5:W3.cell? _=J (.slice la _ lc):=hk3.cell 5 _ rfl;have ux:U (fZ _ w0 W3 c kb bc bd rb bt _ bs ⟨s,d,_,_,jQ ls 0,_⟩ W3):=fZ.same hk3;change U _ at mA
 have HZ:U (cO _ 4 w1 w2 0 kb/\(∀i k,cO (cO H 2 w w1) 4 w1 w2 i k->H i k\/(w.heap.size<=k/\k<W3.heap.size))/\H 0 kb):=⟨hk3.hk,λi k hk=>by
  have a1:=vJ.aY.size;have a2:=hb1.size
  rcases hk with(hk|⟨_,x,y⟩)|⟨_,x,y⟩
  ·exact aT hk
  ·exact aN ⟨x,by omega⟩
  exact aN ⟨by omega,by omega⟩,h.hk⟩
 have vK:U (aD.opened c ⟨s,d,[],false,[],bG.new 0⟩=⟨s,d,iy (s.bytes.take s.size),false,c.az.map λ_=>aZ.new,bG.new de⟩):=by show _=_;unfold aD.opened;rw[HN.2.2]
 clear hk3 hz3 hr1 hb1 vJ h;generalize cO (cO H 2 w w1) 4 w1 w2=H3 at ux HZ;generalize iy (s.bytes.take s.size)=OL at ux vK
 go_cut [41,42,43] (λl n i wx=>l=.slice la c.az.length lc/\n=.int .i64 (c.az.length:Int)/\i=.int .i64 0/\wx=W3)
 case first=>
  go_wp2
  go_meet
  case rel=>exact⟨rfl,rfl,rfl,rfl⟩
 obtain⟨rfl,rfl,rfl,rfl⟩:=hcut;rename ak=>W3
 clear c5;go_wp2_with fail
 go_loopw [7,43] (λ_ i wr=>∃n:Nat,n<=c.az.length/\i=.int .i64 n/\fZ H3 w0 W3 c kb bc bd rb bt (.slice la c.az.length lc) bs ⟨s,d,OL,false,jQ ls n,bG.new de⟩ wr) (λ_ i _=>c.az.length-(intOf i).toNat)
 case atStart=>exact⟨0,bA _,rfl,ux⟩
 case round=>
  clear ux;obtain⟨n,AY,rfl,lQ⟩:=hrel
  by_cases hlt:n<c.az.length
  ·obtain⟨H4,k4,g4,o4⟩:=lQ;obtain⟨sn,jO⟩:∃x,ls[n]?=J x:=⟨_,bq (by rw[HN.1];exact hlt)⟩;obtain⟨hs1,hs2⟩:=aeM jO;obtain⟨b,e,g,cap,hb,he,hlv,cp,h4⟩:=k4.qB (K:=⟨s,d,OL,_,_,_⟩) hs1;rw[show (jQ ls n).length=c.az.length by rw[aeN,HN.1]]at hlv;simp only[mf,true_and]at hlv;obtain⟨rfl,rfl⟩:=hlv;have HX:U _:=R9 (A:=A) h4 ((k4.pK lq).c8);have Br:U (∀w5,dX (gr (H4 (5+n)) wr w5) w5 b e sn.stop->aG (H4 (5+n)) wr w5->fZ H3 w0 W3 c kb bc bd rb bt (.slice (J (ai g 0 I)) c.az.length lc) bs ⟨s,d,OL,false,jQ ls (n+1),bG.new de⟩ w5):=λw5 Hu zF=>by
    have:=fZ.one zF (k4.uh zF hb he Hu);rw[show aD.dT _ n _=⟨s,d,OL,false,jQ ls _,bG.new de⟩ by unfold aD.dT;rw[<- hs2]]at this;exact fZ.trans g4 o4 this
   have k1:(n:Int)<(c.az.length:Int):=by omega
   have k2:=HN.2.1;clear k4 g4 o4 hs1 hs2 jO hb he h4;go_wp2_with fail
   refine aO HX.o ?_;rintro u w5 ⟨rfl,Hu,zF⟩;have aeQ:U _:=Br w5 Hu zF;clear Hu zF Br HX;go_wp2
   go_roundw
   case rel=>exact⟨_,by omega,by go_num,aeQ⟩
   case measure=>simp[intOf];omega
  obtain rfl:n=c.az.length:=by omega
  have k1:¬(c.az.length:Int)<(c.az.length:Int):=by omega
  change U _ at lQ
  go_wp2;go_ret;obtain⟨H5,k5,g5,o5⟩:=lQ.o;have hall:=aeO ls;rw[HN.1]at hall;have k6:=k5.idle (c.az.map λ_=>aZ.new) (by rw[iE]) hall (λs hs=>by
   simp only[nS]at hs;obtain⟨_,_,rfl⟩:=hs;rfl)
  rw[vK.o]
  refine⟨rfl,H5,rb,bt,k6,λi k hk=>?_,?_⟩
  ·rcases g5 i k hk with⟨j,hj⟩|⟨x,y⟩
   ·rcases HZ.2.1 j k hj with hj|⟨x,y⟩
    ·exact aT ⟨j,hj⟩
    exact aN ⟨x,cK y o5.size⟩
   exact aN ⟨bp mA.size x,y⟩
  refine(mA.mono (λk _ e=>⟨0,by rw[e];exact HZ.2.2⟩)).trans o5 (λk hk ⟨j,hj⟩=>?_)
  rcases HZ.2.1 j k hj with hj|⟨x,_⟩
  ·exact⟨j,hj⟩
  omega
def Mj.post{Eb:Nat}(h:Mj H w0 w c kb bc Eb lv bs K w')(hF:∀i k,H i k->F k):dh F w0 w c kb bc K w':=by
 obtain⟨H2,rb,bt,h1,h2,h3⟩:=h;exact⟨⟨H2,_,_,_,_,_,h1,λi k hk=>(h2 i k hk).imp (λ⟨j,hj⟩=>hF j k hj) id⟩,h3.mono (λk _ ⟨j,hj⟩=>hF j k hj)⟩
def aeR(c:aX)(s:aI)(d d':bR)(L:List Rec)(sp:Bool)(ls:List aZ)(t:bG):aD.opened c ⟨s,d',L,sp,ls,t⟩={ aD.opened c ⟨s,d,[],false,[],bG.new 0⟩with d:=d' }:=by
 unfold aD.opened;generalize iy (s.bytes.take s.size)=X;rfl
def aeS(h:eZ F w0 w c kb bc K)(hs:fI A w0)(hr:er c)(hf:bF c K k W):Calls prog 72 #[aq (J (ai kb 0 I))] w λe w'=>e=ax (errVal A (K.fD c).2)/\dh F w0 w c kb bc (K.fD c).1 w':=by
 have HS:U (dh F w0 w c kb bc K w):=dh.same h;obtain⟨H,bd,rb,bt,lv,bs,h1,hF⟩:=h;have HC:U _:=LK h1;have g9:=(h1.pK hs).c9
 by_cases ho:K.on=0
 ·have HB:U (K.fD c=(K,10)):=by show _=_;unfold aD.fD;rw[aU ho]
  rw[ho,show n_ 0=⟨_⟩from rfl]at HC;go_enter func72,ntmps72
  go_wp2_with fail
  refine aO HC.o ?_;rintro e w' ⟨rfl,rfl⟩;go_wp2;go_ret;rw[HB.o];exact⟨rfl,HS⟩
 have HB:U (K.fD c=(aD.opened c { K with c:={ K.c with off:=false,cut:=false,left:=0 },d:=K.d.start },0)):=by show _=_;unfold aD.fD;rw[aK ho]
 have c2:w.cell? _=J (aq _):=h1.cell 2 _ rfl;have Hv:U _:=ady h1.ring;change U _ at h1 hF
 have Mk:U _:=hf.big.size;change U _ at hr hs
 rcases K.KQ with he|he|he
 ·exact absurd he ho
 all_goals
  rw[he]at HC
  first|rw[show n_ 8=⟨_⟩from rfl]at HC|rw[show n_ 11=⟨_⟩from rfl]at HC
  go_enter func72,ntmps72
  go_wp2_with fail
  refine aO HC.o ?_;rintro e w' ⟨rfl,rfl⟩;go_wp2_with fail
  refine aO Hv.o ?_;rintro e w2 ⟨rfl,hr2,zI⟩;have k2:=h1.toRing zI hr2;have HX:U _:=SM (A:=A) k2.ug hs hr k2.dB Mk rfl;have vL:U (dh F w0 w' c kb bc _ w2):=bS.post hF zI k2;have HU:U (∀i k,cO H 2 w' w2 i k->gr F w' w2 k):=xC hF 2;go_wp2_with fail
  refine aO HX.o ?_;rintro u w4 ⟨rfl,Eu⟩;have aeT:U (dh F w0 w' c kb bc _ w4):=vL.trans (Eu.post HU);obtain⟨H4,an5,an6,k4,g4,o4⟩:=Eu;have c0:w4.cell? _=J (aq _):=k4.cell 0 _ rfl;have gI:U _:=aaT bd _ w4 k4.dog;have aeU:U (∀i k,H4 i k->gr F w' w4 k):=λi k hk=>by
   rcases g4 i k hk with⟨j,hj⟩|⟨x,y⟩
   ·exact(HU j k hj).imp id (λ⟨x,y⟩=>⟨x,cK y o4.size⟩)
   exact aN ⟨bp vL.2.size x,y⟩
  change U _ at k4
  go_wp2_with fail
  refine aO gI.o ?_;rintro u w5 ⟨rfl,Hw,jg⟩;go_wp2;go_ret;rw[HB.o]
  refine⟨rfl,?_⟩;have uw:aG (H4 3) w4 w5:=(aG.cG jg).mono (λk _ e=>by rw[e];exact k4.hd);have k5:=k4.xL uw Hw;have p5:=bS.post aeU uw k5;have p6:=aeT.trans p5;rw[aeR c { K.c with off:=false,cut:=false,left:=0 } K.d _ K.L _ _ K.t];exact p6
end
section
variable {A:Nat->aC}{F F':Nat->Prop}{w0 w w':ak}{c:aX}{kb bc:Nat}{K:aD}{k:Nat}
def eZ.trim(h:eZ F w0 w c kb bc K):eZ (λk=>F k/\k<w.heap.size) w0 w c kb bc K:=by
 obtain⟨H,bd,rb,bt,lv,bs,h1,h2⟩:=h;exact⟨H,bd,rb,bt,lv,bs,h1,λi k hk=>⟨h2 i k hk,h1.bO.lt i k hk⟩⟩
def dh.mono(h:dh F w0 w c kb bc K w')(hF:∀k,F k->F' k):dh F' w0 w c kb bc K w':=by
 obtain⟨⟨H,bd,rb,bt,lv,bs,h1,h2⟩,h3⟩:=h;exact⟨⟨H,bd,rb,bt,lv,bs,h1,λi k hk=>(h2 i k hk).imp (hF k) id⟩,h3.mono (λk _ e=>hF k e)⟩
end
def BV(A:Nat->aC)(j:Nat)(w:ak):Calls prog 61 #[errVal A j] w λe w'=>e=ax (bn #[aA ⟨(ua j).toArray⟩,errVal A j])/\w'=w:=by
 cases j with
 |zero=>
  show Calls _ 61 #[.nilIface] w λe w'=>e=ax (bn #[aA ⟨#[111,107]⟩,.nilIface])/\w'=w
  go_enter func61,ntmps61
  go_wp2;go_ret2
  exact⟨rfl,rfl⟩
 |succ i=>
  show Calls _ 61 #[.iface 357 _] w λe w'=>e=ax (bn #[aA ⟨#[]⟩,.iface 357 _])/\w'=w
  go_enter func61,ntmps61
  go_wp2;go_ret2
  exact⟨rfl,rfl⟩
section
variable {A:Nat->aC}{F F':Nat->Prop}{w0 w w':ak}{c:aX}{kb bc:Nat}{K:aD}{k:Nat}
def aeV(N:Nat)(sv:aw)(h:eZ F w0 w c kb bc K)(hs:fI A w0)(hr:er c)(hf:bF c K k (144*K.d.now))(hn:k+K.d.now+1+N<=900000):Calls prog 68 #[.agg (fN c kb bc sv),ae af (N:Int)] w λe w'=>e=ax (errVal A (K.dM c N).2)/\dh F w0 w c kb bc (K.dM c N).1 w':=by
 obtain⟨W,hW,SP,-⟩:=Ho w c kb bc sv;have GI:U (∀V,aG (λk=>F k/\k<w.heap.size) W V->V.cell? (ai w.heap.size 0 I)=J (aq (J (ai kb 0 I)))):=λV hV=>by
  have h1:W.heap[w.heap.size]?=J (ay (fN c kb bc sv) 101 (0,0)):=by rw[hW];exact cj _ _
  have h2:=(hV.block _ (bL h1) (λe=>Nat.lt_irrefl _ e.2)).trans h1;simp[aH,h2,fN]
 have HR:U _:=hr;have lq:U _:=hs;have HP:U (dh _ w0 W c kb bc K W):=dh.same (h.trim.below SP);have HB:U _:=hn;have HF:U _:=hf;have aeW:N<=900000:=by omega
 have ux:U (∀K' V,dh (λk=>F k/\k<w.heap.size) w0 W c kb bc K' V->dh F w0 w c kb bc K' V):=λK' V hp=>(hp.from SP).mono (λk hk=>hk.1)
 unfold fN at hW⊢;go_enter func68,ntmps68
 go_upto_region 1 with fail
 rw[<- hW];go_wp2_with fail
 go_loopw [5,7] (λ_ i wr=>∃(j:Nat) (Kj:aD),j<=N/\i=ae af j/\U (K.dM c N=Kj.dM c (N-j))/\U (bF c Kj k (144*Kj.d.now))/\U (Kj.d.now<=K.d.now+j)/\U (dh (λk=>F k/\k<w.heap.size) w0 W c kb bc Kj wr)) (λ_ i _=>N-(intOf i).toNat)
 case atStart=>exact⟨0,K,bA _,rfl,rfl,HF,aR _,HP⟩
 case round=>
  obtain⟨j,Kj,hj,rfl,HE,Ev,sQ,xW⟩:=hrel
  by_cases hlt:j<N
  ·have k1:(j:Int)<(N:Int):=by omega
   have jD:U (K.dM c N=if (Kj.tick c).2=0 then (Kj.tick c).1.dM c (N-(j+1))else Kj.tick c):=by
    show _=_
    rw[HE.o,show N-j=(N-(j+1))+1 by omega];rfl
   have HX:U _:=aeK xW.1 lq HR Ev (by have:=HB.o;have:=sQ.o;omega);have Ew:U (bF c _ k _/\(Kj.tick c).1.d.now<=K.d.now+(j+1)):=⟨Ev.tick HR (by have:=HB.o;have:=sQ.o;omega),by have:=D3 c Kj;have:=sQ.o;omega⟩;have x0:=GI wr xW.2;go_wp2_with fail
   refine aO HX.o ?_;rintro u w3 ⟨rfl,hp⟩;have xX:U _:=xW.trans hp
   by_cases hc0:(Kj.tick c).2=0
   ·rw[hc0,show errVal A 0=.nilIface from rfl];go_wp2
    go_roundw
    case rel=>exact⟨_,_,by omega,by go_num,by show _=_;rw[jD.o,aU hc0],Ew.1,Ew.2,xX⟩
    case measure=>simp[intOf];omega
   obtain⟨q,hq⟩:=zD (A:=A) hc0;have HQ:U _:=hq;rw[hq];go_wp2;go_ret;rw[jD.o,aK hc0,HQ.o];exact⟨rfl,ux _ _ xX⟩
  have k1:¬(j:Int)<(N:Int):=by omega
  have jD:U (K.dM c N=(Kj,0)):=by
   show _=_
   rw[HE.o,show N-j=0 by omega];rfl
  go_wp2;go_ret;rw[jD.o];exact⟨rfl,ux _ _ xW⟩
end
def kP(bs:List Bs):Nat->Bs
 |0=>[]
 |k+1=>kP bs k++((if k=0 then []else [32])++bs.getD k [])
def SQ(h:Bs)(t:List Bs):∀k,k<=t.length->kP (h::t) (k+1)=nT 32 h (t.take k)
 |0,_=>by simp[kP,nT]
 |k+1,hk=>by
  rw[kP,SQ h t k (by omega),aK (by omega)];have hlt:k<t.length:=by omega
  have ht:t.take (k+1)=t.take k++[t[k]]:=by rw[eI,bq hlt];rfl
  have hg:(h::t).getD (k+1) []=t[k]:=by simp[bq hlt]
  rw[ht,hg];unfold nT;rw[ji,gh];simp
def aeX(h:Bs)(t:List Bs):kP (h::t) (h::t).length=nT 32 h t:=by
 have:=SQ h t _ (aR _);simpa using this
def aeY(bs:List Bs):∀(k j:Nat),k<=j->(kP bs k).length<=(kP bs j).length:=by
 intro k j hkj
 induction j with
 |zero=>
  have:k=0:=by omega
  rw[this];exact aR _
 |succ j ih=>
  by_cases h:k=j+1
  ·subst h;exact aR _
  have:=ih (by omega);rw[kP,cY];omega
def ow(B pb:Nat)(pv:aw)(w:ak)(x:aw×Bs):Prop:=
 ∀W l,cd B pb w W->cC B pb pv l W->l.length<=800000000->Calls prog 107 #[aq (J (ai pb 0 I)),x.1] W λe W'=>e=ax (bn #[])/\cC B pb pv (l++x.2) W'/\cd B pb W W'
def aeZ(B pb:Nat)(pv:aw)(l:List UInt8)(vb:Nat)(ws:List (aw×Bs))(w:ak)(h:cC B pb pv l w)(hv:w.heap[vb]?=J (ay (ws.map (·.1)).toArray 20 (0,0)))(hne:vb≠pb)(hw:∀x∈ws,ow B pb pv w x)(hn:ws.length<=100)(hl:l.length+(kP (ws.map (·.2)) ws.length).length<=700000000):Calls prog 47 #[aq (J (ai pb 0 I)),aj (J (ai vb 0 I)) ws.length ws.length] w λe w'=>e=ax (bn #[])/\cC B pb pv (l++(kP (ws.map (·.2)) ws.length++[10])) w'/\cd B pb w w':=by
 have H:U (cC B pb pv l w):=h;have HV:U (∀W,cd B pb w W->∀(i:Nat) x,ws[i]?=J x->W.cell? (ai vb i I)=J x.1):=λW hW i x hx=>by
  have hb:=hW.box hv hne (ar rfl);simp[aH,hb,hx]
 change U _ at hw hn hl
 have HP:U (∀W,cC B pb pv l W->True):=λ_ _=>trivial
 go_enter func47,ntmps47
 go_wp2_with fail
 go_loopw [4,5,8] (λ_ _ i wr=>∃k:Nat,k<=ws.length/\i=ae af k/\cC B pb pv (l++kP (ws.map (·.2)) k) wr/\cd B pb w wr) (λ_ _ i _=>ws.length-(intOf i).toNat)
 case atStart=>exact⟨0,bA _,rfl,by simpa[kP]using H.o,cd.refl _ _ _⟩
 case round=>
  obtain⟨k,hk,rfl,zJ,eB⟩:=hrel;have zK:U (cC B pb pv _ wr):=zJ;change U _ at eB
  have hle:(l++kP (ws.map (·.2)) k).length<=700000000:=by
   have h1:=hl.o;have h2:=aeY (ws.map (·.2)) k _ hk;rw[cY];omega
  change U _ at hle
  by_cases hlt:k<ws.length
  ·obtain⟨x,hx⟩:∃x,ws[k]?=J x:=⟨_,bq hlt⟩;have c0:=HV wr eB k x hx;have HX:U (kP (ws.map (·.2)) (k+1)=kP (ws.map (·.2)) k++((if k=0 then []else [32])++x.2)):=by
    show _=_
    rw[kP,fp,gY,hx];rfl
   have HO:=hw x (bP hx);have fk:U (ow B pb pv w x):=HO;have k0:k<100:=by have:=hn.o;omega
   have k1:(k:Int)<(ws.length:Int):=by omega
   by_cases eY:k=0
   ·subst eY;have hwc:U _:=fk wr _ eB zK (by have:=hle.o;omega);go_wp2_with fail
    refine aO hwc.o ?_;rintro e W' ⟨rfl,h1,h2⟩;have H1:U (cC B pb pv (l++kP _ _) W'/\cd B pb w W'):=⟨by rw[HX.o];simpa[kP]using h1,eB.trans h2⟩;go_wp2;go_roundw
    case rel=>exact⟨1,by omega,by go_num,H1.1,H1.2⟩
    case measure=>simp[intOf];omega
   have kp:(0:Int)<(k:Int):=by omega
   have nE:U _:=Py B pb pv _ 32 wr zK (by have:=hle.o;omega);have HC:U _:=λW h1 h2=>fk W (l++kP (ws.map (·.2)) k++[32]) (eB.trans h2) h1 (by have:=hle.o;rw[cY];simp only[lY,xp];omega)
   have vM:U (¬k=0):=eY;have an7:U (((32:UInt8).toNat:Int)=32):=rfl;go_wp2_with fail
   refine aO nE.o ?_;rintro e W1 ⟨rfl,h1,h2⟩;have H1:U (cC B pb pv _ W1/\cd B pb wr W1):=⟨h1,h2⟩;go_wp2_with fail
   refine aO (HC.o _ H1.1 H1.2) ?_;rintro e W2 ⟨rfl,h1,h2⟩;have H2:U (cC B pb pv (l++kP _ _) W2/\cd B pb w W2):=⟨by rw[HX.o,aK vM.o];simpa using h1,(eB.trans H1.2).trans h2⟩;go_wp2;go_roundw
   case rel=>exact⟨_,by omega,by go_num,H2.1,H2.2⟩
   case measure=>simp[intOf];omega
  have k1:¬(k:Int)<(ws.length:Int):=by omega
  obtain rfl:k=ws.length:=by omega
  have nE:U _:=Py B pb pv _ 10 wr zK (by have:=hle.o;omega);go_wp2_with fail
  refine aO nE.o ?_;rintro e W1 ⟨rfl,h1,h2⟩;have H1:U (cC B pb pv (l++(kP _ _++[10])) W1/\cd B pb w W1):=⟨by rw[<- gh];exact h1,eB.trans h2⟩;go_wp2;go_end0
  exact⟨rfl,H1.1,H1.2⟩
def ae0(k:Nat)(hk:k<10)(hK:jN w)(hG:(max 8 11+1)<=B):ow B pb pv w (.iface 122 (ae af (k:Int)),kw k):=
 λW l eB hp hle=>XR B pb pv l k W hp (by omega) hk (hK.below eB.aY (cK (show 8<(max 8 11+1) by decide) hG)) hG
def Ex(n:Int)(h0:0<=n)(h1:n<=1099511627776)(hT:iR w)(hG:(max 8 11+1)<=B):ow B pb pv w (.iface 3 (ae af n),num n):=
 λW l eB hp hle=>XU B pb pv l n W hp (by omega) h0 h1 (hT.below eB.aY hG) hG
def SR(s:ByteArray)(hs:s.size<=1000000):ow B pb pv w (.iface 9 (aA s),bl s):=
 λW l _ hp hle=>XQ B pb pv l s W hp (by omega)
def ae1{pa:Option aC}{pc:Nat}{au:List ByteArray}(x:Int)(hB:∀W,Below B w W->bw ct 1 W (aj pa au.length pc) au)(h0:0<=x)(h1:x<(au.length:Int))(hs:∀p∈au,p.size<=1000000):ow B pb (aj pa au.length pc) w (.iface 164 (ae af x),pt au x):=
 λW l eB hp hle=>XV B pb pa pc au l x W hp (by omega) (λV hV=>hB V (eB.aY.trans hV)) h0 h1 hs
def Hy(B pb:Nat)(pv:aw)(l:List UInt8)(vb k:Nat)(ws:List (aw×Bs))(w:ak)(h:cC B pb pv l w)(hv:w.heap[vb]?=J (ay (.iface 122 (ae af (k:Int))::ws.map (·.1)).toArray 20 (0,0)))(hne:vb≠pb)(hk:k<10)(hK:jN w)(hG:(max 8 11+1)<=B)(hw:∀x∈ws,ow B pb pv w x)(hn:ws.length<=20)(hl:l.length+(a6 k (ws.map (·.2))).length<=700000000):Calls prog 47 #[aq (J (ai pb 0 I)),aj (J (ai vb 0 I)) (ws.length+1) (ws.length+1)] w λe w'=>e=ax (bn #[])/\cC B pb pv (l++(a6 k (ws.map (·.2))++[10])) w'/\cd B pb w w':=by
 have e:kP (((.iface 122 (ae af (k:Int)),kw k)::ws).map (·.2)) ((.iface 122 (ae af (k:Int)),kw k)::ws).length=a6 k (ws.map (·.2)):=by
  have:=aeX (kw k) (ws.map (·.2));rw[O5,<- this];simp
 have:=aeZ B pb pv l vb ((.iface 122 _,kw k)::ws) w h hv hne (λx hx=>by
  rcases fe.1 hx with rfl|hx
  ·exact ae0 k hk hK hG
  exact hw x hx) (by simp;omega) (by rw[e];exact hl)
 rw[e]at this;exact this
def ox(n:Int)(h1:n<=1099511627776):(num n).length<=13:=by
 obtain⟨-,-,-,-,hh⟩:=tC n.toNat;exact hh 12 (by omega)
def BW(V:ak)(c:Array aw)(t:TypeId):(V.alloc (ay c t)).heap[V.heap.size]?=J (ay c t (0,0)):=by
 show (V.heap.push _)[V.heap.size]?=_
 simp
def Below.vN(w:ak)(o:Obj):Below w.heap.size w (w.alloc o):=(aF _ _).alloc (aR _) _
def Ml(B:Nat)(pb:Nat)(w0 w:ak)(e:aM):Prop:=∀(W:ak) (l:List UInt8) (pv:aw) (pa ga ea fa la:Option aC) (pc gc ec fc lc:Nat),cd B pb w W->cC B pb pv l W->l.length<=500000000 ->
 fh w0 e (aj pa e.au.length pc) (aj ga e.aV.length gc) (aj ea e.aP.length ec) (aj fa e.first.length fc) (aj la e.last.length lc) ->
 Calls prog 48 #[aq (J (ai pb 0 I)),.agg (nU e (aj pa e.au.length pc) (aj ga e.aV.length gc) (aj ea e.aP.length ec) (aj fa e.first.length fc) (aj la e.last.length lc))] W λv W'=>v=ax (bn #[])/\(∃j_,cC B pb j_ (l++(dD e).flatMap (λx=>x++[10])) W')/\cd B pb W W'
def ae2(B pb:Nat)(pv:aw)(c:aX)(sa:Option aC)(sc:Nat)(w0 w:ak)(hb0:Below w0.heap.size w0 w)(hw0:w0.heap.size<=B)(h:cC B pb pv [] w)(hK:jN w)(hT:iR w)(hG:(max 8 11+1)<=B)(h1:0<=c.closed/\c.closed<=1099511627776)(h2:0<=c.opn/\c.opn<=1099511627776)(h3:0<=c.cycle/\c.cycle<=1099511627776)(h4:0<=c.bE/\c.bE<=1099511627776)
  (hE:eU w0 (aj sa c.az.length sc) c.az) (hO:∀e∈c.az,Ml B pb w0 w e) (hn:c.az.length<=1000000) (hl:((c.az.flatMap dD).flatMap (λx=>x++[10])).length<=400000000):Calls prog 20 #[aq (J (ai pb 0 I)),.agg (cR c sa sc)] w λe w'=>e=ax (bn #[])/\(∃j_,cC B pb j_ (fK c) w')/\cd B pb w w':=by
 unfold cR;have SS:=h.lt;have HK:U (jN w):=hK;have HT:U (iR w):=hT;have HG:U _:=hG;have dV:U _:=h.2.1;have Mm:U _:=SS;have HN:U ((0<=c.closed/\c.closed<=1099511627776)/\(0<=c.opn/\c.opn<=1099511627776)/\(0<=c.cycle/\c.cycle<=1099511627776)/\(0<=c.bE/\c.bE<=1099511627776)):=⟨h1,h2,h3,h4⟩;have HE:U (eU w0 _ _):=hE;have HO:U _:=hO;have jG:U (∀W,cd B pb w W->Below _ w0 W):=λW hW=>hb0.trans (hW.aY.mono hw0)
 have HM:U _:=hn;have HL:U _:=hl;have H0:U (cC B pb pv [] (w.alloc (ay (cR c sa sc) 24))):=h.below (Below.vN _ _);have jn:U (cd B pb w (w.alloc (ay (cR c sa sc) 24))):=(cd.refl B pb w).alloc h.2.1 _;have gN:U (∀W,cd B pb (w.alloc (ay (cR c sa sc) 24)) W->∀j v,((cR c sa sc):Array _)[j]?=J v->W.cell? (ai w.heap.size j I)=J v):=λW hW j v e=>by
  have hb:=hW.box (BW w _ _) (by omega) (ar rfl);simp[aH,hb,e]
 clear h SS hK hT hG h1 h2 h3 h4 hE hO hn hl hb0 hw0;go_enter func20,ntmps20
 go_upto_region 1 with fail
 obtain⟨W0,hW0⟩:∃W0,W0=w.alloc (ay (cR c sa sc) 24):=⟨_,rfl⟩;rw[<- hW0]at H0 jn gN⊢;clear hW0;have zL:U (cC B pb pv [] W0):=H0.o;have sg:U (cd B pb W0 W0):=cd.refl _ _ _;have p0:W0.cell? _=J (ae af _):=gN W0 sg 0 _ rfl;have p1:W0.cell? _=J (ae af _):=gN W0 sg 1 _ rfl;have ic:U (Calls _ 47 #[aq _,aj _ 3 3] _ λe w'=>e=ax _/\cC B pb pv ([]++(a6 0 [num _,num _]++[10])) w'/\cd B pb (W0.alloc (ay #[.iface 122 (ae af 0),.iface 3 _,.iface 3 _] 20)) w'):=
  Hy B pb pv _ _ 0 [(.iface 3 (ae af c.closed),num c.closed),(.iface 3 (ae af c.opn),num c.opn)] _ (zL.below (Below.vN _ _)) (BW ..) (by have:=jn.aY.size;have:=Mm.o;omega) (ar rfl) (HK.below (jn.aY.alloc (bp dV.o jn.aY.size) _) (cK (show 8<(max 8 11+1) by decide) HG)) HG
  (λx hx=>by
  simp only[fe,jL,j4]at hx
  rcases hx with rfl|rfl
  ·exact Ex _ (HN.1).1 (HN.1).2 (HT.below (jn.aY.alloc (bp dV.o jn.aY.size) _) HG) HG
  exact Ex _ (HN.2.1).1 (HN.2.1).2 (HT.below (jn.aY.alloc (bp dV.o jn.aY.size) _) HG) HG) (by simp) (by simp[a6,kw];have:=ox _ HN.1.2;have:=ox _ HN.2.1.2;have:=ox _ HN.2.2.1.2;have:=ox _ HN.2.2.2.2;omega)
 go_wp2_with fail
 refine aO ic.o ?_;rintro e W1 ⟨rfl,hp,hf⟩;have mU:U (cC B pb pv _ W1):=hp;have rj:U _:=(jn.alloc (bp dV.o jn.aY.size) _).trans hf;have om:U _:=(sg.alloc (bp dV.o jn.aY.size) _).trans hf;clear hp hf ic;clear p0 p1;have p2:W1.cell? _=J (ae af _):=gN W1 om 2 _ rfl;have dx:U (Calls _ 47 #[aq _,aj _ 2 2] _ λe w'=>e=ax _/\cC B pb pv ([]++(a6 0 _++[10])++(a6 1 [num _]++[10])) w'/\cd B pb (W1.alloc (ay #[.iface 122 (ae af 1),.iface 3 _] 20)) w'):=
  Hy B pb pv _ _ 1 [(.iface 3 (ae af c.cycle),num c.cycle)] _ (mU.below (Below.vN _ _)) (BW ..) (by have:=rj.aY.size;have:=Mm.o;omega) (ar rfl) (HK.below (rj.aY.alloc (bp dV.o rj.aY.size) _) (cK (show 8<(max 8 11+1) by decide) HG)) HG
  (λx hx=>by
  simp only[g_]at hx;subst hx;exact Ex _ (HN.2.2.1).1 (HN.2.2.1).2 (HT.below (rj.aY.alloc (bp dV.o rj.aY.size) _) HG) HG) (by simp) (by simp[a6,kw];have:=ox _ HN.1.2;have:=ox _ HN.2.1.2;have:=ox _ HN.2.2.1.2;have:=ox _ HN.2.2.2.2;omega)
 go_wp2_with fail
 refine aO dx.o ?_;rintro e W2 ⟨rfl,hp,hf⟩;have vL:U (cC B pb pv _ W2):=hp;have vO:U _:=(rj.alloc (bp dV.o rj.aY.size) _).trans hf;have Mn:U _:=(om.alloc (bp dV.o rj.aY.size) _).trans hf;clear hp hf dx;clear p2;have p3:W2.cell? _=J (ae af _):=gN W2 Mn 3 _ rfl;have qU:U (Calls _ 47 #[aq _,aj _ 2 2] _ λe w'=>e=ax _/\cC B pb pv ([]++(a6 0 _++[10])++(a6 1 _++[10])++(a6 2 [num _]++[10])) w'/\cd B pb (W2.alloc (ay #[.iface 122 (ae af 2),.iface 3 _] 20)) w'):=
  Hy B pb pv _ _ 2 [(.iface 3 (ae af c.bE),num c.bE)] _ (vL.below (Below.vN _ _)) (BW ..) (by have:=vO.aY.size;have:=Mm.o;omega) (ar rfl) (HK.below (vO.aY.alloc (bp dV.o vO.aY.size) _) (cK (show 8<(max 8 11+1) by decide) HG)) HG
  (λx hx=>by
  simp only[g_]at hx;subst hx;exact Ex _ (HN.2.2.2).1 (HN.2.2.2).2 (HT.below (vO.aY.alloc (bp dV.o vO.aY.size) _) HG) HG) (by simp) (by simp[a6,kw];have:=ox _ HN.1.2;have:=ox _ HN.2.1.2;have:=ox _ HN.2.2.1.2;have:=ox _ HN.2.2.2.2;omega)
 go_wp2_with fail
 refine aO qU.o ?_;rintro e W3 ⟨rfl,hp,hf⟩;have xX:U (cC B pb pv _ W3):=hp;have SU:U _:=(vO.alloc (bp dV.o vO.aY.size) _).trans hf;have Mp:U _:=(Mn.alloc (bp dV.o vO.aY.size) _).trans hf;clear hp hf qU;clear p3;have p4:W3.cell? _=J (aj sa _ sc):=gN W3 Mp 4 _ rfl;go_wp2_with fail
 clear p4;have BS:U ([]++(a6 0 [num c.closed,num c.opn]++[10])++(a6 1 [num c.cycle]++[10])++(a6 2 [num c.bE]++[10])=(a6 0 [num c.closed,num c.opn]::a6 1 [num c.cycle]::a6 2 [num c.bE]::(c.az.take 0).flatMap dD).flatMap (λx=>x++[10])):=by show _=_;simp
 have HH:U ((a6 0 [num c.closed,num c.opn]).length<=100/\(a6 1 [num c.cycle]).length<=100/\(a6 2 [num c.bE]).length<=100):=by
  have a1:=ox _ HN.1.2;have a2:=ox _ HN.2.1.2;have a3:=ox _ HN.2.2.1.2;have a4:=ox _ HN.2.2.2.2
  refine⟨?_,?_,?_⟩<;>(simp[a6,kw];omega)
 go_loopw [5,33] (λ_ i wr=>∃k:Nat,k<=c.az.length/\i=ae af k/\(∃j_,cC B pb j_ ((a6 0 [num c.closed,num c.opn]::a6 1 [num c.cycle]::a6 2 [num c.bE]::(c.az.take k).flatMap dD).flatMap (λx=>x++[10])) wr)/\cd B pb w wr/\cd B pb W0 wr) (λ_ i _=>c.az.length-(intOf i).toNat)
 case atStart=>exact⟨0,bA _,rfl,⟨pv,by rw[<- BS.o];exact xX⟩,SU,Mp⟩
 case round=>
  clear zL mU vL xX jn rj vO SU sg om Mn Mp BS H0;obtain⟨k,hk,rfl,⟨j_,zJ⟩,eB,hg0⟩:=hrel
  by_cases hlt:k<c.az.length
  ·obtain⟨e,hq⟩:∃e,c.az[k]?=J e:=⟨_,bq hlt⟩;obtain⟨bQ,cap',bH,hcc⟩:=HE.o
   cases bH
   obtain⟨b,o,rfl,hc0⟩:=hcc (λh=>by rw[h]at hq;simp at hq);obtain⟨an8,gv,ev,fv,lv,fO,hcell⟩:=hc0 k e hq;obtain⟨pa,pc,rfl,-,-⟩:=id fO.hp;obtain⟨ga,gc,rfl,-,-⟩:=id fO.hg;obtain⟨ea,ec,rfl,-,-⟩:=id fO.he;obtain⟨fa,fc,rfl,-,-⟩:=id fO.hf;obtain⟨la,lc,rfl,-,-⟩:=id fO.hl;have c0:wr.cell? ⟨b,o+k*10,_⟩=J (aA _):=aJ (jG wr eB) (hcell 0 _ rfl);have c1:wr.cell? _=J (ae af _):=aJ (jG wr eB) (hcell 1 _ rfl);have c2:wr.cell? _=J (aj pa _ pc):=aJ (jG wr eB) (hcell 2 _ rfl);have c3:wr.cell? _=J (ae af _):=aJ (jG wr eB) (hcell 3 _ rfl);have c4:wr.cell? _=J (ae af _):=aJ (jG wr eB) (hcell 4 _ rfl);have c5:wr.cell? _=J (ae af _):=aJ (jG wr eB) (hcell 5 _ rfl);have c6:wr.cell? _=J (aj ga _ gc):=aJ (jG wr eB) (hcell 6 _ rfl);have c7:wr.cell? _=J (aj ea _ ec):=aJ (jG wr eB) (hcell 7 _ rfl);have c8:wr.cell? _=J (aj fa _ fc):=aJ (jG wr eB) (hcell 8 _ rfl);have c9:wr.cell? _=J (aj la _ lc):=aJ (jG wr eB) (hcell 9 _ rfl);have HQ:U _:=hq;have zK:U (cC B pb j_ _ wr):=zJ;have SV:U _:=eB;have sg:U _:=hg0;have ae3:U (((a6 0 [num c.closed,num c.opn]::a6 1 [num c.cycle]::a6 2 [num c.bE]::(c.az.take k).flatMap dD).flatMap (λx=>x++[10])).length<=500000000):=by
    show _<=_
    have hl:=HL.o;have e1:c.az.flatMap dD=(c.az.take k).flatMap dD++(c.az.drop k).flatMap dD:=by rw[<- ji,rf]
    rw[e1,ji,cY]at hl;have:=HH.o;simp only[mD,cY,lY,xp];omega
   have vL:U _:=fO;have k1:(k:Int)<(c.az.length:Int):=by omega
   have k0:k<1000000:=by have:=HM.o;omega
   have Mq:U _:=λW hW ae4=>HO e (bP hq) W _ j_ pa ga ea fa la pc gc ec fc lc (SV.trans hW) ae4 ae3 vL
   unfold nU at Mq;clear hq hcell fO hcc hc0 zJ eB hg0;go_wp2_with fail
   refine aO (Mq.o _ ((cd.refl B pb wr).alloc zK.2.1 _) (zK.below (Below.vN _ _))) ?_;rintro v W' ⟨rfl,BG,hf'⟩;have HR:U ((∃j_,cC B pb j_ ((a6 0 [num c.closed,num c.opn]::a6 1 [num c.cycle]::a6 2 [num c.bE]::(c.az.take (k+1)).flatMap dD).flatMap (λx=>x++[10])) W')/\cd B pb w W'/\cd B pb W0 W'):=by
    have hf2:=((cd.refl B pb wr).alloc zK.2.1 _).trans hf'
    refine⟨?_,SV.trans hf2,sg.trans hf2⟩;obtain⟨ae5,pO⟩:=BG
    refine⟨ae5,?_⟩;have e1:(c.az.take (k+1)).flatMap dD=(c.az.take k).flatMap dD++dD e:=by rw[eI,HQ.o,ji];simp
    rw[e1];simpa[ji]using pO
   clear BG hf' Mq;go_wp2;go_roundw
   case rel=>exact⟨_,by omega,by go_num,HR.1,HR.2.1,HR.2.2⟩
   case measure=>simp[intOf];omega
  have k1:¬(k:Int)<(c.az.length:Int):=by omega
  obtain rfl:k=c.az.length:=by omega
  have HR:U ((∃j_,cC B pb j_ (fK c) wr)/\cd B pb w wr):=⟨⟨j_,by unfold fK oJ;rw[mL]at zJ;exact zJ⟩,eB⟩;clear zJ eB hg0;go_wp2;go_end0
  exact⟨rfl,HR.1,HR.2⟩
def ae6(s:ByteArray)(w:ak)(hs:s.size<=1000000):Calls prog 99 #[aA s] w λe w'=>e=ax (aL (!isName s))/\Below w.heap.size w w':=by
 go_enter func99,ntmps99
 go_wp2_with fail
 apply(adT s _ hs).mono;rintro e w' ⟨rfl,hb⟩;go_wp2;go_ret;exact⟨rfl,hb⟩
def kQ(mb:Nat)(w w':ak):Prop:=∀(p:aC) (v:aw),p.block≠mb->w.cell? p=J v->w'.cell? p=J v
def kQ.refl(mb:Nat)(w:ak):kQ mb w w:=λ_ _ _ h=>h
def kQ.trans{w'':ak}(h:kQ mb w w')(h2:kQ mb w' w''):kQ mb w w'':=λp v hn e=>h2 p v hn (h p v hn e)
def kQ.of(h:Below w.heap.size w w'):kQ mb w w':=λ_ _ _ e=>aJ h e
def SX(A:Nat->aC)(w0 w:ak)(rb bx mb:Nat)(a:List ByteArray)(s:ByteArray)(h:mS A w0 w rb bx mb a)(hs:s.size<=1000000)(hn:a.length<=1000000):Calls prog 102 #[aA s,aj (J (ai rb 0 I)) 2 2] w λe w'=>e=ax (cP A (dP a s))/\Below w0.heap.size w0 w'/\(dP a s=0->mS A w0 w' rb bx mb (a++[s]))/\kQ mb w w':=by
 have an9:=enters_of func99 (by kernel_rfl) rfl;have an_:=enters_of func101 (by kernel_rfl) rfl;have HN:U _:=λW=>ae6 s W hs
 have HM:U _:=λW hW=>ad7 A w0 W rb bx mb a s hW hs hn
 go_enter func102,ntmps102
 go_wp2_with fail
 go_loopw [6,9] (λ_ i wr=>kQ mb w wr/\((i=ae af 0/\mS A w0 wr rb bx mb a)\/(i=ae af 1/\isName s=true/\mS A w0 wr rb bx mb a)\/(i=ae af 2/\dP a s=0/\mS A w0 wr rb bx mb (a++[s])))) (λ_ i _=>2-(intOf i).toNat)
 case atStart=>exact⟨kQ.refl _ _,aT ⟨rfl,h⟩⟩
 case round=>
  obtain⟨ae7,hrel⟩:=hrel;have xr:U (kQ mb w wr):=ae7
  rcases hrel with⟨rfl,h⟩|⟨rfl,hN,h⟩|⟨rfl,hE,h⟩
  ·have r0:=h.r0;have r1:=h.r1;change U _ at h
   cases hN:isName s with
   |true=>
    have i7:=HN.o;rw[hN]at i7;change U _ at i7 hN
    go_wp2_with fail
    apply(i7 _).mono;rintro e W' ⟨rfl,hb'⟩;have H2:U _:=(h.below (aS _ _)).below hb';have vP:U (kQ mb w W'):=(xr.trans (kQ.of (aS _ _))).trans (kQ.of hb');go_wp2;go_roundw
    case rel=>exact⟨vP,aN (aT ⟨by go_num,by first|trivial|exact hN,H2⟩)⟩
    case measure=>simp[intOf]
   |false=>
    have i7:=HN.o;rw[hN]at i7;change U _ at i7
    have zM:U (dP a s=4):=by show _=_;simp[dP,hN]
    go_wp2_with fail
    apply(i7 _).mono;rintro e W' ⟨rfl,hb'⟩;have d0:W'.cell? (ai wr.heap.size 0 I)=J (.iface 357 (aq (J (A 3)))):=aJ hb' (by simp);have H2:U _:=(h.below (aS _ _)).below hb';have vP:U (kQ mb w W'):=(xr.trans (kQ.of (aS _ _))).trans (kQ.of hb');go_wp2;go_ret;exact⟨by rw[zM.o];rfl,H2.aY,λe=>by (rw[zM.o]at e;cases e),vP⟩
  ·have r2:=h.r2;have r3:=h.r3;change U _ at h
   cases hA:a.any (λx=>decide (x=s))with
   |false=>
    have tX:=HM.o;rw[hA]at tX;change U _ at tX
    have zM:U (dP a s=0):=by show _=_;simp only[dP,hN,hA];rfl
    go_wp2_with fail
    apply(tX _ (h.below (aS _ _))).mono;rintro e W' ⟨rfl,(h':U _),nH⟩;have vP:U (kQ mb w W'):=(xr.trans (kQ.of (aS _ _))).trans nH;go_wp2;go_roundw
    case rel=>exact⟨vP,aN (aN ⟨by go_num,zM,h'⟩)⟩
    case measure=>simp[intOf]
   |true=>
    have tX:=HM.o;rw[hA]at tX;change U _ at tX
    have zM:U (dP a s=6):=by show _=_;simp only[dP,hN,hA];rfl
    go_wp2_with fail
    apply(tX _ (h.below (aS _ _))).mono;rintro e W' ⟨rfl,(h':U _),nH⟩;have vP:U (kQ mb w W'):=(xr.trans (kQ.of (aS _ _))).trans nH;have d0:W'.cell? _=J (.iface 357 (aq (J (A 5)))):=nH ⟨wr.heap.size,0,I⟩ _ (λe=>by have:=h.own.lt;simp at e;omega) (by simp);go_wp2;go_ret;exact⟨by rw[zM.o];rfl,h'.aY,λe=>by (rw[zM.o]at e;cases e),vP⟩
  change U _ at hE h
  go_wp2;go_ret;exact⟨by rw[hE.o];rfl,h.aY,λ_=>h,xr⟩
def oY{α:Type}(p:α->Bool):List α->Int
 |[]=>-1
 |x::t=>if p x then 0 else if oY p t<0 then -1 else oY p t+1
def BX{α:Type}(p:α->Bool):∀(xs:List α),(∀(i:Nat) (x:α),xs[i]?=J x->p x=false)->oY p xs=-1
 |[],_=>rfl
 |x::t,h=>by
  have h0:=h 0 x rfl;have:=BX p t (λi y e=>h (i+1) y (by simpa using e));simp[oY,h0,this]
def BZ{α:Type}(p:α->Bool):∀(xs:List α) (k:Nat) (x:α),(∀(i:Nat) (y:α),i<k->xs[i]?=J y->p y=false)->xs[k]?=J x->p x=true->oY p xs=(k:Int)
 |[],k,x,_,h,_=>by simp at h
 |y::t,0,x,_,h,hp=>by simp at h;subst h;simp[oY,hp]
 |y::t,k+1,x,h,h2,hp=>by
  have h0:=h 0 y (by omega) rfl;have:=BZ p t k x (λi z hi e=>h (i+1) z (by omega) (by simpa using e)) (by simpa using h2) hp;simp only[oY,h0,this];rw[aK (by simp),aK (by omega)];omega
def B8{α:Type}(p:α->Bool):∀(xs:List α),decide (0<=oY p xs)=xs.any p
 |[]=>rfl
 |x::t=>by
  have:=B8 p t;unfold oY
  by_cases h:p x=true
  ·simp[h]
  simp only[uX]at h;rw[yC,h,Bool.false_or,<- this];simp only[Bool.false_eq_true,if_false]
  by_cases h2:oY p t<0
  ·rw[aU h2];exact pA.2 (by omega)
  rw[aK h2];exact pA.2 (by omega)
def ae8(v:aw)(xs:List Int)(p:Int->Bool)(g:Nat)(lb:Array aw)(w:ak)(hv:bw bT 1 w v xs)(hn:xs.length<=1000000)(eg:∀args w,(callFunc g args).run prog w=.ok (.enter g args) w)
  (hp:∀W,Below w.heap.size w W->∀x,x∈xs->Calls prog g (#[ae af x]++lb) W λe W'=>e=ax (aL (p x))/\Below W.heap.size W W'):Calls prog 242 #[v,.func (.func g) #[] lb] w λe w'=>e=ax (ae af (oY p xs))/\Below w.heap.size w w':=by
 obtain⟨sa,cap,rfl,-,(hcell:U _)⟩:=hv;change U _ at hp hn
 go_enter func242,ntmps242
 go_wp2_with fail
 go_loopw [5,8] (λ_ i wr=>∃k:Nat,k<=xs.length/\i=ae af k/\Below w.heap.size w wr/\U (∀(i:Nat) (y:Int),i<k->xs[i]?=J y->p y=false)) (λ_ i _=>xs.length-(intOf i).toNat)
 case atStart=>exact⟨0,bA _,rfl,aF _ _,λi b hi=>absurd hi (oo _)⟩
 case round=>
  obtain⟨k,hk,rfl,cA,hall⟩:=hrel
  by_cases hlt:k<xs.length
  ·obtain⟨x,hx⟩:∃x,xs[k]?=J x:=⟨_,bq hlt⟩;obtain⟨b,o,rfl,hc0⟩:=hcell (λe=>by subst e;simp at hx);have hc:=λi x h j u hu=>aJ cA (hc0 i x h j u hu)
   have c0:=hc k x hx 0 _ rfl;simp only[qT,kH]at c0;have hm:=hp _ cA x (bP hx);have k1:(k:Int)<(xs.length:Int):=by omega
   have k0:k<1000000:=by have:=hn.o;omega
   change U _ at cA
   clear hc0 hc hcell hp;change U _ at hx
   cases ey:p x with
   |true=>
    rw[ey]at hm;change U _ at hm ey
    go_wp2_with fail
    refine aO hm.o ?_;rintro e W' ⟨rfl,hb'⟩;go_wp2;go_ret;exact⟨by rw[BZ p xs k x hall.o hx.o ey.o];rfl,cA.trans (hb'.mono cA.size)⟩
   |false=>
    rw[ey]at hm;change U _ at hm ey
    go_wp2_with fail
    refine aO hm.o ?_;rintro e W' ⟨rfl,hb'⟩;have HW:U _:=cA.trans (hb'.mono cA.size);go_wp2;go_roundw
    case rel=>
     refine⟨k+1,by omega,by go_num,HW,λi y hi e=>?_⟩
     by_cases hik:i=k
     ·subst hik;have h2:=hx.o;rw[h2]at e
      cases e
      exact ey
     exact hall i y (by omega) e
    case measure=>simp[intOf];omega
  have k1:¬(k:Int)<(xs.length:Int):=by omega
  have HN:U _:=BX p xs (λi x e=>hall i x (by have:=(df.1 e).1;omega) e);go_wp2;go_ret;exact⟨by rw[HN.o];rfl,cA⟩
def ae9(v:aw)(xs:List Int)(p:Int->Bool)(g:Nat)(lb:Array aw)(w:ak)(hv:bw bT 1 w v xs)(hn:xs.length<=1000000)(eg:∀args w,(callFunc g args).run prog w=.ok (.enter g args) w)
  (hp:∀W,Below w.heap.size w W->∀x,x∈xs->Calls prog g (#[ae af x]++lb) W λe W'=>e=ax (aL (p x))/\Below W.heap.size W W'):Calls prog 197 #[v,.func (.func g) #[] lb] w λe w'=>e=ax (aL (xs.any p))/\Below w.heap.size w w':=by
 have H:=ae8 v xs p g lb w hv hn eg hp;rw[<- B8];obtain⟨sa,cap,rfl,-⟩:=hv;go_enter func197,ntmps197
 go_wp2_with fail
 refine H.mono ?_;rintro e w' ⟨rfl,hb⟩;go_wp2;go_ret;exact⟨rfl,hb⟩
def ae_(v:aw)(xs:List (Int×Int))(p:(Int×Int)->Bool)(g:Nat)(lb:Array aw)(w:ak)(hv:bw kI 2 w v xs)(hn:xs.length<=1000000)(eg:∀args w,(callFunc g args).run prog w=.ok (.enter g args) w)
  (hp:∀W,Below w.heap.size w W->∀x,x∈xs->Calls prog g (#[bK #[ae af x.1,ae af x.2]]++lb) W λe W'=>e=ax (aL (p x))/\Below W.heap.size W W'):Calls prog 200 #[v,.func (.func g) #[] lb] w λe w'=>e=ax (ae af (oY p xs))/\Below w.heap.size w w':=by
 obtain⟨sa,cap,rfl,-,(hcell:U _)⟩:=hv;change U _ at hp hn
 go_enter func200,ntmps200
 go_wp2_with fail
 go_loopw [5,8] (λ_ i wr=>∃k:Nat,k<=xs.length/\i=ae af k/\Below w.heap.size w wr/\U (∀(i:Nat) (y:(Int×Int)),i<k->xs[i]?=J y->p y=false)) (λ_ i _=>xs.length-(intOf i).toNat)
 case atStart=>exact⟨0,bA _,rfl,aF _ _,λi b hi=>absurd hi (oo _)⟩
 case round=>
  obtain⟨k,hk,rfl,cA,hall⟩:=hrel
  by_cases hlt:k<xs.length
  ·obtain⟨x,hx⟩:∃x,xs[k]?=J x:=⟨_,bq hlt⟩;obtain⟨b,o,rfl,hc0⟩:=hcell (λe=>by subst e;simp at hx);have hc:=λi x h j u hu=>aJ cA (hc0 i x h j u hu)
   have c0:=hc k x hx 0 _ rfl;have c1:=hc k x hx 1 _ rfl;simp only[kH]at c0;have hm:=hp _ cA x (bP hx);have k1:(k:Int)<(xs.length:Int):=by omega
   have k0:k<1000000:=by have:=hn.o;omega
   change U _ at cA
   clear hc0 hc hcell hp;change U _ at hx
   cases ey:p x with
   |true=>
    rw[ey]at hm;change U _ at hm ey
    go_wp2_with fail
    refine aO hm.o ?_;rintro e W' ⟨rfl,hb'⟩;go_wp2;go_ret;exact⟨by rw[BZ p xs k x hall.o hx.o ey.o];rfl,cA.trans (hb'.mono cA.size)⟩
   |false=>
    rw[ey]at hm;change U _ at hm ey
    go_wp2_with fail
    refine aO hm.o ?_;rintro e W' ⟨rfl,hb'⟩;have HW:U _:=cA.trans (hb'.mono cA.size);go_wp2;go_roundw
    case rel=>
     refine⟨k+1,by omega,by go_num,HW,λi y hi e=>?_⟩
     by_cases hik:i=k
     ·subst hik;have h2:=hx.o;rw[h2]at e
      cases e
      exact ey
     exact hall i y (by omega) e
    case measure=>simp[intOf];omega
  have k1:¬(k:Int)<(xs.length:Int):=by omega
  have HN:U _:=BX p xs (λi x e=>hall i x (by have:=(df.1 e).1;omega) e);go_wp2;go_ret;exact⟨by rw[HN.o];rfl,cA⟩
def ae'(v:aw)(xs:List (Int×Int))(p:(Int×Int)->Bool)(g:Nat)(lb:Array aw)(w:ak)(hv:bw kI 2 w v xs)(hn:xs.length<=1000000)(eg:∀args w,(callFunc g args).run prog w=.ok (.enter g args) w)
  (hp:∀W,Below w.heap.size w W->∀x,x∈xs->Calls prog g (#[bK #[ae af x.1,ae af x.2]]++lb) W λe W'=>e=ax (aL (p x))/\Below W.heap.size W W'):Calls prog 158 #[v,.func (.func g) #[] lb] w λe w'=>e=ax (aL (xs.any p))/\Below w.heap.size w w':=by
 have H:=ae_ v xs p g lb w hv hn eg hp;rw[<- B8];obtain⟨sa,cap,rfl,-⟩:=hv;go_enter func158,ntmps158
 go_wp2_with fail
 refine H.mono ?_;rintro e w' ⟨rfl,hb⟩;go_wp2;go_ret;exact⟨rfl,hb⟩
def afa(v:aw)(xs:List eT)(p:eT->Bool)(g:Nat)(lb:Array aw)(w:ak)(hv:bw lF 4 w v xs)(hn:xs.length<=1000000)(eg:∀args w,(callFunc g args).run prog w=.ok (.enter g args) w)
  (hp:∀W,Below w.heap.size w W->∀x,x∈xs->Calls prog g (#[bK #[ae af x.fr,ae af x.to,ae af x.mn,ae af x.mx]]++lb) W λe W'=>e=ax (aL (p x))/\Below W.heap.size W W'):Calls prog 199 #[v,.func (.func g) #[] lb] w λe w'=>e=ax (ae af (oY p xs))/\Below w.heap.size w w':=by
 obtain⟨sa,cap,rfl,-,(hcell:U _)⟩:=hv;change U _ at hp hn
 go_enter func199,ntmps199
 go_wp2_with fail
 go_loopw [5,8] (λ_ i wr=>∃k:Nat,k<=xs.length/\i=ae af k/\Below w.heap.size w wr/\U (∀(i:Nat) (y:eT),i<k->xs[i]?=J y->p y=false)) (λ_ i _=>xs.length-(intOf i).toNat)
 case atStart=>exact⟨0,bA _,rfl,aF _ _,λi b hi=>absurd hi (oo _)⟩
 case round=>
  obtain⟨k,hk,rfl,cA,hall⟩:=hrel
  by_cases hlt:k<xs.length
  ·obtain⟨x,hx⟩:∃x,xs[k]?=J x:=⟨_,bq hlt⟩;obtain⟨b,o,rfl,hc0⟩:=hcell (λe=>by subst e;simp at hx);have hc:=λi x h j u hu=>aJ cA (hc0 i x h j u hu)
   have c0:=hc k x hx 0 _ rfl;have c1:=hc k x hx 1 _ rfl;have c2:=hc k x hx 2 _ rfl;have c3:=hc k x hx 3 _ rfl;simp only[kH]at c0;have hm:=hp _ cA x (bP hx);have k1:(k:Int)<(xs.length:Int):=by omega
   have k0:k<1000000:=by have:=hn.o;omega
   change U _ at cA
   clear hc0 hc hcell hp;change U _ at hx
   cases ey:p x with
   |true=>
    rw[ey]at hm;change U _ at hm ey
    go_wp2_with fail
    refine aO hm.o ?_;rintro e W' ⟨rfl,hb'⟩;go_wp2;go_ret;exact⟨by rw[BZ p xs k x hall.o hx.o ey.o];rfl,cA.trans (hb'.mono cA.size)⟩
   |false=>
    rw[ey]at hm;change U _ at hm ey
    go_wp2_with fail
    refine aO hm.o ?_;rintro e W' ⟨rfl,hb'⟩;have HW:U _:=cA.trans (hb'.mono cA.size);go_wp2;go_roundw
    case rel=>
     refine⟨k+1,by omega,by go_num,HW,λi y hi e=>?_⟩
     by_cases hik:i=k
     ·subst hik;have h2:=hx.o;rw[h2]at e
      cases e
      exact ey
     exact hall i y (by omega) e
    case measure=>simp[intOf];omega
  have k1:¬(k:Int)<(xs.length:Int):=by omega
  have HN:U _:=BX p xs (λi x e=>hall i x (by have:=(df.1 e).1;omega) e);go_wp2;go_ret;exact⟨by rw[HN.o];rfl,cA⟩
def SY(v:aw)(xs:List eT)(p:eT->Bool)(g:Nat)(lb:Array aw)(w:ak)(hv:bw lF 4 w v xs)(hn:xs.length<=1000000)(eg:∀args w,(callFunc g args).run prog w=.ok (.enter g args) w)
  (hp:∀W,Below w.heap.size w W->∀x,x∈xs->Calls prog g (#[bK #[ae af x.fr,ae af x.to,ae af x.mn,ae af x.mx]]++lb) W λe W'=>e=ax (aL (p x))/\Below W.heap.size W W'):Calls prog 155 #[v,.func (.func g) #[] lb] w λe w'=>e=ax (aL (xs.any p))/\Below w.heap.size w w':=by
 have H:=afa v xs p g lb w hv hn eg hp;rw[<- B8];obtain⟨sa,cap,rfl,-⟩:=hv;go_enter func155,ntmps155
 go_wp2_with fail
 refine H.mono ?_;rintro e w' ⟨rfl,hb⟩;go_wp2;go_ret;exact⟨rfl,hb⟩
def afb(x:Int)(B:Nat)(pa:Option aC)(pn pc:Nat)(w:ak)(hc:w.cell? (ai B 2 I)=J (aj pa pn pc)):Calls prog 198 #[ae af x,aq (J (ai B 0 I))] w λe w'=>e=ax (aL (lacks pn x))/\Below w.heap.size w w':=by
 by_cases h1:x<0
 ·go_enter func198,ntmps198
  go_wp2;go_ret;exact⟨by simp[lacks,h1],aF _ _⟩
 go_enter func198,ntmps198
 go_wp2;go_ret;exact⟨by simp[lacks];omega,aF _ _⟩
def Ey(nm:ByteArray)(bh cnt mn mx:Int)(pa ga ea fa la:Option aC)(pn pc gn gc en ec fn fc ln lc:Nat)(v:aw)(xs:List Int)(w:ak)(hv:bw bT 1 w v xs)(hn:xs.length<=1000000):Calls prog 153 #[.agg (nR nm bh pa pn pc cnt mn mx ga gn gc ea en ec fa fn fc la ln lc),v] w λe w'=>e=ax (aL (xs.any (lacks pn)))/\Below w.heap.size w w':=by
 unfold nR;have H:=ae9 v xs _ 198 #[aq _] _ (hv.below (aS w (ay (nR nm bh pa pn pc cnt mn mx ga gn gc ea en ec fa fn fc la ln lc) 58))) hn
  (enters_of func198 (by kernel_rfl) rfl) (λW hb x _=>afb x w.heap.size pa pn pc W (aJ hb (by simp)))
 change U _ at H
 obtain⟨sa,cap,rfl,-⟩:=hv;go_enter func153,ntmps153
 go_wp2_with fail
 refine aO H.o ?_;rintro e w' ⟨rfl,hb⟩;go_wp2;go_ret;exact⟨rfl,(aS _ _).trans (hb.mono (by simp))⟩
def afc(x:Int)(w:ak):Calls prog 276 #[ae af x] w λe w'=>e=ax (aL false)/\w'=w:=by
 go_enter func276,ntmps276
 go_wp2;go_ret;exact⟨rfl,rfl⟩
def B9(x y:Int)(w:ak):Calls prog 243 #[ae af x,ae af y] w λe w'=>e=ax (aL (decide (x<y)))/\w'=w:=by
 go_enter func243,ntmps243
 go_wp2_with fail
 apply(afc x _).mono;rintro e w' ⟨rfl,rfl⟩;go_wp2;go_ret;exact⟨rfl,rfl⟩
def afd(a b c d:Int)(B cap:Nat)(w:ak)(c0:w.cell? (ai B 0 I)=J (ae af a))(c1:w.cell? (ai B 1 I)=J (ae af b))(c2:w.cell? (ai B 2 I)=J (ae af c))(c3:w.cell? (ai B 3 I)=J (ae af d)):Calls prog 201 #[aj (J (ai B 0 I)) 4 cap] w λe w'=>e=ax (aL (iq a b c d))/\Below w.heap.size w w':=by
 go_enter func201,ntmps201
 go_wp2_with fail
 go_loopw [2,3] (λr i wr=>r=aL false/\Below w.heap.size w wr/\(i=ae af 3\/(i=ae af 2/\c<=d)\/(i=ae af 1/\b<=c/\c<=d)\/(i=ae af 0/\a<=b/\b<=c/\c<=d))) (λ_ i _=>(intOf i).toNat)
 case atStart=>exact⟨rfl,aF _ _,aT rfl⟩
 case round=>
  obtain⟨rfl,hb,hrel⟩:=hrel;have c0:=aJ hb c0;have c1:=aJ hb c1;have c2:=aJ hb c2;have c3:=aJ hb c3;change U _ at hb
  rcases hrel with rfl|⟨rfl,h1⟩|⟨rfl,h1⟩|⟨rfl,h1⟩
  ·have k0:IntKind.i64.wrap 2=2:=by decide
   by_cases hx:d<c
   ·have hd:=bD hx;go_wp2_with fail
    go_quiet (first|(go_at_call 243;exact xM (B9 _ _ _)))
    go_wp2;go_ret;exact⟨by simp[iq];omega,br hb _⟩
   have hd:=bV hx;go_wp2_with fail
   go_quiet (first|(go_at_call 243;exact xM (B9 _ _ _)))
   go_wp2;go_roundw
   case rel=>exact⟨rfl,br hb _,aN (aT ⟨by go_num,by omega⟩)⟩
   case measure=>simp[intOf]
  ·have k0:IntKind.i64.wrap 1=1:=by decide
   by_cases hx:c<b
   ·have hd:=bD hx;go_wp2_with fail
    go_quiet (first|(go_at_call 243;exact xM (B9 _ _ _)))
    go_wp2;go_ret;exact⟨by simp[iq];omega,br hb _⟩
   have hd:=bV hx;go_wp2_with fail
   go_quiet (first|(go_at_call 243;exact xM (B9 _ _ _)))
   go_wp2;go_roundw
   case rel=>exact⟨rfl,br hb _,aN (aN (aT ⟨by go_num,by omega,by omega⟩))⟩
   case measure=>simp[intOf]
  ·have k0:IntKind.i64.wrap 0=0:=by decide
   by_cases hx:b<a
   ·have hd:=bD hx;go_wp2_with fail
    go_quiet (first|(go_at_call 243;exact xM (B9 _ _ _)))
    go_wp2;go_ret;exact⟨by simp[iq];omega,br hb _⟩
   have hd:=bV hx;go_wp2_with fail
   go_quiet (first|(go_at_call 243;exact xM (B9 _ _ _)))
   go_wp2;go_roundw
   case rel=>exact⟨rfl,br hb _,aN (aN (aN ⟨by go_num,by omega,by omega,by omega⟩))⟩
   case measure=>simp[intOf]
  go_wp2;go_ret;exact⟨by simp[iq];omega,hb⟩
def SZ(a b c d:Int)(B cap:Nat)(w:ak)(c0:w.cell? (ai B 0 I)=J (ae af a))(c1:w.cell? (ai B 1 I)=J (ae af b))(c2:w.cell? (ai B 2 I)=J (ae af c))(c3:w.cell? (ai B 3 I)=J (ae af d)):Calls prog 164 #[aj (J (ai B 0 I)) 4 cap] w λe w'=>e=ax (aL (iq a b c d))/\Below w.heap.size w w':=by
 have H:=afd a b c d B cap w c0 c1 c2 c3;go_enter func164,ntmps164
 go_wp2_with fail
 refine H.mono ?_;rintro e w' ⟨rfl,hb⟩;go_wp2;go_ret;exact⟨rfl,hb⟩
def bw.take{α:Type}{enc:α->List aw}{k:Nat}{xs:List α}(h:bw enc k w (aj sa n cap) xs)(i:Nat)(hi:i<=xs.length)(cap':Nat)(hc:i<=cap'):bw enc k w (aj sa i cap') (xs.take i):=by
 obtain⟨bQ,c',e,-,h2⟩:=h
 cases e
 have hl:(xs.take i).length=i:=by simp;omega
 refine⟨sa,_,by rw[hl],by omega,λhne=>?_⟩;obtain⟨b,o,h3,h4⟩:=h2 (λe=>hne (by simp[e]))
 refine⟨b,o,h3,λj x hx=>h4 j x ?_⟩;rw[np]at hx
 split at hx
 ·exact hx
 cases hx
def S0{α:Type} [DecidableEq α] (xs:List α)(k:Nat)(x:α)(hx:xs[k]?=J x)(h:(xs.take k).any (λy=>decide (x=y))=true):twice xs=true:=by
 unfold twice;rw[kD];exact⟨k,by simp;exact(df.1 hx).1,by rw[hx];exact h⟩
def S2{α:Type} [DecidableEq α] (xs:List α)(h:∀(k:Nat) (x:α),xs[k]?=J x->(xs.take k).any (λy=>decide (x=y))=false):twice xs=false:=by
 unfold twice;rw[jY];intro k hk;simp only[pq]at hk;have:=h k _ (bq hk);rw[bq hk];simp only[this];simp
def afe(v:aw)(xs:List Int)(z:Int)(w:ak)(hv:bw bT 1 w v xs)(hn:xs.length<=1000000):Calls prog 245 #[v,ae af z] w λe w'=>e=ax (ae af (oY (λy=>decide (z=y)) xs))/\Below w.heap.size w w':=by
 obtain⟨sa,cap,rfl,-,(hcell:U _)⟩:=hv;change U _ at hn
 go_enter func245,ntmps245
 go_wp2_with fail
 go_loopw [5,8] (λ_ i wr=>∃k:Nat,k<=xs.length/\i=ae af k/\Below w.heap.size w wr/\U (∀(i:Nat) (y:Int),i<k->xs[i]?=J y->(λy=>decide (z=y)) y=false)) (λ_ i _=>xs.length-(intOf i).toNat)
 case atStart=>exact⟨0,bA _,rfl,aF _ _,λi b hi=>absurd hi (oo _)⟩
 case round=>
  obtain⟨k,hk,rfl,cA,hall⟩:=hrel
  by_cases hlt:k<xs.length
  ·obtain⟨x,hx⟩:∃x,xs[k]?=J x:=⟨_,bq hlt⟩;obtain⟨b,o,rfl,hc0⟩:=hcell (λe=>by subst e;simp at hx);have hc:=λi x h j u hu=>aJ cA (hc0 i x h j u hu)
   have c0:=hc k x hx 0 _ rfl;simp only[qT,kH]at c0;change U _ at hx
   have k1:(k:Int)<(xs.length:Int):=by omega
   have k0:k<1000000:=by have:=hn.o;omega
   change U _ at cA
   clear hc0 hc hcell
   by_cases ey:z=x
   ·have oN:U ((λy=>decide _) x=true):=bD ey;have e1:(z==x)=true:=by simp[ey]
    clear ey;go_wp2
    go_ret;exact⟨by rw[BZ _ xs k x hall.o hx.o oN.o];rfl,cA⟩
   have oN:U ((λy=>decide _) x=false):=bV ey;have e1:(z==x)=false:=by simpa using ey
   clear ey;go_wp2
   go_roundw
   case rel=>
    refine⟨k+1,by omega,by go_num,cA,λi y hi e=>?_⟩
    by_cases hik:i=k
    ·subst hik;have h2:=hx.o;rw[h2]at e
     cases e
     exact oN
    exact hall i y (by omega) e
   case measure=>simp[intOf];omega
  have k1:¬(k:Int)<(xs.length:Int):=by omega
  have HN:U _:=BX _ xs (λi x e=>hall i x (by have:=(df.1 e).1;omega) e);clear hcell;go_wp2;go_ret;exact⟨by rw[HN.o];rfl,cA⟩
def aff(v:aw)(xs:List Int)(z:Int)(w:ak)(hv:bw bT 1 w v xs)(hn:xs.length<=1000000):Calls prog 203 #[v,ae af z] w λe w'=>e=ax (aL (xs.any (λy=>decide (z=y))))/\Below w.heap.size w w':=by
 have H:=afe v xs z w hv hn;rw[<- B8];obtain⟨sa,cap,rfl,-⟩:=hv;go_enter func203,ntmps203
 go_wp2_with fail
 refine H.mono ?_;rintro e w' ⟨rfl,hb⟩;go_wp2;go_ret;exact⟨rfl,hb⟩
def afg(v:aw)(xs:List (Int×Int))(z:(Int×Int))(w:ak)(hv:bw kI 2 w v xs)(hn:xs.length<=1000000):Calls prog 244 #[v,bK #[ae af z.1,ae af z.2]] w λe w'=>e=ax (ae af (oY (λy=>decide (z=y)) xs))/\Below w.heap.size w w':=by
 obtain⟨sa,cap,rfl,-,(hcell:U _)⟩:=hv;change U _ at hn
 have hg:=DV;have heq:=Bp;go_enter func244,ntmps244
 go_wp2_with fail
 have HS:U (∀W,Below (w.heap.size+1) (w.alloc (ay #[ae af z.1,ae af z.2] 74)) W->Below w.heap.size w W/\w.heap.size+1<=W.heap.size/\W.cell? (ai w.heap.size 0 I)=J (ae af z.1)/\W.cell? (ai w.heap.size 1 I)=J (ae af z.2)):=λW hb=>by
  have hc:∀j v,(w.alloc _).cell? _=J v->W.cell? _=J v:=λj v e=>(hb.cell (p:=⟨w.heap.size,j,I⟩) (tJ _)).trans e
  exact⟨((aF _ _).alloc (aR _) _).trans (hb.mono (Nat.le_succ _)),by simpa using hb.size,hc 0 _ (by simp),hc 1 _ (by simp)⟩
 go_loopw [5,8] (λ_ i wr=>∃k:Nat,k<=xs.length/\i=ae af k/\Below (w.heap.size+1) (w.alloc (ay #[ae af z.1,ae af z.2] 74)) wr/\U (∀(i:Nat) (y:(Int×Int)),i<k->xs[i]?=J y->(λy=>decide (z=y)) y=false)) (λ_ i _=>xs.length-(intOf i).toNat)
 case atStart=>exact⟨0,bA _,rfl,aF _ _,λi b hi=>absurd hi (oo _)⟩
 case round=>
  obtain⟨k,hk,rfl,cA,hall⟩:=hrel;have Mr:=cA;obtain⟨cA,hsz,p0,p1⟩:=HS _ Mr;change U _ at Mr
  by_cases hlt:k<xs.length
  ·obtain⟨x,hx⟩:∃x,xs[k]?=J x:=⟨_,bq hlt⟩;obtain⟨b,o,rfl,hc0⟩:=hcell (λe=>by subst e;simp at hx);have hc:=λi x h j u hu=>aJ cA (hc0 i x h j u hu)
   have c0:=hc k x hx 0 _ rfl;have c1:=hc k x hx 1 _ rfl;simp only[kH]at c0;change U _ at hx
   have k1:(k:Int)<(xs.length:Int):=by omega
   have k0:k<1000000:=by have:=hn.o;omega
   change U _ at cA
   by_cases ey:z=x
   ·have oN:U ((λy=>decide _) x=true):=bD ey;have e1:(z.1==x.1)=true:=by simp[ey]
    have e2:(z.2==x.2)=true:=by simp[ey]
    go_wp2_with fail
    go_quiet (fail)
    go_wp2;go_ret;exact⟨by rw[BZ _ xs k x hall.o hx.o oN.o];rfl,br cA _⟩
   have oN:U ((λy=>decide _) x=false):=bV ey;have afh:(z.1==x.1)=false\/(z.1==x.1)=true/\(z.2==x.2)=false:=by
    by_cases h1:z.1=x.1
    ·right
     refine⟨by simpa using h1,?_⟩;simp only[gX];exact λh2=>ey (Prod.ext h1 h2)
    left;simpa using h1
   rcases afh with e1|⟨e1,e2⟩
   all_goals
    go_wp2_with fail
    go_quiet (fail)
    go_wp2;go_roundw
    case rel=>
     refine⟨k+1,by omega,by go_num,br Mr _,λi y hi e=>?_⟩
     by_cases hik:i=k
     ·subst hik;have h2:=hx.o;rw[h2]at e
      cases e
      exact oN
     exact hall i y (by omega) e
    case measure=>simp[intOf];omega
  have k1:¬(k:Int)<(xs.length:Int):=by omega
  have HN:U _:=BX _ xs (λi x e=>hall i x (by have:=(df.1 e).1;omega) e);go_wp2;go_ret;exact⟨by rw[HN.o];rfl,cA⟩
def afi(v:aw)(xs:List (Int×Int))(z:(Int×Int))(w:ak)(hv:bw kI 2 w v xs)(hn:xs.length<=1000000):Calls prog 202 #[v,bK #[ae af z.1,ae af z.2]] w λe w'=>e=ax (aL (xs.any (λy=>decide (z=y))))/\Below w.heap.size w w':=by
 have H:=afg v xs z _ (hv.below (aS w (ay #[ae af z.1,ae af z.2] 74))) hn;rw[<- B8];obtain⟨sa,cap,rfl,-⟩:=hv;go_enter func202,ntmps202
 go_wp2_with fail
 refine H.mono ?_;rintro e w' ⟨rfl,hb⟩;go_wp2;go_ret;exact⟨rfl,(aS _ _).trans (hb.mono (by simp))⟩
def uy(h:Below B w w'):Below B w w'.drew:=br h 1
def S5(v:aw)(xs:List Int)(w:ak)(hv:bw bT 1 w v xs)(hn:xs.length<=1000000):Calls prog 170 #[v] w λe w'=>e=ax (aL (twice xs))/\Below w.heap.size w w':=by
 have HV:U (bw _ 1 w v xs):=hv;obtain⟨sa,cap,rfl,(Ez:U _),(hcell:U _)⟩:=hv;change U _ at hn
 go_enter func170,ntmps170
 go_wp2_with fail
 go_loopw [3,4,7] (λ_ _ i wr=>∃k:Nat,k<=xs.length/\i=ae af k/\Below w.heap.size w wr/\U (∀(i:Nat) (y:Int),i<k->xs[i]?=J y->(xs.take i).any (λz=>decide (y=z))=false)) (λ_ _ i _=>xs.length-(intOf i).toNat)
 case atStart=>exact⟨0,bA _,rfl,aF _ _,λi b hi=>absurd hi (oo _)⟩
 case round=>
  obtain⟨k,hk,rfl,cA,hall⟩:=hrel
  by_cases hlt:k<xs.length
  ·obtain⟨x,hx⟩:∃x,xs[k]?=J x:=⟨_,bq hlt⟩;obtain⟨b,o,rfl,hc0⟩:=hcell (λe=>by subst e;simp at hx);have hc:=λi x h j u hu=>aJ cA (hc0 i x h j u hu)
   have c0:=hc k x hx 0 _ rfl;simp only[qT,kH]at c0;change U _ at hx
   have HT:U _:=λW hW=>
    aff _ _ x W (((HV.below cA).below hW).take k (by omega) cap (by have:=Ez.o;omega)) (by have:=hn.o;simp;omega)
   have k1:(k:Int)<(xs.length:Int):=by omega
   have k2:(0:Int)<=(k:Int):=by omega
   have k3:U _:=hn.o;have k0:k<1000000:=by have:=hn.o;omega
   change U _ at cA
   have mR:k<=cap:=by have:=Ez.o;omega
   cases ey:(xs.take k).any (λz=>decide (x=z))with
   |true=>
    have lG:=HT.o;rw[ey]at lG;change U _ at lG
    have oN:U _:=S0 xs k x hx ey;go_wp2_with fail
    refine aO (lG.o _ (aF _ _)) ?_;rintro e W' ⟨rfl,hb'⟩;go_wp2;go_ret;exact⟨by rw[oN.o];rfl,cA.trans (hb'.mono cA.size)⟩
   |false=>
    have lG:=HT.o;rw[ey]at lG;change U _ at lG ey
    go_wp2_with fail
    refine aO (lG.o _ (aF _ _)) ?_;rintro e W' ⟨rfl,hb'⟩;have HW:U _:=cA.trans (hb'.mono cA.size);go_wp2;go_roundw
    case rel=>
     refine⟨k+1,by omega,by go_num,HW,λi y hi e=>?_⟩
     by_cases hik:i=k
     ·subst hik;have h2:=hx.o;rw[h2]at e
      cases e
      exact ey
     exact hall i y (by omega) e
    case measure=>simp[intOf];omega
  have k1:¬(k:Int)<(xs.length:Int):=by omega
  have HN:U _:=S2 xs (λi x e=>hall i x (by have:=(df.1 e).1;omega) e);go_wp2;go_ret;exact⟨by rw[HN.o];rfl,cA⟩
def afj(v:aw)(xs:List (Int×Int))(w:ak)(hv:bw kI 2 w v xs)(hn:xs.length<=1000000):Calls prog 168 #[v] w λe w'=>e=ax (aL (twice xs))/\Below w.heap.size w w':=by
 have HV:U (bw _ 2 w v xs):=hv;obtain⟨sa,cap,rfl,(Ez:U _),(hcell:U _)⟩:=hv;change U _ at hn
 go_enter func168,ntmps168
 go_wp2_with fail
 go_loopw [3,4,7] (λ_ _ i wr=>∃k:Nat,k<=xs.length/\i=ae af k/\Below w.heap.size w wr/\U (∀(i:Nat) (y:(Int×Int)),i<k->xs[i]?=J y->(xs.take i).any (λz=>decide (y=z))=false)) (λ_ _ i _=>xs.length-(intOf i).toNat)
 case atStart=>exact⟨0,bA _,rfl,aF _ _,λi b hi=>absurd hi (oo _)⟩
 case round=>
  obtain⟨k,hk,rfl,cA,hall⟩:=hrel
  by_cases hlt:k<xs.length
  ·obtain⟨x,hx⟩:∃x,xs[k]?=J x:=⟨_,bq hlt⟩;obtain⟨b,o,rfl,hc0⟩:=hcell (λe=>by subst e;simp at hx);have hc:=λi x h j u hu=>aJ cA (hc0 i x h j u hu)
   have c0:=hc k x hx 0 _ rfl;have c1:=hc k x hx 1 _ rfl;simp only[kH]at c0;change U _ at hx
   have HT:U _:=λW hW=>
    afi _ _ x W (((HV.below cA).below hW).take k (by omega) cap (by have:=Ez.o;omega)) (by have:=hn.o;simp;omega)
   have k1:(k:Int)<(xs.length:Int):=by omega
   have k2:(0:Int)<=(k:Int):=by omega
   have k3:U _:=hn.o;have k0:k<1000000:=by have:=hn.o;omega
   change U _ at cA
   have mR:k<=cap:=by have:=Ez.o;omega
   cases ey:(xs.take k).any (λz=>decide (x=z))with
   |true=>
    have lG:=HT.o;rw[ey]at lG;change U _ at lG
    have oN:U _:=S0 xs k x hx ey;go_wp2_with fail
    have z0:(wr.alloc (ay #[ae af x.1,ae af x.2] 74)).drew.cell? (ai wr.heap.size 0 I)=J (ae af x.1):=by simp
    have z1:(wr.alloc (ay #[ae af x.1,ae af x.2] 74)).drew.cell? (ai wr.heap.size 1 I)=J (ae af x.2):=by simp
    go_region_held3 (λw'=>w'.cell? (ai wr.heap.size 0 I)=J (ae af x.1)/\w'.cell? (ai wr.heap.size 1 I)=J (ae af x.2)) (first|exact⟨z0,z1⟩|exact⟨y0,y1⟩) (first|(go_at_call 202;refine aO (lG.o _ (uy (aS _ _))) ?_;rintro e W' ⟨rfl,hb'⟩;have y0:=aJ hb' z0;have y1:=aJ hb' z1))
    go_wp2;go_ret;exact⟨by rw[oN.o];rfl,cA.trans (((uy (aS _ _)).mono cA.size).trans (hb'.mono (by simp;have:=cA.size;omega)))⟩
   |false=>
    have lG:=HT.o;rw[ey]at lG;change U _ at lG ey
    go_wp2_with fail
    have z0:(wr.alloc (ay #[ae af x.1,ae af x.2] 74)).drew.cell? (ai wr.heap.size 0 I)=J (ae af x.1):=by simp
    have z1:(wr.alloc (ay #[ae af x.1,ae af x.2] 74)).drew.cell? (ai wr.heap.size 1 I)=J (ae af x.2):=by simp
    go_region_held3 (λw'=>w'.cell? (ai wr.heap.size 0 I)=J (ae af x.1)/\w'.cell? (ai wr.heap.size 1 I)=J (ae af x.2)) (first|exact⟨z0,z1⟩|exact⟨y0,y1⟩) (first|(go_at_call 202;refine aO (lG.o _ (uy (aS _ _))) ?_;rintro e W' ⟨rfl,hb'⟩;have y0:=aJ hb' z0;have y1:=aJ hb' z1))
    have HW:U _:=cA.trans (((uy (aS _ _)).mono cA.size).trans (hb'.mono (by simp;have:=cA.size;omega)));go_wp2;go_roundw
    case rel=>
     refine⟨k+1,by omega,by go_num,HW,λi y hi e=>?_⟩
     by_cases hik:i=k
     ·subst hik;have h2:=hx.o;rw[h2]at e
      cases e
      exact ey
     exact hall i y (by omega) e
    case measure=>simp[intOf];omega
  have k1:¬(k:Int)<(xs.length:Int):=by omega
  have HN:U _:=S2 xs (λi x e=>hall i x (by have:=(df.1 e).1;omega) e);go_wp2;go_ret;exact⟨by rw[HN.o];rfl,cA⟩
def afk(nm:ByteArray)(bh cnt mn mx:Int)(pa ga ea fa la:Option aC)(pn pc gn gc en ec fn fc ln lc:Nat)  (w:ak):Calls prog 146 #[.agg (nR nm bh pa pn pc cnt mn mx ga gn gc ea en ec fa fn fc la ln lc)] w λe w'=>e=ax (aL (!within bh 0 20))/\Below w.heap.size w w':=by
 unfold nR;go_enter func146,ntmps146
 go_wp2_with fail
 apply(CY bh 0 20 _).mono;rintro e w' ⟨rfl,rfl⟩;go_wp2;go_ret;exact⟨rfl,aS _ _⟩
def afl(nm:ByteArray)(bh cnt mn mx:Int)(pa ga ea fa la:Option aC)(pn pc gn gc en ec fn fc ln lc:Nat)  (w:ak):Calls prog 147 #[.agg (nR nm bh pa pn pc cnt mn mx ga gn gc ea en ec fa fn fc la ln lc)] w λe w'=>e=ax (aL (decide (16<pn)))/\Below w.heap.size w w':=by
 unfold nR;have hd:decide (16<pn)=decide ((16:Int)<(pn:Int)):=pA.2 (by omega);rw[hd];go_enter func147,ntmps147
 go_wp2;go_ret;exact⟨rfl,aS _ _⟩
def afm(nm:ByteArray)(bh cnt mn mx:Int)(pa ga ea fa la:Option aC)(pn pc gn gc en ec fn fc ln lc:Nat)  (w:ak):Calls prog 148 #[.agg (nR nm bh pa pn pc cnt mn mx ga gn gc ea en ec fa fn fc la ln lc)] w λe w'=>e=ax (aL (decide (8<gn)))/\Below w.heap.size w w':=by
 unfold nR;have hd:decide (8<gn)=decide ((8:Int)<(gn:Int)):=pA.2 (by omega);rw[hd];go_enter func148,ntmps148
 go_wp2;go_ret;exact⟨rfl,aS _ _⟩
def afn(nm:ByteArray)(bh cnt mn mx:Int)(pa ga ea fa la:Option aC)(pn pc gn gc en ec fn fc ln lc:Nat)  (w:ak):Calls prog 149 #[.agg (nR nm bh pa pn pc cnt mn mx ga gn gc ea en ec fa fn fc la ln lc)] w λe w'=>e=ax (aL (decide (64<en)))/\Below w.heap.size w w':=by
 unfold nR;have hd:decide (64<en)=decide ((64:Int)<(en:Int)):=pA.2 (by omega);rw[hd];go_enter func149,ntmps149
 go_wp2;go_ret;exact⟨rfl,aS _ _⟩
def afo(nm:ByteArray)(bh cnt mn mx:Int)(pa ga ea fa la:Option aC)(pn pc gn gc en ec fn fc ln lc:Nat)  (w:ak):Calls prog 150 #[.agg (nR nm bh pa pn pc cnt mn mx ga gn gc ea en ec fa fn fc la ln lc)] w λe w'=>e=ax (aL (decide (16<fn)))/\Below w.heap.size w w':=by
 unfold nR;have hd:decide (16<fn)=decide ((16:Int)<(fn:Int)):=pA.2 (by omega);rw[hd];go_enter func150,ntmps150
 go_wp2;go_ret;exact⟨rfl,aS _ _⟩
def afp(nm:ByteArray)(bh cnt mn mx:Int)(pa ga ea fa la:Option aC)(pn pc gn gc en ec fn fc ln lc:Nat)  (w:ak):Calls prog 151 #[.agg (nR nm bh pa pn pc cnt mn mx ga gn gc ea en ec fa fn fc la ln lc)] w λe w'=>e=ax (aL (decide (16<ln)))/\Below w.heap.size w w':=by
 unfold nR;have hd:decide (16<ln)=decide ((16:Int)<(ln:Int)):=pA.2 (by omega);rw[hd];go_enter func151,ntmps151
 go_wp2;go_ret;exact⟨rfl,aS _ _⟩
def zN(A:Nat->aC):Array aw:=#[.iface 357 (aq (J (A 1))),.func (.func 146) #[] #[],.iface 357 (aq (J (A 1))),.func (.func 147) #[] #[],.iface 357 (aq (J (A 1))),.func (.func 148) #[] #[],.iface 357 (aq (J (A 1))),.func (.func 149) #[] #[],.iface 357 (aq (J (A 1))),.func (.func 150) #[] #[],.iface 357 (aq (J (A 1))),.func (.func 151) #[] #[]]
def S7(A:Nat->aC)(w:ak)(hs:l4 A w):Calls prog 104 #[] w λe w'=>e=ax (aj (J (ai w.heap.size 0 I)) 6 6)/\w'=w.alloc (ay (zN A) 203):=by
 have c1:=hs.c1;unfold zN;go_enter func104,ntmps104
 go_wp2;go_ret;exact⟨rfl,rfl⟩
def S_(i:Nat):Nat:=[146,147,148,149,150,151].getD i 0
def afq(A:Nat->aC)(e:aM)(pa ga ea fa la:Option aC)(pc gc ec fc lc:Nat)(r:Nat)(W:ak)(hr:W.heap[r]?=J (ay (zN A) 203 (0,0))):Ed A W r (.agg (nU e (aj pa e.au.length pc) (aj ga e.aV.length gc) (aj ea e.aP.length ec) (aj fa e.first.length fc) (aj la e.last.length lc))) [(!within e.bh 0 20,2),(decide (16<e.au.length),2),(decide (8<e.aV.length),2),(decide (64<e.aP.length),2),(decide (16<e.first.length),2),(decide (16<e.last.length),2)] S_:=by
 have hcell:∀j v,(zN A)[j]?=J v->W.cell? (ai r j I)=J v:=λj v e=>by simp[aH,hr,e]
 refine⟨λi b d e=>?_,λi b d e=>?_,λi b d e' V hV=>?_,by simp,λi b d e=>?_⟩
 ·match i,e with
  |0,e=>cases e;exact⟨hcell 0 _ rfl,hcell 1 _ rfl⟩
  |1,e=>cases e;exact⟨hcell 2 _ rfl,hcell 3 _ rfl⟩
  |2,e=>cases e;exact⟨hcell 4 _ rfl,hcell 5 _ rfl⟩
  |3,e=>cases e;exact⟨hcell 6 _ rfl,hcell 7 _ rfl⟩
  |4,e=>cases e;exact⟨hcell 8 _ rfl,hcell 9 _ rfl⟩
  |5,e=>cases e;exact⟨hcell 10 _ rfl,hcell 11 _ rfl⟩
  |i+6,e=>cases e
 ·match i,e with
  |0,_=>exact enters_of func146 (by kernel_rfl) rfl
  |1,_=>exact enters_of func147 (by kernel_rfl) rfl
  |2,_=>exact enters_of func148 (by kernel_rfl) rfl
  |3,_=>exact enters_of func149 (by kernel_rfl) rfl
  |4,_=>exact enters_of func150 (by kernel_rfl) rfl
  |5,_=>exact enters_of func151 (by kernel_rfl) rfl
  |i+6,e=>cases e
 ·match i,e' with
  |0,e'=>cases e';exact afk _ _ _ _ _ _ _ _ _ _ _ _ _ _ _ _ _ _ _ _ _
  |1,e'=>cases e';exact afl _ _ _ _ _ _ _ _ _ _ _ _ _ _ _ _ _ _ _ _ _
  |2,e'=>cases e';exact afm _ _ _ _ _ _ _ _ _ _ _ _ _ _ _ _ _ _ _ _ _
  |3,e'=>cases e';exact afn _ _ _ _ _ _ _ _ _ _ _ _ _ _ _ _ _ _ _ _ _
  |4,e'=>cases e';exact afo _ _ _ _ _ _ _ _ _ _ _ _ _ _ _ _ _ _ _ _ _
  |5,e'=>cases e';exact afp _ _ _ _ _ _ _ _ _ _ _ _ _ _ _ _ _ _ _ _ _
  |i+6,e'=>cases e'
 match i,e with
 |0,e=>cases e;decide
 |1,e=>cases e;decide
 |2,e=>cases e;decide
 |3,e=>cases e;decide
 |4,e=>cases e;decide
 |5,e=>cases e;decide
 |i+6,e=>cases e
end Go.Proofs.YtgjlihibabmgcaaGreatDoor
