/-
  Several texts as one: LyC, LyD, SdWork, CfRNum, CfRMap, CfRSet, CfRWord, CfRWordB, CfRKind, CfRFill, CfRFillB, CfRSt, CfRPart, CfRPart2, CfRCount, CfREnt, CfRPoint, CfRPoint2, CfRAny, CfRTake, CfSplit, CfRLine, CfRStep, CfRLines, CfTextGo, CfRRead, SdRead.
-/
import Derived.Test.YtjjodkjbmgnbeaaGreatDoorP03S
import Derived.Deep.AppendLies
import Derived.Deep.RegionLaw
import Derived.Lib.Split
import Derived.Laws.ResultCell
set_option linter.all false
set_option maxHeartbeats 40000000
set_option maxRecDepth 100000
abbrev d_:=@Go.World.ownsRow.kept
abbrev fj.{u,v}:=@List.flatMap_append.{u,v}
abbrev bt:=@Go.Proofs.YtjjodkjbmgnbeaaGreatDoor.Below.one
abbrev dT:=@Go.heap_alloc_new
abbrev iA:=@Go.ByteArray.toList_eq
abbrev gm:=@Go.wpList_store_row
abbrev lh:=@Go.RowKit.frozen?_alloc_cells
abbrev gp:=@Go.bodyPost_ret
abbrev p_.{u}:=@List.mem_singleton.{u}
abbrev qa:=@Go.step_append_lies
abbrev nM:=@Go.Value.int.inj
abbrev qb.{u,v}:=@List.length_map.{u,v}
abbrev yK:=@Nat.add_sub_cancel_left
abbrev ma:=@Go.info_parts
abbrev rX.{u}:=@beq_self_eq_true.{u}
abbrev o6.{u,v}:=@Prod.mk.inj.{u,v}
abbrev vo.{u}:=@List.mem_append.{u}
abbrev Ax.{u}:=@List.nil_append.{u}
open Go renaming Addr→av,Value→aj,World→ah
open Go.Addr renaming mk→ar
open Go.Ending renaming returned→aH
open Go.IntKind renaming i64→I
open Go.Obj renaming cells→ay
open Go.RowKit renaming Hid→ag
open Go.Value renaming agg→a_,bool→aJ,int→af,ownBlock→mC,pointer→ax,slice→ak,string→aB,tuple→aX
open Go.World renaming cell?→aL,frozen?→bE,setCell→cZ
open Option renaming none→J,some→U
open Go.Proofs.Tryz
namespace Go.Proofs.YtjjodkjbmgnbeaaGreatDoor
open Go.Conc
open Go.ConcN (WgLive)
open Go.ConcR (KK WgAt stA smA rd wr mk DC0)
variable{A:Nat->av}{B' L b cap cap' cl d f g g' i ib j k n rb wb wo:Nat}{S:Goroutine->ah->Prop}{T T':TypeId}{V w w':ah}{au ws:List ByteArray}{c:aV}{cells us xs:List aj}{cs:Array aj}{e e':aG}{es:List aG}{ev u:aj}{fr t:Nat×Nat}{l:Bs}{l1 l2 look:Bs->Option Nat}{ls:List Bs}{r:Option Nat}{s:ByteArray}{sa:Option av}{tg:List (Nat×Nat)}{vs:List Int}{y:Operand}
section
variable {P:Program}{main:Bool}{O Sh Gr:Nat->Prop}{Stop:(Nat->Prop)->Goroutine->ah->Prop}{n m d:Nat}{g g':Goroutine}{w w':ah}{es:Array Event}
def Gt.one(hr:g.status=.running)(h:∀w₁,Rl O Sh w w₁->∃g' w' es,stepG P main g w₁=.go g' w' es/\Ef main O Sh Gr w₁ w' es/\w'.heap.size=w₁.heap.size/\Gt P main Sh Gr Stop n (deafBehind d es) O g' w'):Gt P main Sh Gr Stop (n+1) d O g w:=
 .step hr λw₁ h₁=>let ⟨g',w',es,a,b,c,e⟩:=h w₁ h₁;⟨g',w',es,a,b,Gt.congr (Ck c) e⟩
end
section
variable {P:Program}{ty:TypeId}{Wg:Nat}{O Sh Gr:Nat->Prop}{Stop:(Nat->Prop)->Goroutine->ah->Prop}{g g0:Goroutine}{w:ah}{m n:Nat}
def Pr(hO:O Wg)(a b:ah)(h:Rl O Sh a b):fA ty Wg a b:=λx=>x.imp λ_ x=>x.imp λ_ x=>x.of_block (h.blk Wg (.inl hO))
def Ps{R:ah->ah->Prop}(hR:∀a b c,R a b->R b c->R a c){main:Bool}{D:ah->ah->Array Event->Prop}:∀{n:Nat} {g:Goroutine} {w:ah},Goes P main R D S n g w->Goes P main R D (λg w=>∀w₁,R w w₁->S g w₁) n g w
 |0,_,_,h=>λw₁ h₁ w₂ h₂=>h w₂ (hR _ _ _ h₁ h₂)
 |n+1,g,w,h=>by
  rcases h with h|⟨hs,h⟩
  ·exact .inl λw₁ h₁ w₂ h₂=>h w₂ (hR _ _ _ h₁ h₂)
  refine .inr ⟨hs,λw₁ h₁=>?_⟩;have h2:=h w₁ h₁
  cases hg:stepG P main g w₁ with
  |go g' w' es=>
   rw[hg,goes_go]at h2;rw[goes_go];exact⟨h2.1,Ps hR h2.2⟩
  |_=>rw[hg]at h2;exact h2.elim
def Gt.group(hO:O Wg)(h:Goes P true (fA ty Wg) DC0 S n g w)(hk:∀g w',Rl O Sh w w'->(∀w₁,Rl O Sh w' w₁->S g w₁)->Gt P true Sh Gr Stop m d O g w'):Gt P true Sh Gr Stop (n+m) d O g w:=
 Gt.quiet (Pr hO) (λ_ _ _ hd=>hd) (Ps fA.trans h) λg w' hr hS=>hk g w' hr λw₁ h₁=>hS w₁ (Pr hO _ _ h₁)
def Gt.says{M:Mark}(hO:O Wg)(hG:∀N,qL true O Sh Gr N N (mk M))(h:∀w',Rl O Sh w w'->CJ P ty Wg true M S g w')(hk:∀g w',Rl O Sh w w'->(∀w₁,Rl O Sh w' w₁->S g w₁)->Gt P true Sh Gr Stop m (deafBehind d #[mk M]) O g w'):Gt P true Sh Gr Stop (200+m+1) d O g w:=by
 refine .one (h w (.refl ..)).1 λw₁ h₁=>?_
 obtain⟨_,g',hst,hgo⟩:=h w₁ h₁
 refine⟨g',w₁,_,hst,⟨λ_ _ _=>rfl,aR _,rfl,rfl,rfl,λe he=>?_⟩,rfl,Gt.group hO hgo λg w' hr hS=>hk g w' (h₁.trans hr) hS⟩;have:e=mk M:=by simpa using he
 rw[this];exact hG _
def Gt.add{v:Nat}(hO:O Wg)(hG:Gr Wg)(hv:v<2147483647)(hw:WgAt ty Wg w (v*KK) 0)(H:∀w,WgLive ty Wg w->Goes P true (fA ty Wg) DC0 (CJ P ty Wg true .disable (Pq P ty Wg true g0)) 200 g w)
  (k:∀w',Rl (λb=>O b/\b≠Wg) (λb=>Sh b/\b≠Wg) w w'->WgAt ty Wg w' ((v+1:Int)*KK) 0->Gt P true Sh Gr Stop m 0 O g0 w'):Gt P true Sh Gr Stop (m+1004) 0 O g w:=by
 have at_:∀{a b:ah} {s:Int},Rl O Sh a b->WgAt ty Wg a s 0->WgAt ty Wg b s 0:=λhr h=>h.of_block (hr.blk Wg (.inl hO))
 have out:∀{a b:ah},Rl O Sh a b->Rl (λb=>O b/\b≠Wg) (λb=>Sh b/\b≠Wg) a b:=λhr=>⟨λb hb=>hr.blk b (hb.imp (·.1) (·.1)),hr.size⟩
 have en:∀N,qL true O Sh Gr N N (mk .enable):=λ_=>.inr (.inr (.inr (.inl (.inr ⟨rfl,.inr rfl⟩))))
 have last:∀(g:Goroutine) (w2:ah),(∀w',Rl O Sh w2 w'->Jv P ty Wg true g0 g w')->Rl (λb=>O b/\b≠Wg) (λb=>Sh b/\b≠Wg) w w2->WgAt ty Wg w2 ((v+1:Int)*KK) 0->Gt P true Sh Gr Stop (200+m+1) 1 O g w2:=by
  intro g w2 h hr hw2
  refine Gt.says hO en h λg3 w3 r3 h3=>?_
  have e:g3=g0:=h3 w3 (.refl ..);rw[e];exact k w3 (hr.trans (out r3)) (at_ r3 hw2)
 rw[show m+1004=200+(200+(200+(200+(200+m+1)+1)+1)+1) by omega]
 refine Gt.group hO (H w ⟨_,_,hw⟩) λg1 w1 r1 h1=>?_
 refine Gt.says hO (λ_=>.inr (.inr (.inr (.inl (.inr ⟨rfl,.inl rfl⟩))))) h1 λg2 w2 r2 h2=>?_
 refine .one (h2 w2 (.refl ..)).1 λw3 r3=>?_
 have hw3:=at_ (r1.trans (r2.trans r3)) hw;obtain⟨g4,hst,k0,k1⟩:=(h2 w3 r3).2 v hv hw3;have hlt:Wg<w3.heap.size:=(bD.1 hw3).1;have lG:=hw3.setSt (((v:Int)+1)*KK)
 refine⟨g4,_,_,hst,⟨λb _ hb=>(Kp.set (O:=O) (a:=stA Wg) (v:=.int .u64 ((v+1)*KK)) (w:=w3) hO).frame b hb,uX (size_set ..).symm,rfl,rfl,rfl,λe he=>?_⟩,size_set ..,?_⟩
 ·have:e=rd (stA Wg)\/e=wr (stA Wg):=by simpa using he
  rcases this with rfl|rfl
  ·exact .inr (.inr (.inr (.inr (.inl ⟨_,_,rfl,hG⟩))))
  exact .inr (.inr (.inr (.inr (.inl ⟨_,_,rfl,hG⟩))))
 have hout:Rl (λb=>O b/\b≠Wg) (λb=>Sh b/\b≠Wg) w (w3.setCell (stA Wg) (.int .u64 ((v+1)*KK))):=by
  refine(out (r1.trans (r2.trans r3))).trans ⟨λb hb=>?_,uX (size_set ..).symm⟩;have hne:b≠Wg:=hb.elim (·.2) (·.2);exact(Kp.set (O:=λb=>b=Wg) (a:=stA Wg) (v:=.int .u64 ((v+1)*KK)) (w:=w3) rfl).frame b hne
 have Zy:deafBehind (deafBehind 0 #[mk .disable]) #[rd (stA Wg),wr (stA Wg)]=1:=rfl;rw[Zy]
 rcases kG v with hv0|hvp
 ·refine Gt.le (show 200+(200+(200+m+1)+1)<=_ by omega) (Gt.group hO (k0 hv0) λg5 w5 r5 h5=>?_)
  refine Gt.says hO (λ_=>.inr (.inr (.inr (.inr (.inr ⟨_,.inl rfl,hG,rfl⟩))))) h5 λg6 w6 r6 h6=>?_
  exact last g6 w6 h6 (hout.trans (out (r5.trans r6))) (at_ (r5.trans r6) lG)
 refine Gt.le (show 200+(200+m+1)<=_ by omega) (Gt.group hO (k1 (by omega)) λg5 w5 r5 h5=>?_);exact last g5 w5 h5 (hout.trans (out r5)) (at_ r5 lG)
end
section
variable {P:Program}{main:Bool}{b:Frame}{a:Act}{kk:List Item}{cs:List Frame}{ops:Array Oper}{i:Nat}{rest:List Nat}{o:Oper}{w:ah}{c c2:Nat}{v z z2:aj}
def listed_nil(h:(execOp a.eval o).events P w #[]=#[]):listed P b.fn a o w=#[]:=Pn λe he=>by
 have:=mem_listed he;rw[h]at this;simp at this
def Zz{t el:TypeId}{d:ChanDir}{x:Operand}(ho:ops[i]?=U o)(hw:Region.wanted o (yielded ops a.tmps)=true)(hk:b.kind≠.early)(hop:o.op=.recv t x true)(ht:P.underlying t=U (.chan d el))(hx:a.eval x=.chan (U c))
  (hz:∃ti,P.info? el=U ti/\ti.zero=U z):stepG P main (G (b.at a (.inRegion ops (i::rest)::kk)) cs) w=.comm (G (b.at a (.inRegion ops (i::rest)::kk)) cs) #[rcase c z] true (.recv true) w #[]:=by
 obtain⟨ti,h1,h2⟩:=hz;rw[stepG_comm (cases:=#[rcase c z]) (blocking:=true) (shape:=.recv true) (w':=w) ho hw hk (by
  generalize a.eval=ρ at hx;unfold execOp;simp only[hop];simp[underlying,zeroValue,typeInfo,ht,h1,h2,hx,rcase,go_sem,Result.andThen])]
 congr 1
 refine listed_nil ?_;unfold execOp;simp only[hop];simp[underlying,zeroValue,typeInfo,ht,h1,h2,go_sem]
def ZA{x:Operand}(ho:ops[i]?=U o)(hw:Region.wanted o (yielded ops a.tmps)=true)(hk:b.kind≠.early)(hop:o.op=.send x y)(hx:a.eval x=.chan (U c))(hy:a.eval y=v):stepG P main (G (b.at a (.inRegion ops (i::rest)::kk)) cs) w=.comm (G (b.at a (.inRegion ops (i::rest)::kk)) cs) #[scase c v (aX #[])] true .send w #[]:=by
 rw[stepG_comm (cases:=#[scase c v (aX #[])]) (blocking:=true) (shape:=.send) (w':=w) ho hw hk (by simp[execOp,hop,hx,hy,scase])];congr 1
 refine listed_nil ?_;unfold execOp;simp only[hop];rfl
def ZB{s1 s2:SelectCase}{x1 x2:Operand}{c1:aj}(ho:ops[i]?=U o)(hw:Region.wanted o (yielded ops a.tmps)=true)(hk:b.kind≠.early)(hop:o.op=.select #[s1,s2] true)(e1:s1.chan=x1/\s1.send=U y)(e2:s2.chan=x2/\s2.send=J)(h1:a.eval x1=c1)(h2:a.eval x2=.chan (U c2))(hy:a.eval y=v)
  (hz:∃ti,P.info? s1.elem=U ti/\ti.zero=U z) (hz2:∃ti,P.info? s2.elem=U ti/\ti.zero=U z2):stepG P main (G (b.at a (.inRegion ops (i::rest)::kk)) cs) w=.comm (G (b.at a (.inRegion ops (i::rest)::kk)) cs) #[{ chan:=c1,send:=U v,zero:=z },rcase c2 z2] true .select w #[]:=by
 obtain⟨ti,a1,a2⟩:=hz;obtain⟨ag',b1,b2⟩:=hz2;rw[stepG_comm (cases:=#[{ chan:=c1,send:=U v,zero:=z },rcase c2 z2]) (blocking:=true) (shape:=.select) (w':=w) ho hw hk (by
  generalize a.eval=ρ at h1 h2 hy;unfold execOp;simp only[hop];simp[zeroValue,typeInfo,a1,a2,b1,b2,e1.1,e1.2,e2.1,e2.2,h1,h2,hy,rcase,go_sem,Result.andThen,BX])]
 congr 1
 refine listed_nil ?_;unfold execOp;simp only[hop];simp[zeroValue,typeInfo,a1,a2,b1,b2,go_sem,BX]
end
open Go Go.Conc.Lib Go.ConcX.Gen Go.RowKit
structure Sd where
 n:Nat
 mW:Nat
 Wg:Nat
 c1:Nat
 c2:Nat
 bn:Nat
 bd:Nat
 ba:Nat
 bl:Nat
 lv:aj
 A:Nat->av
 txt:Nat->ByteArray
 gs:Nat->Bool
 ts:Nat->Bool
 od:Nat->Prop
 w0:ah
def Sd.ptr(b:Nat):aj:=ax (U (ar b 0 J))
def Sd.ia(s:Sd):aj:=.func (.func 12) #[] #[Sd.ptr s.bl]
structure Sd.yL(s:Sd)(w:ah):Prop where
 bn:w.cell? (ar s.bn 0 J)=U (.chan (U s.c1))
 bd:w.cell? (ar s.bd 0 J)=U (.chan (U s.c2))
 ba:w.cell? (ar s.ba 0 J)=U s.ia
def Sd.Fg(s:Sd)(b:Nat):Prop:=b=s.bn\/b=s.bd\/b=s.ba\/s.od b
def Sd.yL.on{s:Sd}(h:s.yL w)(k:∀b,s.Fg b->w'.heap[b]?=w.heap[b]?):s.yL w':=
 ⟨(jc (k s.bn (.inl rfl))).trans h.bn,(jc (k s.bd (.inr (.inl rfl)))).trans h.bd,(jc (k s.ba (.inr (.inr (.inl rfl))))).trans h.ba⟩
def cW(f:Func):Code:=f.body.getD .skip
def lW(f:Func):Code:=match (cW f)with|.seq _ (.block _ (.loop c))=>c|_=>.skip
def CK(f:Func):Array Oper:=match (lW f)with|.seq (.region _ ops _) _=>ops|_=>#[]
def tW(f:Func):Code:=match (lW f)with|.seq _ c=>c|_=>.skip
def kW(f:Func):List Item:=[.inLoop (lW f),.inBlock 0]
def Fh(f:Func):Array Oper:=match f.body.getD .skip with|.seq _ (.region _ ops _)=>ops|_=>#[]
def bot(P:Program):Frame:={ (default:Frame)with fn:=P.funcs.size,defers:=[],mode:=.panicking [goexitEntry] }
def Sd.call(s:Sd):Deferred:={ target:=.fn (.func 22) #[Sd.ptr s.Wg,Sd.ptr s.bn,Sd.ptr s.bd,Sd.ptr s.ba],args:=#[] }
def Sd.lit(s:Sd)(f:Func):Frame:=(baseD 22).at ⟨#[Sd.ptr s.Wg,Sd.ptr s.bn,Sd.ptr s.bd,Sd.ptr s.ba,.chan (U s.c1),.chan (U s.c2),s.ia,undef],[dcall 23 #[Sd.ptr s.Wg]]⟩ [.inRegion (Fh f) [3]]
def Sd.Recv(s:Sd)(g:Goroutine):Prop:=∃x3 x4 x5 x6 x7 x8 iB dV cr bN cu cD cI cJ bP cK cS dc eh eH:aj,g=G ((base 24).at ⟨#[.chan (U s.c1),.chan (U s.c2),s.ia,x3,x4,x5,x6,x7,x8,.chan (U s.c1),iB,dV,cr,bN,cu,cD,cI,cJ,bP,cK,cS,dc,eh,eH],[]⟩ (.inRegion (CK f24) [0,1]::.code (tW f24)::(kW f24))) [(s.lit f22),(bot prog)]
def Sd.ZC(s:Sd)(w:ah):stepG prog false (born prog s.call) w =
  .go (G ((baseD 22).at ⟨#[Sd.ptr s.Wg,Sd.ptr s.bn,Sd.ptr s.bd,Sd.ptr s.ba,undef,undef,undef,undef],[]⟩ [.code (f22.body.getD .skip)]) [(bot prog)]) w #[]:=by
 simp[born,Sd.call,stepG,unwind,callDeferred,invoke,callFunc,func22,f22,seen,GStep.after,G,Frame.enter,Frame.at,baseD,bot]
def ZE:(f24.name == "runtime.NumGoroutine")=false:=by kernel_rfl
def Sd.ZF(s:Sd){Sh Gr:Nat->Prop}(hS:∀b,s.Fg b->Sh b)(w:ah)(hF:s.yL w):Gt prog false Sh Gr (λ_ g _=>s.Recv g) 200 0 (λ_=>False) (born prog s.call) w:=by
 have rl:∀{w w₁:ah},s.yL w->Rl (λ_=>False) Sh w w₁->s.yL w₁:=λh r=>h.on λb hb=>r.blk b (.inr (hS b hb))
 refine Gt.q (n:=30) (m:=170) (λ_ _ h=>h) ?_
 refine Goes.step rfl λw₁ r₁=>?_
 rw[s.ZC]
 refine⟨⟨rfl,rfl⟩,?_⟩;replace hF:=rl hF r₁
 clear r₁;simp only[f22,bC,Sd.ptr];u_c stepG_seq rl hF
 u_reg rl hF
 u_defer rl hF
 u_c stepG_region_end rl hF
 u_reg rl hF
 refine Goes.stop λw₁ h₁=>?_
 replace hF:=rl hF h₁
 clear h₁;have ld:∀{b:Nat} {v:aj} (w₁:ah),w₁.cell? (ar b 0 J)=U v->s.Fg b->CH (λ_=>False) Sh Gr w₁ ⟨.cell ⟨b,0,J⟩,false,false⟩:=λ{b} v w₁ _ hb=>CI (hS b hb)
 refine Gt.ld (n:=169) (v:=.chan (U s.c1)) rfl rfl (by k_ne) (λw₁ h₁=>?_) ?_
 ·have hc:=(rl hF h₁).bn
  constructor
  ·simp[execOp,go_sem,hc]
  simp[go_sem,execOp,hc]
  exact ld w₁ hc (.inl rfl)
 walk_nrm
 refine Gt.ld (n:=168) (v:=.chan (U s.c2)) rfl rfl (by k_ne) (λw₁ h₁=>?_) ?_
 ·have hc:=(rl hF h₁).bd
  constructor
  ·simp[execOp,go_sem,hc]
  simp[go_sem,execOp,hc]
  exact ld w₁ hc (.inr (.inl rfl))
 walk_nrm
 refine Gt.ld (n:=167) (v:=s.ia) rfl rfl (by k_ne) (λw₁ h₁=>?_) ?_
 ·have hc:=(rl hF h₁).ba
  constructor
  ·simp[execOp,go_sem,hc]
  simp[go_sem,execOp,hc]
  exact ld w₁ hc (.inr (.inr (.inl rfl)))
 walk_nrm
 refine Gt.q (n:=30) (m:=137) (λ_ _ h=>h) ?_;u_call func24 ZE f24 rl hF
 u_c stepG_seq rl hF
 u_reg rl hF
 u_op rl hF
 u_c stepG_region_end rl hF
 u_c stepG_block rl hF
 u_c stepG_loop rl hF
 u_c stepG_seq rl hF
 u_reg rl hF
 refine Goes.stop λw₁ h₁=>Gt.stop λw₂ h₂=>?_
 refine⟨undef,undef,undef,undef,undef,undef,undef,undef,undef,undef,undef,undef,undef,undef,undef,undef,undef,undef,undef,undef,?_⟩;simp only[Sd.lit,CK,tW,kW,lW,cW,Fh,f24,f22,bC,Sd.ptr]
def Jw{α:Type}{x:Option TypeInfo}{f:TypeInfo->Option α}{z:α}(h:x.bind f=U z):∃ti,x=U ti/\f ti=U z:=Ej.1 h
def Sd.qM(s:Sd)(g:Goroutine)(h:s.Recv g):g.status=.running/\∀w,stepG prog false g w=.comm g #[rcase s.c1 (af I 0)] true (.recv true) w #[]:=by
 obtain⟨x3,x4,x5,x6,x7,x8,iB,dV,cr,bN,cu,cD,cI,cJ,bP,cK,cS,dc,eh,eH,rfl⟩:=h;exact⟨rfl,λw=>Zz (t:=110) (d:=.recv) (el:=3) (x:=.tmp 9) rfl rfl (by k_ne) rfl (by kernel_rfl) rfl (Jw (by kernel_rfl))⟩
def Jx(f:Func):Array Oper:=match (tW f)with|.seq _ (.block _ (.seq _ (.seq _ (.region _ ops _))))=>ops|_=>#[]
def Sd.iL(s:Sd)(v:aj)(g:Goroutine):Prop:=∃x3 x4 x5 x6 x7 x8 iB dV cr bN cu cD cI cJ bP cS dc eh:aj,g=G ((base 24).at ⟨#[.chan (U s.c1),.chan (U s.c2),s.ia,x3,x4,x5,x6,x7,x8,.chan (U s.c1),iB,dV,cr,bN,cu,cD,cI,cJ,bP,.chan (U s.c2),cS,dc,eh,v],[]⟩ (.inRegion (Jx f24) [5]::.inBlock 1::(kW f24))) [(s.lit f22),(bot prog)]
def Sd.yu(s:Sd)(v:aj)(g:Goroutine)(h:s.iL v g):g.status=.running/\∀w,stepG prog false g w=.comm g #[scase s.c2 v (aX #[])] true .send w #[]:=by
 obtain⟨x3,x4,x5,x6,x7,x8,iB,dV,cr,bN,cu,cD,cI,cJ,bP,cS,dc,eh,rfl⟩:=h;exact⟨rfl,λw=>ZA (x:=.tmp 19) (y:=.tmp 23) rfl rfl (by k_ne) rfl rfl rfl⟩
def Sd.EN(s:Sd){O Sh Gr:Nat->Prop}(v:aj)(g:Goroutine)(w:ah)(h:s.iL v g):Gt prog false Sh Gr (λ_ g _=>s.Recv g) 30 0 O (Go.Conc.served g undef) w:=by
 obtain⟨x3,x4,x5,x6,x7,x8,iB,dV,cr,bN,cu,cD,cI,cJ,bP,cS,dc,eh,rfl⟩:=h;rw[served_G];have hF:True:=trivial;have rl:∀{w w₁:ah},True->Rl O Sh w w₁->True:=λ_ _=>trivial
 refine Gt.q (n:=20) (m:=10) (λ_ _ h=>h) ?_;simp only[Jx,tW,kW,lW,cW,f24,bC];walk_nrm
 u_c stepG_region_end rl hF
 u_c stepG_inBlock rl hF
 u_c stepG_inLoop rl hF
 u_c stepG_seq rl hF
 u_reg rl hF
 refine Goes.stop λw₁ h₁=>Gt.stop λw₂ h₂=>?_
 refine⟨x3,x4,x5,x6,x7,x8,iB,dV,cr,bN,cu,cD,cI,cJ,bP,.chan (U s.c2),cS,dc,eh,v,?_⟩;simp only[Sd.lit,CK,tW,kW,lW,cW,Fh,f24,f22,bC,Sd.ptr]
def ZG(T:Array aj):QuitsD prog 2 0 (G { (baseD 22).at ⟨T,[]⟩ []with mode:=.returning } [(bot prog)]):=by
 refine QuitsD.ctl (g':=G (bot prog) []) rfl (λw=>?_) ?_
 ·simp[G,stepG,unwind,doReturn,results,Frame.at,baseD,bot,func22,f22,seen,GStep.after,goexitEntry]
 refine QuitsD.ctl (g':={ G (bot prog) []with status:=.finished }) rfl (λw=>?_) ⟨rfl,rfl⟩;simp[G,stepG,unwind,bot,goexitEntry,Frame.catches]
 rfl
def Sd.shut(s:Sd)(g:Goroutine)(w:ah)(h:s.Recv g)(hF:Go.ConcN.WgLive lk.tWg s.Wg w):∃m,Goes prog false (fA lk.tWg s.Wg) Go.ConcR.DC0 (wR prog lk.tWg s.Wg) m (Go.Conc.served g (.tuple #[.int .i64 0,.bool false])) w:=by
 obtain⟨x3,x4,x5,x6,x7,x8,iB,dV,cr,bN,cu,cD,cI,cJ,bP,cK,cS,dc,eh,eH,rfl⟩:=h;rw[served_G]
 refine⟨300,?_⟩;simp only[CK,tW,kW,lW,cW,Fh,Sd.lit,f24,f22,bC,Sd.ptr];walk_nrm
 u_op bm hF
 u_c stepG_region_end bm hF
 u_c stepG_seq bm hF
 u_cond false bm hF
 u_exit bm hF
 u_c stepG_end bm hF
 u_leave0 func24 bm hF
 u_c stepG_region_end bm hF
 u_c stepG_end bm hF
 u_unwB bm hF func23 (nm_done lk) f23
 have hA:=@Yi lk s.Wg [(bot prog)] 2 prog Ff;simp only[Go.ConcR.Gen.body_done,doneFn,bC]at hA
 refine tD ?_ (hA (c:=_) rfl (ZG _) _ hF);omega
open Go.Extern Go.Extern.Stop Go.Stop
def Jy{b:UInt8}(h:gO b=true):48<=b.toNat/\b.toNat<=57:=by
 unfold gO at h;simp only[kS,decide_eq_true_eq]at h;exact h
def Jz{w:Bs}(h:k<w.length):j4 (w.take (k+1))=j4 (w.take k)*10+((w.getD k 0).toNat-48):=by
 rw[qE,bL h];simp only[Option.toList_some];rw[Tq,nu,bL h];rfl
def JA{w:Bs}:∀k,k<=w.length->(∀j,j<k->gO (w.getD j 0)=true)->j4 (w.take k)<10^k
 |0,_,_=>by simp[j4]
 |k+1,h,hd=>by
  rw[Jz (by omega)];have h1:=Jy (hd k (by omega));have h2:=JA k (by omega) (λj hj=>hd j (by omega));rw[Nat.pow_succ];omega
def Pt{w:Bs}(h:13<w.length):numOf w=J:=by unfold numOf;rw[aU (bk (cF h))]
def Pu{w:Bs}(h:1<w.length)(h0:w.getD 0 0=48):numOf w=J:=by
 have:w.head?=U 48:=by cases w with
  |nil=>simp at h
  |cons a t=>simp at h0;simp[h0]
 unfold numOf;rw[aU (bk (bk (cF ⟨h,this⟩)))]
def Pv{w:Bs}(hk:k<w.length)(h:gO (w.getD k 0)=false):numOf w=J:=by
 have:w.all gO=false:=by
  rw[List.all_eq_false]
  refine⟨w[k],List.getElem_mem hk,?_⟩;rw[nu,bL hk]at h;simpa using h
 unfold numOf;rw[aU (bk (bk (bk this)))]
def Pw{w:Bs}(h1:0<w.length)(h2:w.length<=13)(h3:¬(1<w.length/\w.getD 0 0=48))(h:∀j,j<w.length->gO (w.getD j 0)=true):numOf w=U (j4 w):=by
 have ha:w.all gO=true:=by
  rw[mB];intro b hb;obtain⟨j,hj,rfl⟩:=zL hb;have:=h j hj;rw[nu,bL hj]at this;exact this
 unfold numOf;rw[aF];rintro(h'|h'|⟨h',ES⟩|h')
 ·omega
 ·omega
 ·exact h3 ⟨h',by cases w with
   |nil=>simp at h'
   |cons a t=>simp at ES;simp[ES]⟩
 rw[ha]at h';cases h'
def jU(s:ByteArray):(bl s).length=s.size:=by unfold bl;rw[qD];rfl
def ZH(s:ByteArray)(w:ah)(h1:1<=s.size)(hs:s.size<=1000000):Calls prog 157 #[aB s] w λe w'=>e=aH (aX #[af I (((numOf (bl s)).getD 0:Nat):Int),aJ (numOf (bl s)).isSome])/\Below w.heap.size w w':=by
 by_cases rY:13<s.size
 ·have HN:ag _:=Pt (by rw[jU];exact rY);have g1:13<(s.size:Int):=by omega
  go_enter func157,ntmps157
  go_wp2;go_ret2
  rw[HN.o];exact⟨rfl,aC _ _⟩
 have g1:¬13<(s.size:Int):=by omega
 have k0:(0:Int)<(s.size:Int):=by omega
 have hb0:∀h:0<s.size,s[0]'h=(bl s)[0]?.getD 0:=λh=>by rw[byte_at s 0 h,nu];rfl
 have hgd:(bl s).getD 0 0=(bl s)[0]?.getD 0:=nu
 by_cases hz:1<s.size/\(bl s)[0]?.getD 0=48
 ·have HN:ag _:=Pu (by rw[jU];exact hz.1) (by rw[hgd];exact hz.2);have g2:1<(s.size:Int):=by omega
  have g3:(((bl s)[0]?.getD 0).toNat:Int)=48:=by rw[hz.2];rfl
  clear hz hgd;go_enter func157,ntmps157
  go_wp2;go_ret2
  rw[HN.o];exact⟨rfl,aC _ _⟩
 have HZ:ag (1<=s.size/\s.size<=13):=⟨h1,by omega⟩;have HE:ag (∀k,k<s.size->gO _=false->numOf _=J):=λk h2 h3=>Pv (by rw[jU];exact h2) h3
 have HY:ag ((∀j,j<s.size->gO _=true)->numOf _=U _):=λh=>Pw (by rw[jU];exact h1) (by rw[jU];omega) (by rw[jU,hgd];exact hz) (by rw[jU];exact h)
 have HV:ag (∀k,k<s.size->(∀j,j<k->gO _=true)->j4 ((bl s).take k)<1000000000000/\j4 _=j4 _*10+(((bl s).getD k 0).toNat-48)):=λk hk hd=>⟨dK (JA k (by rw[jU];omega) hd) (Nat.pow_le_pow_right (aD rfl) (show k<=12 by omega)),Jz (by rw[jU];exact hk)⟩
 have hq:((((bl s)[0]?.getD 0).toNat:Int)=48/\¬1<(s.size:Int))\/¬(((bl s)[0]?.getD 0).toNat:Int)=48:=by
  by_cases q:(((bl s)[0]?.getD 0).toNat:Int)=48
  ·refine cF ⟨q,λh=>hz ⟨by omega,?_⟩⟩;apply UInt8.toNat_inj.1
   show _=48
   omega
  exact bk q
 obtain⟨cap,W,hcv,rE,hcell⟩:=Mh w s;have ZI:ag (∀j,j<s.size->W.cell? _=U (af .u8 (((bl s).getD j 0).toNat:Int))):=hcell;change ag _ at rE
 clear hcell hz hgd h1 hs rY
 rcases hq with⟨q1,q2⟩|q1
 all_goals
  go_enter func157,ntmps157
  go_wp2_with fail
  go_loopw [4,6,23] (λm _ i wr=>∃k:Nat,k<=s.size/\i=af I k/\m=af I (j4 ((bl s).take k):Nat)/\wr=W/\∀j,j<k->gO ((bl s).getD j 0)=true) (λ_ _ i _=>s.size-(intOf i).toNat)
  case atStart=>exact⟨0,cG _,rfl,rfl,rfl,λj hj=>absurd hj (im _)⟩
  case round=>
   obtain⟨k,hk,rfl,rfl,rfl,hall⟩:=hrel
   by_cases hlt:k<s.size
   ·have hc:=ZI k hlt;obtain⟨bK,(hv2:ag _)⟩:=HV k hlt hall;change ag _ at hall
    have CL:ag _:=HE k hlt;have k1:(k:Int)<(s.size:Int):=by omega
    have Hb:k<13:=by have:=HZ.2;omega
    clear hcv;generalize hcc:(bl s).getD k 0=c at hc hv2 CL;change ag _ at hcc
    generalize j4 ((bl s).take k)=m at bK hv2⊢
    by_cases hd:gO c=true
    ·have CM:=GZ c;rw[hd]at CM;have hb:=Jy hd;go_wp2_with fail
     apply(CM _).mono;rintro e w' ⟨rfl,rfl⟩;go_wp2;go_roundw
     case rel=>
      refine⟨k+1,by omega,by go_num,by rw[hv2.o];go_num,by first|trivial|rfl,λj hj=>?_⟩
      by_cases e:j=k
      ·rw[e,hcc.o];exact hd
      exact hall j (by omega)
     case measure=>simp[intOf];omega
    simp only[xI]at hd;have CM:=GZ c;rw[hd]at CM;go_wp2_with fail
    apply(CM _).mono;rintro e w' ⟨rfl,rfl⟩;go_wp2;go_ret2
    rw[CL.o hd];exact⟨rfl,rE⟩
   have k1:¬(k:Int)<(s.size:Int):=by omega
   obtain rfl:k=s.size:=by omega
   have HR:ag (numOf (bl s)=U (j4 ((bl s).take s.size))):=by
    show _=_
    rw[HY.o hall,<- jU,List.take_length]
   clear hall;go_wp2;go_ret2
   rw[HR.o];exact⟨rfl,rE⟩
open Go.Maps
def aM:kQ
 |[],_=>J
 |p::t,w=>match aM t w with
  |some i=>U (i+1)
  |none=>if bl p=w then U 0 else J
def Px:∀(t:List ByteArray) (p:ByteArray) (w:Bs),aM (t++[p]) w=if bl p=w then U t.length else aM t w
 |[],p,w=>by simp only[Ax,aM,sR]
 |q::t,p,w=>by
  rw[rp,aM,Px t p w]
  by_cases h:bl p=w
  ·rw[aU h,aU h];rfl
  rw[aF h,aF h];rfl
def Py:∀(au:List ByteArray) (w:Bs) (i:Nat),aM au w=U i->∃p,au[i]?=U p/\bl p=w
 |[],w,i,h=>by simp[aM]at h
 |p::t,w,i,h=>by
  rw[aM]at h
  cases hl:aM t w with
  |some j=>
   rw[hl]at h
   cases h
   obtain⟨q,h1,h2⟩:=Py t w j hl;exact⟨q,by simpa using h1,h2⟩
  |none=>
   rw[hl]at h;simp only at h
   split at h
   ·rename_i hp
    cases h
    exact⟨p,rfl,hp⟩
   cases h
def PC:∀(au:List ByteArray) (w:Bs),aM au w=J->∀p∈au,bl p≠w
 |[],w,_,p,hp=>by cases hp
 |q::t,w,h,p,hp=>by
  rw[aM]at h
  cases hl:aM t w with
  |some j=>rw[hl]at h;cases h
  |none=>
   rw[hl]at h;simp only at h
   split at h
   ·cases h
   rename_i hq
   rcases fu.1 hp with rfl|hp
   ·exact hq
   exact PC t w hl p hp
def ZJ:oF aM:=⟨Py,PC⟩
def vp(D:DataW Unit)(au:List ByteArray):Prop:=
 ∀s:ByteArray,Maps.has D (pM s)=(aM au (bl s)).isSome/\D.atKey (pM s) (.lit (.int .i64 0))=.lit (.int .i64 (((aM au (bl s)).getD 0:Nat):Int))
def ZK:vp (.map []) []:=λ_=>⟨rfl,rfl⟩
def ZL{D:DataW Unit}(h:vp D au)(hD:IsMap D)(p:ByteArray):vp (D.put (pM p) (.lit (.int .i64 (au.length:Int)))) (au++[p]):=by
 intro s;rw[Px]
 by_cases e:bl p=bl s
 ·have e':=oG e;subst e';rw[aU rfl];exact⟨Maps.has_put_same hD (by trivial) _,Maps.atKey_put_same hD (by trivial) _ _⟩
 rw[aF e];have hne:pM s≠pM p:=λh=>e (by unfold pM at h;exact(Lit.string.inj h).symm)
 rw[Maps.has_put_other hne,Maps.atKey_put_other hne];exact h s
def yM{o:Nat}{v:aj}(h:w.cell? (ar b o J)=U v):w.setCell (ar b o J) v=w:=by
 have hh:(w.setCell (ar b o J) v).heap=w.heap:=by
  apply BZ
  intro i;simp only[cZ,fR]
  split
  ·rename_i e;subst e;unfold aL at h
   cases hb:w.heap[b]? with
   |none=>rfl
   |some ob=>
    rw[hb]at h
    cases ob with
    |cells c t fr=>
     simp only[rM,gQ,uD,and_true];simp at h⊢
     apply BZ
     intro j;rw[Array.getElem?_setIfInBounds]
     split
     ·rename_i e;subst e
      split
      ·exact h.symm
      rename_i hx;rw[sO (by omega)]at h
      cases h
     rfl
    |_=>rfl
  rfl
 cases w
 simp only[cZ]at hh⊢;rw[hh]
def Below.JB{B:Nat}(h:Below B w w')(a:av)(v:aj):Below B (w.setCell a v) (w'.setCell a v):=by
 refine⟨h.os,h.tape,h.output,?_,λk hk=>?_⟩
 ·simpa[cZ]using h.size
 simp only[cZ,fR];rw[h.block k hk]
def qR{a p:av}(hne:a.block≠p.block\/a.off≠p.off)(hp:p.spot=J)(ha:a.spot=J):(w.setCell a u).cell? p=w.cell? p:=by
 obtain⟨ab,ao,as'⟩:=a;obtain⟨pb,po,ps⟩:=p;simp only at hne hp ha;subst hp ha;unfold aL;simp only[cZ,fR]
 by_cases e:ab=pb
 ·subst e;have ho:ao≠po:=by rcases hne with h|h;exact absurd rfl h;exact h
  simp only[kC]
  cases w.heap[ab]? with
  |none=>rfl
  |some ob=>
   cases ob with
   |cells c t fr=>
    simp only[rM];simp[ho]
   |_=>rfl
 rw[aF e]
def yN{o:Nat}{v:aj}(h:w.cell? (ar b o J)=U v):(w.setCell (ar b o J) u).cell? ⟨b,o,J⟩=U u:=by
 unfold aL at h⊢;simp only[cZ,fR];simp only[kC]
 cases hb:w.heap[b]? with
 |none=>rw[hb]at h;cases h
 |some ob=>
  rw[hb]at h
  cases ob with
  |cells c t fr=>
   simp only[rM]at h⊢;simp at h⊢
   have:=(bD.1 h).1;simp[this]
  |_=>cases h
def ZM(w:ah)(a p:av)(u:aj):(w.setCell a u).frozen? p=w.frozen? p:=by
 unfold bE;simp only[cZ,fR]
 by_cases e:a.block=p.block
 ·simp only[e,kC]
  cases w.heap[p.block]? with
  |none=>rfl
  |some ob=>cases ob<;>rfl
 simp only[e,j5]
def bZ:ah->List (Nat×Nat)->List aj->ah
 |w,a::as',u::us=>bZ (w.setCell ⟨a.1,a.2,J⟩ u) as' us
 |w,_,_=>w
def Ay(w:ah)(us:List aj):bZ w [] us=w:=by cases us<;>rfl
def Az(w:ah)(as':List (Nat×Nat)):bZ w as' []=w:=by cases as'<;>rfl
def JC:∀(w:ah) (as':List (Nat×Nat)) (us:List aj) (a:Nat×Nat) (u:aj),as'.length=us.length->bZ w (as'++[a]) (us++[u])=(bZ w as' us).setCell ⟨a.1,a.2,J⟩ u
 |w,[],[],a,u,_=>rfl
 |w,b::as',v::us,a,u,h=>by
  simp only[rp,bZ];exact JC _ as' us a u (by simpa using h)
def Fi:∀(w:ah) (as':List (Nat×Nat)) (us:List aj),(bZ w as' us).heap.size=w.heap.size
 |w,[],us=>by rw[Ay]
 |w,_::_,[]=>by rw[Az]
 |w,a::as',u::us=>by
  rw[bZ,Fi];simp[cZ]
def JD:∀(w:ah) (as':List (Nat×Nat)) (us:List aj) (p:av),(bZ w as' us).frozen? p=w.frozen? p
 |w,[],us,p=>by rw[Ay]
 |w,_::_,[],p=>by rw[Az]
 |w,a::as',u::us,p=>by rw[bZ,JD,ZM]
def yO:∀(w:ah) (as':List (Nat×Nat)) (us:List aj) (b o:Nat),(∀a∈as',a≠(b,o))->(bZ w as' us).cell? ⟨b,o,J⟩=w.cell? (ar b o J)
 |w,[],us,b,o,_=>by rw[Ay]
 |w,_::_,[],b,o,_=>by rw[Az]
 |w,a::as',u::us,b,o,h=>by
  rw[bZ,yO _ as' us b o (λx hx=>h x (v_ _ hx))]
  refine qR ?_ rfl rfl;have:=h a (xJ ..)
  by_cases e:a.1=b
  ·exact bk (λe2=>this (Prod.ext e e2))
  exact cF e
def PD:∀(w:ah) (as':List (Nat×Nat)) (us:List aj) (b:Nat),(∀a∈as',a.1≠b)->(bZ w as' us).heap[b]?=w.heap[b]?
 |w,[],us,b,_=>by rw[Ay]
 |w,_::_,[],b,_=>by rw[Az]
 |w,a::as',u::us,b,h=>by
  rw[bZ,PD _ as' us b (λx hx=>h x (v_ _ hx))];exact Below.heap_setCell _ _ _ _ (ey (h a (xJ ..)))
def yP:∀(B:Nat) (w:ah) (as':List (Nat×Nat)) (us:List aj),(∀a∈as',B<=a.1)->Below B w (bZ w as' us)
 |B,w,[],us,_=>by rw[Ay];exact aC _ _
 |B,w,_::_,[],_=>by rw[Az];exact aC _ _
 |B,w,a::as',u::us,h=>by
  rw[bZ];exact((aC B w).setCell (p:=⟨a.1,a.2,_⟩) (h a (xJ ..)) _).trans (yP B _ as' us (λx hx=>h x (v_ _ hx)))
def Fj:Nat->TypeId
 |0=>215
 |1=>192
 |_=>218
def Typed(f:Nat)(u:aj):Prop:=if f=0 then ∃s:ByteArray,u=aB s/\s.size<=1000000 else ∃z:Int,u=af I z
def valOf(f:Nat)(s:ByteArray)(v:Int):aj:=if f=0 then aB s else af I v
structure Fl(w:ah)(rb mb:Nat)(au:List ByteArray):Prop where
 c6:w.cell? (ar rb 6 J)=U (.map (U mb))
 own:∃D:DataW Unit,w.ownsMap prog 9 (plainElem prog 3) mb au.length D/\vp D au
def vq(A:Nat->av)(au:List ByteArray)(f:Nat)(s:ByteArray)(tb tk:Nat)(w:ah)(v:Ending)(w':ah):Prop:=
 v=aH (bF A (bg (aM au) f (bl s)).1)/\∃u,Typed f u/\((bg (aM au) f (bl s)).1=0->u=valOf f s (bg (aM au) f (bl s)).2)/\Below w.heap.size (w.setCell (ar tb tk J) u) w'
def JE{tb tk:Nat}{old:aj}{c:Nat}(ht:w.cell? (ar tb tk J)=U old)(hT:Typed f old)(hc:(bg (aM au) f (bl s)).1=c)(h0:c≠0)(hb:Below w.heap.size w w'):vq A au f s tb tk w (aH (bF A c)) w':=by
 refine⟨by rw[hc],old,hT,λe=>absurd (hc.symm.trans e) h0,?_⟩;rw[yM ht];exact hb
def ZN(x:aj)(w:ah):(Instr.typeAssert (.iface 215 x) 20 215 true).run prog w=.ok (aX #[x,aJ true]) w:=by kernel_rfl
def ZO(x:aj)(w:ah):(Instr.typeAssert (.iface 192 x) 20 215 true).run prog w=.ok (aX #[ax J,aJ false]) w:=by kernel_rfl
def ZP(x:aj)(w:ah):(Instr.typeAssert (.iface 192 x) 20 192 true).run prog w=.ok (aX #[x,aJ true]) w:=by kernel_rfl
def ZQ(x:aj)(w:ah):(Instr.typeAssert (.iface 218 x) 20 215 true).run prog w=.ok (aX #[ax J,aJ false]) w:=by kernel_rfl
def ZR(x:aj)(w:ah):(Instr.typeAssert (.iface 218 x) 20 192 true).run prog w=.ok (aX #[ax J,aJ false]) w:=by kernel_rfl
def ZT(x:aj)(w:ah):(Instr.typeAssert (.iface 218 x) 20 218 true).run prog w=.ok (aX #[x,aJ true]) w:=by kernel_rfl
def PE(w:ah):(zeroValue 3).run prog w=.ok (af I 0) w:=by kernel_rfl
def ZU(look:Bs->Option Nat)(f:Nat):bg look f []=(1,0):=by unfold bg;rw[aU rfl]
def ZV(h:s.size=0):bl s=[]:=sN (by rw[jU];exact h)
def AA(h:1<=s.size):bl s≠[]:=λe=>by have:=jU s;rw[e]at this;simp at this;omega
def ZW(h:s.size=0):s=⟨#[]⟩:=oG (by rw[ZV h];rfl)
def ZX(A:Nat->av)(au:List ByteArray)(rb f:Nat)(v:aj)(tb tk:Nat)(old:aj)(w:ah)(hs:dD A w)(ht:w.cell? (ar tb tk J)=U old)(hT:Typed f old):Calls prog 143 #[ax (U (ar rb 0 J)),aB ⟨#[]⟩,v] w (vq A au f ⟨#[]⟩ tb tk w):=by
 have HW:ag (∀w',Below w.heap.size w w'->vq A au f ⟨#[]⟩ tb tk w (aH (bF A 1)) w'):=λw' hb=>JE (c:=1) ht hT (by rw[show bl ⟨#[]⟩=[]from rfl,ZU]) (aD rfl) hb
 have c0:=hs.c0;go_enter func143,ntmps143
 go_wp2;go_ret;exact HW _ (aC _ _)
def ZY(A:Nat->av)(au:List ByteArray)(rb:Nat)(s:ByteArray)(tb tk:Nat)(old:aj)(w:ah)(h1:1<=s.size)(hsz:s.size<=1000000)(ht:w.cell? (ar tb tk J)=U old)(hf:w.frozen? (ar tb tk J)=false):Calls prog 143 #[ax (U (ar rb 0 J)),aB s,.iface 215 (ax (U (ar tb tk J)))] w (vq A au 0 s tb tk w):=by
 have HV:ag (bg (aM au) 0 (bl s)=(0,0)):=by show _=_;unfold bg;rw[aF (AA h1)];rfl
 have y2:¬s.toList=[]:=by rw[iA];exact AA h1
 have y1:(s.toList==[])=false:=by simpa using y2
 have a0:=ZN;go_enter func143,ntmps143
 go_wp2;go_ret
 refine⟨by rw[HV.o];rfl,_,⟨s,rfl,hsz⟩,λ_=>rfl,aC _ _⟩
def ZZ(A:Nat->av)(au:List ByteArray)(rb:Nat)(s:ByteArray)(tb tk:Nat)(old:aj)(w:ah)(hs:dD A w)(h1:1<=s.size)(hsz:s.size<=1000000)(ht:w.cell? (ar tb tk J)=U old)(hT:Typed 1 old)(hf:w.frozen? (ar tb tk J)=false):Calls prog 143 #[ax (U (ar rb 0 J)),aB s,.iface 192 (ax (U (ar tb tk J)))] w (vq A au 1 s tb tk w):=by
 have HV:ag (bg (aM au) 1 (bl s)=match numOf (bl s)with|some n=>(0,(n:Int))|none=>(1,0)):=by show _=_;unfold bg;rw[aF (AA h1)];rfl
 have y2:¬s.toList=[]:=by rw[iA];exact AA h1
 have y1:(s.toList==[])=false:=by simpa using y2
 have hN:=ZH s w h1 hsz;have HW:ag (numOf _=J->∀w',Below _ w w'->vq A au 1 s tb tk w _ w'):=λhn w' hb=>JE (c:=1) ht hT (by rw[HV.o,hn]) (aD rfl) hb
 change ag _ at hs
 have HT:ag (w.cell? _=U old/\w.frozen? _=false):=⟨ht,hf⟩;have a0:=ZO;have a1:=ZP
 cases hn:numOf (bl s)with
 |none=>
  rw[hn]at hN;go_enter func143,ntmps143
  go_wp2_with fail
  refine hN.mono ?_;rintro e w1 ⟨rfl,hb⟩;have c0:=(hs.below hb).c0;change ag _ at hb
  go_wp2;go_ret;exact HW hn _ hb
 |some n=>
  rw[hn]at hN;go_enter func143,ntmps143
  go_wp2_with fail
  refine hN.mono ?_;rintro e w1 ⟨rfl,hb⟩;have t0:=aA hb HT.1;have t1:w1.frozen? (ar tb tk J)=false:=by
   have:=hb.block tb (j6 HT.1);have h2:=HT.2;unfold bE at h2⊢;rw[this];exact h2
  change ag _ at hb
  go_wp2;go_ret
  refine⟨by rw[HV.o,hn];rfl,_,⟨_,rfl⟩,λ_=>by rw[HV.o,hn];rfl,Below.JB hb _ _⟩
def Z0(A:Nat->av)(au:List ByteArray)(rb mb:Nat)(s:ByteArray)(tb tk:Nat)(old:aj)(w:ah)(hs:dD A w)(h1:1<=s.size)(hsz:s.size<=1000000)(hm:Fl w rb mb au)(ht:w.cell? (ar tb tk J)=U old)(hT:Typed 2 old)(hf:w.frozen? (ar tb tk J)=false):Calls prog 143 #[.pointer (U (ar rb 0 J)),.string s,.iface 218 (.pointer (U (ar tb tk J)))] w (vq A au 2 s tb tk w):=by
 have HV:ag (bg (aM au) 2 (bl s)=match aM au (bl s)with|some n=>(0,(n:Int))|none=>(5,0)):=by show _=_;unfold bg;rw[aF (AA h1)];rfl
 have y2:¬s.toList=[]:=by rw[iA];exact AA h1
 have y1:(s.toList==[])=false:=by simpa using y2
 have HW:ag (aM au _=J->vq A au 2 s tb tk w _ w):=λhn=>JE (c:=5) ht hT (by rw[HV.o,hn]) (aD rfl) (aC _ _)
 have c4:=hs.c4;have c6:=hm.c6;obtain⟨D,hown,hD⟩:=hm.own;have hkey:keyOf _ 9 _=U (pM s):=Go.WideMaps.keyOf_string_mk underlying9 (by unfold maxLen;omega);obtain⟨Fo,(Z1:ag _)⟩:=hD s;have a0:=ZQ;have a1:=ZR;have a2:=ZT
 cases hn:aM au (bl s)with
 |none=>
  rw[hn]at Fo;have Z2:Maps.has D _=false:=Fo;go_enter func143,ntmps143
  go_wp2_with (first
   |(at_lookup;refine wpList_lookup_own_ok_int _ rfl _ _ 121 rfl 9 3 .i64 BK underlying121 underlying3 (PE _) mb _ _ rfl hown _ _ rfl hkey ?_;intro c hat hwc)
   |go_in)
  go_ret;exact HW hn
 |some n=>
  rw[hn]at Fo;have Z2:Maps.has D _=true:=Fo;have Z3:ag (∀c,D.atKey (pM s) (.lit (.int .i64 0))=.lit (.int .i64 c)->c=(n:Int)):=λc hc=>by
   have:=hc.symm.trans Z1.o;rw[hn]at this;injection this with h2
   injection h2
  go_enter func143,ntmps143
  go_wp2_with (first
   |(at_lookup;refine wpList_lookup_own_ok_int _ rfl _ _ 121 rfl 9 3 .i64 BK underlying121 underlying3 (PE _) mb _ _ rfl hown _ _ rfl hkey ?_;intro c hat hwc)
   |go_in)
  go_ret;have hc:=Z3 _ hat;subst hc
  refine⟨by rw[HV.o,hn];rfl,_,⟨_,rfl⟩,λ_=>by rw[HV.o,hn];rfl,aC _ _⟩
abbrev tN:Array Value:=#[.string ⟨(kw 0).toArray⟩,.string ⟨(kw 1).toArray⟩,.string ⟨(kw 2).toArray⟩,.string ⟨(kw 3).toArray⟩,.string ⟨(kw 4).toArray⟩,.string ⟨(kw 5).toArray⟩,.string ⟨(kw 6).toArray⟩,.string ⟨(kw 7).toArray⟩,.string ⟨(kw 8).toArray⟩,.string ⟨(kw 9).toArray⟩]
def PF(rb:Nat)(last:Int)(k:Nat)(w:ah)(hk:k<10)(hc:w.cell? (ar rb 5 J)=U (af I last)):Calls prog 82 #[ax (U (ar rb 0 J)),af I (k:Int)] w λe w'=>e=aH (aJ (may last k))/\w'=w:=by
 match k,hk with
 |0,_=>
  go_enter func82,ntmps82
  go_wp2;go_ret;exact⟨by first|rfl|simp[may],rfl⟩
 |1,_=>
  go_enter func82,ntmps82
  go_wp2;go_ret;exact⟨by first|rfl|simp[may],rfl⟩
 |2,_=>
  go_enter func82,ntmps82
  go_wp2;go_ret;exact⟨by first|rfl|simp[may],rfl⟩
 |3,_=>
  go_enter func82,ntmps82
  go_wp2;go_ret;exact⟨by first|rfl|simp[may],rfl⟩
 |4,_=>
  by_cases l1:3<=last
  all_goals
   go_enter func82,ntmps82
   go_wp2;go_ret;exact⟨by first|rfl|(simp[may,l1];done)|(simp[may];omega),rfl⟩
 |5,_=>
  by_cases l1:3<=last
  all_goals
   go_enter func82,ntmps82
   go_wp2;go_ret;exact⟨by first|rfl|(simp[may,l1];done)|(simp[may];omega),rfl⟩
 |6,_=>
  by_cases l1:3<=last
  all_goals
   go_enter func82,ntmps82
   go_wp2;go_ret;exact⟨by first|rfl|(simp[may,l1];done)|(simp[may];omega),rfl⟩
 |7,_=>
  by_cases l1:3<=last
  all_goals
   go_enter func82,ntmps82
   go_wp2;go_ret;exact⟨by first|rfl|(simp[may,l1];done)|(simp[may];omega),rfl⟩
 |8,_=>
  by_cases l1:3<=last
  all_goals
   go_enter func82,ntmps82
   go_wp2;go_ret;exact⟨by first|rfl|(simp[may,l1];done)|(simp[may];omega),rfl⟩
 |9,_=>
  by_cases l1:3<=last
  all_goals
   go_enter func82,ntmps82
   go_wp2;go_ret;exact⟨by first|rfl|(simp[may,l1];done)|(simp[may];omega),rfl⟩
def mS(w:Bs):Int:=match kindOf w with
 |some k=>(k:Int)
 |none=>-1
def Z4{w:Bs}(h:∀j,j<10->kw j≠w):mS w=-1:=by
 have:kindOf w=J:=by
  unfold kindOf;rw[List.find?_eq_none];intro j hj;simp only[pG]at hj;simpa using h j hj
 unfold mS;rw[this]
def Z5(s:ByteArray)(w:ah)(hK:mF w):Calls prog 81 #[aB s] w λe w'=>e=aH (af I (mS (bl s)))/\w'=w:=by
 have c0:=hK 0 (aD rfl);have c1:=hK 1 (aD rfl);have c2:=hK 2 (aD rfl);have c3:=hK 3 (aD rfl);have c4:=hK 4 (aD rfl);have c5:=hK 5 (aD rfl);have c6:=hK 6 (aD rfl);have c7:=hK 7 (aD rfl);have c8:=hK 8 (aD rfl);have c9:=hK 9 (aD rfl);clear hK;go_enter func81,ntmps81
 go_wp2_with fail
 clear c0 c1 c2 c3 c4 c5 c6 c7 c8 c9
 go_loopw [3,4,6] (λ_ _ i wr=>∃k:Nat,k<=10/\i=af I k/\wr=w/\∀j,j<k->kw j≠bl s) (λ_ _ i _=>10-(intOf i).toNat)
 case atStart=>exact⟨0,cG _,rfl,rfl,λj hj=>absurd hj (im _)⟩
 case round=>
  obtain⟨k,hk,rfl,rfl,(hn:ag _)⟩:=hrel
  by_cases hlt:k<10
  ·match k,hlt with
   |0,_=>
    have ix:∀W,(Instr.index 190 (.agg tN) (af I 0)).run prog W=.ok (aB ⟨(kw 0).toArray⟩) W:=λ_=>by kernel_rfl
    by_cases h:kw 0=bl s
    ·have HV:ag (mS (bl s)=0):=by show _=_;rw[<- h];decide
     have y2:kw 0=s.toList:=by rw[iA];exact h
     have y1:(kw 0==s.toList)=true:=by rw[y2];exact rX _
     clear y2 h;go_wp2;go_ret;exact⟨by rw[HV.o];rfl,rfl⟩
    have y2:¬kw 0=s.toList:=by rw[iA];exact h
    have y1:(kw 0==s.toList)=false:=by simpa using y2
    have iK:ag (∀j,j<1->kw j≠bl s):=λj hj=>by
     by_cases e:j=0
     ·rw[e];exact h
     exact hn j (by omega)
    go_wp2;go_roundw
    case rel=>exact⟨1,by decide,by first|trivial|rfl,by first|trivial|rfl,iK⟩
    case measure=>simp[intOf]
   |1,_=>
    have ix:∀W,(Instr.index 190 (.agg tN) (af I 1)).run prog W=.ok (aB ⟨(kw 1).toArray⟩) W:=λ_=>by kernel_rfl
    by_cases h:kw 1=bl s
    ·have HV:ag (mS (bl s)=1):=by show _=_;rw[<- h];decide
     have y2:kw 1=s.toList:=by rw[iA];exact h
     have y1:(kw 1==s.toList)=true:=by rw[y2];exact rX _
     clear y2 h;go_wp2;go_ret;exact⟨by rw[HV.o];rfl,rfl⟩
    have y2:¬kw 1=s.toList:=by rw[iA];exact h
    have y1:(kw 1==s.toList)=false:=by simpa using y2
    have iK:ag (∀j,j<2->kw j≠bl s):=λj hj=>by
     by_cases e:j=1
     ·rw[e];exact h
     exact hn j (by omega)
    go_wp2;go_roundw
    case rel=>exact⟨2,by decide,by first|trivial|rfl,by first|trivial|rfl,iK⟩
    case measure=>simp[intOf]
   |2,_=>
    have ix:∀W,(Instr.index 190 (.agg tN) (af I 2)).run prog W=.ok (aB ⟨(kw 2).toArray⟩) W:=λ_=>by kernel_rfl
    by_cases h:kw 2=bl s
    ·have HV:ag (mS (bl s)=2):=by show _=_;rw[<- h];decide
     have y2:kw 2=s.toList:=by rw[iA];exact h
     have y1:(kw 2==s.toList)=true:=by rw[y2];exact rX _
     clear y2 h;go_wp2;go_ret;exact⟨by rw[HV.o];rfl,rfl⟩
    have y2:¬kw 2=s.toList:=by rw[iA];exact h
    have y1:(kw 2==s.toList)=false:=by simpa using y2
    have iK:ag (∀j,j<3->kw j≠bl s):=λj hj=>by
     by_cases e:j=2
     ·rw[e];exact h
     exact hn j (by omega)
    go_wp2;go_roundw
    case rel=>exact⟨3,by decide,by first|trivial|rfl,by first|trivial|rfl,iK⟩
    case measure=>simp[intOf]
   |3,_=>
    have ix:∀W,(Instr.index 190 (.agg tN) (af I 3)).run prog W=.ok (aB ⟨(kw 3).toArray⟩) W:=λ_=>by kernel_rfl
    by_cases h:kw 3=bl s
    ·have HV:ag (mS (bl s)=3):=by show _=_;rw[<- h];decide
     have y2:kw 3=s.toList:=by rw[iA];exact h
     have y1:(kw 3==s.toList)=true:=by rw[y2];exact rX _
     clear y2 h;go_wp2;go_ret;exact⟨by rw[HV.o];rfl,rfl⟩
    have y2:¬kw 3=s.toList:=by rw[iA];exact h
    have y1:(kw 3==s.toList)=false:=by simpa using y2
    have iK:ag (∀j,j<4->kw j≠bl s):=λj hj=>by
     by_cases e:j=3
     ·rw[e];exact h
     exact hn j (by omega)
    go_wp2;go_roundw
    case rel=>exact⟨4,by decide,by first|trivial|rfl,by first|trivial|rfl,iK⟩
    case measure=>simp[intOf]
   |4,_=>
    have ix:∀W,(Instr.index 190 (.agg tN) (af I 4)).run prog W=.ok (aB ⟨(kw 4).toArray⟩) W:=λ_=>by kernel_rfl
    by_cases h:kw 4=bl s
    ·have HV:ag (mS (bl s)=4):=by show _=_;rw[<- h];decide
     have y2:kw 4=s.toList:=by rw[iA];exact h
     have y1:(kw 4==s.toList)=true:=by rw[y2];exact rX _
     clear y2 h;go_wp2;go_ret;exact⟨by rw[HV.o];rfl,rfl⟩
    have y2:¬kw 4=s.toList:=by rw[iA];exact h
    have y1:(kw 4==s.toList)=false:=by simpa using y2
    have iK:ag (∀j,j<5->kw j≠bl s):=λj hj=>by
     by_cases e:j=4
     ·rw[e];exact h
     exact hn j (by omega)
    go_wp2;go_roundw
    case rel=>exact⟨5,by decide,by first|trivial|rfl,by first|trivial|rfl,iK⟩
    case measure=>simp[intOf]
   |5,_=>
    have ix:∀W,(Instr.index 190 (.agg tN) (af I 5)).run prog W=.ok (aB ⟨(kw 5).toArray⟩) W:=λ_=>by kernel_rfl
    by_cases h:kw 5=bl s
    ·have HV:ag (mS (bl s)=5):=by show _=_;rw[<- h];decide
     have y2:kw 5=s.toList:=by rw[iA];exact h
     have y1:(kw 5==s.toList)=true:=by rw[y2];exact rX _
     clear y2 h;go_wp2;go_ret;exact⟨by rw[HV.o];rfl,rfl⟩
    have y2:¬kw 5=s.toList:=by rw[iA];exact h
    have y1:(kw 5==s.toList)=false:=by simpa using y2
    have iK:ag (∀j,j<6->kw j≠bl s):=λj hj=>by
     by_cases e:j=5
     ·rw[e];exact h
     exact hn j (by omega)
    go_wp2;go_roundw
    case rel=>exact⟨6,by decide,by first|trivial|rfl,by first|trivial|rfl,iK⟩
    case measure=>simp[intOf]
   |6,_=>
    have ix:∀W,(Instr.index 190 (.agg tN) (af I 6)).run prog W=.ok (aB ⟨(kw 6).toArray⟩) W:=λ_=>by kernel_rfl
    by_cases h:kw 6=bl s
    ·have HV:ag (mS (bl s)=6):=by show _=_;rw[<- h];decide
     have y2:kw 6=s.toList:=by rw[iA];exact h
     have y1:(kw 6==s.toList)=true:=by rw[y2];exact rX _
     clear y2 h;go_wp2;go_ret;exact⟨by rw[HV.o];rfl,rfl⟩
    have y2:¬kw 6=s.toList:=by rw[iA];exact h
    have y1:(kw 6==s.toList)=false:=by simpa using y2
    have iK:ag (∀j,j<7->kw j≠bl s):=λj hj=>by
     by_cases e:j=6
     ·rw[e];exact h
     exact hn j (by omega)
    go_wp2;go_roundw
    case rel=>exact⟨7,by decide,by first|trivial|rfl,by first|trivial|rfl,iK⟩
    case measure=>simp[intOf]
   |7,_=>
    have ix:∀W,(Instr.index 190 (.agg tN) (af I 7)).run prog W=.ok (aB ⟨(kw 7).toArray⟩) W:=λ_=>by kernel_rfl
    by_cases h:kw 7=bl s
    ·have HV:ag (mS (bl s)=7):=by show _=_;rw[<- h];decide
     have y2:kw 7=s.toList:=by rw[iA];exact h
     have y1:(kw 7==s.toList)=true:=by rw[y2];exact rX _
     clear y2 h;go_wp2;go_ret;exact⟨by rw[HV.o];rfl,rfl⟩
    have y2:¬kw 7=s.toList:=by rw[iA];exact h
    have y1:(kw 7==s.toList)=false:=by simpa using y2
    have iK:ag (∀j,j<8->kw j≠bl s):=λj hj=>by
     by_cases e:j=7
     ·rw[e];exact h
     exact hn j (by omega)
    go_wp2;go_roundw
    case rel=>exact⟨8,by decide,by first|trivial|rfl,by first|trivial|rfl,iK⟩
    case measure=>simp[intOf]
   |8,_=>
    have ix:∀W,(Instr.index 190 (.agg tN) (af I 8)).run prog W=.ok (aB ⟨(kw 8).toArray⟩) W:=λ_=>by kernel_rfl
    by_cases h:kw 8=bl s
    ·have HV:ag (mS (bl s)=8):=by show _=_;rw[<- h];decide
     have y2:kw 8=s.toList:=by rw[iA];exact h
     have y1:(kw 8==s.toList)=true:=by rw[y2];exact rX _
     clear y2 h;go_wp2;go_ret;exact⟨by rw[HV.o];rfl,rfl⟩
    have y2:¬kw 8=s.toList:=by rw[iA];exact h
    have y1:(kw 8==s.toList)=false:=by simpa using y2
    have iK:ag (∀j,j<9->kw j≠bl s):=λj hj=>by
     by_cases e:j=8
     ·rw[e];exact h
     exact hn j (by omega)
    go_wp2;go_roundw
    case rel=>exact⟨9,by decide,by first|trivial|rfl,by first|trivial|rfl,iK⟩
    case measure=>simp[intOf]
   |9,_=>
    have ix:∀W,(Instr.index 190 (.agg tN) (af I 9)).run prog W=.ok (aB ⟨(kw 9).toArray⟩) W:=λ_=>by kernel_rfl
    by_cases h:kw 9=bl s
    ·have HV:ag (mS (bl s)=9):=by show _=_;rw[<- h];decide
     have y2:kw 9=s.toList:=by rw[iA];exact h
     have y1:(kw 9==s.toList)=true:=by rw[y2];exact rX _
     clear y2 h;go_wp2;go_ret;exact⟨by rw[HV.o];rfl,rfl⟩
    have y2:¬kw 9=s.toList:=by rw[iA];exact h
    have y1:(kw 9==s.toList)=false:=by simpa using y2
    have iK:ag (∀j,j<10->kw j≠bl s):=λj hj=>by
     by_cases e:j=9
     ·rw[e];exact h
     exact hn j (by omega)
    go_wp2;go_roundw
    case rel=>exact⟨10,by decide,by first|trivial|rfl,by first|trivial|rfl,iK⟩
    case measure=>simp[intOf]
  obtain rfl:k=10:=by omega
  have HV:ag _:=Z4 hn;go_wp2;go_ret;exact⟨by rw[HV.o];rfl,rfl⟩
def PG(look:Bs->Option Nat)(f:Nat)(w:Bs):(bg look f w).1=0\/(bg look f w).1=1\/(bg look f w).1=5:=by
 unfold bg
 split
 ·exact bk (cF rfl)
 split
 ·exact cF rfl
 ·split
  ·exact cF rfl
  exact bk (cF rfl)
 split
 ·exact cF rfl
 exact bk (bk rfl)
def PH:∀(fs:List Nat) (ws:List Bs) (nn:Bool),fs.length≠ws.length->(aI look nn fs ws).1=1
 |[],[],_,h=>absurd rfl h
 |[],_::_,_,_=>by simp[aI]
 |_::_,[],_,_=>by simp[aI]
 |f::fs,w::ws,nn,h=>by
  unfold aI
  split
  ·rfl
  exact PH fs ws _ (by simpa using h)
def PI{fs:List Nat}{ws:List Bs}{w:Bs}{nn:Bool}(h1:fs[k]?=U f)(h2:ws[k]?=U w):(aI look nn (fs.drop k) (ws.drop k)).1=if (bg look f w).1=1 then 1 else (aI look (nn||decide ((bg look f w).1=5)) (fs.drop (k+1)) (ws.drop (k+1))).1:=by
 obtain⟨a1,a2⟩:=eK.1 h1;obtain⟨b1,b2⟩:=eK.1 h2;rw[lM a1,lM b1,a2,b2];rw[aI]
 split<;>rfl
def Z6{fs:List Nat}{ws:List Bs}{nn:Bool}(h1:fs.length=k)(h2:ws.length=k):(aI look nn (fs.drop k) (ws.drop k)).1=if nn then 5 else 0:=by
 rw[<- h1,List.drop_length,h1,<- h2,List.drop_length];rfl
def o7{o:Nat}{v:aj}(hb:Below w.heap.size w w')(hc:w.cell? (ar b o J)=U v):w'.frozen? (ar b o J)=w.frozen? (ar b o J):=by
 have:=hb.block b (j6 hc);unfold bE;simp only;rw[this]
def PK:∀(w:ah) (as' bs:List (Nat×Nat)) (us vs:List aj),as'.length=us.length->bZ w (as'++bs) (us++vs)=bZ (bZ w as' us) bs vs
 |w,[],bs,[],vs,_=>rfl
 |w,a::as',bs,u::us,vs,h=>by
  simp only[rp,bZ];exact PK _ as' bs us vs (by simpa using h)
def JF:∀(w:ah) (bs:List (Nat×Nat)) (vs:List aj),(∀(i:Nat) b v,bs[i]?=U b->vs[i]?=U v->w.cell? ⟨b.1,b.2,J⟩=U v)->bZ w bs vs=w
 |w,[],vs,_=>Ay _ _
 |w,_::_,[],_=>Az _ _
 |w,b::bs,v::vs,h=>by
  rw[bZ,yM (h 0 b v rfl rfl)];exact JF w bs vs (λi b' v' h1 h2=>h (i+1) b' v' (by simpa using h1) (by simpa using h2))
def yQ(A:Nat->av)(au:List ByteArray)(fs:List Nat)(tg:List (Nat×Nat))(ws:List ByteArray)(w:ah)(v:Ending)(w':ah):Prop:=
 v=aH (bF A (aI (aM au) false fs (ws.map bl)).1)/\∃us:List aj,us.length=tg.length/\(∀(i:Nat) f u,fs[i]?=U f->us[i]?=U u->Typed f u)/\((aI (aM au) false fs (ws.map bl)).1=0->∀(i:Nat) f s u,fs[i]?=U f->ws[i]?=U s->us[i]?=U u->u=valOf f s (bg (aM au) f (bl s)).2)/\Below w.heap.size (bZ w tg us) w'
structure oq(w0:ah)(rb:Nat)(au:List ByteArray)(fs:List Nat)(tg:List (Nat×Nat))(ws:List ByteArray)(wb wo ib:Nat)(w:ah):Prop where
 gV:Below w0.heap.size w0 w
 len:fs.length=tg.length
 f3:∀f∈fs,f<3
 few:fs.length<=4
 tgt:∀(i:Nat) f t,fs[i]?=U f->tg[i]?=U t->(∃old,w.cell? ⟨t.1,t.2,J⟩=U old/\Typed f old)/\w.frozen? ⟨t.1,t.2,J⟩=false
 lo:∀t∈tg,w0.heap.size<=t.1/\t≠(rb,6)/\t.1≠ib/\t.1≠wb
 nd:tg.Nodup
 into:∀(i:Nat) f t,fs[i]?=U f->tg[i]?=U t->w.cell? (ar ib i J)=U (.iface (Fj f) (ax (U ⟨t.1,t.2,J⟩)))
 qc:∀(i:Nat) s,ws[i]?=U s->w.cell? ⟨wb,wo+i,J⟩=U (aB s)
 Z7:∀s∈ws,s.size<=1000000
 map:2∈fs->∃mb,Fl w rb mb au
structure JG(A:Nat->av)(rb:Nat)(au:List ByteArray)(f:Nat)(s:ByteArray)(t:Nat×Nat)(V:ah):Prop where
 JH:dD A V
 tgt:∃old,V.cell? ⟨t.1,t.2,J⟩=U old/\Typed f old
 fz:V.frozen? ⟨t.1,t.2,J⟩=false
 map:f=2->∃mb,Fl V rb mb au
 f3:f<3
 JI:s.size<=1000000
def Fp(hV:Below w.heap.size (bZ w (tg.take k) us) V){o:Nat}{v:aj}(hc:w.cell? (ar b o J)=U v)(hn:∀t∈tg.take k,t≠(b,o)):V.cell? (ar b o J)=U v:=by
 have h1:=yO w _ us b o hn;exact(hV.cell (p:=⟨b,o,_⟩) (j6 hc)).trans (h1.trans hc)
def JJ(hd:tg.Nodup)(ht:tg[k]?=U t):∀x∈tg.take k,x≠t:=by
 intro x hx e;subst e;obtain⟨j,hj,e⟩:=zL hx;have mV:j<k:=by simp at hj;omega
 obtain⟨k1,k2⟩:=eK.1 ht;have e2:tg[j]'(by omega)=tg[k]:=by rw[k2,<- e];simp
 have:=(List.getElem_inj hd).1 e2;omega
def oq.at'{w0:ah}{fs:List Nat}(h:oq w0 rb au fs tg ws wb wo ib w)(hs:dD A w0)(hV:Below w.heap.size (bZ w (tg.take k) us) V)(h1:fs[k]?=U f)(h2:tg[k]?=U t)(h3:ws[k]?=U s):JG A rb au f s t V/\V.cell? ⟨wb,wo+k,J⟩=U (aB s)/\V.cell? (ar ib k J)=U (.iface (Fj f) (ax (U ⟨t.1,t.2,J⟩))):=by
 have Fq:∀x∈tg.take k,w0.heap.size<=x.1/\x≠(rb,6)/\x.1≠ib/\x.1≠wb:=λx hx=>h.lo x (List.mem_of_mem_take hx)
 have rE:=h.gV.trans ((yP _ w _ us (λx hx=>(Fq x hx).1)).trans (hV.mono h.gV.size));obtain⟨⟨old,ho,hT⟩,hf⟩:=h.tgt k f t h1 h2;have ht:=Fp hV ho (JJ h.nd h2)
 refine⟨⟨hs.below rE,⟨old,ht,hT⟩,?_,?_,h.f3 f (fQ h1),h.Z7 s (fQ h3)⟩,?_,?_⟩
 ·have e1:=JD w (tg.take k) us ⟨t.1,t.2,J⟩;have e2:=(yO w _ us t.1 t.2 (JJ h.nd h2)).trans ho;rw[o7 (by rw[Fi];exact hV) e2,e1];exact hf
 ·rintro rfl;obtain⟨mb,hm⟩:=h.map (fQ h1);obtain⟨D,⟨es,clock,g1,g2⟩,hD⟩:=hm.own
  refine⟨mb,Fp hV hm.c6 (λx hx=>(Fq x hx).2.1),D,⟨es,_,?_,g2⟩,hD⟩;have Z8:=cU g1;rw[hV.block mb Z8,PD w _ us mb,g1];intro x hx e;obtain⟨j,hj,e2⟩:=zL hx;have mV:tg[j]?=U x:=by
   have:j<tg.length:=by simp at hj;omega
   rw[bL this,<- e2];simp
  have Z9:j<fs.length:=by rw[h.len];exact(eK.1 mV).1
  obtain⟨⟨o2,yR,-⟩,-⟩:=h.tgt j fs[j] x (bL Z9) mV;unfold aL at yR;simp only[e,g1]at yR
  cases yR
 ·exact Fp hV (h.qc k s h3) (λx hx e=>(Fq x hx).2.2.2 (by rw[e]))
 exact Fp hV (h.into k f t h1 h2) (λx hx e=>(Fq x hx).2.2.1 (by rw[e]))
def Z_(h:JG A rb au f s t V):Calls prog 143 #[ax (U (ar rb 0 J)),aB s,.iface (Fj f) (ax (U ⟨t.1,t.2,J⟩))] V (vq A au f s t.1 t.2 V):=by
 obtain⟨old,ht,hT⟩:=h.tgt
 by_cases h0:s.size=0
 ·have:=ZW h0;subst this;exact ZX A au rb f _ t.1 t.2 old V h.JH ht hT
 have h1:1<=s.size:=by omega
 match f,h.f3,hT,h with
 |0,_,_,h=>exact ZY A au rb s t.1 t.2 old V h1 h.JI ht h.fz
 |1,_,hT,h=>exact ZZ A au rb s t.1 t.2 old V h.JH h1 h.JI ht hT h.fz
 |2,_,hT,h=>
  obtain⟨mb,hm⟩:=h.map rfl;exact Z0 A au rb mb s t.1 t.2 old V h.JH h1 h.JI hm ht hT h.fz
structure tP(A:Nat->av)(au:List ByteArray)(fs:List Nat)(tg:List (Nat×Nat))(ws:List ByteArray)(w:ah)(k:Nat)(nn:Bool)(V:ah):Prop where
 us:∃us:List aj,us.length=k/\(∀(i:Nat) f u,fs[i]?=U f->us[i]?=U u->Typed f u)/\(nn=false->∀(i:Nat) f s u,fs[i]?=U f->ws[i]?=U s->us[i]?=U u->u=valOf f s (bg (aM au) f (bl s)).2)/\Below w.heap.size (bZ w (tg.take k) us) V
 code:(aI (aM au) false fs (ws.map bl)).1=(aI (aM au) nn (fs.drop k) ((ws.map bl).drop k)).1
def Z'{fs:List Nat}:tP A au fs tg ws w 0 false w:=
 ⟨⟨[],rfl,λi f u _ h=>by simp at h,λ_ i f s u _ _ h=>by simp at h,aC _ _⟩,rfl⟩
def PL{V':ah}{fs:List Nat}{nn:Bool}{u:aj}(h:tP A au fs tg ws w k nn V)(h1:fs[k]?=U f)(h2:tg[k]?=U t)(h3:ws[k]?=U s)
  (hT:Typed f u) (hv:(bg (aM au) f (bl s)).1=0->u=valOf f s (bg (aM au) f (bl s)).2) (hb:Below V.heap.size (V.setCell ⟨t.1,t.2,J⟩ u) V') (hc:(bg (aM au) f (bl s)).1≠1):tP A au fs tg ws w (k+1) (nn||decide ((bg (aM au) f (bl s)).1=5)) V':=by
 obtain⟨us,e0,e1,e2,e3⟩:=h.us;have hk:=(eK.1 h2).1
 refine⟨⟨us++[u],by simp[e0],λi g x hg hx=>?_,λhn i g y x hg hy hx=>?_,?_⟩,?_⟩
 ·by_cases hi:i<us.length
  ·rw[qC hi]at hx;exact e1 i g x hg hx
  rw[pE (by omega)]at hx;have:i=us.length:=by
   have:=(eK.1 hx).1;simp at this
   omega
  subst this;simp at hx
  subst hx;rw[e0,h1]at hg
  cases hg
  exact hT
 ·rw[Bool.or_eq_false_iff,decide_eq_false_iff_not]at hn
  by_cases hi:i<us.length
  ·rw[qC hi]at hx;exact e2 hn.1 i g y x hg hy hx
  rw[pE (by omega)]at hx;have:i=us.length:=by
   have:=(eK.1 hx).1;simp at this
   omega
  subst this;simp at hx
  subst hx;rw[e0,h1]at hg
  cases hg
  rw[e0,h3]at hy
  cases hy
  refine hv ?_
  rcases PG (aM au) f (bl s)with h|h|h
  ·exact h
  ·exact absurd h hc
  exact absurd h hn.2
 ·have ht:tg.take (k+1)=tg.take k++[t]:=by rw[qE,h2];rfl
  rw[ht,JC _ _ _ _ _ (by rw[List.length_take,e0];omega)];have:=Below.JB e3 ⟨t.1,t.2,J⟩ u
  refine this.trans (hb.mono ?_);have:=e3.size;rw[Fi]at this;exact this
 rw[h.code,PI h1 (by rw[iT,h3];rfl),aF hc]
def aac{w0 V':ah}{fs:List Nat}{nn:Bool}{u:aj}(hF:oq w0 rb au fs tg ws wb wo ib w)(h:tP A au fs tg ws w k nn V)(h1:fs[k]?=U f)(h2:tg[k]?=U t)(h3:ws[k]?=U s)
  (hT:Typed f u) (hb:Below V.heap.size (V.setCell ⟨t.1,t.2,J⟩ u) V') (hc:(bg (aM au) f (bl s)).1=1):yQ A au fs tg ws w (aH (bF A 1)) V':=by
 have bM:(aI (aM au) false fs (ws.map bl)).1=1:=by rw[h.code,PI h1 (by rw[iT,h3];rfl),aU hc]
 obtain⟨us,e0,e1,e2,e3⟩:=h.us;have hk:=(eK.1 h2).1;have hold:∀i,∃o:aj,∀g x,fs[k+1+i]?=U g->tg[k+1+i]?=U x->w.cell? ⟨x.1,x.2,J⟩=U o/\Typed g o:=λi=>by
  by_cases hi:k+1+i<tg.length
  ·have nK:k+1+i<fs.length:=by rw[hF.len];exact hi
   obtain⟨⟨o,a1,a2⟩,-⟩:=hF.tgt _ _ _ (bL nK) (bL hi)
   refine⟨o,λg x hg hx=>?_⟩;rw[bL nK]at hg;rw[bL hi]at hx
   cases hg
   cases hx
   exact⟨a1,a2⟩
  refine⟨undef,λg x _ hx=>?_⟩;rw[ny (by omega)]at hx
  cases hx
 obtain⟨ov,iy⟩:=Classical.axiomOfChoice hold;obtain⟨vs,Ap⟩:∃vs:List _,vs=(List.range (tg.length-(k+1))).map ov:=⟨_,rfl⟩;have xc:vs.length=tg.length-(k+1):=by rw[Ap];simp
 have CN:∀i x,vs[i]?=U x->x=ov i/\i<tg.length-(k+1):=λi x hx=>by
  have hi:=(eK.1 hx).1;rw[xc]at hi;rw[Ap,iT,List.getElem?_range hi]at hx;simp at hx
  exact⟨hx.symm,hi⟩
 refine⟨by rw[bM],us++([u]++vs),?_,λi g x hg hx=>?_,(λhz=>by rw[bM]at hz;cases hz),?_⟩
 ·simp[e0,xc];omega
 ·by_cases hi:i<us.length
  ·rw[qC hi]at hx;exact e1 i g x hg hx
  rw[pE (by omega),e0]at hx
  by_cases nK:i=k
  ·subst nK;simp at hx
   subst hx;rw[h1]at hg
   cases hg
   exact hT
  rw[pE (by simp;omega)]at hx;obtain⟨rfl,q⟩:=CN _ _ hx;have Cs:k+1+(i-k-1)=i:=by omega
  have hit:i<tg.length:=by simp at q;omega
  exact(iy (i-k-1) g _ (by rw[Cs];exact hg) (by rw[Cs];exact bL hit)).2
 have ht:tg=(tg.take k++[t])++tg.drop (k+1):=by
  have:tg.take (k+1)=tg.take k++[t]:=by rw[qE,h2];rfl
  rw[<- this,List.take_append_drop]
 have hl:(tg.take k).length=us.length:=by rw[List.length_take,e0];omega
 have nL:bZ w tg (us++([u]++vs))=(bZ w (tg.take k) us).setCell ⟨t.1,t.2,J⟩ u:=by
  conv=>lhs;rw[ht]
  rw[<- List.append_assoc us [u] vs,PK _ _ _ _ _ (by simp[hl]),JC _ _ _ _ _ hl]
  refine JF _ _ _ (λi b v hb' hv'=>?_);obtain⟨rfl,q⟩:=CN _ _ hv';rw[List.getElem?_drop]at hb';have JK:k+1+i<fs.length:=by rw[hF.len];omega
  obtain⟨a1,-⟩:=iy i _ _ (bL JK) hb';have hne:=JJ hF.nd hb';have aad:=hne t (by
   have:tg.take (k+1+i)=tg.take (k+1)++(tg.drop (k+1)).take i:=by rw[List.take_add]
   rw[this,qE,h2];simp)
  rw[qR (by
   by_cases e:t.1=b.1
   ·exact bk (λe2=>aad (Prod.ext e e2))
   exact cF e) rfl rfl,yO _ _ _ _ _ (λx hx=>hne x (by
   have:tg.take (k+1+i)=tg.take k++(tg.drop k).take (1+i):=by rw[xK,List.take_add]
   rw[this];exact Bu _ hx))]
  exact a1
 rw[nL];have:=Below.JB e3 ⟨t.1,t.2,J⟩ u
 refine this.trans (hb.mono ?_);have:=e3.size;rw[Fi]at this;exact this
def aae{w0:ah}{fs:List Nat}{nn:Bool}(hF:oq w0 rb au fs tg ws wb wo ib w)(h:tP A au fs tg ws w k nn V)(h1:fs.length=k)(h2:ws.length=k):yQ A au fs tg ws w (aH (bF A (if nn then 5 else 0))) V:=by
 obtain⟨us,e0,e1,e2,e3⟩:=h.us;have hc:=h.code;rw[Z6 h1 (by rw[qb];exact h2)]at hc;have hk:tg.take k=tg:=List.take_of_length_le (by rw[<- hF.len];omega);rw[hk]at e3
 refine⟨by rw[hc],us,by rw[e0,<- hF.len];omega,e1,λhz=>?_,e3⟩
 cases nn
 ·exact e2 rfl
 rw[hc]at hz;cases hz
structure aaf(A:Nat->av)(au:List ByteArray)(fs:List Nat)(tg:List (Nat×Nat))(ws:List ByteArray)(w:ah)(m i:aj)(wr:ah):Prop where
 ex:∃(k:Nat) (nn:Bool),k<=ws.length/\i=af I k/\m=bF A (if nn then 5 else 0)/\tP A au fs tg ws w k nn wr
def tQ(A:Nat->av)(w0 w:ah)(rb:Nat)(au:List ByteArray)(fs:List Nat)(tg:List (Nat×Nat))(ws:List ByteArray)(sa:Option av)(wb wo wc ib:Nat)(hs:dD A w0)(hF:oq w0 rb au fs tg ws wb wo ib w)(CO:ws≠[]->sa=U ⟨wb,wo,J⟩)(hn:ws.length<=1000000):Calls prog 105 #[ax (U (ar rb 0 J)),ak sa ws.length wc,ak (U (ar ib 0 J)) fs.length fs.length] w (yQ A au fs tg ws w):=by
 change ag _ at hF hs
 by_cases hl:fs.length=ws.length
 ·have l2:ws.length<=4:=by have:=hF.few;omega
  rw[hl];change ag _ at hl
  go_enter func105,ntmps105
  go_wp2_with fail
  go_loopw [6,7,8,9,10,19] (λ_ m _ _ _ i wr=>aaf A au fs tg ws w m i wr) (λ_ _ _ _ _ i _=>ws.length-(intOf i).toNat)
  case atStart=>exact⟨⟨0,_,cG _,rfl,rfl,Z'⟩⟩
  case round=>
   obtain⟨k,nn,hk,rfl,(hm:ag _),(hR:ag _)⟩:=hrel.ex
   by_cases hlt:k<ws.length
   ·have k1:(k:Int)<(ws.length:Int):=by omega
    have k2:k<4:=by omega
    have aag:=CO (λe=>by rw[e]at hlt;simp at hlt);subst aag;obtain⟨f,hf⟩:∃f,fs[k]?=U f:=⟨_,bL (by have:=hl.o;omega)⟩;obtain⟨t,ht⟩:∃t,tg[k]?=U t:=⟨_,bL (by have:=hF.len;have:=hl.o;omega)⟩;obtain⟨s,PN⟩:∃s,ws[k]?=U s:=⟨_,bL hlt⟩;have hat:JG A rb au f s t wr/\wr.cell? ⟨wb,wo+k,J⟩=U (aB s)/\wr.cell? (ar ib k J)=U (.iface (Fj f) (ax (U ⟨t.1,t.2,J⟩))):=by
     obtain⟨us,-,-,-,e3⟩:=hR.us;exact hF.at' hs e3 hf ht PN
    obtain⟨(hat:ag _),c1,c2⟩:=hat;have HK:ag (fs[k]?=U f/\tg[k]?=U t/\ws[k]?=U s):=⟨hf,ht,PN⟩;go_wp2_with fail
    apply(Z_ hat.o).mono;rintro v V1 ⟨rfl,u,hT,hv,hb⟩;have HU:ag (Typed f u/\((bg _ f _).1=0->u=valOf f s _)/\Below _ _ V1):=⟨hT,hv,hb⟩;have HE:ag (dD A V1):=by
     have h1:=(hF.lo t (fQ HK.2.1)).1;obtain⟨us,-,-,-,e3⟩:=hR.us;have hw:=hF.gV.trans ((yP _ w _ us (λx hx=>(hF.lo x (List.mem_of_mem_take hx)).1)).trans (e3.mono hF.gV.size));exact hs.below (hw.trans (((aC _ wr).setCell (p:=⟨t.1,t.2,_⟩) h1 u).trans (hb.mono hw.size)))
    have d0:=HE.c0;have d4:=HE.c4;obtain⟨ie,JL,ry⟩:=jz.1 Bx;obtain⟨je,JM,xL⟩:=jz.1 Bz
    rcases PG (aM au) f (bl s)with hc|hc|hc
    ·have e1:bF A (bg (aM au) f (bl s)).1=.nilIface:=by rw[hc];rfl
     rw[e1];have n0:=run_eql_iface_nil_left (P:=prog) (w:=V1) 238 (ax (U (A 0))) underlying26;have n4:=run_eql_iface_nil_left (P:=prog) (w:=V1) 238 (ax (U (A 4))) underlying26;have HN:ag (tP A au fs tg ws w (k+1) nn V1):=by
      have:=PL hR HK.1 HK.2.1 HK.2.2 HU.1 HU.2.1 HU.2.2 (by rw[hc];decide);rw[hc]at this;show tP _ _ _ _ _ _ _ _ _
      simpa using this
     go_wp2;go_roundw
     case rel=>
      exact⟨⟨_,nn,by omega,by go_num,hm,HN⟩⟩
     case measure=>simp[intOf];omega
    ·have e1:bF A (bg (aM au) f (bl s)).1=.iface 238 (ax (U (A 0))):=by rw[hc];rfl
     rw[e1];have n0:=run_eql_iface_ptr_same (P:=prog) (w:=V1) (A 0) underlying26 underlying238 JL ry JM;have HP:ag (yQ A au fs tg ws w _ V1):=aac hF hR HK.1 HK.2.1 HK.2.2 HU.1 HU.2.2 hc;go_wp2;go_ret;exact HP
    have e1:bF A (bg (aM au) f (bl s)).1=.iface 238 (ax (U (A 4))):=by rw[hc];rfl
    rw[e1];obtain⟨ca,ta,ha⟩:=HE.row 4 (aD rfl);obtain⟨cb,tb,hb⟩:=HE.row 0 (aD rfl);have n0:=run_eql_iface_ptr_other (P:=prog) V1 underlying26 underlying238 JL ry JM (by rw[xL];decide) (HE.ne 4 0 (aD rfl) (aD rfl) (aD rfl)) ha hb;have n4:=run_eql_iface_ptr_same (P:=prog) (w:=V1) (A 4) underlying26 underlying238 JL ry JM;have HN:ag (tP A au fs tg ws w (k+1) true V1):=by
     have:=PL hR HK.1 HK.2.1 HK.2.2 HU.1 HU.2.1 HU.2.2 (by rw[hc];decide);rw[hc]at this;show tP _ _ _ _ _ _ _ _ _
     simpa using this
    go_wp2;go_roundw
    case rel=>
     exact⟨⟨_,_,by omega,by go_num,rfl,HN⟩⟩
    case measure=>simp[intOf];omega
   have k1:¬(k:Int)<(ws.length:Int):=by omega
   obtain rfl:k=ws.length:=by omega
   have HP:ag (yQ A au fs tg ws w (aH u7) wr):=by
    show yQ _ _ _ _ _ _ _ _
    rw[hm.o];exact aae hF hR hl rfl
   go_wp2;go_ret;exact HP
 have l1:¬(ws.length:Int)=(fs.length:Int):=by omega
 have c0:=(hs.below hF.gV).c0;have HP:ag (yQ A au fs tg ws w (aH (bF A 1)) w):=by
  have bM:(aI (aM au) false fs (ws.map bl)).1=1:=PH _ _ _ (by rw[qb];exact hl);have hold:∀i:Nat,∃o:aj,∀(g:Nat) (x:Nat×Nat),fs[i]?=U g->tg[i]?=U x->w.cell? ⟨x.1,x.2,J⟩=U o/\Typed g o:=λi=>by
   by_cases hi:i<tg.length
   ·have nK:i<fs.length:=by rw[hF.len];exact hi
    obtain⟨⟨o,a1,a2⟩,-⟩:=hF.tgt i _ _ (bL nK) (bL hi)
    refine⟨o,λg x hg hx=>?_⟩;rw[bL nK]at hg;rw[bL hi]at hx
    cases hg
    cases hx
    exact⟨a1,a2⟩
   refine⟨undef,λg x _ hx=>?_⟩;rw[ny (by omega)]at hx
   cases hx
  obtain⟨ov,iy⟩:=Classical.axiomOfChoice hold;have CN:∀(i:Nat) x,((List.range tg.length).map ov)[i]?=U x->x=ov i/\i<tg.length:=λi x hx=>by
   have hi:=(eK.1 hx).1;simp at hi
   rw[iT,List.getElem?_range hi]at hx;simp at hx
   exact⟨hx.symm,hi⟩
  refine⟨by rw[bM],(List.range tg.length).map ov,by simp,λi g x hg hx=>?_,(λhz=>by rw[bM]at hz;cases hz),?_⟩
  ·obtain⟨rfl,q⟩:=CN _ _ hx;exact(iy i g _ hg (bL q)).2
  rw[JF _ _ _ (λi b v hb hv=>by
   obtain⟨rfl,q⟩:=CN _ _ hv;have JK:i<fs.length:=by rw[hF.len];exact q
   exact(iy i _ _ (bL JK) hb).1)]
  exact aC _ _
 go_enter func105,ntmps105
 go_wp2;go_ret;exact HP
structure bJ where
 p:aj
 g:aj
 e:aj
 f:aj
 l:aj
variable{x x':bJ}
def bJ.row(x:bJ)(e:aG):Array aj:=uK e x.p x.g x.e x.f x.l
def dU(B:Nat)(w:ah)(e:aG)(x:bJ):Prop:=rD B w e x.p x.g x.e x.f x.l
structure vr(L:Nat)(x:bJ):Prop where
 p:∀b,x.p.ownBlock=U b->b<L
 g:∀b,x.g.ownBlock=U b->b<L
 e:∀b,x.e.ownBlock=U b->b<L
 f:∀b,x.f.ownBlock=U b->b<L
 l:∀b,x.l.ownBlock=U b->b<L
def vt{B:Nat}{v:aj}(h:w.ownsRow B T k v n xs):∀b,v.ownBlock=U b->b<w.heap.size:=λb hb=>(h.lt b hb).2
def dU.PO{B:Nat}(h:dU B w e x):vr w.heap.size x:=⟨vt h.hp,vt h.hg,vt h.he,vt h.hf,vt h.hl⟩
def dU.weak{B:Nat}(h:dU L w e x)(hB:B<=L):dU B w e x:=by
 have k:∀{T:TypeId} {k n:Nat} {v:aj} {xs:List _},w.ownsRow L T k v n xs->w.ownsRow B T k v n xs:=λh=>by
  obtain⟨h1,h2|⟨g,cap,cur,a,b,c⟩⟩:=h
  ·exact⟨h1,cF h2⟩
  exact⟨h1,bk ⟨g,cap,cur,a,bH hB b,c⟩⟩
 exact⟨k h.hp,k h.hg,k h.he,k h.hf,k h.hl⟩
def eu{B:Nat}{v:aj}(h:w.ownsRow B T k v n xs){c:Array aj}(hb:w.heap[b]?=U (ay c T' fr))(hT:T'≠T):v.ownBlock≠U b:=by
 rcases h.2 with⟨rfl,_⟩|⟨g,cap,cur,rfl,_,gS,_⟩
 ·simp[mC]
 intro e;simp only[mC,gQ]at e;subst e;rw[gS]at hb;simp only[gQ,uD]at hb;exact absurd hb.2.1.symm hT
def xh{B:Nat}{v:aj}(h:w.ownsRow B T k v n xs){es:Array MapEntry}(hb:w.heap[b]?=U (.map es cl)):v.ownBlock≠U b:=by
 rcases h.2 with⟨rfl,_⟩|⟨g,cap,cur,rfl,_,gS,_⟩
 ·simp[mC]
 intro e;simp only[mC,gQ]at e;subst e;rw[gS]at hb
 cases hb
def fC{B k' n':Nat}{v v':aj}{xs':List aj}(h:w.ownsRow B T k v n xs)(h':w.ownsRow B' T' k' v' n' xs')(hT:T'≠T):v.ownBlock=J\/v.ownBlock≠v'.ownBlock:=by
 rcases h'.2 with⟨rfl,_⟩|⟨g,cap,cur,rfl,_,gS,_⟩
 ·by_cases e:v.ownBlock=J
  ·exact cF e
  exact bk e
 exact bk (eu h gS hT)
def JN{B:Nat}(h:w.ownsRow B T k (ak (U (ar g 0 J)) n cap) n xs)(u:aj):(w.setCell (ar g i J) u).ownsRow B T k (ak (U (ar g 0 J)) n cap) n (xs.set i u):=by
 obtain⟨h1,h2|⟨g',cap',cur,a,b,c,d,e,f,q⟩⟩:=h
 ·cases h2.1
 simp only[Value.slice.injEq,gQ,Addr.mk.injEq,and_true,true_and]at a;obtain⟨rfl,rfl⟩:=a
 refine⟨by rw[List.length_set];exact h1,bk ⟨g,cap,cur.setIfInBounds i u,rfl,b,?_,d,e,by rw[Array.size_setIfInBounds];exact f,?_⟩⟩
 ·simp[cZ,fR,c]
 rw[Array.toList_setIfInBounds,List.take_set,q]
def o8(w:ah)(g i:Nat)(u:aj):w.grownBy (w.setCell (ar g i J) u) (U g):=⟨rfl,rfl,rfl,by simp[cZ],λk _ hk=>Below.heap_setCell _ _ _ _ (λe=>hk (by simp[e]))⟩
def dU.kept{B:Nat}(h:dU B w e x)(hg:w.grownBy w' r)(hp:x.p.ownBlock=J\/x.p.ownBlock≠r)(hG:x.g.ownBlock=J\/x.g.ownBlock≠r)(he:x.e.ownBlock=J\/x.e.ownBlock≠r)(hf:x.f.ownBlock=J\/x.f.ownBlock≠r)(hl:x.l.ownBlock=J\/x.l.ownBlock≠r):dU B w' e x:=
 ⟨d_ h.hp hg hp,d_ h.hg hg hG,d_ h.he hg he,d_ h.hf hg hf,d_ h.hl hg hl⟩
def dU.other{B:Nat}(h:dU B w e x)(hg:w.grownBy w' (U b)){c:Array aj}(hb:w.heap[b]?=U (ay c T fr))(h1:T≠9)(h2:T≠85)(h3:T≠86)(h4:T≠3):dU B w' e x:=
 h.kept hg (bk (eu h.hp hb h1)) (bk (eu h.hg hb h2)) (bk (eu h.he hb h3)) (bk (eu h.hf hb h4)) (bk (eu h.hl hb h4))
def dU.mapped{B:Nat}(h:dU B w e x)(hg:w.grownBy w' (U b)){es:Array MapEntry}(hb:w.heap[b]?=U (.map es cl)):dU B w' e x:=
 h.kept hg (bk (xh h.hp hb)) (bk (xh h.hg hb)) (bk (xh h.he hb)) (bk (xh h.hf hb)) (bk (xh h.hl hb))
def dU.far{B:Nat}(h:dU B w e x)(hL:vr L x)(hr:∀b,r=U b->L<=b)(hg:w.grownBy w' r):dU B w' e x:=by
 have k:∀v:aj,(∀b,v.ownBlock=U b->b<L)->v.ownBlock=J\/v.ownBlock≠r:=λv hv=>by
  cases e:v.ownBlock with
  |none=>exact cF rfl
  |some b=>exact bk (λe2=>by have:=hv b e;have:=hr b e2.symm;omega)
 exact h.kept hg (k _ hL.p) (k _ hL.g) (k _ hL.e) (k _ hL.f) (k _ hL.l)
def PQ{a b:Option Nat}(h:a=J\/a≠b):b=J\/b≠a:=by
 rcases h with rfl|h
 ·cases b with
  |none=>exact cF rfl
  |some=>exact bk (by simp)
 exact bk h.symm
def gq(c:aV)(ev:aj)(last:Int)(mv:aj):Array aj:=#[af I c.closed,af I c.opn,af I c.cycle,af I c.bO,ev,af I last,mv]
structure nN(B rb:Nat)(w:ah)(c:aV)(last:Int):Prop where
 lo:B<=rb
 nil:c.az=[]
 row:w.heap[rb]?=U (ay (gq c (ak J 0 0) last (.map J)) 123 (0,0))
structure jF(B rb L g cap mb:Nat)(w:ah)(c:aV)(last:Int)(es:List aG)(e:aG)(x:bJ)(cells:List aj):Prop where
 lo:B<=rb
 ll:B<=L
 xi:B<=mb
 row:w.heap[rb]?=U (ay (gq c (ak (U (ar g 0 J)) (es.length+1) cap) last (.map (U mb))) 123 (0,0))
 az:w.ownsRow B 60 10 (ak (U (ar g 0 J)) (es.length+1) cap) (es.length+1) (cells++(x.row e).toList)
 ic:cells.length=es.length*10
 olds:∀(i:Nat) e',es[i]?=U e'->∃x',dU B w e' x'/\vr L x'/\∀(j:Nat) u,(x'.row e')[j]?=U u->cells[i*10+j]?=U u
 new:dU L w e x
 fl:x.f.ownBlock=J\/x.f.ownBlock≠x.l.ownBlock
structure dh(B rb L g cap mb:Nat)(w:ah)(c:aV)(last:Int)(es:List aG)(e:aG)(x:bJ)(cells:List aj):Prop extends jF B rb L g cap mb w c last es e x cells where
 map:∃D:DataW Unit,w.ownsMap prog 9 (plainElem prog 3) mb e.au.length D/\vp D e.au
def jF.grow{B mb:Nat}{last:Int}(h:jF B rb L g cap mb w c last es e x cells):∃cur,w.heap[g]?=U (ay cur 60 (0,0))/\B<=g:=by
 rcases h.az.2 with⟨h1,_⟩|⟨g',cap',cur,a,b,c',_⟩
 ·cases h1
 simp only[Value.slice.injEq,gQ,Addr.mk.injEq,and_true,true_and]at a;obtain⟨rfl,rfl⟩:=a;exact⟨cur,c',b⟩
def jF.iY{B mb:Nat}{last:Int}(h:jF B rb L g cap mb w c last es e x cells)(hu:(x.row e)[j]?=U u):w.cell? ⟨g,es.length*10+j,J⟩=U u/\w.frozen? ⟨g,es.length*10+j,J⟩=false:=by
 obtain⟨cur,hc,-⟩:=h.grow
 refine⟨?_,by simp[bE,hc]⟩;have:=h.az.cells (g:=g) rfl (es.length*10+j) u (by rw[pE (by rw[h.ic];omega),h.ic,yK,oI];exact hu);rw[oM]at this;simpa using this
def jF.below{B mb:Nat}{last:Int}(h:jF B rb L g cap mb w c last es e x cells)(hb:Below w.heap.size w w'):jF B rb L g cap mb w' c last es e x cells:=by
 have hg:w.grownBy w' J:=⟨hb.os,hb.tape,hb.output,hb.size,λk hk _=>hb.block k hk⟩;have k:∀v:aj,v.ownBlock=J\/v.ownBlock≠J:=λv=>by by_cases e:v.ownBlock=J;exact cF e;exact bk e
 have kx:∀{B:Nat} {e:aG} {x:bJ},dU B w e x->dU B w' e x:=λhx=>hx.kept hg (k _) (k _) (k _) (k _) (k _)
 refine⟨h.lo,h.ll,h.xi,cX hb h.row,h.az.kept hg (k _),h.ic,λi e' he=>?_,kx h.new,h.fl⟩;obtain⟨x',a,b,d⟩:=h.olds i e' he;exact⟨x',kx a,b,d⟩
def dh.below{B mb:Nat}{last:Int}(h:dh B rb L g cap mb w c last es e x cells)(hb:Below w.heap.size w w'):dh B rb L g cap mb w' c last es e x cells:=by
 refine⟨h.tojF.below hb,?_⟩;obtain⟨D,a,b⟩:=h.map;exact⟨D,a.kept (row:=J) ⟨hb.os,hb.tape,hb.output,hb.size,λk hk _=>hb.block k hk⟩ (by simp),b⟩
def jF.mapped{B mb:Nat}{last:Int}(h:jF B rb L g cap mb w c last es e x cells)(hg:w.grownBy w' (U b)){ms:Array MapEntry}(hb:w.heap[b]?=U (.map ms cl)):jF B rb L g cap mb w' c last es e x cells:=by
 have hne:rb≠b:=λe2=>by rw[<- e2,h.row]at hb;cases hb
 refine⟨h.lo,h.ll,h.xi,(hg.block rb (cU h.row) (by simpa using hne)).trans h.row,h.az.kept hg (bk (xh h.az hb)),h.ic,λi e' he=>?_,h.new.mapped hg hb,h.fl⟩;obtain⟨x',a,b',d⟩:=h.olds i e' he;exact⟨x',a.mapped hg hb,b',d⟩
def dh.JO{B mb:Nat}{last:Int}(h:dh B rb L g cap mb w c last es e x cells)(j:Nat)(u:aj)(hr:(x.row e).toList.set j u=(x'.row e').toList)(hx:dU L w e' x')(vu:x'.f.ownBlock=J\/x'.f.ownBlock≠x'.l.ownBlock)(aah:e'.au=e.au):dh B rb L g cap mb (w.setCell ⟨g,es.length*10+j,J⟩ u) c last es e' x' cells:=by
 obtain⟨cur,hc,hB⟩:=h.grow;have hg:=o8 w g (es.length*10+j) u;have hne:rb≠g:=λe2=>by rw[<- e2,h.row]at hc;simp at hc
 refine⟨⟨h.lo,h.ll,h.xi,(hg.block rb (cU h.row) (by simpa using hne)).trans h.row,?_,h.ic,λi e2 he=>?_,?_,vu⟩,?_⟩
 ·have:=JN (i:=es.length*10+j) h.az u;rw[List.set_append_right _ _ (by rw[h.ic];omega),h.ic,yK,hr]at this;exact this
 ·obtain⟨y,a,b,d⟩:=h.olds i e2 he;exact⟨y,a.other hg hc (aD rfl) (aD rfl) (aD rfl) (aD rfl),b,d⟩
 ·exact hx.other hg hc (aD rfl) (aD rfl) (aD rfl) (aD rfl)
 obtain⟨D,⟨es',cl,a1,a2⟩,b⟩:=h.map;rw[<- aah]at a2 b
 refine⟨D,⟨es',cl,(hg.block mb (cU a1) (λe2=>?_)).trans a1,a2⟩,b⟩;simp only[gQ]at e2;rw[e2,hc]at a1
 cases a1
def jF.app{B mb:Nat}{last:Int}(h:jF B rb L g cap mb w c last es e x cells)(hgr:w.grownBy w' r)(hL:∀b,r=U b->L<=b)(iZ:r≠U rb)(hrg:r≠U g)(j:Nat)(u:aj)(hr:(x.row e).toList.set j u=(x'.row e').toList)(hx:dU L w' e' x')(vu:x'.f.ownBlock=J\/x'.f.ownBlock≠x'.l.ownBlock)
  (hm:∃D:DataW Unit,w'.ownsMap prog 9 (plainElem prog 3) mb e'.au.length D/\vp D e'.au):dh B rb L g cap mb (w'.setCell ⟨g,es.length*10+j,J⟩ u) c last es e' x' cells:=by
 obtain⟨cur,hc,hB⟩:=h.grow;have hc':=(hgr.block g (cU hc) (λe2=>hrg e2.symm)).trans hc;have hrow:=(hgr.block rb (cU h.row) (λe2=>iZ e2.symm)).trans h.row;have aai:=h.az.kept hgr (bk (λe2=>hrg e2.symm));have hg:=o8 w' g (es.length*10+j) u;have hne:rb≠g:=λe2=>by rw[<- e2,h.row]at hc;simp at hc
 refine⟨⟨h.lo,h.ll,h.xi,(hg.block rb (cU hrow) (by simpa using hne)).trans hrow,?_,h.ic,λi e2 he=>?_,?_,vu⟩,?_⟩
 ·have:=JN (i:=es.length*10+j) aai u;rw[List.set_append_right _ _ (by rw[h.ic];omega),h.ic,yK,hr]at this;exact this
 ·obtain⟨y,a,b,d⟩:=h.olds i e2 he;exact⟨y,(a.far b hL hgr).other hg hc' (aD rfl) (aD rfl) (aD rfl) (aD rfl),b,d⟩
 ·exact hx.other hg hc' (aD rfl) (aD rfl) (aD rfl) (aD rfl)
 obtain⟨D,⟨es',cl,a1,a2⟩,b⟩:=hm
 refine⟨D,⟨es',cl,(hg.block mb (cU a1) (λe2=>?_)).trans a1,a2⟩,b⟩;simp only[gQ]at e2;rw[e2,hc']at a1
 cases a1
def dh.Fs{B mb:Nat}{last:Int}{v:aj}(h:dh B rb L g cap mb w c last es e x cells)(hv:w.ownsRow B' T k v n xs)(hgr:w.grownBy w' v.ownBlock):∃D:DataW Unit,w'.ownsMap prog 9 (plainElem prog 3) mb e.au.length D/\vp D e.au:=by
 obtain⟨D,a,b⟩:=h.map;obtain⟨es',cl,a1,a2⟩:=id a;exact⟨D,a.kept hgr (λe2=>xh hv a1 e2.symm),b⟩
def jF.JP{B mb:Nat}{last:Int}(h:jF B rb L g cap mb w c last es e x cells)(q:ByteArray)(hm:∃D:DataW Unit,w.ownsMap prog 9 (plainElem prog 3) mb (e.au.length+1) D/\vp D (e.au++[q]))(hgr:w.grownBy w' x.p.ownBlock)(hown:w'.ownsRow L 9 1 (.slice (U (ar g' 0 J)) (e.au.length+1) cap') (e.au.length+1) (e.au.flatMap gg++gg q)):dh B rb L g cap mb (w'.setCell ⟨g,es.length*10+2,J⟩ (.slice (U (ar g' 0 J)) (e.au.length+1) cap')) c last es { e with au:=e.au++[q] } { x with p:=.slice (U (ar g' 0 J)) (e.au.length+1) cap' } cells:=by
 obtain⟨cur,hc,-⟩:=h.grow
 refine h.app hgr (λb hb=>(h.new.hp.lt b hb).1) (eu h.new.hp h.row (aD rfl)) (eu h.new.hp hc (aD rfl)) 2 _ rfl ⟨(by show w'.ownsRow _ _ _ _ _ _;simpa[fj]using hown),d_ h.new.hg hgr (fC h.new.hg h.new.hp (aD rfl)),d_ h.new.he hgr (fC h.new.he h.new.hp (aD rfl)),d_ h.new.hf hgr (fC h.new.hf h.new.hp (aD rfl)),d_ h.new.hl hgr (fC h.new.hl h.new.hp (aD rfl))⟩ h.fl ?_;obtain⟨D,a,b⟩:=hm;obtain⟨es',cl,a1,a2⟩:=id a;exact⟨D,by simpa using a.kept hgr (λe2=>xh h.new.hp a1 e2.symm),b⟩
def dh.JQ{B mb:Nat}{last:Int}(h:dh B rb L g cap mb w c last es e x cells)(q:lx)(hgr:w.grownBy w' x.g.ownBlock)(hown:w'.ownsRow L 85 4 (ak (U (ar g' 0 J)) (e.aP.length+1) cap') (e.aP.length+1) (e.aP.flatMap j7++j7 q)):dh B rb L g cap mb (w'.setCell ⟨g,es.length*10+6,J⟩ (ak (U (ar g' 0 J)) (e.aP.length+1) cap')) c last es { e with aP:=e.aP++[q] } { x with g:=(ak (U (ar g' 0 J)) (e.aP.length+1) cap') } cells:=by
 obtain⟨cur,hc,-⟩:=h.grow
 refine h.tojF.app hgr (λb hb=>(h.new.hg.lt b hb).1) (eu h.new.hg h.row (aD rfl)) (eu h.new.hg hc (aD rfl)) 6 _ rfl ⟨(d_ h.new.hp hgr (fC h.new.hp h.new.hg (aD rfl))),(by show w'.ownsRow _ _ _ _ _ _;simpa[fj]using hown),(d_ h.new.he hgr (fC h.new.he h.new.hg (aD rfl))),(d_ h.new.hf hgr (fC h.new.hf h.new.hg (aD rfl))),(d_ h.new.hl hgr (fC h.new.hl h.new.hg (aD rfl)))⟩ (h.fl) (h.Fs h.new.hg hgr)
def dh.JR{B mb:Nat}{last:Int}(h:dh B rb L g cap mb w c last es e x cells)(q:(Int×Int))(hgr:w.grownBy w' x.e.ownBlock)(hown:w'.ownsRow L 86 2 (ak (U (ar g' 0 J)) (e.aN.length+1) cap') (e.aN.length+1) (e.aN.flatMap kU++kU q)):dh B rb L g cap mb (w'.setCell ⟨g,es.length*10+7,J⟩ (ak (U (ar g' 0 J)) (e.aN.length+1) cap')) c last es { e with aN:=e.aN++[q] } { x with e:=(ak (U (ar g' 0 J)) (e.aN.length+1) cap') } cells:=by
 obtain⟨cur,hc,-⟩:=h.grow
 refine h.tojF.app hgr (λb hb=>(h.new.he.lt b hb).1) (eu h.new.he h.row (aD rfl)) (eu h.new.he hc (aD rfl)) 7 _ rfl ⟨(d_ h.new.hp hgr (fC h.new.hp h.new.he (aD rfl))),(d_ h.new.hg hgr (fC h.new.hg h.new.he (aD rfl))),(by show w'.ownsRow _ _ _ _ _ _;simpa[fj]using hown),(d_ h.new.hf hgr (fC h.new.hf h.new.he (aD rfl))),(d_ h.new.hl hgr (fC h.new.hl h.new.he (aD rfl)))⟩ (h.fl) (h.Fs h.new.he hgr)
def dh.JS{B mb:Nat}{last:Int}(h:dh B rb L g cap mb w c last es e x cells)(q:Int)(hgr:w.grownBy w' x.f.ownBlock)(hown:w'.ownsRow L 3 1 (ak (U (ar g' 0 J)) (e.first.length+1) cap') (e.first.length+1) (e.first.flatMap bc++bc q))(hne:∀b,x.l.ownBlock=U b->b≠g'):dh B rb L g cap mb (w'.setCell ⟨g,es.length*10+8,J⟩ (ak (U (ar g' 0 J)) (e.first.length+1) cap')) c last es { e with first:=e.first++[q] } { x with f:=(ak (U (ar g' 0 J)) (e.first.length+1) cap') } cells:=by
 obtain⟨cur,hc,-⟩:=h.grow
 refine h.tojF.app hgr (λb hb=>(h.new.hf.lt b hb).1) (eu h.new.hf h.row (aD rfl)) (eu h.new.hf hc (aD rfl)) 8 _ rfl ⟨(d_ h.new.hp hgr (fC h.new.hp h.new.hf (aD rfl))),(d_ h.new.hg hgr (fC h.new.hg h.new.hf (aD rfl))),(d_ h.new.he hgr (fC h.new.he h.new.hf (aD rfl))),(by show w'.ownsRow _ _ _ _ _ _;simpa[fj]using hown),(d_ h.new.hl hgr (PQ h.fl))⟩ (bk (λe1=>hne g' e1.symm rfl)) (h.Fs h.new.hf hgr)
def dh.JU{B mb:Nat}{last:Int}(h:dh B rb L g cap mb w c last es e x cells)(q:Int)(hgr:w.grownBy w' x.l.ownBlock)(hown:w'.ownsRow L 3 1 (ak (U (ar g' 0 J)) (e.last.length+1) cap') (e.last.length+1) (e.last.flatMap bc++bc q))(hne:∀b,x.f.ownBlock=U b->b≠g'):dh B rb L g cap mb (w'.setCell ⟨g,es.length*10+9,J⟩ (ak (U (ar g' 0 J)) (e.last.length+1) cap')) c last es { e with last:=e.last++[q] } { x with l:=(ak (U (ar g' 0 J)) (e.last.length+1) cap') } cells:=by
 obtain⟨cur,hc,-⟩:=h.grow
 refine h.tojF.app hgr (λb hb=>(h.new.hl.lt b hb).1) (eu h.new.hl h.row (aD rfl)) (eu h.new.hl hc (aD rfl)) 9 _ rfl ⟨(d_ h.new.hp hgr (fC h.new.hp h.new.hl (aD rfl))),(d_ h.new.hg hgr (fC h.new.hg h.new.hl (aD rfl))),(d_ h.new.he hgr (fC h.new.he h.new.hl (aD rfl))),(d_ h.new.hf hgr h.fl),(by show w'.ownsRow _ _ _ _ _ _;simpa[fj]using hown)⟩ ((by cases e1:x.f.ownBlock with|none=>exact cF rfl|some b=>exact bk (λe2=>hne b e1 (b_ e2)))) (h.Fs h.new.hl hgr)
abbrev AB (w:World):Obj:=(.cells #[.iface 218 (.pointer (some ⟨w.heap.size,0,none⟩))] 20)
structure jG(w:ah)(sa:Option av)(ws:List ByteArray)(wb wo:Nat):Prop where
 blk:∃c fr,w.heap[wb]?=U (ay c 9 fr)
 sa:ws≠[]->sa=U ⟨wb,wo,J⟩
 qc:∀(i:Nat) s,ws[i]?=U s->w.cell? ⟨wb,wo+i,J⟩=U (aB s)
 sz:∀s∈ws,s.size<=1000000
 few:ws.length<=1000000
def jG.below(h:jG w sa ws wb wo)(hb:Below w.heap.size w w'):jG w' sa ws wb wo:=by
 obtain⟨c,fr,e⟩:=h.blk;exact⟨⟨c,fr,cX hb e⟩,h.sa,λi s hs=>aA hb (h.qc i s hs),h.sz,h.few⟩
def jG.lt(h:jG w sa ws wb wo):wb<w.heap.size:=by
 obtain⟨c,fr,e⟩:=h.blk;exact cU e
def dh.AE{B mb:Nat}{last:Int}(h:dh B rb L g cap mb w c last es e x cells):Fl w rb mb e.au:=⟨by simp[aL,h.row,gq],h.map⟩
def AG{W W':ah}(hb:Below w.heap.size w W)(ht:∀t∈tg,w.heap.size<=t.1)(hf:Below W.heap.size (bZ W tg us) W'):Below w.heap.size w W':=
 hb.trans ((yP w.heap.size W tg us ht).trans (hf.mono hb.size))
def yS(w:ah)(T:TypeId)(u v:aj):((w.alloc (ay #[u] T)).alloc (ay #[v] T)).cell? ⟨w.heap.size,0,J⟩=U u/\((w.alloc (ay #[u] T)).alloc (ay #[v] T)).cell? ⟨w.heap.size+1,0,J⟩=U v:=by
 constructor
 ·rw[kD _ _ _ (by simp),fE _ _ _ _ rfl];rfl
 have e:w.heap.size+1=(w.alloc (ay #[u] T)).heap.size:=by simp
 rw[e,fE _ _ _ _ rfl];rfl
def vv(w:ah)(j o:Nat):w.frozen? ⟨w.heap.size+j,o,J⟩=false:=by
 unfold bE;simp only;rw[sO (by omega)]
def Fu{w0 w2 w8:ah}{mb:Nat}{last:Int}{ob:Obj}(h0:Below w0.heap.size w0 w)(h2:Below w.heap.size w w2)(hR:dh w0.heap.size rb L g cap mb w2 c last es e x cells)(aha:L<=w2.heap.size)(hg:(w2.drew.alloc ob).grownBy w8 r)(hr:∀b,r=U b->L<=b)(i:Nat)(u:aj):Below w0.heap.size w0 (w8.setCell (ar g i J) u):=by
 have b2:=h0.trans (h2.mono h0.size);have b3:=b2.trans (((aC _ w2).drew.alloc (by simp) ob).mono b2.size);obtain⟨cur,-,hB⟩:=hR.grow;exact(b3.grown hg b3.size (λk hk=>bH hR.ll (hr k hk))).setCell (p:=⟨g,i,_⟩) hB u
def PR(w:ah)(z:Int)(T:TypeId):∀(j:Nat) u,([af I z]:List aj)[j]?=U u->(w.alloc (ay #[af I z] T)).cell? ((⟨w.heap.size,0,J⟩:av).add j)=U u:=by
 intro j u hu
 match j,hu with
 |0,hu=>
  simp at hu
  subst hu;rw[oM,fE _ _ _ _ rfl];rfl
 |j+1,hu=>simp at hu
def eO{B:Nat}{v:aj}(h:w.ownsRow B T k v n xs):∃sa c,v=ak sa n c:=by
 rcases h.2 with⟨rfl,rfl⟩|⟨g,cap,cur,rfl,_⟩
 ·exact⟨_,_,rfl⟩
 exact⟨_,_,rfl⟩
def aaj(A:Nat->av)(w0 w:ah)(rb L g cap mb:Nat)(c:aV)(last:Int)(es:List aG)(e:aG)(x:bJ)(cells:List aj)(sa:Option av)(ws:List ByteArray)(wb wo wc:Nat)(hs:dD A w0)(hb0:Below w0.heap.size w0 w)(h:dh w0.heap.size rb L g cap mb w c last es e x cells)(iC:L<=w.heap.size)(hW:jG w sa ws wb wo)(hn:e.first.length<=1000000):Calls prog 107 #[ax (U (ar rb 0 J)),ax (U ⟨g,es.length*10,J⟩),af I 8,ak sa ws.length wc] w λv w'=>v=aH (bF A (aI (aM e.au) false [2] (ws.map bl)).1)/\Below w0.heap.size w0 w'/\∃(z:Int) (x':bJ),((aI (aM e.au) false [2] (ws.map bl)).1=0->∀s,ws[0]?=U s->z=(bg (aM e.au) 2 (bl s)).2)/\dh w0.heap.size rb L g cap mb w' c last es { e with first:=e.first++[z] } x' cells/\L<=w'.heap.size:=by
 obtain⟨i0,hi,hz0,hz1,hz2⟩:=ma zP;obtain⟨fa,fc,eP⟩:=eO h.new.hf;obtain⟨o,ho⟩:∃o,o=es.length*10:=⟨_,rfl⟩;have HS:ag (dD A w0/\Below _ w0 w):=⟨hs,hb0⟩;change ag _ at h hW eP iC
 rw[<- ho];clear hs hb0;change ag _ at ho;go_enter func107,ntmps107
 go_upto_region 2 with fail
 obtain⟨W1,hW1⟩:∃V,V=(w.alloc (ay #[af I 0] 216)).alloc (ay #[af I 0] 216):=⟨_,rfl⟩;rw[<- hW1];have aS:ag (Below w.heap.size w W1):=by show Below _ _ _;rw[hW1];exact(bt _ _).alloc (by simp) _
 have gu:ag (W1.heap.size=w.heap.size+2):=by show _=_;rw[hW1];simp
 have dA:ag (W1.cell? (ar w.heap.size 0 J)=U (af I 0)/\W1.frozen? (ar w.heap.size 0 J)=false):=by
  refine⟨by rw[hW1];exact(yS w ..).1,?_⟩;rw[hW1,lh,lh];exact vv w 0 0
 have lp:ag (oq w0 rb e.au [2] [(w.heap.size,0)] ws wb wo W1.heap.size (W1.alloc (AB w))):=by
  have cq:=bt W1 (AB w);have hlt:=hW.lt;have hz:=gu.o;have iZ:=cU h.row;have hsz:=HS.2.size
  refine⟨HS.2.trans ((aS.trans (cq.mono aS.size)).mono hsz),rfl,by simp,by simp,?_,?_,by simp,?_,λi s hi=>aA cq (aA aS (hW.qc i s hi)),hW.sz,λ_=>⟨mb,((h.below aS).below cq).AE⟩⟩
  ·intro i f t hf ht
   match i,hf,ht with
   |0,hf,ht=>
    simp at hf ht
    subst hf ht;exact⟨⟨_,aA cq dA.1,⟨0,rfl⟩⟩,by rw[o7 cq dA.1];exact dA.2⟩
   |i+1,hf,_=>simp at hf
  ·intro t ht;simp only[p_]at ht;subst ht;exact⟨by show w0.heap.size<=w.heap.size;exact hsz,λe2=>by have:=(o6 e2).1;omega,by show w.heap.size≠_;omega,by show w.heap.size≠_;omega⟩
  intro i f t hf ht
  match i,hf,ht with
  |0,hf,ht=>
   simp at hf ht
   subst hf ht;rw[fE _ _ _ _ rfl];rfl
  |i+1,hf,_=>simp at hf
 clear hW1;go_wp2_with fail
 apply(tQ A w0 _ rb _ [2] _ ws sa wb wo wc _ HS.1 lp hW.sa hW.few).mono;rintro v w2 ⟨rfl,us,jo,fX,fY,eX⟩;obtain⟨u,rfl⟩:∃u,us=[u]:=by
  match us,jo with
  |[u],_=>exact⟨u,rfl⟩
 obtain⟨z,rfl⟩:=fX 0 2 u rfl rfl;have HV:ag ((aI (aM e.au) false [2] (ws.map bl)).1=0->∀s,ws[0]?=U s->z=(bg (aM e.au) 2 (bl s)).2):=λh0 s hs=>by
  have:=fY h0 0 2 s _ rfl hs rfl;unfold valOf at this;rw[aF (aD rfl)]at this;exact(nM this).2
 have aO:ag _:=AG (aS.trans ((bt _ _).mono aS.size)) (λt ht=>by simp only[p_]at ht;subst ht;exact aR _) eX;have cp:w2.cell? (ar w.heap.size 0 J)=U (af I z):=by
  have h1:=yN (u:=af I z) (aA (bt W1 (AB w)) dA.1);have h2:=eX.cell (p:=⟨w.heap.size,0,J⟩) (by show w.heap.size<_;have:=gu.o;simp;omega);exact h2.trans h1
 clear jo fX fY eX lp dA;have dm:ag _:=h.below aO;have c8:w2.cell? ⟨g,o+8,J⟩=U (ak fa e.first.length fc):=by rw[ho.o,<- eP.o];exact(dm.iY (j:=8) rfl).1
 have hown:w2.drew.ownsRow L 3 1 (ak fa e.first.length fc) e.first.length (e.first.flatMap bc):=by rw[<- eP.o];exact dm.new.hf
 have jV:ag _:=bH iC.o aO.size;have mf:=jV.o;have KB:ag (∀(ob:Obj) (w8:ah),(w2.drew.alloc ob).grownBy w8 (Value.slice fa e.first.length fc).ownBlock->w8.cell? ⟨g,o+8,J⟩=U (ak fa e.first.length fc)/\w8.frozen? ⟨g,o+8,J⟩=false):=λob w8 hg=>by
  have iM:=dm.below (w':=w2.drew.alloc ob) ((aC _ w2).drew.alloc (by simp) ob);obtain⟨cur,hc,-⟩:=iM.grow;rw[<- eP.o]at hg⊢;rw[ho.o];have e1:=(hg.block g (cU hc) (λe2=>eu iM.new.hf hc (aD rfl) e2.symm));have h2:=iM.iY (j:=8) (u:=x.f) rfl;exact⟨(jc e1).trans h2.1,by have:=h2.2;unfold bE at this⊢;simp only at this⊢;rw[e1];exact this⟩
 have Fv:∀ob,(w2.alloc ob).cell? _=U _:=λob=>aA (bt _ _) c8
 go_wp2_with fail
 go_region_law (refine qa _ rfl _ _ 58 rfl L 3 i0 _ 1 8 underlying58 hi hz0 hz1 hz2 rfl (aD rfl) _ _ _ (by simp[Act.eval]) (hown.alloc _) _ 1 1 _ (by simp[Act.eval]) rfl (PR w2.drew z 3) (zQ z) (aD rfl) (by unfold maxLen;omega) (by omega) (by simp;omega) (w2.heap.size+1) (by simp) ?_;intro g' cap' w8 fG cv iD o9;have r8:=KB _ _ cv;have d1:=r8.1;have d2:=r8.2)
 all_goals
  go_wp2;go_ret
  refine⟨rfl,?_,z,{ x with f:=ak (U (ar g' 0 J)) (e.first.length+1) cap' },HV,?_,?_⟩
  ·exact Fu HS.2 aO dm jV (by rw[eP.o];exact cv) (λb hb=>(dm.new.hf.lt b hb).1) _ _
  ·rw[ho.o]
   refine(dm.below (w':=w2.drew.alloc _) ((aC _ w2).drew.alloc (by simp) _)).JS z (by rw[eP.o];exact cv) fG (λb hb e2=>?_);subst e2
   rcases iD with h1|h1
   ·rw[<- eP.o]at h1
    rcases dm.fl with h3|h3
    ·rw[h3]at h1;cases h1
    exact h3 (h1.trans hb.symm)
   have:=vt dm.new.hl b hb;omega
  have h1:=cv.size;have h2:=jV.o;simp[cZ]at h1⊢
  omega
def aak(A:Nat->av)(w0 w:ah)(rb L g cap mb:Nat)(c:aV)(last:Int)(es:List aG)(e:aG)(x:bJ)(cells:List aj)(sa:Option av)(ws:List ByteArray)(wb wo wc:Nat)(hs:dD A w0)(hb0:Below w0.heap.size w0 w)(h:dh w0.heap.size rb L g cap mb w c last es e x cells)(iC:L<=w.heap.size)(hW:jG w sa ws wb wo)(hn:e.last.length<=1000000):Calls prog 107 #[ax (U (ar rb 0 J)),ax (U ⟨g,es.length*10,J⟩),af I 9,ak sa ws.length wc] w λv w'=>v=aH (bF A (aI (aM e.au) false [2] (ws.map bl)).1)/\Below w0.heap.size w0 w'/\∃(z:Int) (x':bJ),((aI (aM e.au) false [2] (ws.map bl)).1=0->∀s,ws[0]?=U s->z=(bg (aM e.au) 2 (bl s)).2)/\dh w0.heap.size rb L g cap mb w' c last es { e with last:=e.last++[z] } x' cells/\L<=w'.heap.size:=by
 obtain⟨i0,hi,hz0,hz1,hz2⟩:=ma zP;obtain⟨fa,fc,eP⟩:=eO h.new.hl;obtain⟨o,ho⟩:∃o,o=es.length*10:=⟨_,rfl⟩;have HS:ag (dD A w0/\Below _ w0 w):=⟨hs,hb0⟩;change ag _ at h hW eP iC
 rw[<- ho];clear hs hb0;change ag _ at ho;go_enter func107,ntmps107
 go_upto_region 2 with fail
 obtain⟨W1,hW1⟩:∃V,V=(w.alloc (ay #[af I 0] 216)).alloc (ay #[af I 0] 216):=⟨_,rfl⟩;rw[<- hW1];have aS:ag (Below w.heap.size w W1):=by show Below _ _ _;rw[hW1];exact(bt _ _).alloc (by simp) _
 have gu:ag (W1.heap.size=w.heap.size+2):=by show _=_;rw[hW1];simp
 have dA:ag (W1.cell? (ar w.heap.size 0 J)=U (af I 0)/\W1.frozen? (ar w.heap.size 0 J)=false):=by
  refine⟨by rw[hW1];exact(yS w ..).1,?_⟩;rw[hW1,lh,lh];exact vv w 0 0
 have lp:ag (oq w0 rb e.au [2] [(w.heap.size,0)] ws wb wo W1.heap.size (W1.alloc (AB w))):=by
  have cq:=bt W1 (AB w);have hlt:=hW.lt;have hz:=gu.o;have iZ:=cU h.row;have hsz:=HS.2.size
  refine⟨HS.2.trans ((aS.trans (cq.mono aS.size)).mono hsz),rfl,by simp,by simp,?_,?_,by simp,?_,λi s hi=>aA cq (aA aS (hW.qc i s hi)),hW.sz,λ_=>⟨mb,((h.below aS).below cq).AE⟩⟩
  ·intro i f t hf ht
   match i,hf,ht with
   |0,hf,ht=>
    simp at hf ht
    subst hf ht;exact⟨⟨_,aA cq dA.1,⟨0,rfl⟩⟩,by rw[o7 cq dA.1];exact dA.2⟩
   |i+1,hf,_=>simp at hf
  ·intro t ht;simp only[p_]at ht;subst ht;exact⟨by show w0.heap.size<=w.heap.size;exact hsz,λe2=>by have:=(o6 e2).1;omega,by show w.heap.size≠_;omega,by show w.heap.size≠_;omega⟩
  intro i f t hf ht
  match i,hf,ht with
  |0,hf,ht=>
   simp at hf ht
   subst hf ht;rw[fE _ _ _ _ rfl];rfl
  |i+1,hf,_=>simp at hf
 clear hW1;go_wp2_with fail
 apply(tQ A w0 _ rb _ [2] _ ws sa wb wo wc _ HS.1 lp hW.sa hW.few).mono;rintro v w2 ⟨rfl,us,jo,fX,fY,eX⟩;obtain⟨u,rfl⟩:∃u,us=[u]:=by
  match us,jo with
  |[u],_=>exact⟨u,rfl⟩
 obtain⟨z,rfl⟩:=fX 0 2 u rfl rfl;have HV:ag ((aI (aM e.au) false [2] (ws.map bl)).1=0->∀s,ws[0]?=U s->z=(bg (aM e.au) 2 (bl s)).2):=λh0 s hs=>by
  have:=fY h0 0 2 s _ rfl hs rfl;unfold valOf at this;rw[aF (aD rfl)]at this;exact(nM this).2
 have aO:ag _:=AG (aS.trans ((bt _ _).mono aS.size)) (λt ht=>by simp only[p_]at ht;subst ht;exact aR _) eX;have cp:w2.cell? (ar w.heap.size 0 J)=U (af I z):=by
  have h1:=yN (u:=af I z) (aA (bt W1 (AB w)) dA.1);have h2:=eX.cell (p:=⟨w.heap.size,0,J⟩) (by show w.heap.size<_;have:=gu.o;simp;omega);exact h2.trans h1
 clear jo fX fY eX lp dA;have dm:ag _:=h.below aO;have c8:w2.cell? ⟨g,o+9,J⟩=U (ak fa e.last.length fc):=by rw[ho.o,<- eP.o];exact(dm.iY (j:=9) rfl).1
 have hown:w2.drew.ownsRow L 3 1 (ak fa e.last.length fc) e.last.length (e.last.flatMap bc):=by rw[<- eP.o];exact dm.new.hl
 have jV:ag _:=bH iC.o aO.size;have mf:=jV.o;have KB:ag (∀(ob:Obj) (w8:ah),(w2.drew.alloc ob).grownBy w8 (Value.slice fa e.last.length fc).ownBlock->w8.cell? ⟨g,o+9,J⟩=U (ak fa e.last.length fc)/\w8.frozen? ⟨g,o+9,J⟩=false):=λob w8 hg=>by
  have iM:=dm.below (w':=w2.drew.alloc ob) ((aC _ w2).drew.alloc (by simp) ob);obtain⟨cur,hc,-⟩:=iM.grow;rw[<- eP.o]at hg⊢;rw[ho.o];have e1:=(hg.block g (cU hc) (λe2=>eu iM.new.hl hc (aD rfl) e2.symm));have h2:=iM.iY (j:=9) (u:=x.l) rfl;exact⟨(jc e1).trans h2.1,by have:=h2.2;unfold bE at this⊢;simp only at this⊢;rw[e1];exact this⟩
 have Fv:∀ob,(w2.alloc ob).cell? _=U _:=λob=>aA (bt _ _) c8
 go_wp2_with fail
 go_region_law (refine qa _ rfl _ _ 58 rfl L 3 i0 _ 1 8 underlying58 hi hz0 hz1 hz2 rfl (aD rfl) _ _ _ (by simp[Act.eval]) (hown.alloc _) _ 1 1 _ (by simp[Act.eval]) rfl (PR _ z 3) (zQ z) (aD rfl) (by unfold maxLen;omega) (by omega) (by simp;omega) (w2.heap.size+1) (by simp) ?_;intro g' cap' w8 fG cv iD o9;have r8:=KB _ _ cv;have d1:=r8.1;have d2:=r8.2)
 all_goals
  go_wp2;go_ret
  refine⟨rfl,?_,z,{ x with l:=ak (U (ar g' 0 J)) (e.last.length+1) cap' },HV,?_,?_⟩
  ·exact Fu HS.2 aO dm jV (by rw[eP.o];exact cv) (λb hb=>(dm.new.hl.lt b hb).1) _ _
  ·rw[ho.o]
   refine(dm.below (w':=w2.drew.alloc _) ((aC _ w2).drew.alloc (by simp) _)).JU z (by rw[eP.o];exact cv) fG (λb hb e2=>?_);subst e2
   rcases iD with h1|h1
   ·rw[<- eP.o]at h1
    rcases dm.fl with h3|h3
    ·rw[h3]at hb;cases hb
    exact h3 (hb.trans h1.symm)
   have:=vt dm.new.hf b hb;omega
  have h1:=cv.size;have h2:=jV.o;simp[cZ]at h1⊢
  omega
abbrev rZ (w:World):Obj:=(.cells #[.iface 218 (.pointer (some ⟨w.heap.size,0,none⟩)),.iface 218 (.pointer (some ⟨w.heap.size+1,0,none⟩)),.iface 192 (.pointer (some ⟨w.heap.size+2,2,none⟩)),.iface 192 (.pointer (some ⟨w.heap.size+2,3,none⟩))] 20)
abbrev Fw (w:World):Obj:=(.cells #[.iface 218 (.pointer (some ⟨w.heap.size,0,none⟩)),.iface 218 (.pointer (some ⟨w.heap.size+1,0,none⟩))] 20)
def yT:∀(w:ah) (tg:List (Nat×Nat)) (us:List aj) (i:Nat) (t:Nat×Nat) (u:aj),tg.Nodup->tg[i]?=U t->us[i]?=U u->(∃o,w.cell? ⟨t.1,t.2,J⟩=U o)->(bZ w tg us).cell? ⟨t.1,t.2,J⟩=U u
 |w,[],us,i,t,u,_,h,_,_=>by simp at h
 |w,a::as',[],i,t,u,_,_,h,_=>by simp at h
 |w,a::as',v::vs,0,t,u,hd,h1,h2,⟨o,ho⟩=>by
  simp at h1 h2
  subst h1 h2;rw[bZ,yO _ _ _ _ _ (λx hx e=>by
   have:=(List.nodup_cons.1 hd).1;exact this (by rw[show a=x from e.symm];exact hx))]
  exact yN ho
 |w,a::as',v::vs,i+1,t,u,hd,h1,h2,⟨o,ho⟩=>by
  rw[bZ];have hm:=fQ (by simpa using h1);have hne:a≠t:=λe=>(List.nodup_cons.1 hd).1 (by rw[e];exact hm)
  refine yT _ as' vs i t u (List.nodup_cons.1 hd).2 (by simpa using h1) (by simpa using h2) ⟨o,?_⟩;rw[qR (by
   by_cases e:a.1=t.1
   ·exact bk (λe2=>hne (Prod.ext e e2))
   exact cF e) rfl rfl]
  exact ho
def AH(w:ah)(cs:List aj)(T:TypeId):∀(j:Nat) u,cs[j]?=U u->(w.alloc (ay cs.toArray T)).cell? ((⟨w.heap.size,0,J⟩:av).add j)=U u:=by
 intro j u hu;rw[oM,fE _ _ _ _ rfl];simpa using hu
def aal(A:Nat->av)(w0 w:ah)(rb L g cap mb:Nat)(c:aV)(last:Int)(es:List aG)(e:aG)(x:bJ)(cells:List aj)(sa:Option av)(ws:List ByteArray)(wb wo wc:Nat)(hs:dD A w0)(hb0:Below w0.heap.size w0 w)(h:dh w0.heap.size rb L g cap mb w c last es e x cells)(iC:L<=w.heap.size)(hW:jG w sa ws wb wo)(hn:e.aN.length<=1000000):Calls prog 107 #[ax (U (ar rb 0 J)),ax (U ⟨g,es.length*10,J⟩),af I 7,ak sa ws.length wc] w λv w'=>v=aH (bF A (aI (aM e.au) false [2,2] (ws.map bl)).1)/\Below w0.heap.size w0 w'/\∃(z0 z1:Int) (x':bJ),((aI (aM e.au) false [2,2] (ws.map bl)).1=0->(∀s,ws[0]?=U s->z0=(bg (aM e.au) 2 (bl s)).2)/\(∀s,ws[1]?=U s->z1=(bg (aM e.au) 2 (bl s)).2))/\dh w0.heap.size rb L g cap mb w' c last es { e with aN:=e.aN++[(z0,z1)] } x' cells/\L<=w'.heap.size:=by
 obtain⟨i0,hi,hz0,hz1,hz2⟩:=ma Ma;obtain⟨fa,fc,eP⟩:=eO h.new.he;obtain⟨o,ho⟩:∃o,o=es.length*10:=⟨_,rfl⟩;have HS:ag (dD A w0/\Below _ w0 w):=⟨hs,hb0⟩;change ag _ at h hW eP iC
 rw[<- ho];clear hs hb0;change ag _ at ho;go_enter func107,ntmps107
 go_upto_region 2 with fail
 obtain⟨W1,hW1⟩:∃V,V=(w.alloc (ay #[af I 0] 216)).alloc (ay #[af I 0] 216):=⟨_,rfl⟩;rw[<- hW1];have aS:ag (Below w.heap.size w W1):=by show Below _ _ _;rw[hW1];exact(bt _ _).alloc (by simp) _
 have gu:ag (W1.heap.size=w.heap.size+2):=by show _=_;rw[hW1];simp
 have fO:ag (W1.cell? (ar w.heap.size 0 J)=U (af I 0)/\W1.frozen? (ar w.heap.size 0 J)=false):=by
  refine⟨by rw[hW1];exact(yS w ..).1,?_⟩;rw[hW1,lh,lh];exact vv w 0 0
 have dA:ag (W1.cell? ⟨w.heap.size+1,0,J⟩=U (af I 0)/\W1.frozen? ⟨w.heap.size+1,0,J⟩=false):=by
  refine⟨by rw[hW1];exact(yS w ..).2,?_⟩;rw[hW1,lh,lh];exact vv w 1 0
 have lp:ag (oq w0 rb e.au [2,2] [(w.heap.size,0),(w.heap.size+1,0)] ws wb wo W1.heap.size (W1.alloc (Fw w))):=by
  have cq:=bt W1 (Fw w);have hlt:=hW.lt;have hz:=gu.o;have iZ:=cU h.row;have hsz:=HS.2.size
  refine⟨HS.2.trans ((aS.trans (cq.mono aS.size)).mono hsz),rfl,by simp,by simp,?_,?_,by simp,?_,λi s hi=>aA cq (aA aS (hW.qc i s hi)),hW.sz,λ_=>⟨mb,((h.below aS).below cq).AE⟩⟩
  ·intro i f t hf ht
   match i,hf,ht with
   |0,hf,ht=>
    simp at hf ht
    subst hf ht;exact⟨⟨_,aA cq fO.1,⟨0,rfl⟩⟩,by rw[o7 cq fO.1];exact fO.2⟩
   |1,hf,ht=>
    simp at hf ht
    subst hf ht;exact⟨⟨_,aA cq dA.1,⟨0,rfl⟩⟩,by rw[o7 cq dA.1];exact dA.2⟩
   |i+2,hf,_=>simp at hf
  ·intro t ht;simp only[fu,ik,iI]at ht
   rcases ht with rfl|rfl
   all_goals exact⟨by simp only[];omega,λe2=>by have:=(o6 e2).1;omega,by simp only[];omega,by simp only[];omega⟩
  intro i f t hf ht
  match i,hf,ht with
  |0,hf,ht=>
   simp at hf ht
   subst hf ht;rw[fE _ _ _ _ rfl];rfl
  |1,hf,ht=>
   simp at hf ht
   subst hf ht;rw[fE _ _ _ _ rfl];rfl
  |i+2,hf,_=>simp at hf
 clear hW1;go_wp2_with fail
 apply(tQ A w0 _ rb _ _ _ ws sa wb wo wc _ HS.1 lp hW.sa hW.few).mono;rintro v w2 ⟨rfl,us,jo,fX,fY,eX⟩;obtain⟨u0,u1,rfl⟩:∃u0 u1,us=[u0,u1]:=by
  match us,jo with
  |[u0,u1],_=>exact⟨u0,u1,rfl⟩
 obtain⟨z0,rfl⟩:=fX 0 2 u0 rfl rfl;obtain⟨z1,rfl⟩:=fX 1 2 u1 rfl rfl;have HV:ag ((aI (aM e.au) false [2,2] (ws.map bl)).1=0->(∀s,ws[0]?=U s->z0=(bg (aM e.au) 2 (bl s)).2)/\(∀s,ws[1]?=U s->z1=(bg (aM e.au) 2 (bl s)).2)):=λh0=>⟨(λs hs=>by have:=fY h0 0 2 s _ rfl hs rfl;unfold valOf at this;rw[aF (aD rfl)]at this;exact(nM this).2),(λs hs=>by have:=fY h0 1 2 s _ rfl hs rfl;unfold valOf at this;rw[aF (aD rfl)]at this;exact(nM this).2)⟩
 have aO:ag _:=AG (aS.trans ((bt _ _).mono aS.size)) (λt ht=>by
  simp only[fu,ik,iI]at ht
  rcases ht with rfl|rfl
  all_goals (simp only[];omega)) eX
 have PS:w2.cell? (ar w.heap.size 0 J)=U (af I z0):=by
  have h1:=yT (W1.alloc (Fw w)) [(w.heap.size,0),(w.heap.size+1,0)] [af I z0,af I z1] 0 _ _ (by simp) rfl rfl ⟨_,aA (bt _ _) fO.1⟩;exact(eX.cell (p:=⟨_,0,_⟩) (by have:=gu.o;simp;omega)).trans h1
 have PT:w2.cell? ⟨w.heap.size+1,0,J⟩=U (af I z1):=by
  have h1:=yT (W1.alloc (Fw w)) [(w.heap.size,0),(w.heap.size+1,0)] [af I z0,af I z1] 1 _ _ (by simp) rfl rfl ⟨_,aA (bt _ _) dA.1⟩;exact(eX.cell (p:=⟨_,0,_⟩) (by have:=gu.o;simp;omega)).trans h1
 clear jo fX fY eX lp fO dA;have dm:ag _:=h.below aO;have c8:w2.cell? ⟨g,o+7,J⟩=U (ak fa e.aN.length fc):=by rw[ho.o,<- eP.o];exact(dm.iY (j:=7) rfl).1
 have hown:w2.drew.ownsRow L 86 2 (ak fa e.aN.length fc) e.aN.length (e.aN.flatMap kU):=by rw[<- eP.o];exact dm.new.he
 have jV:ag _:=bH iC.o aO.size;have mf:=jV.o;have KB:ag (∀(ob:Obj) (w8:ah),(w2.drew.alloc ob).grownBy w8 (Value.slice fa e.aN.length fc).ownBlock->w8.cell? ⟨g,o+7,J⟩=U (ak fa e.aN.length fc)/\w8.frozen? ⟨g,o+7,J⟩=false):=λob w8 hg=>by
  have iM:=dm.below (w':=w2.drew.alloc ob) ((aC _ w2).drew.alloc (by simp) ob);obtain⟨cur,hc,-⟩:=iM.grow;rw[<- eP.o]at hg⊢;rw[ho.o];have e1:=(hg.block g (cU hc) (λe2=>eu iM.new.he hc (aD rfl) e2.symm));have h2:=iM.iY (j:=7) (u:=x.e) rfl;exact⟨(jc e1).trans h2.1,by have:=h2.2;unfold bE at this⊢;simp only at this⊢;rw[e1];exact this⟩
 have Fv:∀ob,(w2.alloc ob).cell? _=U _:=λob=>aA (bt _ _) c8
 go_wp2_with fail
 go_region_law (refine qa _ rfl _ _ 57 rfl L 86 i0 _ 2 16 underlying57 hi hz0 hz1 hz2 rfl (aD rfl) _ _ _ (by simp[Act.eval]) (hown.alloc _) _ 1 1 _ (by simp[Act.eval]) rfl (AH w2.drew [af I z0,af I z1] 86) (Mb (z0,z1)) (aD rfl) (by unfold maxLen;omega) (by omega) (by simp;omega) (w2.heap.size+1) (by simp) ?_;intro g' cap' w8 fG cv iD o9;have r8:=KB _ _ cv;have d8:=r8.1;have d9:=r8.2)
 all_goals
  go_wp2;go_ret
  refine⟨rfl,?_,z0,z1,{ x with e:=ak (U (ar g' 0 J)) (e.aN.length+1) cap' },HV,?_,?_⟩
  ·exact Fu HS.2 aO dm jV (by rw[eP.o];exact cv) (λb hb=>(dm.new.he.lt b hb).1) _ _
  ·rw[ho.o];exact(dm.below (w':=w2.drew.alloc _) ((aC _ w2).drew.alloc (by simp) _)).JR _ (by rw[eP.o];exact cv) fG
  have h1:=cv.size;have h2:=jV.o;simp[cZ]at h1⊢
  omega
def aam(A:Nat->av)(w0 w:ah)(rb L g cap mb:Nat)(c:aV)(last:Int)(es:List aG)(e:aG)(x:bJ)(cells:List aj)(sa:Option av)(ws:List ByteArray)(wb wo wc:Nat)(hs:dD A w0)(hb0:Below w0.heap.size w0 w)(h:dh w0.heap.size rb L g cap mb w c last es e x cells)(iC:L<=w.heap.size)(hW:jG w sa ws wb wo)(hn:e.aP.length<=1000000):Calls prog 107 #[ax (U (ar rb 0 J)),ax (U ⟨g,es.length*10,J⟩),af I 6,ak sa ws.length wc] w λv w'=>v=aH (bF A (aI (aM e.au) false [2,2,1,1] (ws.map bl)).1)/\Below w0.heap.size w0 w'/\∃(z0 z1 z2 z3:Int) (x':bJ),((aI (aM e.au) false [2,2,1,1] (ws.map bl)).1=0->(∀s,ws[0]?=U s->z0=(bg (aM e.au) 2 (bl s)).2)/\(∀s,ws[1]?=U s->z1=(bg (aM e.au) 2 (bl s)).2)/\(∀s,ws[2]?=U s->z2=(bg (aM e.au) 1 (bl s)).2)/\(∀s,ws[3]?=U s->z3=(bg (aM e.au) 1 (bl s)).2))/\dh w0.heap.size rb L g cap mb w' c last es { e with aP:=e.aP++[⟨z0,z1,z2,z3⟩] } x' cells/\L<=w'.heap.size:=by
 obtain⟨i0,hi,hz0,hz1,hz2⟩:=ma G';obtain⟨fa,fc,eP⟩:=eO h.new.hg;obtain⟨o,ho⟩:∃o,o=es.length*10:=⟨_,rfl⟩;have HS:ag (dD A w0/\Below _ w0 w):=⟨hs,hb0⟩;change ag _ at h hW eP iC
 rw[<- ho];clear hs hb0;change ag _ at ho;go_enter func107,ntmps107
 go_upto_region 11 with fail
 obtain⟨W1,hW1⟩:∃V,V=((w.alloc (ay #[af I 0] 216)).alloc (ay #[af I 0] 216)).alloc (ay #[af I 0,af I 0,af I 0,af I 0] 85):=⟨_,rfl⟩;rw[<- hW1];have aS:ag (Below w.heap.size w W1):=by show Below _ _ _;rw[hW1];exact((bt _ _).alloc (by simp) _).alloc (by simp;omega) _
 have gu:ag (W1.heap.size=w.heap.size+3):=by show _=_;rw[hW1];simp
 have fO:ag (W1.cell? (ar w.heap.size 0 J)=U (af I 0)/\W1.frozen? (ar w.heap.size 0 J)=false):=by
  refine⟨by rw[hW1];exact aA (bt _ _) (yS w ..).1,?_⟩;rw[hW1,lh,lh,lh];exact vv w 0 0
 have dA:ag (W1.cell? ⟨w.heap.size+1,0,J⟩=U (af I 0)/\W1.frozen? ⟨w.heap.size+1,0,J⟩=false):=by
  refine⟨by rw[hW1];exact aA (bt _ _) (yS w ..).2,?_⟩;rw[hW1,lh,lh,lh];exact vv w 1 0
 have HG:ag (∀j,j<4->W1.cell? ⟨w.heap.size+2,j,J⟩=U (af I 0)/\W1.frozen? ⟨w.heap.size+2,j,J⟩=false):=λj hj=>by
  have e1:w.heap.size+2=((w.alloc (ay #[af I 0] 216)).alloc (ay #[af I 0] 216)).heap.size:=by simp
  constructor
  ·rw[hW1,e1,fE _ _ _ _ rfl]
   match j,hj with
   |0,_=>rfl
   |1,_=>rfl
   |2,_=>rfl
   |3,_=>rfl
  rw[hW1,lh,lh,lh];exact vv w 2 j
 have CP:ag _:=HG 2 (aD rfl);have CQ:ag _:=HG 3 (aD rfl);have lp:ag (oq w0 rb e.au [2,2,1,1] [(w.heap.size,0),(w.heap.size+1,0),(w.heap.size+2,2),(w.heap.size+2,3)] ws wb wo W1.heap.size (W1.alloc (rZ w))):=by
  have cq:=bt W1 (rZ w);have hlt:=hW.lt;have hz:=gu.o;have iZ:=cU h.row;have hsz:=HS.2.size
  refine⟨HS.2.trans ((aS.trans (cq.mono aS.size)).mono hsz),rfl,by simp,by simp,?_,?_,by simp,?_,λi s hi=>aA cq (aA aS (hW.qc i s hi)),hW.sz,λ_=>⟨mb,((h.below aS).below cq).AE⟩⟩
  ·intro i f t hf ht
   match i,hf,ht with
   |0,hf,ht=>
    simp at hf ht
    subst hf ht;exact⟨⟨_,aA cq fO.1,⟨0,rfl⟩⟩,by rw[o7 cq fO.1];exact fO.2⟩
   |1,hf,ht=>
    simp at hf ht
    subst hf ht;exact⟨⟨_,aA cq dA.1,⟨0,rfl⟩⟩,by rw[o7 cq dA.1];exact dA.2⟩
   |2,hf,ht=>
    simp at hf ht
    subst hf ht;exact⟨⟨_,aA cq CP.1,⟨0,rfl⟩⟩,by rw[o7 cq CP.1];exact CP.2⟩
   |3,hf,ht=>
    simp at hf ht
    subst hf ht;exact⟨⟨_,aA cq CQ.1,⟨0,rfl⟩⟩,by rw[o7 cq CQ.1];exact CQ.2⟩
   |i+4,hf,_=>simp at hf
  ·intro t ht;simp only[fu,ik,iI]at ht
   rcases ht with rfl|rfl|rfl|rfl
   all_goals exact⟨by simp only[];omega,λe2=>by have:=(o6 e2).1;omega,by simp only[];omega,by simp only[];omega⟩
  intro i f t hf ht
  match i,hf,ht with
  |0,hf,ht=>
   simp at hf ht
   subst hf ht;rw[fE _ _ _ _ rfl];rfl
  |1,hf,ht=>
   simp at hf ht
   subst hf ht;rw[fE _ _ _ _ rfl];rfl
  |2,hf,ht=>
   simp at hf ht
   subst hf ht;rw[fE _ _ _ _ rfl];rfl
  |3,hf,ht=>
   simp at hf ht
   subst hf ht;rw[fE _ _ _ _ rfl];rfl
  |i+4,hf,_=>simp at hf
 clear hW1;go_wp2_with fail
 apply(tQ A w0 _ rb _ _ _ ws sa wb wo wc _ HS.1 lp hW.sa hW.few).mono;rintro v w2 ⟨rfl,us,jo,fX,fY,eX⟩;obtain⟨u0,u1,u2,u3,rfl⟩:∃u0 u1 u2 u3,us=[u0,u1,u2,u3]:=by
  match us,jo with
  |[u0,u1,u2,u3],_=>exact⟨u0,u1,u2,u3,rfl⟩
 obtain⟨z0,rfl⟩:=fX 0 2 u0 rfl rfl;obtain⟨z1,rfl⟩:=fX 1 2 u1 rfl rfl;obtain⟨z2,rfl⟩:=fX 2 1 u2 rfl rfl;obtain⟨z3,rfl⟩:=fX 3 1 u3 rfl rfl;have HV:ag ((aI (aM e.au) false [2,2,1,1] (ws.map bl)).1=0->(∀s,ws[0]?=U s->z0=(bg (aM e.au) 2 (bl s)).2)/\(∀s,ws[1]?=U s->z1=(bg (aM e.au) 2 (bl s)).2)/\(∀s,ws[2]?=U s->z2=(bg (aM e.au) 1 (bl s)).2)/\(∀s,ws[3]?=U s->z3=(bg (aM e.au) 1 (bl s)).2)):=λh0=>⟨(λs hs=>by have:=fY h0 0 2 s _ rfl hs rfl;unfold valOf at this;rw[aF (aD rfl)]at this;exact(nM this).2),(λs hs=>by have:=fY h0 1 2 s _ rfl hs rfl;unfold valOf at this;rw[aF (aD rfl)]at this;exact(nM this).2),(λs hs=>by have:=fY h0 2 1 s _ rfl hs rfl;unfold valOf at this;rw[aF (aD rfl)]at this;exact(nM this).2),(λs hs=>by have:=fY h0 3 1 s _ rfl hs rfl;unfold valOf at this;rw[aF (aD rfl)]at this;exact(nM this).2)⟩
 have aO:ag _:=AG (aS.trans ((bt _ _).mono aS.size)) (λt ht=>by
  simp only[fu,ik,iI]at ht
  rcases ht with rfl|rfl|rfl|rfl
  all_goals (simp only[];omega)) eX
 have PS:w2.cell? (ar w.heap.size 0 J)=U (af I z0):=by
  have h1:=yT (W1.alloc (rZ w)) [(w.heap.size,0),(w.heap.size+1,0),(w.heap.size+2,2),(w.heap.size+2,3)] [af I z0,af I z1,af I z2,af I z3] 0 (w.heap.size,0) (af I z0) (by simp) rfl rfl ⟨_,aA (bt _ _) fO.1⟩;exact(eX.cell (p:=⟨_,0,_⟩) (by have:=gu.o;simp;omega)).trans h1
 have PT:w2.cell? ⟨w.heap.size+1,0,J⟩=U (af I z1):=by
  have h1:=yT (W1.alloc (rZ w)) [(w.heap.size,0),(w.heap.size+1,0),(w.heap.size+2,2),(w.heap.size+2,3)] [af I z0,af I z1,af I z2,af I z3] 1 (w.heap.size+1,0) (af I z1) (by simp) rfl rfl ⟨_,aA (bt _ _) dA.1⟩;exact(eX.cell (p:=⟨_,0,_⟩) (by have:=gu.o;simp;omega)).trans h1
 have PU:w2.cell? ⟨w.heap.size+2,2,J⟩=U (af I z2):=by
  have h1:=yT (W1.alloc (rZ w)) [(w.heap.size,0),(w.heap.size+1,0),(w.heap.size+2,2),(w.heap.size+2,3)] [af I z0,af I z1,af I z2,af I z3] 2 (w.heap.size+2,2) (af I z2) (by simp) rfl rfl ⟨_,aA (bt _ _) CP.1⟩;exact(eX.cell (p:=⟨_,2,_⟩) (by have:=gu.o;simp;omega)).trans h1
 have PV:w2.cell? ⟨w.heap.size+2,3,J⟩=U (af I z3):=by
  have h1:=yT (W1.alloc (rZ w)) [(w.heap.size,0),(w.heap.size+1,0),(w.heap.size+2,2),(w.heap.size+2,3)] [af I z0,af I z1,af I z2,af I z3] 3 (w.heap.size+2,3) (af I z3) (by simp) rfl rfl ⟨_,aA (bt _ _) CQ.1⟩;exact(eX.cell (p:=⟨_,3,_⟩) (by have:=gu.o;simp;omega)).trans h1
 have PW:w2.cell? ⟨w.heap.size+2,0,J⟩=U (af I 0):=by
  have h1:=yO (W1.alloc (rZ w)) [(w.heap.size,0),(w.heap.size+1,0),(w.heap.size+2,2),(w.heap.size+2,3)] [af I z0,af I z1,af I z2,af I z3] (w.heap.size+2) 0 (λt ht=>by
   simp only[fu,ik,iI]at ht
   rcases ht with rfl|rfl|rfl|rfl
   all_goals simp)
  exact(eX.cell (p:=⟨_,0,_⟩) (by have:=gu.o;simp;omega)).trans (h1.trans (aA (bt _ _) (HG 0 (aD rfl)).1))
 have PX:w2.cell? ⟨w.heap.size+2,1,J⟩=U (af I 0):=by
  have h1:=yO (W1.alloc (rZ w)) [(w.heap.size,0),(w.heap.size+1,0),(w.heap.size+2,2),(w.heap.size+2,3)] [af I z0,af I z1,af I z2,af I z3] (w.heap.size+2) 1 (λt ht=>by
   simp only[fu,ik,iI]at ht
   rcases ht with rfl|rfl|rfl|rfl
   all_goals simp)
  exact(eX.cell (p:=⟨_,1,_⟩) (by have:=gu.o;simp;omega)).trans (h1.trans (aA (bt _ _) (HG 1 (aD rfl)).1))
 have JV:∀j,j<4->w2.frozen? ⟨w.heap.size+2,j,J⟩=false:=λj hj=>by
  have h1:=HG j hj;have hsz:(W1.alloc (rZ w)).heap.size=w.heap.size+4:=by have:=gu.o;simp;omega
  have e1:w2.heap[w.heap.size+2]?=(bZ ..).heap[w.heap.size+2]?:=eX.block _ (by omega);have e2:=JD (W1.alloc (rZ w)) [(w.heap.size,0),(w.heap.size+1,0),(w.heap.size+2,2),(w.heap.size+2,3)] [af I z0,af I z1,af I z2,af I z3] ⟨w.heap.size+2,j,J⟩;have e3:(W1.alloc (rZ w)).frozen? ⟨w.heap.size+2,j,J⟩=false:=by rw[o7 (bt _ _) h1.1];exact h1.2
  rw[e3]at e2;unfold bE at e2⊢;simp only at e2⊢;rw[e1];exact e2
 clear jo fX fY eX lp fO dA CP CQ;have aan:=JV 0 (aD rfl);have aao:=JV 1 (aD rfl);clear JV;go_upto_region 13 with fail
 obtain⟨w3,hw3⟩:∃V,V=(w2.setCell ⟨w.heap.size+2,0,J⟩ (af I z0)).setCell ⟨w.heap.size+2,1,J⟩ (af I z1):=⟨_,rfl⟩;rw[<- hw3];have mX:ag (Below w.heap.size w w3):=by show Below _ _ _;rw[hw3];exact(aO.setCell (p:=⟨_,0,_⟩) (by simp only[];omega) _).setCell (p:=⟨_,1,_⟩) (by simp only[];omega) _
 have d0:w3.cell? ⟨w.heap.size+2,0,J⟩=U (af I z0):=by rw[hw3,qR (bk (by simp)) rfl rfl];exact yN PW
 have d1:w3.cell? ⟨w.heap.size+2,1,J⟩=U (af I z1):=by rw[hw3];exact yN ((qR (bk (by simp)) rfl rfl).trans PX)
 have d2:w3.cell? ⟨w.heap.size+2,2,J⟩=U (af I z2):=by rw[hw3,qR (bk (by simp)) rfl rfl,qR (bk (by simp)) rfl rfl];exact PU
 have d3:w3.cell? ⟨w.heap.size+2,3,J⟩=U (af I z3):=by rw[hw3,qR (bk (by simp)) rfl rfl,qR (bk (by simp)) rfl rfl];exact PV
 clear hw3 PW PX PS PT PU PV aan aao;have dm:ag _:=h.below mX;have c8:w3.cell? ⟨g,o+6,J⟩=U (ak fa e.aP.length fc):=by rw[ho.o,<- eP.o];exact(dm.iY (j:=6) rfl).1
 have hown:w3.drew.ownsRow L 85 4 (ak fa e.aP.length fc) e.aP.length (e.aP.flatMap j7):=by rw[<- eP.o];exact dm.new.hg
 have jV:ag _:=bH iC.o mX.size;have mf:=jV.o;have KB:ag (∀(ob:Obj) (w8:ah),(w3.drew.alloc ob).grownBy w8 (Value.slice fa e.aP.length fc).ownBlock->w8.cell? ⟨g,o+6,J⟩=U (ak fa e.aP.length fc)/\w8.frozen? ⟨g,o+6,J⟩=false):=λob w8 hg=>by
  have iM:=dm.below (w':=w3.drew.alloc ob) ((aC _ w3).drew.alloc (by simp) ob);obtain⟨cur,hc,-⟩:=iM.grow;rw[<- eP.o]at hg⊢;rw[ho.o];have e1:=(hg.block g (cU hc) (λe2=>eu iM.new.hg hc (aD rfl) e2.symm));have h2:=iM.iY (j:=6) (u:=x.g) rfl;exact⟨(jc e1).trans h2.1,by have:=h2.2;unfold bE at this⊢;simp only at this⊢;rw[e1];exact this⟩
 have Fv:∀ob,(w3.alloc ob).cell? _=U _:=λob=>aA (bt _ _) c8
 go_wp2_with fail
 go_region_law (refine qa _ rfl _ _ 56 rfl L 85 i0 _ 4 32 underlying56 hi hz0 hz1 hz2 rfl (aD rfl) _ _ _ (by simp[Act.eval]) (hown.alloc _) _ 1 1 _ (by simp[Act.eval]) rfl (AH w3.drew [af I z0,af I z1,af I z2,af I z3] 85) (Mc ⟨z0,z1,z2,z3⟩) (aD rfl) (by unfold maxLen;omega) (by omega) (by simp;omega) (w3.heap.size+1) (by simp) ?_;intro g' cap' w8 fG cv iD o9;have r8:=KB _ _ cv;have d8:=r8.1;have d9:=r8.2)
 all_goals
  go_wp2;go_ret
  refine⟨rfl,?_,z0,z1,z2,z3,{ x with g:=ak (U (ar g' 0 J)) (e.aP.length+1) cap' },HV,?_,?_⟩
  ·exact Fu HS.2 mX dm jV (by rw[eP.o];exact cv) (λb hb=>(dm.new.hg.lt b hb).1) _ _
  ·rw[ho.o];exact(dm.below (w':=w3.drew.alloc _) ((aC _ w3).drew.alloc (by simp) _)).JQ _ (by rw[eP.o];exact cv) fG
  have h1:=cv.size;have h2:=jV.o;simp[cZ]at h1⊢
  omega
def dU.JW{B:Nat}(h:dU B w e x)(a b d:Int):dU B w { e with cnt:=a,mn:=b,mx:=d } x:=⟨h.hp,h.hg,h.he,h.hf,h.hl⟩
def aap(A:Nat->av)(w0 w:ah)(rb L g cap mb:Nat)(c:aV)(last:Int)(es:List aG)(e:aG)(x:bJ)(cells:List aj)(sa:Option av)(ws:List ByteArray)(wb wo wc:Nat)(hs:dD A w0)(hb0:Below w0.heap.size w0 w)(h:dh w0.heap.size rb L g cap mb w c last es e x cells)(iC:L<=w.heap.size)(hW:jG w sa ws wb wo):Calls prog 107 #[ax (U (ar rb 0 J)),ax (U ⟨g,es.length*10,J⟩),af I 5,ak sa ws.length wc] w λv w'=>v=aH (bF A (aI (aM e.au) false [2,1,1] (ws.map bl)).1)/\Below w0.heap.size w0 w'/\∃(z0 z1 z2:Int),((aI (aM e.au) false [2,1,1] (ws.map bl)).1=0->(∀s,ws[0]?=U s->z0=(bg (aM e.au) 2 (bl s)).2)/\(∀s,ws[1]?=U s->z1=(bg (aM e.au) 1 (bl s)).2)/\(∀s,ws[2]?=U s->z2=(bg (aM e.au) 1 (bl s)).2))/\dh w0.heap.size rb L g cap mb w' c last es { e with cnt:=z0,mn:=z1,mx:=z2 } x cells/\L<=w'.heap.size:=by
 obtain⟨o,ho⟩:∃o,o=es.length*10:=⟨_,rfl⟩;have HS:ag (dD A w0/\Below _ w0 w):=⟨hs,hb0⟩;change ag _ at hW iC
 obtain⟨ahb,hg0,PY⟩:=h.grow;have CR:ag (w.heap[g]?=U _/\w0.heap.size<=g/\g<w.heap.size):=⟨hg0,PY,cU hg0⟩;rw[<- ho];clear hs hb0 hg0 PY;change ag _ at h ho;go_enter func107,ntmps107
 go_upto_region 2 with fail
 obtain⟨W1,hW1⟩:∃V,V=(w.alloc (ay #[af I 0] 216)).alloc (ay #[af I 0] 216):=⟨_,rfl⟩;rw[<- hW1];have aS:ag (Below w.heap.size w W1):=by show Below _ _ _;rw[hW1];exact(bt _ _).alloc (by simp) _
 have gu:ag (W1.heap.size=w.heap.size+2):=by show _=_;rw[hW1];simp
 have dA:ag (W1.cell? (ar w.heap.size 0 J)=U (af I 0)/\W1.frozen? (ar w.heap.size 0 J)=false):=by
  refine⟨by rw[hW1];exact(yS w ..).1,?_⟩;rw[hW1,lh,lh];exact vv w 0 0
 clear hW1;have lp:ag (∀q,oq w0 rb e.au [2,1,1] [(w.heap.size,0),(g,o+4),(g,o+5)] ws wb wo W1.heap.size ((W1.drewN q).alloc (ay #[.iface 218 (ax (U (ar w.heap.size 0 J))),.iface 192 (ax (U ⟨g,o+4,J⟩)),.iface 192 (ax (U ⟨g,o+5,J⟩))] 20))):=λq=>by
  have cq:Below W1.heap.size W1 ((W1.drewN q).alloc (ay #[.iface 218 (ax (U (ar w.heap.size 0 J))),.iface 192 (ax (U ⟨g,o+4,J⟩)),.iface 192 (ax (U ⟨g,o+5,J⟩))] 20)):=(cB (aC _ _) q).alloc (aR _) _;have hlt:=hW.lt;have hz:=gu.o;have iZ:=cU h.row;have hsz:=HS.2.size;have hgr:=CR.o;have o_:g≠wb:=λe2=>by
   obtain⟨cc,fr,hh⟩:=hW.blk;have h1:=hgr.1;rw[e2,hh]at h1;simp only[gQ,uD]at h1;exact absurd h1.2.1 (aD rfl)
  have hrg:g≠rb:=λe2=>by
   have h1:=hgr.1;rw[e2,h.row]at h1;simp only[gQ,uD]at h1;exact absurd h1.2.1 (aD rfl)
  have k4:=(h.below aS).iY (j:=4) (u:=af I _) rfl;have k5:=(h.below aS).iY (j:=5) (u:=af I _) rfl;rw[<- ho.o]at k4 k5
  refine⟨HS.2.trans ((aS.trans (cq.mono aS.size)).mono hsz),rfl,by simp,by simp,?_,?_,?_,?_,λi s hi=>aA cq (aA aS (hW.qc i s hi)),hW.sz,λ_=>⟨mb,((h.below aS).below cq).AE⟩⟩
  ·intro i f t hf ht
   match i,hf,ht with
   |0,hf,ht=>
    simp at hf ht
    subst hf ht;exact⟨⟨_,aA cq dA.1,⟨0,rfl⟩⟩,by rw[o7 cq dA.1];exact dA.2⟩
   |1,hf,ht=>
    simp at hf ht
    subst hf ht;exact⟨⟨_,aA cq k4.1,⟨_,rfl⟩⟩,by rw[o7 cq k4.1];exact k4.2⟩
   |2,hf,ht=>
    simp at hf ht
    subst hf ht;exact⟨⟨_,aA cq k5.1,⟨_,rfl⟩⟩,by rw[o7 cq k5.1];exact k5.2⟩
   |i+3,hf,_=>simp at hf
  ·intro t ht;simp only[fu,ik,iI]at ht
   rcases ht with rfl|rfl|rfl
   ·exact⟨by simp only[];omega,λe2=>by have:=(o6 e2).1;omega,by simp only[];omega,by simp only[];omega⟩
   ·exact⟨hgr.2.1,λe2=>hrg (o6 e2).1,by simp only[];omega,o_⟩
   exact⟨hgr.2.1,λe2=>hrg (o6 e2).1,by simp only[];omega,o_⟩
  ·have:w.heap.size≠g:=by omega
   simp[this]
  intro i f t hf ht
  match i,hf,ht with
  |0,hf,ht=>
   simp at hf ht
   subst hf ht;show aL _ ⟨(W1.drewN q).heap.size,_,_⟩=_
   rw[fE _ _ _ _ rfl];rfl
  |1,hf,ht=>
   simp at hf ht
   subst hf ht;show aL _ ⟨(W1.drewN q).heap.size,_,_⟩=_
   rw[fE _ _ _ _ rfl];rfl
  |2,hf,ht=>
   simp at hf ht
   subst hf ht;show aL _ ⟨(W1.drewN q).heap.size,_,_⟩=_
   rw[fE _ _ _ _ rfl];rfl
  |i+3,hf,_=>simp at hf
 have PZ:ag (∀q,Calls prog 105 #[ax (U (ar rb 0 J)),ak sa ws.length wc,ak (U (ar W1.heap.size 0 J)) 3 3] ((W1.drewN q).alloc (ay #[.iface 218 (ax (U (ar w.heap.size 0 J))),.iface 192 (ax (U ⟨g,o+4,J⟩)),.iface 192 (ax (U ⟨g,o+5,J⟩))] 20)) λv w2=>v=aH (bF A (aI (aM e.au) false [2,1,1] (ws.map bl)).1)/\∃z0 z1 z2:Int,((aI (aM e.au) false [2,1,1] (ws.map bl)).1=0->(∀s,ws[0]?=U s->z0=(bg (aM e.au) 2 (bl s)).2)/\(∀s,ws[1]?=U s->z1=(bg (aM e.au) 1 (bl s)).2)/\(∀s,ws[2]?=U s->z2=(bg (aM e.au) 1 (bl s)).2))/\w2.cell? (ar w.heap.size 0 J)=U (af I z0)/\Below w0.heap.size w0 w2/\w.heap.size<=w2.heap.size/\dh w0.heap.size rb L g cap mb w2 c last es { e with cnt:=e.cnt,mn:=z1,mx:=z2 } x cells):=λq=>by
  apply(tQ A w0 _ rb _ _ _ ws sa wb wo wc _ HS.1 (lp q) hW.sa hW.few).mono;rintro v w2 ⟨rfl,us,jo,fX,fY,eX⟩;obtain⟨u0,u1,u2,rfl⟩:∃u0 u1 u2,us=[u0,u1,u2]:=by
   match us,jo with
   |[u0,u1,u2],_=>exact⟨u0,u1,u2,rfl⟩
  obtain⟨z0,rfl⟩:=fX 0 2 u0 rfl rfl;obtain⟨z1,rfl⟩:=fX 1 1 u1 rfl rfl;obtain⟨z2,rfl⟩:=fX 2 1 u2 rfl rfl;obtain⟨V,hV⟩:∃V,V=(W1.drewN q).alloc (ay #[.iface 218 (ax (U (ar w.heap.size 0 J))),.iface 192 (ax (U ⟨g,o+4,J⟩)),.iface 192 (ax (U ⟨g,o+5,J⟩))] 20):=⟨_,rfl⟩;have JX:Below w.heap.size w V:=by rw[hV];exact(cB aS q).alloc (by have:=gu.o;show w.heap.size<=W1.heap.size;omega) _
  have cV:V.cell? (ar w.heap.size 0 J)=U (af I 0):=by
   rw[hV];exact aA (w:=W1) ((cB (aC _ _) q).alloc (aR _) _) dA.1
  rw[<- hV]at eX;have aaq:Below _ w (V.setCell _ (af I z0)):=JX.setCell (p:=⟨w.heap.size,0,J⟩) (aR _) _;have r0:=h.below aaq;have r1:=r0.JO (e':={ e with mn:=z1 }) (x':=x) 4 (af I z1) rfl (r0.new.JW _ z1 _) r0.fl rfl;have r2:=r1.JO (e':={ e with mn:=z1,mx:=z2 }) (x':=x) 5 (af I z2) rfl (r1.new.JW _ z1 z2) r1.fl rfl;rw[<- ho.o]at r2;have hz2:(((V.setCell (ar w.heap.size 0 J) (af I z0)).setCell ⟨g,o+4,J⟩ (af I z1)).setCell ⟨g,o+5,J⟩ (af I z2)).heap.size=V.heap.size:=by simp[cZ]
  have qd:Below (((V.setCell (ar w.heap.size 0 J) (af I z0)).setCell ⟨g,o+4,J⟩ (af I z1)).setCell ⟨g,o+5,J⟩ (af I z2)).heap.size (((V.setCell (ar w.heap.size 0 J) (af I z0)).setCell ⟨g,o+4,J⟩ (af I z1)).setCell ⟨g,o+5,J⟩ (af I z2)) w2:=by rw[hz2];exact eX
  have P0:g≠w.heap.size:=by have:=CR.2.2;omega
  refine⟨rfl,z0,z1,z2,λh0=>⟨(λs hs=>by have:=fY h0 0 2 s _ rfl hs rfl;unfold valOf at this;rw[aF (aD rfl)]at this;exact(nM this).2),(λs hs=>by have:=fY h0 1 1 s _ rfl hs rfl;unfold valOf at this;rw[aF (aD rfl)]at this;exact(nM this).2),(λs hs=>by have:=fY h0 2 1 s _ rfl hs rfl;unfold valOf at this;rw[aF (aD rfl)]at this;exact(nM this).2)⟩,?_,?_,?_,?_⟩
  ·refine aA qd ?_;rw[qR (cF P0) rfl rfl,qR (cF P0) rfl rfl];exact yN cV
  ·have h1:=HS.2.trans (JX.mono HS.2.size);have h2:=((h1.setCell (p:=⟨w.heap.size,0,J⟩) HS.2.size (af I z0)).setCell (p:=⟨g,o+4,J⟩) CR.2.1 (af I z1)).setCell (p:=⟨g,o+5,J⟩) CR.2.1 (af I z2);exact h2.trans (qd.mono h2.size)
  ·have h1:=qd.size;have h2:=JX.size;omega
  exact r2.below qd
 clear lp dA;go_upto_region 7 with fail
 go_region_held3 (λ_=>True) (exact trivial) (first|(go_at_call 105;refine bw (PZ.o _) ?_;rintro v w2 ⟨rfl,z0,z1,z2,hz,cz,hb2,hs2,hr2⟩))
 all_goals
  change ag _ at hz hb2 hs2
  have k3:=hr2.iY (j:=3) (u:=af I e.cnt) rfl;rw[<- ho.o]at k3;obtain⟨ahc,ahd⟩:=k3;clear PZ;change ag _ at hr2;go_wp2;go_ret
  refine⟨rfl,hb2.setCell (p:=⟨g,_,_⟩) CR.2.1 _,z0,z1,z2,hz,?_,?_⟩
  ·have:=hr2.JO (e':={ e with cnt:=z0,mn:=z1,mx:=z2 }) (x':=x) 3 (af I z0) rfl (hr2.new.JW z0 z1 z2) hr2.fl rfl;rw[<- ho.o]at this;exact this
  have h1:=hs2.o;have h2:=iC.o;simp only[cZ,Array.size_modify];omega
structure ot(B rb:Nat)(w:ah)(c:aV)(last:Int)(ev mv:aj)(es:List aG)(cells:List aj):Prop where
 lo:B<=rb
 row:w.heap[rb]?=U (ay (gq c ev last mv) 123 (0,0))
 az:w.ownsRow B 60 10 ev es.length cells
 olds:∀(i:Nat) e',es[i]?=U e'->∃x',dU B w e' x'/\vr w.heap.size x'/\∀(j:Nat) u,(x'.row e')[j]?=U u->cells[i*10+j]?=U u
def vr.mono{L':Nat}(h:vr L x)(hl:L<=L'):vr L' x:=⟨λb hb=>dK (h.p b hb) hl,λb hb=>dK (h.g b hb) hl,λb hb=>dK (h.e b hb) hl,λb hb=>dK (h.f b hb) hl,λb hb=>dK (h.l b hb) hl⟩
def nN.toA{B:Nat}{last:Int}(h:nN B rb w c last):ot B rb w c last (ak J 0 0) (.map J) [] []:=⟨h.lo,h.row,kE _ _ _ _,λi e' he=>by simp at he⟩
def dh.toA{B mb:Nat}{last:Int}(h:dh B rb L g cap mb w c last es e x cells)(hL:L<=w.heap.size):ot B rb w c last (ak (U (ar g 0 J)) (es.length+1) cap) (.map (U mb)) (es++[e]) (cells++(x.row e).toList):=by
 refine⟨h.lo,h.row,by rw[sP];exact h.az,λi e' he=>?_⟩
 rcases eC i es.length with hi|hi
 ·rw[qC hi]at he;obtain⟨x',a,b,d⟩:=h.olds i e' he
  refine⟨x',a,b.mono hL,λj u hu=>?_⟩;have:=d j u hu;have hlt:i*10+j<cells.length:=by
   rcases eC (i*10+j) cells.length with h'|h'
   ·exact h'
   rw[ny h']at this;cases this
  rw[qC hlt];exact this
 rw[pE hi]at he;have h0:i=es.length:=by
  rcases kG (i-es.length)with h'|h'
  ·omega
  rw[ny (by simp;omega)]at he;cases he
 subst h0;simp at he
 subst he
 refine⟨x,h.new.weak h.ll,h.new.PO,λj u hu=>?_⟩;rw[pE (by rw[h.ic];omega),h.ic,yK,oI];exact hu
def ot.below{B:Nat}{last:Int}{mv:aj}(h:ot B rb w c last ev mv es cells)(hb:Below w.heap.size w w'):ot B rb w' c last ev mv es cells:=
 ⟨h.lo,cX hb h.row,h.az.kept (row:=J) ⟨hb.os,hb.tape,hb.output,hb.size,λk hk _=>hb.block k hk⟩ (by by_cases e:ev.ownBlock=J;exact cF e;exact bk e),λi e' he=>by
  obtain⟨x',a,b,d⟩:=h.olds i e' he;exact⟨x',rD.below a hb,b.mono hb.size,d⟩⟩
def dU.grown{B:Nat}{v:aj}(h:dU B w e x)(ho:w.ownsRow B' 60 10 v n xs)(hg:w.grownBy w' v.ownBlock):dU B w' e x:=by
 rcases ho.2 with⟨rfl,_⟩|⟨g,cap,cur,rfl,_,gS,_⟩
 ·have em:∀o:Option Nat,o=J\/o≠(Value.slice J 0 0).ownBlock:=λo=>by by_cases e:o=J;exact cF e;exact bk e
  exact h.kept hg (em _) (em _) (em _) (em _) (em _)
 exact h.other hg gS (aD rfl) (aD rfl) (aD rfl) (aD rfl)
def qf:bJ:=⟨ak J 0 0,ak J 0 0,ak J 0 0,ak J 0 0,ak J 0 0⟩
def pg(nm:ByteArray)(z:Int):aG:=⟨nm,z,[],-1,0,0,[],[],[],[]⟩
def P1(B:Nat)(w:ah)(nm:ByteArray)(z:Int):dU B w (pg nm z) qf:=⟨kE _ _ _ _,kE _ _ _ _,kE _ _ _ _,kE _ _ _ _,kE _ _ _ _⟩
def P2(nm:ByteArray)(z:Int):∀u∈(qf.row (pg nm z)).toList,u.oneCell'=true:=by
 intro u hu;simp[bJ.row,uK,qf,pg]at hu
 rcases hu with rfl|rfl|rfl|rfl|rfl|rfl<;>rfl
def aar{B g cap H:Nat}{w8:ah}{last:Int}{mv:aj}{nm:ByteArray}{z:Int}(h:ot B rb V c last ev mv es cells)(hw:ot B rb w c last ev mv es cells)(hB:B<=w.heap.size)(P3:Below w.heap.size w V)
  (hg:V.grownBy w8 ev.ownBlock) (ho:w8.ownsRow B 60 10 (.slice (U (ar g 0 J)) (es.length+1) cap) (es.length+1) (cells++(qf.row (pg nm z)).toList)) (hH:H=w8.heap.size):dh B rb w.heap.size g cap H (((w8.setCell (ar rb 4 J) (.slice (U (ar g 0 J)) (es.length+1) cap)).alloc (.map #[] 0)).setCell ⟨rb,6,J⟩ (.map (U H))) c last es (pg nm z) qf cells:=by
 have xj:=(hg.block rb (cU h.row) (λe2=>eu h.az h.row (aD rfl) e2.symm)).trans h.row;have hsz:=hg.size;have ahe:=cU xj;have P4:(w8.setCell (ar rb 4 J) (.slice (U (ar g 0 J)) (es.length+1) cap)).heap[rb]?=U (.cells (gq c (.slice (U (ar g 0 J)) (es.length+1) cap) last mv) 123 (0,0)):=by
  simp only[cZ,fR,xj];simp[gq]
 have g1:=o8 w8 rb 4 (.slice (U (ar g 0 J)) (es.length+1) cap);obtain⟨A1,Fy⟩:∃A1,A1=w8.setCell (ar rb 4 J) (.slice (U (ar g 0 J)) (es.length+1) cap):=⟨_,rfl⟩;rw[<- Fy]at P4 g1⊢;have hs1:A1.heap.size=H:=by rw[Fy,hH];simp[cZ]
 have b2:Below _ A1 (A1.alloc (.map #[] 0)):=bt _ _;have g3:=o8 (A1.alloc (.map #[] 0)) rb 6 (.map (U H));have Fz:=cX b2 P4;obtain⟨A2,P5⟩:∃A2,A2=A1.alloc (.map #[] 0):=⟨_,rfl⟩;have hmap:A2.ownsMap prog 9 (plainElem prog 3) H 0 (.map []:DataW Unit):=by rw[P5,<- hs1];exact World.ownsMap_made A1 ..
 rw[<- P5]at b2 g3 Fz⊢;have aas:rb≠H:=by omega
 have aat:∀{e:aG} {x:bJ},dU B w8 e x->dU B _ e x:=λhx=>
  dU.other (rD.below (hx.other g1 xj (aD rfl) (aD rfl) (aD rfl) (aD rfl)) b2) g3 Fz (aD rfl) (aD rfl) (aD rfl) (aD rfl)
 refine⟨⟨h.lo,hB,by have:=P3.size;omega,?_,?_,?_,λi e' he=>?_,P1 _ _ _ _,cF rfl⟩,?_⟩
 ·simp only[cZ,fR,Fz];simp[gq]
 ·have o1:=ho.kept g1 (bk (eu ho xj (aD rfl)));have o2:=o1.kept (row:=J) ⟨b2.os,b2.tape,b2.output,b2.size,λk hk _=>b2.block k hk⟩ (bk (by simp[mC]));exact o2.kept g3 (bk (eu o2 Fz (aD rfl)))
 ·exact h.az.1
 ·obtain⟨x',a,b,d⟩:=hw.olds i e' he;exact⟨x',aat (dU.grown (rD.below a P3) h.az hg),b,d⟩
 refine⟨_,?_,ZK⟩;exact hmap.kept g3 (by simp;exact λe2=>aas e2.symm)
def aau(A:Nat->av)(w0 w:ah)(rb:Nat)(c:aV)(last:Int)(ev mv:aj)(es:List aG)(cells:List aj)(sa:Option av)(ws:List ByteArray)(wb wo wc:Nat)(hs:dD A w0)(hb0:Below w0.heap.size w0 w)(h:ot w0.heap.size rb w c last ev mv es cells)(hW:jG w sa ws wb wo)(hn:es.length<=1000000):Calls prog 106 #[ax (U (ar rb 0 J)),ak sa ws.length wc] w λv w'=>v=aH (bF A (aI (aM []) false [0,1] (ws.map bl)).1)/\Below w0.heap.size w0 w'/\∃(nm:ByteArray) (z:Int) (L g cap mb:Nat),((aI (aM []) false [0,1] (ws.map bl)).1=0->(∀s,ws[0]?=U s->nm=s)/\(∀s,ws[1]?=U s->z=(bg (aM []) 1 (bl s)).2))/\dh w0.heap.size rb L g cap mb w' c last es (pg nm z) qf cells/\L<=w'.heap.size:=by
 obtain⟨i0,hi,hz0,hz1,hz2⟩:=ma Md;obtain⟨va,vc,rfl⟩:=eO h.az;have HS:ag (dD A w0/\Below _ w0 w):=⟨hs,hb0⟩;change ag _ at h hW
 have Ed:=@run_makeMap prog;clear hs hb0;go_enter func106,ntmps106
 go_upto_region 2 with fail
 obtain⟨W1,hW1⟩:∃V,V=w.alloc (ay #[aB ⟨#[]⟩,af I 0,ak J 0 0,af I (-1),af I 0,af I 0,ak J 0 0,ak J 0 0,ak J 0 0,ak J 0 0] 60):=⟨_,rfl⟩;rw[<- hW1];have aS:ag (Below w.heap.size w W1):=by show Below _ _ _;rw[hW1];exact bt _ _
 have gu:ag (W1.heap.size=w.heap.size+1):=by show _=_;rw[hW1];simp
 have sZ:ag (W1.heap[w.heap.size]?=U (ay #[aB ⟨#[]⟩,af I 0,ak J 0 0,af I (-1),af I 0,af I 0,ak J 0 0,ak J 0 0,ak J 0 0,ak J 0 0] 60 (0,0))):=by show _=_;rw[hW1];exact dT w _
 clear hW1;have lp:ag (oq w0 rb [] [0,1] [(w.heap.size,0),(w.heap.size,1)] ws wb wo W1.heap.size (W1.alloc (ay #[.iface 215 (ax (U (ar w.heap.size 0 J))),.iface 192 (ax (U (ar w.heap.size 1 J)))] 20))):=by
  have cq:=bt W1 (ay #[.iface 215 (ax (U (ar w.heap.size 0 J))),.iface 192 (ax (U (ar w.heap.size 1 J)))] 20);have hlt:=hW.lt;have hz:=gu.o;have iZ:=cU h.row;have hsz:=HS.2.size;have k:=cX cq sZ
  refine⟨HS.2.trans ((aS.trans (cq.mono aS.size)).mono hsz),rfl,by simp,by simp,?_,?_,by simp,?_,λi s hi=>aA cq (aA aS (hW.qc i s hi)),hW.sz,λh2=>by simp at h2⟩
  ·intro i f t hf ht
   match i,hf,ht with
   |0,hf,ht=>
    simp at hf ht
    subst hf ht;exact⟨⟨_,by simp[aL,k],⟨⟨#[]⟩,rfl,by decide⟩⟩,by simp[bE,k]⟩
   |1,hf,ht=>
    simp at hf ht
    subst hf ht;exact⟨⟨_,by simp[aL,k],⟨0,rfl⟩⟩,by simp[bE,k]⟩
   |i+2,hf,_=>simp at hf
  ·intro t ht;simp only[fu,ik,iI]at ht
   rcases ht with rfl|rfl
   all_goals exact⟨by simp only[];omega,λe2=>by have:=(o6 e2).1;omega,by simp only[];omega,by simp only[];omega⟩
  intro i f t hf ht
  match i,hf,ht with
  |0,hf,ht=>
   simp at hf ht
   subst hf ht;rw[fE _ _ _ _ rfl];rfl
  |1,hf,ht=>
   simp at hf ht
   subst hf ht;rw[fE _ _ _ _ rfl];rfl
  |i+2,hf,_=>simp at hf
 go_wp2_with fail
 apply(tQ A w0 _ rb [] _ _ ws sa wb wo wc _ HS.1 lp hW.sa hW.few).mono;rintro v w2 ⟨rfl,us,jo,fX,fY,eX⟩;obtain⟨u0,u1,rfl⟩:∃u0 u1,us=[u0,u1]:=by
  match us,jo with
  |[u0,u1],_=>exact⟨u0,u1,rfl⟩
 obtain⟨nm,rfl,-⟩:=fX 0 0 u0 rfl rfl;obtain⟨z,rfl⟩:=fX 1 1 u1 rfl rfl;have HV:ag ((aI (aM []) false [0,1] (ws.map bl)).1=0->(∀s,ws[0]?=U s->nm=s)/\(∀s,ws[1]?=U s->z=(bg (aM []) 1 (bl s)).2)):=λh0=>⟨(λs hs=>by have:=fY h0 0 0 s _ rfl hs rfl;unfold valOf at this;rw[aU rfl]at this;exact Value.string.inj this),(λs hs=>by have:=fY h0 1 1 s _ rfl hs rfl;unfold valOf at this;rw[aF (aD rfl)]at this;exact(nM this).2)⟩
 have aO:ag _:=AG (aS.trans ((bt _ _).mono aS.size)) (λt ht=>by
  simp only[fu,ik,iI]at ht
  rcases ht with rfl|rfl
  all_goals exact aR _) eX
 have jC:ag (w2.heap[w.heap.size]?=U (ay #[aB nm,af I z,ak J 0 0,af I (-1),af I 0,af I 0,ak J 0 0,ak J 0 0,ak J 0 0,ak J 0 0] 60 (0,0))):=by
  show _=_
  have k:=cX (bt W1 (ay #[.iface 215 (ax (U (ar w.heap.size 0 J))),.iface 192 (ax (U (ar w.heap.size 1 J)))] 20)) sZ;have k2:(bZ (W1.alloc (ay #[.iface 215 (ax (U (ar w.heap.size 0 J))),.iface 192 (ax (U (ar w.heap.size 1 J)))] 20)) [(w.heap.size,0),(w.heap.size,1)] [aB nm,af I z]).heap[w.heap.size]?=U (ay #[aB nm,af I z,ak J 0 0,af I (-1),af I 0,af I 0,ak J 0 0,ak J 0 0,ak J 0 0,ak J 0 0] 60 (0,0)):=by
   simp only[bZ,cZ,fR,k];simp
  refine(eX.block _ ?_).trans k2;have:=gu.o;simp
  omega
 clear jo fX fY eX lp sZ aS gu;have yy:∀(j:Nat) u,(#[aB nm,af I z,ak J 0 0,af I (-1),af I 0,af I 0,ak J 0 0,ak J 0 0,ak J 0 0,ak J 0 0]:Array _)[j]?=U u->w2.cell? (ar w.heap.size j J)=U u:=λj u hu=>by simp[aL,jC.o,hu]
 have y0:=yy 0 _ rfl;have y1:=yy 1 _ rfl;have y2:=yy 2 _ rfl;have y3:=yy 3 _ rfl;have y4:=yy 4 _ rfl;have y5:=yy 5 _ rfl;have y6:=yy 6 _ rfl;have y7:=yy 7 _ rfl;have y8:=yy 8 _ rfl;have y9:=yy 9 _ rfl;clear yy jC;have dm:ag _:=h.below aO;have c4:w2.cell? (ar rb 4 J)=U (ak va es.length vc):=by have:=dm.row;simp[aL,this,gq]
 have JY:∀ob,(w2.alloc ob).cell? _=U _:=λob=>aA (bt _ _) c4
 have hown:w2.drew.ownsRow _ 60 10 _ _ _:=dm.az;have mf:=bH HS.2.size aO.size;have KB:ag (∀(ob:Obj) (w8:ah),(w2.drew.alloc ob).grownBy w8 (Value.slice va es.length vc).ownBlock->w8.heap[rb]?=U (ay (gq c (ak va es.length vc) last mv) 123 (0,0))/\Below w0.heap.size w0 w8):=λob w8 hg=>by
  have iM:=dm.below (w':=w2.drew.alloc ob) ((aC _ w2).drew.alloc (by simp) ob);have b2:=HS.2.trans (aO.mono HS.2.size);have b3:=b2.trans (((aC _ w2).drew.alloc (by simp) ob).mono b2.size);exact⟨(hg.block rb (cU iM.row) (λe2=>eu iM.az iM.row (aD rfl) e2.symm)).trans iM.row,b3.grown hg b3.size (λk hk=>(iM.az.lt k hk).1)⟩
 go_wp2_with fail
 go_region_law (refine qa _ rfl _ _ 32 rfl _ 60 i0 _ 10 168 underlying32 hi hz0 hz1 hz2 rfl (aD rfl) _ _ _ (by simp[Act.eval]) (hown.alloc _) _ 1 1 _ (by simp[Act.eval]) rfl (AH _ (qf.row _).toList 60) (P2 nm z) (aD rfl) (by unfold maxLen;omega) (by omega) (by simp;omega) (w2.heap.size+1) (by simp) ?_;intro g' cap' w8 fG cv iD o9;have r8:=KB _ _ cv;have d8:w8.cell? (ar rb 4 J)=U (ak va es.length vc):=(by simp[aL,r8.1,gq]);have d9:w8.frozen? (ar rb 4 J)=false:=(by simp[bE,r8.1]))
 all_goals
  have HA:ag (∀u,(w8.setCell (ar rb 4 J) u).heap[rb]?=U (ay (gq c u last mv) 123 (0,0))):=λu=>by
   simp only[cZ,fR,r8.1];simp[gq]
  have P6:ag (∀u,((w8.setCell _ u).alloc (.map #[] 0)).heap[rb]?=U _):=λu=>cX (bt _ _) (HA u)
  have e6:∀u,((w8.setCell (ar rb 4 J) u).alloc (.map #[] 0)).cell? ⟨rb,6,J⟩=U mv:=λu=>by simp[aL,P6.o u,gq]
  have f6:∀u,((w8.setCell (ar rb 4 J) u).alloc (.map #[] 0)).frozen? ⟨rb,6,J⟩=false:=λu=>by simp[bE,P6.o u]
  have H8:ag _:=r8.2;change ag _ at cv fG
  clear r8 iD y0 y1 y2 y3 y4 y5 y6 y7 y8 y9 JY c4;go_wp2;go_ret
  refine⟨rfl,?_,nm,z,w.heap.size,g',cap',w8.heap.size,HV,?_,?_⟩
  ·exact((H8.setCell (p:=⟨rb,4,_⟩) h.lo _).alloc (by have:=H8.size;simp[cZ];omega) _).setCell (p:=⟨rb,6,_⟩) h.lo _
  ·exact aar (dm.below ((aC _ w2).drew.alloc (by simp) _)) h HS.2.size (aO.trans (((aC _ w2).drew.alloc (by simp) _).mono aO.size)) cv fG rfl
  have h1:=cv.size;have h2:=aO.size;simp[cZ]at h1⊢
  omega
def aav(w:ah)(q:ByteArray)(T:TypeId):∀(j:Nat) u,([aB q]:List aj)[j]?=U u->(w.alloc (ay #[aB q] T)).cell? ((⟨w.heap.size,0,J⟩:av).add j)=U u:=by
 intro j u hu
 match j,hu with
 |0,hu=>
  simp at hu
  subst hu;rw[oM,fE _ _ _ _ rfl];rfl
 |j+1,hu=>simp at hu
def aaw(A:Nat->av)(w0 w:ah)(rb L g cap mb:Nat)(c:aV)(last:Int)(es:List aG)(e:aG)(x:bJ)(cells:List aj)(sa:Option av)(ws:List ByteArray)(wb wo wc:Nat)(hs:dD A w0)(hb0:Below w0.heap.size w0 w)(h:dh w0.heap.size rb L g cap mb w c last es e x cells)(iC:L<=w.heap.size)(hW:jG w sa ws wb wo)(hn:e.au.length<=1000000):Calls prog 144 #[.pointer (U (ar rb 0 J)),.pointer (U ⟨g,es.length*10,J⟩),.slice sa ws.length wc] w λv w'=>v=.returned (bF A (aI (aM e.au) false [0] (ws.map bl)).1)/\Below w0.heap.size w0 w'/\∃(q:ByteArray) (x':bJ),((aI (aM e.au) false [0] (ws.map bl)).1=0->∀s,ws[0]?=U s->q=s)/\dh w0.heap.size rb L g cap mb w' c last es { e with au:=e.au++[q] } x' cells/\L<=w'.heap.size:=by
 obtain⟨i0,hi,hz0,hz1,hz2⟩:=ma G_;obtain⟨fa,fc,eP⟩:=eO h.new.hp;obtain⟨o,ho⟩:∃o,o=es.length*10:=⟨_,rfl⟩;have HS:ag (dD A w0/\Below _ w0 w):=⟨hs,hb0⟩;change ag _ at h hW eP iC
 rw[<- ho];clear hs hb0;change ag _ at ho;go_enter func144,ntmps144
 go_upto_region 2 with fail
 obtain⟨W1,hW1⟩:∃V,V=w.alloc (.cells #[.string ⟨#[]⟩] 9):=⟨_,rfl⟩;rw[<- hW1];have aS:ag (Below w.heap.size w W1):=by show Below _ _ _;rw[hW1];exact bt _ _
 have gu:ag (W1.heap.size=w.heap.size+1):=by show _=_;rw[hW1];simp
 have dA:ag (W1.cell? (ar w.heap.size 0 J)=U (.string ⟨#[]⟩)/\W1.frozen? (ar w.heap.size 0 J)=false):=by
  refine⟨by rw[hW1,fE _ _ _ _ rfl];rfl,?_⟩;rw[hW1,lh];exact vv w 0 0
 have lp:ag (oq w0 rb e.au [0] [(w.heap.size,0)] ws wb wo W1.heap.size (W1.alloc (.cells #[.iface 215 (.pointer (U (ar w.heap.size 0 J)))] 20))):=by
  have cq:=bt W1 (.cells #[.iface 215 (.pointer (U (ar w.heap.size 0 J)))] 20);have hlt:=hW.lt;have hz:=gu.o;have iZ:=cU h.row;have hsz:=HS.2.size
  refine⟨HS.2.trans ((aS.trans (cq.mono aS.size)).mono hsz),rfl,by simp,by simp,?_,?_,by simp,?_,λi s hi=>aA cq (aA aS (hW.qc i s hi)),hW.sz,λh2=>by simp at h2⟩
  ·intro i f t hf ht
   match i,hf,ht with
   |0,hf,ht=>
    simp at hf ht
    subst hf ht;exact⟨⟨_,aA cq dA.1,⟨_,rfl,by decide⟩⟩,by rw[o7 cq dA.1];exact dA.2⟩
   |i+1,hf,_=>simp at hf
  ·intro t ht;simp only[p_]at ht;subst ht;exact⟨by show w0.heap.size<=w.heap.size;exact hsz,λe2=>by have:=(o6 e2).1;omega,by show w.heap.size≠_;omega,by show w.heap.size≠_;omega⟩
  intro i f t hf ht
  match i,hf,ht with
  |0,hf,ht=>
   simp at hf ht
   subst hf ht;rw[fE _ _ _ _ rfl];rfl
  |i+1,hf,_=>simp at hf
 clear hW1;go_wp2_with fail
 apply(tQ A w0 _ rb _ [0] _ ws sa wb wo wc _ HS.1 lp hW.sa hW.few).mono;rintro v w2 ⟨rfl,us,jo,fX,fY,eX⟩;obtain⟨u,rfl⟩:∃u,us=[u]:=by
  match us,jo with
  |[u],_=>exact⟨u,rfl⟩
 obtain⟨q,rfl,hq⟩:=fX 0 0 u rfl rfl;have HV:ag ((aI (aM e.au) false [0] (ws.map bl)).1=0->∀s,ws[0]?=U s->q=s):=λh0 s hs=>by
  have:=fY h0 0 0 s _ rfl hs rfl;unfold valOf at this;rw[aU rfl]at this;exact Value.string.inj this
 have aO:ag _:=AG (aS.trans ((bt _ _).mono aS.size)) (λt ht=>by simp only[p_]at ht;subst ht;exact aR _) eX;have cp:w2.cell? (ar w.heap.size 0 J)=U (.string q):=by
  have h1:=yN (u:=.string q) (aA (bt W1 (.cells #[.iface 215 (.pointer (U (ar w.heap.size 0 J)))] 20)) dA.1);have h2:=eX.cell (p:=⟨w.heap.size,0,J⟩) (by show w.heap.size<_;have:=gu.o;simp;omega);exact h2.trans h1
 clear jo fX fY eX lp dA;have dm:ag _:=h.below aO;have jV:ag _:=bH iC.o aO.size;have c2:w2.cell? ⟨g,o+2,J⟩=U (.slice fa e.au.length fc):=by rw[ho.o,<- eP.o];exact(dm.iY (j:=2) rfl).1
 have c6:=dm.AE.c6;obtain⟨D,hD,P7⟩:=dm.map;have hkey:keyOf _ 9 _=U (pM q):=Go.WideMaps.keyOf_string_mk underlying9 (by unfold maxLen;omega);obtain⟨w3,hrun,P8,hturn⟩:=World.ownsMap.store (w:=w2.drew) (hD:w2.drew.ownsMap _ _ _ _ _ _) BK underlying121 (by unfold maxLen;omega) hkey (plainElem_int underlying3 (a:=(e.au.length:Int)) (by go_wf));have HM:ag (∃D:DataW _,w3.ownsMap _ 9 _ mb _ D/\vp D _):=⟨_,P8,ZL P7 hD.isMap q⟩;have HT:ag _:=hturn.grown;have qT:ag (jF w0.heap.size rb L g cap mb w3 c last es e x cells):=by
  obtain⟨ms,cl,h1,h2⟩:=id hD;exact(dm.tojF.below (w':=w2.drew) (aC _ w2).drew).mapped HT h1
 clear P8 hturn hD P7 hkey;go_wp2_with fail
 have mX:ag _:=((HS.2.trans (aO.mono HS.2.size)).drew).grown HT (by have:=HS.2.size;have:=aO.size;show _<=w2.heap.size;omega) (λk hk=>by cases hk;exact qT.xi);have XY:=HT.cell cp (λe2=>by
  obtain⟨D',⟨ms,cl,h1,-⟩,-⟩:=dm.map;simp only[gQ]at e2;have h3:w2.heap[w.heap.size]?=U (.map ms cl):=by rw[e2];exact h1
  unfold aL at cp;simp only[h3]at cp
  cases cp)
 have P9:ag _:=bH jV.o HT.size;have mf:=P9.o;have c8:w3.cell? ⟨g,o+2,J⟩=U (.slice fa e.au.length fc):=by rw[ho.o,<- eP.o];exact(qT.iY (j:=2) rfl).1
 have hown:w3.drew.ownsRow L 9 1 (.slice fa e.au.length fc) e.au.length (e.au.flatMap gg):=by rw[<- eP.o];exact qT.new.hp
 have KB:ag (∀(ob:Obj) (w8:ah),(w3.drew.alloc ob).grownBy w8 (Value.slice fa e.au.length fc).ownBlock->w8.cell? ⟨g,o+2,J⟩=U (.slice fa e.au.length fc)/\w8.frozen? ⟨g,o+2,J⟩=false):=λob w8 hg=>by
  have JZ:=qT.below (w':=w3.drew.alloc ob) ((aC _ w3).drew.alloc (by simp) ob);obtain⟨cur,hc,-⟩:=JZ.grow;rw[<- eP.o]at hg⊢;rw[ho.o];have e1:=(hg.block g (cU hc) (λe2=>eu JZ.new.hp hc (aD rfl) e2.symm));have h2:=JZ.iY (j:=2) (u:=x.p) rfl;exact⟨(jc e1).trans h2.1,by have:=h2.2;unfold bE at this⊢;simp only at this⊢;rw[e1];exact this⟩
 have Fv:∀ob,(w3.alloc ob).cell? _=U _:=λob=>aA (bt _ _) c8
 go_region
 all_goals
  clear hrun c2 c6 cp;go_wp2_with fail
  go_region_law (refine qa _ rfl _ _ 22 rfl L 9 i0 _ 1 16 underlying22 hi hz0 hz1 hz2 rfl (aD rfl) _ _ _ (by simp[Act.eval]) (hown.alloc _) _ 1 1 _ (by simp[Act.eval]) rfl (aav _ q 9) (Uw q) (aD rfl) (by unfold maxLen;omega) (by omega) (by simp;omega) (w3.heap.size+1) (by simp) ?_;intro g' cap' w8 fG cv iD o9;have r8:=KB _ _ cv;have d1:=r8.1;have d2:=r8.2)
 all_goals
  go_wp2;go_ret
  refine⟨rfl,?_,q,{ x with p:=.slice (U (ar g' 0 J)) (e.au.length+1) cap' },HV,?_,?_⟩
  ·obtain⟨cur,-,hB⟩:=qT.grow;have b4:Below _ w0 (w3.drew.alloc (.cells #[.string q] 9)):=mX.trans (((aC _ w3).drew.alloc (by simp) _).mono mX.size);rw[<- eP.o]at cv;exact(b4.grown cv b4.size (λk hk=>bH qT.ll (qT.new.hp.lt k hk).1)).setCell (p:=⟨g,_,_⟩) hB _
  ·rw[ho.o];obtain⟨D',m1,m2⟩:=HM.o;exact(qT.below (w':=w3.drew.alloc _) ((aC _ w3).drew.alloc (by simp) _)).JP q ⟨D',m1.drew.alloc _,m2⟩ (by rw[eP.o];exact cv) fG
  have h1:=cv.size;have h2:=P9.o;simp[cZ]at h1⊢
  omega
def aax(A:Nat->av)(w0 w:ah)(rb L g cap mb:Nat)(c:aV)(last:Int)(es:List aG)(e:aG)(x:bJ)(cells:List aj)(sa:Option av)(ws:List ByteArray)(wb wo wc:Nat)(hs:dD A w0)(hb0:Below w0.heap.size w0 w)(h:dh w0.heap.size rb L g cap mb w c last es e x cells)(iC:L<=w.heap.size)(hW:jG w sa ws wb wo)(hn:e.au.length<=1000000):Calls prog 107 #[ax (U (ar rb 0 J)),ax (U ⟨g,es.length*10,J⟩),af I 4,ak sa ws.length wc] w λv w'=>v=aH (bF A (aI (aM e.au) false [0] (ws.map bl)).1)/\Below w0.heap.size w0 w'/\∃(q:ByteArray) (x':bJ),((aI (aM e.au) false [0] (ws.map bl)).1=0->∀s,ws[0]?=U s->q=s)/\dh w0.heap.size rb L g cap mb w' c last es { e with au:=e.au++[q] } x' cells/\L<=w'.heap.size:=by
 have hb1:Below _ w ((w.alloc (ay #[af I 0] 216)).alloc (ay #[af I 0] 216)):=(bt _ _).alloc (by simp) _;have HC:ag _:=aaw A w0 _ rb L g cap mb c _ es e x _ sa ws wb wo wc hs (hb0.trans (hb1.mono hb0.size)) (h.below hb1) (bH iC hb1.size) (hW.below hb1) hn;generalize es.length*10=o at HC⊢;go_enter func107,ntmps107
 go_wp2_with fail
 refine bw HC.o ?_;rintro v w2 ⟨rfl,(h1:ag _),(h2:ag _)⟩;go_wp2;go_ret;exact⟨rfl,h1,h2⟩
def r_:∀(fs:List Nat) (ws:List Bs),(aI look false fs ws).1=0->ws.length=fs.length/\(aI look false fs ws).2.length=fs.length/\∀(i:Nat) f w,fs[i]?=U f->ws[i]?=U w->(aI look false fs ws).2[i]?=U (bg look f w).2
 |[],ws,h=>by
  have:=Tw h;subst this;exact⟨rfl,rfl,λi f w hf=>by simp at hf⟩
 |f::fs,ws,h=>by
  obtain⟨w,Bp,rfl,h1,h2,h3⟩:=Tt h;obtain⟨a,b,d⟩:=r_ fs Bp h2;rw[h3]
  refine⟨by simp[a],by simp[b],λi f' w' hf hw=>?_⟩
  cases i with
  |zero=>
   simp at hf hw
   subst hf hw;rfl
  |succ i=>
   simp at hf hw⊢
   exact d i f' w' hf hw
structure qU(n:Nat)(e:aG):Prop where
 p:e.au.length<=n
 g:e.aP.length<=n
 d:e.aN.length<=n
 f:e.first.length<=n
 l:e.last.length<=n
def qU.mono{m:Nat}(h:qU n e)(hm:n<=m):qU m e:=⟨bH h.p hm,bH h.g hm,bH h.d hm,bH h.f hm,bH h.l hm⟩
def qU.upd{ws:List Bs}(h:qU n e):qU (n+1) (np k ws vs e):=by
 obtain⟨p,g,ee,f,l⟩:=h;unfold np
 split
 all_goals exact⟨by simp;omega,by simp;omega,by simp;omega,by simp;omega,by simp;omega⟩
def nO{z:Int}(h:vs[i]?=U z):vs.getD i 0=z:=by rw[nu,h];rfl
def mg(h:ws.length=n)(hi:i<n):∃s,ws[i]?=U s:=⟨ws[i]'(by omega),bL _⟩
def jF.c4{B mb:Nat}{last:Int}(h:jF B rb L g cap mb w c last es e x cells):w.cell? (ar rb 4 J)=U (ak (U (ar g 0 J)) (es.length+1) cap):=by have:=h.row;simp[aL,this,gq]
def aay(A:Nat->av)(w0 w:ah)(rb L g cap mb k:Nat)(c:aV)(last:Int)(es:List aG)(e:aG)(x:bJ)(cells:List aj)(sa:Option av)(ws:List ByteArray)(wb wo wc:Nat)(hs:dD A w0)(hb0:Below w0.heap.size w0 w)(h:dh w0.heap.size rb L g cap mb w c last es e x cells)(iC:L<=w.heap.size)(hW:jG w sa ws wb wo)(hn:qU 1000000 e)(hk:4<=k)(hk2:k<10):Calls prog 107 #[ax (U (ar rb 0 J)),ax (U ⟨g,es.length*10,J⟩),af I (k:Int),ak sa ws.length wc] w λv w'=>v=aH (bF A (aI (aM e.au) false (form k) (ws.map bl)).1)/\Below w0.heap.size w0 w'/\w'.cell? (ar rb 4 J)=U (ak (U (ar g 0 J)) (es.length+1) cap)/\((aI (aM e.au) false (form k) (ws.map bl)).1=0->∃x',dh w0.heap.size rb L g cap mb w' c last es (np k (ws.map bl) (aI (aM e.au) false (form k) (ws.map bl)).2 e) x' cells/\L<=w'.heap.size):=by
 match k,hk,hk2 with
 |4,_,_=>
  apply(aax A w0 w rb L g cap mb c _ es e x _ sa ws wb wo wc hs hb0 h iC hW hn.p).mono;rintro v w' ⟨rfl,hb,q,x',hv,hr,hL⟩
  refine⟨rfl,hb,hr.c4,λh0=>⟨x',?_,hL⟩⟩;obtain⟨hl,-,hd⟩:=r_ _ _ h0;obtain⟨s,hs0⟩:=mg (i:=0) (by simpa[form]using hl) (aD rfl);have hq:=hv h0 s hs0;subst hq;have e1:(ws.map bl).getD 0 []=bl q:=by rw[nu,iT,hs0];rfl
  show dh _ _ _ _ _ _ _ _ _ _ (aG.mk ..) _ _
  rw[e1,show (⟨_⟩:ByteArray)=q from oG (uA _)];exact hr
 |5,_,_=>
  apply(aap A w0 w rb L g cap mb c _ es e x _ sa ws wb wo wc hs hb0 h iC hW).mono;rintro v w' ⟨rfl,hb,z0,z1,z2,hv,hr,hL⟩
  refine⟨rfl,hb,hr.c4,λh0=>⟨x,?_,hL⟩⟩;obtain⟨hl,-,hd⟩:=r_ _ _ h0;obtain⟨s0,q0⟩:=mg (i:=0) (by simpa[form]using hl) (aD rfl);obtain⟨s1,q1⟩:=mg (i:=1) (by simpa[form]using hl) (aD rfl);obtain⟨s2,q2⟩:=mg (i:=2) (by simpa[form]using hl) (aD rfl);obtain⟨v0,v1,v2⟩:=hv h0;show dh _ _ _ _ _ _ _ _ _ _ (aG.mk ..) _ _
  rw[nO (hd 0 2 _ rfl (by rw[iT,q0];rfl)),nO (hd 1 1 _ rfl (by rw[iT,q1];rfl)),nO (hd 2 1 _ rfl (by rw[iT,q2];rfl)),<- v0 s0 q0,<- v1 s1 q1,<- v2 s2 q2];exact hr
 |6,_,_=>
  apply(aam A w0 w rb L g cap mb c _ es e x _ sa ws wb wo wc hs hb0 h iC hW hn.g).mono;rintro v w' ⟨rfl,hb,z0,z1,z2,z3,x',hv,hr,hL⟩
  refine⟨rfl,hb,hr.c4,λh0=>⟨x',?_,hL⟩⟩;obtain⟨hl,-,hd⟩:=r_ _ _ h0;obtain⟨s0,q0⟩:=mg (i:=0) (by simpa[form]using hl) (aD rfl);obtain⟨s1,q1⟩:=mg (i:=1) (by simpa[form]using hl) (aD rfl);obtain⟨s2,q2⟩:=mg (i:=2) (by simpa[form]using hl) (aD rfl);obtain⟨s3,q3⟩:=mg (i:=3) (by simpa[form]using hl) (aD rfl);obtain⟨v0,v1,v2,v3⟩:=hv h0;show dh _ _ _ _ _ _ _ _ _ _ (aG.mk ..) _ _
  rw[nO (hd 0 2 _ rfl (by rw[iT,q0];rfl)),nO (hd 1 2 _ rfl (by rw[iT,q1];rfl)),nO (hd 2 1 _ rfl (by rw[iT,q2];rfl)),nO (hd 3 1 _ rfl (by rw[iT,q3];rfl)),<- v0 s0 q0,<- v1 s1 q1,<- v2 s2 q2,<- v3 s3 q3];exact hr
 |7,_,_=>
  apply(aal A w0 w rb L g cap mb c _ es e x _ sa ws wb wo wc hs hb0 h iC hW hn.d).mono;rintro v w' ⟨rfl,hb,z0,z1,x',hv,hr,hL⟩
  refine⟨rfl,hb,hr.c4,λh0=>⟨x',?_,hL⟩⟩;obtain⟨hl,-,hd⟩:=r_ _ _ h0;obtain⟨s0,q0⟩:=mg (i:=0) (by simpa[form]using hl) (aD rfl);obtain⟨s1,q1⟩:=mg (i:=1) (by simpa[form]using hl) (aD rfl);obtain⟨v0,v1⟩:=hv h0;show dh _ _ _ _ _ _ _ _ _ _ (aG.mk ..) _ _
  rw[nO (hd 0 2 _ rfl (by rw[iT,q0];rfl)),nO (hd 1 2 _ rfl (by rw[iT,q1];rfl)),<- v0 s0 q0,<- v1 s1 q1];exact hr
 |8,_,_=>
  apply(aaj A w0 w rb L g cap mb c _ es e x _ sa ws wb wo wc hs hb0 h iC hW hn.f).mono;rintro v w' ⟨rfl,hb,z0,x',hv,hr,hL⟩
  refine⟨rfl,hb,hr.c4,λh0=>⟨x',?_,hL⟩⟩;obtain⟨hl,-,hd⟩:=r_ _ _ h0;obtain⟨s0,q0⟩:=mg (i:=0) (by simpa[form]using hl) (aD rfl);show dh _ _ _ _ _ _ _ _ _ _ (aG.mk ..) _ _
  rw[nO (hd 0 2 _ rfl (by rw[iT,q0];rfl)),<- hv h0 s0 q0];exact hr
 |9,_,_=>
  apply(aak A w0 w rb L g cap mb c _ es e x _ sa ws wb wo wc hs hb0 h iC hW hn.l).mono;rintro v w' ⟨rfl,hb,z0,x',hv,hr,hL⟩
  refine⟨rfl,hb,hr.c4,λh0=>⟨x',?_,hL⟩⟩;obtain⟨hl,-,hd⟩:=r_ _ _ h0;obtain⟨s0,q0⟩:=mg (i:=0) (by simpa[form]using hl) (aD rfl);show dh _ _ _ _ _ _ _ _ _ _ (aG.mk ..) _ _
  rw[nO (hd 0 2 _ rfl (by rw[iT,q0];rfl)),<- hv h0 s0 q0];exact hr
 |k+10,_,h10=>exact absurd h10 (by omega)
def jq(B rb:Nat)(w:ah)(c:aV)(last:Int):Prop:=nN B rb w c last\/∃L g cap mb es e x cells,c.az=es++[e]/\dh B rb L g cap mb w c last es e x cells/\L<=w.heap.size
abbrev yU (rb:Nat):Obj:=(.cells #[.iface 192 (.pointer (some ⟨rb,0,none⟩)),.iface 192 (.pointer (some ⟨rb,1,none⟩))] 20)
abbrev yV (rb:Nat):Obj:=(.cells #[.iface 192 (.pointer (some ⟨rb,2,none⟩))] 20)
abbrev yX (rb:Nat):Obj:=(.cells #[.iface 192 (.pointer (some ⟨rb,3,none⟩))] 20)
def P_(es:List aG)(e:aG):bu (es++[e])=e.au:=by simp[bu]
def aaz(hf:f<2)(w:Bs):bg l1 f w=bg l2 f w:=by
 unfold bg
 match f,hf with
 |0,_=>rfl
 |1,_=>rfl
def Qa:∀(fs:List Nat) (ws:List Bs) (nn:Bool),(∀f∈fs,f<2)->aI l1 nn fs ws=aI l2 nn fs ws
 |[],[],_,_=>rfl
 |[],_::_,_,_=>rfl
 |_::_,[],_,_=>rfl
 |f::fs,w::ws,nn,h=>by
  have e:=aaz (l1:=l1) (l2:=l2) (h f (by simp)) w;unfold aI;rw[e]
  split
  ·rfl
  rw[Qa fs ws _ (λf hf=>h f (by simp[hf]))]
def aaA(A:Nat->av)(w0 w:ah)(rb:Nat)(c:aV)(last:Int)(sa:Option av)(ws:List ByteArray)(wb wo wc:Nat)(hs:dD A w0)(hb0:Below w0.heap.size w0 w)(h:nN w0.heap.size rb w c last)(hW:jG w sa ws wb wo)(q:Nat):Calls prog 105 #[ax (U (ar rb 0 J)),ak sa ws.length wc,ak (U (ar w.heap.size 0 J)) 2 2] ((w.drewN q).alloc (yU rb)) λv w2=>v=aH (bF A (aI (aM []) false [1,1] (ws.map bl)).1)/\Below w0.heap.size w0 w2/\∃z0 z1:Int,((aI (aM []) false [1,1] (ws.map bl)).1=0->(∀s,ws[0]?=U s->z0=(bg (aM []) 1 (bl s)).2)/\(∀s,ws[1]?=U s->z1=(bg (aM []) 1 (bl s)).2))/\nN w0.heap.size rb w2 ⟨z0,z1,c.cycle,c.bO,c.az⟩ last:=by
 have cq:Below w.heap.size w ((w.drewN q).alloc (yU rb)):=(cB (aC _ _) q).alloc (aR _) _;have hrow:=cX cq h.row;have iZ:=cU h.row;have hlt:=hW.lt;have hne:rb≠wb:=λe2=>by
  obtain⟨cc,fr,hh⟩:=hW.blk;have h1:=h.row;rw[e2,hh]at h1;simp only[gQ,uD]at h1;exact absurd h1.2.1 (aD rfl)
 have CS:oq w0 rb [] [1,1] [(rb,0),(rb,1)] ws wb wo w.heap.size ((w.drewN q).alloc (yU rb)):=by
  refine⟨hb0.trans (cq.mono hb0.size),rfl,by simp,by simp,?_,?_,by simp,?_,λi s hi=>aA cq (hW.qc i s hi),hW.sz,λh2=>by simp at h2⟩
  ·intro i f t hf ht
   match i,hf,ht with
   |0,hf,ht=>
    simp at hf ht
    subst hf ht;exact⟨⟨af I c.closed,by simp[aL,hrow,gq],⟨_,rfl⟩⟩,by simp[bE,hrow]⟩
   |1,hf,ht=>
    simp at hf ht
    subst hf ht;exact⟨⟨af I c.opn,by simp[aL,hrow,gq],⟨_,rfl⟩⟩,by simp[bE,hrow]⟩
   |i+2,hf,_=>simp at hf
  ·intro t ht;simp only[fu,ik,iI]at ht
   rcases ht with rfl|rfl
   all_goals exact⟨h.lo,λe2=>by simp at e2,by simp only[];omega,hne⟩
  intro i f t hf ht
  match i,hf,ht with
  |0,hf,ht=>
   simp at hf ht
   subst hf ht;show aL _ ⟨(w.drewN q).heap.size,_,_⟩=_
   rw[fE _ _ _ _ rfl];rfl
  |1,hf,ht=>
   simp at hf ht
   subst hf ht;show aL _ ⟨(w.drewN q).heap.size,_,_⟩=_
   rw[fE _ _ _ _ rfl];rfl
  |i+2,hf,_=>simp at hf
 apply(tQ A w0 _ rb [] _ _ ws sa wb wo wc _ hs CS hW.sa hW.few).mono;rintro v w2 ⟨rfl,us,jo,fX,fY,eX⟩;obtain⟨u0,u1,rfl⟩:∃u0 u1,us=[u0,u1]:=by
  match us,jo with
  |[u0,u1],_=>exact⟨u0,u1,rfl⟩
 obtain⟨z0,rfl⟩:=fX 0 1 u0 rfl rfl;obtain⟨z1,rfl⟩:=fX 1 1 u1 rfl rfl;have hsz:(bZ ((w.drewN q).alloc (yU rb)) [(rb,0),(rb,1)] [af I z0,af I z1]).heap.size=((w.drewN q).alloc (yU rb)).heap.size:=by simp[bZ]
 have qd:Below (bZ ((w.drewN q).alloc (yU rb)) [(rb,0),(rb,1)] [af I z0,af I z1]).heap.size (bZ ((w.drewN q).alloc (yU rb)) [(rb,0),(rb,1)] [af I z0,af I z1]) w2:=by rw[hsz];exact eX
 have b1:Below _ w0 (bZ _ [(rb,0),(rb,1)] [af I z0,af I z1]):=(hb0.trans (cq.mono hb0.size)).trans (yP _ _ _ _ (λt ht=>by simp at ht;first|(subst ht;exact h.lo)|(rcases ht with rfl|rfl<;>exact h.lo)))
 refine⟨rfl,b1.trans (qd.mono b1.size),z0,z1,λh0=>⟨(λs hs=>by have:=fY h0 0 1 s _ rfl hs rfl;unfold valOf at this;rw[aF (aD rfl)]at this;exact(nM this).2),(λs hs=>by have:=fY h0 1 1 s _ rfl hs rfl;unfold valOf at this;rw[aF (aD rfl)]at this;exact(nM this).2)⟩,h.lo,h.nil,cX qd ?_⟩;simp only[bZ,cZ,fR,hrow];simp[gq]
def aaB(A:Nat->av)(w0 w:ah)(rb:Nat)(c:aV)(last:Int)(sa:Option av)(ws:List ByteArray)(wb wo wc:Nat)(hs:dD A w0)(hb0:Below w0.heap.size w0 w)(h:nN w0.heap.size rb w c last)(hW:jG w sa ws wb wo)(q:Nat):Calls prog 105 #[ax (U (ar rb 0 J)),ak sa ws.length wc,ak (U (ar w.heap.size 0 J)) 1 1] ((w.drewN q).alloc (yV rb)) λv w2=>v=aH (bF A (aI (aM []) false [1] (ws.map bl)).1)/\Below w0.heap.size w0 w2/\∃z0:Int,((aI (aM []) false [1] (ws.map bl)).1=0->(∀s,ws[0]?=U s->z0=(bg (aM []) 1 (bl s)).2))/\nN w0.heap.size rb w2 ⟨c.closed,c.opn,z0,c.bO,c.az⟩ last:=by
 have cq:Below w.heap.size w ((w.drewN q).alloc (yV rb)):=(cB (aC _ _) q).alloc (aR _) _;have hrow:=cX cq h.row;have iZ:=cU h.row;have hlt:=hW.lt;have hne:rb≠wb:=λe2=>by
  obtain⟨cc,fr,hh⟩:=hW.blk;have h1:=h.row;rw[e2,hh]at h1;simp only[gQ,uD]at h1;exact absurd h1.2.1 (aD rfl)
 have CS:oq w0 rb [] [1] [(rb,2)] ws wb wo w.heap.size ((w.drewN q).alloc (yV rb)):=by
  refine⟨hb0.trans (cq.mono hb0.size),rfl,by simp,by simp,?_,?_,by simp,?_,λi s hi=>aA cq (hW.qc i s hi),hW.sz,λh2=>by simp at h2⟩
  ·intro i f t hf ht
   match i,hf,ht with
   |0,hf,ht=>
    simp at hf ht
    subst hf ht;exact⟨⟨af I c.cycle,by simp[aL,hrow,gq],⟨_,rfl⟩⟩,by simp[bE,hrow]⟩
   |i+1,hf,_=>simp at hf
  ·intro t ht;simp only[fu,ik,iI]at ht;subst ht;exact⟨h.lo,λe2=>by simp at e2,by simp only[];omega,hne⟩
  intro i f t hf ht
  match i,hf,ht with
  |0,hf,ht=>
   simp at hf ht
   subst hf ht;show aL _ ⟨(w.drewN q).heap.size,_,_⟩=_
   rw[fE _ _ _ _ rfl];rfl
  |i+1,hf,_=>simp at hf
 apply(tQ A w0 _ rb [] [1] _ ws sa wb wo wc _ hs CS hW.sa hW.few).mono;rintro v w2 ⟨rfl,us,jo,fX,fY,eX⟩;obtain⟨u0,rfl⟩:∃u0,us=[u0]:=by
  match us,jo with
  |[u0],_=>exact⟨u0,rfl⟩
 obtain⟨z0,rfl⟩:=fX 0 1 u0 rfl rfl;have hsz:(bZ ((w.drewN q).alloc (yV rb)) [(rb,2)] [af I z0]).heap.size=((w.drewN q).alloc (yV rb)).heap.size:=by simp[bZ]
 have qd:Below (bZ ((w.drewN q).alloc (yV rb)) [(rb,2)] [af I z0]).heap.size (bZ ((w.drewN q).alloc (yV rb)) [(rb,2)] [af I z0]) w2:=by rw[hsz];exact eX
 have b1:Below _ w0 (bZ _ [(rb,2)] [af I z0]):=(hb0.trans (cq.mono hb0.size)).trans (yP _ _ _ _ (λt ht=>by simp at ht;first|(subst ht;exact h.lo)|(rcases ht with rfl|rfl<;>exact h.lo)))
 refine⟨rfl,b1.trans (qd.mono b1.size),z0,λh0=>(λs hs=>by have:=fY h0 0 1 s _ rfl hs rfl;unfold valOf at this;rw[aF (aD rfl)]at this;exact(nM this).2),h.lo,h.nil,cX qd ?_⟩;simp only[bZ,cZ,fR,hrow];simp[gq]
def aaC(A:Nat->av)(w0 w:ah)(rb:Nat)(c:aV)(last:Int)(sa:Option av)(ws:List ByteArray)(wb wo wc:Nat)(hs:dD A w0)(hb0:Below w0.heap.size w0 w)(h:nN w0.heap.size rb w c last)(hW:jG w sa ws wb wo)(q:Nat):Calls prog 105 #[ax (U (ar rb 0 J)),ak sa ws.length wc,ak (U (ar w.heap.size 0 J)) 1 1] ((w.drewN q).alloc (yX rb)) λv w2=>v=aH (bF A (aI (aM []) false [1] (ws.map bl)).1)/\Below w0.heap.size w0 w2/\∃z0:Int,((aI (aM []) false [1] (ws.map bl)).1=0->(∀s,ws[0]?=U s->z0=(bg (aM []) 1 (bl s)).2))/\nN w0.heap.size rb w2 ⟨c.closed,c.opn,c.cycle,z0,c.az⟩ last:=by
 have cq:Below w.heap.size w ((w.drewN q).alloc (yX rb)):=(cB (aC _ _) q).alloc (aR _) _;have hrow:=cX cq h.row;have iZ:=cU h.row;have hlt:=hW.lt;have hne:rb≠wb:=λe2=>by
  obtain⟨cc,fr,hh⟩:=hW.blk;have h1:=h.row;rw[e2,hh]at h1;simp only[gQ,uD]at h1;exact absurd h1.2.1 (aD rfl)
 have CS:oq w0 rb [] [1] [(rb,3)] ws wb wo w.heap.size ((w.drewN q).alloc (yX rb)):=by
  refine⟨hb0.trans (cq.mono hb0.size),rfl,by simp,by simp,?_,?_,by simp,?_,λi s hi=>aA cq (hW.qc i s hi),hW.sz,λh2=>by simp at h2⟩
  ·intro i f t hf ht
   match i,hf,ht with
   |0,hf,ht=>
    simp at hf ht
    subst hf ht;exact⟨⟨af I c.bO,by simp[aL,hrow,gq],⟨_,rfl⟩⟩,by simp[bE,hrow]⟩
   |i+1,hf,_=>simp at hf
  ·intro t ht;simp only[fu,ik,iI]at ht;subst ht;exact⟨h.lo,λe2=>by simp at e2,by simp only[];omega,hne⟩
  intro i f t hf ht
  match i,hf,ht with
  |0,hf,ht=>
   simp at hf ht
   subst hf ht;show aL _ ⟨(w.drewN q).heap.size,_,_⟩=_
   rw[fE _ _ _ _ rfl];rfl
  |i+1,hf,_=>simp at hf
 apply(tQ A w0 _ rb [] [1] _ ws sa wb wo wc _ hs CS hW.sa hW.few).mono;rintro v w2 ⟨rfl,us,jo,fX,fY,eX⟩;obtain⟨u0,rfl⟩:∃u0,us=[u0]:=by
  match us,jo with
  |[u0],_=>exact⟨u0,rfl⟩
 obtain⟨z0,rfl⟩:=fX 0 1 u0 rfl rfl;have hsz:(bZ ((w.drewN q).alloc (yX rb)) [(rb,3)] [af I z0]).heap.size=((w.drewN q).alloc (yX rb)).heap.size:=by simp[bZ]
 have qd:Below (bZ ((w.drewN q).alloc (yX rb)) [(rb,3)] [af I z0]).heap.size (bZ ((w.drewN q).alloc (yX rb)) [(rb,3)] [af I z0]) w2:=by rw[hsz];exact eX
 have b1:Below _ w0 (bZ _ [(rb,3)] [af I z0]):=(hb0.trans (cq.mono hb0.size)).trans (yP _ _ _ _ (λt ht=>by simp at ht;first|(subst ht;exact h.lo)|(rcases ht with rfl|rfl<;>exact h.lo)))
 refine⟨rfl,b1.trans (qd.mono b1.size),z0,λh0=>(λs hs=>by have:=fY h0 0 1 s _ rfl hs rfl;unfold valOf at this;rw[aF (aD rfl)]at this;exact(nM this).2),h.lo,h.nil,cX qd ?_⟩;simp only[bZ,cZ,fR,hrow];simp[gq]
def aaD(A:Nat->av)(w0 w:ah)(rb:Nat)(c:aV)(last:Int)(sa:Option av)(ws:List ByteArray)(wb wo wc:Nat)(hs:dD A w0)(hb0:Below w0.heap.size w0 w)(h:nN w0.heap.size rb w c last)(hW:jG w sa ws wb wo):Calls prog 83 #[ax (U (ar rb 0 J)),af I 0,ak sa ws.length wc] w λv w'=>v=aH (bF A (aI (aM (bu c.az)) false (form 0) (ws.map bl)).1)/\Below w0.heap.size w0 w'/\((aI (aM (bu c.az)) false (form 0) (ws.map bl)).1=0->jq w0.heap.size rb w' (eV c 0 (ws.map bl) (aI (aM (bu c.az)) false (form 0) (ws.map bl)).2) last):=by
 have HP:ag (∀(zs:List Int),zs=(aI (aM []) _ [1,1] _).2->(aI (aM (bu c.az)) false (form 0) (ws.map bl)).2=zs):=λzs hz=>by rw[hz,h.nil];rfl
 have HF:ag ((aI (aM (bu c.az)) false (form 0) (ws.map bl)).1=(aI (aM []) false [1,1] (ws.map bl)).1):=by show _=_;rw[h.nil];rfl
 have H:ag _:=aaA A w0 w rb c _ sa ws wb wo wc hs hb0 h hW;go_enter func83,ntmps83
 go_upto_region 3 with fail
 go_region_held3 (λ_=>True) (exact trivial) (first|(go_at_call 105;refine bw (H.o _) ?_;rintro v w2 ⟨rfl,hb2,z0,z1,hv,hr⟩))
 all_goals
  change ag _ at hv hb2 hr
  go_wp2;go_ret
  refine⟨by rw[HF.o];rfl,hb2,λh0=>cF ?_⟩;rw[HF.o]at h0;obtain⟨hl,-,hd⟩:=r_ _ _ h0;obtain⟨s0,q0⟩:=mg (i:=0) (by simpa using hl) (aD rfl);obtain⟨s1,q1⟩:=mg (i:=1) (by simpa using hl) (aD rfl);show nN _ _ _ (aV.mk ..) _
  rw[HP.o _ rfl,nO (hd 0 1 _ rfl (by rw[iT,q0];rfl)),nO (hd 1 1 _ rfl (by rw[iT,q1];rfl)),<- (hv.o h0).1 s0 q0,<- (hv.o h0).2 s1 q1];exact hr
def aaE(A:Nat->av)(w0 w:ah)(rb:Nat)(c:aV)(last:Int)(sa:Option av)(ws:List ByteArray)(wb wo wc:Nat)(hs:dD A w0)(hb0:Below w0.heap.size w0 w)(h:nN w0.heap.size rb w c last)(hW:jG w sa ws wb wo):Calls prog 83 #[ax (U (ar rb 0 J)),af I 1,ak sa ws.length wc] w λv w'=>v=aH (bF A (aI (aM (bu c.az)) false (form 1) (ws.map bl)).1)/\Below w0.heap.size w0 w'/\((aI (aM (bu c.az)) false (form 1) (ws.map bl)).1=0->jq w0.heap.size rb w' (eV c 1 (ws.map bl) (aI (aM (bu c.az)) false (form 1) (ws.map bl)).2) last):=by
 have HP:ag (∀(zs:List Int),zs=(aI (aM []) _ [1] _).2->(aI (aM (bu c.az)) false (form 1) (ws.map bl)).2=zs):=λzs hz=>by rw[hz,h.nil];rfl
 have HF:ag ((aI (aM (bu c.az)) false (form 1) (ws.map bl)).1=(aI (aM []) false [1] (ws.map bl)).1):=by show _=_;rw[h.nil];rfl
 have H:ag _:=aaB A w0 w rb c _ sa ws wb wo wc hs hb0 h hW;go_enter func83,ntmps83
 go_wp2_with fail
 refine bw (H.o 0) ?_;rintro v w2 ⟨rfl,(hb2:ag _),z0,(hv:ag _),(hr:ag _)⟩;go_wp2;go_ret
 refine⟨by rw[HF.o];rfl,hb2,λh0=>cF ?_⟩;rw[HF.o]at h0;obtain⟨hl,-,hd⟩:=r_ _ _ h0;obtain⟨s0,q0⟩:=mg (i:=0) (by simpa using hl) (aD rfl);show nN _ _ _ (aV.mk ..) _
 rw[HP.o _ rfl,nO (hd 0 1 _ rfl (by rw[iT,q0];rfl)),<- hv.o h0 s0 q0];exact hr
def aaF(A:Nat->av)(w0 w:ah)(rb:Nat)(c:aV)(last:Int)(sa:Option av)(ws:List ByteArray)(wb wo wc:Nat)(hs:dD A w0)(hb0:Below w0.heap.size w0 w)(h:nN w0.heap.size rb w c last)(hW:jG w sa ws wb wo):Calls prog 83 #[ax (U (ar rb 0 J)),af I 2,ak sa ws.length wc] w λv w'=>v=aH (bF A (aI (aM (bu c.az)) false (form 2) (ws.map bl)).1)/\Below w0.heap.size w0 w'/\((aI (aM (bu c.az)) false (form 2) (ws.map bl)).1=0->jq w0.heap.size rb w' (eV c 2 (ws.map bl) (aI (aM (bu c.az)) false (form 2) (ws.map bl)).2) last):=by
 have HP:ag (∀(zs:List Int),zs=(aI (aM []) _ [1] _).2->(aI (aM (bu c.az)) false (form 2) (ws.map bl)).2=zs):=λzs hz=>by rw[hz,h.nil];rfl
 have HF:ag ((aI (aM (bu c.az)) false (form 2) (ws.map bl)).1=(aI (aM []) false [1] (ws.map bl)).1):=by show _=_;rw[h.nil];rfl
 have H:ag _:=aaC A w0 w rb c _ sa ws wb wo wc hs hb0 h hW;go_enter func83,ntmps83
 go_wp2_with fail
 refine bw (H.o 0) ?_;rintro v w2 ⟨rfl,(hb2:ag _),z0,(hv:ag _),(hr:ag _)⟩;go_wp2;go_ret
 refine⟨by rw[HF.o];rfl,hb2,λh0=>cF ?_⟩;rw[HF.o]at h0;obtain⟨hl,-,hd⟩:=r_ _ _ h0;obtain⟨s0,q0⟩:=mg (i:=0) (by simpa using hl) (aD rfl);show nN _ _ _ (aV.mk ..) _
 rw[HP.o _ rfl,nO (hd 0 1 _ rfl (by rw[iT,q0];rfl)),<- hv.o h0 s0 q0];exact hr
def aaG(A:Nat->av)(w0 w:ah)(rb:Nat)(c:aV)(last:Int)(sa:Option av)(ws:List ByteArray)(wb wo wc:Nat)(hs:dD A w0)(hb0:Below w0.heap.size w0 w)(h:jq w0.heap.size rb w c last)(hW:jG w sa ws wb wo)(hn:c.az.length<=1000000):Calls prog 83 #[ax (U (ar rb 0 J)),af I 3,ak sa ws.length wc] w λv w'=>v=aH (bF A (aI (aM (bu c.az)) false (form 3) (ws.map bl)).1)/\Below w0.heap.size w0 w'/\((aI (aM (bu c.az)) false (form 3) (ws.map bl)).1=0->jq w0.heap.size rb w' (eV c 3 (ws.map bl) (aI (aM (bu c.az)) false (form 3) (ws.map bl)).2) last):=by
 have HF:ag (aI (aM (bu c.az)) _ (form 3) _=aI (aM []) false [0,1] (ws.map bl)):=Qa _ _ _ (by simp[form]);obtain⟨ev,mv,cells,hA⟩:∃ev mv cells,ot w0.heap.size rb w c last ev mv c.az cells:=by
  rcases h with h|⟨L,g,cap,mb,es,e,x,cells,he,h,hL⟩
  ·have h2:=h.toA;rw[<- h.nil]at h2;exact⟨_,_,_,h2⟩
  have h2:=h.toA hL;rw[<- he]at h2;exact⟨_,_,_,h2⟩
 have H:ag _:=aau A w0 w rb c _ ev mv _ _ sa ws wb wo wc hs hb0 hA hW hn;go_enter func83,ntmps83
 go_wp2_with fail
 refine bw H.o ?_;rintro v w2 ⟨rfl,(hb2:ag _),nm,z,L,g,cap,mb,(hv:ag _),hr,hL⟩;have dm:ag (dh _ rb L g cap mb w2 c _ _ _ _ _/\L<=w2.heap.size):=⟨hr,hL⟩;go_wp2;go_ret
 refine⟨by rw[HF.o];rfl,hb2,λh0=>bk ⟨L,g,cap,mb,c.az,pg nm z,qf,cells,?_,?_,dm.2⟩⟩
 ·rw[HF.o]at h0⊢;obtain⟨hl,-,hd⟩:=r_ _ _ h0;obtain⟨s0,q0⟩:=mg (i:=0) (by simpa using hl) (aD rfl);obtain⟨s1,q1⟩:=mg (i:=1) (by simpa using hl) (aD rfl);obtain⟨v0,v1⟩:=hv h0;have e1:(ws.map bl).getD 0 []=bl s0:=by rw[nu,iT,q0];rfl
  show c.az++[sM _ _]=_
  rw[nO (hd 1 1 _ rfl (by rw[iT,q1];rfl)),e1,<- v1 s1 q1,v0 s0 q0];unfold sM pg;rw[show (⟨_⟩:ByteArray)=s0 from oG (uA _)]
 exact⟨⟨dm.1.lo,dm.1.ll,dm.1.xi,dm.1.row,dm.1.az,dm.1.ic,dm.1.olds,dm.1.new,dm.1.fl⟩,dm.1.map⟩
def aaH(k:Nat)(A:Nat->av)(w0 w:ah)(rb:Nat)(c:aV)(last:Int)(sa:Option av)(ws:List ByteArray)(wb wo wc:Nat)(hs:dD A w0)(hb0:Below w0.heap.size w0 w)(hk:4<=k)(hk2:k<10)(L g cap mb:Nat)(es:List aG)(e:aG)(x:bJ)(cells:List aj)(he:c.az=es++[e])(h:dh w0.heap.size rb L g cap mb w c last es e x cells)(hL:L<=w.heap.size)(hW:jG w sa ws wb wo)(hn:es.length<=1000000)(hsz:qU 1000000 e):Calls prog 83 #[ax (U (ar rb 0 J)),af I (k:Int),ak sa ws.length wc] w λv w'=>v=aH (bF A (aI (aM (bu c.az)) false (form k) (ws.map bl)).1)/\Below w0.heap.size w0 w'/\((aI (aM (bu c.az)) false (form k) (ws.map bl)).1=0->jq w0.heap.size rb w' (eV c k (ws.map bl) (aI (aM (bu c.az)) false (form k) (ws.map bl)).2) last):=by
 have HF:ag (bu c.az=e.au):=by show _=_;rw[he,P_]
 have H:ag _:=λq=>aay A w0 _ rb L g cap mb k c _ es e x _ sa ws wb wo wc hs (cB hb0 q) (h.below (cB (aC _ _) q)) hL (hW.below (cB (aC _ _) q)) hsz hk hk2
 have c4:w.cell? (ar rb 4 J)=U (ak (U (ar g 0 J)) (es.length+1) cap):=by have:=h.row;simp[aL,this,gq]
 obtain⟨m,hm⟩:∃m,m=es.length:=⟨_,rfl⟩;have HM:ag _:=hm.symm;rw[<- hm]at c4 hn;have q0:(0:Int)<=(m:Int):=by omega
 have q1:(m:Int)<(m:Int)+1:=by omega
 have q2:IntKind.i64.wrap ((m:Int)+1-1)=m:=by rw[IntKind.wrap_i64];omega
 have q3:IntKind.i64.wrap (m:Int)=m:=by rw[IntKind.wrap_i64];omega
 have q5:¬(m:Int)<0:=by omega
 rw[<- hm]at H;clear hm;have k0:¬(k:Int)=0:=by omega
 have k1:¬(k:Int)=1:=by omega
 have k2:¬(k:Int)=2:=by omega
 have k3:¬(k:Int)=3:=by omega
 clear h hW hs hb0 hL hsz hk2;change ag _ at hk he;go_enter func83,ntmps83
 go_upto_region 10 with fail
 go_region_held3 (λw'=>w'.cell? (ar rb 4 J)=U (ak (U (ar g 0 J)) (m+1) cap)) (first|exact c4|exact aaI) (first|(go_at_call 107;refine bw (H.o _) ?_;rintro v w2 ⟨rfl,hb2,aaI,hr⟩))
 all_goals
  change ag _ at hb2 hr
  clear H c4;go_wp2;go_ret
  refine⟨by rw[HF.o];rfl,hb2,λh0=>?_⟩;rw[HF.o]at h0⊢;obtain⟨x',h1,h2⟩:=hr h0;have hu:eV c k (ws.map bl) (aI (aM e.au) false (form k) (ws.map bl)).2=⟨c.closed,c.opn,c.cycle,c.bO,es++[np k (ws.map bl) (aI (aM e.au) false (form k) (ws.map bl)).2 e]⟩:=by
   rw[<- rq,<- he.o]
   match k,hk.o with
   |k+4,_=>rfl
  rw[hu];exact bk ⟨L,g,cap,mb,es,_,x',_,rfl,⟨⟨h1.lo,h1.ll,h1.xi,h1.row,h1.az,h1.ic,h1.olds,h1.new,h1.fl⟩,h1.map⟩,h2⟩
def FA(s:List UInt8)(c:UInt8)(i:Nat):Lib.occAt s [c] i=true↔s[i]?=U c:=by
 unfold Lib.occAt
 constructor
 ·intro h
  cases hd:s.drop i with
  |nil=>rw[hd]at h;simp[List.isPrefixOf]at h
  |cons x t=>
   rw[hd]at h;simp[List.isPrefixOf]at h
   have e:s[i]?=(s.drop i)[0]?:=by simp
   rw[e,hd,<- h];rfl
 intro h;have e:s.drop i=c::s.drop (i+1):=by
  obtain⟨hi,hc⟩:=eK.1 h;rw[lM hi,hc]
 rw[e];simp[List.isPrefixOf]
def aaJ(c:UInt8):∀(n:Nat) (s:List UInt8),s.length<=n->Lib.split s [c]=bS c s:=by
 intro n
 induction n with
 |zero=>
  intro s hs;obtain rfl:s=[]:=sN (by omega);have:Lib.index [] [c]=-1:=by rcases Lib.index_spec [] [c]with⟨h,-⟩|⟨i,-,-,h,-⟩;exact h;exact absurd ((FA ..).1 h) (by simp)
  unfold Lib.split;rw[Lib.count_miss this];rfl
 |succ n ih=>
  intro s hs
  rcases Lib.index_spec s [c]with⟨h,hno⟩|⟨i,h,hi,ho,hno⟩
  ·have hc:c∉s:=λhm=>by
    obtain⟨j,hj,e⟩:=zL hm;have:=hno j (by omega);have h2:=(FA s c j).2 (by rw[bL hj,e]);rw[this]at h2
    cases h2
   unfold Lib.split;rw[Lib.count_miss h,Tp c s hc];rfl
  have CU:=(FA s c i).1 ho;obtain⟨yE,hcv⟩:=eK.1 CU;have e1:s=s.take i++c::s.drop (i+1):=by
   have:s.drop i=c::s.drop (i+1):=by rw[lM yE,hcv]
   rw[<- this,List.take_append_drop]
  have hc:c∉s.take i:=λhm=>by
   obtain⟨j,hj,e⟩:=zL hm;have lX:j<i:=by rw[List.length_take]at hj;omega
   have h2:=(FA s c j).2 (by rw[List.getElem_take]at e;rw[bL (by omega),e]);have:=hno j lX;rw[this]at h2
   cases h2
  have e2:Lib.split s [c]=s.take i::Lib.split (s.drop (i+1)) [c]:=by
   unfold Lib.split;rw[Lib.count_hit (by simp) h,Nat.add_comm 1,Lib.splitK];have hm:¬(Lib.index s [c] == -1)=true:=λe=>by have:=og.1 e;omega
   have et:(Lib.index s [c]).toNat=i:=by omega
   rw[aF hm,et];rfl
  rw[e2,ih _ (by rw[List.length_drop];omega)];have e3:bS c (c::s.drop (i+1))=[]::bS c (s.drop (i+1)):=by rw[bS,aU rfl]
  have e4:=Lz c _ _ _ e3 _ hc;rw[<- e1]at e4;rw[e4];simp
def Qb(c:UInt8)(s sep:ByteArray)(hs:sep.data.toList=[c]):(Lib.splitB sep 0 (Lib.countB s sep) s).map (·.data.toList)=bS c s.data.toList:=by
 rw[Lib.splitB_data,hs];have e:Lib.countB s sep=Lib.count s.data.toList [c]:=by unfold Lib.countB;rw[hs]
 rw[e];exact aaJ c _ _ (aR _)
def aaK(A:Nat->av)(w0 w:ah)(rb k:Nat)(c:aV)(last:Int)(sa:Option av)(ws:List ByteArray)(wb wo wc:Nat)(hs:dD A w0)(hb0:Below w0.heap.size w0 w)(h:jq w0.heap.size rb w c last)(hW:jG w sa ws wb wo)(hk:k<10)(hA:k<=2->c.az=[])(hB:4<=k->c.az≠[])(hn:c.az.length<=1000000)(hz:∀e∈c.az,qU 1000000 e):Calls prog 83 #[ax (U (ar rb 0 J)),af I (k:Int),ak sa ws.length wc] w λv w'=>v=aH (bF A (aI (aM (bu c.az)) false (form k) (ws.map bl)).1)/\Below w0.heap.size w0 w'/\((aI (aM (bu c.az)) false (form k) (ws.map bl)).1=0->jq w0.heap.size rb w' (eV c k (ws.map bl) (aI (aM (bu c.az)) false (form k) (ws.map bl)).2) last):=by
 have J0:c.az=[]->nN w0.heap.size rb w c last:=λhe=>by
  rcases h with h|⟨L,g,cap,mb,es,e,x,cells,rA,-⟩
  ·exact h
  rw[he]at rA;simp at rA
 match k,hk with
 |0,_=>exact aaD A w0 w rb c _ sa ws wb wo wc hs hb0 (J0 (hA (aD rfl))) hW
 |1,_=>exact aaE A w0 w rb c _ sa ws wb wo wc hs hb0 (J0 (hA (aD rfl))) hW
 |2,_=>exact aaF A w0 w rb c _ sa ws wb wo wc hs hb0 (J0 (hA (aD rfl))) hW
 |3,_=>exact aaG A w0 w rb c _ sa ws wb wo wc hs hb0 h hW hn
 |k+4,hk=>
  rcases h with h|⟨L,g,cap,mb,es,e,x,cells,he,h,hL⟩
  ·exact absurd h.nil (hB (by omega))
  exact aaH _ A w0 w rb c _ sa ws wb wo wc hs hb0 (by omega) hk L g cap mb es e x _ he h hL hW (by rw[he]at hn;simp at hn;omega) (hz e (by rw[he];simp))
def jq.setLast{B:Nat}{last:Int}(h:jq B rb w c last)(k:Int):jq B rb (w.setCell (ar rb 5 J) (af I k)) c k:=by
 have hg:=o8 w rb 5 (af I k)
 rcases h with h|⟨L,g,cap,mb,es,e,x,cells,he,h,hL⟩
 ·refine cF ⟨h.lo,h.nil,?_⟩;simp only[cZ,fR,h.row];simp[gq]
 refine bk ⟨L,g,cap,mb,es,e,x,_,he,⟨⟨h.lo,h.ll,h.xi,?_,h.az.kept hg (bk (eu h.az h.row (aD rfl))),h.ic,λi e' vg=>?_,h.new.other hg h.row (aD rfl) (aD rfl) (aD rfl) (aD rfl),h.fl⟩,?_⟩,by simpa[cZ]using hL⟩
 ·simp only[cZ,fR,h.row];simp[gq]
 ·obtain⟨x',a,b,d⟩:=h.olds i e' vg;exact⟨x',a.other hg h.row (aD rfl) (aD rfl) (aD rfl) (aD rfl),b,d⟩
 obtain⟨D,a,b⟩:=h.map
 refine⟨D,a.kept hg ?_,b⟩;intro e2;obtain⟨es',cl,a1,-⟩:=a;simp only[gQ]at e2;rw[e2,h.row]at a1
 cases a1
def jq.c5{B:Nat}{last:Int}(h:jq B rb w c last):w.cell? (ar rb 5 J)=U (af I last)/\w.frozen? (ar rb 5 J)=false/\B<=rb:=by
 rcases h with h|⟨L,g,cap,mb,es,e,x,cells,he,h,hL⟩
 ·exact⟨by simp[aL,h.row,gq],by simp[bE,h.row],h.lo⟩
 exact⟨by simp[aL,h.row,gq],by simp[bE,h.row],h.lo⟩
def jq.below{B:Nat}{last:Int}(h:jq B rb w c last)(hb:Below w.heap.size w w'):jq B rb w' c last:=by
 rcases h with h|⟨L,g,cap,mb,es,e,x,cells,he,h,hL⟩
 ·exact cF ⟨h.lo,h.nil,cX hb h.row⟩
 exact bk ⟨L,g,cap,mb,es,e,x,_,he,h.below hb,bH hL hb.size⟩
def nP(w:ah):Prop:=∃m:Int,w.cell? (ar 13 0 J)=U (af I m)
def nP.below(h:nP w)(hb:Below w.heap.size w w'):nP w':=h.elim λm hm=>⟨m,aA hb hm⟩
def Qc(s sep:ByteArray)(w:ah)(h:nP w)(hs:s.size<4294967281)(h1:1<=sep.size):Calls prog 29 #[aB s,aB sep] w λe w'=>e=aH (ak (U (ar w.heap.size 0 J)) (Lib.countB s sep+1) (Lib.countB s sep+1))/\w'=w.alloc (ay ((Lib.splitB sep 0 (Lib.countB s sep) s).map Value.string).toArray 9):=by
 obtain⟨m,hm⟩:=h;exact Any.strings_Split { G0 with } G0.i9 s sep m w hs hm h1
def Qd(s sep:ByteArray)(CV:sep.data.toList=[32]):∃(h:ByteArray) (t:List ByteArray),Lib.splitB sep 0 (Lib.countB s sep) s=h::t/\bS 32 (bl s)=bl h::t.map bl/\t.length=Lib.countB s sep:=by
 have e:=Qb 32 s sep CV;have hl:=Lib.splitB_all sep (by rw[<- ByteArray.size_data,<- qD,CV];decide) 0 _ s rfl
 cases hc:Lib.splitB sep 0 (Lib.countB s sep) s with
 |nil=>rw[hc]at hl;simp at hl
 |cons h t=>
  rw[hc]at e hl;exact⟨h,t,rfl,by show bS 32 s.data.toList=_;rw[<- e];rfl,by simpa using hl⟩
def CW(c:UInt8):∀(l:List UInt8),(∀x∈bS c l,x.length<=l.length)/\(bS c l).length<=l.length+1
 |[]=>by simp[bS]
 |b::t=>by
  obtain⟨h1,h2⟩:=CW c t;unfold bS
  split
  ·refine⟨λx hx=>?_,by simp;omega⟩;simp only[fu]at hx
   rcases hx with rfl|hx
   ·simp
   have:=h1 x hx;simp;omega
  split
  ·exact⟨λx hx=>by simp at hx;subst hx;simp,by simp⟩
  rename_i hh rr hc;rw[hc]at h1 h2
  refine⟨λx hx=>?_,by simp at h2⊢;omega⟩;simp only[fu]at hx
  rcases hx with rfl|hx
  ·have:=h1 hh (by simp);simp;omega
  have:=h1 x (by simp[hx]);simp;omega
def J1(c:UInt8)(l x:List UInt8)(h:x∈bS c l):x.length<=l.length:=(CW c l).1 x h
structure gJ(n:Nat)(c:aV)(last:Int):Prop where
 e0:last<=1->c.az=[]
 e3:3<=last->c.az≠[]
 len:c.az.length<=n
 sz:∀e∈c.az,qU n e
def aaL(A:Nat->av)(w0 w:ah)(rb:Nat)(c:aV)(last:Int)(l:ByteArray)(hs:dD A w0)(hK:mF w0)(hM:nP w0)(hb0:Below w0.heap.size w0 w)(h:jq w0.heap.size rb w c last)(hl:l.size<=1000000)(hO:gJ 1000000 c last):Calls prog 59 #[ax (U (ar rb 0 J)),aB l] w λv w'=>v=aH (bF A (eA aM ⟨last,c⟩ (bl l)).1)/\Below w0.heap.size w0 w'/\((eA aM ⟨last,c⟩ (bl l)).1=0->jq w0.heap.size rb w' (eA aM ⟨last,c⟩ (bl l)).2.cfg (eA aM ⟨last,c⟩ (bl l)).2.last):=by
 obtain⟨hd,tl,hsp,hcut,rz⟩:=Qd l ⟨#[32]⟩ rfl;have HS:ag (dD A w0/\mF w0/\Below _ w0 w):=⟨hs,hK,hb0⟩;have HR:ag (jq _ rb w c _):=h;change ag _ at hO
 have CX:ag (Calls prog 29 #[aB l,aB ⟨#[32]⟩] w λe w'=>e=aH (ak (U (ar w.heap.size 0 J)) (tl.length+1) (tl.length+1))/\w'=w.alloc (ay ((hd::tl).map Value.string).toArray 9)):=by
  have:=Qc l ⟨#[32]⟩ w (hM.below hb0) (by omega) (aD rfl);rw[hsp,<- rz]at this;exact this
 have aaM:ag (eA aM ⟨last,c⟩ (bl l)=jy aM ⟨last,c⟩ (bl hd) (tl.map bl)):=by show _=_;unfold eA;rw[hcut]
 have lH:ag (∀s∈hd::tl,s.size<=1000000):=λs hs=>by
  have h1:bl s∈bS 32 (bl l):=by rw[hcut];exact List.mem_map_of_mem (f:=bl) hs
  have h2:=J1 32 _ _ h1;have h3:(bl s).length=s.size:=by simp[bl]
  have h4:(bl l).length=l.size:=by simp[bl]
  omega
 have aaN:ag (tl.length<=1000000):=by
  show _<=_
  have h1:=(CW 32 (bl l)).2;rw[hcut]at h1;have h4:(bl l).length=l.size:=by simp[bl]
  simp at h1
  omega
 clear hs hK hM hb0 h hsp hcut rz;rw[aaM.o];go_enter func59,ntmps59
 go_wp2_with fail
 refine bw CX.o ?_;rintro v w1 ⟨rfl,nQ⟩;have aS:ag (Below w.heap.size w w1):=by show Below _ _ _;rw[nQ];exact bt _ _
 have dA:ag (w1.heap[w.heap.size]?=U (ay ((hd::tl).map Value.string).toArray 9 (0,0))):=by show _=_;rw[nQ];exact dT w _
 clear nQ CX;have x0:w1.cell? (ar w.heap.size 0 J)=U (aB hd):=by simp[aL,dA.o]
 have J2:ag (jq _ rb w1 c _):=HR.below aS;have bI:ag _:=HS.2.2.trans (aS.mono HS.2.2.size);have eQ:=(HS.1.below bI).c0;have n1:(0:Int)<(tl.length:Int)+1:=by omega
 have n2:(1:Int)<=(tl.length:Int)+1:=by omega
 go_wp2_with fail
 refine(Z5 hd w1 (HS.2.1.below bI (j6 (HS.2.1 0 (aD rfl))))).mono ?_;rintro v w2 ⟨rfl,rfl⟩;rename ah=>w1
 cases hk:kindOf (bl hd)with
 |none=>
  have AJ:mS (bl hd)=-1:=by unfold mS;rw[hk]
  have HL:ag (jy aM ⟨last,c⟩ (bl hd) (tl.map bl)=(1,⟨last,c⟩)):=by show _=_;unfold jy;rw[hk]
  rw[AJ];clear AJ hk;go_wp2;go_ret;exact⟨by rw[HL.o];rfl,bI,λh0=>by rw[HL.o]at h0;simp at h0⟩
 |some k=>
  have AJ:mS (bl hd)=k:=by unfold mS;rw[hk]
  have kR:=(Bo hk).2;have c5:=J2.c5;obtain⟨c5,f5,-⟩:=c5;rw[AJ];have kn:¬(k:Int)=-1:=by omega
  cases hm:may last k
  ·have HL:ag (jy aM ⟨last,c⟩ (bl hd) (tl.map bl)=(1,⟨last,c⟩)):=by show _=_;unfold jy;rw[hk];simp only;rw[aU hm]
   clear AJ hk;go_wp2_with fail
   apply(PF rb _ k w1 kR c5).mono;rintro v w2 ⟨rfl,rfl⟩;rename ah=>w1
   rw[hm];go_wp2;go_ret;exact⟨by rw[HL.o];rfl,bI,λh0=>by rw[HL.o]at h0;simp at h0⟩
  have HL:ag (jy aM ⟨last,c⟩ (bl hd) (tl.map bl)=if (aI (aM (bu c.az)) false (form k) (tl.map bl)).1=0 then (0,⟨k,eV c k (tl.map bl) (aI (aM (bu c.az)) false (form k) (tl.map bl)).2⟩)else ((aI (aM (bu c.az)) false (form k) (tl.map bl)).1,⟨last,c⟩)):=by show _=_;unfold jy;rw[hk];simp only;rw[aF (by rw[hm];simp)]
  have HM:ag _:=hm;have HK:ag _:=kR;clear AJ hk;go_wp2_with fail
  apply(PF rb _ k w1 kR c5).mono;rintro v w2 ⟨rfl,rfl⟩;rename ah=>w1
  rw[hm];have J3:ag (∀sa,(tl≠[]->sa=U ⟨w.heap.size,1,J⟩)->jG (w1.setCell (ar rb 5 J) (af I (k:Int))) sa tl w.heap.size 1):=λsa CO=>by
   have hne:rb≠w.heap.size:=by
    have:rb<w.heap.size:=by
     rcases HR.o with h|⟨L,g,cap,mb,es,e,x,cells,he,h,hL⟩
     ·exact cU h.row
     exact cU h.row
    omega
   have hrow:(w1.setCell (ar rb 5 J) (af I (k:Int))).heap[w.heap.size]?=U (ay ((hd::tl).map Value.string).toArray 9 (0,0)):=by
    simp only[cZ,fR];rw[aF hne];exact dA
   refine⟨⟨_,_,hrow⟩,CO,λi s hi=>?_,λs hs=>lH s (by simp[hs]),aaN⟩;simp[aL,hrow,hi,Nat.add_comm 1 i]
  have AK:ag _:=λsa wc CO=>aaK A w0 _ rb k c k sa tl _ 1 wc HS.1 (bI.setCell (p:=⟨rb,5,_⟩) J2.c5.2.2 _) (J2.setLast k) (J3 sa CO) HK (λhk=>hO.e0 (by have:=HM.o;unfold may at this;rw[aU hk]at this;simp at this;omega)) (λhk=>hO.e3 (by
   have:=HM.o;unfold may at this;rw[aF (by omega),aF (by omega)]at this
   split at this
   ·simp at this;omega
   simp at this;omega)) hO.len hO.sz
  by_cases ht:tl=[]
  ·subst ht;clear J3;go_wp2_with fail
   refine bw (AK.o _ _ (λh=>absurd rfl h)) ?_;rintro v w3 ⟨rfl,(hb3:ag _),(hr3:ag _)⟩;clear AK;go_wp2;go_ret
   refine⟨?_,hb3,λh0=>?_⟩
   ·rw[HL.o]
    split
    ·rename_i h0;rw[List.map_nil]at h0;show Ending.returned (bF A _)=_;rw[h0]
    rfl
   rw[HL.o]at h0⊢
   split at h0
   ·rename_i h1;rw[aU h1];exact hr3 h1
   rename_i h1;exact absurd h0 h1
  have t0:0<tl.length:=by
   rcases kG tl.length with h|h
   ·exact absurd (sN h) ht
   exact h
  have t1:(0:Int)<(tl.length:Int):=by omega
  have t2:¬tl.length=0:=by omega
  clear J3;go_wp2_with fail
  refine bw (AK.o _ _ (λ_=>rfl)) ?_;rintro v w3 ⟨rfl,(hb3:ag _),(hr3:ag _)⟩;clear AK;go_wp2;go_ret
  refine⟨?_,hb3,λh0=>?_⟩
  ·rw[HL.o]
   split
   ·rename_i h0;show Ending.returned (bF A _)=_;rw[h0]
   rfl
  rw[HL.o]at h0⊢
  split at h0
  ·rename_i h1;rw[aU h1];exact hr3 h1
  rename_i h1;exact absurd h0 h1
def aaO{look:kQ}{st:RS}(h:(eA look st l).1=0):∃(k:Nat) (hd:Bs) (ws:List Bs) (vs:List Int),k<10/\bS 32 l=hd::ws/\may st.last k=true/\(eA look st l).2=⟨k,eV st.cfg k ws vs⟩:=by
 unfold eA at h⊢
 cases hc:bS 32 l with
 |nil=>rw[hc]at h;simp at h
 |cons hd ws=>
  rw[hc]at h;simp only[jy]at h⊢
  cases hk:kindOf hd with
  |none=>rw[hk]at h;simp at h
  |some k=>
   rw[hk]at h;simp only at h⊢
   split at h
   ·simp at h
   rename_i hm;rw[aF hm]
   split at h
   ·rename_i hf;rw[aU hf];exact⟨k,hd,ws,_,(Bo hk).2,rfl,by simpa using hm,rfl⟩
   rename_i hf;exact absurd h hf
def yY(e:aG):Prop:=e.name.size<=1000000/\∀p∈e.au,p.size<=1000000
def Qe{last:Int}(hk:4<=k)(h:may last k=true):3<=last:=by
 unfold may at h;rw[aF (by omega),aF (by omega)]at h
 split at h
 ·simp at h;omega
 simp at h;omega
def Qf{c:UInt8}{hd:Bs}{ws:List Bs}(hc:bS c l=hd::ws)(hl:l.length<=1000000)(i:Nat):(⟨(ws.getD i []).toArray⟩:ByteArray).size<=1000000:=by
 have:(ws.getD i []).length<=1000000:=by
  rw[nu]
  cases hw:ws[i]? with
  |none=>simp
  |some x=>
   have:=J1 c l x (by rw[hc];exact v_ _ (fQ hw));simp
   omega
 show (ws.getD i []).toArray.size<=1000000
 simpa using this
def Qg{look:kQ}{st:RS}(qA:gJ n st.cfg st.last)(S:∀e∈st.cfg.az,yY e)(hl:l.length<=1000000)(h:(eA look st l).1=0):gJ (n+1) (eA look st l).2.cfg (eA look st l).2.last/\∀e∈(eA look st l).2.cfg.az,yY e:=by
 obtain⟨k,hd,ws,vs,kR,hc,hm,e⟩:=aaO h;rw[e];have same:gJ n st.cfg st.last->∀c:aV,c.az=st.cfg.az->(((k:Nat):Int)<=1->st.cfg.az=[])->(k:Int)<=2->gJ (n+1) c k:=λI c hce h0 h2=>
  ⟨λh=>by rw[hce];exact h0 h,λh=>by omega,by rw[hce];have:=qA.len;omega,λe he=>by rw[hce]at he;exact(qA.sz e he).mono (by omega)⟩
 match k,kR with
 |0,_=>exact⟨same qA _ rfl (λ_=>qA.e0 (by simp[may]at hm;omega)) (by simp),S⟩
 |1,_=>exact⟨same qA _ rfl (λ_=>qA.e0 (by simp[may]at hm;omega)) (by simp),S⟩
 |2,_=>exact⟨same qA _ rfl (λh=>by simp at h) (by simp),S⟩
 |3,_=>
  refine⟨⟨λh=>by simp at h,λ_=>by simp[eV],by have:=qA.len;simp[eV];omega,λe he=>?_⟩,λe he=>?_⟩
  ·simp only[eV,vo,p_]at he
   rcases he with he|rfl
   ·exact(qA.sz e he).mono (by omega)
   exact⟨by simp[sM],by simp[sM],by simp[sM],by simp[sM],by simp[sM]⟩
  simp only[eV,vo,p_]at he
  rcases he with he|rfl
  ·exact S e he
  exact⟨Qf hc hl 0,λp hp=>by simp[sM]at hp⟩
 |k+4,_=>
  have h3:=Qe (by omega) hm;obtain⟨es,e1,he⟩:∃es e1,st.cfg.az=es++[e1]:=⟨_,_,(List.dropLast_concat_getLast (qA.e3 h3)).symm⟩;have hu:(eV st.cfg (k+4) ws vs).az=es++[np (k+4) ws vs e1]:=by
   show Bn _ _=_
   rw[he,rq]
  have hlen:=qA.len;rw[he]at hlen
  refine⟨⟨λh=>by simp at h;omega,λ_=>by show (eV _ _ ws vs).az≠[];rw[hu];simp,by show (eV _ _ ws vs).az.length<=_;rw[hu];simp at hlen⊢;omega,λe2 rA=>?_⟩,λe2 rA=>?_⟩
  ·have CY:e2∈(eV _ _ ws vs).az:=rA;rw[hu,vo,p_]at CY
   rcases CY with h'|rfl
   ·exact(qA.sz e2 (by rw[he];simp[h'])).mono (by omega)
   exact(qA.sz e1 (by rw[he];simp)).upd
  have CY:e2∈(eV _ _ ws vs).az:=rA;rw[hu,vo,p_]at CY
  rcases CY with h'|rfl
  ·exact S e2 (by rw[he];simp[h'])
  obtain⟨a,b⟩:=S e1 (by rw[he];simp);unfold np yY
  split
  ·refine⟨a,λp hp=>?_⟩;simp only[vo,p_]at hp
   rcases hp with hp|rfl
   ·exact b p hp
   exact Qf hc hl 0
  all_goals exact⟨a,b⟩
def Qh:∀(fs:List Nat) (ws:List Bs) (nn:Bool),(aI look nn fs ws).1<=5
 |[],[],nn=>by cases nn<;>simp[aI]
 |[],_::_,_=>by simp[aI]
 |_::_,[],_=>by simp[aI]
 |f::fs,w::ws,nn=>by
  unfold aI
  split
  ·simp
  exact Qh fs ws _
def aaP(look:kQ)(st:RS)(l:Bs):(eA look st l).1<=5:=by
 unfold eA
 split
 ·simp
 unfold jy
 split
 ·simp
 split
 ·simp
 split
 ·simp
 exact Qh ..
def ot.FB{B:Nat}{last:Int}{mv:aj}(h:ot B rb w c last ev mv es cells):gG B w ev es:=
 ⟨cells,h.az,λi e he=>by
  obtain⟨x,a,-,d⟩:=h.olds i e he;exact⟨x.p,x.g,x.e,x.f,x.l,a,d⟩⟩
def jq.toA{B:Nat}{last:Int}(h:jq B rb w c last):∃ev mv cells,ot B rb w c last ev mv c.az cells:=by
 rcases h with h|⟨L,g,cap,mb,es,e,x,cells,he,h,hL⟩
 ·have h2:=h.toA;rw[<- h.nil]at h2;exact⟨_,_,_,h2⟩
 have h2:=h.toA hL;rw[<- he]at h2;exact⟨_,_,_,h2⟩
def xk{fn:Func}{p u:Tmp}(h:fn.results=#[.cell p 34,.tmp u])(tmps:Array aj)(w:ah)(g:Nat)(a b c d e:aj)
  (hp:tmps.getD p undef=ax (U (ar g 0 J))) (hg:w.heap[g]?=U (ay #[a,b,c,d,e] 34 (0,0))):(results fn tmps).run prog w=.ok (aX #[a_ #[a,b,c,d,e],tmps.getD u undef]) w:=by
 rw[results_cell_tmp h,hp];simp[asAddr,run_loadVar_row w g _ 34 #[a,b,c,d,e] _ _ hg underlying34 rfl oN]
def ot.other{B:Nat}{last:Int}{mv:aj}(h:ot B rb w c last ev mv es cells)(hg:w.grownBy w' (U b))(hb:w.heap[b]?=U (ay cs 34 fr))(hne:rb≠b):ot B rb w' c last ev mv es cells:=
 ⟨h.lo,(hg.block rb (cU h.row) (by simpa using hne)).trans h.row,h.az.kept hg (bk (eu h.az hb (aD rfl))),λi e he=>by
  obtain⟨x,a,b',d⟩:=h.olds i e he;exact⟨x,a.other hg hb (aD rfl) (aD rfl) (aD rfl) (aD rfl),b'.mono hg.size,d⟩⟩
def FC(R:(Nat×Int)×RS):aV:=if R.1.1=0 then R.2.cfg else bT
def Qi{look:kQ}{st:RS}(h:(eA look st l).1≠0):cy look k st (l::ls)=(((eA look st l).1,(k:Int)),st):=by rw[cy,aF h]
def Qj{look:kQ}{st:RS}(h:(eA look st l).1=0):cy look k st (l::ls)=cy look (k+1) (eA look st l).2 ls:=by rw[cy,aU h]
def FD(w:ah):∃B',gG B' w (ak J 0 0) bT.az:=⟨0,gG.nil _ _⟩
def FE:jB bT:=⟨by decide,λe he=>by simp[bT]at he⟩
def Qk{W:ah}{R:(Nat×Int)×RS}{st:RS}{fb:Nat}{k:Int}(hE:R=((j+1,k),st))(hj:j+1<=11)(hb:Below w.heap.size w W)(hrow:W.heap[fb]?=U (ay #[af I k,bF A (j+1)] 92 (0,0))):∃c sv ev,Ending.returned (aX #[a_ #[af I 0,af I 0,af I 0,af I 0,ak J 0 0],.iface 88 (ax (U (ar fb 0 J)))])=aH (aX #[a_ #[af I c.closed,af I c.opn,af I c.cycle,af I c.bO,sv],ev])/\Below w.heap.size w W/\c=FC R/\(∃B',gG B' W sv c.az)/\gR A W ev R.1/\jB c:=by
 subst hE
 refine⟨_,_,_,rfl,hb,by unfold FC;rw[aF (by simp)],FD _,⟨hj,bk ⟨by simp,fb,rfl,?_,?_⟩⟩,FE⟩
 ·unfold aL;simp only;rw[hrow];rfl
 unfold aL;simp only;rw[hrow];rfl
def aaQ{w5:ah}{o:Obj}(cs:Array aj)(hb:Below w.heap.size w w5)(hlt:w.heap.size<w5.heap.size):Below w.heap.size w ((w5.alloc o).setRow w.heap.size cs)/\((w5.alloc o).setRow w.heap.size cs).heap[w5.heap.size]?=U o:=by
 have hg:=pL (w5.alloc o) w.heap.size cs;have b1:Below _ w (w5.alloc o):=hb.alloc (by omega) _;exact⟨b1.grown hg b1.size (λi hi=>by cases hi;exact aR _),(hg.block _ (by simp) (by simp;omega)).trans (dT w5 _)⟩
def J4(h:V.heap[b]?=U (ay #[af I 0,af I 0,af I 0,af I 0,ak J 0 0] 34 (0,0))):((((V.setCell (ar b 0 J) (af I 0)).setCell ⟨b,1,J⟩ (af I 0)).setCell ⟨b,2,J⟩ (af I 0)).setCell ⟨b,3,J⟩ (af I 0)).setCell ⟨b,4,J⟩ (ak J 0 0)=V:=by
 rw[yM (o:=0) (by simp[aL,h]),yM (o:=1) (by simp[aL,h]),yM (o:=2) (by simp[aL,h]),yM (o:=3) (by simp[aL,h]),yM (o:=4) (by simp[aL,h])]
def aaR(A:Nat->av)(w:ah)(sa:Option av)(lines:List ByteArray)(sc:Nat)(hs:dD A w)(hK:mF w)(hM:nP w)(hL:bY gg 1 w (ak sa lines.length sc) lines)(hn:lines.length<=100000)(hz:∀l∈lines,l.size<=1000000):Calls prog 28 #[ak sa lines.length sc] w λv w'=>∃c sv ev,v=aH (aX #[a_ #[af I c.closed,af I c.opn,af I c.cycle,af I c.bO,sv],ev])/\Below w.heap.size w w'/\c=FC (cy aM 0 ⟨-1,bT⟩ (lines.map bl))/\(∃B',gG B' w' sv c.az)/\gR A w' ev (cy aM 0 ⟨-1,bT⟩ (lines.map bl)).1/\jB c:=by
 have HL:ag (bY _ 1 w _ _):=hL;have HN:ag (lines.length<=100000/\∀l∈lines,l.size<=1000000):=⟨hn,hz⟩;obtain⟨Wc,kL⟩:∃V,V=w.alloc (ay #[af I 0,af I 0,af I 0,af I 0,ak J 0 0] 34):=⟨_,rfl⟩;have ig:ag (Below w.heap.size w Wc):=by show Below _ _ _;rw[kL];exact bt _ _
 have lH:ag (Wc.heap.size=w.heap.size+1):=by show _=_;rw[kL];simp
 have CZ:ag (Wc.heap[w.heap.size]?=U (ay #[af I 0,af I 0,af I 0,af I 0,ak J 0 0] 34 (0,0))):=by show _=_;rw[kL];exact dT w _
 have HS:ag (dD A Wc/\mF Wc/\nP Wc):=⟨hs.below ig.o,hK.below ig.o (j6 (hK 0 (aD rfl))),hM.below ig.o⟩;change ag _ at hs
 clear hK hM hL hn hz;go_enter func28,ntmps28
 go_upto_region 2 with fail
 rw[<- kL];obtain⟨Wr,FH⟩:∃V,V=Wc.alloc (ay #[af I 0,af I 0,af I 0,af I 0,ak J 0 0,af I (-1),.map J] 123):=⟨_,rfl⟩;rw[<- FH];obtain⟨rb,iZ⟩:∃rb,rb=w.heap.size+1:=⟨_,rfl⟩;have C0:ag (rb=Wc.heap.size/\rb≠w.heap.size):=⟨by rw[iZ,lH.o],by omega⟩;have rG:ag (Below Wc.heap.size Wc Wr):=by show Below _ _ _;rw[FH];exact bt _ _
 have Ql:ag (jq _ rb Wr bT _):=cF ⟨by rw[C0.1];exact aR _,rfl,by rw[C0.1,FH];exact dT Wc _⟩;rw[<- iZ];clear kL FH iZ;go_wp2_with fail
 go_loopw [11,5,6,7] (λi _ _ _ wr=>∃(k:Nat) (st:RS),k<=lines.length/\i=af I k/\Below Wc.heap.size Wc wr/\jq Wc.heap.size rb wr st.cfg st.last/\gJ k st.cfg st.last/\(∀e∈st.cfg.az,yY e)/\cy aM 0 ⟨-1,bT⟩ (lines.map bl)=cy aM k st ((lines.drop k).map bl)) (λi _ _ _ _=>lines.length-(intOf i).toNat)
 case atStart=>exact⟨0,_,cG _,rfl,rG.o,Ql.o,⟨λ_=>rfl,λh=>by simp at h,aR _,λe he=>by simp[bT]at he⟩,λe he=>by simp[bT]at he,rfl⟩
 case round=>
  clear rG Ql;obtain⟨k,st,hk,rfl,(eW:ag _),zO,yZ,hsm,y_⟩:=hrel;have HR:ag (jq _ rb wr _ _):=zO;have HO:ag (gJ k _ _/\∀e∈st.cfg.az,yY e):=⟨yZ,hsm⟩;change ag _ at y_
  clear zO yZ hsm
  by_cases hlt:k<lines.length
  ·have k1:(k:Int)<(lines.length:Int):=by omega
   have k2:k<100000:=by have:=HN.1;omega
   obtain⟨l,hl⟩:∃l,lines[k]?=U l:=⟨_,bL hlt⟩;have jV:ag _:=HN.2 l (fQ hl);have sf:ag ((lines.drop k).map bl=bl l::(lines.drop (k+1)).map bl):=by
    show _=_
    rw[lM hlt];rw[bL hlt]at hl
    cases hl;rfl
   obtain⟨fw,cap',fL,-,hcc⟩:=id HL.o
   cases fL
   obtain⟨g,o,rfl,hc0⟩:=hcc (λh=>by rw[h]at hl;simp at hl);have c0:wr.cell? ⟨g,o+k,J⟩=U (aB l):=by
    have:=aA (ig.trans (eW.mono ig.size)) (hc0 k _ hl 0 _ rfl);simpa using this
   clear hcc hc0 hl;go_wp2_with fail
   apply(aaL A Wc wr rb _ _ l HS.1 HS.2.1 HS.2.2 eW.o HR.o jV.o ⟨HO.1.e0,HO.1.e3,bH HO.1.len (by omega),λe he=>(HO.1.sz e he).mono (by omega)⟩).mono;rintro v w5 ⟨rfl,(tR:ag _),(aaS:ag _)⟩;clear c0 HR eW
   cases bM:(eA aM ⟨st.last,st.cfg⟩ (bl l)).1 with
   |zero=>
    change ag _ at bM
    rw[show bF A 0=.nilIface from rfl];go_wp2
    go_roundw
    case rel=>
     have J5:(bl l).length<=1000000:=by have:=jV.o;have e:(bl l).length=l.size:=(by simp[bl]);omega
     obtain⟨s1,s2⟩:=Qg HO.1 HO.2 J5 bM.o;exact⟨_,_,by omega,by go_num,tR.o,aaS.o bM.o,s1,s2,by rw[y_.o,sf.o,Qj bM.o]⟩
    case measure=>simp[intOf];omega
   |succ j=>
    have HC:ag _:=bM;have HE:ag (cy aM 0 ⟨-1,bT⟩ (lines.map bl)=((j+1,(k:Int)),st)):=by
     show _=_
     rw[y_.o,sf.o,Qi (by have:=HC.o;rw[this];simp),HC.o]
    have HJ:ag (j+1<=11):=by show _<=_;have:=aaP aM ⟨st.last,st.cfg⟩ (bl l);rw[bM]at this;omega
    clear bM;have Qm:=cX tR.o CZ.o;rw[show bF A _=.iface 238 _ from rfl];have fD:ag (∀ob,(w5.alloc ob).heap[w.heap.size]?=U _):=λob=>cX (bt _ _) Qm
    clear Qm;go_wp2_with (refine gm rfl 34 _ _ rfl _ _ rfl rfl 34 _ (fD.o _) oN rfl (by simp[Value.oneCell']) ?_)
    refine gp (xk rfl _ _ _ _ _ _ _ _ rfl (jf _ (fD.o _))) rfl ?_;have Ct:=aaQ (o:=ay #[af I (k:Int),bF A (j+1)] 92) #[af I 0,af I 0,af I 0,af I 0,ak J 0 0] (ig.trans (tR.mono ig.size)) (by have:=tR.size;have:=lH.o;omega);exact Qk HE.o HJ.o Ct.1 Ct.2
  have k1:¬(k:Int)<(lines.length:Int):=by omega
  obtain rfl:k=lines.length:=by omega
  have C1:ag (cy aM 0 ⟨-1,bT⟩ (lines.map bl)=cy aM lines.length st []):=by show _=_;have:=y_.o;rw[List.drop_length]at this;exact this
  obtain⟨ev,mv,cells,hA⟩:=HR.toA;have HA:ag _:=hA;have hrow:=hA.row;have fD:ag (∀V,Below _ wr V->V.heap[w.heap.size]?=U _):=λV hV=>cX hV (cX eW.o CZ.o)
  have r5:wr.cell? (ar rb 5 J)=U (af I st.last):=by simp[aL,hrow,gq]
  by_cases hl2:st.last<2
  ·have HE:ag (cy aM 0 ⟨-1,bT⟩ (lines.map bl)=((1,(lines.length:Int)),st)):=by show _=_;rw[C1.o,cy,aU hl2]
   have eQ:=(HS.1.below eW.o).c0;clear hA hrow;have zz:=fD.o wr (aC _ _);have z0:wr.cell? (ar w.heap.size 0 J)=U (af I 0):=by simp[aL,zz]
   have z1:wr.cell? (ar w.heap.size 1 J)=U (af I 0):=by simp[aL,zz]
   have z2:wr.cell? (ar w.heap.size 2 J)=U (af I 0):=by simp[aL,zz]
   have z3:wr.cell? (ar w.heap.size 3 J)=U (af I 0):=by simp[aL,zz]
   have z4:wr.cell? (ar w.heap.size 4 J)=U (ak J 0 0):=by simp[aL,zz]
   have f0:wr.frozen? (ar w.heap.size 0 J)=false:=by simp[bE,zz]
   have f1:wr.frozen? (ar w.heap.size 1 J)=false:=by simp[bE,zz]
   have f2:wr.frozen? (ar w.heap.size 2 J)=false:=by simp[bE,zz]
   have f3:wr.frozen? (ar w.heap.size 3 J)=false:=by simp[bE,zz]
   have f4:wr.frozen? (ar w.heap.size 4 J)=false:=by simp[bE,zz]
   have AL:¬w.heap.size=2:=by
    have h1:=j6 hs.c0;have h2:2<w.heap.size:=h1;omega
   have FI:¬2=w.heap.size:=λe=>AL e.symm
   have y0:∀ob,(wr.alloc ob).cell? ⟨w.heap.size,0,J⟩=U (af I 0):=λob=>by simp[aL,fD.o _ (bt wr ob)]
   have g0:∀ob,(wr.alloc ob).frozen? ⟨w.heap.size,0,J⟩=false:=λob=>by simp[bE,fD.o _ (bt wr ob)]
   have y1:∀ob,(wr.alloc ob).cell? ⟨w.heap.size,1,J⟩=U (af I 0):=λob=>by simp[aL,fD.o _ (bt wr ob)]
   have g1:∀ob,(wr.alloc ob).frozen? ⟨w.heap.size,1,J⟩=false:=λob=>by simp[bE,fD.o _ (bt wr ob)]
   have y2:∀ob,(wr.alloc ob).cell? ⟨w.heap.size,2,J⟩=U (af I 0):=λob=>by simp[aL,fD.o _ (bt wr ob)]
   have g2:∀ob,(wr.alloc ob).frozen? ⟨w.heap.size,2,J⟩=false:=λob=>by simp[bE,fD.o _ (bt wr ob)]
   have y3:∀ob,(wr.alloc ob).cell? ⟨w.heap.size,3,J⟩=U (af I 0):=λob=>by simp[aL,fD.o _ (bt wr ob)]
   have g3:∀ob,(wr.alloc ob).frozen? ⟨w.heap.size,3,J⟩=false:=λob=>by simp[bE,fD.o _ (bt wr ob)]
   have y4:∀ob,(wr.alloc ob).cell? ⟨w.heap.size,4,J⟩=U (ak J 0 0):=λob=>by simp[aL,fD.o _ (bt wr ob)]
   have g4:∀ob,(wr.alloc ob).frozen? ⟨w.heap.size,4,J⟩=false:=λob=>by simp[bE,fD.o _ (bt wr ob)]
   clear zz;go_wp2_with fail
   go_region
   all_goals
    clear y0 y1 y2 y3 y4 g0 g1 g2 g3 g4 z0 z1 z2 z3 z4 f0 f1 f2 f3 f4 AL FI eQ r5
    first|rw[J4 (fD.o _ (bt _ _))]|rw[J4 (fD.o _ (aC _ _))]
    go_wp2
    refine gp (xk rfl _ _ _ _ _ _ _ _ rfl (fD.o _ (bt _ _).drew)) rfl ?_;have b1:=ig.trans (eW.mono ig.size);exact Qk HE.o (aD rfl) (b1.trans (((bt wr _).drew).mono b1.size)) (dT wr _)
  have HE:ag (cy aM 0 ⟨-1,bT⟩ (lines.map bl)=((0,-1),st)):=by show _=_;rw[C1.o,cy,aF hl2]
  have r0:wr.cell? (ar rb 0 J)=U (af I st.cfg.closed):=by simp[aL,hrow,gq]
  have r1:wr.cell? (ar rb 1 J)=U (af I st.cfg.opn):=by simp[aL,hrow,gq]
  have r2:wr.cell? (ar rb 2 J)=U (af I st.cfg.cycle):=by simp[aL,hrow,gq]
  have r3:wr.cell? (ar rb 3 J)=U (af I st.cfg.bO):=by simp[aL,hrow,gq]
  have r4:wr.cell? (ar rb 4 J)=U ev:=by simp[aL,hrow,gq]
  obtain⟨va,vc,rfl⟩:=eO hA.az;clear hA hrow;go_wp2_with (refine gm rfl 34 _ _ rfl _ _ rfl rfl 34 _ (fD.o _ (aC _ _)) oN rfl (by simp[Value.oneCell']) ?_)
  refine gp (xk rfl _ _ _ _ _ _ _ _ rfl (jf _ (fD.o _ (aC _ _)))) rfl ?_
  refine⟨_,_,_,rfl,?_,by rw[HE.o];rfl,?_,by rw[HE.o];exact⟨by simp,cF ⟨rfl,rfl⟩⟩,⟨bH HO.1.len (by have:=HN.1;omega),λe he=>?_⟩⟩
  ·have b1:=ig.trans (eW.mono ig.size);exact b1.grown (pL ..) b1.size (λj hj=>by cases hj;exact aR _)
  ·exact⟨_,(HA.other (pL ..) (fD.o _ (aC _ _)) C0.2).FB⟩
  obtain⟨a,b⟩:=HO.2 e he;have sz:=(HO.1.sz e he).mono (m:=1000000) (by have:=HN.1;omega);exact⟨a,sz.p,b,sz.g,sz.d,sz.f,sz.l⟩
def gR.nil{r:aj}{f:Nat×Int}(h:gR A w r f)(h0:f.1=0):r=.nilIface:=by
 obtain⟨-,h1|⟨h1,-⟩⟩:=h
 ·rw[h1.2,h0];rfl
 omega
def gR.some{r:aj}{f:Nat×Int}(h:gR A w r f)(h0:f.1≠0):∃t x,r=.iface t x:=by
 obtain⟨-,h1|⟨-,b,h1,-⟩⟩:=h
 ·rw[h1.2,uN h0];exact⟨_,_,rfl⟩
 exact⟨_,_,h1⟩
def aaT(l:List UInt8):Lib.trimSuffix l [10]=trim l:=by
 unfold Lib.trimSuffix trim;have hs:Lib.hasSuffix l [10]=true↔l.getLast?=U 10:=by
  unfold Lib.hasSuffix;rw[List.isSuffixOf_iff_suffix]
  constructor
  ·rintro⟨t,rfl⟩;simp
  intro h;have hne:l≠[]:=λe=>by subst e;simp at h
  rw[List.getLast?_eq_some_getLast hne]at h;have e2:=List.dropLast_concat_getLast hne;rw[b_ h]at e2;exact⟨_,e2⟩
 by_cases h:l.getLast?=U 10
 ·rw[aU h,aU (hs.2 h)];rw[List.dropLast_eq_take];rfl
 rw[aF h,aF (λe=>h (hs.1 e))]
def aaU(s sep:ByteArray)(CV:sep.data.toList=[10]):(Lib.splitB sep 0 (Lib.countB s sep) s).map bl=bS 10 (bl s)/\(Lib.splitB sep 0 (Lib.countB s sep) s).length=Lib.countB s sep+1:=
 ⟨Qb 10 s sep CV,Lib.splitB_all sep (by rw[<- ByteArray.size_data,<- qD,CV];decide) 0 _ s rfl⟩
def Qn(h:w.heap[b]?=U (ay cs T fr)):w.setRow b cs=w:=by
 have hh:(w.setRow b cs).heap=w.heap:=by
  apply BZ
  intro i
  by_cases e:i=b
  ·subst e;rw[jf cs h,h]
  simp only[World.setRow,fR];rw[aF (λe2=>e e2.symm)]
 cases w
 simp only[World.setRow]at hh⊢;rw[hh]
def aaV(A:Nat->av)(s:ByteArray)(w:ah)(hs:dD A w)(hK:mF w)(hM:nP w)(hn:s.size<=9223372036854775807):Calls prog 13 #[aB s] w λv w'=>∃c sv ev,v=aH (aX #[a_ #[af I c.closed,af I c.opn,af I c.cycle,af I c.bO,sv],ev])/\Below w.heap.size w w'/\c=(gf aM (bl s)).2/\(∃B',gG B' w' sv c.az)/\gR A w' ev (gf aM (bl s)).1/\jB c:=by
 have hbl:(bl s).length=s.size:=by simp[bl]
 obtain⟨Wc,kL⟩:∃V,V=w.alloc (ay #[af I 0,af I 0,af I 0,af I 0,ak J 0 0] 34):=⟨_,rfl⟩;have ig:ag (Below w.heap.size w Wc):=by show Below _ _ _;rw[kL];exact bt _ _
 have lH:ag (Wc.heap.size=w.heap.size+1):=by show _=_;rw[kL];simp
 have fD:ag (∀V,Below _ Wc V->V.heap[w.heap.size]?=U _):=λV hV=>cX hV (by rw[kL];exact dT w _)
 have HS:ag (dD A Wc/\mF Wc/\nP Wc):=⟨hs.below ig,hK.below ig (j6 (hK 0 (aD rfl))),hM.below ig⟩;have hg1:1<w.heap.size:=j6 hs.c1
 by_cases hl:8000<s.size
 ·have HE:ag (gf aM (bl s)=((2,-1),bT)):=by show _=_;unfold gf;rw[aU (by omega)]
  have l1:(8000:Int)<(s.size:Int):=by omega
  have eQ:=HS.1.c1;have zz:=fD Wc (aC _ _);have AL:¬w.heap.size=1:=by omega
  have FI:¬1=w.heap.size:=by omega
  have z0:Wc.cell? (ar w.heap.size 0 J)=U (af I 0):=by simp[aL,zz]
  have f0:Wc.frozen? (ar w.heap.size 0 J)=false:=by simp[bE,zz]
  have z1:Wc.cell? (ar w.heap.size 1 J)=U (af I 0):=by simp[aL,zz]
  have f1:Wc.frozen? (ar w.heap.size 1 J)=false:=by simp[bE,zz]
  have z2:Wc.cell? (ar w.heap.size 2 J)=U (af I 0):=by simp[aL,zz]
  have f2:Wc.frozen? (ar w.heap.size 2 J)=false:=by simp[bE,zz]
  have z3:Wc.cell? (ar w.heap.size 3 J)=U (af I 0):=by simp[aL,zz]
  have f3:Wc.frozen? (ar w.heap.size 3 J)=false:=by simp[bE,zz]
  have z4:Wc.cell? (ar w.heap.size 4 J)=U (ak J 0 0):=by simp[aL,zz]
  have f4:Wc.frozen? (ar w.heap.size 4 J)=false:=by simp[bE,zz]
  clear zz hg1 hs hK hM;go_enter func13,ntmps13
  go_upto_region 1 with fail
  rw[<- kL];clear kL;go_wp2_with fail
  go_region
  all_goals
   clear z0 z1 z2 z3 z4 f0 f1 f2 f3 f4 AL FI eQ;rw[J4 (fD.o _ (aC _ _))];go_wp2
   refine gp (xk rfl _ _ _ _ _ _ _ _ rfl (fD _ (aC _ _).drew)) rfl ?_
   refine⟨_,_,_,rfl,ig.drew,by rw[HE.o],FD _,by rw[HE.o];exact⟨by simp,cF ⟨rfl,rfl⟩⟩,FE⟩
 obtain⟨st,hst⟩:∃st:ByteArray,st=⟨(Lib.trimSuffix s.data.toList [10]).toArray⟩:=⟨_,rfl⟩;have AO:bl st=trim (bl s):=by rw[hst,uA,aaT];rfl
 obtain⟨lines,J6⟩:∃L,L=Lib.splitB ⟨#[10]⟩ 0 (Lib.countB st ⟨#[10]⟩) st:=⟨_,rfl⟩;obtain⟨e1,e2⟩:=aaU st ⟨#[10]⟩ rfl;rw[<- J6]at e1 e2;have rz:(trim (bl s)).length<=8000:=by
  unfold trim
  split
  ·simp;omega
  omega
 have aaW:st.size<=8000:=by
  have:(bl st).length=st.size:=by simp[bl]
  rw[AO]at this;omega
 have HT:ag (Calls prog 30 #[aB s,aB ⟨#[10]⟩] Wc λe w'=>e=aH (aB st)/\w'=Wc):=by
  rw[hst];exact strings_TrimSuffix s _ Wc hn
 have CX:ag (Calls prog 29 #[aB st,aB ⟨#[10]⟩] Wc λe w'=>e=aH (ak (U (ar Wc.heap.size 0 J)) lines.length lines.length)/\w'=Wc.alloc (ay (lines.map Value.string).toArray 9)):=by
  have:=Qc st ⟨#[10]⟩ Wc HS.2.2 (by omega) (aD rfl);rw[<- J6,<- e2]at this;exact this
 have za:ag (∀w1,Below _ Wc w1->w1.heap[Wc.heap.size]?=U (ay (lines.map Value.string).toArray 9 (0,0))->Calls _ 28 _ w1 _):=λw1 hb hrow=>aaR A w1 _ _ lines.length (HS.1.below hb) (HS.2.1.below hb (j6 (HS.2.1 0 (aD rfl)))) (HS.2.2.below hb) ⟨_,_,rfl,aR _,λ_=>⟨Wc.heap.size,0,rfl,λi x hx j u hu=>by
  match j,hu with
  |0,hu=>
   simp[gg]at hu
   subst hu;simp[aL,hrow,hx]
  |j+1,hu=>simp[gg]at hu⟩⟩ (by
   have h1:=(CW 10 (trim (bl s))).2;rw[<- AO,<- e1,qb,AO]at h1;omega) (λl hl=>by
   have h1:=J1 10 _ _ (by rw[<- e1];exact List.mem_map_of_mem (f:=bl) hl);have h2:(bl l).length=l.size:=by simp[bl]
   rw[AO]at h1;omega)
 have gK:ag (gf aM (bl s)=if (cy aM 0 ⟨-1,bT⟩ (lines.map bl)).1.1=0 then (if (dJ (cy aM 0 ⟨-1,bT⟩ (lines.map bl)).2.cfg).1=0 then ((0,-1),(cy aM 0 ⟨-1,bT⟩ (lines.map bl)).2.cfg)else (dJ (cy aM 0 ⟨-1,bT⟩ (lines.map bl)).2.cfg,bT))else ((cy aM 0 ⟨-1,bT⟩ (lines.map bl)).1,bT)):=by
  show _=_
  unfold gf;rw[aF (by omega),e1,AO]
 have l1:¬(8000:Int)<(s.size:Int):=by omega
 clear hs hK hM hg1 hst AO J6 e1 e2 rz aaW hbl;go_enter func13,ntmps13
 go_upto_region 1 with fail
 rw[<- kL];clear kL;go_wp2_with fail
 refine bw HT.o ?_;rintro v w1 ⟨rfl,nQ⟩
 cases nQ
 go_wp2_with fail
 refine bw CX.o ?_;rintro v w1 ⟨rfl,nQ⟩;have aS:ag (Below Wc.heap.size Wc w1):=by show Below _ _ _;rw[nQ];exact bt _ _
 have dA:ag (w1.heap[Wc.heap.size]?=U (ay (lines.map Value.string).toArray 9 (0,0))):=by show _=_;rw[nQ];exact dT Wc _
 clear nQ HT CX;go_wp2_with fail
 refine bw (za.o w1 aS dA) ?_;rintro v w2 ⟨c,sv,ev,rfl,hb2,hc,hE,tS,qg⟩;obtain⟨B',hE⟩:=hE;obtain⟨va,vc,rfl,-⟩:=id hE.az;have aO:ag _:=aS.trans (hb2.mono aS.size);change ag _ at hc
 have HE:ag (gG B' w2 _ _/\jB c):=⟨hE,qg⟩;have FJ:ag (gR A w2 ev _):=tS;clear hb2 hE tS qg za aS dA
 by_cases h0:(cy aM 0 ⟨-1,bT⟩ (lines.map bl)).1.1=0
 ·have cP:=FJ.nil h0;subst cP;have aaX:ag (c=(cy aM 0 ⟨-1,bT⟩ (lines.map bl)).2.cfg):=by show _=_;rw[hc.o];unfold FC;rw[aU h0]
  have ze:ag (gf aM (bl s)=if (dJ c).1=0 then ((0,-1),c)else (dJ c,bT)):=by show _=_;rw[gK.o,aU h0,aaX.o]
  clear h0 FJ gK;obtain⟨V,hV⟩:∃V,V=w2.alloc (ay (cR c va vc) 34):=⟨_,rfl⟩;have J7:ag (Below Wc.heap.size Wc V):=by show Below _ _ _;rw[hV];exact aO.trans ((bt _ _).mono aO.size)
  have Qo:ag (∀X,Below _ V X->X.heap[w2.heap.size]?=U _):=λX hX=>cX hX (by rw[hV];exact dT w2 _)
  have Qp:ag (gG B' V (ak va c.az.length vc) c.az):=by show gG _ _ _ _;rw[hV];exact HE.1.below (bt _ _)
  go_upto_region 5 with fail
  rw[<- hV];clear hV;go_wp2_with (refine wpList_load_row rfl 34 _ rfl _ rfl _ _ _ _ (Qo _ (aC _ _)) underlying34 rfl oN ?_)
  apply(VU A c va vc V (HS.1.below J7) Qp.az HE.2).mono;rintro v w4 ⟨r,rfl,he,hb4⟩;have xm:ag _:=J7.trans (hb4.mono J7.size);have J8:ag (gR A w4 r _):=he;clear he;change ag _ at hb4
  by_cases h1:(dJ c).1=0
  ·have hr:=J8.nil h1;subst hr;have C2:ag (gf aM (bl s)=((0,-1),c)):=by show _=_;rw[ze.o,aU h1]
   clear h1 ze;go_wp2_with (first|(refine wpList_load_row rfl 34 _ rfl _ rfl _ _ _ _ (Qo _ hb4) underlying34 rfl oN ?_)|(refine gm rfl 34 _ _ rfl _ _ rfl rfl 34 _ (fD _ xm) oN rfl (by simp[Value.oneCell']) ?_))
   refine gp (xk rfl _ _ _ _ _ _ _ _ rfl (jf _ (fD _ xm))) rfl ?_;have b1:=ig.trans (xm.mono ig.size)
   refine⟨c,_,_,rfl,b1.grown (pL ..) b1.size (λj hj=>by cases hj;exact aR _),by rw[C2.o],⟨B',(Qp.below hb4).other (pL ..) (fD _ xm)⟩,by rw[C2.o];exact⟨by simp,cF ⟨rfl,rfl⟩⟩,HE.2⟩
  obtain⟨et,ex,he⟩:=J8.some h1;subst he;have C2:ag (gf aM (bl s)=(dJ c,bT)):=by show _=_;rw[ze.o,aF h1]
  clear h1 ze;go_wp2_with (refine gm rfl 34 _ _ rfl _ _ rfl rfl 34 _ (fD _ xm) oN rfl (by simp[Value.oneCell']) ?_)
  rw[Qn (fD.o _ xm.o)]
  refine gp (xk rfl _ _ _ _ _ _ _ _ rfl (fD _ xm)) rfl ?_;exact⟨_,_,_,rfl,ig.trans (xm.mono ig.size),by rw[C2.o],FD _,by rw[C2.o];exact J8,FE⟩
 obtain⟨et,ex,he⟩:=FJ.some h0;subst he;have ze:ag (gf aM (bl s)=((cy aM 0 ⟨-1,bT⟩ (lines.map bl)).1,bT)):=by show _=_;rw[gK.o,aF h0]
 clear h0;go_wp2_with (refine gm rfl 34 _ _ rfl _ _ rfl rfl 34 _ (fD _ (aO.trans ((bt _ _).mono aO.size))) oN rfl (by simp[Value.oneCell']) ?_)
 rw[Qn (fD.o _ (aO.trans ((bt _ _).mono aO.size)))]
 refine gp (xk rfl _ _ _ _ _ _ _ _ rfl (fD _ (aO.trans ((bt _ _).mono aO.size)))) rfl ?_;have b1:=ig.trans (aO.mono ig.size);exact⟨_,_,_,rfl,b1.trans ((bt _ _).mono b1.size),by rw[ze.o],FD _,by rw[ze.o];exact FJ.below (bt _ _),FE⟩
def aaY(A:Nat->av)(s:ByteArray)(bx rb ro n cap i:Nat)(w:ah)(hs:dD A w)(hK:mF w)(hM:nP w)(hn:s.size<=9223372036854775807)(hb:w.cell? (ar bx 0 J)=U (ak (U (ar rb ro J)) n cap))(hi:i<n)(he:w.cell? ⟨rb,ro+i,J⟩=U (aB s)):Calls prog 12 #[af I i,ax (U (ar bx 0 J))] w λv w'=>∃c sv ev,v=aH (aX #[a_ #[af I c.closed,af I c.opn,af I c.cycle,af I c.bO,sv],ev])/\c=(gf aM (bl s)).2/\iJ w' sv c.az/\gR A w' ev (gf aM (bl s)).1/\jB c:=by
 obtain⟨Wc,kL⟩:∃V,V=w.alloc (ay #[af I 0,af I 0,af I 0,af I 0,ak J 0 0] 34):=⟨_,rfl⟩;obtain⟨xb,xn⟩:∃b,b=w.heap.size:=⟨_,rfl⟩;have ig:ag (Below w.heap.size w Wc):=by show Below _ _ _;rw[kL];exact bt _ _
 have HX:ag (Wc.heap[xb]?=U (ay #[af I 0,af I 0,af I 0,af I 0,ak J 0 0] 34 (0,0))):=by show _=_;rw[kL,xn];exact dT w _
 have HS:ag (dD A Wc/\mF Wc/\nP Wc):=⟨hs.below ig,hK.below ig (j6 (hK 0 (aD rfl))),hM.below ig⟩;have H:ag _:=aaV A s Wc HS.o.1 HS.o.2.1 HS.o.2.2 hn;have l1:(i:Int)<(n:Int):=by omega
 have l2:(0:Int)<=(i:Int):=by omega
 have b1:Wc.cell? (ar bx 0 J)=U (ak (U (ar rb ro J)) n cap):=aA ig.o hb;have b2:Wc.cell? ⟨rb,ro+i,J⟩=U (aB s):=aA ig.o he;clear hs hK hM HS hb he;go_enter func12,ntmps12
 go_upto_region 1 with fail
 rw[<- kL,<- xn];clear kL xn ig;go_wp2_with fail
 refine bw H.o ?_;rintro v w2 ⟨c,sv,ev,rfl,hb2,hc,⟨B,hE⟩,tS,qg⟩;have aO:ag (Below Wc.heap.size Wc w2):=hb2;have X2:ag _:=cX hb2 HX.o;have HE:ag (iJ w2 sv c.az/\gR A w2 ev (gf aM (bl s)).1):=⟨hE.az,tS⟩;have HC:ag (c=(gf aM (bl s)).2/\jB c):=⟨hc,qg⟩;have HO:ag (gG B w2 sv c.az):=hE;clear hb2 hc hE tS qg H HX aO;obtain⟨va,vc,rfl,-⟩:=id HE.o.1;go_wp2_with (refine gm rfl 34 _ _ rfl _ _ rfl rfl 34 _ X2.o oN rfl (by simp[Value.oneCell']) ?_)
 refine gp (xk rfl _ _ _ _ _ _ _ _ rfl (jf _ X2.o)) rfl ?_
 refine⟨_,_,_,rfl,HC.o.1,(HO.o.other (pL ..) X2.o).az,?_,HC.o.2⟩;obtain⟨h1,h2|⟨h2,b,h3,h4,h5⟩⟩:=HE.o.2
 ·exact⟨h1,cF h2⟩
 have hb:b≠xb:=by
  rintro rfl;have x2:=X2.o;rw[show w2.cell? (ar b 1 J)=U (af I 0) by simp[aL,x2]]at h5
  cases hf:(gf aM (bl s)).1.1 with
  |zero=>omega
  |succ j=>rw[hf]at h5;cases h5
 have hne:¬xb=b:=λe=>hb e.symm
 have key:∀(cs:Array aj) (j:Nat),(w2.setRow xb cs).cell? ⟨b,j,J⟩=w2.cell? (ar b j J):=λcs j=>by simp[World.setRow,aL,fR,hne]
 exact⟨h1,bk ⟨h2,b,h3,(key _ 0).trans h4,(key _ 1).trans h5⟩⟩
end Go.Proofs.YtjjodkjbmgnbeaaGreatDoor
