/-
  Several texts as one: LwC, LnB, LnC, LmD, LnT, LnD, LnE, LnF, LnG, LnH, LnI, LnJ, LnK, LnL, LnM, LnN, LnO, LnP, LnQ, LnR, LnS, LnU, LnV, LnW, LxE, LyA, SdLib, LyB, LwD.
-/
import Derived.Test.YtjjodkjbmgnbeaaGreatDoorP02S
import Derived.Conc.Beside
import Derived.Conc.TokenWalk
import Derived.KernelRfl
import Derived.Conc.BesideWords
set_option linter.all false
set_option maxHeartbeats 40000000
set_option maxRecDepth 100000
abbrev jk.{u}:=@Array.getElem?_setIfInBounds_self_of_lt.{u}
abbrev jQ:=@Go.Conc.mem_ofEvents
abbrev pW:=@Go.runNT_succ_next
abbrev tD:=@Go.ConcM.goes_le
abbrev wT.{u}:=@List.getElem?_toArray.{u}
abbrev uX:=@Nat.le_of_eq
abbrev lB:=@Iff.rfl
abbrev Cj.{u}:=@Array.mem_iff_getElem?.{u}
abbrev tF:=@Go.runNT_add
open Go renaming Addr→av,Value→aj,World→ah
open Go.Addr renaming mk→ar
open Go.IntKind renaming i64→I
open Go.Value renaming agg→a_,bool→aJ,int→af,pointer→ax,tuple→aX
open Go.World renaming setCell→cZ
open Option renaming none→J,some→U
open Go.Proofs.Tryz
namespace Go.Proofs.YtjjodkjbmgnbeaaGreatDoor
open Go.Conc Go.Conc.Lib Go.ConcN Go.ConcN.Gen Go.ConcR.Gen Go.RowKit
open Go.ConcR (KK wgBlock WgAt stA smA rd wr mk Payload DC0)
variable{A:av}{N' Wg a b c cap d i j k m n q0 r s vs:Nat}{O:Nat->Prop}{P:Program}{S:Goroutine->ah->Prop}{Shun:Loc->Prop}{a' g g' gc:Goroutine}{buf xs ys:Array aj}{cl main tm:Bool}{cs:Array CommCase}{e:Event}{es:Array Event}{f:TypeId->av->Nat->Nat->Sem aj}{fn:FuncId}{gs:Array Goroutine}{pos:String}{sh:CommShape}{t:Trace}{ty:TypeId}{w w':ah}{who:Nat->Option Nat}{x x':aj}{x0 x1 x2 x3:MemOp}{z:Sem aj}
section
variable {L:WgLink}
def EJ(L:WgLink)(Wg:Nat)(c:Frame)(cs:List Frame)(g:Goroutine)(_:ah):Prop:=
 ∃T:Array aj,g=G ((base L.wait).at ⟨T,[]⟩ [.code (L7 L),.inLoop (L7 L),.inBlock 0]) (c::cs)/\T.size=84/\T[0]?=U (ax (U (ar Wg 0 J)))
section
variable (P:Program)(ty:TypeId)(Wg:Nat)(main:Bool)(g0:Goroutine)(A:Goroutine->ah->Prop)
def IP:Goroutine->ah->Prop:=Says P ty Wg main .enable (Says P ty Wg main (.acquire (stA Wg)) (uV g0))
def Oj(g:Goroutine)(w:ah):Prop:=
 g.status=.running/\(WgAt ty Wg w 0 0->∃g',stepG P main g w=.go g' w #[rd (stA Wg)]/\Gw P ty Wg main (IP P ty Wg main g0) g' w)
def EK(g:Goroutine)(w:ah):Prop:=
 g.status=.running/\g.offers=J/\((∃st,WgAt ty Wg w st 0)->stepG P main g w=.go { g with status:=.blocked } w #[]) /\
  (WgAt ty Wg w 0 1->∃g',stepG P main g w=.go g' (w.setCell (smA Wg) (.int .u32 0)) (semEvents (smA Wg))/\Gw P ty Wg main (Oj P ty Wg main g0) g' (w.setCell (smA Wg) (.int .u32 0)))
def Ol(vs:Nat)(g:Goroutine)(w:ah):Prop:=
 g.status=.running/\∀v:Nat,v<2147483648->WgAt ty Wg w (v*KK) 0 ->
  (v=vs->∃g',stepG P main g w=.go g' (w.setCell (stA Wg) (.int .u64 (v*KK+1))) #[rd (stA Wg),wr (stA Wg)] /\
   Gw P ty Wg main (Says P ty Wg main (.write (smA Wg)) (EK P ty Wg main g0)) g' (w.setCell (stA Wg) (.int .u64 (v*KK+1)))) /\
  (v≠vs->∃g',stepG P main g w=.go g' w #[rd (stA Wg)]/\Gw P ty Wg main A g' w)
def yq(g:Goroutine)(w:ah):Prop:=
 g.status=.running/\∀v:Nat,v<2147483648->WgAt ty Wg w (v*KK) 0->∃g',stepG P main g w=.go g' w #[rd (stA Wg)] /\
  (v=0->Gw P ty Wg main (IP P ty Wg main g0) g' w)/\(v≠0->Gw P ty Wg main (Ol P ty Wg main g0 A v) g' w)
end
section
variable {Wg:Nat}{main:Bool}{b₀:Frame}{a₀:Act}{ops₀:Array Oper}{i₀:Nat}{rest₀:List Nat}{k₀:List Item}{cs:List Frame}
def Yj{P:Program}(H:WgLib P L)(w:ah)(hF:WgLive L.tWg Wg w):Goes P main (fA L.tWg Wg) DC0 (Says P L.tWg Wg main .disable (EJ L Wg (b₀.at a₀ (.inRegion ops₀ (i₀::rest₀)::k₀)) cs)) 200
   (G ((base L.wait).at ⟨(ax (U (ar Wg 0 J))::List.replicate 83 undef).toArray,[]⟩ [.code (body_wait L)]) (b₀.at a₀ (.inRegion ops₀ (i₀::rest₀)::k₀)::cs)) w:=by
 lib_facts
 simp only[body_wait,waitFn,bC,List.replicate]
 repeat w_go bm
 refine Goes.stop (λw₁ h₁=>?_);replace hF:=bm hF h₁
 clear h₁
 refine⟨rfl,_,stepG_mark0 .disable (by simp) rfl rfl (by k_ne) rfl H.f_disable (x_disable_n L) (x_disable_b L) (x_disable_x L) (x_disable_f L),200,?_⟩;walk_nrm
 iterate 3 w_go bm
 exact Goes.stop (λw₂ h₂=>⟨_,rfl,by simp,by simp⟩)
def Yk(H:WgLib P L)(g:Goroutine)(w:ah)(h:EJ L Wg (b₀.at a₀ (.inRegion ops₀ (i₀::rest₀)::k₀)) cs g w)(hF:WgLive L.tWg Wg w):Goes P main (fA L.tWg Wg) DC0 (yq P L.tWg Wg main (G (b₀.at (a₀.put ((ops₀[i₀]?).bind (·.dst)) (aX #[])) (.inRegion ops₀ rest₀::k₀)) cs) (EJ L Wg (b₀.at a₀ (.inRegion ops₀ (i₀::rest₀)::k₀)) cs)) 200 g w:=by
 lib_facts
 obtain⟨T,rfl,hT84,t0⟩:=h;obtain⟨v0,v1,v2,v3,v4,v5,v6,v7,v8,v9,v10,v11,v12,v13,v14,v15,v16,v17,v18,v19,v20,v21,v22,v23,v24,v25,v26,v27,v28,v29,v30,v31,v32,v33,v34,v35,v36,v37,v38,v39,v40,v41,v42,v43,v44,v45,v46,v47,v48,v49,v50,v51,v52,v53,v54,v55,v56,v57,v58,v59,v60,v61,v62,v63,v64,v65,v66,v67,v68,v69,v70,v71,v72,v73,v74,v75,v76,v77,v78,v79,v80,v81,v82,v83,rfl⟩:=array84 T hT84;simp only[wT,vZ,gQ]at t0;subst t0;simp only[L7,body_wait,waitFn,bC]
 repeat (first|w_go bm|u_call H.f_uLoad (nm_uLoad L) uLoadFn bm hF)
 refine Goes.stop (λw₁ h₁=>?_);replace hF:=bm hF h₁
 clear h₁
 refine⟨rfl,λv hv hw=>?_⟩
 rcases kG v with rfl|hvp
 ·replace hw:WgAt L.tWg Wg w₁ 0 0:=by simpa using hw
  refine⟨_,stepG_load_atomic (v:=0) rfl rfl (by k_ne) rfl H.f_loadU64 (x_loadU64_n L) (x_loadU64_b L) (x_loadU64_x L) .u64 (x_loadU64_f L) rfl hw.cellSt,λ_=>⟨200,?_⟩,λh=>absurd rfl h⟩;clear hw;walk_nrm
  repeat (first|w_go bm|u_leave1 H.f_uLoad bm hF)
  refine Goes.stop (λw₅ h₅=>?_);replace hF:=bm hF h₅
  clear h₅
  refine⟨rfl,_,stepG_mark0 .enable (by simp) rfl rfl (by k_ne) rfl H.f_enable (x_enable_n L) (x_enable_b L) (x_enable_x L) (x_enable_f L),200,?_⟩;walk_nrm
  repeat w_go bm
  u_conv H.underlying_tWgP H.room_tWg (WgLive.cell0 hF).choose_spec bm hF
  refine Goes.stop (λw₆ h₆=>?_);replace hF:=bm hF h₆
  clear h₆
  refine⟨rfl,_,stepG_markAt .acquire (by simp) rfl rfl (by k_ne) rfl H.f_acquire (x_acquire_n L) (x_acquire_b L) (x_acquire_x L) (x_acquire_f L) (by simp[Act.eval,stA]),200,?_⟩;walk_nrm
  repeat w_go bm
  u_leave0 H.f_wait bm hF
  exact Goes.stop λ_ _=>rfl
 obtain⟨S,hS⟩:∃S:Int,(v:Int)*KK=S:=⟨_,rfl⟩;have a1:S / 4294967296=(v:Int):=by rw[<- hS];simp only[KK];omega
 have b1:bits .and .u64 S 2147483648=0:=by rw[<- hS];have:=st_flag v 0 (by omega) (by omega);simpa[KK]using this
 have b2:bits .and .u64 S 2147483647=0:=by rw[<- hS];have:=st_waiters v 0 (by omega) (by omega);simpa[KK]using this
 have c1:IntKind.i32.wrap (v:Int)=(v:Int):=by rw[IntKind.wrap_i32];omega
 have w1:IntKind.u64.wrap (S+1)=S+1:=by rw[z_,<- hS];simp only[KK];omega
 have q3:decide ((v:Int)<0)=false:=bX (by omega);have q4:decide (0<(v:Int))=true:=bz (by omega);have q5:((v:Int)==0)=false:=by simp;omega
 have q6:decide ((v:Int)=0)=false:=bX (by omega);rw[hS]at hw
 refine⟨_,stepG_load_atomic (v:=S) rfl rfl (by k_ne) rfl H.f_loadU64 (x_loadU64_n L) (x_loadU64_b L) (x_loadU64_x L) .u64 (x_loadU64_f L) rfl hw.cellSt,λh0=>absurd h0 (by omega),λ_=>⟨200,?_⟩⟩;clear hw;walk_nrm
 repeat (first|w_go bm|u_cnd false bm hF|u_leave1 H.f_uLoad bm hF|u_call H.f_uCas (nm_uCas L) uCasFn bm hF)
 refine Goes.stop (λw₂ h₂=>?_);replace hF:=bm hF h₂
 clear h₂
 refine⟨rfl,λv' hv' hw=>⟨λe=>?_,λe=>?_⟩⟩
 ·subst e;rw[hS]at hw⊢
  refine⟨_,(stepG_cas_hit (v:=S) (n:=S+1) rfl rfl (by k_ne) rfl H.f_casU64 (x_casU64_n L) (x_casU64_b L) (x_casU64_x L) .u64 (x_casU64_f L) rfl rfl rfl hw.cellSt (hw.thaw 0)).trans (by rfl),200,?_⟩;replace hF:WgLive L.tWg Wg (w₂.setCell (stA Wg) (.int .u64 (S+1))):=⟨_,_,hw.setSt _⟩
  clear hw;walk_nrm
  repeat (first|w_go bm|u_leave1 H.f_uCas bm hF)
  u_conv H.underlying_tPU32 H.room_tU32 (WgLive.cell1 hF).choose_spec bm hF
  refine Goes.stop (λw₃ h₃=>?_);replace hF:=bm hF h₃
  clear h₃
  refine⟨rfl,_,stepG_markAt .write (by simp) rfl rfl (by k_ne) rfl H.f_raceWrite (x_raceWrite_n L) (x_raceWrite_b L) (x_raceWrite_x L) (x_raceWrite_f L) (by simp[Act.eval,smA]),200,?_⟩;walk_nrm
  repeat w_go bm
  refine Goes.stop (λw₃ h₃=>?_);replace hF:=bm hF h₃
  clear h₃
  refine⟨rfl,rfl,λ⟨st,hw⟩=>stepG_semacquire_wait rfl rfl rfl H.f_semacquire (x_semacquire_n L) (x_semacquire_b L) (x_semacquire_x L) (x_semacquire_f L) (by simp[Act.eval,smA]) hw.cellSm,λhf=>?_⟩
  refine⟨_,(stepG_semacquire (n:=1) rfl rfl (by k_ne) rfl H.f_semacquire (x_semacquire_n L) (x_semacquire_b L) (x_semacquire_x L) (x_semacquire_f L) (by simp[Act.eval,smA]) hf.cellSm (by k_ne) (hf.thaw 1)).trans (by rfl),200,?_⟩;replace hF:WgLive L.tWg Wg (w₃.setCell (smA Wg) (.int .u32 0)):=⟨_,_,hf.setSm 0⟩
  clear hf;walk_nrm
  repeat (first|w_go bm|u_call H.f_uLoad (nm_uLoad L) uLoadFn bm hF)
  refine Goes.stop (λw₄ h₄=>?_);replace hF:=bm hF h₄
  clear h₄
  refine⟨rfl,λhw=>⟨_,stepG_load_atomic (v:=0) rfl rfl (by k_ne) rfl H.f_loadU64 (x_loadU64_n L) (x_loadU64_b L) (x_loadU64_x L) .u64 (x_loadU64_f L) rfl hw.cellSt,200,?_⟩⟩;clear hw;walk_nrm
  repeat (first|w_go bm|u_leave1 H.f_uLoad bm hF)
  refine Goes.stop (λw₅ h₅=>?_);replace hF:=bm hF h₅
  clear h₅
  refine⟨rfl,_,stepG_mark0 .enable (by simp) rfl rfl (by k_ne) rfl H.f_enable (x_enable_n L) (x_enable_b L) (x_enable_x L) (x_enable_f L),200,?_⟩;walk_nrm
  repeat w_go bm
  u_conv H.underlying_tWgP H.room_tWg (WgLive.cell0 hF).choose_spec bm hF
  refine Goes.stop (λw₆ h₆=>?_);replace hF:=bm hF h₆
  clear h₆
  refine⟨rfl,_,stepG_markAt .acquire (by simp) rfl rfl (by k_ne) rfl H.f_acquire (x_acquire_n L) (x_acquire_b L) (x_acquire_x L) (x_acquire_f L) (by simp[Act.eval,stA]),200,?_⟩;walk_nrm
  repeat w_go bm
  u_leave0 H.f_wait bm hF
  exact Goes.stop λ_ _=>rfl
 refine⟨_,stepG_cas_miss (v:=(v':Int)*KK) (old:=S) (n:=S+1) rfl rfl (by k_ne) rfl H.f_casU64 (x_casU64_n L) (x_casU64_b L) (x_casU64_x L) .u64 (x_casU64_f L) rfl rfl rfl hw.cellSt (hw.thaw 0) (by rw[<- hS];simp only[KK];omega),200,?_⟩;clear hw;walk_nrm
 repeat (first|w_nl bm|u_leave1 H.f_uCas bm hF)
 w_go bm
 exact Goes.stop (λw₃ h₃=>⟨_,rfl,by simp,by simp⟩)
end
end
open Go.ConcR (mk)
structure Rl(O Sh:Nat->Prop)(w w₁:ah):Prop where
 blk:∀b,O b\/Sh b->w₁.heap[b]?=w.heap[b]?
 size:w.heap.size<=w₁.heap.size
def Rl.refl(O Sh:Nat->Prop)(w:ah):Rl O Sh w w:=⟨λ_ _=>rfl,aR _⟩
def Rl.trans{Sh:Nat->Prop}{a b c:ah}(h:Rl O Sh a b)(k:Rl O Sh b c):Rl O Sh a c:=⟨λx hx=>(k.blk x hx).trans (h.blk x hx),bH h.size k.size⟩
def qL(main:Bool)(O Sh Gr:Nat->Prop)(N N':Nat)(e:Event):Prop:=
 (∃a wr,e=⟨.cell a,wr,false⟩/\((O a.block/\¬Gr a.block)\/N<=a.block)/\a.block<N')\/(∃a,e=⟨.cell a,false,false⟩/\Sh a.block)\/(∃r wr,e=⟨.obj r,wr,false⟩/\((O r/\¬Gr r)\/N<=r)/\r<N') \/
  ((∃m,Ht m=true/\e=mk m)\/(main=true/\(e=mk .disable\/e=mk .enable)))\/(∃a wr,e=⟨.cell a,wr,true⟩/\Gr a.block)\/(∃a,(e=mk (.read a)\/e=mk (.write a))/\Gr a.block/\main=true)
structure Ef(main:Bool)(O Sh Gr:Nat->Prop)(w w':ah)(es:Array Event):Prop where
 frame:∀b,b<w.heap.size->¬O b->w'.heap[b]?=w.heap[b]?
 size:w.heap.size<=w'.heap.size
 os:w'.os=w.os
 o:w'.output=w.output
 tape:w'.tape=w.tape
 ev:∀e∈es,qL main O Sh Gr w.heap.size w'.heap.size e
def Ef.idle(main:Bool)(O Sh Gr:Nat->Prop)(w:ah):Ef main O Sh Gr w w #[]:=⟨λ_ _ _=>rfl,aR _,rfl,rfl,rfl,by simp⟩
def Gt(P:Program)(main:Bool)(Sh Gr:Nat->Prop)(Stop:(Nat->Prop)->Goroutine->ah->Prop):Nat->Nat->(Nat->Prop)->Goroutine->ah->Prop
 |0,d,O,g,w=>d=0/\∀w₁,Rl O Sh w w₁->Stop O g w₁
 |n+1,d,O,g,w=>(d=0/\∀w₁,Rl O Sh w w₁->Stop O g w₁) \/
  (g.status=.running/\∀w₁,Rl O Sh w w₁->∃g' w' es,stepG P main g w₁=.go g' w' es/\Ef main O Sh Gr w₁ w' es/\Gt P main Sh Gr Stop n (deafBehind d es) (λb=>O b\/(w₁.heap.size<=b/\b<w'.heap.size)) g' w')
section
variable {P:Program}{main:Bool}{O Sh Gr:Nat->Prop}{Stop Om:(Nat->Prop)->Goroutine->ah->Prop}{n d:Nat}{g:Goroutine}{w w₁:ah}
def Gt.stop(h:∀w₁,Rl O Sh w w₁->Stop O g w₁):Gt P main Sh Gr Stop n 0 O g w:=by
 cases n with
 |zero=>exact⟨rfl,h⟩
 |succ n=>exact .inl ⟨rfl,h⟩
def Gt.rely(h:Gt P main Sh Gr Stop n d O g w)(hr:Rl O Sh w w₁):Gt P main Sh Gr Stop n d O g w₁:=by
 cases n with
 |zero=>exact⟨h.1,λw₂ h₂=>h.2 w₂ (hr.trans h₂)⟩
 |succ n=>
  rcases h with h|⟨hs,h⟩
  ·exact .inl ⟨h.1,λw₂ h₂=>h.2 w₂ (hr.trans h₂)⟩
  exact .inr ⟨hs,λw₂ h₂=>h w₂ (hr.trans h₂)⟩
def Gt.more(h:Gt P main Sh Gr Stop n d O g w):Gt P main Sh Gr Stop (n+1) d O g w:=by
 induction n generalizing O g w d with
 |zero=>exact .inl h
 |succ n ih=>
  rcases h with h|⟨hs,h⟩
  ·exact .inl h
  refine .inr ⟨hs,λw₁ h₁=>?_⟩;obtain⟨g',w',es,a,b,c⟩:=h w₁ h₁;exact⟨g',w',es,a,b,ih c⟩
def Gt.le(hm:n<=m)(h:Gt P main Sh Gr Stop n d O g w):Gt P main Sh Gr Stop m d O g w:=by
 obtain⟨r,rfl⟩:=Nat.exists_eq_add_of_le hm
 induction r with
 |zero=>exact h
 |succ r ih=>exact(ih (Nat.le_add_right _ _)).more
def Gt.step(hs:g.status=.running)(h:∀w₁,Rl O Sh w w₁->∃g' w' es,stepG P main g w₁=.go g' w' es/\Ef main O Sh Gr w₁ w' es/\Gt P main Sh Gr Stop n (deafBehind d es) (λb=>O b\/(w₁.heap.size<=b/\b<w'.heap.size)) g' w'):Gt P main Sh Gr Stop (n+1) d O g w:=.inr ⟨hs,h⟩
def Gt.congr{O':Nat->Prop}(hO:∀b,O b↔O' b)(h:Gt P main Sh Gr Stop n d O g w):Gt P main Sh Gr Stop n d O' g w:=by
 have:O=O':=funext λb=>propext (hO b)
 rw[<- this];exact h
def Ck{w:ah}(h:w'.heap.size=w.heap.size)(b:Nat):O b↔(O b\/(w.heap.size<=b/\b<w'.heap.size)):=⟨.inl,λx=>x.elim id λy=>by omega⟩
def Gt.quiet{S:Goroutine->ah->Prop}{R:ah->ah->Prop}{D:ah->ah->Array Event->Prop}(hR:∀w w₁,Rl O Sh w w₁->R w w₁)(hD:∀w w' es,D w w' es->w'=w/\es=#[]){m:Nat}:∀{n:Nat} {g:Goroutine} {w:ah},Goes P main R D S n g w->(∀g w',Rl O Sh w w'->S g w'->Gt P main Sh Gr Stop m d O g w')->Gt P main Sh Gr Stop (n+m) d O g w:=by
 intro n
 induction n with
 |zero=>
  intro g w h hk;rw[pH];exact hk g w (.refl ..) (h w (hR _ _ (.refl ..)))
 |succ n ih=>
  intro g w h hk
  rcases h with h|⟨hs,h⟩
  ·exact Gt.le (by omega:m<=n+1+m) (hk g w (.refl ..) (h w (hR _ _ (.refl ..))))
  rw[show n+1+m=n+m+1 by omega]
  refine .inr ⟨hs,λw₁ h₁=>?_⟩;have h2:=h w₁ (hR _ _ h₁)
  cases hg:stepG P main g w₁ with
  |go g' w' es=>
   rw[hg,goes_go]at h2;obtain⟨rfl,rfl⟩:=hD _ _ _ h2.1;exact⟨g',w',#[],rfl,.idle ..,Gt.congr (Ck rfl) (ih h2.2 λg w2 hr hS=>hk g w2 (h₁.trans hr) hS)⟩
  |_=>rw[hg]at h2;exact h2.elim
def Gt.mono(hS:∀O g w,Stop O g w->Om O g w)(h:Gt P main Sh Gr Stop n d O g w):Gt P main Sh Gr Om n d O g w:=by
 induction n generalizing O g w d with
 |zero=>exact⟨h.1,λw₁ h₁=>hS _ _ _ (h.2 w₁ h₁)⟩
 |succ n ih=>
  rcases h with h|⟨hs,h⟩
  ·exact .inl ⟨h.1,λw₁ h₁=>hS _ _ _ (h.2 w₁ h₁)⟩
  refine .inr ⟨hs,λw₁ h₁=>?_⟩;obtain⟨g',w',es,a,b,c⟩:=h w₁ h₁;exact⟨g',w',es,a,b,ih c⟩
def Gt.now(h:Gt P main Sh Gr Stop n d O g w):(d=0/\∀w₁,Rl O Sh w w₁->Stop O g w₁) \/
  ∃m,n=m+1/\g.status=.running/\∀w₁,Rl O Sh w w₁->∃g' w' es,stepG P main g w₁=.go g' w' es/\Ef main O Sh Gr w₁ w' es/\Gt P main Sh Gr Stop m (deafBehind d es) (λb=>O b\/(w₁.heap.size<=b/\b<w'.heap.size)) g' w':=by
 cases n with
 |zero=>exact .inl h
 |succ n=>exact h.imp id λx=>⟨n,rfl,x⟩
def Gt.running(h:Gt P main Sh Gr Stop n d O g w)(hS:∀O g w,Stop O g w->g.status=.running):g.status=.running:=by
 rcases h.now with⟨_,h⟩|⟨_,_,h,_⟩
 ·exact hS _ _ _ (h w (.refl ..))
 exact h
end
def grow(who:Nat->Option Nat)(k:Nat)(w w':ah)(b:Nat):Option Nat:=if w.heap.size<=b/\b<w'.heap.size then U k else who b
structure Core(w:ah)(t:Trace)(n:Rg)(who:Nat->Option Nat)(Sh Gr:Nat->Prop):Prop where
 tk:∀said,TK said t n who Sh Gr
 seen:∀op∈t,op.act.low w.heap.size
 lt:∀b k,who b=U k->b<w.heap.size
 fF:∀b,(∃k,who b=U k)->¬Sh b/\¬Gr b
 lY:∀b,Sh b->¬Gr b
 lD:∀b,Sh b->b<w.heap.size
 jE:∀b,Gr b->b<w.heap.size
 rR:∀b k,who b=U k->k<=n.2
def Oo{N:Nat}(h:∀op∈t,op.act.low N){a:Touch}(ha:touchAt t i=U a)(hb:lb a.loc=U b):b<N:=by
 obtain⟨x,hx,kZ⟩:=touch_of ha;have hl:=h x (bU hx);obtain⟨g,fn,pos,act⟩:=x
 cases act with
 |access e=>
  obtain⟨loc,wr,sy⟩:=e;simp only[MemAct.touch?,gQ]at kZ;subst kZ
  cases loc<;>simp[lb]at hb<;>(subst hb;exact hl)
 |mark m=>
  cases m<;>simp[MemAct.touch?]at kZ<;>(subst kZ;simp[lb]at hb;subst hb;exact hl)
 |_=>simp[MemAct.touch?]at kZ
section
variable {w w':ah}{t:Trace}{n:Rg}{k:Nat}{who:Nat->Option Nat}{O Sh Gr:Nat->Prop}{es:Array Event}{fn:FuncId}{pos:String}{main:Bool}
def qL.low{N:Nat}(h:qL main O Sh Gr N N' e)(hS:∀b,Sh b\/Gr b->b<N'):(MemAct.ofEvent e).low N':=by
 rcases h with⟨a,wr,rfl,_,h⟩|⟨a,rfl,h⟩|⟨r,wr,rfl,_,h⟩|(⟨m,hm,rfl⟩|⟨_,rfl|rfl⟩)|⟨a,wr,rfl,h⟩|⟨a,rfl|rfl,h,_⟩
 ·exact h
 ·exact hS _ (.inl h)
 ·cases wr<;>exact h
 ·cases m<;>first|(cases hm;done)|trivial
 ·trivial
 ·trivial
 ·exact hS _ (.inr h)
 ·exact hS _ (.inr h)
 exact hS _ (.inr h)
def qL.may{N g:Nat}(h:qL main O Sh Gr N N' e)(hO:∀b,(O b/\¬Gr b)\/(N<=b/\b<N')->who b=U g)(hm:main=true->g=0){a:Touch}(ha:(MemAct.ofEvent e).touch?=U a):May who Sh Gr g a:=by
 rcases h with⟨p,wr,rfl,h,h2⟩|⟨p,rfl,h⟩|⟨r,wr,rfl,h,h2⟩|(⟨m,hm,rfl⟩|⟨_,rfl|rfl⟩)|⟨p,wr,rfl,h⟩|⟨p,rfl|rfl,h,h2⟩
 ·cases ha
  exact .inl ⟨p.block,rfl,.inl (hO _ (h.imp id λx=>⟨x,h2⟩))⟩
 ·cases ha
  exact .inl ⟨p.block,rfl,.inr (.inl ⟨h,rfl⟩)⟩
 ·cases wr<;>(cases ha;exact .inl ⟨r,rfl,.inl (hO _ (h.imp id λx=>⟨x,h2⟩))⟩)
 ·cases m<;>first|(cases hm;done)|(cases ha;done)
 ·cases ha
 ·cases ha
 ·cases ha
  exact .inl ⟨p.block,rfl,.inr (.inr ⟨h,by simp,by simp⟩)⟩
 ·cases ha
  exact .inl ⟨p.block,rfl,.inr (.inr ⟨h,by simp,λ_=>hm h2⟩)⟩
 cases ha
 exact .inl ⟨p.block,rfl,.inr (.inr ⟨h,by simp,λ_=>hm h2⟩)⟩
def Ef.hears(h:Ef false O Sh Gr w w' es)(d:Nat):deafBehind d es=d:=by
 refine deafBehind_still (λe he=>?_) d
 rcases h.ev e he with⟨a,wr,rfl,_⟩|⟨a,rfl,_⟩|⟨r,wr,rfl,_⟩|(⟨m,hm,rfl⟩|⟨e,_⟩)|⟨a,wr,rfl,_⟩|⟨a,_,_,e⟩
 ·simp
 ·simp
 ·simp
 ·exact⟨λh=>(by cases h;cases hm),λh=>(by cases h;cases hm)⟩
 ·cases e
 ·simp
 cases e
def Core.own(h:Core w t n who Sh Gr)(hk:Hs n k)(hm:main=true->k=0)(he:Ef main O Sh Gr w w' es)(hO:∀b,O b->who b=U k\/Gr b):Core w' (t++MemOp.ofEvents k fn pos es) n (grow who k w w') Sh Gr:=by
 have wU:∀said,TK said t n (grow who k w w') Sh Gr:=λsaid=>(h.tk said).new λb g hb=>by
  unfold grow at hb
  split at hb
  ·rename_i hc;exact .inr λi a ha e=>by have:=Oo h.seen ha e;omega
  exact .inl hb
 have hd:∀b,(∃g,grow who k w w' b=U g)->¬Sh b/\¬Gr b:=by
  rintro b ⟨g,hg⟩;unfold grow at hg
  split at hg
  ·rename_i hc;exact⟨λhs=>by have:=h.lD b hs;omega,λe=>by have:=h.jE b e;omega⟩
  exact h.fF b ⟨g,hg⟩
 have hlt:∀b g,grow who k w w' b=U g->b<w'.heap.size:=by
  intro b g hg;unfold grow at hg
  split at hg
  ·rename_i hc;exact hc.2
  exact dK (h.lt b g hg) he.size
 have hS:∀b,Sh b\/Gr b->b<w'.heap.size:=λb hb=>dK (hb.elim (h.lD b) (h.jE b)) he.size
 refine⟨λsaid=>(wU said).app hd h.lY (.inl hk) (ym λe kI=>⟨rfl,λa ha=>(he.ev e kI).may (λb hb=>?_) hm ha⟩),λop hop=>?_,hlt,hd,h.lY,λb hb=>hS b (.inl hb),λb hb=>hS b (.inr hb),λb g hg=>?_⟩
 ·unfold grow
  rcases hb with hb|hb
  ·have hw:=(hO b hb.1).resolve_right hb.2;rw[aF λx=>by have:=h.lt b k hw;omega];exact hw
  rw[aU hb]
 ·rcases mL.1 hop with x|x
  ·exact MemAct.low_mono he.size (h.seen op x)
  obtain⟨e,kI,rfl⟩:=jQ x;exact(he.ev e kI).low hS
 unfold grow at hg
 split at hg
 ·cases hg;exact hk.le
 exact h.rR b g hg
def Core.others(h:Core w t n who Sh Gr)(he:Ef main O Sh Gr w w' es)(hO:∀b,O b->who b=U k\/Gr b)(hj:j≠k):Rl (λb=>who b=U j) Sh w w'/\∀b,grow who k w w' b=U j↔who b=U j:=by
 refine⟨⟨λb hb=>he.frame b ?_ ?_,he.size⟩,λb=>?_⟩
 ·exact hb.elim (h.lt b j) (h.lD b)
 ·intro ho
  rcases hb with hb|hb
  ·rcases hO b ho with e|e
   ·rw[hb]at e;cases e;exact hj rfl
   exact(h.fF b ⟨_,hb⟩).2 e
  rcases hO b ho with e|e
  ·exact(h.fF b ⟨_,e⟩).1 hb
  exact h.lY b hb e
 unfold grow
 split
 ·rename_i hc;exact⟨λe=>absurd (b_ e).symm hj,λe=>by have:=h.lt b j e;omega⟩
 exact lB
end
section
variable {P:Program}{β β':aK}{w w1 V:ah}{es:Array Event}{O Sh Gr:Nat->Prop}{main:Bool}
def Oq(cH:Fx β β' w w1)(cP:∀e∈es,oQ β' e)(eI:RW β' V w1)(hO:∀b b',β.own b b'->O b'/\¬Gr b')(hS:∀b b',β.ro b b'->Sh b'):Ef main O Sh Gr w w1 es:=by
 have own:∀b b',β'.own b b'->((O b'/\¬Gr b')\/w.heap.size<=b')/\b'<w1.heap.size:=λb b' h=>⟨(cH.new b b' h).imp (hO b b') id,(eI.lt (.inl h)).2⟩
 refine⟨λk hk hn=>cH.frame k hk λb hb=>hn (hO b k hb).1,cH.size,cH.os,cH.output,cH.tape,λe he=>?_⟩
 rcases cP e he with⟨a,wr,b,rfl,hb⟩|⟨a,b,rfl,hb⟩|⟨r,wr,b,rfl,hb⟩|⟨m,hm,rfl⟩
 ·exact .inl ⟨a,wr,rfl,own _ _ hb⟩
 ·exact .inr (.inl ⟨a,rfl,hS b _ (by rw[cH.le.ro];exact hb)⟩)
 ·exact .inr (.inr (.inl ⟨r,wr,rfl,own _ _ hb⟩))
 exact .inr (.inr (.inr (.inl (.inl ⟨m,hm,rfl⟩))))
def Ot(cP:∀e∈es,oQ β' e)(d:Nat):deafBehind d es=d:=by
 refine deafBehind_still (λe he=>?_) d
 rcases cP e he with⟨a,wr,b,rfl,_⟩|⟨a,b,rfl,_⟩|⟨r,wr,b,rfl,_⟩|⟨m,hm,rfl⟩<;>simp<;>(constructor<;>rintro rfl<;>cases hm)
end
structure pX(P:Program)(Sh Gr:Nat->Prop)(fN:Nat->aj->(Nat->Prop)->ah->Prop)(iL:aj->Goroutine->Prop)(i:Nat)(x:ji)(O:Nat->Prop)(g:Goroutine)(w:ah):Prop where
 acc:Acc (Stp P) x
 run:∃okL gl R c r β x0,lV P okL gl R (c::r) β x0 x g w/\(∀b b',β.own b b'->O b'/\¬Gr b')/\(∀b b',β.ro b b'\/β.tok b b'->Sh b') /\
  ∀β' y y' V w1,R y V->RV β' y y'->RW β' V w1->β.le β'->w.heap.size<=w1.heap.size->(∀b b',β'.own b b'->β.own b b'\/w.heap.size<=b')->∃v F m,fN i v F w1/\(∀b,F b->(∃a,β'.own a b)\/Sh b)/\Gt P false Sh Gr (λ_ g _=>iL v g) m 0 (λ_=>False) (G (c.finish y') r) w1
section
variable {P:Program}{O Sh Gr:Nat->Prop}{fN:Nat->aj->(Nat->Prop)->ah->Prop}{iL:aj->Goroutine->Prop}{i:Nat}{x:ji}{g:Goroutine}{w w':ah}
def pX.running(h:pX P Sh Gr fN iL i x O g w):g.status=.running:=by
 obtain⟨_,_,_,_,_,_,_,j,_⟩:=h.run;exact j.running
def pX.rely(h:pX P Sh Gr fN iL i x O g w)(hr:Rl O Sh w w'):pX P Sh Gr fN iL i x O g w':=by
 obtain⟨ha,okL,gl,R,c,r,β,x0,j,h1,h2,h3⟩:=h
 refine⟨ha,okL,gl,R,c,r,β,x0,j.rely (λb b' hb=>hr.blk b' ?_) hr.size,h1,h2,λβ2 y2 uY V w2 q1 q2 q3 q4 q5 q6=>h3 β2 y2 uY V w2 q1 q2 q3 q4 (bH hr.size q5) λb b' hb=>(q6 b b' hb).imp id (bH hr.size)⟩
 rcases hb with hb|hb
 ·exact .inl (h1 b b' hb).1
 exact .inr (h2 b b' hb)
def pX.step(h:pX P Sh Gr fN iL i x O g w)(hG:∀b,Gr b->b<w.heap.size):(∃y g1 w1 es,Stp P y x/\stepG P false g w=.go g1 w1 es/\Ef false O Sh Gr w w1 es/\(∀d,deafBehind d es=d)/\pX P Sh Gr fN iL i y (λb=>O b\/(w.heap.size<=b/\b<w1.heap.size)) g1 w1) \/
  (∃g1 w1 es v F m,stepG P false g w=.go g1 w1 es/\Ef false O Sh Gr w w1 es/\(∀d,deafBehind d es=d)/\fN i v F w1/\(∀b,F b->((O b/\¬Gr b)\/(w.heap.size<=b/\b<w1.heap.size))\/Sh b)/\Gt P false Sh Gr (λ_ g _=>iL v g) m 0 (λ_=>False) g1 w1):=by
 obtain⟨ha,okL,gl,R,c,r,β,x0,j,h1,h2,h3⟩:=h;have own:∀{β':aK} {V w1:ah},Fx β β' w w1->RW β' V w1->∀b b',β'.own b b'->(O b'/\¬Gr b')\/(w.heap.size<=b'/\b'<w1.heap.size):=λcH eI b b' hb=>(cH.new b b' hb).imp (h1 b b') λz=>⟨z,(eI.lt (.inl hb)).2⟩
 rcases j.step (main:=false)with⟨β',y,g1,w1,es,hst,hs,j',cH,cP⟩|hend
 ·left
  refine⟨y,g1,w1,es,hst,hs,Oq cH cP j'.rw h1 λb b' hb=>h2 b b' (.inl hb),Ot cP,ha.inv hst,okL,gl,R,c,r,β',x0,j',λb b' hb=>?_,λb b' hb=>h2 b b' (by rw[cH.le.ro,cH.le.tok];exact hb),λβ2 y2 uY V w2 q1 q2 q3 q4 q5 q6=>h3 β2 y2 uY V w2 q1 q2 q3 (cH.le.trans q4) (bH cH.size q5) λb b' hb=>(q6 b b' hb).elim (cH.new b b') λz=>.inr (bH cH.size z)⟩
  rcases own cH j'.rw b b' hb with z|z
  ·exact⟨.inl z.1,z.2⟩
  exact⟨.inr z,λe=>by have:=hG b' e;omega⟩
 right
 obtain⟨β',y,y',V,w1,es,hs,hR,hv,eI,cH,cP⟩:=hend c r rfl;obtain⟨v,F,m,q1,q2,q3⟩:=h3 β' y y' V w1 hR hv eI cH.le cH.size cH.new
 refine⟨_,w1,es,v,F,m,hs,Oq cH cP eI h1 λb b' hb=>h2 b b' (.inl hb),Ot cP,q1,λb hb=>?_,q3⟩
 rcases q2 b hb with⟨a,z⟩|z
 ·exact .inl (own cH eI a b z)
 exact .inr z
end
section
variable {α:Type}{r:α->α->Prop}
def Dec(r:α->α->Prop):List α->List α->Prop
 |x::xs,y::ys=>(r x y/\xs=ys)\/(x=y/\Dec r xs ys)
 |_,_=>False
def Yl:Acc (Dec r) []:=⟨_,λy h=>by cases y<;>exact h.elim⟩
def Ym{x:α}(hx:Acc r x):∀{xs:List α},Acc (Dec r) xs->Acc (Dec r) (x::xs):=by
 induction hx with
 |intro x _ ih=>
  intro xs h
  induction h with
  |intro xs oL Yn=>
   refine⟨_,λy hy=>?_⟩
   cases y with
   |nil=>exact hy.elim
   |cons y ys=>
    rcases hy with⟨h1,rfl⟩|⟨rfl,h2⟩
    ·exact ih y h1 ⟨_,oL⟩
    exact Yn ys h2
def IQ:∀{xs:List α},(∀x∈xs,Acc r x)->Acc (Dec r) xs
 |[],_=>Yl
 |x::_,h=>Ym (h x (xJ ..)) (IQ λy hy=>h y (v_ _ hy))
def Ou:∀{xs:List α} {i:Nat} {x y:α},xs[i]?=U x->r y x->Dec r (xs.set i y) xs
 |[],_,_,_,h,_=>by simp at h
 |_::_,0,_,_,h,hr=>by
  simp at h;subst h
  exact .inl ⟨hr,rfl⟩
 |_::_,_+1,_,_,h,hr=>.inr ⟨rfl,Ou (by simpa using h) hr⟩
def Ov(r:α->α->Prop):WellFounded λa b:{ x // Acc r x }=>r a.1 b.1:=by
 refine⟨λ⟨x,hx⟩=>?_⟩
 induction hx with
 |intro x h ih=>exact⟨_,λ⟨y,hy⟩ hr=>ih y hr⟩
abbrev Yo (r:α->α->Prop):Type:=Nat×{ xs:List α // Acc (Dec r) xs }
def Yp(r:α->α->Prop)(a b:Yo r):Prop:=a.1<b.1\/(a.1=b.1/\Dec r a.2.1 b.2.1)
def Yq(r:α->α->Prop):WellFounded (Yp r):=by
 refine Subrelation.wf (r:=(Prod.lex ⟨_,Nat.lt_wfRel.wf⟩ ⟨_,Ov (Dec r)⟩).rel) (λ{a b} h=>?_) (Prod.lex ⟨_,Nat.lt_wfRel.wf⟩ ⟨_,Ov (Dec r)⟩).wf;obtain⟨n,xs⟩:=a;obtain⟨m,ys⟩:=b
 rcases h with h|⟨h,k⟩
 ·exact .left _ _ h
 cases h;exact .right _ k
end
structure Tr(q0 N:Nat)(Shun:Loc->Prop)(A:av)(t:Trace):Prop where
 kn:∀(i:Nat) (x:MemOp) (a:Touch),t[i]?=U x->x.act.touch?=U a->a.loc.isMemory=true->Knows t 0 i\/(Shun a.loc/\a.kind=.atomic)\/(q0<x.g/\x.g<=N)
 ho:∀(i g:Nat),t.g? i=U g->g≠0->t.counts i->(∃j,t.g? j=U 0/\HappensBefore t i j)\/(q0<g/\g<=N)
 nr:∀op∈t,op.act≠.mark (.release A)
def Tr.app{N:Nat}{u:Trace}(h:Tr q0 N Shun A t)(hv:∀op∈u,(op.g=0\/(q0<op.g/\op.g<=N)\/op.act.touch?=J)/\op.act≠.mark (.release A)):Tr q0 N Shun A (t++u):=by
 have hu:∀op∈u,op.g=0\/(q0<op.g/\op.g<=N)\/op.act.touch?=J:=λop ho=>(hv op ho).1
 refine⟨λi x a hx ha hm=>?_,λi g hg h0 hc=>?_,λop hop=>(mL.1 hop).elim (h.nr op) λho=>(hv op ho).2⟩
 ·rcases getElem?_append_cases hx with⟨_,nD⟩|⟨_,nH⟩
  ·exact(h.kn i x a nD ha hm).imp (·.app u) id
  rcases hu x nH with e|e|e
  ·have:=knows_own hx;rw[e]at this;exact .inl this
  ·exact .inr (.inr e)
  rw[e]at ha;cases ha
 have hc':=hc;obtain⟨x,hx,_⟩:=hc';obtain⟨op,hop,wV⟩:=touch_of hx;have hgo:op.g=g:=by simpa[Trace.g?,hop]using hg
 rcases getElem?_append_cases hop with⟨hi,ag6⟩|⟨_,Yr⟩
 ·rcases h.ho i g (by simpa[Trace.g?,getElem?_append_old hi]using hg) h0 ((counts_old hi).1 hc)with⟨j,hj,hb⟩|e
  ·have wW:j<t.size:=by
    unfold Trace.g? at hj;obtain⟨z,hz,_⟩:=jz.1 hj;exact lt_size_of_getElem? hz
   exact .inl ⟨j,by simpa[Trace.g?,getElem?_append_old wW]using hj,hb_app u hb⟩
  exact .inr e
 rcases hu op Yr with e|e|e
 ·rw[hgo]at e;exact absurd e h0
 ·rw[hgo]at e;exact .inr e
 rw[e]at wV;cases wV
def IU(h:e.loc≠.mark (.release A)):MemAct.ofEvent e≠.mark (.release A):=λx=>h (Go.ConcR.loc_of_ofEvent x)
def Tr.events{N:Nat}(h:Tr q0 N Shun A t)(hk:k=0\/(q0<k/\k<=N)\/∀e∈es,e.mute=true)(hn:∀e∈es,e.loc≠.mark (.release A)):Tr q0 N Shun A (t++MemOp.ofEvents k fn pos es):=
 h.app λop hop=>by
  obtain⟨e,he,rfl⟩:=jQ hop;exact⟨hk.imp id (·.imp id λm=>touch_mute (m e he)),IU (hn e he)⟩
def EL(h:e.mute=true):e.loc≠.mark (.release A):=by
 obtain⟨loc,wr,sy⟩:=e;intro x;simp only at x;subst x
 cases h
def Ef.norel{Sh Gr:Nat->Prop}(h:Ef main O Sh Gr w w' es):∀e∈es,e.loc≠.mark (.release A):=by
 intro e he
 rcases h.ev e he with⟨a,wr,rfl,_⟩|⟨a,rfl,_⟩|⟨r,wr,rfl,_⟩|(⟨m,hm,rfl⟩|⟨_,rfl|rfl⟩)|⟨a,wr,rfl,_⟩|⟨a,rfl|rfl,_⟩<;>exact λx=>by cases x<;>cases hm
open Go.ConcN (sumTo upd sumTo_upd upd_ne upd_same)
structure br where
 P:Program
 Shun:Loc->Prop
 Wg:Nat
 c1:Nat
 c2:Nat
 n:Nat
 mW:Nat
 Sh:Nat->Prop
 z1:aj
 z2:aj
 z3:aj
 yr:ah->Prop
 Ai:Nat->aj->Prop
 fN:Nat->aj->(Nat->Prop)->ah->Prop
 Recv:Goroutine->Prop
 iL:aj->Goroutine->Prop
 Sp:Nat->(Nat->Prop)->Goroutine->ah->Prop
 Se:Nat->(Nat->Option aj)->(Nat->Prop)->Goroutine->ah->Prop
 Cl:(Nat->Option aj)->(Nat->Prop)->Goroutine->ah->Prop
variable{p:br}
def br.Gr(p:br)(b:Nat):Prop:=b=p.Wg\/b=p.c1\/b=p.c2
def br.all(p:br)(rv:Nat->Option aj):Prop:=∀i,i<p.n->rv i≠J
def br.eL(p:br)(nx:Nat):Array CommCase:=#[if nx<p.n then scase p.c1 (af I nx) p.z1 else { chan:=.chan J,send:=U (af I nx),zero:=p.z1 },rcase p.c2 p.z2]
def br.Nx(p:br)(nx:Nat)(rv:Nat->Option aj)(O:Nat->Prop)(g:Goroutine)(w:ah):Prop:=(p.all rv/\p.Cl rv O g w)\/(¬p.all rv/\p.Se nx rv O g w)
def br.Ow(p:br)(i:Nat)(O:Nat->Prop)(g:Goroutine)(w:ah):Prop:=∃x,pX p.P p.Sh p.Gr p.fN p.iL i x O g w
abbrev br.gt (p:br) (main:Bool) (S:(Nat->Prop)->Goroutine->World->Prop):=Gt p.P main p.Sh p.Gr S
structure br.Ok(p:br):Prop where
 hold:∀w w',p.yr w->(∀b,p.Sh b->w'.heap[b]?=w.heap[b]?)->w.heap.size<=w'.heap.size->p.yr w'
 res:∀i v F w w',p.fN i v F w->(∀b,F b->w'.heap[b]?=w.heap[b]?)->w.heap.size<=w'.heap.size->p.fN i v F w'
 Ox:∀i v F w,p.fN i v F w->p.Ai i v
 qM:∀g,p.Recv g->g.status=.running/\∀w,stepG p.P false g w=.comm g #[rcase p.c1 p.z1] true (.recv true) w #[]
 yu:∀v g,p.iL v g->g.status=.running/\∀w,stepG p.P false g w=.comm g #[scase p.c2 v p.z3] true .send w #[]
 EM:∀g i O w,p.Recv g->i<p.n->p.yr w->∃m,p.gt false (p.Ow i) m 0 O (Go.Conc.served g (aX #[af I i,aJ true])) w
 EN:∀g v O w,p.iL v g->∃m,p.gt false (λ_ g _=>p.Recv g) m 0 O (Go.Conc.served g undef) w
 Cm:∀j O g w,p.Sp j O g w->g.status=.running/\j<p.mW/\∃g' child,(∀w',stepG p.P true g w'=.spawn g' child w' #[])/\(∀w',p.yr w'->∃m,p.gt false (λ_ g _=>p.Recv g) m 0 (λ_=>False) child w') /\
  ∃m,p.gt true (λO g w=>(j+1<p.mW/\p.Sp (j+1) O g w)\/(j+1=p.mW/\p.Nx 0 (λ_=>J) O g w)) m 0 O g' w
 yv:∀nx rv O g w,p.Se nx rv O g w->g.status=.running/\∀w',stepG p.P true g w'=.comm g (p.eL nx) true .select w' #[]
 yw:∀nx rv O g w w',p.Se nx rv O g w->Rl O p.Sh w w'->p.Se nx rv O g w'
 EO:∀nx rv O g w,p.Se nx rv O g w->nx<p.n->∃m,p.gt true (p.Nx (nx+1) rv) m 0 O (g.finishComm p.P (p.eL nx) .select 0 undef false) w
 EP:∀nx rv O g w i v,p.Se nx rv O g w->i<p.n->rv i=J->p.Ai i v->∃m,p.gt true (p.Nx nx (upd rv i (U v))) m 0 O (g.finishComm p.P (p.eL nx) .select 1 v true) w
 ER:∀rv O g w,p.Cl rv O g w->g.status=.running
 pY:∀b,p.Sh b->¬p.Gr b
 apart:p.Wg≠p.c1/\p.Wg≠p.c2/\p.c1≠p.c2
abbrev br.El (p:br):Type:=Nat×Nat×Option { x:ji // Acc (Stp p.P) x }
def br.lt(p:br)(a b:p.El):Prop:=a.1<b.1\/(a.1=b.1/\(a.2.1<b.2.1\/(a.2.1=b.2.1/\∃x y,a.2.2=U x/\b.2.2=U y/\Stp p.P x.1 y.1)))
def br.Oy(p:br)(a:p.El):Acc p.lt a:=by
 have key:∀k m,∀o:Option { x:ji // Acc (Stp p.P) x },Acc p.lt (k,m,o):=by
  intro k
  induction k using Nat.strongRecOn with
  |_ k Ys=>
   intro m
   induction m using Nat.strongRecOn with
   |_ m Yt=>
    have base:∀o:Option { x:ji // Acc (Stp p.P) x },(∀y:p.El,y.1=k->y.2.1=m->(∃a b,y.2.2=U a/\o=U b/\Stp p.P a.1 b.1)->Acc p.lt y)->Acc p.lt (k,m,o):=by
     intro o ho
     refine⟨_,λy hy=>?_⟩;obtain⟨y1,y2,y3⟩:=y
     rcases hy with h|⟨h,h'|⟨h',ES⟩⟩
     ·exact Ys y1 h y2 y3
     ·simp only at h h';subst h;exact Yt y2 h' y3
     exact ho _ h h' ES
    have yx:∀x:ji,(h:Acc (Stp p.P) x)->Acc p.lt (k,m,U ⟨x,h⟩):=by
     intro x h
     induction h with
     |intro x hx ih=>
      refine base _ λy h1 h2 h3=>?_
      obtain⟨y1,y2,y3⟩:=y;simp only at h1 h2 h3;subst h1 h2;obtain⟨a,b,rfl,hb,hst⟩:=h3
      cases hb
      exact ih a.1 hst
    intro o
    cases o with
    |none=>exact base _ λy _ _ ⟨_,_,_,e,_⟩=>by cases e
    |some x=>exact yx x.1 x.2
 exact key a.1 a.2.1 a.2.2
structure br.WD(p:br)where
 k:Nat
 i:Nat
 m:Nat
 x:Option { x:ji // Acc (Stp p.P) x }
def br.WD.el{p:br}(d:p.WD):p.El:=(match d.k with|2=>4|3=>3|4=>2|5=>1|0=>2|_=>1,d.m,d.x)
def oV(p:br)(who:Nat->Option Nat)(w:ah)(F:Nat->Prop):Prop:=∀b,F b->b<w.heap.size/\(∀k,who b≠U k)/\¬p.Gr b
def br.WS(p:br)(who:Nat->Option Nat)(d:p.WD)(O:Nat->Prop)(g:Goroutine)(w:ah):Prop:=
 match d.k with
 |0=>p.gt false (λ_ g _=>p.Recv g) d.m 0 O g w
 |1=>∃g0,p.Recv g0/\g=parked g0 #[rcase p.c1 p.z1] (.recv true)
 |2=>d.i<p.n/\p.gt false (p.Ow d.i) d.m 0 O g w
 |3=>d.i<p.n/\∃x,d.x=U x/\pX p.P p.Sh p.Gr p.fN p.iL d.i x.1 O g w
 |4=>d.i<p.n/\∃v F,p.fN d.i v F w/\oV p who w F/\p.gt false (λ_ g _=>p.iL v g) d.m 0 O g w
 |5=>d.i<p.n/\∃v F,p.fN d.i v F w/\oV p who w F/\∃g0,p.iL v g0/\g=parked g0 #[scase p.c2 v p.z3] .send
 |_=>False
section
variable {p:br}{who fS:Nat->Option Nat}{w w':ah}{F O:Nat->Prop}{d:p.WD}{g:Goroutine}
def oV.on(h:oV p who w F)(hs:w.heap.size<=w'.heap.size)(hw:∀b,b<w.heap.size->(∀k,who b≠U k)->∀k,fS b≠U k):oV p fS w' F:=
 λb hb=>⟨dK (h b hb).1 hs,hw b (h b hb).1 (h b hb).2.1,(h b hb).2.2⟩
def Cn(O Sh:Nat->Prop)(w:ah)(d:Nat):Rl O Sh w (w.at d):=⟨λ_ _=>rfl,aR _⟩
def br.WS.on(hp:p.Ok)(h:p.WS who d O g w)(hr:Rl O p.Sh w w')(hF:∀b,b<w.heap.size->(∀k,who b≠U k)->¬p.Gr b->w'.heap[b]?=w.heap[b]?)(hw:∀b,b<w.heap.size->(∀k,who b≠U k)->∀k,fS b≠U k):p.WS fS d O g w':=by
 have res:∀{i v F},p.fN i v F w->oV p who w F->p.fN i v F w'/\oV p fS w' F:=λh1 h2=>⟨hp.res _ _ _ _ _ h1 (λb hb=>hF b (h2 b hb).1 (h2 b hb).2.1 (h2 b hb).2.2) hr.size,h2.on hr.size hw⟩
 obtain⟨k,i,m,x⟩:=d;unfold br.WS at h⊢;obtain _|_|_|_|_|_|k:=k
 ·exact Gt.rely h hr
 ·exact h
 ·exact⟨h.1,Gt.rely h.2 hr⟩
 ·obtain⟨h1,x,h2,h3⟩:=h;exact⟨h1,x,h2,h3.rely hr⟩
 ·obtain⟨h1,v,F,h2,h3,h4⟩:=h;exact⟨h1,v,F,(res h2 h3).1,(res h2 h3).2,Gt.rely h4 hr⟩
 ·obtain⟨h1,v,F,h2,h3,h4⟩:=h;exact⟨h1,v,F,(res h2 h3).1,(res h2 h3).2,h4⟩
 exact h.elim
def Yu{g:Goroutine}(h:∀cc∈cs,∀c,cc.chan=.chan (U c)->∃cap buf s r tm,w.heap[c]?=U (.chan cap buf false s r tm)):(parked g cs sh).again w=parked g cs sh:=by
 simp only[Goroutine.again,parked];rw[aF];simp only[Array.any_eq_true,not_exists];intro k hk e;have h1:=h cs[k] (Array.getElem_mem hk)
 split at e
 ·rename_i r hr;obtain⟨cap,buf,s,r',tm,hc⟩:=h1 r hr;rw[hc]at e;simp at e
 cases e
def Aj{a o:Goroutine}(h:o.status=.running\/o.status=.finished\/∃g cs sh,o=parked g cs sh/\∀cc∈cs,∀c,cc.chan=.chan (U c)->∃cap buf s r tm,w.heap[c]?=U (.chan cap buf false s r tm)):woken P a a' w o=o:=by
 unfold woken
 split
 ·rcases h with h|h|⟨g,cs,sh,rfl,h⟩
  ·simp[Goroutine.again,h]
  ·simp[Goroutine.again,h]
  exact Yu h
 rfl
end
def opn(w:ah)(c:Nat):Prop:=∃s,w.heap[c]?=U (.chan 0 #[] false s s false)
structure Sit(p:br)(q0 j nx:Nat)(rv:Nat->Option aj)(wd:Nat->p.WD)(who:Nat->Option Nat)(q:Nat->Nat)(gs:Array Goroutine)(w:ah)(t:Trace):Prop where
 size:gs.size=1+q0+j
 core:Core w t (q0,q0+j) who p.Sh p.Gr
 old:∀k g,0<k->k<=q0->gs[k]?=U g->QuitsD p.P (q k) (Deaf t k) g
 hear:∀k,q0<k->Deaf t k=0
 work:∀a,a<j->∃g,gs[q0+1+a]?=U g/\p.WS who (wd a) (λb=>who b=U (q0+1+a)) g w
 kg:opn w p.c1
 kJ:opn w p.c2
 hold:p.yr w
 tG:nx<=p.n
 o:∀i,i<nx->rv i=J->∃a,a<j/\2<=(wd a).k/\(wd a).i=i
 has:∀a,a<j->2<=(wd a).k->(wd a).i<nx/\rv (wd a).i=J
 inj:∀a b,a<j->b<j->2<=(wd a).k->2<=(wd b).k->(wd a).i=(wd b).i->a=b
 rest:∀i,nx<=i->rv i=J
 IV:∀i v,rv i=U v->∃F,p.fN i v F w/\oV p who w F
section
variable {p:br}{q0 j nx Co:Nat}{rv Cp:Nat->Option aj}{wd qN:Nat->p.WD}{who fS:Nat->Option Nat}{q q':Nat->Nat}{gs gs':Array Goroutine}{w w':ah}{t t':Trace}
def Sit.change(hp:p.Ok)(h:Sit p q0 j nx rv wd who q gs w t)(a:Nat)(hsz:gs'.size=gs.size)(iz:Core w' t' (q0,q0+j) fS p.Sh p.Gr)(hs:w.heap.size<=w'.heap.size)
  (hblk:∀b,b<w.heap.size->(∀k,who b≠U k)->¬p.Gr b->w'.heap[b]?=w.heap[b]?) (lF:∀b,p.Sh b->w'.heap[b]?=w.heap[b]?)
  (uZ:∀b,b<w.heap.size->(∀k,who b≠U k)->∀k,fS b≠U k)
  (hold:∀k g,0<k->k<=q0->gs'[k]?=U g->QuitsD p.P (q' k) (Deaf t' k) g) (hear:∀k,q0<k->Deaf t' k=0)
  (bj:∀b,b<j->b≠a->gs'[q0+1+b]?=gs[q0+1+b]?/\qN b=wd b/\(∀x,who x=U (q0+1+b)->w'.heap[x]?=w.heap[x]?)/\∀x,fS x=U (q0+1+b)↔who x=U (q0+1+b))
  (kI:a<j->∃g,gs'[q0+1+a]?=U g/\p.WS fS (qN a) (λb=>fS b=U (q0+1+a)) g w')
  (Yv:opn w' p.c1) (Yw:opn w' p.c2) (jl:Co<=p.n)
  (hout:∀i,i<Co->Cp i=J->∃a,a<j/\2<=(qN a).k/\(qN a).i=i) (Yx:∀a,a<j->2<=(qN a).k->(qN a).i<Co/\Cp (qN a).i=J)
  (Yy:∀a b,a<j->b<j->2<=(qN a).k->2<=(qN b).k->(qN a).i=(qN b).i->a=b) (Yz:∀i,Co<=i->Cp i=J)
  (YA:∀i v,Cp i=U v->rv i=U v\/∃F,p.fN i v F w'/\oV p fS w' F):Sit p q0 j Co Cp qN fS q' gs' w' t':=by
 refine⟨hsz.trans h.size,iz,hold,hear,λb hb=>?_,Yv,Yw,hp.hold _ _ h.hold lF hs,jl,hout,Yx,Yy,Yz,λi v hv=>?_⟩
 ·by_cases e:b=a
  ·subst e;exact kI hb
  obtain⟨g,h1,h2⟩:=h.work b hb;obtain⟨o1,o2,o3,o4⟩:=bj b hb e
  refine⟨g,o1.trans h1,?_⟩;rw[o2,show (λx=>fS x=U (q0+1+b))=λx=>who x=U (q0+1+b)from funext λx=>propext (o4 x)];exact h2.on hp ⟨λx hx=>hx.elim (o3 x) (lF x),hs⟩ hblk uZ
 rcases YA i v hv with e|e
 ·obtain⟨F,h1,h2⟩:=h.IV i v e;exact⟨F,hp.res _ _ _ _ _ h1 (λb hb=>hblk b (h2 b hb).1 (h2 b hb).2.1 (h2 b hb).2.2) hs,h2.on hs uZ⟩
 exact e
def Sit.calm(hp:p.Ok)(h:Sit p q0 j nx rv wd who q gs w t)(hk:0<k)(hg:gs[k]?=U g)(h1:opn w' p.c1)(h2:opn w' p.c2):g.status=.running\/g.status=.finished\/∃g0 cs sh,g=parked g0 cs sh/\∀cc∈cs,∀c,cc.chan=.chan (U c)->∃cap buf s r tm,w'.heap[c]?=U (.chan cap buf false s r tm):=by
 have Oz:∀{c:Nat},opn w' c->∃cap buf s r tm,w'.heap[c]?=U (.chan cap buf false s r tm):=λ⟨s,e⟩=>⟨_,_,s,s,_,e⟩
 by_cases hq:k<=q0
 ·exact(h.old k g hk hq hg).status.imp id .inl
 have hlt:k<gs.size:=(bD.1 hg).1;obtain⟨a,rfl⟩:∃a,k=q0+1+a:=⟨k-(q0+1),by omega⟩;obtain⟨g',h3,h4⟩:=h.work a (by have:=h.size;omega);rw[hg]at h3
 cases h3
 revert h4
 generalize wd a=d;obtain⟨k,i,m,x⟩:=d;unfold br.WS;obtain _|_|_|_|_|_|k:=k
 ·exact λh=>.inl (Gt.running h λ_ g _ hS=>(hp.qM g hS).1)
 ·rintro⟨g0,_,rfl⟩;exact .inr (.inr ⟨g0,_,_,rfl,λcc hc c e=>by simp at hc;subst hc;cases e;exact Oz h1⟩)
 ·exact λh=>.inl (Gt.running h.2 λ_ g _ ⟨x,hS⟩=>hS.running)
 ·rintro⟨_,x,_,h⟩;exact .inl h.running
 ·rintro⟨_,v,F,_,_,h⟩;exact .inl (Gt.running h λ_ g _ hS=>(hp.yu v g hS).1)
 ·rintro⟨_,v,F,_,_,g0,_,rfl⟩;exact .inr (.inr ⟨g0,_,_,rfl,λcc hc c e=>by simp at hc;subst hc;cases e;exact Oz h2⟩)
 exact λh=>h.elim
def Sit.IW(hp:p.Ok)(h:Sit p q0 j nx rv wd who q gs w t){a a':Goroutine}{k:Nat}(h1:opn w' p.c1)(h2:opn w' p.c2)
  (h0:∀g,gs[0]?=U g->k≠0->g.status=.running\/∃g0 cs sh,g=parked g0 cs sh/\∀cc∈cs,∀c,cc.chan=.chan (U c)->∃cap buf s r tm,w'.heap[c]?=U (.chan cap buf false s r tm)):((gs.map (woken p.P a a' w')).setIfInBounds k a')=gs.setIfInBounds k a':=by
 apply BZ
 intro i
 by_cases e:k=i
 ·subst e
  by_cases hl:k<gs.size
  ·rw[jk (by simpa using hl),jk hl]
  simp[hl]
 rw[dS e,dS e,oJ]
 cases hg:gs[i]? with
 |none=>rfl
 |some g=>
  simp only[rM,gQ]
  rcases kG i with rfl|hi
  ·exact Aj ((h0 g hg e).imp id .inr)
  exact Aj (h.calm hp hi hg h1 h2)
end
def br.Z(p:br)(j nx:Nat)(rv:Nat->Option aj)(O:Nat->Prop)(g:Goroutine)(w:ah):Prop:=(j<p.mW/\p.Sp j O g w)\/(j=p.mW/\p.Nx nx rv O g w)
structure D1(p:br)where
 j:Nat
 nx:Nat
 rv:Nat->Option aj
 wd:Nat->p.WD
 who:Nat->Option Nat
 q:Nat->Nat
 ck:Nat
 cm:Nat
def D1.O0{p:br}(D:D1 p)(b:Nat):Prop:=D.who b=U 0\/b=p.Wg
def kK(p:br)(D:D1 p)(a:Goroutine)(w:ah)(t:Trace):Prop:=
 match D.ck with
 |1=>p.gt true (p.Z D.j D.nx D.rv) D.cm (Deaf t 0) D.O0 a w
 |0=>Deaf t 0=0/\D.j=p.mW/\¬p.all D.rv/\∃g0,p.Se D.nx D.rv D.O0 g0 w/\a=parked g0 (p.eL D.nx) .select/\(∀b,b<D.j->(D.wd b).k≠5)/\(D.nx<p.n->∀b,b<D.j->(D.wd b).k≠1)
 |_=>False
structure bG(w0 w:ah):Prop where
 os:w.os=w0.os
 o:w.output=w0.output
 tape:w.tape=w0.tape
 size:w0.heap.size<=w.heap.size
structure S1(p:br)(q0:Nat)(w0:ah)(D:D1 p)(gs:Array Goroutine)(w:ah)(t:Trace):Prop where
 sit:Sit p q0 D.j D.nx D.rv D.wd D.who D.q gs w t
 jm:D.j<=p.mW
 start:D.j<p.mW->D.nx=0/\∀i,D.rv i=J
 lZ:∃a,gs[0]?=U a/\kK p D a w t
 same:bG w0 w
 tr:Tr q0 (q0+p.mW) p.Shun (Go.ConcR.stA p.Wg) t
def D1.N{p:br}(D:D1 p):Nat:=2*(p.mW-D.j)+2*(p.n-D.nx)+2*sumTo p.n (λi=>if (D.rv i).isNone then 1 else 0)
def D1.Cq{p:br}(q0:Nat)(D:D1 p):List p.El:=(D.ck,D.cm+sumTo (q0+1) D.q,J)::(List.range D.j).map λa=>(D.wd a).el
def D1.less{p:br}(q0:Nat)(D' D:D1 p):Prop:=D'.N<D.N\/(D'.N=D.N/\Dec p.lt (D'.Cq q0) (D.Cq q0))
section
variable {p:br}{q0:Nat}{w0 w w':ah}{D:D1 p}{gs:Array Goroutine}{t:Trace}{sl:Option (Nat×Nat)}
def OA{n:Rg}{Sh Gr:Nat->Prop}(h:Core w t n who Sh Gr):Core (w.at d) t n who Sh Gr:=⟨h.tk,h.seen,h.lt,h.fF,h.lY,h.lD,h.jE,h.rR⟩
def S1.tH(hp:p.Ok)(h:S1 p q0 w0 D gs w t)(d:Nat):S1 p q0 w0 D gs (w.at d) t:=by
 refine⟨h.sit.change hp D.j rfl (OA h.sit.core) (aR _) (λ_ _ _ _=>rfl) (λ_ _=>rfl) (λ_ _ x=>x) h.sit.old h.sit.hear (λb hb _=>⟨rfl,rfl,λ_ _=>rfl,λ_=>lB⟩) (λx=>absurd x (rL _)) h.sit.kg h.sit.kJ h.sit.tG h.sit.o h.sit.has h.sit.inj h.sit.rest λi v hv=>.inl hv,h.jm,h.start,?_,⟨h.same.os,h.same.o,h.same.tape,h.same.size⟩,h.tr⟩;obtain⟨a,h1,h2⟩:=h.lZ
 refine⟨a,h1,?_⟩;unfold kK at h2⊢
 split at h2
 ·exact Gt.rely h2 (Cn ..)
 ·obtain⟨x1,x2,x3,g0,x4,x5⟩:=h2;exact⟨x1,x2,x3,g0,hp.yw _ _ _ _ _ _ x4 (Cn ..),x5⟩
 exact h2.elim
def OB{wd:Nat->p.WD}{d:p.WD}{e:p.El}(ha:a<j)(h:p.lt d.el (wd a).el):Dec p.lt (e::(List.range j).map λb=>(upd wd a d b).el) (e::(List.range j).map λb=>(wd b).el):=by
 refine .inr ⟨rfl,?_⟩;have:((List.range j).map λb=>(upd wd a d b).el)=((List.range j).map λb=>(wd b).el).set a d.el:=by
  apply List.ext_getElem?
  intro i
  by_cases hi:a=i
  ·subst hi;simp[ha,upd_same]
  rw[List.getElem?_set_ne hi];simp only[iT]
  cases hr:(List.range j)[i]? with
  |none=>rfl
  |some x=>
   have hx:x=i:=by
    obtain⟨hl,hx⟩:=eK.1 hr;simpa using hx.symm
   subst hx;simp[upd_ne wd d (ey hi)]
 rw[this];exact Ou (x:=(wd a).el) (by simp[ha]) h
def IX{Sh Gr:Nat->Prop}(h:bG w0 w)(e:Ef main O Sh Gr w w' es):bG w0 w':=⟨e.os.trans h.os,e.o.trans h.o,e.tape.trans h.tape,bH h.size e.size⟩
def kK.on(hp:p.Ok){a:Goroutine}{t':Trace}{D':D1 p}(h:kK p D a w t)(hr:Rl D.O0 p.Sh w w')(hd:Deaf t' 0=Deaf t 0)(h1:D'.ck=D.ck)(h2:D'.cm=D.cm)(h3:D'.j=D.j)(h4:D'.nx=D.nx)(h5:D'.rv=D.rv)(h6:∀b,D'.O0 b↔D.O0 b)
  (h7:D.ck=0->(∀b,b<D.j->(D.wd b).k≠5)->(D.nx<p.n->∀b,b<D.j->(D.wd b).k≠1)->(∀b,b<D.j->(D'.wd b).k≠5)/\(D.nx<p.n->∀b,b<D.j->(D'.wd b).k≠1)):kK p D' a w' t':=by
 have e6:D'.O0=D.O0:=funext λb=>propext (h6 b)
 unfold kK at h⊢;rw[h1]
 split at h
 ·rw[h2,h3,h4,h5,e6,hd];exact Gt.rely h hr
 ·rename_i e;obtain⟨x1,x2,x3,g0,x4,x5,x6,x7⟩:=h;obtain⟨y1,y2⟩:=h7 e x6 x7;rw[h3,h4,h5,e6,hd];exact⟨x1,x2,x3,g0,hp.yw _ _ _ _ _ _ x4 hr,x5,y1,y2⟩
 exact h.elim
def S1.IY(hp:p.Ok)(h:S1 p q0 w0 D gs w t){a:Goroutine}(ha:gs[0]?=U a)(o1:opn w' p.c1)(o2:opn w' p.c2):a.status=.running\/∃g0 cs sh,a=parked g0 cs sh/\∀cc∈cs,∀c,cc.chan=.chan (U c)->∃cap buf s r tm,w'.heap[c]?=U (.chan cap buf false s r tm):=by
 obtain⟨a',ha',bQ⟩:=h.lZ;rw[ha]at ha';cases ha';unfold kK at bQ
 split at bQ
 ·refine .inl (Gt.running bQ ?_);rintro O g w (⟨_,hS⟩|⟨_,⟨_,hS⟩|⟨_,hS⟩⟩)
  ·exact(hp.Cm _ _ _ _ hS).1
  ·exact hp.ER _ _ _ _ hS
  exact(hp.yv _ _ _ _ _ hS).1
 ·obtain⟨_,_,_,g0,_,rfl,_⟩:=bQ
  refine .inr ⟨g0,_,_,rfl,λcc hc c e=>?_⟩;obtain⟨s1,e1⟩:=o1;obtain⟨s2,e2⟩:=o2;simp only[br.eL,n7,fu,ik,iI]at hc
  rcases hc with rfl|rfl
  ·split at e
   ·cases e;exact⟨_,_,_,_,_,e1⟩
   cases e
  cases e;exact⟨_,_,_,_,_,e2⟩
 exact bQ.elim
def S1.leave(hp:p.Ok)(h:S1 p q0 w0 D gs w t)(hk:0<k)(hq:k<=q0)(hg:gs[k]?=U g)(hr:g.status=.running):∃D' gs' w' ops,runT p.P (crowd gs w sl) k=(.next (crowd gs' w' sl),ops)/\S1 p q0 w0 D' gs' w' (t++ops)/\D'.less q0 D:=by
 have hQ:=h.sit.old k g hk hq hg;obtain⟨a,ha,bQ⟩:=h.lZ;have df:(k==0)=false:=by simp;omega
 have hlt:k<gs.size:=(bD.1 hg).1
 cases rS:D.q k with
 |zero=>rw[rS]at hQ;rw[hQ.1]at hr;cases hr
 |succ m=>
  rw[rS]at hQ
  rcases hQ with⟨hf,_⟩|⟨_,g',es,hm,hst,hQ'⟩
  ·rw[hf]at hr;cases hr
  have dQ:∀x,x≠k->Deaf (t++MemOp.ofEvents k g.frame.fn g.frame.place es) x=Deaf t x:=λx hx=>Deaf_other t (ey hx) _ λop hop=>by obtain⟨e,_,rfl⟩:=jQ hop;rfl
  have yz:(gs.map (woken p.P g g' w)).setIfInBounds k g'=gs.setIfInBounds k g':=h.sit.IW hp h.sit.kg h.sit.kJ λx hx _=>h.IY hp hx h.sit.kg h.sit.kJ
  have hrun:=runT_crowd_go (P:=p.P) (sl:=sl) (i:=k) hg (by rw[df];exact hst w);rw[yz]at hrun;have iz:Core w (t++MemOp.ofEvents k g.frame.fn g.frame.place es) (q0,q0+D.j) D.who p.Sh p.Gr:=by
   refine⟨λsaid=>(h.sit.core.tk said).app h.sit.core.fF h.sit.core.lY (.inr (ym (P:=λop=>op.act.touch?=J) λe he=>touch_mute (hm e he))) (ym λe he=>⟨rfl,λx hx=>by rw[touch_mute (hm e he)]at hx;cases hx⟩),λop hop=>?_,h.sit.core.lt,h.sit.core.fF,h.sit.core.lY,h.sit.core.lD,h.sit.core.jE,h.sit.core.rR⟩
   rcases mL.1 hop with x|x
   ·exact h.sit.core.seen op x
   obtain⟨e,he,rfl⟩:=jQ x;exact low_mute (hm e he) _
  refine⟨{ D with q:=upd D.q k m },_,w,_,hrun,⟨?_,h.jm,h.start,⟨a,?_,?_⟩,h.same,h.tr.events (.inr (.inr hm)) λe he=>EL (hm e he)⟩,.inr ⟨rfl,.inl ⟨.inr ⟨rfl,.inl ?_⟩,rfl⟩⟩⟩
  ·refine h.sit.change hp D.j (by simp) iz (aR _) (λ_ _ _ _=>rfl) (λ_ _=>rfl) (λ_ _ x=>x) (λx y hx u_ hy=>?_) (λx hx=>?_) (λb hb _=>⟨?_,rfl,λ_ _=>rfl,λ_=>lB⟩) (λx=>absurd x (rL _)) h.sit.kg h.sit.kJ h.sit.tG h.sit.o h.sit.has h.sit.inj h.sit.rest λi v hv=>.inl hv
   ·by_cases e:k=x
    ·subst e;rw[jk hlt]at hy
     cases hy
     simp only[upd_same];rw[Deaf_own];exact hQ'
    rw[dS e]at hy;simp only[upd_ne D.q m (ey e)];rw[dQ x (ey e)];exact h.sit.old x y hx u_ hy
   ·rw[dQ x (by omega)];exact h.sit.hear x hx
   rw[dS (by omega)]
  ·rw[dS (by omega)];exact ha
  ·exact kK.on hp bQ (.refl ..) (dQ 0 (by omega)) rfl rfl rfl rfl rfl (λ_=>lB) λ_ x y=>⟨x,y⟩
  have:sumTo (q0+1) (upd D.q k m)+D.q k=sumTo (q0+1) D.q+m:=sumTo_upd D.q m id (show k<q0+1 by omega);rw[rS]at this;show D.cm+sumTo (q0+1) (upd D.q k m)<D.cm+sumTo (q0+1) D.q
  omega
end
def gone(who:Nat->Option Nat)(k b:Nat):Option Nat:=if who b=U k then J else who b
def Core.ret{n:Rg}{Sh Gr:Nat->Prop}(h:Core w t n who Sh Gr):Core w t n (gone who k) Sh Gr:=by
 have key:∀b x,gone who k b=U x->who b=U x:=λb x e=>by
  unfold gone at e
  split at e
  ·cases e
  exact e
 exact⟨λsaid=>⟨(h.tk said).clean,λl b g hl hb=>(h.tk said).own l b g hl (key b g hb),(h.tk said).read,(h.tk said).td⟩,h.seen,λb x hb=>h.lt b x (key b x hb),λb ⟨x,hx⟩=>h.fF b ⟨x,key b x hx⟩,h.lY,h.lD,h.jE,λb x hb=>h.rR b x (key b x hb)⟩
section
variable {p:br}{q0:Nat}{w0 w w':ah}{D:D1 p}{gs:Array Goroutine}{t:Trace}{sl:Option (Nat×Nat)}
def Ak(h:opn w c)(e:w'.heap[c]?=w.heap[c]?):opn w' c:=by
 obtain⟨s,x⟩:=h;exact⟨s,e.trans x⟩
def S1.IZ(hp:p.Ok)(h:S1 p q0 w0 D gs w t){d:p.WD}{fS:Nat->Option Nat}(ha:a<D.j)(hg:gs[q0+1+a]?=U g)(hst:stepG p.P false g w=.go g' w' es)
  (he:Ef false (λb=>D.who b=U (q0+1+a)) p.Sh p.Gr w w' es) (hw:fS=grow D.who (q0+1+a) w w'\/fS=gone (grow D.who (q0+1+a) w w') (q0+1+a))
  (hd:p.WS fS d (λb=>fS b=U (q0+1+a)) g' w') (hk:d.k≠5/\d.k≠1) (hn:2<=d.k↔2<=(D.wd a).k) (hi:2<=d.k->d.i=(D.wd a).i) (hlt:p.lt d.el (D.wd a).el):∃D' gs' w' ops,runT p.P (crowd gs w sl) (q0+1+a)=(.next (crowd gs' w' sl),ops)/\S1 p q0 w0 D' gs' w' (t++ops)/\D'.less q0 D:=by
 have hO:∀b,D.who b=U (q0+1+a)->D.who b=U (q0+1+a)\/p.Gr b:=λ_ x=>.inl x
 have hC:=h.sit.core;have iz:Core w' (t++MemOp.ofEvents (q0+1+a) g.frame.fn g.frame.place es) (q0,q0+D.j) fS p.Sh p.Gr:=by
  have:=hC.own (fn:=g.frame.fn) (pos:=g.frame.place) (k:=q0+1+a) (.inr ⟨by show q0<_;omega,by show _<=q0+D.j;omega⟩) (by simp) he hO
  rcases hw with rfl|rfl
  ·exact this
  exact this.ret
 have hwx:∀x,x≠q0+1+a->∀b,fS b=U x↔D.who b=U x:=λx hx b=>by
  have h1:=(hC.others he hO (j:=x) hx).2 b
  rcases hw with rfl|rfl
  ·exact h1
  rw[<- h1];unfold gone
  split
  ·rename_i e;rw[e];exact⟨(λy=>by cases y),λy=>absurd (b_ y).symm hx⟩
  exact lB
 have hno:∀b,b<w.heap.size->(∀k,D.who b≠U k)->∀k,fS b≠U k:=λb hb eW k e=>by
  have gS:grow D.who (q0+1+a) w w' b=D.who b:=by unfold grow;rw[aF (by omega)]
  rcases hw with rfl|rfl
  ·rw[gS]at e;exact eW k e
  unfold gone at e
  split at e
  ·cases e
  rw[gS]at e;exact eW k e
 have hgr:∀b,p.Gr b->w'.heap[b]?=w.heap[b]?:=λb hb=>he.frame b (hC.jE b hb) λe=>(hC.fF b ⟨_,e⟩).2 hb
 have o1:opn w' p.c1:=Ak h.sit.kg (hgr _ (.inr (.inl rfl)));have o2:opn w' p.c2:=Ak h.sit.kJ (hgr _ (.inr (.inr rfl)));have dQ:∀x,Deaf (t++MemOp.ofEvents (q0+1+a) g.frame.fn g.frame.place es) x=Deaf t x:=λx=>by
  by_cases hx:x=q0+1+a
  ·subst hx;rw[Deaf_own];exact he.hears _
  exact Deaf_other t (ey hx) _ λop hop=>by obtain⟨e,_,rfl⟩:=jQ hop;rfl
 have iu:q0+1+a<gs.size:=(bD.1 hg).1;have hrun:=runT_crowd_go (P:=p.P) (sl:=sl) (i:=q0+1+a) hg (by rw[show (q0+1+a==0)=false by simp];exact hst);rw[h.sit.IW hp o1 o2 λx hx _=>h.IY hp hx o1 o2]at hrun;obtain⟨ca,vd,bQ⟩:=h.lZ
 refine⟨{ D with wd:=upd D.wd a d,who:=fS },_,w',_,hrun,⟨?_,h.jm,h.start,⟨ca,?_,?_⟩,IX h.same he,h.tr.events (.inr (.inl ⟨by omega,by have:=h.jm;omega⟩)) he.norel⟩,.inr ⟨rfl,OB ha hlt⟩⟩
 ·have mP:∀b,(2<=(upd D.wd a d b).k↔2<=(D.wd b).k)/\(2<=(upd D.wd a d b).k->(upd D.wd a d b).i=(D.wd b).i):=λb=>by
   by_cases e:b=a
   ·subst e;rw[upd_same];exact⟨hn,hi⟩
   rw[upd_ne D.wd d e];exact⟨lB,λ_=>rfl⟩
  refine h.sit.change hp a (by simp) iz he.size (λb hb eW _=>he.frame b hb (eW _)) (λb hb=>he.frame b (hC.lD b hb) λe=>(hC.fF b ⟨_,e⟩).1 hb) hno (λx y hx u_ hy=>?_) (λx hx=>?_) (λb hb eE=>⟨?_,upd_ne D.wd d eE,λx hx=>he.frame x (hC.lt x _ hx) ?_,hwx _ (by omega)⟩) (λ_=>⟨g',?_,?_⟩) o1 o2 h.sit.tG ?_ ?_ ?_ h.sit.rest λi v hv=>.inl hv
  ·rw[dS (by omega)]at hy;rw[dQ];exact h.sit.old x y hx u_ hy
  ·rw[dQ];exact h.sit.hear x hx
  ·rw[dS (by omega)]
  ·intro e;rw[hx]at e;have:=b_ e;omega
  ·exact jk iu
  ·show p.WS fS (upd D.wd a d a) (λb=>fS b=U (q0+1+a)) g' w'
   rw[upd_same];exact hd
  ·intro i I0 nK;obtain⟨b,b1,b2,b3⟩:=h.sit.o i I0 nK;have:=mP b;exact⟨b,b1,this.1.2 b2,(this.2 (this.1.2 b2)).trans b3⟩
  ·intro b hb hb2;have:=mP b;rw[this.2 hb2];exact h.sit.has b hb (this.1.1 hb2)
  intro b c hb hc hb2 hc2 e;rw[(mP b).2 hb2,(mP c).2 hc2]at e;exact h.sit.inj b c hb hc ((mP b).1.1 hb2) ((mP c).1.1 hc2) e
 ·rw[dS (by omega)];exact vd
 refine kK.on hp bQ ⟨λb hb=>?_,he.size⟩ (dQ 0) rfl rfl rfl rfl rfl (λb=>?_) λ_ x y=>⟨λb hb=>?_,λjl b hb=>?_⟩
 ·rcases hb with(hb|rfl)|hb
  ·exact he.frame b (hC.lt b _ hb) λe=>by rw[hb]at e;have:=b_ e;omega
  ·exact hgr _ (.inl rfl)
  exact he.frame b (hC.lD b hb) λe=>(hC.fF b ⟨_,e⟩).1 hb
 ·show (fS b=U 0\/b=p.Wg)↔(D.who b=U 0\/b=p.Wg)
  rw[hwx 0 (by omega)]
 ·show (upd D.wd a d b).k≠5
  by_cases e:b=a
  ·subst e;rw[upd_same];exact hk.1
  rw[upd_ne D.wd d e];exact x b hb
 show (upd D.wd a d b).k≠1
 by_cases e:b=a
 ·subst e;rw[upd_same];exact hk.2
 rw[upd_ne D.wd d e];exact y jl b hb
end
section
variable {p:br}{q0:Nat}{w0 w w':ah}{D:D1 p}{gs:Array Goroutine}{t:Trace}{sl:Option (Nat×Nat)}
def S1.YB(hp:p.Ok)(h:S1 p q0 w0 D gs w t){a:Goroutine}{m:Nat}(hg:gs[0]?=U a)(jA:D.ck=1)(hst:stepG p.P true a w=.go a' w' es)(he:Ef true D.O0 p.Sh p.Gr w w' es)
  (hG:p.gt true (p.Z D.j D.nx D.rv) m (deafBehind (Deaf t 0) es) (λb=>D.O0 b\/(w.heap.size<=b/\b<w'.heap.size)) a' w') (hm:D.cm=m+1):∃D' gs' w' ops,runT p.P (crowd gs w sl) 0=(.next (crowd gs' w' sl),ops)/\S1 p q0 w0 D' gs' w' (t++ops)/\D'.less q0 D:=by
 have hO:∀b,D.O0 b->D.who b=U 0\/p.Gr b:=λb x=>x.imp id .inl
 have hC:=h.sit.core;have hgr:∀b,b=p.c1\/b=p.c2->w'.heap[b]?=w.heap[b]?:=λb hb=>he.frame b (hC.jE b (.inr hb)) λe=>by
  rcases e with e|e
  ·exact(hC.fF b ⟨_,e⟩).2 (.inr hb)
  rcases hb with hb|hb
  ·exact hp.apart.1 (e.symm.trans hb)
  exact hp.apart.2.1 (e.symm.trans hb)
 have o1:opn w' p.c1:=Ak h.sit.kg (hgr _ (.inl rfl));have o2:opn w' p.c2:=Ak h.sit.kJ (hgr _ (.inr rfl));have iz:=hC.own (fn:=a.frame.fn) (pos:=a.frame.place) (k:=0) (.inl rfl) (λ_=>rfl) he hO;have hwx:∀x,x≠0->∀b,grow D.who 0 w w' b=U x↔D.who b=U x:=λx hx b=>(hC.others he hO (j:=x) hx).2 b
 have dQ:∀x,x≠0->Deaf (t++MemOp.ofEvents 0 a.frame.fn a.frame.place es) x=Deaf t x:=λx hx=>Deaf_other t (ey hx) _ λop hop=>by obtain⟨e,_,rfl⟩:=jQ hop;rfl
 have iu:0<gs.size:=(bD.1 hg).1;have hrun:=runT_crowd_go (P:=p.P) (sl:=sl) (i:=0) hg (show stepG p.P (0==0) a w=_ from hst);rw[h.sit.IW hp o1 o2 λx _ hx=>absurd rfl hx]at hrun
 refine⟨{ D with who:=grow D.who 0 w w',cm:=m },_,w',_,hrun,⟨?_,h.jm,h.start,⟨a',jk iu,?_⟩,IX h.same he,h.tr.events (.inl rfl) he.norel⟩,.inr ⟨rfl,.inl ⟨.inr ⟨rfl,.inl ?_⟩,rfl⟩⟩⟩
 ·refine h.sit.change hp D.j (by simp) iz he.size (λb hb eW hbg=>he.frame b hb λe=>?_) (λb hb=>he.frame b (hC.lD b hb) λe=>?_) (λb hb eW k e=>?_) (λx y hx u_ hy=>?_) (λx hx=>?_) (λb hb _=>⟨?_,rfl,λx hx=>he.frame x (hC.lt x _ hx) λe=>?_,hwx _ (by omega)⟩) (λx=>absurd x (rL _)) o1 o2 h.sit.tG h.sit.o h.sit.has h.sit.inj h.sit.rest λi v hv=>.inl hv
  ·rcases e with e|e
   ·exact eW _ e
   exact hbg (.inl e)
  ·rcases e with e|e
   ·exact(hC.fF b ⟨_,e⟩).1 hb
   exact hp.pY b hb (.inl e)
  ·have e':grow D.who 0 w w' b=U k:=e;unfold grow at e';rw[aF (by omega)]at e';exact eW k e'
  ·rw[dS (by omega)]at hy;rw[dQ x (by omega)];exact h.sit.old x y hx u_ hy
  ·rw[dQ x (by omega)];exact h.sit.hear x hx
  ·rw[dS (by omega)]
  rcases e with e|e
  ·rw[hx]at e;have:=b_ e;omega
  exact(hC.fF x ⟨_,hx⟩).2 (.inl e)
 ·unfold kK;rw[show ({ D with who:=grow D.who 0 w w',cm:=m }:D1 p).ck=1 from jA];show p.gt true (p.Z D.j D.nx D.rv) m (Deaf (t++MemOp.ofEvents 0 a.frame.fn a.frame.place es) 0) _ a' w'
  rw[Deaf_own]
  refine Gt.congr (λb=>?_) hG;show (D.who b=U 0\/b=p.Wg)\/(w.heap.size<=b/\b<w'.heap.size)↔grow D.who 0 w w' b=U 0\/b=p.Wg
  unfold grow
  split
  ·rename_i hc;exact⟨λ_=>.inl rfl,λ_=>.inr hc⟩
  rename_i hc;exact⟨λx=>x.elim id λy=>absurd y hc,.inl⟩
 show m+sumTo (q0+1) D.q<D.cm+sumTo (q0+1) D.q
 omega
def S1.spawn(hp:p.Ok)(h:S1 p q0 w0 D gs w t){a child:Goroutine}{m mc:Nat}(hg:gs[0]?=U a)(dP:Deaf t 0=0)(hj:D.j<p.mW)(jA:D.ck=1)(hst:stepG p.P true a w=.spawn a' child w #[])
  (hch:p.gt false (λ_ g _=>p.Recv g) mc 0 (λ_=>False) child w) (hG:p.gt true (p.Z (D.j+1) 0 λ_=>J) m 0 D.O0 a' w):∃D' gs' w' ops,runT p.P (crowd gs w sl) 0=(.next (crowd gs' w' sl),ops)/\S1 p q0 w0 D' gs' w' (t++ops)/\D'.less q0 D:=by
 have hC:=h.sit.core;obtain⟨jl,oW⟩:=h.start hj;have YC:D.rv=λ_=>J:=funext oW
 have iu:0<gs.size:=(bD.1 hg).1;have hrun:=runT_crowd_spawn (P:=p.P) (sl:=sl) (i:=0) hg (show stepG p.P (0==0) a w=_ from hst);have hsz:=h.sit.size;have I1:((MemOp.ofEvents 0 a.frame.fn a.frame.place #[]).push { g:=0,fn:=a.frame.fn,pos:=a.frame.place,act:=.go gs.size } |>.push { g:=gs.size,fn:=child.frame.fn,pos:=a.frame.place,act:=.start }) =
   #[{ g:=0,fn:=a.frame.fn,pos:=a.frame.place,act:=.go (q0+D.j+1) },{ g:=q0+D.j+1,fn:=child.frame.fn,pos:=a.frame.place,act:=.start }]:=by
  rw[show gs.size=q0+D.j+1 by omega];simp[ofEvents_eq]
 rw[I1]at hrun;generalize hx0:({ g:=0,fn:=a.frame.fn,pos:=a.frame.place,act:=.go (q0+D.j+1) }:MemOp)=x0 at hrun;generalize hx1:({ g:=q0+D.j+1,fn:=child.frame.fn,pos:=a.frame.place,act:=.start }:MemOp)=x1 at hrun;have a0:x0.g=0/\x0.act=.go (q0+D.j+1):=by subst hx0;exact⟨rfl,rfl⟩
 have a1:x1.g=q0+D.j+1/\x1.act=.start:=by subst hx1;exact⟨rfl,rfl⟩
 have dQ:∀x,Deaf (t++#[x0,x1]) x=Deaf t x:=λx=>by
  rw[show #[x0,x1]=[x0,x1].toArray from rfl,Deaf_append];simp[deafStep,a0.2,a1.2]
 have iz:Core w (t++#[x0,x1]) (q0,q0+(D.j+1)) D.who p.Sh p.Gr:=by
  refine⟨λsaid=>(h.sit.core.tk said).fork a0 a1 dP (h.sit.hear _ (by omega)),λop hop=>?_,hC.lt,hC.fF,hC.lY,hC.lD,hC.jE,λb k hb=>by have h:k<=q0+D.j:=hC.rR b k hb;show k<=q0+(D.j+1);omega⟩
  rcases mL.1 hop with x|x
  ·exact hC.seen op x
  simp only[n7,fu,ik,iI]at x
  rcases x with rfl|rfl
  ·rw[a0.2];trivial
  rw[a1.2];trivial
 have old:∀k,k<gs.size->k≠0->((gs.setIfInBounds 0 a').push child)[k]?=gs[k]?:=λk hk h0=>by
  rw[Array.getElem?_push_lt (by simpa using hk),<- eB,dS (ey h0)]
 let d:p.WD:=⟨0,0,mc,J⟩
 refine⟨{ D with j:=D.j+1,wd:=upd D.wd D.j d,cm:=m },_,w,_,hrun,⟨⟨?_,iz,λk g hk hq wX=>?_,λk hk=>?_,λb hb=>?_,h.sit.kg,h.sit.kJ,h.sit.hold,h.sit.tG,?_,?_,?_,h.sit.rest,h.sit.IV⟩,hj,λ_=>⟨jl,oW⟩,⟨a',?_,?_⟩,h.same,h.tr.app λop hop=>?_⟩,.inl ?_⟩
 ·simp;omega
 ·rw[old k (by omega) (by omega)]at wX;rw[dQ];exact h.sit.old k g hk hq wX
 ·rw[dQ];exact h.sit.hear k hk
 ·by_cases e:b=D.j
  ·subst e
   refine⟨child,?_,?_⟩
   ·rw[show q0+1+D.j=(gs.setIfInBounds 0 a').size by simp;omega];exact Array.getElem?_push_size
   show p.WS D.who (upd D.wd D.j d D.j) _ child w
   rw[upd_same]
   refine Gt.congr (λx=>⟨False.elim,λe=>?_⟩) hch;have h:_<=q0+D.j:=hC.rR x _ e;omega
  have hb':b<D.j+1:=hb;obtain⟨g,h1,h2⟩:=h.sit.work b (by omega)
  refine⟨g,by rw[old _ (by omega) (by omega)];exact h1,?_⟩;show p.WS D.who (upd D.wd D.j d b) _ g w
  rw[upd_ne D.wd d e];exact h2
 ·intro i hi;rw[show ({ D with j:=D.j+1,wd:=upd D.wd D.j d,cm:=m }:D1 p).nx=0 from jl]at hi;omega
 ·intro b hb hb2;exfalso
  have hb':b<D.j+1:=hb
  by_cases e:b=D.j
  ·subst e;rw[show ({ D with j:=D.j+1,wd:=upd D.wd D.j d,cm:=m }:D1 p).wd D.j=d from upd_same ..]at hb2;exact absurd hb2 (by simp[d])
  rw[show ({ D with j:=D.j+1,wd:=upd D.wd D.j d,cm:=m }:D1 p).wd b=D.wd b from upd_ne D.wd d e]at hb2;have:=(h.sit.has b (by omega) hb2).1;omega
 ·intro b c hb hc hb2;exfalso
  have hb':b<D.j+1:=hb
  by_cases e:b=D.j
  ·subst e;rw[show ({ D with j:=D.j+1,wd:=upd D.wd D.j d,cm:=m }:D1 p).wd D.j=d from upd_same ..]at hb2;exact absurd hb2 (by simp[d])
  rw[show ({ D with j:=D.j+1,wd:=upd D.wd D.j d,cm:=m }:D1 p).wd b=D.wd b from upd_ne D.wd d e]at hb2;have:=(h.sit.has b (by omega) hb2).1;omega
 ·rw[Array.getElem?_push_lt (by simpa using iu),<- eB];exact jk iu
 ·unfold kK;rw[show ({ D with j:=D.j+1,wd:=upd D.wd D.j d,cm:=m }:D1 p).ck=1 from jA];show p.gt true (p.Z (D.j+1) D.nx D.rv) m (Deaf (t++#[x0,x1]) 0) D.O0 a' w
  rw[dQ,dP,jl,YC];exact hG
 ·simp only[n7,fu,ik,iI]at hop
  rcases hop with rfl|rfl
  ·exact⟨.inl a0.1,by rw[a0.2];simp⟩
  exact⟨.inr (.inl (by rw[a1.1];exact⟨by omega,by omega⟩)),by rw[a1.2];simp⟩
 unfold D1.N;simp only;omega
end
section
variable {p:br}{q0:Nat}{w0 w w':ah}{D:D1 p}{gs gs':Array Goroutine}{t:Trace}{sl:Option (Nat×Nat)}
def OC(h:b≠c):((w.at d).setChan c cap buf cl s r tm).heap[b]?=w.heap[b]?:=by
 simp only[World.setChan,World.at];rw[dS (ey h)]
def setChan_at(h:c<w.heap.size):((w.at d).setChan c cap buf cl s r tm).heap[c]?=U (.chan cap buf cl s r tm):=by
 simp only[World.setChan,World.at];exact jk h
def wY:((w.at d).setChan c cap buf cl s r tm).heap.size=w.heap.size:=by simp[World.setChan,World.at]
def OD{x:Nat}(h0:x0.g=k/\x0.act=.send c s)(h1:x1.g=j/\x1.act=.recv c s cap)(h2:x2.g=k/\x2.act=.sendDone c s)(h3:x3.g=j/\x3.act=.recvDone c s):Deaf (t++#[x0,x1,x2,x3]) x=Deaf t x:=by
 rw[show #[x0,x1,x2,x3]=[x0,x1,x2,x3].toArray from rfl,Deaf_append];simp[deafStep,h0.2,h1.2,h2.2,h3.2]
def OE{n:Rg}{d:Nat}{Sh Gr:Nat->Prop}(h:Core w t n who Sh Gr)(hc:Gr c)(h0:x0.g=k/\x0.act=.send c s)(h1:x1.g=j/\x1.act=.recv c s cap)(h2:x2.g=k/\x2.act=.sendDone c s)(h3:x3.g=j/\x3.act=.recvDone c s)
  (dk:Deaf t k=0) (dj:Deaf t j=0) {cap' s' r':Nat} {buf:Array aj} {cl tm:Bool}:Core ((w.at d).setChan c cap' buf cl s' r' tm) (t++#[x0,x1,x2,x3]) n who Sh Gr:=by
 have kh:=h.jE c hc
 refine⟨λsaid=>(h.tk said).meet h0 h1 h2 h3 dk dj λ_=>.inl rfl,λop hop=>?_,λb k hb=>by rw[wY];exact h.lt b k hb,h.fF,h.lY,λb hb=>by rw[wY];exact h.lD b hb,λb hb=>by rw[wY];exact h.jE b hb,h.rR⟩;rw[wY]
 rcases mL.1 hop with x|x
 ·exact h.seen op x
 simp only[n7,fu,ik,iI]at x
 rcases x with rfl|rfl|rfl|rfl
 ·rw[h0.2];exact kh
 ·rw[h1.2];exact kh
 ·rw[h2.2];exact kh
 rw[h3.2];exact kh
def YD{rv:Nat->Option aj}{v:aj}(hi:i<n)(h:rv i=J):sumTo n (λx=>if (upd rv i (U v) x).isNone then 1 else 0)+1=sumTo n (λx=>if (rv x).isNone then 1 else 0):=by
 have:=sumTo_upd rv (U v) (λo=>if o.isNone then 1 else 0) hi;simp only[h]at this;simpa using this
def S1.OG(hp:p.Ok)(h:S1 p q0 w0 D gs w t){g0:Goroutine}{s d:Nat}{x0 x1 x2 x3:MemOp}(ha:a<D.j)(hj:D.j=p.mW)(dP:Deaf t 0=0)(jl:D.nx<p.n)(nL:p.Se D.nx D.rv D.O0 gc w)(I2:(D.wd a).k<2)(oW:p.Recv g0)
  (hsz:gs'.size=gs.size) (hg0:gs'[0]?=U (gc.finishComm p.P (p.eL D.nx) .select 0 undef false)) (Cg:gs'[q0+1+a]?=U (Go.Conc.served g0 (aX #[af I D.nx,aJ true])))
  (hgo:∀k,k≠0->k≠q0+1+a->gs'[k]?=gs[k]?) (h0:x0.g=0/\x0.act=.send p.c1 s) (h1:x1.g=q0+1+a/\x1.act=.recv p.c1 s 0) (h2:x2.g=0/\x2.act=.sendDone p.c1 s) (h3:x3.g=q0+1+a/\x3.act=.recvDone p.c1 s):∃D',S1 p q0 w0 D' gs' ((w.at d).setChan p.c1 0 #[] false (s+1) (s+1) false) (t++#[x0,x1,x2,x3])/\D'.less q0 D:=by
 have hC:=h.sit.core;have hgr:p.Gr p.c1:=.inr (.inl rfl);generalize hw':(w.at d).setChan p.c1 0 #[] false (s+1) (s+1) false=W;have eW:∀b,b≠p.c1->W.heap[b]?=w.heap[b]?:=λb hb=>by rw[<- hw'];exact OC hb
 have rT:W.heap.size=w.heap.size:=by rw[<- hw'];exact wY
 have Cr:∀(O:Nat->Prop),(∀b,O b->b≠p.c1)->Rl O p.Sh w W:=λO hO=>⟨λb hb=>eW b (hb.elim (hO b) λx e=>hp.pY b x (e▸hgr)),by omega⟩
 have I3:∀b,D.O0 b->b≠p.c1:=λb hb e=>by
  rcases hb with hb|hb
  ·exact(hC.fF b ⟨_,hb⟩).2 (e▸hgr)
  exact hp.apart.1 (hb.symm.trans e)
 have dQ:∀x,Deaf (t++#[x0,x1,x2,x3]) x=Deaf t x:=λx=>OD h0 h1 h2 h3
 have iz:Core W (t++#[x0,x1,x2,x3]) (q0,q0+D.j) D.who p.Sh p.Gr:=by rw[<- hw'];exact OE hC hgr h0 h1 h2 h3 dP (h.sit.hear _ (by omega))
 obtain⟨m,hm⟩:=hp.EO _ _ _ _ W (hp.yw _ _ _ _ _ _ nL (Cr _ I3)) jl;obtain⟨m',I4⟩:=hp.EM g0 D.nx (λb=>D.who b=U (q0+1+a)) W oW jl (hp.hold _ _ h.sit.hold (λb hb=>eW b λe=>hp.pY b hb (e▸hgr)) (by omega));let dd:p.WD:=⟨2,D.nx,m',J⟩
 refine⟨{ D with nx:=D.nx+1,wd:=upd D.wd a dd,ck:=1,cm:=m },⟨?_,h.jm,λx=>absurd hj (by have:D.j<p.mW:=x;omega),⟨_,hg0,?_⟩,?_,?_⟩,.inl ?_⟩
 ·refine h.sit.change hp a hsz iz (by omega) (λb _ _ hb=>eW b λe=>hb (e▸hgr)) (λb hb=>eW b λe=>hp.pY b hb (e▸hgr)) (λ_ _ x=>x) (λk g hk hq wX=>?_) (λk hk=>?_) (λb hb eE=>⟨hgo _ (by omega) (by omega),upd_ne D.wd dd eE,λx hx=>eW x λe=>(hC.fF x ⟨_,hx⟩).2 (e▸hgr),λ_=>lB⟩) (λ_=>⟨_,Cg,?_⟩) ?_ ?_ jl ?_ ?_ ?_ (λi hi=>h.sit.rest i (Nat.le_of_succ_le hi)) λi v hv=>.inl hv
  ·rw[hgo k (by omega) (by omega)]at wX;rw[dQ];exact h.sit.old k g hk hq wX
  ·rw[dQ];exact h.sit.hear k hk
  ·show p.WS D.who (upd D.wd a dd a) _ _ W
   rw[upd_same];exact⟨jl,I4⟩
  ·exact⟨s+1,by rw[<- hw'];exact setChan_at (hC.jE _ hgr)⟩
  ·exact Ak h.sit.kJ (eW _ (ey hp.apart.2.2))
  ·intro i hi I5;show ∃b,b<D.j/\2<=(upd D.wd a dd b).k/\(upd D.wd a dd b).i=i
   by_cases e:i=D.nx
   ·exact⟨a,ha,by rw[upd_same];simp[dd],by rw[upd_same];exact e.symm⟩
   have hi':i<D.nx+1:=hi;obtain⟨b,b1,b2,b3⟩:=h.sit.o i (by omega) I5;have eE:b≠a:=λe=>by subst e;omega
   exact⟨b,b1,by rw[upd_ne D.wd dd eE];exact b2,by rw[upd_ne D.wd dd eE];exact b3⟩
  ·intro b hb hb2
   by_cases e:b=a
   ·subst e;rw[show ({ D with nx:=D.nx+1,wd:=upd D.wd b dd,ck:=1,cm:=m }:D1 p).wd b=dd from upd_same ..];exact⟨wh _,h.sit.rest _ (aR _)⟩
   rw[show ({ D with nx:=D.nx+1,wd:=upd D.wd a dd,ck:=1,cm:=m }:D1 p).wd b=D.wd b from upd_ne D.wd dd e]at hb2⊢;have:=h.sit.has b hb hb2;exact⟨Nat.lt_succ_of_lt this.1,this.2⟩
  intro b c hb hc hb2 hc2 e
  by_cases eb:b=a<;>by_cases ec:c=a
  ·exact eb.trans ec.symm
  ·exfalso
   subst eb;rw[show ({ D with nx:=D.nx+1,wd:=upd D.wd b dd,ck:=1,cm:=m }:D1 p).wd b=dd from upd_same ..,show ({ D with nx:=D.nx+1,wd:=upd D.wd b dd,ck:=1,cm:=m }:D1 p).wd c=D.wd c from upd_ne D.wd dd ec]at e;rw[show ({ D with nx:=D.nx+1,wd:=upd D.wd b dd,ck:=1,cm:=m }:D1 p).wd c=D.wd c from upd_ne D.wd dd ec]at hc2;have:=(h.sit.has c hc hc2).1;have e':D.nx=(D.wd c).i:=e;omega
  ·exfalso
   subst ec;rw[show ({ D with nx:=D.nx+1,wd:=upd D.wd c dd,ck:=1,cm:=m }:D1 p).wd c=dd from upd_same ..,show ({ D with nx:=D.nx+1,wd:=upd D.wd c dd,ck:=1,cm:=m }:D1 p).wd b=D.wd b from upd_ne D.wd dd eb]at e;rw[show ({ D with nx:=D.nx+1,wd:=upd D.wd c dd,ck:=1,cm:=m }:D1 p).wd b=D.wd b from upd_ne D.wd dd eb]at hb2;have:=(h.sit.has b hb hb2).1;have e':(D.wd b).i=D.nx:=e;omega
  rw[show ({ D with nx:=D.nx+1,wd:=upd D.wd a dd,ck:=1,cm:=m }:D1 p).wd b=D.wd b from upd_ne D.wd dd eb]at e hb2;rw[show ({ D with nx:=D.nx+1,wd:=upd D.wd a dd,ck:=1,cm:=m }:D1 p).wd c=D.wd c from upd_ne D.wd dd ec]at e hc2;exact h.sit.inj b c hb hc hb2 hc2 e
 ·show p.gt true (p.Z D.j (D.nx+1) D.rv) m (Deaf (t++#[x0,x1,x2,x3]) 0) D.O0 _ W
  rw[dQ,dP];exact Gt.mono (λO g w hS=>.inr ⟨hj,hS⟩) hm
 ·rw[<- hw'];exact⟨h.same.os,h.same.o,h.same.tape,by rw[wY];exact h.same.size⟩
 ·refine h.tr.app λop hop=>?_
  simp only[n7,fu,ik,iI]at hop;have hK:q0<q0+1+a/\q0+1+a<=q0+p.mW:=⟨by omega,by omega⟩
  rcases hop with rfl|rfl|rfl|rfl
  ·exact⟨by rw[h0.1];first|exact .inl rfl|exact .inr (.inl hK),by rw[h0.2];simp⟩
  ·exact⟨by rw[h1.1];first|exact .inl rfl|exact .inr (.inl hK),by rw[h1.2];simp⟩
  ·exact⟨by rw[h2.1];first|exact .inl rfl|exact .inr (.inl hK),by rw[h2.2];simp⟩
  exact⟨by rw[h3.1];first|exact .inl rfl|exact .inr (.inl hK),by rw[h3.2];simp⟩
 unfold D1.N;simp only;omega
def S1.OH(hp:p.Ok)(h:S1 p q0 w0 D gs w t){g0:Goroutine}{v:aj}{F:Nat->Prop}{s d:Nat}{x0 x1 x2 x3:MemOp}(ha:a<D.j)(hj:D.j=p.mW)(dP:Deaf t 0=0)(nL:p.Se D.nx D.rv D.O0 gc w)(I2:2<=(D.wd a).k)
  (hres:p.fN (D.wd a).i v F w) (hF:oV p D.who w F) (I6:p.iL v g0)
  (hsz:gs'.size=gs.size) (hg0:gs'[0]?=U (gc.finishComm p.P (p.eL D.nx) .select 1 v true)) (Cg:gs'[q0+1+a]?=U (Go.Conc.served g0 undef))
  (hgo:∀k,k≠0->k≠q0+1+a->gs'[k]?=gs[k]?) (h0:x0.g=q0+1+a/\x0.act=.send p.c2 s) (h1:x1.g=0/\x1.act=.recv p.c2 s 0) (h2:x2.g=q0+1+a/\x2.act=.sendDone p.c2 s) (h3:x3.g=0/\x3.act=.recvDone p.c2 s):∃D',S1 p q0 w0 D' gs' ((w.at d).setChan p.c2 0 #[] false (s+1) (s+1) false) (t++#[x0,x1,x2,x3])/\D'.less q0 D:=by
 have hC:=h.sit.core;have hgr:p.Gr p.c2:=.inr (.inr rfl);generalize hw':(w.at d).setChan p.c2 0 #[] false (s+1) (s+1) false=W;have eW:∀b,b≠p.c2->W.heap[b]?=w.heap[b]?:=λb hb=>by rw[<- hw'];exact OC hb
 have rT:W.heap.size=w.heap.size:=by rw[<- hw'];exact wY
 have Cr:∀(O:Nat->Prop),(∀b,O b->b≠p.c2)->Rl O p.Sh w W:=λO hO=>⟨λb hb=>eW b (hb.elim (hO b) λx e=>hp.pY b x (e▸hgr)),by omega⟩
 have I3:∀b,D.O0 b->b≠p.c2:=λb hb e=>by
  rcases hb with hb|hb
  ·exact(hC.fF b ⟨_,hb⟩).2 (e▸hgr)
  exact hp.apart.2.1 (hb.symm.trans e)
 have dQ:∀x,Deaf (t++#[x0,x1,x2,x3]) x=Deaf t x:=λx=>OD h0 h1 h2 h3
 have iz:Core W (t++#[x0,x1,x2,x3]) (q0,q0+D.j) D.who p.Sh p.Gr:=by rw[<- hw'];exact OE hC hgr h0 h1 h2 h3 (h.sit.hear _ (by omega)) dP
 obtain⟨dr,I7⟩:=h.sit.has a ha I2;have I8:(D.wd a).i<p.n:=dK dr h.sit.tG;generalize Cs:(D.wd a).i=i at hres dr I7 I8;obtain⟨m,hm⟩:=hp.EP _ _ _ _ W i v (hp.yw _ _ _ _ _ _ nL (Cr _ I3)) I8 I7 (hp.Ox _ _ _ _ hres);obtain⟨m',I4⟩:=hp.EN g0 v (λb=>D.who b=U (q0+1+a)) W I6;let dd:p.WD:=⟨0,0,m',J⟩
 have YE:p.fN i v F W:=hp.res _ _ _ _ _ hres (λb hb=>eW b λe=>(hF b hb).2.2 (e▸hgr)) (by omega)
 refine⟨{ D with rv:=upd D.rv i (U v),wd:=upd D.wd a dd,ck:=1,cm:=m },⟨?_,h.jm,λx=>absurd hj (by have:D.j<p.mW:=x;omega),⟨_,hg0,?_⟩,?_,?_⟩,.inl ?_⟩
 ·have mP:∀b,2<=(upd D.wd a dd b).k->b≠a/\upd D.wd a dd b=D.wd b:=λb hb=>by
   have eE:b≠a:=λe=>by subst e;rw[upd_same]at hb;exact absurd hb (by simp[dd])
   exact⟨eE,upd_ne D.wd dd eE⟩
  refine h.sit.change hp a hsz iz (by omega) (λb _ _ hb=>eW b λe=>hb (e▸hgr)) (λb hb=>eW b λe=>hp.pY b hb (e▸hgr)) (λ_ _ x=>x) (λk g hk hq wX=>?_) (λk hk=>?_) (λb hb eE=>⟨hgo _ (by omega) (by omega),upd_ne D.wd dd eE,λx hx=>eW x λe=>(hC.fF x ⟨_,hx⟩).2 (e▸hgr),λ_=>lB⟩) (λ_=>⟨_,Cg,?_⟩) ?_ ?_ h.sit.tG ?_ ?_ ?_ ?_ ?_
  ·rw[hgo k (by omega) (by omega)]at wX;rw[dQ];exact h.sit.old k g hk hq wX
  ·rw[dQ];exact h.sit.hear k hk
  ·show p.WS D.who (upd D.wd a dd a) _ _ W
   rw[upd_same];exact I4
  ·exact Ak h.sit.kg (eW _ hp.apart.2.2)
  ·exact⟨s+1,by rw[<- hw'];exact setChan_at (hC.jE _ hgr)⟩
  ·intro x hx ET;have OI:x≠i:=λe=>by subst e;rw[show ({ D with rv:=upd D.rv x (U v),wd:=upd D.wd a dd,ck:=1,cm:=m }:D1 p).rv x=U v from upd_same ..]at ET;cases ET
   rw[show ({ D with rv:=upd D.rv i (U v),wd:=upd D.wd a dd,ck:=1,cm:=m }:D1 p).rv x=D.rv x from upd_ne D.rv (U v) OI]at ET;obtain⟨b,b1,b2,b3⟩:=h.sit.o x hx ET;have eE:b≠a:=λe=>by subst e;exact OI (b3.symm.trans Cs)
   exact⟨b,b1,by show 2<=(upd D.wd a dd b).k;rw[upd_ne D.wd dd eE];exact b2,by show (upd D.wd a dd b).i=x;rw[upd_ne D.wd dd eE];exact b3⟩
  ·intro b hb hb2;obtain⟨eE,e⟩:=mP b hb2;show (upd D.wd a dd b).i<D.nx/\upd D.rv i (U v) (upd D.wd a dd b).i=J
   replace hb2:2<=(D.wd b).k:=by have z:2<=(upd D.wd a dd b).k:=hb2;rw[e]at z;exact z
   rw[e];have:=h.sit.has b hb hb2
   refine⟨this.1,?_⟩;rw[upd_ne D.rv (U v)]
   ·exact this.2
   intro e2;exact eE (h.sit.inj b a hb ha hb2 I2 (e2.trans Cs.symm))
  ·intro b c hb hc hb2 hc2 e;obtain⟨_,eb⟩:=mP b hb2;obtain⟨_,ec⟩:=mP c hc2;have OJ:2<=(upd D.wd a dd b).k:=hb2;have OL:2<=(upd D.wd a dd c).k:=hc2;have e':(upd D.wd a dd b).i=(upd D.wd a dd c).i:=e;rw[eb]at OJ e';rw[ec]at OL e';exact h.sit.inj b c hb hc OJ OL e'
  ·intro x hx;show upd D.rv i (U v) x=J
   have nD:D.nx<=x:=hx;rw[upd_ne D.rv (U v) (by omega)];exact h.sit.rest x hx
  intro x y OM
  by_cases e:x=i
  ·subst e;have:y=v:=by
    have h1:upd D.rv x (U v) x=U y:=OM;rw[upd_same]at h1;cases h1;rfl
   subst this;exact .inr ⟨F,YE,hF.on (by omega) λ_ _ z=>z⟩
  exact .inl (by have h1:upd D.rv i (U v) x=U y:=OM;rw[upd_ne D.rv (U v) e]at h1;exact h1)
 ·show p.gt true (p.Z D.j D.nx (upd D.rv i (U v))) m (Deaf (t++#[x0,x1,x2,x3]) 0) D.O0 _ W
  rw[dQ,dP];exact Gt.mono (λO g w hS=>.inr ⟨hj,hS⟩) hm
 ·rw[<- hw'];exact⟨h.same.os,h.same.o,h.same.tape,by rw[wY];exact h.same.size⟩
 ·refine h.tr.app λop hop=>?_
  simp only[n7,fu,ik,iI]at hop;have hK:q0<q0+1+a/\q0+1+a<=q0+p.mW:=⟨by omega,by omega⟩
  rcases hop with rfl|rfl|rfl|rfl
  ·exact⟨by rw[h0.1];first|exact .inl rfl|exact .inr (.inl hK),by rw[h0.2];simp⟩
  ·exact⟨by rw[h1.1];first|exact .inl rfl|exact .inr (.inl hK),by rw[h1.2];simp⟩
  ·exact⟨by rw[h2.1];first|exact .inl rfl|exact .inr (.inl hK),by rw[h2.2];simp⟩
  exact⟨by rw[h3.1];first|exact .inl rfl|exact .inr (.inl hK),by rw[h3.2];simp⟩
 have:=YD (v:=v) I8 I7;unfold D1.N;simp only;omega
end
def EU{x:Goroutine}{c:CommCase}{send:Bool}(h1:x.status=.blocked)(h2:x.offers=U (cs,sh))(h3:cs[k]?=U c)(h4:c.chan=.chan (U r))(h5:c.send.isSome=send):k∈offersAt x r send:=by
 unfold offersAt;simp only[h1,h2,pJ,List.mem_filter,kS,og,Prod.exists]
 refine⟨c,k,⟨?_,h5,by rw[h4];simp⟩,rfl⟩;obtain⟨hl,e⟩:=bD.1 h3;have:cs.zipIdx.toList[k]?=U (c,k):=by simp[hl,e]
 exact fQ this
def EW{cc:CommCase}(ho:opn w c)(hc:cc.chan=.chan (U c))(h:(j,k)∈partners gs c cc.send.isNone):ways w gs cc≠[]:=by
 obtain⟨s,hs⟩:=ho;obtain⟨ch,sd,z⟩:=cc;simp only at hc;subst hc
 cases sd with
 |none=>
  simp only[ways,hs,Array.size_empty,gt_iff_lt,rL,j5]
  cases hp:partners gs c true with
  |nil=>simp only[Option.isNone_none]at h;rw[hp]at h;cases h
  |cons p ps=>simp
 |some v=>
  simp only[ways,hs,uC,j5]
  cases hp:partners gs c false with
  |nil=>simp only[Option.isNone_some]at h;rw[hp]at h;cases h
  |cons p ps=>simp
section
variable {p:br}{q0:Nat}{w0 w w':ah}{D:D1 p}{gs gs':Array Goroutine}{t:Trace}{sl:Option (Nat×Nat)}
def S1.blocked(hp:p.Ok)(h:S1 p q0 w0 D gs w t){x:Goroutine}(hx:gs[k]?=U x)(hb:x.status=.blocked):(k=0/\D.ck=0/\∃g0,p.Se D.nx D.rv D.O0 g0 w/\x=parked g0 (p.eL D.nx) .select) \/
  ∃b,b<D.j/\k=q0+1+b/\(((D.wd b).k=1/\∃g0,p.Recv g0/\x=parked g0 #[rcase p.c1 p.z1] (.recv true)) \/
   ((D.wd b).k=5/\∃v F g0,p.fN (D.wd b).i v F w/\oV p D.who w F/\p.iL v g0/\x=parked g0 #[scase p.c2 v p.z3] .send)):=by
 rcases kG k with rfl|hk
 ·left
  obtain⟨a,ha,bQ⟩:=h.lZ;rw[hx]at ha;cases ha;unfold kK at bQ
  split at bQ
  ·rename_i e;exfalso
   have:=Gt.running bQ (by
    rintro O g w (⟨_,hS⟩|⟨_,⟨_,hS⟩|⟨_,hS⟩⟩)
    ·exact(hp.Cm _ _ _ _ hS).1
    ·exact hp.ER _ _ _ _ hS
    exact(hp.yv _ _ _ _ _ hS).1)
   rw[hb]at this;cases this
  ·rename_i e;obtain⟨_,_,_,g0,h1,h2,_⟩:=bQ;exact⟨rfl,e,g0,h1,h2⟩
  exact bQ.elim
 right
 by_cases hq:k<=q0
 ·exfalso
  rcases(h.sit.old k x hk hq hx).status with e|e<;>(rw[hb]at e;cases e)
 have hlt:k<gs.size:=(bD.1 hx).1;obtain⟨b,rfl⟩:∃b,k=q0+1+b:=⟨k-(q0+1),by omega⟩;have OO:b<D.j:=by have:=h.sit.size;omega
 obtain⟨g',h3,h4⟩:=h.sit.work b OO;rw[hx]at h3
 cases h3
 refine⟨b,OO,rfl,?_⟩;revert h4
 generalize D.wd b=d;obtain⟨k,i,m,y⟩:=d;unfold br.WS;have no:x.status=.running->False:=λe=>by rw[hb]at e;cases e
 obtain _|_|_|_|_|_|k:=k
 ·exact λh=>(no (Gt.running h λ_ g _ hS=>(hp.qM g hS).1)).elim
 ·rintro⟨g0,h1,h2⟩;exact .inl ⟨rfl,g0,h1,h2⟩
 ·exact λh=>(no (Gt.running h.2 λ_ g _ ⟨x,hS⟩=>hS.running)).elim
 ·rintro⟨_,x,_,h⟩;exact(no h.running).elim
 ·rintro⟨_,v,F,_,_,h⟩;exact(no (Gt.running h λ_ g _ hS=>(hp.yu v g hS).1)).elim
 ·rintro⟨_,v,F,h1,h2,g0,h3,h4⟩;exact .inr ⟨rfl,v,F,g0,h1,h2,h3,h4⟩
 exact λh=>h.elim
def S1.OP(hp:p.Ok)(h:S1 p q0 w0 D gs w t){d:p.WD}(ha:a<D.j)(hg:gs[q0+1+a]?=U g)(hd:p.WS D.who d (λb=>D.who b=U (q0+1+a)) g' w)
  (hk:D.ck=0->d.k≠5/\(D.nx<p.n->d.k≠1)) (hn:2<=d.k↔2<=(D.wd a).k) (hi:2<=d.k->d.i=(D.wd a).i) (hlt:p.lt d.el (D.wd a).el):S1 p q0 w0 { D with wd:=upd D.wd a d } (gs.setIfInBounds (q0+1+a) g') w t/\D1.less q0 { D with wd:=upd D.wd a d } D:=by
 have iu:q0+1+a<gs.size:=(bD.1 hg).1;obtain⟨ca,vd,bQ⟩:=h.lZ
 refine⟨⟨?_,h.jm,h.start,⟨ca,?_,?_⟩,h.same,h.tr⟩,.inr ⟨rfl,OB ha hlt⟩⟩
 ·have mP:∀b,(2<=(upd D.wd a d b).k↔2<=(D.wd b).k)/\(2<=(upd D.wd a d b).k->(upd D.wd a d b).i=(D.wd b).i):=λb=>by
   by_cases e:b=a
   ·subst e;rw[upd_same];exact⟨hn,hi⟩
   rw[upd_ne D.wd d e];exact⟨lB,λ_=>rfl⟩
  refine h.sit.change hp a (by simp) h.sit.core (aR _) (λ_ _ _ _=>rfl) (λ_ _=>rfl) (λ_ _ x=>x) (λx y hx u_ hy=>?_) h.sit.hear (λb hb eE=>⟨?_,upd_ne D.wd d eE,λ_ _=>rfl,λ_=>lB⟩) (λ_=>⟨g',jk iu,?_⟩) h.sit.kg h.sit.kJ h.sit.tG ?_ ?_ ?_ h.sit.rest λi v hv=>.inl hv
  ·rw[dS (by omega)]at hy;exact h.sit.old x y hx u_ hy
  ·rw[dS (by omega)]
  ·show p.WS D.who (upd D.wd a d a) _ g' w
   rw[upd_same];exact hd
  ·intro i I0 nK;obtain⟨b,b1,b2,b3⟩:=h.sit.o i I0 nK;have:=mP b;exact⟨b,b1,this.1.2 b2,(this.2 (this.1.2 b2)).trans b3⟩
  ·intro b hb hb2;have:=mP b;rw[this.2 hb2];exact h.sit.has b hb (this.1.1 hb2)
  intro b c hb hc hb2 hc2 e;rw[(mP b).2 hb2,(mP c).2 hc2]at e;exact h.sit.inj b c hb hc ((mP b).1.1 hb2) ((mP c).1.1 hc2) e
 ·rw[dS (by omega)];exact vd
 refine kK.on hp bQ (.refl ..) rfl rfl rfl rfl rfl rfl (λ_=>lB) λe0 x y=>⟨λb hb=>?_,λjl b hb=>?_⟩
 ·show (upd D.wd a d b).k≠5
  by_cases e:b=a
  ·subst e;rw[upd_same];exact(hk e0).1
  rw[upd_ne D.wd d e];exact x b hb
 show (upd D.wd a d b).k≠1
 by_cases e:b=a
 ·subst e;rw[upd_same];exact(hk e0).2 jl
 rw[upd_ne D.wd d e];exact y jl b hb
def S1.YF(hp:p.Ok)(h:S1 p q0 w0 D gs w t){a:Goroutine}(ha:gs[0]?=U a)(jA:D.ck=1)(dP:Deaf t 0=0)(hj:D.j=p.mW)(hall:¬p.all D.rv)(nL:p.Se D.nx D.rv D.O0 a w)(h5:∀b,b<D.j->(D.wd b).k≠5)(h1:D.nx<p.n->∀b,b<D.j->(D.wd b).k≠1):S1 p q0 w0 { D with ck:=0,cm:=0 } (gs.setIfInBounds 0 (parked a (p.eL D.nx) .select)) w t/\D1.less q0 { D with ck:=0,cm:=0 } D:=by
 have iu:0<gs.size:=(bD.1 ha).1
 refine⟨⟨?_,h.jm,h.start,⟨_,jk iu,?_⟩,h.same,h.tr⟩,.inr ⟨rfl,.inl ⟨.inl (by show 0<D.ck;omega),rfl⟩⟩⟩
 ·refine h.sit.change hp D.j (by simp) h.sit.core (aR _) (λ_ _ _ _=>rfl) (λ_ _=>rfl) (λ_ _ x=>x) (λx y hx u_ hy=>?_) h.sit.hear (λb hb _=>⟨?_,rfl,λ_ _=>rfl,λ_=>lB⟩) (λx=>absurd x (rL _)) h.sit.kg h.sit.kJ h.sit.tG h.sit.o h.sit.has h.sit.inj h.sit.rest λi v hv=>.inl hv
  ·rw[dS (by omega)]at hy;exact h.sit.old x y hx u_ hy
  rw[dS (by omega)]
 exact⟨dP,hj,hall,a,nL,rfl,h5,h1⟩
end
section
variable {p:br}{q0:Nat}{w0 w w':ah}{D:D1 p}{gs gs':Array Goroutine}{t:Trace}{sl:Option (Nat×Nat)}
def br.EX{a b:p.El}(h:a.1<b.1):p.lt a b:=.inl h
def br.YG{a b:p.El}(h:a.1=b.1)(h2:a.2.1<b.2.1):p.lt a b:=.inr ⟨h,.inl h2⟩
abbrev Goal (p:br) (q0:Nat) (w0:World) (D:D1 p) (gs:Array Goroutine) (w:World) (t:Trace) (sl:Option (Nat×Nat)) (k:Nat):Prop:=
 ∃D' gs' w' ops,runT p.P (crowd gs w sl) k=(.next (crowd gs' w' sl),ops)/\S1 p q0 w0 D' gs' w' (t++ops)/\D'.less q0 D
def EY(k:Nat)(fn:FuncId)(pos:String):t++MemOp.ofEvents k fn pos #[]=t:=by simp[ofEvents_eq]
def EZ(k:Nat)(fn:FuncId)(pos:String)(u:Array MemOp):MemOp.ofEvents k fn pos #[]++u=u:=by simp[ofEvents_eq]
def S1.recv(hp:p.Ok)(h:S1 p q0 w0 D gs w t)(ha:a<D.j)(hg:gs[q0+1+a]?=U g)(hk:(D.wd a).k=0)(hr:p.Recv g):Goal p q0 w0 D gs w t sl (q0+1+a):=by
 have hst:=(hp.qM g hr).2 w;have iu:q0+1+a<gs.size:=(bD.1 hg).1;obtain⟨s1,e1⟩:=h.sit.kg;have I9:(D.wd a).el.1=2:=by unfold br.WD.el;rw[hk];rfl
 rcases II (P:=p.P) (sl:=sl) (i:=q0+1+a) hg (by rw[show (q0+1+a==0)=false by simp];exact hst) (λcc hc=>by simp at hc;subst hc;exact made_recv _ e1) (λcc hc c e=>by simp at hc;subst hc;cases e;exact⟨_,_,_,e1⟩)with
  ⟨hw,hrun⟩|⟨k,cc,c,s,r,tm,j,kj,x,om,pV,cj,d,df,hcc,hcs,lX,hx,oL,qO,dO,Al,wZ,hrun⟩
 ·obtain⟨h1,h2⟩:=h.OP hp (g':=parked g #[rcase p.c1 p.z1] (.recv true)) (d:=⟨1,0,0,J⟩) ha hg ⟨g,hr,rfl⟩ (λe0=>⟨by simp,λjl=>by
   exfalso
   obtain⟨ca,vd,bQ⟩:=h.lZ;unfold kK at bQ;rw[e0]at bQ;obtain⟨_,_,_,g0,_,rfl,_⟩:=bQ
   refine EW (j:=0) (k:=0) (cc:=rcase p.c1 p.z1) h.sit.kg rfl ?_ (hw _ (by simp))
   refine mem_partners.2 ⟨_,stand_get (by omega) vd,?_⟩;exact EU (cs:=p.eL D.nx) (sh:=.select) (c:=scase p.c1 (af I D.nx) p.z1) rfl rfl (by simp[br.eL,jl]) rfl rfl⟩) (by rw[hk];simp) (by simp) (br.EX (by rw[I9];unfold br.WD.el;simp))
  exact⟨_,_,_,_,hrun,by rw[EY];exact h1,h2⟩
 have I_:k=0/\cc=rcase p.c1 p.z1:=by
  obtain _|k:=k
  ·simp at df;exact⟨rfl,df.symm⟩
  simp at df
 obtain⟨rfl,rfl⟩:=I_
 cases hcc
 rw[e1]at hcs;cases hcs
 rcases h.blocked hp hx oL with⟨rfl,e0,g0,nL,rfl⟩|⟨b,hb,rfl,⟨_,g0,_,rfl⟩|⟨_,v,F,g0,_,_,_,rfl⟩⟩
 ·cases qO
  obtain⟨rfl,jl,rfl⟩:kj=0/\D.nx<p.n/\cj=scase p.c1 (af I D.nx) p.z1:=by
   obtain _|_|kj:=kj
   ·simp only[br.eL,wT,vZ,gQ]at dO
    by_cases hn:D.nx<p.n
    ·rw[aU hn]at dO;exact⟨rfl,hn,dO.symm⟩
    rw[aF hn]at dO;subst dO;cases Al
   ·simp[br.eL]at dO
    subst dO;cases wZ
   simp[br.eL]at dO
  obtain⟨ca,vd,bQ⟩:=h.lZ;unfold kK at bQ;rw[e0]at bQ;obtain⟨dP,hj,_⟩:=bQ;rw[EZ]at hrun;have hx0:0<gs.size:=by omega
  obtain⟨D',h1,h2⟩:=h.OG hp (a:=a) (gc:=g0) (g0:=g) (s:=s1) (d:=d) (gs':=(gs.setIfInBounds 0 (g0.finishComm p.P (p.eL D.nx) .select 0 undef false)).setIfInBounds (q0+1+a) (Go.Conc.served g (aX #[af I D.nx,aJ true])))
   ha hj dP jl nL (by omega) hr (by simp) (by rw[dS (by omega)];exact jk hx0) (jk (by simpa using iu))
   (λk h0 hk=>by rw[dS (ey hk),dS (ey h0)]) (x0:=mo 0 (parked g0 (p.eL D.nx) .select) (.send p.c1 s1)) (x1:=mo (q0+1+a) g (.recv p.c1 s1 0)) (x2:=mo 0 (parked g0 (p.eL D.nx) .select) (.sendDone p.c1 s1)) (x3:=mo (q0+1+a) g (.recvDone p.c1 s1)) ⟨rfl,rfl⟩ ⟨rfl,rfl⟩ ⟨rfl,rfl⟩ ⟨rfl,rfl⟩
  exact⟨D',_,_,_,hrun,h1,h2⟩
 ·cases qO
  obtain _|kj:=kj
  ·simp at dO;subst dO;cases wZ
  simp at dO
 cases qO
 obtain _|kj:=kj
 ·simp at dO;subst dO;exact absurd (by simpa[scase]using Al:p.c2=p.c1).symm hp.apart.2.2
 simp at dO
def S1.send(hp:p.Ok)(h:S1 p q0 w0 D gs w t){v:aj}{F:Nat->Prop}(ha:a<D.j)(hg:gs[q0+1+a]?=U g)(hk:(D.wd a).k=4)(dr:(D.wd a).i<p.n)(hr:p.iL v g)(hres:p.fN (D.wd a).i v F w)(hF:oV p D.who w F):Goal p q0 w0 D gs w t sl (q0+1+a):=by
 have hst:=(hp.yu v g hr).2 w;have iu:q0+1+a<gs.size:=(bD.1 hg).1;obtain⟨s2,e2⟩:=h.sit.kJ;have I9:(D.wd a).el.1=2:=by unfold br.WD.el;rw[hk];rfl
 rcases II (P:=p.P) (sl:=sl) (i:=q0+1+a) hg (by rw[show (q0+1+a==0)=false by simp];exact hst) (λcc hc=>by simp at hc;subst hc;exact made_send _ _ e2) (λcc hc c e=>by simp at hc;subst hc;cases e;exact⟨_,_,_,e2⟩)with
  ⟨hw,hrun⟩|⟨k,cc,c,s,r,tm,j,kj,x,om,pV,cj,d,df,hcc,hcs,lX,hx,oL,qO,dO,Al,wZ,hrun⟩
 ·obtain⟨h1,h2⟩:=h.OP hp (g':=parked g #[scase p.c2 v p.z3] .send) (d:=⟨5,(D.wd a).i,0,J⟩) ha hg ⟨dr,v,F,hres,hF,g,hr,rfl⟩ (λe0=>by
   exfalso
   obtain⟨ca,vd,bQ⟩:=h.lZ;unfold kK at bQ;rw[e0]at bQ;obtain⟨_,_,_,g0,_,rfl,_⟩:=bQ
   refine EW (j:=0) (k:=1) (cc:=scase p.c2 v p.z3) h.sit.kJ rfl ?_ (hw _ (by simp))
   refine mem_partners.2 ⟨_,stand_get (by omega) vd,?_⟩;exact EU (cs:=p.eL D.nx) (sh:=.select) (c:=rcase p.c2 p.z2) rfl rfl (by simp[br.eL]) rfl rfl) (by rw[hk];simp) (by simp) (br.EX (by rw[I9];unfold br.WD.el;simp))
  exact⟨_,_,_,_,hrun,by rw[EY];exact h1,h2⟩
 have I_:k=0/\cc=scase p.c2 v p.z3:=by
  obtain _|k:=k
  ·simp at df;exact⟨rfl,df.symm⟩
  simp at df
 obtain⟨rfl,rfl⟩:=I_
 cases hcc
 rw[e2]at hcs;cases hcs
 rcases h.blocked hp hx oL with⟨rfl,e0,g0,nL,rfl⟩|⟨b,hb,rfl,⟨_,g0,_,rfl⟩|⟨_,v',F',g0,_,_,_,rfl⟩⟩
 ·cases qO
  obtain⟨rfl,rfl⟩:kj=1/\cj=rcase p.c2 p.z2:=by
   obtain _|_|kj:=kj
   ·exfalso
    simp only[br.eL,wT,vZ,gQ]at dO
    by_cases hn:D.nx<p.n
    ·rw[aU hn]at dO;subst dO;cases wZ
    rw[aF hn]at dO;subst dO;cases Al
   ·simp[br.eL]at dO
    exact⟨rfl,dO.symm⟩
   simp[br.eL]at dO
  obtain⟨ca,vd,bQ⟩:=h.lZ;unfold kK at bQ;rw[e0]at bQ;obtain⟨dP,hj,_⟩:=bQ;rw[EZ]at hrun;have hx0:0<gs.size:=by omega
  obtain⟨D',h1,h2⟩:=h.OH hp (a:=a) (gc:=g0) (g0:=g) (v:=v) (F:=F) (s:=s2) (d:=d) (gs':=(gs.setIfInBounds 0 (g0.finishComm p.P (p.eL D.nx) .select 1 v true)).setIfInBounds (q0+1+a) (Go.Conc.served g undef))
   ha hj dP nL (by omega) hres hF hr (by simp) (by rw[dS (by omega)];exact jk hx0) (jk (by simpa using iu))
   (λk h0 hk=>by rw[dS (ey hk),dS (ey h0)]) (x0:=mo (q0+1+a) g (.send p.c2 s2)) (x1:=mo 0 (parked g0 (p.eL D.nx) .select) (.recv p.c2 s2 0)) (x2:=mo (q0+1+a) g (.sendDone p.c2 s2)) (x3:=mo 0 (parked g0 (p.eL D.nx) .select) (.recvDone p.c2 s2)) ⟨rfl,rfl⟩ ⟨rfl,rfl⟩ ⟨rfl,rfl⟩ ⟨rfl,rfl⟩
  exact⟨D',_,_,_,hrun,h1,h2⟩
 ·cases qO
  obtain _|kj:=kj
  ·simp at dO;subst dO;exact absurd (by simpa[rcase]using Al:p.c1=p.c2) hp.apart.2.2
  simp at dO
 cases qO
 obtain _|kj:=kj
 ·simp at dO;subst dO;cases wZ
 simp at dO
def S1.select(hp:p.Ok)(h:S1 p q0 w0 D gs w t){a:Goroutine}(hg:gs[0]?=U a)(jA:D.ck=1)(dP:Deaf t 0=0)(hj:D.j=p.mW)(hall:¬p.all D.rv)(nL:p.Se D.nx D.rv D.O0 a w):Goal p q0 w0 D gs w t sl 0:=by
 have hst:=(hp.yv _ _ _ _ _ nL).2 w;have iu:0<gs.size:=(bD.1 hg).1;obtain⟨s1,e1⟩:=h.sit.kg;obtain⟨s2,e2⟩:=h.sit.kJ;have hcs:∀cc∈p.eL D.nx,(D.nx<p.n/\cc=scase p.c1 (af I D.nx) p.z1)\/(¬D.nx<p.n/\cc={ chan:=.chan J,send:=U (af I D.nx),zero:=p.z1 })\/cc=rcase p.c2 p.z2:=λcc hc=>by
  simp only[br.eL,n7,fu,ik,iI]at hc
  rcases hc with hc|hc
  ·by_cases hn:D.nx<p.n
   ·rw[aU hn]at hc;exact .inl ⟨hn,hc⟩
   rw[aF hn]at hc;exact .inr (.inl ⟨hn,hc⟩)
  exact .inr (.inr hc)
 rcases II (P:=p.P) (sl:=sl) (i:=0) hg (show stepG p.P (0==0) a w=_ from hst) (λcc hc=>by
   rcases hcs cc hc with⟨_,rfl⟩|⟨_,rfl⟩|rfl
   ·exact made_send _ _ e1
   ·rfl
   ·exact made_recv _ e2) (λcc hc c e=>by
   rcases hcs cc hc with⟨_,rfl⟩|⟨_,rfl⟩|rfl
   ·cases e;exact⟨_,_,_,e1⟩
   ·cases e
   cases e;exact⟨_,_,_,e2⟩)with
  ⟨hw,hrun⟩|⟨k,cc,c,s,r,tm,j,kj,x,om,pV,cj,d,df,hcc,tI,lX,hx,oL,qO,dO,Al,wZ,hrun⟩
 ·obtain⟨h1,h2⟩:=h.YF hp hg jA dP hj hall nL (λb hb e=>by
   obtain⟨gb,g1,g2⟩:=h.sit.work b hb;unfold br.WS at g2;rw[e]at g2;obtain⟨_,v,F,_,_,g0,_,rfl⟩:=g2
   refine EW (j:=q0+1+b) (k:=0) (cc:=rcase p.c2 p.z2) h.sit.kJ rfl ?_ (hw _ (by simp[br.eL]));exact mem_partners.2 ⟨_,stand_get (by omega) g1,EU (cs:=#[scase p.c2 v p.z3]) (sh:=.send) (c:=scase p.c2 v p.z3) rfl rfl (by simp) rfl rfl⟩) (λjl b hb e=>by
   obtain⟨gb,g1,g2⟩:=h.sit.work b hb;unfold br.WS at g2;rw[e]at g2;obtain⟨g0,_,rfl⟩:=g2
   refine EW (j:=q0+1+b) (k:=0) (cc:=scase p.c1 (af I D.nx) p.z1) h.sit.kg rfl ?_ (hw _ (by simp[br.eL,jl]));exact mem_partners.2 ⟨_,stand_get (by omega) g1,EU (cs:=#[rcase p.c1 p.z1]) (sh:=.recv true) (c:=rcase p.c1 p.z1) rfl rfl (by simp) rfl rfl⟩)
  exact⟨_,_,_,_,hrun,by rw[EY];exact h1,h2⟩
 rw[EZ]at hrun
 rcases h.blocked hp hx oL with⟨rfl,_⟩|⟨b,hb,rfl,hB⟩
 ·exact absurd rfl lX
 have hbl:q0+1+b<gs.size:=(bD.1 hx).1
 rcases hcs cc (bU df)with⟨jl,rfl⟩|⟨_,rfl⟩|rfl
 ·-- a number is given
  have YH:k=0:=by
   obtain _|_|k:=k
   ·rfl
   ·simp[br.eL,rcase,scase]at df
   simp[br.eL]at df
  subst YH
  cases hcc
  rw[e1]at tI;cases tI
  rcases hB with⟨B7,g0,hr,rfl⟩|⟨_,v,F,g0,_,_,_,rfl⟩
  ·cases qO
   obtain⟨rfl,rfl⟩:kj=0/\cj=rcase p.c1 p.z1:=by
    obtain _|kj:=kj
    ·simp at dO;exact⟨rfl,dO.symm⟩
    simp at dO
   obtain⟨D',h1,h2⟩:=h.OG hp (a:=b) (gc:=a) (g0:=g0) (s:=s1) (d:=d) (gs':=(gs.setIfInBounds (q0+1+b) (Go.Conc.served g0 (aX #[af I D.nx,aJ true]))).setIfInBounds 0 (a.finishComm p.P (p.eL D.nx) .select 0 undef false))
    hb hj dP jl nL (by omega) hr (by simp) (jk (by simpa using iu)) (by rw[dS (by omega)];exact jk hbl)
    (λk h0 hk=>by rw[dS (ey h0),dS (ey hk)]) (x0:=mo 0 a (.send p.c1 s1)) (x1:=mo (q0+1+b) (parked g0 #[rcase p.c1 p.z1] (.recv true)) (.recv p.c1 s1 0)) (x2:=mo 0 a (.sendDone p.c1 s1)) (x3:=mo (q0+1+b) (parked g0 #[rcase p.c1 p.z1] (.recv true)) (.recvDone p.c1 s1)) ⟨rfl,rfl⟩ ⟨rfl,rfl⟩ ⟨rfl,rfl⟩ ⟨rfl,rfl⟩
   exact⟨D',_,_,_,hrun,h1,h2⟩
  cases qO
  obtain _|kj:=kj
  ·simp at dO;subst dO;cases wZ
  simp at dO
 ·cases hcc
 -- an answer is taken
 have YI:k=1:=by
  obtain _|_|k:=k
  ·simp only[br.eL,wT,vZ,gQ]at df
   by_cases hn:D.nx<p.n
   ·rw[aU hn]at df;simp[rcase,scase]at df
   rw[aF hn]at df;cases df
  ·rfl
  simp[br.eL]at df
 subst YI
 cases hcc
 rw[e2]at tI;cases tI
 rcases hB with⟨_,g0,_,rfl⟩|⟨YJ,v,F,g0,hres,hF,I6,rfl⟩
 ·cases qO
  obtain _|kj:=kj
  ·simp at dO;subst dO;cases wZ
  simp at dO
 cases qO
 obtain⟨rfl,rfl⟩:kj=0/\cj=scase p.c2 v p.z3:=by
  obtain _|kj:=kj
  ·simp at dO;exact⟨rfl,dO.symm⟩
  simp at dO
 obtain⟨D',h1,h2⟩:=h.OH hp (a:=b) (gc:=a) (g0:=g0) (v:=v) (F:=F) (s:=s2) (d:=d) (gs':=(gs.setIfInBounds (q0+1+b) (Go.Conc.served g0 undef)).setIfInBounds 0 (a.finishComm p.P (p.eL D.nx) .select 1 v true))
  hb hj dP nL (by omega) hres hF I6 (by simp) (jk (by simpa using iu)) (by rw[dS (by omega)];exact jk hbl)
  (λk h0 hk=>by rw[dS (ey h0),dS (ey hk)]) (x0:=mo (q0+1+b) (parked g0 #[scase p.c2 v p.z3] .send) (.send p.c2 s2)) (x1:=mo 0 a (.recv p.c2 s2 0)) (x2:=mo (q0+1+b) (parked g0 #[scase p.c2 v p.z3] .send) (.sendDone p.c2 s2)) (x3:=mo 0 a (.recvDone p.c2 s2)) ⟨rfl,rfl⟩ ⟨rfl,rfl⟩ ⟨rfl,rfl⟩ ⟨rfl,rfl⟩
 exact⟨D',_,_,_,hrun,h1,h2⟩
end
section
variable {p:br}{q0:Nat}{w0 w w':ah}{D:D1 p}{gs gs':Array Goroutine}{t:Trace}{sl:Option (Nat×Nat)}
def S1.worker(hp:p.Ok)(h:S1 p q0 w0 D gs w t)(ha:a<D.j)(hg:gs[q0+1+a]?=U g)(hrun:g.status=.running):Goal p q0 w0 D gs w t sl (q0+1+a):=by
 have hC:=h.sit.core;obtain⟨g',h1,h2⟩:=h.sit.work a ha;rw[hg]at h1;cases h1;have hO:∀{w':ah} b,(D.who b=U (q0+1+a)\/(w.heap.size<=b/\b<w'.heap.size))↔grow D.who (q0+1+a) w w' b=U (q0+1+a):=λ{w'} b=>by
  unfold grow
  split
  ·rename_i hc;exact⟨λ_=>rfl,λ_=>.inr hc⟩
  rename_i hc;exact⟨λx=>x.elim id λy=>absurd y hc,.inl⟩
 have YK:∀b,p.Gr b->b<w.heap.size:=hC.jE;have yx:∀x,(D.wd a).k=2\/((D.wd a).k=3/\∃y,(D.wd a).x=U y/\y.1=x)->(D.wd a).i<p.n->pX p.P p.Sh p.Gr p.fN p.iL (D.wd a).i x (λb=>D.who b=U (q0+1+a)) g w->Goal p q0 w0 D gs w t sl (q0+1+a):=by
  intro x hk dr hj
  rcases hj.step YK with⟨y,g1,w1,es,hst,hs,he,_,hj'⟩|⟨g1,w1,es,v,F,m,hs,he,_,hres,hF,hG⟩
  ·refine h.IZ hp ha hg hs he (d:=⟨3,(D.wd a).i,(D.wd a).m,U ⟨y,hj'.acc⟩⟩) (.inl rfl) ⟨dr,⟨y,hj'.acc⟩,rfl,?_⟩ ⟨by simp,by simp⟩ ⟨λ_=>by rcases hk with hk|hk<;>omega,λ_=>by simp⟩ (λ_=>rfl) ?_
   ·have e:(λb=>D.who b=U (q0+1+a)\/(w.heap.size<=b/\b<w1.heap.size))=λb=>grow D.who (q0+1+a) w w1 b=U (q0+1+a):=funext λb=>propext (hO b)
    rw[<- e];exact hj'
   rcases hk with hk|⟨hk,z,hz,rfl⟩
   ·refine br.EX ?_;unfold br.WD.el;rw[hk];show (3:Nat)<4;omega
   refine .inr ⟨?_,.inr ⟨rfl,⟨y,hj'.acc⟩,z,rfl,hz,hst⟩⟩;unfold br.WD.el;rw[hk]
  refine h.IZ hp ha hg hs he (d:=⟨4,(D.wd a).i,m,J⟩) (.inr rfl) ⟨dr,v,F,hres,λb hb=>?_,?_⟩ ⟨by simp,by simp⟩ ⟨λ_=>by rcases hk with hk|hk<;>omega,λ_=>by simp⟩ (λ_=>rfl) ?_
  ·have key:∀k,gone (grow D.who (q0+1+a) w w1) (q0+1+a) b=U k->False:=λk e=>by
    unfold gone at e
    split at e
    ·cases e
    rename_i hne
    rcases hF b hb with(⟨z,_⟩|z)|z
    ·exact hne ((hO b).1 (.inl z))
    ·exact hne ((hO b).1 (.inr z))
    unfold grow at e
    split at e
    ·rename_i hc;have:=hC.lD b z;omega
    exact(hC.fF b ⟨_,e⟩).1 z
   refine⟨?_,λk e=>key k e,λhgr=>?_⟩
   ·rcases hF b hb with(⟨z,_⟩|z)|z
    ·exact dK (hC.lt b _ z) he.size
    ·exact z.2
    exact dK (hC.lD b z) he.size
   rcases hF b hb with(⟨_,z⟩|z)|z
   ·exact z hgr
   ·have:=hC.jE b hgr;omega
   exact hC.lY b z hgr
  ·refine Gt.congr (λb=>⟨False.elim,λe=>?_⟩) hG;unfold gone at e
   split at e
   ·cases e
   rename_i hne;exact hne e
  refine br.EX ?_;unfold br.WD.el
  rcases hk with hk|⟨hk,_⟩
  ·rw[hk];show (2:Nat)<4;omega
  rw[hk];show (2:Nat)<3;omega
 have walk:∀{S:(Nat->Prop)->Goroutine->ah->Prop} {m':Nat},(D.wd a).m=m'+1->(D.wd a).k=0\/(D.wd a).k=2\/(D.wd a).k=4->(∃g' w' es,stepG p.P false g w=.go g' w' es/\Ef false (λb=>D.who b=U (q0+1+a)) p.Sh p.Gr w w' es/\p.gt false S m' (deafBehind 0 es) (λb=>D.who b=U (q0+1+a)\/(w.heap.size<=b/\b<w'.heap.size)) g' w') ->
   (∀g' w',(∀b,b<w.heap.size->D.who b≠U (q0+1+a)->w'.heap[b]?=w.heap[b]?)->w.heap.size<=w'.heap.size->p.gt false S m' 0 (λb=>grow D.who (q0+1+a) w w' b=U (q0+1+a)) g' w'->p.WS (grow D.who (q0+1+a) w w') ⟨(D.wd a).k,(D.wd a).i,m',(D.wd a).x⟩ (λb=>grow D.who (q0+1+a) w w' b=U (q0+1+a)) g' w')->Goal p q0 w0 D gs w t sl (q0+1+a):=by
  rintro S m' hm hk ⟨g',w',es,hs,he,hG⟩ hW;rw[he.hears]at hG
  refine h.IZ hp ha hg hs he (d:=⟨(D.wd a).k,(D.wd a).i,m',(D.wd a).x⟩) (.inl rfl) (hW g' w' he.frame he.size (Gt.congr hO hG)) ⟨by rcases hk with hk|hk|hk<;>simp[hk],by rcases hk with hk|hk|hk<;>simp[hk]⟩ lB (λ_=>rfl) (br.YG rfl ?_);show m'<(D.wd a).m
  omega
 have hno:∀{w':ah} {F:Nat->Prop},(∀b,b<w.heap.size->D.who b≠U (q0+1+a)->w'.heap[b]?=w.heap[b]?)->w.heap.size<=w'.heap.size->oV p D.who w F->oV p (grow D.who (q0+1+a) w w') w' F:=λ_ hs hF=>hF.on hs λb hb eW k e=>by
  unfold grow at e;rw[aF (by omega)]at e;exact eW k e
 generalize hd:D.wd a=d at h2 yx walk;obtain⟨k,i,m,x⟩:=d;unfold br.WS at h2;obtain _|_|_|_|_|_|k:=k
 ·rcases Gt.now h2 with⟨_,hS⟩|⟨m',rfl,_,hs⟩
  ·exact h.recv hp ha hg (by rw[hd]) (hS w (.refl ..))
  exact walk rfl (.inl rfl) (hs w (.refl ..)) λg' w' _ _ hG=>hG
 ·obtain⟨g0,_,rfl⟩:=h2
  cases hrun
 ·rcases Gt.now h2.2 with⟨_,hS⟩|⟨m',rfl,_,hs⟩
  ·obtain⟨y,hy⟩:=hS w (.refl ..);exact yx y (.inl rfl) h2.1 hy
  exact walk rfl (.inr (.inl rfl)) (hs w (.refl ..)) λg' w' _ _ hG=>⟨h2.1,hG⟩
 ·obtain⟨dr,y,hy,hj⟩:=h2;exact yx y.1 (.inr ⟨rfl,y,hy,rfl⟩) dr hj
 ·obtain⟨dr,v,F,hres,hF,hG⟩:=h2
  rcases Gt.now hG with⟨_,hS⟩|⟨m',rfl,_,hs⟩
  ·exact h.send hp ha hg (by rw[hd]) (by rw[hd];exact dr) (hS w (.refl ..)) (by rw[hd];exact hres) hF
  exact walk rfl (.inr (.inr rfl)) (hs w (.refl ..)) λg' w' Ct hsz YL=>⟨dr,v,F,hp.res _ _ _ _ _ hres (λb hb=>Ct b (hF b hb).1 ((hF b hb).2.1 _)) hsz,hno Ct hsz hF,YL⟩
 ·obtain⟨_,v,F,_,_,g0,_,rfl⟩:=h2
  cases hrun
 exact h2.elim
def S1.Done(p:br)(q0:Nat)(w0:ah)(D:D1 p)(gs:Array Goroutine)(w:ah)(t:Trace):Prop:=S1 p q0 w0 D gs w t/\D.j=p.mW/\Deaf t 0=0/\p.all D.rv/\∃a,gs[0]?=U a/\p.Cl D.rv D.O0 a w
def YM(hp:p.Ok)(ve:0<p.n->0<p.mW)(h:S1 p q0 w0 D gs w t):(∃d sl',stepT p.P (crowd gs w sl)=runT p.P (crowd gs (w.at d) sl') 0/\S1.Done p q0 w0 D gs (w.at d) t) \/
  ∃D' gs' w' sl' ops,stepT p.P (crowd gs w sl)=(.next (crowd gs' w' sl'),ops)/\S1 p q0 w0 D' gs' w' (t++ops)/\D'.less q0 D:=by
 obtain⟨a,ha,bQ⟩:=id h.lZ;have hst:∀{O g w},p.Z D.j D.nx D.rv O g w->g.status=.running:=by
  rintro O g w (⟨_,hS⟩|⟨_,⟨_,hS⟩|⟨_,hS⟩⟩)
  ·exact(hp.Cm _ _ _ _ hS).1
  ·exact hp.ER _ _ _ _ hS
  exact(hp.yv _ _ _ _ _ hS).1
 have uO:∀g∈gs,awake g:=by
  intro g hg;obtain⟨i,hi⟩:=Cj.1 hg;have key:g.status=.running\/g.status=.finished\/g.status=.blocked:=by
   rcases kG i with rfl|jM
   ·rcases h.IY hp hi h.sit.kg h.sit.kJ with e|⟨g0,cs,sh,rfl,_⟩
    ·exact .inl e
    exact .inr (.inr rfl)
   rcases h.sit.calm hp jM hi h.sit.kg h.sit.kJ with e|e|⟨g0,cs,sh,rfl,_⟩
   ·exact .inl e
   ·exact .inr (.inl e)
   exact .inr (.inr rfl)
  intro t e
  rcases key with k|k|k<;>(rw[e]at k;cases k)
 have hsome:∃(i:Nat) (g:Goroutine),gs[i]?=U g/\g.status=.running:=by
  by_cases jA:D.ck=1
  ·unfold kK at bQ;rw[jA]at bQ;exact⟨0,a,ha,Gt.running bQ λ_ _ _=>hst⟩
  -- the caller is parked: a worker runs
  unfold kK at bQ
  split at bQ
  ·rename_i e;exact absurd e jA
  ·obtain⟨_,YN,hall,g0,_,_,h5,h1⟩:=bQ;have run:∀b,b<D.j->(D.wd b).k≠1->(D.wd b).k≠5->∃(i:Nat) (g:Goroutine),gs[i]?=U g/\g.status=.running:=by
    intro b hb b1 b5;obtain⟨g,g1,g2⟩:=h.sit.work b hb
    refine⟨_,g,g1,?_⟩
    rcases h.sit.calm hp (by omega) g1 h.sit.kg h.sit.kJ with e|e|⟨g0,cs,sh,e,_⟩
    ·exact e
    ·exfalso
     revert g2 b1 b5
     generalize D.wd b=d;obtain⟨k,i,m,y⟩:=d;unfold br.WS;have no:g.status=.running->False:=λx=>by rw[e]at x;cases x
     obtain _|_|_|_|_|_|k:=k
     ·exact λ_ _ h=>no (Gt.running h λ_ g _ hS=>(hp.qM g hS).1)
     ·exact λb1 _ _=>b1 rfl
     ·exact λ_ _ h=>no (Gt.running h.2 λ_ g _ ⟨x,hS⟩=>hS.running)
     ·rintro _ _ ⟨_,x,_,h⟩;exact no h.running
     ·rintro _ _ ⟨_,v,F,_,_,h⟩;exact no (Gt.running h λ_ g _ hS=>(hp.yu v g hS).1)
     ·exact λ_ b5 _=>b5 rfl
     exact λ_ _ h=>h.elim
    exfalso
    rcases h.blocked hp g1 (by rw[e];rfl)with⟨e0,_⟩|⟨c,_,e0,⟨e1,_⟩|⟨e1,_⟩⟩
    ·omega
    ·have:b=c:=by omega
     subst this;exact b1 e1
    have:b=c:=by omega
    subst this;exact b5 e1
   by_cases jl:D.nx<p.n
   ·have oX:0<D.j:=by rw[YN];exact ve (by omega)
    exact run 0 oX (h1 jl 0 oX) (h5 0 oX)
   have:∃i,i<p.n/\D.rv i=J:=by
    refine BV λhx=>hall λi hi e=>hx ⟨i,hi,e⟩
   obtain⟨i,hi,I5⟩:=this;obtain⟨b,hb,hb2,_⟩:=h.sit.o i (by omega) I5;exact run b hb (by omega) (h5 b hb)
  exact bQ.elim
 obtain⟨k,g,d,sl',hk,hgr,yo⟩:=crowd_pick (P:=p.P) (w:=w) (sl:=sl) uO hsome;have hD:=h.tH hp d;have fin:Goal p q0 w0 D gs (w.at d) t sl' k->(∃d sl',stepT p.P (crowd gs w sl)=runT p.P (crowd gs (w.at d) sl') 0/\S1.Done p q0 w0 D gs (w.at d) t)\/∃D' gs' w' sl' ops,stepT p.P (crowd gs w sl)=(.next (crowd gs' w' sl'),ops)/\S1 p q0 w0 D' gs' w' (t++ops)/\D'.less q0 D:=λ⟨D',gs',w',ops,e1,e2,e3⟩=>.inr ⟨D',gs',w',sl',ops,yo.trans e1,e2,e3⟩
 rcases kG k with rfl|jM
 ·rw[ha]at hk;cases hk;have jA:D.ck=1:=by
   unfold kK at bQ
   split at bQ
   ·assumption
   ·obtain⟨_,_,_,g0,_,rfl,_⟩:=bQ
    cases hgr
   exact bQ.elim
  unfold kK at bQ;rw[jA]at bQ
  rcases Gt.now bQ with⟨dP,hS⟩|⟨m,hm,_,hs⟩
  ·rcases hS (w.at d) (Cn ..)with⟨hj,YO⟩|⟨hj,⟨hall,I'⟩|⟨hall,YP⟩⟩
   ·apply fin
    obtain⟨_,_,g',child,hsp,YQ,m,hG⟩:=hp.Cm _ _ _ _ YO;obtain⟨mc,YR⟩:=YQ (w.at d) hD.sit.hold;exact hD.spawn hp ha dP hj jA (hsp _) YR hG
   ·exact .inl ⟨d,sl',yo,hD,hj,dP,hall,a,ha,I'⟩
   exact fin (hD.select hp ha jA dP hj hall YP)
  apply fin
  obtain⟨g',w',es,e1,e2,e3⟩:=hs (w.at d) (Cn ..);exact hD.YB hp ha jA e1 e2 e3 hm
 by_cases hq:k<=q0
 ·exact fin (hD.leave hp jM hq hk hgr)
 have hlt:k<gs.size:=(bD.1 hk).1;obtain⟨b,rfl⟩:∃b,k=q0+1+b:=⟨k-(q0+1),by omega⟩;exact fin (hD.worker hp (by have:=h.sit.size;omega) hk hgr)
def OQ{P:Program}{α:Type}{r:α->α->Prop}(wf:WellFounded r)(Inv:α->Machine->Trace->Prop)(Q:Machine->Trace->Prop)
  (h:∀μ m t,Inv μ m t->Q m t\/(∃m' ops μ',stepT P m=(.next m',ops)/\r μ' μ/\Inv μ' m' (t++ops))):∀μ m t,Inv μ m t->∃n m' t',runNT P n m t=(.next m',t')/\Q m' t':=by
 intro μ
 induction μ using wf.induction with
 |_ μ ih=>
  intro m t hI
  rcases h μ m t hI with hq|⟨m',ops,μ',hs,hr,hI'⟩
  ·exact⟨0,m,t,rfl,hq⟩
  obtain⟨n,m2,t',h1,h2⟩:=ih μ' hr m' (t++ops) hI';exact⟨n+1,m2,t',by rw[pW hs];exact h1,h2⟩
def YS(hp:p.Ok)(ve:0<p.n->0<p.mW)(h:S1 p q0 w0 D gs w t):∃n m' D' gs' w' sl' t',runNT p.P n (crowd gs w sl) t=(.next m',t')/\stepT p.P m'=runT p.P (crowd gs' w' sl') 0/\S1.Done p q0 w0 D' gs' w' t':=by
 obtain⟨n,m',t',h1,D',gs',w',sl',h3,h2⟩:=OQ (P:=p.P) (Yq p.lt) (λμ m t=>∃(D:D1 p) (gs:Array Goroutine) (w:ah) (sl:Option (Nat×Nat)),m=crowd gs w sl/\S1 p q0 w0 D gs w t/\μ.1=D.N/\μ.2.1=D.Cq q0)
  (λm t=>∃(D:D1 p) (gs:Array Goroutine) (w:ah) (sl:Option (Nat×Nat)),stepT p.P m=runT p.P (crowd gs w sl) 0/\S1.Done p q0 w0 D gs w t)
  (by
   rintro μ m t ⟨D,gs,w,sl,rfl,hS,e1,e2⟩
   rcases YM (sl:=sl) hp ve hS with⟨d,sl',hs,hd⟩|⟨D',gs',w',sl',ops,hs,yA,hl⟩
   ·exact .inl ⟨D,gs,w.at d,sl',hs,hd⟩
   refine .inr ⟨_,ops,⟨D'.N,⟨D'.Cq q0,IQ λx _=>p.Oy x⟩⟩,hs,?_,D',gs',w',sl',rfl,yA,rfl,rfl⟩
   rcases hl with hl|⟨hl,hl2⟩
   ·exact .inl (by rw[e1];exact hl)
   exact .inr ⟨by rw[e1];exact hl,by rw[e2];exact hl2⟩)
  ⟨D.N,⟨D.Cq q0,IQ λx _=>p.Oy x⟩⟩ (crowd gs w sl) t ⟨D,gs,w,sl,rfl,h,rfl,rfl⟩
 exact⟨n,m',D',gs',w',sl',t',h1,h3,h2⟩
end
open Go.ConcN (sumTo upd sumTo_upd upd_ne upd_same RelBy WgLive)
open Go.ConcR (KK WgAt stA smA rd wr mk DC0)
section
variable {P:Program}{main:Bool}{R:ah->ah->Prop}{D:ah->ah->Array Event->Prop}{S S':Goroutine->ah->Prop}
def YT(rf:∀w,R w w){F:ah->Prop}(hF:∀w w₁,F w->R w w₁->F w₁)(hD:∀w w' es,F w->D w w' es->F w'){m:Nat}:∀{n:Nat} {g:Goroutine} {w:ah},F w->Goes P main R D S n g w->(∀g w,F w->S g w->Goes P main R D S' m g w)->Goes P main R D S' (n+m) g w:=by
 intro n
 induction n with
 |zero=>
  intro g w f h hk;rw[pH];exact hk g w f (h w (rf w))
 |succ n ih=>
  intro g w f h hk
  rcases h with h|⟨hs,h⟩
  ·exact tD (by omega:m<=n+1+m) (hk g w f (h w (rf w)))
  rw[show n+1+m=n+m+1 by omega]
  refine .inr ⟨hs,λw₁ h₁=>?_⟩;have h2:=h w₁ h₁
  cases hg:stepG P main g w₁ with
  |go g' w' es=>
   rw[hg,goes_go]at h2;rw[goes_go];exact⟨h2.1,ih (hD _ _ _ (hF _ _ f h₁) h2.1) h2.2 hk⟩
  |_=>rw[hg]at h2;exact h2.elim
def Ja(h:Goes P main R D S n g w):(∀w₁,R w w₁->S g w₁)\/∃m,n=m+1/\g.status=.running/\∀w₁,R w w₁->(stepG P main g w₁).goes λg' w' es=>D w₁ w' es/\Goes P main R D S m g' w':=by
 cases n with
 |zero=>exact .inl h
 |succ n=>exact h.imp id λx=>⟨n,rfl,x⟩
end
structure ft where
 p:br
 ty:TypeId
 gB:Goroutine
 An:Goroutine->ah->Prop
 q0:Nat
 w0:ah
 wS:ah
 kept:Nat->Prop
structure ft.Ok(x:ft):Prop where
 ok:x.p.Ok
 shut:∀g w,x.p.Recv g->WgLive x.ty x.p.Wg w->∃m,Goes x.p.P false (fA x.ty x.p.Wg) DC0 (wR x.p.P x.ty x.p.Wg) m (Go.Conc.served g (aX #[x.p.z1,aJ false])) w
 round:∀g w,x.An g w->WgLive x.ty x.p.Wg w->Goes x.p.P true (fA x.ty x.p.Wg) DC0 (yq x.p.P x.ty x.p.Wg true x.gB x.An) 200 g w
 few:x.p.mW<2147483647
 kept:∀b,x.kept b->b<x.wS.heap.size/\b≠x.p.Wg/\b≠x.p.c1
abbrev ft.go (x:ft) (main:Bool) (S:Goroutine->World->Prop):=Goes x.p.P main (fA x.ty x.p.Wg) DC0 S
def ft.W(x:ft)(k m:Nat)(O:Nat->Prop)(g:Goroutine)(w:ah):Prop:=
 match k with
 |0=>x.p.gt false (λ_ g _=>x.p.Recv g) m 0 O g w
 |1=>∃g0,x.p.Recv g0/\g={ parked g0 #[rcase x.p.c1 x.p.z1] (.recv true)with status:=.running }
 |2=>x.go false (wR x.p.P x.ty x.p.Wg) m g w
 |3=>x.go false (Says x.p.P x.ty x.p.Wg false .disable (Ch x.p.P x.ty x.p.Wg)) m g w
 |4=>x.go false (Ch x.p.P x.ty x.p.Wg) m g w
 |5=>x.go false (IL x.p.P x.ty x.p.Wg) m g w
 |6=>x.go false (IK x.p.P x.ty x.p.Wg) m g w
 |7=>x.go false (IJ x.p.P x.ty x.p.Wg) m g w
 |_=>False
def ft.C(x:ft)(k m vs:Nat)(a:Goroutine)(w:ah):Prop:=
 match k with
 |1=>x.go true (Says x.p.P x.ty x.p.Wg true .disable x.An) m a w
 |2=>x.go true (yq x.p.P x.ty x.p.Wg true x.gB x.An) m a w
 |3=>x.go true (Ol x.p.P x.ty x.p.Wg true x.gB x.An vs) m a w
 |4=>x.go true (Says x.p.P x.ty x.p.Wg true (.write (smA x.p.Wg)) (EK x.p.P x.ty x.p.Wg true x.gB)) m a w
 |5=>x.go true (EK x.p.P x.ty x.p.Wg true x.gB) m a w
 |6=>∃g,(∀w₁,fA x.ty x.p.Wg w w₁->EK x.p.P x.ty x.p.Wg true x.gB g w₁)/\a={ g with status:=.blocked }
 |7=>x.go true (Oj x.p.P x.ty x.p.Wg true x.gB) m a w
 |8=>x.go true (IP x.p.P x.ty x.p.Wg true x.gB) m a w
 |9=>x.go true (Says x.p.P x.ty x.p.Wg true (.acquire (stA x.p.Wg)) (uV x.gB)) m a w
 |_=>False
structure D2 where
 wk:Nat->Nat
 wm:Nat->Nat
 who:Nat->Option Nat
 q:Nat->Nat
 ck:Nat
 cm:Nat
 vs:Nat
variable{D':D2}
def D2.v(D:D2)(n:Nat):Nat:=sumTo n λa=>if D.wk a<=4 then 1 else 0
def ft.Mode(x:ft)(D:D2)(w:ah):Prop:=
 (WgAt x.ty x.p.Wg w (D.v x.p.mW*KK) 0/\(D.ck=1\/D.ck=2\/(D.ck=3/\D.vs≠0)\/(D.v x.p.mW=0/\(D.ck=7\/D.ck=8\/D.ck=9)))/\(∀a,a<x.p.mW->D.wk a<=4\/D.wk a=8)) \/
 (0<D.v x.p.mW/\WgAt x.ty x.p.Wg w (D.v x.p.mW*KK+1) 0/\(D.ck=4\/D.ck=5\/D.ck=6)/\(∀a,a<x.p.mW->D.wk a<=4\/D.wk a=8)) \/
 (D.v x.p.mW=0/\(D.ck=4\/D.ck=5\/D.ck=6)/\∃b,b<x.p.mW/\(∀a,a<x.p.mW->a≠b->D.wk a=8)/\(((D.wk b=5\/D.wk b=6)/\WgAt x.ty x.p.Wg w 1 0)\/(D.wk b=7/\WgAt x.ty x.p.Wg w 0 0))) \/
 (D.v x.p.mW=0/\(D.ck=4\/D.ck=5)/\WgAt x.ty x.p.Wg w 0 1/\∀a,a<x.p.mW->D.wk a=8)
def ft.Mode.live{x:ft}{D:D2}(h:x.Mode D w):WgLive x.ty x.p.Wg w:=by
 rcases h with⟨h,_⟩|⟨_,h,_⟩|⟨_,_,b,_,_,⟨_,h⟩|⟨_,h⟩⟩|⟨_,_,h,_⟩<;>exact⟨_,_,h⟩
structure S2(x:ft)(D:D2)(gs:Array Goroutine)(w:ah)(t:Trace):Prop where
 size:gs.size=1+x.q0+x.p.mW
 core:Core w t (x.q0,x.q0+x.p.mW) D.who x.p.Sh x.p.Gr
 old:∀k g,0<k->k<=x.q0->gs[k]?=U g->QuitsD x.p.P (D.q k) (Deaf t k) g
 above:∀k,x.q0+x.p.mW<k->Deaf t k=0
 work:∀a,a<x.p.mW->∃g,gs[x.q0+1+a]?=U g/\(x.W (D.wk a) (D.wm a) (λb=>D.who b=U (x.q0+1+a)) g w\/(D.wk a=8/\QuitsD x.p.P (D.wm a) (Deaf t (x.q0+1+a)) g))
 deaf:∀a,a<x.p.mW->(D.wk a<=3->Deaf t (x.q0+1+a)=0)/\(4<=D.wk a->D.wk a<=7->Deaf t (x.q0+1+a)=1)
 rel:∀a,a<x.p.mW->3<=D.wk a->∃r,RelBy (stA x.p.Wg) t (x.q0+1+a) r/\∀(i:Nat) (y:MemOp) (b:Touch),r<i->t[i]?=U y->y.g=x.q0+1+a->y.act.touch?=U b->lb b.loc=U x.p.Wg/\b.kind=.atomic
 ch:∃s,w.heap[x.p.c1]?=U (.chan 0 #[] true s s false)
 lZ:∃a,gs[0]?=U a/\x.C D.ck D.cm D.vs a w
 Cu:Deaf t 0=if 2<=D.ck/\D.ck<=8 then 1 else 0
 mode:x.Mode D w
 keep:∀b,x.kept b->w.heap[b]?=x.wS.heap[b]?/\∀k,x.q0<k->D.who b≠U k
 grown:x.wS.heap.size<=w.heap.size
 same:bG x.w0 w
 tr:Tr x.q0 (x.q0+x.p.mW) x.p.Shun (stA x.p.Wg) t
def l_(Wg:Nat)(main:Bool)(e:Event):Prop:=
 (e=mk .disable\/e=mk .enable\/e=mk (.releaseMerge (stA Wg))\/e=mk (.acquire (stA Wg)))\/(main=true/\(e=mk (.read (smA Wg))\/e=mk (.write (smA Wg))))\/∃a wr,e=⟨.cell a,wr,true⟩/\a.block=Wg
section
variable {Wg:Nat}{main:Bool}{e:Event}
def l_.touch(h:l_ Wg main e){a:Touch}(ha:(MemAct.ofEvent e).touch?=U a):lb a.loc=U Wg/\a.kind≠.plain/\(a.kind=.said->main=true)/\(main=false->a.kind=.atomic):=by
 rcases h with(rfl|rfl|rfl|rfl)|⟨hm,rfl|rfl⟩|⟨p,wr,rfl,hp⟩
 ·cases ha
 ·cases ha
 ·cases ha
 ·cases ha
 ·cases ha;exact⟨rfl,by simp,λ_=>hm,λe=>by rw[hm]at e;cases e⟩
 ·cases ha;exact⟨rfl,by simp,λ_=>hm,λe=>by rw[hm]at e;cases e⟩
 cases ha;exact⟨by rw[<- hp];rfl,by simp,by simp,by simp⟩
def l_.low(h:l_ Wg main e){N:Nat}(hN:Wg<N):(MemAct.ofEvent e).low N:=by
 rcases h with(rfl|rfl|rfl|rfl)|⟨hm,rfl|rfl⟩|⟨p,wr,rfl,hp⟩
 ·trivial
 ·trivial
 ·exact hN
 ·exact hN
 ·exact hN
 ·exact hN
 show p.block<N;rw[hp];exact hN
def l_.norel(h:l_ Wg main e):e.loc≠.mark (.release A):=by
 rcases h with(rfl|rfl|rfl|rfl)|⟨hm,rfl|rfl⟩|⟨p,wr,rfl,hp⟩<;>exact λx=>by cases x
end
def Core.td{n:Rg}{Sh Gr:Nat->Prop}{fn:FuncId}{pos:String}(h:Core w t n who Sh Gr)(hg:Gr Wg)(hk:Hs n k)(hm:main=true->k=0)(hs:w'.heap.size=w.heap.size)(he:∀e∈es,l_ Wg main e):Core w' (t++MemOp.ofEvents k fn pos es) n who Sh Gr:=by
 refine⟨λsaid=>(h.tk said).app h.fF h.lY (.inl hk) (ym λe kI=>⟨rfl,λa ha=>?_⟩),λop hop=>?_,λb k hb=>by rw[hs];exact h.lt b k hb,h.fF,h.lY,λb hb=>by rw[hs];exact h.lD b hb,λb hb=>by rw[hs];exact h.jE b hb,h.rR⟩
 ·obtain⟨h1,h2,h3,_⟩:=(he e kI).touch ha;exact .inl ⟨Wg,h1,.inr (.inr ⟨hg,h2,λx=>hm (h3 x)⟩)⟩
 rw[hs]
 rcases mL.1 hop with x|x
 ·exact h.seen op x
 obtain⟨e,kI,rfl⟩:=jQ x;exact(he e kI).low (h.jE _ hg)
section
variable {x:ft}{D D':D2}{gs gs':Array Goroutine}{w w':ah}{t u:Trace}
def rg_of(h:WgLive x.ty x.p.Wg w'):fA x.ty x.p.Wg w w':=λ_=>h
def oY(h:x.go main S n g w)(hl:WgLive x.ty x.p.Wg w'):x.go main S n g w':=Goes.rely fA.trans h (rg_of hl)
def ft.W.on(h:x.W k m O g w)(hr:Rl O x.p.Sh w w')(hl:WgLive x.ty x.p.Wg w'):x.W k m O g w':=by
 unfold ft.W at h⊢;obtain _|_|_|_|_|_|_|_|k:=k
 ·exact Gt.rely h hr
 ·exact h
 ·exact oY h hl
 ·exact oY h hl
 ·exact oY h hl
 ·exact oY h hl
 ·exact oY h hl
 ·exact oY h hl
 exact h.elim
def ft.C.on{a:Goroutine}(h:x.C k m vs a w)(hl:WgLive x.ty x.p.Wg w'):x.C k m vs a w':=by
 unfold ft.C at h⊢;obtain _|_|_|_|_|_|_|_|_|_|k:=k
 ·exact h
 ·exact oY h hl
 ·exact oY h hl
 ·exact oY h hl
 ·exact oY h hl
 ·exact oY h hl
 ·obtain⟨g,h1,h2⟩:=h;exact⟨g,λw₁ h₁=>h1 w₁ λ_=>h₁ hl,h2⟩
 ·exact oY h hl
 ·exact oY h hl
 ·exact oY h hl
 exact h
def Am{m:Mark}{w:ah}(h:Says P ty Wg main m S g w):g.status=.running:=h.1
def oZ(h:x.go main S n g w)(hS:∀g w,S g w->g.status=.running):g.status=.running:=by
 rcases Ja h with h|⟨_,_,h,_⟩
 ·exact hS g w (h w λy=>y)
 exact h
def ft.W.running(hx:x.Ok)(h:x.W k m O g w):g.status=.running:=by
 unfold ft.W at h;obtain _|_|_|_|_|_|_|_|k:=k
 ·exact Gt.running h λ_ g _ hS=>(hx.ok.qM g hS).1
 ·obtain⟨g0,_,rfl⟩:=h;rfl
 ·exact oZ h λ_ _=>Am
 ·exact oZ h λ_ _=>Am
 ·exact oZ h λ_ _ y=>y.1
 ·exact oZ h λ_ _ y=>y.1
 ·exact oZ h λ_ _ y=>y.1
 ·exact oZ h λ_ _ y=>y.1
 exact h.elim
def ft.C.status{a:Goroutine}(h:x.C k m vs a w):a.status=.running\/(k=6/\a.status=.blocked/\a.offers=J):=by
 unfold ft.C at h;obtain _|_|_|_|_|_|_|_|_|_|k:=k
 ·exact h.elim
 ·exact .inl (oZ h λ_ _=>Am)
 ·exact .inl (oZ h λ_ _ y=>y.1)
 ·exact .inl (oZ h λ_ _ y=>y.1)
 ·exact .inl (oZ h λ_ _=>Am)
 ·exact .inl (oZ h λ_ _ y=>y.1)
 ·obtain⟨g,h1,rfl⟩:=h;exact .inr ⟨rfl,rfl,(h1 w λy=>y).2.1⟩
 ·exact .inl (oZ h λ_ _ y=>y.1)
 ·exact .inl (oZ h λ_ _=>Am)
 ·exact .inl (oZ h λ_ _=>Am)
 exact h.elim
def cw(k:Nat)(f:Bool):Nat:=match k with|1=>13|2=>12|3=>(if f then 11 else 14)|4=>10|5=>9|6=>9|7=>8|8=>7|9=>6|_=>0
def YU(k:Nat)(f f':Bool):cw k f<=cw k f'+3:=by
 obtain _|_|_|_|_|_|_|_|_|_|k:=k<;>cases f<;>cases f'<;>simp[cw]
def D2.N(x:ft)(D:D2):Nat:=sumTo x.p.mW (λa=>8*(9-D.wk a))+cw D.ck (D.v x.p.mW==D.vs)
def D2.M(x:ft)(D:D2):Nat:=2*sumTo x.p.mW D.wm+2*sumTo (x.q0+1) D.q+D.cm+(if D.ck=5 then 1 else 0)
def D2.less(x:ft)(D' D:D2):Prop:=D'.N x<D.N x\/(D'.N x=D.N x/\D'.M x<D.M x)
def S2.change(h:S2 x D gs w t)(a gk:Nat)(hu:∀op∈u,op.g=gk)(hne:∀b,b<x.p.mW->b≠a->gk≠x.q0+1+b)(Jb:gk<=x.q0+x.p.mW)(hsz:gs'.size=gs.size)(iz:Core w' (t++u) (x.q0,x.q0+x.p.mW) D'.who x.p.Sh x.p.Gr)(hs:w.heap.size<=w'.heap.size)(lF:∀b,x.p.Sh b->w'.heap[b]?=w.heap[b]?)
  (hold:∀k g,0<k->k<=x.q0->gs'[k]?=U g->QuitsD x.p.P (D'.q k) (Deaf (t++u) k) g)
  (bj:∀b,b<x.p.mW->b≠a->gs'[x.q0+1+b]?=gs[x.q0+1+b]?/\D'.wk b=D.wk b/\D'.wm b=D.wm b/\(∀y,D.who y=U (x.q0+1+b)->w'.heap[y]?=w.heap[y]?)/\∀y,D'.who y=U (x.q0+1+b)↔D.who y=U (x.q0+1+b))
  (kI:a<x.p.mW->(∃g,gs'[x.q0+1+a]?=U g/\(x.W (D'.wk a) (D'.wm a) (λb=>D'.who b=U (x.q0+1+a)) g w'\/(D'.wk a=8/\QuitsD x.p.P (D'.wm a) (Deaf (t++u) (x.q0+1+a)) g))) /\
   ((D'.wk a<=3->Deaf (t++u) (x.q0+1+a)=0)/\(4<=D'.wk a->D'.wk a<=7->Deaf (t++u) (x.q0+1+a)=1)) /\
   (3<=D'.wk a->∃r,RelBy (stA x.p.Wg) (t++u) (x.q0+1+a) r/\∀(i:Nat) (y:MemOp) (b:Touch),r<i->(t++u)[i]?=U y->y.g=x.q0+1+a->y.act.touch?=U b->lb b.loc=U x.p.Wg/\b.kind=.atomic))
  (hch:w'.heap[x.p.c1]?=w.heap[x.p.c1]?) (bQ:∃a,gs'[0]?=U a/\x.C D'.ck D'.cm D'.vs a w') (mQ:Deaf (t++u) 0=if 2<=D'.ck/\D'.ck<=8 then 1 else 0) (jR:x.Mode D' w')
  (E0:∀b,x.kept b->w'.heap[b]?=w.heap[b]?/\∀k,x.q0<k->D'.who b≠U k) (pK:bG x.w0 w') (yB:Tr x.q0 (x.q0+x.p.mW) x.p.Shun (stA x.p.Wg) (t++u)):S2 x D' gs' w' (t++u):=by
 have dQ:∀k,k≠gk->Deaf (t++u) k=Deaf t k:=λk hk=>Deaf_other t (ey hk) u hu
 refine⟨hsz.trans h.size,iz,hold,λk hk=>by rw[dQ k (by omega)];exact h.above k hk,λb hb=>?_,λb hb=>?_,λb hb hb3=>?_,by rw[hch];exact h.ch,bQ,mQ,jR,λb hb=>⟨(E0 b hb).1.trans (h.keep b hb).1,(E0 b hb).2⟩,bH h.grown hs,pK,yB⟩
 ·by_cases e:b=a
  ·subst e;exact(kI hb).1
  obtain⟨o1,o2,o3,o4,o5⟩:=bj b hb e;obtain⟨g,h1,h2⟩:=h.work b hb
  refine⟨g,o1.trans h1,?_⟩;rw[o2,o3,dQ _ (ey (hne b hb e))]
  refine h2.imp (λy=>?_) id;rw[show (λy=>D'.who y=U (x.q0+1+b))=λy=>D.who y=U (x.q0+1+b)from funext λy=>propext (o5 y)];exact y.on ⟨λz hz=>hz.elim (o4 z) (lF z),hs⟩ jR.live
 ·by_cases e:b=a
  ·subst e;exact(kI hb).2.1
  rw[(bj b hb e).2.1,dQ _ (ey (hne b hb e))];exact h.deaf b hb
 by_cases e:b=a
 ·subst e;exact(kI hb).2.2 hb3
 rw[(bj b hb e).2.1]at hb3;obtain⟨r,h1,h2⟩:=h.rel b hb hb3
 refine⟨r,h1.appOther hu (hne b hb e),λi y c hi hy Ao hc=>?_⟩
 rcases getElem?_append_cases hy with⟨_,hy'⟩|⟨_,w9⟩
 ·exact h2 i y c hi hy' Ao hc
 exact absurd ((hu y w9).symm.trans Ao) (hne b hb e)
def S2.Jc(hx:x.Ok)(h:S2 x D gs w t){a:Goroutine}{W:ah}(hk:0<k)(hg:gs[k]?=U g):woken x.p.P a a' W g=g:=by
 refine Aj ?_
 by_cases hq:k<=x.q0
 ·exact(h.old k g hk hq hg).status.imp id .inl
 have hlt:k<gs.size:=(bD.1 hg).1;obtain⟨b,rfl⟩:∃b,k=x.q0+1+b:=⟨k-(x.q0+1),by omega⟩;obtain⟨g',h1,h2⟩:=h.work b (by have:=h.size;omega);rw[hg]at h1;cases h1
 rcases h2 with h2|⟨_,h2⟩
 ·exact .inl (h2.running hx)
 exact h2.status.imp id .inl
def YV{a:Goroutine}(h:x.C k m vs a w):woken x.p.P g g' w a=a\/(k=6/\x.C 5 0 vs (woken x.p.P g g' w a) w):=by
 rcases h.status with e|⟨rfl,e1,e2⟩
 ·exact .inl (Aj (.inl e))
 unfold woken
 split
 ·right
  obtain⟨y,h1,rfl⟩:=h
  refine⟨rfl,?_⟩;have hr:=(h1 w λz=>z).1;have:({ y with status:=.blocked }:Goroutine).again w=y:=by
   have ho:y.offers=J:=(h1 w λz=>z).2.1;obtain⟨fr,cs,st,dy,of⟩:=y;simp only at hr ho;subst hr ho;rfl
  rw[this];exact h1
 exact .inl rfl
def YW{a:Goroutine}(h:x.C 6 m vs a w)(hm:mayWake x.p.P g=true)(hs:g'.status=.running\/g'.status=.finished):x.C 5 0 vs (woken x.p.P g g' w a) w:=by
 obtain⟨y,h1,rfl⟩:=h;have hr:=(h1 w λz=>z).1;have ho:y.offers=J:=(h1 w λz=>z).2.1;have:woken x.p.P g g' w ({ y with status:=.blocked }:Goroutine)=y:=by
  unfold woken;rw[aU (by rcases hs with e|e<;>simp[hm,e])];obtain⟨fr,cs,st,dy,of⟩:=y;simp only at hr ho;subst hr ho;rfl
 rw[this];exact h1
end
section
variable {x:ft}{D:D2}{gs gs':Array Goroutine}{w w':ah}{t u:Trace}{sl:Option (Nat×Nat)}
abbrev ki (x:ft) (D:D2) (gs:Array Goroutine) (w:World) (t:Trace) (sl:Option (Nat×Nat)) (k:Nat):Prop:=
 ∃D' gs' w' ops,runT x.p.P (crowd gs w sl) k=(.next (crowd gs' w' sl),ops)/\S2 x D' gs' w' (t++ops)/\D'.less x D
def S2.move(hx:x.Ok)(h:S2 x D gs w t)(hk:0<k)(hg:gs[k]?=U g)(hst:stepG x.p.P false g w=.go g' w' es)(Dn:D2)(jA:Dn.ck=D.ck)(hcm:Dn.cm=D.cm)(Ap:Dn.vs=D.vs)(a:Nat)(ha:(k=x.q0+1+a/\a<x.p.mW)\/(k<=x.q0/\a=x.p.mW))
  (iz:Core w' (t++MemOp.ofEvents k g.frame.fn g.frame.place es) (x.q0,x.q0+x.p.mW) Dn.who x.p.Sh x.p.Gr) (hs:w.heap.size<=w'.heap.size) (lF:∀b,x.p.Sh b->w'.heap[b]?=w.heap[b]?)
  (hq:∀i,i≠k->Dn.q i=D.q i) (rS:k<=x.q0->QuitsD x.p.P (Dn.q k) (Deaf (t++MemOp.ofEvents k g.frame.fn g.frame.place es) k) g')
  (bj:∀b,b<x.p.mW->b≠a->Dn.wk b=D.wk b/\Dn.wm b=D.wm b/\(∀y,D.who y=U (x.q0+1+b)->w'.heap[y]?=w.heap[y]?)/\∀y,Dn.who y=U (x.q0+1+b)↔D.who y=U (x.q0+1+b))
  (kI:a<x.p.mW->(x.W (Dn.wk a) (Dn.wm a) (λb=>Dn.who b=U (x.q0+1+a)) g' w'\/(Dn.wk a=8/\QuitsD x.p.P (Dn.wm a) (Deaf (t++MemOp.ofEvents k g.frame.fn g.frame.place es) (x.q0+1+a)) g')) /\
   ((Dn.wk a<=3->Deaf (t++MemOp.ofEvents k g.frame.fn g.frame.place es) (x.q0+1+a)=0)/\(4<=Dn.wk a->Dn.wk a<=7->Deaf (t++MemOp.ofEvents k g.frame.fn g.frame.place es) (x.q0+1+a)=1)) /\
   (3<=Dn.wk a->∃r,RelBy (stA x.p.Wg) (t++MemOp.ofEvents k g.frame.fn g.frame.place es) (x.q0+1+a) r/\∀(i:Nat) (y:MemOp) (b:Touch),r<i->(t++MemOp.ofEvents k g.frame.fn g.frame.place es)[i]?=U y->y.g=x.q0+1+a->y.act.touch?=U b->lb b.loc=U x.p.Wg/\b.kind=.atomic))
  (hch:w'.heap[x.p.c1]?=w.heap[x.p.c1]?) (Aq:∀c,gs[0]?=U c->woken x.p.P g g' w' c=c->x.Mode Dn w') (E1:D.ck=6->x.Mode { Dn with ck:=5,cm:=0 } w')
  (E0:∀b,x.kept b->w'.heap[b]?=w.heap[b]?/\∀k,x.q0<k->Dn.who b≠U k) (pK:bG x.w0 w') (Jd:∀e∈es,e.loc≠.mark (.release (stA x.p.Wg))) (YX:k<=x.q0->∀e∈es,e.mute=true)
  (E4:Dn.N x<D.N x\/(Dn.N x=D.N x/\Dn.M x+1<D.M x)):ki x D gs w t sl k:=by
 have hu:∀op∈MemOp.ofEvents k g.frame.fn g.frame.place es,op.g=k:=λop hop=>by obtain⟨e,_,rfl⟩:=jQ hop;rfl
 have hlt:k<gs.size:=(bD.1 hg).1;have hsz:=h.size;have hrun:=runT_crowd_go (P:=x.p.P) (sl:=sl) (i:=k) hg (by rw[show (k==0)=false by simp;omega];exact hst);obtain⟨c,hc,bQ⟩:=h.lZ;have gS:∀i,i≠0->i≠k->((gs.map (woken x.p.P g g' w')).setIfInBounds k g')[i]?=gs[i]?:=λi h0 hik=>by
  rw[dS (ey hik),oJ]
  cases lg:gs[i]? with
  |none=>rfl
  |some y=>simp only[rM,h.Jc hx (by omega) lg]
 have Jb:((gs.map (woken x.p.P g g' w')).setIfInBounds k g')[k]?=U g':=jk (by simpa using hlt);have hg0:((gs.map (woken x.p.P g g' w')).setIfInBounds k g')[0]?=U (woken x.p.P g g' w' c):=by
  rw[dS (by omega),oJ,hc];rfl
 have OS:k<=x.q0+x.p.mW:=by omega
 have dP:Deaf (t++MemOp.ofEvents k g.frame.fn g.frame.place es) 0=Deaf t 0:=Deaf_other t (by omega) _ hu;have hne:∀b,b<x.p.mW->b≠a->k≠x.q0+1+b:=λb hb eE=>by rcases ha with⟨e,_⟩|⟨e,_⟩<;>omega
 have fin:∀D':D2,D'.wk=Dn.wk->D'.wm=Dn.wm->D'.who=Dn.who->D'.q=Dn.q->x.C D'.ck D'.cm D'.vs (woken x.p.P g g' w' c) w'->x.Mode D' w'->((2<=D'.ck/\D'.ck<=8)↔(2<=D.ck/\D.ck<=8))->D'.less x D->ki x D gs w t sl k:=by
  intro D' e1 e2 e3 e4 hC hM mQ hl
  refine⟨D',_,w',_,hrun,?_,hl⟩
  refine h.change (D':=D') a k hu hne OS (by simp) (by rw[e3];exact iz) hs lF (λi y hi tJ hy=>?_) (λb hb eE=>?_) (λhb=>?_) hch ⟨_,hg0,hC⟩ (by rw[dP,h.Cu];simp only[mQ]) hM (λb hb=>by rw[e3];exact E0 b hb) pK (h.tr.events ?_ Jd)
  ·by_cases e:i=k
   ·subst e;rw[Jb]at hy;cases hy;rw[e4];exact rS tJ
   rw[gS i (by omega) e]at hy;rw[e4,hq i e,Deaf_other t (ey e) _ hu];exact h.old i y hi tJ hy
  ·obtain⟨o1,o2,o3,o4⟩:=bj b hb eE;exact⟨gS _ (by omega) (ey (hne b hb eE)),by rw[e1];exact o1,by rw[e2];exact o2,o3,by rw[e3];exact o4⟩
  ·have hka:k=x.q0+1+a:=by rcases ha with⟨e,_⟩|⟨_,e⟩<;>omega
   obtain⟨m1,m2,m3⟩:=kI hb;rw[e1,e2,e3];exact⟨⟨g',hka▸Jb,m1⟩,m2,m3⟩
  rcases eC x.q0 k with z|z
  ·exact .inr (.inl ⟨z,OS⟩)
  exact .inr (.inr (YX z))
 have qP:WgLive x.ty x.p.Wg w':=by
  by_cases h6:D.ck=6
  ·exact(E1 h6).live
  refine(Aq c hc ?_).live
  rcases bQ.status with e|⟨e,_⟩
  ·exact Aj (.inl e)
  exact absurd e h6
 rcases YV (g:=g) (g':=g') (bQ.on qP)with e|⟨h6,hC⟩
 ·exact fin Dn rfl rfl rfl rfl (by rw[e,jA,hcm,Ap];exact bQ.on qP) (Aq c hc e) (by rw[jA]) (E4.imp id λy=>⟨y.1,by omega⟩)
 refine fin { Dn with ck:=5,cm:=0 } rfl rfl rfl rfl (by rw[show ({ Dn with ck:=5,cm:=0 }:D2).vs=D.vs from Ap];exact hC) (E1 h6) (by rw[h6];simp) ?_;have eN:D2.N x { Dn with ck:=5,cm:=0 }=Dn.N x:=by unfold D2.N;rw[jA,h6];rfl
 have eM:D2.M x { Dn with ck:=5,cm:=0 }<=Dn.M x+1:=by
  unfold D2.M;rw[jA,h6];simp only[kC,show ¬((6:Nat)=5) by omega,j5];omega
 rcases E4 with z|⟨z1,z2⟩
 ·exact .inl (by rw[eN];exact z)
 exact .inr ⟨by rw[eN];exact z1,by omega⟩
def S2.rU(hx:x.Ok)(h:S2 x D gs w t){c c':Goroutine}(hc:gs[0]?=U c)(hst:stepG x.p.P true c w=.go c' w' es)(D':D2)(e1:D'.wk=D.wk)(e2:D'.wm=D.wm)(e3:D'.who=D.who)(e4:D'.q=D.q)(he:∀e∈es,l_ x.p.Wg true e)(hs:w'.heap.size=w.heap.size)(hblk:∀b,b≠x.p.Wg->w'.heap[b]?=w.heap[b]?)
  (hC:x.C D'.ck D'.cm D'.vs c' w') (hM:x.Mode D' w') (mQ:deafBehind (Deaf t 0) es=if 2<=D'.ck/\D'.ck<=8 then 1 else 0) (pK:bG x.w0 w') (E4:D'.less x D):ki x D gs w t sl 0:=by
 have hu:∀op∈MemOp.ofEvents 0 c.frame.fn c.frame.place es,op.g=0:=λop hop=>by obtain⟨e,_,rfl⟩:=jQ hop;rfl
 have hgr:x.p.Gr x.p.Wg:=.inl rfl;have hlt:0<gs.size:=(bD.1 hc).1;have hrun:=runT_crowd_go (P:=x.p.P) (sl:=sl) (i:=0) hc (show stepG x.p.P (0==0) c w=_ from hst);have gS:∀i,i≠0->((gs.map (woken x.p.P c c' w')).setIfInBounds 0 c')[i]?=gs[i]?:=λi h0=>by
  rw[dS (ey h0),oJ]
  cases lg:gs[i]? with
  |none=>rfl
  |some y=>simp only[rM,h.Jc hx (by omega) lg]
 have wE:=h.core
 refine⟨D',_,w',_,hrun,?_,E4⟩
 refine h.change (D':=D') x.p.mW 0 hu (λb _ _=>by omega) (cG _) (by simp) (by rw[e3];exact wE.td hgr (.inl rfl) (λ_=>rfl) hs he) (by omega) (λb hb=>hblk b λe=>hx.ok.pY b hb (.inl e)) (λi y hi tJ hy=>?_) (λb hb _=>⟨gS _ (by omega),by rw[e1],by rw[e2],λy hy=>hblk y λe=>(wE.fF y ⟨_,hy⟩).2 (.inl e),by rw[e3];exact λ_=>lB⟩) (λy=>absurd y (rL _)) (hblk _ (ey hx.ok.apart.1)) ⟨c',jk (by simpa using hlt),hC⟩ (by rw[Deaf_own];exact mQ) hM (λb hb=>⟨hblk b (hx.kept b hb).2.1,by rw[e3];exact(h.keep b hb).2⟩) pK (h.tr.events (.inl rfl) λe kI=>(he e kI).norel);rw[gS i (by omega)]at hy;rw[e4,Deaf_other t (by omega) _ hu];exact h.old i y hi tJ hy
def ft.Mode.wake(h:x.Mode D w)(h6:D.ck=6):x.Mode { D with ck:=5,cm:=0 } w:=by
 rcases h with⟨_,h2,_⟩|⟨h1,h2,_,h4⟩|⟨h1,_,h3⟩|⟨_,h2,_⟩
 ·rw[h6]at h2;simp at h2
 ·exact .inr (.inl ⟨h1,h2,.inr (.inl rfl),h4⟩)
 ·exact .inr (.inr (.inl ⟨h1,.inr (.inl rfl),h3⟩))
 rw[h6]at h2;simp at h2
def sum_lt{f:Nat->Nat}(ha:a<n)(hk:k<f a):sumTo n (upd f a k)+(f a-k)=sumTo n f:=by
 have:sumTo n (upd f a k)+f a=sumTo n f+k:=sumTo_upd f k id ha;omega
def ft.Mode.on(h:x.Mode D w)(e:w'.heap[x.p.Wg]?=w.heap[x.p.Wg]?)(e1:D'.wk=D.wk)(e2:D'.ck=D.ck)(e3:D'.vs=D.vs):x.Mode D' w':=by
 have ev:D'.v x.p.mW=D.v x.p.mW:=by unfold D2.v;rw[e1]
 unfold ft.Mode at h⊢;rw[ev,e1,e2,e3];have key:∀st sm,WgAt x.ty x.p.Wg w st sm->WgAt x.ty x.p.Wg w' st sm:=λst sm z=>z.of_block e
 rcases h with⟨h1,h2,h3⟩|⟨h1,h2,h3⟩|⟨h1,h2,b,h3,h4,h5⟩|⟨h1,h2,h3,h4⟩
 ·exact .inl ⟨key _ _ h1,h2,h3⟩
 ·exact .inr (.inl ⟨h1,key _ _ h2,h3⟩)
 ·exact .inr (.inr (.inl ⟨h1,h2,b,h3,h4,h5.imp (λz=>⟨z.1,key _ _ z.2⟩) λz=>⟨z.1,key _ _ z.2⟩⟩))
 exact .inr (.inr (.inr ⟨h1,h2,key _ _ h3,h4⟩))
def Core.mute{n:Rg}{Sh Gr:Nat->Prop}(h:Core w t n who Sh Gr)(hm:∀e∈es,e.mute=true):Core w (t++MemOp.ofEvents k fn pos es) n who Sh Gr:=by
 refine⟨λsaid=>(h.tk said).app h.fF h.lY (.inr (ym (P:=λop=>op.act.touch?=J) λe he=>touch_mute (hm e he))) (ym λe he=>⟨rfl,λy hy=>by rw[touch_mute (hm e he)]at hy;cases hy⟩),λop hop=>?_,h.lt,h.fF,h.lY,h.lD,h.jE,h.rR⟩
 rcases mL.1 hop with y|y
 ·exact h.seen op y
 obtain⟨e,he,rfl⟩:=jQ y;exact low_mute (hm e he) _
def S2.leave(hx:x.Ok)(h:S2 x D gs w t)(hk:0<k)(hq:k<=x.q0)(hg:gs[k]?=U g)(hr:g.status=.running):ki x D gs w t sl k:=by
 have hQ:=h.old k g hk hq hg
 cases rS:D.q k with
 |zero=>rw[rS]at hQ;rw[hQ.1]at hr;cases hr
 |succ m=>
  rw[rS]at hQ
  rcases hQ with⟨hf,_⟩|⟨_,g',es,hm,hst,hQ'⟩
  ·rw[hf]at hr;cases hr
  have iz:Core w (t++MemOp.ofEvents k g.frame.fn g.frame.place es) (x.q0,x.q0+x.p.mW) D.who x.p.Sh x.p.Gr:=h.core.mute hm;exact h.move hx hk hg (hst w) { D with q:=upd D.q k m } rfl rfl rfl x.p.mW (.inr ⟨hq,rfl⟩) iz (aR _) (λ_ _=>rfl) (λi hi=>upd_ne D.q m hi) (λ_=>by rw[Deaf_own];show QuitsD x.p.P (upd D.q k m k) _ g';rw[upd_same];exact hQ') (λb _ _=>⟨rfl,rfl,λ_ _=>rfl,λ_=>lB⟩) (λy=>absurd y (rL _)) rfl (λ_ _ _=>h.mode.on rfl rfl rfl rfl) (λh6=>(h.mode.on (D':={ D with q:=upd D.q k m }) rfl rfl rfl rfl).wake h6) (λb hb=>⟨rfl,(h.keep b hb).2⟩) h.same (λe he=>EL (hm e he)) (λ_=>hm)
   (.inr ⟨rfl,by
    have:=sum_lt (f:=D.q) (k:=m) (show k<x.q0+1 by omega) (by omega);unfold D2.M;simp only;omega⟩)
end
section
variable {x:ft}{D:D2}{gs gs':Array Goroutine}{w w':ah}{t u:Trace}{sl:Option (Nat×Nat)}
def S2.quit(hx:x.Ok)(h:S2 x D gs w t)(ha:a<x.p.mW)(hg:gs[x.q0+1+a]?=U g)(hr:g.status=.running)(h8:D.wk a=8)(hQ:QuitsD x.p.P (D.wm a) (Deaf t (x.q0+1+a)) g):ki x D gs w t sl (x.q0+1+a):=by
 cases rS:D.wm a with
 |zero=>rw[rS]at hQ;rw[hQ.1]at hr;cases hr
 |succ m=>
  rw[rS]at hQ
  rcases hQ with⟨hf,_⟩|⟨_,g',es,hm,hst,hQ'⟩
  ·rw[hf]at hr;cases hr
  obtain⟨r,hr1,hr2⟩:=h.rel a ha (by omega);have fW:D.v x.p.mW=({ D with wm:=upd D.wm a m }:D2).v x.p.mW:=rfl
  refine h.move hx (by omega) hg (hst w) { D with wm:=upd D.wm a m } rfl rfl rfl a (.inl ⟨rfl,ha⟩) (h.core.mute hm) (aR _) (λ_ _=>rfl) (λi _=>rfl) (λz=>by omega) (λb _ eE=>⟨rfl,upd_ne D.wm m eE,λ_ _=>rfl,λ_=>lB⟩) (λ_=>⟨.inr ⟨h8,?_⟩,⟨λz=>by have:D.wk a<=3:=z;omega,λ_ z=>by have:D.wk a<=7:=z;omega⟩,λ_=>⟨r,?_,?_⟩⟩) rfl (λ_ _ _=>h.mode.on rfl rfl rfl rfl) (λh6=>(h.mode.on (D':={ D with wm:=upd D.wm a m }) rfl rfl rfl rfl).wake h6) (λb hb=>⟨rfl,(h.keep b hb).2⟩) h.same (λe he=>EL (hm e he)) (λ_=>hm) (.inr ⟨rfl,?_⟩)
  ·rw[Deaf_own];show QuitsD x.p.P (upd D.wm a m a) _ g';rw[upd_same];exact hQ'
  ·exact hr1.appOwn _ _ _ λj e he=>.inl (touch_mute (hm e (bU he)))
  ·intro i y b hi hy Ao hb
   rcases getElem?_append_cases hy with⟨_,hy'⟩|⟨_,w9⟩
   ·exact hr2 i y b hi hy' Ao hb
   obtain⟨e,he,rfl⟩:=jQ w9;rw[touch_mute (hm e he)]at hb;cases hb
  have:=sum_lt (f:=D.wm) (k:=m) ha (by omega);unfold D2.M;simp only;omega
def S2.YY(hx:x.Ok)(h:S2 x D gs w t)(ha:a<x.p.mW)(hg:gs[x.q0+1+a]?=U g)(hm:D.wm a=m+1)(hst:stepG x.p.P false g w=.go g' w #[])(hW:x.W (D.wk a) m (λb=>D.who b=U (x.q0+1+a)) g' w):ki x D gs w t sl (x.q0+1+a):=by
 have e0:t++MemOp.ofEvents (x.q0+1+a) g.frame.fn g.frame.place #[]=t:=EY ..
 refine h.move hx (by omega) hg hst { D with wm:=upd D.wm a m } rfl rfl rfl a (.inl ⟨rfl,ha⟩) (by rw[e0];exact h.core) (aR _) (λ_ _=>rfl) (λi _=>rfl) (λz=>by omega) (λb _ eE=>⟨rfl,upd_ne D.wm m eE,λ_ _=>rfl,λ_=>lB⟩) (λ_=>⟨.inl ?_,by rw[e0];exact h.deaf a ha,λz=>by rw[e0];exact h.rel a ha z⟩) rfl (λ_ _ _=>h.mode.on rfl rfl rfl rfl) (λh6=>(h.mode.on (D':={ D with wm:=upd D.wm a m }) rfl rfl rfl rfl).wake h6) (λb hb=>⟨rfl,(h.keep b hb).2⟩) h.same (by simp) (λ_=>by simp) (.inr ⟨rfl,?_⟩)
 ·show x.W (D.wk a) (upd D.wm a m a) _ g' w
  rw[upd_same];exact hW
 have:=sum_lt (f:=D.wm) (k:=m) ha (by omega);unfold D2.M;simp only;omega
def S2.w_(hx:x.Ok)(h:S2 x D gs w t){k' m':Nat}(ha:a<x.p.mW)(hg:gs[x.q0+1+a]?=U g)(hk2:2<=D.wk a)(hk:D.wk a<k')(ag7:k'<=8)(hst:stepG x.p.P false g w=.go g' w' es)(he:∀e∈es,l_ x.p.Wg false e)(hs:w'.heap.size=w.heap.size)(hblk:∀b,b≠x.p.Wg->w'.heap[b]?=w.heap[b]?)(pK:bG x.w0 w')
  (hW:x.W k' m' (λb=>D.who b=U (x.q0+1+a)) g' w'\/(k'=8/\QuitsD x.p.P m' (Deaf (t++MemOp.ofEvents (x.q0+1+a) g.frame.fn g.frame.place es) (x.q0+1+a)) g'))
  (hd:(k'<=3->deafBehind (Deaf t (x.q0+1+a)) es=0)/\(4<=k'->k'<=7->deafBehind (Deaf t (x.q0+1+a)) es=1))
  (hrel:∃r,RelBy (stA x.p.Wg) (t++MemOp.ofEvents (x.q0+1+a) g.frame.fn g.frame.place es) (x.q0+1+a) r/\∀(i:Nat) (y:MemOp) (b:Touch),r<i->(t++MemOp.ofEvents (x.q0+1+a) g.frame.fn g.frame.place es)[i]?=U y->y.g=x.q0+1+a->y.act.touch?=U b->lb b.loc=U x.p.Wg/\b.kind=.atomic)
  (Aq:∀c,gs[0]?=U c->woken x.p.P g g' w' c=c->x.Mode { D with wk:=upd D.wk a k',wm:=upd D.wm a m' } w') (E1:D.ck=6->x.Mode { D with wk:=upd D.wk a k',wm:=upd D.wm a m',ck:=5,cm:=0 } w'):ki x D gs w t sl (x.q0+1+a):=by
 have hN:D2.N x { D with wk:=upd D.wk a k',wm:=upd D.wm a m' }<D.N x:=by
  have h1:sumTo x.p.mW (λb=>8*(9-upd D.wk a k' b))+8*(9-D.wk a)=sumTo x.p.mW (λb=>8*(9-D.wk b))+8*(9-k'):=sumTo_upd D.wk k' (λz=>8*(9-z)) ha;unfold D2.N;simp only;have:=YU D.ck (({ D with wk:=upd D.wk a k',wm:=upd D.wm a m' }:D2).v x.p.mW==D.vs) (D.v x.p.mW==D.vs);omega
 refine h.move hx (by omega) hg hst { D with wk:=upd D.wk a k',wm:=upd D.wm a m' } rfl rfl rfl a (.inl ⟨rfl,ha⟩) (h.core.td (.inl rfl) (.inr ⟨by show x.q0<_;omega,by show _<=x.q0+x.p.mW;omega⟩) (by simp) hs he) (by omega) (λb hb=>hblk b λe=>hx.ok.pY b hb (.inl e)) (λi _=>rfl) (λz=>by omega) (λb _ eE=>⟨upd_ne D.wk k' eE,upd_ne D.wm m' eE,λy hy=>hblk y λe=>(h.core.fF y ⟨_,hy⟩).2 (.inl e),λ_=>lB⟩) (λ_=>⟨?_,⟨λz=>?_,λz1 z2=>?_⟩,λ_=>hrel⟩) (hblk _ (ey hx.ok.apart.1)) Aq E1 (λb hb=>⟨hblk b (hx.kept b hb).2.1,(h.keep b hb).2⟩) pK (λe kI=>(he e kI).norel) (λz=>by omega) (.inl hN)
 ·show x.W (upd D.wk a k' a) (upd D.wm a m' a) _ g' w'\/(upd D.wk a k' a=8/\QuitsD x.p.P (upd D.wm a m' a) _ g')
  rw[upd_same,upd_same];exact hW
 ·have z':upd D.wk a k' a<=3:=z;rw[upd_same]at z';rw[Deaf_own];exact hd.1 z'
 have OT:4<=upd D.wk a k' a:=z1;have OU:upd D.wk a k' a<=7:=z2;rw[upd_same]at OT OU;rw[Deaf_own];exact hd.2 OT OU
end
open Go.ConcN (sumTo upd sumTo_upd upd_ne upd_same RelBy WgLive le_sumTo)
section
variable {x:ft}{D:D2}{gs gs':Array Goroutine}{w w':ah}{t u:Trace}{sl:Option (Nat×Nat)}
def yC{a:av}{v:aj}(h:b≠a.block):(w.setCell a v).heap[b]?=w.heap[b]?:=by
 simp only[cZ];rw[fR,aF (ey h)]
def xa{a:av}{v:aj}:(w.setCell a v).heap.size=w.heap.size:=by
 simp[cZ]
def yD{w0:ah}{a:av}{v:aj}(h:bG w0 w):bG w0 (w.setCell a v):=⟨h.os,h.o,h.tape,by rw[xa];exact h.size⟩
def Cv(ha:a<n)(h:D.wk a<=4):0<D.v n:=by
 have:=le_sumTo (f:=λa=>if D.wk a<=4 then 1 else 0) ha;simp only[h,kC]at this;exact this
def Cw(ha:a<n){m:Nat->Nat}:({ D with wk:=upd D.wk a k,wm:=m }:D2).v n+(if D.wk a<=4 then 1 else 0)=D.v n+(if k<=4 then 1 else 0):=sumTo_upd D.wk k (λz=>if z<=4 then 1 else 0) ha
def OV(h:D.v n=0)(ha:a<n):4<D.wk a:=by
 rcases eC 4 (D.wk a)with z|z
 ·exact z
 have:=Cv ha z;omega
def E5:l_ Wg main (rd (stA Wg)):=.inr (.inr ⟨_,_,rfl,rfl⟩)
def Je:l_ Wg main (wr (stA Wg)):=.inr (.inr ⟨_,_,rfl,rfl⟩)
def Jf:∀e∈semEvents (smA Wg),l_ Wg main e:=by
 intro e he;simp only[semEvents,n7,fu,ik,iI]at he
 rcases he with rfl|rfl|rfl|rfl
 ·exact .inl (.inl rfl)
 ·exact .inr (.inr ⟨_,_,rfl,rfl⟩)
 ·exact .inr (.inr ⟨_,_,rfl,rfl⟩)
 exact .inl (.inr (.inl rfl))
def Cy{K:Nat}{fn:FuncId}{pos:String}(h:∃r,RelBy (stA Wg) t K r/\∀(i:Nat) (y:MemOp) (b:Touch),r<i->t[i]?=U y->y.g=K->y.act.touch?=U b->lb b.loc=U Wg/\b.kind=.atomic)(he:∀e∈es,l_ Wg false e)
  (hd:∀j e,es[j]?=U e->(MemAct.ofEvent e).touch?=J\/((∃ad wr,e=⟨.cell ad,wr,true⟩)/\0<deafBehind (Deaf t K) (es.extract 0 j))):∃r,RelBy (stA Wg) (t++MemOp.ofEvents K fn pos es) K r/\∀(i:Nat) (y:MemOp) (b:Touch),r<i->(t++MemOp.ofEvents K fn pos es)[i]?=U y->y.g=K->y.act.touch?=U b->lb b.loc=U Wg/\b.kind=.atomic:=by
 obtain⟨r,h1,h2⟩:=h
 refine⟨r,h1.appOwn _ _ _ hd,λi y b hi hy Ao hb=>?_⟩
 rcases getElem?_append_cases hy with⟨_,hy'⟩|⟨_,w9⟩
 ·exact h2 i y b hi hy' Ao hb
 obtain⟨e,kI,rfl⟩:=jQ w9;obtain⟨z1,_,_,z4⟩:=(he e kI).touch hb;exact⟨z1,z4 rfl⟩
def Ar(h:∀e∈es,∃ad wr,e=(⟨.cell ad,wr,true⟩:Event)):deafBehind d es=d:=deafBehind_still (λe he=>by obtain⟨ad,wr,rfl⟩:=h e he;simp) d
def S2.w2(hx:x.Ok)(h:S2 x D gs w t)(ha:a<x.p.mW)(hg:gs[x.q0+1+a]?=U g)(hk:D.wk a=2)(hS:wR x.p.P x.ty x.p.Wg g w):ki x D gs w t sl (x.q0+1+a):=by
 obtain⟨_,g',hst,m',hG⟩:=hS;have hd:=(h.deaf a ha).1 (by omega);have hv:∀m:Nat->Nat,({ D with wk:=upd D.wk a 3,wm:=m }:D2).v x.p.mW=D.v x.p.mW:=λm=>by have:=Cw (D:=D) (k:=3) ha (m:=m);simp[hk]at this;exact this
 have jR:x.Mode { D with wk:=upd D.wk a 3,wm:=upd D.wm a m' } w:=by
  have oo:∀b,b<x.p.mW->D.wk b<=4\/D.wk b=8->upd D.wk a 3 b<=4\/upd D.wk a 3 b=8:=λb _ z=>by
   by_cases e:b=a
   ·subst e;rw[upd_same];exact .inl (by omega)
   rw[upd_ne D.wk 3 e];exact z
  have jM:=Cv (n:=x.p.mW) ha (show D.wk a<=4 by omega)
  rcases h.mode with⟨h1,h2,h3⟩|⟨h1,h2,h3,h4⟩|⟨h1,_⟩|⟨h1,_⟩
  ·exact .inl ⟨by rw[hv];exact h1,by rw[hv];exact h2,λb hb=>oo b hb (h3 b hb)⟩
  ·exact .inr (.inl ⟨by rw[hv];exact h1,by rw[hv];exact h2,h3,λb hb=>oo b hb (h4 b hb)⟩)
  ·omega
  omega
 refine h.w_ hx (k':=3) (m':=m') ha hg (by omega) (by omega) (by omega) hst (λe he=>?_) rfl (λ_ _=>rfl) h.same (.inl hG) ⟨λ_=>?_,λz=>by omega⟩ ⟨t.size,RelBy.new hd ..,λi y b hi hy _ _=>?_⟩ (λ_ _ _=>jR) (λh6=>jR.wake h6)
 ·simp at he;subst he;exact .inl (.inr (.inr (.inl rfl)))
 ·rw[hd];rfl
 have:=lt_size_of_getElem? hy;simp[ofEvents_eq]at this
 omega
def S2.w3(hx:x.Ok)(h:S2 x D gs w t)(ha:a<x.p.mW)(hg:gs[x.q0+1+a]?=U g)(hk:D.wk a=3)(hS:Says x.p.P x.ty x.p.Wg false .disable (Ch x.p.P x.ty x.p.Wg) g w):ki x D gs w t sl (x.q0+1+a):=by
 obtain⟨_,g',hst,m',hG⟩:=hS;have hd:=(h.deaf a ha).1 (by omega);have hv:∀m:Nat->Nat,({ D with wk:=upd D.wk a 4,wm:=m }:D2).v x.p.mW=D.v x.p.mW:=λm=>by have:=Cw (D:=D) (k:=4) ha (m:=m);simp[hk]at this;exact this
 have jR:x.Mode { D with wk:=upd D.wk a 4,wm:=upd D.wm a m' } w:=by
  have oo:∀b,b<x.p.mW->D.wk b<=4\/D.wk b=8->upd D.wk a 4 b<=4\/upd D.wk a 4 b=8:=λb _ z=>by
   by_cases e:b=a
   ·subst e;rw[upd_same];exact .inl (by omega)
   rw[upd_ne D.wk 4 e];exact z
  have jM:=Cv (n:=x.p.mW) ha (show D.wk a<=4 by omega)
  rcases h.mode with⟨h1,h2,h3⟩|⟨h1,h2,h3,h4⟩|⟨h1,_⟩|⟨h1,_⟩
  ·exact .inl ⟨by rw[hv];exact h1,by rw[hv];exact h2,λb hb=>oo b hb (h3 b hb)⟩
  ·exact .inr (.inl ⟨by rw[hv];exact h1,by rw[hv];exact h2,h3,λb hb=>oo b hb (h4 b hb)⟩)
  ·omega
  omega
 refine h.w_ hx (k':=4) (m':=m') ha hg (by omega) (by omega) (by omega) hst (λe he=>?_) rfl (λ_ _=>rfl) h.same (.inl hG) ⟨λz=>by omega,λ_ _=>?_⟩ (Cy (h.rel a ha (by omega)) (λe he=>?_) λj e he=>?_) (λ_ _ _=>jR) (λh6=>jR.wake h6)
 ·simp at he;subst he;exact .inl (.inl rfl)
 ·rw[hd];rfl
 ·simp at he;subst he;exact .inl (.inl rfl)
 have:=bU he;simp at this;subst this;exact .inl rfl
def S2.w4(hx:x.Ok)(h:S2 x D gs w t)(ha:a<x.p.mW)(hg:gs[x.q0+1+a]?=U g)(hk:D.wk a=4)(hS:Ch x.p.P x.ty x.p.Wg g w):ki x D gs w t sl (x.q0+1+a):=by
 have hd:=(h.deaf a ha).2 (by omega) (by omega);have jM:=Cv (n:=x.p.mW) ha (show D.wk a<=4 by omega);obtain⟨v,hv⟩:∃v,D.v x.p.mW=v+1:=⟨D.v x.p.mW-1,by omega⟩;have hle:D.v x.p.mW<=x.p.mW:=by
  have:=Go.ConcN.sumTo_le (f:=λa=>if D.wk a<=4 then 1 else 0) (c:=1) (j:=x.p.mW) λi _=>by split<;>omega
  unfold D2.v;omega
 have xc:v<2147483647:=by have:=hx.few;omega
 have hv':∀k m,5<=k->({ D with wk:=upd D.wk a k,wm:=m }:D2).v x.p.mW=v:=λk m YJ=>by
  have:=Cw (D:=D) (k:=k) ha (m:=m);rw[aU (by omega),aF (by omega)]at this;omega
 have cP:∀e∈#[rd (stA x.p.Wg),wr (stA x.p.Wg)],l_ x.p.Wg false e:=λe he=>by
  simp only[n7,fu,ik,iI]at he
  rcases he with rfl|rfl
  ·exact E5
  exact Je
 have hcell:∀e∈#[rd (stA x.p.Wg),wr (stA x.p.Wg)],∃ad wr,e=(⟨.cell ad,wr,true⟩:Event):=λe he=>by
  simp only[n7,fu,ik,iI]at he
  rcases he with rfl|rfl<;>exact⟨_,_,rfl⟩
 have Jg:deafBehind (Deaf t (x.q0+1+a)) #[rd (stA x.p.Wg),wr (stA x.p.Wg)]=1:=by rw[Ar hcell,hd]
 have hrel:=Cy (fn:=g.frame.fn) (pos:=g.frame.place) (h.rel a ha (by omega)) cP λj e he=>.inr ⟨hcell e (bU he),by
  rw[Ar λe' vg=>hcell e' (by
   obtain⟨i,hi⟩:=Cj.1 vg;rw[Array.getElem?_extract]at hi
   split at hi
   ·exact bU hi
   cases hi),hd]
  omega⟩
 have oo:∀b,b<x.p.mW->b≠a->D.wk b<=4\/D.wk b=8->upd D.wk a 8 b<=4\/upd D.wk a 8 b=8:=λb _ e z=>by rw[upd_ne D.wk 8 e];exact z
 rcases h.mode with⟨h1,h2,h3⟩|⟨h1,h2,h3,h4⟩|⟨h1,_⟩|⟨h1,_⟩
 ·rw[hv]at h1;obtain⟨g',hst,_,hq⟩:=hS.2 v 0 (by omega) xc (by simpa using h1);obtain⟨q,hQ⟩:=hq (by omega);have hw:=h1.setSt ((v:Int)*KK+0);have jR:x.Mode { D with wk:=upd D.wk a 8,wm:=upd D.wm a q } (w.setCell (stA x.p.Wg) (.int .u64 (v*KK+0))):=by
   refine .inl ⟨by rw[hv' 8 _ (by omega)];simpa using hw,?_,λb hb=>?_⟩
   ·rcases h2 with z|z|z|⟨z,_⟩
    ·exact .inl z
    ·exact .inr (.inl z)
    ·exact .inr (.inr (.inl z))
    omega
   show upd D.wk a 8 b<=4\/upd D.wk a 8 b=8
   by_cases e:b=a
   ·subst e;rw[upd_same];exact .inr rfl
   exact oo b hb e (h3 b hb)
  refine h.w_ hx (k':=8) (m':=q) ha hg (by omega) (by omega) (by omega) hst cP xa (λb hb=>yC hb) (yD h.same) (.inr ⟨rfl,by rw[Deaf_own,Jg];exact hQ⟩) ⟨λz=>by omega,λ_ z=>by omega⟩ hrel (λ_ _ _=>jR) (λh6=>jR.wake h6)
 ·rw[hv]at h2;obtain⟨g',hst,hl,hq⟩:=hS.2 v 1 (by omega) xc (by simpa using h2);have hw:=h2.setSt ((v:Int)*KK+1)
  by_cases hv0:v=0
  ·subst hv0;obtain⟨m',hG⟩:=hl ⟨rfl,rfl⟩;have jR:x.Mode { D with wk:=upd D.wk a 5,wm:=upd D.wm a m' } (w.setCell (stA x.p.Wg) (.int .u64 ((0:Nat)*KK+(1:Nat)))):=by
    refine .inr (.inr (.inl ⟨hv' 5 _ (by omega),h3,a,ha,λb hb eE=>?_,.inl ⟨.inl (upd_same ..),by simpa using hw⟩⟩));show upd D.wk a 5 b=8
    rw[upd_ne D.wk 5 eE]
    rcases h4 b hb with z|z
    ·exfalso
     have:=hv' 5 D.wm (by omega);have:=OV this hb;have e:upd D.wk a 5 b=D.wk b:=upd_ne D.wk 5 eE;have:4<upd D.wk a 5 b:=this;omega
    exact z
   refine h.w_ hx (k':=5) (m':=m') ha hg (by omega) (by omega) (by omega) hst cP xa (λb hb=>yC hb) (yD h.same) (.inl hG) ⟨λz=>by omega,λ_ _=>Jg⟩ hrel (λ_ _ _=>jR) (λh6=>jR.wake h6)
  obtain⟨q,hQ⟩:=hq (by omega);have jR:x.Mode { D with wk:=upd D.wk a 8,wm:=upd D.wm a q } (w.setCell (stA x.p.Wg) (.int .u64 (v*KK+(1:Nat)))):=by
   refine .inr (.inl ⟨by rw[hv' 8 _ (by omega)];omega,by rw[hv' 8 _ (by omega)];simpa using hw,h3,λb hb=>?_⟩);show upd D.wk a 8 b<=4\/upd D.wk a 8 b=8
   by_cases e:b=a
   ·subst e;rw[upd_same];exact .inr rfl
   exact oo b hb e (h4 b hb)
  refine h.w_ hx (k':=8) (m':=q) ha hg (by omega) (by omega) (by omega) hst cP xa (λb hb=>yC hb) (yD h.same) (.inr ⟨rfl,by rw[Deaf_own,Jg];exact hQ⟩) ⟨λz=>by omega,λ_ z=>by omega⟩ hrel (λ_ _ _=>jR) (λh6=>jR.wake h6)
 ·omega
 omega
end
section
variable {x:ft}{D:D2}{gs gs':Array Goroutine}{w w':ah}{t u:Trace}{sl:Option (Nat×Nat)}
def S2.last(h:S2 x D gs w t)(ha:a<x.p.mW)(h5:5<=D.wk a)(h7:D.wk a<=7):D.v x.p.mW=0/\(D.ck=4\/D.ck=5\/D.ck=6)/\(∀b,b<x.p.mW->b≠a->D.wk b=8)/\(((D.wk a=5\/D.wk a=6)/\WgAt x.ty x.p.Wg w 1 0)\/(D.wk a=7/\WgAt x.ty x.p.Wg w 0 0)):=by
 rcases h.mode with⟨_,_,h3⟩|⟨_,_,_,h4⟩|⟨h1,h2,b,hb,h3,h4⟩|⟨_,_,_,h4⟩
 ·rcases h3 a ha with z|z<;>omega
 ·rcases h4 a ha with z|z<;>omega
 ·by_cases e:a=b
  ·subst e;exact⟨h1,h2,h3,h4⟩
  have:=h3 a ha e;omega
 have:=h4 a ha;omega
def E6(ha:a<x.p.mW)(h5:5<=D.wk a)(hk:5<=k)(m:Nat->Nat):({ D with wk:=upd D.wk a k,wm:=m }:D2).v x.p.mW=D.v x.p.mW:=by
 have:=Cw (D:=D) (k:=k) ha (m:=m);rw[aF (by omega),aF (by omega)]at this;omega
def S2.w5(hx:x.Ok)(h:S2 x D gs w t)(ha:a<x.p.mW)(hg:gs[x.q0+1+a]?=U g)(hk:D.wk a=5)(hS:IL x.p.P x.ty x.p.Wg g w):ki x D gs w t sl (x.q0+1+a):=by
 have hd:=(h.deaf a ha).2 (by omega) (by omega);obtain⟨l1,l2,l3,l4⟩:=h.last ha (by omega) (by omega);have hW:WgAt x.ty x.p.Wg w 1 0:=by rcases l4 with⟨_,z⟩|⟨z,_⟩;exact z;omega
 obtain⟨g',hst,m',hG⟩:=hS.2 hW;have cP:∀e∈#[rd (stA x.p.Wg)],l_ x.p.Wg false e:=λe he=>by simp at he;subst he;exact E5
 have hcell:∀e∈#[rd (stA x.p.Wg)],∃ad wr,e=(⟨.cell ad,wr,true⟩:Event):=λe he=>by simp at he;subst he;exact⟨_,_,rfl⟩
 have jR:x.Mode { D with wk:=upd D.wk a 6,wm:=upd D.wm a m' } w:=.inr (.inr (.inl ⟨(E6 ha (by omega) (by omega) _).trans l1,l2,a,ha,λb hb eE=>by show upd D.wk a 6 b=8;rw[upd_ne D.wk 6 eE];exact l3 b hb eE,.inl ⟨.inr (upd_same ..),hW⟩⟩));exact h.w_ hx (k':=6) (m':=m') ha hg (by omega) (by omega) (by omega) hst cP rfl (λ_ _=>rfl) h.same (.inl hG) ⟨λz=>by omega,λ_ _=>by rw[Ar hcell,hd]⟩ (Cy (h.rel a ha (by omega)) cP λj e he=>.inr ⟨hcell e (bU he),by
  rw[Ar λe' vg=>hcell e' (by
   obtain⟨i,hi⟩:=Cj.1 vg;rw[Array.getElem?_extract]at hi
   split at hi
   ·exact bU hi
   cases hi),hd]
  omega⟩) (λ_ _ _=>jR) (λh6=>jR.wake h6)
def S2.w6(hx:x.Ok)(h:S2 x D gs w t)(ha:a<x.p.mW)(hg:gs[x.q0+1+a]?=U g)(hk:D.wk a=6)(hS:IK x.p.P x.ty x.p.Wg g w):ki x D gs w t sl (x.q0+1+a):=by
 have hd:=(h.deaf a ha).2 (by omega) (by omega);obtain⟨l1,l2,l3,l4⟩:=h.last ha (by omega) (by omega);have hW:WgAt x.ty x.p.Wg w 1 0:=by rcases l4 with⟨_,z⟩|⟨z,_⟩;exact z;omega
 obtain⟨g',hst,m',hG⟩:=hS.2 hW;have cP:∀e∈#[wr (stA x.p.Wg)],l_ x.p.Wg false e:=λe he=>by simp at he;subst he;exact Je
 have hcell:∀e∈#[wr (stA x.p.Wg)],∃ad wr,e=(⟨.cell ad,wr,true⟩:Event):=λe he=>by simp at he;subst he;exact⟨_,_,rfl⟩
 have jR:x.Mode { D with wk:=upd D.wk a 7,wm:=upd D.wm a m' } (w.setCell (stA x.p.Wg) (.int .u64 0)):=.inr (.inr (.inl ⟨(E6 ha (by omega) (by omega) _).trans l1,l2,a,ha,λb hb eE=>by show upd D.wk a 7 b=8;rw[upd_ne D.wk 7 eE];exact l3 b hb eE,.inr ⟨upd_same ..,hW.setSt 0⟩⟩));exact h.w_ hx (k':=7) (m':=m') ha hg (by omega) (by omega) (by omega) hst cP xa (λb hb=>yC hb) (yD h.same) (.inl hG) ⟨λz=>by omega,λ_ _=>by rw[Ar hcell,hd]⟩ (Cy (h.rel a ha (by omega)) cP λj e he=>.inr ⟨hcell e (bU he),by
  rw[Ar λe' vg=>hcell e' (by
   obtain⟨i,hi⟩:=Cj.1 vg;rw[Array.getElem?_extract]at hi
   split at hi
   ·exact bU hi
   cases hi),hd]
  omega⟩) (λ_ _ _=>jR) (λh6=>jR.wake h6)
def YZ(a:av):deafBehind 1 (semEvents a)=1:=rfl
def S2.w7(hx:x.Ok)(h:S2 x D gs w t)(ha:a<x.p.mW)(hg:gs[x.q0+1+a]?=U g)(hk:D.wk a=7)(hS:IJ x.p.P x.ty x.p.Wg g w):ki x D gs w t sl (x.q0+1+a):=by
 have hd:=(h.deaf a ha).2 (by omega) (by omega);obtain⟨l1,l2,l3,l4⟩:=h.last ha (by omega) (by omega);have hW:WgAt x.ty x.p.Wg w 0 0:=by rcases l4 with⟨z,_⟩|⟨_,z⟩;omega;exact z
 obtain⟨_,Jh,hS⟩:=hS;obtain⟨g',hst,q,hQ⟩:=hS hW;have hall:∀b,b<x.p.mW->upd D.wk a 8 b=8:=λb hb=>by
  by_cases e:b=a
  ·subst e;exact upd_same ..
  rw[upd_ne D.wk 8 e];exact l3 b hb e
 have Ji:=hW.setSm 1
 refine h.w_ hx (k':=8) (m':=q) ha hg (by omega) (by omega) (by omega) hst Jf xa (λb hb=>yC hb) (yD h.same) (.inr ⟨rfl,by rw[Deaf_own,hd,YZ];exact hQ⟩) ⟨λz=>by omega,λ_ z=>by omega⟩ (Cy (h.rel a ha (by omega)) Jf λj e he=>?_) (λc hc E7=>?_) (λh6=>?_)
 ·rw[hd];obtain _|_|_|_|j:=j
  ·left;simp[semEvents]at he;subst he;rfl
  ·right;simp[semEvents]at he;subst he;exact⟨⟨_,_,rfl⟩,Nat.succ_pos 1⟩
  ·right;simp[semEvents]at he;subst he;exact⟨⟨_,_,rfl⟩,Nat.succ_pos 1⟩
  ·left;simp[semEvents]at he;subst he;rfl
  simp[semEvents]at he
 ·refine .inr (.inr (.inr ⟨(E6 ha (by omega) (by omega) _).trans l1,?_,Ji,hall⟩))
  rcases l2 with z|z|z
  ·exact .inl z
  ·exact .inr z
  exfalso
  obtain⟨c',hc',bQ⟩:=h.lZ;rw[hc]at hc';cases hc';rw[z]at bQ;have qP:WgLive x.ty x.p.Wg (w.setCell (smA x.p.Wg) (.int .u32 1)):=⟨_,_,Ji⟩;have h5:=YW (bQ.on qP) Jh (g':=g') hQ.status;rw[E7]at h5
  rcases h5.status with e|⟨e,_⟩
  ·rcases bQ.status with e'|⟨_,e',_⟩
   ·obtain⟨y,h1,rfl⟩:=bQ
    cases e'
   rw[e]at e';cases e'
  cases e
 exact .inr (.inr (.inr ⟨(E6 ha (by omega) (by omega) (upd D.wm a q)).trans l1,.inr rfl,Ji,hall⟩))
def S2.w0(hx:x.Ok)(h:S2 x D gs w t)(ha:a<x.p.mW)(hg:gs[x.q0+1+a]?=U g)(hk:D.wk a=0)(hm:D.wm a=m+1)(hst:stepG x.p.P false g w=.go g' w' es)(he:Ef false (λb=>D.who b=U (x.q0+1+a)) x.p.Sh x.p.Gr w w' es)
  (hG:x.p.gt false (λ_ g _=>x.p.Recv g) m (deafBehind 0 es) (λb=>D.who b=U (x.q0+1+a)\/(w.heap.size<=b/\b<w'.heap.size)) g' w'):ki x D gs w t sl (x.q0+1+a):=by
 have hC:=h.core;have hO:∀b,D.who b=U (x.q0+1+a)->D.who b=U (x.q0+1+a)\/x.p.Gr b:=λ_ z=>.inl z
 have hgr:∀b,x.p.Gr b->w'.heap[b]?=w.heap[b]?:=λb hb=>he.frame b (hC.jE b hb) λe=>(hC.fF b ⟨_,e⟩).2 hb
 rw[he.hears]at hG;have hd:=(h.deaf a ha).1 (by omega)
 refine h.move hx (by omega) hg hst { D with wm:=upd D.wm a m,who:=grow D.who (x.q0+1+a) w w' } rfl rfl rfl a (.inl ⟨rfl,ha⟩) (hC.own (.inr ⟨by show x.q0<_;omega,by show _<=x.q0+x.p.mW;omega⟩) (by simp) he hO) he.size (λb hb=>he.frame b (hC.lD b hb) λe=>(hC.fF b ⟨_,e⟩).1 hb) (λi _=>rfl) (λz=>by omega) (λb _ eE=>⟨rfl,upd_ne D.wm m eE,λy hy=>he.frame y (hC.lt y _ hy) λe=>?_,(hC.others he hO (by omega)).2⟩) (λ_=>⟨.inl ?_,⟨λ_=>?_,λz=>by have:4<=D.wk a:=z;omega⟩,λz=>by have:3<=D.wk a:=z;omega⟩) (hgr _ (.inr (.inl rfl))) (λ_ _ _=>h.mode.on (hgr _ (.inl rfl)) rfl rfl rfl) (λh6=>(h.mode.on (D':={ D with wm:=upd D.wm a m,who:=grow D.who (x.q0+1+a) w w' }) (hgr _ (.inl rfl)) rfl rfl rfl).wake h6) (λb hb=>?_) (IX h.same he) he.norel (λz=>by omega) (.inr ⟨rfl,?_⟩)
 ·rw[hy]at e;have:=b_ e;omega
 ·show x.W (D.wk a) (upd D.wm a m a) _ g' w'
  rw[hk,upd_same]
  refine Gt.congr (λb=>?_) hG;show _↔grow D.who (x.q0+1+a) w w' b=U (x.q0+1+a)
  unfold grow
  split
  ·rename_i hc;exact⟨λ_=>rfl,λ_=>.inr hc⟩
  rename_i hc;exact⟨λz=>z.elim id λy=>absurd y hc,.inl⟩
 ·rw[Deaf_own,he.hears];exact hd
 ·have hb1:=(hx.kept b hb).1;have hb2:=h.grown
  refine⟨he.frame b (by omega) ((h.keep b hb).2 _ (by omega)),λk hk e=>?_⟩;have e':grow D.who (x.q0+1+a) w w' b=U k:=e;unfold grow at e';rw[aF (by omega)]at e';exact(h.keep b hb).2 k hk e'
 have:=sum_lt (f:=D.wm) (k:=m) ha (by omega);unfold D2.M;simp only;omega
def S2.shut(hx:x.Ok)(h:S2 x D gs w t){g0:Goroutine}(ha:a<x.p.mW)(hg:gs[x.q0+1+a]?=U g)(hk:D.wk a<=1)(hst:stepG x.p.P false g w=.comm g0 #[rcase x.p.c1 x.p.z1] true (.recv true) w #[])(hr:x.p.Recv g0):ki x D gs w t sl (x.q0+1+a):=by
 obtain⟨s,hs⟩:=h.ch;have hC:=h.core;have hlt:x.q0+1+a<gs.size:=(bD.1 hg).1;obtain⟨c,hc,bQ⟩:=h.lZ;have yn:∀(j:Nat) (y:Goroutine),(gs.setIfInBounds (x.q0+1+a) ph)[j]?=U y->offersAt y x.p.c1 true=[]:=λj y hy=>by
  rcases getElem?_stand gs _ j y hy with⟨_,rfl⟩|⟨_,hy⟩
  ·rfl
  rcases kG j with rfl|hj
  ·rw[hc]at hy;cases hy
   rcases bQ.status with e|⟨_,_,e⟩
   ·exact offersAt_of_not_blocked (by rw[e];simp) ..
   unfold offersAt;rw[e];split<;>first|rfl|(rename_i z;cases z)
  refine offersAt_of_not_blocked ?_ ..
  by_cases hq:j<=x.q0
  ·rcases(h.old j y hj hq hy).status with e|e<;>rw[e]<;>simp
  have wW:j<gs.size:=(bD.1 hy).1;obtain⟨b,rfl⟩:∃b,j=x.q0+1+b:=⟨j-(x.q0+1),by omega⟩;obtain⟨g',h1,h2⟩:=h.work b (by have:=h.size;omega);rw[hy]at h1;cases h1
  rcases h2 with h2|⟨_,h2⟩
  ·rw[h2.running hx];simp
  rcases h2.status with e|e<;>rw[e]<;>simp
 have hrun:=crowd_recv_closed (P:=x.p.P) (sl:=sl) (i:=x.q0+1+a) hg (by rw[show (x.q0+1+a==0)=false by simp];exact hst) hs (partners_nil yn);rw[EZ]at hrun;have qP:=h.mode.live;obtain⟨m',hG⟩:=hx.shut g0 w hr qP;generalize hop:({ g:=x.q0+1+a,fn:=g0.frame.fn,pos:=g0.frame.place,act:=.recvClosed x.p.c1 }:MemOp)=op at hrun;have ho:op.g=x.q0+1+a/\op.act=.recvClosed x.p.c1:=by subst hop;exact⟨rfl,rfl⟩
 have tB:∀y∈#[op],y.g=x.q0+1+a/\y.act=.recvClosed x.p.c1:=λy hy=>by simp at hy;subst hy;exact ho
 have dQ:∀k,Deaf (t++#[op]) k=Deaf t k:=λk=>by
  rw[show #[op]=[op].toArray from rfl,Deaf_append];simp[deafStep,ho.2]
 have hv:∀m:Nat->Nat,({ D with wk:=upd D.wk a 2,wm:=m }:D2).v x.p.mW=D.v x.p.mW:=λm=>by
  have:=Cw (D:=D) (k:=2) ha (m:=m);rw[aU (by omega),aU (by omega)]at this;omega
 have jM:=Cv (n:=x.p.mW) ha (show D.wk a<=4 by omega)
 refine⟨{ D with wk:=upd D.wk a 2,wm:=upd D.wm a m' },_,w,_,hrun,?_,.inl ?_⟩
 ·refine h.change (D':={ D with wk:=upd D.wk a 2,wm:=upd D.wm a m' }) a (x.q0+1+a) (λy hy=>(tB y hy).1) (λb _ _=>by omega) (by omega) (by simp) ?_ (aR _) (λ_ _=>rfl) (λi y hi tJ hy=>?_) (λb _ eE=>⟨dS (by omega),upd_ne D.wk 2 eE,upd_ne D.wm m' eE,λ_ _=>rfl,λ_=>lB⟩) (λ_=>⟨⟨_,jk hlt,.inl ?_⟩,⟨λ_=>?_,λz=>?_⟩,λz=>?_⟩) rfl ⟨c,?_,bQ⟩ (by rw[dQ];exact h.Cu) ?_ (λb hb=>⟨rfl,(h.keep b hb).2⟩) h.same (h.tr.app λy hy=>⟨.inr (.inl (by rw[(tB y hy).1];exact⟨by omega,by omega⟩)),by rw[(tB y hy).2];simp⟩)
  ·refine⟨λsaid=>(hC.tk said).app hC.fF hC.lY (.inl (.inr ⟨by show x.q0<_;omega,by show _<=x.q0+x.p.mW;omega⟩)) λy hy=>⟨(tB y hy).1,λz hz=>by rw[(tB y hy).2]at hz;cases hz⟩,λy hy=>?_,hC.lt,hC.fF,hC.lY,hC.lD,hC.jE,hC.rR⟩
   rcases mL.1 hy with z|z
   ·exact hC.seen y z
   rw[(tB y z).2];exact hC.jE _ (.inr (.inl rfl))
  ·rw[dS (by omega)]at hy;rw[dQ];exact h.old i y hi tJ hy
  ·show x.W (upd D.wk a 2 a) (upd D.wm a m' a) _ _ w
   rw[upd_same,upd_same];exact hG
  ·rw[dQ];exact(h.deaf a ha).1 (by omega)
  ·have:4<=upd D.wk a 2 a:=z;rw[upd_same]at this;omega
  ·have:3<=upd D.wk a 2 a:=z;rw[upd_same]at this;omega
  ·rw[dS (by omega)];exact hc
  have oo:∀b,b<x.p.mW->D.wk b<=4\/D.wk b=8->upd D.wk a 2 b<=4\/upd D.wk a 2 b=8:=λb _ z=>by
   by_cases e:b=a
   ·subst e;rw[upd_same];exact .inl (by omega)
   rw[upd_ne D.wk 2 e];exact z
  rcases h.mode with⟨h1,h2,h3⟩|⟨h1,h2,h3,h4⟩|⟨h1,_⟩|⟨h1,_⟩
  ·exact .inl ⟨by rw[hv];exact h1,by rw[hv];exact h2,λb hb=>oo b hb (h3 b hb)⟩
  ·exact .inr (.inl ⟨by rw[hv];exact h1,by rw[hv];exact h2,h3,λb hb=>oo b hb (h4 b hb)⟩)
  ·omega
  omega
 have h1:sumTo x.p.mW (λb=>8*(9-upd D.wk a 2 b))+8*(9-D.wk a)=sumTo x.p.mW (λb=>8*(9-D.wk b))+8*(9-2):=sumTo_upd D.wk 2 (λz=>8*(9-z)) ha;unfold D2.N;rw[hv];simp only;omega
def S2.worker(hx:x.Ok)(h:S2 x D gs w t)(ha:a<x.p.mW)(hg:gs[x.q0+1+a]?=U g)(hr:g.status=.running):ki x D gs w t sl (x.q0+1+a):=by
 obtain⟨g',h1,h2⟩:=h.work a ha;rw[hg]at h1;cases h1
 rcases h2 with h2|⟨h8,hQ⟩
 ·have quiet:∀{S:Goroutine->ah->Prop} {m:Nat},x.go false S m g w->D.wm a=m->(∀m' g',x.go false S m' g' w->x.W (D.wk a) m' (λb=>D.who b=U (x.q0+1+a)) g' w)->(S g w->ki x D gs w t sl (x.q0+1+a))->ki x D gs w t sl (x.q0+1+a):=by
   intro S m hG hm hW hS
   rcases Ja hG with z|⟨m',rfl,_,z⟩
   ·exact hS (z w λy=>y)
   have z2:=z w λy=>y
   cases hst:stepG x.p.P false g w with
   |go g1 w1 es=>
    rw[hst,goes_go]at z2;obtain⟨⟨z3,z4⟩,z5⟩:=z2;subst z3 z4;exact h.YY hx ha hg hm hst (hW m' g1 z5)
   |_=>rw[hst]at z2;exact z2.elim
  have hk:∀k,D.wk a=k->x.W k (D.wm a) (λb=>D.who b=U (x.q0+1+a)) g w:=λk e=>e▸h2
  rcases eC (D.wk a) 8 with h7|h7
  ·have:D.wk a=0\/D.wk a=1\/D.wk a=2\/D.wk a=3\/D.wk a=4\/D.wk a=5\/D.wk a=6\/D.wk a=7:=by omega
   rcases this with e|e|e|e|e|e|e|e
   ·have h2:x.p.gt false (λ_ g _=>x.p.Recv g) (D.wm a) 0 (λb=>D.who b=U (x.q0+1+a)) g w:=hk 0 e
    rcases Gt.now h2 with⟨_,hS⟩|⟨m',hm,_,hs⟩
    ·have hR:=hS w (.refl ..);exact h.shut hx ha hg (by omega) ((hx.ok.qM g hR).2 w) hR
    obtain⟨g',w',es,z1,z2,z3⟩:=hs w (.refl ..);exact h.w0 hx ha hg e hm z1 z2 z3
   ·obtain⟨g0,hR,rfl⟩:=(hk 1 e:∃g0,x.p.Recv g0/\g={ parked g0 #[rcase x.p.c1 x.p.z1] (.recv true)with status:=.running })
    refine h.shut hx ha hg (by omega) ?_ hR;rw[stepG_tries];have hs:=(hx.ok.qM g0 hR).1;have:({ g0 with status:=.running }:Goroutine)=g0:=by
     obtain⟨fr,cs,st,dy,of⟩:=g0;simp only at hs;subst hs;rfl
    rw[this];exact(hx.ok.qM g0 hR).2 w
   ·exact quiet (hk 2 e) rfl (λm' g' z=>by rw[e];exact z) λz=>h.w2 hx ha hg e z
   ·exact quiet (hk 3 e) rfl (λm' g' z=>by rw[e];exact z) λz=>h.w3 hx ha hg e z
   ·exact quiet (hk 4 e) rfl (λm' g' z=>by rw[e];exact z) λz=>h.w4 hx ha hg e z
   ·exact quiet (hk 5 e) rfl (λm' g' z=>by rw[e];exact z) λz=>h.w5 hx ha hg e z
   ·exact quiet (hk 6 e) rfl (λm' g' z=>by rw[e];exact z) λz=>h.w6 hx ha hg e z
   exact quiet (hk 7 e) rfl (λm' g' z=>by rw[e];exact z) λz=>h.w7 hx ha hg e z
  exfalso
  obtain⟨k,hk⟩:∃k,D.wk a=k+8:=⟨D.wk a-8,by omega⟩;rw[hk]at h2;exact h2
 exact h.quit hx ha hg hr h8 hQ
end
section
variable {x:ft}{D:D2}{gs gs':Array Goroutine}{w w':ah}{t u:Trace}{sl:Option (Nat×Nat)}
def OW(hx:x.Ok){c:Goroutine}(hl:WgLive x.ty x.p.Wg w)(h:x.go true x.An m c w):x.go true (yq x.p.P x.ty x.p.Wg true x.gB x.An) (m+200) c w:=
 YT (R:=fA x.ty x.p.Wg) (D:=DC0) (λ_ z=>z) (F:=WgLive x.ty x.p.Wg) (λ_ _ f r=>r f) (λw w' es f (d:DC0 w w' es)=>by rw[d.1];exact f) hl h λg w f hA=>hx.round g w hA f
def vh(h1:D'.wk=D.wk)(h2:cw D'.ck (D'.v x.p.mW==D'.vs)<cw D.ck (D.v x.p.mW==D.vs)):D'.less x D:=by
 left
 unfold D2.N;rw[h1];omega
def S2.caller(hx:x.Ok)(h:S2 x D gs w t){c:Goroutine}(hc:gs[0]?=U c)(hr:c.status=.running):ki x D gs w t sl 0\/(D.ck=9/\Says x.p.P x.ty x.p.Wg true (.acquire (stA x.p.Wg)) (uV x.gB) c w):=by
 obtain⟨c',hc',bQ⟩:=h.lZ;rw[hc]at hc';cases hc';have qP:=h.mode.live;have rQ:∀e∈#[rd (stA x.p.Wg)],l_ x.p.Wg true e:=λe he=>by simp at he;subst he;exact E5
 have eI:∀e∈#[rd (stA x.p.Wg),wr (stA x.p.Wg)],l_ x.p.Wg true e:=λe he=>by
  simp only[n7,fu,ik,iI]at he
  rcases he with rfl|rfl
  ·exact E5
  exact Je
 have hle:D.v x.p.mW<=x.p.mW:=by
  have:=Go.ConcN.sumTo_le (f:=λa=>if D.wk a<=4 then 1 else 0) (c:=1) (j:=x.p.mW) λi _=>by split<;>omega
  unfold D2.v;omega
 have xc:D.v x.p.mW<2147483648:=by have:=hx.few;omega
 have mQ:=h.Cu;have quiet:∀{S:Goroutine->ah->Prop} {k:Nat},D.ck=k->x.go true S D.cm c w->(∀m' g',x.go true S m' g' w->x.C k m' D.vs g' w)->(∀w₁,fA x.ty x.p.Wg w w₁->S c w₁)\/ki x D gs w t sl 0:=by
  intro S k hk hG hW
  rcases Ja hG with z|⟨m',hm,_,z⟩
  ·exact .inl z
  right
  have z2:=z w λy=>y
  cases hst:stepG x.p.P true c w with
  |go g1 w1 es=>
   rw[hst,goes_go]at z2;obtain⟨⟨z3,z4⟩,z5⟩:=z2;subst z3 z4
   refine h.rU hx hc hst { D with cm:=m' } rfl rfl rfl rfl (by simp) rfl (λ_ _=>rfl) (by show x.C D.ck m' D.vs g1 _;rw[hk];exact hW m' g1 z5) (h.mode.on rfl rfl rfl rfl) (by show deafBehind _ #[]=_;rw[show deafBehind (Deaf t 0) #[]=Deaf t 0 from rfl];exact mQ) h.same (.inr ⟨rfl,?_⟩);unfold D2.M;simp only;omega
  |_=>rw[hst]at z2;exact z2.elim
 have hk:∀k,D.ck=k->x.C k D.cm D.vs c w:=λk e=>e▸bQ
 have ag8:D.ck<10/\0<D.ck:=by
  refine⟨?_,?_⟩
  ·rcases eC D.ck 10 with z|z
   ·exact z
   exfalso
   obtain⟨k,e⟩:∃k,D.ck=k+10:=⟨D.ck-10,by omega⟩;rw[e]at bQ;exact bQ
  rcases kG D.ck with z|z
  ·exfalso;rw[z]at bQ;exact bQ
  exact z
 have Y0:D.ck=1\/D.ck=2\/D.ck=3\/D.ck=4\/D.ck=5\/D.ck=6\/D.ck=7\/D.ck=8\/D.ck=9:=by omega
 have m0:D.ck=1\/D.ck=2\/D.ck=3\/D.ck=7\/D.ck=8\/D.ck=9->WgAt x.ty x.p.Wg w (D.v x.p.mW*KK) 0/\(D.ck=1\/D.ck=2\/(D.ck=3/\D.vs≠0)\/(D.v x.p.mW=0/\(D.ck=7\/D.ck=8\/D.ck=9)))/\(∀a,a<x.p.mW->D.wk a<=4\/D.wk a=8):=by
  intro jA
  rcases h.mode with z|⟨_,_,z,_⟩|⟨_,z,_⟩|⟨_,z,_⟩
  ·exact z
  ·omega
  ·omega
  omega
 rcases Y0 with e|e|e|e|e|e|e|e|e
 ·rcases quiet e (hk 1 e) λ_ _ z=>z with z|z
  ·left
   obtain⟨_,g',hst,m',hG⟩:=z w λy=>y
   obtain⟨h1,_,h3⟩:=m0 (by omega);exact h.rU hx hc hst { D with ck:=2,cm:=m'+200 } rfl rfl rfl rfl (λe he=>by simp at he;subst he;exact .inl (.inl rfl)) rfl (λ_ _=>rfl) (OW hx qP hG) (.inl ⟨h1,.inr (.inl rfl),h3⟩) (by rw[mQ,e];rfl) h.same (vh rfl (by rw[e];simp[cw]))
  exact .inl z
 ·rcases quiet e (hk 2 e) λ_ _ z=>z with z|z
  ·left
   obtain⟨h1,_,h3⟩:=m0 (by omega);obtain⟨g',hst,z0,z1⟩:=(z w λy=>y).2 (D.v x.p.mW) xc h1
   by_cases hv:D.v x.p.mW=0
   ·obtain⟨m',hG⟩:=z0 hv;exact h.rU hx hc hst { D with ck:=8,cm:=m' } rfl rfl rfl rfl rQ rfl (λ_ _=>rfl) hG (.inl ⟨h1,.inr (.inr (.inr ⟨hv,.inr (.inl rfl)⟩)),h3⟩) (by rw[mQ,e];rfl) h.same (vh rfl (by rw[e];simp[cw]))
   obtain⟨m',hG⟩:=z1 hv;exact h.rU hx hc hst { D with ck:=3,cm:=m',vs:=D.v x.p.mW } rfl rfl rfl rfl rQ rfl (λ_ _=>rfl) hG (.inl ⟨h1,.inr (.inr (.inl ⟨rfl,hv⟩)),h3⟩) (by rw[mQ,e];rfl) h.same (vh rfl (by rw[e,show ({ D with ck:=3,cm:=m',vs:=D.v x.p.mW }:D2).v x.p.mW=D.v x.p.mW from rfl];simp[cw]))
  exact .inl z
 ·rcases quiet e (hk 3 e) λ_ _ z=>z with z|z
  ·left
   obtain⟨h1,h2,h3⟩:=m0 (by omega);have Ap:D.vs≠0:=by
    rcases h2 with y|y|y|⟨_,y⟩
    ·omega
    ·omega
    ·exact y.2
    omega
   obtain⟨z0,z1⟩:=(z w λy=>y).2 (D.v x.p.mW) xc h1
   by_cases hv:D.v x.p.mW=D.vs
   ·obtain⟨g',hst,m',hG⟩:=z0 hv;exact h.rU hx hc hst { D with ck:=4,cm:=m' } rfl rfl rfl rfl eI xa (λb hb=>yC hb) hG (.inr (.inl ⟨by show 0<D.v x.p.mW;omega,h1.setSt _,.inl rfl,h3⟩)) (by rw[mQ,e];rfl) (yD h.same) (vh rfl (by rw[e,hv];simp[cw]))
   obtain⟨g',hst,m',hG⟩:=z1 hv;exact h.rU hx hc hst { D with ck:=2,cm:=m'+200 } rfl rfl rfl rfl rQ rfl (λ_ _=>rfl) (OW hx qP hG) (.inl ⟨h1,.inr (.inl rfl),h3⟩) (by rw[mQ,e];rfl) h.same (vh rfl (by
    rw[e,show (D.v x.p.mW==D.vs)=false by simpa using hv];simp[cw]))
  exact .inl z
 ·rcases quiet e (hk 4 e) λ_ _ z=>z with z|z
  ·left
   obtain⟨_,g',hst,m',hG⟩:=z w λy=>y
   refine h.rU hx hc hst { D with ck:=5,cm:=m' } rfl rfl rfl rfl (λe he=>by simp at he;subst he;exact .inr (.inl ⟨rfl,.inr rfl⟩)) rfl (λ_ _=>rfl) hG ?_ (by rw[mQ,e];rfl) h.same (vh rfl (by rw[e];simp[cw]))
   rcases h.mode with⟨_,y,_⟩|⟨y1,y2,_,y4⟩|⟨y1,_,y3⟩|⟨y1,_,y3⟩
   ·omega
   ·exact .inr (.inl ⟨y1,y2,.inr (.inl rfl),y4⟩)
   ·exact .inr (.inr (.inl ⟨y1,.inr (.inl rfl),y3⟩))
   exact .inr (.inr (.inr ⟨y1,.inr rfl,y3⟩))
  exact .inl z
 ·rcases quiet e (hk 5 e) λ_ _ z=>z with z|z
  ·left
   obtain⟨_,_,zb,zg⟩:=z w λy=>y
   have blk:(∃st,WgAt x.ty x.p.Wg w st 0)->x.Mode { D with ck:=6,cm:=0 } w->ki x D gs w t sl 0:=λhst hM=>
    h.rU hx hc (zb hst) { D with ck:=6,cm:=0 } rfl rfl rfl rfl (by simp) rfl (λ_ _=>rfl) ⟨c,z,rfl⟩ hM (by rw[show deafBehind (Deaf t 0) #[]=Deaf t 0 from rfl,mQ,e];rfl) h.same (.inr ⟨by unfold D2.N;rw[e];rfl,by
     unfold D2.M;rw[e];simp only[kC,show ¬((6:Nat)=5) by omega,j5];omega⟩)
   rcases h.mode with⟨_,y,_⟩|⟨y1,y2,_,y4⟩|⟨y1,_,b,hb,y3,y4⟩|⟨y1,_,y3,y4⟩
   ·omega
   ·exact blk ⟨_,y2⟩ (.inr (.inl ⟨y1,y2,.inr (.inr rfl),y4⟩))
   ·exact blk (by rcases y4 with⟨_,y⟩|⟨_,y⟩<;>exact⟨_,y⟩) (.inr (.inr (.inl ⟨y1,.inr (.inr rfl),b,hb,y3,y4⟩)))
   obtain⟨g',hst,m',hG⟩:=zg y3;exact h.rU hx hc hst { D with ck:=7,cm:=m' } rfl rfl rfl rfl Jf xa (λb hb=>yC hb) hG (.inl ⟨by
    show WgAt x.ty x.p.Wg _ (D.v x.p.mW*KK) 0
    rw[y1];simpa using y3.setSm 0,.inr (.inr (.inr ⟨y1,.inl rfl⟩)),λa ha=>.inr (y4 a ha)⟩) (by rw[mQ,e];rfl) (yD h.same) (vh rfl (by rw[e];simp[cw]))
  exact .inl z
 ·exfalso
  rcases bQ.status with y|⟨_,y,_⟩
  ·obtain⟨g,_,rfl⟩:=hk 6 e;cases y
  rw[hr]at y;cases y
 ·rcases quiet e (hk 7 e) λ_ _ z=>z with z|z
  ·left
   obtain⟨h1,h2,h3⟩:=m0 (by omega);have hv:D.v x.p.mW=0:=by
    rcases h2 with y|y|y|⟨y,_⟩
    ·omega
    ·omega
    ·omega
    exact y
   obtain⟨g',hst,m',hG⟩:=(z w λy=>y).2 (by rw[hv]at h1;simpa using h1);exact h.rU hx hc hst { D with ck:=8,cm:=m' } rfl rfl rfl rfl rQ rfl (λ_ _=>rfl) hG (.inl ⟨h1,.inr (.inr (.inr ⟨hv,.inr (.inl rfl)⟩)),h3⟩) (by rw[mQ,e];rfl) h.same (vh rfl (by rw[e];simp[cw]))
  exact .inl z
 ·rcases quiet e (hk 8 e) λ_ _ z=>z with z|z
  ·left
   obtain⟨h1,h2,h3⟩:=m0 (by omega);have hv:D.v x.p.mW=0:=by
    rcases h2 with y|y|y|⟨y,_⟩
    ·omega
    ·omega
    ·omega
    exact y
   obtain⟨_,g',hst,m',hG⟩:=z w λy=>y
   exact h.rU hx hc hst { D with ck:=9,cm:=m' } rfl rfl rfl rfl (λe he=>by simp at he;subst he;exact .inl (.inr (.inl rfl))) rfl (λ_ _=>rfl) hG (.inl ⟨h1,.inr (.inr (.inr ⟨hv,.inr (.inr rfl)⟩)),h3⟩) (by rw[mQ,e];rfl) h.same (vh rfl (by rw[e];simp[cw]))
  exact .inl z
 rcases quiet e (hk 9 e) λ_ _ z=>z with z|z
 ·exact .inr ⟨e,z w λy=>y⟩
 exact .inl z
end
section
variable {x:ft}{D:D2}{gs gs':Array Goroutine}{w w':ah}{t u:Trace}{sl:Option (Nat×Nat)}
def OX:∀{n:Nat},(∀a,a<n->4<D.wk a)->D.v n=0
 |0,_=>rfl
 |n+1,h=>by
  have:D.v (n+1)=D.v n+(if D.wk n<=4 then 1 else 0):=rfl;rw[this,OX λa ha=>h a (by omega),aF (by have:=h n (by omega);omega)]
def S2.tH(h:S2 x D gs w t)(d:Nat):S2 x D gs (w.at d) t:=by
 refine⟨h.size,OA h.core,h.old,h.above,λa ha=>?_,h.deaf,h.rel,h.ch,?_,h.Cu,h.mode.on rfl rfl rfl rfl,h.keep,h.grown,⟨h.same.os,h.same.o,h.same.tape,h.same.size⟩,h.tr⟩
 ·obtain⟨g,h1,h2⟩:=h.work a ha;exact⟨g,h1,h2.imp (λz=>z.on (Cn ..) (h.mode.on (w':=w.at d) rfl rfl rfl rfl:x.Mode D (w.at d)).live) id⟩
 obtain⟨c,h1,h2⟩:=h.lZ;exact⟨c,h1,h2.on (h.mode.on (w':=w.at d) rfl rfl rfl rfl:x.Mode D (w.at d)).live⟩
def Y1(hx:x.Ok)(h:S2 x D gs w t):(∃d sl' c,stepT x.p.P (crowd gs w sl)=runT x.p.P (crowd gs (w.at d) sl') 0/\S2 x D gs (w.at d) t/\D.ck=9/\gs[0]?=U c/\Says x.p.P x.ty x.p.Wg true (.acquire (stA x.p.Wg)) (uV x.gB) c (w.at d)) \/
  ∃D' gs' w' sl' ops,stepT x.p.P (crowd gs w sl)=(.next (crowd gs' w' sl'),ops)/\S2 x D' gs' w' (t++ops)/\D'.less x D:=by
 obtain⟨c,hc,bQ⟩:=id h.lZ;have hst:∀a,a<x.p.mW->∃g,gs[x.q0+1+a]?=U g/\((g.status=.running/\D.wk a≠8)\/(D.wk a=8/\(g.status=.running\/g.status=.finished))):=λa ha=>by
  obtain⟨g,h1,h2⟩:=h.work a ha
  refine⟨g,h1,?_⟩
  rcases h2 with h2|⟨h8,h2⟩
  ·refine .inl ⟨h2.running hx,λe=>?_⟩;rw[e]at h2;exact h2
  exact .inr ⟨h8,h2.status⟩
 have uO:∀g∈gs,awake g:=by
  intro g hg;obtain⟨i,hi⟩:=Cj.1 hg;have key:g.status=.running\/g.status=.finished\/g.status=.blocked:=by
   rcases kG i with rfl|jM
   ·rw[hc]at hi;cases hi
    rcases bQ.status with e|⟨_,e,_⟩
    ·exact .inl e
    exact .inr (.inr e)
   by_cases hq:i<=x.q0
   ·exact(h.old i g jM hq hi).status.imp id .inl
   have hlt:i<gs.size:=(bD.1 hi).1;obtain⟨b,rfl⟩:∃b,i=x.q0+1+b:=⟨i-(x.q0+1),by omega⟩;obtain⟨g',h1,h2⟩:=hst b (by have:=h.size;omega);rw[hi]at h1;cases h1
   rcases h2 with⟨e,_⟩|⟨_,e|e⟩
   ·exact .inl e
   ·exact .inl e
   exact .inr (.inl e)
  intro t e
  rcases key with k|k|k<;>(rw[e]at k;cases k)
 have hsome:∃(i:Nat) (g:Goroutine),gs[i]?=U g/\g.status=.running:=by
  rcases bQ.status with e|⟨e6,_⟩
  ·exact⟨0,c,hc,e⟩
  have run:∀a,a<x.p.mW->D.wk a≠8->∃(i:Nat) (g:Goroutine),gs[i]?=U g/\g.status=.running:=λa ha h8=>by
   obtain⟨g,h1,h2⟩:=hst a ha
   rcases h2 with⟨e,_⟩|⟨e,_⟩
   ·exact⟨_,g,h1,e⟩
   exact absurd e h8
  rcases h.mode with⟨_,z,_⟩|⟨z,_,_,_⟩|⟨_,_,b,hb,_,z⟩|⟨_,z,_⟩
  ·omega
  ·have:∃a,a<x.p.mW/\D.wk a<=4:=by
    refine BV λhn=>?_
    have:=OX (D:=D) (n:=x.p.mW) λa ha=>Nat.lt_of_not_le λy=>hn ⟨a,ha,y⟩
    omega
   obtain⟨a,ha,h4⟩:=this;exact run a ha (by omega)
  ·exact run b hb (by rcases z with⟨z|z,_⟩|⟨z,_⟩<;>omega)
  omega
 obtain⟨k,g,d,sl',hk,hgr,yo⟩:=crowd_pick (P:=x.p.P) (w:=w) (sl:=sl) uO hsome;have hD:=h.tH d;have fin:ki x D gs (w.at d) t sl' k->∃D' gs' w' sl' ops,stepT x.p.P (crowd gs w sl)=(.next (crowd gs' w' sl'),ops)/\S2 x D' gs' w' (t++ops)/\D'.less x D:=λ⟨D',gs',w',ops,e1,e2,e3⟩=>⟨D',gs',w',sl',ops,yo.trans e1,e2,e3⟩
 rcases kG k with rfl|jM
 ·rw[hc]at hk;cases hk
  rcases hD.caller (sl:=sl') hx hc hgr with z|⟨z1,z2⟩
  ·exact .inr (fin z)
  exact .inl ⟨d,sl',c,yo,hD,z1,hc,z2⟩
 right
 by_cases hq:k<=x.q0
 ·exact fin (hD.leave hx jM hq hk hgr)
 have hlt:k<gs.size:=(bD.1 hk).1;obtain⟨b,rfl⟩:∃b,k=x.q0+1+b:=⟨k-(x.q0+1),by omega⟩;exact fin (hD.worker hx (by have:=h.size;omega) hk hgr)
def Y2(hx:x.Ok)(h:S2 x D gs w t)(h9:D.ck=9){c:Goroutine}(hc:gs[0]?=U c)(hS:Says x.p.P x.ty x.p.Wg true (.acquire (stA x.p.Wg)) (uV x.gB) c w):∃gs' ops c' q' m,runT x.p.P (crowd gs w sl) 0=(.next (crowd gs' w sl),ops)/\gs'.size=gs.size/\gs'[0]?=U c'/\x.go true (uV x.gB) m c' w/\Leavers x.p.P (t++ops) gs' q'/\Past (λl=>x.p.Shun l\/lb l=U x.p.Wg) w.heap.size (t++ops):=by
 obtain⟨_,c',hst,m,hG⟩:=hS;have hlt:0<gs.size:=(bD.1 hc).1;have hrun:=runT_crowd_go (P:=x.p.P) (sl:=sl) (i:=0) hc (show stepG x.p.P (0==0) c w=_ from hst);have gS:∀i,i≠0->((gs.map (woken x.p.P c c' w)).setIfInBounds 0 c')[i]?=gs[i]?:=λi h0=>by
  rw[dS (ey h0),oJ]
  cases lg:gs[i]? with
  |none=>rfl
  |some y=>simp only[rM,h.Jc hx (by omega) lg]
 have hall:∀a,a<x.p.mW->D.wk a=8:=by
  rcases h.mode with⟨_,z,z3⟩|⟨_,_,z,_⟩|⟨_,z,_⟩|⟨_,z,_⟩
  ·have hv:D.v x.p.mW=0:=by
    rcases z with y|y|y|⟨y,_⟩
    ·omega
    ·omega
    ·omega
    exact y
   intro a ha;have:=OV hv ha
   rcases z3 a ha with y|y
   ·omega
   exact y
  ·omega
  ·omega
  omega
 have dP:Deaf t 0=0:=by have:=h.Cu;rw[h9]at this;simpa using this
 have I1:MemOp.ofEvents 0 c.frame.fn c.frame.place #[mk (.acquire (stA x.p.Wg))]=#[{ g:=0,fn:=c.frame.fn,pos:=c.frame.place,act:=.mark (.acquire (stA x.p.Wg)) }]:=by rw[ofEvents_eq];simp[Go.ConcR.ofEvent_mk]
 have iz:Core w (t++MemOp.ofEvents 0 c.frame.fn c.frame.place #[mk (.acquire (stA x.p.Wg))]) (x.q0,x.q0+x.p.mW) D.who x.p.Sh x.p.Gr:=h.core.td (main:=true) (.inl rfl) (.inl rfl) (λ_=>rfl) rfl λe he=>by simp at he;subst he;exact .inl (.inr (.inr (.inr rfl)))
 have yB:Tr x.q0 (x.q0+x.p.mW) x.p.Shun (stA x.p.Wg) (t++MemOp.ofEvents 0 c.frame.fn c.frame.place #[mk (.acquire (stA x.p.Wg))]):=h.tr.events (.inl rfl) λe he=>by simp at he;subst he;intro z;cases z
 rw[I1]at hrun iz yB;generalize hy:({ g:=0,fn:=c.frame.fn,pos:=c.frame.place,act:=.mark (.acquire (stA x.p.Wg)) }:MemOp)=y at hrun iz yB;have y1:y.g=0:=by subst hy;rfl
 have y2:y.act=.mark (.acquire (stA x.p.Wg)):=by subst hy;rfl
 have dQ:∀k,Deaf (t++#[y]) k=Deaf t k:=λk=>by
  rw[show #[y]=[y].toArray from rfl,Deaf_append];simp[deafStep,y2]
 have Jj:(t++#[y])[t.size]?=U y:=by rw[xG (aR _)];simp
 have hq:(t++#[y]).act? t.size=U (.mark (.acquire (stA x.p.Wg))):=by rw[act?_of Jj,y2]
 have OY:(t++#[y]).g? t.size=U 0:=by unfold Trace.g?;rw[Jj,<- y1];rfl
 have Y3:(t++#[y]).heard t.size:=⟨0,OY,by rw[deaf_old (aR _)];exact dP⟩;have Jd:∀i,(t++#[y]).act? i≠U (.mark (.release (stA x.p.Wg))):=λi e=>by
  obtain⟨op,ho,Y4⟩:=jz.1 e;exact yB.nr op (bU ho) Y4
 have hrel:∀k,x.q0<k->k<=x.q0+x.p.mW->∃r,RelBy (stA x.p.Wg) (t++#[y]) k r/\(∀(i:Nat) (z:MemOp) (b:Touch),r<i->(t++#[y])[i]?=U z->z.g=k->z.act.touch?=U b->lb b.loc=U x.p.Wg/\b.kind=.atomic)/\∀i,i<=r->(t++#[y]).g? i=U k->HappensBefore (t++#[y]) i t.size:=by
  intro k B7 hk2;obtain⟨a,rfl⟩:∃a,k=x.q0+1+a:=⟨k-(x.q0+1),by omega⟩;have ha:a<x.p.mW:=by omega
  obtain⟨r,r1,r2⟩:=h.rel a ha (by rw[hall a ha];omega);have w9:∀op∈#[y],op.g=0:=λop hop=>by simp at hop;subst hop;exact y1
  have r3:=r1.appOther w9 (by omega:(0:Nat)≠x.q0+1+a);have hrt:r<t.size:=lt_of_act? r1.act;have edge:HappensBefore (t++#[y]) r t.size:=.single (.inr ⟨.marked hrt (.inr r3.act) hq (λk _ _=>Jd k),r3.heard,Y3⟩)
  refine⟨r,r3,λi z b hi hz Y5 hb=>?_,λi hi lg=>?_⟩
  ·rcases getElem?_append_cases hz with⟨_,hz'⟩|⟨_,Y6⟩
   ·exact r2 i z b hi hz' Y5 hb
   have:=w9 z Y6;omega
  rcases eC i r with z|z
  ·exact .trans (.single (.inl ⟨z,_,lg,r3.g⟩)) edge
  obtain rfl:i=r:=by omega
  exact edge
 refine⟨_,_,c',λk=>if k<=x.q0 then D.q k else D.wm (k-(x.q0+1)),m,hrun,by simp,jk (by simpa using hlt),hG,⟨λi g hi lg=>?_,λk hk=>?_⟩,⟨λsaid=>(iz.tk said).clean,λi a ha hm=>?_,λi g lg h0 tK=>?_,by rw[dQ];exact dP,iz.seen⟩⟩
 ·rw[gS i (by omega)]at lg;rw[dQ]
  by_cases tJ:i<=x.q0
  ·simp only[tJ,kC];exact h.old i g hi tJ lg
  simp only[tJ,j5];have yE:i<gs.size:=(bD.1 lg).1;obtain⟨b,rfl⟩:∃b,i=x.q0+1+b:=⟨i-(x.q0+1),by omega⟩;have hb:b<x.p.mW:=by have:=h.size;omega
  obtain⟨g',h1,h2⟩:=h.work b hb;rw[lg]at h1;cases h1;rw[show x.q0+1+b-(x.q0+1)=b by omega]
  rcases h2 with h2|⟨_,h2⟩
  ·rw[hall b hb]at h2;exact h2.elim
  exact h2
 ·rw[dQ];have iq:gs.size<=k:=by simpa using hk
  exact h.above k (by have:=h.size;omega)
 ·obtain⟨z,hz,OZ⟩:=touch_of ha
  rcases yB.kn i z a hz OZ hm with e|⟨e1,e2⟩|⟨e1,e2⟩
  ·exact .inl e
  ·exact .inr ⟨.inl e1,e2⟩
  obtain⟨r,_,r2,r3⟩:=hrel z.g e1 e2
  rcases eC r i with q|q
  ·obtain⟨s1,s2⟩:=r2 i z a q hz rfl OZ;exact .inr ⟨.inr s1,s2⟩
  exact .inl ⟨t.size,y,Jj,y1,.inr (r3 i q (by unfold Trace.g?;rw[hz];rfl))⟩
 rcases yB.ho i g lg h0 tK with e|⟨e1,e2⟩
 ·exact e
 obtain⟨r,r1,_,r3⟩:=hrel g e1 e2;have hle:i<=r:=Nat.le_of_not_lt λq=>r1.after i q lg tK
 exact⟨t.size,OY,r3 i hle lg⟩
end
def runNT_then{m' O1:Machine}{ops:Array MemOp}:∀{n:Nat} {m:Machine} {t t':Trace},runNT P n m t=(.next m',t')->stepT P m'=(.next O1,ops)->runNT P (n+1) m t=(.next O1,t'++ops)
 |0,m,t,t',h,hs=>by
  simp only[runNT]at h
  cases h
  rw[pW hs];rfl
 |n+1,m,t,t',h,hs=>by
  cases hm:stepT P m with
  |mk s ag9=>
   cases s with
   |next m1=>
    rw[pW hm]at h⊢;exact runNT_then h hs
   |ended o w=>simp[runNT,hm]at h
section
variable {x:ft}{D:D2}{gs gs':Array Goroutine}{w w':ah}{t u:Trace}{sl:Option (Nat×Nat)}
def Y7(hx:x.Ok)(h:S2 x D gs w t):∃n gs' w' sl' t' c' q' m,runNT x.p.P n (crowd gs w sl) t=(.next (crowd gs' w' sl'),t')/\gs'.size=gs.size/\gs'[0]?=U c'/\x.go true (uV x.gB) m c' w'/\Leavers x.p.P t' gs' q' /\
  Past (λl=>x.p.Shun l\/lb l=U x.p.Wg) w'.heap.size t'/\(∀b,x.kept b->w'.heap[b]?=x.wS.heap[b]?)/\x.wS.heap.size<=w'.heap.size/\bG x.w0 w'/\WgLive x.ty x.p.Wg w':=by
 have hsz:=h.size;obtain⟨n,m',t',h1,D',jS,w1,gj,c,h3,h2,h9,hc,hS⟩:=OQ (P:=x.p.P) (Prod.lex ⟨_,Nat.lt_wfRel.wf⟩ ⟨_,Nat.lt_wfRel.wf⟩).wf (λμ m t=>∃(D:D2) (gs:Array Goroutine) (w:ah) (sl:Option (Nat×Nat)),m=crowd gs w sl/\S2 x D gs w t/\μ=(D.N x,D.M x))
  (λm t=>∃(D:D2) (gs:Array Goroutine) (w:ah) (sl:Option (Nat×Nat)) (c:Goroutine),stepT x.p.P m=runT x.p.P (crowd gs w sl) 0/\S2 x D gs w t/\D.ck=9/\gs[0]?=U c/\Says x.p.P x.ty x.p.Wg true (.acquire (stA x.p.Wg)) (uV x.gB) c w)
  (by
   rintro μ m t ⟨D,gs,w,sl,rfl,hS,rfl⟩
   rcases Y1 (sl:=sl) hx hS with⟨d,sl',c,hs,hd,h9,hc,Y8⟩|⟨D',gs',w',sl',ops,hs,yA,hl⟩
   ·exact .inl ⟨D,gs,w.at d,sl',c,hs,hd,h9,hc,Y8⟩
   refine .inr ⟨_,ops,_,hs,?_,D',gs',w',sl',rfl,yA,rfl⟩
   rcases hl with hl|⟨hl,hl2⟩
   ·exact .left _ _ hl
   rw[hl];exact .right _ hl2)
  (D.N x,D.M x) (crowd gs w sl) t ⟨D,gs,w,sl,rfl,h,rfl⟩
 obtain⟨cg,ops,c',q',m,e1,e2,e3,e4,e5,e6⟩:=Y2 (sl:=gj) hx h2 h9 hc hS;exact⟨n+1,cg,w1,gj,t'++ops,c',q',m,runNT_then h1 (h3.trans e1),by rw[e2,h2.size,hsz],e3,e4,e5,e6,λb hb=>(h2.keep b hb).1,h2.grown,h2.same,h2.mode.live⟩
end
def O2:∀{n:Nat} {f:Nat->Nat},(∀a,a<n->f a=1)->sumTo n f=n
 |0,_,_=>rfl
 |n+1,f,h=>by rw[sumTo,O2 λa ha=>h a (by omega),h n (by omega)]
def Y9{w0:ah}{D:D1 p}{sl:Option (Nat×Nat)}{ty:TypeId}{gB a a1:Goroutine}{An:Goroutine->ah->Prop}(h:S1.Done p q0 w0 D gs w t)(hp:p.Ok)(ha:gs[0]?=U a)(Jh:mayWake p.P a=true)(ha1:a1.status=.running)
  (hst:∀s,w.heap[p.c1]?=U (.chan 0 #[] false s s false)->stepG p.P true a w=.go a1 (w.setChan p.c1 0 #[] true s s false) (closeEvents p.c1)) (hgo:∀w',WgLive ty p.Wg w'->∃m,Goes p.P true (fA ty p.Wg) DC0 (Says p.P ty p.Wg true .disable An) m a1 w') (pZ:WgAt ty p.Wg w (p.mW*KK) 0):∃D2 gs' w' ops,runT p.P (crowd gs w sl) 0=(.next (crowd gs' w' sl),ops)/\S2 ⟨p,ty,gB,An,q0,w0,w,λb=>b<w.heap.size/\b≠p.Wg/\b≠p.c1/\∀k,q0<k->D.who b≠U k⟩ D2 gs' w' (t++ops):=by
 obtain⟨hS,hj,dP,hall,_⟩:=h;obtain⟨s,hs⟩:=hS.sit.kg;have hC:=hS.sit.core;have hgr:p.Gr p.c1:=.inr (.inl rfl);have hlt:0<gs.size:=(bD.1 ha).1;have hst:=hst s hs;generalize hW:w.setChan p.c1 0 #[] true s s false=W at hst;have eW:∀b,b≠p.c1->W.heap[b]?=w.heap[b]?:=λb hb=>by
  rw[<- hW];simp only[World.setChan];rw[dS (ey hb)]
 have rT:W.heap.size=w.heap.size:=by rw[<- hW];simp[World.setChan]
 have kL:W.heap[p.c1]?=U (.chan 0 #[] true s s false):=by
  rw[<- hW];simp only[World.setChan];exact jk (hC.jE _ hgr)
 have hrun:=runT_crowd_go (P:=p.P) (sl:=sl) (i:=0) ha (show stepG p.P (0==0) a w=_ from hst);have qP:WgAt ty p.Wg W (p.mW*KK) 0:=pZ.of_block (eW _ hp.apart.1);obtain⟨m,hm⟩:=hgo W ⟨_,_,qP⟩;have Y_:∀b,D.j=p.mW->b<p.mW->(D.wd b).k<2:=λb _ hb=>by
  rcases eC (D.wd b).k 2 with z|z
  ·exact z
  have:=hS.sit.has b (by omega) z;exact absurd this.2 (hall _ (dK this.1 hS.sit.tG))
 have Jk:∀op∈MemOp.ofEvents 0 a.frame.fn a.frame.place (closeEvents p.c1),op.g=0/\((op.act=.access ⟨.obj p.c1,false,true⟩)\/op.act=.close p.c1):=λop hop=>by
  rw[closeOps]at hop;simp only[n7,fu,ik,iI]at hop
  rcases hop with rfl|rfl
  ·exact⟨rfl,.inl rfl⟩
  exact⟨rfl,.inr rfl⟩
 have dQ:∀k,Deaf (t++MemOp.ofEvents 0 a.frame.fn a.frame.place (closeEvents p.c1)) k=Deaf t k:=λk=>by
  rw[closeOps,show ∀y z:MemOp,#[y,z]=[y,z].toArray from λ_ _=>rfl,Deaf_append];simp[deafStep]
 have iz:Core W (t++MemOp.ofEvents 0 a.frame.fn a.frame.place (closeEvents p.c1)) (q0,q0+p.mW) D.who p.Sh p.Gr:=by
  rw[hj]at hC
  refine⟨λsaid=>(hC.tk said).app hC.fF hC.lY (.inl (.inl rfl)) λop hop=>⟨(Jk op hop).1,λz hz=>?_⟩,λop hop=>?_,λb k hb=>by rw[rT];exact hC.lt b k hb,hC.fF,hC.lY,λb hb=>by rw[rT];exact hC.lD b hb,λb hb=>by rw[rT];exact hC.jE b hb,hC.rR⟩
  ·rcases(Jk op hop).2 with e|e
   ·rw[e]at hz;cases hz;exact .inl ⟨p.c1,rfl,.inr (.inr ⟨hgr,by simp,by simp⟩)⟩
   rw[e]at hz;cases hz
  rw[rT]
  rcases mL.1 hop with z|z
  ·exact hC.seen op z
  rcases(Jk op z).2 with e|e
  ·rw[e];exact hC.jE _ hgr
  rw[e];exact hC.jE _ hgr
 have E7:∀i g,i≠0->gs[i]?=U g->(g.status=.running\/g.status=.finished->woken p.P a a1 W g=g):=λi g _ _ hs=>Aj (hs.imp id .inl)
 have lg:∀i,i≠0->((gs.map (woken p.P a a1 W)).setIfInBounds 0 a1)[i]?=(gs[i]?).map (woken p.P a a1 W):=λi h0=>by
  rw[dS (ey h0),oJ]
 refine⟨⟨λb=>if (D.wd b).k=0 then 0 else 1,λb=>if (D.wd b).k=0 then (D.wd b).m else 0,D.who,D.q,1,m,0⟩,_,W,_,hrun,?_⟩;have hv:D2.v ⟨λb=>if (D.wd b).k=0 then 0 else 1,λb=>if (D.wd b).k=0 then (D.wd b).m else 0,D.who,D.q,1,m,0⟩ p.mW=p.mW:=O2 λb _=>by
  simp only
  split<;>simp
 refine⟨by simp;have:=hS.sit.size;omega,iz,λk g hk hq hg=>?_,λk hk=>?_,λb hb=>?_,λb hb=>⟨λ_=>?_,λz=>?_⟩,λb hb z=>?_,⟨s,kL⟩,⟨a1,jk (by simpa using hlt),hm⟩,?_,.inl ⟨?_,.inl rfl,λb _=>?_⟩,λb hb=>⟨eW b hb.2.2.1,hb.2.2.2⟩,by rw[rT];exact aR _,?_,hS.tr.events (.inl rfl) λe he=>?_⟩
 ·rw[lg k (by omega)]at hg;obtain⟨y,hy,rfl⟩:=jz.1 hg;have hQ:=hS.sit.old k y hk hq hy;rw[E7 k y (by omega) hy hQ.status,dQ];exact hQ
 ·rw[dQ];exact hS.sit.hear k (by have:q0+p.mW<k:=hk;omega)
 ·have hb':b<p.mW:=hb;obtain⟨g,g1,g2⟩:=hS.sit.work b (by omega);have hk2:=Y_ b hj hb'
  by_cases df:(D.wd b).k=0
  ·have g3:p.gt false (λ_ g _=>p.Recv g) (D.wd b).m 0 (λy=>D.who y=U (q0+1+b)) g w:=by
    unfold br.WS at g2;rw[df]at g2;exact g2
   refine⟨g,?_,.inl ?_⟩
   ·show ((gs.map (woken p.P a a1 W)).setIfInBounds 0 a1)[q0+1+b]?=U g
    rw[lg _ (by omega),g1];exact iU U (E7 _ g (by omega) g1 (.inl (Gt.running g3 λ_ g _ hS=>(hp.qM g hS).1)))
   simp only[df,kC];exact Gt.rely g3 ⟨λy hy=>eW y (hy.elim (λz e=>(hC.fF y ⟨_,z⟩).2 (e▸hgr)) λz e=>hp.pY y z (e▸hgr)),by rw[rT];exact aR _⟩
  have B7:(D.wd b).k=1:=by omega
  obtain⟨g0,hr,rfl⟩:∃g0,p.Recv g0/\g=parked g0 #[rcase p.c1 p.z1] (.recv true):=by
   unfold br.WS at g2;rw[B7]at g2;exact g2
  refine⟨{ parked g0 #[rcase p.c1 p.z1] (.recv true)with status:=.running },?_,.inl ?_⟩
  ·show ((gs.map (woken p.P a a1 W)).setIfInBounds 0 a1)[q0+1+b]?=_
   rw[lg _ (by omega),g1];have:woken p.P a a1 W (parked g0 #[rcase p.c1 p.z1] (.recv true))={ parked g0 #[rcase p.c1 p.z1] (.recv true)with status:=.running }:=by
    unfold woken;rw[aU (by simp[Jh,ha1])];exact again_recv_closed kL
   rw[rM,this]
  simp only[df,j5];exact⟨g0,hr,rfl⟩
 ·rw[dQ];exact hS.sit.hear _ (by show q0<q0+1+b;omega)
 ·have z':4<=(if (D.wd b).k=0 then 0 else 1):=z
  split at z'<;>omega
 ·have z':3<=(if (D.wd b).k=0 then 0 else 1):=z
  split at z'<;>omega
 ·rw[dQ,dP];rfl
 ·rw[hv];exact qP
 ·show (if (D.wd b).k=0 then 0 else 1)<=4\/_
  left;split<;>omega
 ·rw[<- hW];exact⟨hS.same.os,hS.same.o,hS.same.tape,by rw[show (w.setChan p.c1 0 #[] true s s false).heap.size=w.heap.size by simp[World.setChan]];exact hS.same.size⟩
 simp only[closeEvents,n7,fu,ik,iI]at he
 rcases he with rfl|rfl<;>simp
def Y'{w0:ah}(hl:WgLive ty Wg w0):∀{n:Nat} {g:Goroutine} {w:ah},AtRel w0 w->Goes P true (fA ty Wg) DC0 S n g w->Goes P true AtRel DC0 (λg w=>S g w/\AtRel w0 w) n g w:=by
 have key:∀{w w₁:ah},AtRel w0 w->AtRel w w₁->fA ty Wg w w₁:=λ{w w₁} h1 h2 _=>by
  obtain⟨d,rfl⟩:=atRel_trans _ _ _ h1 h2;exact hl
 intro n
 induction n with
 |zero=>exact λ{g w} hr h w₁ h₁=>⟨h w₁ (key hr h₁),atRel_trans _ _ _ hr h₁⟩
 |succ n ih=>
  intro g w hr h
  rcases h with h|⟨hs,h⟩
  ·exact .inl λw₁ h₁=>⟨h w₁ (key hr h₁),atRel_trans _ _ _ hr h₁⟩
  refine .inr ⟨hs,λw₁ h₁=>?_⟩;have h2:=h w₁ (key hr h₁)
  cases hg:stepG P true g w₁ with
  |go g' w' es=>
   rw[hg,goes_go]at h2;rw[goes_go];obtain⟨⟨e1,e2⟩,h3⟩:=h2;exact⟨⟨e1,e2⟩,ih (by rw[e1];exact atRel_trans _ _ _ hr h₁) h3⟩
  |_=>rw[hg]at h2;exact h2.elim
def Za{q0:Nat}{w0 w:ah}{D:D1 p}{gs:Array Goroutine}{t:Trace}{sl:Option (Nat×Nat)}{ty:TypeId}{B:(Nat->Option aj)->(Nat->Prop)->ah->Goroutine->Prop}(hp:p.Ok)(ve:0<p.n->0<p.mW)(few:p.mW<2147483647)
  (Jl:∀g w,p.Recv g->WgLive ty p.Wg w->∃m,Goes p.P false (fA ty p.Wg) DC0 (wR p.P ty p.Wg) m (Go.Conc.served g (aX #[p.z1,aJ false])) w)
  (kh:∀rv O a w,p.Cl rv O a w->∃a1 gB An,mayWake p.P a=true/\a1.status=.running/\(∀s,w.heap[p.c1]?=U (.chan 0 #[] false s s false)->stepG p.P true a w=.go a1 (w.setChan p.c1 0 #[] true s s false) (closeEvents p.c1)) /\
   (∀w',WgLive ty p.Wg w'->∃m,Goes p.P true (fA ty p.Wg) DC0 (Says p.P ty p.Wg true .disable An) m a1 w')/\(∀g w',An g w'->WgLive ty p.Wg w'->Goes p.P true (fA ty p.Wg) DC0 (yq p.P ty p.Wg true gB An) 200 g w')/\WgAt ty p.Wg w (p.mW*KK) 0/\B rv O w gB)
  (h:S1 p q0 w0 D gs w t):∃n gs' w' sl' t' q' gB rv O wS,runNT p.P n (crowd gs w sl) t=(.next (crowd gs' w' sl'),t')/\gs'.size=1+q0+p.mW/\gs'[0]?=U gB/\Leavers p.P t' gs' q'/\Past (λl=>p.Shun l\/lb l=U p.Wg) w'.heap.size t' /\
   p.all rv/\B rv O wS gB/\(∀b,O b->b≠p.Wg->w'.heap[b]?=wS.heap[b]?)/\(∀b,p.Sh b->w'.heap[b]?=wS.heap[b]?)/\(∀i v,rv i=U v->∃F,p.fN i v F w')/\wS.heap.size<=w'.heap.size/\bG w0 w':=by
 obtain⟨n1,m1,E9,jS,w1,gj,t1,r1,s1,hdone⟩:=YS (sl:=sl) hp ve h;obtain⟨hS,hj,dP,hall,a,ha,I'⟩:=id hdone;obtain⟨a1,gB,An,c1,c2,c3,c4,c5,c6,c7⟩:=kh _ _ _ _ I';obtain⟨ag_,cg,w2,ops,r2,fB⟩:=Y9 (sl:=gj) (gB:=gB) (An:=An) hdone hp ha c1 c2 c3 c4 c6;have hC:=hS.sit.core;have hx:ft.Ok ⟨p,ty,gB,An,q0,w0,w1,λb=>b<w1.heap.size/\b≠p.Wg/\b≠p.c1/\∀k,q0<k->E9.who b≠U k⟩:=⟨hp,Jl,c5,few,λb hb=>⟨hb.1,hb.2.1,hb.2.2.1⟩⟩;obtain⟨n3,tL,w3,qQ,t3,c,q,m,r3,e1,e2,e3,e4,e5,e6,e7,e8,e9⟩:=Y7 (sl:=gj) hx fB;have Zb:=fB.size;obtain⟨N,yF,a4,w4,xd,t4,q4,r4,f1,f2,⟨f3,f4⟩,f5,f6⟩:=walk_beside (P:=p.P) (Shun:=λl=>p.Shun l\/lb l=U p.Wg) (B:=w3.heap.size) (D:=DC0) (λ_ _ _ hd e he=>by rw[hd.2]at he;simp at he) _ m tL c w3 qQ t3 q (aR _) e2 e4 e5 (Y' e9 (atRel_refl _) e3);obtain⟨d4,rfl⟩:=f4;have hB:a4=gB:=f3;subst hB
 refine⟨n1+1+n3+N,yF,w3.at d4,xd,t4,q4,a4,E9.rv,E9.O0,w1,?_,by rw[f1,e1,Zb],f2,f5,f6,hall,c7,λb hb rE=>?_,λb hb=>?_,λi v hv=>?_,e7,⟨e8.os,e8.o,e8.tape,e8.size⟩⟩
 ·rw[tF,tF,runNT_succ_of r1 (s1.trans r2)];simp only[r3,r4]
 ·have hb0:E9.who b=U 0:=hb.resolve_right rE;exact e6 b ⟨hC.lt b _ hb0,rE,λe=>(hC.fF b ⟨_,hb0⟩).2 (.inr (.inl e)),λk hk e=>by rw[hb0]at e;cases e;omega⟩
 ·exact e6 b ⟨hC.lD b hb,λe=>hp.pY b hb (.inl e),λe=>hp.pY b hb (.inr (.inl e)),λk _ e=>(hC.fF b ⟨_,e⟩).1 hb⟩
 obtain⟨F,g1,g2⟩:=hS.sit.IV i v hv;exact⟨F,hp.res _ _ _ _ _ g1 (λb hb=>e6 b ⟨(g2 b hb).1,λe=>(g2 b hb).2.2 (.inl e),λe=>(g2 b hb).2.2 (.inr (.inl e)),λk _ e=>(g2 b hb).2.1 k e⟩) e7⟩
open Go.Extern Go.Extern.Rtype
section
variable {P:Program}{β:aK}{α γ:Type}
def Pz(P:Program):Sem α->Prop
 |.pure _=>True
 |.program k=>Pz P (k P)
 |.halt h=>mJ h
 |_=>False
def Pz.Cz:∀{s:Sem α},Pz P s->ai P β s s (λ_ x y=>x=y)
 |.pure _,_=>ai.pure rfl
 |.program k,h=>ai.program (Pz.Cz (s:=k P) h)
 |.halt _,h=>ai.halt h
def Pz.bind{f:α->Sem γ}:∀{s:Sem α},Pz P s->(∀a,Pz P (f a))->Pz P (s >>= f)
 |.pure a,_,k=>k a
 |.program g,h,k=>show Pz P ((g P).bind f)from Pz.bind (s:=g P) h k
 |.halt _,h,_=>h
def tM:Pz P Go.program:=trivial
def Au(t:TypeId):Pz P (typeInfo t):=by
 unfold typeInfo
 refine Pz.bind tM λp=>?_
 split<;>trivial
def E_(s:String)(t:TypeId):Pz P (noPack s t):=Pz.bind tM λp=>by split<;>trivial
def Zc(s:String)(t:TypeId):Pz P (noPackHeld s t):=by
 unfold noPackHeld
 refine Pz.bind tM λp=>Pz.bind tM λq=>?_
 split<;>trivial
def Zd(s:String)(t:TypeId):Pz P (noPackNamed s t):=by
 unfold noPackNamed
 refine Pz.bind tM λp=>Pz.bind tM λq=>?_
 split<;>trivial
def CB(s:String)(t:TypeId):Pz P (noPackMethods s t):=by
 unfold noPackMethods
 refine Pz.bind tM λp=>Pz.bind tM λq=>?_
 split<;>trivial
def Av(t:TypeId):Pz P (under t):=by
 unfold under
 refine Pz.bind (Au _) λi=>?_
 split
 ·exact Pz.bind (Au _) λ_=>trivial
 trivial
def Fa(t:TypeId):Pz P (kind t):=by
 unfold kind
 refine Pz.bind (Av _) λi=>?_
 obtain⟨_,i⟩:=i;dsimp only
 split<;>trivial
def O3(t:TypeId):Pz P (hasName t):=by
 unfold hasName
 refine Pz.bind (Au _) λi=>?_
 split<;>trivial
def Jm(t:TypeId):Pz P (elem? t):=by
 unfold elem?
 refine Pz.bind (Av _) λi=>?_
 split<;>trivial
def Ze(t:TypeId):Pz P (typeStr t):=by
 unfold typeStr
 refine Pz.bind (Au _) λi=>?_
 dsimp only
 split<;>trivial
def Jn(t:TypeId):Pz P (spelt t):=Pz.bind (Zd _ _) λ_=>Ze _
def Jo(T V:TypeId):Pz P (implements T V):=by
 unfold implements
 refine Pz.bind (CB _ _) λ_=>Pz.bind (CB _ _) λ_=>Pz.bind (Av _) λa=>Pz.bind (Av _) λb=>?_
 split
 ·trivial
 ·exact Pz.bind (Au _) λ_=>trivial
 trivial
def O4(T V:TypeId):Pz P (directlyAssignable T V):=by
 unfold directlyAssignable
 split
 ·trivial
 refine Pz.bind (O3 _) λa=>Pz.bind (O3 _) λb=>?_
 split
 ·trivial
 refine Pz.bind (Av _) λa=>Pz.bind (Av _) λb=>?_
 dsimp only
 split<;>trivial
def O5(n:String):Pz P (cutType n):=by
 unfold cutType
 refine Pz.bind tM λp=>?_
 split<;>trivial
def Zf(t:TypeId):Pz P (elemOf t):=by
 unfold elemOf underlying
 refine Pz.bind (Pz.bind tM λp=>?_) λd=>?_
 ·split<;>trivial
 cases d<;>trivial
def Pz.kv{s:Sem α}{f f':α->Sem γ}{S:aK->γ->γ->Prop}(h:Pz P s)(k:∀β' a,β.le β'->ai P β' (f a) (f' a) S):ai P β (s >>= f) (s >>= f') S:=
 ai.bind' (Pz.Cz h) λβ1 a _ l1 e=>by subst e;exact k β1 a l1
def aQ.pz{f:α->Sem γ}:∀{s:Sem α},Pz P s->(∀a,aQ P (f a))->aQ P (s >>= f)
 |.pure a,_,k=>k a
 |.program g,h,k=>λK v=>aQ.pz (s:=g P) h k K v
 |.halt _,h,_=>λ_ _=>h
def Fb(m:String):aQ P (panicString m:Sem α):=aQ.prog (aQ.panic _)
def yG(m:String)(k:Nat):aQ P (ReflectliteValue.valueError m k:Sem α):=by
 unfold ReflectliteValue.valueError newVar newRow
 refine aQ.pz (O5 _) λt=>aQ.pz (Zf _) λe K v=>?_
 exact Mw.bind _ _ v (Mw.bind _ _ v trivial)
def O6(hA:β.any P.globals.size P.globals.size)(t:TypeId):ai P β (handle t) (handle t) RV:=by
 unfold handle;exact ai.prog (ai.pure' (rN ⟨hA,rfl,rfl⟩))
def Jp(hA:β.any P.globals.size P.globals.size)(h:RV β x x'):ai P β (ofHandle x) (ofHandle x') (λ_ t t'=>t=t'):=by
 refine ai.facts λinj f1 _=>?_
 unfold ofHandle
 refine ai.prog ?_;have e:handleType P x=handleType P x':=by
  rcases h.ways with⟨b,rfl,rfl⟩|⟨k,n,rfl,rfl⟩|⟨s,rfl,rfl⟩|⟨a,a',rfl,rfl,ha⟩|⟨a,a',l,c,rfl,rfl,ha⟩|⟨r,r',rfl,rfl,hr⟩|⟨rfl,rfl⟩|⟨f,xs,ys,us,vs,rfl,rfl,hf,_⟩|⟨rfl,rfl⟩|⟨t,v,v',rfl,rfl,hv⟩|⟨rfl,rfl⟩|⟨xs,ys,rfl,rfl,h1⟩|⟨xs,ys,rfl,rfl,h1⟩<;>try rfl
  cases a with
  |none=>cases ha;rfl
  |some a=>
   obtain⟨a',rfl,ha⟩:=ha;have:(a.block==P.globals.size)=(a'.block==P.globals.size):=by
    have iff:a.block=P.globals.size↔a'.block=P.globals.size:=⟨λe=>f1 _ _ _ (e▸ha.blk) hA,λe=>inj _ _ _ (e▸ha.blk) hA⟩;rw[yc];simpa using iff
   unfold handleType;dsimp only
   rw[this,ha.off]
 rw[e]
 cases handleType P x' with
 |none=>exact ai.stuck
 |some t=>exact ai.pure' rfl
def Jq(hA:β.any P.globals.size P.globals.size)(t:TypeId):ai P β (ReflectliteType.toType t) (ReflectliteType.toType t) RV:=by
 unfold ReflectliteType.toType;exact Pz.kv (O5 _) λβ1 c l1=>ai.bind' (O6 (l1.any hA) t) λβ2 x y l2 k=>ai.pure' (jh.2 ⟨_,rfl,gH.2 ⟨_,rfl,bh.one k⟩⟩)
def yH(h:RL β xs ys):(∃a c,xs=#[a]/\ys=#[c]/\RV β a c)\/xs.size≠1:=by
 by_cases hs:xs.size=1
 ·have hs':ys.size=1:=h.1▸hs;obtain⟨xs⟩:=xs;obtain⟨ys⟩:=ys
  match xs,ys,hs,hs' with
  |[a],[c],_,_=>exact .inl ⟨a,c,rfl,rfl,h.2 0 a c rfl rfl⟩
 exact .inr hs
def Zg(h:RL β xs ys):(∃a b c d e f,xs=#[a,b,c]/\ys=#[d,e,f]/\RV β a d/\RV β b e/\RV β c f)\/xs.size≠3:=by
 by_cases hs:xs.size=3
 ·have hs':ys.size=3:=h.1▸hs;obtain⟨xs⟩:=xs;obtain⟨ys⟩:=ys
  match xs,ys,hs,hs' with
  |[a,b,c],[d,e,f],_,_=>exact .inl ⟨a,b,c,d,e,f,rfl,rfl,h.2 0 a d rfl rfl,h.2 1 b e rfl rfl,h.2 2 c f rfl rfl⟩
 exact .inr hs
def Jr(hA:β.any P.globals.size P.globals.size)(h:RV β x x'):ai P β (ReflectliteType.ofRtype x) (ReflectliteType.ofRtype x') (λ_ t t'=>t=t'):=by
 rcases h.ways with⟨b,rfl,rfl⟩|⟨k,n,rfl,rfl⟩|⟨s,rfl,rfl⟩|⟨a,a',rfl,rfl,ha⟩|⟨a,a',l,c,rfl,rfl,ha⟩|⟨r,r',rfl,rfl,hr⟩|⟨rfl,rfl⟩|⟨f,xs,ys,us,vs,rfl,rfl,hf,_⟩|⟨rfl,rfl⟩|⟨t,v,v',rfl,rfl,hv⟩|⟨rfl,rfl⟩|⟨xs,ys,rfl,rfl,h1⟩|⟨xs,ys,rfl,rfl,h1⟩<;>first|exact ai.stuck|skip
 rcases yH h1 with⟨a,c,rfl,rfl,k⟩|hs
 ·refine ai.bind' (Jp hA k) λβ1 t _ l1 e=>?_
  subst e;exact Pz.kv (E_ _ _) λβ2 _ l2=>ai.pure' rfl
 ·have:ReflectliteType.ofRtype (.agg xs)=stuck "reflectlite: an rtype expected" := by
   obtain⟨xs⟩:=xs
   match xs,hs with
   |[],_=>rfl
   |[_],hs=>exact absurd rfl hs
   |_::_::_,_=>rfl
  rw[this];exact ai.stuck
def O7(hA:β.any P.globals.size P.globals.size){f:TypeId->Sem aj}(hf:∀(β':aK) t,β'.any P.globals.size P.globals.size->ai P β' (f t) (f t) RV)(h:RL β xs ys):ai P β (ReflectliteType.method f xs) (ReflectliteType.method f ys) RV:=by
 rcases yH h with⟨a,c,rfl,rfl,k⟩|hs
 ·refine ai.bind' (Jr hA k) λβ1 t _ l1 e=>?_
  subst e;exact hf _ _ (l1.any hA)
 ·have:ReflectliteType.method f xs=stuck "reflectlite: a method of rtype takes its receiver" := by
   obtain⟨xs⟩:=xs
   match xs,hs with
   |[],_=>rfl
   |[_],hs=>exact absurd rfl hs
   |_::_::_,_=>rfl
  rw[this];exact ai.stuck
def Zh(hA:β.any P.globals.size P.globals.size){f:TypeId->Sem aj}(hf:∀(β':aK) t,β'.any P.globals.size P.globals.size->ai P β' (f t) (f t) RV)(h:RL β xs ys):ai P β (ReflectliteType.abiMethod f xs) (ReflectliteType.abiMethod f ys) RV:=by
 rcases yH h with⟨a,c,rfl,rfl,k⟩|hs
 ·refine ai.bind' (Jp hA k) λβ1 t _ l1 e=>?_
  subst e;exact Pz.kv (E_ _ _) λβ2 _ l2=>hf _ _ (l2.any (l1.any hA))
 ·have:ReflectliteType.abiMethod f xs=stuck "abi.Type: a method takes its receiver" := by
   obtain⟨xs⟩:=xs
   match xs,hs with
   |[],_=>rfl
   |[_],hs=>exact absurd rfl hs
   |_::_::_,_=>rfl
  rw[this];exact ai.stuck
def Zi(hA:β.any P.globals.size P.globals.size)(t:TypeId):ai P β (ReflectliteType.elem t) (ReflectliteType.elem t) RV:=by
 unfold ReflectliteType.elem
 refine Pz.kv (Jm _) λβ1 e l1=>?_
 cases e with
 |some e=>exact Jq (l1.any hA) e
 |none=>exact Pz.kv (Jn _) λβ2 s l2=>ai.hlt (Fb _)
def Zj(t:TypeId):ai P β (noPackHeld "Comparable" t >>= λ_=>typeInfo t >>= λi=>pure (aJ i.comparable):Sem aj) (noPackHeld "Comparable" t >>= λ_=>typeInfo t >>= λi=>pure (aJ i.comparable)) RV :=
 Pz.kv (Zc _ _) λ_ _ _=>Pz.kv (Au _) λ_ _ _=>ai.pure' (fM.2 rfl)
def Zk(t:TypeId):ai P β (kind t >>= λk=>pure (af .u8 k):Sem aj) (kind t >>= λk=>pure (af .u8 k)) RV:=
 Pz.kv (Fa _) λ_ _ _=>ai.pure' (cO.2 rfl)
def Zl(hA:β.any P.globals.size P.globals.size)(h:RL β xs ys):ai P β (ReflectliteType.typeOf xs) (ReflectliteType.typeOf ys) RV:=by
 rcases yH h with⟨a,c,rfl,rfl,k⟩|hs
 ·rcases k.ways with⟨b,rfl,rfl⟩|⟨k,n,rfl,rfl⟩|⟨s,rfl,rfl⟩|⟨a,a',rfl,rfl,ha⟩|⟨a,a',l,c,rfl,rfl,ha⟩|⟨r,r',rfl,rfl,hr⟩|⟨rfl,rfl⟩|⟨f,xs,ys,us,vs,rfl,rfl,hf,_⟩|⟨rfl,rfl⟩|⟨t,v,v',rfl,rfl,hv⟩|⟨rfl,rfl⟩|⟨xs,ys,rfl,rfl,h1⟩|⟨xs,ys,rfl,rfl,h1⟩<;>first|exact ai.stuck|exact Jq hA _|exact ai.pure' (lA.2 rfl)
 ·have:ReflectliteType.typeOf xs=stuck "reflectlite.TypeOf: an interface value expected" := by
   obtain⟨xs⟩:=xs
   match xs,hs with
   |[],_=>rfl
   |[_],hs=>exact absurd rfl hs
   |_::_::_,_=>rfl
  rw[this];exact ai.stuck
def O8(hA:β.any P.globals.size P.globals.size)(w:String){f:TypeId->TypeId->Sem Bool}(hf:∀(β':aK) t u,ai P β' (f t u) (f t u) (λ_ a b=>a=b))(h:RL β xs ys):ai P β (ReflectliteType.relation w f xs) (ReflectliteType.relation w f ys) RV:=by
 rcases uU h with⟨a,b,c,d,rfl,rfl,k,k2⟩|hs
 ·rcases k2.ways with⟨b,rfl,rfl⟩|⟨k,n,rfl,rfl⟩|⟨s,rfl,rfl⟩|⟨a,a',rfl,rfl,ha⟩|⟨a,a',l,c,rfl,rfl,ha⟩|⟨r,r',rfl,rfl,hr⟩|⟨rfl,rfl⟩|⟨f,xs,ys,us,vs,rfl,rfl,hf,_⟩|⟨rfl,rfl⟩|⟨t,v,v',rfl,rfl,hv⟩|⟨rfl,rfl⟩|⟨xs,ys,rfl,rfl,h1⟩|⟨xs,ys,rfl,rfl,h1⟩<;>first|exact ai.stuck|exact ai.hlt (Fb _)|skip
  refine ai.bind' (Jr hA hv) λβ1 t _ l1 e=>?_
  subst e
  refine ai.bind' (Jr (l1.any hA) (k.mono l1)) λβ2 u _ l2 e=>?_
  subst e
  refine ai.bind' (hf β2 t u) λβ3 r _ l3 e=>?_
  subst e;exact ai.pure' (fM.2 rfl)
 ·have:ReflectliteType.relation w f xs=stuck "reflectlite: a Type expected" := by
   obtain⟨xs⟩:=xs
   match xs,hs with
   |[],_|[_],_=>rfl
   |[_,_],hs=>exact absurd rfl hs
   |_::_::_::_,_=>rfl
  rw[this];exact ai.stuck
def Zm(t u:TypeId):ai P β (ReflectliteType.implements_ t u) (ReflectliteType.implements_ t u) (λ_ a b=>a=b):=by
 unfold ReflectliteType.implements_
 refine Pz.kv (Fa _) λβ1 k l1=>?_
 dsimp only
 split
 ·exact ai.hlt (aQ.bind (Fb _))
 exact Pz.kv (CB _ _) λ_ _ _=>Pz.kv (E_ _ _) λ_ _ _=>Pz.Cz (Jo _ _)
def Zn(t u:TypeId):ai P β (ReflectliteType.assignableTo t u) (ReflectliteType.assignableTo t u) (λ_ a b=>a=b):=by
 unfold ReflectliteType.assignableTo;have tail:Pz P (directlyAssignable t u >>= λa=>implements t u >>= λb=>pure (a||b):Sem Bool):=Pz.bind (O4 _ _) λ_=>Pz.bind (Jo _ _) λ_=>trivial
 dsimp only
 split
 ·exact Pz.kv (CB _ _) λ_ _ _=>Pz.kv (CB _ _) λ_ _ _=>Pz.Cz tail
 exact Pz.Cz tail
def O9(hA:β.any P.globals.size P.globals.size)(t:TypeId){a a':av}(ha:RA β a a')(n:Nat):ai P β (ReflectliteValue.mk t a n) (ReflectliteValue.mk t a' n) RV:=by
 unfold ReflectliteValue.mk
 refine ai.bind' (O6 hA t) λβ1 x y l1 k=>Pz.kv (Fa _) λβ2 j l2=>ai.pure' (gH.2 ⟨_,rfl,?_⟩)
 exact((bh.one (k.mono l2)).push (rN ((ha.mono l1).mono l2))).push (cO.2 rfl)
def O_:RV β ReflectliteValue.zeroV ReflectliteValue.zeroV:=gH.2 ⟨_,rfl,((bh.one (xY (v:=ax J) rfl)).push (xY (v:=ax J) rfl)).push (cO.2 rfl)⟩
def Pa(hA:β.any P.globals.size P.globals.size)(h:RV β x x'):ai P β (ReflectliteValue.unpack x) (ReflectliteValue.unpack x') RV:=by
 rcases h.ways with⟨b,rfl,rfl⟩|⟨k,n,rfl,rfl⟩|⟨s,rfl,rfl⟩|⟨a,a',rfl,rfl,ha⟩|⟨a,a',l,c,rfl,rfl,ha⟩|⟨r,r',rfl,rfl,hr⟩|⟨rfl,rfl⟩|⟨f,xs,ys,us,vs,rfl,rfl,hf,_⟩|⟨rfl,rfl⟩|⟨t,v,v',rfl,rfl,hv⟩|⟨rfl,rfl⟩|⟨xs,ys,rfl,rfl,h1⟩|⟨xs,ys,rfl,rfl,h1⟩<;>first|exact ai.stuck|exact ai.pure' O_|skip
 exact ai.bind' (Hy hv _) λβ1 a a' l1 k=>O9 (l1.any hA) t k.1 0
def Zo(hA:β.any P.globals.size P.globals.size)(h:RL β xs ys):ai P β (ReflectliteValue.unpack (xs.getD 0 (aX #[]))) (ReflectliteValue.unpack (ys.getD 0 (aX #[]))) RV:=Pa hA (bh.getD h 0 (iW.2 ⟨_,rfl,bh.empty⟩))
def Pb(β:aK):Option (TypeId×av×Nat)->Option (TypeId×av×Nat)->Prop
 |none,y=>y=J
 |some (t,a,n),y=>∃a',y=U (t,a',n)/\RA β a a'
def Pf(h b c:aj):ReflectliteValue.partsAny (a_ #[h,b,c])=match c with
  |.int .u64 n=>if n=0 then pure J else match b with
   |ax (U a)=>do pure (U (<- ofHandle h,a,n.toNat))
   |_=>stuck "reflectlite: a Value expected"
  |_=>stuck "reflectlite: a Value expected" := by
 cases c<;>try rfl
 rename_i k n
 cases k<;>try rfl
 cases n with
 |ofNat m=>
  cases m with
  |zero=>rfl
  |succ m=>
   dsimp only
   rw[aF (by simp only[Int.ofNat_eq_natCast];omega)]
   cases b<;>try rfl
   rename_i a
   cases a<;>rfl
 |negSucc m=>
  dsimp only
  rw[aF (by omega)]
  cases b<;>try rfl
  rename_i a
  cases a<;>rfl
def Pg(hA:β.any P.globals.size P.globals.size)(h:RV β x x'):ai P β (ReflectliteValue.partsAny x) (ReflectliteValue.partsAny x') Pb:=by
 rcases h.ways with⟨b,rfl,rfl⟩|⟨k,n,rfl,rfl⟩|⟨s,rfl,rfl⟩|⟨a,a',rfl,rfl,ha⟩|⟨a,a',l,c,rfl,rfl,ha⟩|⟨r,r',rfl,rfl,hr⟩|⟨rfl,rfl⟩|⟨f,xs,ys,us,vs,rfl,rfl,hf,_⟩|⟨rfl,rfl⟩|⟨t,v,v',rfl,rfl,hv⟩|⟨rfl,rfl⟩|⟨xs,ys,rfl,rfl,h1⟩|⟨xs,ys,rfl,rfl,h1⟩<;>first|exact ai.stuck|skip
 rcases Zg h1 with⟨a,b,c,d,e,f,rfl,rfl,k1,k2,k3⟩|hs
 ·rw[Pf,Pf]
  rcases k3.ways with⟨b,rfl,rfl⟩|⟨k,n,rfl,rfl⟩|⟨s,rfl,rfl⟩|⟨a,a',rfl,rfl,ha⟩|⟨a,a',l,c,rfl,rfl,ha⟩|⟨r,r',rfl,rfl,hr⟩|⟨rfl,rfl⟩|⟨f,xs,ys,us,vs,rfl,rfl,hf,_⟩|⟨rfl,rfl⟩|⟨t,v,v',rfl,rfl,hv⟩|⟨rfl,rfl⟩|⟨xs,ys,rfl,rfl,h1⟩|⟨xs,ys,rfl,rfl,h1⟩<;>first|exact ai.stuck|skip
  cases k<;>first|exact ai.stuck|skip
  dsimp only
  split
  ·exact ai.pure' rfl
  rcases k2.ways with⟨b,rfl,rfl⟩|⟨k,n,rfl,rfl⟩|⟨s,rfl,rfl⟩|⟨p,p',rfl,rfl,ha⟩|⟨a,a',l,c,rfl,rfl,ha⟩|⟨r,r',rfl,rfl,hr⟩|⟨rfl,rfl⟩|⟨f,xs,ys,us,vs,rfl,rfl,hf,_⟩|⟨rfl,rfl⟩|⟨t,v,v',rfl,rfl,hv⟩|⟨rfl,rfl⟩|⟨xs,ys,rfl,rfl,h1⟩|⟨xs,ys,rfl,rfl,h1⟩<;>first|exact ai.stuck|skip
  cases p with
  |none=>cases ha;exact ai.stuck
  |some p=>
   obtain⟨p',rfl,hp⟩:=ha
   refine ai.bind' (Jp hA k1) λβ1 t _ l1 e=>?_
   subst e;exact ai.pure' ⟨_,rfl,hp.mono l1⟩
 ·have:ReflectliteValue.partsAny (.agg xs)=stuck "reflectlite: a Value expected" := by
   obtain⟨xs⟩:=xs
   match xs,hs with
   |[],_|[_],_|[_,_],_=>rfl
   |[_,_,_],hs=>exact absurd rfl hs
   |_::_::_::_::_,_=>rfl
  rw[this];exact ai.stuck
def Fc(hA:β.any P.globals.size P.globals.size)(h:RV β x x'):ai P β (ReflectliteValue.parts x) (ReflectliteValue.parts x') Pb:=by
 unfold ReflectliteValue.parts
 refine ai.bind' (Pg hA h) λβ1 p q l1 k=>?_
 cases p with
 |none=>cases k;exact ai.pure' rfl
 |some p=>
  obtain⟨t,a,n⟩:=p;obtain⟨a',rfl,ha⟩:=k;exact Pz.kv (E_ _ _) λβ2 _ l2=>ai.pure' ⟨_,rfl,ha.mono l2⟩
def Ph(hA:β.any P.globals.size P.globals.size)(hz:aQ P z)(hf:∀(β':aK) t (a a':av) n k,β'.any P.globals.size P.globals.size->RA β' a a'->ai P β' (f t a n k) (f t a' n k) RV)(h:RL β xs ys):ai P β (ReflectliteValue.method z f xs) (ReflectliteValue.method z f ys) RV:=by
 rcases yH h with⟨a,c,rfl,rfl,k⟩|hs
 ·refine ai.bind' (Fc hA k) λβ1 p q l1 k=>?_
  cases p with
  |none=>exact ai.hlt hz
  |some p=>
   obtain⟨t,a,n⟩:=p;obtain⟨a',rfl,ha⟩:=k;exact hf _ _ _ _ _ _ (l1.any hA) ha
 ·have:ReflectliteValue.method z f xs=stuck "reflectlite: a method of Value takes its receiver" := by
   obtain⟨xs⟩:=xs
   match xs,hs with
   |[],_=>rfl
   |[_],hs=>exact absurd rfl hs
   |_::_::_,_=>rfl
  rw[this];exact ai.stuck
def Zp(hA:β.any P.globals.size P.globals.size)(hz:aQ P z)(hf:∀(β':aK) t (a a':av) n k,β'.any P.globals.size P.globals.size->RA β' a a'->ai P β' (f t a n k) (f t a' n k) RV)(h:RL β xs ys):ai P β (ReflectliteValue.methodAny z f xs) (ReflectliteValue.methodAny z f ys) RV:=by
 rcases yH h with⟨a,c,rfl,rfl,k⟩|hs
 ·refine ai.bind' (Pg hA k) λβ1 p q l1 k=>?_
  cases p with
  |none=>exact ai.hlt hz
  |some p=>
   obtain⟨t,a,n⟩:=p;obtain⟨a',rfl,ha⟩:=k;exact hf _ _ _ _ _ _ (l1.any hA) ha
 ·have:ReflectliteValue.methodAny z f xs=stuck "reflectlite: a method of Value takes its receiver" := by
   obtain⟨xs⟩:=xs
   match xs,hs with
   |[],_=>rfl
   |[_],hs=>exact absurd rfl hs
   |_::_::_,_=>rfl
  rw[this];exact ai.stuck
def Zq(t:TypeId){a a':av}(ha:RA β a a')(n k:Nat):ai P β (ReflectliteValue.isNil t a n k) (ReflectliteValue.isNil t a' n k) RV:=by
 unfold ReflectliteValue.isNil;dsimp only
 split
 ·exact ai.hlt (aQ.bind (yG _ _))
 refine ai.bind' (wI ha t) λβ1 x x' l1 h=>?_
 rcases h.ways with⟨b,rfl,rfl⟩|⟨k,n,rfl,rfl⟩|⟨s,rfl,rfl⟩|⟨a,a',rfl,rfl,ha⟩|⟨a,a',l,c,rfl,rfl,ha⟩|⟨r,r',rfl,rfl,hr⟩|⟨rfl,rfl⟩|⟨f,xs,ys,us,vs,rfl,rfl,hf,_⟩|⟨rfl,rfl⟩|⟨t,v,v',rfl,rfl,hv⟩|⟨rfl,rfl⟩|⟨xs,ys,rfl,rfl,h1⟩|⟨xs,ys,rfl,rfl,h1⟩<;>first|exact ai.pure' (fM.2 rfl)|skip
 ·cases a with
  |none=>cases ha;exact ai.pure' (fM.2 rfl)
  |some a=>obtain⟨_,rfl,_⟩:=ha;exact ai.pure' (fM.2 rfl)
 ·cases a with
  |none=>cases ha;exact ai.pure' (fM.2 rfl)
  |some a=>obtain⟨_,rfl,_⟩:=ha;exact ai.pure' (fM.2 rfl)
 cases r with
 |none=>cases hr;exact ai.pure' (fM.2 rfl)
 |some a=>obtain⟨_,rfl,_⟩:=hr;exact ai.pure' (fM.2 rfl)
def Zr(hA:β.any P.globals.size P.globals.size)(t:TypeId){a a':av}(ha:RA β a a')(n k:Nat):ai P β (ReflectliteValue.elem t a n k) (ReflectliteValue.elem t a' n k) RV:=by
 unfold ReflectliteValue.elem;dsimp only
 by_cases Pj:k=20
 ·subst Pj
  refine ai.bind' (wI ha t) λβ1 x x' l1 h=>Pz.kv (Jm _) λβ2 e l2=>Pa (l2.any (l1.any hA)) (h.mono l2)
 by_cases Pk:k=22
 ·subst Pk
  refine ai.bind' (wI ha t) λβ1 x x' l1 h=>Pz.kv (Jm _) λβ2 e l2=>?_
  replace h:=h.mono l2
  rcases h.ways with⟨b,rfl,rfl⟩|⟨k,n,rfl,rfl⟩|⟨s,rfl,rfl⟩|⟨a,a',rfl,rfl,ha⟩|⟨a,a',l,c,rfl,rfl,ha⟩|⟨r,r',rfl,rfl,hr⟩|⟨rfl,rfl⟩|⟨f,xs,ys,us,vs,rfl,rfl,hf,_⟩|⟨rfl,rfl⟩|⟨t,v,v',rfl,rfl,hv⟩|⟨rfl,rfl⟩|⟨xs,ys,rfl,rfl,h1⟩|⟨xs,ys,rfl,rfl,h1⟩<;>first|exact ai.hlt (yG _ _)|skip
  cases a with
  |none=>cases ha;cases e<;>exact ai.pure' O_
  |some a=>
   obtain⟨a',rfl,ha⟩:=ha
   cases e with
   |none=>exact ai.hlt (yG _ _)
   |some e=>exact O9 (l2.any (l1.any hA)) e ha _
 have:(k != 20&&k != 22)=true:=by simp[Pj,Pk]
 rw[aU this];exact ai.hlt (aQ.bind (yG _ _))
def Zs(hA:β.any P.globals.size P.globals.size)(h:RL β xs ys):ai P β (ReflectliteValue.set xs) (ReflectliteValue.set ys) RV:=by
 rcases uU h with⟨a,b,c,d,rfl,rfl,k1,k2⟩|hs
 ·unfold ReflectliteValue.set
  refine ai.bind' (Fc hA k1) λβ1 p q l1 h1=>ai.bind' (Fc (l1.any hA) (k2.mono l1)) λβ2 p2 q2 l2 h2=>?_
  cases p with
  |none=>exact ai.unsupported
  |some p=>
  obtain⟨t,a,n⟩:=p;obtain⟨a',rfl,ha⟩:=h1
  cases p2 with
  |none=>exact ai.unsupported
  |some p2=>
  obtain⟨u,b,m⟩:=p2;obtain⟨b',rfl,hb⟩:=h2;dsimp only
  split
  ·exact ai.unsupported
  refine ai.bind' (wI hb u) λβ3 x x' l3 hx=>?_
  replace ha:=(ha.mono l2).mono l3
  have unit:∀{β:aK},RV β (aX #[]) (aX #[]):=iW.2 ⟨_,rfl,bh.empty⟩
  refine Pz.kv (O4 _ _) λβ4 r l4=>?_
  replace ha:=ha.mono l4
  replace hx:=hx.mono l4
  split
  ·exact ai.bind' (En ha hx t) λβ5 _ _ l5 _=>ai.pure' unit
  refine Pz.kv (Jo _ _) λβ5 r l5=>?_
  replace ha:=ha.mono l5
  replace hx:=hx.mono l5
  split
  ·refine Pz.kv (Fa _) λβ6 r l6=>?_
   replace ha:=ha.mono l6
   replace hx:=hx.mono l6
   split
   ·have st:=En (P:=P) ha hx t
    rcases hx.ways with⟨b,rfl,rfl⟩|⟨k,n,rfl,rfl⟩|⟨s,rfl,rfl⟩|⟨a,a',rfl,rfl,ha⟩|⟨a,a',l,c,rfl,rfl,ha⟩|⟨r,r',rfl,rfl,hr⟩|⟨rfl,rfl⟩|⟨f,xs,ys,us,vs,rfl,rfl,hf,_⟩|⟨rfl,rfl⟩|⟨t,v,v',rfl,rfl,hv⟩|⟨rfl,rfl⟩|⟨xs,ys,rfl,rfl,h1⟩|⟨xs,ys,rfl,rfl,h1⟩<;>first|exact ai.bind' st λβ7 _ _ l7 _=>ai.pure' unit|exact ai.unsupported
   exact ai.bind' (En ha (jh.2 ⟨_,rfl,hx⟩) t) λβ7 _ _ l7 _=>ai.pure' unit
  exact Pz.kv (Jn _) λ_ _ _=>Pz.kv (Jn _) λ_ _ _=>ai.hlt (aQ.bind (Fb _))
 ·have:ReflectliteValue.set xs=stuck "reflectlite.Value.Set: two Values expected" := by
   obtain⟨xs⟩:=xs
   match xs,hs with
   |[],_|[_],_=>rfl
   |[_,_],hs=>exact absurd rfl hs
   |_::_::_::_,_=>rfl
  rw[this];exact ai.stuck
def Zt(hA:β.any P.globals.size P.globals.size)(hz:∀β',ai P β' z z RV)(hf:∀(β':aK) t (a a':av) n k,β'.any P.globals.size P.globals.size->RA β' a a'->ai P β' (f t a n k) (f t a' n k) RV)(h:RL β xs ys):ai P β (ReflectliteValue.method z f xs) (ReflectliteValue.method z f ys) RV:=by
 rcases yH h with⟨a,c,rfl,rfl,k⟩|hs
 ·refine ai.bind' (Fc hA k) λβ1 p q l1 k=>?_
  cases p with
  |none=>cases k;exact hz _
  |some p=>
   obtain⟨t,a,n⟩:=p;obtain⟨a',rfl,ha⟩:=k;exact hf _ _ _ _ _ _ (l1.any hA) ha
 ·have:ReflectliteValue.method z f xs=stuck "reflectlite: a method of Value takes its receiver" := by
   obtain⟨xs⟩:=xs
   match xs,hs with
   |[],_=>rfl
   |[_],hs=>exact absurd rfl hs
   |_::_::_,_=>rfl
  rw[this];exact ai.stuck
def CC:Array aj->Sem aj:=ReflectliteValue.method (pure (af .u8 0)) λ_ _ _ k=>pure (af .u8 (Int.ofNat k))
def Zu(hA:β.any P.globals.size P.globals.size)(h:RL β xs ys):ai P β (CC xs) (CC ys) RV:=by
 unfold CC;exact Zt (z:=pure (af .u8 0)) (f:=λ_ _ _ k=>pure (af .u8 (Int.ofNat k))) hA (λ_=>ai.pure' (cO.2 rfl)) (λ_ _ _ _ _ _ _ _=>ai.pure' (cO.2 rfl)) h
def Zv{f:FuncId} {fn:Func}  (h1:P.funcs[f]?=U fn) (h2:(fn.name == "runtime.NumGoroutine")=false) (h3:fn.body.isNone=true) (h4:Extern.findNext fn=J) (h5:Extern.find fn=J):ai P β (callFunc f xs) (callFunc f ys) (RN P):=by
 unfold callFunc
 refine ai.prog ?_;simp only[h1,h2,h3,h4,h5]
 refine ai.mark rfl ?_;show ai P β (if _ then _ else _) (if _ then _ else _) (RN P)
 split
 ·exact ai.pure' ⟨_,rfl,iW.2 ⟨_,rfl,bh.empty⟩⟩
 exact ai.unsupported
end
def rV(SB:Nat->Prop)(l:Loc):Prop:=∃b,lb l=U b/\SB b
structure BS(P:Program)(SB:Nat->Prop)(gs:Array Goroutine)(g:Goroutine)(w:ah)(t:Trace)(q:Nat->Nat):Prop where
 g0:gs[0]?=U g
 lv:Leavers P t gs q
 ps:Past (rV SB) w.heap.size t
 lt:∀b,SB b->b<w.heap.size
def dF(SB:Nat->Prop)(w w':ah)(es:Array Event):Prop:=w.heap.size<=w'.heap.size/\∀e∈es,EvL (rV SB) w'.heap.size e
section
variable {P:Program}{SB:Nat->Prop}{gs:Array Goroutine}{g g':Goroutine}{w w':ah}{t:Trace}{q:Nat->Nat}{sl:Option (Nat×Nat)}{es:Array Event}
def dB(w:ah):dF SB w w #[]:=⟨aR _,by simp⟩
def BS.tH(h:BS P SB gs g w t q)(d:Nat):BS P SB gs g (w.at d) t q:=⟨h.g0,h.lv,h.ps,h.lt⟩
def BS.turn(h:BS P SB gs g w t q)(hr:g.status=.running):∃d sl',stepT P (crowd gs w sl)=runT P (crowd gs (w.at d) sl') 0 \/
  ∃gs' q' ops,stepT P (crowd gs w sl)=(.next (crowd gs' (w.at d) sl'),ops)/\BS P SB gs' g (w.at d) (t++ops) q'/\gs'.size=gs.size/\sumTo gs.size q'<sumTo gs.size q:=by
 obtain⟨h0,hL,hP,hlt⟩:=h;have uO:∀x∈gs,awake x:=by
  intro x hx;obtain⟨i,hi,rfl⟩:=xH.1 hx
  rcases kG i with rfl|jM
  ·have:gs[0]=g:=by simpa[eB hi]using h0
   rw[this];exact awake_of (.inl hr)
  exact awake_of ((hL.old i _ jM (eB hi)).status.elim .inl λx=>.inr (.inr x))
 obtain⟨i,x,d,sl',hi,hg,hst⟩:=crowd_pick (P:=P) (w:=w) (sl:=sl) uO ⟨0,g,h0,hr⟩
 refine⟨d,sl',?_⟩
 rcases kG i with rfl|jM
 ·exact .inl hst
 right
 have hq:=hL.old i x jM hi;have Js:(i==0)=false:=by simp;omega
 have hl:i<gs.size:=(bD.1 hi).1
 cases yI:q i with
 |zero=>rw[yI]at hq;rw[hq.1]at hg;cases hg
 |succ k=>
  rw[yI]at hq
  rcases hq with⟨hf,_⟩|⟨_,g',es,hm,Ah,hq'⟩
  ·rw[hf]at hg;cases hg
  have vk:=runT_crowd_go (P:=P) (sl:=sl') (i:=i) hi (by rw[Js];exact Ah (w.at d));have Zw:sumTo gs.size (upd q i k)+(k+1)=sumTo gs.size q+k:=by
   have:=sumTo_upd q k id hl;simpa[yI]using this
  have hne:i≠0:=by omega
  refine⟨_,upd q i k,_,hst.trans vk,⟨?_,⟨λj y hj hy=>?_,λj hj=>?_⟩,hP.mute (by omega) hm,hlt⟩,by simp,by omega⟩
  ·rw[dS hne,oJ,h0];simp[woken_run hr]
  ·by_cases lX:i=j
   ·subst lX;rw[jk (by simpa using hl)]at hy;obtain rfl:=b_ hy;rw[upd_same,Deaf_own];exact hq'
   rw[dS lX,oJ]at hy;obtain⟨z,hz,rfl⟩:=jz.1 hy;have CF:=hL.old j z hj hz;rw[woken_quitsD CF,upd_ne q k (ey lX),Deaf_other t lX _ (λop hop=>by obtain⟨e,_,rfl⟩:=jQ hop;rfl)];exact CF
  rw[Deaf_other t (g':=i) (by simp at hj;omega) _ (λop hop=>by obtain⟨e,_,rfl⟩:=jQ hop;rfl)];exact hL.above j (by simpa using hj)
def BS.go(h:BS P SB gs g w t q)(hst:stepG P true g w=.go g' w' es)(hd:dF SB w w' es):∃gs' ops,runT P (crowd gs w sl) 0=(.next (crowd gs' w' sl),ops)/\BS P SB gs' g' w' (t++ops) q/\gs'.size=gs.size:=by
 obtain⟨h0,hL,hP,hlt⟩:=h;have vk:=runT_crowd_go (P:=P) (sl:=sl) (i:=0) h0 (show stepG P (0==0) g w=_ from hst);have hl:0<gs.size:=(bD.1 h0).1
 refine⟨_,_,vk,⟨by simp[hl],⟨λj x hj hx=>?_,λj hj=>?_⟩,(hP.mono hd.1).own hd.2,λb hb=>dK (hlt b hb) hd.1⟩,by simp⟩
 ·have hne:0≠j:=by omega
  rw[dS hne,oJ]at hx;obtain⟨y,hy,rfl⟩:=jz.1 hx;have hq:=hL.old j y hj hy;rw[woken_quitsD hq,Deaf_other t (by omega) _ (λop hop=>by obtain⟨e,_,rfl⟩:=jQ hop;rfl)];exact hq
 rw[Deaf_other t (g':=0) (by simp at hj;omega) _ (λop hop=>by obtain⟨e,_,rfl⟩:=jQ hop;rfl)];exact hL.above j (by simpa using hj)
def BS.goes{Stop:Goroutine->ah->Prop}:∀(M n:Nat) (gs:Array Goroutine) (g:Goroutine) (w:ah) (sl:Option (Nat×Nat)) (t:Trace) (q:Nat->Nat),n+sumTo gs.size q<=M->BS P SB gs g w t q->Goes P true AtRel (dF SB) Stop n g w ->
  ∃N gs' g' w' sl' t' q',runNT P N (crowd gs w sl) t=(.next (crowd gs' w' sl'),t')/\gs'.size=gs.size/\Stop g' w'/\BS P SB gs' g' w' t' q':=by
 intro M
 induction M with
 |zero=>
  intro n gs g w sl t q hM hB hG;obtain rfl:n=0:=by omega
  exact⟨0,gs,g,w,sl,t,q,rfl,rfl,hG w (atRel_refl w),hB⟩
 |succ M ih=>
  intro n gs g w sl t q hM hB hG
  cases n with
  |zero=>exact⟨0,gs,g,w,sl,t,q,rfl,rfl,hG w (atRel_refl w),hB⟩
  |succ n=>
   rcases hG with Jt|⟨hrun,hstep⟩
   ·exact⟨0,gs,g,w,sl,t,q,rfl,rfl,Jt w (atRel_refl w),hB⟩
   obtain⟨d,sl',hs|⟨gs',q',ops,hs,jT,hsz,hlt⟩⟩:=hB.turn (sl:=sl) hrun
   ·have h2:=hstep (w.at d) ⟨d,rfl⟩
    cases hgo:stepG P true g (w.at d)with
    |go g' w' es=>
     rw[hgo,goes_go]at h2;obtain⟨gs',ops,hr,jT,hsz⟩:=(hB.tH d).go (sl:=sl') hgo h2.1;obtain⟨N,cg,g2,w2,gI,t2,q2,hr2,hs2,hS,gT⟩:=ih n gs' g' w' sl' _ q (by rw[hsz];omega) jT h2.2;exact⟨N+1,cg,g2,w2,gI,t2,q2,by rw[pW (hs.trans hr)];exact hr2,hs2.trans hsz,hS,gT⟩
    |_=>rw[hgo]at h2;exact h2.elim
   obtain⟨N,cg,g2,w2,gI,t2,q2,hr2,hs2,hS,gT⟩:=ih (n+1) gs' g (w.at d) sl' _ q' (by rw[hsz];omega) jT (Goes.rely atRel_trans (.inr ⟨hrun,hstep⟩) ⟨d,rfl⟩);exact⟨N+1,cg,g2,w2,gI,t2,q2,by rw[pW hs];exact hr2,hs2.trans hsz,hS,gT⟩
end
section
variable {P:Program}{SB:Nat->Prop}{β β':aK}{okL:List FuncId}{gl:Gl}{R:aj->ah->Prop}{w w1 V:ah}{es:Array Event}
def Fe(cP:∀e∈es,oQ β' e)(eI:RW β' V w1)(hS:∀b b',β'.own b b'\/β'.ro b b'->¬SB b'):∀e∈es,EvL (rV SB) w1.heap.size e:=by
 intro e he
 rcases cP e he with⟨a,wr,b,rfl,hb⟩|⟨a,b,rfl,hb⟩|⟨r,wr,b,rfl,hb⟩|⟨m,hm,rfl⟩
 ·refine⟨λx hx hs=>?_,by simp,by simp,(eI.lt (.inl hb)).2⟩
  cases hx
  obtain⟨c,hc,hc2⟩:=hs
  cases hc
  exact absurd hc2 (hS _ _ (.inl hb))
 ·refine⟨λx hx hs=>?_,by simp,by simp,(eI.lt (.inr (.inl hb))).2⟩
  cases hx
  obtain⟨c,hc,hc2⟩:=hs
  cases hc
  exact absurd hc2 (hS _ _ (.inr hb))
 ·refine⟨λx hx hs=>?_,by simp,by simp,by cases wr<;>exact(eI.lt (.inl hb)).2⟩
  cases wr<;>(cases hx;obtain⟨c,hc,hc2⟩:=hs;cases hc;exact absurd hc2 (hS _ _ (.inl hb)))
 cases m<;>first|(cases hm;done)|exact⟨λx hx=>(by cases hx),λh=>(by cases h),λh=>(by cases h),trivial⟩
def yJ(SB:Nat->Prop)(β:aK):Prop:=∀b b',β.own b b'\/β.ro b b'->¬SB b'
def yJ.fx(h:yJ SB β)(cH:Fx β β' w w1)(hlt:∀b,SB b->b<w.heap.size):yJ SB β':=by
 rintro b b' (hb|hb) hs
 ·rcases cH.new b b' hb with e|e
  ·exact h b b' (.inl e) hs
  exact absurd (hlt b' hs) (by omega)
 exact h b b' (.inr (by rw[cH.le.ro];exact hb)) hs
def Aw(h:Fx β β' (w.at d) w1):Fx β β' w w1:=⟨h.le,h.new,h.size,h.frame,h.os,h.output,h.tape⟩
def Pl(h:RW β V w):RW β V (w.at d):=h.rely (λ_ _ _=>rfl) (aR _)
def BS.yx{c:Frame}{r:List Frame}{x0:ji}:∀(x:ji),Acc (Stp P) x->∀(M:Nat) (gs:Array Goroutine) (g:Goroutine) (w:ah) (sl:Option (Nat×Nat)) (t:Trace) (q:Nat->Nat) (β:aK),sumTo gs.size q<=M->BS P SB gs g w t q->lV P okL gl R (c::r) β x0 x g w->yJ SB β ->
  ∃N gs' w' sl' t' q' β' y y' V,runNT P N (crowd gs w sl) t=(.next (crowd gs' w' sl'),t')/\gs'.size=gs.size/\BS P SB gs' (G (c.finish y') r) w' t' q'/\R y V/\RV β' y y'/\RW β' V w'/\Fx β β' w w'/\yJ SB β':=by
 intro x hx
 induction hx with
 |intro x _ Pm=>
  intro M
  induction M with
  |zero=>
   intro gs g w sl t q β hM hB hJ hO;obtain⟨d,sl',hs|⟨gs',q',ops,hs,jT,hsz,hlt⟩⟩:=hB.turn (sl:=sl) hJ.running
   ·rcases(hJ.rely (w':=w.at d) (λ_ _ _=>rfl) (aR _)).step (main:=true)with⟨β1,y,g1,w1,es,hst,hgo,CG,cH,cP⟩|h
    ·have rW:=hO.fx cH hB.lt;obtain⟨gs',ops,hr,jT,hsz⟩:=(hB.tH d).go (sl:=sl') hgo ⟨cH.size,Fe cP CG.rw rW⟩;obtain⟨N,cg,w2,gI,t2,q2,β2,y2,uY,V,e1,e2,e3,e4,e5,e6,e7,e8⟩:=Pm y hst _ gs' g1 w1 sl' _ q β1 (aR _) jT CG rW;exact⟨N+1,cg,w2,gI,t2,q2,β2,y2,uY,V,by rw[pW (hs.trans hr)];exact e1,e2.trans hsz,e3,e4,e5,e6,(Aw cH).trans e7,e8⟩
    obtain⟨β1,y,y',V,w1,es,hgo,h1,h2,h3,cH,cP⟩:=h c r rfl;have rW:=hO.fx cH hB.lt;obtain⟨gs',ops,hr,jT,hsz⟩:=(hB.tH d).go (sl:=sl') hgo ⟨cH.size,Fe cP h3 rW⟩;exact⟨1,gs',w1,sl',_,q,β1,y,y',V,by rw[pW (hs.trans hr)];rfl,hsz,jT,h1,h2,h3,Aw cH,rW⟩
   omega
  |succ M ih=>
   intro gs g w sl t q β hM hB hJ hO;obtain⟨d,sl',hs|⟨gs',q',ops,hs,jT,hsz,hlt⟩⟩:=hB.turn (sl:=sl) hJ.running
   ·rcases(hJ.rely (w':=w.at d) (λ_ _ _=>rfl) (aR _)).step (main:=true)with⟨β1,y,g1,w1,es,hst,hgo,CG,cH,cP⟩|h
    ·have rW:=hO.fx cH hB.lt;obtain⟨gs',ops,hr,jT,hsz⟩:=(hB.tH d).go (sl:=sl') hgo ⟨cH.size,Fe cP CG.rw rW⟩;obtain⟨N,cg,w2,gI,t2,q2,β2,y2,uY,V,e1,e2,e3,e4,e5,e6,e7,e8⟩:=Pm y hst _ gs' g1 w1 sl' _ q β1 (aR _) jT CG rW;exact⟨N+1,cg,w2,gI,t2,q2,β2,y2,uY,V,by rw[pW (hs.trans hr)];exact e1,e2.trans hsz,e3,e4,e5,e6,(Aw cH).trans e7,e8⟩
    obtain⟨β1,y,y',V,w1,es,hgo,h1,h2,h3,cH,cP⟩:=h c r rfl;have rW:=hO.fx cH hB.lt;obtain⟨gs',ops,hr,jT,hsz⟩:=(hB.tH d).go (sl:=sl') hgo ⟨cH.size,Fe cP h3 rW⟩;exact⟨1,gs',w1,sl',_,q,β1,y,y',V,by rw[pW (hs.trans hr)];rfl,hsz,jT,h1,h2,h3,Aw cH,rW⟩
   obtain⟨N,cg,w2,gI,t2,q2,β2,y2,uY,V,e1,e2,e3,e4,e5,e6,e7,e8⟩:=ih gs' g (w.at d) sl' _ q' β (by rw[hsz];omega) jT (hJ.rely (λ_ _ _=>rfl) (aR _)) hO;exact⟨N+1,cg,w2,gI,t2,q2,β2,y2,uY,V,by rw[pW hs];exact e1,e2.trans hsz,e3,e4,e5,e6,Aw e7,e8⟩
end
open Go
abbrev lk:Go.Conc.Lib.WgLink:={ add:=21,done:=23,wait:=26,relMerge:=40,disable:=41,enable:=42,inBubble:=43,associate:=44,fatal:=45,uOr:=46,uAdd:=47,raceRead:=48,uLoad:=49,uStore:=50,disassociate:=51,semrelease:=52,acquire:=53,isAssociated:=54,uCas:=55,raceWrite:=56,semacquire:=57,orU64:=76,addU64:=77,loadU64:=78,storeU64:=79,casU64:=80,tWgP:=97,tUP:=99,tAssoc:=100,tWg:=72,tAU:=69,tU64:=67,tUint:=104,tU32:=70,tPU32:=105,tPAU:=148,tPU64:=150,tNoCopy:=64,tANoCopy:=65,tAlign64:=66 }
def Ff:Go.Conc.Lib.WgLib prog lk:=by
 constructor<;>first|kernel_rfl|(intro w;kernel_rfl)
def Pn(h:∀e∈es,False):es=#[]:=Array.eq_empty_iff_forall_not_mem.2 λe he=>h e he
structure Kp(O:Nat->Prop)(w w':ah):Prop where
 frame:∀b,¬O b->w'.heap[b]?=w.heap[b]?
 size:w'.heap.size=w.heap.size
 os:w'.os=w.os
 o:w'.output=w.output
 tape:w'.tape=w.tape
def Kp.refl(O:Nat->Prop)(w:ah):Kp O w w:=⟨λ_ _=>rfl,rfl,rfl,rfl,rfl⟩
def size_set(w:ah)(a:av)(v:aj):(w.setCell a v).heap.size=w.heap.size:=by simp[cZ]
def Kp.set{a:av}{v:aj}(h:O a.block):Kp O w (w.setCell a v):=by
 refine⟨λb hb=>?_,size_set ..,rfl,rfl,rfl⟩;have hne:a.block≠b:=λe=>hb (e▸h)
 simp only[cZ];rw[fR];simp[hne]
def CH(O Sh Gr:Nat->Prop)(w:ah)(e:Event):Prop:=qL false O Sh Gr w.heap.size w.heap.size e
section
variable {P:Program}{main:Bool}{O Sh Gr:Nat->Prop}{Stop:(Nat->Prop)->Goroutine->ah->Prop}{n m d:Nat}{g g':Goroutine}{w w':ah}{es:Array Event}
def Ju{a:av}{wr:Bool}(h:O a.block)(hg:¬Gr a.block)(hl:a.block<w.heap.size):CH O Sh Gr w ⟨.cell a,wr,false⟩:=.inl ⟨a,wr,rfl,.inl ⟨h,hg⟩,hl⟩
def CI{a:av}(h:Sh a.block):CH O Sh Gr w ⟨.cell a,false,false⟩:=.inr (.inl ⟨a,rfl,h⟩)
def qL.any{N:Nat}(h:qL false O Sh Gr N N' e)(m:Bool):qL m O Sh Gr N N' e:=by
 rcases h with h|h|h|(h|⟨h,_⟩)|h|⟨_,_,_,h⟩
 ·exact .inl h
 ·exact .inr (.inl h)
 ·exact .inr (.inr (.inl h))
 ·exact .inr (.inr (.inr (.inl (.inl h))))
 ·cases h
 ·exact .inr (.inr (.inr (.inr (.inl h))))
 cases h
def Po{N:Nat}(h:∀e∈es,qL false O Sh Gr N N' e)(d:Nat):deafBehind d es=d:=by
 refine deafBehind_still (λe he=>?_) d
 rcases h e he with⟨a,wr,rfl,_⟩|⟨a,rfl,_⟩|⟨r,wr,rfl,_⟩|(⟨m,hm,rfl⟩|⟨e,_⟩)|⟨a,wr,rfl,_⟩|⟨a,_,_,e⟩
 ·simp
 ·simp
 ·simp
 ·exact⟨λh=>(by cases h;cases hm),λh=>(by cases h;cases hm)⟩
 ·cases e
 ·simp
 cases e
def Gt.ctl(hr:g.status=.running)(h:∀w,stepG P main g w=.go g' w #[])(k:Gt P main Sh Gr Stop n d O g' w):Gt P main Sh Gr Stop (n+1) d O g w:=
 .step hr λw₁ h₁=>⟨g',w₁,#[],h w₁,.idle ..,Gt.congr (Ck rfl) (k.rely h₁)⟩
def Gt.made(hr:g.status=.running){g1:Nat->Goroutine}{o:Nat->Obj}(h:∀w₁,Rl O Sh w w₁->stepG P main g w₁=.go (g1 w₁.heap.size) (w₁.alloc (o w₁.heap.size)) #[])
  (k:∀w₁,Rl O Sh w w₁->Gt P main Sh Gr Stop n 0 (λb=>O b\/b=w₁.heap.size) (g1 w₁.heap.size) (w₁.alloc (o w₁.heap.size))):Gt P main Sh Gr Stop (n+1) 0 O g w:=by
 have hsz:∀w₁:ah,(w₁.alloc (o w₁.heap.size)).heap.size=w₁.heap.size+1:=λw₁=>rK ..
 refine .step hr λw₁ h₁=>⟨_,_,#[],h w₁ h₁,⟨λb hb _=>?_,by rw[hsz];omega,rfl,rfl,rfl,by simp⟩,Gt.congr (λb=>?_) (k w₁ h₁)⟩
 ·exact(wa ..).trans (aF (by omega))
 rw[hsz]
 constructor
 ·rintro(h|rfl)
  ·exact .inl h
  exact .inr ⟨aR _,wh _⟩
 rintro(h|h)
 ·exact .inl h
 exact .inr (by omega)
def Gt.q{R:ah->ah->Prop}(hR:∀w w₁,Rl O Sh w w₁->R w w₁)(h:Goes P main R Go.ConcR.DC0 (λg w=>Gt P main Sh Gr Stop m d O g w) n g w):Gt P main Sh Gr Stop (n+m) d O g w:=
 Gt.quiet hR (λ_ _ _ hd=>hd) h λ_ _ _ h=>h
variable {b:Frame}{a:Act}{kk:List Item}{cs:List Frame}{ops:Array Oper}{i:Nat}{rest:List Nat}{o:Oper}{v:aj}
def Pp{w:ah}{E:Event->Prop}(h:∀e∈(execOp a.eval o).events P w #[],E e):∀e∈listed P b.fn a o w,E e:=λe he=>h e (mem_listed he)
def Gt.ld(ho:ops[i]?=U o)(hw:Region.wanted o (yielded ops a.tmps)=true)(hk:b.kind≠.early)(hr:∀w₁,Rl O Sh w w₁->(execOp a.eval o).run P w₁=.ok (.value v) w₁/\∀e∈(execOp a.eval o).events P w₁ #[],CH O Sh Gr w₁ e)
  (k:Gt P main Sh Gr Stop n d O (G (b.at (a.put o.dst v) (.inRegion ops rest::kk)) cs) w):Gt P main Sh Gr Stop (n+1) d O (G (b.at a (.inRegion ops (i::rest)::kk)) cs) w:=by
 refine .step rfl λw₁ h₁=>?_
 obtain⟨e1,e2⟩:=hr w₁ h₁;have e3:=Pp (b:=b) e2
 refine⟨_,_,_,stepG_value ho hw hk e1,⟨λ_ _ _=>rfl,aR _,rfl,rfl,rfl,λe he=>(e3 e he).any main⟩,?_⟩;rw[Po e3];exact Gt.congr (Ck rfl) (k.rely h₁)
def Gt.st{W:ah->ah}(ho:ops[i]?=U o)(hw:Region.wanted o (yielded ops a.tmps)=true)(hk:b.kind≠.early)(hr:∀w₁,Rl O Sh w w₁->(execOp a.eval o).run P w₁=.ok .skip (W w₁)/\Kp O w₁ (W w₁)/\∀e∈(execOp a.eval o).events P w₁ #[],CH O Sh Gr w₁ e)
  (k:∀w₁,Rl O Sh w w₁->Gt P main Sh Gr Stop n d O (G (b.at (a.put o.dst undef) (.inRegion ops rest::kk)) cs) (W w₁)):Gt P main Sh Gr Stop (n+1) d O (G (b.at a (.inRegion ops (i::rest)::kk)) cs) w:=by
 refine .step rfl λw₁ h₁=>?_
 obtain⟨e1,hK,e2⟩:=hr w₁ h₁;have e3:=Pp (b:=b) e2
 refine⟨_,_,_,stepG_none ho hw hk e1,⟨λb _ hb=>hK.frame b hb,uX hK.size.symm,hK.os,hK.o,hK.tape,λe he=>by rw[hK.size];exact(e3 e he).any main⟩,?_⟩;rw[Po e3];exact Gt.congr (Ck hK.size) (k w₁ h₁)
def Gt.al{ob:Obj}{v:Nat->aj}(ho:ops[i]?=U o)(hw:Region.wanted o (yielded ops a.tmps)=true)(hk:b.kind≠.early)(hr:∀w₁,Rl O Sh w w₁->(execOp a.eval o).run P w₁=.ok (.value (v w₁.heap.size)) (w₁.alloc ob)/\∀e∈(execOp a.eval o).events P w₁ #[],False)
  (k:∀w₁,Rl O Sh w w₁->Gt P main Sh Gr Stop n 0 (λb=>O b\/b=w₁.heap.size) (G (b.at (a.put o.dst (v w₁.heap.size)) (.inRegion ops rest::kk)) cs) (w₁.alloc ob)):Gt P main Sh Gr Stop (n+1) 0 O (G (b.at a (.inRegion ops (i::rest)::kk)) cs) w:=
 .made rfl (g1:=λN=>G (b.at (a.put o.dst (v N)) (.inRegion ops rest::kk)) cs) (o:=λ_=>ob) (λw₁ h₁=>by
  have e3:listed P b.fn a o w₁=#[]:=Pn λe he=>(hr w₁ h₁).2 e (mem_listed he)
  rw[stepG_value ho hw hk (hr w₁ h₁).1,e3]) k
end
section
variable {L:WgLink}
section
variable (P:Program)(ty:TypeId)(Wg:Nat)(main:Bool)(g0:Goroutine)
abbrev Gu (S:Goroutine->World->Prop) (g:Goroutine) (w:World):Prop:=Goes P main (fA ty Wg) DC0 S 200 g w
def CJ(m:Mark)(S:Goroutine->ah->Prop)(g:Goroutine)(w:ah):Prop:=
 g.status=.running/\∃g',stepG P main g w=.go g' w #[mk m]/\Gu P ty Wg main S g' w
def Jv:Goroutine->ah->Prop:=CJ P ty Wg main .enable (uV g0)
def Pq(g:Goroutine)(w:ah):Prop:=
 g.status=.running/\∀v:Nat,v<2147483647->WgAt ty Wg w (v*KK) 0 ->
  ∃g',stepG P main g w=.go g' (w.setCell (stA Wg) (.int .u64 ((v+1)*KK))) #[rd (stA Wg),wr (stA Wg)] /\
   (v=0->Gu P ty Wg main (CJ P ty Wg main (.read (smA Wg)) (Jv P ty Wg main g0)) g' (w.setCell (stA Wg) (.int .u64 ((v+1)*KK)))) /\
   (v≠0->Gu P ty Wg main (Jv P ty Wg main g0) g' (w.setCell (stA Wg) (.int .u64 ((v+1)*KK))))
end
section
variable {Wg:Nat}{main:Bool}{b₀:Frame}{a₀:Act}{ops₀:Array Oper}{i₀:Nat}{rest₀:List Nat}{k₀:List Item}{cs:List Frame}
def Zx(H:WgLib P L)(w:ah)(hF:WgLive L.tWg Wg w):Goes P main (fA L.tWg Wg) DC0 (CJ P L.tWg Wg main .disable (Pq P L.tWg Wg main (G (b₀.at (a₀.put ((ops₀[i₀]?).bind (·.dst)) (aX #[])) (.inRegion ops₀ rest₀::k₀)) cs))) 200
   (G ((base L.add).at ⟨(ax (U (ar Wg 0 J))::af I 1::List.replicate 115 undef).toArray,[]⟩ [.code (body_add L)]) (b₀.at a₀ (.inRegion ops₀ (i₀::rest₀)::k₀)::cs)) w:=by
 lib_facts
 simp only[body_add,addFn,bC,List.replicate]
 repeat (first|w_go bm|u_defer bm hF|u_bub bm hF|u_call H.f_uAdd (nm_uAdd L) uAddFn bm hF|u_leave1 H.f_uAdd bm hF)
 refine Goes.stop (λw₁ h₁=>?_);replace hF:=bm hF h₁
 clear h₁
 refine⟨rfl,_,stepG_mark0 .disable (by simp) rfl rfl (by k_ne) rfl H.f_disable (x_disable_n L) (x_disable_b L) (x_disable_x L) (x_disable_f L),?_⟩;walk_nrm
 repeat (first|w_go bm|u_defer bm hF|u_bub bm hF|u_call H.f_uAdd (nm_uAdd L) uAddFn bm hF|u_leave1 H.f_uAdd bm hF)
 refine Goes.stop (λw₂ h₂=>?_);replace hF:=bm hF h₂
 clear h₂
 refine⟨rfl,λv hv hw=>?_⟩
 rcases kG v with rfl|hvp
 ·replace hw:WgAt L.tWg Wg w₂ 0 0:=by simpa using hw
  have z:(((0:Nat):Int)+1)*KK=KK:=by simp
  rw[z];have e0:IntKind.u64.wrap (0+4294967296)=KK:=by decide
  refine⟨_,(stepG_add_atomic rfl rfl (by k_ne) rfl H.f_addU64 (x_addU64_n L) (x_addU64_b L) (x_addU64_x L) .u64 (x_addU64_f L) rfl rfl hw.cellSt (hw.thaw 0)).trans (by rw[e0];rfl),λ_=>?_,λh=>absurd rfl h⟩;replace hF:WgLive L.tWg Wg (w₂.setCell (stA Wg) (.int .u64 KK)):=⟨_,_,hw.setSt _⟩
  clear hw;simp only[KK]at hF⊢;walk_nrm
  repeat (first|w_go bm|u_leave1 H.f_uAdd bm hF)
  u_conv H.underlying_tPU32 H.room_tU32 (WgLive.cell1 hF).choose_spec bm hF
  refine Goes.stop (λw₃ h₃=>?_);replace hF:=bm hF h₃
  clear h₃
  refine⟨rfl,_,stepG_markAt .read (by simp) rfl rfl (by k_ne) rfl H.f_raceRead (x_raceRead_n L) (x_raceRead_b L) (x_raceRead_x L) (x_raceRead_f L) (by simp[Act.eval,smA]),?_⟩;walk_nrm
  repeat w_go bm
  refine Goes.stop (λw₃ h₃=>?_);replace hF:=bm hF h₃
  clear h₃
  refine⟨rfl,_,stepG_unwind_entry (v:=aX #[]) (evs:=#[mk .enable]) rfl H.f_enable (x_enable_n L) (x_enable_b L) (x_enable_x L) (x_enable_f L) (by simp[Extern.Race.none_]) (by simp[mk]) (by simp[mk]),?_⟩;u_leave0 H.f_add bm hF
  exact Goes.stop λ_ _=>rfl
 obtain⟨V,hV⟩:∃V:Int,V=(v:Int)+1:=⟨_,rfl⟩;obtain⟨S,hS⟩:∃S:Int,S=V*KK:=⟨_,rfl⟩;have eS:IntKind.u64.wrap ((v:Int)*KK+4294967296)=S:=by rw[z_,hS,hV];simp only[KK];omega
 rw[<- hV,<- hS];have a1:S / 4294967296=V:=by rw[hS];simp only[KK];omega
 have b1:bits .and .u64 S 2147483648=0:=by rw[hS,hV];have:=st_flag (v+1) 0 (by omega) (by omega);simpa[KK]using this
 have b2:bits .and .u64 S 2147483647=0:=by rw[hS,hV];have:=st_waiters (v+1) 0 (by omega) (by omega);simpa[KK]using this
 have c1:IntKind.i32.wrap V=V:=by rw[IntKind.wrap_i32];omega
 have hV1:1<V:=by omega
 have hV2:V<2147483648:=by omega
 have q1:(V==1)=false:=by simp;omega
 have q2:decide (V=1)=false:=bX (by omega);have q3:decide (V<0)=false:=bX (by omega);have q4:decide (0<V)=true:=bz (by omega);have q5:(V==0)=false:=by simp;omega
 have q6:decide (V=0)=false:=bX (by omega)
 refine⟨_,(stepG_add_atomic rfl rfl (by k_ne) rfl H.f_addU64 (x_addU64_n L) (x_addU64_b L) (x_addU64_x L) .u64 (x_addU64_f L) rfl rfl hw.cellSt (hw.thaw 0)).trans (by rw[eS];rfl),λh=>absurd h (by omega),λ_=>?_⟩;replace hF:WgLive L.tWg Wg (w₂.setCell (stA Wg) (.int .u64 S)):=⟨_,_,hw.setSt _⟩
 clear hw hS hV eS;walk_nrm
 repeat (first|w_go bm|u_cnd true bm hF|u_cnd false bm hF|u_leave1 H.f_uAdd bm hF)
 refine Goes.stop (λw₃ h₃=>?_);replace hF:=bm hF h₃
 clear h₃
 refine⟨rfl,_,stepG_unwind_entry (v:=aX #[]) (evs:=#[mk .enable]) rfl H.f_enable (x_enable_n L) (x_enable_b L) (x_enable_x L) (x_enable_f L) (by simp[Extern.Race.none_]) (by simp[mk]) (by simp[mk]),?_⟩;u_leave0 H.f_add bm hF
 exact Goes.stop λ_ _=>rfl
end
end
end Go.Proofs.YtjjodkjbmgnbeaaGreatDoor
