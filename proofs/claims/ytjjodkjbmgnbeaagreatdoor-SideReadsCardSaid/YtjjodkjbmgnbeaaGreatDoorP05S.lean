/-
  Several texts as one: SdOk, LyE, SdJob, SdOrder, SdGot, SdRecv, LyF, SdCal, LyG, SdCol, SdGet, SdPar, SdClose, LyH, LyK, SdEach, OrdC, LyL, SdDraw, SdStart, SdWhole, LyN, SdRest, LyP, LyQ, LyR, SdTold, SdBack, SdReads, SdAll, LyS, SdGnd, SdCalls, SdLawA, SdLawB, SdLawC, SdLawD, DcIdx, DcHas.
-/
import Derived.Test.YtjjodkjbmgnbeaaGreatDoorP04S
import Derived.Deep.MidRow
import Derived.Conc.AppendWalk
import Derived.Deep.DeepAppendRoom
import Derived.Laws.MakeOwn
import Derived.Conc.CompanyDraw
import Derived.Conc.LeavingOf
import Derived.Conc.AppendEvents3
set_option linter.all false
set_option maxHeartbeats 40000000
set_option maxRecDepth 100000
abbrev ou.{u}:=@Option.isSome_iff_exists.{u}
abbrev C3:=@Go.World.rangeAt_setCells_same
abbrev zf.{u}:=@List.getElem?_of_mem.{u}
abbrev zh:=@Int.toNat_natCast
abbrev FK:=@Nat.exists_eq_succ_of_ne_zero
abbrev AP.{u}:=@List.mem_iff_getElem?.{u}
abbrev C4:=@Go.events_indexAt_slice
open Go renaming Addr→av,Value→aj,World→ah
open Go.Addr renaming mk→ar
open Go.Ending renaming returned→aH
open Go.IntKind renaming i64→I
open Go.Obj renaming cells→ay
open Go.RowKit renaming Hid→ag
open Go.Value renaming agg→a_,bool→aJ,int→af,ownBlock→mC,pointer→ax,slice→ak,string→aB,tuple→aX
open Go.World renaming cell?→aL,frozen?→bE,setCell→cZ
open Option renaming none→J,some→U
open Go.Proofs.Tryz
namespace Go.Proofs.YtjjodkjbmgnbeaaGreatDoor
open Go
variable{D d:TypeDesc}{O O' SB:Nat->Prop}{P:Program}{Post:aj->ah->Prop}{Stop:Goroutine->ah->Prop}{V w w':ah}{b cap g i k n:Nat}{c cells xs ys:Array aj}{e ty:TypeId}{es:Array Event}{ev sv u v' y y':aj}{fn:Func}{l:List ByteArray}{rv:Nat->Option aj}{s:Sd}{sa:Option av}{t:Trace}{txt:Nat->ByteArray}{x:Operand}
def fH:List FuncId:=[6,7,8,9,12,13,14,15,16,17,18,19,20,27,28,29,30,31,32,33,34,35,36,37,38,39,58,59,60,61,62,63,64,65,66,67,68,69,70,71,72,73,74,75,81,82,83,84,85,86,87,88,89,90,91,92,93,94,95,96,97,98,99,100,101,102,103,104,105,106,107,108,109,110,111,112,113,114,115,116,117,118,119,120,121,122,123,124,125,126,127,128,129,130,131,132,133,134,135,136,137,138,139,140,141,142,143,144,145,146,147,148,149,150,151,152,153,154,155,156,157,158,159,160,161,162,163,164,178,179,183,185,188,189,190,191]
def qV:Gl:={ l:=[0,1,2,3,4,5,6,7,8,9,10,11,12,13,14,15,16],X:=[] }
def aaZ:prog.funcs[70]?=U f70:=by kernel_rfl
def aa0:(f70.name == "runtime.NumGoroutine")=false:=by kernel_rfl
def aa1:f70.body.isNone=true:=by kernel_rfl
def aa2:Extern.findNext f70=J:=by kernel_rfl
def aa3:Extern.find f70=U (λargs=>Go.Extern.ReflectliteValue.unpack (args.getD 0 (aX #[]))):=by kernel_rfl
def aa4  {γ:aK}  (e1:P.funcs[70]?=U fn) (e2:(fn.name == "runtime.NumGoroutine")=false) (e3:fn.body.isNone=true) (e4:Extern.findNext fn=J) (e5:Extern.find fn=U (λargs=>Go.Extern.ReflectliteValue.unpack (args.getD 0 (aX #[])))) (hA:γ.any P.globals.size P.globals.size) (h:RL γ xs ys):ai P γ (callFunc 70 xs) (callFunc 70 ys) (RN P):=oh e1 e2 e3 e4 e5 (Zo hA h)
def aa5:prog.funcs[71]?=U f71:=by kernel_rfl
def aa6:(f71.name == "runtime.NumGoroutine")=false:=by kernel_rfl
def aa7:f71.body.isNone=true:=by kernel_rfl
def aa8:Extern.findNext f71=J:=by kernel_rfl
def aa9:Extern.find f71=U (Go.Extern.ReflectliteValue.methodAny (Go.Extern.ReflectliteValue.valueError "reflectlite.Value.Type" 0) λt _ _ _=>Go.Extern.ReflectliteType.toType t):=by kernel_rfl
def aa_  {γ:aK}  (e1:P.funcs[71]?=U fn) (e2:(fn.name == "runtime.NumGoroutine")=false) (e3:fn.body.isNone=true) (e4:Extern.findNext fn=J) (e5:Extern.find fn=U (Go.Extern.ReflectliteValue.methodAny (Go.Extern.ReflectliteValue.valueError "reflectlite.Value.Type" 0) λt _ _ _=>Go.Extern.ReflectliteType.toType t)) (hA:γ.any P.globals.size P.globals.size) (h:RL γ xs ys):ai P γ (callFunc 71 xs) (callFunc 71 ys) (RN P):=oh e1 e2 e3 e4 e5 (Zp hA (yG _ _) (λ_ t _ _ _ _ hA _=>Jq hA t) h)
def aa':prog.funcs[72]?=U f72:=by kernel_rfl
def abb:(f72.name == "runtime.NumGoroutine")=false:=by kernel_rfl
def abd:f72.body.isNone=true:=by kernel_rfl
def abe:Extern.findNext f72=J:=by kernel_rfl
def abf:Extern.find f72=U (Go.Extern.ReflectliteValue.method (Go.Extern.ReflectliteValue.valueError "reflectlite.Value.IsNil" 0) Go.Extern.ReflectliteValue.isNil):=by kernel_rfl
def abg  {γ:aK}  (e1:P.funcs[72]?=U fn) (e2:(fn.name == "runtime.NumGoroutine")=false) (e3:fn.body.isNone=true) (e4:Extern.findNext fn=J) (e5:Extern.find fn=U (Go.Extern.ReflectliteValue.method (Go.Extern.ReflectliteValue.valueError "reflectlite.Value.IsNil" 0) Go.Extern.ReflectliteValue.isNil)) (hA:γ.any P.globals.size P.globals.size) (h:RL γ xs ys):ai P γ (callFunc 72 xs) (callFunc 72 ys) (RN P):=oh e1 e2 e3 e4 e5 (Ph hA (yG _ _) (λ_ t _ _ n k _ ha=>Zq t ha n k) h)
def abh:prog.funcs[74]?=U f74:=by kernel_rfl
def abj:(f74.name == "runtime.NumGoroutine")=false:=by kernel_rfl
def abk:f74.body.isNone=true:=by kernel_rfl
def abl:Extern.findNext f74=J:=by kernel_rfl
def abm:Extern.find f74=U (Go.Extern.ReflectliteType.typeOf):=by kernel_rfl
def abn  {γ:aK}  (e1:P.funcs[74]?=U fn) (e2:(fn.name == "runtime.NumGoroutine")=false) (e3:fn.body.isNone=true) (e4:Extern.findNext fn=J) (e5:Extern.find fn=U (Go.Extern.ReflectliteType.typeOf)) (hA:γ.any P.globals.size P.globals.size) (h:RL γ xs ys):ai P γ (callFunc 74 xs) (callFunc 74 ys) (RN P):=oh e1 e2 e3 e4 e5 (Zl hA h)
def abo:prog.funcs[103]?=U f103:=by kernel_rfl
def abp:(f103.name == "runtime.NumGoroutine")=false:=by kernel_rfl
def abq:f103.body.isNone=true:=by kernel_rfl
def abr:Extern.findNext f103=J:=by kernel_rfl
def abt:Extern.find f103=U (Go.Extern.ReflectliteValue.method (Go.Extern.ReflectliteValue.valueError "reflectlite.Value.Elem" 0) Go.Extern.ReflectliteValue.elem):=by kernel_rfl
def abu  {γ:aK}  (e1:P.funcs[103]?=U fn) (e2:(fn.name == "runtime.NumGoroutine")=false) (e3:fn.body.isNone=true) (e4:Extern.findNext fn=J) (e5:Extern.find fn=U (Go.Extern.ReflectliteValue.method (Go.Extern.ReflectliteValue.valueError "reflectlite.Value.Elem" 0) Go.Extern.ReflectliteValue.elem)) (hA:γ.any P.globals.size P.globals.size) (h:RL γ xs ys):ai P γ (callFunc 103 xs) (callFunc 103 ys) (RN P):=oh e1 e2 e3 e4 e5 (Ph hA (yG _ _) (λ_ t _ _ n k hA ha=>Zr hA t ha n k) h)
def abv:prog.funcs[104]?=U f104:=by kernel_rfl
def abw:(f104.name == "runtime.NumGoroutine")=false:=by kernel_rfl
def abx:f104.body.isNone=true:=by kernel_rfl
def aby:Extern.findNext f104=J:=by kernel_rfl
def abz:Extern.find f104=U (Go.Extern.ReflectliteValue.set):=by kernel_rfl
def abA  {γ:aK}  (e1:P.funcs[104]?=U fn) (e2:(fn.name == "runtime.NumGoroutine")=false) (e3:fn.body.isNone=true) (e4:Extern.findNext fn=J) (e5:Extern.find fn=U (Go.Extern.ReflectliteValue.set)) (hA:γ.any P.globals.size P.globals.size) (h:RL γ xs ys):ai P γ (callFunc 104 xs) (callFunc 104 ys) (RN P):=oh e1 e2 e3 e4 e5 (Zs hA h)
def abB:prog.funcs[179]?=U f179:=by kernel_rfl
def abC:(f179.name == "runtime.NumGoroutine")=false:=by kernel_rfl
def abD:f179.body.isNone=true:=by kernel_rfl
def abE:Extern.findNext f179=J:=by kernel_rfl
def abF:Extern.find f179=U (Go.Extern.ReflectliteType.abiMethod λt=>do pure (af .u8 (<- Go.Extern.Rtype.kind t))):=by kernel_rfl
def abG  {γ:aK}  (e1:P.funcs[179]?=U fn) (e2:(fn.name == "runtime.NumGoroutine")=false) (e3:fn.body.isNone=true) (e4:Extern.findNext fn=J) (e5:Extern.find fn=U (Go.Extern.ReflectliteType.abiMethod λt=>do pure (af .u8 (← Go.Extern.Rtype.kind t)))) (hA:γ.any P.globals.size P.globals.size) (h:RL γ xs ys):ai P γ (callFunc 179 xs) (callFunc 179 ys) (RN P):=oh e1 e2 e3 e4 e5 (Zh hA (λ_ t _=>Zk t) h)
def abH:prog.funcs[190]?=U f190:=by kernel_rfl
def abI:(f190.name == "runtime.NumGoroutine")=false:=by kernel_rfl
def abJ:f190.body.isNone=true:=by kernel_rfl
def abK:Extern.findNext f190=J:=by kernel_rfl
def abL:Extern.find f190=U (Go.Extern.ReflectliteType.method Go.Extern.ReflectliteType.elem):=by kernel_rfl
def abM  {γ:aK}  (e1:P.funcs[190]?=U fn) (e2:(fn.name == "runtime.NumGoroutine")=false) (e3:fn.body.isNone=true) (e4:Extern.findNext fn=J) (e5:Extern.find fn=U (Go.Extern.ReflectliteType.method Go.Extern.ReflectliteType.elem)) (hA:γ.any P.globals.size P.globals.size) (h:RL γ xs ys):ai P γ (callFunc 190 xs) (callFunc 190 ys) (RN P):=oh e1 e2 e3 e4 e5 (O7 hA (λ_ t hA=>Zi hA t) h)
def abN:prog.funcs[191]?=U f191:=by kernel_rfl
def abO:(f191.name == "runtime.NumGoroutine")=false:=by kernel_rfl
def abP:f191.body.isNone=true:=by kernel_rfl
def abQ:Extern.findNext f191=J:=by kernel_rfl
def abR:Extern.find f191=U (Go.Extern.ReflectliteType.relation "Implements" Go.Extern.ReflectliteType.implements_):=by kernel_rfl
def abS  {γ:aK}  (e1:P.funcs[191]?=U fn) (e2:(fn.name == "runtime.NumGoroutine")=false) (e3:fn.body.isNone=true) (e4:Extern.findNext fn=J) (e5:Extern.find fn=U (Go.Extern.ReflectliteType.relation "Implements" Go.Extern.ReflectliteType.implements_)) (hA:γ.any P.globals.size P.globals.size) (h:RL γ xs ys):ai P γ (callFunc 191 xs) (callFunc 191 ys) (RN P):=oh e1 e2 e3 e4 e5 (O8 hA _ (λ_ t u=>Zm t u) h)
def abT:prog.funcs[188]?=U f188:=by kernel_rfl
def abU:(f188.name == "runtime.NumGoroutine")=false:=by kernel_rfl
def abV:f188.body.isNone=true:=by kernel_rfl
def abW:Extern.findNext f188=J:=by kernel_rfl
def abX:Extern.find f188=U (Go.Extern.ReflectliteType.relation "AssignableTo" Go.Extern.ReflectliteType.assignableTo):=by kernel_rfl
def abY  {γ:aK}  (e1:P.funcs[188]?=U fn) (e2:(fn.name == "runtime.NumGoroutine")=false) (e3:fn.body.isNone=true) (e4:Extern.findNext fn=J) (e5:Extern.find fn=U (Go.Extern.ReflectliteType.relation "AssignableTo" Go.Extern.ReflectliteType.assignableTo)) (hA:γ.any P.globals.size P.globals.size) (h:RL γ xs ys):ai P γ (callFunc 188 xs) (callFunc 188 ys) (RN P):=oh e1 e2 e3 e4 e5 (O8 hA _ (λ_ t u=>Zn t u) h)
def abZ:prog.funcs[189]?=U f189:=by kernel_rfl
def ab0:(f189.name == "runtime.NumGoroutine")=false:=by kernel_rfl
def ab1:f189.body.isNone=true:=by kernel_rfl
def ab2:Extern.findNext f189=J:=by kernel_rfl
def ab3:Extern.find f189=U (Go.Extern.ReflectliteType.method λt=>do Go.Extern.Rtype.noPackHeld "Comparable" t; pure (aJ (← typeInfo t).comparable)):=by kernel_rfl
def ab4  {γ:aK}  (e1:P.funcs[189]?=U fn) (e2:(fn.name == "runtime.NumGoroutine")=false) (e3:fn.body.isNone=true) (e4:Extern.findNext fn=J) (e5:Extern.find fn=U (Go.Extern.ReflectliteType.method λt=>do Go.Extern.Rtype.noPackHeld "Comparable" t; pure (aJ (← typeInfo t).comparable))) (hA:γ.any P.globals.size P.globals.size) (h:RL γ xs ys):ai P γ (callFunc 189 xs) (callFunc 189 ys) (RN P):=oh e1 e2 e3 e4 e5 (O7 hA (λ_ t _=>Zj t) h)
def ab5:prog.funcs[185]?=U f185:=by kernel_rfl
def ab6:(f185.name == "runtime.NumGoroutine")=false:=by kernel_rfl
def ab7:f185.body.isNone=true:=by kernel_rfl
def ab8:Extern.findNext f185=J:=by kernel_rfl
def ab9:Extern.find f185=U (CC):=by kernel_rfl
def ab_  {γ:aK}  (e1:P.funcs[185]?=U fn) (e2:(fn.name == "runtime.NumGoroutine")=false) (e3:fn.body.isNone=true) (e4:Extern.findNext fn=J) (e5:Extern.find fn=U (CC)) (hA:γ.any P.globals.size P.globals.size) (h:RL γ xs ys):ai P γ (callFunc 185 xs) (callFunc 185 ys) (RN P):=oh e1 e2 e3 e4 e5 (Zu hA h)
def ab':prog.funcs[178]?=U f178:=by kernel_rfl
def aca:(f178.name == "runtime.NumGoroutine")=false:=by kernel_rfl
def acb:f178.body.isNone=true:=by kernel_rfl
def acd:Extern.findNext f178=J:=by kernel_rfl
def ace:Extern.find f178=J:=by kernel_rfl
def acf  {γ:aK}  (e1:P.funcs[178]?=U fn) (e2:(fn.name == "runtime.NumGoroutine")=false) (e3:fn.body.isNone=true) (e4:Extern.findNext fn=J) (e5:Extern.find fn=J) (_:γ.any P.globals.size P.globals.size) (_:RL γ xs ys):ai P γ (callFunc 178 xs) (callFunc 178 ys) (RN P):=Zv e1 e2 e3 e4 e5
def J9{β:aK}(hfn:β.fn=λf=>fH.contains f=true)(hg:β.g=prog.globals.size)(Iz:∀x,qV.contains x=true->β.any x x):Cx prog fH qV β:=by
 refine Cx.X7 (ext:=[110,147,158,70,71,72,74,103,104,179,190,191,188,189,185,178]) hfn hg Iz (by kernel_rfl) λf hf γ xs ys _ hG h=>?_
 have hA:γ.any prog.globals.size prog.globals.size:=by
  have e:prog.globals.size=16:=by kernel_rfl
  rw[e];exact hG 16 (aD rfl)
 have:f=110\/f=147\/f=158\/f=70\/f=71\/f=72\/f=74\/f=103\/f=104\/f=179\/f=190\/f=191\/f=188\/f=189\/f=185\/f=178:=by simpa using hf
 rcases this with rfl|rfl|rfl|rfl|rfl|rfl|rfl|rfl|rfl|rfl|rfl|rfl|rfl|rfl|rfl|rfl
 ·exact oh (fn:=f110) (e:=Go.Extern.BytealgCount.count) (by kernel_rfl) (by kernel_rfl) (by kernel_rfl) (by kernel_rfl) (by kernel_rfl) (X4 h)
 ·exact oh (fn:=f147) (e:=Go.Extern.BytealgIndex.index) (by kernel_rfl) (by kernel_rfl) (by kernel_rfl) (by kernel_rfl) (by kernel_rfl) (X6 (m:=13) (by kernel_rfl) (hG 13 (aD rfl)) h)
 ·exact oh (fn:=f158) (e:=Go.Extern.BytealgIndexByte.indexByte) (by kernel_rfl) (by kernel_rfl) (by kernel_rfl) (by kernel_rfl) (by kernel_rfl) (X5 h)
 ·have:=aa4 (P:=prog) (fn:=f70) (γ:=γ) (xs:=xs) (ys:=ys) aaZ aa0 aa1 aa2 aa3 hA h;exact this
 ·have:=aa_ (P:=prog) (fn:=f71) (γ:=γ) (xs:=xs) (ys:=ys) aa5 aa6 aa7 aa8 aa9 hA h;exact this
 ·have:=abg (P:=prog) (fn:=f72) (γ:=γ) (xs:=xs) (ys:=ys) aa' abb abd abe abf hA h;exact this
 ·have:=abn (P:=prog) (fn:=f74) (γ:=γ) (xs:=xs) (ys:=ys) abh abj abk abl abm hA h;exact this
 ·have:=abu (P:=prog) (fn:=f103) (γ:=γ) (xs:=xs) (ys:=ys) abo abp abq abr abt hA h;exact this
 ·have:=abA (P:=prog) (fn:=f104) (γ:=γ) (xs:=xs) (ys:=ys) abv abw abx aby abz hA h;exact this
 ·have:=abG (P:=prog) (fn:=f179) (γ:=γ) (xs:=xs) (ys:=ys) abB abC abD abE abF hA h;exact this
 ·have:=abM (P:=prog) (fn:=f190) (γ:=γ) (xs:=xs) (ys:=ys) abH abI abJ abK abL hA h;exact this
 ·have:=abS (P:=prog) (fn:=f191) (γ:=γ) (xs:=xs) (ys:=ys) abN abO abP abQ abR hA h;exact this
 ·have:=abY (P:=prog) (fn:=f188) (γ:=γ) (xs:=xs) (ys:=ys) abT abU abV abW abX hA h;exact this
 ·have:=ab4 (P:=prog) (fn:=f189) (γ:=γ) (xs:=xs) (ys:=ys) abZ ab0 ab1 ab2 ab3 hA h;exact this
 ·have:=ab_ (P:=prog) (fn:=f185) (γ:=γ) (xs:=xs) (ys:=ys) ab5 ab6 ab7 ab8 ab9 hA h;exact this
 have:=acf (P:=prog) (fn:=f178) (γ:=γ) (xs:=xs) (ys:=ys) ab' aca acb acd ace hA h;exact this
open Go.Conc
def Kp.trans{a b c:ah}(h:Kp O a b)(k:Kp O b c):Kp O a c:=⟨λx hx=>(k.frame x hx).trans (h.frame x hx),k.size.trans h.size,k.os.trans h.os,k.o.trans h.o,k.tape.trans h.tape⟩
def Kp.bZ(h:O g):∀(vs:List aj) (k:Nat) (w:ah),Kp O w (w.setCells g k vs)
 |[],_,_=>Kp.refl _ _
 |_::vs,k,_=>(Kp.set (a:=⟨g,k,J⟩) h).trans (Kp.bZ h vs (k+1) _)
def sg{t:TypeId}(h:w.heap[g]?=U (ay c t (0,0)))(k:Nat)(hn:k+n<=c.size):w.there g k n:=λj hj=>by
 have:k+j<c.size:=by omega
 exact⟨by simp[aL,h,this],by simp[bE,h]⟩
def tU{xs:List aj}(h:w.rangeAt g k xs)(e:w'.heap[g]?=w.heap[g]?):w'.rangeAt g k xs:=λj v hv=>(jc e).trans (h j v hv)
def vw(h:w.there g k n)(e:w'.heap[g]?=w.heap[g]?):w'.there g k n:=λj hj=>by
 have h2:=h j hj;exact⟨by rw[show w'.cell? ⟨g,k+j,J⟩=w.cell? ⟨g,k+j,J⟩from jc e];exact h2.1,by unfold bE at h2⊢;rw[e];exact h2.2⟩
section
variable {P:Program}{main:Bool}{b:Frame}{a:Act}{kk:List Item}{cs:List Frame}{ops:Array Oper}{i:Nat}{rest:List Nat}{o:Oper}{w:ah}
def zi(g:Nat)(wr:Bool)(e:Event):Prop:=∃p:av,e=⟨.cell p,wr,false⟩/\p.block=g
def acg(a:av)(n:Nat):(a.add n).block=a.block:=by unfold Addr.add;split<;>rfl
def Qq(x:av):∀(n i:Nat) (acc:Array aj) (w:ah) (es:Array Event),(∀j,j<n->(w.cell? (x.add (i+j))).isSome=true)->∀e∈(loadCellsFrom x i n acc).events P w es,e∈es\/zi x.block false e
 |0,_,_,_,_,_=>λe h=>.inl (by simpa[loadCellsFrom]using h)
 |n+1,i,acc,w,es,hc=>λe h=>by
  obtain⟨u,hu⟩:=ou.1 (hc 0 (by omega));simp only[qF]at hu;have hr:(load (x.add i)).run P w=.ok u w:=by simp[hu]
  simp only[loadCellsFrom,Sem.events_bind,hr,Result.evThen_ok,events_load,hu]at h
  rcases Qq x n (i+1) (acc.push u) w _ (λj hj=>by have:=hc (j+1) (by omega);rwa [show i+(j+1)=i+1+j by omega]at this) e h with h|h
  ·rcases Array.mem_push.1 h with h|rfl
   ·exact .inl h
   exact .inr ⟨_,rfl,acg _ _⟩
  exact .inr h
def Qr(g k:Nat):∀(vs:List aj) (i:Nat) (w:ah) (es:Array Event),(∀j,j<vs.length->(w.cell? ⟨g,k+i+j,J⟩).isSome=true/\w.frozen? ⟨g,k+i+j,J⟩=false)->(∀v∈vs,v.oneCell'=true)->∀e∈(storeCells ⟨g,k,J⟩ vs i).events P w es,e∈es\/zi g true e
 |[],_,_,_,_,_=>λe h=>.inl (by simpa[storeCells]using h)
 |v::rest,i,w,es,hc,h1=>λe h=>by
  obtain⟨hc0,BB⟩:=hc 0 (by simp);obtain⟨u,hu⟩:=ou.1 hc0;simp only[qF]at hu BB;have hst:(store ((⟨g,k,J⟩:av).add i) v).run P w=.ok () (w.setCell ⟨g,k+i,J⟩ v):=by
   rw[Addr.add_mid,Go.run_store P w _ v _ (h1 v (by simp)),hu];simp[BB]
  have cP:(store ((⟨g,k,J⟩:av).add i) v).events P w es=es.push ⟨.cell ⟨g,k+i,J⟩,true,false⟩:=by
   rw[Addr.add_mid,Go.events_store P w es _ v _ (h1 v (by simp)),hu];simp only[BB,uC,j5];rfl
  simp only[storeCells,Sem.events_bind,hst,Result.evThen_ok,cP]at h;have hc2:∀j,j<rest.length->((w.setCell ⟨g,k+i,J⟩ v).cell? ⟨g,k+(i+1)+j,J⟩).isSome=true/\(w.setCell ⟨g,k+i,J⟩ v).frozen? ⟨g,k+(i+1)+j,J⟩=false:=λj hj=>by
   have:=hc (j+1) (by simp;omega);rw[show k+i+(j+1)=k+(i+1)+j by omega]at this;have hne:(⟨g,k+i,J⟩:av)≠⟨g,k+(i+1)+j,J⟩:=λe=>by have:=iU Addr.off e;simp at this;omega
   refine⟨?_,?_⟩
   ·rw[World.cell?_setCell_other _ _ _ _ hne];exact this.1
   rw[World.frozen?_setCell];exact this.2
  rcases Qr g k rest (i+1) (w.setCell ⟨g,k+i,J⟩ v) _ hc2 (λx hx=>h1 x (by simp[hx])) e h with h|h
  ·rcases Array.mem_push.1 h with h|rfl
   ·exact .inl h
   exact .inr ⟨_,rfl,rfl⟩
  exact .inr h
def ach{xs:List aj}(hc:w.rangeAt g k xs)(hu:P.underlying ty=U d)(hd:d.isRow=true)(hi:(P.info? ty).map (·.size)=U xs.length):∀e∈(loadVar ty ⟨g,k,J⟩).events P w #[],zi g false e:=by
 intro e he
 cases hq:P.info? ty with
 |none=>rw[hq]at hi;cases hi
 |some ti=>
  have hs:ti.size=xs.length:=by simpa[hq]using hi
  have aci:(isAgg ty).run P w=.ok true w:=by
   unfold isAgg underlying;simp only[kT];have:(Go.program).run P w=.ok P w:=rfl;simp only[this,Result.andThen,hu,uF]
   cases d<;>first|rfl|cases hd
  have hz:(sizeOf ty).run P w=.ok xs.length w:=by simp[sizeOf,typeInfo,hq,hs]
  have e1:(isAgg ty).events P w #[]=#[]:=by
   unfold isAgg underlying;simp[hu]
   cases d<;>first|rfl|cases hd
  have e2:(sizeOf ty).events P w #[]=#[]:=by simp[sizeOf,typeInfo,hq]
  unfold loadVar at he;simp only[Sem.events_bind,aci,e1,Result.evThen_ok,kC,hz,e2]at he;have:e∈(loadCells ⟨g,k,J⟩ xs.length).events P w #[]:=by
   revert he
   cases (loadCells ⟨g,k,J⟩ xs.length).run P w<;>simp
  unfold loadCells at this
  rcases Qq (P:=P) ⟨g,k,J⟩ xs.length 0 #[] w #[] (λj hj=>by
   rw[pH,Addr.add_mid,hc j xs[j] (bL hj)];rfl) e this with h|h
  ·simp at h
  exact h
def FL{xs:List aj}(hop:o.op=.load ty x)(hx:a.eval x=.pointer (U (ar g k J)))(hc:w.rangeAt g k xs)(hu:P.underlying ty=U d)(hd:d.isRow=true)(hi:(P.info? ty).map (·.size)=U xs.length):(execOp a.eval o).run P w=.ok (.value (.agg xs.toArray)) w/\∀e∈(execOp a.eval o).events P w #[],zi g false e:=by
 have hr:=run_loadAt_mid (P:=P) w g k ty xs d hc hu hd hi
 refine⟨by unfold execOp;simp only[hop,hx,kT,hr,sQ,uF],λe he=>?_⟩;unfold execOp at he;simp only[hop,hx,Sem.events_bind,hr,Result.evThen_ok,Sem.events_pure]at he
 refine ach hc hu hd hi e ?_;simpa[Instr.loadAt,Instr.sureAddr]using he
def Qs{y:Operand}(hop:o.op=.store ty x y)(hx:a.eval x=ax (U (ar g k J)))(hy:a.eval y=.agg cells)(ht:w.there g k cells.size)(hi:(P.info? ty).map (·.size)=U cells.size)(h1:cells.all (·.oneCell')=true):(execOp a.eval o).run P w=.ok .skip (w.setCells g k cells.toList)/\∀e∈(execOp a.eval o).events P w #[],zi g true e:=by
 have hr:=run_storeAt_mid (P:=P) w g k ty cells ht hi h1
 refine⟨by unfold execOp;simp only[hop,hx,hy,kT,hr,sQ,uF],λe he=>?_⟩;unfold execOp at he;simp only[hop,hx,hy,Sem.events_bind,hr,Result.evThen_ok,Sem.events_pure]at he
 cases hq:P.info? ty with
 |none=>rw[hq]at hi;cases hi
 |some ti=>
  have hs:cells.size=ti.size:=by simpa[hq]using hi.symm
  have rA:e∈(storeCells ⟨g,k,J⟩ cells.toList).events P w #[]:=by
   simpa[Instr.storeAt,Instr.sureAddr,storeVar,sizeOf,typeInfo,hq,Value.cells,hs]using he
  rcases Qr (P:=P) g k cells.toList 0 w #[] (λj hj=>by simpa using ht j (by simpa using hj)) (λv hv=>(Array.all_eq_true_iff_forall_mem.1 h1) v (by simpa using hv)) e rA with h|h
  ·simp at h
  exact h
variable {O Sh Gr:Nat->Prop}{Stop:(Nat->Prop)->Goroutine->ah->Prop}{n d:Nat}
def Gt.Qt{xs:List aj}(ho:ops[i]?=U o)(hw:Region.wanted o (yielded ops a.tmps)=true)(hk:b.kind≠.early)(hop:o.op=.load ty x)(hx:a.eval x=.pointer (U (ar g k J)))(hu:P.underlying ty=U D)(hd:D.isRow=true)(hi:(P.info? ty).map (·.size)=U xs.length)
  (hc:∀w₁,Rl O Sh w w₁->w₁.rangeAt g k xs/\((O g/\¬Gr g/\g<w₁.heap.size)\/Sh g)) (next:Gt P main Sh Gr Stop n d O (G (b.at (a.put o.dst (.agg xs.toArray)) (.inRegion ops rest::kk)) cs) w):Gt P main Sh Gr Stop (n+1) d O (G (b.at a (.inRegion ops (i::rest)::kk)) cs) w:=
 Gt.ld ho hw hk (λw₁ h₁=>by
  obtain⟨h1,h2⟩:=hc w₁ h₁;obtain⟨r1,r2⟩:=FL (P:=P) hop hx h1 hu hd hi
  refine⟨r1,λe he=>?_⟩;obtain⟨p,rfl,rfl⟩:=r2 e he
  rcases h2 with h2|h2
  ·exact Ju h2.1 h2.2.1 h2.2.2
  exact CI h2) next
def Gt.J_{y:Operand}(ho:ops[i]?=U o)(hw:Region.wanted o (yielded ops a.tmps)=true)(hk:b.kind≠.early)(hop:o.op=.store ty x y)(hx:a.eval x=ax (U (ar g k J)))(hy:a.eval y=.agg cells)(hi:(P.info? ty).map (·.size)=U cells.size)(h1:cells.all (·.oneCell')=true)
  (hO:O g) (hG:¬Gr g) (hc:∀w₁,Rl O Sh w w₁->w₁.there g k cells.size/\g<w₁.heap.size) (next:∀w₁,Rl O Sh w w₁->Gt P main Sh Gr Stop n d O (G (b.at (a.put o.dst undef) (.inRegion ops rest::kk)) cs) (w₁.setCells g k cells.toList)):Gt P main Sh Gr Stop (n+1) d O (G (b.at a (.inRegion ops (i::rest)::kk)) cs) w:=
 Gt.st (W:=λw=>w.setCells g k cells.toList) ho hw hk (λw₁ h₁=>by
  obtain⟨h2,h3⟩:=hc w₁ h₁;obtain⟨r1,r2⟩:=Qs (P:=P) hop hx hy h2 hi h1
  refine⟨r1,Kp.bZ hO _ _ _,λe he=>?_⟩;obtain⟨p,rfl,rfl⟩:=r2 e he;exact Ju hO hG h3) next
end
open Go.Conc.Lib Go.ConcX.Gen Go.RowKit
def Sd.Gr(s:Sd)(b:Nat):Prop:=b=s.Wg\/b=s.c1\/b=s.c2
def Sd.vz(s:Sd):aK:=h_ (λ_=>False) s.gs s.ts (λf=>fH.contains f=true) 16
def Sd.Sh(s:Sd)(b:Nat):Prop:=s.gs b=true\/s.ts b=true\/s.Fg b
structure Sd.H0(s:Sd)(w:ah):Prop where
 box:s.yL w
 eQ:dD s.A w
 kw:mF w
 mx:nP w
 bx:w.cell? (ar s.bl 0 J)=U s.lv
 tx:0<s.n->∃rb ro cap,s.lv=ak (U (ar rb ro J)) s.n cap/\s.gs rb=true/\∀i,i<s.n->w.cell? ⟨rb,ro+i,J⟩=U (aB (s.txt i))
 ro:∀b,s.gs b=true->∃c e,w.heap[b]?=U (ay c e (0,0))/\RL s.vz c c
 tk:∀b,s.ts b=true->s.gs b=false/\∃c e,w.heap[b]?=U (ay c e (0,0))
 g:16<=w.heap.size
 gr:∀b,s.Gr b->b<w.heap.size
 ol:∀b,s.od b->b<w.heap.size/\w.heap[b]?=s.w0.heap[b]?
 sz:s.w0.heap.size<=w.heap.size
def Sd.H(s:Sd)(w:ah):Prop:=∀w',(∀b,s.Sh b->w'.heap[b]?=w.heap[b]?)->w.heap.size<=w'.heap.size->s.H0 w'
structure Sd.qh(s:Sd):Prop where
 bl:s.gs s.bl=true
 eQ:∀g∈[2,1,0,3,4,5,12,13],s.gs g=true
 tA:∀i,i<11->s.ts (s.A i).block=true
 gl:∀x,qV.contains x=true->s.gs x=true\/s.ts x=true
 sm:∀i,i<s.n->(s.txt i).size<=9223372036854775807
section
variable {s:Sd}{w w':ah}
def Sd.H.on(h:s.H w)(k:∀b,s.Sh b->w'.heap[b]?=w.heap[b]?)(hs:w.heap.size<=w'.heap.size):s.H w':=
 λw2 k2 h2=>h w2 (λb hb=>(k2 b hb).trans (k b hb)) (bH hs h2)
def Sd.H.now(h:s.H w):s.H0 w:=h w (λ_ _=>rfl) (aR _)
def Sd.gh(s:Sd)(w:ah)(τ:Nat->Question->Nat):ah:=cd (jO w s.gs s.ts) τ
def Sd.H0.rw(h:s.H0 w):RW s.vz (jO w s.gs s.ts) w:=
 RW.ghost (λb hb=>by cases hb) h.ro h.tk h.g
def Sd.AQ{τ:Nat->Question->Nat}{a:av}(h:s.gs a.block=true):(s.gh w τ).cell? a=w.cell? a:=(Cf (.inl h):(jO w s.gs s.ts).cell? a=w.cell? a)
def Sd.H0.acj(h:s.H0 w)(f:s.qh)(τ:Nat->Question->Nat):dD s.A (s.gh w τ):=by
 have c:∀g,g∈[2,1,0,3,4,5,12,13]->(s.gh w τ).cell? ⟨g,0,J⟩=w.cell? (ar g 0 J):=λg hg=>Sd.AQ (f.eQ g hg)
 refine⟨(c _ (by simp)).trans h.eQ.c0,(c _ (by simp)).trans h.eQ.c1,(c _ (by simp)).trans h.eQ.c2,(c _ (by simp)).trans h.eQ.c3,(c _ (by simp)).trans h.eQ.c4,(c _ (by simp)).trans h.eQ.c5,λi hi=>?_,h.eQ.ne⟩;obtain⟨hn,x,e,hx⟩:=h.tk _ (f.tA i (by omega));exact⟨#[],e,Ce hx hn (f.tA i (by omega))⟩
def Sd.H0.ack(h:s.H0 w)(f:s.qh)(τ:Nat->Question->Nat):mF (s.gh w τ):=λi hi=>(Sd.AQ (f.eQ _ (by simp))).trans (h.kw i hi)
def Sd.H0.acm(h:s.H0 w)(f:s.qh)(τ:Nat->Question->Nat):nP (s.gh w τ):=h.mx.imp λ_ hm=>(Sd.AQ (f.eQ _ (by simp))).trans hm
end
abbrev Sd.rd (s:Sd) (i:Nat):(Nat×Int)×aV:=gf aM (Go.Proofs.YtjjodkjbmgnbeaaGreatDoor.bl (s.txt i))
def bA(c:aV)(sv:aj):Array aj:=#[af I c.closed,af I c.opn,af I c.cycle,af I c.bO,sv]
def Sd.R(s:Sd)(i:Nat)(y:aj)(V:ah):Prop:=∃sv ev,y=aX #[.agg (bA (s.rd i).2 sv),ev]/\iJ V sv (s.rd i).2.az/\gR s.A V ev (s.rd i).1/\jB (s.rd i).2
def eT(i:Nat)(c:aV)(sv ev:aj):Array aj:=#[af I i,af I c.closed,af I c.opn,af I c.cycle,af I c.bO,sv,ev]
def Sd.kA(s:Sd)(E:Nat->Prop):aK:=h_ E s.gs s.ts (λf=>fH.contains f=true) 16
structure Sd.Kept(s:Sd)(N i:Nat)(sv ev:aj)(E:Nat->Prop)(w:ah):Prop where
 new:∀b,E b->N<=b/\s.gs b=false/\s.ts b=false
 rs:RV (s.kA E) sv sv
 re:RV (s.kA E) ev ev
 kH:jP E s.gs s.ts (λf=>fH.contains f=true) 16 w
 at':∀w':ah,(∀a:av,E a.block\/s.gs a.block=true->w'.cell? a=w.cell? a)->iJ w' sv (s.rd i).2.az/\gR s.A w' ev (s.rd i).1
def Sd.fN(s:Sd)(i:Nat)(v:aj)(F:Nat->Prop)(w:ah):Prop:=∃sv ev E,v=.agg (eT i (s.rd i).2 sv ev)/\jB (s.rd i).2/\(∃sa l c,sv=ak sa l c)/\ev.oneCell'=true/\(∀b,E b\/s.gs b=true->F b)/\s.Kept s.w0.heap.size i sv ev E w
def Sd.Kept.on{N:Nat}{E:Nat->Prop}(h:s.Kept N i sv ev E w)(k:∀b,E b\/s.gs b=true->w'.heap[b]?=w.heap[b]?):s.Kept N i sv ev E w':=
 ⟨h.new,h.rs,h.re,h.kH.on λb hb=>k b (.inl hb),λw2 k2=>h.at' w2 λa ha=>(k2 a ha).trans (jc (k _ ha))⟩
def Sd.Ai(s:Sd)(i:Nat)(v:aj):Prop:=∃sa l c ev,v=.agg (eT i (s.rd i).2 (ak sa l c) ev)/\ev.oneCell'=true
section
variable {β:aK}{V W:ah}
def Ka{o:Nat}{fw:Option av}(h:fT β (U (ar b o J)) fw):∃b',fw=U ⟨b',o,J⟩/\β.any b b':=by
 obtain⟨⟨b',o',s'⟩,rfl,ha⟩:=h;have h1:o=o':=ha.off;have h2:J=s':=ha.spot;subst h1 h2;exact⟨b',rfl,ha.blk⟩
def Kb(r:rO β V W){b':Nat}(h:β.any b b'){x:aj}(hx:V.cell? (ar b i J)=U x):∃y,W.cell? (ar b' i J)=U y/\RV β x y:=by
 exact r.cell ⟨b,i,J⟩ ⟨b',i,J⟩ _ ⟨h,rfl,rfl⟩ hx
def bY.tr{α:Type}{enc:α->List aj}{v:aj}{xs:List α}(kF:∀(x:α) (j:Nat) (u:aj),(enc x)[j]?=U u->∀y,RV β u y->y=u)(r:rO β V W)(hv:RV β v v')(h:bY enc k V v xs):bY enc k W v' xs:=by
 obtain⟨sa,cap,rfl,h0,h2⟩:=h;obtain⟨fw,rfl,ha⟩:=gX.1 hv
 refine⟨fw,cap,rfl,h0,λhne=>?_⟩;obtain⟨b,o,rfl,h3⟩:=h2 hne;obtain⟨b',rfl,hb⟩:=Ka ha
 refine⟨b',o,rfl,λi x hx j u hu=>?_⟩;obtain⟨y,h4,h5⟩:=Kb r hb (h3 i x hx j u hu);rw[h4,kF x j u hu y h5]
def Qu(x:Int)(j:Nat)(u:aj)(h:(bc x)[j]?=U u)(y:aj)(hy:RV β u y):y=u:=by
 obtain _|j:=j<;>simp[bc]at h;subst h;exact cO.1 hy
def acn(x:ByteArray)(j:Nat)(u:aj)(h:(gg x)[j]?=U u)(y:aj)(hy:RV β u y):y=u:=by
 obtain _|j:=j<;>simp[gg]at h;subst h;exact jg.1 hy
def aco(x:Int×Int)(j:Nat)(u:aj)(h:(kU x)[j]?=U u)(y:aj)(hy:RV β u y):y=u:=by
 obtain _|_|j:=j<;>simp[kU]at h<;>subst h<;>exact cO.1 hy
def acp(x:lx)(j:Nat)(u:aj)(h:(j7 x)[j]?=U u)(y:aj)(hy:RV β u y):y=u:=by
 obtain _|_|_|_|j:=j<;>simp[j7]at h<;>subst h<;>exact cO.1 hy
def lO.tr{e:aG}{pv gv fv lv FM FN AR FO FP:aj}(r:rO β V W)(h:lO V e pv gv ev fv lv)(h1:RV β pv FM)(h2:RV β gv FN)(h3:RV β ev AR)(h4:RV β fv FO)(h5:RV β lv FP):lO W e FM FN AR FO FP:=⟨h.hp.tr acn r h1,h.hg.tr acp r h2,h.he.tr aco r h3,h.hf.tr Qu r h4,h.hl.tr Qu r h5⟩
def iJ.tr{v:aj}{es:List aG}(r:rO β V W)(hv:RV β v v')(h:iJ V v es):iJ W v' es:=by
 obtain⟨sa,cap,rfl,h2⟩:=h;obtain⟨fw,rfl,ha⟩:=gX.1 hv
 refine⟨fw,cap,rfl,λhne=>?_⟩;obtain⟨b,o,rfl,h3⟩:=h2 hne;obtain⟨b',rfl,hb⟩:=Ka ha
 refine⟨b',o,rfl,λi e he=>?_⟩;obtain⟨pv,gv,ev,fv,lv,hp,hc⟩:=h3 i e he;have c:∀j u,(uK e pv gv ev fv lv)[j]?=U u->∃y,W.cell? ⟨b',o+i*10+j,J⟩=U y/\RV β u y:=λj u hu=>Kb r hb (hc j u hu)
 obtain⟨FM,p1,p2⟩:=c 2 pv rfl;obtain⟨FN,g1,g2⟩:=c 6 gv rfl;obtain⟨AR,e1,e2⟩:=c 7 ev rfl;obtain⟨FO,f1,f2⟩:=c 8 fv rfl;obtain⟨FP,l1,l2⟩:=c 9 lv rfl
 refine⟨FM,FN,AR,FO,FP,hp.tr r p2 g2 e2 f2 l2,λj u hu=>?_⟩;have num:∀j n,(uK e pv gv ev fv lv)[j]?=U (af I n)->W.cell? ⟨b',o+i*10+j,J⟩=U (af I n):=λj n h=>by
  obtain⟨y,h1,h2⟩:=c j _ h;rw[h1,cO.1 h2]
 obtain _|_|_|_|_|_|_|_|_|_|j:=j
 ·obtain⟨y,h1,h2⟩:=c 0 (aB e.name) rfl
  cases hu;rw[h1,jg.1 h2];rfl
 all_goals first|(cases hu;first|exact p1|exact g1|exact e1|exact f1|exact l1|exact num _ _ rfl)|skip
 simp[uK]at hu
end
def gR.tr{β:aK}{A:Nat->av}{W:ah}{v:aj}{f:Nat×Int}(r:rO β V W)(hA:∀i,i<11->β.any (A i).block (A i).block)(hv:RV β v v')(h:gR A V v f):gR A W v' f:=by
 obtain⟨h1,h⟩:=h;have se:∀{u u':aj},RV β u u'->u=bF A f.1->u'=bF A f.1:=by
  rintro u u' hu rfl;obtain⟨k,a⟩:=f
  cases k with
  |zero=>exact lA.1 hu
  |succ k=>exact N_ r (hA k (by simp at h1;omega)) hu
 obtain⟨h2,h3⟩|⟨h2,b,rfl,h4,acr⟩:=h
 ·exact⟨h1,.inl ⟨h2,se hv h3⟩⟩
 obtain⟨b',e',rfl,g1,g2,g3⟩:=Oa r hv h4 acr;exact⟨h1,.inr ⟨h2,b',rfl,g1,by rw[g2,se g3 rfl]⟩⟩
def Qv{β:aK}{c:aV}{zs:Array aj}(h:RL β (bA c sv) zs):∃qi,zs=bA c qi/\RV β sv qi:=by
 have h5:zs.size=5:=h.1.symm;obtain⟨zs⟩:=zs
 match zs,h5 with
 |[a,b,d,e,f],_=>
  have i0:=cO.1 (h.2 0 _ a rfl rfl);have i1:=cO.1 (h.2 1 _ b rfl rfl);have i2:=cO.1 (h.2 2 _ d rfl rfl);have i3:=cO.1 (h.2 3 _ e rfl rfl);subst i0 i1 i2 i3;exact⟨f,rfl,h.2 4 _ f rfl rfl⟩
def Sd.acs{β':aK}{w1:ah}(f:s.qh)(hR:s.R i y V)(hv:RV β' y y')(eI:RW β' V w1)(hle:s.vz.le β')(wU:∀b b',β'.own b b'->s.w0.heap.size<=b'):∃sv ev,y'=aX #[.agg (bA (s.rd i).2 sv),ev]/\s.fN i (.agg (eT i (s.rd i).2 sv ev)) (λb=>(∃a,β'.own a b)\/s.Sh b) w1:=by
 obtain⟨sv,ev,rfl,hE,tS,qg⟩:=hR;obtain⟨ys,rfl,Kc⟩:=iW.1 hv;obtain⟨a,b,c,d,e1,rfl,ha,hb⟩:=(uU Kc).resolve_right (by simp);obtain⟨rfl,rfl⟩:Value.agg (bA (s.rd i).2 sv)=a/\ev=b:=by
  have:=iU (λx:Array aj=>x.toList) e1;simpa using this
 obtain⟨zs,rfl,hz⟩:=gH.1 ha;obtain⟨qi,rfl,ow⟩:=Qv hz;have hA:∀i,i<11->β'.any (s.A i).block (s.A i).block:=λi hi=>hle.any (.inr (.inr ⟨rfl,f.tA i hi⟩))
 have hr:∀b b',β'.ro b b'↔b=b'/\s.gs b=true:=λb b'=>by rw[<- hle.ro];rfl
 have ht:∀b b',β'.tok b b'↔b=b'/\s.ts b=true:=λb b'=>by rw[<- hle.tok];rfl
 have hf:∀f,β'.fn f->fH.contains f=true:=λf h=>by rw[<- hle.fn]at h;exact h
 have dr:=EH (β:=β') (gs:=s.gs) (ts:=s.ts) (fn:=λf=>fH.contains f=true) (g:=16) (λb b'=>(hr b b').1) λb b'=>(ht b b').1
 have e0:=gR.tr eI.N9 hA hb tS
 refine⟨qi,d,rfl,qi,d,λb=>∃a,β'.own a b,rfl,qg,?_,?_,λb hb=>hb.imp id λh=>.inl h,λb ⟨a,h⟩=>⟨wU a b h,eI.apart hr ht h⟩,RV.into dr hf ow,RV.into dr hf hb,eI.kH (λb b'=>(hr b b').1) (λb b'=>(ht b b').1) hf,λw' k=>?_⟩
 ·obtain⟨sa,cap,rfl,-⟩:=hE;obtain⟨fw,rfl,-⟩:=gX.1 ow;exact⟨_,_,_,rfl⟩
 ·obtain⟨-,⟨-,rfl⟩|⟨-,b,rfl,-⟩⟩:=e0
  ·cases (s.rd i).1.1<;>rfl
  rfl
 have r:=eI.IC (W':=w') λb a h=>k a (h.imp (λh=>⟨b,h⟩) λh=>by
  obtain⟨e,h⟩:=(hr _ _).1 h;rw[<- e];exact h)
 exact⟨hE.tr r ow,gR.tr r hA hb tS⟩
open Go.Extern Go.Extern.Stop Go.Stop
structure Qw(A:Nat->av)(w:ah)(R n:Nat)(cf:Nat->aV)(fs:Nat->Nat×Int)(sa:Nat->Option av)(sl sc:Nat->Nat)(ev:Nat->aj):Prop where
 cell:∀i,i<n->∀j u,(eT i (cf i) (ak (sa i) (sl i) (sc i)) (ev i))[j]?=U u->w.cell? ⟨R,i*7+j,J⟩=U u
 err:∀i,i<n->gR A w (ev i) (fs i)
def Kd(V:Nat)(k:Int)(e b:aj):Nat->aj->ah->Prop
 |0=>λv _=>v=ax (U (ar V 0 J))
 |1=>λv _=>v=af I k
 |2=>λv _=>v=ax (U (ar V 6 J))
 |3=>λv _=>v=e
 |4=>λv _=>v=b
 |5=>λv _=>v=a_ #[af I k,b]
 |6=>λv w=>∃p,v=ax (U (ar p 0 J))/\w.cell? (ar p 0 J)=U (af I k)/\w.cell? (ar p 1 J)=U b
 |7=>λv w=>∃p,v=.iface 88 (ax (U (ar p 0 J)))/\w.cell? (ar p 0 J)=U (af I k)/\w.cell? (ar p 1 J)=U b
 |8=>λv _=>v=ak J 0 0
 |9=>λv w=>∃p,v=.iface 88 (ax (U (ar p 0 J)))/\w.cell? (ar p 0 J)=U (af I k)/\w.cell? (ar p 1 J)=U b
 |_=>λ_ _=>True
def Qx{V:Nat}{k:Int}{e b:aj}(hb:Below w.heap.size w w'):∀j v,Kd V k e b j v w->Kd V k e b j v w':=by
 intro j v h
 match j,h with
 |0,h=>exact h
 |1,h=>exact h
 |2,h=>exact h
 |3,h=>exact h
 |4,h=>exact h
 |5,h=>exact h
 |6,⟨p,h1,h2,h3⟩=>exact⟨p,h1,aA hb h2,aA hb h3⟩
 |7,⟨p,h1,h2,h3⟩=>exact⟨p,h1,aA hb h2,aA hb h3⟩
 |8,h=>exact h
 |9,⟨p,h1,h2,h3⟩=>exact⟨p,h1,aA hb h2,aA hb h3⟩
 |n+10,h=>exact h
def qj(cf:Nat->aV)(sa:Nat->Option av)(sl sc:Nat->Nat)(n:Nat):List aj:=(List.range n).flatMap λi=>(bA (cf i) (ak (sa i) (sl i) (sc i))).toList
def acu:(prog.info? 34).map (λi=>(i.zero,i.size,i.bytes))=U (U (a_ #[af I 0,af I 0,af I 0,af I 0,ak J 0 0]),5,56):=by kernel_rfl
def Qy:(prog.info? 113).map (·.size)=U 7:=by kernel_rfl
def acv(A:Nat->av)(R n:Nat)(cf:Nat->aV)(fs:Nat->Nat×Int)(sa:Nat->Option av)(sl sc:Nat->Nat)(ev:Nat->aj)(w:ah)(hs:gZ A w)(hn:n<1000000)(h:Qw A w R n cf fs sa sl sc ev):Calls prog 27 #[ak (U (ar R 0 J)) n n] w λe w'=>Below w.heap.size w w' /\
   (((∀i,i<n->(fs i).1=0)/\∃v,e=aH (aX #[v,.nilIface])/\w'.ownsRow w.heap.size 34 5 v n (qj cf sa sl sc n)) \/
    ∃i,i<n/\(∀j,j<i->(fs j).1=0)/\(fs i).1≠0/\∃b,e=aH (aX #[ak J 0 0,.iface 88 (ax (U (ar b 0 J)))])/\w'.cell? (ar b 0 J)=U (af I i)/\w'.cell? (ar b 1 J)=U (bF A (fs i).1)):=by
 obtain⟨inf,hi,hz0,hz1,hz2⟩:=ma acu;have Qz:=λw:ah=>run_make (P:=prog) w 24 34 inf _ underlying24 hi hz0 I I 0 n (Int.le_refl _) (by omega) (by rw[hz2];omega) (by omega)
 simp only[zh,Int.toNat_zero,hz1]at Qz;go_enter func27,ntmps27
 go_wp2_with fail
 have HS:ag (gZ A w):=hs;have HA:ag (Qw A w R n cf fs sa sl sc ev):=h;have H0:ag ((w.alloc (ay (madeCells (Value.agg #[af I 0,af I 0,af I 0,af I 0,ak J 0 0]).cells (n*5)) 34)).ownsRow w.heap.size 34 5 (ak (U (ar w.heap.size 0 J)) 0 n) 0 (qj cf sa sl sc 0)/\Below w.heap.size w (w.alloc (ay (madeCells (Value.agg #[af I 0,af I 0,af I 0,af I 0,ak J 0 0]).cells (n*5)) 34))):=
  ⟨by rw[<- hz1];exact World.ownsRow_made w _ n (aR _) (by simp[maxLen];omega) (by rw[hz1];exact size_madeCells _ _),bt _ _⟩
 clear hs h Qz
 go_loopw [4,12] (λia i wr=>∃k:Nat,k<=n/\i=af I k/\ia=ak (U (ar w.heap.size 0 J)) k n/\wr.ownsRow w.heap.size 34 5 (ak (U (ar w.heap.size 0 J)) k n) k (qj cf sa sl sc k)/\(∀j,j<k->(fs j).1=0)/\Below w.heap.size w wr) (λ_ i _=>n-(intOf i).toNat)
 case atStart=>exact⟨0,cG _,rfl,rfl,H0.o.1,λj hj=>absurd hj (im _),H0.o.2⟩
 case round=>
  obtain⟨k,hk,rfl,rfl,hown,hall,hbl⟩:=hrel
  by_cases hlt:k<n
  ·have cell:∀j u,(eT k (cf k) (ak (sa k) (sl k) (sc k)) (ev k))[j]?=U u->wr.cell? ⟨R,k*7+j,J⟩=U u:=λj u hu=>aA hbl (HA.o.cell k hlt j u hu)
   have c0:wr.cell? ⟨R,k*7,J⟩=U (af I k):=cell 0 _ rfl;have c1:wr.cell? ⟨R,k*7+1,J⟩=U (af I (cf k).closed):=cell 1 _ rfl;have c2:wr.cell? ⟨R,k*7+2,J⟩=U (af I (cf k).opn):=cell 2 _ rfl;have c3:wr.cell? ⟨R,k*7+3,J⟩=U (af I (cf k).cycle):=cell 3 _ rfl;have c4:wr.cell? ⟨R,k*7+4,J⟩=U (af I (cf k).bO):=cell 4 _ rfl;have c5:wr.cell? ⟨R,k*7+5,J⟩=U (ak (sa k) (sl k) (sc k)):=cell 5 _ rfl;have c6:wr.cell? ⟨R,k*7+6,J⟩=U (ev k):=cell 6 _ rfl;have AU:=(HA.o.err k hlt).below hbl;have k1:(k:Int)<(n:Int):=by omega
   have k0:k<1000000:=by omega
   have aZ:ag (wr.ownsRow w.heap.size 34 5 (ak (U (ar w.heap.size 0 J)) k n) k (qj cf sa sl sc k)):=hown;change ag _ at hall hbl
   clear cell hown
   by_cases he:(fs k).1=0
   ·have e6:ev k=.nilIface:=by
     obtain⟨-,⟨-,e⟩|⟨e,-⟩⟩:=AU
     ·rw[e,he];rfl
     omega
    rw[e6]at c6;clear AU;change ag _ at he e6
    have hrow:=dT wr (ay #[af I 0,af I 0,af I 0,af I 0,af I 0,ak J 0 0,.nilIface] 113 (0,0));go_wp2_with (first|(refine gm rfl 113 _ _ rfl _ _ rfl rfl 113 _ hrow Qy rfl (by simp[Value.oneCell']) ?_;obtain⟨W5,nT⟩:∃V,V=(wr.alloc (ay #[af I 0,af I 0,af I 0,af I 0,af I 0,ak J 0 0,.nilIface] 113 (0,0))).setRow wr.heap.size #[af I k,af I (cf k).closed,af I (cf k).opn,af I (cf k).cycle,af I (cf k).bO,ak (sa k) (sl k) (sc k),.nilIface]:=⟨_,rfl⟩;rw[<- nT];have lG:W5.heap[wr.heap.size]?=U (ay #[af I k,af I (cf k).closed,af I (cf k).opn,af I (cf k).cycle,af I (cf k).bO,ak (sa k) (sl k) (sc k),.nilIface] 113 (0,0)):=(by rw[nT];exact jf _ hrow);have lq:ag (Below wr.heap.size wr W5):=(by show Below _ _ _;rw[nT];exact(bt _ _).grown (pL ..) (by simp) (λj hj=>by cases hj;omega));have s6:W5.cell? (ar wr.heap.size 6 J)=U .nilIface:=(by simp[aL,lG]);have s1:W5.cell? (ar wr.heap.size 1 J)=U (af I (cf k).closed):=(by simp[aL,lG]);have s2:W5.cell? (ar wr.heap.size 2 J)=U (af I (cf k).opn):=(by simp[aL,lG]);have s3:W5.cell? (ar wr.heap.size 3 J)=U (af I (cf k).cycle):=(by simp[aL,lG]);have s4:W5.cell? (ar wr.heap.size 4 J)=U (af I (cf k).bO):=(by simp[aL,lG]);have s5:W5.cell? (ar wr.heap.size 5 J)=U (ak (sa k) (sl k) (sc k)):=(by simp[aL,lG]);have fD:ag (∀o,(W5.alloc o).ownsRow w.heap.size 34 5 (ak (U (ar w.heap.size 0 J)) k n) k (qj cf sa sl sc k)):=(λo=>by have hb:=lq.o.alloc lq.o.size o;exact aZ.o.kept (row:=J) ⟨hb.os,hb.tape,hb.output,hb.size,λk hk _=>hb.block k hk⟩ (by simp[mC]));clear hrow lG;change ag _ at nT)|(at_builtin;refine wpList_append_own_spare _ rfl _ _ 24 rfl w.heap.size 34 inf 5 underlying24 hi hz1 w.heap.size k n (qj cf sa sl sc k) rfl (fD.o _) ⟨W5.heap.size,0,J⟩ 1 1 [af I (cf k).closed,af I (cf k).opn,af I (cf k).cycle,af I (cf k).bO,ak (sa k) (sl k) (sc k)] rfl rfl (λj u hu=>by rw[oM,pH,fE _ _ _ _ rfl];rw[<- oI];exact hu) (by simp[Value.oneCell']) (by omega) ?_;intro W6 acw C5))
    have QA:=lq.o.alloc lq.o.size (ay #[af I (cf k).closed,af I (cf k).opn,af I (cf k).cycle,af I (cf k).bO,ak (sa k) (sl k) (sc k)] 34 (0,0))
    refine⟨⟨k+1,by omega,by simp,rfl,?_,λj hj=>?_,?_⟩,by simp[intOf];omega⟩
    ·have e:qj cf sa sl sc (k+1)=qj cf sa sl sc k++[af I (cf k).closed,af I (cf k).opn,af I (cf k).cycle,af I (cf k).bO,ak (sa k) (sl k) (sc k)]:=by simp[qj,List.range_succ,bA]
     rw[e];exact acw
    ·rcases BW.1 hj with hj|rfl
     ·exact hall.o j hj
     exact he.o
    exact(hbl.o.trans (QA.mono hbl.o.size)).grown C5 (bH hbl.o.size QA.size) (λg hg=>by cases hg;omega)
   obtain⟨ty,pv,e6⟩:∃ty pv,ev k=.iface ty pv:=by
    obtain⟨-,⟨-,e⟩|⟨-,b,e,-⟩⟩:=id AU
    ·obtain⟨j,hj⟩:∃j,(fs k).1=j+1:=⟨(fs k).1-1,by omega⟩;rw[hj]at e;exact⟨_,_,e⟩
    exact⟨_,_,e⟩
   rw[e6]at c6 AU;have HE:ag (gR A wr (.iface ty pv) (fs k)):=AU;clear AU;change ag _ at he e6
   have hrow:=dT wr (ay #[af I 0,af I 0,af I 0,af I 0,af I 0,ak J 0 0,.nilIface] 113 (0,0));go_wp2_with (first|(refine gm rfl 113 _ _ rfl _ _ rfl rfl 113 _ hrow Qy rfl (by simp[Value.oneCell']) ?_;obtain⟨W5,nT⟩:∃V,V=(wr.alloc (ay #[af I 0,af I 0,af I 0,af I 0,af I 0,ak J 0 0,.nilIface] 113 (0,0))).setRow wr.heap.size #[af I k,af I (cf k).closed,af I (cf k).opn,af I (cf k).cycle,af I (cf k).bO,ak (sa k) (sl k) (sc k),.iface ty pv]:=⟨_,rfl⟩;rw[<- nT];have lG:W5.heap[wr.heap.size]?=U (ay #[af I k,af I (cf k).closed,af I (cf k).opn,af I (cf k).cycle,af I (cf k).bO,ak (sa k) (sl k) (sc k),.iface ty pv] 113 (0,0)):=(by rw[nT];exact jf _ hrow);have lq:ag (Below wr.heap.size wr W5):=(by show Below _ _ _;rw[nT];exact(bt _ _).grown (pL ..) (by simp) (λj hj=>by cases hj;omega));have s6:W5.cell? (ar wr.heap.size 6 J)=U (.iface ty pv):=(by simp[aL,lG]);have s0:W5.cell? (ar wr.heap.size 0 J)=U (af I k):=(by simp[aL,lG]);have s1:W5.cell? (ar wr.heap.size 1 J)=U (af I (cf k).closed):=(by simp[aL,lG]);have s2:W5.cell? (ar wr.heap.size 2 J)=U (af I (cf k).opn):=(by simp[aL,lG]);have s3:W5.cell? (ar wr.heap.size 3 J)=U (af I (cf k).cycle):=(by simp[aL,lG]);have s4:W5.cell? (ar wr.heap.size 4 J)=U (af I (cf k).bO):=(by simp[aL,lG]);have s5:W5.cell? (ar wr.heap.size 5 J)=U (ak (sa k) (sl k) (sc k)):=(by simp[aL,lG]);have fD:ag (∀o,(W5.alloc o).ownsRow w.heap.size 34 5 (ak (U (ar w.heap.size 0 J)) k n) k (qj cf sa sl sc k)):=(λo=>by have hb:=lq.o.alloc lq.o.size o;exact aZ.o.kept (row:=J) ⟨hb.os,hb.tape,hb.output,hb.size,λk hk _=>hb.block k hk⟩ (by simp[mC]));clear hrow lG;change ag _ at nT))
   have ox:ag (Below w.heap.size w W5):=hbl.o.trans (lq.o.mono hbl.o.size);have acx:ag (gR A W5 (.iface ty pv) (fs k)):=HE.o.below lq.o;have acy:ag (gZ A W5):=HS.o.below ox.o
   refine zR 10 rfl (Kd wr.heap.size k (.iface ty pv) (bF A (fs k).1)) (λV=>Below W5.heap.size W5 V) (by kernel_rfl) (by kernel_rfl) (aC _ _).drew ?_ ?_
   ·refine zS ⟨?_,?_,?_,?_,?_,?_,?_,?_,?_,?_,trivial⟩
    all_goals
     refine uL.free rfl ?_;intro a V hC aY bj
    ·have x6:a.tmps[6]?.getD _=ax _:=dz (bj 6 (nB (by kernel_rfl)));exact goodRun.val (c:=ax _) (by clear aY bj;go_simp) hC rfl
    ·have cK:a.tmps[19]?.getD _=ax _:=dz (aY _ 19 (bU (i:=0) rfl) rfl rfl);have d0:V.cell? _=U (af I k):=aA hC s0;exact goodRun.val (c:=af I _) (by clear aY bj;go_simp) hC rfl
    ·have x6:a.tmps[6]?.getD _=ax _:=dz (bj 6 (nB (by kernel_rfl)));exact goodRun.val (c:=ax _) (by clear aY bj;go_simp) hC rfl
    ·have dc:a.tmps[21]?.getD _=ax _:=dz (aY _ 21 (bU (i:=0) rfl) rfl rfl);have d6:V.cell? _=U (.iface ty pv):=aA hC s6;exact goodRun.val (c:=.iface _ _) (by clear aY bj;go_simp) hC rfl
    ·have eh:a.tmps[22]?.getD _=.iface _ _:=dz (aY _ 22 (bU (i:=0) rfl) rfl rfl)
     refine goodRun.call (f:=58) (args:=#[.iface ty pv]) (by clear aY bj;go_simp) ?_
     apply(V0 A V (acy.o.below hC) (acx.o.below hC) he.o).mono;rintro v V' ⟨rfl,hb'⟩;exact⟨_,rfl,hC.trans (hb'.mono hC.size),Qx hb',rfl⟩
    ·have cS:a.tmps[20]?.getD _=af I _:=dz (aY _ 20 (bU (i:=0) rfl) rfl rfl);have eH:a.tmps[23]?.getD _=bF A (fs k).1:=dz (aY _ 23 (bU (i:=1) rfl) rfl rfl);obtain⟨j,hj⟩:=FK he.o;rw[hj]at eH⊢;simp only[bF]at eH⊢;exact goodRun.val (c:=.agg _) (by clear aY bj;go_simp) hC rfl
    ·have i6:a.tmps[24]?.getD undef=a_ #[af I k,bF A (fs k).1]:=dz (aY _ 24 (bU (i:=0) rfl) rfl rfl);obtain⟨j,hj⟩:=FK he.o;rw[hj]at i6⊢;simp only[bF]at i6⊢;exact goodRun.made (c:=ax (U (ar V.heap.size 0 J))) (w':=V.alloc (ay #[af I k,.iface 238 (ax (U (A j)))] 92 (0,0))) (by clear aY bj;go_simp) (hC.alloc hC.size _) (Qx (bt _ _)) ⟨_,rfl,by simp,by simp⟩
    ·obtain⟨p,hv,h1,h2⟩:=aY _ 25 (bU (i:=0) rfl) rfl rfl;have iN:=dz hv;exact goodRun.val (c:=.iface _ _) (by clear aY bj hv h1 h2;go_simp) hC ⟨p,rfl,h1,h2⟩
    ·exact goodRun.val (c:=ak J 0 0) (by clear aY bj;go_simp) hC rfl
    obtain⟨p,hv,h1,h2⟩:=aY _ 26 (bU (i:=0) rfl) rfl rfl;have iE:=dz hv;exact goodRun.val (c:=.iface _ _) (by clear aY bj hv h1 h2;go_simp) hC ⟨p,rfl,h1,h2⟩
   intro vals V hC Ke;obtain⟨p,hv,h1,h2⟩:=Ke 9 (aD rfl);have h8:vals 8=ak J 0 0:=Ke 8 (aD rfl);have acz:ag _:=hC;have QB:ag (V.cell? (ar p 0 J)=U (af I k)/\V.cell? (ar p 1 J)=U (bF A (fs k).1)):=⟨h1,h2⟩;clear Ke hC h1 h2;simp only[fill,er];go_simp
   go_wp2_with fail
   go_ret2
   exact⟨ox.o.trans (acz.o.mono ox.o.size),.inr ⟨k,hlt,hall.o,he.o,p,rfl,QB.o.1,QB.o.2⟩⟩
  have k1:¬(k:Int)<(n:Int):=by omega
  obtain rfl:k=n:=by omega
  have HO:ag (wr.ownsRow w.heap.size 34 5 (ak (U (ar w.heap.size 0 J)) k k) k (qj cf sa sl sc k)):=hown;change ag _ at hall hbl
  clear hown;go_wp2;go_ret2
  exact⟨hbl.o,.inl ⟨hall.o,ak (U (ar w.heap.size 0 J)) k k,rfl,HO.o⟩⟩
def AV(f:Func):Array Oper:=match (tW f)with|.seq _ (.block _ (.seq _ (.seq (.region _ ops _) _)))=>ops|_=>#[]
def FQ(f:Func):Code:=match (tW f)with|.seq _ (.block _ (.seq _ (.seq _ c)))=>c|_=>.skip
def Sd.uH(s:Sd)(f:Func)(i:Nat)(x3 x4 x5 x7 x8 bN cI cJ bP cK cS dc eh eH:aj):Frame:=(base 24).at ⟨#[.chan (U s.c1),.chan (U s.c2),s.ia,x3,x4,x5,af I i,x7,x8,.chan (U s.c1),aX #[af I i,aJ true],aJ true,af I i,bN,s.ia,af I i,cI,cJ,bP,cK,cS,dc,eh,eH],[]⟩ (.inRegion (AV f) [2,3,4,5,6,7,8]::.code (FQ f)::.inBlock 1::(kW f))
def acA(i:Nat)(c:aV)(sv ev:aj)(w:ah)(h0:sv.oneCell'=true)(h1:ev.oneCell'=true):(Instr.build 113 #[(0,af I i),(1,.agg (bA c sv)),(2,ev)]).run prog w=.ok (.agg (eT i c sv ev)) w/\(Instr.build 113 #[(0,af I i),(1,.agg (bA c sv)),(2,ev)]).events prog w #[]=#[]:=by
 cases sv<;>first|(simp[Value.oneCell']at h0;done)|(cases ev<;>first|(simp[Value.oneCell']at h1;done)|exact⟨by kernel_rfl,by kernel_rfl⟩)
def Sd.acB(s:Sd){Sh Gr:Nat->Prop}(i:Nat)(c:aV)(sa:Option av)(l cp:Nat)(ev:aj)(h1:ev.oneCell'=true)(x3 x4 x5 x7 x8 bN cI cJ bP cK cS dc eh eH:aj)(w:ah)(hG:∀b,Gr b->b<w.heap.size):Gt prog false Sh Gr (λ_ g _=>s.iL (.agg (eT i c (.slice sa l cp) ev)) g) 100 0 (λ_=>False) (G ((s.uH f24 i x3 x4 x5 x7 x8 bN cI cJ bP cK cS dc eh eH).finish (.tuple #[.agg (bA c (.slice sa l cp)),ev])) [(s.lit f22),(bot prog)]) w:=by
 obtain⟨N0,AW⟩:∃N,N=w.heap.size:=⟨_,rfl⟩;have hF:N0<=w.heap.size:=uX AW;have hG:∀b,Gr b->b<N0:=λb hb=>by rw[AW];exact hG b hb
 clear AW;have rl:∀{O Sh:Nat->Prop} {w w₁:ah},N0<=w.heap.size->Rl O Sh w w₁->N0<=w₁.heap.size:=λh r=>bH h r.size
 unfold Sd.uH;rw[Frame.finish_at];simp only[AV,FQ,tW,kW,lW,cW,f24,bC];walk_nrm
 refine Gt.q (n:=20) (m:=80) (λ_ _ h=>h) ?_;u_op rl hF
 u_op rl hF
 u_op rl hF
 refine Goes.stop λw₁ h₁=>?_
 replace hF:=rl hF h₁
 clear h₁
 refine Gt.al (n:=79) (ob:=.cells #[.int .i64 0,.int .i64 0,.int .i64 0,.int .i64 0,.slice J 0 0] 34) (v:=λN=>.pointer (U (ar N 0 J))) rfl rfl (by k_ne) (λw₂ h₂=>⟨?_,?_⟩) λw₂ h₂=>?_
 ·simp[execOp,go_sem]
 ·intro e he;simp[execOp,go_sem]at he
 replace hF:=rl hF h₂
 walk_nrm
 obtain⟨N,hN⟩:∃N,N=w₂.heap.size:=⟨_,rfl⟩;have FR:¬Gr N:=λh=>by have:=hG N h;omega
 have hrow:(w₂.alloc (.cells #[.int .i64 0,.int .i64 0,.int .i64 0,.int .i64 0,.slice J 0 0] 34)).heap[N]?=U (.cells #[.int .i64 0,.int .i64 0,.int .i64 0,.int .i64 0,.slice J 0 0] 34 (0,0)):=by rw[hN];exact dT _ _
 rw[<- hN];generalize w₂.alloc _=W at hrow;clear hF h₂ hN hG w₁;have ht:=sg hrow (n:=5) 0 (by simp);have hlt:∀{w':ah},w'.there N 0 5->N<w'.heap.size:=λh=>by
  have:=(h 0 (by omega)).1;simp only[aL]at this
  cases e:(‹ah›).heap[N]? with
  |none=>simp[e]at this
  |some o=>exact(bD.1 e).1
 refine Gt.J_ (n:=78) (g:=N) (k:=0) (x:=.tmp 7) (y:=.tmp 17) (cells:=bA c (.slice sa l cp)) rfl rfl (by k_ne) rfl rfl rfl (by kernel_rfl) (by simp[bA,Value.oneCell']) (.inr rfl) FR (λw₃ h₃=>⟨vw ht (h₃.blk N (.inl (.inr rfl))),hlt (vw ht (h₃.blk N (.inl (.inr rfl))))⟩) λw₃ h₃=>?_
 have zj:=vw ht (h₃.blk N (.inl (.inr rfl)));have zk:=C3 w₃ N 0 (bA c (.slice sa l cp)).toList zj;have hl4:N<(w₃.setCells N 0 (bA c (.slice sa l cp)).toList).heap.size:=by rw[(Kp.bZ (O:=λ_=>True) (g:=N) trivial _ 0 w₃).size];exact hlt zj
 generalize w₃.setCells N 0 (bA c (.slice sa l cp)).toList=W4 at zk hl4;clear h₃ zj ht hrow w₃ W;walk_nrm
 have hF:W4.rangeAt N 0 (bA c (.slice sa l cp)).toList/\N<W4.heap.size:=⟨zk,hl4⟩;have rl:∀{w w₁:ah},(w.rangeAt N 0 (bA c (.slice sa l cp)).toList/\N<w.heap.size)->Rl (λb=>False\/b=N) Sh w w₁->(w₁.rangeAt N 0 (bA c (.slice sa l cp)).toList/\N<w₁.heap.size):=λh r=>⟨tU h.1 (r.blk N (.inl (.inr rfl))),dK h.2 r.size⟩
 clear zk hl4
 refine Gt.q (n:=20) (m:=58) (λ_ _ h=>h) ?_;u_op rl hF
 u_c stepG_region_end rl hF
 u_reg rl hF
 u_op rl hF
 u_op rl hF
 refine Goes.stop λw₁ h₁=>?_
 replace hF:=rl hF h₁
 clear h₁
 refine Gt.Qt (n:=57) (g:=N) (k:=0) (x:=.tmp 7) (xs:=(bA c (.slice sa l cp)).toList) rfl rfl (by k_ne) rfl rfl underlying34 rfl (by kernel_rfl) (λw₃ h₃=>⟨(rl hF h₃).1,.inl ⟨.inr rfl,FR,(rl hF h₃).2⟩⟩) ?_;walk_nrm
 refine Gt.q (n:=20) (m:=37) (λ_ _ h=>h) ?_;u_op rl hF
 refine Goes.stop λw₁ h₁=>?_
 replace hF:=rl hF h₁
 clear h₁
 refine Gt.ld (n:=36) (v:=.agg (eT i c (.slice sa l cp) ev)) rfl rfl (by k_ne) (λw₃ h₃=>?_) ?_
 ·have e:=acA i c (.slice sa l cp) ev w₃ rfl h1
  refine⟨?_,?_⟩
  ·unfold execOp;simp[e.1,Act.eval,Result.andThen]
  unfold execOp;simp[e.2,Act.eval]
 walk_nrm
 refine Gt.stop λw₂ h₂=>?_
 refine⟨x3,x4,x5,.int .i64 i,.pointer (U (ar N 0 J)),ev,.tuple #[.int .i64 i,.bool true],.bool true,.int .i64 i,.tuple #[.agg (bA c (.slice sa l cp)),ev],s.ia,.int .i64 i,.tuple #[.agg (bA c (.slice sa l cp)),ev],.agg (bA c (.slice sa l cp)),ev,.int .i64 i,.agg (bA c (.slice sa l cp)),ev,?_⟩;simp only[Jx,tW,kW,lW,cW,f24,bC]
def Sd.QC(s:Sd):s.ia=.func (.func 12) #[] #[ax (U (ar s.bl 0 J))]:=rfl
def Sd.acC(s:Sd)(f:s.qh)(i:Nat)(hi:i<s.n)(O:Nat->Prop)(x3 x4 x5 x7 x8 bN cI cJ bP cK cS dc eh eH:aj)(w:ah)(hw:s.H w):∃x,pX prog s.Sh s.Gr s.fN s.iL i x O (G (Frame.enter prog 12 #[.int .i64 i,.pointer (U (ar s.bl 0 J))] .normal) (s.uH f24 i x3 x4 x5 x7 x8 bN cI cJ bP cK cS dc eh eH::[(s.lit f22),(bot prog)])) w:=by
 have h0:=hw.now;obtain⟨rb,ro,cap,hlv,iZ,zl⟩:=h0.tx (by omega);have tI:Cx prog fH qV s.vz:=J9 rfl (by kernel_rfl) λx hx=>(f.gl x hx).elim (λh=>.inr (.inl ⟨rfl,h⟩)) λh=>.inr (.inr ⟨rfl,h⟩)
 have yl:∀b b',s.vz.ro b b'\/s.vz.tok b b'->s.Sh b':=λb b' hb=>hb.elim (λh=>.inl (h.1▸h.2)) λh=>.inr (.inl (h.1▸h.2))
 have hbl:RV s.vz (.pointer (U (ar s.bl 0 J))) (.pointer (U (ar s.bl 0 J))):=rN ⟨.inr (.inl ⟨rfl,f.bl⟩),rfl,rfl⟩;have hC:∀τ,Calls prog 12 #[.int .i64 i,.pointer (U (ar s.bl 0 J))] (cd (jO w s.gs s.ts) τ) λe v'=>∃y,e=.returned y/\s.R i y v':=λτ=>by
  have hb:(s.gh w τ).cell? ⟨s.bl,0,J⟩=U (.slice (U (ar rb ro J)) s.n cap):=(Sd.AQ f.bl).trans (h0.bx.trans (by rw[hlv]));have ht:(s.gh w τ).cell? ⟨rb,ro+i,J⟩=U (.string (s.txt i)):=(Sd.AQ iZ).trans (zl i hi)
  apply(aaY s.A (s.txt i) s.bl rb ro s.n cap i (s.gh w τ) (h0.acj f τ) (h0.ack f τ) (h0.acm f τ) (f.sm i hi) hb hi ht).mono;rintro e v' ⟨c,sv,ev,rfl,rfl,hE,tS,qg⟩;exact⟨_,rfl,sv,ev,rfl,hE,tS,qg⟩
 have DU:=lV.begin (R:=s.R i) (rest:=s.uH f24 i x3 x4 x5 x7 x8 bN cI cJ bP cK cS dc eh eH::[(s.lit f22),(bot prog)]) tI rfl (show fH.contains 12=true from aD rfl) ⟨f12,_,func12,rfl⟩ ((bh.one (cO.2 rfl)).push hbl) h0.rw hC
 refine⟨_,⟨NZ DU.good,_,_,_,_,_,_,_,DU,λb b' hb=>absurd hb.2 id,yl,λβ' y y' V w1 hR hv eI hle hs wU=>?_⟩⟩;obtain⟨sv,ev,rfl,hres⟩:=Sd.acs f hR hv eI hle λb b' hb=>bH h0.sz ((wU b b' hb).elim (λh=>absurd h.2 id) id)
 obtain⟨qi,AR,_,QD,_,⟨sa,l,cp,rfl⟩,h1,_⟩:=id hres;obtain⟨rfl,rfl⟩:sv=.slice sa l cp/\ev=AR:=by
  simp only[eT,Value.agg.injEq]at QD;have:=iU (λx:Array aj=>(x[5]?,x[6]?)) QD;simpa using this
 exact⟨_,_,100,hres,λb hb=>hb,s.acB i _ sa l cp ev h1 x3 x4 x5 x7 x8 bN cI cJ bP cK cS dc eh eH w1 λb hb=>dK (h0.gr b hb) hs⟩
def Sd.EM(s:Sd)(f:s.qh){O:Nat->Prop}(i:Nat)(hi:i<s.n)(g:Goroutine)(w:ah)(h:s.Recv g)(hw:s.H w):Gt prog false s.Sh s.Gr (λO g w=>∃x,pX prog s.Sh s.Gr s.fN s.iL i x O g w) 40 0 O (Go.Conc.served g (.tuple #[.int .i64 i,.bool true])) w:=by
 obtain⟨x3,x4,x5,x6,x7,x8,iB,dV,cr,bN,cu,cD,cI,cJ,bP,cK,cS,dc,eh,eH,rfl⟩:=h;rw[served_G];have hF:s.H w:=hw;have rl:∀{w w₁:ah},s.H w->Rl O s.Sh w w₁->s.H w₁:=λh r=>h.on (λb hb=>r.blk b (.inr hb)) r.size
 simp only[CK,tW,kW,lW,cW,f24,bC];walk_nrm
 refine Gt.q (n:=20) (m:=20) (λ_ _ h=>h) ?_;u_op rl hF
 u_c stepG_region_end rl hF
 u_c stepG_seq rl hF
 u_cond true rl hF
 u_c stepG_skip rl hF
 u_c stepG_block rl hF
 u_c stepG_seq rl hF
 u_reg rl hF
 u_op rl hF
 u_op rl hF
 u_c stepG_region_end rl hF
 u_c stepG_seq rl hF
 u_reg rl hF
 u_op rl hF
 u_op rl hF
 refine Goes.stop λw₁ h₁=>?_
 replace hF:=rl hF h₁
 clear h₁
 refine Gt.step rfl λw₂ h₂=>?_
 replace hF:=rl hF h₂
 clear h₂;have hrun:(execOp (Act.eval ⟨#[.chan (U s.c1),.chan (U s.c2),s.ia,x3,x4,x5,.int .i64 i,x7,x8,.chan (U s.c1),.tuple #[.int .i64 i,.bool true],.bool true,.int .i64 i,bN,s.ia,.int .i64 i,cI,cJ,bP,cK,cS,dc,eh,eH],[]⟩) ((AV f24).getD 2 default)).run prog w₂=.ok (.enter 12 #[.int .i64 i,.pointer (U (ar s.bl 0 J))]) w₂:=by
  rw[s.QC];kernel_rfl
 have cP:listed prog 24 ⟨#[.chan (U s.c1),.chan (U s.c2),s.ia,x3,x4,x5,.int .i64 i,x7,x8,.chan (U s.c1),.tuple #[.int .i64 i,.bool true],.bool true,.int .i64 i,bN,s.ia,.int .i64 i,cI,cJ,bP,cK,cS,dc,eh,eH],[]⟩ ((AV f24).getD 2 default) w₂=#[]:=by
  rw[s.QC];kernel_rfl
 obtain⟨x,hJ⟩:=s.acC f i hi (λb=>O b\/(w₂.heap.size<=b/\b<w₂.heap.size)) x3 x4 x5 x7 x8 bN cI cJ bP cK cS dc eh eH w₂ hF;have st:=stepG_enter (main:=false) (P:=prog) (b:=base 24) (k:=.code (FQ f24)::.inBlock 1::(kW f24)) (cs:=[(s.lit f22),(bot prog)]) (ops:=(AV f24)) (i:=2) (todo:=[3,4,5,6,7,8]) (by kernel_rfl) (by kernel_rfl) (by k_ne) hrun;have acD:listed prog (base 24).fn _ _ _=_:=cP;rw[acD]at st
 refine⟨_,w₂,#[],?_,.idle ..,Gt.stop λw₃ h₃=>⟨x,hJ.rely h₃⟩⟩;simp only[Sd.uH];simp only[AV,FQ,tW,kW,lW,cW,f24,bC]at st⊢;exact st
open Go.ConcN Go.ConcN.Gen Go.ConcR.Gen
open Go.ConcR (KK wgBlock WgAt stA smA rd wr mk Payload DC0)
section
variable {L:WgLink}{P:Program}{main:Bool}{b:Frame}{a:Act}{kk:List Item}{cs:List Frame}{ops:Array Oper}{i:Nat}{rest:List Nat}{o:Oper}{w:ah}{Wg:Nat}{O Sh Gr:Nat->Prop}{Stop:(Nat->Prop)->Goroutine->ah->Prop}{m:Nat}
def acE{f:FuncId}{fn:Func}{c:Code}{args:Array Operand}{ats:Array TypeId}
  (ho:ops[i]?=U o) (hw:Region.wanted o (yielded ops a.tmps)=true) (hk:b.kind≠.early) (hop:o.op=.call { callee:=.value (.func f),args,argTypes:=ats })
  (hf:P.funcs[f]?=U fn) (hname:(fn.name == "runtime.NumGoroutine")=false) (hb:fn.body=U c):stepG P main (G (b.at a (.inRegion ops (i::rest)::kk)) cs) w=.go (G ((base f).at { tmps:=args.map a.eval++Array.replicate (fn.ntmps-(args.map a.eval).size) undef,defers:=[] } [.code c]) (b.at a (.inRegion ops (i::rest)::kk)::cs)) w #[]:=by
 have hb':fn.body.isNone=false:=by rw[hb];rfl
 rw[Go.Conc.stepG_enter ho hw hk (run_call_body hop hf hname hb'),enter_at _ hf hb];have:listed P b.fn a o w=#[]:=by unfold listed;rw[events_call_body hop hf hname hb'];exact seen_none P _
 rw[this]
def QE(ho:ops[i]?=U o):(ops[i]?).bind (·.dst)=o.dst:=by rw[ho];rfl
def Gt.acF(H:WgLib P L){v:Nat}{x y:Operand}{ats:Array TypeId}(hO:O Wg)(hG:Gr Wg)(hv:v<2147483647)(pZ:WgAt L.tWg Wg w (v*KK) 0)
  (ho:ops[i]?=U o) (hw:Region.wanted o (yielded ops a.tmps)=true) (hk:b.kind≠.early) (hop:o.op=.call { callee:=.value (.func L.add),args:=#[x,y],argTypes:=ats }) (hx:a.eval x=ax (U (ar Wg 0 J))) (hy:a.eval y=af I 1)
  (k:∀w',Rl (λb=>O b/\b≠Wg) (λb=>Sh b/\b≠Wg) w w'->WgAt L.tWg Wg w' ((v+1:Int)*KK) 0->Gt P true Sh Gr Stop m 0 O (G (b.at (a.put o.dst (aX #[])) (.inRegion ops rest::kk)) cs) w'):Gt P true Sh Gr Stop (m+1005) 0 O (G (b.at a (.inRegion ops (i::rest)::kk)) cs) w:=by
 refine Gt.ctl (n:=m+1004) rfl (λw=>acE ho hw hk hop H.f_add (Go.ConcR.Gen.nm_add L) (show (addFn L).body=U (Go.ConcR.Gen.body_add L)from rfl)) ?_
 refine Gt.add (ty:=L.tWg) hO hG hv pZ (λw hw=>?_) k;have h:=Zx (main:=true) (b₀:=b) (a₀:=a) (ops₀:=ops) (i₀:=i) (rest₀:=rest) (k₀:=kk) (cs:=cs) H w hw;rw[QE ho]at h;have e:(#[x,y].map a.eval++Array.replicate ((addFn L).ntmps-(#[x,y].map a.eval).size) undef)=(Value.pointer (U (ar Wg 0 J))::af I 1::List.replicate 115 undef).toArray:=by
  simp only[List.map_toArray,wz,List.map_nil,hx,hy];kernel_rfl
 rw[e];exact h
end
open Go.ConcN (WgLive)
open Go.ConcR (KK WgAt stA smA rd wr mk DC0)
def cE(f:Func):Code:=f.body.getD .skip
def lE(f:Func):Code:=match (cE f)with|.seq _ (.seq _ (.seq _ (.seq (.seq _ (.block _ (.loop c))) _)))=>c|_=>.skip
def tE(f:Func):Code:=match (cE f)with|.seq _ (.seq _ (.seq _ (.seq _ c)))=>c|_=>.skip
def zm(f:Func):Array Oper:=match (lE f)with|.seq _ (.seq _ (.seq (.block _ (.seq _ (.region _ ops _))) _))=>ops|_=>#[]
def C6(f:Func):Code:=match (lE f)with|.seq _ (.seq _ (.seq _ c))=>c|_=>.skip
def Kf(f:Func):Array Oper:=match (tE f)with|.seq (.region _ ops _) _=>ops|_=>#[]
def si(f:Func):Code:=match (tE f)with|.seq _ c=>c|_=>.skip
def C7(f:Func):Array Oper:=match (si f)with|.seq (.region _ ops _) _=>ops|_=>#[]
def tV(f:Func):Code:=match (si f)with|.seq _ c=>c|_=>.skip
def vA(f:Func):Array Oper:=match (tV f)with|.seq (.region _ ops _) _=>ops|_=>#[]
def xo(f:Func):Code:=match (tV f)with|.seq _ c=>c|_=>.skip
def cC(f:Func):Code:=f.body.getD .skip
def lC(f:Func):Code:=match (cC f)with|.seq _ (.seq _ (.seq _ (.seq (.seq _ (.block _ (.loop c))) _)))=>c|_=>.skip
def tC(f:Func):Code:=match (cC f)with|.seq _ (.seq _ (.seq _ (.seq _ c)))=>c|_=>.skip
def AX(f:Func):Array Oper:=match (lC f)with|.seq _ (.block _ (.seq _ (.seq _ (.seq (.region _ ops _) _))))=>ops|_=>#[]
def C8(f:Func):Code:=match (lC f)with|.seq _ (.block _ (.seq _ (.seq _ (.seq _ c))))=>c|_=>.skip
abbrev jW:FuncId:=11
def Sd.xq(s:Sd):aj:=.func (.func 22) #[] #[Sd.ptr s.Wg,Sd.ptr s.bn,Sd.ptr s.bd,Sd.ptr s.ba]
def Sd.Head(s:Sd)(cs:List Frame)(j:Nat)(g:Goroutine):Prop:=∃x1 x3 x4 dV cr bN cu cD bP cK cS dc eh eH i6 iN iE fP fo eY eo ep:aj,
 g=G ((base jW).at ⟨#[af I s.n,x1,s.ia,x3,x4,Sd.ptr s.ba,ak J 0 0,.nilIface,Sd.ptr s.bn,Sd.ptr s.bd,Sd.ptr s.Wg,dV,cr,bN,cu,cD,af I s.mW,af I j,bP,cK,cS,dc,eh,eH,i6,iN,iE,fP,fo,eY,eo,ep],[]⟩ [.code (lE f11),.inLoop (lE f11),.inBlock 0,.code (tE f11)]) cs
structure Sd.dv(s:Sd)(k:Nat)(O:Nat->Prop)(w:ah):Prop where
 AY:O s.Wg
 wg:WgAt lk.tWg s.Wg w (k*KK) 0
 hold:s.H w
def Sd.dv.on(h:s.dv k O w)(r:Rl O s.Sh w w'):s.dv k O w':=
 ⟨h.AY,h.wg.of_block (r.blk _ (.inl h.AY)),h.hold.on (λb hb=>r.blk b (.inr hb)) r.size⟩
def Sd.Sp(s:Sd)(cs:List Frame)(j:Nat)(O:Nat->Prop)(g:Goroutine)(w:ah):Prop:=j<s.mW/\s.dv (j+1) O w/\∃x1 x3 x4 dV cr bN cu cD bP cK dc eh eH i6 iN iE fP fo eY eo ep:aj,
 g=G ((base jW).at ⟨#[af I s.n,x1,s.ia,x3,x4,Sd.ptr s.ba,ak J 0 0,.nilIface,Sd.ptr s.bn,Sd.ptr s.bd,Sd.ptr s.Wg,dV,cr,bN,cu,cD,af I s.mW,af I j,bP,cK,s.xq,dc,eh,eH,i6,iN,iE,fP,fo,eY,eo,ep],[]⟩ [.inRegion (zm f11) [1],.inBlock 1,.code (C6 f11),.inLoop (lE f11),.inBlock 0,.code (tE f11)]) cs
structure Sd.Apart(s:Sd):Prop where
 sh:∀b,s.Sh b->¬s.Gr b
 ch:s.Wg≠s.c1/\s.Wg≠s.c2/\s.c1≠s.c2
def Sd.QF(s:Sd)(ap:s.Apart)(cs:List Frame)(j:Nat)(hj:j<s.mW)(hm:s.mW<1000000)(O:Nat->Prop)(g:Goroutine)(w:ah)(h:s.Head cs j g)(ho:s.dv j O w):Gt prog true s.Sh s.Gr (λO g w=>s.Sp cs j O g w) 1060 0 O g w:=by
 obtain⟨x1,x3,x4,dV,cr,bN,cu,cD,bP,cK,cS,dc,eh,eH,i6,iN,iE,fP,fo,eY,eo,ep,rfl⟩:=h;have hF:s.dv j O w:=ho;have rl:∀{w w₁:ah},s.dv j O w->Rl O s.Sh w w₁->s.dv j O w₁:=λh r=>h.on r
 simp only[lE,cE,f11,bC];have hlt:((j:Int)<(s.mW:Int)):=by omega
 refine Gt.q (n:=20) (m:=1040) (λ_ _ h=>h) ?_;u_c stepG_seq rl hF
 u_reg rl hF
 u_op rl hF
 u_c stepG_region_end rl hF
 u_c stepG_seq rl hF
 u_cond true rl hF
 u_c stepG_skip rl hF
 u_c stepG_seq rl hF
 u_c stepG_block rl hF
 u_c stepG_seq rl hF
 u_reg rl hF
 refine Goes.stop λw₁ h₁=>?_
 replace hF:=rl hF h₁
 clear h₁
 refine Gt.le (show 35+1005<=1040 by omega) (Gt.acF Ff (v:=j) hF.AY (.inl rfl) (by omega) hF.wg rfl rfl (by k_ne) rfl rfl rfl λw₂ h₂ QG=>?_);have hF2:s.dv (j+1) O w₂:=⟨hF.AY,by simpa using QG,hF.hold.on (λb hb=>h₂.blk b (.inr ⟨hb,λe=>ap.sh b hb (.inl e)⟩)) h₂.size⟩;clear hF h₂ QG;have hF:=hF2;have rl:∀{w w₁:ah},s.dv (j+1) O w->Rl O s.Sh w w₁->s.dv (j+1) O w₁:=λh r=>h.on r
 walk_nrm
 refine Gt.q (n:=20) (m:=15) (λ_ _ h=>h) ?_;u_c stepG_region_end rl hF
 u_reg rl hF
 u_op rl hF
 refine Goes.stop λw₁ h₁=>Gt.stop λw₂ h₂=>?_
 replace hF:=rl (rl hF h₁) h₂
 refine⟨hj,hF,x1,x3,x4,dV,cr,bN,cu,cD,aJ true,aX #[],dc,eh,eH,i6,iN,iE,fP,fo,eY,eo,ep,?_⟩;simp only[zm,C6,lE,cE,Sd.xq,f11,bC]
def zn{x:Int}(h0:-9223372036854775808<=x)(h1:x<=9223372036854775807):IntKind.i64.wrap x=x:=by rw[IntKind.wrap_i64];omega
def Sd.acG(s:Sd)(cs:List Frame)(j:Nat)(hm:s.mW<1000000)(O:Nat->Prop)(g:Goroutine)(w:ah)(h:s.Sp cs j O g w):g.status=.running/\j<s.mW/\∃g',(∀w',stepG prog true g w'=.spawn g' (born prog s.call) w' #[])/\∀(w₀:ah) (O:Nat->Prop) (n:Nat) (Stop:(Nat->Prop)->Goroutine->ah->Prop),s.dv (j+1) O w₀->(∀g w,s.Head cs (j+1) g->s.dv (j+1) O w->Gt prog true s.Sh s.Gr Stop n 0 O g w)->Gt prog true s.Sh s.Gr Stop (20+n) 0 O g' w₀:=by
 obtain⟨hj,ho,x1,x3,x4,dV,cr,bN,cu,cD,bP,cK,dc,eh,eH,i6,iN,iE,fP,fo,eY,eo,ep,rfl⟩:=h
 refine⟨rfl,hj,G ((base jW).at ⟨#[af I s.n,x1,s.ia,x3,x4,Sd.ptr s.ba,ak J 0 0,.nilIface,Sd.ptr s.bn,Sd.ptr s.bd,Sd.ptr s.Wg,dV,cr,bN,cu,cD,af I s.mW,af I j,bP,cK,s.xq,dc,eh,eH,i6,iN,iE,fP,fo,eY,eo,ep],[]⟩ [.inRegion (zm f11) [],.inBlock 1,.code (C6 f11),.inLoop (lE f11),.inBlock 0,.code (tE f11)]) cs,λw'=>?_,λw₀ O n Stop ho hk=>?_⟩
 ·have hr:(execOp (Act.eval ⟨#[af I s.n,x1,s.ia,x3,x4,Sd.ptr s.ba,ak J 0 0,.nilIface,Sd.ptr s.bn,Sd.ptr s.bd,Sd.ptr s.Wg,dV,cr,bN,cu,cD,af I s.mW,af I j,bP,cK,s.xq,dc,eh,eH,i6,iN,iE,fP,fo,eY,eo,ep],[]⟩) ((zm f11).getD 1 default)).run prog w'=.ok (.spawn s.call) w':=by
   unfold Sd.xq Sd.call;kernel_rfl
  have st:=stepG_spawn (main:=true) (P:=prog) (b:=base jW) (k:=[.inBlock 1,.code (C6 f11),.inLoop (lE f11),.inBlock 0,.code (tE f11)]) (cs:=cs) (ops:=(zm f11)) (i:=1) (rest:=[]) (by kernel_rfl) (by kernel_rfl) (by k_ne) hr rfl;have cP:listed prog (base jW).fn _ _ _=#[]:=listed_nil (b:=base jW) (o:=(zm f11).getD 1 default) (a:=⟨#[af I s.n,x1,s.ia,x3,x4,Sd.ptr s.ba,ak J 0 0,.nilIface,Sd.ptr s.bn,Sd.ptr s.bd,Sd.ptr s.Wg,dV,cr,bN,cu,cD,af I s.mW,af I j,bP,cK,s.xq,dc,eh,eH,i6,iN,iE,fP,fo,eY,eo,ep],[]⟩) (P:=prog) (w:=w') (by unfold Sd.xq;kernel_rfl);rw[cP]at st;exact st
 have hF:s.dv (j+1) O w₀:=ho;have rl:∀{w w₁:ah},s.dv (j+1) O w->Rl O s.Sh w w₁->s.dv (j+1) O w₁:=λh r=>h.on r
 have e:IntKind.i64.wrap ((j:Int)+1)=((j+1:Nat):Int):=by rw[zn (by omega) (by omega)];omega
 simp only[zm,C6,lE,cE,f11,bC]
 refine Gt.q (n:=20) (m:=n) (λ_ _ h=>h) ?_;u_c stepG_region_end rl hF
 u_c stepG_inBlock rl hF
 u_reg rl hF
 u_op rl hF
 rw[show (j:Int)+1=((j+1:Nat):Int) by omega];u_op rl hF
 u_c stepG_region_end rl hF
 u_c stepG_inLoop rl hF
 refine Goes.stop λw₁ h₁=>hk _ _ ?_ (rl hF h₁)
 refine⟨x1,x3,x4,dV,cr,bN,cu,cD,bP,cK,s.xq,af I ((j+1:Nat):Int),eh,eH,i6,iN,iE,fP,fo,eY,eo,ep,?_⟩;simp only[lE,cE,f11,bC,Int.natCast_add,Int.natCast_one]
open Go.ConcN (sumTo upd sumTo_upd upd_ne upd_same)
def kB(n:Nat)(rv:Nat->Option aj):Nat:=sumTo n λi=>if (rv i).isNone then 1 else 0
def Kg{rv:Nat->Option aj}:∀{n:Nat},kB n rv=0↔∀i,i<n->rv i≠J
 |0=>⟨λ_ _ h=>absurd h (im _),λ_=>rfl⟩
 |n+1=>by
  have ih:=@Kg rv n;have e:kB (n+1) rv=kB n rv+(if (rv n).isNone then 1 else 0):=rfl;rw[e]
  cases hn:rv n with
  |none=>
   simp only[Option.isNone_none,kC];exact⟨λh=>absurd h (by omega),λh=>absurd hn (h n (wh n))⟩
  |some v=>
   simp only[Option.isNone_some,uC,j5,qF];rw[ih];exact⟨λh i hi=>(BW.1 hi).elim (h i) λe=>by rw[e,hn];simp,λh i hi=>h i (Nat.lt_succ_of_lt hi)⟩
def QH:∀n,kB n (λ_=>J)=n
 |0=>rfl
 |n+1=>by show kB n (λ_=>J)+1=n+1;rw[QH n]
def acH{v:aj}(hi:i<n)(h:rv i=J):kB n (upd rv i (U v))+1=kB n rv:=by
 have:=sumTo_upd rv (U v) (λx:Option aj=>if x.isNone then 1 else 0) hi;simpa[h,kB]using this
def Kh{rv:Nat->Option aj}:∀n,kB n rv<=n
 |0=>aR _
 |n+1=>by
  have e:kB (n+1) rv=kB n rv+(if (rv n).isNone then 1 else 0):=rfl;have:=@Kh rv n;rw[e];split<;>omega
def QI{c:CommCase}(h:c.send=U y)(c2:Nat)(z2:aj)(k:Int)(v:aj)(ok:Bool):commResult #[c,rcase c2 z2] .select k v ok=aX #[goInt k,aJ ok,if (1:Int)=k then v else z2]:=by
 simp[commResult,rcase,h]
open Go.ConcN (WgLive upd upd_ne upd_same)
abbrev QJ:FuncId:=25
structure Sd.Row(s:Sd)(R:Nat)(rv:Nat->Option aj)(O:Nat->Prop)(w:ah):Prop where
 oR:O R
 nG:¬s.Gr R
 nS:¬s.Sh R
 lt:R<w.heap.size
 ge:s.w0.heap.size<=R
 th:w.there R 0 (s.n*7)
 row:∃c e,w.heap[R]?=U (ay c e (0,0))/\c.size=s.n*7
 val:∀i v,i<s.n->rv i=U v->∃c:Array aj,v=.agg c/\c.size=7/\w.rangeAt R (i*7) c.toList
def Sd.Row.on{R:Nat}(h:s.Row R rv O w)(r:Rl O s.Sh w w'):s.Row R rv O w':=
 have e:=r.blk R (.inl h.oR);⟨h.oR,h.nG,h.nS,dK h.lt r.size,h.ge,vw h.th e,by rw[e];exact h.row,λi v hi hv=>(h.val i v hi hv).imp λ_ x=>⟨x.1,x.2.1,tU x.2.2 e⟩⟩
def Sd.all(s:Sd)(rv:Nat->Option aj):Prop:=∀i,i<s.n->rv i≠J
def Sd.E8(s:Sd)(F:Frame):Prop:=∃x1 x3 x4 dV cr bN cu cD cI cJ bP cK cS dc iN iE fP fo eY eo ep:aj,
 F=(base jW).at ⟨#[af I s.n,x1,s.ia,x3,x4,Sd.ptr s.ba,ak J 0 0,.nilIface,Sd.ptr s.bn,Sd.ptr s.bd,Sd.ptr s.Wg,dV,cr,bN,cu,cD,cI,cJ,bP,cK,cS,dc,af I s.n,.chan (U s.c1),.chan (U s.c2),iN,iE,fP,fo,eY,eo,ep],[]⟩ [.inRegion (Kf f11) [3,4],.code (si f11)]
def Sd.gL(s:Sd)(R:Nat):aj:=ak (U (ar R 0 J)) s.n s.n
def Sd.acI(s:Sd)(cs:List Frame)(R nx left:Nat)(g:Goroutine):Prop:=∃(F:Frame) (c:Option Nat) (x3 x4 x5 iB dV cr bN cu cD cI cJ bP cK cS dc eh eH i6 iN iE fP fo eY eo ep qW qX qY qZ ql:aj),s.E8 F/\(nx<s.n->c=U s.c1) /\
 g=G ((base QJ).at ⟨#[af I s.n,.chan c,.chan (U s.c2),x3,x4,x5,ak J 0 0,s.gL R,af I nx,af I left,iB,dV,cr,bN,cu,cD,cI,cJ,bP,cK,cS,dc,eh,eH,i6,iN,iE,fP,fo,eY,eo,ep,qW,qX,qY,qZ,ql],[]⟩ [.code (lC f25),.inLoop (lC f25),.inBlock 0,.code (tC f25)]) (F::cs)
def Sd.Se(s:Sd)(cs:List Frame)(nx:Nat)(rv:Nat->Option aj)(O:Nat->Prop)(g:Goroutine)(w:ah):Prop:=s.dv s.mW O w/\¬s.all rv/\nx<=s.n/\∃(R:Nat) (F:Frame) (x3 x4 x5 iB dV cr bN cu cD cI cJ bP eh eH i6 iN iE fP fo eY eo ep qW qX qY qZ ql:aj),s.Row R rv O w/\s.E8 F /\
 g=G ((base QJ).at ⟨#[af I s.n,.chan (if nx<s.n then U s.c1 else J),.chan (U s.c2),x3,x4,x5,ak J 0 0,s.gL R,af I nx,af I (kB s.n rv),iB,dV,cr,bN,cu,cD,cI,cJ,bP,.chan (if nx<s.n then U s.c1 else J),af I nx,.chan (U s.c2),eh,eH,i6,iN,iE,fP,fo,eY,eo,ep,qW,qX,qY,qZ,ql],[]⟩ [.inRegion (AX f25) [0,1,2,3],.code (C8 f25),.inBlock 1,.inLoop (lC f25),.inBlock 0,.code (tC f25)]) (F::cs)
def Sd.Cl(s:Sd)(cs:List Frame)(rv:Nat->Option aj)(O:Nat->Prop)(g:Goroutine)(w:ah):Prop:=s.dv s.mW O w/\s.all rv/\∃(R:Nat) (x1 x3 x4 cr bN cu cD cI cJ bP cK cS dc fP fo eY eo ep:aj),s.Row R rv O w /\
 g=G ((base jW).at ⟨#[af I s.n,x1,s.ia,x3,x4,Sd.ptr s.ba,ak J 0 0,.nilIface,Sd.ptr s.bn,Sd.ptr s.bd,Sd.ptr s.Wg,s.gL R,cr,bN,cu,cD,cI,cJ,bP,cK,cS,dc,af I s.n,.chan (U s.c1),.chan (U s.c2),s.gL R,.chan (U s.c1),fP,fo,eY,eo,ep],[]⟩ [.inRegion (C7 f11) [1],.code (tV f11)]) cs
def Sd.Nx(s:Sd)(cs:List Frame)(nx:Nat)(rv:Nat->Option aj)(O:Nat->Prop)(g:Goroutine)(w:ah):Prop:=(s.all rv/\s.Cl cs rv O g w)\/(¬s.all rv/\s.Se cs nx rv O g w)
def Sd.H0.lt(h:s.H0 w)(hb:s.Sh b):b<w.heap.size:=by
 have c:∀{a:av} {v:aj},w.cell? a=U v->a.block<w.heap.size:=λ{a v} e=>by
  simp only[aL]at e
  cases hq:w.heap[a.block]? with
  |none=>simp[hq]at e
  |some o=>exact(bD.1 hq).1
 rcases hb with hb|hb|rfl|rfl|rfl|hb
 ·obtain⟨_,_,e,_⟩:=h.ro b hb;exact(bD.1 e).1
 ·obtain⟨_,_,_,e⟩:=h.tk b hb;exact(bD.1 e).1
 ·exact c h.box.bn
 ·exact c h.box.bd
 ·exact c h.box.ba
 exact(h.ol b hb).1
def alloc_old{o:Obj}(h:b<w.heap.size):(w.alloc o).heap[b]?=w.heap[b]?:=(wa ..).trans (aF (by omega))
def zo{o:Obj}:w.heap.size<=(w.alloc o).heap.size:=by
 show w.heap.size<=(w.heap.push o).size
 rw[rK];omega
def Sd.dv.made{o:Obj}(h:s.dv k O w)(hO:∀b,O b->O' b):s.dv k O' (w.alloc o):=
 ⟨hO _ h.AY,h.wg.of_block (alloc_old (bD.1 h.wg).1),h.hold.on (λ_ hb=>alloc_old (h.hold.now.lt hb)) zo⟩
def Sd.Ki(s:Sd)(cs:List Frame)(R nx:Nat)(rv:Nat->Option aj)(hx:nx<=s.n)(O:Nat->Prop)(g:Goroutine)(w:ah)(h:s.acI cs R nx (kB s.n rv) g)(ho:s.dv s.mW O w)(hr:s.Row R rv O w):Gt prog true s.Sh s.Gr (s.Nx cs nx rv) 60 0 O g w:=by
 obtain⟨F,c,x3,x4,x5,iB,dV,cr,bN,cu,cD,cI,cJ,bP,cK,cS,dc,eh,eH,i6,iN,iE,fP,fo,eY,eo,ep,qW,qX,qY,qZ,ql,zq,hc,rfl⟩:=h;have hF:s.dv s.mW O w/\s.Row R rv O w:=⟨ho,hr⟩;have rl:∀{w w₁:ah},s.dv s.mW O w/\s.Row R rv O w->Rl O s.Sh w w₁->s.dv s.mW O w₁/\s.Row R rv O w₁:=λh r=>⟨h.1.on r,h.2.on r⟩
 have acJ:=Kh (rv:=rv) s.n
 rcases kG (kB s.n rv)with hz|hp
 ·have ly:s.all rv:=Kg.1 hz;have hlt:¬((0:Int)<(kB s.n rv:Int)):=by omega
  obtain⟨y1,y3,y4,ahf,acK,acL,acM,acN,acO,acP,acQ,acR,acS,acT,ahg,ahh,acU,acV,acW,acX,acY,rfl⟩:=zq;simp only[lC,tC,cC,Kf,si,tE,cE,f25,f11,bC]
  refine Gt.q (n:=40) (m:=20) (λ_ _ h=>h) ?_;u_c stepG_seq rl hF
  u_c stepG_seq rl hF
  u_reg rl hF
  u_op rl hF
  u_op rl hF
  u_c stepG_region_end rl hF
  u_cond false rl hF
  u_exit rl hF
  u_c stepG_seq rl hF
  u_reg rl hF
  u_op rl hF
  u_op rl hF
  u_c stepG_region_end rl hF
  u_c stepG_ret' rl hF
  u_leave1 func25 rl hF
  u_op rl hF
  u_c stepG_region_end rl hF
  u_c stepG_seq rl hF
  u_reg rl hF
  refine Goes.stop λw₁ h₁=>?_
  replace hF:=rl hF h₁
  clear h₁
  refine Gt.ld (n:=19) (v:=.chan (U s.c1)) rfl rfl (by k_ne) (λw₁ h₁=>?_) ?_
  ·have hc:=(rl hF h₁).1.hold.now.box.bn
   constructor
   ·simp[execOp,go_sem,Sd.ptr,hc]
   simp[go_sem,execOp,Sd.ptr,hc]
   exact CI (.inr (.inr (.inl rfl)))
  walk_nrm
  refine Gt.stop λw₁ h₁=>?_
  replace hF:=rl hF h₁
  refine .inl ⟨ly,hF.1,ly,R,y1,y3,y4,acK,acL,acM,acN,acO,acP,acQ,acR,acS,acT,acU,acV,acW,acX,acY,hF.2,?_⟩;simp only[C7,tV,si,tE,cE,f11,bC]
 have ly:¬s.all rv:=λh=>by have:=Kg.2 h;omega
 have hlt:(0:Int)<(kB s.n rv:Int):=by omega
 simp only[lC,cC,f25,bC]
 refine Gt.q (n:=40) (m:=20) (λ_ _ h=>h) ?_;u_c stepG_seq rl hF
 u_c stepG_seq rl hF
 u_reg rl hF
 u_op rl hF
 u_op rl hF
 u_c stepG_region_end rl hF
 u_cond true rl hF
 u_c stepG_skip rl hF
 u_c stepG_block rl hF
 u_c stepG_seq rl hF
 u_c stepG_seq rl hF
 u_reg rl hF
 u_op rl hF
 u_op rl hF
 rcases eC nx s.n with hl|hg
 ·obtain rfl:=hc hl;have hb:((nx:Int)==(s.n:Int))=false:=by simp;omega
  u_op rl hF
  u_c stepG_region_end rl hF
  u_cond false rl hF
  u_c stepG_skip rl hF
  u_c stepG_seq rl hF
  u_c stepG_seq rl hF
  u_c stepG_seq rl hF
  u_reg rl hF
  u_op rl hF
  u_c stepG_region_end rl hF
  u_reg rl hF
  u_op rl hF
  u_c stepG_region_end rl hF
  u_reg rl hF
  u_op rl hF
  u_c stepG_region_end rl hF
  u_c stepG_seq rl hF
  u_reg rl hF
  refine Goes.stop λw₁ h₁=>Gt.stop λw₂ h₂=>?_
  replace hF:=rl (rl hF h₁) h₂
  refine .inr ⟨ly,hF.1,ly,hx,R,F,x3,x4,x5,iB,dV,cr,bN,af I (kB s.n rv),aJ true,af I nx,af I s.n,aJ false,eh,eH,i6,iN,iE,fP,fo,eY,eo,ep,qW,qX,qY,qZ,ql,hF.2,zq,?_⟩;rw[aU hl];simp only[AX,C8,lC,cC,f25,bC]
 have hb:((nx:Int)==(s.n:Int))=true:=by simp;omega
 u_op rl hF
 u_c stepG_region_end rl hF
 u_cond true rl hF
 u_reg rl hF
 u_op rl hF
 u_c stepG_region_end rl hF
 u_c stepG_seq rl hF
 u_c stepG_seq rl hF
 u_c stepG_seq rl hF
 u_reg rl hF
 u_op rl hF
 u_c stepG_region_end rl hF
 u_reg rl hF
 u_op rl hF
 u_c stepG_region_end rl hF
 u_reg rl hF
 u_op rl hF
 u_c stepG_region_end rl hF
 u_c stepG_seq rl hF
 u_reg rl hF
 refine Goes.stop λw₁ h₁=>Gt.stop λw₂ h₂=>?_
 replace hF:=rl (rl hF h₁) h₂
 refine .inr ⟨ly,hF.1,ly,hx,R,F,x3,x4,x5,iB,dV,cr,bN,af I (kB s.n rv),aJ true,af I nx,af I s.n,aJ true,eh,eH,i6,iN,iE,fP,fo,eY,eo,ep,qW,qX,qY,qZ,ql,hF.2,zq,?_⟩;rw[aF (Nat.not_lt.2 hg)];simp only[AX,C8,lC,cC,f25,bC]
abbrev pj:TypeId:=113
def acZ:∃i,prog.info? pj=U i/\∃z,i.zero=U z/\i.bytes<=1000/\i.size=7:=by
 have h:((prog.info? pj).map λi=>(i.size,decide (i.bytes<=1000),i.zero.isSome))=U (7,true,true):=by kernel_rfl
 cases hi:prog.info? pj with
 |none=>rw[hi]at h;cases h
 |some i=>
  rw[hi]at h;simp at h
  obtain⟨z,hz⟩:=ou.1 h.2.2;exact⟨i,rfl,z,hz,h.2.1,h.1⟩
def ac0:(f25.name == "runtime.NumGoroutine")=false:=by kernel_rfl
def Sd.QK(s:Sd)(hn:s.n<1000000)(cs:List Frame)(O:Nat->Prop)(g:Goroutine)(w:ah)(h:s.Head cs s.mW g)(ho:s.dv s.mW O w):Gt prog true s.Sh s.Gr (s.Nx cs 0 (λ_=>J)) 160 0 O g w:=by
 obtain⟨x1,x3,x4,dV,cr,bN,cu,cD,bP,cK,cS,dc,eh,eH,i6,iN,iE,fP,fo,eY,eo,ep,rfl⟩:=h;have hF:s.dv s.mW O w:=ho;have rl:∀{w w₁:ah},s.dv s.mW O w->Rl O s.Sh w w₁->s.dv s.mW O w₁:=λh r=>h.on r
 simp only[lE,tE,cE,f11,bC];have hlt:¬((s.mW:Int)<(s.mW:Int)):=by omega
 refine Gt.q (n:=20) (m:=140) (λ_ _ h=>h) ?_;u_c stepG_seq rl hF
 u_reg rl hF
 u_op rl hF
 u_c stepG_region_end rl hF
 u_c stepG_seq rl hF
 u_cond false rl hF
 u_exit rl hF
 u_c stepG_seq rl hF
 u_reg rl hF
 u_op rl hF
 refine Goes.stop λw₁ h₁=>?_
 replace hF:=rl hF h₁
 clear h₁
 refine Gt.ld (n:=139) (v:=.chan (U s.c1)) rfl rfl (by k_ne) (λw₁ h₁=>?_) ?_
 ·have hc:=(rl hF h₁).hold.now.box.bn
  constructor
  ·simp[execOp,go_sem,Sd.ptr,hc]
  simp[go_sem,execOp,Sd.ptr,hc]
  exact CI (.inr (.inr (.inl rfl)))
 walk_nrm
 refine Gt.ld (n:=138) (v:=.chan (U s.c2)) rfl rfl (by k_ne) (λw₁ h₁=>?_) ?_
 ·have hc:=(rl hF h₁).hold.now.box.bd
  constructor
  ·simp[execOp,go_sem,Sd.ptr,hc]
  simp[go_sem,execOp,Sd.ptr,hc]
  exact CI (.inr (.inr (.inr (.inl rfl))))
 walk_nrm
 refine Gt.q (n:=30) (m:=108) (λ_ _ h=>h) ?_;u_call func25 ac0 f25 rl hF
 u_c stepG_seq rl hF
 u_reg rl hF
 u_op rl hF
 u_c stepG_region_end rl hF
 u_c stepG_seq rl hF
 u_reg rl hF
 u_op rl hF
 refine Goes.stop λw₁ h₁=>?_
 replace hF:=rl hF h₁
 clear h₁;obtain⟨ti,QL,z,hz,hb,hsz⟩:=acZ;have hbr:s.n*ti.bytes<=1000000000:=bH (Nat.mul_le_mul (Nat.le_of_lt hn) hb) (by decide);have ahi:(ti.bytes:Int)*s.n<=1000000000:=by
  rw[<- Int.natCast_mul,Nat.mul_comm];exact Int.ofNat_le.2 hbr
 refine Gt.al (n:=107) (ob:=ay (madeCells z.cells (s.n*7)) pj) (v:=λN=>ak (U (ar N 0 J)) s.n s.n) rfl rfl (by k_ne) (λw₂ h₂=>?_) λw₂ h₂=>?_
 ·have e1:=run_make (P:=prog) w₂ 75 pj ti z (by kernel_rfl) QL hz I I s.n s.n (by omega) (by omega) (by omega) (by omega);have e2:=events_make (P:=prog) w₂ 75 pj ti z (by kernel_rfl) QL hz I I s.n s.n (by omega) (by omega) (by omega) (by omega) (by rw[zh];omega) #[];simp only[zh,hsz]at e1
  constructor
  ·simp[execOp,go_sem,e1]
  intro e he;simp[execOp,go_sem,e2]at he
 replace hF:=rl hF h₂
 have hR:s.Row w₂.heap.size (λ_=>J) (λb=>O b\/b=w₂.heap.size) (w₂.alloc (ay (madeCells z.cells (s.n*7)) pj)):=by
  refine⟨.inr rfl,λh=>by have:=hF.hold.now.gr _ h;omega,λh=>by have:=hF.hold.now.lt h;omega,?_,hF.hold.now.sz,sg (dT _ _) 0 (by simp[madeCells]),⟨_,_,dT _ _,size_madeCells _ _⟩,λi v _ h=>by cases h⟩;show w₂.heap.size<(w₂.heap.push _).size
  rw[rK];omega
 have hO:s.dv s.mW (λb=>O b\/b=w₂.heap.size) (w₂.alloc (ay (madeCells z.cells (s.n*7)) pj)):=hF.made λb h=>.inl h
 generalize w₂.alloc _=W at hR hO;generalize w₂.heap.size=R at hR hO;clear h₂ hF rl hlt;have hF:s.dv s.mW (λb=>O b\/b=R) W/\s.Row R (λ_=>J) (λb=>O b\/b=R) W:=⟨hO,hR⟩;have rl:∀{w w₁:ah},s.dv s.mW (λb=>O b\/b=R) w/\s.Row R (λ_=>J) (λb=>O b\/b=R) w->Rl (λb=>O b\/b=R) s.Sh w w₁->s.dv s.mW (λb=>O b\/b=R) w₁/\s.Row R (λ_=>J) (λb=>O b\/b=R) w₁:=λh r=>⟨h.1.on r,h.2.on r⟩
 walk_nrm
 refine Gt.q (n:=20) (m:=87) (λ_ _ h=>h) ?_;u_op rl hF
 u_c stepG_region_end rl hF
 u_c stepG_seq rl hF
 u_reg rl hF
 u_op rl hF
 u_c stepG_region_end rl hF
 u_c stepG_seq rl hF
 u_c stepG_seq rl hF
 u_reg rl hF
 u_op rl hF
 u_op rl hF
 u_c stepG_region_end rl hF
 u_c stepG_block rl hF
 u_c stepG_loop rl hF
 refine Goes.stop λw₁ h₁=>?_
 replace hF:=rl hF h₁
 refine Gt.le (show 60<=87 by omega) (s.Ki cs R 0 (λ_=>J) (cG _) _ _ _ ?_ hF.1 hF.2);rw[QH]
 refine⟨_,U s.c1,undef,undef,undef,undef,af I s.n,s.gL R,af I s.n,undef,undef,undef,undef,undef,undef,undef,undef,undef,undef,undef,undef,undef,undef,undef,undef,undef,undef,undef,undef,undef,undef,undef,⟨x1,x3,x4,dV,cr,bN,cu,cD,af I s.mW,af I s.mW,aJ false,cK,cS,dc,iN,iE,fP,fo,eY,eo,ep,rfl⟩,λ_=>rfl,?_⟩;simp only[Sd.gL,lC,tC,cC,Kf,si,tE,cE,f25,f11,bC];rfl
def zM:aj:=a_ #[af I 0,af I 0,af I 0,af I 0,af I 0,ak J 0 0,.nilIface]
def Sd.par(s:Sd)(P:Program)(cs:List Frame)(Shun:Loc->Prop):br:=
 { P,Shun,Wg:=s.Wg,c1:=s.c1,c2:=s.c2,n:=s.n,mW:=s.mW,Sh:=s.Sh,z1:=af I 0,z2:=zM,z3:=aX #[],yr:=s.H,Ai:=s.Ai,fN:=s.fN,Recv:=s.Recv,iL:=s.iL,Sp:=s.Sp cs,Se:=s.Se cs,Cl:=s.Cl cs }
def Sd.Kj(s:Sd)(cs:List Frame)(Shun:Loc->Prop)(nx:Nat):(s.par prog cs Shun).eL nx=#[{ chan:=.chan (if nx<s.n then U s.c1 else J),send:=U (af I nx),zero:=af I 0 },rcase s.c2 zM]:=by
 unfold br.eL;show #[if nx<s.n then _ else _,_]=_
 by_cases h:nx<s.n
 ·simp only[aU h];rfl
 simp only[aF h];rfl
def Sd.yv(s:Sd)(cs:List Frame)(Shun:Loc->Prop)(nx:Nat)(rv:Nat->Option aj)(O:Nat->Prop)(g:Goroutine)(w:ah)(h:s.Se cs nx rv O g w):g.status=.running/\∀w',stepG prog true g w'=.comm g ((s.par prog cs Shun).eL nx) true .select w' #[]:=by
 obtain⟨-,-,-,R,F,x3,x4,x5,iB,dV,cr,bN,cu,cD,cI,cJ,bP,eh,eH,i6,iN,iE,fP,fo,eY,eo,ep,qW,qX,qY,qZ,ql,-,-,rfl⟩:=h
 refine⟨rfl,λw'=>?_⟩;rw[s.Kj];exact ZB (s1:={ chan:=.tmp 19,send:=U (.tmp 20),elem:=3 }) (s2:={ chan:=.tmp 21,send:=J,elem:=pj }) (x1:=.tmp 19) (x2:=.tmp 21) (y:=.tmp 20) (o:=(AX f25).getD 0 default) (by kernel_rfl) (by kernel_rfl) (by k_ne) (by kernel_rfl) ⟨rfl,rfl⟩ ⟨rfl,rfl⟩ rfl rfl rfl (Jw (by kernel_rfl)) (Jw (by kernel_rfl))
def Sd.yw(s:Sd)(cs:List Frame)(nx:Nat)(rv:Nat->Option aj)(O:Nat->Prop)(g:Goroutine)(w w':ah)(h:s.Se cs nx rv O g w)(r:Rl O s.Sh w w'):s.Se cs nx rv O g w':=by
 obtain⟨h1,h2,h3,R,F,x3,x4,x5,iB,dV,cr,bN,cu,cD,cI,cJ,bP,eh,eH,i6,iN,iE,fP,fo,eY,eo,ep,qW,qX,qY,qZ,ql,h4,h5,h6⟩:=h;exact⟨h1.on r,h2,h3,R,F,x3,x4,x5,iB,dV,cr,bN,cu,cD,cI,cJ,bP,eh,eH,i6,iN,iE,fP,fo,eY,eo,ep,qW,qX,qY,qZ,ql,h4.on r,h5,h6⟩
def Sd.EO(s:Sd)(hn:s.n<1000000)(cs:List Frame)(Shun:Loc->Prop)(nx:Nat)(rv:Nat->Option aj)(O:Nat->Prop)(g:Goroutine)(w:ah)(h:s.Se cs nx rv O g w)(hl:nx<s.n):Gt prog true s.Sh s.Gr (s.Nx cs (nx+1) rv) 100 0 O (g.finishComm prog ((s.par prog cs Shun).eL nx) .select 0 undef false) w:=by
 obtain⟨ho,ly,hx,R,F,x3,x4,x5,iB,dV,cr,bN,cu,cD,cI,cJ,bP,eh,eH,i6,iN,iE,fP,fo,eY,eo,ep,qW,qX,qY,qZ,ql,hr,zq,rfl⟩:=h;rw[finishComm_served,s.Kj,QI (y:=af I nx) rfl,served_G,aU hl];have hF:s.dv s.mW O w/\s.Row R rv O w:=⟨ho,hr⟩;have rl:∀{w w₁:ah},s.dv s.mW O w/\s.Row R rv O w->Rl O s.Sh w w₁->s.dv s.mW O w₁/\s.Row R rv O w₁:=λh r=>⟨h.1.on r,h.2.on r⟩
 have e:IntKind.i64.wrap ((nx:Int)+1)=((nx+1:Nat):Int):=by rw[zn (by omega) (by omega)];omega
 simp only[AX,C8,lC,cC,f25,bC];walk_nrm
 refine Gt.q (n:=30) (m:=70) (λ_ _ h=>h) ?_;u_op rl hF
 u_op rl hF
 u_op rl hF
 u_c stepG_region_end rl hF
 u_c stepG_block rl hF
 u_cond true rl hF
 u_reg rl hF
 u_op rl hF
 u_op rl hF
 rw[show (nx:Int)+1=((nx+1:Nat):Int) by omega];u_op rl hF
 u_c stepG_region_end rl hF
 u_c stepG_inBlock rl hF
 u_c stepG_inBlock rl hF
 u_c stepG_inLoop rl hF
 refine Goes.stop λw₁ h₁=>?_
 replace hF:=rl hF h₁
 refine Gt.le (show 60<=70 by omega) (s.Ki cs R (nx+1) rv hl _ _ _ ?_ hF.1 hF.2)
 refine⟨F,U s.c1,x3,x4,x5,iB,dV,cr,bN,cu,cD,cI,cJ,bP,.chan (U s.c1),af I nx,.chan (U s.c2),aX #[af I 0,aJ false,zM],af I 0,aJ true,aJ false,af I nx,af I ((nx+1:Nat):Int),fo,eY,eo,ep,qW,qX,qY,qZ,ql,zq,λ_=>rfl,?_⟩;simp only[lC,tC,cC,f25,bC,Int.natCast_add,Int.natCast_one]
def Sd.dv.kp{N:Nat}(h:s.dv k O w)(hk:Kp (λb=>b=N) w w')(h1:N≠s.Wg)(h2:∀b,s.Sh b->b≠N):s.dv k O w':=
 ⟨h.AY,h.wg.of_block (hk.frame _ λe=>h1 e.symm),h.hold.on (λb hb=>hk.frame b (h2 b hb)) (uX hk.size.symm)⟩
def Sd.Row.kp{R N:Nat}(h:s.Row R rv O w)(hk:Kp (λb=>b=N) w w')(h1:N≠R):s.Row R rv O w':=
 have e:=hk.frame R λe=>h1 e.symm
 ⟨h.oR,h.nG,h.nS,by rw[hk.size];exact h.lt,h.ge,vw h.th e,by rw[e];exact h.row,λi v hi hv=>(h.val i v hi hv).imp λ_ x=>⟨x.1,x.2.1,tU x.2.2 e⟩⟩
def Sd.Row.made{R:Nat}{o:Obj}(h:s.Row R rv O w)(hO:∀b,O b->O' b):s.Row R rv O' (w.alloc o):=
 have e:=alloc_old (o:=o) h.lt;⟨hO _ h.oR,h.nG,h.nS,dK h.lt zo,h.ge,vw h.th e,by rw[e];exact h.row,λi v hi hv=>(h.val i v hi hv).imp λ_ x=>⟨x.1,x.2.1,tU x.2.2 e⟩⟩
def QM{c:aV}{l cp:Nat}(h:ev.oneCell'=true):(eT i c (ak sa l cp) ev).all (·.oneCell')=true:=by
 cases ev<;>first|(simp[Value.oneCell']at h;done)|simp[eT,Value.oneCell']
def QN{R:Nat}:∀(vs:List aj) (k:Nat) (w:ah),(∃c,w.heap[R]?=U (ay c e (0,0))/\c.size=n)->∃c,(w.setCells R k vs).heap[R]?=U (ay c e (0,0))/\c.size=n
 |[],_,_,h=>h
 |v::vs,k,w,⟨c,h1,h2⟩=>QN vs (k+1) _ ⟨_,by simp[cZ,fR,h1];rfl,by simpa using h2⟩
def Sd.Row.put{R:Nat}(h:s.Row R rv O w)(hi:i<s.n)(hc:c.size=7):s.Row R (Go.ConcN.upd rv i (U (.agg c))) O (w.setCells R (i*7) c.toList):=by
 have hs:=(Kp.bZ (O:=λb=>b=R) (g:=R) rfl c.toList (i*7) w)
 refine⟨h.oR,h.nG,h.nS,by rw[hs.size];exact h.lt,h.ge,World.there_setCells h.th R (i*7) c.toList,?_,λk v hk hv=>?_⟩
 ·obtain⟨d,e,h1,h2⟩:=h.row;obtain⟨d',h3,h4⟩:=QN c.toList (i*7) w ⟨d,h1,h2⟩;exact⟨d',e,h3,h4⟩
 by_cases e:k=i
 ·subst e;rw[Go.ConcN.upd_same]at hv
  cases hv
  refine⟨c,rfl,hc,C3 w R (k*7) c.toList λj hj=>?_⟩;have:=h.th (k*7+j) (by simp[hc]at hj;omega);simpa using this
 rw[Go.ConcN.upd_ne _ _ e]at hv;obtain⟨d,h1,h2,h3⟩:=h.val k v hk hv
 refine⟨d,h1,h2,World.rangeAt_setCells_apart h3 R (i*7) c.toList (.inr ?_)⟩;simp only[qD,h2,hc];omega
def Sd.EP(s:Sd)(hn:s.n<1000000)(ap:s.Apart)(cs:List Frame)(Shun:Loc->Prop)(nx:Nat)(rv:Nat->Option aj)(O:Nat->Prop)(g:Goroutine)(w:ah)(i:Nat)(v:aj)(h:s.Se cs nx rv O g w)(hi:i<s.n)(oW:rv i=J)(hv:s.Ai i v):Gt prog true s.Sh s.Gr (s.Nx cs nx (Go.ConcN.upd rv i (U v))) 200 0 O (g.finishComm prog ((s.par prog cs Shun).eL nx) .select 1 v true) w:=by
 obtain⟨ho,ly,hx,R,F,x3,x4,x5,iB,dV,cr,bN,cu,cD,cI,cJ,bP,eh,eH,i6,iN,iE,fP,fo,eY,eo,ep,qW,qX,qY,qZ,ql,hr,zq,rfl⟩:=h;obtain⟨sa,l,cp,ev,rfl,cP⟩:=hv;rw[finishComm_served,s.Kj,QI (y:=af I nx) rfl,served_G,aU rfl];have hF:s.dv s.mW O w/\s.Row R rv O w:=⟨ho,hr⟩;have rl:∀{w w₁:ah},s.dv s.mW O w/\s.Row R rv O w->Rl O s.Sh w w₁->s.dv s.mW O w₁/\s.Row R rv O w₁:=λh r=>⟨h.1.on r,h.2.on r⟩
 have hu:=acH (v:=.agg (eT i (s.rd i).2 (ak sa l cp) ev)) hi oW;have acJ:=Kh (rv:=rv) s.n;have e:IntKind.i64.wrap ((kB s.n rv:Int)-1)=((kB s.n (Go.ConcN.upd rv i (U (.agg (eT i (s.rd i).2 (ak sa l cp) ev)))):Nat):Int):=by rw[zn (by omega) (by omega)];omega
 simp only[AX,C8,lC,cC,f25,bC];walk_nrm
 refine Gt.q (n:=30) (m:=170) (λ_ _ h=>h) ?_;u_op rl hF
 u_op rl hF
 u_op rl hF
 u_c stepG_region_end rl hF
 u_c stepG_block rl hF
 u_cond false rl hF
 u_cond true rl hF
 u_c stepG_seq rl hF
 u_reg rl hF
 u_op rl hF
 refine Goes.stop λw₁ h₁=>?_
 replace hF:=rl hF h₁
 clear h₁
 refine Gt.al (n:=169) (ob:=ay #[af I 0,af I 0,af I 0,af I 0,af I 0,ak J 0 0,.nilIface] pj) (v:=λN=>ax (U (ar N 0 J))) rfl rfl (by k_ne) (λw₂ h₂=>⟨?_,?_⟩) λw₂ h₂=>?_
 ·simp[execOp,go_sem]
 ·intro e he;simp[execOp,go_sem]at he
 replace hF:=rl hF h₂
 walk_nrm
 obtain⟨N,hN⟩:∃N,N=w₂.heap.size:=⟨_,rfl⟩;have nS:∀b,s.Sh b->b≠N:=λb hb=>by have:=hF.1.hold.now.lt hb;omega
 have nG:¬s.Gr N:=λh=>by have:=hF.1.hold.now.gr _ h;omega
 have nW:N≠s.Wg:=λe=>nG (.inl e)
 have nR:N≠R:=by have:=hF.2.lt;omega
 have hrow:(w₂.alloc (ay #[af I 0,af I 0,af I 0,af I 0,af I 0,ak J 0 0,.nilIface] pj)).heap[N]?=U (ay #[af I 0,af I 0,af I 0,af I 0,af I 0,ak J 0 0,.nilIface] pj (0,0)):=by rw[hN];exact dT _ _
 have hA:s.dv s.mW (λb=>O b\/b=N) (w₂.alloc (ay #[af I 0,af I 0,af I 0,af I 0,af I 0,ak J 0 0,.nilIface] pj))/\s.Row R rv (λb=>O b\/b=N) (w₂.alloc (ay #[af I 0,af I 0,af I 0,af I 0,af I 0,ak J 0 0,.nilIface] pj)):=⟨hF.1.made λb h=>.inl h,hF.2.made λb h=>.inl h⟩;rw[<- hN];generalize w₂.alloc _=W at hrow hA;clear hF h₂ hN rl w₁;have hF:=hA;have rl:∀{w w₁:ah},s.dv s.mW (λb=>O b\/b=N) w/\s.Row R rv (λb=>O b\/b=N) w->Rl (λb=>O b\/b=N) s.Sh w w₁->s.dv s.mW (λb=>O b\/b=N) w₁/\s.Row R rv (λb=>O b\/b=N) w₁:=λh r=>⟨h.1.on r,h.2.on r⟩
 have ht:=sg hrow (n:=7) 0 (by simp);have hlt:∀{w':ah},w'.there N 0 7->N<w'.heap.size:=λh=>by
  have:=(h 0 (by omega)).1;simp only[aL]at this
  cases e:(‹ah›).heap[N]? with
  |none=>simp[e]at this
  |some o=>exact(bD.1 e).1
 refine Gt.J_ (n:=168) (g:=N) (k:=0) (x:=.tmp 10) (y:=.tmp 28) (cells:=eT i (s.rd i).2 (ak sa l cp) ev) rfl rfl (by k_ne) rfl rfl rfl (by kernel_rfl) (QM cP) (.inr rfl) nG (λw₃ h₃=>⟨vw ht (h₃.blk N (.inl (.inr rfl))),hlt (vw ht (h₃.blk N (.inl (.inr rfl))))⟩) λw₃ h₃=>?_
 have zj:=vw ht (h₃.blk N (.inl (.inr rfl)));have zk:=C3 w₃ N 0 (eT i (s.rd i).2 (ak sa l cp) ev).toList zj;have hk4:=Kp.bZ (O:=λb=>b=N) (g:=N) rfl (eT i (s.rd i).2 (ak sa l cp) ev).toList 0 w₃;have hl4:N<(w₃.setCells N 0 (eT i (s.rd i).2 (ak sa l cp) ev).toList).heap.size:=by rw[hk4.size];exact hlt zj
 replace hF:=rl hF h₃
 have Kk:s.dv s.mW (λb=>O b\/b=N) _/\s.Row R rv (λb=>O b\/b=N) _:=⟨hF.1.kp hk4 nW nS,hF.2.kp hk4 nR⟩;generalize w₃.setCells N 0 (eT i (s.rd i).2 (ak sa l cp) ev).toList=W4 at zk hl4 Kk;clear hF h₃ zj ht hrow hk4 w₃ hA W rl;have hF:(s.dv s.mW (λb=>O b\/b=N) W4/\s.Row R rv (λb=>O b\/b=N) W4)/\W4.rangeAt N 0 (eT i (s.rd i).2 (ak sa l cp) ev).toList/\N<W4.heap.size:=⟨Kk,zk,hl4⟩;have rl:∀{w w₁:ah},(s.dv s.mW (λb=>O b\/b=N) w/\s.Row R rv (λb=>O b\/b=N) w)/\w.rangeAt N 0 (eT i (s.rd i).2 (ak sa l cp) ev).toList/\N<w.heap.size->Rl (λb=>O b\/b=N) s.Sh w w₁->(s.dv s.mW (λb=>O b\/b=N) w₁/\s.Row R rv (λb=>O b\/b=N) w₁)/\w₁.rangeAt N 0 (eT i (s.rd i).2 (ak sa l cp) ev).toList/\N<w₁.heap.size:=λh r=>⟨⟨h.1.1.on r,h.1.2.on r⟩,tU h.2.1 (r.blk N (.inl (.inr rfl))),dK h.2.2 r.size⟩
 clear zk hl4 Kk;walk_nrm
 refine Gt.q (n:=20) (m:=148) (λ_ _ h=>h) ?_;u_c stepG_region_end rl hF
 u_c stepG_seq rl hF
 u_reg rl hF
 u_op rl hF
 u_op rl hF
 refine Goes.stop λw₁ h₁=>?_
 replace hF:=rl hF h₁
 clear h₁
 refine Gt.ld (n:=147) (v:=af I i) rfl rfl (by k_ne) (λw₃ h₃=>?_) ?_
 ·have h:=rl hF h₃;have hc:w₃.cell? (ar N 0 J)=U (af I i):=h.2.1 0 _ rfl
  constructor
  ·simp[execOp,go_sem,hc]
  simp[go_sem,execOp,hc]
  exact Ju (.inr rfl) nG h.2.2
 walk_nrm
 refine Gt.Qt (n:=146) (g:=N) (k:=0) (x:=.tmp 10) (xs:=(eT i (s.rd i).2 (ak sa l cp) ev).toList) rfl rfl (by k_ne) rfl rfl underlying113 rfl (by kernel_rfl) (λw₃ h₃=>⟨(rl hF h₃).2.1,.inl ⟨.inr rfl,nG,(rl hF h₃).2.2⟩⟩) ?_;walk_nrm
 refine Gt.ld (n:=145) (v:=ax (U ⟨R,i*7,J⟩)) rfl rfl (by k_ne) (λw₃ h₃=>?_) ?_
 ·have hlt:¬s.n<=i:=by omega
  constructor
  ·simp[execOp,go_sem,Sd.gL,hlt]
  intro e he;have e2:=C4 (P:=prog) (w:=w₃) (es:=#[]) 75 ⟨R,0,J⟩ s.n s.n I i (by kernel_rfl) ⟨by omega,by omega⟩;simp[execOp,go_sem,Sd.gL,hlt,e2]at he
 walk_nrm
 refine Gt.J_ (n:=144) (g:=R) (k:=i*7) (x:=.tmp 33) (y:=.tmp 32) (cells:=eT i (s.rd i).2 (ak sa l cp) ev) rfl rfl (by k_ne) rfl rfl rfl (by kernel_rfl) (QM cP) (.inl hr.oR) hr.nG (λw₃ h₃=>⟨λj hj=>?_,(rl hF h₃).1.2.lt⟩) λw₃ h₃=>?_
 ·have:=(rl hF h₃).1.2.th (i*7+j) (by simp[eT]at hj;omega);simpa using this
 replace hF:=rl hF h₃
 have hp:=hF.1.2.put (c:=eT i (s.rd i).2 (ak sa l cp) ev) hi rfl;have hk4:=Kp.bZ (O:=λb=>b=R) (g:=R) rfl (eT i (s.rd i).2 (ak sa l cp) ev).toList (i*7) w₃;have QO:=hF.1.1.kp hk4 (λe=>hr.nG (.inl e)) (λb hb e=>hr.nS (e▸hb));generalize w₃.setCells R (i*7) (eT i (s.rd i).2 (ak sa l cp) ev).toList=W5 at hp QO;clear hF h₃ hk4 w₃ rl;have hF:s.dv s.mW (λb=>O b\/b=N) W5/\s.Row R (Go.ConcN.upd rv i (U (.agg (eT i (s.rd i).2 (ak sa l cp) ev)))) (λb=>O b\/b=N) W5:=⟨QO,hp⟩;have rl:∀{w w₁:ah},s.dv s.mW (λb=>O b\/b=N) w/\s.Row R (Go.ConcN.upd rv i (U (.agg (eT i (s.rd i).2 (ak sa l cp) ev)))) (λb=>O b\/b=N) w->Rl (λb=>O b\/b=N) s.Sh w w₁->s.dv s.mW (λb=>O b\/b=N) w₁/\s.Row R (Go.ConcN.upd rv i (U (.agg (eT i (s.rd i).2 (ak sa l cp) ev)))) (λb=>O b\/b=N) w₁:=λh r=>⟨h.1.on r,h.2.on r⟩
 walk_nrm
 refine Gt.q (n:=30) (m:=114) (λ_ _ h=>h) ?_;u_c stepG_region_end rl hF
 u_reg rl hF
 u_op rl hF
 u_op rl hF
 u_op rl hF
 u_c stepG_region_end rl hF
 u_c stepG_inBlock rl hF
 u_c stepG_inBlock rl hF
 u_c stepG_inLoop rl hF
 refine Goes.stop λw₁ h₁=>?_
 replace hF:=rl hF h₁
 refine Gt.le (show 60<=114 by omega) (s.Ki cs R nx _ hx _ _ _ ?_ hF.1 hF.2)
 refine⟨F,if nx<s.n then U s.c1 else J,x3,x4,x5,ax (U (ar N 0 J)),dV,cr,bN,cu,cD,cI,cJ,bP,.chan (if nx<s.n then U s.c1 else J),af I nx,.chan (U s.c2),aX #[af I 1,aJ true,.agg (eT i (s.rd i).2 (ak sa l cp) ev)],af I 1,aJ false,aJ true,iE,fP,.agg (eT i (s.rd i).2 (ak sa l cp) ev),s.gL R,ax (U (ar N 0 J)),af I i,.agg (eT i (s.rd i).2 (ak sa l cp) ev),ax (U ⟨R,i*7,J⟩),af I (kB s.n rv),af I (kB s.n (Go.ConcN.upd rv i (U (.agg (eT i (s.rd i).2 (ak sa l cp) ev))))),ql,zq,λh=>aU h,?_⟩;simp only[lC,tC,cC,f25,bC]
def Sd.ac1(s:Sd)(f:s.qh)(hn:s.n<1000000)(hm:s.mW<1000000)(ap:s.Apart)(cs:List Frame)(Shun:Loc->Prop):(s.par prog cs Shun).Ok where
 hold w w' h k hs:=h.on k hs
 res i v F w w' h k hs:=by
  obtain⟨sv,ev,E,h1,h2,h3,h4,h5,h6⟩:=h;exact⟨sv,ev,E,h1,h2,h3,h4,h5,h6.on λb hb=>k b (h5 b hb)⟩
 Ox i v F w h:=by
  obtain⟨sv,ev,E,h1,h2,⟨sa,l,c,rfl⟩,h4,h5⟩:=h;exact⟨sa,l,c,ev,h1,h4⟩
 qM g h:=s.qM g h
 yu v g h:=s.yu v g h
 EM g i O w h hi hw:=⟨40,s.EM f i hi g w h hw⟩
 EN g v O w h:=⟨30,s.EN v g w h⟩
 Cm j O g w h:=by
  obtain⟨h1,h2,g',h3,h4⟩:=s.acG cs j hm O g w h
  refine⟨h1,h2,g',_,h3,λw' hw'=>⟨200,s.ZF (λb hb=>.inr (.inr hb)) w' hw'.now.box⟩,20+1060,h4 w O 1060 _ h.2.1 λg1 w1 hg1 nQ=>?_⟩
  rcases eC (j+1) s.mW with hl|hg
  ·exact Gt.mono (λO g w h=>.inl ⟨hl,h⟩) (s.QF ap cs (j+1) hl hm O g1 w1 hg1 nQ)
  have e:j+1=s.mW:=by omega
  rw[e]at hg1 nQ;exact Gt.le (show 160<=1060 by omega) (Gt.mono (λO g w h=>.inr ⟨e,h⟩) (s.QK hn cs O g1 w1 hg1 nQ))
 yv nx rv O g w h:=s.yv cs Shun nx rv O g w h
 yw nx rv O g w w' h r:=s.yw cs nx rv O g w w' h r
 EO nx rv O g w h hl:=⟨100,s.EO hn cs Shun nx rv O g w h hl⟩
 EP nx rv O g w i v h hi oW hv:=⟨200,s.EP hn ap cs Shun nx rv O g w i v h hi oW hv⟩
 ER rv O g w h:=by
  obtain⟨-,-,R,x1,x3,x4,cr,bN,cu,cD,cI,cJ,bP,cK,cS,dc,fP,fo,eY,eo,ep,-,rfl⟩:=h;rfl
 pY:=ap.sh
 apart:=ap.ch
def nm_wait:(f26.name == "runtime.NumGoroutine")=false:=by kernel_rfl
def Sd.C9(s:Sd)(cs:List Frame)(R:Nat)(g:Goroutine):Prop:=∃(x1 x3 x4 cr bN cu cD cI cJ bP cK cS dc fo eY eo ep:aj),
 g=G ((base jW).at ⟨#[af I s.n,x1,s.ia,x3,x4,Sd.ptr s.ba,ak J 0 0,.nilIface,Sd.ptr s.bn,Sd.ptr s.bd,Sd.ptr s.Wg,s.gL R,cr,bN,cu,cD,cI,cJ,bP,cK,cS,dc,af I s.n,.chan (U s.c1),.chan (U s.c2),s.gL R,.chan (U s.c1),aX #[],fo,eY,eo,ep],[]⟩ [.inRegion (vA f11) [],.code (xo f11)]) cs
def Sd.B(s:Sd)(cs:List Frame)(rv:Nat->Option aj)(O:Nat->Prop)(w:ah)(g:Goroutine):Prop:=∃R,s.H w/\s.Row R rv O w/\s.C9 cs R g
def Sd.kh(s:Sd)(cs:List Frame)(rv:Nat->Option aj)(O:Nat->Prop)(a:Goroutine)(w:ah)(h:s.Cl cs rv O a w):∃a1 gB An,mayWake prog a=true/\a1.status=.running/\(∀st,w.heap[s.c1]?=U (.chan 0 #[] false st st false)->stepG prog true a w=.go a1 (w.setChan s.c1 0 #[] true st st false) (closeEvents s.c1)) /\
   (∀w',WgLive lk.tWg s.Wg w'->∃m,Goes prog true (fA lk.tWg s.Wg) DC0 (Says prog lk.tWg s.Wg true .disable An) m a1 w')/\(∀g w',An g w'->WgLive lk.tWg s.Wg w'->Goes prog true (fA lk.tWg s.Wg) DC0 (yq prog lk.tWg s.Wg true gB An) 200 g w')/\WgAt lk.tWg s.Wg w (s.mW*KK) 0/\s.B cs rv O w gB:=by
 obtain⟨ho,ly,R,x1,x3,x4,cr,bN,cu,cD,cI,cJ,bP,cK,cS,dc,fP,fo,eY,eo,ep,hr,rfl⟩:=h
 refine⟨G ((base jW).at ⟨#[af I s.n,x1,s.ia,x3,x4,Sd.ptr s.ba,ak J 0 0,.nilIface,Sd.ptr s.bn,Sd.ptr s.bd,Sd.ptr s.Wg,s.gL R,cr,bN,cu,cD,cI,cJ,bP,cK,cS,dc,af I s.n,.chan (U s.c1),.chan (U s.c2),s.gL R,.chan (U s.c1),fP,fo,eY,eo,ep],[]⟩ [.inRegion (C7 f11) [],.code (tV f11)]) cs,
  G ((base jW).at (Act.put ⟨#[af I s.n,x1,s.ia,x3,x4,Sd.ptr s.ba,ak J 0 0,.nilIface,Sd.ptr s.bn,Sd.ptr s.bd,Sd.ptr s.Wg,s.gL R,cr,bN,cu,cD,cI,cJ,bP,cK,cS,dc,af I s.n,.chan (U s.c1),.chan (U s.c2),s.gL R,.chan (U s.c1),fP,fo,eY,eo,ep],[]⟩ (((vA f11)[0]?).bind (·.dst)) (aX #[])) [.inRegion (vA f11) [],.code (xo f11)]) cs,
  EJ lk s.Wg ((base jW).at ⟨#[af I s.n,x1,s.ia,x3,x4,Sd.ptr s.ba,ak J 0 0,.nilIface,Sd.ptr s.bn,Sd.ptr s.bd,Sd.ptr s.Wg,s.gL R,cr,bN,cu,cD,cI,cJ,bP,cK,cS,dc,af I s.n,.chan (U s.c1),.chan (U s.c2),s.gL R,.chan (U s.c1),fP,fo,eY,eo,ep],[]⟩ [.inRegion (vA f11) [0],.code (xo f11)]) cs,?_,rfl,λst hst=>?_,λw' hw'=>⟨230,?_⟩,λg w' hA hw'=>?_,ho.wg,R,ho.hold,hr,x1,x3,x4,cr,bN,cu,cD,cI,cJ,bP,cK,cS,dc,fo,eY,eo,ep,?_⟩
 ·kernel_rfl
 ·exact stepG_close (P:=prog) (o:=(C7 f11).getD 1 default) (x:=.tmp 26) (ats:=#[61]) (by kernel_rfl) (by kernel_rfl) (by k_ne) (by kernel_rfl) rfl hst (by kernel_rfl)
 ·have hF:=hw';simp only[C7,vA,xo,tV,si,tE,cE,f11,bC];u_c stepG_region_end bm hF
  u_c stepG_seq bm hF
  u_reg bm hF
  u_call func26 nm_wait f26 bm hF
  refine tD (show 200<=226 by omega) ?_;have hA:=λb₀ a₀ ops₀ i₀ rest₀ k₀ cs w h=>@Yj lk s.Wg true b₀ a₀ ops₀ i₀ rest₀ k₀ cs prog Ff w h
  simp only[bC,List.replicate]at hA;exact hA _ _ _ _ _ _ _ _ hF
 ·exact Yk Ff g w' hA hw'
 simp only[vA,tV,si,tE,cE,f11,bC];walk_nrm
 try rfl
open Go.ConcN (sumTo upd WgLive)
open Go.ConcR (KK WgAt stA DC0)
def ac2{l:Loc}(h:lb l=U b):l.isMemory=true:=by
 cases l<;>first|rfl|cases h
def Nt(t:Trace)(b:Nat):Prop:=∀i a,touchAt t i=U a->lb a.loc≠U b
def ac3(N:Nat)(X:Nat->Prop):∃who:Nat->Option Nat,∀b k,who b=U k↔k=0/\b<N/\¬X b:=by
 classical
 refine⟨λb=>if b<N/\¬X b then U 0 else J,λb k=>?_⟩;show (if b<N/\¬X b then U 0 else J)=U k↔_
 split
 ·rename_i h;exact⟨λe=>⟨(b_ e).symm,h⟩,λe=>by rw[e.1]⟩
 rename_i h;exact⟨λe=>(by cases e),λe=>absurd e.2 h⟩
section
variable {p:br}{q0:Nat}{w:ah}{gs:Array Goroutine}{t:Trace}{sl:Option (Nat×Nat)}{ty:TypeId}{B:(Nat->Option aj)->(Nat->Prop)->ah->Goroutine->Prop}{SB:Nat->Prop}{a:Goroutine}{q:Nat->Nat}
def Mine(p:br)(SB:Nat->Prop)(w:ah)(b:Nat):Prop:=(b<w.heap.size/\¬(SB b\/p.Sh b\/p.Gr b))\/b=p.Wg
def BS.each(hp:p.Ok)(ve:0<p.n->0<p.mW)(few:p.mW<2147483647)
  (Jl:∀g w,p.Recv g->WgLive ty p.Wg w->∃m,Goes p.P false (fA ty p.Wg) DC0 (wR p.P ty p.Wg) m (Go.Conc.served g (aX #[p.z1,aJ false])) w)
  (kh:∀rv O a w,p.Cl rv O a w->∃a1 gB An,mayWake p.P a=true/\a1.status=.running/\(∀s,w.heap[p.c1]?=U (.chan 0 #[] false s s false)->stepG p.P true a w=.go a1 (w.setChan p.c1 0 #[] true s s false) (closeEvents p.c1)) /\
   (∀w',WgLive ty p.Wg w'->∃m,Goes p.P true (fA ty p.Wg) DC0 (Says p.P ty p.Wg true .disable An) m a1 w')/\(∀g w',An g w'->WgLive ty p.Wg w'->Goes p.P true (fA ty p.Wg) DC0 (yq p.P ty p.Wg true gB An) 200 g w')/\WgAt ty p.Wg w (p.mW*KK) 0/\B rv O w gB)
  (h:BS p.P SB gs a w t q) (hsz:gs.size=1+q0) (QP:p.Shun=rV SB) (hd:∀b,SB b->¬p.Sh b/\¬p.Gr b) (ac4:∀b,p.Sh b->b<w.heap.size) (QQ:∀b,p.Gr b->b<w.heap.size)
  (nt:∀b,p.Gr b->Nt t b) (nr:∀op∈t,op.act≠.mark (.release (stA p.Wg))) (kg:opn w p.c1) (kJ:opn w p.c2) (hold:p.yr w)
  (hm:∃m,p.gt true (p.Z 0 0 λ_=>J) m 0 (Mine p SB w) a w):∃n gs' w' sl' t' q' gB rv O wS,runNT p.P n (crowd gs w sl) t=(.next (crowd gs' w' sl'),t')/\gs'.size=gs.size+p.mW/\BS p.P (λb=>SB b\/b=p.Wg) gs' gB w' t' q'/\p.all rv/\B rv O wS gB /\
   (∀b,O b->b≠p.Wg->w'.heap[b]?=wS.heap[b]?)/\(∀b,p.Sh b->w'.heap[b]?=wS.heap[b]?)/\(∀i v,rv i=U v->∃F,p.fN i v F w')/\wS.heap.size<=w'.heap.size/\bG w w':=by
 obtain⟨cm,hm⟩:=hm;have own:∀l b,lb l=U b->¬SB b->Perm t 0 l:=λl b hl hb i a ha ly=>(h.ps.known i a ha (by rw[ly];exact ac2 hl)).resolve_right λ⟨⟨b',h1,h2⟩,_⟩=>by
  rw[ly,hl]at h1;cases h1;exact hb h2
 obtain⟨who,uZ⟩:=ac3 w.heap.size λb=>SB b\/p.Sh b\/p.Gr b
 have iz:Core w t (q0,q0+0) who p.Sh p.Gr:=by
  refine⟨λsaid=>⟨h.ps.clean said,λl b g hl hw=>?_,λl b g hl hs hg=>?_,λi x y b hx hy hl hb=>absurd hl (nt b hb i y (by rw[touchAt_of hx];exact hy))⟩,h.ps.seen,λb k hb=>((uZ _ _).1 hb).2.1,λb ⟨k,hb⟩=>⟨λx=>((uZ _ _).1 hb).2.2 (.inr (.inl x)),λx=>((uZ _ _).1 hb).2.2 (.inr (.inr x))⟩,λb hb=>hp.pY b hb,ac4,QQ,λb k hb=>by rw[((uZ _ _).1 hb).1];exact cG _⟩
  ·obtain⟨rfl,_,h2⟩:=(uZ _ _).1 hw;exact own l b hl λx=>h2 (.inl x)
  have:g=0:=by
   rcases hg with e|⟨e1,e2⟩
   ·exact e
   have e1:q0<g:=e1;have e2:g<=q0+0:=e2;omega
  subst this;exact .of (own l b hl λx=>(hd b x).1 hs)
 have hS:S1 p q0 w { j:=0,nx:=0,rv:=λ_=>J,wd:=λ_=>⟨0,0,0,J⟩,who,q:=q,ck:=1,cm:=cm } gs w t:=by
  refine⟨⟨by rw[hsz];rfl,iz,λk g hk hq hg=>h.lv.old k g hk hg,λk hk=>h.lv.above k (by omega),λb hb=>absurd hb (im _),kg,kJ,hold,cG _,λi hi=>absurd hi (im _),λb hb=>absurd hb (im _),λb c hb=>absurd hb (im _),λ_ _=>rfl,λi v hv=>by cases hv⟩,cG _,λ_=>⟨rfl,λ_=>rfl⟩,⟨a,h.g0,?_⟩,⟨rfl,rfl,rfl,aR _⟩,⟨λi x y hx hy tB=>(h.ps.known i y (by rw[touchAt_of hx];exact hy) tB).imp id λe=>.inl (by rw[QP];exact e),λi g hg h0 hc=>.inl (h.ps.over i g hg h0 hc),nr⟩⟩;show p.gt true (p.Z 0 0 λ_=>J) cm (Deaf t 0) _ a w
  rw[h.ps.hears]
  refine Gt.congr (λb=>?_) hm;have e:who b=U 0↔b<w.heap.size/\¬(SB b\/p.Sh b\/p.Gr b):=(uZ b 0).trans ⟨λh=>h.2,λh=>⟨rfl,h⟩⟩;show _↔(who b=U 0\/b=p.Wg)
  rw[e];rfl
 obtain⟨n,gs',w',sl',t',q',gB,rv,O,wS,r1,r2,r3,r4,r5,r6,r7,r8,r9,Kl,ac5,Km⟩:=Za (sl:=sl) hp ve few Jl kh hS
 refine⟨n,gs',w',sl',t',q',gB,rv,O,wS,r1,by rw[r2,hsz],⟨r3,r4,?_,λb hb=>?_⟩,r6,r7,r8,r9,Kl,ac5,Km⟩
 ·have e:(λl=>p.Shun l\/lb l=U p.Wg)=rV λb=>SB b\/b=p.Wg:=by
   funext l
   rw[QP]
   refine propext ⟨?_,?_⟩
   ·rintro(⟨b,h1,h2⟩|h1)
    ·exact⟨b,h1,.inl h2⟩
    exact⟨_,h1,.inr rfl⟩
   rintro⟨b,h1,h2|rfl⟩
   ·exact .inl ⟨b,h1,h2⟩
   exact .inr h1
  rw[<- e];exact r5
 rcases hb with hb|rfl
 ·exact dK (h.lt b hb) Km.size
 exact dK (QQ _ (.inl rfl)) Km.size
end
section
variable {P:Program}{SB:Nat->Prop}{gs:Array Goroutine}{g g':Goroutine}{w w':ah}{t:Trace}{q:Nat->Nat}{sl:Option (Nat×Nat)}{es:Array Event}
def BS.ac6(h:BS P SB gs g w t q)(hr:g.status=.running):∃d sl',stepT P (crowd gs w sl)=runT P (crowd gs (w.at d) sl') 0 \/
  ∃gs' q' ops,stepT P (crowd gs w sl)=(.next (crowd gs' (w.at d) sl'),ops)/\BS P SB gs' g (w.at d) (t++ops) q'/\gs'.size=gs.size/\sumTo gs.size q'<sumTo gs.size q/\∀op∈ops,op.act.touch?=J/\∀a,op.act≠.mark (.release a):=by
 obtain⟨h0,hL,hP,hlt⟩:=h;have uO:∀x∈gs,awake x:=by
  intro x hx;obtain⟨i,hi,rfl⟩:=xH.1 hx
  rcases kG i with rfl|jM
  ·have:gs[0]=g:=by simpa[eB hi]using h0
   rw[this];exact awake_of (.inl hr)
  exact awake_of ((hL.old i _ jM (eB hi)).status.elim .inl λx=>.inr (.inr x))
 obtain⟨i,x,d,sl',hi,hg,hst⟩:=crowd_pick (P:=P) (w:=w) (sl:=sl) uO ⟨0,g,h0,hr⟩
 refine⟨d,sl',?_⟩
 rcases kG i with rfl|jM
 ·exact .inl hst
 right
 have hq:=hL.old i x jM hi;have Js:(i==0)=false:=by simp;omega
 have hl:i<gs.size:=(bD.1 hi).1
 cases yI:q i with
 |zero=>rw[yI]at hq;rw[hq.1]at hg;cases hg
 |succ k=>
  rw[yI]at hq
  rcases hq with⟨hf,_⟩|⟨_,g',es,hm,Ah,hq'⟩
  ·rw[hf]at hg;cases hg
  have vk:=runT_crowd_go (P:=P) (sl:=sl') (i:=i) hi (by rw[Js];exact Ah (w.at d));have Zw:sumTo gs.size (upd q i k)+(k+1)=sumTo gs.size q+k:=by
   have:=sumTo_upd q k id hl;simpa[yI]using this
  have hne:i≠0:=by omega
  refine⟨_,upd q i k,_,hst.trans vk,⟨?_,⟨λj y hj hy=>?_,λj hj=>?_⟩,hP.mute (by omega) hm,hlt⟩,by simp,by omega,ym (P:=λop=>op.act.touch?=J/\∀a,op.act≠.mark (.release a)) λe he=>⟨touch_mute (hm e he),λa=>IU (EL (hm e he))⟩⟩
  ·rw[dS hne,oJ,h0];simp[woken_run hr]
  ·by_cases lX:i=j
   ·subst lX;rw[jk (by simpa using hl)]at hy;obtain rfl:=b_ hy;rw[upd_same,Deaf_own];exact hq'
   rw[dS lX,oJ]at hy;obtain⟨z,hz,rfl⟩:=jz.1 hy;have CF:=hL.old j z hj hz;rw[woken_quitsD CF,upd_ne q k (ey lX),Deaf_other t lX _ (λop hop=>by obtain⟨e,_,rfl⟩:=jQ hop;rfl)];exact CF
  rw[Deaf_other t (g':=i) (by simp at hj;omega) _ (λop hop=>by obtain⟨e,_,rfl⟩:=jQ hop;rfl)];exact hL.above j (by simpa using hj)
def BS.go2(h:BS P SB gs g w t q)(hst:stepG P true g w=.go g' w' es)(hd:dF SB w w' es):∃gs',runT P (crowd gs w sl) 0=(.next (crowd gs' w' sl),MemOp.ofEvents 0 g.frame.fn g.frame.place es)/\BS P SB gs' g' w' (t++MemOp.ofEvents 0 g.frame.fn g.frame.place es) q/\gs'.size=gs.size:=by
 obtain⟨h0,hL,hP,hlt⟩:=h;have vk:=runT_crowd_go (P:=P) (sl:=sl) (i:=0) h0 (show stepG P (0==0) g w=_ from hst);have hl:0<gs.size:=(bD.1 h0).1
 refine⟨_,vk,⟨by simp[hl],⟨λj x hj hx=>?_,λj hj=>?_⟩,(hP.mono hd.1).own hd.2,λb hb=>dK (hlt b hb) hd.1⟩,by simp⟩
 ·have hne:0≠j:=by omega
  rw[dS hne,oJ]at hx;obtain⟨y,hy,rfl⟩:=jz.1 hx;have hq:=hL.old j y hj hy;rw[woken_quitsD hq,Deaf_other t (by omega) _ (λop hop=>by obtain⟨e,_,rfl⟩:=jQ hop;rfl)];exact hq
 rw[Deaf_other t (g':=0) (by simp at hj;omega) _ (λop hop=>by obtain⟨e,_,rfl⟩:=jQ hop;rfl)];exact hL.above j (by simpa using hj)
def BS.ac7{K:ah->Trace->Prop}{E:ah->ah->Array Event->Prop}(k1:∀w w' t fn pos es,K w t->E w w' es->K w' (t++MemOp.ofEvents 0 fn pos es))(k2:∀w t u,K w t->(∀op∈u,op.act.touch?=J/\∀a,op.act≠.mark (.release a))->K w (t++u))(k3:∀w t d,K w t->K (w.at d) t):∀(M n:Nat) (gs:Array Goroutine) (g:Goroutine) (w:ah) (sl:Option (Nat×Nat)) (t:Trace) (q:Nat->Nat),n+sumTo gs.size q<=M->BS P SB gs g w t q->K w t->Goes P true AtRel (λw w' es=>dF SB w w' es/\E w w' es) Stop n g w ->
  ∃N gs' g' w' sl' t' q',runNT P N (crowd gs w sl) t=(.next (crowd gs' w' sl'),t')/\gs'.size=gs.size/\Stop g' w'/\BS P SB gs' g' w' t' q'/\K w' t':=by
 intro M
 induction M with
 |zero=>
  intro n gs g w sl t q hM hB hK hG;obtain rfl:n=0:=by omega
  exact⟨0,gs,g,w,sl,t,q,rfl,rfl,hG w (atRel_refl w),hB,hK⟩
 |succ M ih=>
  intro n gs g w sl t q hM hB hK hG
  cases n with
  |zero=>exact⟨0,gs,g,w,sl,t,q,rfl,rfl,hG w (atRel_refl w),hB,hK⟩
  |succ n=>
   rcases hG with Jt|⟨hrun,hstep⟩
   ·exact⟨0,gs,g,w,sl,t,q,rfl,rfl,Jt w (atRel_refl w),hB,hK⟩
   obtain⟨d,sl',hs|⟨gs',q',ops,hs,jT,hsz,hlt,hno⟩⟩:=hB.ac6 (sl:=sl) hrun
   ·have h2:=hstep (w.at d) ⟨d,rfl⟩
    cases hgo:stepG P true g (w.at d)with
    |go g' w' es=>
     rw[hgo,goes_go]at h2;obtain⟨gs',hr,jT,hsz⟩:=(hB.tH d).go2 (sl:=sl') hgo h2.1.1;obtain⟨N,cg,g2,w2,gI,t2,q2,hr2,hs2,hS,gT⟩:=ih n gs' g' w' sl' _ q (by rw[hsz];omega) jT (k1 _ _ _ _ _ _ (k3 _ _ _ hK) h2.1.2) h2.2;exact⟨N+1,cg,g2,w2,gI,t2,q2,by rw[pW (hs.trans hr)];exact hr2,hs2.trans hsz,hS,gT⟩
    |_=>rw[hgo]at h2;exact h2.elim
   obtain⟨N,cg,g2,w2,gI,t2,q2,hr2,hs2,hS,gT⟩:=ih (n+1) gs' g (w.at d) sl' _ q' (by rw[hsz];omega) jT (k2 _ _ _ (k3 _ _ _ hK) hno) (Goes.rely atRel_trans (.inr ⟨hrun,hstep⟩) ⟨d,rfl⟩);exact⟨N+1,cg,g2,w2,gI,t2,q2,by rw[pW hs];exact hr2,hs2.trans hsz,hS,gT⟩
end
def QR(F:Nat->Prop)(t:Trace):Prop:=(∀b,F b->Nt t b)/\∀op∈t,∀a:av,F a.block->op.act≠.mark (.release a)
def sj(w:ah)(b:Nat):Prop:=∃v e,w.heap[b]?=U (ay #[v] e (0,0))
def Kn(N:Nat)(w:ah)(t:Trace):Prop:=(∀i a b,touchAt t i=U a->lb a.loc=U b->N<=b->sj w b)/\∀op∈t,∀a:av,N<=a.block->op.act≠.mark (.release a)
def Ek(N:Nat)(w w':ah)(es:Array Event):Prop:=(∀b,N<=b->sj w b->sj w' b)/\∀e∈es,(∀a b,(MemAct.ofEvent e).touch?=U a->lb a.loc=U b->N<=b->sj w' b)/\∀a:av,N<=a.block->e.loc≠.mark (.release a)
def ac8{N:Nat}(w w':ah)(t:Trace)(fn:FuncId)(pos:String)(es:Array Event)(h:Kn N w t)(he:Ek N w w' es):Kn N w' (t++MemOp.ofEvents 0 fn pos es):=by
 refine⟨λi a b ha hl hb=>?_,λop hop a ha e=>?_⟩
 ·obtain⟨x,hx,kZ⟩:=touch_of ha
  rcases getElem?_append_cases hx with⟨_,nD⟩|⟨_,nH⟩
  ·exact he.1 b hb (h.1 i a b (by rw[touchAt_of nD];exact kZ) hl hb)
  obtain⟨e,Ko,rfl⟩:=jQ nH;exact(he.2 e Ko).1 a b kZ hl hb
 rcases mL.1 hop with x|x
 ·exact h.2 op x a ha e
 obtain⟨e',Ko,rfl⟩:=jQ x;exact IU ((he.2 e' Ko).2 a ha) e
def ac9{N:Nat}(w:ah)(t u:Trace)(h:Kn N w t)(hu:∀op∈u,op.act.touch?=J/\∀a,op.act≠.mark (.release a)):Kn N w (t++u):=by
 refine⟨λi a b ha hl hb=>?_,λop hop a ha=>?_⟩
 ·obtain⟨x,hx,kZ⟩:=touch_of ha
  rcases getElem?_append_cases hx with⟨_,nD⟩|⟨_,nH⟩
  ·exact h.1 i a b (by rw[touchAt_of nD];exact kZ) hl hb
  rw[(hu x nH).1]at kZ;cases kZ
 rcases mL.1 hop with x|x
 ·exact h.2 op x a ha
 exact(hu op x).2 a
def ac_{N:Nat}(w:ah)(t:Trace)(d:Nat)(h:Kn N w t):Kn N (w.at d) t:=h
def ac'(h:∀op∈t,op.act.low w.heap.size):Kn w.heap.size w t:=
 ⟨λi a b ha hl hb=>absurd (dK (Oo h ha hl) hb) (rL _),λop hop a ha e=>by
  have:=h op hop;rw[e]at this;exact rL _ (dK this ha)⟩
def Kn.ada{N:Nat}{F:Nat->Prop}(h:Kn N w t)(hF:∀b,F b->N<=b/\¬sj w b):QR F t:=
 ⟨λb hb i a ha hl=>(hF b hb).2 (h.1 i a b ha hl (hF b hb).1),λop hop a ha=>h.2 op hop a (hF _ ha).1⟩
def Kq{N:Nat}(w:ah):dF SB w w #[]/\Ek N w w #[]:=⟨dB w,λ_ _ h=>h,by simp⟩
def Sd.adb(s:Sd)(f:s.qh)(hn:s.n<1000000)(hm:s.mW<1000000)(ve:0<s.n->0<s.mW)(ap:s.Apart)(cs:List Frame){SB:Nat->Prop}{gs:Array Goroutine}{a:Goroutine}{w:ah}{t:Trace}{q:Nat->Nat}{sl:Option (Nat×Nat)}
  (h:BS prog SB gs a w t q) (h0:0<gs.size) (ha:s.Head cs 0 a) (hw:s.H w) (pZ:WgAt lk.tWg s.Wg w 0 0) (hd:∀b,SB b->¬s.Sh b/\¬s.Gr b) (nt:QR s.Gr t) (kg:opn w s.c1) (kJ:opn w s.c2):∃n gs' w' sl' t' q' gB rv R,runNT prog n (crowd gs w sl) t=(.next (crowd gs' w' sl'),t')/\gs'.size=gs.size+s.mW/\BS prog (λb=>SB b\/b=s.Wg) gs' gB w' t' q'/\s.all rv/\s.C9 cs R gB/\¬s.Sh R/\¬s.Gr R/\s.w0.heap.size<=R/\(∃c e,w'.heap[R]?=U (ay c e (0,0))/\c.size=s.n*7) /\
   (∀i v,i<s.n->rv i=U v->∃c:Array aj,v=.agg c/\c.size=7/\w'.rangeAt R (i*7) c.toList) /\
   s.H w'/\(∀i v,rv i=U v->∃F,s.fN i v F w')/\bG w w':=by
 have ho:s.dv 0 (Mine (s.par prog cs (rV SB)) SB w) w:=⟨.inr rfl,by simpa using pZ,hw⟩;have hz:∃m,(s.par prog cs (rV SB)).gt true ((s.par prog cs (rV SB)).Z 0 0 λ_=>J) m 0 (Mine (s.par prog cs (rV SB)) SB w) a w:=by
  rcases kG s.mW with e|e
  ·rw[<- e]at ha ho;exact⟨160,Gt.mono (λO g w h=>.inr ⟨e.symm,h⟩) (s.QK hn cs _ a w (by rw[e]at ha⊢;exact ha) (by rw[e]at ho⊢;exact ho))⟩
  exact⟨1060,Gt.mono (λO g w h=>.inl ⟨e,h⟩) (s.QF ap cs 0 e hm _ a w ha ho)⟩
 obtain⟨n,gs',w',sl',t',q',gB,rv,O,wS,r1,r2,r3,r4,⟨R,ade,hR,hB⟩,r6,r7,r8,r9,Kl⟩:=BS.each (sl:=sl) (q0:=gs.size-1) (ty:=lk.tWg) (B:=s.B cs) (s.ac1 f hn hm ap cs (rV SB)) ve (by show s.mW<_;omega)
  (λg w hg hw=>s.shut g w hg hw) (λrv O a w h=>s.kh cs rv O a w h) h (by omega) rfl hd (λb hb=>hw.now.lt hb) (λb hb=>hw.now.gr b hb) nt.1 (λop hop=>nt.2 op hop _ (.inl rfl)) kg kJ hw hz
 refine⟨n,gs',w',sl',t',q',gB,rv,R,r1,r2,r3,r4,hB,hR.nS,hR.nG,hR.ge,by rw[r6 R hR.oR λe=>hR.nG (.inl e)];exact hR.row,λi v hi hv=>?_,ade.on r7 r9,r8,Kl⟩;obtain⟨c,h1,h2,h3⟩:=hR.val i v hi hv;exact⟨c,h1,h2,tU h3 (r6 R hR.oR λe=>hR.nG (.inl e))⟩
def tX(D:ah->ah->Array Event->Prop)(C:(Nat->Option aj)->ah->Prop)(vals:Nat->Option aj)(i:Nat)(w:ah)(es:Array Event):Result Next->Prop
 |.ok (.value u) w'=>D w w' es/\C (dE vals i u) w'
 |.ok .skip w'=>D w w' es/\C (dE vals i undef) w'
 |_=>False
section
variable {P:Program}{main:Bool}{R:ah->ah->Prop}{D:ah->ah->Array Event->Prop}{fn:FuncId}{ops:Array Oper}{Q:Exit->Act->ah->Prop}{md:Region.Mode}{C:(Nat->Option aj)->ah->Prop}{a0:Act}
def FT(P:Program)(D:ah->ah->Array Event->Prop)(fn:FuncId)(md:Region.Mode)(ops:Array Oper)(C:(Nat->Option aj)->ah->Prop)(a0:Act)(i:Nat)(o:Oper):Prop:=
 ∀(vals:Nat->Option aj) (a:Act) (w:ah),C vals w->vals i=J->a.tmps.size=a0.tmps.size->(∀e,e∈o.after->Region.binds md e=true->∃v,vals e.on=U v/\∀d,er ops e.on=U d->a.eval (.tmp d)=v) ->
  (∀d,(∀j,er ops j≠U d)->a.eval (.tmp d)=a0.eval (.tmp d)) ->
  Region.wanted o (yielded ops a.tmps)=true/\tX D C vals i w (listed P fn a o w) ((execOp a.eval o).run P w)
def adf(hd:BG ops)(dr:∀j d,er ops j=U d->d<a0.tmps.size)
  (hback:∀i o,ops[i]?=U o->∀e,e∈o.after->Region.binds md e=true->e.on<i) (Kr:∀w,R w w) (zr:∀vals w w₁,C vals w->R w w₁->C vals w₁)
  (step:∀i o,ops[i]?=U o->FT P D fn md ops C a0 i o)
  (fin:∀(vals:Nat->Option aj) (w:ah),C vals w->(∀j,j<ops.size->(vals j).isSome=true)->Q .normal (fill ops a0 vals ops.size) w):∀(fuel:Nat) (listed:Array Bool) (vals:Nat->Option aj) (w:ah),listed.size=ops.size->(∀j,j<ops.size->listed.getD j true=(vals j).isSome)->C vals w ->
   cnt vals ops.size<=fuel->AnyCH P R D fn md ops Q (λ_=>True) fuel listed (fill ops a0 vals ops.size) w:=by
 have BH:∀(listed:Array _) (vals:Nat->Option aj),listed.size=ops.size->(∀j,j<ops.size->listed.getD j true=(vals j).isSome)->Region.ready md ops listed=[]->∀j,j<ops.size->(vals j).isSome=true:=by
  intro listed vals hsz hl hr j
  induction j using Nat.strongRecOn with
  |ind j ih=>
   intro hj
   cases hv:(vals j).isSome with
   |true=>rfl
   |false=>
    exfalso
    have hm:j∈Region.ready md ops listed:=by
     rw[mem_ready]
     refine⟨by rw[hl j hj,hv],_,eB hj,λe he hb=>?_⟩;have hlt:=hback j _ (eB hj) e he hb;have h1:=ih _ hlt (by omega);have h2:=hl e.on (by omega);rw[h1]at h2;have h3:e.on<listed.size:=by omega
     simp only[pD,eB h3,bC]at h2⊢;exact h2
    rw[hr]at hm
    cases hm
 intro fuel
 induction fuel with
 |zero=>
  intro listed vals w hsz hl hC hc;have hall:=Hg vals ops.size (by omega)
  refine⟨?_,fin _ w hC hall⟩
  cases hr:Region.ready md ops listed with
  |nil=>rfl
  |cons i r=>
   have hm:i∈Region.ready md ops listed:=by rw[hr];exact xJ ..
   rw[mem_ready]at hm;obtain⟨h0,o,ho,-⟩:=hm;have hi:=(bD.1 ho).1;rw[hl i hi,hall i hi]at h0
   cases h0
 |succ fuel ih=>
  intro listed vals w hsz hl hC hc
  refine⟨λhr=>fin _ w hC (BH _ _ hsz hl hr),λi hm=>?_⟩;rw[mem_ready]at hm;obtain⟨h0,o,ho,BI⟩:=hm;have hi:=(bD.1 ho).1;have hnone:vals i=J:=by
   rw[hl i hi]at h0
   cases hv:vals i with
   |none=>rfl
   |some v=>rw[hv]at h0;cases h0
  have dQ:er ops i=o.dst:=by simp[er,ho]
  have sW:∀(v:aj) (w':ah),C (dE vals i v) w'->AnyCH P R D fn md ops Q (λ_=>True) fuel (listed.setIfInBounds i true) ((fill ops a0 vals ops.size).put o.dst v) w':=by
   intro v w' wE;rw[<- dQ,<- He ops a0 _ hd i v hnone _ hi]
   refine ih _ _ w' (by simp[hsz]) (λj hj=>?_) wE (by have:=Hf _ i v hnone _ hi;omega)
   by_cases e:j=i
   ·subst e;simp[dE]
   rw[getD_set_ne _ (ey e),hl j hj];simp[dE,e]
  have hst:=λw₁ vB=>step i o ho vals (fill ops a0 vals ops.size) w₁ (zr _ w w₁ hC vB) hnone (Eb ..) (λe he hb=>by
    have h1:=BI e he hb;have hlt:=hback i o ho e he hb;have h2:=hl e.on (by omega);have h3:e.on<listed.size:=by omega
    have h4:(vals e.on).isSome=true:=by
     rw[<- h2];simp only[pD,eB h3,bC]at h1⊢;exact h1
    cases hv:vals e.on with
    |none=>rw[hv]at h4;cases h4
    |some v=>exact⟨v,rfl,λd wD=>Hd ops a0 _ hd _ d v hv wD (dr _ _ wD) _ (by omega)⟩)
   (λd rC=>Hc ops a0 vals d ops.size (λj _=>rC j))
  unfold OpC;simp only[ho]
  split
  ·intro w₁ vB;have h:=(hst w₁ vB).2;generalize (execOp (fill ops a0 vals ops.size).eval o).run P w₁=r at h
   cases r with
   |ok n w'=>
    cases n<;>simp only[tX]at h<;>simp only[uponK]
    case value u=>exact⟨h.1,trivial,sW _ _ h.2⟩
    case skip=>exact⟨h.1,trivial,sW _ _ h.2⟩
   |halt x w'=>simp only[tX]at h
  rename_i hw;exact absurd (hst w (Kr w)).1 hw
def adg(T:Terms R D)(hd:LetsDraw D)(Kr:∀w,R w w)(zr:∀vals w w₁,C vals w->R w w₁->C vals w₁)(hm:P.follows .mixedOrders=true)(hB:wC ops a0.tmps.size=true){id m:Nat}{b:Frame}{k:List Item}{cs:List Frame}{Stop:Goroutine->ah->Prop}(hb:b.kind≠.early)
  (h0:∀w₁,R w w₁->C (λ_=>J) { w₁ with drawn:=w₁.drawn+1 }) (step:∀i o,ops[i]?=U o->FT P D b.fn .any ops C a0 i o)
  (fin:∀(vals:Nat->Option aj) (w:ah),C vals w->(∀j,j<ops.size->(vals j).isSome=true)->Goes P main R D Stop m (G (b.at (fill ops a0 vals ops.size) k) cs) w):Goes P main R D Stop (m+(ops.size+1+1)) (G (b.at a0 (.code (.region id ops true)::k)) cs) w:=by
 unfold wC at hB;simp only[kS,mB,pG]at hB;obtain⟨⟨h1,h2⟩,h3⟩:=hB;have hnone:fill ops a0 (λ_=>J) ops.size=a0:=by
  have:∀k,fill ops a0 (λ_=>J) k=a0:=by
   intro k
   induction k with
   |zero=>rfl
   |succ k ih=>simp only[fill,ih]
  exact this _
 have hw:(Code.region id ops true).wpC P main R D b.fn (ops.size+1+1) (λe a' w'=>e=.normal/\∃vals,a'=fill ops a0 vals ops.size/\C vals w'/\∀j,j<ops.size->(vals j).isSome=true) a0 w:=by
  refine wpC_region_held T hd hm (S:=λ_=>True) λw₁ vB=>?_
  have key:=adf (P:=P) (R:=R) (D:=D) (fn:=b.fn) (ops:=ops) (Q:=λe a' w'=>e=.normal/\∃vals,a'=fill ops a0 vals ops.size/\C vals w'/\∀j,j<ops.size->(vals j).isSome=true) (md:=.any) (C:=C) (a0:=a0)
   (λi j d hne hi hj=>by
    have h:=h1 i (sV hi) j (sV hj);simp[hne,hi,hj]at h)
   (λj d hj=>by
    have h:=h2 j (sV hj);rw[hj]at h;simpa using h)
   (λi o ho e he hb=>by
    have h:=h3 i (bD.1 ho).1;rw[ho]at h;have:=mB.1 h e (by simpa using he);simpa[hb]using this)
   Kr zr step (λvals w hC hall=>⟨rfl,vals,rfl,hC,hall⟩) ops.size (Array.replicate ops.size false) (λ_=>J) { w₁ with drawn:=w₁.drawn+1 } (by simp) (λj hj=>by simp[hj]) (h0 w₁ vB) (by
    have:∀k,cnt (λ_=>J) k<=k:=by
     intro k
     induction k with
     |zero=>exact aR _
     |succ k ih=>simp only[cnt];split<;>omega
    exact this _)
  rw[hnone]at key;exact key
 refine hw b k cs Stop m rfl hb λe a' w' ⟨he,vals,ha,hC,hall⟩=>?_
 subst he ha;exact fin vals w' hC hall
end
section
variable {P:Program}{main:Bool}{SB:Nat->Prop}{N:Nat}{w w':ah}{g:Goroutine}{n m:Nat}
def alloc_at{w:ah}{o:Obj}(h:b<w.heap.size):(w.alloc o).heap[b]?=w.heap[b]?:=(wa ..).trans (aF (by omega))
def sj.lt(h:sj w b):b<w.heap.size:=by
 obtain⟨_,_,e⟩:=h;exact(bD.1 e).1
def C_{o:Obj}:dF SB w (w.alloc o) #[]/\Ek N w (w.alloc o) #[]:=by
 refine⟨⟨by show w.heap.size<=(w.heap.push o).size;rw[rK];omega,by simp⟩,λb _ h=>?_,by simp⟩;obtain⟨v,e,hb⟩:=id h;exact⟨v,e,by rw[alloc_at h.lt];exact hb⟩
def QS{v:aj}(h:w.heap[b]?=U (ay #[u] e (0,0))):(w.setCell (ar b 0 J) v).heap[b]?=U (ay #[v] e (0,0)):=by
 simp[cZ,fR,h]
def FU{c:Nat}{v:aj}(h:c≠b):(w.setCell (ar b 0 J) v).heap[c]?=w.heap[c]?:=by
 simp only[cZ];rw[fR,aF (ey h)]
def adh{v:aj}(h:sj w b)(hs:¬SB b):dF SB w (w.setCell (ar b 0 J) v) #[⟨.cell ⟨b,0,J⟩,true,false⟩]/\Ek N w (w.setCell (ar b 0 J) v) #[⟨.cell ⟨b,0,J⟩,true,false⟩]:=by
 have hz:(w.setCell (ar b 0 J) v).heap.size=w.heap.size:=size_set ..;have hS:sj (w.setCell (ar b 0 J) v) b:=by
  obtain⟨u,e,hb⟩:=h;exact⟨v,e,QS hb⟩
 refine⟨⟨uX hz.symm,λe he=>?_⟩,λc _ hc=>?_,λe he=>?_⟩
 ·obtain rfl:e=_:=by simpa using he
  refine⟨λx hx lF=>?_,by simp,by simp,?_⟩
  ·cases hx
   obtain⟨c,hc,hc2⟩:=lF
   cases hc
   exact absurd hc2 hs
  show b<_
  rw[hz];exact h.lt
 ·by_cases e:c=b
  ·subst e;exact hS
  obtain⟨u,t,hb⟩:=hc;exact⟨u,t,by rw[FU e];exact hb⟩
 obtain rfl:e=_:=by simpa using he
 refine⟨λx c hx hl _=>?_,by simp⟩
 cases hx
 cases hl
 exact hS
def goes_quiet{R:ah->ah->Prop}{D:ah->ah->Array Event->Prop}(hR:∀w,R w w)(hD:∀w,D w w #[]):∀{n:Nat} {g:Goroutine} {w:ah},Goes P main R Go.ConcR.DC0 (λg w=>Goes P main R D Stop m g w) n g w->Goes P main R D Stop (n+m) g w
 |0,g,w,h=>by rw[pH];exact h w (hR w)
 |n+1,g,w,h=>by
  rcases h with h|⟨hs,h⟩
  ·exact tD (by omega) (h w (hR w))
  rw[show n+1+m=n+m+1 by omega]
  refine .inr ⟨hs,λw₁ h₁=>?_⟩;have h2:=h w₁ h₁
  cases hg:stepG P main g w₁ with
  |go g' w' es=>
   rw[hg,goes_go]at h2;rw[goes_go];obtain⟨rfl,rfl⟩:=h2.1;exact⟨hD _,goes_quiet hR hD h2.2⟩
  |_=>rw[hg]at h2;exact h2.elim
variable {R:ah->ah->Prop}{D:ah->ah->Array Event->Prop}{Stop:Goroutine->ah->Prop}{b:Frame}{a:Act}{kk:List Item}{cs:List Frame}{ops:Array Oper}{i:Nat}{rest:List Nat}{o:Oper}
def FV(ho:ops[i]?=U o)(hw:Region.wanted o (yielded ops a.tmps)=true)(hk:b.kind≠.early)(h:∀w₁,R w w₁->∃v w',(execOp a.eval o).run P w₁=.ok (.value v) w'/\D w₁ w' (listed P b.fn a o w₁)/\Goes P main R D Stop n (G (b.at (a.put o.dst v) (.inRegion ops rest::kk)) cs) w'):Goes P main R D Stop (n+1) (G (b.at a (.inRegion ops (i::rest)::kk)) cs) w:=by
 refine Goes.step rfl λw₁ h₁=>?_
 obtain⟨v,w',e1,e2,e3⟩:=h w₁ h₁;rw[stepG_value ho hw hk e1];exact⟨e2,e3⟩
def tY(ho:ops[i]?=U o)(hw:Region.wanted o (yielded ops a.tmps)=true)(hk:b.kind≠.early)(h:∀w₁,R w w₁->∃v w',(execOp a.eval o).run P w₁=.ok (.value v) w'/\(execOp a.eval o).events P w₁ #[]=#[]/\D w₁ w' #[]/\Goes P main R D Stop n (G (b.at (a.put o.dst v) (.inRegion ops rest::kk)) cs) w'):Goes P main R D Stop (n+1) (G (b.at a (.inRegion ops (i::rest)::kk)) cs) w:=
 FV ho hw hk λw₁ h₁=>by
  obtain⟨v,w',e1,e2,e3,e4⟩:=h w₁ h₁;exact⟨v,w',e1,by rw[listed_nil e2];exact e3,e4⟩
end
structure adi(M:Nat)(w1:ah)(vals:Nat->Option aj)(w:ah)(c b:Nat->Nat):Prop where
 same:bG w1 w
 old:∀x,x<M->w.heap[x]?=w1.heap[x]?
 le:M<=w.heap.size
 ch:∀p,p<2->∀v,vals p=U v->v=.chan (U (c p))/\M<=c p/\opn w (c p)
 bx:∀p,p<2->∀v,vals (2+p)=U v->v=Sd.ptr (b p)/\M<=b p/\∃u e,w.heap[b p]?=U (ay #[u] e (0,0))/\(vals (4+p)≠J->u=.chan (U (c p)))
 FW:vals 0≠J->vals 1≠J->c 0≠c 1
 bne:vals 2≠J->vals 3≠J->b 0≠b 1
 dep:∀p,p<2->vals (4+p)≠J->vals p≠J/\vals (2+p)≠J
def Dr(M:Nat)(w1:ah)(vals:Nat->Option aj)(w:ah):Prop:=∃c b,adi M w1 vals w c b
section
variable {M:Nat}{w1 w:ah}{vals:Nat->Option aj}{p:Nat}
def jr(vals:Nat->Option aj)(i:Nat)(v:aj)(j:Nat):dE vals i v j=if j=i then U v else vals j:=rfl
def Ks{w:ah}{c:Nat}(h:opn w c):c<w.heap.size:=by
 obtain⟨_,e⟩:=h;exact(bD.1 e).1
def QT{x:Option aj}(h:x≠J):∃v,x=U v:=Option.ne_none_iff_exists'.1 h
def Dr.on(h:Dr M w1 vals w)(hw:w'.heap=w.heap)(hs:bG w w'):Dr M w1 vals w':=by
 obtain⟨c,b,h⟩:=h
 refine⟨c,b,⟨hs.os.trans h.same.os,hs.o.trans h.same.o,hs.tape.trans h.same.tape,bH h.same.size hs.size⟩,λx hx=>by rw[hw];exact h.old x hx,by rw[hw];exact h.le,λp hp v hv=>?_,λp hp v hv=>by rw[hw];exact h.bx p hp v hv,h.FW,h.bne,h.dep⟩;obtain⟨h1,h2,s,h3⟩:=h.ch p hp v hv;exact⟨h1,h2,s,by rw[hw];exact h3⟩
def tZ{o:Obj}(h:bG w1 w):bG w1 (w.alloc o):=⟨h.os,h.o,h.tape,bH h.size zo⟩
def Dr.chan(h:Dr M w1 vals w)(hp:p<2)(hn:vals p=J):Dr M w1 (dE vals p (.chan (U w.heap.size))) (w.alloc (.chan 0 #[] false 0 0 false)):=by
 obtain⟨c,b,h⟩:=h;have lt:∀q,q<2->vals q≠J->c q<w.heap.size:=λq hq hv=>by
  obtain⟨v,e⟩:=QT hv;exact Ks (h.ch q hq v e).2.2
 refine⟨λq=>if q=p then w.heap.size else c q,b,tZ h.same,λx hx=>(alloc_at (dK hx h.le)).trans (h.old x hx),bH h.le zo,λq hq v hv=>?_,λq hq v hv=>?_,λh0 h1=>?_,λh2 h3=>?_,λq hq hv=>?_⟩
 ·rw[jr]at hv
  by_cases e:q=p
  ·subst e;rw[aU rfl]at hv
   cases hv
   refine⟨by rw[aU rfl],by rw[aU rfl];exact h.le,?_⟩;rw[aU rfl];exact⟨0,dT _ _⟩
  rw[aF e]at hv;obtain⟨h1,h2,s,h3⟩:=h.ch q hq v hv;rw[aF e];exact⟨h1,h2,s,(alloc_at (Ks ⟨s,h3⟩)).trans h3⟩
 ·rw[jr,aF (by omega)]at hv;obtain⟨h1,h2,u,e,h3,h4⟩:=h.bx q hq v hv
  refine⟨h1,h2,u,e,(alloc_at (bD.1 h3).1).trans h3,λh5=>?_⟩;rw[jr,aF (by omega)]at h5;have h6:=h4 h5
  by_cases e:q=p
  ·subst e;exact absurd hn (h.dep q hq h5).1
  rw[aF e];exact h6
 ·rw[jr]at h0 h1;obtain rfl|rfl:p=0\/p=1:=by omega
  ·rw[aF (by omega)]at h1;have:=lt 1 (by omega) h1;show (if 0=0 then w.heap.size else c 0)≠(if 1=0 then w.heap.size else c 1)
   simp;omega
  rw[aF (by omega)]at h0;have:=lt 0 (by omega) h0;show (if 0=1 then w.heap.size else c 0)≠(if 1=1 then w.heap.size else c 1)
  simp;omega
 ·rw[jr,aF (by omega)]at h2 h3;exact h.bne h2 h3
 rw[jr,aF (by omega)]at hv;obtain⟨h1,h2⟩:=h.dep q hq hv;rw[jr,jr,aF (by omega:¬2+q=p)]
 refine⟨?_,h2⟩
 split
 ·simp
 exact h1
def Dr.box(h:Dr M w1 vals w)(hp:p<2)(hn:vals (2+p)=J):Dr M w1 (dE vals (2+p) (Sd.ptr w.heap.size)) (w.alloc (ay #[u] e (0,0))):=by
 obtain⟨c,b,h⟩:=h;have lt:∀q,q<2->vals (2+q)≠J->b q<w.heap.size:=λq hq hv=>by
  obtain⟨v,e⟩:=QT hv;obtain⟨_,_,_,_,h3,_⟩:=h.bx q hq v e;exact(bD.1 h3).1
 refine⟨c,λq=>if q=p then w.heap.size else b q,tZ h.same,λx hx=>(alloc_at (dK hx h.le)).trans (h.old x hx),bH h.le zo,λq hq v hv=>?_,λq hq v hv=>?_,λh0 h1=>?_,λh2 h3=>?_,λq hq hv=>?_⟩
 ·rw[jr,aF (by omega)]at hv;obtain⟨h1,h2,s,h3⟩:=h.ch q hq v hv;exact⟨h1,h2,s,(alloc_at (Ks ⟨s,h3⟩)).trans h3⟩
 ·rw[jr]at hv
  by_cases eq:q=p
  ·subst eq;rw[aU rfl]at hv
   cases hv
   refine⟨by rw[aU rfl],by rw[aU rfl];exact h.le,u,e,by rw[aU rfl];exact dT _ _,λh5=>?_⟩;rw[jr,aF (by omega)]at h5;exact absurd hn (h.dep q hq h5).2
  rw[aF (by omega)]at hv;obtain⟨h1,h2,u',e',h3,h4⟩:=h.bx q hq v hv;rw[aF eq]
  refine⟨h1,h2,u',e',(alloc_at (bD.1 h3).1).trans h3,λh5=>?_⟩;rw[jr,aF (by omega)]at h5;exact h4 h5
 ·rw[jr,aF (by omega)]at h0 h1;exact h.FW h0 h1
 ·rw[jr]at h2 h3;obtain rfl|rfl:p=0\/p=1:=by omega
  ·rw[aF (by omega)]at h3;have:=lt 1 (by omega) h3;show (if 0=0 then w.heap.size else b 0)≠(if 1=0 then w.heap.size else b 1)
   simp;omega
  rw[aF (by omega)]at h2;have:=lt 0 (by omega) h2;show (if 0=1 then w.heap.size else b 0)≠(if 1=1 then w.heap.size else b 1)
  simp;omega
 rw[jr,aF (by omega)]at hv;obtain⟨h1,h2⟩:=h.dep q hq hv;rw[jr,jr,aF (by omega:¬q=2+p)]
 refine⟨h1,?_⟩
 split
 ·simp
 exact h2
def Dr.set{v0:aj}{c0 b0:Nat}(h:Dr M w1 vals w)(hp:p<2)(h0:vals p=U (.chan (U c0)))(h2:vals (2+p)=U (Sd.ptr b0)):M<=b0/\sj w b0/\Dr M w1 (dE vals (4+p) v0) (w.setCell (ar b0 0 J) (.chan (U c0))):=by
 obtain⟨c,b,h⟩:=h;obtain⟨e1,e2,s,e3⟩:=h.ch p hp _ h0;obtain⟨f1,f2,u,e,f3,f4⟩:=h.bx p hp _ h2;obtain rfl:c0=c p:=by simpa using e1
 obtain rfl:b0=b p:=by simpa[Sd.ptr]using f1
 have hz:(w.setCell ⟨b p,0,J⟩ (.chan (U (c p)))).heap.size=w.heap.size:=size_set ..;have other:∀{x:Nat},(∀y t,w.heap[x]?≠U (ay y t (0,0)))->x≠b p:=λhx e'=>hx _ _ (e'▸f3)
 refine⟨f2,⟨u,e,f3⟩,c,b,⟨h.same.os,h.same.o,h.same.tape,by rw[hz];exact h.same.size⟩,λx hx=>?_,by rw[hz];exact h.le,λq hq v hv=>?_,λq hq v hv=>?_,λk0 k1=>?_,λk2 k3=>?_,λq hq hv=>?_⟩
 ·rw[FU (by omega)];exact h.old x hx
 ·rw[jr,aF (by omega)]at hv;obtain⟨h1,h2,s,h3⟩:=h.ch q hq v hv;exact⟨h1,h2,s,by rw[FU (other λy t e'=>by rw[h3]at e';cases e')];exact h3⟩
 ·rw[jr,aF (by omega)]at hv;obtain⟨g1,g2,u',e',g3,g4⟩:=h.bx q hq v hv
  by_cases eq:q=p
  ·subst eq;exact⟨g1,g2,_,e,QS f3,λ_=>rfl⟩
  have hb:b q≠b p:=by
   have hx:vals (2+q)≠J:=by rw[hv];simp
   have hy:vals (2+p)≠J:=by rw[‹vals (2+p)=_›];simp
   obtain⟨rfl,rfl⟩|⟨rfl,rfl⟩:(q=0/\p=1)\/(q=1/\p=0):=by omega
   ·exact h.bne hx hy
   exact λe'=>h.bne hy hx e'.symm
  refine⟨g1,g2,u',e',by rw[FU hb];exact g3,λh5=>?_⟩;rw[jr,aF (by omega)]at h5;exact g4 h5
 ·rw[jr,aF (by omega)]at k0 k1;exact h.FW k0 k1
 ·rw[jr,aF (by omega)]at k2 k3;exact h.bne k2 k3
 rw[jr,aF (by omega),jr,aF (by omega)];rw[jr]at hv
 by_cases eq:q=p
 ·subst eq;exact⟨by rw[h0];simp,by rw[‹vals (2+q)=_›];simp⟩
 rw[aF (by omega)]at hv;exact h.dep q hq hv
end
def adj(cs:List Frame)(n m bl:Nat)(w:ah)(g:Goroutine)(w':ah):Prop:=∃Wg c1 c2 bn bd ba:Nat,bG w w'/\(∀b,b<w.heap.size->w'.heap[b]?=w.heap[b]?) /\
 (w.heap.size<=Wg/\w.heap.size<=c1/\w.heap.size<=c2/\w.heap.size<=bn/\w.heap.size<=bd/\w.heap.size<=ba)/\opn w' c1/\opn w' c2/\c1≠c2/\w'.cell? (ar bn 0 J)=U (.chan (U c1))/\w'.cell? (ar bd 0 J)=U (.chan (U c2)) /\
 w'.cell? (ar ba 0 J)=U (.func (.func 12) #[] #[Sd.ptr bl])/\WgAt lk.tWg Wg w' 0 0/\∀s:Sd,s.n=n->s.mW=min m n->s.bl=bl->s.Wg=Wg->s.c1=c1->s.c2=c2->s.bn=bn->s.bd=bd->s.ba=ba->s.Head cs 0 g
def adk(cs:List Frame)(n m bl:Nat)(w:ah)(eU:∀b,SB b->b<w.heap.size):Goes prog true AtRel (λx x' es=>dF SB x x' es/\Ek w.heap.size x x' es) (adj cs n m bl w) 100 (G ((base jW).at ⟨(af I n::af I m::.func (.func 12) #[] #[Sd.ptr bl]::List.replicate 29 undef).toArray,[]⟩ [.code (cE f11)]) cs) w:=by
 have hF:w.heap=w.heap/\bG w w:=⟨rfl,rfl,rfl,rfl,aR _⟩;have rl:∀{x x₁:ah},(x.heap=w.heap/\bG w x)->AtRel x x₁->(x₁.heap=w.heap/\bG w x₁):=λh r=>by obtain⟨d,rfl⟩:=r;exact⟨h.1,h.2.os,h.2.o,h.2.tape,h.2.size⟩
 simp only[cE,f11,bC,List.replicate]
 refine goes_quiet (n:=2) (m:=98) atRel_refl (λw=>Kq w) ?_;u_c stepG_seq rl hF
 u_reg rl hF
 refine Goes.stop λw₁ h₁=>?_
 replace hF:=rl hF h₁
 clear h₁
 refine tY (n:=97) rfl rfl (by k_ne) λw₂ h₂=>⟨ax (U (ar w₂.heap.size 0 J)),w₂.alloc (ay #[.func (.func 12) #[] #[Sd.ptr bl]] 44 (0,0)),?_,?_,C_,?_⟩
 ·simp[execOp,go_sem]
 ·simp[execOp,go_sem]
 replace hF:=rl hF h₂
 obtain⟨N,hN⟩:∃N,N=w.heap.size:=⟨_,rfl⟩;have hA:(∀b,b<N->(w₂.alloc (ay #[.func (.func 12) #[] #[Sd.ptr bl]] 44 (0,0))).heap[b]?=w.heap[b]?)/\bG w (w₂.alloc (ay #[.func (.func 12) #[] #[Sd.ptr bl]] 44 (0,0)))/\(w₂.alloc (ay #[.func (.func 12) #[] #[Sd.ptr bl]] 44 (0,0))).heap[N]?=U (ay #[.func (.func 12) #[] #[Sd.ptr bl]] 44 (0,0))/\(w₂.alloc (ay #[.func (.func 12) #[] #[Sd.ptr bl]] 44 (0,0))).heap.size=N+1:=by
  have e:w₂.heap.size=N:=by rw[hN,hF.1]
  refine⟨λb hb=>(alloc_old (by omega)).trans (by rw[hF.1]),tZ hF.2,by rw[<- e];exact dT _ _,?_⟩;rw[<- e];exact rK ..
 rw[show w₂.heap.size=N by rw[hN,hF.1],<- hN];rw[<- hN]at eU;generalize w₂.alloc _=W at hA;clear hF rl h₂;walk_nrm
 have hF:=hA;have rl:∀{x x₁:ah},((∀b,b<N->x.heap[b]?=w.heap[b]?)/\bG w x/\x.heap[N]?=U (ay #[.func (.func 12) #[] #[Sd.ptr bl]] 44 (0,0))/\x.heap.size=N+1)->AtRel x x₁->((∀b,b<N->x₁.heap[b]?=w.heap[b]?)/\bG w x₁/\x₁.heap[N]?=U (ay #[.func (.func 12) #[] #[Sd.ptr bl]] 44 (0,0))/\x₁.heap.size=N+1):=λh r=>by obtain⟨d,rfl⟩:=r;exact⟨h.1,⟨h.2.1.os,h.2.1.o,h.2.1.tape,h.2.1.size⟩,h.2.2⟩
 refine goes_quiet (n:=10) (m:=87) atRel_refl (λw=>Kq w) ?_;u_op rl hF
 u_op rl hF
 u_c stepG_region_end rl hF
 u_c stepG_seq rl hF
 refine Goes.stop λw₁ h₁=>?_
 replace hF:=rl hF h₁
 clear h₁;simp only[<- hN];have hD:∀w:ah,dF SB w w #[]/\Ek N w w #[]:=λw=>Kq w
 refine tD (show 79+(6+1+1)<=87 by omega) (adg (C:=Dr (N+1) w₁) ⟨atRel_trans,hD⟩ (λw=>⟨⟨aR _,by simp⟩,λ_ _ h=>h,by simp⟩) atRel_refl (λvals x x₁ h r=>by obtain⟨d,rfl⟩:=r;exact h.on rfl ⟨rfl,rfl,rfl,aR _⟩) (by kernel_rfl) (by kernel_rfl) (by k_ne) (λx r=>?_) (λi o ho=>?_) λvals x hC hall=>?_)
 ·obtain⟨d,rfl⟩:=r;exact⟨λ_=>0,λ_=>0,⟨rfl,rfl,rfl,aR _⟩,λ_ _=>rfl,uX hF.2.2.2.symm,λ_ _ _ h=>(by cases h),λ_ _ _ h=>(by cases h),λh=>absurd rfl h,λh=>absurd rfl h,λ_ _ h=>absurd rfl h⟩
 ·have hi:i<6:=by simpa using(bD.1 ho).1
  intro vals a x hC hn hsz aY bj;have chan:∀p,p<2->i=p->(execOp a.eval o).run prog x=.ok (.value (.chan (U x.heap.size))) (x.alloc (.chan 0 #[] false 0 0 false))->(execOp a.eval o).events prog x #[]=#[]->tX (λx x' es=>dF SB x x' es/\Ek N x x' es) (Dr (N+1) w₁) vals i x (listed prog (base jW).fn a o x) ((execOp a.eval o).run prog x):=λp hp e h1 h2=>by
   subst e;rw[h1,listed_nil (b:=base jW) h2];exact⟨C_,hC.chan hp hn⟩
  have box:∀p e,p<2->i=2+p->(execOp a.eval o).run prog x=.ok (.value (Sd.ptr x.heap.size)) (x.alloc (ay #[.chan J] e (0,0)))->(execOp a.eval o).events prog x #[]=#[]->tX (λx x' es=>dF SB x x' es/\Ek N x x' es) (Dr (N+1) w₁) vals i x (listed prog (base jW).fn a o x) ((execOp a.eval o).run prog x):=λp e hp ei h1 h2=>by
   subst ei;rw[h1,listed_nil (b:=base jW) h2];exact⟨C_,hC.box hp hn⟩
  have set:∀p,p<2->i=4+p->∀v0 v2,vals p=U v0->vals (2+p)=U v2->∃c0 b0,v0=.chan (U c0)/\v2=ax (U (ar b0 0 J))/\(∃u,x.cell? (ar b0 0 J)=U u)/\x.frozen? (ar b0 0 J)=false /\
    ((execOp a.eval o).run prog x=.ok .skip (x.setCell (ar b0 0 J) (.chan (U c0)))->(∀e∈(execOp a.eval o).events prog x #[],e=⟨.cell ⟨b0,0,J⟩,true,false⟩)->tX (λx x' es=>dF SB x x' es/\Ek N x x' es) (Dr (N+1) w₁) vals i x (listed prog (base jW).fn a o x) ((execOp a.eval o).run prog x)):=λp hp ei v0 v2 h0 h2=>by
   subst ei;obtain⟨c,b,hd⟩:=id hC;obtain⟨rfl,-,-⟩:=hd.ch p hp v0 h0;obtain⟨rfl,-,u,e,hrow,-⟩:=hd.bx p hp v2 h2;obtain⟨g1,g2,g3⟩:=hC.set (v0:=undef) hp h0 h2
   refine⟨c p,b p,rfl,rfl,⟨u,by simp[aL,hrow]⟩,by simp[bE,hrow],λh1 h2=>?_⟩;rw[h1];have hd:=adh (SB:=SB) (N:=N) (v:=.chan (U (c p))) g2 λhs=>by have:=eU _ hs;omega
   have sub:∀e∈listed prog (base jW).fn a o x,e∈(#[⟨.cell ⟨b p,0,J⟩,true,false⟩]:Array Event):=λe he=>by rw[h2 e (mem_listed he)];simp
   exact⟨⟨⟨hd.1.1,λe he=>hd.1.2 e (sub e he)⟩,hd.2.1,λe he=>hd.2.2 e (sub e he)⟩,g3⟩
  obtain rfl|rfl|rfl|rfl|rfl|rfl:i=0\/i=1\/i=2\/i=3\/i=4\/i=5:=by omega
  ·cases ho
   exact⟨rfl,chan 0 (by omega) rfl (by kernel_rfl) (by kernel_rfl)⟩
  ·cases ho
   exact⟨rfl,chan 1 (by omega) rfl (by kernel_rfl) (by kernel_rfl)⟩
  ·cases ho
   exact⟨rfl,box 0 61 (by omega) rfl (by kernel_rfl) (by kernel_rfl)⟩
  ·cases ho
   exact⟨rfl,box 1 62 (by omega) rfl (by kernel_rfl) (by kernel_rfl)⟩
  ·cases ho
   obtain⟨v0,h0,k0⟩:=aY ⟨0,.data⟩ (by simp) rfl;obtain⟨v2,h2,k2⟩:=aY ⟨2,.data⟩ (by simp) rfl;obtain⟨c0,b0,rfl,rfl,⟨u,hc⟩,hf,hg⟩:=set 0 (by omega) rfl v0 v2 h0 h2;have k0:=k0 12 rfl;have k2:=k2 8 rfl
   refine⟨rfl,hg ?_ ?_⟩
   ·generalize a.eval=ρ at k0 k2;simp[execOp,go_sem,k0,k2,hc,hf]
   intro e he;generalize a.eval=ρ at k0 k2 he;simp[execOp,go_sem,k0,k2,hc,hf]at he
   exact he
  cases ho
  obtain⟨v0,h0,k0⟩:=aY ⟨1,.data⟩ (by simp) rfl;obtain⟨v2,h2,k2⟩:=aY ⟨3,.data⟩ (by simp) rfl;obtain⟨c0,b0,rfl,rfl,⟨u,hc⟩,hf,hg⟩:=set 1 (by omega) rfl v0 v2 h0 h2;have k0:=k0 13 rfl;have k2:=k2 9 rfl
  refine⟨rfl,hg ?_ ?_⟩
  ·generalize a.eval=ρ at k0 k2;simp[execOp,go_sem,k0,k2,hc,hf]
  intro e he;generalize a.eval=ρ at k0 k2 he;simp[execOp,go_sem,k0,k2,hc,hf]at he
  exact he
 obtain⟨c,b,hd⟩:=hC;obtain⟨v0,e0⟩:=ou.1 (hall 0 (by simp));obtain⟨v1,e1⟩:=ou.1 (hall 1 (by simp));obtain⟨v2,e2⟩:=ou.1 (hall 2 (by simp));obtain⟨v3,e3⟩:=ou.1 (hall 3 (by simp));obtain⟨v4,e4⟩:=ou.1 (hall 4 (by simp));obtain⟨v5,e5⟩:=ou.1 (hall 5 (by simp));obtain⟨rfl,m0,o0⟩:=hd.ch 0 (by omega) v0 e0;obtain⟨rfl,m1,o1⟩:=hd.ch 1 (by omega) v1 e1;obtain⟨rfl,m2,u2,t2,o2,f2⟩:=hd.bx 0 (by omega) v2 e2;obtain⟨rfl,m3,u3,t3,o3,f3⟩:=hd.bx 1 (by omega) v3 e3;obtain rfl:=f2 (by rw[e4];simp);obtain rfl:=f3 (by rw[e5];simp);have adl:=hd.FW (by rw[e0];simp) (by rw[e1];simp);simp only[fill,er,wT,List.getElem?_cons_succ,vZ,Aa,e0,e1,e2,e3,e4,e5,List.size_toArray,wu,sR,Nat.reduceAdd,pH];walk_nrm
 have hG:(∀y,y<N->x.heap[y]?=w.heap[y]?)/\bG w x/\x.heap[N]?=U (ay #[.func (.func 12) #[] #[Sd.ptr bl]] 44 (0,0))/\opn x (c 0)/\opn x (c 1)/\x.heap[b 0]?=U (ay #[.chan (U (c 0))] t2 (0,0))/\x.heap[b 1]?=U (ay #[.chan (U (c 1))] t3 (0,0))/\N+1<=x.heap.size:=
  ⟨λy hy=>(hd.old y (by omega)).trans (hF.1 y hy),⟨hd.same.os.trans hF.2.1.os,hd.same.o.trans hF.2.1.o,hd.same.tape.trans hF.2.1.tape,bH hF.2.1.size hd.same.size⟩,(hd.old N (by omega)).trans hF.2.2.1,o0,o1,o2,o3,hd.le⟩
 clear hd hall hF e0 e1 e2 e3 e4 e5 o0 o1 o2 o3 f2 f3;generalize c 0=c1 at *;generalize c 1=c2 at *;generalize b 0=bn at *;generalize b 1=bd at *;have hF:=hG;have rl:∀{x x₁:ah},((∀y,y<N->x.heap[y]?=w.heap[y]?)/\bG w x/\x.heap[N]?=U (ay #[.func (.func 12) #[] #[Sd.ptr bl]] 44 (0,0))/\opn x c1/\opn x c2/\x.heap[bn]?=U (ay #[.chan (U c1)] t2 (0,0))/\x.heap[bd]?=U (ay #[.chan (U c2)] t3 (0,0))/\N+1<=x.heap.size)->AtRel x x₁ ->
   ((∀y,y<N->x₁.heap[y]?=w.heap[y]?)/\bG w x₁/\x₁.heap[N]?=U (ay #[.func (.func 12) #[] #[Sd.ptr bl]] 44 (0,0))/\opn x₁ c1/\opn x₁ c2/\x₁.heap[bn]?=U (ay #[.chan (U c1)] t2 (0,0))/\x₁.heap[bd]?=U (ay #[.chan (U c2)] t3 (0,0))/\N+1<=x₁.heap.size):=λh r=>by obtain⟨d,rfl⟩:=r;exact⟨h.1,⟨h.2.1.os,h.2.1.o,h.2.1.tape,h.2.1.size⟩,h.2.2⟩
 refine goes_quiet (n:=4) (m:=75) atRel_refl hD ?_;u_c stepG_seq rl hF
 u_reg rl hF
 refine Goes.stop λw₃ h₃=>?_
 replace hF:=rl hF h₃
 clear h₃
 refine tY (n:=74) rfl rfl (by k_ne) λw₄ h₄=>⟨ax (U (ar w₄.heap.size 0 J)),w₄.alloc (Go.ConcR.wgBlock lk.tWg 0 0),by kernel_rfl,by kernel_rfl,C_,?_⟩
 replace hF:=rl hF h₄
 have h1:(∀y,y<N->(w₄.alloc (Go.ConcR.wgBlock lk.tWg 0 0)).heap[y]?=w.heap[y]?)/\bG w (w₄.alloc (Go.ConcR.wgBlock lk.tWg 0 0))/\(w₄.alloc (Go.ConcR.wgBlock lk.tWg 0 0)).heap[N]?=U (ay #[.func (.func 12) #[] #[Sd.ptr bl]] 44 (0,0))/\opn (w₄.alloc (Go.ConcR.wgBlock lk.tWg 0 0)) c1/\opn (w₄.alloc (Go.ConcR.wgBlock lk.tWg 0 0)) c2/\(w₄.alloc (Go.ConcR.wgBlock lk.tWg 0 0)).heap[bn]?=U (ay #[.chan (U c1)] t2 (0,0))/\(w₄.alloc (Go.ConcR.wgBlock lk.tWg 0 0)).heap[bd]?=U (ay #[.chan (U c2)] t3 (0,0))/\WgAt lk.tWg w₄.heap.size (w₄.alloc (Go.ConcR.wgBlock lk.tWg 0 0)) 0 0:=by
  obtain⟨f1,f2,f3,⟨s1,f4⟩,⟨s2,f5⟩,f6,f7,f8⟩:=hF;have lt:∀{y:Nat} {o:Obj},w₄.heap[y]?=U o->y<w₄.heap.size:=λh=>(bD.1 h).1
  exact⟨λy hy=>(alloc_old (by omega)).trans (f1 y hy),tZ f2,(alloc_old (lt f3)).trans f3,⟨s1,(alloc_old (lt f4)).trans f4⟩,⟨s2,(alloc_old (lt f5)).trans f5⟩,(alloc_old (lt f6)).trans f6,(alloc_old (lt f7)).trans f7,dT _ _⟩
 have QU:N<=w₄.heap.size:=by have:=hF.2.2.2.2.2.2.2;omega
 walk_nrm
 generalize w₄.alloc _=W4 at h1;generalize w₄.heap.size=Wg at h1 QU;clear hF rl h₄ w₄ w₃;have hF:=h1;have rl:∀{x x₁:ah},((∀y,y<N->x.heap[y]?=w.heap[y]?)/\bG w x/\x.heap[N]?=U (ay #[.func (.func 12) #[] #[Sd.ptr bl]] 44 (0,0))/\opn x c1/\opn x c2/\x.heap[bn]?=U (ay #[.chan (U c1)] t2 (0,0))/\x.heap[bd]?=U (ay #[.chan (U c2)] t3 (0,0))/\WgAt lk.tWg Wg x 0 0)->AtRel x x₁ ->
   ((∀y,y<N->x₁.heap[y]?=w.heap[y]?)/\bG w x₁/\x₁.heap[N]?=U (ay #[.func (.func 12) #[] #[Sd.ptr bl]] 44 (0,0))/\opn x₁ c1/\opn x₁ c2/\x₁.heap[bn]?=U (ay #[.chan (U c1)] t2 (0,0))/\x₁.heap[bd]?=U (ay #[.chan (U c2)] t3 (0,0))/\WgAt lk.tWg Wg x₁ 0 0):=λh r=>by obtain⟨d,rfl⟩:=r;exact⟨h.1,⟨h.2.1.os,h.2.1.o,h.2.1.tape,h.2.1.size⟩,h.2.2⟩
 refine goes_quiet (n:=20) (m:=54) atRel_refl hD ?_;u_c stepG_region_end rl hF
 u_c stepG_seq rl hF
 u_c stepG_seq rl hF
 u_reg rl hF
 u_op rl hF
 u_op rl hF
 refine Goes.stop λw₃ h₃=>?_
 replace hF:=rl hF h₃
 clear h₃
 refine tY (n:=53) rfl rfl (by k_ne) λw₄ h₄=>⟨af I ((min m n:Nat):Int),w₄,?_,?_,hD _,?_⟩
 ·simp[execOp,go_sem]
  omega
 ·simp[execOp,go_sem,Builtin.min_,Builtin.min2]
 replace hF:=rl hF h₄
 walk_nrm
 refine goes_quiet (n:=20) (m:=33) atRel_refl hD ?_;u_op rl hF
 u_c stepG_region_end rl hF
 u_c stepG_block rl hF
 u_c stepG_loop rl hF
 refine Goes.stop λw₅ h₅=>Goes.stop λw₆ h₆=>?_
 replace hF:=rl (rl hF h₅) h₆
 obtain⟨f1,f2,f3,f4,f5,f6,f7,f8⟩:=hF
 refine⟨Wg,c1,c2,bn,bd,N,f2,by rw[<- hN];exact f1,by rw[<- hN];exact⟨QU,by omega,by omega,by omega,by omega,aR _⟩,f4,f5,adl,by simp[aL,f6],by simp[aL,f7],by simp[aL,f3],f8,λs k1 k2 k3 k4 k5 k6 k7 k8 k9=>?_⟩
 refine⟨af I m,undef,undef,undef,.chan (U c1),.chan (U c2),af I m,af I n,undef,undef,undef,undef,undef,undef,undef,undef,undef,undef,undef,undef,undef,undef,?_⟩;simp only[Sd.ia,k1,k2,k3,k4,k5,k6,k7,k8,k9,hN,lE,tE,cE,f11,bC];rfl
open Go.ConcN (sumTo)
structure Da(s:Sd)(w:ah):Prop where
 eQ:dD s.A w
 kw:mF w
 mx:nP w
 bx:w.cell? (ar s.bl 0 J)=U s.lv
 tx:0<s.n->∃rb ro cap,s.lv=ak (U (ar rb ro J)) s.n cap/\s.gs rb=true/\∀i,i<s.n->w.cell? ⟨rb,ro+i,J⟩=U (aB (s.txt i))
 ro:∀b,s.gs b=true->∃c e,w.heap[b]?=U (ay c e (0,0))/\RL s.vz c c
 tk:∀b,s.ts b=true->s.gs b=false/\∃c e,w.heap[b]?=U (ay c e (0,0))
 g:16<=w.heap.size
def Sd.put(s:Sd)(m Wg c1 c2 bn bd ba:Nat)(od:Nat->Prop)(w0:ah):Sd:={ s with mW:=min m s.n,Wg,c1,c2,bn,bd,ba,od,w0 }
def Sd.whole(s:Sd)(f:s.qh)(m:Nat)(hn:s.n<1000000)(hm:0<m)(cs:List Frame){SB:Nat->Prop}{gs:Array Goroutine}{w:ah}{t:Trace}{q:Nat->Nat}{sl:Option (Nat×Nat)}
  (hold:∀b,s.gs b=true\/s.ts b=true->b<w.heap.size/\¬SB b) (hE:∀w',(∀b,b<w.heap.size->¬SB b->w'.heap[b]?=w.heap[b]?)->w.heap.size<=w'.heap.size->Da s w')
  (h:BS prog SB gs (G ((base jW).at ⟨(af I s.n::af I m::.func (.func 12) #[] #[Sd.ptr s.bl]::List.replicate 29 undef).toArray,[]⟩ [.code (cE f11)]) cs) w t q):∃n gs' w' sl' t' q' gB R N,∃(s':Sd),runNT prog n (crowd gs w sl) t=(.next (crowd gs' w' sl'),t')/\gs'.size=gs.size+min m s.n/\w.heap.size<=s'.Wg/\s'.Wg<N/\N<=R/\BS prog (λb=>SB b\/b=s'.Wg) gs' gB w' t' q'/\s'.C9 cs R gB/\s'.n=s.n /\
   (∃c e,w'.heap[R]?=U (ay c e (0,0))/\c.size=s.n*7) /\
   (∀i,i<s.n->∃sv ev E,w'.rangeAt R (i*7) (eT i (s.rd i).2 sv ev).toList/\jB (s.rd i).2/\(∃sa l c,sv=ak sa l c)/\ev.oneCell'=true/\s.Kept N i sv ev E w') /\
   (∀b,b<w.heap.size->¬SB b->w'.heap[b]?=w.heap[b]?)/\bG w w':=by
 have hst:=adk cs s.n m s.bl w h.lt;have h0:0<gs.size:=(bD.1 h.g0).1;obtain⟨n1,jS,g1,w1,gj,t1,q1,r1,z1,⟨Wg,c1,c2,bn,bd,ba,hS,hO,⟨m1,m2,m3,m4,m5,m6⟩,o1,o2,hc,x1,x2,x3,pZ,hH⟩,hB,hK⟩:=BS.ac7 ac8 ac9 ac_ (100+sumTo gs.size q) 100 gs _ w sl t q (aR _) h (ac' h.ps.seen) hst;obtain⟨s',hs'⟩:∃s',s'=s.put m Wg c1 c2 bn bd ba (λb=>b<w.heap.size/\¬SB b) w1:=⟨_,rfl⟩;have Kt:∀(b:Nat) (v:aj),w1.cell? (ar b 0 J)=U v->v≠.int .u64 0->¬(b=Wg\/b=c1\/b=c2):=by
  rintro b v hv hne (rfl|rfl|rfl)
  ·have e:w1.heap[b]?=U (Go.ConcR.wgBlock lk.tWg 0 0):=pZ;simp[aL,e,Go.ConcR.wgBlock]at hv
   exact hne hv.symm
  ·obtain⟨st,e⟩:=o1;simp[aL,e]at hv
  obtain⟨st,e⟩:=o2;simp[aL,e]at hv
 have Db:∀b,s'.Gr b->w.heap.size<=b/\¬sj w1 b/\b<w1.heap.size:=by
  intro b hb;subst hs'
  rcases hb with rfl|rfl|rfl
  ·exact⟨m1,(λ⟨v,e,hv⟩=>by rw[pZ]at hv;cases hv),(bD.1 pZ).1⟩
  ·obtain⟨st,e1⟩:=o1;exact⟨m2,(λ⟨v,e,hv⟩=>by rw[e1]at hv;cases hv),(bD.1 e1).1⟩
  obtain⟨st,e1⟩:=o2;exact⟨m3,(λ⟨v,e,hv⟩=>by rw[e1]at hv;cases hv),(bD.1 e1).1⟩
 have keep:∀w':ah,(∀b,s'.Sh b->w'.heap[b]?=w1.heap[b]?)->w1.heap.size<=w'.heap.size->(∀b,b<w.heap.size->¬SB b->w'.heap[b]?=w.heap[b]?)/\w.heap.size<=w'.heap.size:=λw' k hs=>by
  refine⟨λb hb hs=>(k b ?_).trans (hO b hb),bH hS.size hs⟩;subst hs';exact .inr (.inr (.inr (.inr (.inr ⟨hb,hs⟩))))
 have adn:s'.H w1:=λw' k hs=>by
  obtain⟨k1,k2⟩:=keep w' k hs;have t_:=hE w' k1 k2;subst hs'
  refine⟨⟨(jc (k _ (.inr (.inr (.inl rfl))))).trans x1,(jc (k _ (.inr (.inr (.inr (.inl rfl)))))).trans x2,(jc (k _ (.inr (.inr (.inr (.inr (.inl rfl))))))).trans x3⟩,t_.eQ,t_.kw,t_.mx,t_.bx,t_.tx,t_.ro,t_.tk,t_.g,λb hb=>dK (Db b hb).2.2 hs,λb hb=>⟨dK hb.1 k2,k b (.inr (.inr (.inr (.inr (.inr hb)))))⟩,hs⟩
 have lF:∀b,s'.Sh b->¬s'.Gr b:=λb hb hg=>by
  obtain⟨g1,g2,g3⟩:=Db b hg;subst hs'
  rcases hb with hb|hb|rfl|rfl|rfl|hb
  ·have:=(hold b (.inl hb)).1;omega
  ·have:=(hold b (.inr hb)).1;omega
  ·exact Kt _ _ x1 (by simp) hg
  ·exact Kt _ _ x2 (by simp) hg
  ·exact Kt _ _ x3 (by simp) hg
  have:=hb.1;omega
 have eU:∀b,SB b->¬s'.Sh b/\¬s'.Gr b:=λb hb=>by
  have hlt:=h.lt b hb
  refine⟨λhx=>?_,λhg=>by have:=(Db b hg).1;omega⟩;subst hs'
  rcases hx with hx|hx|rfl|rfl|rfl|hx
  ·exact(hold b (.inl hx)).2 hb
  ·exact(hold b (.inr hx)).2 hb
  ·exact absurd hlt (Nat.not_lt.2 m4)
  ·exact absurd hlt (Nat.not_lt.2 m5)
  ·exact absurd hlt (Nat.not_lt.2 m6)
  exact hx.2 hb
 have e1:s'.n=s.n:=by subst hs';rfl
 have e2:s'.mW=min m s.n:=by subst hs';rfl
 have e3:s'.Wg=Wg:=by subst hs';rfl
 have e4:s'.c1=c1:=by subst hs';rfl
 have e5:s'.c2=c2:=by subst hs';rfl
 have f':s'.qh:=by subst hs';exact⟨f.bl,f.eQ,f.tA,f.gl,f.sm⟩
 have hh:s'.Head cs 0 g1:=hH s' e1 e2 (by subst hs';rfl) e3 e4 e5 (by subst hs';rfl) (by subst hs';rfl) (by subst hs';rfl);have ap:s'.Apart:=⟨lF,by
  rw[e3,e4,e5]
  refine⟨λe=>?_,λe=>?_,hc⟩
  ·obtain⟨st,e1⟩:=o1;rw[<- e,pZ]at e1;cases e1
  obtain⟨st,e1⟩:=o2;rw[<- e,pZ]at e1;cases e1⟩
 obtain⟨n2,cg,w2,gI,t2,q2,gB,rv,R,r2,z2,gT,hall,Ku,-,-,yj,Kv,hrow,hw2,hres,fB⟩:=s'.adb f' (by omega) (by omega) (by omega) ap cs (sl:=gj) hB (by omega) hh adn (by rw[e3];exact pZ) eU (hK.ada λb hb=>⟨(Db b hb).1,(Db b hb).2.1⟩) (by rw[e4];exact o1) (by rw[e5];exact o2);have k2:=hw2.now.ol;have e0:s'.w0.heap.size=w1.heap.size:=by subst hs';rfl
 refine⟨n1+n2,cg,w2,gI,t2,q2,gB,R,w1.heap.size,s',?_,by rw[z2,z1,e2],by rw[e3];exact m1,by rw[e3];exact(bD.1 pZ).1,by rw[<- e0];exact yj,gT,Ku,e1,by rw[<- e1];exact Kv,λi hi=>?_,λb hb hs=>?_,⟨fB.os.trans hS.os,fB.o.trans hS.o,fB.tape.trans hS.tape,bH hS.size fB.size⟩⟩
 ·rw[tF,r1];exact r2
 ·obtain⟨v,hv⟩:=Option.ne_none_iff_exists'.1 (hall i (by omega));obtain⟨F,sv,ev,E,rfl,h1,h2,h3,h4,h5⟩:=hres i v hv;obtain⟨c,hc,-,hr⟩:=hrow i _ (by omega) hv
  cases hc
  rw[e0]at h5;subst hs';exact⟨sv,ev,E,hr,h1,h2,h3,h5.new,h5.rs,h5.re,h5.kH,h5.at'⟩
 have:=(k2 b (by subst hs';exact⟨hb,hs⟩)).2;rw[this];subst hs';exact hO b hb
section
variable {P:Program}{SB:Nat->Prop}{β:aK}{okL:List FuncId}{gl:Gl}{R:aj->ah->Prop}{gs:Array Goroutine}{w v:ah}{t:Trace}{q:Nat->Nat}{sl:Option (Nat×Nat)}{b:Frame}{a:Act}{kk:List Item}{cs:List Frame}{ops:Array Oper}{i:Nat}{rest:List Nat}{o:Oper}{f:FuncId}{xs ys:Array aj}
def BS.call(cx:Cx P okL gl β)(nx:gl.X=[])(hf:β.fn f)(hb:∃fn c,P.funcs[f]?=U fn/\fn.body=U c)(hl:RL β xs ys)(eI:RW β v w)(hC:∀τ,Calls P f xs (cd v τ) λe v'=>∃y,e=aH y/\R y v')(off:yJ SB β)
  (ho:ops[i]?=U o) (hw:Region.wanted o (yielded ops a.tmps)=true) (hk:b.kind≠.early) (hr:∀w₁,AtRel w w₁->(execOp a.eval o).run P w₁=.ok (.enter f ys) w₁/\(execOp a.eval o).events P w₁ #[]=#[])
  (h:BS P SB gs (G (b.at a (.inRegion ops (i::rest)::kk)) cs) w t q):∃N gs' w' sl' t' q' β' y y' V,runNT P N (crowd gs w sl) t=(.next (crowd gs' w' sl'),t')/\gs'.size=gs.size/\BS P SB gs' (G (b.at (a.put o.dst y') (.inRegion ops rest::kk)) cs) w' t' q'/\R y V/\RV β' y y'/\RW β' V w'/\Fx β β' w w'/\yJ SB β':=by
 have hg:Goes P true AtRel (dF SB) (λg w'=>AtRel w w'/\g=G (Frame.enter P f ys .normal) (b.at a (.inRegion ops (i::rest)::kk)::cs)) 1 (G (b.at a (.inRegion ops (i::rest)::kk)) cs) w:=by
  refine Goes.step rfl λw₁ h₁=>?_
  obtain⟨e1,e2⟩:=hr w₁ h₁;rw[stepG_enter ho hw hk e1,listed_nil e2];exact⟨dB _,Goes.stop λw₂ h₂=>⟨atRel_trans _ _ _ h₁ h₂,rfl⟩⟩
 obtain⟨N1,jS,g1,w1,gj,t1,q1,r1,z1,⟨⟨d,rfl⟩,rfl⟩,hB⟩:=BS.goes (P:=P) (SB:=SB) (1+sumTo gs.size q) 1 gs _ w sl t q (aR _) h hg;have DU:=lV.begin (P:=P) (rest:=b.at a (.inRegion ops (i::rest)::kk)::cs) cx nx hf hb hl (Pl (d:=d) eI) hC;obtain⟨N2,cg,w2,gI,t2,q2,β2,y,y',V,r2,z2,gT,h1,h2,h3,h4,h5⟩:=BS.yx (P:=P) (SB:=SB) _ (NZ DU.good) (sumTo jS.size q1) jS _ _ gj t1 q1 β (aR _) hB DU off
 refine⟨N1+N2,cg,w2,gI,t2,q2,β2,y,y',V,by rw[tF,r1];exact r2,z2.trans z1,?_,h1,h2,h3,Aw h4,h5⟩;rw[Frame.finish_at,QE ho]at gT;exact gT
end
def zt(f:Func):Array Oper:=match (xo f)with|.seq (.region _ ops _) _=>ops|_=>#[]
def Sd.Ord(s:Sd)(cs:List Frame)(R:Nat)(x:aj)(todo:List Nat)(g:Goroutine):Prop:=∃(x1 x3 x4 cr bN cu cD cI cJ bP cK cS dc eo ep:aj),
 g=G ((base jW).at ⟨#[af I s.n,x1,s.ia,x3,x4,Sd.ptr s.ba,ak J 0 0,.nilIface,Sd.ptr s.bn,Sd.ptr s.bd,Sd.ptr s.Wg,s.gL R,cr,bN,cu,cD,cI,cJ,bP,cK,cS,dc,af I s.n,.chan (U s.c1),.chan (U s.c2),s.gL R,.chan (U s.c1),aX #[],s.gL R,x,eo,ep],[]⟩ [.inRegion (zt f11) todo,.code .ret]) cs
def Sd.ado(s:Sd)(cs:List Frame)(R:Nat)(g:Goroutine)(w:ah)(h:s.C9 cs R g):Goes prog true AtRel DC0 (λg w'=>AtRel w w'/\∃x,s.Ord cs R x [1,2,3,4,5] g) 10 g w:=by
 obtain⟨x1,x3,x4,cr,bN,cu,cD,cI,cJ,bP,cK,cS,dc,fo,eY,eo,ep,rfl⟩:=h;have hF:∀d,AtRel w (w.at d):=λd=>⟨d,rfl⟩
 have hF:AtRel w w:=atRel_refl w;have rl:∀{x x₁:ah},AtRel w x->AtRel x x₁->AtRel w x₁:=λh r=>atRel_trans _ _ _ h r
 simp only[vA,xo,tV,si,tE,cE,f11,bC];u_c stepG_region_end rl hF
 u_c stepG_seq rl hF
 u_reg rl hF
 u_op rl hF
 refine Goes.stop λw₁ h₁=>⟨rl hF h₁,eY,x1,x3,x4,cr,bN,cu,cD,cI,cJ,bP,cK,cS,dc,eo,ep,?_⟩
 simp only[zt,vA,xo,tV,si,tE,cE,f11,bC]
def Sd.adp(s:Sd)(cs:List Frame)(R:Nat)(v e:aj)(b₀:Frame)(a₀:Act)(ops₀:Array Oper)(i₀:Nat)(rest₀:List Nat)(k₀:List Item)(g:Goroutine)(w:ah)(h:s.Ord (b₀.at a₀ (.inRegion ops₀ (i₀::rest₀)::k₀)::cs) R (aX #[v,e]) [2,3,4,5] g):Goes prog true AtRel DC0 (λg w'=>AtRel w w'/\g=G (b₀.at (a₀.put ((ops₀[i₀]?).bind (·.dst)) (aX #[v,e])) (.inRegion ops₀ rest₀::k₀)) cs) 20 g w:=by
 obtain⟨x1,x3,x4,cr,bN,cu,cD,cI,cJ,bP,cK,cS,dc,eo,ep,rfl⟩:=h;have hF:AtRel w w:=atRel_refl w;have rl:∀{x x₁:ah},AtRel w x->AtRel x x₁->AtRel w x₁:=λh r=>atRel_trans _ _ _ h r
 simp only[zt,vA,xo,tV,si,tE,cE,f11,bC];u_op rl hF
 u_op rl hF
 u_op rl hF
 u_op rl hF
 u_c stepG_region_end rl hF
 u_c stepG_ret' rl hF
 u_in rl hF
 refine goes_leave2 rfl rfl func11 rfl ⟨by u_nil,?_⟩;exact Goes.stop λw₁ h₁=>⟨rl hF h₁,rfl⟩
def BS.first(g:Goroutine)(w:ah):BS P (λ_=>False) #[g] g w #[] (λ_=>0):=by
 refine⟨rfl,leavers_one _ _,?_,λb hb=>hb.elim⟩;have e:rV (λ_=>False)=λ_=>False:=by
  funext l
  exact propext ⟨λ⟨_,_,h⟩=>h,λh=>h.elim⟩
 rw[e];exact past_nil.mono (cG _)
section
variable {P:Program}{SB:Nat->Prop}{w:ah}{Stop:Goroutine->ah->Prop}{n:Nat}{b:Frame}{a:Act}{kk:List Item}{cs:List Frame}{ops:Array Oper}{i:Nat}{rest:List Nat}{o:Oper}
def adq(h:∀e∈es,∃x:av,e=⟨.cell x,false,false⟩/\¬SB x.block/\x.block<w.heap.size):dF SB w w es:=by
 refine⟨aR _,λe he=>?_⟩;obtain⟨x,rfl,h1,h2⟩:=h e he
 refine⟨λy hy hs=>?_,by simp,by simp,h2⟩
 cases hy
 obtain⟨c,hc,hc2⟩:=hs
 cases hc
 exact absurd hc2 h1
def kM(ho:ops[i]?=U o)(hw:Region.wanted o (yielded ops a.tmps)=true)(hk:b.kind≠.early){v:aj}(h:∀w₁,AtRel w w₁->(execOp a.eval o).run P w₁=.ok (.value v) w₁/\∀e∈(execOp a.eval o).events P w₁ #[],∃x:av,e=⟨.cell x,false,false⟩/\¬SB x.block/\x.block<w₁.heap.size)
  (k:Goes P true AtRel (dF SB) Stop n (G (b.at (a.put o.dst v) (.inRegion ops rest::kk)) cs) w):Goes P true AtRel (dF SB) Stop (n+1) (G (b.at a (.inRegion ops (i::rest)::kk)) cs) w:=
 FV ho hw hk λw₁ h₁=>by
  obtain⟨e1,e2⟩:=h w₁ h₁;exact⟨v,w₁,e1,adq λe he=>e2 e (mem_listed he),Goes.rely atRel_trans k h₁⟩
def vC(ho:ops[i]?=U o)(hw:Region.wanted o (yielded ops a.tmps)=true)(hk:b.kind≠.early){v:Nat->aj}{ob:Obj}(h:∀w₁,AtRel w w₁->(execOp a.eval o).run P w₁=.ok (.value (v w₁.heap.size)) (w₁.alloc ob)/\(execOp a.eval o).events P w₁ #[]=#[])
  (k:∀w₁,AtRel w w₁->Goes P true AtRel (dF SB) Stop n (G (b.at (a.put o.dst (v w₁.heap.size)) (.inRegion ops rest::kk)) cs) (w₁.alloc ob)):Goes P true AtRel (dF SB) Stop (n+1) (G (b.at a (.inRegion ops (i::rest)::kk)) cs) w:=
 tY ho hw hk λw₁ h₁=>⟨_,_,(h w₁ h₁).1,(h w₁ h₁).2,(C_ (N:=0)).1,k w₁ h₁⟩
end
section
variable {P:Program}{SB:Nat->Prop}{gs:Array Goroutine}{g:Goroutine}{w:ah}{t:Trace}{q:Nat->Nat}{sl:Option (Nat×Nat)}{n:Nat}{S:Goroutine->Prop}
def BS.quiet(h:BS P SB gs g w t q)(hg:Goes P true AtRel Go.ConcR.DC0 (λg' w'=>AtRel w w'/\S g') n g w):∃N gs' g' d sl' t' q',runNT P N (crowd gs w sl) t=(.next (crowd gs' (w.at d) sl'),t')/\gs'.size=gs.size/\S g'/\BS P SB gs' g' (w.at d) t' q':=by
 have h2:Goes P true AtRel (dF SB) (λg' w'=>AtRel w w'/\S g') (n+0) g w:=
  goes_quiet atRel_refl (λw=>dB w) (Go.ConcN.goes_mono (λg' w' ⟨k,s⟩=>show Goes P true AtRel (dF SB) _ 0 g' w' from λw₁ r=>⟨atRel_trans _ _ _ k r,s⟩) hg)
 obtain⟨N,gs',g',w',sl',t',q',r1,r2,⟨⟨d,rfl⟩,s⟩,hB⟩:=BS.goes (P:=P) (SB:=SB) (n+0+sumTo gs.size q) (n+0) gs g w sl t q (aR _) h h2;exact⟨N,gs',g',d,sl',t',q',r1,r2,s,hB⟩
end
def Sd.Told(s:Sd)(y:aj)(w:ah):Prop:=
 ((∀i,i<s.n->(s.rd i).1.1=0)/\∃sa cap,y=aX #[ak sa s.n cap,.nilIface]/\∀i,i<s.n->jB (s.rd i).2/\∃b sv,sa=U ⟨b,0,J⟩/\(∀j u,(bA (s.rd i).2 sv)[j]?=U u->w.cell? ⟨b,i*5+j,J⟩=U u)/\iJ w sv (s.rd i).2.az) \/
 ∃i,i<s.n/\(∀j,j<i->(s.rd j).1.1=0)/\(s.rd i).1.1≠0/\(s.rd i).1.1<=11/\∃b,y=aX #[ak J 0 0,.iface 88 (ax (U (ar b 0 J)))]/\w.cell? (ar b 0 J)=U (af I i)/\w.cell? (ar b 1 J)=U (bF s.A (s.rd i).1.1)
def FX{β:aK}{a b:aj}(h:RV β (aX #[a,b]) y):∃c d,y=aX #[c,d]/\RV β a c/\RV β b d:=by
 obtain⟨ys,rfl,Kc⟩:=iW.1 h;obtain⟨a',b',c,d,e1,rfl,ha,hb⟩:=(uU Kc).resolve_right (by simp);obtain⟨rfl,rfl⟩:a=a'/\b=b':=by
  have:=iU (λx:Array aj=>x.toList) e1;simpa using this
 exact⟨c,d,rfl,ha,hb⟩
def Sd.Told.pair(h:s.Told y w):∃v e,y=aX #[v,e]:=by
 rcases h with⟨_,_,_,rfl,_⟩|⟨_,_,_,_,_,_,rfl,_⟩<;>exact⟨_,_,rfl⟩
def Sd.Told.tr{β:aK}{W:ah}(h:s.Told y V)(r:rO β V W)(hA:∀i,i<11->β.any (s.A i).block (s.A i).block)(hv:RV β y y'):s.Told y' W:=by
 rcases h with⟨h0,sa,cap,rfl,h⟩|⟨i,hi,h0,h1,h2,b,rfl,h3,h4⟩
 ·obtain⟨c,d,rfl,hc,hd⟩:=FX hv;obtain⟨fw,rfl,ha⟩:=gX.1 hc
  cases lA.1 hd
  refine .inl ⟨h0,fw,cap,rfl,λi hi=>?_⟩;obtain⟨hS,b,sv,rfl,h1,h2⟩:=h i hi;obtain⟨b',rfl,hb⟩:=Ka ha;have c:∀j u,(bA (s.rd i).2 sv)[j]?=U u->∃y,W.cell? ⟨b',i*5+j,J⟩=U y/\RV β u y:=λj u hu=>Kb r hb (h1 j u hu)
  obtain⟨qi,p1,p2⟩:=c 4 sv rfl
  refine⟨hS,b',qi,rfl,λj u hu=>?_,h2.tr r p2⟩;have num:∀j n,(bA (s.rd i).2 sv)[j]?=U (af I n)->W.cell? ⟨b',i*5+j,J⟩=U (af I n):=λj n h=>by
   obtain⟨y,h1,h2⟩:=c j _ h;rw[h1,cO.1 h2]
  obtain _|_|_|_|_|j:=j
  all_goals first|(cases hu;first|exact p1|exact num _ _ rfl)|skip
  simp[bA]at hu
 obtain⟨c,d,rfl,hc,hd⟩:=FX hv;obtain⟨fw,rfl,ha⟩:=gX.1 hc
 cases ha
 obtain⟨b',e',rfl,g1,g2,g3⟩:=Oa r hd h3 h4
 refine .inr ⟨i,hi,h0,h1,h2,b',rfl,g1,?_⟩;obtain⟨k,hk⟩:=FK h1;rw[hk]at g3 h2⊢;rw[g2,N_ r (hA k (by omega)) g3];rfl
def Sd.adr(s:Sd)(sa:Nat->Option av)(sl sc:Nat->Nat)(V:ah)(B:Nat)(hS:∀i,i<s.n->jB (s.rd i).2/\(s.rd i).1.1<=11/\iJ V (ak (sa i) (sl i) (sc i)) (s.rd i).2.az)(e:Ending)
  (h:((∀i,i<s.n->(s.rd i).1.1=0)/\∃v,e=aH (aX #[v,.nilIface])/\V.ownsRow B 34 5 v s.n (qj (λi=>(s.rd i).2) sa sl sc s.n)) \/
    ∃i,i<s.n/\(∀j,j<i->(s.rd j).1.1=0)/\(s.rd i).1.1≠0/\∃b,e=aH (aX #[ak J 0 0,.iface 88 (ax (U (ar b 0 J)))])/\V.cell? (ar b 0 J)=U (af I i)/\V.cell? (ar b 1 J)=U (bF s.A (s.rd i).1.1)):∃y,e=aH y/\s.Told y V:=by
 rcases h with⟨h0,v,rfl,hl,⟨rfl,hn⟩|⟨g,cap,cur,rfl,-,hg,-,-,-,ht⟩⟩|⟨i,hi,h0,h1,b,rfl,h2,h3⟩
 ·refine⟨_,rfl,.inl ⟨h0,J,0,by rw[hn],λi hi=>by omega⟩⟩
 ·refine⟨_,rfl,.inl ⟨h0,U ⟨g,0,J⟩,cap,rfl,λi hi=>⟨(hS i hi).1,g,_,rfl,λj u hu=>?_,(hS i hi).2.2⟩⟩⟩;have h:=G6 (enc:=λi=>(bA (s.rd i).2 (ak (sa i) (sl i) (sc i))).toList) (k:=5) (λ_=>rfl) (List.range s.n) i j i u (by simp[hi]) (by rw[oI];exact hu);replace h:(qj (λi=>(s.rd i).2) sa sl sc s.n)[i*5+j]?=U u:=h
  rw[<- ht,ru]at h
  split at h
  ·simp[aL,hg]
   rw[oI]at h;exact h
  cases h
 exact⟨_,rfl,.inr ⟨i,hi,h0,h1,(hS i hi).2.1,b,rfl,h2,h3⟩⟩
def mh:List Nat:=[2,1,0,3,4,5,6,7,8,9,10,11]
structure Sd.Kn(s:Sd)(w:ah):Prop where
 eQ:gZ s.A w
 ro:∀b,s.gs b=true->∃c e,w.heap[b]?=U (ay c e (0,0))/\RL s.vz c c
 tk:∀b,s.ts b=true->s.gs b=false/\∃c e,w.heap[b]?=U (ay c e (0,0))
 g:16<=w.heap.size
section
variable {s:Sd}{w:ah}{O:Nat->Prop}
def Sd.Kn.QV(h:s.Kn w)(hs:∀g,g∈mh->s.gs g=true)(hA:∀i,i<11->s.ts (s.A i).block=true)(τ:Nat->Question->Nat):gZ s.A (s.gh w τ):=by
 have c:∀g,g∈mh->(s.gh w τ).cell? ⟨g,0,J⟩=w.cell? (ar g 0 J):=λg hg=>Sd.AQ (hs g hg)
 unfold mh at c
 refine⟨(c _ (by simp)).trans h.eQ.c0,(c _ (by simp)).trans h.eQ.c1,(c _ (by simp)).trans h.eQ.c2,(c _ (by simp)).trans h.eQ.c3,(c _ (by simp)).trans h.eQ.c4,(c _ (by simp)).trans h.eQ.c5,(c _ (by simp)).trans h.eQ.c6,(c _ (by simp)).trans h.eQ.c7,(c _ (by simp)).trans h.eQ.c8,(c _ (by simp)).trans h.eQ.c9,(c _ (by simp)).trans h.eQ.c10,(c _ (by simp)).trans h.eQ.et,λi hi=>?_,h.eQ.ne⟩;obtain⟨hn,x,e,hx⟩:=h.tk _ (hA i hi);exact⟨#[],e,Ce hx hn (hA i hi)⟩
def Sd.Kn.rw(h:s.Kn w)(hO:jP O s.gs s.ts (λf=>fH.contains f=true) 16 w)(hn:∀b,O b->s.gs b=false/\s.ts b=false):RW (s.kA O) (jO w s.gs s.ts) w:=
 RW.ghost (λb hb=>⟨(hn b hb).1,(hn b hb).2,hO b hb⟩) (λb hb=>by
  obtain⟨c,e,h1,h2⟩:=h.ro b hb;exact⟨c,e,h1,bh.mono (λ_ _ k=>RV.wide k (λ_ h=>h.elim) λ_ h=>h) h2⟩) h.tk h.g
def Sd.FY{τ:Nat->Question->Nat}(hn:∀b,O b->s.gs b=false/\s.ts b=false)(a:av)(h:O a.block\/s.gs a.block=true):(s.gh w τ).cell? a=w.cell? a:=
 (Cf (h.elim (λh=>.inr (hn _ h).2) .inl):(jO w s.gs s.ts).cell? a=w.cell? a)
end
def ads{P:aj->Prop}(hs:c.size=n*7)(f:Nat->Array aj)(hf:∀i,i<n->(f i).size=7/\(∀(j:Nat) (u:aj),(f i)[j]?=U u->c[i*7+j]?=U u)/\∀(j:Nat) (u:aj),(f i)[j]?=U u->P u)(k:Nat)(v:aj)(h:c[k]?=U v):P v:=by
 have hk:k<n*7:=by rw[<- hs];exact(bD.1 h).1
 obtain⟨h1,h2,h3⟩:=hf (k / 7) (by omega);have hj:k%7<(f (k / 7)).size:=by omega
 have h4:=h2 (k%7) _ (eB hj);rw[show k / 7*7+k%7=k by omega,h]at h4
 cases h4
 exact h3 (k%7) _ (eB hj)
def Sd.adt(s s':Sd)(sX:s'.n=s.n)(hs:∀g,g∈mh->s.gs g=true)(hA:∀i,i<11->s.ts (s.A i).block=true)(iu:∀x,qV.contains x=true->s.gs x=true\/s.ts x=true)(hn:s.n<1000000){SB:Nat->Prop}{gs:Array Goroutine}{gB:Goroutine}{w:ah}{t:Trace}{q:Nat->Nat}{sl:Option (Nat×Nat)}
  {b₀:Frame} {a₀:Act} {ops₀:Array Oper} {i₀:Nat} {rest₀:List Nat} {k₀:List Item} {cs:List Frame} {R N:Nat} (hW:s.Kn w) (hN:∀b,s.gs b=true\/s.ts b=true->b<N/\¬SB b) (adu:∀b,SB b->b<N) (hR:N<=R)
  (hrow:∃c e,w.heap[R]?=U (ay c e (0,0))/\c.size=s.n*7)
  (Kw:∀i,i<s.n->∃sv ev E,w.rangeAt R (i*7) (eT i (s.rd i).2 sv ev).toList/\jB (s.rd i).2/\(∃sa l c,sv=ak sa l c)/\ev.oneCell'=true/\s.Kept N i sv ev E w)
  (h:BS prog SB gs gB w t q) (hB:s'.C9 (b₀.at a₀ (.inRegion ops₀ (i₀::rest₀)::k₀)::cs) R gB):∃M gs' w' sl' t' q' v e F,runNT prog M (crowd gs w sl) t=(.next (crowd gs' w' sl'),t')/\gs'.size=gs.size/\BS prog SB gs' (G (b₀.at (a₀.put ((ops₀[i₀]?).bind (·.dst)) (aX #[v,e])) (.inRegion ops₀ rest₀::k₀)) cs) w' t' q' /\
   jP F s.gs s.ts (λf=>fH.contains f=true) 16 w'/\(∀b,F b->N<=b/\s.gs b=false/\s.ts b=false)/\RV (s.kA F) v v/\RV (s.kA F) e e /\
   (∀w2:ah,(∀a:av,F a.block\/s.gs a.block=true->w2.cell? a=w'.cell? a)->s.Told (aX #[v,e]) w2)/\(∀b,b<N->w'.heap[b]?=w.heap[b]?)/\bG w w':=by
 obtain⟨cR,eR,Ky,hcs⟩:=hrow;have hex:∀i,∃p:Option av×Nat×Nat×aj×(Nat->Prop),i<s.n->w.rangeAt R (i*7) (eT i (s.rd i).2 (ak p.1 p.2.1 p.2.2.1) p.2.2.2.1).toList/\jB (s.rd i).2/\s.Kept N i (ak p.1 p.2.1 p.2.2.1) p.2.2.2.1 p.2.2.2.2 w:=λi=>by
  by_cases hi:i<s.n
  ·obtain⟨sv,ev,E,h1,h2,⟨sa,l,c,rfl⟩,-,h5⟩:=Kw i hi;exact⟨(sa,l,c,ev,E),λ_=>⟨h1,h2,h5⟩⟩
  exact⟨(J,0,0,.nilIface,λ_=>False),λh=>absurd h hi⟩
 obtain⟨sa,sl',sc,ev,E,hp⟩:∃(sa:Nat->Option av) (sl sc:Nat->Nat) (ev:Nat->aj) (E:Nat->Nat->Prop),∀i,i<s.n->w.rangeAt R (i*7) (eT i (s.rd i).2 (ak (sa i) (sl i) (sc i)) (ev i)).toList/\jB (s.rd i).2/\s.Kept N i (ak (sa i) (sl i) (sc i)) (ev i) (E i) w:=
  ⟨_,_,_,_,_,λi hi=>Classical.choose_spec (hex i) hi⟩
 obtain⟨O,Dc⟩:∃O:Nat->Prop,O=λb=>(∃i,i<s.n/\E i b)\/b=R:=⟨_,rfl⟩
 have FZ:∀b,O b->N<=b:=λb hb=>by
  subst Dc
  rcases hb with⟨i,hi,hb⟩|rfl
  ·exact((hp i hi).2.2.new b hb).1
  exact hR
 have nS:∀b,N<=b->s.gs b=false/\s.ts b=false:=λb hb=>by
  refine⟨?_,?_⟩
  ·cases e:s.gs b with
   |false=>rfl
   |true=>have:=(hN b (.inl e)).1;omega
  cases e:s.ts b with
  |false=>rfl
  |true=>have:=(hN b (.inr e)).1;omega
 have hE:jP (λb=>∃i,i<s.n/\E i b) s.gs s.ts (λf=>fH.contains f=true) 16 w:=λb ⟨i,hi,hb⟩=>(hp i hi).2.2.kH.sub (λb k=>⟨i,hi,k⟩) (λ_ h=>h) hb
 have hO:jP O s.gs s.ts (λf=>fH.contains f=true) 16 w:=by
  subst Dc
  refine hE.add Ky λk v hv=>ads (P:=λv=>RV (h_ (λb=>∃i,i<s.n/\E i b) s.gs s.ts (λf=>fH.contains f=true) 16) v v) hcs (λi=>eT i (s.rd i).2 (ak (sa i) (sl' i) (sc i)) (ev i)) (λi hi=>⟨rfl,λj u hu=>?_,λj u hu=>?_⟩) k v hv
  ·have:=(hp i hi).1 j u (by rw[oI];exact hu);simpa[aL,Ky]using this
  have r1:=RV.wide (O':=λb=>∃i,i<s.n/\E i b) (hp i hi).2.2.rs (λb k=>⟨i,hi,k⟩) (λ_ h=>h);have r2:=RV.wide (O':=λb=>∃i,i<s.n/\E i b) (hp i hi).2.2.re (λb k=>⟨i,hi,k⟩) (λ_ h=>h);obtain _|_|_|_|_|_|_|j:=j
  all_goals first|(cases hu;first|exact r1|exact r2|exact cO.2 rfl)|skip
  simp[eT]at hu
 have QW:∀b,O b->s.gs b=false/\s.ts b=false:=λb hb=>nS b (FZ b hb)
 have tI:Cx prog fH qV (s.kA O):=J9 rfl (by kernel_rfl) λx hx=>(iu x hx).elim (λh=>.inr (.inl ⟨rfl,h⟩)) λh=>.inr (.inr ⟨rfl,h⟩)
 obtain⟨M1,jS,g1,d1,gj,t1,q1,r1,z1,⟨x,x1,x3,x4,cr,bN,cu,cD,cI,cJ,bP,cK,cS,dc,eo,ep,rfl⟩,js⟩:=h.quiet (sl:=sl) (S:=λg=>∃x,s'.Ord (b₀.at a₀ (.inRegion ops₀ (i₀::rest₀)::k₀)::cs) R x [1,2,3,4,5] g) (s'.ado _ R gB w hB);have hW1:∀b:Nat,(w.at d1).heap[b]?=w.heap[b]?:=λ_=>rfl
 have eI:=hW.rw hO QW;have adv:(s.kA O).any R R:=.inl ⟨rfl,by subst Dc;exact .inr rfl⟩;have oW:s'.gL R=s.gL R:=by simp[Sd.gL,sX]
 have Dd:RL (s.kA O) #[s.gL R] #[s.gL R]:=bh.one (gX.2 ⟨_,rfl,_,rfl,adv,rfl,rfl⟩);have gh:∀τ (a:av),O a.block\/s.gs a.block=true->(s.gh w τ).cell? a=w.cell? a:=λτ a=>Sd.FY QW a
 have sub:∀i,i<s.n->∀b,E i b->O b:=λi hi b hb=>by subst Dc;exact .inl ⟨i,hi,hb⟩
 have hC:∀τ,Calls prog 27 #[s.gL R] (cd (jO w s.gs s.ts) τ) λe v'=>∃y,e=aH y/\s.Told y v':=λτ=>by
  have hat:∀i,i<s.n->_:=λi hi=>(hp i hi).2.2.at' (s.gh w τ) λa ha=>gh τ a (ha.imp (sub i hi _) id)
  refine(acv s.A R s.n (λi=>(s.rd i).2) (λi=>(s.rd i).1) sa sl' sc ev (s.gh w τ) (hW.QV hs hA τ) hn ⟨λi hi j u hu=>?_,λi hi=>(hat i hi).2⟩).mono ?_
  ·refine(gh τ _ (.inl (by subst Dc;exact .inr rfl))).trans ((hp i hi).1 j u ?_);rw[oI];exact hu
  rintro e v' ⟨hb,h⟩;exact s.adr sa sl' sc v' _ (λi hi=>⟨(hp i hi).2.1,(hat i hi).2.1,(hat i hi).1.below hb⟩) e h
 obtain⟨M2,cg,w2,gI,t2,q2,β2,y,y',V,r2,z2,gT,hT,hv,QX,cH,-⟩:=BS.call (P:=prog) (SB:=SB) (β:=s.kA O) (okL:=fH) (gl:=qV) (R:=s.Told) (sl:=gj) (v:=jO w s.gs s.ts) (f:=27) (xs:=#[s.gL R]) (ys:=#[s'.gL R]) (ops:=(zt f11)) (i:=1) (rest:=[2,3,4,5]) (o:=(zt f11).getD 1 default)
  tI rfl (show fH.contains 27=true from aD rfl) ⟨f27,_,func27,rfl⟩ (by rw[oW];exact Dd) (Pl eI) hC
  (λb b' hb eU=>by
   rcases hb with⟨rfl,hb⟩|⟨rfl,hb⟩
   ·have:=FZ b hb;have:=adu b eU;omega
   exact(hN b (.inl hb)).2 eU)
  (by kernel_rfl) (by kernel_rfl) (by k_ne) (λw₁ _=>⟨by kernel_rfl,by kernel_rfl⟩) js
 obtain⟨v0,e0,rfl⟩:=hT.pair;obtain⟨v,e,rfl,bK,hv2⟩:=FX hv;have hro:∀b b',β2.ro b b'↔b=b'/\s.gs b=true:=λb b'=>by rw[<- cH.le.ro];rfl
 have zu:∀b b',β2.tok b b'↔b=b'/\s.ts b=true:=λb b'=>by rw[<- cH.le.tok];rfl
 have hfn:∀f,β2.fn f->fH.contains f=true:=λf h=>by rw[<- cH.le.fn]at h;exact h
 have dr:=EH (β:=β2) (gs:=s.gs) (ts:=s.ts) (fn:=λf=>fH.contains f=true) (g:=16) (λb b'=>(hro b b').1) λb b'=>(zu b b').1
 have hF:jP (λb'=>∃a,β2.own a b') s.gs s.ts (λf=>fH.contains f=true) 16 w2:=QX.kH (λb b'=>(hro b b').1) (λb b'=>(zu b b').1) hfn;have ahj:R<w.heap.size:=(bD.1 Ky).1;have adw:s'.Ord (b₀.at a₀ (.inRegion ops₀ (i₀::rest₀)::k₀)::cs) R (aX #[v,e]) [2,3,4,5] (G ((base jW).at ((Act.mk #[af I s'.n,x1,s'.ia,x3,x4,Sd.ptr s'.ba,ak J 0 0,.nilIface,Sd.ptr s'.bn,Sd.ptr s'.bd,Sd.ptr s'.Wg,s'.gL R,cr,bN,cu,cD,cI,cJ,bP,cK,cS,dc,af I s'.n,.chan (U s'.c1),.chan (U s'.c2),s'.gL R,.chan (U s'.c1),aX #[],s'.gL R,x,eo,ep] []).put ((zt f11).getD 1 default).dst (aX #[v,e])) [.inRegion (zt f11) [2,3,4,5],.code .ret]) (b₀.at a₀ (.inRegion ops₀ (i₀::rest₀)::k₀)::cs)):=
  ⟨x1,x3,x4,cr,bN,cu,cD,cI,cJ,bP,cK,cS,dc,eo,ep,rfl⟩
 obtain⟨M3,tL,g3,d3,qQ,t3,q3,r3,z3,rfl,pk⟩:=gT.quiet (sl:=gI) (S:=λg=>g=G (b₀.at (a₀.put ((ops₀[i₀]?).bind (·.dst)) (aX #[v,e])) (.inRegion ops₀ rest₀::k₀)) cs) (s'.adp cs R v e b₀ a₀ ops₀ i₀ rest₀ k₀ _ w2 adw)
 refine⟨M1+(M2+M3),tL,_,qQ,t3,q3,v,e,λb'=>∃a,β2.own a b',?_,by rw[z3,z2,z1],pk,hF,λb ⟨a,hb⟩=>?_,RV.into dr hfn bK,RV.into dr hfn hv2,λw3 k=>?_,λb hb=>?_,⟨cH.os,cH.output,cH.tape,cH.size⟩⟩
 ·rw[tF,r1];show runNT _ (M2+M3) _ _=_
  rw[tF,r2];exact r3
 ·have:N<=b:=by
   rcases cH.new a b hb with⟨rfl,h⟩|h
   ·exact FZ _ h
   have h:w.heap.size<=b:=h;omega
  exact⟨this,nS b this⟩
 ·refine hT.tr (QX.IC (W':=w3) λb a h=>k a (h.imp (λh=>⟨b,h⟩) λh=>?_)) (λi hi=>(zu _ _).2 ⟨rfl,hA i hi⟩ |> λz=>.inr (.inr z)) hv;obtain⟨e,h⟩:=(hro _ _).1 h;rw[<- e];exact h
 refine cH.frame b (show b<w.heap.size by omega) λa ha=>?_
 have:=FZ _ ha.2;obtain⟨rfl,_⟩:=ha;omega
def De(f:Func):Array Oper:=match f.body.getD .skip with|.seq _ (.seq _ (.seq (.region _ ops _) _))=>ops|_=>#[]
abbrev ub:FuncId:=5
def mj(f:Func):Code:=f.body.getD .skip
def QY:(f10.name == "runtime.NumGoroutine")=false:=by kernel_rfl
def adx:(f11.name == "runtime.NumGoroutine")=false:=by kernel_rfl
def ady(cs:List Frame)(sa:Option av)(n cap m:Nat)(hm:1<=m/\m<=16)(hn:n<=100)(w:ah)(eU:∀b,SB b->b<w.heap.size):Goes prog true AtRel (dF SB) (λg w'=>(w'.heap[w.heap.size]?=U (ay #[ak sa n cap] 22 (0,0))/\(∀b,b<w.heap.size->w'.heap[b]?=w.heap[b]?)/\bG w w')/\∃x0 x1 x2 x3 x4 x5 x6 x7 x8 x9 iB dV cr bN cu cD cI cJ bP cK cS:aj,g=G ((base jW).at ⟨(af I n::af I m::.func (.func 12) #[] #[Sd.ptr w.heap.size]::List.replicate 29 undef).toArray,[]⟩ [.code (cE f11)]) ((base ub).at ⟨#[x0,x1,x2,x3,x4,x5,x6,x7,x8,x9,iB,dV,cr,bN,cu,cD,cI,cJ,bP,cK,cS],[]⟩ [.inRegion (De f5) [4,5,6,7,8],.code .ret]::cs)) 140 (G ((base ub).at ⟨(ak sa n cap::af I m::List.replicate 19 undef).toArray,[]⟩ [.code (mj f5)]) cs) w:=by
 have hF:w.heap=w.heap/\bG w w:=⟨rfl,rfl,rfl,rfl,aR _⟩;have rl:∀{x x₁:ah},(x.heap=w.heap/\bG w x)->AtRel x x₁->(x₁.heap=w.heap/\bG w x₁):=λh r=>by obtain⟨d,rfl⟩:=r;exact⟨h.1,h.2.os,h.2.o,h.2.tape,h.2.size⟩
 simp only[mj,f5,bC,List.replicate]
 refine goes_quiet (n:=2) (m:=138) atRel_refl (λw=>dB w) ?_;u_c stepG_seq rl hF
 u_reg rl hF
 refine Goes.stop λw₁ h₁=>?_
 replace hF:=rl hF h₁
 clear h₁
 refine vC (n:=137) (v:=λN=>ax (U (ar N 0 J))) (ob:=ay #[ak sa n cap] 22 (0,0)) rfl rfl (by k_ne) (λw₂ h₂=>⟨by simp[execOp,go_sem],by simp[execOp,go_sem]⟩) λw₂ h₂=>?_
 replace hF:=rl hF h₂
 walk_nrm
 obtain⟨W,hW⟩:∃W,W=w₂.alloc (ay #[ak sa n cap] 22 (0,0)):=⟨_,rfl⟩;obtain⟨N,hN⟩:∃N,N=w₂.heap.size:=⟨_,rfl⟩;have AW:w.heap.size=N:=by rw[hN,hF.1]
 have hA:W.heap[N]?=U (ay #[ak sa n cap] 22 (0,0))/\(∀b,b<N->W.heap[b]?=w.heap[b]?)/\bG w W/\N<W.heap.size:=by
  subst hW
  refine⟨by rw[hN];exact dT _ _,λb hb=>(alloc_old (by omega)).trans (by rw[hF.1]),tZ hF.2,?_⟩;show N<(w₂.heap.push _).size
  rw[rK];omega
 rw[<- hW,<- hN];clear hW hN hF rl h₂ w₂;have hF:=hA;have rl:∀{x x₁:ah},(x.heap[N]?=U (ay #[ak sa n cap] 22 (0,0))/\(∀b,b<N->x.heap[b]?=w.heap[b]?)/\bG w x/\N<x.heap.size)->AtRel x x₁->(x₁.heap[N]?=U (ay #[ak sa n cap] 22 (0,0))/\(∀b,b<N->x₁.heap[b]?=w.heap[b]?)/\bG w x₁/\N<x₁.heap.size):=λh r=>by obtain⟨d,rfl⟩:=r;exact⟨h.1,h.2.1,⟨h.2.2.1.os,h.2.2.1.o,h.2.2.1.tape,h.2.2.1.size⟩,h.2.2.2⟩
 have F0:¬SB N:=λh=>by have:=eU N h;omega
 refine goes_quiet (n:=10) (m:=127) atRel_refl (λw=>dB w) ?_;u_op rl hF
 u_op rl hF
 u_c stepG_region_end rl hF
 u_c stepG_seq rl hF
 u_c stepG_seq rl hF
 u_reg rl hF
 refine Goes.stop λw₁ h₁=>?_
 replace hF:=rl hF h₁
 clear h₁
 refine kM (n:=126) (v:=ak sa n cap) rfl rfl (by k_ne) (λw₂ h₂=>?_) ?_
 ·have h:=rl hF h₂;have hc:w₂.cell? (ar N 0 J)=U (ak sa n cap):=by simp[aL,h.1]
  constructor
  ·simp[execOp,go_sem,hc]
  intro e he;simp[go_sem,execOp,hc]at he
  exact⟨⟨N,0,J⟩,he,F0,h.2.2.2⟩
 walk_nrm
 have b1:¬((m:Int)<1):=by omega
 have b2:¬((16:Int)<(m:Int)):=by omega
 have b3:¬((100:Int)<(n:Int)):=by omega
 refine goes_quiet (n:=80) (m:=46) atRel_refl (λw=>dB w) ?_;u_op rl hF
 u_op rl hF
 u_call func10 QY f10 rl hF
 u_c stepG_seq rl hF
 u_reg rl hF
 u_op rl hF
 u_c stepG_region_end rl hF
 u_c stepG_seq rl hF
 u_c stepG_block rl hF
 u_c stepG_seq rl hF
 u_reg rl hF
 u_op rl hF
 u_op rl hF
 u_op rl hF
 u_op rl hF
 u_op rl hF
 u_op rl hF
 u_op rl hF
 u_c stepG_region_end rl hF
 u_cond false rl hF
 u_c stepG_seq rl hF
 u_reg rl hF
 u_op rl hF
 u_op rl hF
 u_op rl hF
 u_c stepG_region_end rl hF
 u_cond false rl hF
 u_c stepG_skip rl hF
 u_c stepG_inBlock rl hF
 u_c stepG_seq rl hF
 u_reg rl hF
 u_op rl hF
 u_c stepG_region_end rl hF
 u_c stepG_ret' rl hF
 u_leave1 func10 rl hF
 u_op rl hF
 u_c stepG_region_end rl hF
 u_c stepG_seq rl hF
 u_reg rl hF
 u_op rl hF
 refine Goes.stop λw₁ h₁=>?_
 replace hF:=rl hF h₁
 clear h₁
 refine tY (n:=45) rfl rfl (by k_ne) λw₂ h₂=>⟨aJ false,w₂,by kernel_rfl,by kernel_rfl,dB _,?_⟩
 replace hF:=rl hF h₂
 clear h₂;walk_nrm
 refine goes_quiet (n:=10) (m:=35) atRel_refl (λw=>dB w) ?_;u_c stepG_region_end rl hF
 u_cond false rl hF
 u_c stepG_skip rl hF
 u_c stepG_seq rl hF
 u_reg rl hF
 refine Goes.stop λw₁ h₁=>?_
 replace hF:=rl hF h₁
 clear h₁
 refine kM (n:=34) (v:=ak sa n cap) rfl rfl (by k_ne) (λw₂ h₂=>?_) ?_
 ·have h:=rl hF h₂;have hc:w₂.cell? (ar N 0 J)=U (ak sa n cap):=by simp[aL,h.1]
  constructor
  ·simp[execOp,go_sem,hc]
  intro e he;simp[go_sem,execOp,hc]at he
  exact⟨⟨N,0,J⟩,he,F0,h.2.2.2⟩
 walk_nrm
 refine goes_quiet (n:=20) (m:=14) atRel_refl (λw=>dB w) ?_;u_op rl hF
 u_op rl hF
 u_op rl hF
 u_call func11 adx f11 rl hF
 refine Goes.stop λw₁ h₁=>Goes.stop λw₂ h₂=>?_
 replace hF:=rl (rl hF h₁) h₂
 rw[AW]
 refine⟨⟨hF.1,hF.2.1,hF.2.2.1⟩,?_⟩;simp only[De,cE,Sd.ptr,f11,f5,bC];exact⟨_,_,_,_,_,_,_,_,_,_,_,_,_,_,_,_,_,_,_,_,_,rfl⟩
def adz(cs:List Frame)(v e:aj)(b₀:Frame)(a₀:Act)(ops₀:Array Oper)(i₀:Nat)(rest₀:List Nat)(k₀:List Item)(x0 x1 x2 x3 x4 x5 x6 x7 x8 x9 iB dV cr bN cu cD cI cJ bP cK cS:aj)(w:ah):Goes prog true AtRel DC0 (λg w'=>AtRel w w'/\g=G (b₀.at (a₀.put ((ops₀[i₀]?).bind (·.dst)) (aX #[v,e])) (.inRegion ops₀ rest₀::k₀)) cs) 20 (G ((base ub).at (Act.put ⟨#[x0,x1,x2,x3,x4,x5,x6,x7,x8,x9,iB,dV,cr,bN,cu,cD,cI,cJ,bP,cK,cS],[]⟩ (((De f5)[4]?).bind (·.dst)) (aX #[v,e])) [.inRegion (De f5) [5,6,7,8],.code .ret]) (b₀.at a₀ (.inRegion ops₀ (i₀::rest₀)::k₀)::cs)) w:=by
 have hF:AtRel w w:=atRel_refl w;have rl:∀{x x₁:ah},AtRel w x->AtRel x x₁->AtRel w x₁:=λh r=>atRel_trans _ _ _ h r
 simp only[De,f5,bC];walk_nrm
 u_op rl hF
 u_op rl hF
 u_op rl hF
 u_op rl hF
 u_c stepG_region_end rl hF
 u_c stepG_ret' rl hF
 u_in rl hF
 refine goes_leave2 rfl rfl func5 rfl ⟨by u_nil,?_⟩;exact Goes.stop λw₁ h₁=>⟨rl hF h₁,rfl⟩
structure Sd.Out(s:Sd)(v e:aj)(F:Nat->Prop)(w:ah):Prop where
 kH:jP F s.gs s.ts (λf=>fH.contains f=true) 16 w
 no:∀b,F b->s.gs b=false/\s.ts b=false
 rv:RV (s.kA F) v v
 re:RV (s.kA F) e e
 told:∀w2:ah,(∀a:av,F a.block\/s.gs a.block=true->w2.cell? a=w.cell? a)->s.Told (aX #[v,e]) w2
 kn:s.Kn w
def Sd.adA(s:Sd)(f:s.qh)(hs:∀g,g∈mh->s.gs g=true)(m:Nat)(hm:1<=m/\m<=16)(hn:s.n<=100)(sa:Option av)(cap:Nat){SB:Nat->Prop}{gs:Array Goroutine}{w:ah}{t:Trace}{q:Nat->Nat}{sl:Option (Nat×Nat)}
  {b₀:Frame} {a₀:Act} {ops₀:Array Oper} {i₀:Nat} {rest₀:List Nat} {k₀:List Item} {cs:List Frame} (hbl:s.bl=w.heap.size)
  (hold:∀b,(s.gs b=true/\b≠s.bl)\/s.ts b=true->b<w.heap.size/\¬SB b)
  (hE:∀w',(∀b,b<w.heap.size->¬SB b->w'.heap[b]?=w.heap[b]?)->w'.heap[s.bl]?=U (ay #[ak sa s.n cap] 22 (0,0))->w.heap.size<w'.heap.size->Da s w'/\gZ s.A w')
  (h:BS prog SB gs (G ((base ub).at ⟨(ak sa s.n cap::af I m::List.replicate 19 undef).toArray,[]⟩ [.code (mj f5)]) (b₀.at a₀ (.inRegion ops₀ (i₀::rest₀)::k₀)::cs)) w t q):∃M gs' w' sl' t' q' v e F pq,runNT prog M (crowd gs w sl) t=(.next (crowd gs' w' sl'),t')/\gs.size<=gs'.size/\BS prog pq gs' (G (b₀.at (a₀.put ((ops₀[i₀]?).bind (·.dst)) (aX #[v,e])) (.inRegion ops₀ rest₀::k₀)) cs) w' t' q' /\
   (∀b,pq b->SB b\/w.heap.size<b)/\(∀b,F b->w.heap.size<=b/\¬pq b)/\s.Out v e F w'/\(∀b,b<w.heap.size->¬SB b->w'.heap[b]?=w.heap[b]?)/\bG w w':=by
 have lt:∀b,SB b->b<w.heap.size:=h.lt;obtain⟨M1,jS,g1,w1,gj,t1,q1,r1,z1,⟨⟨Kz,AZ,hS1⟩,x0,x1,x2,x3,x4,x5,x6,x7,x8,x9,iB,dV,cr,bN,cu,cD,cI,cJ,bP,cK,cS,rfl⟩,js⟩:=
  BS.goes (P:=prog) (SB:=SB) (140+sumTo gs.size q) 140 gs _ w sl t q (aR _) h (ady (b₀.at a₀ (.inRegion ops₀ (i₀::rest₀)::k₀)::cs) sa s.n cap m hm hn w lt)
 have hb1:w.heap.size<w1.heap.size:=(bD.1 Kz).1;rw[<- hbl]at Kz js;have qm:∀b,s.gs b=true\/s.ts b=true->b<w1.heap.size/\¬SB b:=λb hb=>by
  by_cases e:b=s.bl
  ·subst e;exact⟨by omega,λh=>by have:=lt _ h;omega⟩
  obtain⟨h1,h2⟩:=hold b (hb.imp (λh=>⟨h,e⟩) id);exact⟨by omega,h2⟩
 have adB:¬SB s.bl:=λh=>by have:=lt _ h;omega
 have KC:∀w',(∀b,b<w1.heap.size->¬SB b->w'.heap[b]?=w1.heap[b]?)->w1.heap.size<=w'.heap.size->Da s w'/\gZ s.A w':=λw' k hs=>
  hE w' (λb hb hS=>(k b (by omega) hS).trans (AZ b hb)) ((k _ (by omega) adB).trans Kz) (by omega)
 obtain⟨M2,cg,w2,gI,t2,q2,gB,R,N,s',r2,z2,m1,m2,m3,gT,Ku,e1,hrow,Kw,QZ,fB⟩:=s.whole f m (by omega) (by omega) _ (sl:=gj) qm (λw' k hs=>(KC w' k hs).1) js;obtain⟨E2,V2⟩:=KC w2 QZ fB.size;have adC:s.Kn w2:=⟨V2,E2.ro,E2.tk,E2.g⟩;have Q0:=hS1.size;have hN:∀b,s.gs b=true\/s.ts b=true->b<N/\¬(SB b\/b=s'.Wg):=λb hb=>by
  obtain⟨h1,h2⟩:=qm b hb;exact⟨by omega,λh=>h.elim h2 λe=>by omega⟩
 obtain⟨M3,tL,w3,qQ,t3,q3,v,e,F,r3,z3,pk,hF,Q5,hv,he,hT,KD,Df⟩:=s.adt s' e1 hs f.tA f.gl (by omega) (sl:=gI) adC hN (λb hb=>hb.elim (λh=>by have:=lt _ h;omega) λe=>by omega) m3 hrow Kw gT Ku;obtain⟨M4,yF,g4,d4,xd,t4,q4,r4,z4,rfl,zv⟩:=pk.quiet (sl:=qQ) (S:=λg=>g=G (b₀.at (a₀.put ((ops₀[i₀]?).bind (·.dst)) (aX #[v,e])) (.inRegion ops₀ rest₀::k₀)) cs) (adz cs v e b₀ a₀ ops₀ i₀ rest₀ k₀ x0 x1 x2 x3 x4 x5 x6 x7 x8 x9 iB dV cr bN cu cD cI cJ bP cK cS w3);have hlt:∀b,b<w1.heap.size->¬SB b->w3.heap[b]?=w1.heap[b]?:=λb hb hS=>(KD b (by omega)).trans (QZ b hb hS)
 obtain⟨E3,V3⟩:=KC (w3.at d4) hlt (bH fB.size Df.size)
 refine⟨M1+(M2+(M3+M4)),yF,_,xd,t4,q4,v,e,F,λb=>SB b\/b=s'.Wg,?_,by omega,zv,λb hb=>hb.imp id λe=>by omega,λb hb=>?_,⟨hF,λb hb=>(Q5 b hb).2,hv,he,hT,V3,E3.ro,E3.tk,E3.g⟩,λb hb hS=>(hlt b (by omega) hS).trans (AZ b hb),⟨Df.os.trans (fB.os.trans hS1.os),Df.o.trans (fB.o.trans hS1.o),Df.tape.trans (fB.tape.trans hS1.tape),bH hS1.size (bH fB.size Df.size)⟩⟩
 ·rw[tF,r1];show runNT _ (M2+(M3+M4)) _ _=_
  rw[tF,r2];show runNT _ (M3+M4) _ _=_
  rw[tF,r3];exact r4
 obtain⟨h1,-⟩:=Q5 b hb;exact⟨by omega,λh=>h.elim (λh=>by have:=lt _ h;omega) λe=>by omega⟩
section
variable {P:Program}{SB:Nat->Prop}{w w':ah}{Stop:Goroutine->ah->Prop}{n:Nat}{b:Frame}{a:Act}{kk:List Item}{cs:List Frame}{ops:Array Oper}{i:Nat}{rest:List Nat}{o:Oper}
def KE{wr:Bool}(hs:w.heap.size<=w'.heap.size)(h1:¬SB g)(h2:g<w'.heap.size)(h:∀e∈es,zi g wr e):dF SB w w' es:=by
 refine⟨hs,λe he=>?_⟩;obtain⟨p,rfl,rfl⟩:=h e he;exact evL_cell p wr (λ⟨c,hc,hc2⟩=>by cases hc;exact h1 hc2) h2
def adD{xs:List aj}(ho:ops[i]?=U o)(hw:Region.wanted o (yielded ops a.tmps)=true)(hk:b.kind≠.early)(hop:o.op=.load ty x)(hx:a.eval x=.pointer (U (ar g k J)))(hu:P.underlying ty=U D)(hd:D.isRow=true)(hi:(P.info? ty).map (·.size)=U xs.length)(h1:¬SB g)
  (hc:∀w₁,AtRel w w₁->w₁.rangeAt g k xs/\g<w₁.heap.size) (next:Goes P true AtRel (dF SB) Stop n (G (b.at (a.put o.dst (.agg xs.toArray)) (.inRegion ops rest::kk)) cs) w):Goes P true AtRel (dF SB) Stop (n+1) (G (b.at a (.inRegion ops (i::rest)::kk)) cs) w:=
 FV ho hw hk λw₁ h₁=>by
  obtain⟨h2,h3⟩:=hc w₁ h₁;obtain⟨r1,r2⟩:=FL (P:=P) hop hx h2 hu hd hi;exact⟨_,w₁,r1,KE (aR _) h1 h3 λe he=>r2 e (mem_listed he),Goes.rely atRel_trans next h₁⟩
def A0{y:Operand}(ho:ops[i]?=U o)(hw:Region.wanted o (yielded ops a.tmps)=true)(hk:b.kind≠.early)(hop:o.op=.store ty x y)(hx:a.eval x=ax (U (ar g k J)))(hy:a.eval y=.agg cells)(hi:(P.info? ty).map (·.size)=U cells.size)(h1:cells.all (·.oneCell')=true)(h0:¬SB g)
  (hc:∀w₁,AtRel w w₁->w₁.there g k cells.size/\g<w₁.heap.size) (next:∀w₁,AtRel w w₁->Goes P true AtRel (dF SB) Stop n (G (b.at (a.put o.dst undef) (.inRegion ops rest::kk)) cs) (w₁.setCells g k cells.toList)):Goes P true AtRel (dF SB) Stop (n+1) (G (b.at a (.inRegion ops (i::rest)::kk)) cs) w:=by
 refine Goes.step rfl λw₁ h₁=>?_
 obtain⟨h2,h3⟩:=hc w₁ h₁;obtain⟨r1,r2⟩:=Qs (P:=P) hop hx hy h2 hi h1;rw[stepG_none ho hw hk r1];have hz:=(Kp.bZ (O:=λ_=>True) (g:=g) trivial cells.toList k w₁).size;exact⟨KE (uX hz.symm) h0 (by rw[hz];exact h3) λe he=>r2 e (mem_listed he),next w₁ h₁⟩
def adE{es':Array Event}(h:dF SB w w' es)(k:∀e∈es',e∈es):dF SB w w' es':=⟨h.1,λe he=>h.2 e (k e he)⟩
def adF{r:Option Nat}(hs:w.heap.size<=w'.heap.size)(h1:¬SB g/\g<w'.heap.size)(h2:∀b,r=U b->¬SB b/\b<w'.heap.size)(h:∀e∈es,(∃ad,e.loc=.cell ad/\((e.write=false/\ad.block=g)\/U ad.block=r))\/∃m,e=⟨.mark m,false,true⟩/\Conc.Neutral m):dF SB w w' es:=by
 refine⟨hs,λe he=>?_⟩
 rcases h e he with⟨ad,e1,e2⟩|⟨m,rfl,hm⟩
 ·have hb:¬SB ad.block/\ad.block<w'.heap.size:=by
   rcases e2 with⟨_,e2⟩|e2
   ·rw[e2];exact h1
   exact h2 _ e2.symm
  obtain⟨loc,wr,at'⟩:=e;simp only at e1;subst e1
  refine⟨λx hx ⟨c,hc,hc2⟩=>?_,by simp,by simp,hb.2⟩;simp only[MemAct.ofEvent,MemAct.touch?,gQ]at hx;subst hx
  cases hc
  exact absurd hc2 hb.1
 unfold Conc.Neutral at hm;subst hm;exact⟨λx hx=>(by cases hx),λh=>(by cases h),λh=>(by cases h),trivial⟩
def adG{v xv:aj}(s x:Operand)(ty:TypeId)(ho:ops[i]?=U o)(hw:Region.wanted o (yielded ops a.tmps)=true)(hk:b.kind≠.early)(hop:o.op=.call { callee:=.builtin .append,args:=#[s,x],argTypes:=#[ty,ty] })(hs:a.eval s=v)(hx:a.eval x=xv)
  (h:∀w₁,AtRel w w₁->∃v' w',(Builtin.append_ #[ty,ty] o.type #[v,xv]).run P w₁=.ok v' w'/\dF SB w₁ w' ((Builtin.append_ #[ty,ty] o.type #[v,xv]).events P w₁ #[])/\Goes P true AtRel (dF SB) Stop n (G (b.at (a.put o.dst v') (.inRegion ops rest::kk)) cs) w'):Goes P true AtRel (dF SB) Stop (n+1) (G (b.at a (.inRegion ops (i::rest)::kk)) cs) w:=
 FV ho hw hk λw₁ h₁=>by
  obtain⟨v',w',h1,h2,h3⟩:=h w₁ h₁
  refine⟨v',w',?_,adE h2 λe he=>?_,h3⟩
  ·unfold execOp;simp only[hop,resolve,invoke,builtin,kT,uF,sQ,List.map_toArray,wz,List.map_nil,hs,hx,h1]
  have he:=mem_listed he;rw[events_append_op s x ty hop hs hx]at he;exact he
end
section
variable {P:Program}{SB:Nat->Prop}{gs:Array Goroutine}{w:ah}{t:Trace}{q:Nat->Nat}{sl:Option (Nat×Nat)}
def BS.fin{b:Frame}{a:Act}{k:List Item}(hd:a.defers=[])(hk:b.kind=.normal)(hf:P.funcs[b.fn]?=U fn)(hi:P.inits.idxOf? b.fn=J)(hr:∀w,(results fn a.tmps).runT P w #[]=(.ok y w,#[]))(hP:∀d,Post y (w.at d)):∀(M:Nat) (gs:Array Goroutine) (d:Nat) (sl:Option (Nat×Nat)) (t:Trace) (q:Nat->Nat),sumTo gs.size q<=M->BS P SB gs (G { Frame.at b a k with mode:=.returning } []) (w.at d) t q ->
   ∃N last o w' t',runNT P (N+1) (crowd gs (w.at d) sl) t=(.ended o w',t')/\runN P N (crowd gs (w.at d) sl)=.next last/\step P last=.ended o w'/\Conc.Good P Post last o w' t':=by
 have key:∀(gs:Array Goroutine) (d:Nat) (sl:Option (Nat×Nat)) (t:Trace) (q:Nat->Nat),BS P SB gs (G { Frame.at b a k with mode:=.returning } []) (w.at d) t q->∀d' sl',stepT P (crowd gs (w.at d) sl)=runT P (crowd gs ((w.at d).at d') sl') 0 ->
   ∃N last o w' t',runNT P (N+1) (crowd gs (w.at d) sl) t=(.ended o w',t')/\runN P N (crowd gs (w.at d) sl)=.next last/\step P last=.ended o w'/\Conc.Good P Post last o w' t':=by
  intro gs d sl t q hB d' sl' hs;have KF:=X3 hd hk hf hi (hr ((w.at d).at d')) (k:=k);have vk:=runT_many_ended (P:=P) (sl:=sl') (i:=0) hB.g0 (show stepG P (0==0) _ ((w.at d).at d')=_ from KF);have Q6:=hs.trans vk;have Q7:=hB.ps.own (fn:=(G { Frame.at b a k with mode:=.returning } []).frame.fn) (pos:=(G { Frame.at b a k with mode:=.returning } []).frame.place) (es:=seen P b.fn #[]) (by simp[seen])
  refine⟨0,crowd gs (w.at d) sl,_,(w.at d).at d',_,by simp only[runNT,Q6],rfl,by unfold step;rw[Q6],y,rfl,?_,Q7.clean,Q7.over,⟨λz hz=>?_,rfl⟩,λj z hz hj=>?_⟩
  ·exact hP d'
  ·obtain⟨j,hj⟩:=AP.1 hz;rw[List.getElem?_drop]at hj;exact⟨_,(hB.lv.old (1+j) z (by omega) (by simpa[crowd]using hj)).leaves⟩
  have hq:=hB.lv.old j z (by omega) hz
  refine⟨q j,?_⟩;rw[show ∀u:Trace,u.deaf j u.size=Deaf u j from λ_=>rfl,Deaf_other t (g:=j) (g':=0) (by omega) _ (λop hop=>by obtain⟨e,_,rfl⟩:=jQ hop;rfl)];exact hq.hears _
 intro M
 induction M with
 |zero=>
  intro gs d sl t q hM hB;obtain⟨d',sl',hs|⟨gs',q',ops,hs,jT,hsz,hlt⟩⟩:=hB.turn (sl:=sl) rfl
  ·exact key gs d sl t q hB d' sl' hs
  omega
 |succ M ih=>
  intro gs d sl t q hM hB;obtain⟨d',sl',hs|⟨gs',q',ops,hs,jT,hsz,hlt⟩⟩:=hB.turn (sl:=sl) rfl
  ·exact key gs d sl t q hB d' sl' hs
  obtain⟨N,last,o,w2,t2,e1,e2,e3,e4⟩:=ih gs' d' sl' _ q' (by rw[hsz];omega) jT
  refine⟨N+1,last,o,w2,t2,by rw[pW hs];exact e1,?_,e3,e4⟩;have:step P (crowd gs (w.at d) sl)=.next (crowd gs' ((w.at d).at d') sl'):=by unfold step;rw[hs]
  simp only[runN,this];exact e2
def BS.adH{O:Nat->Prop}{gs' ts:Nat->Bool}{fn:FuncId->Prop}{g:Nat}{okL:List FuncId}{gl:Gl}{R:aj->ah->Prop}{b:Frame}{a:Act}{kk:List Item}{cs:List Frame}{ops:Array Oper}{i:Nat}{rest:List Nat}{o:Oper}{f:FuncId}{xs:Array aj}
  (cx:Cx P okL gl (h_ O gs' ts fn g)) (nx:gl.X=[]) (hf:fn f) (hb:∃fn c,P.funcs[f]?=U fn/\fn.body=U c) (hl:RL (h_ O gs' ts fn g) xs xs) (eI:RW (h_ O gs' ts fn g) (jO w gs' ts) w) (hO:jP O gs' ts fn g w) (hno:∀b,O b->gs' b=false/\ts b=false)
  (hC:∀τ,Calls P f xs (cd (jO w gs' ts) τ) λe v'=>∃y,e=aH y/\R y v'/\∀b,b<w.heap.size->v'.heap[b]?=(jO w gs' ts).heap[b]?) (off:∀b,O b\/gs' b=true->¬SB b)
  (ho:ops[i]?=U o) (hw:Region.wanted o (yielded ops a.tmps)=true) (hk:b.kind≠.early) (hr:∀w₁,AtRel w w₁->(execOp a.eval o).run P w₁=.ok (.enter f xs) w₁/\(execOp a.eval o).events P w₁ #[]=#[])
  (h:BS P SB gs (G (b.at a (.inRegion ops (i::rest)::kk)) cs) w t q):∃N cg w' sl' t' q' β' y y' V,runNT P N (crowd gs w sl) t=(.next (crowd cg w' sl'),t')/\cg.size=gs.size/\BS P SB cg (G (b.at (a.put o.dst y') (.inRegion ops rest::kk)) cs) w' t' q'/\R y V/\RV β' y y'/\RW β' V w'/\Fx (h_ O gs' ts fn g) β' w w'/\∀b,b<w.heap.size->w'.heap[b]?=w.heap[b]?:=by
 obtain⟨N,cg,w',sl',t',q',β',y,y',V,r1,z1,hB,⟨hR,hV⟩,hv,KG,cH,-⟩:=BS.call (sl:=sl) (SB:=SB) (R:=λy V=>R y V/\∀b,b<w.heap.size->V.heap[b]?=(jO w gs' ts).heap[b]?) cx nx hf hb hl eI (λτ=>(hC τ).mono λe v' ⟨y,h1,h2,h3⟩=>⟨y,h1,h2,h3⟩)
  (λb b' hb=>by
   rcases hb with⟨rfl,hb⟩|⟨rfl,hb⟩
   ·exact off _ (.inl hb)
   exact off _ (.inr hb)) ho hw hk hr h
 refine⟨N,cg,w',sl',t',q',β',y,y',V,r1,z1,hB,hR,hv,KG,cH,λb hb=>?_⟩
 by_cases F2:O b
 ·obtain⟨o,h1,h2⟩:=hO b F2;obtain⟨o1,o2,h3,h4,h5⟩:=KG.own b b (cH.le.own _ _ ⟨rfl,F2⟩);obtain⟨n1,n2⟩:=hno b F2;rw[hV b hb,N8 n1 n2,h1]at h3
  cases h3
  rw[h4,h1,RO.eq KG.oP (λb h=>cH.le.any h) h2 h5]
 exact cH.frame b hb λa ha=>F2 (by obtain⟨rfl,ha⟩:=ha;exact ha)
end
def eJ(P:Program)(Post:aj->ah->Prop)(m:Machine)(t:Trace):Prop:=∃N last o w' t',runNT P (N+1) m t=(.ended o w',t')/\runN P N m=.next last/\step P last=.ended o w'/\Conc.Good P Post last o w' t'
def eJ.after{m m':Machine}{t':Trace}{M:Nat}(h:runNT P M m t=(.next m',t'))(k:eJ P Post m' t'):eJ P Post m t:=by
 obtain⟨N,last,o,w',t2,h1,h2,h3,h4⟩:=k;have h5:runN P M m=.next m':=by rw[<- runNT_fst P M m t,h]
 refine⟨M+N,last,o,w',t2,?_,?_,h3,h4⟩
 ·rw[xK,tF,h];exact h1
 rw[runN_add,h5];exact h2
structure pw(A:Nat->av)(g0 ts:Nat->Bool)(W:ah):Prop where
 eQ:gZ A W
 kw:mF W
 mx:nP W
 ro:∀b,g0 b=true->∃c e,W.heap[b]?=U (ay c e (0,0))/\∀gs,RL (h_ (λ_=>False) gs ts (λf=>fH.contains f=true) 16) c c
 tk:∀b,ts b=true->g0 b=false/\∃c e,W.heap[b]?=U (ay c e (0,0))
 g:16<=W.heap.size
 s8:∀g∈[2,1,0,3,4,5,12,13],g0 g=true
 s12:∀g,g∈mh->g0 g=true
 tA:∀i,i<11->ts (A i).block=true
 gl:∀x,qV.contains x=true->g0 x=true\/ts x=true
section
variable {A:Nat->av}{g0 ts:Nat->Bool}{W w w':ah}
def pw.lt(h:pw A g0 ts W)(hb:g0 b=true\/ts b=true):b<W.heap.size:=by
 rcases hb with hb|hb
 ·obtain⟨_,_,e,_⟩:=h.ro b hb;exact(bD.1 e).1
 obtain⟨_,_,_,e⟩:=h.tk b hb;exact(bD.1 e).1
def pw.on(h:pw A g0 ts W)(k:∀b,b<W.heap.size->w'.heap[b]?=W.heap[b]?)(hs:W.heap.size<=w'.heap.size):pw A g0 ts w':=by
 have hb:Below W.heap.size W { w' with os:=W.os,tape:=W.tape,output:=W.output }:=⟨rfl,rfl,rfl,hs,k⟩;have s1:=h.eQ.below hb;have s2:=h.kw.below hb (h.lt (.inl (h.s8 _ (by simp))));have s3:=h.mx.below hb;exact⟨⟨s1.c0,s1.c1,s1.c2,s1.c3,s1.c4,s1.c5,s1.c6,s1.c7,s1.c8,s1.c9,s1.c10,s1.et,s1.row,s1.ne⟩,λi hi=>s2 i hi,s3,λb hb=>by rw[k b (h.lt (.inl hb))];exact h.ro b hb,λb hb=>by rw[k b (h.lt (.inr hb))];exact h.tk b hb,bH h.g hs,h.s8,h.s12,h.tA,h.gl⟩
def mY(B:Nat)(w:ah)(v:aj)(n:Nat)(txt:Nat->ByteArray):Prop:=
 (v=ak J 0 0/\n=0)\/∃g cap cur,v=ak (U (ar g 0 J)) n cap/\B<=g/\w.heap[g]?=U (ay cur 9 (0,0))/\n<=cap/\cap<=maxLen/\cur.size=cap/\(∀i,i<n->cur[i]?=U (aB (txt i)))/\∀(i:Nat) u,cur[i]?=U u->∃s,u=aB s
def mY.own{B:Nat}{v:aj}(h:mY B w v n txt):w.ownsRow B 9 1 v n ((List.range n).map λi=>aB (txt i)):=by
 refine⟨by simp,?_⟩
 rcases h with⟨rfl,rfl⟩|⟨g,cap,cur,rfl,h1,h2,h3,h4,h5,h6,-⟩
 ·exact .inl ⟨rfl,rfl⟩
 refine .inr ⟨g,cap,cur,rfl,h1,h2,h3,h4,by omega,List.ext_getElem? λi=>?_⟩;rw[ru]
 by_cases hi:i<n
 ·rw[aU (by omega),oI,h6 i hi];simp[hi]
 rw[aF (by omega),ny (by simp;omega)]
def mY.on{B:Nat}{v:aj}(h:mY B w v n txt)(k:∀g,v.ownBlock=U g->w'.heap[g]?=w.heap[g]?):mY B w' v n txt:=by
 rcases h with h|⟨g,cap,cur,rfl,h1,h2,h3⟩
 ·exact .inl h
 exact .inr ⟨g,cap,cur,rfl,h1,(k g rfl).trans h2,h3⟩
def mY.lt{B:Nat}{v:aj}(h:mY B w v n txt)(hg:v.ownBlock=U g):B<=g/\g<w.heap.size:=h.own.lt g hg
def adI:(prog.info? 9).map (λi=>(i.zero,i.size,i.bytes))=U (U (aB ⟨#[]⟩),1,16):=by kernel_rfl
def adJ(h:(Builtin.zeroCells (Value.string ⟨#[]⟩).cells k)[i]?=U u):∃s,u=aB s:=by
 simp only[Builtin.zeroCells,Value.cells]at h;obtain⟨h1,h2⟩:=bD.1 h;simp[Nat.mod_one]at h2
 exact⟨_,h2.symm⟩
def adK{B:Nat}{v:aj}(h:mY B w v n txt)(hn:n<1000)(hB:B<=w.heap.size){ab:Nat}(ha:w.cell? (ar ab 0 J)=U (aB (txt n))):∃v' w',(Builtin.append_ #[22,22] 22 #[v,ak (U (ar ab 0 J)) 1 1]).run prog w=.ok v' w'/\mY B w' v' (n+1) txt/\w.grownBy w' v.ownBlock/\(∀g,v'.ownBlock=U g->v.ownBlock=U g\/w.heap.size<=g) /\
   ∀ev∈(Builtin.append_ #[22,22] 22 #[v,ak (U (ar ab 0 J)) 1 1]).events prog w #[],(∃ad,ev.loc=.cell ad/\((ev.write=false/\ad.block=ab)\/U ad.block=v.ownBlock))\/∃m,ev=⟨.mark m,false,true⟩/\Conc.Neutral m:=by
 have hown:=h.own;obtain⟨i0,hi,hz0,hz1,hz2⟩:=ma adI;have hnews:∀(j:Nat) (u:aj),[Value.string (txt n)][j]?=U u->w.cell? ((⟨ab,0,J⟩:av).add j)=U u:=by
  intro j u hj
  match j,hj with
  |0,hj=>simp at hj;subst hj;simpa[Addr.add]using ha
 have h1:∀u∈[Value.string (txt n)],u.oneCell'=true:=by intro u hu;simp at hu;subst hu;rfl
 have Kv:(Value.string ⟨#[]⟩).cells.size=1:=rfl;have cP:=events_append_where (P:=prog) w B 22 22 9 i0 (aB ⟨#[]⟩) 1 16 (by kernel_rfl) hi hz0 hz1 hz2 v n _ hown ⟨ab,0,J⟩ 1 1 [aB (txt n)] rfl hnews h1 (by simp only[maxLen];omega) (by omega);have new:∀old,old<n+1->∀xs:Array aj,xs.size=n->(∀i,i<n->xs[i]?=U (aB (txt i)))->mY B (w.drew.alloc (ay (xs++[Value.string (txt n)].toArray++Builtin.zeroCells (Value.string ⟨#[]⟩).cells (grownCap w (n+1) old 9-(n+1))) 9)) (ak (U (ar w.heap.size 0 J)) (n+1) (grownCap w (n+1) old 9)) (n+1) txt:=by
  intro old _ xs hx oL;have yj:=grownCap_ge w (n+1) old 9;have hcm:grownCap w (n+1) old 9<=maxLen:=grownCap_le_maxLen w (n+1) old 9 (by simp only[maxLen];omega);have hat:∀i,i<n+1->(xs++[Value.string (txt n)].toArray++Builtin.zeroCells (Value.string ⟨#[]⟩).cells (grownCap w (n+1) old 9-(n+1)))[i]?=U (aB (txt i)):=λi hi=>by
   rw[Array.getElem?_append_left (by simp;omega)]
   by_cases e:i<n
   ·rw[Array.getElem?_append_left (by omega)];exact oL i e
   obtain rfl:i=n:=by omega
   rw[xG (by omega)];simp[hx]
  refine .inr ⟨_,_,_,rfl,hB,dT w.drew _,yj,hcm,?_,hat,λi u hu=>?_⟩
  ·simp only[Array.size_append,List.size_toArray,wu,sR,size_zeroCells,Kv,hx];omega
  by_cases e:i<n+1
  ·rw[hat i e]at hu;cases hu;exact⟨_,rfl⟩
  rw[xG (by simp;omega)]at hu;exact adJ hu
 have gr:∀o,w.grownBy (w.drew.alloc o) v.ownBlock:=λo=>⟨rfl,rfl,rfl,by simp,λk (hk:k<w.heap.size) _=>alloc_old (w:=w.drew) hk⟩
 rcases h with⟨rfl,rfl⟩|⟨g,cap,cur,rfl,hbg,hg,ahk,hcm,hcs,hat,Q8⟩
 ·have hr:=run_append_nil (P:=prog) w 22 22 9 i0 (aB ⟨#[]⟩) (by kernel_rfl) hi hz0 ⟨ab,0,J⟩ 1 1 [aB (txt 0)] (by rw[hz1];rfl) hnews (by omega) (by omega) (by rw[hz2];omega)
  refine⟨_,_,hr,?_,gr _,λg hg=>.inr (by cases hg;exact aR _),cP⟩;have:=new 0 (by omega) #[] rfl λi hi=>absurd hi (im _)
  rw[Array.empty_append]at this;exact this
 by_cases hroom:n+1<=cap
 ·have adL:n*i0.size+[Value.string (txt n)].length<=cur.size:=by simp only[hz1,wu,sR];omega
  have hr:=run_append_room (P:=prog) w 22 22 9 i0 (by kernel_rfl) hi g n cap cur hg ⟨ab,0,J⟩ 1 1 [aB (txt n)] (by rw[hz1];rfl) hnews h1 hroom adL;rw[hz1]at hr
  refine⟨_,_,hr,.inr ⟨g,cap,_,rfl,hbg,setRow_heap w g cur _ 9 _ hg,hroom,hcm,?_,λi hi=>?_,λi u hu=>?_⟩,⟨rfl,rfl,rfl,by simp,λk _ hk=>setRow_other w g k _ (λe=>hk (by simp[mC,e]))⟩,λg' gS=>.inl gS,cP⟩
  ·simp only[List.size_toArray,sP,List.length_take,List.length_drop,qD,wu,sR];omega
  ·simp only[wT,Nat.mul_one]
   by_cases e:i<n
   ·rw[List.append_assoc,qC (by simp;omega),ru,aU e,oI];exact hat i e
   obtain rfl:i=n:=by omega
   rw[qC (by simp;omega),pE (by simp[Nat.min_eq_left (show i<=cur.size by omega)])];simp[Nat.min_eq_left (show i<=cur.size by omega)]
  simp only[wT,Nat.mul_one]at hu;have hm:=fQ hu
  rcases vo.1 hm with hm|hm
  ·rcases vo.1 hm with hm|hm
   ·obtain⟨j,hj⟩:=AP.1 (List.mem_of_mem_take hm);exact Q8 j u (by rw[<- oI];exact hj)
   exact⟨_,by simpa using hm⟩
  obtain⟨j,hj⟩:=AP.1 (List.mem_of_mem_drop hm);exact Q8 j u (by rw[<- oI];exact hj)
 have holds:∀(j:Nat) (u:aj),((List.range n).map λi=>Value.string (txt i))[j]?=U u->w.cell? ((⟨g,0,J⟩:av).add j)=U u:=λj u hj=>by
  obtain⟨qo,mV⟩:=eK.1 hj;simp at qo mV
  rw[Addr.add_lit,pH];simp only[aL,hg];rw[hat j qo,<- mV];rfl
 have hr:=run_append_grow (P:=prog) w 22 22 9 i0 (aB ⟨#[]⟩) (by kernel_rfl) hi hz0 ⟨g,0,J⟩ n cap ((List.range n).map λi=>aB (txt i)) (by rw[hz1];simp) holds ⟨ab,0,J⟩ 1 1 [aB (txt n)] (by rw[hz1];rfl) hnews (by omega) (by omega) (growslice_fits (by omega) (by rw[hz2];omega))
 refine⟨_,_,hr,new cap (by omega) _ (by simp) λi hi=>by simp[hi],gr _,λg' gS=>.inr (by cases gS;exact aR _),cP⟩
end
def ml(A:Nat->av)(g0 ts:Nat->Bool)(n:Nat)(v:aj)(bl rb:Nat)(txt:Nat->ByteArray)(W:ah):Sd:=
 { n,mW:=0,Wg:=0,c1:=0,c2:=0,bn:=0,bd:=0,ba:=0,bl,lv:=v,A,txt,gs:=λb=>g0 b||(b==bl||b==rb),ts,od:=λ_=>False,w0:=W }
section
variable {A:Nat->av}{g0 ts:Nat->Bool}{W w w':ah}{n bl rb:Nat}{v:aj}{txt:Nat->ByteArray}
def nU:(ml A g0 ts n v bl rb txt W).gs b=true↔g0 b=true\/b=bl\/b=rb:=by simp[ml]
def pw.env(h:pw A g0 ts W)(hbl:W.heap.size<=bl)(iZ:W.heap.size<=rb)(hv:v=ak J 0 0/\n=0/\rb=bl\/∃cap,v=ak (U (ar rb 0 J)) n cap)(hr:mY W.heap.size w' v n txt)(k:∀b,b<W.heap.size->w'.heap[b]?=W.heap[b]?)(hs:W.heap.size<=w'.heap.size)(hb:w'.heap[bl]?=U (ay #[v] 22 (0,0))):Da (ml A g0 ts n v bl rb txt W) w'/\gZ A w':=by
 have h':=h.on k hs;have low:∀b,ts b=true->g0 b=false/\b≠bl/\b≠rb:=λb hb=>by
  have:=h.lt (.inr hb);exact⟨(h.tk b hb).1,by omega,by omega⟩
 refine⟨⟨h'.eQ.six,h'.kw,h'.mx,by simp[ml,aL,hb],λh0=>?_,λb hb'=>?_,λb hb'=>⟨?_,(h'.tk b hb').2⟩,h'.g⟩,h'.eQ⟩
 ·rcases hv with⟨_,e,_⟩|⟨cap,rfl⟩
  ·exact absurd h0 (by rw[show (ml A g0 ts n v bl rb txt W).n=n from rfl,e];omega)
  rcases hr with⟨e,_⟩|⟨g,cap',cur,e,-,h2,-,-,-,h6,-⟩
  ·cases e
  cases e
  refine⟨rb,0,cap,rfl,nU.2 (.inr (.inr rfl)),λi hi=>?_⟩;have:=h6 i hi;simp[aL,h2,this,ml]
 ·rcases nU.1 hb' with hb'|rfl|rfl
  ·obtain⟨c,e,h1,h2⟩:=h'.ro b hb';exact⟨c,e,h1,h2 _⟩
  ·refine⟨_,_,hb,bh.one ?_⟩
   rcases hv with⟨rfl,-,-⟩|⟨cap,rfl⟩
   ·exact gX.2 ⟨_,rfl,rfl⟩
   exact gX.2 ⟨_,rfl,_,rfl,.inr (.inl ⟨rfl,nU.2 (.inr (.inr rfl))⟩),rfl,rfl⟩
  rcases hv with⟨rfl,-,rfl⟩|⟨cap,rfl⟩
  ·exact⟨_,_,hb,bh.one (gX.2 ⟨_,rfl,rfl⟩)⟩
  rcases hr with⟨e,_⟩|⟨g,cap',cur,e,-,h2,-,-,-,-,h7⟩
  ·cases e
  cases e
  refine⟨cur,_,h2,rfl,λi x y hx hy=>?_⟩
  cases hx.symm.trans hy
  obtain⟨z,rfl⟩:=h7 i x hx;exact jg.2 rfl
 cases e:(ml A g0 ts n v bl rb txt W).gs b with
 |false=>rfl
 |true=>
  obtain⟨l1,l2,l3⟩:=low b hb'
  rcases nU.1 e with e|e|e
  ·rw[e]at l1;cases l1
  ·exact absurd e l2
  exact absurd e l3
def pw.fine(h:pw A g0 ts W)(zl:∀i,i<n->(txt i).size<=9223372036854775807):(ml A g0 ts n v bl rb txt W).qh:=
 ⟨nU.2 (.inr (.inl rfl)),λg hg=>nU.2 (.inl (h.s8 g hg)),h.tA,λx hx=>(h.gl x hx).imp (λk=>nU.2 (.inl k)) id,zl⟩
def Q9(hG:pw A g0 ts W)(m:Nat)(hm:1<=m/\m<=16)(hn:n<=100)(zl:∀i,i<n->(txt i).size<=9223372036854775807){SB:Nat->Prop}{gs:Array Goroutine}{t:Trace}{q:Nat->Nat}{sl:Option (Nat×Nat)}
  {b₀:Frame} {a₀:Act} {ops₀:Array Oper} {i₀:Nat} {rest₀:List Nat} {k₀:List Item} {cs:List Frame} (hW:∀b,b<W.heap.size->w.heap[b]?=W.heap[b]?) (rT:W.heap.size<=w.heap.size) (eU:∀b,SB b->W.heap.size<=b) (hrow:mY W.heap.size w v n txt) (Q_:∀g,v.ownBlock=U g->¬SB g)
  (h:BS prog SB gs (G ((base ub).at ⟨(v::af I m::List.replicate 19 undef).toArray,[]⟩ [.code (mj f5)]) (b₀.at a₀ (.inRegion ops₀ (i₀::rest₀)::k₀)::cs)) w t q):∃rb M gs' w' sl' t' q' v' e F pq,runNT prog M (crowd gs w sl) t=(.next (crowd gs' w' sl'),t')/\gs.size<=gs'.size/\BS prog pq gs' (G (b₀.at (a₀.put ((ops₀[i₀]?).bind (·.dst)) (aX #[v',e])) (.inRegion ops₀ rest₀::k₀)) cs) w' t' q' /\
   (∀b,pq b->SB b\/w.heap.size<b)/\(∀b,F b->w.heap.size<=b/\¬pq b)/\(ml A g0 ts n v w.heap.size rb txt W).Out v' e F w'/\(∀b,b<w.heap.size->¬SB b->w'.heap[b]?=w.heap[b]?)/\bG w w' /\
   (∀b,(ml A g0 ts n v w.heap.size rb txt W).gs b=true\/ts b=true->b<=w.heap.size/\¬pq b):=by
 obtain⟨rb,sa,cap,hv,hv2,iZ,Cr⟩:∃rb sa cap,v=ak sa n cap/\(v=ak J 0 0/\n=0/\rb=w.heap.size\/∃cap,v=ak (U (ar rb 0 J)) n cap)/\W.heap.size<=rb/\(rb=w.heap.size\/(rb<w.heap.size/\¬SB rb/\v.ownBlock=U rb)):=by
  rcases id hrow with⟨rfl,rfl⟩|⟨g,cap,cur,rfl,h1,-⟩
  ·exact⟨w.heap.size,J,0,rfl,.inl ⟨rfl,rfl,rfl⟩,rT,.inl rfl⟩
  exact⟨g,_,cap,rfl,.inr ⟨cap,rfl⟩,h1,.inr ⟨(hrow.lt rfl).2,Q_ g rfl,rfl⟩⟩
 have lt:=h.lt;obtain⟨s,hs⟩:∃s,s=ml A g0 ts n v w.heap.size rb txt W:=⟨_,rfl⟩;have e1:s.n=n:=by rw[hs];rfl
 have e2:s.bl=w.heap.size:=by rw[hs];rfl
 have hold:∀b,(s.gs b=true/\b≠s.bl)\/s.ts b=true->b<w.heap.size/\¬SB b:=by
  rw[hs];rintro b (⟨hb,hne⟩|hb)
  ·rcases nU.1 hb with hb|hb|rfl
   ·have:=hG.lt (.inl hb);exact⟨by omega,λhS=>by have:=eU b hS;omega⟩
   ·exact absurd hb hne
   rcases Cr with e|e
   ·exact absurd e hne
   exact⟨e.1,e.2.1⟩
  have:=hG.lt (.inr hb);exact⟨by omega,λhS=>by have:=eU b hS;omega⟩
 have hE:∀w':ah,(∀b,b<w.heap.size->¬SB b->w'.heap[b]?=w.heap[b]?)->w'.heap[s.bl]?=U (ay #[ak sa s.n cap] 22 (0,0))->w.heap.size<w'.heap.size->Da s w'/\gZ s.A w':=λw' k hb hz=>by
  rw[e1,<- hv,e2]at hb;rw[hs]
  refine hG.env rT iZ hv2 (hrow.on λg hg=>k g (hrow.lt hg).2 (Q_ g hg)) (λb hb=>(k b (by omega) λhS=>by have:=eU b hS;omega).trans (hW b hb)) (by omega) hb
 have f:s.qh:=by rw[hs];exact hG.fine zl
 have h':BS prog SB gs (G ((base ub).at ⟨(ak sa s.n cap::af I m::List.replicate 19 undef).toArray,[]⟩ [.code (mj f5)]) (b₀.at a₀ (.inRegion ops₀ (i₀::rest₀)::k₀)::cs)) w t q:=by rw[e1,<- hv];exact h
 obtain⟨M,gs',w',sl',t',q',v',e,F,pq,r1,z1,hB,hS1,hF,hO,qm,hS⟩:=s.adA f (by rw[hs];exact λg hg=>nU.2 (.inl (hG.s12 g hg))) m hm (by rw[e1];exact hn) sa cap (sl:=sl) e2 hold hE h';rw[hs]at hO hold
 refine⟨rb,M,gs',w',sl',t',q',v',e,F,pq,r1,z1,hB,hS1,hF,hO,qm,hS,λb hb=>?_⟩
 by_cases hbl:b=w.heap.size
 ·subst hbl;exact⟨aR _,λyA=>(hS1 _ yA).elim (λh=>by have:=lt _ h;omega) λh=>by omega⟩
 obtain⟨h1,h2⟩:=hold b (hb.imp (λh=>⟨h,hbl⟩) id);exact⟨by omega,λyA=>(hS1 _ yA).elim h2 λh=>by omega⟩
end
abbrev fZ:FuncId:=3
abbrev Ra:FuncId:=4
def cQ(f:Func):Code:=f.body.getD .skip
def cA(f:Func):Code:=f.body.getD .skip
def KH(f:Func):Array Oper:=match (cQ f)with|.seq _ (.seq (.region _ ops _) _)=>ops|_=>#[]
def fI(f:Func):Code:=match (cQ f)with|.seq _ (.seq _ c)=>c|_=>.skip
def Dg(f:Func):Array Oper:=match (cA f)with|.seq _ (.seq (.region _ ops _) _)=>ops|_=>#[]
def F3(f:Func):Code:=match (cA f)with|.seq _ (.seq _ c)=>c|_=>.skip
def px:ByteArray:=⟨#[119,105,110,100,111,119,32,49,32,50,10,99,121,99,108,101,32,49,10,100,101,108,97,121,32,48,10]⟩
def adM:(f4.name == "runtime.NumGoroutine")=false:=by kernel_rfl
def Rb:(f5.name == "runtime.NumGoroutine")=false:=by kernel_rfl
def Rc(f:Func)(x0 x1 x2 x3 x4:aj)(todo:List Nat)(x5:aj):Frame:=(base Ra).at ⟨(x0::x1::x2::x3::x4::x5::List.replicate 16 undef).toArray,[]⟩ (.inRegion (Dg f) todo::[.code (F3 f)])
def F4(f:Func)(l m:aj)(todo:List Nat)(bP:aj):Frame:=(base fZ).at ⟨(l::m::undef::undef::aJ false::(List.replicate 13 undef++bP::List.replicate 107 undef)).toArray,[]⟩ (.inRegion (KH f) todo::[.code (fI f)])
def adN(l m:aj)(w:ah):Goes prog true AtRel (dF SB) (λg w'=>(w'.heap[w.heap.size]?=U (ay #[aB px] 9 (0,0))/\(∀b,b<w.heap.size->w'.heap[b]?=w.heap[b]?)/\w'.heap.size=w.heap.size+1/\bG w w')/\∃x1 x2 x3,g=G ((base ub).at ⟨(ak (U (ar w.heap.size 0 J)) 1 1::af I 2::List.replicate 19 undef).toArray,[]⟩ [.code (mj f5)]) [(Rc f4) (aJ false) x1 x2 x3 (ak (U (ar w.heap.size 0 J)) 1 1) [1,2,3,4,5,6] undef,(F4 f3) l m [0,1] undef]) 60
  (G ((base fZ).at ⟨(l::m::List.replicate 124 undef).toArray,[]⟩ [.code (cQ f3)]) []) w:=by
 have hF:w.heap=w.heap/\bG w w:=⟨rfl,rfl,rfl,rfl,aR _⟩;have rl:∀{x x₁:ah},(x.heap=w.heap/\bG w x)->AtRel x x₁->(x₁.heap=w.heap/\bG w x₁):=λh r=>by obtain⟨d,rfl⟩:=r;exact⟨h.1,h.2.os,h.2.o,h.2.tape,h.2.size⟩
 simp only[cQ,f3,bC,List.replicate]
 refine goes_quiet (n:=20) (m:=40) atRel_refl (λw=>dB w) ?_;u_c stepG_seq rl hF
 u_reg rl hF
 u_op rl hF
 u_c stepG_region_end rl hF
 u_c stepG_seq rl hF
 u_reg rl hF
 u_call func4 adM f4 rl hF
 u_c stepG_seq rl hF
 u_reg rl hF
 u_op rl hF
 u_c stepG_region_end rl hF
 u_c stepG_seq rl hF
 u_reg rl hF
 refine Goes.stop λw₁ h₁=>?_
 replace hF:=rl hF h₁
 clear h₁
 refine vC (n:=39) (v:=λN=>ak (U (ar N 0 J)) 1 1) (ob:=ay #[aB px] 9 (0,0)) rfl rfl (by k_ne) (λw₂ h₂=>⟨by kernel_rfl,by kernel_rfl⟩) λw₂ h₂=>?_
 replace hF:=rl hF h₂
 walk_nrm
 have e:w₂.heap.size=w.heap.size:=by rw[hF.1]
 have hA:(w₂.alloc (ay #[aB px] 9 (0,0))).heap[w.heap.size]?=U (ay #[aB px] 9 (0,0))/\(∀b,b<w.heap.size->(w₂.alloc (ay #[aB px] 9 (0,0))).heap[b]?=w.heap[b]?)/\(w₂.alloc (ay #[aB px] 9 (0,0))).heap.size=w.heap.size+1/\bG w (w₂.alloc (ay #[aB px] 9 (0,0))):=by
  refine⟨by rw[<- e];exact dT _ _,λb hb=>(alloc_old (by omega)).trans (by rw[hF.1]),by rw[<- e];exact rK ..,tZ hF.2⟩
 rw[e];generalize w₂.alloc _=W at hA;clear hF rl h₂ e;have hF:=hA;have rl:∀{x x₁:ah},(x.heap[w.heap.size]?=U (ay #[aB px] 9 (0,0))/\(∀b,b<w.heap.size->x.heap[b]?=w.heap[b]?)/\x.heap.size=w.heap.size+1/\bG w x)->AtRel x x₁->(x₁.heap[w.heap.size]?=U (ay #[aB px] 9 (0,0))/\(∀b,b<w.heap.size->x₁.heap[b]?=w.heap[b]?)/\x₁.heap.size=w.heap.size+1/\bG w x₁):=λh r=>by obtain⟨d,rfl⟩:=r;exact⟨h.1,h.2.1,h.2.2.1,⟨h.2.2.2.os,h.2.2.2.o,h.2.2.2.tape,h.2.2.2.size⟩⟩
 refine goes_quiet (n:=10) (m:=29) atRel_refl (λw=>dB w) ?_;u_call func5 Rb f5 rl hF
 refine Goes.stop λw₁ h₁=>Goes.stop λw₂ h₂=>?_
 replace hF:=rl (rl hF h₁) h₂
 refine⟨hF,undef,undef,undef,?_⟩;simp only[mj,Rc,F4,Dg,F3,KH,fI,cA,cQ,f5,f4,f3,bC,List.replicate,rp,Ax]
def A3(f:Func):Code:=match (fI f)with|.seq _ (.seq _ (.seq _ (.seq (.seq _ (.block _ (.loop c))) _)))=>c|_=>.skip
def gy(f:Func):Code:=match (fI f)with|.seq _ (.seq _ (.seq _ (.seq _ c)))=>c|_=>.skip
def oy(T:Array aj)(h:T.size=126):∃y:Nat->aj,T=(y 0::y 1::y 2::y 3::y 4::y 5::y 6::y 7::y 8::y 9::y 10::y 11::y 12::y 13::y 14::y 15::y 16::y 17::y 18::y 19::y 20::y 21::y 22::y 23::y 24::y 25::y 26::y 27::y 28::y 29::y 30::y 31::y 32::y 33::y 34::y 35::y 36::y 37::y 38::y 39::y 40::y 41::y 42::y 43::y 44::y 45::y 46::y 47::y 48::y 49::y 50::y 51::y 52::y 53::y 54::y 55::y 56::y 57::y 58::y 59::y 60::y 61::y 62::y 63::y 64::y 65::y 66::y 67::y 68::y 69::y 70::y 71::y 72::y 73::y 74::y 75::y 76::y 77::y 78::y 79::y 80::y 81::y 82::y 83::y 84::y 85::y 86::y 87::y 88::y 89::y 90::y 91::y 92::y 93::y 94::y 95::y 96::y 97::y 98::y 99::y 100::y 101::y 102::y 103::y 104::y 105::y 106::y 107::y 108::y 109::y 110::y 111::y 112::y 113::y 114::y 115::y 116::y 117::y 118::y 119::y 120::y 121::y 122::y 123::y 124::y 125::[]).toArray:=by
 refine⟨λi=>T.getD i undef,?_⟩;have e:T=((List.range 126).map λi=>T.getD i undef).toArray:=by
  refine Array.ext (by simp[h]) λi h1 h2=>?_
  simp[h1]
 exact e
def xr(l m:aj)(nn i:Nat)(own:aj)(g:Goroutine):Prop:=∃T:Array aj,T.size=126/\T[0]?=U l/\T[1]?=U m/\T[5]?=U (aJ true)/\T[6]?=U (af I nn)/\T[7]?=U own/\T[8]?=U (af I i) /\
 g=G ((base fZ).at ⟨T,[]⟩ [.code (A3 f3),.inLoop (A3 f3),.inBlock 0,.code (gy f3)]) []
def zw(g:Goroutine):Prop:=∃(T:Array aj) (k:List Item),T[4]?=U (aJ true)/\g=G { Frame.at (base fZ) ⟨T,[]⟩ k with mode:=.returning } []
def adO(ls:Option av)(n cap0:Nat)(m:aj)(hn:n<=9223372036854775807)(x0 x1 x2 x3 x4:aj)(b cap:Nat)(w:ah)(hS:¬SB b)(hb:b<w.heap.size)(hc:w.cell? (ar b 1 J)=U (af I 2)):Goes prog true AtRel (dF SB) (λg w'=>AtRel w w'/\((n<=110/\xr (ak ls n cap0) m 0 0 (ak J 0 0) g)\/(110<n/\zw g))) 100
   (G ((base Ra).at (Act.put ⟨(x0::x1::x2::x3::x4::undef::List.replicate 16 undef).toArray,[]⟩ (((Dg f4)[1]?).bind (·.dst)) (aX #[ak (U (ar b 0 J)) 1 cap,.nilIface])) (.inRegion (Dg f4) [2,3,4,5,6]::[.code (F3 f4)])) [(F4 f3) (ak ls n cap0) m [0,1] undef]) w:=by
 have hF:AtRel w w:=atRel_refl w;have rl:∀{x x₁:ah},AtRel w x->AtRel x x₁->AtRel w x₁:=λh r=>atRel_trans _ _ _ h r
 simp only[Dg,F3,cA,F4,KH,fI,cQ,f4,f3,bC,List.replicate,rp,Ax]
 refine goes_quiet (n:=30) (m:=70) atRel_refl (λw=>dB w) ?_;walk_nrm
 u_op rl hF
 u_op rl hF
 u_op rl hF
 u_op rl hF
 u_op rl hF
 u_c stepG_region_end rl hF
 u_c stepG_seq rl hF
 u_reg rl hF
 u_op rl hF
 refine Goes.stop λw₁ h₁=>?_
 replace hF:=rl hF h₁
 clear h₁
 refine tY (n:=69) rfl rfl (by k_ne) λw₂ h₂=>⟨aJ true,w₂,by kernel_rfl,by kernel_rfl,dB _,?_⟩
 replace hF:=rl hF h₂
 clear h₂;walk_nrm
 refine goes_quiet (n:=20) (m:=49) atRel_refl (λw=>dB w) ?_;u_op rl hF
 u_op rl hF
 u_op rl hF
 u_op rl hF
 u_op rl hF
 u_op rl hF
 u_op rl hF
 u_op rl hF
 u_op rl hF
 refine Goes.stop λw₁ h₁=>?_
 replace hF:=rl hF h₁
 clear h₁
 refine kM (n:=48) (v:=af I 2) rfl rfl (by k_ne) (λw₂ h₂=>?_) ?_
 ·obtain⟨d,rfl⟩:=rl hF h₂;have hc:(w.at d).cell? ⟨b,1,J⟩=U (af I 2):=hc
  constructor
  ·simp[execOp,go_sem,hc]
  intro e he;simp[go_sem,execOp,hc]at he
  exact⟨_,he,hS,hb⟩
 walk_nrm
 refine goes_quiet (n:=40) (m:=8) atRel_refl (λw=>dB w) ?_;u_op rl hF
 u_op rl hF
 u_op rl hF
 u_c stepG_region_end rl hF
 u_c stepG_ret' rl hF
 u_leave1 func4 rl hF
 u_op rl hF
 u_c stepG_region_end rl hF
 u_c stepG_seq rl hF
 u_c stepG_seq rl hF
 u_reg rl hF
 u_op rl hF
 u_op rl hF
 u_op rl hF
 u_op rl hF
 u_op rl hF
 rcases eC 110 n with F6|hle
 ·have h1:(110:Int)<(n:Int):=by omega
  u_op rl hF
  u_op rl hF
  u_c stepG_region_end rl hF
  u_cond true rl hF
  u_c stepG_seq rl hF
  u_reg rl hF
  u_op rl hF
  u_op rl hF
  u_c stepG_region_end rl hF
  u_c stepG_ret' rl hF
  refine Goes.stop λw₁ h₁=>Goes.stop λw₂ h₂=>?_
  exact⟨rl (rl hF h₁) h₂,.inr ⟨F6,_,_,rfl,rfl⟩⟩
 have h1:¬(110:Int)<(n:Int):=by omega
 u_op rl hF
 u_op rl hF
 u_c stepG_region_end rl hF
 u_cond false rl hF
 u_c stepG_skip rl hF
 u_c stepG_seq rl hF
 u_reg rl hF
 u_op rl hF
 u_c stepG_region_end rl hF
 u_c stepG_seq rl hF
 u_reg rl hF
 u_op rl hF
 u_c stepG_region_end rl hF
 u_c stepG_seq rl hF
 u_c stepG_seq rl hF
 u_reg rl hF
 u_op rl hF
 u_c stepG_region_end rl hF
 u_c stepG_block rl hF
 u_c stepG_loop rl hF
 refine Goes.stop λw₁ h₁=>Goes.stop λw₂ h₂=>?_
 refine⟨rl (rl hF h₁) h₂,.inl ⟨hle,?_⟩⟩;simp only[xr,A3,gy,fI,cQ,f3,bC];exact⟨_,rfl,rfl,rfl,rfl,rfl,rfl,rfl,rfl⟩
structure KQ(W:ah)(N:Nat)(own:aj)(i:Nat)(txt:Nat->ByteArray)(w:ah):Prop where
 row:mY N w own i txt
 old:∀b,b<N->w.heap[b]?=W.heap[b]?
 same:bG W w
 n:N<=w.heap.size
section
variable {W:ah}{N:Nat}{own:aj}{i:Nat}{txt:Nat->ByteArray}{w:ah}
def KQ.at'(h:KQ W N own i txt w)(d:Nat):KQ W N own i txt (w.at d):=⟨h.row,h.old,⟨h.same.os,h.same.o,h.same.tape,h.same.size⟩,h.n⟩
def KQ.rely{w₁:ah}(h:KQ W N own i txt w)(r:AtRel w w₁):KQ W N own i txt w₁:=by obtain⟨d,rfl⟩:=r;exact h.at' d
def KQ.alloc(h:KQ W N own i txt w)(o:Obj):KQ W N own i txt (w.alloc o):=
 ⟨h.row.on λ_ hg=>alloc_old (h.row.lt hg).2,λb hb=>(alloc_old (dK hb h.n)).trans (h.old b hb),tZ h.same,bH h.n zo⟩
end
def adP(lb lo n cap0 nn i:Nat)(m own:aj)(txt:Nat->ByteArray)(hi:i<n)(hn:n<=110)(F7:nn<=4000)(ht:(txt i).size<=1000000000000000)(W w:ah)(N:Nat)(eU:∀b,SB b->b<N)(A4:¬SB lb)(hl:lb<N)(hc:W.cell? ⟨lb,lo+i,J⟩=U (aB (txt i)))(g:Goroutine)(hg:xr (ak (U (ar lb lo J)) n cap0) m nn i own g)(hK:KQ W N own i txt w):Goes prog true AtRel (dF SB) (λg w'=>(nn+(txt i).size<=4000/\∃F8,KQ W N F8 (i+1) txt w'/\xr (ak (U (ar lb lo J)) n cap0) m (nn+(txt i).size) (i+1) F8 g)\/(4000<nn+(txt i).size/\(∀b,b<N->w'.heap[b]?=W.heap[b]?)/\bG W w'/\zw g)) 120 g w:=by
 obtain⟨T,hs,h0,h1,h5,h6,h7,h8,rfl⟩:=hg;obtain⟨y,rfl⟩:=oy T hs;have e0:y 0=ak (U (ar lb lo J)) n cap0:=by simpa using h0
 have e1:y 1=m:=by simpa using h1
 have e5:y 5=aJ true:=by simpa using h5
 have e6:y 6=af I nn:=by simpa using h6
 have e7:y 7=own:=by simpa using h7
 have e8:y 8=af I i:=by simpa using h8
 simp only[e0,e1,e5,e6,e7,e8];clear hs h0 h1 h5 h6 h7 h8 e0 e1 e5 e6 e7 e8;have hF:=hK;have rl:∀{x x₁:ah},KQ W N own i txt x->AtRel x x₁->KQ W N own i txt x₁:=λh r=>h.rely r
 have hlt:(i:Int)<(n:Int):=by omega
 generalize hk:nn+(txt i).size=k;have nQ:IntKind.i64.wrap ((nn:Int)+((txt i).size:Int))=(k:Int):=by rw[zn (by omega) (by omega)];omega
 have hw2:IntKind.i64.wrap ((i:Int)+1)=((i+1:Nat):Int):=by rw[zn (by omega) (by omega)];omega
 have dr:¬n<=i:=by omega
 have cell:∀w₁:ah,KQ W N own i txt w₁->w₁.cell? ⟨lb,lo+i,J⟩=U (aB (txt i))/\lb<w₁.heap.size:=λw₁ h=>⟨(jc (a:=⟨lb,lo+i,J⟩) (h.old lb hl)).trans hc,dK hl h.n⟩
 have cP:=λw:ah=>C4 (P:=prog) (w:=w) (es:=#[]) 22 ⟨lb,lo,J⟩ n cap0 I i (by kernel_rfl) ⟨by omega,by omega⟩
 simp only[A3,fI,cQ,f3,bC]
 refine goes_quiet (n:=30) (m:=90) atRel_refl (λw=>dB w) ?_;u_c stepG_seq rl hF
 u_c stepG_seq rl hF
 u_reg rl hF
 u_op rl hF
 u_op rl hF
 u_op rl hF
 u_op rl hF
 u_c stepG_region_end rl hF
 u_cond true rl hF
 u_c stepG_skip rl hF
 u_c stepG_seq rl hF
 u_c stepG_block rl hF
 u_c stepG_seq rl hF
 u_reg rl hF
 u_op rl hF
 u_op rl hF
 u_op rl hF
 refine Goes.stop λw₁ h₁=>?_
 replace hF:=rl hF h₁
 clear h₁
 refine kM (n:=89) (v:=ax (U ⟨lb,lo+i,J⟩)) rfl rfl (by k_ne) (λw₂ h₂=>?_) ?_
 ·constructor
  ·simp[execOp,go_sem,dr]
  intro e he;simp[execOp,go_sem,cP]at he
 walk_nrm
 refine kM (n:=88) (v:=aB (txt i)) rfl rfl (by k_ne) (λw₂ h₂=>?_) ?_
 ·obtain⟨hc,hb⟩:=cell w₂ (rl hF h₂)
  constructor
  ·simp[execOp,go_sem,hc]
  intro e he;simp[go_sem,execOp,hc]at he
  exact⟨_,he,A4,hb⟩
 walk_nrm
 refine tY (n:=87) rfl rfl (by k_ne) λw₂ h₂=>⟨af I (txt i).size,w₂,by kernel_rfl,by kernel_rfl,dB _,?_⟩
 replace hF:=rl hF h₂
 clear h₂;walk_nrm
 refine goes_quiet (n:=30) (m:=57) atRel_refl (λw=>dB w) ?_;u_op rl hF
 u_op rl hF
 u_c stepG_region_end rl hF
 u_c stepG_seq rl hF
 u_c stepG_seq rl hF
 u_reg rl hF
 u_op rl hF
 rcases eC 4000 k with F6|hle
 ·have g1:(4000:Int)<(k:Int):=by omega
  u_op rl hF
  u_c stepG_region_end rl hF
  u_cond true rl hF
  u_c stepG_seq rl hF
  u_reg rl hF
  u_op rl hF
  u_c stepG_region_end rl hF
  u_c stepG_ret' rl hF
  refine Goes.stop λw₁ h₁=>Goes.stop λw₂ h₂=>?_
  replace hF:=rl (rl hF h₁) h₂
  exact .inr ⟨F6,hF.old,hF.same,_,_,rfl,rfl⟩
 have g1:¬(4000:Int)<(k:Int):=by omega
 u_op rl hF
 u_c stepG_region_end rl hF
 u_cond false rl hF
 u_c stepG_skip rl hF
 u_reg rl hF
 u_op rl hF
 u_op rl hF
 u_op rl hF
 refine Goes.stop λw₁ h₁=>?_
 replace hF:=rl hF h₁
 clear h₁
 refine kM (n:=56) (v:=ax (U ⟨lb,lo+i,J⟩)) rfl rfl (by k_ne) (λw₂ h₂=>?_) ?_
 ·constructor
  ·simp[execOp,go_sem,dr]
  intro e he;simp[execOp,go_sem,cP]at he
 walk_nrm
 refine kM (n:=55) (v:=aB (txt i)) rfl rfl (by k_ne) (λw₂ h₂=>?_) ?_
 ·obtain⟨hc,hb⟩:=cell w₂ (rl hF h₂)
  constructor
  ·simp[execOp,go_sem,hc]
  intro e he;simp[go_sem,execOp,hc]at he
  exact⟨_,he,A4,hb⟩
 walk_nrm
 refine vC (n:=54) (v:=λN=>ak (U (ar N 0 J)) 1 1) (ob:=ay #[aB (txt i)] 9 (0,0)) rfl rfl (by k_ne) (λw₂ h₂=>⟨by kernel_rfl,by kernel_rfl⟩) λw₂ h₂=>?_
 replace hF:=rl hF h₂
 walk_nrm
 obtain⟨V,hV⟩:∃V,V=w₂.alloc (ay #[aB (txt i)] 9 (0,0)):=⟨_,rfl⟩;have KI:V.cell? (ar w₂.heap.size 0 J)=U (aB (txt i)):=by
  have e:V.heap[w₂.heap.size]?=U (ay #[aB (txt i)] 9 (0,0)):=by rw[hV];exact dT _ _
  simp[aL,e]
 have KJ:w₂.heap.size<V.heap.size:=by rw[hV];show _<(w₂.heap.push _).size;rw[rK];omega
 have Re:KQ W N own i txt V:=by rw[hV];exact hF.alloc _
 have hab:N<=w₂.heap.size:=hF.n;rw[<- hV];generalize w₂.heap.size=ab at KI KJ hab;clear hV hF h₂ w₂ w₁
 refine adG (n:=53) (v:=own) (xv:=ak (U (ar ab 0 J)) 1 1) (.tmp 42) (.tmp 47) 22 rfl rfl (by k_ne) rfl rfl rfl λw₃ h₃=>?_
 have hK3:=rl Re h₃;have hc3:w₃.cell? (ar ab 0 J)=U (aB (txt i)):=by obtain⟨d,rfl⟩:=h₃;exact KI
 have hs3:ab<w₃.heap.size:=by obtain⟨d,rfl⟩:=h₃;exact KJ
 obtain⟨v',w',r1,r2,r3,r4,r5⟩:=adK hK3.row (by omega) hK3.n hc3;have hKn:KQ W N v' (i+1) txt w':=⟨r2,λb hb=>(r3.block b (by have:=hK3.n;omega) λe=>by have:=(hK3.row.lt e.symm).1;omega).trans (hK3.old b hb),⟨r3.os.trans hK3.same.os,r3.output.trans hK3.same.o,r3.tape.trans hK3.same.tape,bH hK3.same.size r3.size⟩,bH hK3.n r3.size⟩
 refine⟨v',w',r1,adF (g:=ab) (r:=own.ownBlock) r3.size ⟨λh=>by have:=eU _ h;omega,by have:=r3.size;omega⟩ (λb hb=>⟨λh=>by have:=eU _ h;have:=(hK3.row.lt hb).1;omega,by have:=(hK3.row.lt hb).2;have:=r3.size;omega⟩) r5,?_⟩;clear r1 r2 r3 r4 r5 hK3 hc3 hs3 h₃ Re KI KJ hab;have hF:=hKn;have rl:∀{x x₁:ah},KQ W N v' (i+1) txt x->AtRel x x₁->KQ W N v' (i+1) txt x₁:=λh r=>h.rely r
 refine goes_quiet (n:=20) (m:=33) atRel_refl (λw=>dB w) ?_;walk_nrm
 u_op rl hF
 u_c stepG_region_end rl hF
 u_c stepG_inBlock rl hF
 u_reg rl hF
 u_op rl hF
 u_op rl hF
 rw[show (i:Int)+1=((i+1:Nat):Int) by omega];u_op rl hF
 u_c stepG_region_end rl hF
 u_c stepG_inLoop rl hF
 refine Goes.stop λw₁ h₁=>Goes.stop λw₂ h₂=>?_
 replace hF:=rl (rl hF h₁) h₂
 refine .inl ⟨hle,v',hF,?_⟩;simp only[xr,A3,gy,fI,cQ,f3,bC];exact⟨_,rfl,rfl,rfl,rfl,rfl,rfl,rfl,rfl⟩
def A5(f:Func):Array Oper:=match (gy f)with|.seq (.region _ ops _) _=>ops|_=>#[]
def gM(f:Func):Code:=match (gy f)with|.seq _ c=>c|_=>.skip
def vD(f:Func):Array Oper:=match (gM f)with|.seq (.region _ ops _) _=>ops|_=>#[]
def iF(f:Func):Code:=match (gM f)with|.seq _ c=>c|_=>.skip
def Rf(l m own:aj)(g:Goroutine):Prop:=∃T:Array aj,T.size=126/\T[0]?=U l/\T[1]?=U m/\g=G ((base ub).at ⟨(own::m::List.replicate 19 undef).toArray,[]⟩ [.code (mj f5)]) [(base fZ).at ⟨T,[]⟩ (.inRegion (A5 f3) [2,3,4,5,6,7]::[.code (gM f3)])]
def KM(l m v e:aj)(n:Nat)(g:Goroutine):Prop:=∃T:Array aj,T.size=126/\T[0]?=U l/\T[1]?=U m/\T[9]?=U v/\T[10]?=U e/\T[55]?=U m/\T[57]?=U (af I n)/\g=G ((base fZ).at ⟨T,[]⟩ (.inRegion (vD f3) [3,4,5]::[.code (iF f3)])) []
def adQ(la:Option av)(n cap0 nn:Nat)(m own:aj)(g:Goroutine)(w:ah)(hg:xr (ak la n cap0) m nn n own g):Goes prog true AtRel DC0 (λg w'=>AtRel w w'/\Rf (ak la n cap0) m own g) 40 g w:=by
 obtain⟨T,hs,h0,h1,h5,h6,h7,h8,rfl⟩:=hg;obtain⟨y,rfl⟩:=oy T hs;have e0:y 0=ak la n cap0:=by simpa using h0
 have e1:y 1=m:=by simpa using h1
 have e5:y 5=aJ true:=by simpa using h5
 have e6:y 6=af I nn:=by simpa using h6
 have e7:y 7=own:=by simpa using h7
 have e8:y 8=af I n:=by simpa using h8
 simp only[e0,e1,e5,e6,e7,e8];clear hs h0 h1 h5 h6 h7 h8 e0 e1 e5 e6 e7 e8;have hF:AtRel w w:=atRel_refl w;have rl:∀{x x₁:ah},AtRel w x->AtRel x x₁->AtRel w x₁:=λh r=>atRel_trans _ _ _ h r
 have hlt:¬(n:Int)<(n:Int):=by omega
 simp only[A3,gy,fI,cQ,f3,bC];u_c stepG_seq rl hF
 u_c stepG_seq rl hF
 u_reg rl hF
 u_op rl hF
 u_op rl hF
 u_op rl hF
 u_op rl hF
 u_c stepG_region_end rl hF
 u_cond false rl hF
 u_exit rl hF
 u_c stepG_seq rl hF
 u_reg rl hF
 u_op rl hF
 u_op rl hF
 u_call func5 Rb f5 rl hF
 refine Goes.stop λw₁ h₁=>?_
 refine⟨rl hF h₁,?_⟩;simp only[Rf,mj,A5,gM,gy,fI,cQ,f5,f3,bC,List.replicate];exact⟨_,rfl,rfl,rfl,rfl⟩
def Rh(la:Option av)(n cap0:Nat)(m v e:aj)(T:Array aj)(hs:T.size=126)(h0:T[0]?=U (ak la n cap0))(h1:T[1]?=U m)(w:ah):Goes prog true AtRel DC0 (λg w'=>AtRel w w'/\KM (ak la n cap0) m v e n g) 40
  (G ((base fZ).at (Act.put ⟨T,[]⟩ (((A5 f3)[2]?).bind (·.dst)) (aX #[v,e])) (.inRegion (A5 f3) [3,4,5,6,7]::[.code (gM f3)])) []) w:=by
 obtain⟨y,rfl⟩:=oy T hs;have e0:y 0=ak la n cap0:=by simpa using h0
 have e1:y 1=m:=by simpa using h1
 simp only[e0,e1];clear hs h0 h1 e0 e1;have hF:AtRel w w:=atRel_refl w;have rl:∀{x x₁:ah},AtRel w x->AtRel x x₁->AtRel w x₁:=λh r=>atRel_trans _ _ _ h r
 simp only[A5,gM,gy,fI,cQ,f3,bC];walk_nrm
 u_op rl hF
 u_op rl hF
 u_op rl hF
 u_op rl hF
 u_op rl hF
 u_c stepG_region_end rl hF
 u_c stepG_seq rl hF
 u_reg rl hF
 u_op rl hF
 u_op rl hF
 u_op rl hF
 refine Goes.stop λw₁ h₁=>?_
 refine⟨rl hF h₁,?_⟩;simp only[KM,vD,iF,gM,gy,fI,cQ,f3,bC];exact⟨_,rfl,rfl,rfl,rfl,rfl,rfl,rfl,rfl⟩
def idxOf(l:List ByteArray)(s:ByteArray):Int:=match l.findIdx? (λy=>decide (y=s))with
 |some i=>(i:Int)
 |none=>-1
def F9(h:bY gg 1 w (ak sa l.length cap) l){x:ByteArray}(hx:l[k]?=U x):∃g o,sa=U ⟨g,o,J⟩/\∀i x,l[i]?=U x->w.cell? ⟨g,o+i,J⟩=U (aB x):=by
 obtain⟨fw,cap',fL,-,hcc⟩:=h
 cases fL
 obtain⟨g,o,rfl,hc0⟩:=hcc (λh=>by rw[h]at hx;simp at hx);exact⟨g,o,rfl,λi x hx=>by have:=hc0 i x hx 0 _ rfl;simpa using this⟩
def F_{a b:ByteArray}(h:¬a=b):(a.toList==b.toList)=false/\¬a.toList=b.toList:=by
 have h2:¬a.toList=b.toList:=λe=>by
  rw[iA,iA]at e;apply h
  obtain⟨⟨a⟩⟩:=a;obtain⟨⟨b⟩⟩:=b;simp at e
  subst e;rfl
 exact⟨by simpa using h2,h2⟩
def adR{s:ByteArray}(hk:l[k]?=U s)(h:∀j x,j<k->l[j]?=U x->x≠s):idxOf l s=k:=by
 have:l.findIdx? (λy=>decide (y=s))=U k:=by
  rw[List.findIdx?_eq_some_iff_getElem];obtain⟨hlt,e⟩:=eK.1 hk;exact⟨hlt,by simp[e],λj hj=>by simpa using h j _ hj (bL (by omega))⟩
 unfold idxOf;rw[this]
def Ri{s:ByteArray}(h:∀j x,j<l.length->l[j]?=U x->x≠s):idxOf l s=-1:=by
 have:l.findIdx? (λy=>decide (y=s))=J:=by
  rw[List.findIdx?_eq_none_iff];intro y hy;obtain⟨j,hj⟩:=zf hy;have wW:j<l.length:=by
   rcases eC j l.length with h'|h'
   ·exact h'
   rw[ny h']at hj;cases hj
  simpa using h j y wW hj
 unfold idxOf;rw[this]
def KN(l:List ByteArray)(s:ByteArray)(sa:Option av)(cap:Nat)(w:ah)(h:bY gg 1 w (ak sa l.length cap) l)(hn:l.length<=1000000):Calls prog 34 #[ak sa l.length cap,aB s] w λe w'=>e=aH (af I (idxOf l s))/\w'=w:=by
 have HL:ag (bY _ 1 w _ l):=h;go_enter func34,ntmps34
 go_wp2_with fail
 go_loopw [5] (λi wr=>wr=w/\∃k:Nat,k<=l.length/\i=af I k/\∀j x,j<k->l[j]?=U x->x≠s) (λi _=>l.length-(intOf i).toNat)
 case atStart=>exact⟨rfl,0,cG _,rfl,λj x hj=>absurd hj (by omega)⟩
 case round=>
  obtain⟨rfl,k,hk,rfl,(hno:ag _)⟩:=hrel
  by_cases hlt:k<l.length
  ·have k1:(k:Int)<(l.length:Int):=by omega
   obtain⟨x,hx⟩:∃x,l[k]?=U x:=⟨_,bL hlt⟩;obtain⟨g,o,rfl,hc⟩:=F9 HL hx;have c0:=hc k x hx;clear hc;change ag _ at hx
   by_cases e:x=s
   ·subst e;have HE:ag _:=adR hx.o hno;go_wp2;go_ret;exact⟨by rw[HE.o];rfl,rfl⟩
   have n1:=(F_ e).1;have n2:=(F_ e).2;go_wp2
   go_roundw
   case rel=>
    refine⟨trivial,k+1,by omega,by go_num,λj y hj hy=>?_⟩
    rcases eC j k with h1|h1
    ·exact hno j y h1 hy
    obtain rfl:j=k:=by omega
    rw[hx.o]at hy
    cases hy
    exact e
   case measure=>simp[intOf];omega
  have k1:¬(k:Int)<(l.length:Int):=by omega
  have HE:ag _:=Ri (λj x hj hx=>hno j x (by omega) hx);go_wp2;go_ret;exact⟨by rw[HE.o];rfl,rfl⟩
def Dh{l:List Int}(h:bY bc 1 w (ak sa l.length cap) l){x:Int}(hx:l[k]?=U x):∃g o,sa=U ⟨g,o,J⟩/\∀i x,l[i]?=U x->w.cell? ⟨g,o+i,J⟩=U (af I x):=by
 obtain⟨fw,cap',fL,-,hcc⟩:=h
 cases fL
 obtain⟨g,o,rfl,hc0⟩:=hcc (λh=>by rw[h]at hx;simp at hx);exact⟨g,o,rfl,λi x hx=>by have:=hc0 i x hx 0 _ rfl;simpa using this⟩
def adS(l:List Int)(n:Int)(sa:Option av)(cap:Nat)(w:ah)(h:bY bc 1 w (ak sa l.length cap) l)(hn:l.length<=1000000):Calls prog 102 #[ak sa l.length cap,af I n] w λe w'=>e=aH (aJ (l.any λy=>decide (n=y)))/\w'=w:=by
 have HL:ag (bY _ 1 w _ l):=h;go_enter func102,ntmps102
 go_wp2_with fail
 go_loopw [5] (λi wr=>wr=w/\∃k:Nat,k<=l.length/\i=af I k/\∀j x,j<k->l[j]?=U x->n≠x) (λi _=>l.length-(intOf i).toNat)
 case atStart=>exact⟨rfl,0,cG _,rfl,λj x hj=>absurd hj (by omega)⟩
 case round=>
  obtain⟨rfl,k,hk,rfl,(hno:ag _)⟩:=hrel
  by_cases hlt:k<l.length
  ·have k1:(k:Int)<(l.length:Int):=by omega
   obtain⟨x,hx⟩:∃x,l[k]?=U x:=⟨_,bL hlt⟩;obtain⟨g,o,rfl,hc⟩:=Dh HL hx;have c0:=hc k x hx;clear hc;change ag _ at hx
   by_cases e:x=n
   ·subst e;have HE:ag ((l.any λy=>decide (x=y))=true):=by show _=_;rw[pC];exact⟨x,fQ hx.o,by simp⟩
    go_wp2;go_ret;exact⟨by rw[HE.o];rfl,rfl⟩
   go_wp2
   go_roundw
   case rel=>
    refine⟨trivial,k+1,by omega,by go_num,λj y hj hy=>?_⟩
    rcases eC j k with h1|h1
    ·exact hno j y h1 hy
    obtain rfl:j=k:=by omega
    rw[hx.o]at hy
    cases hy
    exact λe2=>e e2.symm
   case measure=>simp[intOf];omega
  have k1:¬(k:Int)<(l.length:Int):=by omega
  have HE:ag ((l.any λy=>decide (n=y))=false):=by
   show _=_
   rw[wq];intro y hy;obtain⟨j,hj⟩:=zf hy;have wW:j<l.length:=by
    rcases eC j l.length with h'|h'
    ·exact h'
    rw[ny h']at hj;cases hj
   simpa using hno.o j y (by omega) hj
  go_wp2;go_ret;exact⟨by rw[HE.o];rfl,rfl⟩
end Go.Proofs.YtjjodkjbmgnbeaaGreatDoor
