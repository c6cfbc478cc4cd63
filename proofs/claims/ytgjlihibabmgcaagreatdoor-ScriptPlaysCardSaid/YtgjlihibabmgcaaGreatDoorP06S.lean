/-
  Several texts as one: CfPart1, CfPart2, CfRuled, CfEnt, CfCheck, CfTextGo, CfPLine, CfPent, CfTextAll, CfRNum, CfRMap, CfRSet, CfRWord, CfRWordB, CfRKind, CfRFill, CfRFillB, CfOwnC.
-/
import Derived.Test.YtgjlihibabmgcaaGreatDoorP05S
set_option linter.all false
set_option maxHeartbeats 40000000
set_option maxRecDepth 100000
abbrev uz.{u}:=@beq_self_eq_true.{u}
open Go renaming Addr→aC,Value→aw,World→ak
open Go.Addr renaming mk→ai
open Go.Ending renaming returned→ax
open Go.IntKind renaming i64→af
open Go.Obj renaming cells→ay
open Go.RowKit renaming Hid→U
open Go.Value renaming agg→bK,bool→aL,int→ae,ownBlock→dF,pointer→aq,slice→aj,string→aA,tuple→bn
open Go.World renaming cell?→aH,frozen?→bM,setCell→bN
open Option renaming none→I,some→J
open Go.Proofs.Tryz
namespace Go.Proofs.YtgjlihibabmgcaaGreatDoor
open Go.Extern Go.Extern.Stop Go.RowKit Go.Stop
variable{A:Nat->aC}{B b f ib k n pb rb wb wo:Nat}{V W w w' w0:ak}{a l ws:List ByteArray}{e:aM}{es:List aM}{ev fv gv lv pv r u v:aw}{fs:List Nat}{p s:ByteArray}{pre:List Bs}{t:Nat×Nat}{tg:List (Nat×Nat)}{us:List aw}
def afr(w:ak)(a:Int)(t:TypeId):bw bT 1 (w.alloc (ay #[ae af a] t)) (aj (J (ai w.heap.size 0 I)) 1 1) [a]:=by
 refine⟨_,_,rfl,aR _,λ_=>⟨_,_,rfl,λi x hx j u hu=>?_⟩⟩
 match i,hx with
 |0,hx=>
  cases hx
  match j,hu with
  |0,hu=>cases hu;simp
  |j+1,hu=>cases hu
 |i+1,hx=>cases hx
def afs(w:ak)(a b:Int)(t:TypeId):bw bT 1 (w.alloc (ay #[ae af a,ae af b] t)) (aj (J (ai w.heap.size 0 I)) 2 2) [a,b]:=by
 refine⟨_,_,rfl,aR _,λ_=>⟨_,_,rfl,λi x hx j u hu=>?_⟩⟩
 match i,hx with
 |0,hx=>
  cases hx
  match j,hu with
  |0,hu=>cases hu;simp
  |j+1,hu=>cases hu
 |1,hx=>
  cases hx
  match j,hu with
  |0,hu=>cases hu;simp
  |j+1,hu=>cases hu
 |i+2,hx=>cases hx
def aft(w:ak)(o:Obj)(a:Int)(t:TypeId):bw bT 1 ((w.alloc o).alloc (ay #[ae af a] t)) (aj (J ⟨w.heap.size+1,0,I⟩) 1 1) [a]:=by
 rw[show w.heap.size+1=(w.alloc o).heap.size by simp];exact afr _ a t
def S'(w:ak)(o:Obj)(a b:Int)(t:TypeId):bw bT 1 ((w.alloc o).alloc (ay #[ae af a,ae af b] t)) (aj (J ⟨w.heap.size+1,0,I⟩) 2 2) [a,b]:=by
 rw[show w.heap.size+1=(w.alloc o).heap.size by simp];exact afs _ a b t
def oZ(W:ak)(B:Nat)(row:Array aw):Prop:=∀j v,row[j]?=J v->W.cell? (ai B j I)=J v
def oZ.below{W':ak}{row:Array aw}(h:oZ W B row)(hb:Below W.heap.size W W'):oZ W' B row:=λj v e=>aJ hb (h j v e)
def oZ.new(w:ak)(row:Array aw)(t:TypeId):oZ (w.alloc (ay row t)) w.heap.size row:=λj v e=>by rw[dr _ _ _ _ rfl];exact e
def afu(nm:ByteArray)(bh cnt mn mx:Int)(pa ga ea fa la:Option aC)(pn pc gn gc en ec fn fc ln lc:Nat)  (w:ak):Calls prog 152 #[.agg (nR nm bh pa pn pc cnt mn mx ga gn gc ea en ec fa fn fc la ln lc)] w λe w'=>e=ax (aL (decide (cnt≠-1)&&lacks pn cnt))/\Below w.heap.size w w':=by
 unfold nR
 by_cases h:cnt=-1
 ·subst h;go_enter func152,ntmps152
  go_wp2;go_ret;exact⟨rfl,aS _ _⟩
 have hd:(cnt == -1)=false:=by simpa using h
 have mz:(cnt != -1)=true:=by simpa using h
 have H:=Ey nm bh cnt mn mx pa ga ea fa la pn pc gn gc en ec fn fc ln lc _ _ _ (aft w (ay (nR nm bh pa pn pc cnt mn mx ga gn gc ea en ec fa fn fc la ln lc) 58) cnt 3) (by simp);simp only[yC,List.any_nil,wZ]at H;change U _ at H
 have hr:(decide (cnt≠-1)&&lacks pn cnt)=lacks pn cnt:=by simp[h]
 rw[hr];have HD:U (cnt≠-1):=h;go_enter func152,ntmps152
 go_wp2_with fail
 refine aO H.o ?_;rintro e w' ⟨rfl,hb⟩;go_wp2;go_ret;exact⟨rfl,((aS _ _).alloc (by simp) _).trans (hb.mono (by simp;omega))⟩
def afv(nm:ByteArray)(bh cnt mn mx:Int)(pa ga ea fa la:Option aC)(pn pc gn gc en ec fn fc ln lc:Nat)(x:eT)(B:Nat)(W:ak)(hB:oZ W B (nR nm bh pa pn pc cnt mn mx ga gn gc ea en ec fa fn fc la ln lc)):Calls prog 156 #[bK #[ae af x.fr,ae af x.to,ae af x.mn,ae af x.mx],aq (J (ai B 0 I))] W λe w'=>e=ax (aL (lacks pn x.fr||lacks pn x.to))/\Below W.heap.size W w':=by
 have b0:∀o,(W.alloc o).cell? _=J (aA nm):=λo=>aJ (aS _ _) (hB 0 _ rfl)
 have b1:∀o,(W.alloc o).cell? _=J (ae af bh):=λo=>aJ (aS _ _) (hB 1 _ rfl)
 have b2:∀o,(W.alloc o).cell? _=J (aj pa pn pc):=λo=>aJ (aS _ _) (hB 2 _ rfl)
 have b3:∀o,(W.alloc o).cell? _=J (ae af cnt):=λo=>aJ (aS _ _) (hB 3 _ rfl)
 have b4:∀o,(W.alloc o).cell? _=J (ae af mn):=λo=>aJ (aS _ _) (hB 4 _ rfl)
 have b5:∀o,(W.alloc o).cell? _=J (ae af mx):=λo=>aJ (aS _ _) (hB 5 _ rfl)
 have b6:∀o,(W.alloc o).cell? _=J (aj ga gn gc):=λo=>aJ (aS _ _) (hB 6 _ rfl)
 have b7:∀o,(W.alloc o).cell? _=J (aj ea en ec):=λo=>aJ (aS _ _) (hB 7 _ rfl)
 have b8:∀o,(W.alloc o).cell? _=J (aj fa fn fc):=λo=>aJ (aS _ _) (hB 8 _ rfl)
 have b9:∀o,(W.alloc o).cell? _=J (aj la ln lc):=λo=>aJ (aS _ _) (hB 9 _ rfl)
 have H:=Ey nm bh cnt mn mx pa ga ea fa la pn pc gn gc en ec fn fc ln lc _ _ _ (S' W (ay #[ae af x.fr,ae af x.to,ae af x.mn,ae af x.mx] 73) (x.fr) (x.to) 3) (by simp);simp only[yC,List.any_nil,wZ]at H;change U _ at H
 go_enter func156,ntmps156
 go_wp2_with fail
 refine aO H.o ?_;rintro e w' ⟨rfl,hb⟩;go_wp2;go_ret;exact⟨rfl,((aS _ _).alloc (by simp) _).trans (hb.mono (by simp;omega))⟩
def afw(nm:ByteArray)(bh cnt mn mx:Int)(pa ga ea fa la:Option aC)(pn pc gn gc en ec fn fc ln lc:Nat)(x:(Int×Int))(B:Nat)(W:ak)(hB:oZ W B (nR nm bh pa pn pc cnt mn mx ga gn gc ea en ec fa fn fc la ln lc)):Calls prog 159 #[bK #[ae af x.1,ae af x.2],aq (J (ai B 0 I))] W λe w'=>e=ax (aL (lacks pn x.1||lacks pn x.2))/\Below W.heap.size W w':=by
 have b0:∀o,(W.alloc o).cell? _=J (aA nm):=λo=>aJ (aS _ _) (hB 0 _ rfl)
 have b1:∀o,(W.alloc o).cell? _=J (ae af bh):=λo=>aJ (aS _ _) (hB 1 _ rfl)
 have b2:∀o,(W.alloc o).cell? _=J (aj pa pn pc):=λo=>aJ (aS _ _) (hB 2 _ rfl)
 have b3:∀o,(W.alloc o).cell? _=J (ae af cnt):=λo=>aJ (aS _ _) (hB 3 _ rfl)
 have b4:∀o,(W.alloc o).cell? _=J (ae af mn):=λo=>aJ (aS _ _) (hB 4 _ rfl)
 have b5:∀o,(W.alloc o).cell? _=J (ae af mx):=λo=>aJ (aS _ _) (hB 5 _ rfl)
 have b6:∀o,(W.alloc o).cell? _=J (aj ga gn gc):=λo=>aJ (aS _ _) (hB 6 _ rfl)
 have b7:∀o,(W.alloc o).cell? _=J (aj ea en ec):=λo=>aJ (aS _ _) (hB 7 _ rfl)
 have b8:∀o,(W.alloc o).cell? _=J (aj fa fn fc):=λo=>aJ (aS _ _) (hB 8 _ rfl)
 have b9:∀o,(W.alloc o).cell? _=J (aj la ln lc):=λo=>aJ (aS _ _) (hB 9 _ rfl)
 have H:=Ey nm bh cnt mn mx pa ga ea fa la pn pc gn gc en ec fn fc ln lc _ _ _ (S' W (ay #[ae af x.1,ae af x.2] 74) (x.1) (x.2) 3) (by simp);simp only[yC,List.any_nil,wZ]at H;change U _ at H
 go_enter func159,ntmps159
 go_wp2_with fail
 refine aO H.o ?_;rintro e w' ⟨rfl,hb⟩;go_wp2;go_ret;exact⟨rfl,((aS _ _).alloc (by simp) _).trans (hb.mono (by simp;omega))⟩
def afx(nm:ByteArray)(bh cnt mn mx:Int)(pa ga ea fa la:Option aC)(pn pc gn gc en ec fn fc ln lc:Nat)(xs:List eT)(w:ak)(hv:bw lF 4 w (aj ga gn gc) xs)(hn:xs.length<=1000000):Calls prog 154 #[.agg (nR nm bh pa pn pc cnt mn mx ga gn gc ea en ec fa fn fc la ln lc)] w λe w'=>e=ax (aL (xs.any λx=>lacks pn x.fr||lacks pn x.to))/\Below w.heap.size w w':=by
 unfold nR;have H:=SY _ xs _ 156 #[aq _] _ (hv.below (aS w (ay _ 58))) hn (enters_of func156 (by kernel_rfl) rfl) (λW hb x _=>afv nm bh cnt mn mx pa ga ea fa la pn pc gn gc en ec fn fc ln lc x _ W ((oZ.new w _ _).below hb));change U _ at H
 go_enter func154,ntmps154
 go_wp2_with fail
 refine aO H.o ?_;rintro e w' ⟨rfl,hb⟩;go_wp2;go_ret;exact⟨rfl,(aS _ _).trans (hb.mono (by simp))⟩
def afy(nm:ByteArray)(bh cnt mn mx:Int)(pa ga ea fa la:Option aC)(pn pc gn gc en ec fn fc ln lc:Nat)(xs:List (Int×Int))(w:ak)(hv:bw kI 2 w (aj ea en ec) xs)(hn:xs.length<=1000000):Calls prog 157 #[.agg (nR nm bh pa pn pc cnt mn mx ga gn gc ea en ec fa fn fc la ln lc)] w λe w'=>e=ax (aL (xs.any λx=>lacks pn x.1||lacks pn x.2))/\Below w.heap.size w w':=by
 unfold nR;have H:=ae' _ xs _ 159 #[aq _] _ (hv.below (aS w (ay _ 58))) hn (enters_of func159 (by kernel_rfl) rfl) (λW hb x _=>afw nm bh cnt mn mx pa ga ea fa la pn pc gn gc en ec fn fc ln lc x _ W ((oZ.new w _ _).below hb));change U _ at H
 go_enter func157,ntmps157
 go_wp2_with fail
 refine aO H.o ?_;rintro e w' ⟨rfl,hb⟩;go_wp2;go_ret;exact⟨rfl,(aS _ _).trans (hb.mono (by simp))⟩
def afz(nm:ByteArray)(bh cnt mn mx:Int)(pa ga ea fa la:Option aC)(pn pc gn gc en ec fn fc ln lc:Nat)(xs:List Int)(w:ak)(hv:bw bT 1 w (aj fa fn fc) xs)(hn:xs.length<=1000000):Calls prog 160 #[.agg (nR nm bh pa pn pc cnt mn mx ga gn gc ea en ec fa fn fc la ln lc)] w λe w'=>e=ax (aL (xs.any λx=>lacks pn x))/\Below w.heap.size w w':=by
 unfold nR;have H:=Ey nm bh cnt mn mx pa ga ea fa la pn pc gn gc en ec fn fc ln lc _ xs _ (hv.below (aS w (ay (nR nm bh pa pn pc cnt mn mx ga gn gc ea en ec fa fn fc la ln lc) 58))) hn;change U _ at H
 go_enter func160,ntmps160
 go_wp2_with fail
 refine aO H.o ?_;rintro e w' ⟨rfl,hb⟩;go_wp2;go_ret;exact⟨rfl,(aS _ _).trans (hb.mono (by simp))⟩
def afA(nm:ByteArray)(bh cnt mn mx:Int)(pa ga ea fa la:Option aC)(pn pc gn gc en ec fn fc ln lc:Nat)(xs:List Int)(w:ak)(hv:bw bT 1 w (aj la ln lc) xs)(hn:xs.length<=1000000):Calls prog 161 #[.agg (nR nm bh pa pn pc cnt mn mx ga gn gc ea en ec fa fn fc la ln lc)] w λe w'=>e=ax (aL (xs.any λx=>lacks pn x))/\Below w.heap.size w w':=by
 unfold nR;have H:=Ey nm bh cnt mn mx pa ga ea fa la pn pc gn gc en ec fn fc ln lc _ xs _ (hv.below (aS w (ay (nR nm bh pa pn pc cnt mn mx ga gn gc ea en ec fa fn fc la ln lc) 58))) hn;change U _ at H
 go_enter func161,ntmps161
 go_wp2_with fail
 refine aO H.o ?_;rintro e w' ⟨rfl,hb⟩;go_wp2;go_ret;exact⟨rfl,(aS _ _).trans (hb.mono (by simp))⟩
def afB(nm:ByteArray)(bh cnt mn mx:Int)(pa ga ea fa la:Option aC)(pn pc gn gc en ec fn fc ln lc:Nat)  (w:ak):Calls prog 162 #[.agg (nR nm bh pa pn pc cnt mn mx ga gn gc ea en ec fa fn fc la ln lc)] w λe w'=>e=ax (aL (decide (cnt=-1)&&(decide (mn≠0)||decide (mx≠0))))/\Below w.heap.size w w':=by
 unfold nR
 by_cases h:cnt=-1
 ·subst h
  by_cases h1:mn=0
  ·subst h1
   by_cases h2:mx=0
   ·subst h2;go_enter func162,ntmps162
    go_wp2;go_ret;exact⟨rfl,aS _ _⟩
   have hd:(mx != 0)=true:=by simpa using h2
   rw[show (decide _&&(decide _||decide _))=true by simp[h2]];go_enter func162,ntmps162
   go_wp2;go_ret;exact⟨rfl,aS _ _⟩
  have hd:(mn != 0)=true:=by simpa using h1
  rw[show (decide _&&(decide _||decide _))=true by simp[h1]];go_enter func162,ntmps162
  go_wp2;go_ret;exact⟨rfl,aS _ _⟩
 have hd:(cnt == -1)=false:=by simpa using h
 rw[show (decide _&&(decide _||decide _))=false by simp[h]];go_enter func162,ntmps162
 go_wp2;go_ret;exact⟨rfl,aS _ _⟩
def xY(w:ak)(o:Obj)(row:Array aw)(t:TypeId)(j:Nat)(v:aw)(h:row[j]?=J v):((w.alloc o).alloc (ay row t)).cell? ⟨w.heap.size+1,j,I⟩=J v:=by
 rw[show w.heap.size+1=(w.alloc o).heap.size by simp,dr _ _ _ _ rfl];exact h
def afC(nm:ByteArray)(bh cnt mn mx:Int)(pa ga ea fa la:Option aC)(pn pc gn gc en ec fn fc ln lc:Nat)(w:ak):Calls prog 163 #[.agg (nR nm bh pa pn pc cnt mn mx ga gn gc ea en ec fa fn fc la ln lc)] w λe w'=>e=ax (aL (!iq 0 mn mx 999))/\Below w.heap.size w w':=by
 unfold nR;have H:=SZ 0 mn mx 999 _ 4 ((w.alloc (ay (nR nm bh pa pn pc cnt mn mx ga gn gc ea en ec fa fn fc la ln lc) 58)).alloc (ay #[ae af 0,ae af mn,ae af mx,ae af 999] 3)) (xY w _ _ _ 0 _ rfl) (xY w _ _ _ 1 _ rfl) (xY w _ _ _ 2 _ rfl) (xY w _ _ _ 3 _ rfl);change U _ at H
 go_enter func163,ntmps163
 go_wp2_with fail
 refine aO H.o ?_;rintro e w' ⟨rfl,hb⟩;go_wp2;go_ret;exact⟨rfl,((aS _ _).alloc (by simp) _).trans (hb.mono (by simp;omega))⟩
def afD(x:eT)(w:ak):Calls prog 166 #[bK #[ae af x.fr,ae af x.to,ae af x.mn,ae af x.mx]] w λe w'=>e=ax (aL (!iq 0 x.mn x.mx 1099511627776))/\Below w.heap.size w w':=by
 have H:=SZ 0 _ _ 1099511627776 _ 4 ((w.alloc (ay #[ae af x.fr,ae af x.to,ae af x.mn,ae af x.mx] 73)).alloc (ay #[ae af 0,ae af x.mn,ae af x.mx,ae af 1099511627776] 3)) (xY w _ _ _ 0 _ rfl) (xY w _ _ _ 1 _ rfl) (xY w _ _ _ 2 _ rfl) (xY w _ _ _ 3 _ rfl);change U _ at H
 go_enter func166,ntmps166
 go_wp2_with fail
 refine aO H.o ?_;rintro e w' ⟨rfl,hb⟩;go_wp2;go_ret;exact⟨rfl,((aS _ _).alloc (by simp) _).trans (hb.mono (by simp;omega))⟩
def afE(nm:ByteArray)(bh cnt mn mx:Int)(pa ga ea fa la:Option aC)(pn pc gn gc en ec fn fc ln lc:Nat)(xs:List eT)(w:ak)(hv:bw lF 4 w (aj ga gn gc) xs)(hn:xs.length<=1000000):Calls prog 165 #[.agg (nR nm bh pa pn pc cnt mn mx ga gn gc ea en ec fa fn fc la ln lc)] w λe w'=>e=ax (aL (xs.any λx=>!iq 0 x.mn x.mx 1099511627776))/\Below w.heap.size w w':=by
 unfold nR;have H:=SY _ xs _ 166 #[] _ (hv.below (aS w (ay (nR nm bh pa pn pc cnt mn mx ga gn gc ea en ec fa fn fc la ln lc) 58))) hn (enters_of func166 (by kernel_rfl) rfl) (λW _ x _=>afD x W);change U _ at H
 go_enter func165,ntmps165
 go_wp2_with fail
 refine aO H.o ?_;rintro e w' ⟨rfl,hb⟩;go_wp2;go_ret;exact⟨rfl,(aS _ _).trans (hb.mono (by simp))⟩
def afF(nm:ByteArray)(bh cnt mn mx:Int)(pa ga ea fa la:Option aC)(pn pc gn gc en ec fn fc ln lc:Nat)(xs:List (Int×Int))(w:ak)(hv:bw kI 2 w (aj ea en ec) xs)(hn:xs.length<=1000000):Calls prog 167 #[.agg (nR nm bh pa pn pc cnt mn mx ga gn gc ea en ec fa fn fc la ln lc)] w λe w'=>e=ax (aL (twice xs))/\Below w.heap.size w w':=by
 unfold nR;have H:=afj _ xs _ (hv.below (aS w (ay (nR nm bh pa pn pc cnt mn mx ga gn gc ea en ec fa fn fc la ln lc) 58))) hn;change U _ at H
 go_enter func167,ntmps167
 go_wp2_with fail
 refine aO H.o ?_;rintro e w' ⟨rfl,hb⟩;go_wp2;go_ret;exact⟨rfl,(aS _ _).trans (hb.mono (by simp))⟩
def afG(nm:ByteArray)(bh cnt mn mx:Int)(pa ga ea fa la:Option aC)(pn pc gn gc en ec fn fc ln lc:Nat)(xs:List Int)(w:ak)(hv:bw bT 1 w (aj fa fn fc) xs)(hn:xs.length<=1000000):Calls prog 169 #[.agg (nR nm bh pa pn pc cnt mn mx ga gn gc ea en ec fa fn fc la ln lc)] w λe w'=>e=ax (aL (twice xs))/\Below w.heap.size w w':=by
 unfold nR;have H:=S5 _ xs _ (hv.below (aS w (ay (nR nm bh pa pn pc cnt mn mx ga gn gc ea en ec fa fn fc la ln lc) 58))) hn;change U _ at H
 go_enter func169,ntmps169
 go_wp2_with fail
 refine aO H.o ?_;rintro e w' ⟨rfl,hb⟩;go_wp2;go_ret;exact⟨rfl,(aS _ _).trans (hb.mono (by simp))⟩
def afH(nm:ByteArray)(bh cnt mn mx:Int)(pa ga ea fa la:Option aC)(pn pc gn gc en ec fn fc ln lc:Nat)(xs:List Int)(w:ak)(hv:bw bT 1 w (aj la ln lc) xs)(hn:xs.length<=1000000):Calls prog 171 #[.agg (nR nm bh pa pn pc cnt mn mx ga gn gc ea en ec fa fn fc la ln lc)] w λe w'=>e=ax (aL (twice xs))/\Below w.heap.size w w':=by
 unfold nR;have H:=S5 _ xs _ (hv.below (aS w (ay (nR nm bh pa pn pc cnt mn mx ga gn gc ea en ec fa fn fc la ln lc) 58))) hn;change U _ at H
 go_enter func171,ntmps171
 go_wp2_with fail
 refine aO H.o ?_;rintro e w' ⟨rfl,hb⟩;go_wp2;go_ret;exact⟨rfl,(aS _ _).trans (hb.mono (by simp))⟩
def afI(nm:ByteArray)(bh cnt mn mx:Int)(pa ga ea fa la:Option aC)(pn pc gn gc en ec fn fc ln lc:Nat)  (w:ak):Calls prog 172 #[.agg (nR nm bh pa pn pc cnt mn mx ga gn gc ea en ec fa fn fc la ln lc)] w λe w'=>e=ax (aL (decide (0<en)&&decide (fn=0)))/\Below w.heap.size w w':=by
 unfold nR
 by_cases h:0<en
 ·have g:(0:Int)<(en:Int):=by omega
  by_cases h2:fn=0
  ·subst h2;rw[show (decide _&&decide _)=true by simp[h]];go_enter func172,ntmps172
   go_wp2;go_ret;exact⟨rfl,aS _ _⟩
  have g2:((fn:Int)==0)=false:=by rw[gX];omega
  rw[show (decide _&&decide _)=false by simp[h2]];go_enter func172,ntmps172
  go_wp2;go_ret;exact⟨rfl,aS _ _⟩
 obtain rfl:en=0:=by omega
 rw[show (decide _&&decide _)=false by simp];go_enter func172,ntmps172
 go_wp2;go_ret;exact⟨rfl,aS _ _⟩
def afJ(nm:ByteArray)(bh cnt mn mx:Int)(pa ga ea fa la:Option aC)(pn pc gn gc en ec fn fc ln lc:Nat)(hf:fn<=1000000)(hl:ln<=1000000)(w:ak):Calls prog 173 #[.agg (nR nm bh pa pn pc cnt mn mx ga gn gc ea en ec fa fn fc la ln lc)] w λe w'=>e=ax (aL (decide (en=0)&&decide (0<fn+ln)))/\Below w.heap.size w w':=by
 unfold nR
 by_cases h:en=0
 ·subst h;have hw:IntKind.i64.wrap ((fn:Int)+(ln:Int))=((fn+ln:Nat):Int):=by rw[qg];omega
  rw[show (decide _&&decide _)=decide ((0:Int)<((fn+ln:Nat):Int)) by simp only[decide_true,Bool.true_and];exact pA.2 (by omega)];generalize ((fn+ln:Nat):Int)=q at *;go_enter func173,ntmps173
  go_wp2;go_ret;exact⟨rfl,aS _ _⟩
 have g:((en:Int)==0)=false:=by rw[gX];omega
 rw[show (decide _&&decide _)=false by simp[h]];go_enter func173,ntmps173
 go_wp2;go_ret;exact⟨rfl,aS _ _⟩
def B_(A:Nat->aC):Array aw:=#[.iface 357 (aq (J (A 4))),.func (.func 152) #[] #[],.iface 357 (aq (J (A 4))),.func (.func 154) #[] #[],.iface 357 (aq (J (A 4))),.func (.func 157) #[] #[],.iface 357 (aq (J (A 4))),.func (.func 160) #[] #[],.iface 357 (aq (J (A 4))),.func (.func 161) #[] #[],.iface 357 (aq (J (A 2))),.func (.func 162) #[] #[],.iface 357 (aq (J (A 1))),.func (.func 163) #[] #[],.iface 357 (aq (J (A 1))),.func (.func 165) #[] #[],.iface 357 (aq (J (A 5))),.func (.func 167) #[] #[],.iface 357 (aq (J (A 5))),.func (.func 169) #[] #[],.iface 357 (aq (J (A 5))),.func (.func 171) #[] #[],.iface 357 (aq (J (A 2))),.func (.func 172) #[] #[],.iface 357 (aq (J (A 2))),.func (.func 173) #[] #[]]
def afK(A:Nat->aC)(w:ak)(hs:l4 A w):Calls prog 105 #[] w λe w'=>e=ax (aj (J (ai w.heap.size 0 I)) 13 13)/\w'=w.alloc (ay (B_ A) 203):=by
 have c1:=hs.c1;have c2:=hs.c2;have c4:=hs.c4;have c5:=hs.c5;unfold B_;go_enter func105,ntmps105
 go_wp2;go_ret;exact⟨rfl,rfl⟩
def Ta(i:Nat):Nat:=[152,154,157,160,161,162,163,165,167,169,171,172,173].getD i 0
def afL(A:Nat->aC)(e:aM)(pa ga ea fa la:Option aC)(pc gc ec fc lc:Nat)(r:Nat)(W:ak)(hP:fh W e (aj pa e.au.length pc) (aj ga e.aV.length gc) (aj ea e.aP.length ec) (aj fa e.first.length fc) (aj la e.last.length lc))(hS:gG e)(hr:W.heap[r]?=J (ay (B_ A) 203 (0,0))):Ed A W r (.agg (nU e (aj pa e.au.length pc) (aj ga e.aV.length gc) (aj ea e.aP.length ec) (aj fa e.first.length fc) (aj la e.last.length lc))) [
 (decide (e.cnt≠-1)&&lacks e.au.length e.cnt,5),
 (e.aV.any λg=>lacks e.au.length g.fr||lacks e.au.length g.to,5),
 (e.aP.any λd=>lacks e.au.length d.1||lacks e.au.length d.2,5),
 (e.first.any λx=>lacks e.au.length x,5),
 (e.last.any λx=>lacks e.au.length x,5),
 (decide (e.cnt=-1)&&(decide (e.mn≠0)||decide (e.mx≠0)),3),
 (!iq 0 e.mn e.mx 999,2),
 (e.aV.any λg=>!iq 0 g.mn g.mx 1099511627776,2),
 (twice e.aP,6),(twice e.first,6),(twice e.last,6),
 (decide (0<e.aP.length)&&decide (e.first.length=0),3),
 (decide (e.aP.length=0)&&decide (0<e.first.length+e.last.length),3)] Ta:=by
 have hcell:∀j v,(B_ A)[j]?=J v->W.cell? (ai r j I)=J v:=λj v e=>by simp[aH,hr,e]
 refine⟨λi b d e=>?_,λi b d e=>?_,λi b d e' V hV=>?_,by simp,λi b d e=>?_⟩
 ·match i,e with
  |0,e=>cases e;exact⟨hcell 0 _ rfl,hcell 1 _ rfl⟩
  |1,e=>cases e;exact⟨hcell 2 _ rfl,hcell 3 _ rfl⟩
  |2,e=>cases e;exact⟨hcell 4 _ rfl,hcell 5 _ rfl⟩
  |3,e=>cases e;exact⟨hcell 6 _ rfl,hcell 7 _ rfl⟩
  |4,e=>cases e;exact⟨hcell 8 _ rfl,hcell 9 _ rfl⟩
  |5,e=>cases e;exact⟨hcell 10 _ rfl,hcell 11 _ rfl⟩
  |6,e=>cases e;exact⟨hcell 12 _ rfl,hcell 13 _ rfl⟩
  |7,e=>cases e;exact⟨hcell 14 _ rfl,hcell 15 _ rfl⟩
  |8,e=>cases e;exact⟨hcell 16 _ rfl,hcell 17 _ rfl⟩
  |9,e=>cases e;exact⟨hcell 18 _ rfl,hcell 19 _ rfl⟩
  |10,e=>cases e;exact⟨hcell 20 _ rfl,hcell 21 _ rfl⟩
  |11,e=>cases e;exact⟨hcell 22 _ rfl,hcell 23 _ rfl⟩
  |12,e=>cases e;exact⟨hcell 24 _ rfl,hcell 25 _ rfl⟩
  |i+13,e=>cases e
 ·match i,e with
  |0,_=>exact enters_of func152 (by kernel_rfl) rfl
  |1,_=>exact enters_of func154 (by kernel_rfl) rfl
  |2,_=>exact enters_of func157 (by kernel_rfl) rfl
  |3,_=>exact enters_of func160 (by kernel_rfl) rfl
  |4,_=>exact enters_of func161 (by kernel_rfl) rfl
  |5,_=>exact enters_of func162 (by kernel_rfl) rfl
  |6,_=>exact enters_of func163 (by kernel_rfl) rfl
  |7,_=>exact enters_of func165 (by kernel_rfl) rfl
  |8,_=>exact enters_of func167 (by kernel_rfl) rfl
  |9,_=>exact enters_of func169 (by kernel_rfl) rfl
  |10,_=>exact enters_of func171 (by kernel_rfl) rfl
  |11,_=>exact enters_of func172 (by kernel_rfl) rfl
  |12,_=>exact enters_of func173 (by kernel_rfl) rfl
  |i+13,e=>cases e
 ·match i,e' with
  |0,e'=>cases e';exact afu _ _ _ _ _ _ _ _ _ _ _ _ _ _ _ _ _ _ _ _ _
  |1,e'=>cases e';exact afx _ _ _ _ _ _ _ _ _ _ _ _ _ _ _ _ _ _ _ _ _ _ (hP.hg.below hV) hS.hg
  |2,e'=>cases e';exact afy _ _ _ _ _ _ _ _ _ _ _ _ _ _ _ _ _ _ _ _ _ _ (hP.he.below hV) hS.he
  |3,e'=>cases e';exact afz _ _ _ _ _ _ _ _ _ _ _ _ _ _ _ _ _ _ _ _ _ _ (hP.hf.below hV) hS.hf
  |4,e'=>cases e';exact afA _ _ _ _ _ _ _ _ _ _ _ _ _ _ _ _ _ _ _ _ _ _ (hP.hl.below hV) hS.hl
  |5,e'=>cases e';exact afB _ _ _ _ _ _ _ _ _ _ _ _ _ _ _ _ _ _ _ _ _
  |6,e'=>cases e';exact afC _ _ _ _ _ _ _ _ _ _ _ _ _ _ _ _ _ _ _ _ _
  |7,e'=>cases e';exact afE _ _ _ _ _ _ _ _ _ _ _ _ _ _ _ _ _ _ _ _ _ _ (hP.hg.below hV) hS.hg
  |8,e'=>cases e';exact afF _ _ _ _ _ _ _ _ _ _ _ _ _ _ _ _ _ _ _ _ _ _ (hP.he.below hV) hS.he
  |9,e'=>cases e';exact afG _ _ _ _ _ _ _ _ _ _ _ _ _ _ _ _ _ _ _ _ _ _ (hP.hf.below hV) hS.hf
  |10,e'=>cases e';exact afH _ _ _ _ _ _ _ _ _ _ _ _ _ _ _ _ _ _ _ _ _ _ (hP.hl.below hV) hS.hl
  |11,e'=>cases e';exact afI _ _ _ _ _ _ _ _ _ _ _ _ _ _ _ _ _ _ _ _ _
  |12,e'=>cases e';exact afJ _ _ _ _ _ _ _ _ _ _ _ _ _ _ _ _ _ _ _ _ hS.hf hS.hl _
  |i+13,e'=>cases e'
 match i,e with
 |0,e=>cases e;decide
 |1,e=>cases e;decide
 |2,e=>cases e;decide
 |3,e=>cases e;decide
 |4,e=>cases e;decide
 |5,e=>cases e;decide
 |6,e=>cases e;decide
 |7,e=>cases e;decide
 |8,e=>cases e;decide
 |9,e=>cases e;decide
 |10,e=>cases e;decide
 |11,e=>cases e;decide
 |12,e=>cases e;decide
 |i+13,e=>cases e
def Tb(A:Nat->aC)(e:aM)(pa ga ea fa la:Option aC)(pc gc ec fc lc:Nat)(r:Nat)(W:ak)(hr:W.heap[r]?=J (ay (zN A) 203 (0,0))):Calls prog 103 #[.agg (eR e pa pc ga gc ea ec fa fc la lc),aj (J (ai r 0 I)) 6 6] W λv w'=>v=ax (cP A (jZ e))/\Below W.heap.size W w':=
 Sr A _ _ _ _ _ _ _ _ _ _ _ _ _ _ _ _ _ _ _ _ r _ S_ W (afq A e pa ga ea fa la pc gc ec fc lc r W hr)
def afM(A:Nat->aC)(e:aM)(pa ga ea fa la:Option aC)(pc gc ec fc lc:Nat)(r:Nat)(W:ak)(hP:fh W e (aj pa e.au.length pc) (aj ga e.aV.length gc) (aj ea e.aP.length ec) (aj fa e.first.length fc) (aj la e.last.length lc))(hS:gG e)(hr:W.heap[r]?=J (ay (B_ A) 203 (0,0))):Calls prog 103 #[.agg (eR e pa pc ga gc ea ec fa fc la lc),aj (J (ai r 0 I)) 13 13] W λv w'=>v=ax (cP A (pZ e))/\Below W.heap.size W w':=
 Sr A _ _ _ _ _ _ _ _ _ _ _ _ _ _ _ _ _ _ _ _ r _ Ta W (afL A e pa ga ea fa la pc gc ec fc lc r W hP hS hr)
def Tc(A:Nat->aC)(c:aX)(sa:Option aC)(sc:Nat)(r:Nat)(W:ak)(hs:l4 A W)(hr:W.heap[r]?=J (ay (zB A) 149 (0,0))):Calls prog 43 #[.agg (cR c sa sc),aj (J (ai r 0 I)) 5 5] W λv w'=>v=ax (cP A (iO c))/\Below W.heap.size W w':=
 adU A _ _ _ _ _ _ _ r _ Sv W (ad2 A c sa sc r W hs hr)
def EB(V:ak)(c:Array aw)(t:TypeId):(V.alloc (ay c t)).heap[V.heap.size]?=J (ay c t (0,0)):=by
 show (V.heap.push _)[V.heap.size]?=_
 simp
def zO(row:aw)(n:Nat)(rules:Array aw)(t:TypeId)(err:aw)(i:Nat)(v:aw)(W:ak):Prop:=match i with
 |0=>v=row
 |1=>∃r,v=aj (J (ai r 0 I)) n n/\W.heap[r]?=J (ay rules t (0,0))
 |2=>v=err
 |_=>v=err
def uA{row:aw}{rules:Array aw}{t:TypeId}{err:aw}(hb:Below w.heap.size w w'):∀j v,zO row n rules t err j v w->zO row n rules t err j v w':=by
 intro j v h
 match j with
 |0=>exact h
 |1=>obtain⟨r,h1,h2⟩:=h;exact⟨r,h1,a8 hb h2⟩
 |2=>exact h
 |j+3=>exact h
def vQ(h:n≠0):cP A n=.iface 357 (aq (J (A (n-1)))):=by
 obtain⟨k,rfl⟩:∃k,n=k+1:=⟨n-1,by omega⟩;rfl
def afN(hk:l[k]?=J p)(h:dP (a++l.take k) p=0):eM (a++l.take k) (l.drop k)=eM (a++l.take (k+1)) (l.drop (k+1)):=by
 obtain⟨hl,e⟩:=df.1 hk;rw[lX hl,eM,e,aU h,eI,hk];simp
def afO(hk:l[k]?=J p)(h:dP (a++l.take k) p≠0):eM (a++l.take k) (l.drop k)=dP (a++l.take k) p:=by
 obtain⟨hl,e⟩:=df.1 hk;rw[lX hl,eM,e,aK h]
def afP(A:Nat->aC)(e:aM)(pa ga ea fa la:Option aC)(pc gc ec fc lc:Nat)(w0 w:ak)(rb bx mb:Nat)(a:List ByteArray)(hs0:l4 A w0)(hP:fh w0 e (aj pa e.au.length pc) (aj ga e.aV.length gc) (aj ea e.aP.length ec) (aj fa e.first.length fc) (aj la e.last.length lc))(hS:gG e)(h:mS A w0 w rb bx mb a)(hn:a.length<=1000000):Calls prog 46 #[.agg (eR e pa pc ga gc ea ec fa fc la lc),aj (J (ai rb 0 I)) 2 2] w
   λv w'=>v=ax (cP A (cD a e))/\Below w0.heap.size w0 w'/\(cD a e=0->mS A w0 w' rb bx mb (a++[e.name])):=by
 unfold eR;have HF:=λW hW=>SX A w0 W rb bx mb a _ hW hS.hn hn
 change U _ at HF
 have H:U _:=h;change U _ at hP
 have xZ:U _:=hS;change U _ at hs0
 go_enter func46,ntmps46
 go_wp2_with fail
 refine aO (HF.o _ (H.below (aS _ _))) ?_;rintro v W1 ⟨rfl,hb1,afQ,afR⟩
 by_cases hE:dP a e.name=0
 ·have Ca:U _:=afQ hE;have uB:U _:=hE;have eA:U (oZ W1 _ _):=λj v ev=>afR _ v (λh=>by have:=H.own.lt;simp at h;omega) (oZ.new w _ _ j v ev)
  have lq:U _:=hs0.below hb1;have Td:U _:=hP.below hb1;rw[hE,show cP A 0=.nilIface from rfl];go_upto_region 4 with fail
  have hsz:jZ e=0\/jZ e≠0:=by omega
  rcases hsz with hz|hz
  ·have HE:U (cP A (jZ e)=.nilIface):=by show _=_;rw[hz];rfl
   change U _ at hz
   go_cut [6] (λr wx=>r=.nilIface/\Below W1.heap.size W1 wx)
   case first=>
    refine tT 4 rfl (zO (.agg (eR e pa pc ga gc ea ec fa fc la lc)) 6 (zN A) 203 (.nilIface)) (λV=>Below W1.heap.size W1 V) (by kernel_rfl) (by kernel_rfl) (uy (aF _ _)) ?_ ?_
    ·refine mM ⟨?_,?_,?_,?_,trivial⟩
     all_goals
      refine ql.free rfl ?_;intro a V hC aB aQ
     ·have x0:a.tmps[2]?.getD _=aq _:=aW (aQ 2 (dS (by kernel_rfl)));have b0:=aJ hC (eA 0 _ rfl);have b1:=aJ hC (eA 1 _ rfl);have b2:=aJ hC (eA 2 _ rfl);have b3:=aJ hC (eA 3 _ rfl);have b4:=aJ hC (eA 4 _ rfl);have b5:=aJ hC (eA 5 _ rfl);have b6:=aJ hC (eA 6 _ rfl);have b7:=aJ hC (eA 7 _ rfl);have b8:=aJ hC (eA 8 _ rfl);have b9:=aJ hC (eA 9 _ rfl);exact eh (c:=.agg _) (by clear aB aQ;go_simp) hC rfl
     ·refine nZ (f:=104) (args:=#[]) (by clear aB aQ;go_simp) ?_
      apply(S7 A _ (lq.below hC)).mono;rintro v V' ⟨rfl,rfl⟩;exact⟨_,rfl,hC.alloc hC.size _,uA (aS _ _),⟨_,rfl,EB _ _ _⟩⟩
     ·have x1:a.tmps[18]?.getD _=.agg _:=aW (aB _ 18 (bj (i:=0) rfl) rfl rfl);obtain⟨r,hr1,hr2⟩:=aB _ 19 (bj (i:=1) rfl) rfl rfl;have x2:a.tmps[19]?.getD _=aj _ 6 6:=aW hr1
      refine nZ (f:=103) (args:=#[.agg (eR e pa pc ga gc ea ec fa fc la lc),aj (J (ai r 0 I)) 6 6]) (by clear aB aQ hr1;go_simp) ?_
      apply(Tb A e pa ga ea fa la pc gc ec fc lc r _ hr2).mono;rintro v V' ⟨rfl,hb⟩;exact⟨_,rfl,hC.trans (hb.mono hC.size),uA hb,HE⟩
     have x3:a.tmps[20]?.getD _=.nilIface:=aW (aB _ 20 (bj (i:=0) rfl) rfl rfl);exact eh (c:=.nilIface) (by clear aB aQ;go_simp) hC rfl
    intro vals V hC hS;have v3:vals 3=.nilIface:=hS 3 (ar rfl);change U _ at hC
    simp only[fill,dZ];go_simp
    go_wp2
    go_meet
    case rel=>exact⟨rfl,hC⟩
   obtain⟨rfl,hb2⟩:=hcut;rename ak=>W2
   change U _ at hb2
   go_wp2_with fail
   apply(Sw A _ (lq.below hb2)).mono;rintro v W3 ⟨rfl,zP⟩;have p2:W3.cell? _=J (aj pa _ pc):=aJ (hb2.trans (zP.aY.mono hb2.size)) (eA 2 _ rfl);change U _ at zP
   go_wp2_with fail
   go_loopw [9,10,28] (λ_ _ i wr=>∃k:Nat,k<=e.au.length/\i=ae af k/\mS A W2 wr (W2.heap.size+2) (W2.heap.size+1) W2.heap.size (e.au.take k)/\U (eM [] e.au=eM ([]++e.au.take k) (e.au.drop k))) (λ_ _ i _=>e.au.length-(intOf i).toNat)
   case atStart=>exact⟨0,bA _,rfl,by simpa using zP.o,(show _=_ by simp)⟩
   case round=>
    obtain⟨k,hk,rfl,hN,kh⟩:=hrel;have hbr:=hb2.trans (hN.aY.mono hb2.size);have jo:U _:=hbr;change U _ at hN
    by_cases hlt:k<e.au.length
    ·obtain⟨q,hq⟩:∃q,e.au[k]?=J q:=⟨_,bq hlt⟩;obtain⟨bQ,cap',bH,-,hcc⟩:=Td.hp
     cases bH
     obtain⟨b,o,rfl,hc0⟩:=hcc (λh=>by rw[h]at hq;simp at hq);have c0:=aJ hbr (hc0 k q hq 0 _ rfl);simp only[qT,kH]at c0;have FW:=bP hq;have HC:U _:=SX A W2 wr _ _ _ _ q hN (xZ.hs q FW) (by have:=xZ.hp;simp;omega);have k1:(k:Int)<(e.au.length:Int):=by omega
     have k0:k<1000000:=by have:=xZ.hp;omega
     clear hc0 hcc hbr FW;change U _ at hq
     by_cases hE:dP (e.au.take k) q=0
     ·go_wp2_with fail
      refine aO HC.o ?_;rintro v W' ⟨rfl,-,EC,-⟩;have Ms:U _:=EC hE;rw[hE,show cP A 0=.nilIface from rfl];clear EC HC;change U _ at hE;go_wp2;go_roundw
      case rel=>
       refine⟨k+1,by omega,by go_num,?_,?_⟩
       ·rw[eI,hq.o];exact Ms
       show _=_
       rw[kh.o,afN hq.o (by simpa using hE.o)]
      case measure=>simp[intOf];omega
     go_wp2_with fail
     refine aO HC.o ?_;rintro v W' ⟨rfl,hb',-,-⟩;have Hz:U _:=(Ca.aY.trans (hb2.mono Ca.aY.size)).trans (hb'.mono (bp Ca.aY.size hb2.size));have H6:U (cD a e=dP (e.au.take k) q):=by
      show _=_
      have h1:eM [] e.au=dP (e.au.take k) q:=by rw[kh.o,afO hq.o (by simpa using hE)];simp
      unfold cD;rw[aK (by rw[uB.o];simp),aK (by rw[hz.o];simp),aU (by rw[h1];exact hE),h1]
     have ED:U (dP _ q≠0):=hE;rw[vQ hE];go_wp2;go_ret;exact⟨by rw[H6.o,vQ ED.o];rfl,Hz,λh=>absurd h (by rw[H6.o];exact ED)⟩
    have k1:¬(k:Int)<(e.au.length:Int):=by omega
    obtain rfl:k=e.au.length:=by omega
    have jD:U (cD a e=pZ e):=by
     show _=_
     have h1:eM [] e.au=0:=by rw[kh.o];simp[eM]
     unfold cD;rw[aK (by rw[uB.o];simp),aK (by rw[hz.o];simp),aK (by rw[h1];simp)]
    have eA:U (oZ wr _ _):=eA.below jo;have lq:U _:=lq.below jo;have afS:U _:=Td.below jo;have Mt:U _:=Ca.below jo;have HE:U (cP A (pZ e)=cP A (pZ e)):=rfl;go_upto_region 15 with fail
    refine tT 4 rfl (zO (.agg (eR e pa pc ga gc ea ec fa fc la lc)) 13 (B_ A) 203 (cP A (pZ e))) (λV=>Below wr.heap.size wr V) (by kernel_rfl) (by kernel_rfl) (uy (aF _ _)) ?_ ?_
    ·refine mM ⟨?_,?_,?_,?_,trivial⟩
     all_goals
      refine ql.free rfl ?_;intro a V hC aB aQ
     ·have x0:a.tmps[2]?.getD _=aq _:=aW (aQ 2 (dS (by kernel_rfl)));have b0:=aJ hC (eA 0 _ rfl);have b1:=aJ hC (eA 1 _ rfl);have b2:=aJ hC (eA 2 _ rfl);have b3:=aJ hC (eA 3 _ rfl);have b4:=aJ hC (eA 4 _ rfl);have b5:=aJ hC (eA 5 _ rfl);have b6:=aJ hC (eA 6 _ rfl);have b7:=aJ hC (eA 7 _ rfl);have b8:=aJ hC (eA 8 _ rfl);have b9:=aJ hC (eA 9 _ rfl);exact eh (c:=.agg _) (by clear aB aQ;go_simp) hC rfl
     ·refine nZ (f:=105) (args:=#[]) (by clear aB aQ;go_simp) ?_
      apply(afK A _ (lq.below hC)).mono;rintro v V' ⟨rfl,rfl⟩;exact⟨_,rfl,hC.alloc hC.size _,uA (aS _ _),⟨_,rfl,EB _ _ _⟩⟩
     ·have x1:a.tmps[39]?.getD _=.agg _:=aW (aB _ 39 (bj (i:=0) rfl) rfl rfl);obtain⟨r,hr1,hr2⟩:=aB _ 40 (bj (i:=1) rfl) rfl rfl;have x2:a.tmps[40]?.getD _=aj _ 13 13:=aW hr1
      refine nZ (f:=103) (args:=#[.agg (eR e pa pc ga gc ea ec fa fc la lc),aj (J (ai r 0 I)) 13 13]) (by clear aB aQ hr1;go_simp) ?_
      apply(afM A e pa ga ea fa la pc gc ec fc lc r _ (afS.below hC) xZ hr2).mono;rintro v V' ⟨rfl,hb⟩;exact⟨_,rfl,hC.trans (hb.mono hC.size),uA hb,HE⟩
     have x3:a.tmps[41]?.getD _=cP A _:=aW (aB _ 41 (bj (i:=0) rfl) rfl rfl);exact eh (c:=cP A _) (by clear aB aQ;go_simp) hC rfl
    intro vals V hC hS;have v3:vals 3=cP A _:=hS 3 (ar rfl);change U _ at hC
    simp only[fill,dZ];go_simp
    go_wp2;go_ret;exact⟨by rw[jD.o];rfl,Mt.aY.trans (hC.mono Mt.aY.size),λ_=>Mt.below hC⟩
  have HE:U (cP A _=.iface 357 _):=vQ hz;have jD:U (cD a e=jZ e):=by show _=_;unfold cD;rw[aK (by rw[uB.o];simp),aU hz]
  have HZ:U (jZ e≠0):=hz;generalize A (jZ e-1)=ad at *
  refine tT 4 rfl (zO (.agg (eR e pa pc ga gc ea ec fa fc la lc)) 6 (zN A) 203 (.iface 357 (aq (J ad)))) (λV=>Below W1.heap.size W1 V) (by kernel_rfl) (by kernel_rfl) (uy (aF _ _)) ?_ ?_
  ·refine mM ⟨?_,?_,?_,?_,trivial⟩
   all_goals
    refine ql.free rfl ?_;intro a V hC aB aQ
   ·have x0:a.tmps[2]?.getD _=aq _:=aW (aQ 2 (dS (by kernel_rfl)));have b0:=aJ hC (eA 0 _ rfl);have b1:=aJ hC (eA 1 _ rfl);have b2:=aJ hC (eA 2 _ rfl);have b3:=aJ hC (eA 3 _ rfl);have b4:=aJ hC (eA 4 _ rfl);have b5:=aJ hC (eA 5 _ rfl);have b6:=aJ hC (eA 6 _ rfl);have b7:=aJ hC (eA 7 _ rfl);have b8:=aJ hC (eA 8 _ rfl);have b9:=aJ hC (eA 9 _ rfl);exact eh (c:=.agg _) (by clear aB aQ;go_simp) hC rfl
   ·refine nZ (f:=104) (args:=#[]) (by clear aB aQ;go_simp) ?_
    apply(S7 A _ (lq.below hC)).mono;rintro v V' ⟨rfl,rfl⟩;exact⟨_,rfl,hC.alloc hC.size _,uA (aS _ _),⟨_,rfl,EB _ _ _⟩⟩
   ·have x1:a.tmps[18]?.getD _=.agg _:=aW (aB _ 18 (bj (i:=0) rfl) rfl rfl);obtain⟨r,hr1,hr2⟩:=aB _ 19 (bj (i:=1) rfl) rfl rfl;have x2:a.tmps[19]?.getD _=aj _ 6 6:=aW hr1
    refine nZ (f:=103) (args:=#[.agg (eR e pa pc ga gc ea ec fa fc la lc),aj (J (ai r 0 I)) 6 6]) (by clear aB aQ hr1;go_simp) ?_
    apply(Tb A e pa ga ea fa la pc gc ec fc lc r _ hr2).mono;rintro v V' ⟨rfl,hb⟩;exact⟨_,rfl,hC.trans (hb.mono hC.size),uA hb,HE⟩
   have x3:a.tmps[20]?.getD _=.iface 357 _:=aW (aB _ 20 (bj (i:=0) rfl) rfl rfl);exact eh (c:=.iface 357 _) (by clear aB aQ;go_simp) hC rfl
  intro vals V hC hS;have v3:vals 3=.iface 357 _:=hS 3 (ar rfl);change U _ at hC
  simp only[fill,dZ];go_simp
  go_wp2;go_ret;exact⟨by rw[jD.o,HE.o];rfl,Ca.aY.trans (hC.mono Ca.aY.size),λh=>absurd h (by rw[jD.o];exact HZ)⟩
 have uB:U (cD a e=dP a e.name):=by show _=_;unfold cD;rw[aU hE]
 change U _ at hb1
 have Te:U (dP a _≠0):=hE;rw[vQ hE];go_wp2;go_ret;exact⟨by rw[uB.o,vQ Te.o];rfl,hb1,λh=>absurd h (by rw[uB.o];exact Te)⟩
def H7:∀(l:List (Bool×Nat)),(∀p∈l,p.2<=n)->dK l<=n
 |[],_=>bA _
 |(b,c)::t,h=>by
  unfold dK
  split
  ·exact h (b,c) (by simp)
  exact H7 t (λp hp=>h p (by simp[hp]))
def Tf(a:List ByteArray)(s:ByteArray):dP a s<=6:=by unfold dP;split<;>(try split)<;>omega
def Tg:∀(l a:List ByteArray),eM a l<=6
 |[],_=>by simp[eM]
 |p::t,a=>by unfold eM;split;exact Tg t _;exact Tf _ _
def afT(a:List ByteArray)(e:aM):cD a e<=6:=by
 unfold cD
 split
 ·exact Tf _ _
 split
 ·unfold jZ;exact H7 _ (by simp)
 split
 ·exact Tg _ _
 unfold pZ;exact H7 _ (by simp)
def afU(c:aX):iO c<=6:=by unfold iO;exact H7 _ (by simp)
def afV(hk:es[k]?=J e)(h:cD ((es.take k).map (·.name)) e=0):kE ((es.take k).map (·.name)) k (es.drop k)=kE ((es.take (k+1)).map (·.name)) (k+1) (es.drop (k+1)):=by
 obtain⟨hl,e'⟩:=df.1 hk;rw[lX hl,kE,e',aU h,eI,hk];simp
def afW(hk:es[k]?=J e)(h:cD ((es.take k).map (·.name)) e≠0):kE ((es.take k).map (·.name)) k (es.drop k)=(cD ((es.take k).map (·.name)) e,(k:Int)):=by
 obtain⟨hl,e'⟩:=df.1 hk;rw[lX hl,kE,e',aK h]
def Ti(A:Nat->aC)(c:aX)(sa:Option aC)(sc:Nat)(w:ak)(hs:l4 A w)(hE:eU w (aj sa c.az.length sc) c.az)(hS:kJ c):Calls prog 19 #[.agg (cR c sa sc)] w λv w'=>∃r,v=ax r/\mI A w' r (cJ c)/\Below w.heap.size w w':=by
 unfold cR;have xZ:U _:=hS;have afX:U (eU w _ _):=hE;change U _ at hs
 go_enter func19,ntmps19
 go_upto_region 1 with fail
 obtain⟨W0,hW0⟩:∃W0,W0=w.alloc (ay (cR c sa sc) 24):=⟨_,rfl⟩;rw[<- hW0];have jG:U (Below w.heap.size w W0):=by show Below _ _ _;rw[hW0];exact aS _ _
 have eA:U (oZ W0 w.heap.size (cR c sa sc)):=by show oZ _ _ _;rw[hW0];exact oZ.new _ _ _
 have lq:U _:=hs.below jG;have hz:iO c=0\/iO c≠0:=by omega
 rcases hz with hz|hz
 ·have HE:U (cP A (iO c)=.nilIface):=by show _=_;rw[hz];rfl
  change U _ at hz
  go_cut [3] (λr wx=>r=.nilIface/\Below W0.heap.size W0 wx)
  case first=>
   refine tT 4 rfl (zO (.agg (cR c sa sc)) 5 (zB A) 149 (.nilIface)) (λV=>Below W0.heap.size W0 V) (by kernel_rfl) (by kernel_rfl) (uy (aF _ _)) ?_ ?_
   ·refine mM ⟨?_,?_,?_,?_,trivial⟩
    all_goals
     refine ql.free rfl ?_;intro a V hC aB aQ
    ·have x0:a.tmps[1]?.getD _=aq _:=aW (aQ 1 (dS (by kernel_rfl)));have b0:=aJ hC (eA 0 _ rfl);have b1:=aJ hC (eA 1 _ rfl);have b2:=aJ hC (eA 2 _ rfl);have b3:=aJ hC (eA 3 _ rfl);have b4:=aJ hC (eA 4 _ rfl);exact eh (c:=.agg _) (by clear aB aQ;go_simp) hC rfl
    ·refine nZ (f:=44) (args:=#[]) (by clear aB aQ;go_simp) ?_
     apply(Ss A _ (lq.below hC)).mono;rintro v V' ⟨rfl,rfl⟩;exact⟨_,rfl,hC.alloc hC.size _,uA (aS _ _),⟨_,rfl,EB _ _ _⟩⟩
    ·have x1:a.tmps[8]?.getD _=.agg _:=aW (aB _ 8 (bj (i:=0) rfl) rfl rfl);obtain⟨r,hr1,hr2⟩:=aB _ 9 (bj (i:=1) rfl) rfl rfl;have x2:a.tmps[9]?.getD _=aj _ 5 5:=aW hr1
     refine nZ (f:=43) (args:=#[.agg (cR c sa sc),aj (J (ai r 0 I)) 5 5]) (by clear aB aQ hr1;go_simp) ?_
     apply(Tc A c sa sc r _ (lq.below hC) hr2).mono;rintro v V' ⟨rfl,hb⟩;exact⟨_,rfl,hC.trans (hb.mono hC.size),uA hb,HE⟩
    have x3:a.tmps[10]?.getD _=.nilIface:=aW (aB _ 10 (bj (i:=0) rfl) rfl rfl);exact eh (c:=.nilIface) (by clear aB aQ;go_simp) hC rfl
   intro vals V hC hS;have v3:vals 3=.nilIface:=hS 3 (ar rfl);change U _ at hC
   simp only[fill,dZ];go_simp
   go_wp2
   go_meet
   case rel=>exact⟨rfl,hC⟩
  obtain⟨rfl,hb2⟩:=hcut;rename ak=>W1
  change U _ at hb2
  go_wp2_with fail
  apply(Sw A _ (lq.below hb2)).mono;rintro v W3 ⟨rfl,zP⟩;have p2:W3.cell? _=J (aj sa _ sc):=aJ (hb2.trans (zP.aY.mono hb2.size)) (eA 4 _ rfl);change U _ at zP
  go_wp2_with fail
  go_loopw [5,6,7,18] (λ_ _ _ i wr=>∃k:Nat,k<=c.az.length/\i=ae af k/\mS A W1 wr (W1.heap.size+2) (W1.heap.size+1) W1.heap.size ((c.az.take k).map (·.name))/\U (cJ c=kE ((c.az.take k).map (·.name)) k (c.az.drop k))) (λ_ _ _ i _=>c.az.length-(intOf i).toNat)
  case atStart=>exact⟨0,bA _,rfl,by simpa using zP.o,(show _=_ by unfold cJ;rw[aU hz.o];simp)⟩
  case round=>
   obtain⟨k,hk,rfl,hN,kh⟩:=hrel;have bu:U _:=jG.trans (hb2.mono jG.size);have jo:U _:=bu.trans (hN.aY.mono bu.size);change U _ at hN
   by_cases hlt:k<c.az.length
   ·obtain⟨e,hq⟩:∃e,c.az[k]?=J e:=⟨_,bq hlt⟩;obtain⟨bQ,cap',bH,hcc⟩:=afX.o
    cases bH
    obtain⟨b,o,rfl,hc0⟩:=hcc (λh=>by rw[h]at hq;simp at hq);obtain⟨pv,gv,ev,fv,lv,fO,hcell⟩:=hc0 k e hq;obtain⟨pa,pc,rfl,-,-⟩:=id fO.hp;obtain⟨ga,gc,rfl,-,-⟩:=id fO.hg;obtain⟨ea,ec,rfl,-,-⟩:=id fO.he;obtain⟨fa,fc,rfl,-,-⟩:=id fO.hf;obtain⟨la,lc,rfl,-,-⟩:=id fO.hl;have c0:wr.cell? ⟨b,o+k*10,_⟩=J (aA _):=aJ jo (hcell 0 _ rfl);have c1:wr.cell? _=J (ae af _):=aJ jo (hcell 1 _ rfl);have c2:wr.cell? _=J (aj pa _ pc):=aJ jo (hcell 2 _ rfl);have c3:wr.cell? _=J (ae af _):=aJ jo (hcell 3 _ rfl);have c4:wr.cell? _=J (ae af _):=aJ jo (hcell 4 _ rfl);have c5:wr.cell? _=J (ae af _):=aJ jo (hcell 5 _ rfl);have c6:wr.cell? _=J (aj ga _ gc):=aJ jo (hcell 6 _ rfl);have c7:wr.cell? _=J (aj ea _ ec):=aJ jo (hcell 7 _ rfl);have c8:wr.cell? _=J (aj fa _ fc):=aJ jo (hcell 8 _ rfl);have c9:wr.cell? _=J (aj la _ lc):=aJ jo (hcell 9 _ rfl);have HP:U _:=fO.below bu;have Mu:U _:=xZ.he e (bP hq);have k1:(k:Int)<(c.az.length:Int):=by omega
    have k0:k<1000000:=by have:=xZ.hn;omega
    have HC:U _:=λW hW=>afP A e pa ga ea fa la pc gc ec fc lc W1 W (W1.heap.size+2) (W1.heap.size+1) W1.heap.size ((c.az.take k).map (·.name)) (lq.below hb2) HP Mu hW (by have:=xZ.hn;simp;omega)
    clear hcell fO hcc hc0;change U _ at hq
    by_cases hE:cD ((c.az.take k).map (·.name)) e=0
    ·go_wp2_with fail
     refine aO (HC.o _ (hN.below (aS _ _))) ?_;rintro v W' ⟨rfl,-,EC⟩;have Ms:U _:=EC hE;rw[hE,show cP A 0=.nilIface from rfl];clear EC HC;change U _ at hE;go_wp2;go_roundw
     case rel=>
      refine⟨k+1,by omega,by go_num,?_,?_⟩
      ·rw[eI,hq.o];simpa using Ms.o
      show _=_
      rw[kh.o,afV hq.o hE.o]
     case measure=>simp[intOf];omega
    go_wp2_with fail
    refine aO (HC.o _ (hN.below (aS _ _))) ?_;rintro v W' ⟨rfl,hb',-⟩;have Hz:U _:=bu.trans (hb'.mono bu.size);have H6:U (cJ c=(cD ((c.az.take k).map (·.name)) e,(k:Int))):=by
     show _=_
     rw[kh.o,afW hq.o hE]
    have ED:U (cD _ e≠0):=hE;rw[vQ hE];go_wp2;go_ret
    refine⟨_,rfl,?_,Hz.alloc Hz.size _⟩;rw[H6.o]
    refine⟨bp (afT _ _) (ar rfl),aN ⟨Nat.pos_of_ne_zero ED,_,rfl,by simp,by rw[vQ ED.o];simp⟩⟩
   have k1:¬(k:Int)<(c.az.length:Int):=by omega
   obtain rfl:k=c.az.length:=by omega
   have jD:U (cJ c=(0,-1)):=by show _=_;rw[kh.o];simp[kE]
   go_wp2;go_ret
   refine⟨_,rfl,?_,jo⟩;rw[jD.o];exact⟨bA _,aT ⟨rfl,rfl⟩⟩
 have HE:U (cP A (iO c)=.iface 357 (aq (J (A (iO c-1))))):=vQ hz;have jD:U (cJ c=(iO c,-1)):=by show _=_;unfold cJ;rw[aK hz]
 generalize A (iO c-1)=ad at *
 refine tT 4 rfl (zO (.agg (cR c sa sc)) 5 (zB A) 149 (.iface 357 (aq (J ad)))) (λV=>Below W0.heap.size W0 V) (by kernel_rfl) (by kernel_rfl) (uy (aF _ _)) ?_ ?_
 ·refine mM ⟨?_,?_,?_,?_,trivial⟩
  all_goals
   refine ql.free rfl ?_;intro a V hC aB aQ
  ·have x0:a.tmps[1]?.getD _=aq _:=aW (aQ 1 (dS (by kernel_rfl)));have b0:=aJ hC (eA 0 _ rfl);have b1:=aJ hC (eA 1 _ rfl);have b2:=aJ hC (eA 2 _ rfl);have b3:=aJ hC (eA 3 _ rfl);have b4:=aJ hC (eA 4 _ rfl);exact eh (c:=.agg _) (by clear aB aQ;go_simp) hC rfl
  ·refine nZ (f:=44) (args:=#[]) (by clear aB aQ;go_simp) ?_
   apply(Ss A _ (lq.below hC)).mono;rintro v V' ⟨rfl,rfl⟩;exact⟨_,rfl,hC.alloc hC.size _,uA (aS _ _),⟨_,rfl,EB _ _ _⟩⟩
  ·have x1:a.tmps[8]?.getD _=.agg _:=aW (aB _ 8 (bj (i:=0) rfl) rfl rfl);obtain⟨r,hr1,hr2⟩:=aB _ 9 (bj (i:=1) rfl) rfl rfl;have x2:a.tmps[9]?.getD _=aj _ 5 5:=aW hr1
   refine nZ (f:=43) (args:=#[.agg (cR c sa sc),aj (J (ai r 0 I)) 5 5]) (by clear aB aQ hr1;go_simp) ?_
   apply(Tc A c sa sc r _ (lq.below hC) hr2).mono;rintro v V' ⟨rfl,hb⟩;exact⟨_,rfl,hC.trans (hb.mono hC.size),uA hb,HE⟩
  have x3:a.tmps[10]?.getD _=.iface 357 _:=aW (aB _ 10 (bj (i:=0) rfl) rfl rfl);exact eh (c:=.iface 357 _) (by clear aB aQ;go_simp) hC rfl
 intro vals V hC hS;have v3:vals 3=.iface 357 _:=hS 3 (ar rfl);change U _ at hC
 simp only[fill,dZ];go_simp
 go_wp2;go_ret
 refine⟨_,rfl,?_,jG.trans (hC.mono jG.size)⟩;rw[jD.o];exact⟨bp (afU _) (ar rfl),aT ⟨rfl,HE.symm⟩⟩
def Tj(A:Nat->aC)(c:aX)(sa:Option aC)(sc:Nat)(w:ak)(hs:dG A w)(hE:eU w (aj sa c.az.length sc) c.az)(hS:kJ c):Calls prog 19 #[.agg (cR c sa sc)] w λv w'=>∃r,v=ax r/\mI A w' r (cJ c)/\Below w.heap.size w w':=Ti A c sa sc w hs.five hE hS
def mI.nil{f:Nat×Int}(h:mI A w r f)(h0:f.1=0):r=.nilIface:=by
 obtain⟨-,h1|⟨h1,-⟩⟩:=h
 ·rw[h1.2,h0];rfl
 omega
def mI.some{f:Nat×Int}(h:mI A w r f)(h0:f.1≠0):∃t x,r=.iface t x:=by
 obtain⟨-,h1|⟨-,b,h1,-⟩⟩:=h
 ·rw[h1.2,vQ h0];exact⟨_,_,rfl⟩
 exact⟨_,_,h1⟩
def Tk(c:aX):fK c≠[]:=by unfold fK oJ;simp[a6,kw]
def afY(A:Nat->aC)(c:aX)(sa:Option aC)(sc:Nat)(w:ak)(hs:dG A w)(hK:jN w)(hT:iR w)(hG:(max 8 11+1)<=w.heap.size)(hE:eU w (aj sa c.az.length sc) c.az)(hS:kJ c)(h0:(cJ c).1=0)
  (hO:∀(B pb:Nat) (w':ak),Below w.heap.size w w'->w.heap.size<=B->∀e∈c.az,Ml B pb w w' e) (hl:((c.az.flatMap dD).flatMap (λx=>x++[10])).length<=400000000):Calls prog 7 #[.agg (cR c sa sc)] w λe w'=>e=ax (bn #[aA ⟨(fK c).toArray⟩,.nilIface])/\Below w.heap.size w w':=by
 unfold cR;have gj:=w_ h0;have HC:U _:=Tj A c sa sc _ (hs.alloc (ay (cR c sa sc) 24)) (hE.below (aS _ _)) hS;change U _ at h0
 have HP:U (∀W,Below w.heap.size w W->Calls prog 20 #[aq (J (ai W.heap.size 0 I)),.agg (cR c sa sc)] (W.alloc (ay #[aq I,aj I 0 0,aj I 0 0] 67)) λe w'=>e=ax (bn #[])/\(∃j_,cC W.heap.size W.heap.size j_ (fK c) w')/\cd W.heap.size W.heap.size (W.alloc (ay #[aq I,aj I 0 0,aj I 0 0] 67)) w'):=λW hW=>by
  have vR:Below _ w (W.alloc (ay #[aq I,aj I 0 0,aj I 0 0] 67)):=hW.alloc hW.size _;exact ae2 _ _ _ c sa sc w _ vR hW.size (cC.new W) (hK.below vR (cK (show 8<(max 8 11+1) by decide) hG)) (hT.below vR hG) (bp hG hW.size) ⟨gj.closed.1,by have:=gj.closed.2;omega⟩ ⟨by have:=gj.opn.1;omega,by have:=gj.opn.2;omega⟩ ⟨by have:=gj.cycle.1;omega,by have:=gj.cycle.2;omega⟩ ⟨gj.bE.1,by have:=gj.bE.2;omega⟩ hE (hO _ _ _ vR hW.size) hS.hn hl
 have HS:U (∀W j_,cC W.heap.size W.heap.size j_ (fK c) W->True):=λ_ _ _=>trivial
 go_enter func7,ntmps7
 go_wp2_with fail
 refine aO HC.o ?_;rintro v W1 ⟨r,rfl,he,hb⟩;obtain rfl:=he.nil h0;have bu:U _:=(aS _ _).trans (hb.mono (by simp));have q:∀j v,(#[ae af _,ae af _,ae af _,ae af _,aj sa _ sc]:Array aw)[j]?=J v->∀o,(W1.alloc o).cell? _=J v:=λj v e o=>aJ ((aF _ _).alloc (aR _) _) (aJ hb (by rw[dr _ _ _ _ rfl];exact e))
 have q0:=q 0 _ rfl;have q1:=q 1 _ rfl;have q2:=q 2 _ rfl;have q3:=q 3 _ rfl;have q4:=q 4 _ rfl;go_wp2_with fail
 refine aO (HP.o W1 bu) ?_;rintro v W2 ⟨rfl,⟨j_,pO⟩,hf2⟩;have cB:U _:=((aF _ _).alloc (aR _) _).trans hf2.aY;have gI:U _:=Xy _ _ j_ _ W2 pO (Tk c);go_wp2_with fail
 refine aO gI.o ?_;rintro v W3 ⟨rfl,hb3⟩;go_wp2;go_ret2
 exact⟨rfl,bu.trans ((cB.trans hb3).mono bu.size)⟩
def ow.later{x:aw×Bs}(h:ow B pb pv w x)(hf:cd B pb w V):ow B pb pv V x:=
 λW l eB hp hle=>h W l (hf.trans eB) hp hle
structure fP(B pb:Nat)(pv:aw)(W:ak)(l:List UInt8)(pre:List Bs)(V:ak):Prop where
 page:cC B pb pv (l++pre.flatMap (λx=>x++[10])) V
 fr:cd B pb W V
def afZ{l:List UInt8}(h:fP B pb pv W l pre V)(k:Nat)(ws:List (aw×Bs))(hk:k<10)(hK:jN W)(hG:(max 8 11+1)<=B)(hw:∀x∈ws,ow B pb pv W x)(hb:∀x∈ws,x.2.length<=13)(hn:ws.length<=4)(hl:l.length<=500000000)(hp:(pre.flatMap (λx=>x++[10])).length<=1000000):Calls prog 47 #[aq (J (ai pb 0 I)),aj (J (ai V.heap.size 0 I)) (ws.length+1) (ws.length+1)] (V.alloc (ay (.iface 122 (ae af (k:Int))::ws.map (·.1)).toArray 20)) λv V'=>v=ax (bn #[])/\fP B pb pv W l (pre++[a6 k (ws.map (·.2))]) V':=by
 have hf:cd B pb W (V.alloc (ay (.iface 122 (ae af (k:Int))::ws.map (·.1)).toArray 20)):=h.fr.alloc h.page.2.1 _;have hlen:=xd k (ws.map (·.2)) (λx hx=>by obtain⟨y,hy,rfl⟩:=nS.1 hx;exact hb y hy) (by simpa using hn)
 refine(Hy B pb pv _ _ k ws _ (h.page.below (Below.vN _ _)) (BW ..) (by have:=h.page.lt;omega) hk (hK.below hf.aY (cK (show 8<(max 8 11+1) by decide) hG)) hG (λx hx=>(hw x hx).later hf) (by omega) (by rw[cY];omega)).mono ?_;rintro v V' ⟨rfl,h1,h2⟩
 refine⟨rfl,?_,hf.trans h2⟩;have e:l++(pre++[a6 k (ws.map (·.2))]).flatMap (λx=>x++[10])=l++pre.flatMap (λx=>x++[10])++(a6 k (ws.map (·.2))++[10]):=by
  rw[ji,gh];simp
 rw[e];exact h1
def af0(hO:tG e)(hZ:vd e){rest:List Bs}(h:dD e=pre++rest):(pre.flatMap (λx=>x++[10])).length<=1000000:=by
 have hl:=Jv hO hZ;have h1:=CT (λx:Bs=>x++[10]) 63 pre (λx hx=>by have:=hl.2 x (by rw[h];exact List.mem_append_left _ hx);simp;omega);have h2:pre.length<=122:=by have:=hl.1;rw[h,cY]at this;omega
 have h3:pre.length*63<=122*63:=CM _ h2;omega
def Mv{α β:Type}(f:α->β)(l:List α)(k:Nat)(r:List β):(l.take k).map f++((l.drop k).map f++r)=l.map f++r:=by rw[<- gh,<- lC,rf]
def af1(e:aM):List Bs:=(if e.cnt=-1 then []else [a6 5 [pt e.au e.cnt,num e.mn,num e.mx]]) ++
  (e.aV.map (λg=>a6 6 [pt e.au g.fr,pt e.au g.to,num g.mn,num g.mx])++(e.aP.map (λd=>a6 7 [pt e.au d.1,pt e.au d.2]) ++
   (e.first.map (λx=>a6 8 [pt e.au x])++e.last.map (λx=>a6 9 [pt e.au x]))))
def EE(e:aM):List Bs:=e.aV.map (λg=>a6 6 [pt e.au g.fr,pt e.au g.to,num g.mn,num g.mx])++(e.aP.map (λd=>a6 7 [pt e.au d.1,pt e.au d.2]) ++
   (e.first.map (λx=>a6 8 [pt e.au x])++e.last.map (λx=>a6 9 [pt e.au x])))
def af2(e:aM)(k:Nat):dD e=(a6 3 [bl e.name,num e.bh]::(e.au.take k).map (λp=>a6 4 [bl p]))++((e.au.drop k).map (λp=>a6 4 [bl p])++af1 e):=by
 rw[pY,<- gh,<- lC,rf];rfl
def af3(B pb:Nat)(e:aM)(w0 w:ak)(hb0:Below w0.heap.size w0 w)(hw0:w0.heap.size<=B)(hO:tG e)(hZ:vd e)(hK:jN w)(hT:iR w)(hG:(max 8 11+1)<=B):Ml B pb w0 w e:=by
 intro W l pv pa ga ea fa la pc gc ec fc lc eB hp hl fO;unfold nU;have jG:U (∀V,Below B W V->Below _ w0 V):=λV hV=>hb0.trans ((eB.aY.trans hV).mono hw0)
 have Tl:=hK.below eB.aY (cK (show 8<(max 8 11+1) by decide) hG);have Tm:=hT.below eB.aY hG;have Mw:∀p∈e.au,p.size<=1000000:=λp hp=>by
  have:=xb (hO.pn p hp);have e1:(bl p).length=p.size:=by unfold bl;rw[pj];rfl
  omega
 have Tn:U (ow B pb (aj pa e.au.length pc) W (.iface 9 _,bl e.name)/\(∀p∈e.au,ow B pb (aj pa e.au.length pc) W _)):=⟨SR _ (by
  have:=xb hO.name;have e1:(bl e.name).length=e.name.size:=by unfold bl;rw[pj];rfl
  omega),λp hp=>SR _ (Mw p hp)⟩
 have EF:U (∀n:Int,0<=n->n<=1099511627776->ow B pb (aj pa e.au.length pc) W _):=λn h0 h1=>Ex n h0 h1 Tm hG
 have zQ:U (∀x:Int,0<=x->x<(e.au.length:Int)->ow B pb _ W _):=λx h0 h1=>ae1 x (λV hV=>fO.hp.below (jG V hV)) h0 h1 Mw
 have kR:U (∀(OP V:ak) (pre:List Bs) (k:Nat) (ws:List _),cd B pb W OP->fP B pb _ OP l pre V->k<10->(∀x∈ws,ow B pb _ W x/\x.2.length<=13)->ws.length<=4->(pre.flatMap _).length<=1000000->Calls _ 47 _ _ λv V'=>v=ax _/\fP B pb (aj pa e.au.length pc) OP l _ V'):=
  λU V pre k ws hU h hk hw hn hp=>afZ h k ws hk (Tl.below hU.aY (cK (show 8<(max 8 11+1) by decide) hG)) hG (λx hx=>((hw x hx).1).later hU) (λx hx=>(hw x hx).2) hn hl hp
 have fk:U (tG e/\vd e):=⟨hO,hZ⟩;have uC:U _:=λV hV=>fO.below (jG V hV)
 have Tp:U (pb<W.heap.size/\B<=W.heap.size):=⟨hp.lt,hp.2.1⟩;have HP:U (cC B pb pv l W):=hp;clear hb0 hw0 hO hZ hK hT hG eB hp hl fO Tl Tm Mw;go_enter func48,ntmps48
 go_upto_region 1 with fail
 obtain⟨W0,hW0⟩:∃V,V=W.alloc (ay (eR e pa pc ga gc ea ec fa fc la lc) 58):=⟨_,rfl⟩;rw[<- hW0];have jn:U (cd B pb W W0):=by show cd _ _ _ _;rw[hW0];exact(cd.refl B pb W).alloc Tp.2 _
 have zL:U (cC B pb pv l W0):=by show cC _ _ _ _ _;rw[hW0];exact HP.below (Below.vN _ _)
 have gN:U (∀V,cd B pb W0 V->∀(j:Nat) u,((eR e pa pc ga gc ea ec fa fc la lc):Array _)[j]?=J u->V.cell? (ai W.heap.size j I)=J u):=λV hV j u hu=>by
  have hb:=hV.box (by rw[hW0];exact BW W _ _) (by have:=Tp.1;omega) (ar rfl);simp[aH,hb,hu]
 clear hW0;have x2:W0.cell? _=J (aj pa _ pc):=gN W0 (cd.refl ..) 2 _ rfl;obtain⟨-,-,pp,vv,-,hrow,-⟩:=id zL.o;have q2:W0.cell? (ai pb 2 I)=J pv:=by simp[aH,hrow]
 have f2:W0.frozen? (ai pb 2 I)=false:=by simp[bM,hrow]
 clear hrow;go_upto_region 2 with fail
 obtain⟨W1,hW1⟩:∃V,V=W0.setCell (ai pb 2 I) (aj pa e.au.length pc):=⟨_,rfl⟩;rw[<- hW1];have om:U (cd B pb W0 W1):=by show cd _ _ _ _;rw[hW1];exact(zL.Pw _).2
 have BL:U (fP B pb _ W0 l [] W1):=⟨by simpa[hW1]using(zL.Pw (aj pa e.au.length pc)).1,om⟩;clear hW1 x2 q2 f2 zL;have vw:U (∀pre rest:List Bs,dD e=pre++rest->(pre.flatMap _).length<=1000000):=λpre rest h=>af0 fk.1 fk.2 h
 have x0:W1.cell? _=J (aA _):=gN W1 om 0 _ rfl;have x1:W1.cell? _=J (ae af _):=gN W1 om 1 _ rfl;have HC:U (Calls _ 47 #[aq _,aj _ 3 3] (W1.alloc (ay #[.iface 122 (ae af 3),.iface 9 _,.iface 3 _] 20)) λv V'=>v=ax _/\fP B pb _ W0 l ([]++[a6 3 [bl _,num _]]) V'):=
  kR W0 W1 [] 3 [(.iface 9 (aA e.name),bl e.name),(.iface 3 (ae af e.bh),num e.bh)] jn BL (ar rfl) (λx hx=>by
   simp only[fe,jL,j4]at hx
   rcases hx with rfl|rfl
   ·exact⟨Tn.1,xb fk.1.name⟩
   have:=fk.1.bh;exact⟨EF _ (by omega) (by omega),mG (by omega)⟩) (by simp) (by simp)
 go_wp2_with fail
 refine aO HC.o ?_;rintro v W2 ⟨rfl,nG⟩;have Mx:U (fP B pb _ W0 l (a6 3 _::(e.au.take 0).map (λp=>a6 4 [bl p])) W2):=nG;clear nG HC x0 x1 BL om;have x2:W2.cell? _=J (aj pa _ pc):=gN W2 Mx.fr 2 _ rfl;go_wp2_with fail
 clear x2
 go_loopw [5,32] (λ_ i wr=>∃k:Nat,k<=e.au.length/\i=ae af k/\fP B pb (aj pa e.au.length pc) W0 l (a6 3 [bl e.name,num e.bh]::(e.au.take k).map (λp=>a6 4 [bl p])) wr) (λ_ i _=>e.au.length-(intOf i).toNat)
 case atStart=>exact⟨0,bA _,rfl,Mx⟩
 case round=>
  clear Mx;obtain⟨k,hk,rfl,hi⟩:=hrel;have HI:U _:=hi;clear hi
  by_cases hlt:k<e.au.length
  ·obtain⟨q,hq⟩:∃q,e.au[k]?=J q:=⟨_,bq hlt⟩;obtain⟨bQ,cap',bH,-,hcc⟩:=(uC wr (jn.trans HI.fr).aY).hp
   cases bH
   obtain⟨b,o,rfl,hc0⟩:=hcc (λh=>by rw[h]at hq;simp at hq);have c0:wr.cell? ⟨b,o+k,I⟩=J (aA q):=by have:=hc0 k q hq 0 _ rfl;simpa using this
   have HC:U (Calls _ 47 #[aq _,aj _ 2 2] (wr.alloc (ay #[.iface 122 (ae af 4),.iface 9 _] 20)) λv V'=>v=ax _/\fP B pb _ W0 l ((a6 3 _::(e.au.take k).map _)++[a6 4 [bl q]]) V'):=
    kR W0 wr _ 4 [(.iface 9 (aA q),bl q)] jn HI (ar rfl) (λx hx=>by
     simp only[g_]at hx;subst hx;exact⟨Tn.2 q (bP hq),xb (fk.1.pn q (bP hq))⟩) (by simp) (vw _ _ (af2 e k))
   have k1:(k:Int)<(e.au.length:Int):=by omega
   have k0:k<100:=by have:=fk.2.au;omega
   clear hcc hc0;change U _ at hq;go_wp2_with fail
   refine aO HC.o ?_;rintro v W3 ⟨rfl,oy⟩;have HR:U (fP B pb (aj (J (ai b o I)) e.au.length pc) W0 l (a6 3 [bl e.name,num e.bh]::(e.au.take (k+1)).map (λp=>a6 4 [bl p])) W3):=by
    have e1:(e.au.take (k+1)).map (λp=>a6 4 [bl p])=(e.au.take k).map (λp=>a6 4 [bl p])++[a6 4 [bl q]]:=by rw[eI,hq.o];simp
    show fP _ _ _ _ _ _ _
    rw[e1];exact oy
   clear oy HC;go_wp2;go_roundw
   case rel=>exact⟨_,by omega,by go_num,HR⟩
   case measure=>simp[intOf];omega
  have k1:¬(k:Int)<(e.au.length:Int):=by omega
  obtain rfl:k=e.au.length:=by omega
  have EG:U (fP B pb (aj pa e.au.length pc) W0 l (a6 3 [bl e.name,num e.bh]::e.au.map (λp=>a6 4 [bl p])) wr):=by have:=HI.o;rw[mL]at this;exact this
  clear HI;obtain⟨z,hz⟩:∃z,z=e.cnt:=⟨_,rfl⟩;have x3:wr.cell? (ai W.heap.size 3 I)=J (ae af z):=by rw[hz];exact gN wr EG.fr 3 _ rfl
  change U _ at hz
  have x4:wr.cell? _=J (ae af _):=gN wr EG.fr 4 _ rfl;have x5:wr.cell? _=J (ae af _):=gN wr EG.fr 5 _ rfl;go_upto_if 45 with fail
  go_cut [44,45,58] (λ_ _ _ wx=>∃base:List Bs,dD e=base++EE e/\fP B pb (aj pa e.au.length pc) W0 l base wx)
  case first=>
   by_cases hc:z=-1
   ·have H9:U (dD e=(a6 3 [bl e.name,num e.bh]::e.au.map (λp=>a6 4 [bl p]))++EE e):=by show _=_;have hc:=hc;rw[hz.o]at hc;simp[dD,EE,hc]
    go_wp2
    go_meet
    case rel=>exact⟨_,H9,EG⟩
   have H9:U (dD e=((a6 3 [bl e.name,num e.bh]::e.au.map (λp=>a6 4 [bl p]))++[a6 5 [pt e.au e.cnt,num e.mn,num e.mx]])++EE e):=by show _=_;have hc:=hc;rw[hz.o]at hc;simp[dD,EE,hc]
   have HC:U (Calls prog 47 #[aq (J (ai pb 0 I)),aj (J (ai wr.heap.size 0 I)) 4 4] (wr.alloc (ay #[.iface 122 (ae af 5),.iface 164 (ae af z),.iface 3 (ae af e.mn),.iface 3 (ae af e.mx)] 20)) λv V'=>v=ax (bn #[])/\fP B pb (aj pa e.au.length pc) W0 l ((a6 3 [bl e.name,num e.bh]::e.au.map (λp=>a6 4 [bl p]))++[a6 5 [pt e.au e.cnt,num e.mn,num e.mx]]) V'):=by
    rw[hz.o];exact kR W0 wr _ 5 [(.iface 164 _,pt _ _),(.iface 3 _,num _),(.iface 3 _,num _)] jn EG (ar rfl) (λx hx=>by
     have hm:=fk.1.mm;have hq:0<=e.cnt/\e.cnt<(e.au.length:Int):=by rcases fk.1.cnt with h|h;exact absurd (hz.trans h.1) hc;exact h
     simp only[fe,jL,j4]at hx
     rcases hx with rfl|rfl|rfl
     ·exact⟨zQ _ hq.1 hq.2,xc fk.1.pn _⟩
     ·exact⟨EF _ (by omega) (by omega),mG (by omega)⟩
     exact⟨EF _ (by omega) (by omega),mG (by omega)⟩) (by simp) (vw _ _ (by rw[H9.o,gh]))
   go_wp2_with fail
   refine aO HC.o ?_;rintro v W3 ⟨rfl,(oy:U _)⟩;go_wp2
   go_meet
   case rel=>exact⟨_,H9,oy⟩
  obtain⟨base,hbase,o0⟩:=hcut;rename ak=>W4
  have My:U _:=hbase;have HI:U _:=o0;clear hbase o0;have x9:W4.cell? _=J (aj ga _ gc):=gN W4 HI.fr 6 _ rfl;go_wp2_with fail
  clear x9
  go_loopw [7,62] (λ_ i wr=>∃k:Nat,k<=e.aV.length/\i=ae af k/\fP B pb (aj pa e.au.length pc) W0 l (base++(e.aV.take k).map (λx=>a6 6 [pt e.au x.fr,pt e.au x.to,num x.mn,num x.mx])) wr) (λ_ i _=>e.aV.length-(intOf i).toNat)
  case atStart=>exact⟨0,bA _,rfl,by simpa using HI.o⟩
  case round=>
   clear HI;obtain⟨k,hk,rfl,hi⟩:=hrel;have HI:U _:=hi;clear hi
   by_cases hlt:k<e.aV.length
   ·obtain⟨q,hq⟩:∃q,e.aV[k]?=J q:=⟨_,bq hlt⟩;obtain⟨bQ,cap',bH,-,hcc⟩:=(uC wr (jn.trans HI.fr).aY).hg
    cases bH
    obtain⟨b,o,rfl,hc0⟩:=hcc (λh=>by rw[h]at hq;simp at hq);have c0:wr.cell? ⟨b,o+k*4,_⟩=J _:=hc0 k q hq 0 _ rfl;have c1:=hc0 k q hq 1 _ rfl;have c2:=hc0 k q hq 2 _ rfl;have c3:=hc0 k q hq 3 _ rfl;change U _ at hq
    have k1:(k:Int)<(e.aV.length:Int):=by omega
    have k0:k<100:=by have:=fk.2.aV;omega
    clear hcc hc0;go_upto_region 13 with fail
    obtain⟨V1,hV1⟩:∃V,V=wr.alloc (ay #[ae af q.fr,ae af q.to,ae af q.mn,ae af q.mx] 73):=⟨_,rfl⟩;rw[<- hV1];have HV:U (fP B pb (aj pa e.au.length pc) W0 l (base++(e.aV.take k).map (λx=>a6 6 [pt e.au x.fr,pt e.au x.to,num x.mn,num x.mx])) V1):=by
     have hb:Below wr.heap.size wr V1:=by rw[hV1];exact Below.vN _ _
     exact⟨HI.page.below hb,HI.fr.trans (cd.dm HI.page hb)⟩
    have d0:V1.cell? (ai wr.heap.size 0 I)=J (ae af q.fr):=by rw[hV1,dr _ _ _ _ rfl];rfl
    have d1:V1.cell? (ai wr.heap.size 1 I)=J (ae af q.to):=by rw[hV1,dr _ _ _ _ rfl];rfl
    have d2:V1.cell? (ai wr.heap.size 2 I)=J (ae af q.mn):=by rw[hV1,dr _ _ _ _ rfl];rfl
    have d3:V1.cell? (ai wr.heap.size 3 I)=J (ae af q.mx):=by rw[hV1,dr _ _ _ _ rfl];rfl
    clear hV1 c0 c1 c2 c3;have HC:U (Calls _ 47 #[aq _,aj _ 5 5] (V1.alloc (ay #[.iface 122 (ae af 6),.iface 164 _,.iface 164 _,.iface 3 _,.iface 3 _] 20)) λv V'=>v=ax _/\fP B pb _ W0 l ((base++(e.aV.take k).map _)++[a6 6 [pt _ _,pt _ _,num _,num _]]) V'):=
     kR W0 V1 _ 6 [(.iface 164 (ae af q.fr),pt e.au q.fr),(.iface 164 (ae af q.to),pt e.au q.to),(.iface 3 (ae af q.mn),num q.mn),(.iface 3 (ae af q.mx),num q.mx)] jn HV (ar rfl) (λx hx=>by
      have hb:=fk.1.aV q (bP hq.o);simp only[fe,jL,j4]at hx
      rcases hx with rfl|rfl|rfl|rfl
      ·exact⟨zQ _ hb.1.1 hb.1.2,xc fk.1.pn _⟩
      ·exact⟨zQ _ hb.2.1.1 hb.2.1.2,xc fk.1.pn _⟩
      ·exact⟨EF _ (by omega) (by omega),mG (by omega)⟩
      exact⟨EF _ (by omega) (by omega),mG (by omega)⟩) (by simp) (vw _ (((e.aV.drop k).map (λx=>a6 6 [pt e.au x.fr,pt e.au x.to,num x.mn,num x.mx]))++(e.aP.map (λd=>a6 7 [pt e.au d.1,pt e.au d.2])++(e.first.map (λx=>a6 8 [pt e.au x])++e.last.map (λx=>a6 9 [pt e.au x])))) (by rw[My.o,gh,Mv];rfl))
    go_wp2_with fail
    refine aO HC.o ?_;rintro v W9 ⟨rfl,oy⟩;have HR:U (fP B pb (aj pa e.au.length pc) W0 l (base++(e.aV.take (k+1)).map (λx=>a6 6 [pt e.au x.fr,pt e.au x.to,num x.mn,num x.mx])) W9):=by
     have e1:(e.aV.take (k+1)).map (λx=>a6 6 [pt e.au x.fr,pt e.au x.to,num x.mn,num x.mx])=(e.aV.take k).map (λx=>a6 6 [pt e.au x.fr,pt e.au x.to,num x.mn,num x.mx])++[a6 6 [pt e.au q.fr,pt e.au q.to,num q.mn,num q.mx]]:=by rw[eI,hq.o];simp
     show fP _ _ _ _ _ _ _
     rw[e1,<- gh];exact oy
    clear oy HC;go_wp2;go_roundw
    case rel=>exact⟨_,by omega,by go_num,HR⟩
    case measure=>simp[intOf];omega
   have k1:¬(k:Int)<(e.aV.length:Int):=by omega
   obtain rfl:k=e.aV.length:=by omega
   obtain⟨H_,hbase,o0⟩:∃zs,dD e=zs++(e.aP.map _++(e.first.map _++e.last.map _))/\fP B pb _ W0 l zs wr:=⟨_,by rw[My.o,gh];rfl,by have:=HI.o;rw[mL]at this;exact this⟩;clear HI My;have Mz:U _:=hbase;have HI:U _:=o0;clear hbase o0;have x9:wr.cell? _=J (aj ea _ ec):=gN wr HI.fr 7 _ rfl;go_wp2_with fail
   clear x9
   go_loopw [9,86] (λ_ i wr=>∃k:Nat,k<=e.aP.length/\i=ae af k/\fP B pb (aj pa e.au.length pc) W0 l (H_++(e.aP.take k).map (λx=>a6 7 [pt e.au x.1,pt e.au x.2])) wr) (λ_ i _=>e.aP.length-(intOf i).toNat)
   case atStart=>exact⟨0,bA _,rfl,by simpa using HI.o⟩
   case round=>
    clear HI;obtain⟨k,hk,rfl,hi⟩:=hrel;have HI:U _:=hi;clear hi
    by_cases hlt:k<e.aP.length
    ·obtain⟨q,hq⟩:∃q,e.aP[k]?=J q:=⟨_,bq hlt⟩;obtain⟨bQ,cap',bH,-,hcc⟩:=(uC wr (jn.trans HI.fr).aY).he
     cases bH
     obtain⟨b,o,rfl,hc0⟩:=hcc (λh=>by rw[h]at hq;simp at hq);have c0:wr.cell? ⟨b,o+k*2,_⟩=J _:=hc0 k q hq 0 _ rfl;have c1:=hc0 k q hq 1 _ rfl;change U _ at hq
     have k1:(k:Int)<(e.aP.length:Int):=by omega
     have k0:k<100:=by have:=fk.2.aP;omega
     clear hcc hc0;go_upto_region 18 with fail
     obtain⟨V1,hV1⟩:∃V,V=wr.alloc (ay #[ae af q.1,ae af q.2] 74):=⟨_,rfl⟩;rw[<- hV1];have HV:U (fP B pb (aj pa e.au.length pc) W0 l (H_++(e.aP.take k).map (λx=>a6 7 [pt e.au x.1,pt e.au x.2])) V1):=by
      have hb:Below wr.heap.size wr V1:=by rw[hV1];exact Below.vN _ _
      exact⟨HI.page.below hb,HI.fr.trans (cd.dm HI.page hb)⟩
     have d0:V1.cell? (ai wr.heap.size 0 I)=J (ae af q.1):=by rw[hV1,dr _ _ _ _ rfl];rfl
     have d1:V1.cell? (ai wr.heap.size 1 I)=J (ae af q.2):=by rw[hV1,dr _ _ _ _ rfl];rfl
     clear hV1 c0 c1;have HC:U (Calls _ 47 #[aq _,aj _ 3 3] (V1.alloc (ay #[.iface 122 (ae af 7),.iface 164 _,.iface 164 _] 20)) λv V'=>v=ax _/\fP B pb _ W0 l ((H_++(e.aP.take k).map _)++[a6 7 [pt _ q.1,pt _ q.2]]) V'):=
      kR W0 V1 _ 7 [(.iface 164 (ae af q.1),pt e.au q.1),(.iface 164 (ae af q.2),pt e.au q.2)] jn HV (ar rfl) (λx hx=>by
       have hb:=fk.1.aP q (bP hq.o);simp only[fe,jL,j4]at hx
       rcases hx with rfl|rfl
       ·exact⟨zQ _ hb.1.1 hb.1.2,xc fk.1.pn _⟩
       exact⟨zQ _ hb.2.1 hb.2.2,xc fk.1.pn _⟩) (by simp) (vw _ (((e.aP.drop k).map (λx=>a6 7 [pt e.au x.1,pt e.au x.2]))++(e.first.map (λx=>a6 8 [pt e.au x])++e.last.map (λx=>a6 9 [pt e.au x]))) (by rw[Mz.o,gh,Mv]))
     go_wp2_with fail
     refine aO HC.o ?_;rintro v W9 ⟨rfl,oy⟩;have HR:U (fP B pb (aj pa e.au.length pc) W0 l (H_++(e.aP.take (k+1)).map (λx=>a6 7 [pt e.au x.1,pt e.au x.2])) W9):=by
      have e1:(e.aP.take (k+1)).map (λx=>a6 7 [pt e.au x.1,pt e.au x.2])=(e.aP.take k).map (λx=>a6 7 [pt e.au x.1,pt e.au x.2])++[a6 7 [pt e.au q.1,pt e.au q.2]]:=by rw[eI,hq.o];simp
      show fP _ _ _ _ _ _ _
      rw[e1,<- gh];exact oy
     clear oy HC;go_wp2;go_roundw
     case rel=>exact⟨_,by omega,by go_num,HR⟩
     case measure=>simp[intOf];omega
    have k1:¬(k:Int)<(e.aP.length:Int):=by omega
    obtain rfl:k=e.aP.length:=by omega
    obtain⟨MA,hbase,o0⟩:∃zs,dD e=zs++(e.first.map _++e.last.map _)/\fP B pb _ W0 l zs wr:=⟨_,by rw[Mz.o,gh],by have:=HI.o;rw[mL]at this;exact this⟩;clear HI Mz;have MB:U _:=hbase;have HI:U _:=o0;clear hbase o0;have x9:wr.cell? _=J (aj fa _ fc):=gN wr HI.fr 8 _ rfl;go_wp2_with fail
    clear x9
    go_loopw [11,104] (λ_ i wr=>∃k:Nat,k<=e.first.length/\i=ae af k/\fP B pb (aj pa e.au.length pc) W0 l (MA++(e.first.take k).map (λx=>a6 8 [pt e.au x])) wr) (λ_ i _=>e.first.length-(intOf i).toNat)
    case atStart=>exact⟨0,bA _,rfl,by simpa using HI.o⟩
    case round=>
     clear HI;obtain⟨k,hk,rfl,hi⟩:=hrel;have HI:U _:=hi;clear hi
     by_cases hlt:k<e.first.length
     ·obtain⟨q,hq⟩:∃q,e.first[k]?=J q:=⟨_,bq hlt⟩;obtain⟨bQ,cap',bH,-,hcc⟩:=(uC wr (jn.trans HI.fr).aY).hf
      cases bH
      obtain⟨b,o,rfl,hc0⟩:=hcc (λh=>by rw[h]at hq;simp at hq);have c0:wr.cell? ⟨b,o+k,I⟩=J (ae af q):=by have:=hc0 k q hq 0 _ rfl;simpa using this
      change U _ at hq
      have k1:(k:Int)<(e.first.length:Int):=by omega
      have k0:k<100:=by have:=fk.2.first;omega
      clear hcc hc0;have HC:U (Calls _ 47 #[aq _,aj _ 2 2] (wr.alloc (ay #[.iface 122 (ae af 8),.iface 164 _] 20)) λv V'=>v=ax _/\fP B pb _ W0 l ((MA++(e.first.take k).map _)++[a6 8 [pt _ q]]) V'):=
       kR W0 wr _ 8 [(.iface 164 (ae af q),pt e.au q)] jn HI (ar rfl) (λx hx=>by
        have hb:=fk.1.first q (bP hq.o);simp only[fe,jL,j4]at hx
        rcases hx with rfl
        ·exact⟨zQ _ hb.1 hb.2,xc fk.1.pn _⟩) (by simp) (vw _ (((e.first.drop k).map (λx=>a6 8 [pt e.au x]))++e.last.map (λx=>a6 9 [pt e.au x])) (by rw[MB.o,gh,Mv]))
      go_wp2_with fail
      refine aO HC.o ?_;rintro v W9 ⟨rfl,oy⟩;have HR:U (fP B pb (aj pa e.au.length pc) W0 l (MA++(e.first.take (k+1)).map (λx=>a6 8 [pt e.au x])) W9):=by
       have e1:(e.first.take (k+1)).map (λx=>a6 8 [pt e.au x])=(e.first.take k).map (λx=>a6 8 [pt e.au x])++[a6 8 [pt e.au q]]:=by rw[eI,hq.o];simp
       show fP _ _ _ _ _ _ _
       rw[e1,<- gh];exact oy
      clear oy HC;go_wp2;go_roundw
      case rel=>exact⟨_,by omega,by go_num,HR⟩
      case measure=>simp[intOf];omega
     have k1:¬(k:Int)<(e.first.length:Int):=by omega
     obtain rfl:k=e.first.length:=by omega
     obtain⟨MC,hbase,o0⟩:∃zs,dD e=zs++e.last.map _/\fP B pb _ W0 l zs wr:=⟨_,by rw[MB.o,gh],by have:=HI.o;rw[mL]at this;exact this⟩;clear HI MB;have MD:U _:=hbase;have HI:U _:=o0;clear hbase o0;have x9:wr.cell? _=J (aj la _ lc):=gN wr HI.fr 9 _ rfl;go_wp2_with fail
     clear x9
     go_loopw [13,118] (λ_ i wr=>∃k:Nat,k<=e.last.length/\i=ae af k/\fP B pb (aj pa e.au.length pc) W0 l (MC++(e.last.take k).map (λx=>a6 9 [pt e.au x])) wr) (λ_ i _=>e.last.length-(intOf i).toNat)
     case atStart=>exact⟨0,bA _,rfl,by simpa using HI.o⟩
     case round=>
      clear HI;obtain⟨k,hk,rfl,(hi:U _)⟩:=hrel
      by_cases hlt:k<e.last.length
      ·obtain⟨q,hq⟩:∃q,e.last[k]?=J q:=⟨_,bq hlt⟩;obtain⟨bQ,cap',bH,-,hcc⟩:=(uC wr (jn.trans hi.fr).aY).hl
       cases bH
       obtain⟨b,o,rfl,hc0⟩:=hcc (λh=>by rw[h]at hq;simp at hq);have c0:wr.cell? ⟨b,o+k,I⟩=J (ae af q):=by have:=hc0 k q hq 0 _ rfl;simpa using this
       change U _ at hq
       have k1:(k:Int)<(e.last.length:Int):=by omega
       have k0:k<100:=by have:=fk.2.last;omega
       clear hcc hc0;have HC:U (Calls _ 47 #[aq _,aj _ 2 2] (wr.alloc (ay #[.iface 122 (ae af 9),.iface 164 _] 20)) λv V'=>v=ax _/\fP B pb _ W0 l ((MC++(e.last.take k).map _)++[a6 9 [pt _ q]]) V'):=
        kR W0 wr _ 9 [(.iface 164 (ae af q),pt e.au q)] jn hi (ar rfl) (λx hx=>by
         have hb:=fk.1.last q (bP hq.o);simp only[fe,jL,j4]at hx
         rcases hx with rfl
         ·exact⟨zQ _ hb.1 hb.2,xc fk.1.pn _⟩) (by simp) (vw _ ((e.last.drop k).map (λx=>a6 9 [pt e.au x])) (by rw[MD.o,gh,<- lC,rf]))
       go_wp2_with fail
       refine aO HC.o ?_;rintro v W9 ⟨rfl,oy⟩;have HR:U (fP B pb (aj pa e.au.length pc) W0 l (MC++(e.last.take (k+1)).map (λx=>a6 9 [pt e.au x])) W9):=by
        have e1:(e.last.take (k+1)).map (λx=>a6 9 [pt e.au x])=(e.last.take k).map (λx=>a6 9 [pt e.au x])++[a6 9 [pt e.au q]]:=by rw[eI,hq.o];simp
        show fP _ _ _ _ _ _ _
        rw[e1,<- gh];exact oy
       clear oy HC;go_wp2;go_roundw
       case rel=>exact⟨_,by omega,by go_num,HR⟩
       case measure=>simp[intOf];omega
      have k1:¬(k:Int)<(e.last.length:Int):=by omega
      obtain rfl:k=e.last.length:=by omega
      obtain⟨af4,hbase,o0⟩:∃zs,dD e=zs++[]/\fP B pb _ W0 l zs wr:=⟨_,by rw[MD.o,pk],by have:=hi.o;rw[mL]at this;exact this⟩;clear hi MD;have HB:U (dD e=af4):=by show _=_;rw[hbase,pk]
      change U _ at o0
      clear hbase;go_wp2;go_end0
      exact⟨rfl,⟨_,by rw[HB.o];exact o0.page⟩,jn.trans o0.fr⟩
def Tq(A:Nat->aC)(c:aX)(sa:Option aC)(sc:Nat)(w:ak)(hs:dG A w)(hK:jN w)(hT:iR w)(hG:(max 8 11+1)<=w.heap.size)(hE:eU w (aj sa c.az.length sc) c.az)(hS:kJ c)(h0:(cJ c).1=0):Calls prog 7 #[.agg (cR c sa sc)] w λe w'=>e=ax (bn #[aA ⟨(fK c).toArray⟩,.nilIface])/\Below w.heap.size w w':=
 afY A c sa sc w hs hK hT hG hE hS h0 (λB pb w' hb hB e he=>af3 B pb e w w' hb hB ((w_ h0).az e he) (FQ h0 e he)
  (hK.below hb (cK (show 8<(max 8 11+1) by decide) hG)) (hT.below hb hG) (bp hG hB)) (FR h0)
def Tr{b:UInt8}(h:iN b=true):48<=b.toNat/\b.toNat<=57:=by
 unfold iN at h;simp only[uY,uW]at h;exact h
def Tt{w:Bs}(h:k<w.length):ni (w.take (k+1))=ni (w.take k)*10+((w.getD k 0).toNat-48):=by
 rw[eI,bq h];simp only[Option.toList_some];rw[OS,fp,bq h];rfl
def Tv{w:Bs}:∀k,k<=w.length->(∀j,j<k->iN (w.getD j 0)=true)->ni (w.take k)<10^k
 |0,_,_=>by simp[ni]
 |k+1,h,hd=>by
  rw[Tt (by omega)];have h1:=Tr (hd k (by omega));have h2:=Tv k (by omega) (λj hj=>hd j (by omega));rw[Nat.pow_succ];omega
def af5{w:Bs}(h:13<w.length):numOf w=I:=by unfold numOf;rw[aU (aN (aT h))]
def af6{w:Bs}(h:1<w.length)(h0:w.getD 0 0=48):numOf w=I:=by
 have:w.head?=J 48:=by cases w with
  |nil=>simp at h
  |cons a t=>simp at h0;simp[h0]
 unfold numOf;rw[aU (aN (aN (aT ⟨h,this⟩)))]
def af7{w:Bs}(hk:k<w.length)(h:iN (w.getD k 0)=false):numOf w=I:=by
 have:w.all iN=false:=by
  rw[List.all_eq_false]
  refine⟨w[k],uZ hk,?_⟩;rw[fp,bq hk]at h;simpa using h
 unfold numOf;rw[aU (aN (aN (aN this)))]
def af8{w:Bs}(h1:0<w.length)(h2:w.length<=13)(h3:¬(1<w.length/\w.getD 0 0=48))(h:∀j,j<w.length->iN (w.getD j 0)=true):numOf w=J (ni w):=by
 have ha:w.all iN=true:=by
  rw[u5];intro b hb;obtain⟨j,hj,rfl⟩:=su hb;have:=h j hj;rw[fp,bq hj]at this;exact this
 unfold numOf;rw[aK];rintro(h'|h'|⟨h',Tw⟩|h')
 ·omega
 ·omega
 ·exact h3 ⟨h',by cases w with
   |nil=>simp at h'
   |cons a t=>simp at Tw;simp[Tw]⟩
 rw[ha]at h';cases h'
def dY(s:ByteArray):(bl s).length=s.size:=by unfold bl;rw[pj];rfl
def af9(s:ByteArray)(w:ak)(h1:1<=s.size)(hs:s.size<=1000000):Calls prog 300 #[aA s] w λe w'=>e=ax (bn #[ae af (((numOf (bl s)).getD 0:Nat):Int),aL (numOf (bl s)).isSome])/\Below w.heap.size w w':=by
 by_cases oz:13<s.size
 ·have HN:U _:=af5 (by rw[dY];exact oz);have g1:13<(s.size:Int):=by omega
  go_enter func300,ntmps300
  go_wp2;go_ret2
  rw[HN.o];exact⟨rfl,aF _ _⟩
 have g1:¬13<(s.size:Int):=by omega
 have k0:(0:Int)<(s.size:Int):=by omega
 have hb0:∀h:0<s.size,s[0]'h=(bl s)[0]?.getD 0:=λh=>by rw[byte_at s 0 h,fp];rfl
 have hgd:(bl s).getD 0 0=(bl s)[0]?.getD 0:=fp
 by_cases hz:1<s.size/\(bl s)[0]?.getD 0=48
 ·have HN:U _:=af6 (by rw[dY];exact hz.1) (by rw[hgd];exact hz.2);have g2:1<(s.size:Int):=by omega
  have g3:(((bl s)[0]?.getD 0).toNat:Int)=48:=by rw[hz.2];rfl
  clear hz hgd;go_enter func300,ntmps300
  go_wp2;go_ret2
  rw[HN.o];exact⟨rfl,aF _ _⟩
 have HZ:U (1<=s.size/\s.size<=13):=⟨h1,by omega⟩;have HE:U (∀k,k<s.size->iN _=false->numOf _=I):=λk h2 h3=>af7 (by rw[dY];exact h2) h3
 have HY:U ((∀j,j<s.size->iN _=true)->numOf _=J _):=λh=>af8 (by rw[dY];exact h1) (by rw[dY];omega) (by rw[dY,hgd];exact hz) (by rw[dY];exact h)
 have HV:U (∀k,k<s.size->(∀j,j<k->iN _=true)->ni ((bl s).take k)<1000000000000/\ni _=ni _*10+(((bl s).getD k 0).toNat-48)):=λk hk hd=>⟨cK (Tv k (by rw[dY];omega) hd) (AR (ar rfl) (show k<=12 by omega)),Tt (by rw[dY];exact hk)⟩
 have hq:((((bl s)[0]?.getD 0).toNat:Int)=48/\¬1<(s.size:Int))\/¬(((bl s)[0]?.getD 0).toNat:Int)=48:=by
  by_cases q:(((bl s)[0]?.getD 0).toNat:Int)=48
  ·refine aT ⟨q,λh=>hz ⟨by omega,?_⟩⟩;apply UInt8.toNat_inj.1
   show _=48
   omega
  exact aN q
 obtain⟨cap,W,hcv,qx,hcell⟩:=Sp w s;have af_:U (∀j,j<s.size->W.cell? _=J (ae .u8 (((bl s).getD j 0).toNat:Int))):=hcell;change U _ at qx
 clear hcell hz hgd h1 hs oz
 rcases hq with⟨q1,q2⟩|q1
 all_goals
  go_enter func300,ntmps300
  go_wp2_with fail
  go_loopw [4,6,23] (λm _ i wr=>∃k:Nat,k<=s.size/\i=ae af k/\m=ae af (ni ((bl s).take k):Nat)/\wr=W/\∀j,j<k->iN ((bl s).getD j 0)=true) (λ_ _ i _=>s.size-(intOf i).toNat)
  case atStart=>exact⟨0,bA _,rfl,rfl,rfl,λj hj=>absurd hj (oo _)⟩
  case round=>
   obtain⟨k,hk,rfl,rfl,rfl,hall⟩:=hrel
   by_cases hlt:k<s.size
   ·have hc:=af_ k hlt;obtain⟨lS,(hv2:U _)⟩:=HV k hlt hall;change U _ at hall
    have rE:U _:=HE k hlt;have k1:(k:Int)<(s.size:Int):=by omega
    have Sq:k<13:=by have:=HZ.2;omega
    clear hcv;generalize hcc:(bl s).getD k 0=c at hc hv2 rE;change U _ at hcc
    generalize ni ((bl s).take k)=m at lS hv2⊢
    by_cases hd:iN c=true
    ·have EH:=Jw c;rw[hd]at EH;have hb:=Tr hd;go_wp2_with fail
     apply(EH _).mono;rintro e w' ⟨rfl,rfl⟩;go_wp2;go_roundw
     case rel=>
      refine⟨k+1,by omega,by go_num,by rw[hv2.o];go_num,by first|trivial|rfl,λj hj=>?_⟩
      by_cases e:j=k
      ·rw[e,hcc.o];exact hd
      exact hall j (by omega)
     case measure=>simp[intOf];omega
    simp only[uX]at hd;have EH:=Jw c;rw[hd]at EH;go_wp2_with fail
    apply(EH _).mono;rintro e w' ⟨rfl,rfl⟩;go_wp2;go_ret2
    rw[rE.o hd];exact⟨rfl,qx⟩
   have k1:¬(k:Int)<(s.size:Int):=by omega
   obtain rfl:k=s.size:=by omega
   have HR:U (numOf (bl s)=J (ni ((bl s).take s.size))):=by
    show _=_
    rw[HY.o hall,<- dY,mL]
   clear hall;go_wp2;go_ret2
   rw[HR.o];exact⟨rfl,qx⟩
open Go.Maps
def a_:lB
 |[],_=>I
 |p::t,w=>match a_ t w with
  |some i=>J (i+1)
  |none=>if bl p=w then J 0 else I
def Tx:∀(t:List ByteArray) (p:ByteArray) (w:Bs),a_ (t++[p]) w=if bl p=w then J t.length else a_ t w
 |[],p,w=>by simp only[yB,a_,xp]
 |q::t,p,w=>by
  rw[pY,a_,Tx t p w]
  by_cases h:bl p=w
  ·rw[aU h,aU h];rfl
  rw[aK h,aK h];rfl
def Ty:∀(au:List ByteArray) (w:Bs) (i:Nat),a_ au w=J i->∃p,au[i]?=J p/\bl p=w
 |[],w,i,h=>by simp[a_]at h
 |p::t,w,i,h=>by
  rw[a_]at h
  cases hl:a_ t w with
  |some j=>
   rw[hl]at h
   cases h
   obtain⟨q,h1,h2⟩:=Ty t w j hl;exact⟨q,by simpa using h1,h2⟩
  |none=>
   rw[hl]at h;simp only at h
   split at h
   ·rename_i hp
    cases h
    exact⟨p,rfl,hp⟩
   cases h
def Tz:∀(au:List ByteArray) (w:Bs),a_ au w=I->∀p∈au,bl p≠w
 |[],w,_,p,hp=>by cases hp
 |q::t,w,h,p,hp=>by
  rw[a_]at h
  cases hl:a_ t w with
  |some j=>rw[hl]at h;cases h
  |none=>
   rw[hl]at h;simp only at h
   split at h
   ·cases h
   rename_i hq
   rcases fe.1 hp with rfl|hp
   ·exact hq
   exact Tz t w hl p hp
def TD:AO a_:=⟨Ty,Tz⟩
def vS(D:DataW Unit)(au:List ByteArray):Prop:=
 ∀s:ByteArray,Maps.has D (pJ s)=(a_ au (bl s)).isSome/\D.atKey (pJ s) (.lit (.int .i64 0))=.lit (.int .i64 (((a_ au (bl s)).getD 0:Nat):Int))
def af':vS (.map []) []:=λ_=>⟨rfl,rfl⟩
def aga{D:DataW Unit}{au:List ByteArray}(h:vS D au)(hD:IsMap D)(p:ByteArray):vS (D.put (pJ p) (.lit (.int .i64 (au.length:Int)))) (au++[p]):=by
 intro s;rw[Tx]
 by_cases e:bl p=bl s
 ·have e':=oK e;subst e';rw[aU rfl];exact⟨Maps.has_put_same hD (by trivial) _,Maps.atKey_put_same hD (by trivial) _ _⟩
 rw[aK e];have hne:pJ s≠pJ p:=λh=>e (by unfold pJ at h;exact(Lit.string.inj h).symm)
 rw[Maps.has_put_other hne,Maps.atKey_put_other hne];exact h s
def zR{o:Nat}(h:w.cell? (ai b o I)=J v):w.setCell (ai b o I) v=w:=by
 have hh:(w.setCell (ai b o I) v).heap=w.heap:=by
  apply Array.ext_getElem?
  intro i;simp only[bN,cL]
  split
  ·rename_i e;subst e;unfold aH at h
   cases hb:w.heap[b]? with
   |none=>rfl
   |some ob=>
    rw[hb]at h
    cases ob with
    |cells c t fr=>
     simp only[Option.map_some,dJ,kY,rh];simp at h⊢
     apply Array.ext_getElem?
     intro j;rw[Array.getElem?_setIfInBounds]
     split
     ·rename_i e;subst e
      split
      ·exact h.symm
      rename_i hx;rw[xe (by omega)]at h
      cases h
     rfl
    |_=>rfl
  rfl
 cases w
 simp only[bN]at hh⊢;rw[hh]
def Below.MF(h:Below B w w')(a:aC)(v:aw):Below B (w.setCell a v) (w'.setCell a v):=by
 refine⟨h.os,h.tape,h.output,?_,λk hk=>?_⟩
 ·simpa[bN]using h.size
 simp only[bN,cL];rw[h.block k hk]
def sR{a p:aC}(hne:a.block≠p.block\/a.off≠p.off)(hp:p.spot=I)(ha:a.spot=I):(w.setCell a u).cell? p=w.cell? p:=by
 obtain⟨ab,ao,as'⟩:=a;obtain⟨pb,po,ps⟩:=p;simp only at hne hp ha;subst hp ha;unfold aH;simp only[bN,cL]
 by_cases e:ab=pb
 ·subst e;have ho:ao≠po:=by rcases hne with h|h;exact absurd rfl h;exact h
  simp only[if_true]
  cases w.heap[ab]? with
  |none=>rfl
  |some ob=>
   cases ob with
   |cells c t fr=>
    simp only[Option.map_some];simp[ho]
   |_=>rfl
 rw[aK e]
def zS{o:Nat}(h:w.cell? (ai b o I)=J v):(w.setCell (ai b o I) u).cell? ⟨b,o,I⟩=J u:=by
 unfold aH at h⊢;simp only[bN,cL];simp only[if_true]
 cases hb:w.heap[b]? with
 |none=>rw[hb]at h;cases h
 |some ob=>
  rw[hb]at h
  cases ob with
  |cells c t fr=>
   simp only[Option.map_some]at h⊢;simp at h⊢
   have:=(Bb.1 h).1;simp[this]
  |_=>cases h
def agb(w:ak)(a p:aC)(u:aw):(w.setCell a u).frozen? p=w.frozen? p:=by
 unfold bM;simp only[bN,cL]
 by_cases e:a.block=p.block
 ·simp only[e,if_true]
  cases w.heap[p.block]? with
  |none=>rfl
  |some ob=>cases ob<;>rfl
 simp only[e,if_false]
def dH:ak->List (Nat×Nat)->List aw->ak
 |w,a::as',u::us=>dH (w.setCell ⟨a.1,a.2,I⟩ u) as' us
 |w,_,_=>w
def Cb(w:ak)(us:List aw):dH w [] us=w:=by cases us<;>rfl
def Cc(w:ak)(as':List (Nat×Nat)):dH w as' []=w:=by cases as'<;>rfl
def MG:∀(w:ak) (as':List (Nat×Nat)) (us:List aw) (a:Nat×Nat) (u:aw),as'.length=us.length->dH w (as'++[a]) (us++[u])=(dH w as' us).setCell ⟨a.1,a.2,I⟩ u
 |w,[],[],a,u,_=>rfl
 |w,b::as',v::us,a,u,h=>by
  simp only[pY,dH];exact MG _ as' us a u (by simpa using h)
def Ia:∀(w:ak) (as':List (Nat×Nat)) (us:List aw),(dH w as' us).heap.size=w.heap.size
 |w,[],us=>by rw[Cb]
 |w,_::_,[]=>by rw[Cc]
 |w,a::as',u::us=>by
  rw[dH,Ia];simp[bN]
def MH:∀(w:ak) (as':List (Nat×Nat)) (us:List aw) (p:aC),(dH w as' us).frozen? p=w.frozen? p
 |w,[],us,p=>by rw[Cb]
 |w,_::_,[],p=>by rw[Cc]
 |w,a::as',u::us,p=>by rw[dH,MH,agb]
def zT:∀(w:ak) (as':List (Nat×Nat)) (us:List aw) (b o:Nat),(∀a∈as',a≠(b,o))->(dH w as' us).cell? ⟨b,o,I⟩=w.cell? (ai b o I)
 |w,[],us,b,o,_=>by rw[Cb]
 |w,_::_,[],b,o,_=>by rw[Cc]
 |w,a::as',u::us,b,o,h=>by
  rw[dH,zT _ as' us b o (λx hx=>h x (rO _ hx))]
  refine sR ?_ rfl rfl;have:=h a (nQ ..)
  by_cases e:a.1=b
  ·exact aN (λe2=>this (Prod.ext e e2))
  exact aT e
def TE:∀(w:ak) (as':List (Nat×Nat)) (us:List aw) (b:Nat),(∀a∈as',a.1≠b)->(dH w as' us).heap[b]?=w.heap[b]?
 |w,[],us,b,_=>by rw[Cb]
 |w,_::_,[],b,_=>by rw[Cc]
 |w,a::as',u::us,b,h=>by
  rw[dH,TE _ as' us b (λx hx=>h x (rO _ hx))];exact xg _ _ _ _ (Ne.symm (h a (nQ ..)))
def zU:∀(B:Nat) (w:ak) (as':List (Nat×Nat)) (us:List aw),(∀a∈as',B<=a.1)->Below B w (dH w as' us)
 |B,w,[],us,_=>by rw[Cb];exact aF _ _
 |B,w,_::_,[],_=>by rw[Cc];exact aF _ _
 |B,w,a::as',u::us,h=>by
  rw[dH];exact((aF B w).setCell (p:=⟨a.1,a.2,_⟩) (h a (nQ ..)) _).trans (zU B _ as' us (λx hx=>h x (rO _ hx)))
def Ib:Nat->TypeId
 |0=>323
 |1=>295
 |_=>325
def Typed(f:Nat)(u:aw):Prop:=if f=0 then ∃s:ByteArray,u=aA s/\s.size<=1000000 else ∃z:Int,u=ae af z
def valOf(f:Nat)(s:ByteArray)(v:Int):aw:=if f=0 then aA s else ae af v
structure Ic(w:ak)(rb mb:Nat)(au:List ByteArray):Prop where
 c6:w.cell? (ai rb 6 I)=J (.map (J mb))
 own:∃D:DataW Unit,w.ownsMap prog 9 (plainElem prog 3) mb au.length D/\vS D au
def vT(A:Nat->aC)(au:List ByteArray)(f:Nat)(s:ByteArray)(tb tk:Nat)(w:ak)(v:Ending)(w':ak):Prop:=
 v=ax (cP A (bW (a_ au) f (bl s)).1)/\∃u,Typed f u/\((bW (a_ au) f (bl s)).1=0->u=valOf f s (bW (a_ au) f (bl s)).2)/\Below w.heap.size (w.setCell (ai tb tk I) u) w'
def MI{au:List ByteArray}{tb tk:Nat}{old:aw}{c:Nat}(ht:w.cell? (ai tb tk I)=J old)(hT:Typed f old)(hc:(bW (a_ au) f (bl s)).1=c)(h0:c≠0)(hb:Below w.heap.size w w'):vT A au f s tb tk w (ax (cP A c)) w':=by
 refine⟨by rw[hc],old,hT,λe=>absurd (hc.symm.trans e) h0,?_⟩;rw[zR ht];exact hb
def agc(x:aw)(w:ak):(Instr.typeAssert (.iface 323 x) 20 323 true).run prog w=.ok (bn #[x,aL true]) w:=by kernel_rfl
def agd(x:aw)(w:ak):(Instr.typeAssert (.iface 295 x) 20 323 true).run prog w=.ok (bn #[aq I,aL false]) w:=by kernel_rfl
def age(x:aw)(w:ak):(Instr.typeAssert (.iface 295 x) 20 295 true).run prog w=.ok (bn #[x,aL true]) w:=by kernel_rfl
def agf(x:aw)(w:ak):(Instr.typeAssert (.iface 325 x) 20 323 true).run prog w=.ok (bn #[aq I,aL false]) w:=by kernel_rfl
def agh(x:aw)(w:ak):(Instr.typeAssert (.iface 325 x) 20 295 true).run prog w=.ok (bn #[aq I,aL false]) w:=by kernel_rfl
def agi(x:aw)(w:ak):(Instr.typeAssert (.iface 325 x) 20 325 true).run prog w=.ok (bn #[x,aL true]) w:=by kernel_rfl
def TF(w:ak):(zeroValue 3).run prog w=.ok (ae af 0) w:=by kernel_rfl
def agj(look:Bs->Option Nat)(f:Nat):bW look f []=(1,0):=by unfold bW;rw[aU rfl]
def agk(h:s.size=0):bl s=[]:=kV (by rw[dY];exact h)
def Ce(h:1<=s.size):bl s≠[]:=λe=>by have:=dY s;rw[e]at this;simp at this;omega
def agl(h:s.size=0):s=⟨#[]⟩:=oK (by rw[agk h];rfl)
def agm(A:Nat->aC)(au:List ByteArray)(rb f:Nat)(v:aw)(tb tk:Nat)(old:aw)(w:ak)(hs:dG A w)(ht:w.cell? (ai tb tk I)=J old)(hT:Typed f old):Calls prog 277 #[aq (J (ai rb 0 I)),aA ⟨#[]⟩,v] w (vT A au f ⟨#[]⟩ tb tk w):=by
 have HW:U (∀w',Below w.heap.size w w'->vT A au f ⟨#[]⟩ tb tk w (ax (cP A 1)) w'):=λw' hb=>MI (c:=1) ht hT (by rw[show bl ⟨#[]⟩=[]from rfl,agj]) (ar rfl) hb
 have c0:=hs.c0;go_enter func277,ntmps277
 go_wp2;go_ret;exact HW _ (aF _ _)
def agn(A:Nat->aC)(au:List ByteArray)(rb:Nat)(s:ByteArray)(tb tk:Nat)(old:aw)(w:ak)(h1:1<=s.size)(hsz:s.size<=1000000)(ht:w.cell? (ai tb tk I)=J old)(hf:w.frozen? (ai tb tk I)=false):Calls prog 277 #[aq (J (ai rb 0 I)),aA s,.iface 323 (aq (J (ai tb tk I)))] w (vT A au 0 s tb tk w):=by
 have HV:U (bW (a_ au) 0 (bl s)=(0,0)):=by show _=_;unfold bW;rw[aK (Ce h1)];rfl
 have y2:¬s.toList=[]:=by rw[gW];exact Ce h1
 have y1:(s.toList==[])=false:=by simpa using y2
 have a0:=agc;go_enter func277,ntmps277
 go_wp2;go_ret
 refine⟨by rw[HV.o];rfl,_,⟨s,rfl,hsz⟩,λ_=>rfl,aF _ _⟩
def ago(A:Nat->aC)(au:List ByteArray)(rb:Nat)(s:ByteArray)(tb tk:Nat)(old:aw)(w:ak)(hs:dG A w)(h1:1<=s.size)(hsz:s.size<=1000000)(ht:w.cell? (ai tb tk I)=J old)(hT:Typed 1 old)(hf:w.frozen? (ai tb tk I)=false):Calls prog 277 #[aq (J (ai rb 0 I)),aA s,.iface 295 (aq (J (ai tb tk I)))] w (vT A au 1 s tb tk w):=by
 have HV:U (bW (a_ au) 1 (bl s)=match numOf (bl s)with|some n=>(0,(n:Int))|none=>(1,0)):=by show _=_;unfold bW;rw[aK (Ce h1)];rfl
 have y2:¬s.toList=[]:=by rw[gW];exact Ce h1
 have y1:(s.toList==[])=false:=by simpa using y2
 have hN:=af9 s w h1 hsz;have HW:U (numOf _=I->∀w',Below _ w w'->vT A au 1 s tb tk w _ w'):=λhn w' hb=>MI (c:=1) ht hT (by rw[HV.o,hn]) (ar rfl) hb
 change U _ at hs
 have HT:U (w.cell? _=J old/\w.frozen? _=false):=⟨ht,hf⟩;have a0:=agd;have a1:=age
 cases hn:numOf (bl s)with
 |none=>
  rw[hn]at hN;go_enter func277,ntmps277
  go_wp2_with fail
  refine hN.mono ?_;rintro e w1 ⟨rfl,hb⟩;have c0:=(hs.below hb).c0;change U _ at hb
  go_wp2;go_ret;exact HW hn _ hb
 |some n=>
  rw[hn]at hN;go_enter func277,ntmps277
  go_wp2_with fail
  refine hN.mono ?_;rintro e w1 ⟨rfl,hb⟩;have t0:=aJ hb HT.1;have t1:w1.frozen? (ai tb tk I)=false:=by
   have:=hb.block tb (jf HT.1);have h2:=HT.2;unfold bM at h2⊢;rw[this];exact h2
  change U _ at hb
  go_wp2;go_ret
  refine⟨by rw[HV.o,hn];rfl,_,⟨_,rfl⟩,λ_=>by rw[HV.o,hn];rfl,Below.MF hb _ _⟩
def agp(A:Nat->aC)(au:List ByteArray)(rb mb:Nat)(s:ByteArray)(tb tk:Nat)(old:aw)(w:ak)(hs:dG A w)(h1:1<=s.size)(hsz:s.size<=1000000)(hm:Ic w rb mb au)(ht:w.cell? (ai tb tk I)=J old)(hT:Typed 2 old)(hf:w.frozen? (ai tb tk I)=false):Calls prog 277 #[.pointer (J (ai rb 0 I)),.string s,.iface 325 (.pointer (J (ai tb tk I)))] w (vT A au 2 s tb tk w):=by
 have HV:U (bW (a_ au) 2 (bl s)=match a_ au (bl s)with|some n=>(0,(n:Int))|none=>(5,0)):=by show _=_;unfold bW;rw[aK (Ce h1)];rfl
 have y2:¬s.toList=[]:=by rw[gW];exact Ce h1
 have y1:(s.toList==[])=false:=by simpa using y2
 have HW:U (a_ au _=I->vT A au 2 s tb tk w _ w):=λhn=>MI (c:=5) ht hT (by rw[HV.o,hn]) (ar rfl) (aF _ _)
 have c4:=hs.c4;have c6:=hm.c6;obtain⟨D,hown,hD⟩:=hm.own;have hkey:keyOf _ 9 _=J (pJ s):=G' underlying9 (by unfold maxLen;omega);obtain⟨Ie,(agq:U _)⟩:=hD s;have a0:=agf;have a1:=agh;have a2:=agi
 cases hn:a_ au (bl s)with
 |none=>
  rw[hn]at Ie;have agr:Maps.has D _=false:=Ie;go_enter func277,ntmps277
  go_wp2_with (first
   |(at_lookup;refine wpList_lookup_own_ok_int _ rfl _ _ 216 rfl 9 3 .i64 ui underlying216 underlying3 (TF _) mb _ _ rfl hown _ _ rfl hkey ?_;intro c hat hwc)
   |go_in)
  go_ret;exact HW hn
 |some n=>
  rw[hn]at Ie;have agr:Maps.has D _=true:=Ie;have ags:U (∀c,D.atKey (pJ s) (.lit (.int .i64 0))=.lit (.int .i64 c)->c=(n:Int)):=λc hc=>by
   have:=hc.symm.trans agq.o;rw[hn]at this;injection this with h2
   injection h2
  go_enter func277,ntmps277
  go_wp2_with (first
   |(at_lookup;refine wpList_lookup_own_ok_int _ rfl _ _ 216 rfl 9 3 .i64 ui underlying216 underlying3 (TF _) mb _ _ rfl hown _ _ rfl hkey ?_;intro c hat hwc)
   |go_in)
  go_ret;have hc:=ags _ hat;subst hc
  refine⟨by rw[HV.o,hn];rfl,_,⟨_,rfl⟩,λ_=>by rw[HV.o,hn];rfl,aF _ _⟩
abbrev uD:Array Value:=#[.string ⟨(kw 0).toArray⟩,.string ⟨(kw 1).toArray⟩,.string ⟨(kw 2).toArray⟩,.string ⟨(kw 3).toArray⟩,.string ⟨(kw 4).toArray⟩,.string ⟨(kw 5).toArray⟩,.string ⟨(kw 6).toArray⟩,.string ⟨(kw 7).toArray⟩,.string ⟨(kw 8).toArray⟩,.string ⟨(kw 9).toArray⟩]
def TG(rb:Nat)(last:Int)(k:Nat)(w:ak)(hk:k<10)(hc:w.cell? (ai rb 5 I)=J (ae af last)):Calls prog 211 #[aq (J (ai rb 0 I)),ae af (k:Int)] w λe w'=>e=ax (aL (may last k))/\w'=w:=by
 match k,hk with
 |0,_=>
  go_enter func211,ntmps211
  go_wp2;go_ret;exact⟨by first|rfl|simp[may],rfl⟩
 |1,_=>
  go_enter func211,ntmps211
  go_wp2;go_ret;exact⟨by first|rfl|simp[may],rfl⟩
 |2,_=>
  go_enter func211,ntmps211
  go_wp2;go_ret;exact⟨by first|rfl|simp[may],rfl⟩
 |3,_=>
  go_enter func211,ntmps211
  go_wp2;go_ret;exact⟨by first|rfl|simp[may],rfl⟩
 |4,_=>
  by_cases l1:3<=last
  all_goals
   go_enter func211,ntmps211
   go_wp2;go_ret;exact⟨by first|rfl|(simp[may,l1];done)|(simp[may];omega),rfl⟩
 |5,_=>
  by_cases l1:3<=last
  all_goals
   go_enter func211,ntmps211
   go_wp2;go_ret;exact⟨by first|rfl|(simp[may,l1];done)|(simp[may];omega),rfl⟩
 |6,_=>
  by_cases l1:3<=last
  all_goals
   go_enter func211,ntmps211
   go_wp2;go_ret;exact⟨by first|rfl|(simp[may,l1];done)|(simp[may];omega),rfl⟩
 |7,_=>
  by_cases l1:3<=last
  all_goals
   go_enter func211,ntmps211
   go_wp2;go_ret;exact⟨by first|rfl|(simp[may,l1];done)|(simp[may];omega),rfl⟩
 |8,_=>
  by_cases l1:3<=last
  all_goals
   go_enter func211,ntmps211
   go_wp2;go_ret;exact⟨by first|rfl|(simp[may,l1];done)|(simp[may];omega),rfl⟩
 |9,_=>
  by_cases l1:3<=last
  all_goals
   go_enter func211,ntmps211
   go_wp2;go_ret;exact⟨by first|rfl|(simp[may,l1];done)|(simp[may];omega),rfl⟩
def nN(w:Bs):Int:=match kindOf w with
 |some k=>(k:Int)
 |none=>-1
def agt{w:Bs}(h:∀j,j<10->kw j≠w):nN w=-1:=by
 have:kindOf w=I:=by
  unfold kindOf;rw[List.find?_eq_none];intro j hj;simp only[pq]at hj;simpa using h j hj
 unfold nN;rw[this]
def agu(s:ByteArray)(w:ak)(hK:jN w):Calls prog 210 #[aA s] w λe w'=>e=ax (ae af (nN (bl s)))/\w'=w:=by
 have c0:=hK 0 (ar rfl);have c1:=hK 1 (ar rfl);have c2:=hK 2 (ar rfl);have c3:=hK 3 (ar rfl);have c4:=hK 4 (ar rfl);have c5:=hK 5 (ar rfl);have c6:=hK 6 (ar rfl);have c7:=hK 7 (ar rfl);have c8:=hK 8 (ar rfl);have c9:=hK 9 (ar rfl);clear hK;go_enter func210,ntmps210
 go_wp2_with fail
 clear c0 c1 c2 c3 c4 c5 c6 c7 c8 c9
 go_loopw [3,4,6] (λ_ _ i wr=>∃k:Nat,k<=10/\i=ae af k/\wr=w/\∀j,j<k->kw j≠bl s) (λ_ _ i _=>10-(intOf i).toNat)
 case atStart=>exact⟨0,bA _,rfl,rfl,λj hj=>absurd hj (oo _)⟩
 case round=>
  obtain⟨k,hk,rfl,rfl,(hn:U _)⟩:=hrel
  by_cases hlt:k<10
  ·match k,hlt with
   |0,_=>
    have ix:∀W,(Instr.index 213 (.agg uD) (ae af 0)).run prog W=.ok (aA ⟨(kw 0).toArray⟩) W:=λ_=>by kernel_rfl
    by_cases h:kw 0=bl s
    ·have HV:U (nN (bl s)=0):=by show _=_;rw[<- h];decide
     have y2:kw 0=s.toList:=by rw[gW];exact h
     have y1:(kw 0==s.toList)=true:=by rw[y2];exact uz _
     clear y2 h;go_wp2;go_ret;exact⟨by rw[HV.o];rfl,rfl⟩
    have y2:¬kw 0=s.toList:=by rw[gW];exact h
    have y1:(kw 0==s.toList)=false:=by simpa using y2
    have i7:U (∀j,j<1->kw j≠bl s):=λj hj=>by
     by_cases e:j=0
     ·rw[e];exact h
     exact hn j (by omega)
    go_wp2;go_roundw
    case rel=>exact⟨1,by decide,by first|trivial|rfl,by first|trivial|rfl,i7⟩
    case measure=>simp[intOf]
   |1,_=>
    have ix:∀W,(Instr.index 213 (.agg uD) (ae af 1)).run prog W=.ok (aA ⟨(kw 1).toArray⟩) W:=λ_=>by kernel_rfl
    by_cases h:kw 1=bl s
    ·have HV:U (nN (bl s)=1):=by show _=_;rw[<- h];decide
     have y2:kw 1=s.toList:=by rw[gW];exact h
     have y1:(kw 1==s.toList)=true:=by rw[y2];exact uz _
     clear y2 h;go_wp2;go_ret;exact⟨by rw[HV.o];rfl,rfl⟩
    have y2:¬kw 1=s.toList:=by rw[gW];exact h
    have y1:(kw 1==s.toList)=false:=by simpa using y2
    have i7:U (∀j,j<2->kw j≠bl s):=λj hj=>by
     by_cases e:j=1
     ·rw[e];exact h
     exact hn j (by omega)
    go_wp2;go_roundw
    case rel=>exact⟨2,by decide,by first|trivial|rfl,by first|trivial|rfl,i7⟩
    case measure=>simp[intOf]
   |2,_=>
    have ix:∀W,(Instr.index 213 (.agg uD) (ae af 2)).run prog W=.ok (aA ⟨(kw 2).toArray⟩) W:=λ_=>by kernel_rfl
    by_cases h:kw 2=bl s
    ·have HV:U (nN (bl s)=2):=by show _=_;rw[<- h];decide
     have y2:kw 2=s.toList:=by rw[gW];exact h
     have y1:(kw 2==s.toList)=true:=by rw[y2];exact uz _
     clear y2 h;go_wp2;go_ret;exact⟨by rw[HV.o];rfl,rfl⟩
    have y2:¬kw 2=s.toList:=by rw[gW];exact h
    have y1:(kw 2==s.toList)=false:=by simpa using y2
    have i7:U (∀j,j<3->kw j≠bl s):=λj hj=>by
     by_cases e:j=2
     ·rw[e];exact h
     exact hn j (by omega)
    go_wp2;go_roundw
    case rel=>exact⟨3,by decide,by first|trivial|rfl,by first|trivial|rfl,i7⟩
    case measure=>simp[intOf]
   |3,_=>
    have ix:∀W,(Instr.index 213 (.agg uD) (ae af 3)).run prog W=.ok (aA ⟨(kw 3).toArray⟩) W:=λ_=>by kernel_rfl
    by_cases h:kw 3=bl s
    ·have HV:U (nN (bl s)=3):=by show _=_;rw[<- h];decide
     have y2:kw 3=s.toList:=by rw[gW];exact h
     have y1:(kw 3==s.toList)=true:=by rw[y2];exact uz _
     clear y2 h;go_wp2;go_ret;exact⟨by rw[HV.o];rfl,rfl⟩
    have y2:¬kw 3=s.toList:=by rw[gW];exact h
    have y1:(kw 3==s.toList)=false:=by simpa using y2
    have i7:U (∀j,j<4->kw j≠bl s):=λj hj=>by
     by_cases e:j=3
     ·rw[e];exact h
     exact hn j (by omega)
    go_wp2;go_roundw
    case rel=>exact⟨4,by decide,by first|trivial|rfl,by first|trivial|rfl,i7⟩
    case measure=>simp[intOf]
   |4,_=>
    have ix:∀W,(Instr.index 213 (.agg uD) (ae af 4)).run prog W=.ok (aA ⟨(kw 4).toArray⟩) W:=λ_=>by kernel_rfl
    by_cases h:kw 4=bl s
    ·have HV:U (nN (bl s)=4):=by show _=_;rw[<- h];decide
     have y2:kw 4=s.toList:=by rw[gW];exact h
     have y1:(kw 4==s.toList)=true:=by rw[y2];exact uz _
     clear y2 h;go_wp2;go_ret;exact⟨by rw[HV.o];rfl,rfl⟩
    have y2:¬kw 4=s.toList:=by rw[gW];exact h
    have y1:(kw 4==s.toList)=false:=by simpa using y2
    have i7:U (∀j,j<5->kw j≠bl s):=λj hj=>by
     by_cases e:j=4
     ·rw[e];exact h
     exact hn j (by omega)
    go_wp2;go_roundw
    case rel=>exact⟨5,by decide,by first|trivial|rfl,by first|trivial|rfl,i7⟩
    case measure=>simp[intOf]
   |5,_=>
    have ix:∀W,(Instr.index 213 (.agg uD) (ae af 5)).run prog W=.ok (aA ⟨(kw 5).toArray⟩) W:=λ_=>by kernel_rfl
    by_cases h:kw 5=bl s
    ·have HV:U (nN (bl s)=5):=by show _=_;rw[<- h];decide
     have y2:kw 5=s.toList:=by rw[gW];exact h
     have y1:(kw 5==s.toList)=true:=by rw[y2];exact uz _
     clear y2 h;go_wp2;go_ret;exact⟨by rw[HV.o];rfl,rfl⟩
    have y2:¬kw 5=s.toList:=by rw[gW];exact h
    have y1:(kw 5==s.toList)=false:=by simpa using y2
    have i7:U (∀j,j<6->kw j≠bl s):=λj hj=>by
     by_cases e:j=5
     ·rw[e];exact h
     exact hn j (by omega)
    go_wp2;go_roundw
    case rel=>exact⟨6,by decide,by first|trivial|rfl,by first|trivial|rfl,i7⟩
    case measure=>simp[intOf]
   |6,_=>
    have ix:∀W,(Instr.index 213 (.agg uD) (ae af 6)).run prog W=.ok (aA ⟨(kw 6).toArray⟩) W:=λ_=>by kernel_rfl
    by_cases h:kw 6=bl s
    ·have HV:U (nN (bl s)=6):=by show _=_;rw[<- h];decide
     have y2:kw 6=s.toList:=by rw[gW];exact h
     have y1:(kw 6==s.toList)=true:=by rw[y2];exact uz _
     clear y2 h;go_wp2;go_ret;exact⟨by rw[HV.o];rfl,rfl⟩
    have y2:¬kw 6=s.toList:=by rw[gW];exact h
    have y1:(kw 6==s.toList)=false:=by simpa using y2
    have i7:U (∀j,j<7->kw j≠bl s):=λj hj=>by
     by_cases e:j=6
     ·rw[e];exact h
     exact hn j (by omega)
    go_wp2;go_roundw
    case rel=>exact⟨7,by decide,by first|trivial|rfl,by first|trivial|rfl,i7⟩
    case measure=>simp[intOf]
   |7,_=>
    have ix:∀W,(Instr.index 213 (.agg uD) (ae af 7)).run prog W=.ok (aA ⟨(kw 7).toArray⟩) W:=λ_=>by kernel_rfl
    by_cases h:kw 7=bl s
    ·have HV:U (nN (bl s)=7):=by show _=_;rw[<- h];decide
     have y2:kw 7=s.toList:=by rw[gW];exact h
     have y1:(kw 7==s.toList)=true:=by rw[y2];exact uz _
     clear y2 h;go_wp2;go_ret;exact⟨by rw[HV.o];rfl,rfl⟩
    have y2:¬kw 7=s.toList:=by rw[gW];exact h
    have y1:(kw 7==s.toList)=false:=by simpa using y2
    have i7:U (∀j,j<8->kw j≠bl s):=λj hj=>by
     by_cases e:j=7
     ·rw[e];exact h
     exact hn j (by omega)
    go_wp2;go_roundw
    case rel=>exact⟨8,by decide,by first|trivial|rfl,by first|trivial|rfl,i7⟩
    case measure=>simp[intOf]
   |8,_=>
    have ix:∀W,(Instr.index 213 (.agg uD) (ae af 8)).run prog W=.ok (aA ⟨(kw 8).toArray⟩) W:=λ_=>by kernel_rfl
    by_cases h:kw 8=bl s
    ·have HV:U (nN (bl s)=8):=by show _=_;rw[<- h];decide
     have y2:kw 8=s.toList:=by rw[gW];exact h
     have y1:(kw 8==s.toList)=true:=by rw[y2];exact uz _
     clear y2 h;go_wp2;go_ret;exact⟨by rw[HV.o];rfl,rfl⟩
    have y2:¬kw 8=s.toList:=by rw[gW];exact h
    have y1:(kw 8==s.toList)=false:=by simpa using y2
    have i7:U (∀j,j<9->kw j≠bl s):=λj hj=>by
     by_cases e:j=8
     ·rw[e];exact h
     exact hn j (by omega)
    go_wp2;go_roundw
    case rel=>exact⟨9,by decide,by first|trivial|rfl,by first|trivial|rfl,i7⟩
    case measure=>simp[intOf]
   |9,_=>
    have ix:∀W,(Instr.index 213 (.agg uD) (ae af 9)).run prog W=.ok (aA ⟨(kw 9).toArray⟩) W:=λ_=>by kernel_rfl
    by_cases h:kw 9=bl s
    ·have HV:U (nN (bl s)=9):=by show _=_;rw[<- h];decide
     have y2:kw 9=s.toList:=by rw[gW];exact h
     have y1:(kw 9==s.toList)=true:=by rw[y2];exact uz _
     clear y2 h;go_wp2;go_ret;exact⟨by rw[HV.o];rfl,rfl⟩
    have y2:¬kw 9=s.toList:=by rw[gW];exact h
    have y1:(kw 9==s.toList)=false:=by simpa using y2
    have i7:U (∀j,j<10->kw j≠bl s):=λj hj=>by
     by_cases e:j=9
     ·rw[e];exact h
     exact hn j (by omega)
    go_wp2;go_roundw
    case rel=>exact⟨10,by decide,by first|trivial|rfl,by first|trivial|rfl,i7⟩
    case measure=>simp[intOf]
  obtain rfl:k=10:=by omega
  have HV:U _:=agt hn;go_wp2;go_ret;exact⟨by rw[HV.o];rfl,rfl⟩
def TH(look:Bs->Option Nat)(f:Nat)(w:Bs):(bW look f w).1=0\/(bW look f w).1=1\/(bW look f w).1=5:=by
 unfold bW
 split
 ·exact aN (aT rfl)
 split
 ·exact aT rfl
 ·split
  ·exact aT rfl
  exact aN (aT rfl)
 split
 ·exact aT rfl
 exact aN (aN rfl)
def TI{look:Bs->Option Nat}:∀(fs:List Nat) (ws:List Bs) (nn:Bool),fs.length≠ws.length->(bB look nn fs ws).1=1
 |[],[],_,h=>absurd rfl h
 |[],_::_,_,_=>by simp[bB]
 |_::_,[],_,_=>by simp[bB]
 |f::fs,w::ws,nn,h=>by
  unfold bB
  split
  ·rfl
  exact TI fs ws _ (by simpa using h)
def TJ{look:Bs->Option Nat}{ws:List Bs}{w:Bs}{nn:Bool}(h1:fs[k]?=J f)(h2:ws[k]?=J w):(bB look nn (fs.drop k) (ws.drop k)).1=if (bW look f w).1=1 then 1 else (bB look (nn||decide ((bW look f w).1=5)) (fs.drop (k+1)) (ws.drop (k+1))).1:=by
 obtain⟨a1,a2⟩:=df.1 h1;obtain⟨b1,b2⟩:=df.1 h2;rw[lX a1,lX b1,a2,b2];rw[bB]
 split<;>rfl
def agv{look:Bs->Option Nat}{ws:List Bs}{nn:Bool}(h1:fs.length=k)(h2:ws.length=k):(bB look nn (fs.drop k) (ws.drop k)).1=if nn then 5 else 0:=by
 rw[<- h1,List.drop_length,h1,<- h2,List.drop_length];rfl
def pP{o:Nat}(hb:Below w.heap.size w w')(hc:w.cell? (ai b o I)=J v):w'.frozen? (ai b o I)=w.frozen? (ai b o I):=by
 have:=hb.block b (jf hc);unfold bM;simp only;rw[this]
def TK:∀(w:ak) (as' bs:List (Nat×Nat)) (us vs:List aw),as'.length=us.length->dH w (as'++bs) (us++vs)=dH (dH w as' us) bs vs
 |w,[],bs,[],vs,_=>rfl
 |w,a::as',bs,u::us,vs,h=>by
  simp only[pY,dH];exact TK _ as' bs us vs (by simpa using h)
def MJ:∀(w:ak) (bs:List (Nat×Nat)) (vs:List aw),(∀(i:Nat) b v,bs[i]?=J b->vs[i]?=J v->w.cell? ⟨b.1,b.2,I⟩=J v)->dH w bs vs=w
 |w,[],vs,_=>Cb _ _
 |w,_::_,[],_=>Cc _ _
 |w,b::bs,v::vs,h=>by
  rw[dH,zR (h 0 b v rfl rfl)];exact MJ w bs vs (λi b' v' h1 h2=>h (i+1) b' v' (by simpa using h1) (by simpa using h2))
def zV(A:Nat->aC)(au:List ByteArray)(fs:List Nat)(tg:List (Nat×Nat))(ws:List ByteArray)(w:ak)(v:Ending)(w':ak):Prop:=
 v=ax (cP A (bB (a_ au) false fs (ws.map bl)).1)/\∃us:List aw,us.length=tg.length/\(∀(i:Nat) f u,fs[i]?=J f->us[i]?=J u->Typed f u)/\((bB (a_ au) false fs (ws.map bl)).1=0->∀(i:Nat) f s u,fs[i]?=J f->ws[i]?=J s->us[i]?=J u->u=valOf f s (bW (a_ au) f (bl s)).2)/\Below w.heap.size (dH w tg us) w'
structure o6(w0:ak)(rb:Nat)(au:List ByteArray)(fs:List Nat)(tg:List (Nat×Nat))(ws:List ByteArray)(wb wo ib:Nat)(w:ak):Prop where
 aY:Below w0.heap.size w0 w
 len:fs.length=tg.length
 f3:∀f∈fs,f<3
 few:fs.length<=4
 tgt:∀(i:Nat) f t,fs[i]?=J f->tg[i]?=J t->(∃old,w.cell? ⟨t.1,t.2,I⟩=J old/\Typed f old)/\w.frozen? ⟨t.1,t.2,I⟩=false
 lo:∀t∈tg,w0.heap.size<=t.1/\t≠(rb,6)/\t.1≠ib/\t.1≠wb
 nd:tg.Nodup
 into:∀(i:Nat) f t,fs[i]?=J f->tg[i]?=J t->w.cell? (ai ib i I)=J (.iface (Ib f) (aq (J ⟨t.1,t.2,I⟩)))
 qH:∀(i:Nat) s,ws[i]?=J s->w.cell? ⟨wb,wo+i,I⟩=J (aA s)
 agw:∀s∈ws,s.size<=1000000
 map:2∈fs->∃mb,Ic w rb mb au
structure MK(A:Nat->aC)(rb:Nat)(au:List ByteArray)(f:Nat)(s:ByteArray)(t:Nat×Nat)(V:ak):Prop where
 pK:dG A V
 tgt:∃old,V.cell? ⟨t.1,t.2,I⟩=J old/\Typed f old
 fz:V.frozen? ⟨t.1,t.2,I⟩=false
 map:f=2->∃mb,Ic V rb mb au
 f3:f<3
 ML:s.size<=1000000
def Ig(hV:Below w.heap.size (dH w (tg.take k) us) V){o:Nat}(hc:w.cell? (ai b o I)=J v)(hn:∀t∈tg.take k,t≠(b,o)):V.cell? (ai b o I)=J v:=by
 have h1:=zT w _ us b o hn;exact(hV.cell (p:=⟨b,o,_⟩) (jf hc)).trans (h1.trans hc)
def MN(hd:tg.Nodup)(ht:tg[k]?=J t):∀x∈tg.take k,x≠t:=by
 intro x hx e;subst e;obtain⟨j,hj,e⟩:=su hx;have pE:j<k:=by simp at hj;omega
 obtain⟨k1,k2⟩:=df.1 ht;have e2:tg[j]'(by omega)=tg[k]:=by rw[k2,<- e];simp
 have:=(List.getElem_inj hd).1 e2;omega
def o6.at'{au:List ByteArray}(h:o6 w0 rb au fs tg ws wb wo ib w)(hs:dG A w0)(hV:Below w.heap.size (dH w (tg.take k) us) V)(h1:fs[k]?=J f)(h2:tg[k]?=J t)(h3:ws[k]?=J s):MK A rb au f s t V/\V.cell? ⟨wb,wo+k,I⟩=J (aA s)/\V.cell? (ai ib k I)=J (.iface (Ib f) (aq (J ⟨t.1,t.2,I⟩))):=by
 have dt:∀x∈tg.take k,w0.heap.size<=x.1/\x≠(rb,6)/\x.1≠ib/\x.1≠wb:=λx hx=>h.lo x (List.mem_of_mem_take hx)
 have qx:=h.aY.trans ((zU _ w _ us (λx hx=>(dt x hx).1)).trans (hV.mono h.aY.size));obtain⟨⟨old,ho,hT⟩,hf⟩:=h.tgt k f t h1 h2;have ht:=Ig hV ho (MN h.nd h2)
 refine⟨⟨hs.below qx,⟨old,ht,hT⟩,?_,?_,h.f3 f (bP h1),h.agw s (bP h3)⟩,?_,?_⟩
 ·have e1:=MH w (tg.take k) us ⟨t.1,t.2,I⟩;have e2:=(zT w _ us t.1 t.2 (MN h.nd h2)).trans ho;rw[pP (by rw[Ia];exact hV) e2,e1];exact hf
 ·rintro rfl;obtain⟨mb,hm⟩:=h.map (bP h1);obtain⟨D,⟨es,clock,g1,g2⟩,hD⟩:=hm.own
  refine⟨mb,Ig hV hm.c6 (λx hx=>(dt x hx).2.1),D,⟨es,_,?_,g2⟩,hD⟩;have agx:=bL g1;rw[hV.block mb agx,TE w _ us mb,g1];intro x hx e;obtain⟨j,hj,e2⟩:=su hx;have pE:tg[j]?=J x:=by
   have:j<tg.length:=by simp at hj;omega
   rw[bq this,<- e2];simp
  have agy:j<fs.length:=by rw[h.len];exact(df.1 pE).1
  obtain⟨⟨o2,gJ,-⟩,-⟩:=h.tgt j fs[j] x (bq agy) pE;unfold aH at gJ;simp only[e,g1]at gJ
  cases gJ
 ·exact Ig hV (h.qH k s h3) (λx hx e=>(dt x hx).2.2.2 (by rw[e]))
 exact Ig hV (h.into k f t h1 h2) (λx hx e=>(dt x hx).2.2.1 (by rw[e]))
def agz{au:List ByteArray}(h:MK A rb au f s t V):Calls prog 277 #[aq (J (ai rb 0 I)),aA s,.iface (Ib f) (aq (J ⟨t.1,t.2,I⟩))] V (vT A au f s t.1 t.2 V):=by
 obtain⟨old,ht,hT⟩:=h.tgt
 by_cases h0:s.size=0
 ·have:=agl h0;subst this;exact agm A au rb f _ t.1 t.2 old V h.pK ht hT
 have h1:1<=s.size:=by omega
 match f,h.f3,hT,h with
 |0,_,_,h=>exact agn A au rb s t.1 t.2 old V h1 h.ML ht h.fz
 |1,_,hT,h=>exact ago A au rb s t.1 t.2 old V h.pK h1 h.ML ht hT h.fz
 |2,_,hT,h=>
  obtain⟨mb,hm⟩:=h.map rfl;exact agp A au rb mb s t.1 t.2 old V h.pK h1 h.ML hm ht hT h.fz
structure uE(A:Nat->aC)(au:List ByteArray)(fs:List Nat)(tg:List (Nat×Nat))(ws:List ByteArray)(w:ak)(k:Nat)(nn:Bool)(V:ak):Prop where
 us:∃us:List aw,us.length=k/\(∀(i:Nat) f u,fs[i]?=J f->us[i]?=J u->Typed f u)/\(nn=false->∀(i:Nat) f s u,fs[i]?=J f->ws[i]?=J s->us[i]?=J u->u=valOf f s (bW (a_ au) f (bl s)).2)/\Below w.heap.size (dH w (tg.take k) us) V
 code:(bB (a_ au) false fs (ws.map bl)).1=(bB (a_ au) nn (fs.drop k) ((ws.map bl).drop k)).1
def agA{au:List ByteArray}:uE A au fs tg ws w 0 false w:=
 ⟨⟨[],rfl,λi f u _ h=>by simp at h,λ_ i f s u _ _ h=>by simp at h,aF _ _⟩,rfl⟩
def TL{V':ak}{au:List ByteArray}{nn:Bool}{u:aw}(h:uE A au fs tg ws w k nn V)(h1:fs[k]?=J f)(h2:tg[k]?=J t)(h3:ws[k]?=J s)
  (hT:Typed f u) (hv:(bW (a_ au) f (bl s)).1=0->u=valOf f s (bW (a_ au) f (bl s)).2) (hb:Below V.heap.size (V.setCell ⟨t.1,t.2,I⟩ u) V') (hc:(bW (a_ au) f (bl s)).1≠1):uE A au fs tg ws w (k+1) (nn||decide ((bW (a_ au) f (bl s)).1=5)) V':=by
 obtain⟨us,e0,e1,e2,e3⟩:=h.us;have hk:=(df.1 h2).1
 refine⟨⟨us++[u],by simp[e0],λi g x hg hx=>?_,λhn i g y x hg hy hx=>?_,?_⟩,?_⟩
 ·by_cases hi:i<us.length
  ·rw[ly hi]at hx;exact e1 i g x hg hx
  rw[jX (by omega)]at hx;have:i=us.length:=by
   have:=(df.1 hx).1;simp at this
   omega
  subst this;simp at hx
  subst hx;rw[e0,h1]at hg
  cases hg
  exact hT
 ·rw[Bool.or_eq_false_iff,decide_eq_false_iff_not]at hn
  by_cases hi:i<us.length
  ·rw[ly hi]at hx;exact e2 hn.1 i g y x hg hy hx
  rw[jX (by omega)]at hx;have:i=us.length:=by
   have:=(df.1 hx).1;simp at this
   omega
  subst this;simp at hx
  subst hx;rw[e0,h1]at hg
  cases hg
  rw[e0,h3]at hy
  cases hy
  refine hv ?_
  rcases TH (a_ au) f (bl s)with h|h|h
  ·exact h
  ·exact absurd h hc
  exact absurd h hn.2
 ·have ht:tg.take (k+1)=tg.take k++[t]:=by rw[eI,h2];rfl
  rw[ht,MG _ _ _ _ _ (by rw[eQ,e0];omega)];have:=Below.MF e3 ⟨t.1,t.2,I⟩ u
  refine this.trans (hb.mono ?_);have:=e3.size;rw[Ia]at this;exact this
 rw[h.code,TJ h1 (by rw[gY,h3];rfl),aK hc]
def agB{V':ak}{au:List ByteArray}{nn:Bool}{u:aw}(hF:o6 w0 rb au fs tg ws wb wo ib w)(h:uE A au fs tg ws w k nn V)(h1:fs[k]?=J f)(h2:tg[k]?=J t)(h3:ws[k]?=J s)
  (hT:Typed f u) (hb:Below V.heap.size (V.setCell ⟨t.1,t.2,I⟩ u) V') (hc:(bW (a_ au) f (bl s)).1=1):zV A au fs tg ws w (ax (cP A 1)) V':=by
 have nO:(bB (a_ au) false fs (ws.map bl)).1=1:=by rw[h.code,TJ h1 (by rw[gY,h3];rfl),aU hc]
 obtain⟨us,e0,e1,e2,e3⟩:=h.us;have hk:=(df.1 h2).1;have hold:∀i,∃o:aw,∀g x,fs[k+1+i]?=J g->tg[k+1+i]?=J x->w.cell? ⟨x.1,x.2,I⟩=J o/\Typed g o:=λi=>by
  by_cases hi:k+1+i<tg.length
  ·have nG:k+1+i<fs.length:=by rw[hF.len];exact hi
   obtain⟨⟨o,a1,a2⟩,-⟩:=hF.tgt _ _ _ (bq nG) (bq hi)
   refine⟨o,λg x hg hx=>?_⟩;rw[bq nG]at hg;rw[bq hi]at hx
   cases hg
   cases hx
   exact⟨a1,a2⟩
  refine⟨undef,λg x _ hx=>?_⟩;rw[jb (by omega)]at hx
  cases hx
 obtain⟨ov,EI⟩:=Classical.axiomOfChoice hold;obtain⟨vs,TM⟩:∃vs:List _,vs=(List.range (tg.length-(k+1))).map ov:=⟨_,rfl⟩;have rF:vs.length=tg.length-(k+1):=by rw[TM];simp
 have Cf:∀i x,vs[i]?=J x->x=ov i/\i<tg.length-(k+1):=λi x hx=>by
  have hi:=(df.1 hx).1;rw[rF]at hi;rw[TM,gY,List.getElem?_range hi]at hx;simp at hx
  exact⟨hx.symm,hi⟩
 refine⟨by rw[nO],us++([u]++vs),?_,λi g x hg hx=>?_,(λhz=>by rw[nO]at hz;cases hz),?_⟩
 ·simp[e0,rF];omega
 ·by_cases hi:i<us.length
  ·rw[ly hi]at hx;exact e1 i g x hg hx
  rw[jX (by omega),e0]at hx
  by_cases nG:i=k
  ·subst nG;simp at hx
   subst hx;rw[h1]at hg
   cases hg
   exact hT
  rw[jX (by simp;omega)]at hx;obtain⟨rfl,q⟩:=Cf _ _ hx;have TN:k+1+(i-k-1)=i:=by omega
  have hit:i<tg.length:=by simp at q;omega
  exact(EI (i-k-1) g _ (by rw[TN];exact hg) (by rw[TN];exact bq hit)).2
 have ht:tg=(tg.take k++[t])++tg.drop (k+1):=by
  have:tg.take (k+1)=tg.take k++[t]:=by rw[eI,h2];rfl
  rw[<- this,rf]
 have hl:(tg.take k).length=us.length:=by rw[eQ,e0];omega
 have agC:dH w tg (us++([u]++vs))=(dH w (tg.take k) us).setCell ⟨t.1,t.2,I⟩ u:=by
  conv=>lhs;rw[ht]
  rw[<- gh us [u] vs,TK _ _ _ _ _ (by simp[hl]),MG _ _ _ _ _ hl]
  refine MJ _ _ _ (λi b v hb' hv'=>?_);obtain⟨rfl,q⟩:=Cf _ _ hv';rw[List.getElem?_drop]at hb';have Bk:k+1+i<fs.length:=by rw[hF.len];omega
  obtain⟨a1,-⟩:=EI i _ _ (bq Bk) hb';have hne:=MN hF.nd hb';have agD:=hne t (by
   have:tg.take (k+1+i)=tg.take (k+1)++(tg.drop (k+1)).take i:=by rw[List.take_add]
   rw[this,eI,h2];simp)
  rw[sR (by
   by_cases e:t.1=b.1
   ·exact aN (λe2=>agD (Prod.ext e e2))
   exact aT e) rfl rfl,zT _ _ _ _ _ (λx hx=>hne x (by
   have:tg.take (k+1+i)=tg.take k++(tg.drop k).take (1+i):=by rw[qh,List.take_add]
   rw[this];exact List.mem_append_left _ hx))]
  exact a1
 rw[agC];have:=Below.MF e3 ⟨t.1,t.2,I⟩ u
 refine this.trans (hb.mono ?_);have:=e3.size;rw[Ia]at this;exact this
def agE{au:List ByteArray}{nn:Bool}(hF:o6 w0 rb au fs tg ws wb wo ib w)(h:uE A au fs tg ws w k nn V)(h1:fs.length=k)(h2:ws.length=k):zV A au fs tg ws w (ax (cP A (if nn then 5 else 0))) V:=by
 obtain⟨us,e0,e1,e2,e3⟩:=h.us;have hc:=h.code;rw[agv h1 (by rw[iE];exact h2)]at hc;have hk:tg.take k=tg:=iM (by rw[<- hF.len];omega);rw[hk]at e3
 refine⟨by rw[hc],us,by rw[e0,<- hF.len];omega,e1,λhz=>?_,e3⟩
 cases nn
 ·exact e2 rfl
 rw[hc]at hz;cases hz
structure agF(A:Nat->aC)(au:List ByteArray)(fs:List Nat)(tg:List (Nat×Nat))(ws:List ByteArray)(w:ak)(m i:aw)(wr:ak):Prop where
 ex:∃(k:Nat) (nn:Bool),k<=ws.length/\i=ae af k/\m=cP A (if nn then 5 else 0)/\uE A au fs tg ws w k nn wr
def uF(A:Nat->aC)(w0 w:ak)(rb:Nat)(au:List ByteArray)(fs:List Nat)(tg:List (Nat×Nat))(ws:List ByteArray)(sa:Option aC)(wb wo wc ib:Nat)(hs:dG A w0)(hF:o6 w0 rb au fs tg ws wb wo ib w)(qy:ws≠[]->sa=J ⟨wb,wo,I⟩)(hn:ws.length<=1000000):Calls prog 248 #[aq (J (ai rb 0 I)),aj sa ws.length wc,aj (J (ai ib 0 I)) fs.length fs.length] w (zV A au fs tg ws w):=by
 change U _ at hF hs
 by_cases hl:fs.length=ws.length
 ·have l2:ws.length<=4:=by have:=hF.few;omega
  rw[hl];change U _ at hl
  go_enter func248,ntmps248
  go_wp2_with fail
  go_loopw [6,7,8,9,10,19] (λ_ m _ _ _ i wr=>agF A au fs tg ws w m i wr) (λ_ _ _ _ _ i _=>ws.length-(intOf i).toNat)
  case atStart=>exact⟨⟨0,_,bA _,rfl,rfl,agA⟩⟩
  case round=>
   obtain⟨k,nn,hk,rfl,(hm:U _),(hR:U _)⟩:=hrel.ex
   by_cases hlt:k<ws.length
   ·have k1:(k:Int)<(ws.length:Int):=by omega
    have k2:k<4:=by omega
    have Ih:=qy (λe=>by rw[e]at hlt;simp at hlt);subst Ih;obtain⟨f,hf⟩:∃f,fs[k]?=J f:=⟨_,bq (by have:=hl.o;omega)⟩;obtain⟨t,ht⟩:∃t,tg[k]?=J t:=⟨_,bq (by have:=hF.len;have:=hl.o;omega)⟩;obtain⟨s,Ii⟩:∃s,ws[k]?=J s:=⟨_,bq hlt⟩;have hat:MK A rb au f s t wr/\wr.cell? ⟨wb,wo+k,I⟩=J (aA s)/\wr.cell? (ai ib k I)=J (.iface (Ib f) (aq (J ⟨t.1,t.2,I⟩))):=by
     obtain⟨us,-,-,-,e3⟩:=hR.us;exact hF.at' hs e3 hf ht Ii
    obtain⟨(hat:U _),c1,c2⟩:=hat;have HK:U (fs[k]?=J f/\tg[k]?=J t/\ws[k]?=J s):=⟨hf,ht,Ii⟩;go_wp2_with fail
    apply(agz hat.o).mono;rintro v V1 ⟨rfl,u,hT,hv,hb⟩;have HU:U (Typed f u/\((bW _ f _).1=0->u=valOf f s _)/\Below _ _ V1):=⟨hT,hv,hb⟩;have HE:U (dG A V1):=by
     have h1:=(hF.lo t (bP HK.2.1)).1;obtain⟨us,-,-,-,e3⟩:=hR.us;have hw:=hF.aY.trans ((zU _ w _ us (λx hx=>(hF.lo x (List.mem_of_mem_take hx)).1)).trans (e3.mono hF.aY.size));exact hs.below (hw.trans (((aF _ wr).setCell (p:=⟨t.1,t.2,_⟩) h1 u).trans (hb.mono hw.size)))
    have d0:=HE.c0;have d4:=HE.c4;obtain⟨ie,Dy,MO⟩:=ve.1 Xp;obtain⟨je,MP,CZ⟩:=ve.1 Xq
    rcases TH (a_ au) f (bl s)with hc|hc|hc
    ·have e1:cP A (bW (a_ au) f (bl s)).1=.nilIface:=by rw[hc];rfl
     rw[e1];have n0:=run_eql_iface_nil_left (P:=prog) (w:=V1) 357 (aq (J (A 0))) underlying32;have n4:=run_eql_iface_nil_left (P:=prog) (w:=V1) 357 (aq (J (A 4))) underlying32;have HN:U (uE A au fs tg ws w (k+1) nn V1):=by
      have:=TL hR HK.1 HK.2.1 HK.2.2 HU.1 HU.2.1 HU.2.2 (by rw[hc];decide);rw[hc]at this;show uE _ _ _ _ _ _ _ _ _
      simpa using this
     go_wp2;go_roundw
     case rel=>
      exact⟨⟨_,nn,by omega,by go_num,hm,HN⟩⟩
     case measure=>simp[intOf];omega
    ·have e1:cP A (bW (a_ au) f (bl s)).1=.iface 357 (aq (J (A 0))):=by rw[hc];rfl
     rw[e1];have n0:=run_eql_iface_ptr_same (P:=prog) (w:=V1) (A 0) underlying32 underlying357 Dy MO MP;have HP:U (zV A au fs tg ws w _ V1):=agB hF hR HK.1 HK.2.1 HK.2.2 HU.1 HU.2.2 hc;go_wp2;go_ret;exact HP
    have e1:cP A (bW (a_ au) f (bl s)).1=.iface 357 (aq (J (A 4))):=by rw[hc];rfl
    rw[e1];obtain⟨ca,ta,ha⟩:=HE.row 4 (ar rfl);obtain⟨cb,tb,hb⟩:=HE.row 0 (ar rfl);have n0:=run_eql_iface_ptr_other (P:=prog) V1 underlying32 underlying357 Dy MO MP (by rw[CZ];decide) (HE.ne 4 0 (ar rfl) (ar rfl) (ar rfl)) ha hb;have n4:=run_eql_iface_ptr_same (P:=prog) (w:=V1) (A 4) underlying32 underlying357 Dy MO MP;have HN:U (uE A au fs tg ws w (k+1) true V1):=by
     have:=TL hR HK.1 HK.2.1 HK.2.2 HU.1 HU.2.1 HU.2.2 (by rw[hc];decide);rw[hc]at this;show uE _ _ _ _ _ _ _ _ _
     simpa using this
    go_wp2;go_roundw
    case rel=>
     exact⟨⟨_,_,by omega,by go_num,rfl,HN⟩⟩
    case measure=>simp[intOf];omega
   have k1:¬(k:Int)<(ws.length:Int):=by omega
   obtain rfl:k=ws.length:=by omega
   have HP:U (zV A au fs tg ws w (ax u7) wr):=by
    show zV _ _ _ _ _ _ _ _
    rw[hm.o];exact agE hF hR hl rfl
   go_wp2;go_ret;exact HP
 have l1:¬(ws.length:Int)=(fs.length:Int):=by omega
 have c0:=(hs.below hF.aY).c0;have HP:U (zV A au fs tg ws w (ax (cP A 1)) w):=by
  have nO:(bB (a_ au) false fs (ws.map bl)).1=1:=TI _ _ _ (by rw[iE];exact hl);have hold:∀i:Nat,∃o:aw,∀(g:Nat) (x:Nat×Nat),fs[i]?=J g->tg[i]?=J x->w.cell? ⟨x.1,x.2,I⟩=J o/\Typed g o:=λi=>by
   by_cases hi:i<tg.length
   ·have nG:i<fs.length:=by rw[hF.len];exact hi
    obtain⟨⟨o,a1,a2⟩,-⟩:=hF.tgt i _ _ (bq nG) (bq hi)
    refine⟨o,λg x hg hx=>?_⟩;rw[bq nG]at hg;rw[bq hi]at hx
    cases hg
    cases hx
    exact⟨a1,a2⟩
   refine⟨undef,λg x _ hx=>?_⟩;rw[jb (by omega)]at hx
   cases hx
  obtain⟨ov,EI⟩:=Classical.axiomOfChoice hold;have Cf:∀(i:Nat) x,((List.range tg.length).map ov)[i]?=J x->x=ov i/\i<tg.length:=λi x hx=>by
   have hi:=(df.1 hx).1;simp at hi
   rw[gY,List.getElem?_range hi]at hx;simp at hx
   exact⟨hx.symm,hi⟩
  refine⟨by rw[nO],(List.range tg.length).map ov,by simp,λi g x hg hx=>?_,(λhz=>by rw[nO]at hz;cases hz),?_⟩
  ·obtain⟨rfl,q⟩:=Cf _ _ hx;exact(EI i g _ hg (bq q)).2
  rw[MJ _ _ _ (λi b v hb hv=>by
   obtain⟨rfl,q⟩:=Cf _ _ hv;have Bk:i<fs.length:=by rw[hF.len];exact q
   exact(EI i _ _ (bq Bk) hb).1)]
  exact aF _ _
 go_enter func248,ntmps248
 go_wp2;go_ret;exact HP
def lI.keep{cells:List aw}(h:lI B w e pv gv ev fv lv)(hv:w.ownsRow B 58 10 v n cells)(hg:w.grownBy w' v.ownBlock):lI B w' e pv gv ev fv lv:=by
 rcases hv.2 with⟨rfl,_⟩|⟨g,cap,cur,rfl,_,cM,_⟩
 ·have hb:=(aF _ _).grown hg (aR _) (λk hk=>by simp[dF]at hk);exact h.below hb
 exact h.other hg cM
def gp(B:Nat)(w:ak)(v:aw)(es:List aM):Prop:=
 ∃cells,w.ownsRow B 58 10 v es.length cells/\∀i e,es[i]?=J e->∃pv gv ev fv lv,lI B w e pv gv ev fv lv/\∀j u,(nU e pv gv ev fv lv)[j]?=J u->cells[i*10+j]?=J u
def gp.az(h:gp B w v es):eU w v es:=by
 obtain⟨cells,ho,hp⟩:=h
 rcases id ho.2 with⟨rfl,h0⟩|⟨g,cap,cur,rfl,hB,r⟩
 ·have:=kV h0;subst this;exact⟨_,0,rfl,λe=>absurd rfl e⟩
 refine⟨_,cap,rfl,λ_=>⟨g,0,rfl,λi e he=>?_⟩⟩;obtain⟨pv,gv,ev,fv,lv,h1,h2⟩:=hp i e he
 refine⟨pv,gv,ev,fv,lv,h1.parts,λj u hu=>?_⟩;have:=ho.cells (g:=g) rfl _ u (h2 j u hu);rw[kM]at this;rw[qh];exact this
def gp.nil(B:Nat)(w:ak):gp B w (aj I 0 0) []:=⟨[],gF _ _ _ _,λi e h=>by simp at h⟩
def gp.below(h:gp B w v es)(hb:Below w.heap.size w w'):gp B w' v es:=by
 obtain⟨cells,ho,hp⟩:=h
 refine⟨_,ho.kept (row:=I) ⟨hb.os,hb.tape,hb.output,hb.size,λk hk _=>hb.block k hk⟩ (by by_cases e:v.ownBlock=I;exact aT e;exact aN e),λi e he=>?_⟩;obtain⟨pv,gv,ev,fv,lv,h1,h2⟩:=hp i e he;exact⟨pv,gv,ev,fv,lv,h1.below hb,h2⟩
def gp.other(h:gp B w v es)(hg:w.grownBy w' (J b)){c:Array aw}{fr:Nat×Nat}(hb:w.heap[b]?=J (ay c 24 fr)):gp B w' v es:=by
 obtain⟨cells,ho,hp⟩:=h;have hne:v.ownBlock≠J b:=by
  rcases ho.2 with⟨rfl,_⟩|⟨g,cap,cur,rfl,_,cM,_⟩
  ·simp[dF]
  intro e;simp only[dF,dJ]at e;subst e;rw[cM]at hb;simp only[dJ,kY]at hb;exact absurd hb.2.1 (ar rfl)
 refine⟨_,ho.kept hg (aN hne),λi e he=>?_⟩;obtain⟨pv,gv,ev,fv,lv,h1,h2⟩:=hp i e he;exact⟨pv,gv,ev,fv,lv,⟨h1.hp.other hg hb (ar rfl),h1.hg.other hg hb (ar rfl),h1.he.other hg hb (ar rfl),h1.hf.other hg hb (ar rfl),h1.hl.other hg hb (ar rfl)⟩,h2⟩
def gp.append{w':ak}{v':aw}{cells:List aw}(ho:w.ownsRow B 58 10 v es.length cells)(hp:∀i e,es[i]?=J e->∃pv gv ev fv lv,lI B w e pv gv ev fv lv/\∀j u,(nU e pv gv ev fv lv)[j]?=J u->cells[i*10+j]?=J u)
  (hg:w.grownBy w' v.ownBlock) (zv:w'.ownsRow B 58 10 v' (es.length+1) (cells++(nU e pv gv ev fv lv).toList)) (hP:lI B w e pv gv ev fv lv):gp B w' v' (es++[e]):=by
 refine⟨_,by rw[cY];exact zv,λi x hx=>?_⟩;have hl:=ho.1
 by_cases hi:i<es.length
 ·rw[ly hi]at hx;obtain⟨a1,a2,a3,a4,a5,h1,h2⟩:=hp i x hx
  refine⟨a1,a2,a3,a4,a5,h1.keep ho hg,λj u hu=>?_⟩;have hj:j<10:=by have:=(Bb.1 hu).1;exact this
  rw[ly (by omega)];exact h2 j u hu
 rw[jX (by omega)]at hx;have mr:i-es.length=0:=by
  rcases vr (i-es.length)with h|h
  ·exact h
  rw[jb (by simp;omega)]at hx;cases hx
 rw[mr]at hx;simp at hx
 subst hx
 refine⟨pv,gv,ev,fv,lv,hP.keep ho hg,λj u hu=>?_⟩;have TP:i=es.length:=by omega
 rw[jX (by rw[hl,TP];omega),hl,TP,yG,qR];exact hu
def TQ:(prog.info? 58).map (λi=>(i.zero,i.size,i.bytes))=J (J (bK #[aA ⟨#[]⟩,ae af 0,aj I 0 0,ae af 0,ae af 0,ae af 0,aj I 0 0,aj I 0 0,aj I 0 0,aj I 0 0]),10,168):=by kernel_rfl
def qI:(prog.info? 24).map (·.size)=J 5:=by kernel_rfl
def agG(c:aX)(sa:Option aC)(sc:Nat)(w:ak)(hE:eU w (aj sa c.az.length sc) c.az)(hS:kJ c):Calls prog 8 #[.agg (cR c sa sc)] w λv w'=>(∃bQ qJ,v=ax (.agg (cR c bQ qJ))/\gp w.heap.size w' (aj bQ c.az.length qJ) c.az)/\Below w.heap.size w w':=by
 unfold cR;obtain⟨inf,hi,hz0,hz1,hz2⟩:=iw TQ;have HE:U (eU w _ _):=hE;change U _ at hS
 go_enter func8,ntmps8
 go_upto_region 3 with fail
 obtain⟨V0,ia⟩:∃V,V=((w.alloc (ay (cR c sa sc) 24)).alloc (ay #[ae af 0,ae af 0,ae af 0,ae af 0,aj I 0 0] 24)).alloc (ay #[ae af c.closed,ae af c.opn,ae af c.cycle,ae af c.bE,aj I 0 0] 24):=⟨_,rfl⟩;rw[<- ia];have mN:U (Below w.heap.size w V0):=by show Below _ _ _;rw[ia];exact((aF _ _).alloc (aR _) _ |>.alloc (by simp) _).alloc (by simp;omega) _
 have gN:U (V0.heap[w.heap.size]?=J (ay (cR c sa sc) 24 (0,0))):=by
  show _=_
  rw[ia];exact a8 (((aF _ _).alloc (aR _) _).alloc (by simp) _) (cj w _)
 have qY:U (V0.heap[w.heap.size+1]?=J (ay #[ae af 0,ae af 0,ae af 0,ae af 0,aj I 0 0] 24 (0,0))):=by
  show _=_
  rw[ia];exact a8 ((aF _ _).alloc (aR _) _) (by have:=cj (w.alloc (ay (cR c sa sc) 24)) (ay #[ae af 0,ae af 0,ae af 0,ae af 0,aj I 0 0] 24);simpa using this)
 have mO:U (V0.heap[w.heap.size+2]?=J (ay #[ae af c.closed,ae af c.opn,ae af c.cycle,ae af c.bE,aj I 0 0] 24 (0,0))):=by
  show _=_
  rw[ia];have:=cj ((w.alloc (ay (cR c sa sc) 24)).alloc (ay #[ae af 0,ae af 0,ae af 0,ae af 0,aj I 0 0] 24)) (ay #[ae af c.closed,ae af c.opn,ae af c.cycle,ae af c.bE,aj I 0 0] 24);simpa using this
 go_wp2_with fail
 go_loopw [4,5] (λi _ wr=>∃(k:Nat) (bQ:Option aC) (qJ:Nat),k<=c.az.length/\i=ae af k/\gp w.heap.size wr (aj bQ k qJ) (c.az.take k)/\wr.heap[w.heap.size]?=J (ay (cR c sa sc) 24 (0,0))/\wr.heap[w.heap.size+1]?=J (ay #[ae af 0,ae af 0,ae af 0,ae af 0,aj I 0 0] 24 (0,0))/\wr.heap[w.heap.size+2]?=J (ay #[ae af c.closed,ae af c.opn,ae af c.cycle,ae af c.bE,aj bQ k qJ] 24 (0,0))/\Below w.heap.size w wr) (λi _ _=>c.az.length-(intOf i).toNat)
 case atStart=>exact⟨0,_,0,bA _,rfl,by simpa using gp.nil _ _,gN,qY,mO,mN⟩
 case round=>
  obtain⟨k,bQ,qJ,hk,rfl,hown,hx,hr,ho,hbl⟩:=hrel;have s4:wr.cell? (ai w.heap.size 4 I)=J (aj sa c.az.length sc):=by simp[aH,hx]
  by_cases hlt:k<c.az.length
  ·obtain⟨e,hq⟩:∃e,c.az[k]?=J e:=⟨_,bq hlt⟩;obtain⟨JB,xi,bH,hcc⟩:=HE.o
   cases bH
   obtain⟨b,o,rfl,hc0⟩:=hcc (λh=>by rw[h]at hq;simp at hq);obtain⟨pv,gv,ev,fv,lv,fO,hcell⟩:=hc0 k e hq;obtain⟨pa,pc,rfl,-,-⟩:=id fO.hp;obtain⟨ga,gc,rfl,-,-⟩:=id fO.hg;obtain⟨ea,ec,rfl,-,-⟩:=id fO.he;obtain⟨fa,fc,rfl,-,-⟩:=id fO.hf;obtain⟨la,lc,rfl,-,-⟩:=id fO.hl;have c0:wr.cell? ⟨b,o+k*10,_⟩=J (aA _):=aJ hbl (hcell 0 _ rfl);have c1:wr.cell? _=J (ae af _):=aJ hbl (hcell 1 _ rfl);have c2:wr.cell? _=J (aj pa _ pc):=aJ hbl (hcell 2 _ rfl);have c3:wr.cell? _=J (ae af _):=aJ hbl (hcell 3 _ rfl);have c4:wr.cell? _=J (ae af _):=aJ hbl (hcell 4 _ rfl);have c5:wr.cell? _=J (ae af _):=aJ hbl (hcell 5 _ rfl);have c6:wr.cell? _=J (aj ga _ gc):=aJ hbl (hcell 6 _ rfl);have c7:wr.cell? _=J (aj ea _ ec):=aJ hbl (hcell 7 _ rfl);have c8:wr.cell? _=J (aj fa _ fc):=aJ hbl (hcell 8 _ rfl);have c9:wr.cell? _=J (aj la _ lc):=aJ hbl (hcell 9 _ rfl);have HC:U _:=aa3 _ e pa ga ea fa la pc gc ec fc lc wr (fO.below hbl) (hS.he e (bP hq)) hbl.size;have MQ:U (gp _ wr _ _):=hown;change U _ at hx hr ho hbl
   have k1:(k:Int)<(c.az.length:Int):=by omega
   have k0:k<1000000:=by have:=hS.hn;omega
   have HK:U ((c.az.take k).length=k):=by show _=_;simp;omega
   clear hcell fO hcc hc0 hown;change U _ at hq;go_wp2_with fail
   refine aO HC.o ?_;rintro v W1 ⟨⟨gO,gP,iz,iA,iW,iX,jA,jB,ko,kq,rfl,agH⟩,hb1⟩;obtain⟨x_,Cg⟩:∃V,V=(W1.alloc (ay (eR e gO gP iz iA iW iX jA jB ko kq) 58)).alloc (ay (eR e gO gP iz iA iW iX jA jB ko kq) 58):=⟨_,rfl⟩;have ki:Below wr.heap.size wr x_:=by rw[Cg];exact(hb1.alloc hb1.size _).alloc (by have:=hb1.size;simp;omega) _
   have sS:U _:=a8 ki ho;have o4:∀o1,(W1.alloc o1).cell? ⟨w.heap.size+2,4,I⟩=J (aj bQ k qJ):=λo1=>by
    have:=a8 (hb1.alloc hb1.size o1) ho;simp[aH,this]
   obtain⟨cells,hrow,zg⟩:=MQ.below ki;rw[HK.o]at hrow;have d_:U (x_.ownsRow _ 58 10 _ k _):=hrow;change U _ at zg
   have MR:U (lI w.heap.size x_ e (aj gO e.au.length gP) (aj iz e.aV.length iA) (aj iW e.aP.length iX) (aj jA e.first.length jB) (aj ko e.last.length kq)):=by
    have:Below W1.heap.size W1 x_:=by rw[Cg];exact((aF _ _).alloc (aR _) _).alloc (by simp) _
    exact agH.below this
   have agI:U (∀(j:Nat) u,([aA e.name,ae af e.bh,aj gO e.au.length gP,ae af e.cnt,ae af e.mn,ae af e.mx,aj iz e.aV.length iA,aj iW e.aP.length iX,aj jA e.first.length jB,aj ko e.last.length kq]:List _)[j]?=J u->x_.cell? ((⟨W1.heap.size+1,0,I⟩:aC).add j)=J u):=λj u hu=>by
    rw[kM,Cg,show W1.heap.size+1=(W1.alloc _).heap.size by simp,lD,dr _ _ _ _ rfl];have e2:((eR e gO gP iz iA iW iX jA jB ko kq):Array aw)[j]?=([aA e.name,ae af e.bh,aj gO e.au.length gP,ae af e.cnt,ae af e.mn,ae af e.mx,aj iz e.aV.length iA,aj iW e.aP.length iX,aj jA e.first.length jB,aj ko e.last.length kq]:List aw)[j]?:=by rw[<- qR]
    exact e2.trans hu
   have o7:U (w.heap.size<=x_.heap.size/\x_.heap.size=W1.heap.size+2):=⟨bp hbl.size ki.size,by rw[Cg];simp⟩;change U _ at ki Cg
   have EJ:U ((Value.slice bQ k qJ).ownBlock≠J (w.heap.size+2)):=by
    show _≠_
    rcases d_.2 with⟨e1,_⟩|⟨g,cap,cur,e1,_,cM,_⟩
    ·rw[e1];simp[dF]
    rw[e1];intro e2;simp only[dF,dJ]at e2;rw[e2,sS.o]at cM;simp only[dJ,kY]at cM;exact absurd cM.2.1 (ar rfl)
   go_wp2_with (at_builtin;rw[<- Cg.o];refine pz x_ rfl _ _ 22 rfl _ 58 inf _ 10 168 underlying22 hi hz0 hz1 hz2 rfl (ar rfl) (aj bQ k qJ) k _ rfl d_ ⟨W1.heap.size+1,0,I⟩ 1 1 [aA e.name,ae af e.bh,aj gO e.au.length gP,ae af e.cnt,ae af e.mn,ae af e.mx,aj iz e.aV.length iA,aj iW e.aP.length iX,aj jA e.first.length jB,aj ko e.last.length kq] rfl rfl agI (by simp[Value.oneCell']) (by unfold maxLen;omega) (by omega) o7.1 ?_;intro v' W2 gJ hg2 D_;obtain⟨vU,vV,rfl⟩:∃a3 c3,v'=aj a3 (k+1) c3:=(by rcases gJ.2 with⟨_,h0⟩|⟨g,cap,cur,hv,_⟩;(exact absurd h0 (by omega));exact⟨_,_,hv⟩);have eW:U _:=(hg2.block _ (bL sS) (λe=>EJ e.symm)).trans sS.o;have d4:W2.cell? ⟨w.heap.size+2,4,I⟩=J (aj bQ k qJ):=(by have:=eW.o;simp[aH,this]);have f4:W2.frozen? ⟨w.heap.size+2,4,I⟩=false:=(by have:=eW.o;simp[bM,this]))
   have HN:U (gp _ W2 _ _):=gp.append (by rw[HK.o];exact d_) zg hg2 (by rw[HK.o];exact gJ) MR;have cB:U _:=(hbl.trans (ki.mono hbl.size)).grown hg2 o7.1 (λg hg=>by
    rcases d_.2 with⟨e1,_⟩|⟨g',cap,cur,e1,an',_⟩
    ·rw[e1]at hg;simp[dF]at hg
    rw[e1]at hg;simp[dF]at hg;omega)
   have keep:∀j,j<2->W2.heap[w.heap.size+j]?=wr.heap[w.heap.size+j]?:=λj hj=>by
    have agJ:w.heap.size+j<wr.heap.size:=by have:=bL ho;omega
    have h1:=ki.block _ agJ;rw[<- h1]
    refine hg2.block _ (by have:=ki.size;omega) (λe2=>?_)
    rcases d_.2 with⟨e1,_⟩|⟨g',cap,cur,e1,_,cM,_⟩
    ·rw[e1]at e2;simp[dF]at e2
    rw[e1]at e2;simp only[dF,dJ]at e2;rw[<- e2,h1]at cM;have:j=0\/j=1:=by omega
    rcases this with rfl|rfl
    ·rw[kH,hx.o]at cM;simp only[dJ,kY]at cM;exact absurd cM.2.1 (ar rfl)
    rw[hr.o]at cM;simp only[dJ,kY]at cM;exact absurd cM.2.1 (ar rfl)
   have qp:U (W2.heap[w.heap.size]?=J (ay (cR c (J (ai b o I)) sc) 24 (0,0))):=by have:=keep 0 (by omega);rw[kH]at this;exact this.trans hx.o
   have bZ:U _:=(keep 1 (by omega)).trans hr.o;have pD:=bJ W2 (w.heap.size+2) 4 (aj vU (k+1) vV);have jS:U (gp w.heap.size (W2.setCell ⟨w.heap.size+2,4,I⟩ (aj vU (k+1) vV)) (aj vU (k+1) vV) (c.az.take (k+1))/\(W2.setCell ⟨w.heap.size+2,4,I⟩ (aj vU (k+1) vV)).heap[w.heap.size]?=J (ay (cR c (J (ai b o I)) sc) 24 (0,0))/\(W2.setCell ⟨w.heap.size+2,4,I⟩ (aj vU (k+1) vV)).heap[w.heap.size+1]?=J (ay #[ae af 0,ae af 0,ae af 0,ae af 0,aj I 0 0] 24 (0,0))/\(W2.setCell ⟨w.heap.size+2,4,I⟩ (aj vU (k+1) vV)).heap[w.heap.size+2]?=J (ay #[ae af c.closed,ae af c.opn,ae af c.cycle,ae af c.bE,aj vU (k+1) vV] 24 (0,0))/\Below w.heap.size w (W2.setCell ⟨w.heap.size+2,4,I⟩ (aj vU (k+1) vV))):=by
    refine⟨?_,(pD.block _ (bL qp) (by simp)).trans qp.o,(pD.block _ (bL bZ) (by simp)).trans bZ.o,?_,cB.grown pD cB.size (λj hj=>by cases hj;omega)⟩
    ·rw[eI,hq.o];exact HN.other pD eW
    have:=eW.o;simp[bN,cL,this]
   go_roundw
   case rel=>exact⟨_,vU,vV,by omega,by go_num,jS.1,jS.2.1,jS.2.2.1,jS.2.2.2.1,jS.2.2.2.2⟩
   case measure=>simp[intOf];omega
  have k1:¬(k:Int)<(c.az.length:Int):=by omega
  obtain rfl:k=c.az.length:=by omega
  rw[mL]at hown;have MQ:U (gp _ wr _ _):=hown;change U _ at hr ho hbl
  go_wp2_with (first|(refine pB rfl 24 _ rfl _ rfl _ _ _ _ ho underlying24 rfl qI ?_)|(refine iQ rfl 24 _ _ rfl _ _ rfl rfl 24 _ hr qI rfl (by simp[Value.oneCell']) ?_))
  have hgr:=qm wr (w.heap.size+1) (cR c bQ qJ);have hres:(wr.setRow _ _).heap[w.heap.size+1]?=J (ay (cR c bQ qJ) 24 (0,0)):=kj _ hr
  refine dL (mK rfl _ _ _ _ _ _ _ rfl hres underlying24 rfl qI) rfl ?_;exact⟨⟨bQ,qJ,rfl,MQ.other hgr hr⟩,hbl.grown hgr hbl.size (λj hj=>by cases hj;omega)⟩
end Go.Proofs.YtgjlihibabmgcaaGreatDoor
