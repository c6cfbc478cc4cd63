/-
  Several texts as one: CfPart1, CfPart2, CfRuled.
-/
import Derived.Test.YtffpcbdlbcjihadGreatDoorP23S
namespace Go.Proofs.YtffpcbdlbcjihadGreatDoor
open Go.RowKit Go.Extern.Stop Go.Stop Go.Extern
theorem slat1 (w:World)(a:Int)(t:TypeId):SlAt encI 1 (w.alloc (.cells #[.int .i64 a] t)) (.slice (some ⟨w.heap.size,0,none⟩) 1 1) [a]:=by
 refine⟨_,_,rfl,Nat.le_refl _,fun _=>⟨_,_,rfl,fun i x hx j u hu=>?_⟩⟩
 match i,hx with
 | 0,hx=>
  cases hx
  match j,hu with
  | 0,hu=>cases hu;simp
  | j+1,hu=>cases hu
 | i+1,hx=>cases hx
theorem slat2 (w:World)(a b:Int)(t:TypeId):SlAt encI 1 (w.alloc (.cells #[.int .i64 a,.int .i64 b] t)) (.slice (some ⟨w.heap.size,0,none⟩) 2 2) [a,b]:=by
 refine⟨_,_,rfl,Nat.le_refl _,fun _=>⟨_,_,rfl,fun i x hx j u hu=>?_⟩⟩
 match i,hx with
 | 0,hx=>
  cases hx
  match j,hu with
  | 0,hu=>cases hu;simp
  | j+1,hu=>cases hu
 | 1,hx=>
  cases hx
  match j,hu with
  | 0,hu=>cases hu;simp
  | j+1,hu=>cases hu
 | i+2,hx=>cases hx
theorem slat1b (w:World)(o:Obj)(a:Int)(t:TypeId):SlAt encI 1 ((w.alloc o).alloc (.cells #[.int .i64 a] t)) (.slice (some ⟨w.heap.size+1,0,none⟩) 1 1) [a]:=by
 rw[show w.heap.size+1=(w.alloc o).heap.size by simp];exact slat1 _ a t
theorem slat2b (w:World)(o:Obj)(a b:Int)(t:TypeId):SlAt encI 1 ((w.alloc o).alloc (.cells #[.int .i64 a,.int .i64 b] t)) (.slice (some ⟨w.heap.size+1,0,none⟩) 2 2) [a,b]:=by
 rw[show w.heap.size+1=(w.alloc o).heap.size by simp];exact slat2 _ a b t
def BoxAt (W:World)(B:Nat)(row:Array Value):Prop:=∀ j v,row[j]?=some v->W.cell? ⟨B,j,none⟩=some v
theorem BoxAt.below {W W':World}{B:Nat}{row:Array Value}(h:BoxAt W B row)(hb:Below W.heap.size W W'):BoxAt W' B row:=fun j v e=>cell_below hb (h j v e)
theorem BoxAt.new (w:World)(row:Array Value)(t:TypeId):BoxAt (w.alloc (.cells row t)) w.heap.size row:=fun j v e=>by rw[World.cell?_alloc_at _ _ _ _ rfl];exact e
set_option maxHeartbeats 400000 in
theorem part1_at (nm:ByteArray)(tol cnt mn mx:Int)(pa ga ea fa la:Option Addr)(pn pc gn gc en ec fn fc ln lc:Nat)  (w:World):Calls Tryz.prog 190 #[.agg #[.string nm,.int .i64 tol,.slice pa pn pc,.int .i64 cnt,.int .i64 mn,.int .i64 mx,.slice ga gn gc,.slice ea en ec,.slice fa fn fc,.slice la ln lc]] w fun e w'=>e=.returned (.bool (decide (cnt≠-1) && lacks pn cnt))/\Below w.heap.size w w':=by
 by_cases h:cnt=-1
 ·subst h;go_enter Tryz.func190,Tryz.ntmps190
  go_wp2;go_ret;exact⟨rfl,Below.one _ _⟩
 ·have hd:(cnt == -1)=false:=by simpa using h
  have hd2:(cnt != -1)=true:=by simpa using h
  have H:=lacks_at nm tol cnt mn mx pa ga ea fa la pn pc gn gc en ec fn fc ln lc _ [cnt] _ (slat1b w (.cells #[.string nm,.int .i64 tol,.slice pa pn pc,.int .i64 cnt,.int .i64 mn,.int .i64 mx,.slice ga gn gc,.slice ea en ec,.slice fa fn fc,.slice la ln lc] 83) cnt 3) (by simp);simp only[List.any_cons,List.any_nil,Bool.or_false] at H;have HH:Hid _:=H;have hr:(decide (cnt≠-1) && lacks pn cnt)=lacks pn cnt:=by simp[h]
  rw[hr];have HD:Hid (cnt≠-1):=h;clear H h hr;go_enter Tryz.func190,Tryz.ntmps190
  go_wp2_with fail
  refine Calls.mono HH.out ?_;rintro e w' ⟨rfl,hb⟩;go_wp2;go_ret;exact⟨rfl,((Below.one _ _).alloc (by simp) _).trans (hb.mono (by simp;omega))⟩
set_option maxHeartbeats 1000000 in
theorem part21_at (nm:ByteArray)(tol cnt mn mx:Int)(pa ga ea fa la:Option Addr)(pn pc gn gc en ec fn fc ln lc:Nat)(x:GapD)(B:Nat)(W:World)(hB:BoxAt W B #[.string nm,.int .i64 tol,.slice pa pn pc,.int .i64 cnt,.int .i64 mn,.int .i64 mx,.slice ga gn gc,.slice ea en ec,.slice fa fn fc,.slice la ln lc]):Calls Tryz.prog 194 #[.agg #[.int .i64 x.fr,.int .i64 x.to,.int .i64 x.mn,.int .i64 x.mx],.pointer (some ⟨B,0,none⟩)] W fun e w'=>e=.returned (.bool (lacks pn x.fr || lacks pn x.to))/\Below W.heap.size W w':=by
 have b0:∀ o,(W.alloc o).cell? ⟨B,0,none⟩=some (.string nm):=fun o=>cell_below (Below.one _ _) (hB 0 _ rfl)
 have b1:∀ o,(W.alloc o).cell? ⟨B,1,none⟩=some (.int .i64 tol):=fun o=>cell_below (Below.one _ _) (hB 1 _ rfl)
 have b2:∀ o,(W.alloc o).cell? ⟨B,2,none⟩=some (.slice pa pn pc):=fun o=>cell_below (Below.one _ _) (hB 2 _ rfl)
 have b3:∀ o,(W.alloc o).cell? ⟨B,3,none⟩=some (.int .i64 cnt):=fun o=>cell_below (Below.one _ _) (hB 3 _ rfl)
 have b4:∀ o,(W.alloc o).cell? ⟨B,4,none⟩=some (.int .i64 mn):=fun o=>cell_below (Below.one _ _) (hB 4 _ rfl)
 have b5:∀ o,(W.alloc o).cell? ⟨B,5,none⟩=some (.int .i64 mx):=fun o=>cell_below (Below.one _ _) (hB 5 _ rfl)
 have b6:∀ o,(W.alloc o).cell? ⟨B,6,none⟩=some (.slice ga gn gc):=fun o=>cell_below (Below.one _ _) (hB 6 _ rfl)
 have b7:∀ o,(W.alloc o).cell? ⟨B,7,none⟩=some (.slice ea en ec):=fun o=>cell_below (Below.one _ _) (hB 7 _ rfl)
 have b8:∀ o,(W.alloc o).cell? ⟨B,8,none⟩=some (.slice fa fn fc):=fun o=>cell_below (Below.one _ _) (hB 8 _ rfl)
 have b9:∀ o,(W.alloc o).cell? ⟨B,9,none⟩=some (.slice la ln lc):=fun o=>cell_below (Below.one _ _) (hB 9 _ rfl)
 have H:=lacks_at nm tol cnt mn mx pa ga ea fa la pn pc gn gc en ec fn fc ln lc _ [x.fr,x.to] _ (slat2b W (.cells #[.int .i64 x.fr,.int .i64 x.to,.int .i64 x.mn,.int .i64 x.mx] 96) (x.fr) (x.to) 3) (by simp);simp only[List.any_cons,List.any_nil,Bool.or_false] at H;have HH:Hid _:=H;clear H hB;go_enter Tryz.func194,Tryz.ntmps194
 go_wp2_with fail
 refine Calls.mono HH.out ?_;rintro e w' ⟨rfl,hb⟩;go_wp2;go_ret;exact⟨rfl,((Below.one _ _).alloc (by simp) _).trans (hb.mono (by simp;omega))⟩
set_option maxHeartbeats 1000000 in
theorem part31_at (nm:ByteArray)(tol cnt mn mx:Int)(pa ga ea fa la:Option Addr)(pn pc gn gc en ec fn fc ln lc:Nat)(x:(Int × Int))(B:Nat)(W:World)(hB:BoxAt W B #[.string nm,.int .i64 tol,.slice pa pn pc,.int .i64 cnt,.int .i64 mn,.int .i64 mx,.slice ga gn gc,.slice ea en ec,.slice fa fn fc,.slice la ln lc]):Calls Tryz.prog 197 #[.agg #[.int .i64 x.1,.int .i64 x.2],.pointer (some ⟨B,0,none⟩)] W fun e w'=>e=.returned (.bool (lacks pn x.1 || lacks pn x.2))/\Below W.heap.size W w':=by
 have b0:∀ o,(W.alloc o).cell? ⟨B,0,none⟩=some (.string nm):=fun o=>cell_below (Below.one _ _) (hB 0 _ rfl)
 have b1:∀ o,(W.alloc o).cell? ⟨B,1,none⟩=some (.int .i64 tol):=fun o=>cell_below (Below.one _ _) (hB 1 _ rfl)
 have b2:∀ o,(W.alloc o).cell? ⟨B,2,none⟩=some (.slice pa pn pc):=fun o=>cell_below (Below.one _ _) (hB 2 _ rfl)
 have b3:∀ o,(W.alloc o).cell? ⟨B,3,none⟩=some (.int .i64 cnt):=fun o=>cell_below (Below.one _ _) (hB 3 _ rfl)
 have b4:∀ o,(W.alloc o).cell? ⟨B,4,none⟩=some (.int .i64 mn):=fun o=>cell_below (Below.one _ _) (hB 4 _ rfl)
 have b5:∀ o,(W.alloc o).cell? ⟨B,5,none⟩=some (.int .i64 mx):=fun o=>cell_below (Below.one _ _) (hB 5 _ rfl)
 have b6:∀ o,(W.alloc o).cell? ⟨B,6,none⟩=some (.slice ga gn gc):=fun o=>cell_below (Below.one _ _) (hB 6 _ rfl)
 have b7:∀ o,(W.alloc o).cell? ⟨B,7,none⟩=some (.slice ea en ec):=fun o=>cell_below (Below.one _ _) (hB 7 _ rfl)
 have b8:∀ o,(W.alloc o).cell? ⟨B,8,none⟩=some (.slice fa fn fc):=fun o=>cell_below (Below.one _ _) (hB 8 _ rfl)
 have b9:∀ o,(W.alloc o).cell? ⟨B,9,none⟩=some (.slice la ln lc):=fun o=>cell_below (Below.one _ _) (hB 9 _ rfl)
 have H:=lacks_at nm tol cnt mn mx pa ga ea fa la pn pc gn gc en ec fn fc ln lc _ [x.1,x.2] _ (slat2b W (.cells #[.int .i64 x.1,.int .i64 x.2] 97) (x.1) (x.2) 3) (by simp);simp only[List.any_cons,List.any_nil,Bool.or_false] at H;have HH:Hid _:=H;clear H hB;go_enter Tryz.func197,Tryz.ntmps197
 go_wp2_with fail
 refine Calls.mono HH.out ?_;rintro e w' ⟨rfl,hb⟩;go_wp2;go_ret;exact⟨rfl,((Below.one _ _).alloc (by simp) _).trans (hb.mono (by simp;omega))⟩
set_option maxHeartbeats 400000 in
theorem part2_at (nm:ByteArray)(tol cnt mn mx:Int)(pa ga ea fa la:Option Addr)(pn pc gn gc en ec fn fc ln lc:Nat)(xs:List GapD)(w:World)(hv:SlAt encG 4 w (.slice ga gn gc) xs)(hn:xs.length<=1000000):Calls Tryz.prog 192 #[.agg #[.string nm,.int .i64 tol,.slice pa pn pc,.int .i64 cnt,.int .i64 mn,.int .i64 mx,.slice ga gn gc,.slice ea en ec,.slice fa fn fc,.slice la ln lc]] w fun e w'=>e=.returned (.bool (xs.any fun x=>lacks pn x.fr || lacks pn x.to))/\Below w.heap.size w w':=by
 have H:=any_gap _ xs (fun x=>lacks pn x.fr || lacks pn x.to) 194 #[.pointer (some ⟨w.heap.size,0,none⟩)] _ (hv.below (Below.one w (.cells #[.string nm,.int .i64 tol,.slice pa pn pc,.int .i64 cnt,.int .i64 mn,.int .i64 mx,.slice ga gn gc,.slice ea en ec,.slice fa fn fc,.slice la ln lc] 83))) hn (enters_of Tryz.func194 (by kernel_rfl) rfl) (fun W hb x _=>part21_at nm tol cnt mn mx pa ga ea fa la pn pc gn gc en ec fn fc ln lc x w.heap.size W ((BoxAt.new w _ _).below hb));have HH:Hid _:=H;clear H hv hn;go_enter Tryz.func192,Tryz.ntmps192
 go_wp2_with fail
 refine Calls.mono HH.out ?_;rintro e w' ⟨rfl,hb⟩;go_wp2;go_ret;exact⟨rfl,(Below.one _ _).trans (hb.mono (by simp))⟩
set_option maxHeartbeats 400000 in
theorem part3_at (nm:ByteArray)(tol cnt mn mx:Int)(pa ga ea fa la:Option Addr)(pn pc gn gc en ec fn fc ln lc:Nat)(xs:List (Int × Int))(w:World)(hv:SlAt encP 2 w (.slice ea en ec) xs)(hn:xs.length<=1000000):Calls Tryz.prog 195 #[.agg #[.string nm,.int .i64 tol,.slice pa pn pc,.int .i64 cnt,.int .i64 mn,.int .i64 mx,.slice ga gn gc,.slice ea en ec,.slice fa fn fc,.slice la ln lc]] w fun e w'=>e=.returned (.bool (xs.any fun x=>lacks pn x.1 || lacks pn x.2))/\Below w.heap.size w w':=by
 have H:=any_pair _ xs (fun x=>lacks pn x.1 || lacks pn x.2) 197 #[.pointer (some ⟨w.heap.size,0,none⟩)] _ (hv.below (Below.one w (.cells #[.string nm,.int .i64 tol,.slice pa pn pc,.int .i64 cnt,.int .i64 mn,.int .i64 mx,.slice ga gn gc,.slice ea en ec,.slice fa fn fc,.slice la ln lc] 83))) hn (enters_of Tryz.func197 (by kernel_rfl) rfl) (fun W hb x _=>part31_at nm tol cnt mn mx pa ga ea fa la pn pc gn gc en ec fn fc ln lc x w.heap.size W ((BoxAt.new w _ _).below hb));have HH:Hid _:=H;clear H hv hn;go_enter Tryz.func195,Tryz.ntmps195
 go_wp2_with fail
 refine Calls.mono HH.out ?_;rintro e w' ⟨rfl,hb⟩;go_wp2;go_ret;exact⟨rfl,(Below.one _ _).trans (hb.mono (by simp))⟩
set_option maxHeartbeats 400000 in
theorem part4_at (nm:ByteArray)(tol cnt mn mx:Int)(pa ga ea fa la:Option Addr)(pn pc gn gc en ec fn fc ln lc:Nat)(xs:List Int)(w:World)(hv:SlAt encI 1 w (.slice fa fn fc) xs)(hn:xs.length<=1000000):Calls Tryz.prog 198 #[.agg #[.string nm,.int .i64 tol,.slice pa pn pc,.int .i64 cnt,.int .i64 mn,.int .i64 mx,.slice ga gn gc,.slice ea en ec,.slice fa fn fc,.slice la ln lc]] w fun e w'=>e=.returned (.bool (xs.any fun x=>lacks pn x))/\Below w.heap.size w w':=by
 have H:=lacks_at nm tol cnt mn mx pa ga ea fa la pn pc gn gc en ec fn fc ln lc _ xs _ (hv.below (Below.one w (.cells #[.string nm,.int .i64 tol,.slice pa pn pc,.int .i64 cnt,.int .i64 mn,.int .i64 mx,.slice ga gn gc,.slice ea en ec,.slice fa fn fc,.slice la ln lc] 83))) hn;have HH:Hid _:=H;clear H hv hn;go_enter Tryz.func198,Tryz.ntmps198
 go_wp2_with fail
 refine Calls.mono HH.out ?_;rintro e w' ⟨rfl,hb⟩;go_wp2;go_ret;exact⟨rfl,(Below.one _ _).trans (hb.mono (by simp))⟩
set_option maxHeartbeats 400000 in
theorem part5_at (nm:ByteArray)(tol cnt mn mx:Int)(pa ga ea fa la:Option Addr)(pn pc gn gc en ec fn fc ln lc:Nat)(xs:List Int)(w:World)(hv:SlAt encI 1 w (.slice la ln lc) xs)(hn:xs.length<=1000000):Calls Tryz.prog 199 #[.agg #[.string nm,.int .i64 tol,.slice pa pn pc,.int .i64 cnt,.int .i64 mn,.int .i64 mx,.slice ga gn gc,.slice ea en ec,.slice fa fn fc,.slice la ln lc]] w fun e w'=>e=.returned (.bool (xs.any fun x=>lacks pn x))/\Below w.heap.size w w':=by
 have H:=lacks_at nm tol cnt mn mx pa ga ea fa la pn pc gn gc en ec fn fc ln lc _ xs _ (hv.below (Below.one w (.cells #[.string nm,.int .i64 tol,.slice pa pn pc,.int .i64 cnt,.int .i64 mn,.int .i64 mx,.slice ga gn gc,.slice ea en ec,.slice fa fn fc,.slice la ln lc] 83))) hn;have HH:Hid _:=H;clear H hv hn;go_enter Tryz.func199,Tryz.ntmps199
 go_wp2_with fail
 refine Calls.mono HH.out ?_;rintro e w' ⟨rfl,hb⟩;go_wp2;go_ret;exact⟨rfl,(Below.one _ _).trans (hb.mono (by simp))⟩
set_option maxHeartbeats 400000 in
theorem part6_at (nm:ByteArray)(tol cnt mn mx:Int)(pa ga ea fa la:Option Addr)(pn pc gn gc en ec fn fc ln lc:Nat)  (w:World):Calls Tryz.prog 200 #[.agg #[.string nm,.int .i64 tol,.slice pa pn pc,.int .i64 cnt,.int .i64 mn,.int .i64 mx,.slice ga gn gc,.slice ea en ec,.slice fa fn fc,.slice la ln lc]] w fun e w'=>e=.returned (.bool (decide (cnt=-1) && (decide (mn≠0) || decide (mx≠0))))/\Below w.heap.size w w':=by
 by_cases h:cnt=-1
 ·subst h
  by_cases h1:mn=0
  ·subst h1
   by_cases h2:mx=0
   ·subst h2;go_enter Tryz.func200,Tryz.ntmps200
    go_wp2;go_ret;exact⟨rfl,Below.one _ _⟩
   ·have hd:(mx != 0)=true:=by simpa using h2
    rw[show (decide ((-1:Int)=-1) && (decide ((0:Int)≠0) || decide (mx≠0)))=true by simp[h2]];clear h2;go_enter Tryz.func200,Tryz.ntmps200
    go_wp2;go_ret;exact⟨rfl,Below.one _ _⟩
  ·have hd:(mn != 0)=true:=by simpa using h1
   rw[show (decide ((-1:Int)=-1) && (decide (mn≠0) || decide (mx≠0)))=true by simp[h1]];clear h1;go_enter Tryz.func200,Tryz.ntmps200
   go_wp2;go_ret;exact⟨rfl,Below.one _ _⟩
 ·have hd:(cnt == -1)=false:=by simpa using h
  rw[show (decide (cnt=-1) && (decide (mn≠0) || decide (mx≠0)))=false by simp[h]];clear h;go_enter Tryz.func200,Tryz.ntmps200
  go_wp2;go_ret;exact⟨rfl,Below.one _ _⟩
theorem cell_at1 (w:World)(o:Obj)(row:Array Value)(t:TypeId)(j:Nat)(v:Value)(h:row[j]?=some v):((w.alloc o).alloc (.cells row t)).cell? ⟨w.heap.size+1,j,none⟩=some v:=by
 rw[show w.heap.size+1=(w.alloc o).heap.size by simp,World.cell?_alloc_at _ _ _ _ rfl];exact h
set_option maxHeartbeats 400000 in
theorem part7_at (nm:ByteArray)(tol cnt mn mx:Int)(pa ga ea fa la:Option Addr)(pn pc gn gc en ec fn fc ln lc:Nat)(w:World):Calls Tryz.prog 201 #[.agg #[.string nm,.int .i64 tol,.slice pa pn pc,.int .i64 cnt,.int .i64 mn,.int .i64 mx,.slice ga gn gc,.slice ea en ec,.slice fa fn fc,.slice la ln lc]] w fun e w'=>e=.returned (.bool (!rise 0 mn mx 999))/\Below w.heap.size w w':=by
 have H:=rise_at 0 mn mx 999 (w.heap.size+1) 4 ((w.alloc (.cells #[.string nm,.int .i64 tol,.slice pa pn pc,.int .i64 cnt,.int .i64 mn,.int .i64 mx,.slice ga gn gc,.slice ea en ec,.slice fa fn fc,.slice la ln lc] 83)).alloc (.cells #[.int .i64 0,.int .i64 mn,.int .i64 mx,.int .i64 999] 3)) (cell_at1 w _ _ _ 0 _ rfl) (cell_at1 w _ _ _ 1 _ rfl) (cell_at1 w _ _ _ 2 _ rfl) (cell_at1 w _ _ _ 3 _ rfl);have HH:Hid _:=H;clear H;go_enter Tryz.func201,Tryz.ntmps201
 go_wp2_with fail
 refine Calls.mono HH.out ?_;rintro e w' ⟨rfl,hb⟩;go_wp2;go_ret;exact⟨rfl,((Below.one _ _).alloc (by simp) _).trans (hb.mono (by simp;omega))⟩
set_option maxHeartbeats 400000 in
theorem part81_at (x:GapD)(w:World):Calls Tryz.prog 204 #[.agg #[.int .i64 x.fr,.int .i64 x.to,.int .i64 x.mn,.int .i64 x.mx]] w fun e w'=>e=.returned (.bool (!rise 0 x.mn x.mx 1099511627776))/\Below w.heap.size w w':=by
 have H:=rise_at 0 x.mn x.mx 1099511627776 (w.heap.size+1) 4 ((w.alloc (.cells #[.int .i64 x.fr,.int .i64 x.to,.int .i64 x.mn,.int .i64 x.mx] 96)).alloc (.cells #[.int .i64 0,.int .i64 x.mn,.int .i64 x.mx,.int .i64 1099511627776] 3)) (cell_at1 w _ _ _ 0 _ rfl) (cell_at1 w _ _ _ 1 _ rfl) (cell_at1 w _ _ _ 2 _ rfl) (cell_at1 w _ _ _ 3 _ rfl);have HH:Hid _:=H;clear H;go_enter Tryz.func204,Tryz.ntmps204
 go_wp2_with fail
 refine Calls.mono HH.out ?_;rintro e w' ⟨rfl,hb⟩;go_wp2;go_ret;exact⟨rfl,((Below.one _ _).alloc (by simp) _).trans (hb.mono (by simp;omega))⟩
set_option maxHeartbeats 400000 in
theorem part8_at (nm:ByteArray)(tol cnt mn mx:Int)(pa ga ea fa la:Option Addr)(pn pc gn gc en ec fn fc ln lc:Nat)(xs:List GapD)(w:World)(hv:SlAt encG 4 w (.slice ga gn gc) xs)(hn:xs.length<=1000000):Calls Tryz.prog 203 #[.agg #[.string nm,.int .i64 tol,.slice pa pn pc,.int .i64 cnt,.int .i64 mn,.int .i64 mx,.slice ga gn gc,.slice ea en ec,.slice fa fn fc,.slice la ln lc]] w fun e w'=>e=.returned (.bool (xs.any fun x=>!rise 0 x.mn x.mx 1099511627776))/\Below w.heap.size w w':=by
 have H:=any_gap _ xs (fun x=>!rise 0 x.mn x.mx 1099511627776) 204 #[] _ (hv.below (Below.one w (.cells #[.string nm,.int .i64 tol,.slice pa pn pc,.int .i64 cnt,.int .i64 mn,.int .i64 mx,.slice ga gn gc,.slice ea en ec,.slice fa fn fc,.slice la ln lc] 83))) hn (enters_of Tryz.func204 (by kernel_rfl) rfl) (fun W _ x _=>part81_at x W);have HH:Hid _:=H;clear H hv hn;go_enter Tryz.func203,Tryz.ntmps203
 go_wp2_with fail
 refine Calls.mono HH.out ?_;rintro e w' ⟨rfl,hb⟩;go_wp2;go_ret;exact⟨rfl,(Below.one _ _).trans (hb.mono (by simp))⟩
set_option maxHeartbeats 400000 in
theorem part9_at (nm:ByteArray)(tol cnt mn mx:Int)(pa ga ea fa la:Option Addr)(pn pc gn gc en ec fn fc ln lc:Nat)(xs:List (Int × Int))(w:World)(hv:SlAt encP 2 w (.slice ea en ec) xs)(hn:xs.length<=1000000):Calls Tryz.prog 205 #[.agg #[.string nm,.int .i64 tol,.slice pa pn pc,.int .i64 cnt,.int .i64 mn,.int .i64 mx,.slice ga gn gc,.slice ea en ec,.slice fa fn fc,.slice la ln lc]] w fun e w'=>e=.returned (.bool (twice xs))/\Below w.heap.size w w':=by
 have H:=twice_pair _ xs _ (hv.below (Below.one w (.cells #[.string nm,.int .i64 tol,.slice pa pn pc,.int .i64 cnt,.int .i64 mn,.int .i64 mx,.slice ga gn gc,.slice ea en ec,.slice fa fn fc,.slice la ln lc] 83))) hn;have HH:Hid _:=H;clear H hv hn;go_enter Tryz.func205,Tryz.ntmps205
 go_wp2_with fail
 refine Calls.mono HH.out ?_;rintro e w' ⟨rfl,hb⟩;go_wp2;go_ret;exact⟨rfl,(Below.one _ _).trans (hb.mono (by simp))⟩
set_option maxHeartbeats 400000 in
theorem part10_at (nm:ByteArray)(tol cnt mn mx:Int)(pa ga ea fa la:Option Addr)(pn pc gn gc en ec fn fc ln lc:Nat)(xs:List Int)(w:World)(hv:SlAt encI 1 w (.slice fa fn fc) xs)(hn:xs.length<=1000000):Calls Tryz.prog 207 #[.agg #[.string nm,.int .i64 tol,.slice pa pn pc,.int .i64 cnt,.int .i64 mn,.int .i64 mx,.slice ga gn gc,.slice ea en ec,.slice fa fn fc,.slice la ln lc]] w fun e w'=>e=.returned (.bool (twice xs))/\Below w.heap.size w w':=by
 have H:=twice_int _ xs _ (hv.below (Below.one w (.cells #[.string nm,.int .i64 tol,.slice pa pn pc,.int .i64 cnt,.int .i64 mn,.int .i64 mx,.slice ga gn gc,.slice ea en ec,.slice fa fn fc,.slice la ln lc] 83))) hn;have HH:Hid _:=H;clear H hv hn;go_enter Tryz.func207,Tryz.ntmps207
 go_wp2_with fail
 refine Calls.mono HH.out ?_;rintro e w' ⟨rfl,hb⟩;go_wp2;go_ret;exact⟨rfl,(Below.one _ _).trans (hb.mono (by simp))⟩
set_option maxHeartbeats 400000 in
theorem part11_at (nm:ByteArray)(tol cnt mn mx:Int)(pa ga ea fa la:Option Addr)(pn pc gn gc en ec fn fc ln lc:Nat)(xs:List Int)(w:World)(hv:SlAt encI 1 w (.slice la ln lc) xs)(hn:xs.length<=1000000):Calls Tryz.prog 209 #[.agg #[.string nm,.int .i64 tol,.slice pa pn pc,.int .i64 cnt,.int .i64 mn,.int .i64 mx,.slice ga gn gc,.slice ea en ec,.slice fa fn fc,.slice la ln lc]] w fun e w'=>e=.returned (.bool (twice xs))/\Below w.heap.size w w':=by
 have H:=twice_int _ xs _ (hv.below (Below.one w (.cells #[.string nm,.int .i64 tol,.slice pa pn pc,.int .i64 cnt,.int .i64 mn,.int .i64 mx,.slice ga gn gc,.slice ea en ec,.slice fa fn fc,.slice la ln lc] 83))) hn;have HH:Hid _:=H;clear H hv hn;go_enter Tryz.func209,Tryz.ntmps209
 go_wp2_with fail
 refine Calls.mono HH.out ?_;rintro e w' ⟨rfl,hb⟩;go_wp2;go_ret;exact⟨rfl,(Below.one _ _).trans (hb.mono (by simp))⟩
set_option maxHeartbeats 400000 in
theorem part12_at (nm:ByteArray)(tol cnt mn mx:Int)(pa ga ea fa la:Option Addr)(pn pc gn gc en ec fn fc ln lc:Nat)  (w:World):Calls Tryz.prog 210 #[.agg #[.string nm,.int .i64 tol,.slice pa pn pc,.int .i64 cnt,.int .i64 mn,.int .i64 mx,.slice ga gn gc,.slice ea en ec,.slice fa fn fc,.slice la ln lc]] w fun e w'=>e=.returned (.bool (decide (0 < en) && decide (fn=0)))/\Below w.heap.size w w':=by
 by_cases h:0 < en
 ·have g:(0:Int) < (en:Int):=by omega
  by_cases h2:fn=0
  ·subst h2;rw[show (decide (0 < en) && decide ((0:Nat)=0))=true by simp[h]];clear h;go_enter Tryz.func210,Tryz.ntmps210
   go_wp2;go_ret;exact⟨rfl,Below.one _ _⟩
  ·have g2:((fn:Int) == 0)=false:=by rw[beq_eq_false_iff_ne];omega
   rw[show (decide (0 < en) && decide (fn=0))=false by simp[h2]];clear h h2;go_enter Tryz.func210,Tryz.ntmps210
   go_wp2;go_ret;exact⟨rfl,Below.one _ _⟩
 ·obtain rfl:en=0:=by omega
  rw[show (decide (0 < 0) && decide (fn=0))=false by simp];go_enter Tryz.func210,Tryz.ntmps210
  go_wp2;go_ret;exact⟨rfl,Below.one _ _⟩
set_option maxHeartbeats 400000 in
theorem part13_at (nm:ByteArray)(tol cnt mn mx:Int)(pa ga ea fa la:Option Addr)(pn pc gn gc en ec fn fc ln lc:Nat)(hf:fn<=1000000)(hl:ln<=1000000)(w:World):Calls Tryz.prog 211 #[.agg #[.string nm,.int .i64 tol,.slice pa pn pc,.int .i64 cnt,.int .i64 mn,.int .i64 mx,.slice ga gn gc,.slice ea en ec,.slice fa fn fc,.slice la ln lc]] w fun e w'=>e=.returned (.bool (decide (en=0) && decide (0 < fn+ln)))/\Below w.heap.size w w':=by
 by_cases h:en=0
 ·subst h;have hw:IntKind.i64.wrap ((fn:Int)+(ln:Int))=((fn+ln:Nat):Int):=by rw[IntKind.wrap_i64];omega
  rw[show (decide ((0:Nat)=0) && decide (0 < fn+ln))=decide ((0:Int) < ((fn+ln:Nat):Int)) by simp only[decide_true,Bool.true_and];exact decide_eq_decide.2 (by omega)];generalize ((fn+ln:Nat):Int)=q at *;clear hf hl;go_enter Tryz.func211,Tryz.ntmps211
  go_wp2;go_ret;exact⟨rfl,Below.one _ _⟩
 ·have g:((en:Int) == 0)=false:=by rw[beq_eq_false_iff_ne];omega
  rw[show (decide (en=0) && decide (0 < fn+ln))=false by simp[h]];clear h hf hl;go_enter Tryz.func211,Tryz.ntmps211
  go_wp2;go_ret;exact⟨rfl,Below.one _ _⟩
def partRow (A:Nat->Addr):Array Value:=#[.iface 400 (.pointer (some (A 4))),.func (.func 190) #[] #[],.iface 400 (.pointer (some (A 4))),.func (.func 192) #[] #[],.iface 400 (.pointer (some (A 4))),.func (.func 195) #[] #[],.iface 400 (.pointer (some (A 4))),.func (.func 198) #[] #[],.iface 400 (.pointer (some (A 4))),.func (.func 199) #[] #[],.iface 400 (.pointer (some (A 2))),.func (.func 200) #[] #[],.iface 400 (.pointer (some (A 1))),.func (.func 201) #[] #[],.iface 400 (.pointer (some (A 1))),.func (.func 203) #[] #[],.iface 400 (.pointer (some (A 5))),.func (.func 205) #[] #[],.iface 400 (.pointer (some (A 5))),.func (.func 207) #[] #[],.iface 400 (.pointer (some (A 5))),.func (.func 209) #[] #[],.iface 400 (.pointer (some (A 2))),.func (.func 210) #[] #[],.iface 400 (.pointer (some (A 2))),.func (.func 211) #[] #[]]
set_option maxHeartbeats 1000000 in
theorem partRules_at (A:Nat->Addr)(w:World)(hs:Sen5 A w):Calls Tryz.prog 151 #[] w fun e w'=>e=.returned (.slice (some ⟨w.heap.size,0,none⟩) 13 13)/\w'=w.alloc (.cells (partRow A) 278):=by
 have c1:=hs.c1;have c2:=hs.c2;have c4:=hs.c4;have c5:=hs.c5;unfold partRow;go_enter Tryz.func151,Tryz.ntmps151
 go_wp2;go_ret;exact⟨rfl,rfl⟩
def partFns (i:Nat):Nat:=[190,192,195,198,199,200,201,203,205,207,209,210,211].getD i 0
theorem part_rules (A:Nat->Addr)(e:EntD)(pa ga ea fa la:Option Addr)(pc gc ec fc lc:Nat)(r:Nat)(W:World)(hP:EntParts W e (.slice pa e.pts.length pc) (.slice ga e.gaps.length gc) (.slice ea e.edges.length ec) (.slice fa e.first.length fc) (.slice la e.last.length lc))(hS:SmallE e)(hr:W.heap[r]?=some (.cells (partRow A) 278 (0,0))) :
  RulesAt A W r (.agg (entRow e (.slice pa e.pts.length pc) (.slice ga e.gaps.length gc) (.slice ea e.edges.length ec) (.slice fa e.first.length fc) (.slice la e.last.length lc))) [
 (decide (e.cnt≠-1) && lacks e.pts.length e.cnt,5),
 (e.gaps.any fun g=>lacks e.pts.length g.fr || lacks e.pts.length g.to,5),
 (e.edges.any fun d=>lacks e.pts.length d.1 || lacks e.pts.length d.2,5),
 (e.first.any fun x=>lacks e.pts.length x,5),
 (e.last.any fun x=>lacks e.pts.length x,5),
 (decide (e.cnt=-1) && (decide (e.mn≠0) || decide (e.mx≠0)),3),
 (!rise 0 e.mn e.mx 999,2),
 (e.gaps.any fun g=>!rise 0 g.mn g.mx 1099511627776,2),
 (twice e.edges,6),(twice e.first,6),(twice e.last,6),
 (decide (0 < e.edges.length) && decide (e.first.length=0),3),
 (decide (e.edges.length=0) && decide (0 < e.first.length+e.last.length),3)] partFns:=by
 have hcell:∀ j v,(partRow A)[j]?=some v->W.cell? ⟨r,j,none⟩=some v:=fun j v e=>by simp[World.cell?,hr,e]
 refine⟨fun i b d e=>?_,fun i b d e=>?_,fun i b d e' V hV=>?_,by simp,fun i b d e=>?_⟩
 ·match i,e with
  | 0,e=>cases e;exact⟨hcell 0 _ rfl,hcell 1 _ rfl⟩
  | 1,e=>cases e;exact⟨hcell 2 _ rfl,hcell 3 _ rfl⟩
  | 2,e=>cases e;exact⟨hcell 4 _ rfl,hcell 5 _ rfl⟩
  | 3,e=>cases e;exact⟨hcell 6 _ rfl,hcell 7 _ rfl⟩
  | 4,e=>cases e;exact⟨hcell 8 _ rfl,hcell 9 _ rfl⟩
  | 5,e=>cases e;exact⟨hcell 10 _ rfl,hcell 11 _ rfl⟩
  | 6,e=>cases e;exact⟨hcell 12 _ rfl,hcell 13 _ rfl⟩
  | 7,e=>cases e;exact⟨hcell 14 _ rfl,hcell 15 _ rfl⟩
  | 8,e=>cases e;exact⟨hcell 16 _ rfl,hcell 17 _ rfl⟩
  | 9,e=>cases e;exact⟨hcell 18 _ rfl,hcell 19 _ rfl⟩
  | 10,e=>cases e;exact⟨hcell 20 _ rfl,hcell 21 _ rfl⟩
  | 11,e=>cases e;exact⟨hcell 22 _ rfl,hcell 23 _ rfl⟩
  | 12,e=>cases e;exact⟨hcell 24 _ rfl,hcell 25 _ rfl⟩
  | i+13,e=>cases e
 ·match i,e with
  | 0,_=>exact enters_of Tryz.func190 (by kernel_rfl) rfl
  | 1,_=>exact enters_of Tryz.func192 (by kernel_rfl) rfl
  | 2,_=>exact enters_of Tryz.func195 (by kernel_rfl) rfl
  | 3,_=>exact enters_of Tryz.func198 (by kernel_rfl) rfl
  | 4,_=>exact enters_of Tryz.func199 (by kernel_rfl) rfl
  | 5,_=>exact enters_of Tryz.func200 (by kernel_rfl) rfl
  | 6,_=>exact enters_of Tryz.func201 (by kernel_rfl) rfl
  | 7,_=>exact enters_of Tryz.func203 (by kernel_rfl) rfl
  | 8,_=>exact enters_of Tryz.func205 (by kernel_rfl) rfl
  | 9,_=>exact enters_of Tryz.func207 (by kernel_rfl) rfl
  | 10,_=>exact enters_of Tryz.func209 (by kernel_rfl) rfl
  | 11,_=>exact enters_of Tryz.func210 (by kernel_rfl) rfl
  | 12,_=>exact enters_of Tryz.func211 (by kernel_rfl) rfl
  | i+13,e=>cases e
 ·match i,e' with
  | 0,e'=>cases e';exact part1_at _ _ _ _ _ _ _ _ _ _ _ _ _ _ _ _ _ _ _ _ _
  | 1,e'=>cases e';exact part2_at _ _ _ _ _ _ _ _ _ _ _ _ _ _ _ _ _ _ _ _ _ _ (hP.hg.below hV) hS.hg
  | 2,e'=>cases e';exact part3_at _ _ _ _ _ _ _ _ _ _ _ _ _ _ _ _ _ _ _ _ _ _ (hP.he.below hV) hS.he
  | 3,e'=>cases e';exact part4_at _ _ _ _ _ _ _ _ _ _ _ _ _ _ _ _ _ _ _ _ _ _ (hP.hf.below hV) hS.hf
  | 4,e'=>cases e';exact part5_at _ _ _ _ _ _ _ _ _ _ _ _ _ _ _ _ _ _ _ _ _ _ (hP.hl.below hV) hS.hl
  | 5,e'=>cases e';exact part6_at _ _ _ _ _ _ _ _ _ _ _ _ _ _ _ _ _ _ _ _ _
  | 6,e'=>cases e';exact part7_at _ _ _ _ _ _ _ _ _ _ _ _ _ _ _ _ _ _ _ _ _
  | 7,e'=>cases e';exact part8_at _ _ _ _ _ _ _ _ _ _ _ _ _ _ _ _ _ _ _ _ _ _ (hP.hg.below hV) hS.hg
  | 8,e'=>cases e';exact part9_at _ _ _ _ _ _ _ _ _ _ _ _ _ _ _ _ _ _ _ _ _ _ (hP.he.below hV) hS.he
  | 9,e'=>cases e';exact part10_at _ _ _ _ _ _ _ _ _ _ _ _ _ _ _ _ _ _ _ _ _ _ (hP.hf.below hV) hS.hf
  | 10,e'=>cases e';exact part11_at _ _ _ _ _ _ _ _ _ _ _ _ _ _ _ _ _ _ _ _ _ _ (hP.hl.below hV) hS.hl
  | 11,e'=>cases e';exact part12_at _ _ _ _ _ _ _ _ _ _ _ _ _ _ _ _ _ _ _ _ _
  | 12,e'=>cases e';exact part13_at _ _ _ _ _ _ _ _ _ _ _ _ _ _ _ _ _ _ _ _ hS.hf hS.hl _
  | i+13,e'=>cases e'
 ·match i,e with
  | 0,e=>cases e;decide
  | 1,e=>cases e;decide
  | 2,e=>cases e;decide
  | 3,e=>cases e;decide
  | 4,e=>cases e;decide
  | 5,e=>cases e;decide
  | 6,e=>cases e;decide
  | 7,e=>cases e;decide
  | 8,e=>cases e;decide
  | 9,e=>cases e;decide
  | 10,e=>cases e;decide
  | 11,e=>cases e;decide
  | 12,e=>cases e;decide
  | i+13,e=>cases e
theorem first_size (A:Nat->Addr)(e:EntD)(pa ga ea fa la:Option Addr)(pc gc ec fc lc:Nat)(r:Nat)(W:World)(hr:W.heap[r]?=some (.cells (sizeRow A) 278 (0,0))) :
  Calls Tryz.prog 149 #[.agg #[.string e.name,.int .i64 e.tol,.slice pa e.pts.length pc,.int .i64 e.cnt,.int .i64 e.mn,.int .i64 e.mx,.slice ga e.gaps.length gc,.slice ea e.edges.length ec,.slice fa e.first.length fc,.slice la e.last.length lc],.slice (some ⟨r,0,none⟩) 6 6] W fun v w'=>v=.returned (errV A (sizeErr e))/\Below W.heap.size W w':=
 first_ent A _ _ _ _ _ _ _ _ _ _ _ _ _ _ _ _ _ _ _ _ r _ sizeFns W (size_rules A e pa ga ea fa la pc gc ec fc lc r W hr)
theorem first_part (A:Nat->Addr)(e:EntD)(pa ga ea fa la:Option Addr)(pc gc ec fc lc:Nat)(r:Nat)(W:World)(hP:EntParts W e (.slice pa e.pts.length pc) (.slice ga e.gaps.length gc) (.slice ea e.edges.length ec) (.slice fa e.first.length fc) (.slice la e.last.length lc))(hS:SmallE e)(hr:W.heap[r]?=some (.cells (partRow A) 278 (0,0))) :
  Calls Tryz.prog 149 #[.agg #[.string e.name,.int .i64 e.tol,.slice pa e.pts.length pc,.int .i64 e.cnt,.int .i64 e.mn,.int .i64 e.mx,.slice ga e.gaps.length gc,.slice ea e.edges.length ec,.slice fa e.first.length fc,.slice la e.last.length lc],.slice (some ⟨r,0,none⟩) 13 13] W fun v w'=>v=.returned (errV A (partErr e))/\Below W.heap.size W w':=
 first_ent A _ _ _ _ _ _ _ _ _ _ _ _ _ _ _ _ _ _ _ _ r _ partFns W (part_rules A e pa ga ea fa la pc gc ec fc lc r W hP hS hr)
theorem first_whole (A:Nat->Addr)(c:CfgD)(sa:Option Addr)(sc:Nat)(r:Nat)(W:World)(hs:Sen5 A W)(hr:W.heap[r]?=some (.cells (cfgRow A) 208 (0,0))) :
  Calls Tryz.prog 89 #[.agg #[.int .i64 c.closed,.int .i64 c.opn,.int .i64 c.cycle,.int .i64 c.delay,.slice sa c.ents.length sc],.slice (some ⟨r,0,none⟩) 5 5] W fun v w'=>v=.returned (errV A (wholeErr c))/\Below W.heap.size W w':=
 first_cfg A _ _ _ _ _ _ _ r _ cfgFns W (cfg_rules A c sa sc r W hs hr)
theorem heap_new (V:World)(c:Array Value)(t:TypeId):(V.alloc (.cells c t)).heap[V.heap.size]?=some (.cells c t (0,0)):=by
 show (V.heap.push _)[V.heap.size]?=_
 simp
def ruleS (row:Value)(n:Nat)(rules:Array Value)(t:TypeId)(err:Value)(i:Nat)(v:Value)(W:World):Prop:=match i with
 | 0=>v=row
 | 1=>∃ r,v=.slice (some ⟨r,0,none⟩) n n/\W.heap[r]?=some (.cells rules t (0,0))
 | 2=>v=err
 | _=>v=err
theorem ruleS_keeps {row:Value}{n:Nat}{rules:Array Value}{t:TypeId}{err:Value}{w w':World}(hb:Below w.heap.size w w'):∀ j v,ruleS row n rules t err j v w->ruleS row n rules t err j v w':=by
 intro j v h
 match j with
 | 0=>exact h
 | 1=>obtain⟨r,h1,h2⟩:=h;exact⟨r,h1,row_below hb h2⟩
 | 2=>exact h
 | j+3=>exact h
end Go.Proofs.YtffpcbdlbcjihadGreatDoor
