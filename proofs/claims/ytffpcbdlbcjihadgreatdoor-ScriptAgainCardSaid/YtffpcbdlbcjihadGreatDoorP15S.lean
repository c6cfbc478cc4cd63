/-
  Several texts as one: LoOps, LoFin, KpLoc, KpRing, DcIdx.
-/
import Derived.Test.YtffpcbdlbcjihadGreatDoorP14S
import Derived.BigQuiet
import Derived.Deep.QuietTactic
import Derived.Deep.DeepCutAuto
import Derived.WalkSmall
import Derived.Deep.RegionHeld3
namespace Go.Proofs.YtffpcbdlbcjihadGreatDoor
open Go.RowKit Go.Extern.Stop Go.Stop Go.Extern
section
variable {F F':Nat->Prop}{w w' w'':World}{b ba bg bf:Nat}{e:EntD}{E:EA}{s:Option NSt}{n:NSt}
theorem Tryz.sizeLocal:(Tryz.prog.info? 245).map (·.size)=some 17:=by kernel_rfl
set_option maxHeartbeats 4000000 in
set_option maxRecDepth 100000 in
theorem lo_begin (h:LoAt F w b e E none)(hS:SmallE e)(hW:WfE e.edges) :
  Calls Tryz.prog 109 #[.pointer (some ⟨b,0,none⟩)] w fun v w'=>v=.returned .nilIface/\LoAt (fun k=>F k\/w.heap.size<=k) w' b e E (some (NSt.new e))/\FrL F w w':=by
 have H:Hid (LoAt F w b e E none):=h;have HS:Hid (SmallE e):=hS;have HW:Hid (WfE e.edges):=hW;have hr:w.heap[b]?=some (.cells (loRow (.pointer none) (.pointer none) (.pointer none) e E false false 0 false) 245 (0,0)):=h.row;have HR:Hid (w.heap[b]?=some (.cells (loRow (.pointer none) (.pointer none) (.pointer none) e E false false 0 false) 245 (0,0))):=hr;have c13:w.cell? ⟨b,13,none⟩=some (.bool false):=by simp[World.cell?,hr,loRow]
 have c3:w.cell? ⟨b,3,none⟩=some (.string e.name):=by simp[World.cell?,hr,loRow]
 have c4:w.cell? ⟨b,4,none⟩=some (.int .i64 e.tol):=by simp[World.cell?,hr,loRow]
 have c5:w.cell? ⟨b,5,none⟩=some (.slice E.pa e.pts.length E.pc):=by simp[World.cell?,hr,loRow]
 have c6:w.cell? ⟨b,6,none⟩=some (.int .i64 e.cnt):=by simp[World.cell?,hr,loRow]
 have c7:w.cell? ⟨b,7,none⟩=some (.int .i64 e.mn):=by simp[World.cell?,hr,loRow]
 have c8:w.cell? ⟨b,8,none⟩=some (.int .i64 e.mx):=by simp[World.cell?,hr,loRow]
 have c9:w.cell? ⟨b,9,none⟩=some (.slice E.ga e.gaps.length E.gc):=by simp[World.cell?,hr,loRow]
 have c10:w.cell? ⟨b,10,none⟩=some (.slice E.ea e.edges.length E.ec):=by simp[World.cell?,hr,loRow]
 have c11:w.cell? ⟨b,11,none⟩=some (.slice E.fa e.first.length E.fc):=by simp[World.cell?,hr,loRow]
 have c12:w.cell? ⟨b,12,none⟩=some (.slice E.la e.last.length E.lc):=by simp[World.cell?,hr,loRow]
 clear h hS hW hr;go_enter Tryz.func109,Tryz.ntmps109
 go_wp2_with fail
 refine(newWatch_at _ e E H.out.parts.parts HS.out HW.out).mono ?_;rintro v W ⟨⟨ba,bg,bf,rfl,hwat⟩,hb⟩;have hr1:W.heap[b]?=some (.cells (loRow (.pointer none) (.pointer none) (.pointer none) e E false false 0 false) 245 (0,0)):=row_below hb HR.out;have HR1:Hid (W.heap[b]?=some (.cells (loRow (.pointer none) (.pointer none) (.pointer none) e E false false 0 false) 245 (0,0))):=hr1;have HB1:Hid (Below w.heap.size w W):=hb;have HWat:Hid (WatAt (fun k=>w.heap.size<=k) W ba bg bf e (WSt.new e)):=hwat;have d0:W.cell? ⟨b,0,none⟩=some (.pointer none):=by simp[World.cell?,hr1,loRow]
 have d1:W.cell? ⟨b,1,none⟩=some (.pointer none):=by simp[World.cell?,hr1,loRow]
 have d2:W.cell? ⟨b,2,none⟩=some (.pointer none):=by simp[World.cell?,hr1,loRow]
 have d13:W.cell? ⟨b,13,none⟩=some (.bool false):=by simp[World.cell?,hr1,loRow]
 have q:∀ i,W.frozen? ⟨b,i,none⟩=false:=fun i=>by simp[World.frozen?,hr1]
 clear c3 c4 c5 c6 c7 c8 c9 c10 c11 c12 c13 hwat hb hr1;go_wp2;go_ret;have hg:W.grownBy ((((W.setCell ⟨b,0,none⟩ (.pointer (some ⟨ba,0,none⟩))).setCell ⟨b,1,none⟩ (.pointer (some ⟨bg,0,none⟩))).setCell ⟨b,2,none⟩ (.pointer (some ⟨bf,0,none⟩))).setCell ⟨b,13,none⟩ (.bool true)) (some b):=(((grown_setCell _ _ _ _).trans (grown_setCell _ _ _ _)).trans (grown_setCell _ _ _ _)).trans (grown_setCell _ _ _ _);have hrow:((((W.setCell ⟨b,0,none⟩ (.pointer (some ⟨ba,0,none⟩))).setCell ⟨b,1,none⟩ (.pointer (some ⟨bg,0,none⟩))).setCell ⟨b,2,none⟩ (.pointer (some ⟨bf,0,none⟩))).setCell ⟨b,13,none⟩ (.bool true)).heap[b]?=some (.cells (loRow (.pointer (some ⟨ba,0,none⟩)) (.pointer (some ⟨bg,0,none⟩)) (.pointer (some ⟨bf,0,none⟩)) e E true false 0 false) 245 (0,0)):=by
  have:=HR1.out;simp[World.setCell,Array.getElem?_modify,this,loRow]
 have hf1:FrL F w W:=FrL.below HB1.out;have hf2:FrL F W ((((W.setCell ⟨b,0,none⟩ (.pointer (some ⟨ba,0,none⟩))).setCell ⟨b,1,none⟩ (.pointer (some ⟨bg,0,none⟩))).setCell ⟨b,2,none⟩ (.pointer (some ⟨bf,0,none⟩))).setCell ⟨b,13,none⟩ (.bool true)):=FrL.put hg HR1.out (Or.inl rfl) H.out.fb;have hff:=hf1.trans hf2 (fun _ _ x=>x)
 refine⟨rfl,⟨(H.out.parts.fr hff).mono (fun _ _ x=>Or.inl x),Or.inl H.out.fb,ba,bg,bf,hrow,?_⟩,hff⟩
 refine WatAt.mono (F:=fun k=>w.heap.size<=k) (HWat.out.same (fun k hk=>?_)) (fun _ _ x=>Or.inr x);have hbl:=lt_of_row HR.out;have hk':w.heap.size<=k:=hk;have hne:some k≠some b:=fun e1=>by rw[Option.some.inj e1] at hk';omega
 rcases Nat.lt_or_ge k W.heap.size with h1 | h1
 ·exact hg.block k h1 hne
 ·rw[Array.getElem?_eq_none h1,Array.getElem?_eq_none (by simpa[World.setCell] using h1)]
set_option maxHeartbeats 1000000 in
theorem lo_held (x:Value)(h:LoAt F w b e E (some n))(hx:w.cell? ⟨9,0,none⟩=some x) :
  Calls Tryz.prog 109 #[.pointer (some ⟨b,0,none⟩)] w fun v w'=>v=.returned x/\w'=w:=by
 obtain⟨ba,bg,bf,hr,-⟩:=h.row;have c13:w.cell? ⟨b,13,none⟩=some (.bool true):=by simp[World.cell?,hr,loRow]
 clear h hr;go_enter Tryz.func109,Tryz.ntmps109
 go_wp2;go_ret;exact⟨rfl,rfl⟩
set_option maxHeartbeats 1000000 in
theorem lo_stop_idle (x:Value)(h:LoAt F w b e E none)(hx:w.cell? ⟨8,0,none⟩=some x) :
  Calls Tryz.prog 110 #[.pointer (some ⟨b,0,none⟩)] w fun v w'=>v=.returned x/\w'=w:=by
 have hr:w.heap[b]?=some (.cells (loRow (.pointer none) (.pointer none) (.pointer none) e E false false 0 false) 245 (0,0)):=h.row;have c13:w.cell? ⟨b,13,none⟩=some (.bool false):=by simp[World.cell?,hr,loRow]
 clear h hr;go_enter Tryz.func110,Tryz.ntmps110
 go_wp2;go_ret;exact⟨rfl,rfl⟩
set_option maxHeartbeats 4000000 in
set_option maxRecDepth 100000 in
theorem lo_stop (h:LoAt F w b e E (some n)) :
  Calls Tryz.prog 110 #[.pointer (some ⟨b,0,none⟩)] w fun v w'=>v=.returned .nilIface/\LoAt F w' b e E none/\FrL F w w':=by
 have H:Hid (LoAt F w b e E (some n)):=h;obtain⟨ba,bg,bf,hr,-⟩:=h.row;have HR:Hid (w.heap[b]?=some (.cells (loRow (.pointer (some ⟨ba,0,none⟩)) (.pointer (some ⟨bg,0,none⟩)) (.pointer (some ⟨bf,0,none⟩)) e E true n.whole (n.run:Int) n.ex) 245 (0,0))):=hr;have c13:w.cell? ⟨b,13,none⟩=some (.bool true):=by simp[World.cell?,hr,loRow]
 have c3:w.cell? ⟨b,3,none⟩=some (.string e.name):=by simp[World.cell?,hr,loRow]
 have c4:w.cell? ⟨b,4,none⟩=some (.int .i64 e.tol):=by simp[World.cell?,hr,loRow]
 have c5:w.cell? ⟨b,5,none⟩=some (.slice E.pa e.pts.length E.pc):=by simp[World.cell?,hr,loRow]
 have c6:w.cell? ⟨b,6,none⟩=some (.int .i64 e.cnt):=by simp[World.cell?,hr,loRow]
 have c7:w.cell? ⟨b,7,none⟩=some (.int .i64 e.mn):=by simp[World.cell?,hr,loRow]
 have c8:w.cell? ⟨b,8,none⟩=some (.int .i64 e.mx):=by simp[World.cell?,hr,loRow]
 have c9:w.cell? ⟨b,9,none⟩=some (.slice E.ga e.gaps.length E.gc):=by simp[World.cell?,hr,loRow]
 have c10:w.cell? ⟨b,10,none⟩=some (.slice E.ea e.edges.length E.ec):=by simp[World.cell?,hr,loRow]
 have c11:w.cell? ⟨b,11,none⟩=some (.slice E.fa e.first.length E.fc):=by simp[World.cell?,hr,loRow]
 have c12:w.cell? ⟨b,12,none⟩=some (.slice E.la e.last.length E.lc):=by simp[World.cell?,hr,loRow]
 clear h hr;go_enter Tryz.func110,Tryz.ntmps110
 go_wp2_with (refine wpList_store_row rfl 245 _ _ rfl b (loRow (.pointer none) (.pointer none) (.pointer none) e E false false 0 false) rfl rfl 245 (loRow (.pointer (some ⟨ba,0,none⟩)) (.pointer (some ⟨bg,0,none⟩)) (.pointer (some ⟨bf,0,none⟩)) e E true n.whole (n.run:Int) n.ex) HR.out Tryz.sizeLocal rfl (by simp[Value.oneCell',loRow]) ?_)
 go_ret;have hg:w.grownBy (w.setRow b (loRow (.pointer none) (.pointer none) (.pointer none) e E false false 0 false)) (some b):=grown_setRow _ _ _;have hf:FrL F w (w.setRow b (loRow (.pointer none) (.pointer none) (.pointer none) e E false false 0 false)):=FrL.put hg HR.out (Or.inl rfl) H.out.fb;exact⟨rfl,⟨H.out.parts.fr hf,H.out.fb,heap_setRow _ HR.out⟩,hf⟩
set_option maxHeartbeats 1000000 in
theorem lo_report_idle (x:Value)(p t:Int)(h:LoAt F w b e E none)(hx:w.cell? ⟨8,0,none⟩=some x) :
  Calls Tryz.prog 111 #[.pointer (some ⟨b,0,none⟩),.int .i64 p,.int .i64 t] w fun v w'=>v=.returned x/\w'=w:=by
 have hr:w.heap[b]?=some (.cells (loRow (.pointer none) (.pointer none) (.pointer none) e E false false 0 false) 245 (0,0)):=h.row;have c13:w.cell? ⟨b,13,none⟩=some (.bool false):=by simp[World.cell?,hr,loRow]
 clear h hr;go_enter Tryz.func111,Tryz.ntmps111
 go_wp2;go_ret;exact⟨rfl,rfl⟩
set_option maxHeartbeats 1000000 in
theorem lo_report_none (x:Value)(p t:Int)(h:LoAt F w b e E (some n))(hp:hasP e p=false)(hx:w.cell? ⟨4,0,none⟩=some x) :
  Calls Tryz.prog 111 #[.pointer (some ⟨b,0,none⟩),.int .i64 p,.int .i64 t] w fun v w'=>v=.returned x/\w'=w:=by
 obtain⟨ba,bg,bf,hr,-⟩:=h.row;have c13:w.cell? ⟨b,13,none⟩=some (.bool true):=by simp[World.cell?,hr,loRow]
 have c5:w.cell? ⟨b,5,none⟩=some (.slice E.pa e.pts.length E.pc):=by simp[World.cell?,hr,loRow]
 clear h hr
 by_cases g0:p < 0
 ·clear hp;go_enter Tryz.func111,Tryz.ntmps111
  go_wp2;go_ret;exact⟨rfl,rfl⟩
 ·have g1:(e.pts.length:Int)<=p:=by unfold hasP at hp;simp at hp;omega
  clear hp;go_enter Tryz.func111,Tryz.ntmps111
  go_wp2;go_ret;exact⟨rfl,rfl⟩
set_option maxHeartbeats 2000000 in
set_option maxRecDepth 100000 in
theorem lo_report (p t:Int)(h:LoAt F w b e E (some n))(hp:hasP e p=true)(hS:SmallE e) :
  Calls Tryz.prog 111 #[.pointer (some ⟨b,0,none⟩),.int .i64 p,.int .i64 t] w fun v w'=>v=.returned .nilIface/\LoAt F w' b e E (some (n.rep e p t))/\FrL F w w':=by
 have H:Hid (LoAt F w b e E (some n)):=h;have HS:Hid (SmallE e):=hS;have HP:Hid (hasP e p=true):=hp;obtain⟨ba,bg,bf,hr,hw⟩:=h.row;have HR:Hid (w.heap[b]?=some (.cells (loRow (.pointer (some ⟨ba,0,none⟩)) (.pointer (some ⟨bg,0,none⟩)) (.pointer (some ⟨bf,0,none⟩)) e E true n.whole (n.run:Int) n.ex) 245 (0,0))):=hr;have HWt:Hid (WatAt F w ba bg bf e n.w):=hw;have c13:w.cell? ⟨b,13,none⟩=some (.bool true):=by simp[World.cell?,hr,loRow]
 have c5:w.cell? ⟨b,5,none⟩=some (.slice E.pa e.pts.length E.pc):=by simp[World.cell?,hr,loRow]
 have g0:¬p < 0:=by unfold hasP at hp;simp at hp;omega
 have g1:¬(e.pts.length:Int)<=p:=by unfold hasP at hp;simp at hp;omega
 clear h hr hw hp hS;go_enter Tryz.func111,Tryz.ntmps111
 go_wp2_with fail
 refine(watch_report p t _ HWt.out HR.out rfl rfl rfl HS.out).mono ?_;rintro v W ⟨rfl,hto⟩;have HT:Hid (WatTo F w W b ba bg bf e (n.w.rep e p t) (loRow (.pointer (some ⟨ba,0,none⟩)) (.pointer (some ⟨bg,0,none⟩)) (.pointer (some ⟨bf,0,none⟩)) e E true n.whole (n.run:Int) n.ex)):=hto;clear hto;go_wp2;go_ret
 refine⟨rfl,⟨H.out.parts.fr HT.out.fr,H.out.fb,?_⟩,HT.out.fr⟩;unfold NSt.rep;rw[if_pos HP.out];exact⟨ba,bg,bf,HT.out.row,HT.out.wat⟩
def stWord:Nat->ByteArray
 | 0=>⟨#[105,100,108,101]⟩
 | 1=>⟨#[111,107]⟩
 | 2=>⟨#[102,97,105,108,101,100]⟩
 | _=>⟨#[101,120,112,105,114,101,100]⟩
set_option maxHeartbeats 1000000 in
theorem lo_status_idle (h:LoAt F w b e E none) :
  Calls Tryz.prog 119 #[.pointer (some ⟨b,0,none⟩)] w fun v w'=>v=.returned (.string (stWord 0))/\w'=w:=by
 have hr:w.heap[b]?=some (.cells (loRow (.pointer none) (.pointer none) (.pointer none) e E false false 0 false) 245 (0,0)):=h.row;have c13:w.cell? ⟨b,13,none⟩=some (.bool false):=by simp[World.cell?,hr,loRow]
 clear h hr;go_enter Tryz.func119,Tryz.ntmps119
 go_wp2;go_ret;exact⟨rfl,rfl⟩
set_option maxHeartbeats 1000000 in
theorem lo_status (h:LoAt F w b e E (some n)) :
  Calls Tryz.prog 119 #[.pointer (some ⟨b,0,none⟩)] w fun v w'=>v=.returned (.string (stWord n.status))/\w'=w:=by
 obtain⟨ba,bg,bf,hr,-⟩:=h.row;have c13:w.cell? ⟨b,13,none⟩=some (.bool true):=by simp[World.cell?,hr,loRow]
 have c15:w.cell? ⟨b,15,none⟩=some (.int .i64 (n.run:Int)):=by simp[World.cell?,hr,loRow]
 have c16:w.cell? ⟨b,16,none⟩=some (.bool n.ex):=by simp[World.cell?,hr,loRow]
 clear h hr;obtain⟨nw,nwh,run,ex⟩:=n
 cases ex with
 | true=>
  go_enter Tryz.func119,Tryz.ntmps119
  go_wp2;go_ret;exact⟨rfl,rfl⟩
 | false=>
  by_cases h0:run=0
  ·subst h0;go_enter Tryz.func119,Tryz.ntmps119
   go_wp2;go_ret;exact⟨rfl,rfl⟩
  ·have HR:Hid (NSt.status ⟨nw,nwh,run,false⟩=2):=by show _=_;simp[NSt.status,h0]
   have h1:¬((run:Nat):Int)=0:=by omega
   go_enter Tryz.func119,Tryz.ntmps119
   go_wp2;go_ret;exact⟨by rw[HR.out];rfl,rfl⟩
end
section
variable {F F':Nat->Prop}{w w' w'':World}{b ba bg bf:Nat}{e:EntD}{E:EA}{s:Option NSt}{n:NSt}
def lendK (n:NSt)(b:Nat):Nat->Value->Prop
 | 0=>fun v=>v=.pointer (some ⟨b,0,none⟩)
 | 1=>fun v=>v=.pointer (some ⟨b,0,none⟩)
 | 2=>fun v=>v=.pointer (some ⟨b,0,none⟩)
 | 3=>fun v=>v=.pointer (some ⟨b,0,none⟩)
 | 4=>fun v=>v=.pointer (some ⟨b,0,none⟩)
 | 5=>fun v=>v=.pointer (some ⟨b,14,none⟩)
 | 6=>fun v=>v=.bool n.whole
 | 7=>fun v=>v=.int .i64 n.kind
 | 8=>fun v=>v=.int .i64 n.kind
 | _=>fun _=>True
def zIf (s:WSt)(d:Bool):WSt:=if d then s.zero else s
theorem LoAt.put {n':NSt}{W:World}(h:LoAt F w b e E (some n))(hT:WatTo F w W b ba bg bf e n'.w (loRow (.pointer (some ⟨ba,0,none⟩)) (.pointer (some ⟨bg,0,none⟩)) (.pointer (some ⟨bf,0,none⟩)) e E true n.whole (n.run:Int) n.ex))(W2:World)(hg:W.grownBy W2 (some b))(hrow:W2.heap[b]?=some (.cells (loRow (.pointer (some ⟨ba,0,none⟩)) (.pointer (some ⟨bg,0,none⟩)) (.pointer (some ⟨bf,0,none⟩)) e E true n'.whole (n'.run:Int) n'.ex) 245 (0,0))):LoAt F W2 b e E (some n')/\FrL F w W2:=by
 have hf2:FrL F W W2:=FrL.put hg hT.row (Or.inl rfl) h.fb;have hff:=hT.fr.trans hf2 (fun _ _ x=>x)
 refine⟨⟨h.parts.fr hff,h.fb,ba,bg,bf,hrow,?_⟩,hff⟩;obtain⟨sa,cap,h1,h2⟩:=hT.wat.ga;obtain⟨m,nn,D,fv,lv,h3,h4,h5,h6,h7⟩:=hT.wat.fl;have hoff:∀ k,(∀ c T fr,W.heap[k]?=some (.cells c T fr)->T≠245 )->k < W.heap.size->W2.heap[k]?=W.heap[k]?:=fun k hk hlt=>hg.block k hlt (fun e1=>by cases e1;exact hk _ _ _ hT.row rfl)
 have hty:∀ {k:Nat} {c:Array Value} {T:TypeId} {fr:Nat × Nat},W.heap[k]?=some (.cells c T fr)->T≠245->W2.heap[k]?=W.heap[k]?:=fun hk hT2=>hoff _ (fun c' T' fr' h'=>by rw[hk] at h';simp only[Option.some.injEq,Obj.cells.injEq] at h';rw[<- h'.2.1];exact hT2) (lt_of_row hk)
 refine⟨hT.wat.al.same (hty hT.wat.al.heap (by decide)),hT.wat.fa,⟨sa,cap,h1.same (fun k hk=>?_),h2⟩,⟨m,nn,D,fv,lv,h3.same (hty h3.heap (by decide)) ?_ (fun g hg=>?_) (fun g hg=>?_),h4,h5,h6,h7⟩,hT.wat.gl⟩
 ·obtain⟨c,T,fr,h8,h9⟩:=gs_ty h1 hk;exact hty h8 (by rcases h9 with rfl | rfl <;> decide)
 ·refine hoff m (fun c T fr hc=>?_) (map_lt h3);obtain⟨es,c',hm0,rest⟩:=h3.own;rw[hm0] at hc
  cases hc
 ·obtain⟨c',fr',h8⟩:=own_ty h3.hf hg;exact hty h8 (by decide)
 ·obtain⟨c',fr',h8⟩:=own_ty h3.hl hg;exact hty h8 (by decide)
set_option maxHeartbeats 1000000 in
theorem lo_end_idle (h:LoAt F w b e E none) :
  Calls Tryz.prog 276 #[.pointer (some ⟨b,0,none⟩)] w fun v w'=>v=.returned (.tuple #[.int .i64 0,.bool false])/\w'=w:=by
 have hr:w.heap[b]?=some (.cells (loRow (.pointer none) (.pointer none) (.pointer none) e E false false 0 false) 245 (0,0)):=h.row;have c13:w.cell? ⟨b,13,none⟩=some (.bool false):=by simp[World.cell?,hr,loRow]
 clear h hr;go_enter Tryz.func276,Tryz.ntmps276
 go_wp2;go_ret2
 exact⟨rfl,rfl⟩
set_option maxHeartbeats 4000000 in
set_option maxRecDepth 100000 in
theorem lo_end (h:LoAt F w b e E (some n))(hn:n.run<=1000000) :
  Calls Tryz.prog 276 #[.pointer (some ⟨b,0,none⟩)] w fun v w'=>v=.returned (.tuple #[.int .i64 n.kind,.bool (n.turns e)])/\LoAt F w' b e E (some (n.fin e))/\FrL F w w':=by
 have H:Hid (LoAt F w b e E (some n)):=h;have HN:Hid (n.run<=1000000):=hn;obtain⟨ba,bg,bf,hr,hw⟩:=h.row;have HWt:Hid (WatTo F w w b ba bg bf e n.w (loRow (.pointer (some ⟨ba,0,none⟩)) (.pointer (some ⟨bg,0,none⟩)) (.pointer (some ⟨bf,0,none⟩)) e E true n.whole (n.run:Int) n.ex)):=⟨hw,hr,FrL.refl _ _⟩;have c13:w.cell? ⟨b,13,none⟩=some (.bool true):=by simp[World.cell?,hr,loRow]
 clear h hr hw hn;go_enter Tryz.func276,Tryz.ntmps276
 go_wp2_with fail
 clear c13
 refine region_spec2 9 rfl (fun j v _=>lendK n b j v) (fun done V=>WatTo F w V b ba bg bf e (zIf n.w (done 7)) (loRow (.pointer (some ⟨ba,0,none⟩)) (.pointer (some ⟨bg,0,none⟩)) (.pointer (some ⟨bf,0,none⟩)) e E true n.whole (n.run:Int) n.ex)) (by kernel_rfl) (by kernel_rfl) ⟨HWt.out.wat.same (fun _ _=>rfl),HWt.out.row,FrL.below (Below.refl _ _).drew⟩ ?_ ?_
 ·intro i o ho
  match i,ho with
  | 0,ho=>
   obtain rfl:=Option.some.inj ho
   refine StepOk2.free rfl ?_;intro done a V hC hdn hdo hdep hoth;have x0:a.tmps[0]?.getD undef=.pointer (some ⟨b,0,none⟩):=slot_of (hoth 0 (notDst (by kernel_rfl)));exact goodRun2.val (c:=.pointer (some ⟨b,0,none⟩)) (by clear hdep hoth hdo hC;go_simp) (by rw[mark_other done (show 7≠0 by decide)];exact hC) rfl
  | 1,ho=>
   obtain rfl:=Option.some.inj ho
   refine StepOk2.free rfl ?_;intro done a V hC hdn hdo hdep hoth;have x9:a.tmps[9]?.getD undef=.pointer (some ⟨b,0,none⟩):=slot_of (hdep _ 9 (Array.mem_of_getElem? (i:=0) rfl) rfl rfl);exact goodRun2.val (c:=.pointer (some ⟨b,0,none⟩)) (by clear hdep hoth hdo hC;go_simp) (by rw[mark_other done (show 7≠1 by decide)];exact hC) rfl
  | 2,ho=>
   obtain rfl:=Option.some.inj ho
   refine StepOk2.free rfl ?_;intro done a V hC hdn hdo hdep hoth;have x10:a.tmps[10]?.getD undef=.pointer (some ⟨b,0,none⟩):=slot_of (hdep _ 10 (Array.mem_of_getElem? (i:=0) rfl) rfl rfl);exact goodRun2.val (c:=.pointer (some ⟨b,0,none⟩)) (by clear hdep hoth hdo hC;go_simp) (by rw[mark_other done (show 7≠2 by decide)];exact hC) rfl
  | 3,ho=>
   obtain rfl:=Option.some.inj ho
   refine StepOk2.free rfl ?_;intro done a V hC hdn hdo hdep hoth;have x0:a.tmps[0]?.getD undef=.pointer (some ⟨b,0,none⟩):=slot_of (hoth 0 (notDst (by kernel_rfl)));exact goodRun2.val (c:=.pointer (some ⟨b,0,none⟩)) (by clear hdep hoth hdo hC;go_simp) (by rw[mark_other done (show 7≠3 by decide)];exact hC) rfl
  | 4,ho=>
   obtain rfl:=Option.some.inj ho
   refine StepOk2.free rfl ?_;intro done a V hC hdn hdo hdep hoth;have x12:a.tmps[12]?.getD undef=.pointer (some ⟨b,0,none⟩):=slot_of (hdep _ 12 (Array.mem_of_getElem? (i:=0) rfl) rfl rfl);exact goodRun2.val (c:=.pointer (some ⟨b,0,none⟩)) (by clear hdep hoth hdo hC;go_simp) (by rw[mark_other done (show 7≠4 by decide)];exact hC) rfl
  | 5,ho=>
   obtain rfl:=Option.some.inj ho
   refine StepOk2.free rfl ?_;intro done a V hC hdn hdo hdep hoth;have x13:a.tmps[13]?.getD undef=.pointer (some ⟨b,0,none⟩):=slot_of (hdep _ 13 (Array.mem_of_getElem? (i:=0) rfl) rfl rfl);exact goodRun2.val (c:=.pointer (some ⟨b,14,none⟩)) (by clear hdep hoth hdo hC;go_simp) (by rw[mark_other done (show 7≠5 by decide)];exact hC) rfl
  | 6,ho=>
   obtain rfl:=Option.some.inj ho
   refine StepOk2.free rfl ?_;intro done a V hC hdn hdo hdep hoth;have x14:a.tmps[14]?.getD undef=.pointer (some ⟨b,14,none⟩):=slot_of (hdep _ 14 (Array.mem_of_getElem? (i:=0) rfl) rfl rfl);have c14:V.cell? ⟨b,14,none⟩=some (.bool n.whole):=by simp[World.cell?,hC.row,loRow]
   exact goodRun2.val (c:=.bool n.whole) (by clear hdep hoth hdo hC;go_simp) (by rw[mark_other done (show 7≠6 by decide)];exact hC) rfl
  | 7,ho=>
   obtain rfl:=Option.some.inj ho
   refine StepOk2.free rfl ?_;intro done a V hC hdn hdo hdep hoth;have x11:a.tmps[11]?.getD undef=.pointer (some ⟨b,0,none⟩):=slot_of (hdep _ 11 (Array.mem_of_getElem? (i:=0) rfl) rfl rfl);have x15:a.tmps[15]?.getD undef=.bool n.whole:=slot_of (hdep _ 15 (Array.mem_of_getElem? (i:=1) rfl) rfl rfl)
   refine goodRun2.call (f:=307) (args:=#[.pointer (some ⟨b,0,none⟩),.bool n.whole]) (by clear hdep hoth hdo hC;go_simp) ?_;rw[hdn] at hC
   refine(watch_end n.whole _ hC.wat hC.row rfl rfl rfl).mono ?_;rintro v w1 ⟨rfl,hto⟩
   refine⟨_,rfl,?_,fun _ _ _ h=>h,rfl⟩;rw[mark_same];exact⟨hto.wat,hto.row,hC.fr.trans hto.fr (fun _ _ x=>x)⟩
  | 8,ho=>
   obtain rfl:=Option.some.inj ho
   refine StepOk2.free rfl ?_;intro done a V hC hdn hdo hdep hoth;have x16:a.tmps[16]?.getD undef=.int .i64 n.kind:=slot_of (hdep _ 16 (Array.mem_of_getElem? (i:=0) rfl) rfl rfl);exact goodRun2.val (c:=.int .i64 n.kind) (by clear hdep hoth hdo hC;go_simp) (by rw[mark_other done (show 7≠8 by decide)];exact hC) rfl
  | n+9,ho=>simp at ho
 ·intro vals V hC hS;have HC:Hid (WatTo F w V b ba bg bf e n.w.zero (loRow (.pointer (some ⟨ba,0,none⟩)) (.pointer (some ⟨bg,0,none⟩)) (.pointer (some ⟨bf,0,none⟩)) e E true n.whole (n.run:Int) n.ex)):=hC;have v8:vals 8=.int .i64 n.kind:=hS 8 (by decide);have hr:=HC.out.row;have c14:V.cell? ⟨b,14,none⟩=some (.bool n.whole):=by simp[World.cell?,hr,loRow]
  have c15:V.cell? ⟨b,15,none⟩=some (.int .i64 (n.run:Int)):=by simp[World.cell?,hr,loRow]
  have c16:V.cell? ⟨b,16,none⟩=some (.bool n.ex):=by simp[World.cell?,hr,loRow]
  have c4:V.cell? ⟨b,4,none⟩=some (.int .i64 e.tol):=by simp[World.cell?,hr,loRow]
  have q:∀ i,V.frozen? ⟨b,i,none⟩=false:=fun i=>by simp[World.frozen?,hr]
  clear hC hS HWt hr;simp only[fill,dstOf];go_simp
  by_cases hk:n.kind=0
  ·have HF:Hid (n.fin e=⟨n.w.zero,true,0,n.ex⟩/\n.turns e=false/\n.kind=0):=by
    show _/\_/\_
    refine⟨?_,?_,hk⟩
    ·unfold NSt.fin NSt.run1 NSt.turns;simp[hk]
    ·unfold NSt.turns;simp[hk]
   go_wp2;go_ret2
   have hg:V.grownBy ((V.setCell ⟨b,14,none⟩ (.bool true)).setCell ⟨b,15,none⟩ (.int .i64 0)) (some b):=(grown_setCell _ _ _ _).trans (grown_setCell _ _ _ _)
   refine⟨by rw[HF.out.2.1,HF.out.2.2];rfl,?_⟩;rw[HF.out.1]
   refine H.out.put (n':=⟨n.w.zero,true,0,n.ex⟩) HC.out _ hg ?_;have:=HC.out.row;simp[World.setCell,Array.getElem?_modify,this,loRow]
  ·have HF:Hid (n.fin e=⟨n.w.zero,true,n.run+1,n.ex || (!n.ex && decide (e.tol < ((n.run:Int)+1)))⟩/\n.turns e=(!n.ex && decide (e.tol < ((n.run:Int)+1)))):=by
    show _/\_
    refine⟨?_,?_⟩
    ·unfold NSt.fin NSt.run1 NSt.turns;simp[hk]
    ·unfold NSt.turns;simp[hk]
   have hn2:(n.run:Int)<=1000000:=by have:=HN.out;omega
   have HR:Hid (V.heap[b]?=some (.cells (loRow (.pointer (some ⟨ba,0,none⟩)) (.pointer (some ⟨bg,0,none⟩)) (.pointer (some ⟨bf,0,none⟩)) e E true n.whole (n.run:Int) n.ex) 245 (0,0))):=HC.out.row;go_wp2_with fail
   obtain⟨V2,hV2⟩:∃ W,W=(V.setCell ⟨b,14,none⟩ (.bool true)).setCell ⟨b,15,none⟩ (.int .i64 ((n.run:Int)+1)):=⟨_,rfl⟩;rw[<- hV2];have hg2:V.grownBy V2 (some b):=by rw[hV2];exact(grown_setCell _ _ _ _).trans (grown_setCell _ _ _ _)
   have HG2:Hid (V.grownBy V2 (some b)):=hg2;have hr2:V2.heap[b]?=some (.cells (loRow (.pointer (some ⟨ba,0,none⟩)) (.pointer (some ⟨bg,0,none⟩)) (.pointer (some ⟨bf,0,none⟩)) e E true true ((n.run:Int)+1) n.ex) 245 (0,0)):=by
    have:=HR.out;rw[hV2];simp[World.setCell,Array.getElem?_modify,this,loRow]
   have HR2:Hid (V2.heap[b]?=some (.cells (loRow (.pointer (some ⟨ba,0,none⟩)) (.pointer (some ⟨bg,0,none⟩)) (.pointer (some ⟨bf,0,none⟩)) e E true true ((n.run:Int)+1) n.ex) 245 (0,0))):=hr2;have e4:V2.cell? ⟨b,4,none⟩=some (.int .i64 e.tol):=by simp[World.cell?,hr2,loRow]
   have e15:V2.cell? ⟨b,15,none⟩=some (.int .i64 ((n.run:Int)+1)):=by simp[World.cell?,hr2,loRow]
   have e16:V2.cell? ⟨b,16,none⟩=some (.bool n.ex):=by simp[World.cell?,hr2,loRow]
   have q2:∀ i,V2.frozen? ⟨b,i,none⟩=false:=fun i=>by simp[World.frozen?,hr2]
   have HZ:Hid (∀ q (x:Bool),x=(n.ex || (!n.ex && decide (e.tol < ((n.run:Int)+1))))->LoAt F ((V2.drewN q).setCell ⟨b,16,none⟩ (.bool x)) b e E (some (n.fin e))/\FrL F w ((V2.drewN q).setCell ⟨b,16,none⟩ (.bool x))):=fun q x hx=>by
    have hg3:V.grownBy ((V2.drewN q).setCell ⟨b,16,none⟩ (.bool x)) (some b):=(HG2.out.trans (gr_drewN _ _ _)).trans (grown_setCell _ _ _ _);rw[HF.out.1,<- hx]
    refine H.out.put (n':=⟨n.w.zero,true,n.run+1,x⟩) HC.out _ hg3 ?_;have h3:=HR2.out;simp[World.setCell,Array.getElem?_modify,h3,loRow]
   clear hV2 hg2 hr2 HR HC c4 c14 c15 c16 q hk v8;have HT:Hid _:=HF.out.2;clear HF
   cases q1:n.ex
   ·rw[q1] at e16 HT HZ
    by_cases q3:e.tol < ((n.run:Int)+1)
    ·have HD:Hid (decide (e.tol < ((n.run:Int)+1))=true):=decide_eq_true q3;go_quiet (fail)
     go_wp2;go_ret2
     exact⟨by rw[HT.out,HD.out];rfl,HZ.out _ _ (by rw[HD.out];rfl)⟩
    ·have HD:Hid (decide (e.tol < ((n.run:Int)+1))=false):=decide_eq_false q3;go_quiet (fail)
     go_wp2;go_ret2
     exact⟨by rw[HT.out,HD.out];rfl,HZ.out _ _ (by rw[HD.out];rfl)⟩
   ·rw[q1] at e16 HT HZ;go_quiet (fail)
    go_wp2;go_ret2
    exact⟨by rw[HT.out];rfl,HZ.out _ _ rfl⟩
end
section
variable {A:Nat->Addr}{F F':Nat->Prop}{w w':World}{b:Nat}{e:EntD}{s:LSt}
def SimS (e:EntD):Option NSt->LSt->Prop
 | none,s=>s.act=false
 | some n,s=>NSim e n s
structure LoS (F:Nat->Prop)(w:World)(b:Nat)(e:EntD)(s:LSt):Prop where
 ex:∃ E so,LoAt F w b e E so/\SimS e so s
 lt:∀ k,F k->k < w.heap.size
theorem LoS.same (h:LoS F w b e s)(hs:∀ k,F k->w'.heap[k]?=w.heap[k]?)(hz:w.heap.size<=w'.heap.size):LoS F w' b e s:=by
 obtain⟨E,so,h1,h2⟩:=h.ex;exact⟨⟨E,so,h1.same hs,h2⟩,fun k hk=>Nat.lt_of_lt_of_le (h.lt k hk) hz⟩
theorem LoS.to {E:EA}{so:Option NSt}(h:LoAt (fun k=>F k\/w.heap.size<=k) w' b e E so)(hs:SimS e so s)(hl:∀ k,F k->k < w.heap.size)(hz:w.heap.size<=w'.heap.size):LoS (gr F w w') w' b e s:=
 ⟨⟨E,so,h.mono (fun k hk hf=>hf.imp id (fun a=>⟨a,hk⟩)),hs⟩,fun k hk=>by
  rcases hk with hk | ⟨_,hk⟩
  ·exact Nat.lt_of_lt_of_le (hl k hk) hz
  ·exact hk⟩
theorem LoS.to' {E:EA}{so:Option NSt}(h:LoAt F w' b e E so)(hs:SimS e so s)(hl:∀ k,F k->k < w.heap.size)(hz:w.heap.size<=w'.heap.size):LoS (gr F w w') w' b e s:=LoS.to (h.mono (fun _ _ h=>Or.inl h)) hs hl hz
theorem los_begin (h:LoS F w b e s)(hx:w.cell? ⟨9,0,none⟩=some (errVal A 10))(hS:SmallE e)(hW:WfE e.edges) :
  Calls Tryz.prog 109 #[.pointer (some ⟨b,0,none⟩)] w fun v w'=>v=.returned (errVal A s.begN)/\LoS (gr F w w') w' b e s.begin/\Off F w w':=by
 obtain⟨E,so,h1,h2⟩:=h.ex
 cases so with
 | none=>
  have ha:s.act=false:=h2
  refine(lo_begin h1 hS hW).mono ?_;rintro v w' ⟨rfl,h3,h4⟩;exact⟨by unfold LSt.begN;rw[ha];rfl,LoS.to h3 (NSim.new e s ha) h.lt h4.off.size,h4.off⟩
 | some n=>
  have ha:s.act=true:=NSim.act h2
  refine(lo_held _ h1 hx).mono ?_;rintro v w' ⟨rfl,rfl⟩;have hb:s.begin=s:=by unfold LSt.begin;rw[ha];rfl
  rw[hb];exact⟨by unfold LSt.begN;rw[ha];rfl,LoS.to' h1 h2 h.lt (Nat.le_refl _),Off.refl _ _⟩
theorem los_stop (h:LoS F w b e s)(hx:w.cell? ⟨8,0,none⟩=some (errVal A 9)) :
  Calls Tryz.prog 110 #[.pointer (some ⟨b,0,none⟩)] w fun v w'=>v=.returned (errVal A s.stopN)/\LoS (gr F w w') w' b e s.stop/\Off F w w':=by
 obtain⟨E,so,h1,h2⟩:=h.ex
 cases so with
 | none=>
  have ha:s.act=false:=h2
  refine(lo_stop_idle _ h1 hx).mono ?_;rintro v w' ⟨rfl,rfl⟩;exact⟨by unfold LSt.stopN;rw[ha];rfl,LoS.to' h1 (show s.stop.act=false from rfl) h.lt (Nat.le_refl _),Off.refl _ _⟩
 | some n=>
  have ha:s.act=true:=NSim.act h2
  refine(lo_stop h1).mono ?_;rintro v w' ⟨rfl,h3,h4⟩;exact⟨by unfold LSt.stopN;rw[ha];rfl,LoS.to' h3 (show s.stop.act=false from rfl) h.lt h4.off.size,h4.off⟩
theorem los_report (p t:Int)(h:LoS F w b e s)(hx:w.cell? ⟨8,0,none⟩=some (errVal A 9))(hy:w.cell? ⟨4,0,none⟩=some (errVal A 5))(hS:SmallE e)(hn:s.ms.length < 1000)(ht:0<=t/\t<=1099511627776) :
  Calls Tryz.prog 111 #[.pointer (some ⟨b,0,none⟩),.int .i64 p,.int .i64 t] w fun v w'=>v=.returned (errVal A (s.repN e p))/\LoS (gr F w w') w' b e (s.rep e p t)/\Off F w w':=by
 obtain⟨E,so,h1,h2⟩:=h.ex
 cases so with
 | none=>
  have ha:s.act=false:=h2
  refine(lo_report_idle _ p t h1 hx).mono ?_;rintro v w' ⟨rfl,rfl⟩;have hb:s.rep e p t=s:=by unfold LSt.rep;rw[if_neg (fun x=>by rw[ha] at x;cases x.1)]
  rw[hb];exact⟨by unfold LSt.repN;rw[ha];rfl,LoS.to' h1 h2 h.lt (Nat.le_refl _),Off.refl _ _⟩
 | some n=>
  have ha:s.act=true:=NSim.act h2
  cases hp:hasP e p
  ·refine(lo_report_none _ p t h1 hp hy).mono ?_;rintro v w' ⟨rfl,rfl⟩;have hb:s.rep e p t=s:=by unfold LSt.rep;rw[if_neg (fun x=>by rw[hp] at x;cases x.2)]
   rw[hb];exact⟨by unfold LSt.repN;rw[ha,hp];rfl,LoS.to' h1 h2 h.lt (Nat.le_refl _),Off.refl _ _⟩
  ·refine(lo_report p t h1 hp hS).mono ?_;rintro v w' ⟨rfl,h3,h4⟩;exact⟨by unfold LSt.repN;rw[ha,hp];rfl,LoS.to' h3 (NSim.rep h2 p t hn (by unfold tickOk;rw[decide_eq_true ht.1,decide_eq_true ht.2];rfl)) h.lt h4.off.size,h4.off⟩
theorem los_end (h:LoS F w b e s)(hc:e.cnt < (e.pts.length:Int))(ht:0<=e.tol)(hF:LFit s 900000) :
  Calls Tryz.prog 276 #[.pointer (some ⟨b,0,none⟩)] w fun v w'=>v=.returned (.tuple #[.int .i64 (s.kind e),.bool (s.turns e)])/\LoS (gr F w w') w' b e (s.fin e)/\Off F w w':=by
 obtain⟨E,so,h1,h2⟩:=h.ex
 cases so with
 | none=>
  have ha:s.act=false:=h2
  refine(lo_end_idle h1).mono ?_;rintro v w' ⟨rfl,rfl⟩;have hb:s.fin e=s:=by unfold LSt.fin;rw[ha];rfl
  rw[hb];exact⟨by unfold LSt.kind LSt.turns;rw[ha];rfl,LoS.to' h1 h2 h.lt (Nat.le_refl _),Off.refl _ _⟩
 | some n=>
  have h2':NSim e n s:=h2
  refine(lo_end h1 (by have:=h2'.run;have:=hF.r1;have:=hF.s1;omega)).mono ?_;rintro v w' ⟨rfl,h3,h4⟩;exact⟨by rw[h2'.kind hc,h2'.turns hc ht],LoS.to' h3 (h2'.fin hc ht hF.each hF.s0) h.lt h4.off.size,h4.off⟩
theorem stWord_statB:∀ n,n<=3->stWord n=statB n
 | 0,_=>rfl
 | 1,_=>rfl
 | 2,_=>rfl
 | 3,_=>rfl
 | n+4,h=>by omega
theorem los_status (h:LoS F w b e s) :
  Calls Tryz.prog 119 #[.pointer (some ⟨b,0,none⟩)] w fun v w'=>v=.returned (.string (statB s.status))/\w'=w:=by
 obtain⟨E,so,h1,h2⟩:=h.ex
 cases so with
 | none=>
  have ha:s.act=false:=h2
  refine(lo_status_idle h1).mono ?_;rintro v w' ⟨rfl,rfl⟩;exact⟨by unfold LSt.status;rw[ha];rfl,rfl⟩
 | some n=>
  have h2':NSim e n s:=h2
  refine(lo_status h1).mono ?_;rintro v w' ⟨rfl,rfl⟩;have hn:n.status<=3:=by unfold NSt.status;split;omega;split <;> omega
  exact⟨by rw[stWord_statB _ hn,h2'.status],rfl⟩
theorem los_new (w:World)(e:EntD)(E:EA)(hP:PartsE w e E)(hS:SmallE e) :
  Calls Tryz.prog 106 #[.agg #[.string e.name,.int .i64 e.tol,.slice E.pa e.pts.length E.pc,.int .i64 e.cnt,.int .i64 e.mn,.int .i64 e.mx,.slice E.ga e.gaps.length E.gc,.slice E.ea e.edges.length E.ec,.slice E.fa e.first.length E.fc,.slice E.la e.last.length E.lc]] w fun v w'=>∃ b,v=.returned (.pointer (some ⟨b,0,none⟩))/\LoS (fun k=>w.heap.size<=k/\k < w'.heap.size) w' b e LSt.new/\Below w.heap.size w w':=by
 refine(lo_new w e E hP hS).mono ?_;rintro v w' ⟨⟨b,E',rfl,h1⟩,hb⟩;exact⟨b,rfl,⟨⟨E',none,h1.mono (fun k hk h=>⟨h,hk⟩),rfl⟩,fun k hk=>hk.2⟩,hb⟩
end
section
variable {A:Nat->Addr}{F F':Nat->Prop}{w w':World}{B rb bc:Nat}{s:CSt}{L:List Rec}{sp:Bool}{c:CfgD}{K:KSt}{k W:Nat}
structure RgS (F:Nat->Prop)(B:Nat)(w:World)(rb bc:Nat)(s:CSt)(L:List Rec)(sp:Bool):Prop where
 ring:∃ v,RingAt w B rb bc v L sp/\∀ k,v.ownBlock=some k->F k
 cells:CellsAt w bc s
 fr:F rb
 fc:F bc
 ne:rb≠bc
 lt:∀ k,F k->k < w.heap.size
theorem RgS.off {S:Nat->Prop}(h:RgS F B w rb bc s L sp)(ho:Off S w w')(hS:∀ k,F k->¬S k):RgS F B w' rb bc s L sp:=by
 obtain⟨v,h1,h2⟩:=h.ring;exact⟨⟨v,h1.off ho (hS rb h.fr) (fun g hg=>hS g (h2 g hg)),h2⟩,h.cells.off ho (hS bc h.fc),h.fr,h.fc,h.ne,fun k hk=>Nat.lt_of_lt_of_le (h.lt k hk) ho.size⟩
theorem RgS.to {v v':Value}{s':CSt}{L':List Rec}{sp':Bool}(h:RgS F B w rb bc s L sp)(hv:∀ k,v.ownBlock=some k->F k)(h1:RingAt w' B rb bc v' L' sp')(hn:∀ k,v'.ownBlock=some k->v.ownBlock=some k\/w.heap.size<=k)(h2:CellsAt w' bc s')(hz:w.heap.size<=w'.heap.size):RgS (gr F w w') B w' rb bc s' L' sp':=
 ⟨⟨v',h1,fun k hk=>(hn k hk).elim (fun a=>Or.inl (hv k a)) (fun a=>Or.inr ⟨a,(h1.recs.lt k hk).2⟩)⟩,h2,Or.inl h.fr,Or.inl h.fc,h.ne,fun k hk=>by
  rcases hk with hk | ⟨_,hk⟩
  ·exact Nat.lt_of_lt_of_le (h.lt k hk) hz
  ·exact hk⟩
theorem RgS.toCells {s':CSt}(h:RgS F B w rb bc s L sp)(h2:CellsAt w' bc s')(hg:w.grownBy w' (some bc)):RgS (gr F w w') B w' rb bc s' L sp/\Off F w w':=by
 obtain⟨v,h1,h3⟩:=h.ring;have ho:=Off.of_grown hg;exact⟨h.to h3 (h1.off ho h.ne (fun g hg e=>h1.sep.2 (by rw[hg,e]))) (fun k hk=>Or.inl hk) h2 hg.size,ho.mono (fun k _ e=>by rw[e];exact h.fc)⟩
theorem rgs_app (h:RgS F B w rb bc K.c K.L K.sp)(hf:KFit c K k W)(hW:W+18<=1099511627776)(ho:K.c.off=false)(hs:Sen4 A w)(hgm:8<=bc)(i kd t:Nat)(h1:i<=255)(h2:kd<=255)(h3:t<=281474976710655) :
  Calls Tryz.prog 277 #[.pointer (some ⟨rb,0,none⟩),.int .i64 (i:Int),.int .i64 (kd:Int),.int .i64 (t:Int)] w fun e w'=>∃ r:Rec,e=.returned (.tuple #[r.val,errVal A (K.app i kd t).2])/\RgS (gr F w w') B w' rb bc (K.app i kd t).1.c (K.app i kd t).1.L (K.app i kd t).1.sp/\Off F w w':=by
 have hsp:K.sp=false:=by
  cases e:K.sp with
  | false=>rfl
  | true=>rw[hf.sp e] at ho;cases ho
 obtain⟨v,hr,hv⟩:=h.ring;rw[hsp] at hr;have hS:∀ V,Off (fun k=>k=bc\/k=rb\/v.ownBlock=some k) w V->Off F w V:=fun V hV=>hV.mono (fun k _ hk=>by
  rcases hk with rfl | rfl | hk
  ·exact h.fc
  ·exact h.fr
  ·exact hv k hk)
 have hlast:=hf.last
 by_cases hq:(lastR K.L).seq=4294967295
 ·have hB:K.app i kd t=(K,7):=by unfold KSt.app;rw[if_neg (by rw[hsp];simp),if_pos hq]
  rw[hB]
  refine(append_full A B rb bc v K.L i kd t w hr hs hf.llen (decide_eq_true (by omega)) (decide_eq_true (by omega)) (decide_eq_true (by omega)) hq).mono ?_;rintro e w' ⟨rfl,hb⟩
  refine⟨.none,rfl,?_,Off.of_below hb F⟩;show RgS (gr F w w') B w' rb bc K.c K.L K.sp
  rw[hsp];exact h.to hv (hr.below hb) (fun k hk=>Or.inl hk) (h.cells.below hb) hb.size
 ·refine(append_go A B rb bc v K.L K.c i kd t w hr h.cells hs hgm h.ne ⟨by have:=hf.wr;omega,hf.left⟩ hf.llen h1 h2 h3 (by omega)).mono ?_;rintro e w' (⟨j,hj,rfl,hri,hc,hof⟩ | ⟨h0,rfl,⟨v',hri,hv'⟩,hc,hof⟩)
  ·have hB:K.app i kd t=({ K with c:=(K.c.putRec (nextR K.L i kd t)).1,sp:=true },j+1):=by unfold KSt.app;rw[if_neg (by rw[hsp];simp),if_neg hq,if_neg (by omega),hj]
   rw[hB];exact⟨.none,rfl,h.to hv hri (fun k hk=>Or.inl hk) hc hof.size,hS w' hof⟩
  ·have hB:K.app i kd t=({ K with c:=(K.c.putRec (nextR K.L i kd t)).1,L:=keepL K.L (nextR K.L i kd t) },0):=by unfold KSt.app;rw[if_neg (by rw[hsp];simp),if_neg hq,if_pos h0]
   rw[hB]
   refine⟨_,rfl,?_,hS w' hof⟩;show RgS (gr F w w') B w' rb bc _ _ K.sp
   rw[hsp];exact h.to hv hri hv' hc hof.size
theorem rgs_cut (h:RgS F B w rb bc K.c K.L K.sp)(hs:Sen4 A w)(n:Int) :
  Calls Tryz.prog 59 #[.pointer (some ⟨bc,0,none⟩),.int .i64 n] w fun e w'=>e=.returned (errVal A (K.cut n).2)/\RgS (gr F w w') B w' rb bc (K.cut n).1.c (K.cut n).1.L (K.cut n).1.sp/\Off F w w':=by
 have same:RgS (gr F w w) B w rb bc K.c K.L K.sp:=by obtain⟨v,a,b⟩:=h.ring;exact h.to b a (fun k hk=>Or.inl hk) h.cells (Nat.le_refl _)
 by_cases hn:n < 0
 ·have hB:K.cut n=(K,2):=by unfold KSt.cut;rw[if_pos hn]
  rw[hB]
  refine(cut_low4 A bc n w hs hn).mono ?_;rintro e w' ⟨rfl,rfl⟩;exact⟨rfl,same,Off.refl _ _⟩
 ·by_cases ho:K.c.off=true
  ·have hB:K.cut n=(K,8):=by unfold KSt.cut;rw[if_neg hn,if_pos ho]
   rw[hB]
   refine(cut_off4 A bc K.c n w h.cells hs hn ho).mono ?_;rintro e w' ⟨rfl,rfl⟩;exact⟨rfl,same,Off.refl _ _⟩
  ·have ho':K.c.off=false:=by cases e:K.c.off;rfl;exact absurd e ho
   obtain⟨q,rfl⟩:∃ q:Nat,n=(q:Int):=⟨n.toNat,by omega⟩;have hB:K.cut (q:Int)=({ K with c:={ K.c with cut:=true,left:=q } },0):=by unfold KSt.cut;rw[if_neg hn,if_neg ho];rfl
   rw[hB]
   refine(cut_on bc K.c q w h.cells ho').mono ?_;rintro e w' ⟨rfl,hc,hg,-⟩;obtain⟨a,b⟩:=h.toCells hc hg;exact⟨rfl,a,b⟩
theorem rgs_on (h:RgS F B w rb bc s L sp) :
  Calls Tryz.prog 113 #[.pointer (some ⟨bc,0,none⟩)] w fun e w'=>e=.returned (.tuple #[])/\RgS (gr F w w') B w' rb bc { s with off:=false,cut:=false,left:=0 } L sp/\Off F w w':=by
 refine(on_any bc s w h.cells).mono ?_;rintro e w' ⟨rfl,hc,hg,-⟩;obtain⟨a,b⟩:=h.toCells hc hg;exact⟨rfl,a,b⟩
theorem rgs_open {D:Nat}(h:CellsAt w bc s)(hs:Sen4 A w)(hbig:153<=s.size)(hoff:s.off=false)(hD:D<=w.heap.size) :
  Calls Tryz.prog 166 #[.pointer (some ⟨bc,0,none⟩)] w fun e w'=>∃ rb,e=.returned (.tuple #[.pointer (some ⟨rb,0,none⟩),.nilIface])/\RgS (fun k=>k=bc\/(w.heap.size<=k/\k < w'.heap.size)) D w' rb bc s (openL (s.bytes.take s.size)) false/\Below w.heap.size w w':=by
 refine(open_on A bc s w h hs (by unfold CSt.err;rw[if_neg (by omega),if_neg (by rw[hoff];simp)])).mono ?_;rintro e w' ⟨rb,v,rfl,hr,hb⟩;have hlt:=h.lt;have hrl:=hr.lo
 refine⟨rb,rfl,⟨⟨v,?_,fun k hk=>Or.inr (hr.recs.lt k hk)⟩,h.below hb,Or.inr ⟨hr.lo,hr.lt⟩,Or.inl rfl,by omega,fun k hk=>?_⟩,hb⟩
 ·rw[openL_take _ _ hbig];exact⟨hr.heap,hr.recs.mono hD,hr.sep,Nat.le_trans hD hr.lo⟩
 ·rcases hk with rfl | hk
  ·exact Nat.lt_of_lt_of_le hlt hb.size
  ·exact hk.2
theorem DogAt.off {w w':World}{b:Nat}{d:DSt}{S:Nat->Prop}(h:DogAt w b d)(ho:Off S w w')(h1:¬S b):DogAt w' b d:=⟨(ho.block b h.lt h1).trans h.heap,h.hc,h.ho,h.hk,h.hb,h.hn⟩
end
def idxOf (l:List ByteArray)(s:ByteArray):Int:=match l.findIdx? (fun y=>decide (y=s)) with
 | some i=>(i:Int)
 | none=>-1
theorem slatS_cell {w:World}{sa:Option Addr}{cap:Nat}{l:List ByteArray}(h:SlAt encS 1 w (.slice sa l.length cap) l){k:Nat}{x:ByteArray}(hx:l[k]?=some x):∃ g o,sa=some ⟨g,o,none⟩/\∀ i x,l[i]?=some x->w.cell? ⟨g,o+i,none⟩=some (.string x):=by
 obtain⟨sa',cap',hsl,-,hcc⟩:=h
 cases hsl
 obtain⟨g,o,rfl,hc0⟩:=hcc (fun h=>by rw[h] at hx;simp at hx);exact⟨g,o,rfl,fun i x hx=>by have:=hc0 i x hx 0 _ rfl;simpa using this⟩
theorem bytesN {a b:ByteArray}(h:¬a=b):(a.toList == b.toList)=false/\¬a.toList=b.toList:=by
 have h2:¬a.toList=b.toList:=fun e=>by
  rw[ByteArray.toList_eq,ByteArray.toList_eq] at e;apply h
  obtain⟨⟨a⟩⟩:=a;obtain⟨⟨b⟩⟩:=b;simp at e
  subst e;rfl
 exact⟨by simpa using h2,h2⟩
theorem idxOf_at {l:List ByteArray}{s:ByteArray}{k:Nat}(hk:l[k]?=some s)(h:∀ j x,j < k->l[j]?=some x->x≠s):idxOf l s=k:=by
 have:l.findIdx? (fun y=>decide (y=s))=some k:=by
  rw[List.findIdx?_eq_some_iff_getElem];obtain⟨hlt,e⟩:=List.getElem?_eq_some_iff.1 hk;exact⟨hlt,by simp[e],fun j hj=>by simpa using h j _ hj (List.getElem?_eq_getElem (by omega))⟩
 unfold idxOf;rw[this]
theorem idxOf_no {l:List ByteArray}{s:ByteArray}(h:∀ j x,j < l.length->l[j]?=some x->x≠s):idxOf l s=-1:=by
 have:l.findIdx? (fun y=>decide (y=s))=none:=by
  rw[List.findIdx?_eq_none_iff];intro y hy;obtain⟨j,hj⟩:=List.getElem?_of_mem hy;have hjl:j < l.length:=by
   rcases Nat.lt_or_ge j l.length with h' | h'
   ·exact h'
   ·rw[List.getElem?_eq_none h'] at hj;cases hj
  simpa using h j y hjl hj
 unfold idxOf;rw[this]
end Go.Proofs.YtffpcbdlbcjihadGreatDoor
