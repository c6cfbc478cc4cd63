/-
  Several texts as one: LoOps, LoFin, CellsSt, Four.
-/
import Derived.Test.YtdpdbfhbojgigacGreatDoorC08S
namespace Go.Proofs.YtdpdbfhbojgigacGreatDoor
open Go.RowKit Go.Extern.Stop Go.Stop Go.Extern
section
variable {F F':Nat->Prop}{w w' w'':World}{b ba bg bf:Nat}{e:EntD}{E:EA}{s:Option NSt}{n:NSt}
theorem Tryz.sizeLocal:(Tryz.prog.info? 154).map (·.size)=some 17:=by kernel_rfl
set_option maxHeartbeats 4000000 in
set_option maxRecDepth 100000 in
theorem lo_begin (h:LoAt F w b e E none)(hS:SmallE e)(hW:WfE e.edges) :
  Calls Tryz.prog 54 #[.pointer (some ⟨b,0,none⟩)] w fun v w'=>v=.returned .nilIface/\LoAt (fun k=>F k\/w.heap.size<=k) w' b e E (some (NSt.new e))/\FrL F w w':=by
 have H:Hid (LoAt F w b e E none):=h;have HS:Hid (SmallE e):=hS;have HW:Hid (WfE e.edges):=hW;have hr:w.heap[b]?=some (.cells (loRow (.pointer none) (.pointer none) (.pointer none) e E false false 0 false) 154 (0,0)):=h.row;have HR:Hid (w.heap[b]?=some (.cells (loRow (.pointer none) (.pointer none) (.pointer none) e E false false 0 false) 154 (0,0))):=hr;have c13:w.cell? ⟨b,13,none⟩=some (.bool false):=by simp[World.cell?,hr,loRow]
 have c3:w.cell? ⟨b,3,none⟩=some (.string e.name):=by simp[World.cell?,hr,loRow]
 have c4:w.cell? ⟨b,4,none⟩=some (.int .i64 e.tol):=by simp[World.cell?,hr,loRow]
 have c5:w.cell? ⟨b,5,none⟩=some (.slice E.pa e.pts.length E.pc):=by simp[World.cell?,hr,loRow]
 have c6:w.cell? ⟨b,6,none⟩=some (.int .i64 e.cnt):=by simp[World.cell?,hr,loRow]
 have c7:w.cell? ⟨b,7,none⟩=some (.int .i64 e.mn):=by simp[World.cell?,hr,loRow]
 have c8:w.cell? ⟨b,8,none⟩=some (.int .i64 e.mx):=by simp[World.cell?,hr,loRow]
 have c9:w.cell? ⟨b,9,none⟩=some (.slice E.ga e.gaps.length E.gc):=by simp[World.cell?,hr,loRow]
 have c10:w.cell? ⟨b,10,none⟩=some (.slice E.ea e.edges.length E.ec):=by simp[World.cell?,hr,loRow]
 have c11:w.cell? ⟨b,11,none⟩=some (.slice E.fa e.first.length E.fc):=by simp[World.cell?,hr,loRow]
 have c12:w.cell? ⟨b,12,none⟩=some (.slice E.la e.last.length E.lc):=by simp[World.cell?,hr,loRow]
 clear h hS hW hr;go_enter Tryz.func54,Tryz.ntmps54
 go_wp2_with fail
 refine(newWatch_at _ e E H.out.parts.parts HS.out HW.out).mono ?_;rintro v W ⟨⟨ba,bg,bf,rfl,hwat⟩,hb⟩;have hr1:W.heap[b]?=some (.cells (loRow (.pointer none) (.pointer none) (.pointer none) e E false false 0 false) 154 (0,0)):=row_below hb HR.out;have HR1:Hid (W.heap[b]?=some (.cells (loRow (.pointer none) (.pointer none) (.pointer none) e E false false 0 false) 154 (0,0))):=hr1;have HB1:Hid (Below w.heap.size w W):=hb;have HWat:Hid (WatAt (fun k=>w.heap.size<=k) W ba bg bf e (WSt.new e)):=hwat;have d0:W.cell? ⟨b,0,none⟩=some (.pointer none):=by simp[World.cell?,hr1,loRow]
 have d1:W.cell? ⟨b,1,none⟩=some (.pointer none):=by simp[World.cell?,hr1,loRow]
 have d2:W.cell? ⟨b,2,none⟩=some (.pointer none):=by simp[World.cell?,hr1,loRow]
 have d13:W.cell? ⟨b,13,none⟩=some (.bool false):=by simp[World.cell?,hr1,loRow]
 have q:∀ i,W.frozen? ⟨b,i,none⟩=false:=fun i=>by simp[World.frozen?,hr1]
 clear c3 c4 c5 c6 c7 c8 c9 c10 c11 c12 c13 hwat hb hr1;go_wp2;go_ret;have hg:W.grownBy ((((W.setCell ⟨b,0,none⟩ (.pointer (some ⟨ba,0,none⟩))).setCell ⟨b,1,none⟩ (.pointer (some ⟨bg,0,none⟩))).setCell ⟨b,2,none⟩ (.pointer (some ⟨bf,0,none⟩))).setCell ⟨b,13,none⟩ (.bool true)) (some b):=(((grown_setCell _ _ _ _).trans (grown_setCell _ _ _ _)).trans (grown_setCell _ _ _ _)).trans (grown_setCell _ _ _ _);have hrow:((((W.setCell ⟨b,0,none⟩ (.pointer (some ⟨ba,0,none⟩))).setCell ⟨b,1,none⟩ (.pointer (some ⟨bg,0,none⟩))).setCell ⟨b,2,none⟩ (.pointer (some ⟨bf,0,none⟩))).setCell ⟨b,13,none⟩ (.bool true)).heap[b]?=some (.cells (loRow (.pointer (some ⟨ba,0,none⟩)) (.pointer (some ⟨bg,0,none⟩)) (.pointer (some ⟨bf,0,none⟩)) e E true false 0 false) 154 (0,0)):=by
  have:=HR1.out;simp[World.setCell,Array.getElem?_modify,this,loRow]
 have hf1:FrL F w W:=FrL.below HB1.out;have hf2:FrL F W ((((W.setCell ⟨b,0,none⟩ (.pointer (some ⟨ba,0,none⟩))).setCell ⟨b,1,none⟩ (.pointer (some ⟨bg,0,none⟩))).setCell ⟨b,2,none⟩ (.pointer (some ⟨bf,0,none⟩))).setCell ⟨b,13,none⟩ (.bool true)):=FrL.put hg HR1.out (Or.inl rfl) H.out.fb;have hff:=hf1.trans hf2 (fun _ _ x=>x)
 refine⟨rfl,⟨(H.out.parts.fr hff).mono (fun _ _ x=>Or.inl x),Or.inl H.out.fb,ba,bg,bf,hrow,?_⟩,hff⟩
 refine WatAt.mono (F:=fun k=>w.heap.size<=k) (HWat.out.same (fun k hk=>?_)) (fun _ _ x=>Or.inr x);have hbl:=lt_of_row HR.out;have hk':w.heap.size<=k:=hk;have hne:some k≠some b:=fun e1=>by rw[Option.some.inj e1] at hk';omega
 rcases Nat.lt_or_ge k W.heap.size with h1 | h1
 ·exact hg.block k h1 hne
 ·rw[Array.getElem?_eq_none h1,Array.getElem?_eq_none (by simpa[World.setCell] using h1)]
set_option maxHeartbeats 1000000 in
theorem lo_held (x:Value)(h:LoAt F w b e E (some n))(hx:w.cell? ⟨0,0,none⟩=some x) :
  Calls Tryz.prog 54 #[.pointer (some ⟨b,0,none⟩)] w fun v w'=>v=.returned x/\w'=w:=by
 obtain⟨ba,bg,bf,hr,-⟩:=h.row;have c13:w.cell? ⟨b,13,none⟩=some (.bool true):=by simp[World.cell?,hr,loRow]
 clear h hr;go_enter Tryz.func54,Tryz.ntmps54
 go_wp2;go_ret;exact⟨rfl,rfl⟩
set_option maxHeartbeats 1000000 in
theorem lo_stop_idle (x:Value)(h:LoAt F w b e E none)(hx:w.cell? ⟨4,0,none⟩=some x) :
  Calls Tryz.prog 55 #[.pointer (some ⟨b,0,none⟩)] w fun v w'=>v=.returned x/\w'=w:=by
 have hr:w.heap[b]?=some (.cells (loRow (.pointer none) (.pointer none) (.pointer none) e E false false 0 false) 154 (0,0)):=h.row;have c13:w.cell? ⟨b,13,none⟩=some (.bool false):=by simp[World.cell?,hr,loRow]
 clear h hr;go_enter Tryz.func55,Tryz.ntmps55
 go_wp2;go_ret;exact⟨rfl,rfl⟩
set_option maxHeartbeats 4000000 in
set_option maxRecDepth 100000 in
theorem lo_stop (h:LoAt F w b e E (some n)) :
  Calls Tryz.prog 55 #[.pointer (some ⟨b,0,none⟩)] w fun v w'=>v=.returned .nilIface/\LoAt F w' b e E none/\FrL F w w':=by
 have H:Hid (LoAt F w b e E (some n)):=h;obtain⟨ba,bg,bf,hr,-⟩:=h.row;have HR:Hid (w.heap[b]?=some (.cells (loRow (.pointer (some ⟨ba,0,none⟩)) (.pointer (some ⟨bg,0,none⟩)) (.pointer (some ⟨bf,0,none⟩)) e E true n.whole (n.run:Int) n.ex) 154 (0,0))):=hr;have c13:w.cell? ⟨b,13,none⟩=some (.bool true):=by simp[World.cell?,hr,loRow]
 have c3:w.cell? ⟨b,3,none⟩=some (.string e.name):=by simp[World.cell?,hr,loRow]
 have c4:w.cell? ⟨b,4,none⟩=some (.int .i64 e.tol):=by simp[World.cell?,hr,loRow]
 have c5:w.cell? ⟨b,5,none⟩=some (.slice E.pa e.pts.length E.pc):=by simp[World.cell?,hr,loRow]
 have c6:w.cell? ⟨b,6,none⟩=some (.int .i64 e.cnt):=by simp[World.cell?,hr,loRow]
 have c7:w.cell? ⟨b,7,none⟩=some (.int .i64 e.mn):=by simp[World.cell?,hr,loRow]
 have c8:w.cell? ⟨b,8,none⟩=some (.int .i64 e.mx):=by simp[World.cell?,hr,loRow]
 have c9:w.cell? ⟨b,9,none⟩=some (.slice E.ga e.gaps.length E.gc):=by simp[World.cell?,hr,loRow]
 have c10:w.cell? ⟨b,10,none⟩=some (.slice E.ea e.edges.length E.ec):=by simp[World.cell?,hr,loRow]
 have c11:w.cell? ⟨b,11,none⟩=some (.slice E.fa e.first.length E.fc):=by simp[World.cell?,hr,loRow]
 have c12:w.cell? ⟨b,12,none⟩=some (.slice E.la e.last.length E.lc):=by simp[World.cell?,hr,loRow]
 clear h hr;go_enter Tryz.func55,Tryz.ntmps55
 go_wp2_with (refine wpList_store_row rfl 154 _ _ rfl b (loRow (.pointer none) (.pointer none) (.pointer none) e E false false 0 false) rfl rfl 154 (loRow (.pointer (some ⟨ba,0,none⟩)) (.pointer (some ⟨bg,0,none⟩)) (.pointer (some ⟨bf,0,none⟩)) e E true n.whole (n.run:Int) n.ex) HR.out Tryz.sizeLocal rfl (by simp[Value.oneCell',loRow]) ?_)
 go_ret;have hg:w.grownBy (w.setRow b (loRow (.pointer none) (.pointer none) (.pointer none) e E false false 0 false)) (some b):=grown_setRow _ _ _;have hf:FrL F w (w.setRow b (loRow (.pointer none) (.pointer none) (.pointer none) e E false false 0 false)):=FrL.put hg HR.out (Or.inl rfl) H.out.fb;exact⟨rfl,⟨H.out.parts.fr hf,H.out.fb,heap_setRow _ HR.out⟩,hf⟩
set_option maxHeartbeats 1000000 in
theorem lo_report_idle (x:Value)(p t:Int)(h:LoAt F w b e E none)(hx:w.cell? ⟨4,0,none⟩=some x) :
  Calls Tryz.prog 56 #[.pointer (some ⟨b,0,none⟩),.int .i64 p,.int .i64 t] w fun v w'=>v=.returned x/\w'=w:=by
 have hr:w.heap[b]?=some (.cells (loRow (.pointer none) (.pointer none) (.pointer none) e E false false 0 false) 154 (0,0)):=h.row;have c13:w.cell? ⟨b,13,none⟩=some (.bool false):=by simp[World.cell?,hr,loRow]
 clear h hr;go_enter Tryz.func56,Tryz.ntmps56
 go_wp2;go_ret;exact⟨rfl,rfl⟩
set_option maxHeartbeats 1000000 in
theorem lo_report_none (x:Value)(p t:Int)(h:LoAt F w b e E (some n))(hp:hasP e p=false)(hx:w.cell? ⟨5,0,none⟩=some x) :
  Calls Tryz.prog 56 #[.pointer (some ⟨b,0,none⟩),.int .i64 p,.int .i64 t] w fun v w'=>v=.returned x/\w'=w:=by
 obtain⟨ba,bg,bf,hr,-⟩:=h.row;have c13:w.cell? ⟨b,13,none⟩=some (.bool true):=by simp[World.cell?,hr,loRow]
 have c5:w.cell? ⟨b,5,none⟩=some (.slice E.pa e.pts.length E.pc):=by simp[World.cell?,hr,loRow]
 clear h hr
 by_cases g0:p < 0
 ·clear hp;go_enter Tryz.func56,Tryz.ntmps56
  go_wp2;go_ret;exact⟨rfl,rfl⟩
 ·have g1:(e.pts.length:Int)<=p:=by unfold hasP at hp;simp at hp;omega
  clear hp;go_enter Tryz.func56,Tryz.ntmps56
  go_wp2;go_ret;exact⟨rfl,rfl⟩
set_option maxHeartbeats 2000000 in
set_option maxRecDepth 100000 in
theorem lo_report (p t:Int)(h:LoAt F w b e E (some n))(hp:hasP e p=true)(hS:SmallE e) :
  Calls Tryz.prog 56 #[.pointer (some ⟨b,0,none⟩),.int .i64 p,.int .i64 t] w fun v w'=>v=.returned .nilIface/\LoAt F w' b e E (some (n.rep e p t))/\FrL F w w':=by
 have H:Hid (LoAt F w b e E (some n)):=h;have HS:Hid (SmallE e):=hS;have HP:Hid (hasP e p=true):=hp;obtain⟨ba,bg,bf,hr,hw⟩:=h.row;have HR:Hid (w.heap[b]?=some (.cells (loRow (.pointer (some ⟨ba,0,none⟩)) (.pointer (some ⟨bg,0,none⟩)) (.pointer (some ⟨bf,0,none⟩)) e E true n.whole (n.run:Int) n.ex) 154 (0,0))):=hr;have HWt:Hid (WatAt F w ba bg bf e n.w):=hw;have c13:w.cell? ⟨b,13,none⟩=some (.bool true):=by simp[World.cell?,hr,loRow]
 have c5:w.cell? ⟨b,5,none⟩=some (.slice E.pa e.pts.length E.pc):=by simp[World.cell?,hr,loRow]
 have g0:¬p < 0:=by unfold hasP at hp;simp at hp;omega
 have g1:¬(e.pts.length:Int)<=p:=by unfold hasP at hp;simp at hp;omega
 clear h hr hw hp hS;go_enter Tryz.func56,Tryz.ntmps56
 go_wp2_with fail
 refine(watch_report p t _ HWt.out HR.out rfl rfl rfl HS.out).mono ?_;rintro v W ⟨rfl,hto⟩;have HT:Hid (WatTo F w W b ba bg bf e (n.w.rep e p t) (loRow (.pointer (some ⟨ba,0,none⟩)) (.pointer (some ⟨bg,0,none⟩)) (.pointer (some ⟨bf,0,none⟩)) e E true n.whole (n.run:Int) n.ex)):=hto;clear hto;go_wp2;go_ret
 refine⟨rfl,⟨H.out.parts.fr HT.out.fr,H.out.fb,?_⟩,HT.out.fr⟩;unfold NSt.rep;rw[if_pos HP.out];exact⟨ba,bg,bf,HT.out.row,HT.out.wat⟩
def stWord:Nat->ByteArray
 | 0=>⟨#[105,100,108,101]⟩
 | 1=>⟨#[111,107]⟩
 | 2=>⟨#[102,97,105,108,101,100]⟩
 | _=>⟨#[101,120,112,105,114,101,100]⟩
set_option maxHeartbeats 1000000 in
theorem lo_status_idle (h:LoAt F w b e E none) :
  Calls Tryz.prog 94 #[.pointer (some ⟨b,0,none⟩)] w fun v w'=>v=.returned (.string (stWord 0))/\w'=w:=by
 have hr:w.heap[b]?=some (.cells (loRow (.pointer none) (.pointer none) (.pointer none) e E false false 0 false) 154 (0,0)):=h.row;have c13:w.cell? ⟨b,13,none⟩=some (.bool false):=by simp[World.cell?,hr,loRow]
 clear h hr;go_enter Tryz.func94,Tryz.ntmps94
 go_wp2;go_ret;exact⟨rfl,rfl⟩
set_option maxHeartbeats 1000000 in
theorem lo_status (h:LoAt F w b e E (some n)) :
  Calls Tryz.prog 94 #[.pointer (some ⟨b,0,none⟩)] w fun v w'=>v=.returned (.string (stWord n.status))/\w'=w:=by
 obtain⟨ba,bg,bf,hr,-⟩:=h.row;have c13:w.cell? ⟨b,13,none⟩=some (.bool true):=by simp[World.cell?,hr,loRow]
 have c15:w.cell? ⟨b,15,none⟩=some (.int .i64 (n.run:Int)):=by simp[World.cell?,hr,loRow]
 have c16:w.cell? ⟨b,16,none⟩=some (.bool n.ex):=by simp[World.cell?,hr,loRow]
 clear h hr;obtain⟨nw,nwh,run,ex⟩:=n
 cases ex with
 | true=>
  go_enter Tryz.func94,Tryz.ntmps94
  go_wp2;go_ret;exact⟨rfl,rfl⟩
 | false=>
  by_cases h0:run=0
  ·subst h0;go_enter Tryz.func94,Tryz.ntmps94
   go_wp2;go_ret;exact⟨rfl,rfl⟩
  ·have HR:Hid (NSt.status ⟨nw,nwh,run,false⟩=2):=by show _=_;simp[NSt.status,h0]
   have h1:¬((run:Nat):Int)=0:=by omega
   go_enter Tryz.func94,Tryz.ntmps94
   go_wp2;go_ret;exact⟨by rw[HR.out];rfl,rfl⟩
end
section
variable {F F':Nat->Prop}{w w' w'':World}{b ba bg bf:Nat}{e:EntD}{E:EA}{s:Option NSt}{n:NSt}
def lendK (n:NSt)(b:Nat):Nat->Value->Prop
 | 0=>fun v=>v=.pointer (some ⟨b,0,none⟩)
 | 1=>fun v=>v=.pointer (some ⟨b,0,none⟩)
 | 2=>fun v=>v=.pointer (some ⟨b,0,none⟩)
 | 3=>fun v=>v=.pointer (some ⟨b,0,none⟩)
 | 4=>fun v=>v=.pointer (some ⟨b,0,none⟩)
 | 5=>fun v=>v=.pointer (some ⟨b,14,none⟩)
 | 6=>fun v=>v=.bool n.whole
 | 7=>fun v=>v=.int .i64 n.kind
 | 8=>fun v=>v=.int .i64 n.kind
 | _=>fun _=>True
def zIf (s:WSt)(d:Bool):WSt:=if d then s.zero else s
theorem LoAt.put {n':NSt}{W:World}(h:LoAt F w b e E (some n))(hT:WatTo F w W b ba bg bf e n'.w (loRow (.pointer (some ⟨ba,0,none⟩)) (.pointer (some ⟨bg,0,none⟩)) (.pointer (some ⟨bf,0,none⟩)) e E true n.whole (n.run:Int) n.ex))(W2:World)(hg:W.grownBy W2 (some b))(hrow:W2.heap[b]?=some (.cells (loRow (.pointer (some ⟨ba,0,none⟩)) (.pointer (some ⟨bg,0,none⟩)) (.pointer (some ⟨bf,0,none⟩)) e E true n'.whole (n'.run:Int) n'.ex) 154 (0,0))):LoAt F W2 b e E (some n')/\FrL F w W2:=by
 have hf2:FrL F W W2:=FrL.put hg hT.row (Or.inl rfl) h.fb;have hff:=hT.fr.trans hf2 (fun _ _ x=>x)
 refine⟨⟨h.parts.fr hff,h.fb,ba,bg,bf,hrow,?_⟩,hff⟩;obtain⟨sa,cap,h1,h2⟩:=hT.wat.ga;obtain⟨m,nn,D,fv,lv,h3,h4,h5,h6,h7⟩:=hT.wat.fl;have hoff:∀ k,(∀ c T fr,W.heap[k]?=some (.cells c T fr)->T≠154 )->k < W.heap.size->W2.heap[k]?=W.heap[k]?:=fun k hk hlt=>hg.block k hlt (fun e1=>by cases e1;exact hk _ _ _ hT.row rfl)
 have hty:∀ {k:Nat} {c:Array Value} {T:TypeId} {fr:Nat × Nat},W.heap[k]?=some (.cells c T fr)->T≠154->W2.heap[k]?=W.heap[k]?:=fun hk hT2=>hoff _ (fun c' T' fr' h'=>by rw[hk] at h';simp only[Option.some.injEq,Obj.cells.injEq] at h';rw[<- h'.2.1];exact hT2) (lt_of_row hk)
 refine⟨hT.wat.al.same (hty hT.wat.al.heap (by decide)),hT.wat.fa,⟨sa,cap,h1.same (fun k hk=>?_),h2⟩,⟨m,nn,D,fv,lv,h3.same (hty h3.heap (by decide)) ?_ (fun g hg=>?_) (fun g hg=>?_),h4,h5,h6,h7⟩,hT.wat.gl⟩
 ·obtain⟨c,T,fr,h8,h9⟩:=gs_ty h1 hk;exact hty h8 (by rcases h9 with rfl | rfl <;> decide)
 ·refine hoff m (fun c T fr hc=>?_) (map_lt h3);obtain⟨es,c',hm0,rest⟩:=h3.own;rw[hm0] at hc
  cases hc
 ·obtain⟨c',fr',h8⟩:=own_ty h3.hf hg;exact hty h8 (by decide)
 ·obtain⟨c',fr',h8⟩:=own_ty h3.hl hg;exact hty h8 (by decide)
set_option maxHeartbeats 1000000 in
theorem lo_end_idle (h:LoAt F w b e E none) :
  Calls Tryz.prog 126 #[.pointer (some ⟨b,0,none⟩)] w fun v w'=>v=.returned (.tuple #[.int .i64 0,.bool false])/\w'=w:=by
 have hr:w.heap[b]?=some (.cells (loRow (.pointer none) (.pointer none) (.pointer none) e E false false 0 false) 154 (0,0)):=h.row;have c13:w.cell? ⟨b,13,none⟩=some (.bool false):=by simp[World.cell?,hr,loRow]
 clear h hr;go_enter Tryz.func126,Tryz.ntmps126
 go_wp2;go_ret2
 exact⟨rfl,rfl⟩
set_option maxHeartbeats 4000000 in
set_option maxRecDepth 100000 in
theorem lo_end (h:LoAt F w b e E (some n))(hn:n.run<=1000000) :
  Calls Tryz.prog 126 #[.pointer (some ⟨b,0,none⟩)] w fun v w'=>v=.returned (.tuple #[.int .i64 n.kind,.bool (n.turns e)])/\LoAt F w' b e E (some (n.fin e))/\FrL F w w':=by
 have H:Hid (LoAt F w b e E (some n)):=h;have HN:Hid (n.run<=1000000):=hn;obtain⟨ba,bg,bf,hr,hw⟩:=h.row;have HWt:Hid (WatTo F w w b ba bg bf e n.w (loRow (.pointer (some ⟨ba,0,none⟩)) (.pointer (some ⟨bg,0,none⟩)) (.pointer (some ⟨bf,0,none⟩)) e E true n.whole (n.run:Int) n.ex)):=⟨hw,hr,FrL.refl _ _⟩;have c13:w.cell? ⟨b,13,none⟩=some (.bool true):=by simp[World.cell?,hr,loRow]
 clear h hr hw hn;go_enter Tryz.func126,Tryz.ntmps126
 go_wp2_with fail
 clear c13
 refine region_spec2 9 rfl (fun j v _=>lendK n b j v) (fun done V=>WatTo F w V b ba bg bf e (zIf n.w (done 7)) (loRow (.pointer (some ⟨ba,0,none⟩)) (.pointer (some ⟨bg,0,none⟩)) (.pointer (some ⟨bf,0,none⟩)) e E true n.whole (n.run:Int) n.ex)) (by kernel_rfl) (by kernel_rfl) ⟨HWt.out.wat.same (fun _ _=>rfl),HWt.out.row,FrL.below (Below.refl _ _).drew⟩ ?_ ?_
 ·intro i o ho
  match i,ho with
  | 0,ho=>
   obtain rfl:=Option.some.inj ho
   refine StepOk2.free rfl ?_;intro done a V hC hdn hdo hdep hoth;have x0:a.tmps[0]?.getD undef=.pointer (some ⟨b,0,none⟩):=slot_of (hoth 0 (notDst (by kernel_rfl)));exact goodRun2.val (c:=.pointer (some ⟨b,0,none⟩)) (by clear hdep hoth hdo hC;go_simp) (by rw[mark_other done (show 7≠0 by decide)];exact hC) rfl
  | 1,ho=>
   obtain rfl:=Option.some.inj ho
   refine StepOk2.free rfl ?_;intro done a V hC hdn hdo hdep hoth;have x9:a.tmps[9]?.getD undef=.pointer (some ⟨b,0,none⟩):=slot_of (hdep _ 9 (Array.mem_of_getElem? (i:=0) rfl) rfl rfl);exact goodRun2.val (c:=.pointer (some ⟨b,0,none⟩)) (by clear hdep hoth hdo hC;go_simp) (by rw[mark_other done (show 7≠1 by decide)];exact hC) rfl
  | 2,ho=>
   obtain rfl:=Option.some.inj ho
   refine StepOk2.free rfl ?_;intro done a V hC hdn hdo hdep hoth;have x10:a.tmps[10]?.getD undef=.pointer (some ⟨b,0,none⟩):=slot_of (hdep _ 10 (Array.mem_of_getElem? (i:=0) rfl) rfl rfl);exact goodRun2.val (c:=.pointer (some ⟨b,0,none⟩)) (by clear hdep hoth hdo hC;go_simp) (by rw[mark_other done (show 7≠2 by decide)];exact hC) rfl
  | 3,ho=>
   obtain rfl:=Option.some.inj ho
   refine StepOk2.free rfl ?_;intro done a V hC hdn hdo hdep hoth;have x0:a.tmps[0]?.getD undef=.pointer (some ⟨b,0,none⟩):=slot_of (hoth 0 (notDst (by kernel_rfl)));exact goodRun2.val (c:=.pointer (some ⟨b,0,none⟩)) (by clear hdep hoth hdo hC;go_simp) (by rw[mark_other done (show 7≠3 by decide)];exact hC) rfl
  | 4,ho=>
   obtain rfl:=Option.some.inj ho
   refine StepOk2.free rfl ?_;intro done a V hC hdn hdo hdep hoth;have x12:a.tmps[12]?.getD undef=.pointer (some ⟨b,0,none⟩):=slot_of (hdep _ 12 (Array.mem_of_getElem? (i:=0) rfl) rfl rfl);exact goodRun2.val (c:=.pointer (some ⟨b,0,none⟩)) (by clear hdep hoth hdo hC;go_simp) (by rw[mark_other done (show 7≠4 by decide)];exact hC) rfl
  | 5,ho=>
   obtain rfl:=Option.some.inj ho
   refine StepOk2.free rfl ?_;intro done a V hC hdn hdo hdep hoth;have x13:a.tmps[13]?.getD undef=.pointer (some ⟨b,0,none⟩):=slot_of (hdep _ 13 (Array.mem_of_getElem? (i:=0) rfl) rfl rfl);exact goodRun2.val (c:=.pointer (some ⟨b,14,none⟩)) (by clear hdep hoth hdo hC;go_simp) (by rw[mark_other done (show 7≠5 by decide)];exact hC) rfl
  | 6,ho=>
   obtain rfl:=Option.some.inj ho
   refine StepOk2.free rfl ?_;intro done a V hC hdn hdo hdep hoth;have x14:a.tmps[14]?.getD undef=.pointer (some ⟨b,14,none⟩):=slot_of (hdep _ 14 (Array.mem_of_getElem? (i:=0) rfl) rfl rfl);have c14:V.cell? ⟨b,14,none⟩=some (.bool n.whole):=by simp[World.cell?,hC.row,loRow]
   exact goodRun2.val (c:=.bool n.whole) (by clear hdep hoth hdo hC;go_simp) (by rw[mark_other done (show 7≠6 by decide)];exact hC) rfl
  | 7,ho=>
   obtain rfl:=Option.some.inj ho
   refine StepOk2.free rfl ?_;intro done a V hC hdn hdo hdep hoth;have x11:a.tmps[11]?.getD undef=.pointer (some ⟨b,0,none⟩):=slot_of (hdep _ 11 (Array.mem_of_getElem? (i:=0) rfl) rfl rfl);have x15:a.tmps[15]?.getD undef=.bool n.whole:=slot_of (hdep _ 15 (Array.mem_of_getElem? (i:=1) rfl) rfl rfl)
   refine goodRun2.call (f:=170) (args:=#[.pointer (some ⟨b,0,none⟩),.bool n.whole]) (by clear hdep hoth hdo hC;go_simp) ?_;rw[hdn] at hC
   refine(watch_end n.whole _ hC.wat hC.row rfl rfl rfl).mono ?_;rintro v w1 ⟨rfl,hto⟩
   refine⟨_,rfl,?_,fun _ _ _ h=>h,rfl⟩;rw[mark_same];exact⟨hto.wat,hto.row,hC.fr.trans hto.fr (fun _ _ x=>x)⟩
  | 8,ho=>
   obtain rfl:=Option.some.inj ho
   refine StepOk2.free rfl ?_;intro done a V hC hdn hdo hdep hoth;have x16:a.tmps[16]?.getD undef=.int .i64 n.kind:=slot_of (hdep _ 16 (Array.mem_of_getElem? (i:=0) rfl) rfl rfl);exact goodRun2.val (c:=.int .i64 n.kind) (by clear hdep hoth hdo hC;go_simp) (by rw[mark_other done (show 7≠8 by decide)];exact hC) rfl
  | n+9,ho=>simp at ho
 ·intro vals V hC hS;have HC:Hid (WatTo F w V b ba bg bf e n.w.zero (loRow (.pointer (some ⟨ba,0,none⟩)) (.pointer (some ⟨bg,0,none⟩)) (.pointer (some ⟨bf,0,none⟩)) e E true n.whole (n.run:Int) n.ex)):=hC;have v8:vals 8=.int .i64 n.kind:=hS 8 (by decide);have hr:=HC.out.row;have c14:V.cell? ⟨b,14,none⟩=some (.bool n.whole):=by simp[World.cell?,hr,loRow]
  have c15:V.cell? ⟨b,15,none⟩=some (.int .i64 (n.run:Int)):=by simp[World.cell?,hr,loRow]
  have c16:V.cell? ⟨b,16,none⟩=some (.bool n.ex):=by simp[World.cell?,hr,loRow]
  have c4:V.cell? ⟨b,4,none⟩=some (.int .i64 e.tol):=by simp[World.cell?,hr,loRow]
  have q:∀ i,V.frozen? ⟨b,i,none⟩=false:=fun i=>by simp[World.frozen?,hr]
  clear hC hS HWt hr;simp only[fill,dstOf];go_simp
  by_cases hk:n.kind=0
  ·have HF:Hid (n.fin e=⟨n.w.zero,true,0,n.ex⟩/\n.turns e=false/\n.kind=0):=by
    show _/\_/\_
    refine⟨?_,?_,hk⟩
    ·unfold NSt.fin NSt.run1 NSt.turns;simp[hk]
    ·unfold NSt.turns;simp[hk]
   go_wp2;go_ret2
   have hg:V.grownBy ((V.setCell ⟨b,14,none⟩ (.bool true)).setCell ⟨b,15,none⟩ (.int .i64 0)) (some b):=(grown_setCell _ _ _ _).trans (grown_setCell _ _ _ _)
   refine⟨by rw[HF.out.2.1,HF.out.2.2];rfl,?_⟩;rw[HF.out.1]
   refine H.out.put (n':=⟨n.w.zero,true,0,n.ex⟩) HC.out _ hg ?_;have:=HC.out.row;simp[World.setCell,Array.getElem?_modify,this,loRow]
  ·have HF:Hid (n.fin e=⟨n.w.zero,true,n.run+1,n.ex || (!n.ex && decide (e.tol < ((n.run:Int)+1)))⟩/\n.turns e=(!n.ex && decide (e.tol < ((n.run:Int)+1)))):=by
    show _/\_
    refine⟨?_,?_⟩
    ·unfold NSt.fin NSt.run1 NSt.turns;simp[hk]
    ·unfold NSt.turns;simp[hk]
   have hn2:(n.run:Int)<=1000000:=by have:=HN.out;omega
   have HR:Hid (V.heap[b]?=some (.cells (loRow (.pointer (some ⟨ba,0,none⟩)) (.pointer (some ⟨bg,0,none⟩)) (.pointer (some ⟨bf,0,none⟩)) e E true n.whole (n.run:Int) n.ex) 154 (0,0))):=HC.out.row;go_wp2_with fail
   obtain⟨V2,hV2⟩:∃ W,W=(V.setCell ⟨b,14,none⟩ (.bool true)).setCell ⟨b,15,none⟩ (.int .i64 ((n.run:Int)+1)):=⟨_,rfl⟩;rw[<- hV2];have hg2:V.grownBy V2 (some b):=by rw[hV2];exact(grown_setCell _ _ _ _).trans (grown_setCell _ _ _ _)
   have HG2:Hid (V.grownBy V2 (some b)):=hg2;have hr2:V2.heap[b]?=some (.cells (loRow (.pointer (some ⟨ba,0,none⟩)) (.pointer (some ⟨bg,0,none⟩)) (.pointer (some ⟨bf,0,none⟩)) e E true true ((n.run:Int)+1) n.ex) 154 (0,0)):=by
    have:=HR.out;rw[hV2];simp[World.setCell,Array.getElem?_modify,this,loRow]
   have HR2:Hid (V2.heap[b]?=some (.cells (loRow (.pointer (some ⟨ba,0,none⟩)) (.pointer (some ⟨bg,0,none⟩)) (.pointer (some ⟨bf,0,none⟩)) e E true true ((n.run:Int)+1) n.ex) 154 (0,0))):=hr2;have e4:V2.cell? ⟨b,4,none⟩=some (.int .i64 e.tol):=by simp[World.cell?,hr2,loRow]
   have e15:V2.cell? ⟨b,15,none⟩=some (.int .i64 ((n.run:Int)+1)):=by simp[World.cell?,hr2,loRow]
   have e16:V2.cell? ⟨b,16,none⟩=some (.bool n.ex):=by simp[World.cell?,hr2,loRow]
   have q2:∀ i,V2.frozen? ⟨b,i,none⟩=false:=fun i=>by simp[World.frozen?,hr2]
   have HZ:Hid (∀ q (x:Bool),x=(n.ex || (!n.ex && decide (e.tol < ((n.run:Int)+1))))->LoAt F ((V2.drewN q).setCell ⟨b,16,none⟩ (.bool x)) b e E (some (n.fin e))/\FrL F w ((V2.drewN q).setCell ⟨b,16,none⟩ (.bool x))):=fun q x hx=>by
    have hg3:V.grownBy ((V2.drewN q).setCell ⟨b,16,none⟩ (.bool x)) (some b):=(HG2.out.trans (gr_drewN _ _ _)).trans (grown_setCell _ _ _ _);rw[HF.out.1,<- hx]
    refine H.out.put (n':=⟨n.w.zero,true,n.run+1,x⟩) HC.out _ hg3 ?_;have h3:=HR2.out;simp[World.setCell,Array.getElem?_modify,h3,loRow]
   clear hV2 hg2 hr2 HR HC c4 c14 c15 c16 q hk v8;have HT:Hid _:=HF.out.2;clear HF
   cases q1:n.ex
   ·rw[q1] at e16 HT HZ
    by_cases q3:e.tol < ((n.run:Int)+1)
    ·have HD:Hid (decide (e.tol < ((n.run:Int)+1))=true):=decide_eq_true q3;go_quiet (fail)
     go_wp2;go_ret2
     exact⟨by rw[HT.out,HD.out];rfl,HZ.out _ _ (by rw[HD.out];rfl)⟩
    ·have HD:Hid (decide (e.tol < ((n.run:Int)+1))=false):=decide_eq_false q3;go_quiet (fail)
     go_wp2;go_ret2
     exact⟨by rw[HT.out,HD.out];rfl,HZ.out _ _ (by rw[HD.out];rfl)⟩
   ·rw[q1] at e16 HT HZ;go_quiet (fail)
    go_wp2;go_ret2
    exact⟨by rw[HT.out];rfl,HZ.out _ _ rfl⟩
end
structure CSt where
 bytes:List UInt8
 size:Nat
 written:Nat
 off:Bool
 cut:Bool
 left:Nat
def byteVal (x:UInt8):Value:=.int .u8 (x.toNat:Int)
def CSt.tail (s:CSt):List Value:=[.int .i64 (s.size:Int),.int .i64 (s.written:Int),.bool s.off,.bool s.cut,.int .i64 (s.left:Int)]
def CSt.row (s:CSt):Array Value:=(s.bytes.map byteVal++s.tail).toArray
structure CellsAt (w:World)(b:Nat)(s:CSt):Prop where
 heap:w.heap[b]?=some (.cells s.row 109 (0,0))
 len:s.bytes.length=4096
 size:s.size<=4096
theorem CellsAt.lt {w:World}{b:Nat}{s:CSt}(h:CellsAt w b s):b < w.heap.size:=lt_of_row h.heap
theorem CellsAt.cell {w:World}{b:Nat}{s:CSt}(h:CellsAt w b s)(i:Nat):w.cell? ⟨b,i,none⟩=s.row[i]?:=by
 simp[World.cell?,h.heap]
theorem CellsAt.frozen {w:World}{b:Nat}{s:CSt}(h:CellsAt w b s)(i:Nat):w.frozen? ⟨b,i,none⟩=false:=by
 simp[World.frozen?,h.heap]
theorem CSt.row_byte (s:CSt)(i:Nat)(hi:i < s.bytes.length):s.row[i]?=some (byteVal s.bytes[i]):=by
 unfold CSt.row;simp[List.getElem?_append_left,hi]
theorem CSt.row_tail (s:CSt)(hl:s.bytes.length=4096)(i:Nat):s.row[4096+i]?=s.tail[i]?:=by
 unfold CSt.row;rw[List.getElem?_toArray,List.getElem?_append_right (by simp[hl])];simp[hl]
theorem CellsAt.byte {w:World}{b:Nat}{s:CSt}(h:CellsAt w b s)(i:Nat)(hi:i < 4096):w.cell? ⟨b,i,none⟩=some (.int .u8 ((s.bytes[i]'(by rw[h.len];exact hi)).toNat:Int)):=by
 rw[h.cell,CSt.row_byte s i (by rw[h.len];exact hi)];rfl
theorem CellsAt.c0 {w:World}{b:Nat}{s:CSt}(h:CellsAt w b s):w.cell? ⟨b,4096,none⟩=some (.int .i64 (s.size:Int)):=by
 rw[h.cell,CSt.row_tail s h.len 0];rfl
theorem CellsAt.c1 {w:World}{b:Nat}{s:CSt}(h:CellsAt w b s):w.cell? ⟨b,4097,none⟩=some (.int .i64 (s.written:Int)):=by
 rw[h.cell,CSt.row_tail s h.len 1];rfl
theorem CellsAt.c2 {w:World}{b:Nat}{s:CSt}(h:CellsAt w b s):w.cell? ⟨b,4098,none⟩=some (.bool s.off):=by
 rw[h.cell,CSt.row_tail s h.len 2];rfl
theorem CellsAt.c3 {w:World}{b:Nat}{s:CSt}(h:CellsAt w b s):w.cell? ⟨b,4099,none⟩=some (.bool s.cut):=by
 rw[h.cell,CSt.row_tail s h.len 3];rfl
theorem CellsAt.c4 {w:World}{b:Nat}{s:CSt}(h:CellsAt w b s):w.cell? ⟨b,4100,none⟩=some (.int .i64 (s.left:Int)):=by
 rw[h.cell,CSt.row_tail s h.len 4];rfl
theorem CellsAt.set {w:World}{b:Nat}{s s':CSt}(h:CellsAt w b s)(i:Nat)(v:Value)(hr:s.row.setIfInBounds i v=s'.row)(hl:s'.bytes.length=4096)(hs:s'.size<=4096):CellsAt (w.setCell ⟨b,i,none⟩ v) b s':=by
 refine⟨?_,hl,hs⟩;simp only[World.setCell,Array.getElem?_modify,h.heap];simp[hr]
theorem row_set_tail (bs:List UInt8)(hl:bs.length=4096)(t:List Value)(i:Nat)(v:Value):(bs.map byteVal++t).toArray.setIfInBounds (4096+i) v=(bs.map byteVal++t.set i v).toArray:=by
 rw[List.setIfInBounds_toArray,List.set_append_right _ _ (by simp[hl])];simp[hl]
theorem CellsAt.set1 {w:World}{b:Nat}{s:CSt}(h:CellsAt w b s)(n:Nat):CellsAt (w.setCell ⟨b,4097,none⟩ (.int .i64 (n:Int))) b { s with written:=n }:=
 h.set _ _ (row_set_tail s.bytes h.len s.tail 1 _) h.len h.size
theorem CellsAt.set2 {w:World}{b:Nat}{s:CSt}(h:CellsAt w b s)(v:Bool):CellsAt (w.setCell ⟨b,4098,none⟩ (.bool v)) b { s with off:=v }:=
 h.set _ _ (row_set_tail s.bytes h.len s.tail 2 _) h.len h.size
theorem CellsAt.set3 {w:World}{b:Nat}{s:CSt}(h:CellsAt w b s)(v:Bool):CellsAt (w.setCell ⟨b,4099,none⟩ (.bool v)) b { s with cut:=v }:=
 h.set _ _ (row_set_tail s.bytes h.len s.tail 3 _) h.len h.size
theorem CellsAt.set4 {w:World}{b:Nat}{s:CSt}(h:CellsAt w b s)(n:Nat):CellsAt (w.setCell ⟨b,4100,none⟩ (.int .i64 (n:Int))) b { s with left:=n }:=
 h.set _ _ (row_set_tail s.bytes h.len s.tail 4 _) h.len h.size
theorem CellsAt.setB {w:World}{b:Nat}{s:CSt}(h:CellsAt w b s)(i:Nat)(hi:i < 4096)(x:UInt8):CellsAt (w.setCell ⟨b,i,none⟩ (.int .u8 (x.toNat:Int))) b { s with bytes:=s.bytes.set i x }:=by
 refine h.set _ _ ?_ (by simp[h.len]) h.size;unfold CSt.row;rw[List.setIfInBounds_toArray,List.set_append_left _ _ (by simp[h.len,hi]),List.map_set];rfl
theorem CellsAt.below {w w':World}{b:Nat}{s:CSt}(h:CellsAt w b s)(hb:Below w.heap.size w w'):CellsAt w' b s:=⟨row_below hb h.heap,h.len,h.size⟩
theorem grown_refl (w:World)(r:Option Nat):w.grownBy w r:=⟨rfl,rfl,rfl,Nat.le_refl _,fun _ _ _=>rfl⟩
theorem grown_trans {a b c:World}{r:Option Nat}(h:a.grownBy b r)(k:b.grownBy c r):a.grownBy c r:=
 ⟨k.os.trans h.os,k.tape.trans h.tape,k.output.trans h.output,Nat.le_trans h.size k.size,fun i hi hn=>(k.block i (Nat.lt_of_lt_of_le hi h.size) hn).trans (h.block i hi hn)⟩
theorem grown_set {a w:World}{b:Nat}(h:a.grownBy w (some b))(i:Nat)(v:Value):a.grownBy (w.setCell ⟨b,i,none⟩ v) (some b):=
 grown_trans h ⟨rfl,rfl,rfl,by simp[World.setCell],fun k _ hn=>Below.heap_setCell _ _ _ _ (by simpa using hn)⟩
theorem grown_below {a w w':World}{r:Option Nat}(h:a.grownBy w r)(k:Below w.heap.size w w'):a.grownBy w' r:=
 grown_trans h ⟨k.os,k.tape,k.output,k.size,fun i hi _=>k.block i hi⟩
structure Sen4 (A:Nat->Addr)(w:World):Prop where
 c1:w.cell? ⟨1,0,none⟩=some (.iface 298 (.pointer (some (A 1))))
 c2:w.cell? ⟨3,0,none⟩=some (.iface 298 (.pointer (some (A 2))))
 c6:w.cell? ⟨10,0,none⟩=some (.iface 298 (.pointer (some (A 6))))
 c7:w.cell? ⟨2,0,none⟩=some (.iface 298 (.pointer (some (A 7))))
theorem Sen4.below {A:Nat->Addr}{w w':World}(h:Sen4 A w)(hb:Below w.heap.size w w'):Sen4 A w':=
 ⟨cell_below hb h.c1,cell_below hb h.c2,cell_below hb h.c6,cell_below hb h.c7⟩
theorem Sen4.grown {A:Nat->Addr}{w w':World}{b:Nat}(h:Sen4 A w)(k:w.grownBy w' (some b))(hb:11<=b):Sen4 A w':=by
 have hc:∀ {g:Nat} {v:Value},g < 11->w.cell? ⟨g,0,none⟩=some v->w'.cell? ⟨g,0,none⟩=some v:=fun {g v} hg e=>
  (World.cell?_of_block (k.block g (block_lt e) (by intro e2;cases e2;omega))).trans e
 exact⟨hc (by omega) h.c1,hc (by omega) h.c2,hc (by omega) h.c6,hc (by omega) h.c7⟩
end Go.Proofs.YtdpdbfhbojgigacGreatDoor
