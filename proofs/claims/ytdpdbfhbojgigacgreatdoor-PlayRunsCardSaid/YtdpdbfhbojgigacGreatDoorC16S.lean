/-
  Several texts as one: LcKind, LcMod, LcRep, KpPure, KpFit, KpMem, KpLoc.
-/
import Derived.Test.YtdpdbfhbojgigacGreatDoorC15S
import Derived.Deep.AppendLies
import Derived.Deep.RegionLaw
namespace Go.Proofs.YtdpdbfhbojgigacGreatDoor
open Go.RowKit Go.Extern.Stop Go.Stop Go.Extern
def aliveBad (e:EntD)(l:List MkD)(cyc:Int):Bool:=decide (0<=e.cnt/\0 < cyc/\((countIn e.cnt l cyc:Int) < e.mn\/e.mx < (countIn e.cnt l cyc:Int)))
theorem kindOf_1 {e:EntD}{l:List MkD}{cyc:Int}(h:aliveBad e l cyc=true):kindL e l cyc=1:=by
 unfold kindL;rw[if_pos (of_decide_eq_true h)]
theorem kindOf_2 {e:EntD}{l:List MkD}{cyc:Int}(h:aliveBad e l cyc=false){k:Nat}{g:GapD}(hg:e.gaps[k]?=some g)(hb:gapBad g l cyc=true):kindL e l cyc=2:=by
 unfold kindL;rw[if_neg (of_decide_eq_false h),if_pos (List.any_eq_true.2 ⟨g,List.mem_of_getElem? hg,hb⟩)]
theorem kindOf_3 {e:EntD}{l:List MkD}{cyc:Int}(h:aliveBad e l cyc=false)(hg:∀ (k:Nat) g,e.gaps[k]?=some g->gapBad g l cyc=false):kindL e l cyc=if flowBad e l cyc=true then 3 else 0:=by
 unfold kindL;rw[if_neg (of_decide_eq_false h),if_neg];intro h1;obtain⟨g,hm,hb⟩:=List.any_eq_true.1 h1;obtain⟨k,hk⟩:=List.getElem?_of_mem hm;rw[hg k g hk] at hb
 cases hb
set_option maxHeartbeats 4000000 in
set_option maxRecDepth 100000 in
theorem kindL_at (e:EntD)(pa ga ea fa la:Option Addr)(pc gc ec fc lc:Nat)(l:List MkD)(cyc:Int)(sa:Option Addr)(cap:Nat)(w:World)(hP:EntParts w e (.slice pa e.pts.length pc) (.slice ga e.gaps.length gc) (.slice ea e.edges.length ec) (.slice fa e.first.length fc) (.slice la e.last.length lc))(hS:SmallE e)(hl:SlAt encM 3 w (.slice sa l.length cap) l)(hn:l.length<=1000)(ht:∀ m∈l,0<=m.tick/\m.tick<=1099511627776) :
  Calls Tryz.prog 211 #[.agg #[.string e.name,.int .i64 e.tol,.slice pa e.pts.length pc,.int .i64 e.cnt,.int .i64 e.mn,.int .i64 e.mx,.slice ga e.gaps.length gc,.slice ea e.edges.length ec,.slice fa e.first.length fc,.slice la e.last.length lc],.slice sa l.length cap,.int .i64 cyc] w fun v w'=>v=.returned (.int .i64 (kindL e l cyc))/\Below w.heap.size w w':=by
 have HP:Hid (∀ V,Below w.heap.size w V->EntParts V e (.slice pa e.pts.length pc) (.slice ga e.gaps.length gc) (.slice ea e.edges.length ec) (.slice fa e.first.length fc) (.slice la e.last.length lc)):=fun V hV=>hP.below hV
 have HSm:Hid (SmallE e):=hS;have HL:Hid (∀ V,Below w.heap.size w V->SlAt encM 3 V (.slice sa l.length cap) l):=fun V hV=>hl.below hV
 have HN:Hid (l.length<=1000):=hn;have HT:Hid (∀ m∈l,0<=m.tick/\m.tick<=1099511627776):=ht;clear hP hS hl hn ht;go_enter Tryz.func211,Tryz.ntmps211
 go_upto_region 1 with fail
 obtain⟨W,hW⟩:∃ V,V=w.alloc (.cells #[.string e.name,.int .i64 e.tol,.slice pa e.pts.length pc,.int .i64 e.cnt,.int .i64 e.mn,.int .i64 e.mx,.slice ga e.gaps.length gc,.slice ea e.edges.length ec,.slice fa e.first.length fc,.slice la e.last.length lc] 38):=⟨_,rfl⟩;rw[<- hW];have HBW:Hid (Below w.heap.size w W):=by show Below _ _ _;rw[hW];exact Below.one _ _
 have HX:Hid (∀ V,Below W.heap.size W V->V.heap[w.heap.size]?=some (.cells #[.string e.name,.int .i64 e.tol,.slice pa e.pts.length pc,.int .i64 e.cnt,.int .i64 e.mn,.int .i64 e.mx,.slice ga e.gaps.length gc,.slice ea e.edges.length ec,.slice fa e.first.length fc,.slice la e.last.length lc] 38 (0,0))):=fun V hV=>row_below hV (by rw[hW];exact heap_alloc_new w _)
 clear hW;go_wp2_with (refine wpList_load_row rfl 38 _ rfl w.heap.size rfl _ _ _ _ (HX.out W (Below.refl _ _)) Tryz.underlying38 rfl Tryz.sizeEnt ?_)
 refine(countIn_at e pa ga ea fa la pc gc ec fc lc l cyc sa cap W (HL.out W HBW.out) HN.out).mono ?_;rintro v w1 ⟨rfl,hb1⟩;have HB1:Hid (Below W.heap.size W w1):=hb1;clear hb1;have HA:Hid (aliveBad e l cyc=decide (0<=e.cnt/\0 < cyc/\((countIn e.cnt l cyc:Int) < e.mn\/e.mx < (countIn e.cnt l cyc:Int)))):=rfl;obtain⟨B,hB⟩:∃ B,B=aliveBad e l cyc:=⟨_,rfl⟩;have HBd:Hid (B=aliveBad e l cyc):=hB;rw[<- hB] at HA;clear hB;have hcn:countIn e.cnt l cyc<=1000:=Nat.le_trans (countIn_le _ _ _) HN.out;generalize countIn e.cnt l cyc=n at *;have x3:w1.cell? ⟨w.heap.size,3,none⟩=some (.int .i64 e.cnt):=by have:=HX.out w1 HB1.out;simp[World.cell?,this]
 have x4:w1.cell? ⟨w.heap.size,4,none⟩=some (.int .i64 e.mn):=by have:=HX.out w1 HB1.out;simp[World.cell?,this]
 have x5:w1.cell? ⟨w.heap.size,5,none⟩=some (.int .i64 e.mx):=by have:=HX.out w1 HB1.out;simp[World.cell?,this]
 go_upto_region 2 with fail
 go_cut [33] (fun v wx=>v=.bool B/\wx=w1)
 case first=>
  by_cases h0:0<=e.cnt
  ·by_cases h1:0 < cyc
   ·by_cases h2:(n:Int) < e.mn
    ·have HV:Hid (B=true):=by show _=_;rw[HA.out];exact decide_eq_true ⟨h0,h1,Or.inl h2⟩
     go_wp2_with fail
     go_meet
     case rel=>exact⟨by rw[HV.out],rfl⟩
    ·by_cases h3:e.mx < (n:Int)
     ·have HV:Hid (B=true):=by show _=_;rw[HA.out];exact decide_eq_true ⟨h0,h1,Or.inr h3⟩
      go_wp2_with fail
      go_meet
      case rel=>exact⟨by rw[HV.out],rfl⟩
     ·have HV:Hid (B=false):=by show _=_;rw[HA.out];exact decide_eq_false (fun x=>x.2.2.elim h2 h3)
      go_wp2_with fail
      go_meet
      case rel=>exact⟨by rw[HV.out],rfl⟩
   ·have HV:Hid (B=false):=by show _=_;rw[HA.out];exact decide_eq_false (fun x=>h1 x.2.1)
    go_wp2_with fail
    go_meet
    case rel=>exact⟨by rw[HV.out],rfl⟩
  ·have HV:Hid (B=false):=by show _=_;rw[HA.out];exact decide_eq_false (fun x=>h0 x.1)
   go_wp2_with fail
   go_meet
   case rel=>exact⟨by rw[HV.out],rfl⟩
 obtain⟨rfl,rfl⟩:=hcut;rename World=>w1
 have HBw1:Hid (Below w.heap.size w w1):=HBW.out.trans (HB1.out.mono HBW.out.size);clear x3 x4 x5 HA hcn
 cases B with
 | true=>
  have HE:Hid (kindL e l cyc=1):=kindOf_1 HBd.out.symm;clear HBd;go_wp2;go_ret;exact⟨by rw[HE.out];rfl,HBw1.out⟩
 | false=>
  have HA:Hid (aliveBad e l cyc=false):=HBd.out.symm;clear HBd;go_upto_region 4 with fail
  go_cut [8] (fun i wx=>i=.int .i64 0/\wx=w1)
  case first=>
   go_wp2_with fail
   go_meet
   case rel=>exact⟨rfl,rfl⟩
  obtain⟨rfl,rfl⟩:=hcut;rename World=>w1
  go_wp2_with fail
  go_loopw [8,9] (fun iv _ wr=>∃ k:Nat,k<=e.gaps.length/\iv=.int .i64 k/\Below w1.heap.size w1 wr/\∀ (j:Nat) g,j < k->e.gaps[j]?=some g->gapBad g l cyc=false) (fun iv _ _=>e.gaps.length - (intOf iv).toNat)
  case atStart=>exact⟨0,Nat.zero_le _,rfl,Below.refl _ _,fun j g hj=>absurd hj (by omega)⟩
  case round=>
   obtain⟨k,hk,rfl,hbk,hbad⟩:=hrel;have HB:Hid (Below w1.heap.size w1 wr):=hbk;have HBw:Hid (Below w.heap.size w wr):=HBw1.out.trans (hbk.mono HBw1.out.size);have HBx:Hid (Below W.heap.size W wr):=HB1.out.trans (hbk.mono HB1.out.size);have HBad:Hid (∀ (j:Nat) g,j < k->e.gaps[j]?=some g->gapBad g l cyc=false):=hbad;have x6:wr.cell? ⟨w.heap.size,6,none⟩=some (.slice ga e.gaps.length gc):=by have:=HX.out wr HBx.out;simp[World.cell?,this]
   have HGl:Hid (e.gaps.length<=1000000):=HSm.out.hg;clear hbk hbad
   by_cases hlt:k < e.gaps.length
   ·have k1:(k:Int) < (e.gaps.length:Int):=by omega
    have k2:k < 1000000:=by have:=HGl.out;omega
    obtain⟨g,hg⟩:∃ g,e.gaps[k]?=some g:=⟨_,List.getElem?_eq_getElem hlt⟩;have HG:Hid (e.gaps[k]?=some g):=hg;obtain⟨sa',cap',hsl,-,hcc⟩:=(HP.out wr HBw.out).hg
    cases hsl
    obtain⟨gb,o,rfl,hc0⟩:=hcc (fun h=>by rw[h] at hg;simp at hg);have c0:wr.cell? ⟨gb,o+k*4,none⟩=some (.int .i64 g.fr):=hc0 k g hg 0 _ rfl;have c1:wr.cell? ⟨gb,o+k*4+1,none⟩=some (.int .i64 g.to):=hc0 k g hg 1 _ rfl;have c2:wr.cell? ⟨gb,o+k*4+2,none⟩=some (.int .i64 g.mn):=hc0 k g hg 2 _ rfl;have c3:wr.cell? ⟨gb,o+k*4+3,none⟩=some (.int .i64 g.mx):=hc0 k g hg 3 _ rfl;clear hcc hc0 hg;go_wp2_with fail
    refine(gapBad_at g l cyc sa cap wr (HL.out wr HBw.out) HN.out HT.out).mono ?_;rintro v w2 ⟨rfl,hb2⟩;have HB2:Hid (Below w1.heap.size w1 w2):=HB.out.trans (hb2.mono HB.out.size);have HB2w:Hid (Below w.heap.size w w2):=HBw.out.trans (hb2.mono HBw.out.size);clear hb2 c0 c1 c2 c3 x6
    cases hgb:gapBad g l cyc with
    | true=>
     have HE:Hid (kindL e l cyc=2):=kindOf_2 HA.out HG.out hgb;clear hgb;go_wp2;go_ret;exact⟨by rw[HE.out];rfl,HB2w.out⟩
    | false=>
     have HNx:Hid (∀ (j:Nat) g',j < k+1->e.gaps[j]?=some g'->gapBad g' l cyc=false):=fun j g' hj hg'=>by
      rcases Nat.lt_or_ge j k with h1 | h1
      ·exact HBad.out j g' h1 hg'
      ·obtain rfl:j=k:=by omega
       obtain rfl:=Option.some.inj (HG.out.symm.trans hg');exact hgb
     clear hgb;go_wp2_with fail
     go_roundw
     case rel=>exact⟨k+1,hlt,rfl,HB2.out,HNx.out⟩
     case measure=>simp[intOf];omega
   ·have k1:¬(k:Int) < (e.gaps.length:Int):=by omega
    have HE:Hid (kindL e l cyc=if flowBad e l cyc=true then 3 else 0):=kindOf_3 HA.out (fun j g hj=>HBad.out j g (by have:=(List.getElem?_eq_some_iff.1 hj).1;omega) hj);go_wp2_with (refine wpList_load_row rfl 38 _ rfl w.heap.size rfl _ _ _ _ (HX.out wr HBx.out) Tryz.underlying38 rfl Tryz.sizeEnt ?_)
    refine(flowBad_at e pa ga ea fa la pc gc ec fc lc l cyc sa cap wr (HP.out wr HBw.out) HSm.out (HL.out wr HBw.out) HN.out).mono ?_;rintro v w2 ⟨rfl,hb2⟩;have HB2w:Hid (Below w.heap.size w w2):=HBw.out.trans (hb2.mono HBw.out.size);clear hb2 x6
    cases hfb:flowBad e l cyc with
    | true=>
     have HE2:Hid (kindL e l cyc=3):=by show _=_;rw[HE.out,hfb];rfl
     clear hfb HE;go_wp2;go_ret;exact⟨by rw[HE2.out];rfl,HB2w.out⟩
    | false=>
     have HE2:Hid (kindL e l cyc=0):=by show _=_;rw[HE.out,hfb];rfl
     clear hfb HE;go_wp2;go_ret;exact⟨by rw[HE2.out];rfl,HB2w.out⟩
theorem row_put {w:World}{b j:Nat}{cs:Array Value}{T:TypeId}(h:w.heap[b]?=some (.cells cs T (0,0)))(u:Value):(w.setCell ⟨b,j,none⟩ u).heap[b]?=some (.cells (cs.setIfInBounds j u) T (0,0)):=by
 simp only[World.setCell,Array.getElem?_modify,h];simp
section
variable {w0 w w':World}{b:Nat}{e:EntD}{pa ga ea fa la:Option Addr}{pc gc ec fc lc:Nat}{s s':LSt}{sv sv':Value}
def lmRow (e:EntD)(pa ga ea fa la:Option Addr)(pc gc ec fc lc:Nat)(s:LSt)(sv:Value):Array Value:=#[.string e.name,.int .i64 e.tol,.slice pa e.pts.length pc,.int .i64 e.cnt,.int .i64 e.mn,.int .i64 e.mx,.slice ga e.gaps.length gc,.slice ea e.edges.length ec,.slice fa e.first.length fc,.slice la e.last.length lc,.bool s.act,.int .i64 s.since,sv,.int .i64 s.run,.bool s.ex]
structure LmIn (w0 w:World)(b:Nat)(e:EntD)(pa ga ea fa la:Option Addr)(pc gc ec fc lc:Nat)(s:LSt)(sv:Value):Prop where
 heap:w.heap[b]?=some (.cells (lmRow e pa ga ea fa la pc gc ec fc lc s sv) 185 (0,0))
 own:MkOwn w0.heap.size w sv s.ms
 bel:Below w0.heap.size w0 w
 lo:w0.heap.size<=b
theorem LmIn.cell (h:LmIn w0 w b e pa ga ea fa la pc gc ec fc lc s sv)(j:Nat)(u:Value)(hu:(lmRow e pa ga ea fa la pc gc ec fc lc s sv)[j]?=some u):w.cell? ⟨b,j,none⟩=some u:=by
 simp[World.cell?,h.heap,hu]
theorem LmIn.frozen (h:LmIn w0 w b e pa ga ea fa la pc gc ec fc lc s sv)(j:Nat):w.frozen? ⟨b,j,none⟩=false:=by simp[World.frozen?,h.heap]
theorem LmIn.below (h:LmIn w0 w b e pa ga ea fa la pc gc ec fc lc s sv)(hb:Below w.heap.size w w'):LmIn w0 w' b e pa ga ea fa la pc gc ec fc lc s sv:=⟨row_below hb h.heap,h.own.below hb,h.bel.trans (hb.mono h.bel.size),h.lo⟩
theorem LmIn.put (h:LmIn w0 w b e pa ga ea fa la pc gc ec fc lc s sv)(j:Nat)(u:Value)(hr:(lmRow e pa ga ea fa la pc gc ec fc lc s sv).setIfInBounds j u=lmRow e pa ga ea fa la pc gc ec fc lc s' sv')(ho:MkOwn w0.heap.size w sv' s'.ms):LmIn w0 (w.setCell ⟨b,j,none⟩ u) b e pa ga ea fa la pc gc ec fc lc s' sv':=
 ⟨by rw[<- hr];exact row_put h.heap u,World.ownsRow.kept ho (grown_setCell w b j u) (Or.inr (ow_ne ho h.heap (by decide))),h.bel.setCell (p:=⟨b,j,none⟩) h.lo _,h.lo⟩
theorem lm_begin2 (h:LmIn w0 w b e pa ga ea fa la pc gc ec fc lc s sv) :
  Calls Tryz.prog 112 #[.pointer (some ⟨b,0,none⟩)] w fun v w'=>v=.returned (.int .i64 (if s.act then 10 else 0))/\(∃ sv',LmIn w0 w' b e pa ga ea fa la pc gc ec fc lc s.begin sv'/\(sv'=sv\/sv'=.slice none 0 0))/\w.grownBy w' (some b):=by
 obtain⟨act,since,ms,run,ex⟩:=s;have c10:w.cell? ⟨b,10,none⟩=some (.bool act):=h.cell 10 _ rfl
 cases act with
 | true=>
  have H:Hid (LmIn w0 w b e pa ga ea fa la pc gc ec fc lc ⟨true,since,ms,run,ex⟩ sv):=h;clear h;go_enter Tryz.func112,Tryz.ntmps112
  go_wp2;go_ret;exact⟨rfl,⟨sv,H.out,Or.inl rfl⟩,World.grownBy.refl _ _⟩
 | false=>
  have c11:w.cell? ⟨b,11,none⟩=some (.int .i64 since):=h.cell 11 _ rfl;have c12:w.cell? ⟨b,12,none⟩=some (sv):=h.cell 12 _ rfl;have c13:w.cell? ⟨b,13,none⟩=some (.int .i64 run):=h.cell 13 _ rfl;have c14:w.cell? ⟨b,14,none⟩=some (.bool ex):=h.cell 14 _ rfl;have f10:=h.frozen 10;have f11:=h.frozen 11;have f12:=h.frozen 12;have f13:=h.frozen 13;have f14:=h.frozen 14;have h1:=h.put 10 (.bool true) (s':=⟨true,since,ms,run,ex⟩) rfl h.own;have h2:=h1.put 11 (.int .i64 0) (s':=⟨true,0,ms,run,ex⟩) rfl h1.own;have h3:=h2.put 12 (.slice none 0 0) (s':=⟨true,0,[],run,ex⟩) (sv':=.slice none 0 0) rfl (World.ownsRow_nil _ _ _ _);have h4:=h3.put 13 (.int .i64 0) (s':=⟨true,0,[],0,ex⟩) rfl h3.own;have h5:=h4.put 14 (.bool false) (s':=⟨true,0,[],0,false⟩) rfl h4.own;have H:Hid _:=h5;have HG:Hid _:=((((grown_setCell w b 10 (.bool true)).trans (grown_setCell _ b 11 (.int .i64 0))).trans (grown_setCell _ b 12 (.slice none 0 0))).trans (grown_setCell _ b 13 (.int .i64 0))).trans (grown_setCell _ b 14 (.bool false));clear h h1 h2 h3 h4 h5;go_enter Tryz.func112,Tryz.ntmps112
  go_wp2;go_ret;exact⟨rfl,⟨_,H.out,Or.inr rfl⟩,HG.out⟩
theorem lm_stop (h:LmIn w0 w b e pa ga ea fa la pc gc ec fc lc s sv) :
  Calls Tryz.prog 113 #[.pointer (some ⟨b,0,none⟩)] w fun v w'=>v=.returned (.int .i64 (if s.act then 0 else 9))/\LmIn w0 w' b e pa ga ea fa la pc gc ec fc lc s.stop sv/\w.grownBy w' (some b):=by
 obtain⟨act,since,ms,run,ex⟩:=s;have c10:w.cell? ⟨b,10,none⟩=some (.bool act):=h.cell 10 _ rfl
 cases act with
 | false=>
  have H:Hid (LmIn w0 w b e pa ga ea fa la pc gc ec fc lc ⟨false,since,ms,run,ex⟩ sv):=h;clear h;go_enter Tryz.func113,Tryz.ntmps113
  go_wp2;go_ret;exact⟨rfl,H.out,World.grownBy.refl _ _⟩
 | true=>
  have f10:=h.frozen 10;have H:Hid _:=h.put 10 (.bool false) (s':=⟨false,since,ms,run,ex⟩) rfl h.own;have HG:Hid _:=grown_setCell w b 10 (.bool false);clear h;go_enter Tryz.func113,Tryz.ntmps113
  go_wp2;go_ret;exact⟨rfl,H.out,HG.out⟩
def statB:Nat->ByteArray
 | 0=>⟨#[105,100,108,101]⟩
 | 1=>⟨#[111,107]⟩
 | 2=>⟨#[102,97,105,108,101,100]⟩
 | _=>⟨#[101,120,112,105,114,101,100]⟩
theorem lm_status (h:LmIn w0 w b e pa ga ea fa la pc gc ec fc lc s sv) :
  Calls Tryz.prog 81 #[.pointer (some ⟨b,0,none⟩)] w fun v w'=>v=.returned (.string (statB s.status))/\w'=w:=by
 obtain⟨act,since,ms,run,ex⟩:=s;have c10:w.cell? ⟨b,10,none⟩=some (.bool act):=h.cell 10 _ rfl;have c13:w.cell? ⟨b,13,none⟩=some (.int .i64 run):=h.cell 13 _ rfl;have c14:w.cell? ⟨b,14,none⟩=some (.bool ex):=h.cell 14 _ rfl;clear h
 cases act with
 | false=>
  go_enter Tryz.func81,Tryz.ntmps81
  go_wp2;go_ret;exact⟨rfl,rfl⟩
 | true=>
  cases ex with
  | true=>
   go_enter Tryz.func81,Tryz.ntmps81
   go_wp2;go_ret;exact⟨rfl,rfl⟩
  | false=>
   by_cases hr:0 < run
   ·have HR:Hid (LSt.status ⟨true,since,ms,run,false⟩=2):=by show _=_;simp[LSt.status,hr]
    go_enter Tryz.func81,Tryz.ntmps81
    go_wp2;go_ret;exact⟨by rw[HR.out];rfl,rfl⟩
   ·have HR:Hid (LSt.status ⟨true,since,ms,run,false⟩=1):=by show _=_;simp[LSt.status,hr]
    go_enter Tryz.func81,Tryz.ntmps81
    go_wp2;go_ret;exact⟨by rw[HR.out];rfl,rfl⟩
end
section
variable {w0 w w':World}{b:Nat}{e:EntD}{pa ga ea fa la:Option Addr}{pc gc ec fc lc:Nat}{s s':LSt}{sv sv':Value}
def LSt.repE (e:EntD)(s:LSt)(p:Int):Int:=if s.act then (if hasP e p=true then 0 else 5) else 9
end
end Go.Proofs.YtdpdbfhbojgigacGreatDoor
namespace Go.Proofs.YtdpdbfhbojgigacGreatDoor
open Go
structure KSt where
 c:CSt
 d:DSt
 L:List Rec
 sp:Bool
 ls:List LSt
 t:TSt
def KSt.on (K:KSt):Nat:=if K.c.off=true then 8 else if K.d.reset=true then 11 else 0
def KSt.setL (K:KSt)(i:Nat)(s:LSt):KSt:={ K with ls:=K.ls.set i s }
def LSt.begN (s:LSt):Nat:=if s.act then 10 else 0
def LSt.stopN (s:LSt):Nat:=if s.act then 0 else 9
def LSt.repN (e:EntD)(s:LSt)(p:Int):Nat:=if s.act then (if hasP e p=true then 0 else 5) else 9
def KSt.begin (K:KSt)(i:Int):KSt × Nat:=
 if K.on≠0 then (K,K.on) else if i < 0 then (K,5) else match K.ls[i.toNat]? with
 | none=>(K,5)
 | some s=>(K.setL i.toNat s.begin,s.begN)
def KSt.stop (K:KSt)(i:Int):KSt × Nat:=
 if K.on≠0 then (K,K.on) else if i < 0 then (K,5) else match K.ls[i.toNat]? with
 | none=>(K,5)
 | some s=>(K.setL i.toNat s.stop,s.stopN)
def noEnt:EntD:=⟨⟨#[]⟩,0,[],0,0,0,[],[],[],[]⟩
def KSt.report (c:CfgD)(K:KSt)(i p:Int):KSt × Nat:=
 if K.on≠0 then (K,K.on) else if i < 0 then (K,5) else match K.ls[i.toNat]? with
 | none=>(K,5)
 | some s=>(K.setL i.toNat (s.rep (c.ents.getD i.toNat noEnt) p (K.d.now:Int)),s.repN (c.ents.getD i.toNat noEnt) p)
def KSt.app (K:KSt)(e k t:Nat):KSt × Nat:=
 if K.sp=true then (K,8) else if (lastR K.L).seq=4294967295 then (K,7)
 else if (K.c.putRec (nextR K.L e k t)).2=0 then ({ K with c:=(K.c.putRec (nextR K.L e k t)).1,L:=keepL K.L (nextR K.L e k t) },0)
 else ({ K with c:=(K.c.putRec (nextR K.L e k t)).1,sp:=true },(K.c.putRec (nextR K.L e k t)).2)
def KSt.endOne (c:CfgD)(K:KSt)(i:Nat):KSt × Nat:=match K.ls[i]? with
 | none=>(K,0)
 | some s=>if s.turns (c.ents.getD i noEnt)=true then (K.setL i (s.fin (c.ents.getD i noEnt))).app i (s.kind (c.ents.getD i noEnt)).toNat K.d.now else (K.setL i (s.fin (c.ents.getD i noEnt)),0)
def KSt.ends (c:CfgD)(K:KSt):Nat->KSt × Nat
 | 0=>(K,0)
 | n+1=>if (K.ends c n).2=0 then (K.ends c n).1.endOne c n else K.ends c n
def KSt.last (K:KSt):KSt:=
 let K1:={ K with t:=K.t.fin (K.ls.map fun s=>statB s.status) }
 if K1.t.st≠3/\K1.d.isOpen=true then { K1 with d:=K1.d.kick } else K1
def KSt.ticked (K:KSt):KSt:={ K with d:=K.d.tick }
def KSt.tick (c:CfgD)(K:KSt):KSt × Nat:=
 if K.on≠0 then (K,K.on)
 else if K.ticked.d.reset=true then (K.ticked,11)
 else if K.ticked.d.now % c.cycle.toNat≠0 then (K.ticked,0)
 else if (K.ticked.ends c c.ents.length).2=0 then ((K.ticked.ends c c.ents.length).1.last,0)
 else K.ticked.ends c c.ents.length
def KSt.opened (c:CfgD)(K:KSt):KSt:=⟨K.c,K.d,openL (K.c.bytes.take K.c.size),false,c.ents.map fun _=>LSt.new,TSt.new c.delay.toNat⟩
def KSt.new (c:CfgD)(s:CSt):KSt:=KSt.opened c ⟨s,DSt.new c.closed.toNat c.opn.toNat,[],false,[],TSt.new 0⟩
def KSt.boot (c:CfgD)(K:KSt):KSt × Nat:=
 if K.on=0 then (K,10) else (KSt.opened c { K with c:={ K.c with off:=false,cut:=false,left:=0 },d:=K.d.start },0)
def KSt.ticks (c:CfgD)(K:KSt):Nat->KSt × Nat
 | 0=>(K,0)
 | n+1=>if (K.tick c).2=0 then (K.tick c).1.ticks c n else K.tick c
def KSt.cut (K:KSt)(n:Int):KSt × Nat:=if n < 0 then (K,2) else if K.c.off=true then (K,8) else ({ K with c:={ K.c with cut:=true,left:=n.toNat } },0)
structure KFit (c:CfgD)(K:KSt)(k W:Nat):Prop where
 big:Big K.c
 left:K.c.left<=9223372036854775807
 wr:K.c.written<=W
 sp:K.sp=true->K.c.off=true
 llen:K.L.length<=8
 last:(lastR K.L).seq<=4294967295
 len:K.ls.length=c.ents.length
 each:∀ s∈K.ls,LFit s (k+K.d.now)/\s.ms.length<=k/\∀ m∈s.ms,0<=m.tick/\m.tick<=1099511627776
 tot:TFit K.t 20
 now:K.d.now<=1099511627776
 win:K.d.closed<=1000/\K.d.opn<=1000/\K.d.kicks<=K.d.begun/\K.d.begun<=K.d.now
structure KRt (c:CfgD):Prop where
 cl:0<=c.closed/\c.closed<=1000
 op:1<=c.opn/\c.opn<=1000
 cy:1<=c.cycle/\c.cycle<=100
 de:0<=c.delay/\c.delay<=20
 le:c.cycle<=c.opn
 nn:c.ents.length<=8
 each:∀ e∈c.ents,SmallE e/\e.cnt < (e.pts.length:Int)/\0<=e.tol/\WfE e.edges
theorem TFit.fin20 {s:TSt}(h:TFit s 20)(l:List ByteArray):TFit (s.fin l) 20:=by
 have h':=h.fin l
 refine⟨h'.d,?_,h'.lt,h'.st,h'.z⟩;have hd:=h.d;have h0:=h.s0;have hl:=h.lt;unfold TSt.fin
 split
 ·exact h0
 ·split
  ·rename_i h2;have:=hl h2;unfold TSt.cut
   split <;> (show s.since+1<=20;omega)
  ·unfold TSt.cut
   split <;> exact Nat.zero_le _
section
variable {c:CfgD}{K:KSt}{k W:Nat}
theorem kindL_le (e:EntD)(l:List MkD)(cyc:Int):0<=kindL e l cyc/\kindL e l cyc<=3:=by
 unfold kindL
 split
 ·decide
 ·split
  ·decide
  ·split <;> decide
theorem kind_le (e:EntD)(s:LSt):0<=s.kind e/\s.kind e<=3:=by
 unfold LSt.kind
 split
 ·exact kindL_le _ _ _
 ·decide
theorem KSt.on_zero:K.on=0 ↔ K.c.off=false/\K.d.reset=false:=by
 unfold KSt.on
 cases K.c.off <;> cases K.d.reset <;> simp
theorem KFit.mono (h:KFit c K k W){k' W':Nat}(hk:k<=k')(hW:W<=W'):KFit c K k' W':=
 ⟨h.big,h.left,Nat.le_trans h.wr hW,h.sp,h.llen,h.last,h.len,fun s hs=>⟨(h.each s hs).1.mono (by omega),Nat.le_trans (h.each s hs).2.1 hk,(h.each s hs).2.2⟩,h.tot,h.now,h.win⟩
theorem KFit.setL (h:KFit c K k W){i:Nat}{s:LSt}(hs:LFit s (k+K.d.now)/\s.ms.length<=k/\∀ m∈s.ms,0<=m.tick/\m.tick<=1099511627776):KFit c (K.setL i s) k W:=
 ⟨h.big,h.left,h.wr,h.sp,h.llen,h.last,by show (K.ls.set i s).length=_;rw[List.length_set];exact h.len,fun x hx=>by
  rcases List.mem_or_eq_of_mem_set hx with hx | rfl
  ·exact h.each x hx
  ·exact hs,h.tot,h.now,h.win⟩
theorem begin_ms (s:LSt):s.begin.ms=s.ms\/s.begin.ms=[]:=by unfold LSt.begin;split;exact Or.inl rfl;exact Or.inr rfl
theorem KFit.begin (h:KFit c K k W)(i:Int):KFit c (K.begin i).1 (k+1) W:=by
 unfold KSt.begin
 split
 ·exact h.mono (by omega) (Nat.le_refl _)
 ·split
  ·exact h.mono (by omega) (Nat.le_refl _)
  ·split
   ·exact h.mono (by omega) (Nat.le_refl _)
   ·rename_i s hs;obtain⟨h1,h2,h3⟩:=h.each s (List.mem_of_getElem? hs)
    refine(h.mono (k':=k+1) (by omega) (Nat.le_refl _)).setL ⟨h1.begin.mono (by omega),?_,?_⟩
    ·rcases begin_ms s with e | e <;> rw[e]
     ·omega
     ·exact Nat.zero_le _
    ·rcases begin_ms s with e | e <;> rw[e]
     ·exact h3
     ·intro m hm;cases hm
theorem KFit.stop (h:KFit c K k W)(i:Int):KFit c (K.stop i).1 (k+1) W:=by
 unfold KSt.stop
 split
 ·exact h.mono (by omega) (Nat.le_refl _)
 ·split
  ·exact h.mono (by omega) (Nat.le_refl _)
  ·split
   ·exact h.mono (by omega) (Nat.le_refl _)
   ·rename_i s hs;obtain⟨h1,h2,h3⟩:=h.each s (List.mem_of_getElem? hs);exact(h.mono (k':=k+1) (by omega) (Nat.le_refl _)).setL ⟨h1.stop.mono (by omega),Nat.le_succ_of_le h2,h3⟩
theorem KFit.report (h:KFit c K k W)(i p:Int):KFit c (K.report c i p).1 (k+1) W:=by
 unfold KSt.report
 split
 ·exact h.mono (by omega) (Nat.le_refl _)
 ·split
  ·exact h.mono (by omega) (Nat.le_refl _)
  ·split
   ·exact h.mono (by omega) (Nat.le_refl _)
   ·rename_i s hs;obtain⟨h1,h2,h3⟩:=h.each s (List.mem_of_getElem? hs)
    refine(h.mono (k':=k+1) (by omega) (Nat.le_refl _)).setL ⟨(h1.rep p _).mono (by omega),?_,?_⟩
    ·unfold LSt.rep
     split
     ·show (s.ms++_).length<=_
      rw[List.length_append,List.length_singleton];omega
     ·omega
    ·unfold LSt.rep
     split
     ·intro m hm;have hm':m∈s.ms++[⟨p,(K.d.now:Int),s.since⟩]:=hm
      rcases List.mem_append.1 hm' with hm' | hm'
      ·exact h3 m hm'
      ·rw[List.mem_singleton] at hm';subst hm';have:=h.now;exact⟨Int.natCast_nonneg _,by show (K.d.now:Int)<=_;omega⟩
     ·exact h3
theorem KFit.cut (h:KFit c K k W)(n:Int)(hn:n<=9223372036854775807):KFit c (K.cut n).1 k W:=by
 unfold KSt.cut
 split
 ·exact h
 ·split
  ·exact h
  ·exact⟨⟨h.big.len,h.big.size,h.big.top⟩,by show n.toNat<=_;omega,h.wr,h.sp,h.llen,h.last,h.len,h.each,h.tot,h.now,h.win⟩
theorem KFit.app (h:KFit c K k W)(ho:K.c.off=false)(e kd t:Nat):KFit c (K.app e kd t).1 k (W+18)/\((K.app e kd t).2=0->(K.app e kd t).1.c.off=false/\(K.app e kd t).1.sp=false)/\(K.app e kd t).1.d=K.d/\(K.app e kd t).1.ls=K.ls/\(K.app e kd t).1.t=K.t:=by
 have hsp:K.sp=false:=by
  cases e:K.sp with
  | false=>rfl
  | true=>rw[h.sp e] at ho;cases ho
 have hB:=(putRec_big h.big ho (nextR K.L e kd t));unfold KSt.app;rw[if_neg (by rw[hsp];simp)]
 split
 ·exact⟨h.mono (Nat.le_refl _) (by omega),fun e=>(by cases e),rfl,rfl,rfl⟩
 ·rename_i hq;have hlast:=h.last
  split
  ·rename_i h0
   refine⟨⟨hB.1,putRec_left _ h.left,Nat.le_trans (putRec_written _ _) (by have:=h.wr;omega),fun e=>?_,keepL_len _ h.llen,?_,h.len,h.each,h.tot,h.now,h.win⟩,fun _=>⟨hB.2 h0,hsp⟩,rfl,rfl,rfl⟩
   ·rw[show K.sp=true from e] at hsp;cases hsp
   ·show (lastR (keepL K.L _)).seq<=_
    rw[keepL_last];show (lastR K.L).seq+1<=_
    omega
  ·rename_i h0
   refine⟨⟨hB.1,putRec_left _ h.left,Nat.le_trans (putRec_written _ _) (by have:=h.wr;omega),fun _=>?_,h.llen,h.last,h.len,h.each,h.tot,h.now,h.win⟩,fun e=>absurd e h0,rfl,rfl,rfl⟩
   rcases putRec_code h.big ho (nextR K.L e kd t) with e8 | e8
   ·exact absurd e8 h0
   ·exact putRec_off e8
theorem KFit.finL (h:KFit c K k W){i:Nat}{s:LSt}(hs:K.ls[i]?=some s)(h4:LFit s (k+K.d.now - 1))(h5:1<=K.d.now)(e:EntD):KFit c (K.setL i (s.fin e)) k W:=by
 obtain⟨h1,h2,h3⟩:=h.each s (List.mem_of_getElem? hs);have hms:(s.fin e).ms=s.ms:=by unfold LSt.fin;split <;> rfl
 exact h.setL ⟨h4.fin.mono (by omega),by rw[hms];exact h2,by rw[hms];exact h3⟩
theorem KFit.endOne (h:KFit c K k W)(ho:K.c.off=false)(i:Nat)(hi:∀ s,K.ls[i]?=some s->LFit s (k+K.d.now - 1)/\1<=K.d.now):KFit c (K.endOne c i).1 k (W+18)/\((K.endOne c i).2=0->(K.endOne c i).1.c.off=false/\(K.endOne c i).1.sp=false)/\(K.endOne c i).1.d=K.d/\(K.endOne c i).1.t=K.t/\∀ j,j≠i->(K.endOne c i).1.ls[j]?=K.ls[j]?:=by
 have hsp:K.sp=false:=by
  cases e:K.sp with
  | false=>rfl
  | true=>rw[h.sp e] at ho;cases ho
 unfold KSt.endOne
 split
 ·exact⟨h.mono (Nat.le_refl _) (by omega),fun _=>⟨ho,hsp⟩,rfl,rfl,fun _ _=>rfl⟩
 ·rename_i s hs;obtain⟨h1,h2,h3⟩:=h.each s (List.mem_of_getElem? hs);obtain⟨h4,h5⟩:=hi s hs;have hms:(s.fin (c.ents.getD i noEnt)).ms=s.ms:=by unfold LSt.fin;split <;> rfl
  have h':KFit c (K.setL i (s.fin (c.ents.getD i noEnt))) k W:=h.setL ⟨h4.fin.mono (by omega),by rw[hms];exact h2,by rw[hms];exact h3⟩;have hj:∀ j,j≠i->(K.setL i (s.fin (c.ents.getD i noEnt))).ls[j]?=K.ls[j]?:=fun j hj=>by
   show (K.ls.set i _)[j]?=_
   rw[List.getElem?_set_ne (fun e=>hj e.symm)]
  split
  ·obtain⟨a1,a2,a3,a4,a5⟩:=h'.app ho i (s.kind (c.ents.getD i noEnt)).toNat K.d.now;exact⟨a1,a2,a3,a5,fun j hj'=>by rw[a4];exact hj j hj'⟩
  ·exact⟨h'.mono (Nat.le_refl _) (by omega),fun _=>⟨ho,hsp⟩,rfl,rfl,hj⟩
theorem KFit.ends (h:KFit c K k W)(ho:K.c.off=false)(hi:∀ s∈K.ls,LFit s (k+K.d.now - 1))(h1:1<=K.d.now):∀ n,KFit c (K.ends c n).1 k (W+18*n)/\((K.ends c n).2=0->(K.ends c n).1.c.off=false/\(K.ends c n).1.sp=false)/\(K.ends c n).1.d=K.d/\(K.ends c n).1.t=K.t/\∀ j,n<=j->(K.ends c n).1.ls[j]?=K.ls[j]?
 | 0=>⟨h,fun _=>⟨ho,by
   cases e:K.sp with
   | false=>exact e
   | true=>rw[h.sp e] at ho;cases ho⟩,rfl,rfl,fun _ _=>rfl⟩
 | n+1=>by
  obtain⟨a1,a2,a3,a4,a5⟩:=KFit.ends h ho hi h1 n;unfold KSt.ends
  split
  ·rename_i h0;obtain⟨b1,b2,b3,b4,b5⟩:=a1.endOne (a2 h0).1 n (fun s hs=>by
    rw[a5 n (Nat.le_refl _)] at hs;rw[a3];exact⟨hi s (List.mem_of_getElem? hs),h1⟩)
   exact⟨b1.mono (Nat.le_refl _) (by omega),b2,b3.trans a3,b4.trans a4,fun j hj=>(b5 j (by omega)).trans (a5 j (by omega))⟩
  ·rename_i h0;exact⟨a1.mono (Nat.le_refl _) (by omega),fun e=>absurd e h0,a3,a4,fun j hj=>a5 j (by omega)⟩
theorem KFit.ticked (h:KFit c K k W)(hn:K.d.now < 1099511627776):KFit c K.ticked k W/\(∀ s∈K.ticked.ls,LFit s (k+K.ticked.d.now - 1))/\1<=K.ticked.d.now:=
 ⟨⟨h.big,h.left,h.wr,h.sp,h.llen,h.last,h.len,fun s hs=>⟨(h.each s hs).1.mono (by show _<=k+(K.d.now+1);omega),(h.each s hs).2⟩,h.tot,hn,⟨h.win.1,h.win.2.1,h.win.2.2.1,by have:=h.win.2.2.2;show K.d.begun<=K.d.now+1;omega⟩⟩,fun s hs=>(h.each s hs).1.mono (by show _<=k+(K.d.now+1) - 1;omega),by show 1<=K.d.now+1;omega⟩
theorem KFit.last' (h:KFit c K k W):KFit c K.last k W:=by
 have hw:=h.win;have h1:KFit c { K with t:=K.t.fin (K.ls.map fun s=>statB s.status) } k W:=⟨h.big,h.left,h.wr,h.sp,h.llen,h.last,h.len,h.each,h.tot.fin20 _,h.now,h.win⟩;unfold KSt.last;simp only[]
 split
 ·rename_i hc
  refine⟨h1.big,h1.left,h1.wr,h1.sp,h1.llen,h1.last,h1.len,h1.each,h1.tot,h1.now,⟨hw.1,hw.2.1,?_,Nat.le_refl _⟩⟩;show K.d.kicks+1<=K.d.now
  have ho:=hc.2;unfold DSt.isOpen at ho;simp only[Bool.and_eq_true,decide_eq_true_eq] at ho;omega
 ·exact h1
theorem last_now:K.last.d.now=K.d.now:=by unfold KSt.last;simp only[];split <;> rfl
theorem KFit.tick (hr:KRt c)(h:KFit c K k (144*K.d.now))(hn:K.d.now < 1099511627776):KFit c (K.tick c).1 k (144*(K.tick c).1.d.now):=by
 unfold KSt.tick
 split
 ·exact h
 ·rename_i hon;have hon':K.on=0:=by omega
  obtain⟨ho,-⟩:=KSt.on_zero.1 hon';obtain⟨t1,t2,t3⟩:=h.ticked hn;have hW:144*K.ticked.d.now=144*K.d.now+144:=by show 144*(K.d.now+1)=_;omega
  split
  ·rw[hW];exact t1.mono (Nat.le_refl _) (by omega)
  ·split
   ·rw[hW];exact t1.mono (Nat.le_refl _) (by omega)
   ·obtain⟨a1,-,a3,-⟩:=t1.ends ho t2 t3 c.ents.length;have hnn:=hr.nn
    split
    ·show KFit c (K.ticked.ends c c.ents.length).1.last k (144*(K.ticked.ends c c.ents.length).1.last.d.now)
     rw[last_now,a3,hW];exact(a1.mono (Nat.le_refl _) (by omega)).last'
    ·rw[a3,hW];exact a1.mono (Nat.le_refl _) (by omega)
theorem KFit.opened (hr:KRt c)(h:Big K.c)(h0:K.c.left<=9223372036854775807)(hw:K.c.written<=W)(hn:K.d.now<=1099511627776)(hd:K.d.closed<=1000/\K.d.opn<=1000/\K.d.kicks<=K.d.begun/\K.d.begun<=K.d.now):KFit c (KSt.opened c K) k W:=by
 have hde:=hr.de;have e1:=openL_eight (K.c.bytes.take K.c.size);have e2:=openL_last (K.c.bytes.take K.c.size);unfold KSt.opened;revert e1 e2
 generalize openL (K.c.bytes.take K.c.size)=X;intro e1 e2
 refine⟨h,h0,hw,fun e=>(by cases e),e1,e2,by simp,fun s hs=>?_,?_,hn,hd⟩
 ·have:s=LSt.new:=by
   simp only[List.mem_map] at hs;obtain⟨_,_,rfl⟩:=hs;rfl
  subst this;exact⟨LFit.new.mono (Nat.zero_le _),Nat.zero_le _,fun m hm=>(by cases hm)⟩
 ·have:=TFit.new (d:=c.delay.toNat) (by omega);exact⟨this.d,Nat.zero_le _,this.lt,this.st,this.z⟩
theorem KFit.new (hr:KRt c){s:CSt}(h:Big s)(h0:s.left<=9223372036854775807)(hw:s.written=0):KFit c (KSt.new c s) 0 0:=by
 have h1:=hr.cl;have h2:=hr.op;exact KFit.opened hr h h0 (by show s.written<=0;omega) (Nat.zero_le _) ⟨by show c.closed.toNat<=1000;omega,by show c.opn.toNat<=1000;omega,Nat.le_refl _,Nat.le_refl _⟩
theorem KFit.boot (hr:KRt c)(h:KFit c K k W):KFit c (K.boot c).1 k W:=by
 unfold KSt.boot
 split
 ·exact h
 ·exact KFit.opened hr ⟨h.big.len,h.big.size,h.big.top⟩ (Nat.zero_le _) h.wr h.now ⟨h.win.1,h.win.2.1,Nat.le_trans h.win.2.2.1 h.win.2.2.2,Nat.le_refl _⟩
theorem boot_now:(K.boot c).1.d.now=K.d.now:=by unfold KSt.boot;split <;> rfl
theorem begin_now (i:Int):(K.begin i).1.d=K.d:=by unfold KSt.begin;split;rfl;split;rfl;split <;> rfl
theorem stop_now (i:Int):(K.stop i).1.d=K.d:=by unfold KSt.stop;split;rfl;split;rfl;split <;> rfl
theorem report_now (i p:Int):(K.report c i p).1.d=K.d:=by unfold KSt.report;split;rfl;split;rfl;split <;> rfl
theorem cut_now (n:Int):(K.cut n).1.d=K.d:=by unfold KSt.cut;split;rfl;split <;> rfl
end
end Go.Proofs.YtdpdbfhbojgigacGreatDoor
namespace Go.Proofs.YtdpdbfhbojgigacGreatDoor
open Go.RowKit Go.Extern.Stop Go.Stop Go.Extern
def gr (F:Nat->Prop)(w w':World):Nat->Prop:=fun k=>F k\/(w.heap.size<=k/\k < w'.heap.size)
structure Fam (H:Nat->Nat->Prop)(B:Nat)(w:World):Prop where
 lo:∀ i k,H i k->B<=k
 lt:∀ i k,H i k->k < w.heap.size
 dis:∀ i j k,H i k->H j k->i=j
def updH (H:Nat->Nat->Prop)(i:Nat)(w w':World):Nat->Nat->Prop:=fun j k=>H j k\/(j=i/\w.heap.size<=k/\k < w'.heap.size)
section
variable {H:Nat->Nat->Prop}{B:Nat}{w w' w'':World}{F:Nat->Prop}
theorem Fam.upd (h:Fam H B w)(hs:w.heap.size<=w'.heap.size)(hB:B<=w.heap.size)(i:Nat):Fam (updH H i w w') B w':=by
 refine⟨fun j k hk=>?_,fun j k hk=>?_,fun j j' k hk hk'=>?_⟩
 ·rcases hk with hk | ⟨_,hk,_⟩
  ·exact h.lo j k hk
  ·exact Nat.le_trans hB hk
 ·rcases hk with hk | ⟨_,_,hk⟩
  ·exact Nat.lt_of_lt_of_le (h.lt j k hk) hs
  ·exact hk
 ·rcases hk with hk | ⟨e,hk,_⟩ <;> rcases hk' with hk' | ⟨e',hk',_⟩
  ·exact h.dis j j' k hk hk'
  ·have:=h.lt j k hk;omega
  ·have:=h.lt j' k hk';omega
  ·rw[e,e']
theorem Fam.grow (h:Fam H B w)(hs:w.heap.size<=w'.heap.size):Fam H B w':=⟨h.lo,fun i k hk=>Nat.lt_of_lt_of_le (h.lt i k hk) hs,h.dis⟩
theorem Fam.keep (h:Fam H B w){i j:Nat}(hne:j≠i)(ho:Off (H i) w w'):∀ k,H j k->w'.heap[k]?=w.heap[k]?:=fun k hk=>ho.block k (h.lt j k hk) (fun hi=>hne (h.dis j i k hk hi))
theorem Fam.not (h:Fam H B w){i j:Nat}(hne:j≠i){k:Nat}(hk:H j k):¬H i k:=fun hi=>hne (h.dis j i k hk hi)
theorem updH_all (hF:∀ i k,H i k->F k)(i:Nat):∀ j k,updH H i w w' j k->gr F w w' k:=fun j k hk=>by
 rcases hk with hk | ⟨_,h1,h2⟩
 ·exact Or.inl (hF j k hk)
 ·exact Or.inr ⟨h1,h2⟩
theorem Off.all (hF:∀ i k,H i k->F k){i:Nat}(h:Off (H i) w w'):Off F w w':=h.mono (fun k _ hk=>hF i k hk)
theorem Off.gr (h:Off F w w')(h':Off (gr F w w') w' w''):Off F w w'':=h.trans h' (fun k hk hg=>by
 rcases hg with hg | ⟨h1,_⟩
 ·exact hg
 ·omega)
theorem gr_gr {k:Nat}(h1:w.heap.size<=w'.heap.size)(h2:w'.heap.size<=w''.heap.size)(hk:gr (gr F w w') w' w'' k):gr F w w'' k:=by
 rcases hk with (hk | ⟨a,b⟩) | ⟨a,b⟩
 ·exact Or.inl hk
 ·exact Or.inr ⟨a,by omega⟩
 ·exact Or.inr ⟨by omega,b⟩
theorem ow_same {B k n:Nat}{T:TypeId}{v:Value}{xs:List Value}(h:w.ownsRow B T k v n xs)(hs:∀ g,v.ownBlock=some g->w'.heap[g]?=w.heap[g]?):w'.ownsRow B T k v n xs:=by
 refine⟨h.1,?_⟩
 rcases h.2 with hn | ⟨g,cap,cur,rfl,hb,hgg,rest⟩
 ·exact .inl hn
 ·exact .inr ⟨g,cap,cur,rfl,hb,(hs g rfl).trans hgg,rest⟩
end
section
variable {A:Nat->Addr}{F F':Nat->Prop}{w w':World}{b:Nat}{e:EntD}{s:LSt}
def SimS (e:EntD):Option NSt->LSt->Prop
 | none,s=>s.act=false
 | some n,s=>NSim e n s
structure LoS (F:Nat->Prop)(w:World)(b:Nat)(e:EntD)(s:LSt):Prop where
 ex:∃ E so,LoAt F w b e E so/\SimS e so s
 lt:∀ k,F k->k < w.heap.size
theorem LoS.same (h:LoS F w b e s)(hs:∀ k,F k->w'.heap[k]?=w.heap[k]?)(hz:w.heap.size<=w'.heap.size):LoS F w' b e s:=by
 obtain⟨E,so,h1,h2⟩:=h.ex;exact⟨⟨E,so,h1.same hs,h2⟩,fun k hk=>Nat.lt_of_lt_of_le (h.lt k hk) hz⟩
theorem LoS.to {E:EA}{so:Option NSt}(h:LoAt (fun k=>F k\/w.heap.size<=k) w' b e E so)(hs:SimS e so s)(hl:∀ k,F k->k < w.heap.size)(hz:w.heap.size<=w'.heap.size):LoS (gr F w w') w' b e s:=
 ⟨⟨E,so,h.mono (fun k hk hf=>hf.imp id (fun a=>⟨a,hk⟩)),hs⟩,fun k hk=>by
  rcases hk with hk | ⟨_,hk⟩
  ·exact Nat.lt_of_lt_of_le (hl k hk) hz
  ·exact hk⟩
theorem LoS.to' {E:EA}{so:Option NSt}(h:LoAt F w' b e E so)(hs:SimS e so s)(hl:∀ k,F k->k < w.heap.size)(hz:w.heap.size<=w'.heap.size):LoS (gr F w w') w' b e s:=LoS.to (h.mono (fun _ _ h=>Or.inl h)) hs hl hz
theorem los_begin (h:LoS F w b e s)(hx:w.cell? ⟨0,0,none⟩=some (errVal A 10))(hS:SmallE e)(hW:WfE e.edges) :
  Calls Tryz.prog 54 #[.pointer (some ⟨b,0,none⟩)] w fun v w'=>v=.returned (errVal A s.begN)/\LoS (gr F w w') w' b e s.begin/\Off F w w':=by
 obtain⟨E,so,h1,h2⟩:=h.ex
 cases so with
 | none=>
  have ha:s.act=false:=h2
  refine(lo_begin h1 hS hW).mono ?_;rintro v w' ⟨rfl,h3,h4⟩;exact⟨by unfold LSt.begN;rw[ha];rfl,LoS.to h3 (NSim.new e s ha) h.lt h4.off.size,h4.off⟩
 | some n=>
  have ha:s.act=true:=NSim.act h2
  refine(lo_held _ h1 hx).mono ?_;rintro v w' ⟨rfl,rfl⟩;have hb:s.begin=s:=by unfold LSt.begin;rw[ha];rfl
  rw[hb];exact⟨by unfold LSt.begN;rw[ha];rfl,LoS.to' h1 h2 h.lt (Nat.le_refl _),Off.refl _ _⟩
theorem los_stop (h:LoS F w b e s)(hx:w.cell? ⟨4,0,none⟩=some (errVal A 9)) :
  Calls Tryz.prog 55 #[.pointer (some ⟨b,0,none⟩)] w fun v w'=>v=.returned (errVal A s.stopN)/\LoS (gr F w w') w' b e s.stop/\Off F w w':=by
 obtain⟨E,so,h1,h2⟩:=h.ex
 cases so with
 | none=>
  have ha:s.act=false:=h2
  refine(lo_stop_idle _ h1 hx).mono ?_;rintro v w' ⟨rfl,rfl⟩;exact⟨by unfold LSt.stopN;rw[ha];rfl,LoS.to' h1 (show s.stop.act=false from rfl) h.lt (Nat.le_refl _),Off.refl _ _⟩
 | some n=>
  have ha:s.act=true:=NSim.act h2
  refine(lo_stop h1).mono ?_;rintro v w' ⟨rfl,h3,h4⟩;exact⟨by unfold LSt.stopN;rw[ha];rfl,LoS.to' h3 (show s.stop.act=false from rfl) h.lt h4.off.size,h4.off⟩
theorem los_report (p t:Int)(h:LoS F w b e s)(hx:w.cell? ⟨4,0,none⟩=some (errVal A 9))(hy:w.cell? ⟨5,0,none⟩=some (errVal A 5))(hS:SmallE e)(hn:s.ms.length < 1000)(ht:0<=t/\t<=1099511627776) :
  Calls Tryz.prog 56 #[.pointer (some ⟨b,0,none⟩),.int .i64 p,.int .i64 t] w fun v w'=>v=.returned (errVal A (s.repN e p))/\LoS (gr F w w') w' b e (s.rep e p t)/\Off F w w':=by
 obtain⟨E,so,h1,h2⟩:=h.ex
 cases so with
 | none=>
  have ha:s.act=false:=h2
  refine(lo_report_idle _ p t h1 hx).mono ?_;rintro v w' ⟨rfl,rfl⟩;have hb:s.rep e p t=s:=by unfold LSt.rep;rw[if_neg (fun x=>by rw[ha] at x;cases x.1)]
  rw[hb];exact⟨by unfold LSt.repN;rw[ha];rfl,LoS.to' h1 h2 h.lt (Nat.le_refl _),Off.refl _ _⟩
 | some n=>
  have ha:s.act=true:=NSim.act h2
  cases hp:hasP e p
  ·refine(lo_report_none _ p t h1 hp hy).mono ?_;rintro v w' ⟨rfl,rfl⟩;have hb:s.rep e p t=s:=by unfold LSt.rep;rw[if_neg (fun x=>by rw[hp] at x;cases x.2)]
   rw[hb];exact⟨by unfold LSt.repN;rw[ha,hp];rfl,LoS.to' h1 h2 h.lt (Nat.le_refl _),Off.refl _ _⟩
  ·refine(lo_report p t h1 hp hS).mono ?_;rintro v w' ⟨rfl,h3,h4⟩;exact⟨by unfold LSt.repN;rw[ha,hp];rfl,LoS.to' h3 (NSim.rep h2 p t hn (by unfold tickOk;rw[decide_eq_true ht.1,decide_eq_true ht.2];rfl)) h.lt h4.off.size,h4.off⟩
theorem los_end (h:LoS F w b e s)(hc:e.cnt < (e.pts.length:Int))(ht:0<=e.tol)(hF:LFit s 900000) :
  Calls Tryz.prog 126 #[.pointer (some ⟨b,0,none⟩)] w fun v w'=>v=.returned (.tuple #[.int .i64 (s.kind e),.bool (s.turns e)])/\LoS (gr F w w') w' b e (s.fin e)/\Off F w w':=by
 obtain⟨E,so,h1,h2⟩:=h.ex
 cases so with
 | none=>
  have ha:s.act=false:=h2
  refine(lo_end_idle h1).mono ?_;rintro v w' ⟨rfl,rfl⟩;have hb:s.fin e=s:=by unfold LSt.fin;rw[ha];rfl
  rw[hb];exact⟨by unfold LSt.kind LSt.turns;rw[ha];rfl,LoS.to' h1 h2 h.lt (Nat.le_refl _),Off.refl _ _⟩
 | some n=>
  have h2':NSim e n s:=h2
  refine(lo_end h1 (by have:=h2'.run;have:=hF.r1;have:=hF.s1;omega)).mono ?_;rintro v w' ⟨rfl,h3,h4⟩;exact⟨by rw[h2'.kind hc,h2'.turns hc ht],LoS.to' h3 (h2'.fin hc ht hF.each hF.s0) h.lt h4.off.size,h4.off⟩
theorem stWord_statB:∀ n,n<=3->stWord n=statB n
 | 0,_=>rfl
 | 1,_=>rfl
 | 2,_=>rfl
 | 3,_=>rfl
 | n+4,h=>by omega
theorem los_status (h:LoS F w b e s) :
  Calls Tryz.prog 94 #[.pointer (some ⟨b,0,none⟩)] w fun v w'=>v=.returned (.string (statB s.status))/\w'=w:=by
 obtain⟨E,so,h1,h2⟩:=h.ex
 cases so with
 | none=>
  have ha:s.act=false:=h2
  refine(lo_status_idle h1).mono ?_;rintro v w' ⟨rfl,rfl⟩;exact⟨by unfold LSt.status;rw[ha];rfl,rfl⟩
 | some n=>
  have h2':NSim e n s:=h2
  refine(lo_status h1).mono ?_;rintro v w' ⟨rfl,rfl⟩;have hn:n.status<=3:=by unfold NSt.status;split;omega;split <;> omega
  exact⟨by rw[stWord_statB _ hn,h2'.status],rfl⟩
theorem los_new (w:World)(e:EntD)(E:EA)(hP:PartsE w e E)(hS:SmallE e) :
  Calls Tryz.prog 72 #[.agg #[.string e.name,.int .i64 e.tol,.slice E.pa e.pts.length E.pc,.int .i64 e.cnt,.int .i64 e.mn,.int .i64 e.mx,.slice E.ga e.gaps.length E.gc,.slice E.ea e.edges.length E.ec,.slice E.fa e.first.length E.fc,.slice E.la e.last.length E.lc]] w fun v w'=>∃ b,v=.returned (.pointer (some ⟨b,0,none⟩))/\LoS (fun k=>w.heap.size<=k/\k < w'.heap.size) w' b e LSt.new/\Below w.heap.size w w':=by
 refine(lo_new w e E hP hS).mono ?_;rintro v w' ⟨⟨b,E',rfl,h1⟩,hb⟩;exact⟨b,rfl,⟨⟨E',none,h1.mono (fun k hk h=>⟨h,hk⟩),rfl⟩,fun k hk=>hk.2⟩,hb⟩
end
end Go.Proofs.YtdpdbfhbojgigacGreatDoor
