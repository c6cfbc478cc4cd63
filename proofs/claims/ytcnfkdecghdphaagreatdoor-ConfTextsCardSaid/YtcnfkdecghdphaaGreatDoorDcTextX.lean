/-
  The document's ConfigText by a contract, for every right config: 'confText'. Conditions: the config lies in memory and is right.
-/
import Derived.Test.YtcnfkdecghdphaaGreatDoorDcDecX
import Derived.Test.YtcnfkdecghdphaaGreatDoorDcBaseX
import Derived.Test.YtcnfkdecghdphaaGreatDoorPureX
import Derived.Test.YtcnfkdecghdphaaGreatDoorMemX
import Derived.Laws.Concat
namespace Go.Proofs.YtcnfkdecghdphaaGreatDoor
open Go.RowKit Go.Extern.Stop Go.Stop Go.Extern

def numB (n : Int) : ByteArray := ⟨(num n).toArray⟩
theorem bl_numB (n : Int) : bl (numB n) = num n := by simp [bl, numB]
def InR (n : Int) : Prop := 0 ≤ n ∧ n ≤ 1099511627776
theorem numB_size {n : Int} (h : InR n) : (numB n).size ≤ 100 := by
  have h1 := num_len h.2
  show (num n).toArray.size ≤ 100
  simp
  omega
theorem bl_app (a b : ByteArray) : bl (a ++ b) = bl a ++ bl b := by simp [bl]
theorem bl_len (a : ByteArray) : (bl a).length = a.size := by simp [bl]
theorem addS (a b : ByteArray) (h : a.size + b.size ≤ 9223372036854775807) : ∀ w, (binOp .add 9 (.string a) (.string b)).run Tryz.prog w = .ok (.string (a ++ b)) w := fun w => by simp only [binOp, run_string_add_sum (P := Tryz.prog) w a b h]
theorem addO (a b : ByteArray) (h : a.size + b.size ≤ 9223372036854775807) : ∀ w, (Op.stringOp .add a b).run Tryz.prog w = .ok (.string (a ++ b)) w := fun w => run_string_add_sum (P := Tryz.prog) w a b h
theorem dec_rel (W : World) (n : Int) (V : World) (hV : Below W.heap.size W V) (hn : InR n) : Calls Tryz.prog 29 #[.int .i64 n] V fun e w' => e = .returned (.string (numB n)) ∧ Below W.heap.size W w' := by
  obtain ⟨m, rfl⟩ := Int.eq_ofNat_of_zero_le hn.1
  refine (decimal_at m V (by have := hn.2; omega)).mono fun e w' h => ⟨h.1, hV.trans (h.2.mono hV.size)⟩
def tl (ls : List Bs) : Bs := ls.flatMap (fun x => x ++ [10])
theorem tl_app (a b : List Bs) : tl (a ++ b) = tl a ++ tl b := by simp [tl]
theorem tl_one (a : Bs) : tl [a] = a ++ [10] := by simp [tl]
theorem ptD_at {pts : List ByteArray} {n : Nat} {p : ByteArray} (h : pts[n]? = some p) : pt pts (n : Int) = bl p := by simp [pt, List.getD_eq_getElem?_getD, h]
/-- A point's cell. -/
theorem pts_cell {w : World} {pa : Option Addr} {pc : Nat} {pts : List ByteArray} (h : SlAt encS 1 w (.slice pa pts.length pc) pts) {x : Int} (h0 : 0 ≤ x) (h1 : x < (pts.length : Int)) : ∃ (n : Nat) (p : ByteArray) (g o : Nat), x = (n : Int) ∧ pts[n]? = some p ∧ pa = some ⟨g, o, none⟩ ∧ w.cell? ⟨g, o + n, none⟩ = some (.string p) := by
  obtain ⟨n, rfl⟩ := Int.eq_ofNat_of_zero_le h0
  have hl : n < pts.length := by omega
  obtain ⟨p, hp⟩ : ∃ p, pts[n]? = some p := ⟨_, List.getElem?_eq_getElem hl⟩
  obtain ⟨g, o, rfl, hc⟩ := slatS_cell h hp
  exact ⟨n, p, g, o, rfl, hp, rfl, hc n p hp⟩
theorem pts_pick {pts : List ByteArray} {x : Int} (h0 : 0 ≤ x) (h1 : x < (pts.length : Int)) : ∃ (n : Nat) (p : ByteArray), x = (n : Int) ∧ pts[n]? = some p ∧ (n : Int) < (pts.length : Int) := by
  obtain ⟨n, rfl⟩ := Int.eq_ofNat_of_zero_le h0
  exact ⟨n, _, rfl, List.getElem?_eq_getElem (by omega), h1⟩
theorem name_size {s : ByteArray} (h : isName s = true) : s.size ≤ 100 := by have := name_len h; rw [bl_len] at this; omega
def headL (c : CfgD) : List Bs := [kwLine 0 [num c.closed, num c.opn], kwLine 1 [num c.cycle], kwLine 2 [num c.delay]]
theorem confLines_is (c : CfgD) : confLines c = headL c ++ c.ents.flatMap entLines := by simp [confLines, headL]
theorem confText_is (c : CfgD) : confText c = tl (headL c) ++ tl (c.ents.flatMap entLines) := by unfold confText; rw [confLines_is, ← tl_app]; rfl
theorem head_is (c : CfgD) : bl (⟨#[119, 105, 110, 100, 111, 119, 32]⟩ ++ numB c.closed ++ ⟨#[32]⟩ ++ numB c.opn ++ ⟨#[10, 99, 121, 99, 108, 101, 32]⟩ ++ numB c.cycle ++ ⟨#[10, 100, 101, 108, 97, 121, 32]⟩ ++ numB c.delay ++ ⟨#[10]⟩) = tl (headL c) := by
  simp only [bl_app, bl_numB]
  simp [bl, headL, tl, kwLine, kw]
set_option maxHeartbeats 4000000 in
set_option maxRecDepth 100000 in
theorem ctext_at (c : CfgD) (sa : Option Addr) (sc : Nat) (w : World) (hE : EntsAt w (.slice sa c.ents.length sc) c.ents) (hS : SmallC c) (h0 : (cfgErr c).1 = 0) :
    Calls Tryz.prog 12 #[.agg #[.int .i64 c.closed, .int .i64 c.opn, .int .i64 c.cycle, .int .i64 c.delay, .slice sa c.ents.length sc]] w fun v w' => v = .returned (.string ⟨(confText c).toArray⟩) ∧ Below w.heap.size w w' := by
  have HOk : Hid (OkC c) := okC_of h0
  have HLn : Hid ((tl (c.ents.flatMap entLines)).length ≤ 400000000) := ents_len h0
  obtain ⟨W, hW⟩ : ∃ V, V = w.alloc (.cells #[.int .i64 c.closed, .int .i64 c.opn, .int .i64 c.cycle, .int .i64 c.delay, .slice sa c.ents.length sc] 24) := ⟨_, rfl⟩
  have HBW : Hid (Below w.heap.size w W) := by show Below _ _ _; rw [hW]; exact Below.one _ _
  have HF : Hid (∀ V, Below W.heap.size W V → Below w.heap.size w V) := fun V hV => HBW.out.trans (hV.mono HBW.out.size)
  have HX : Hid (∀ V, Below W.heap.size W V → ∀ (j : Nat) u, (#[.int .i64 c.closed, .int .i64 c.opn, .int .i64 c.cycle, .int .i64 c.delay, .slice sa c.ents.length sc] : Array Value)[j]? = some u → V.cell? ⟨w.heap.size, j, none⟩ = some u) := fun V hV j u hu => by
    have := row_below hV (show W.heap[w.heap.size]? = _ by rw [hW]; exact heap_alloc_new w _)
    simp [World.cell?, this, hu]
  have HEn : Hid (∀ V, Below W.heap.size W V → EntsAt V (.slice sa c.ents.length sc) c.ents) := fun V hV => hE.below (HF.out V hV)
  have HSm : Hid (SmallC c) := hS
  have HSz : Hid (∀ e ∈ c.ents, SizeE e) := cfg_size h0
  have r0 : InR c.closed := by have := HOk.out.closed; unfold InR; omega
  have r1 : InR c.opn := by have := HOk.out.opn; unfold InR; omega
  have r2 : InR c.cycle := by have := HOk.out.cycle; unfold InR; omega
  have r3 : InR c.delay := by have := HOk.out.delay; unfold InR; omega
  have z0 := numB_size r0
  have z1 := numB_size r1
  have z2 := numB_size r2
  have z3 := numB_size r3
  have lz0 : (⟨#[119, 105, 110, 100, 111, 119, 32]⟩ : ByteArray).size = 7 := rfl
  have lz1 : (⟨#[32]⟩ : ByteArray).size = 1 := rfl
  have lz2 : (⟨#[10, 99, 121, 99, 108, 101, 32]⟩ : ByteArray).size = 7 := rfl
  have lz3 : (⟨#[10, 100, 101, 108, 97, 121, 32]⟩ : ByteArray).size = 7 := rfl
  have lz4 : (⟨#[10]⟩ : ByteArray).size = 1 := rfl
  have lz5 : (⟨#[101, 110, 116, 105, 116, 121, 32]⟩ : ByteArray).size = 7 := rfl
  have lz6 : (⟨#[112, 111, 105, 110, 116, 32]⟩ : ByteArray).size = 6 := rfl
  have lz7 : (⟨#[99, 111, 117, 110, 116, 32]⟩ : ByteArray).size = 6 := rfl
  have lz8 : (⟨#[103, 97, 112, 32]⟩ : ByteArray).size = 4 := rfl
  have lz9 : (⟨#[101, 100, 103, 101, 32]⟩ : ByteArray).size = 5 := rfl
  have lz10 : (⟨#[102, 105, 114, 115, 116, 32]⟩ : ByteArray).size = 6 := rfl
  have lz11 : (⟨#[108, 97, 115, 116, 32]⟩ : ByteArray).size = 5 := rfl
  have p0 := addO (⟨#[119, 105, 110, 100, 111, 119, 32]⟩) (numB c.closed) (by (try simp only [ByteArray.size_append]); omega)
  have p1 := addO (⟨#[119, 105, 110, 100, 111, 119, 32]⟩ ++ numB c.closed) (⟨#[32]⟩) (by (try simp only [ByteArray.size_append]); omega)
  have p2 := addO (⟨#[119, 105, 110, 100, 111, 119, 32]⟩ ++ numB c.closed ++ ⟨#[32]⟩) (numB c.opn) (by (try simp only [ByteArray.size_append]); omega)
  have p3 := addO (⟨#[119, 105, 110, 100, 111, 119, 32]⟩ ++ numB c.closed ++ ⟨#[32]⟩ ++ numB c.opn) (⟨#[10, 99, 121, 99, 108, 101, 32]⟩) (by (try simp only [ByteArray.size_append]); omega)
  have p4 := addO (⟨#[119, 105, 110, 100, 111, 119, 32]⟩ ++ numB c.closed ++ ⟨#[32]⟩ ++ numB c.opn ++ ⟨#[10, 99, 121, 99, 108, 101, 32]⟩) (numB c.cycle) (by (try simp only [ByteArray.size_append]); omega)
  have p5 := addO (⟨#[119, 105, 110, 100, 111, 119, 32]⟩ ++ numB c.closed ++ ⟨#[32]⟩ ++ numB c.opn ++ ⟨#[10, 99, 121, 99, 108, 101, 32]⟩ ++ numB c.cycle) (⟨#[10, 100, 101, 108, 97, 121, 32]⟩) (by (try simp only [ByteArray.size_append]); omega)
  have p6 := addO (⟨#[119, 105, 110, 100, 111, 119, 32]⟩ ++ numB c.closed ++ ⟨#[32]⟩ ++ numB c.opn ++ ⟨#[10, 99, 121, 99, 108, 101, 32]⟩ ++ numB c.cycle ++ ⟨#[10, 100, 101, 108, 97, 121, 32]⟩) (numB c.delay) (by (try simp only [ByteArray.size_append]); omega)
  have p7 := addO (⟨#[119, 105, 110, 100, 111, 119, 32]⟩ ++ numB c.closed ++ ⟨#[32]⟩ ++ numB c.opn ++ ⟨#[10, 99, 121, 99, 108, 101, 32]⟩ ++ numB c.cycle ++ ⟨#[10, 100, 101, 108, 97, 121, 32]⟩ ++ numB c.delay) (⟨#[10]⟩) (by (try simp only [ByteArray.size_append]); omega)
  clear z0 z1 z2 z3 lz0 lz1 lz2 lz3 lz4 lz5 lz6 lz7 lz8 lz9 lz10 lz11
  clear hE hS h0
  go_enter Tryz.func12, Tryz.ntmps12
  go_upto_region 1 with fail
  rw [← hW]
  clear hW
  have HDec : Hid (∀ (n : Int) V, Below W.heap.size W V → InR n → Calls Tryz.prog 29 #[.int .i64 n] V fun e w' => e = .returned (.string (numB n)) ∧ Below W.heap.size W w') := fun n V hV hn => dec_rel W n V hV hn
  have HK : Hid (∀ V, Below W.heap.size W V → V.cell? ⟨w.heap.size, 0, none⟩ = some (.int .i64 c.closed) ∧ V.cell? ⟨w.heap.size, 1, none⟩ = some (.int .i64 c.opn) ∧ V.cell? ⟨w.heap.size, 2, none⟩ = some (.int .i64 c.cycle) ∧ V.cell? ⟨w.heap.size, 3, none⟩ = some (.int .i64 c.delay)) := fun V hV => ⟨HX.out V hV 0 _ rfl, HX.out V hV 1 _ rfl, HX.out V hV 2 _ rfl, HX.out V hV 3 _ rfl⟩
  obtain ⟨s0, s1, s2, s3⟩ := HK.out W (Below.refl _ _)
  go_region_held3 (fun w' => w'.cell? ⟨w.heap.size, 0, none⟩ = some (.int .i64 c.closed) ∧ w'.cell? ⟨w.heap.size, 1, none⟩ = some (.int .i64 c.opn) ∧ w'.cell? ⟨w.heap.size, 2, none⟩ = some (.int .i64 c.cycle) ∧ w'.cell? ⟨w.heap.size, 3, none⟩ = some (.int .i64 c.delay)) (first | exact ⟨s0, s1, s2, s3⟩ | exact HK.out _ hbd | exact HK.out _ (below_drewN hbd _)) (first | (go_at_call 29; refine Calls.mono (HDec.out _ _ ?_ ?_) ?_; (first | exact hbd | exact below_drewN hbd _ | exact below_drewN (Below.refl _ _) _ | exact Below.refl _ _ | exact HBv.out | exact below_drewN HBv.out _); (first | exact r0 | exact r1 | exact r2 | exact r3); rintro v w2 ⟨rfl, hbd⟩))
  all_goals
    have HB2 : Hid (Below W.heap.size W w2) := hbd
    obtain ⟨out0, hout0⟩ : ∃ o : ByteArray, o = ⟨#[119, 105, 110, 100, 111, 119, 32]⟩ ++ numB c.closed ++ ⟨#[32]⟩ ++ numB c.opn ++ ⟨#[10, 99, 121, 99, 108, 101, 32]⟩ ++ numB c.cycle ++ ⟨#[10, 100, 101, 108, 97, 121, 32]⟩ ++ numB c.delay ++ ⟨#[10]⟩ := ⟨_, rfl⟩
    rw [← hout0]
    have HO0 : Hid (bl out0 = tl (headL c)) := by show _ = _; rw [hout0]; exact head_is c
    have HS0 : Hid ((tl (headL c)).length ≤ 1000) := by
      show _ ≤ _
      have h1 : bl out0 = tl (headL c) := HO0.out
      rw [← h1, bl_len, hout0]
      have z0 := numB_size r0
      have z1 := numB_size r1
      have z2 := numB_size r2
      have z3 := numB_size r3
      simp only [ByteArray.size_append, ByteArray.size_mk', List.size_toArray, List.length_cons, List.length_nil]
      omega
    clear hbd hout0 p0 p1 p2 p3 p4 p5 p6 p7 s0 s1 s2 s3 r0 r1 r2 r3 HK HDec
    go_upto_region 2 with fail
    go_cut [4] (fun i wv => i = .int .i64 0 ∧ wv = w2)
    case first =>
      go_wp2_with fail
      go_meet
      case rel => exact ⟨rfl, rfl⟩
    obtain ⟨rfl, rfl⟩ := hcut
    rename World => w2
    go_wp2_with fail
    go_loopw [3, 4, 5, 6, 7, 8, 9, 10, 11] (fun ov iv _ _ _ _ _ _ _ wr => ∃ (k : Nat) (out : ByteArray), k ≤ c.ents.length ∧ iv = .int .i64 k ∧ ov = .string out ∧ Below W.heap.size W wr ∧ bl out = tl (headL c) ++ tl ((c.ents.take k).flatMap entLines)) (fun _ iv _ _ _ _ _ _ _ _ => c.ents.length - (intOf iv).toNat)
    case atStart => exact ⟨0, out0, Nat.zero_le _, rfl, rfl, HB2.out, by rw [HO0.out]; simp [tl]⟩
    case round =>
      clear HB2 HO0
      obtain ⟨k, out, hk, rfl, rfl, hbr, ho⟩ := hrel
      have HR : Hid (Below W.heap.size W wr) := hbr
      have HO : Hid (bl out = tl (headL c) ++ tl ((c.ents.take k).flatMap entLines)) := ho
      have HOs : Hid (out.size ≤ 400001000) := by
        show _ ≤ _
        have h1 := HLn.out
        have h2 := HS0.out
        have h3 : tl (c.ents.flatMap entLines) = tl ((c.ents.take k).flatMap entLines) ++ tl ((c.ents.drop k).flatMap entLines) := by rw [← tl_app, ← List.flatMap_append, List.take_append_drop]
        rw [h3, List.length_append] at h1
        rw [← bl_len, ho, List.length_append]
        omega
      clear hbr ho
      have x4 := HX.out wr HR.out 4 _ rfl
      by_cases hlt : k < c.ents.length
      · have k1 : (k : Int) < (c.ents.length : Int) := by omega
        have k2 : k < 1000000 := by have := HSm.out.hn; omega
        as_aux_lemma =>
          obtain ⟨e, he⟩ : ∃ e, c.ents[k]? = some e := ⟨_, List.getElem?_eq_getElem hlt⟩
          have HTk : Hid (tl ((c.ents.take (k + 1)).flatMap entLines) = tl ((c.ents.take k).flatMap entLines) ++ tl (entLines e)) := by show _ = _; rw [List.take_add_one, he, List.flatMap_append, tl_app]; simp
          have HOe : Hid (OkE e ∧ SizeE e) := ⟨HOk.out.ents e (List.mem_of_getElem? he), HSz.out e (List.mem_of_getElem? he)⟩
          obtain ⟨sa', cap', hsl, hcc⟩ := HEn.out wr HR.out
          cases hsl
          obtain ⟨g, o, rfl, hc0⟩ := hcc (fun h => by rw [h] at he; simp at he)
          obtain ⟨pv, gv, ev, fv, lv, hP, hcell⟩ := hc0 k e he
          obtain ⟨pa, pc, rfl, -⟩ := id hP.hp
          obtain ⟨ga, gc, rfl, -⟩ := id hP.hg
          obtain ⟨ea, ec, rfl, -⟩ := id hP.he
          obtain ⟨fa, fc, rfl, -⟩ := id hP.hf
          obtain ⟨la, lc, rfl, -⟩ := id hP.hl
          have z0 : wr.cell? ⟨g, o + k * 10, none⟩ = some (.string e.name) := by have := hcell 0 (.string e.name) rfl; simpa using this
          have z1 : wr.cell? ⟨g, o + k * 10 + 1, none⟩ = some (.int .i64 e.tol) := by have := hcell 1 (.int .i64 e.tol) rfl; simpa using this
          have z2 : wr.cell? ⟨g, o + k * 10 + 2, none⟩ = some (.slice pa e.pts.length pc) := by have := hcell 2 (.slice pa e.pts.length pc) rfl; simpa using this
          have z3 : wr.cell? ⟨g, o + k * 10 + 3, none⟩ = some (.int .i64 e.cnt) := by have := hcell 3 (.int .i64 e.cnt) rfl; simpa using this
          have z4 : wr.cell? ⟨g, o + k * 10 + 4, none⟩ = some (.int .i64 e.mn) := by have := hcell 4 (.int .i64 e.mn) rfl; simpa using this
          have z5 : wr.cell? ⟨g, o + k * 10 + 5, none⟩ = some (.int .i64 e.mx) := by have := hcell 5 (.int .i64 e.mx) rfl; simpa using this
          have z6 : wr.cell? ⟨g, o + k * 10 + 6, none⟩ = some (.slice ga e.gaps.length gc) := by have := hcell 6 (.slice ga e.gaps.length gc) rfl; simpa using this
          have z7 : wr.cell? ⟨g, o + k * 10 + 7, none⟩ = some (.slice ea e.edges.length ec) := by have := hcell 7 (.slice ea e.edges.length ec) rfl; simpa using this
          have z8 : wr.cell? ⟨g, o + k * 10 + 8, none⟩ = some (.slice fa e.first.length fc) := by have := hcell 8 (.slice fa e.first.length fc) rfl; simpa using this
          have z9 : wr.cell? ⟨g, o + k * 10 + 9, none⟩ = some (.slice la e.last.length lc) := by have := hcell 9 (.slice la e.last.length lc) rfl; simpa using this
          obtain ⟨V, hV⟩ : ∃ V, V = wr.alloc (.cells #[.string e.name, .int .i64 e.tol, .slice pa e.pts.length pc, .int .i64 e.cnt, .int .i64 e.mn, .int .i64 e.mx, .slice ga e.gaps.length gc, .slice ea e.edges.length ec, .slice fa e.first.length fc, .slice la e.last.length lc] 52) := ⟨_, rfl⟩
          have HVb : Hid (Below wr.heap.size wr V) := by show Below _ _ _; rw [hV]; exact Below.one _ _
          have HVW : Hid (∀ X, Below V.heap.size V X → Below W.heap.size W X) := fun X hX => HR.out.trans ((HVb.out.trans (hX.mono HVb.out.size)).mono HR.out.size)
          have HXe : Hid (∀ X, Below V.heap.size V X → ∀ (j : Nat) u, (#[.string e.name, .int .i64 e.tol, .slice pa e.pts.length pc, .int .i64 e.cnt, .int .i64 e.mn, .int .i64 e.mx, .slice ga e.gaps.length gc, .slice ea e.edges.length ec, .slice fa e.first.length fc, .slice la e.last.length lc] : Array Value)[j]? = some u → X.cell? ⟨wr.heap.size, j, none⟩ = some u) := fun X hX j u hu => by
            have := row_below hX (show V.heap[wr.heap.size]? = _ by rw [hV]; exact heap_alloc_new wr _)
            simp [World.cell?, this, hu]
          have HP : Hid (∀ X, Below V.heap.size V X → EntParts X e (.slice pa e.pts.length pc) (.slice ga e.gaps.length gc) (.slice ea e.edges.length ec) (.slice fa e.first.length fc) (.slice la e.last.length lc)) := fun X hX => hP.below (HVb.out.trans (hX.mono HVb.out.size))
          have HDec : Hid (∀ (n : Int) X, Below V.heap.size V X → InR n → Calls Tryz.prog 29 #[.int .i64 n] X fun e w' => e = .returned (.string (numB n)) ∧ Below V.heap.size V w') := fun n X hX hn => dec_rel V n X hX hn
          clear hP hcell hc0 hcc he
          go_upto_region 6 with fail
          rw [← hV]
          clear hV x4 z0 z1 z2 z3 z4 z5 z6 z7 z8 z9
          have r0 : InR e.tol := by have := HOe.out.1.tol; unfold InR; omega
          have q0 := numB_size r0
          have q1 := name_size HOe.out.1.name
          have q2 := HOs.out
          have lz0 : (⟨#[119, 105, 110, 100, 111, 119, 32]⟩ : ByteArray).size = 7 := rfl
          have lz1 : (⟨#[32]⟩ : ByteArray).size = 1 := rfl
          have lz2 : (⟨#[10, 99, 121, 99, 108, 101, 32]⟩ : ByteArray).size = 7 := rfl
          have lz3 : (⟨#[10, 100, 101, 108, 97, 121, 32]⟩ : ByteArray).size = 7 := rfl
          have lz4 : (⟨#[10]⟩ : ByteArray).size = 1 := rfl
          have lz5 : (⟨#[101, 110, 116, 105, 116, 121, 32]⟩ : ByteArray).size = 7 := rfl
          have lz6 : (⟨#[112, 111, 105, 110, 116, 32]⟩ : ByteArray).size = 6 := rfl
          have lz7 : (⟨#[99, 111, 117, 110, 116, 32]⟩ : ByteArray).size = 6 := rfl
          have lz8 : (⟨#[103, 97, 112, 32]⟩ : ByteArray).size = 4 := rfl
          have lz9 : (⟨#[101, 100, 103, 101, 32]⟩ : ByteArray).size = 5 := rfl
          have lz10 : (⟨#[102, 105, 114, 115, 116, 32]⟩ : ByteArray).size = 6 := rfl
          have lz11 : (⟨#[108, 97, 115, 116, 32]⟩ : ByteArray).size = 5 := rfl
          have p0 := addO (out) (⟨#[101, 110, 116, 105, 116, 121, 32]⟩) (by (try simp only [ByteArray.size_append]); omega)
          have p1 := addO (out ++ ⟨#[101, 110, 116, 105, 116, 121, 32]⟩) (e.name) (by (try simp only [ByteArray.size_append]); omega)
          have p2 := addO (out ++ ⟨#[101, 110, 116, 105, 116, 121, 32]⟩ ++ e.name) (⟨#[32]⟩) (by (try simp only [ByteArray.size_append]); omega)
          have p3 := addO (out ++ ⟨#[101, 110, 116, 105, 116, 121, 32]⟩ ++ e.name ++ ⟨#[32]⟩) (numB e.tol) (by (try simp only [ByteArray.size_append]); omega)
          have p4 := addO (out ++ ⟨#[101, 110, 116, 105, 116, 121, 32]⟩ ++ e.name ++ ⟨#[32]⟩ ++ numB e.tol) (⟨#[10]⟩) (by (try simp only [ByteArray.size_append]); omega)
          clear q0 q1 q2 lz0 lz1 lz2 lz3 lz4 lz5 lz6 lz7 lz8 lz9 lz10 lz11
          have HK : Hid (∀ X, Below V.heap.size V X → X.cell? ⟨wr.heap.size, 0, none⟩ = some (.string e.name) ∧ X.cell? ⟨wr.heap.size, 1, none⟩ = some (.int .i64 e.tol)) := fun X hX => ⟨HXe.out X hX 0 _ rfl, HXe.out X hX 1 _ rfl⟩
          obtain ⟨s0, s1⟩ := HK.out V (Below.refl _ _)
          go_region_held3 (fun w' => w'.cell? ⟨wr.heap.size, 0, none⟩ = some (.string e.name) ∧ w'.cell? ⟨wr.heap.size, 1, none⟩ = some (.int .i64 e.tol)) (first | exact ⟨s0, s1⟩ | exact HK.out _ hbd | exact HK.out _ (below_drewN hbd _)) (first | (go_at_call 29; refine Calls.mono (HDec.out _ _ ?_ ?_) ?_; (first | exact hbd | exact below_drewN hbd _ | exact below_drewN (Below.refl _ _) _ | exact Below.refl _ _ | exact HBv.out | exact below_drewN HBv.out _); (first | exact r0); rintro v w2 ⟨rfl, hbd⟩))
          all_goals
            as_aux_lemma =>
              have HBv : Hid (Below V.heap.size V w2) := hbd
              obtain ⟨o1, ho1⟩ : ∃ o1 : ByteArray, o1 = out ++ ⟨#[101, 110, 116, 105, 116, 121, 32]⟩ ++ e.name ++ ⟨#[32]⟩ ++ numB e.tol ++ ⟨#[10]⟩ := ⟨_, rfl⟩
              rw [← ho1]
              have HO1 : Hid (bl o1 = bl out ++ tl [kwLine 3 [bl e.name, num e.tol]]) := by
                show _ = _
                rw [ho1]
                simp only [bl_app, bl_numB]
                simp [bl, tl, kwLine, kw]
              have HS1 : Hid (o1.size ≤ 400002000) := by
                show _ ≤ _
                rw [ho1]
                have q0 := numB_size r0
                have q1 := name_size HOe.out.1.name
                have q2 := HOs.out
                simp only [ByteArray.size_append, ByteArray.size_mk', List.size_toArray, List.length_cons, List.length_nil]
                omega
              clear hbd ho1 p0 p1 p2 p3 p4 s0 s1 r0 HK
              rename World => wv0
              go_upto_region 7 with fail
              go_cut [6] (fun i wv => i = .int .i64 0 ∧ wv = wv0)
              case first =>
                go_wp2_with fail
                go_meet
                case rel => exact ⟨rfl, rfl⟩
              obtain ⟨rfl, rfl⟩ := hcut
              rename World => wv0
              go_wp2_with fail
              go_loopw [3, 6] (fun ov iv  wx => ∃ (j : Nat) (oP : ByteArray), j ≤ e.pts.length ∧ iv = .int .i64 j ∧ ov = .string oP ∧ Below V.heap.size V wx ∧ bl oP = bl o1 ++ tl ((e.pts.take j).map (fun p => kwLine 4 [bl p])) ∧ oP.size ≤ 400002000 + 200 * j) (fun _ iv  _ => e.pts.length - (intOf iv).toNat)
              case atStart => exact ⟨0, o1, Nat.zero_le _, rfl, rfl, HBv.out, by simp [tl], by have := HS1.out; omega⟩
              case round =>
                clear HBv
                obtain ⟨j, oP, hj, rfl, rfl, hbx, ho2, hs2⟩ := hrel
                rename World => wv0
                have HBv : Hid (Below V.heap.size V wv0) := hbx
                have HO2 : Hid (bl oP = bl o1 ++ tl ((e.pts.take j).map (fun p => kwLine 4 [bl p]))) := ho2
                have HS2 : Hid (oP.size ≤ 400002000 + 200 * j) := hs2
                clear hbx ho2 hs2
                have HLj : Hid (e.pts.length ≤ 64) := by show _ ≤ _; have := HOe.out.2.pts; omega
                have x2 := HXe.out wv0 HBv.out 2 _ rfl
                by_cases hjl : j < e.pts.length
                · have j1 : (j : Int) < (e.pts.length : Int) := by omega
                  have j2 : j < 100 := by have := HLj.out; omega
                  as_aux_lemma =>
                    obtain ⟨q, hq⟩ : ∃ q, e.pts[j]? = some q := ⟨_, List.getElem?_eq_getElem hjl⟩
                    have HQ : Hid (e.pts[j]? = some q) := hq
                    obtain ⟨g2, o3, rfl, hc⟩ := slatS_cell (HP.out wv0 HBv.out).hp hq
                    have c0 := hc j q hq
                    clear hc hq
                    have q1 := name_size (HOe.out.1.pn q (List.mem_of_getElem? HQ.out))
                    have q9 := HS2.out
                    have lz0 : (⟨#[119, 105, 110, 100, 111, 119, 32]⟩ : ByteArray).size = 7 := rfl
                    have lz1 : (⟨#[32]⟩ : ByteArray).size = 1 := rfl
                    have lz2 : (⟨#[10, 99, 121, 99, 108, 101, 32]⟩ : ByteArray).size = 7 := rfl
                    have lz3 : (⟨#[10, 100, 101, 108, 97, 121, 32]⟩ : ByteArray).size = 7 := rfl
                    have lz4 : (⟨#[10]⟩ : ByteArray).size = 1 := rfl
                    have lz5 : (⟨#[101, 110, 116, 105, 116, 121, 32]⟩ : ByteArray).size = 7 := rfl
                    have lz6 : (⟨#[112, 111, 105, 110, 116, 32]⟩ : ByteArray).size = 6 := rfl
                    have lz7 : (⟨#[99, 111, 117, 110, 116, 32]⟩ : ByteArray).size = 6 := rfl
                    have lz8 : (⟨#[103, 97, 112, 32]⟩ : ByteArray).size = 4 := rfl
                    have lz9 : (⟨#[101, 100, 103, 101, 32]⟩ : ByteArray).size = 5 := rfl
                    have lz10 : (⟨#[102, 105, 114, 115, 116, 32]⟩ : ByteArray).size = 6 := rfl
                    have lz11 : (⟨#[108, 97, 115, 116, 32]⟩ : ByteArray).size = 5 := rfl
                    have p0 := addO (oP) (⟨#[112, 111, 105, 110, 116, 32]⟩) (by (try simp only [ByteArray.size_append]); omega)
                    have p1 := addO (oP ++ ⟨#[112, 111, 105, 110, 116, 32]⟩) (q) (by (try simp only [ByteArray.size_append]); omega)
                    have p2 := addO (oP ++ ⟨#[112, 111, 105, 110, 116, 32]⟩ ++ q) (⟨#[10]⟩) (by (try simp only [ByteArray.size_append]); omega)
                    have HN : Hid (bl (oP ++ ⟨#[112, 111, 105, 110, 116, 32]⟩ ++ q ++ ⟨#[10]⟩) = bl o1 ++ tl ((e.pts.take (j + 1)).map (fun p => kwLine 4 [bl p]))) := by
                      show _ = _
                      rw [List.take_add_one, HQ.out, List.map_append, tl_app, ← List.append_assoc, ← HO2.out]
                      simp only [bl_app]
                      simp [bl, tl, kwLine, kw]
                    have HSn : Hid ((oP ++ ⟨#[112, 111, 105, 110, 116, 32]⟩ ++ q ++ ⟨#[10]⟩).size ≤ 400002000 + 200 * (j + 1)) := by
                      show _ ≤ _
                      simp only [ByteArray.size_append, ByteArray.size_mk', List.size_toArray, List.length_cons, List.length_nil]
                      omega
                    clear q9 lz0 lz1 lz2 lz3 lz4 lz5 lz6 lz7 lz8 lz9 lz10 lz11
                    clear q1
                    go_wp2_with fail
                    go_roundw
                    case rel => exact ⟨j + 1, _, by omega, by go_num, rfl, HBv.out, HN.out, HSn.out⟩
                    case measure => simp [intOf]; omega
                · have j1 : ¬ (j : Int) < (e.pts.length : Int) := by omega
                  as_aux_lemma =>
                    have HOP : Hid (bl oP = bl o1 ++ tl (e.pts.map (fun p => kwLine 4 [bl p]))) := by show _ = _; rw [HO2.out, List.take_of_length_le (by omega)]
                    have HSP : Hid (oP.size ≤ 400020000) := by show _ ≤ _; have := HS2.out; have := HLj.out; omega
                    clear HO2 HS2
                    have x3 := HXe.out wv0 HBv.out 3 _ rfl
                    go_upto_if 73 with fail
                    clear hjl j1 hj HLj x2
                    go_cut [3] (fun ov wv => ∃ oC : ByteArray, ov = .string oC ∧ Below V.heap.size V wv ∧ bl oC = bl oP ++ tl (if e.cnt = -1 then [] else [kwLine 5 [pt e.pts e.cnt, num e.mn, num e.mx]]) ∧ oC.size ≤ 400021000)
                    case first =>
                      as_aux_lemma =>
                        rcases HOe.out.1.cnt with ⟨hc, -⟩ | ⟨hc0, hc1⟩
                        · have d0 : ¬ 0 ≤ e.cnt := by omega
                          have HT : Hid (bl oP = bl oP ++ tl (if e.cnt = -1 then [] else [kwLine 5 [pt e.pts e.cnt, num e.mn, num e.mx]])) := by show _ = _; rw [if_pos hc]; simp [tl]
                          clear hc
                          go_wp2_with fail
                          go_meet
                          case rel => exact ⟨oP, rfl, HBv.out, HT.out, by have := HSP.out; omega⟩
                        · obtain ⟨m, q, hm, hq, hml⟩ := pts_pick hc0 hc1
                          obtain ⟨g2, o3, rfl, hcs⟩ := slatS_cell (HP.out V (Below.refl _ _)).hp hq
                          have HQ : Hid (e.pts[m]? = some q) := hq
                          have HM : Hid (e.cnt = (m : Int)) := hm
                          have r0 : InR e.mn := by have := HOe.out.1.mm; unfold InR; omega
                          have r1 : InR e.mx := by have := HOe.out.1.mm; unfold InR; omega
                          have HK : Hid (∀ X, Below V.heap.size V X → X.cell? ⟨wr.heap.size, 2, none⟩ = some (.slice (some ⟨g2, o3, none⟩) e.pts.length pc) ∧ X.cell? ⟨wr.heap.size, 3, none⟩ = some (.int .i64 (m : Int)) ∧ X.cell? ⟨wr.heap.size, 4, none⟩ = some (.int .i64 e.mn) ∧ X.cell? ⟨wr.heap.size, 5, none⟩ = some (.int .i64 e.mx) ∧ X.cell? ⟨g2, o3 + m, none⟩ = some (.string q)) := fun X hX => ⟨HXe.out X hX 2 _ rfl, by rw [← HM.out]; exact HXe.out X hX 3 _ rfl, HXe.out X hX 4 _ rfl, HXe.out X hX 5 _ rfl, cell_below hX (hcs m q hq)⟩
                          obtain ⟨s0, s1, s2, s3, s4⟩ := HK.out wv0 HBv.out
                          have q1 := name_size (HOe.out.1.pn q (List.mem_of_getElem? HQ.out))
                          have q3 := numB_size r0
                          have q4 := numB_size r1
                          have q9 := HSP.out
                          have lz0 : (⟨#[119, 105, 110, 100, 111, 119, 32]⟩ : ByteArray).size = 7 := rfl
                          have lz1 : (⟨#[32]⟩ : ByteArray).size = 1 := rfl
                          have lz2 : (⟨#[10, 99, 121, 99, 108, 101, 32]⟩ : ByteArray).size = 7 := rfl
                          have lz3 : (⟨#[10, 100, 101, 108, 97, 121, 32]⟩ : ByteArray).size = 7 := rfl
                          have lz4 : (⟨#[10]⟩ : ByteArray).size = 1 := rfl
                          have lz5 : (⟨#[101, 110, 116, 105, 116, 121, 32]⟩ : ByteArray).size = 7 := rfl
                          have lz6 : (⟨#[112, 111, 105, 110, 116, 32]⟩ : ByteArray).size = 6 := rfl
                          have lz7 : (⟨#[99, 111, 117, 110, 116, 32]⟩ : ByteArray).size = 6 := rfl
                          have lz8 : (⟨#[103, 97, 112, 32]⟩ : ByteArray).size = 4 := rfl
                          have lz9 : (⟨#[101, 100, 103, 101, 32]⟩ : ByteArray).size = 5 := rfl
                          have lz10 : (⟨#[102, 105, 114, 115, 116, 32]⟩ : ByteArray).size = 6 := rfl
                          have lz11 : (⟨#[108, 97, 115, 116, 32]⟩ : ByteArray).size = 5 := rfl
                          have p0 := addO (oP) (⟨#[99, 111, 117, 110, 116, 32]⟩) (by (try simp only [ByteArray.size_append]); omega)
                          have p1 := addO (oP ++ ⟨#[99, 111, 117, 110, 116, 32]⟩) (q) (by (try simp only [ByteArray.size_append]); omega)
                          have p2 := addO (oP ++ ⟨#[99, 111, 117, 110, 116, 32]⟩ ++ q) (⟨#[32]⟩) (by (try simp only [ByteArray.size_append]); omega)
                          have p3 := addO (oP ++ ⟨#[99, 111, 117, 110, 116, 32]⟩ ++ q ++ ⟨#[32]⟩) (numB e.mn) (by (try simp only [ByteArray.size_append]); omega)
                          have p4 := addO (oP ++ ⟨#[99, 111, 117, 110, 116, 32]⟩ ++ q ++ ⟨#[32]⟩ ++ numB e.mn) (⟨#[32]⟩) (by (try simp only [ByteArray.size_append]); omega)
                          have p5 := addO (oP ++ ⟨#[99, 111, 117, 110, 116, 32]⟩ ++ q ++ ⟨#[32]⟩ ++ numB e.mn ++ ⟨#[32]⟩) (numB e.mx) (by (try simp only [ByteArray.size_append]); omega)
                          have p6 := addO (oP ++ ⟨#[99, 111, 117, 110, 116, 32]⟩ ++ q ++ ⟨#[32]⟩ ++ numB e.mn ++ ⟨#[32]⟩ ++ numB e.mx) (⟨#[10]⟩) (by (try simp only [ByteArray.size_append]); omega)
                          have HN : Hid (bl (oP ++ ⟨#[99, 111, 117, 110, 116, 32]⟩ ++ q ++ ⟨#[32]⟩ ++ numB e.mn ++ ⟨#[32]⟩ ++ numB e.mx ++ ⟨#[10]⟩) = bl oP ++ tl (if e.cnt = -1 then [] else [kwLine 5 [pt e.pts e.cnt, num e.mn, num e.mx]])) := by
                            show _ = _
                            rw [if_neg (by omega), hm]
                            simp only [bl_app, bl_numB]
                            simp [bl, tl, kwLine, kw, ptD_at HQ.out]
                          have HSn : Hid ((oP ++ ⟨#[99, 111, 117, 110, 116, 32]⟩ ++ q ++ ⟨#[32]⟩ ++ numB e.mn ++ ⟨#[32]⟩ ++ numB e.mx ++ ⟨#[10]⟩).size ≤ 400021000) := by
                            show _ ≤ _
                            simp only [ByteArray.size_append, ByteArray.size_mk', List.size_toArray, List.length_cons, List.length_nil]
                            omega
                          clear q1 q3 q4 q9 lz0 lz1 lz2 lz3 lz4 lz5 lz6 lz7 lz8 lz9 lz10 lz11 hcs hq hc0 hc1 x3 hm
                          have m0 : ¬ (m : Int) < 0 := by omega
                          have d0 : 0 ≤ e.cnt := by have := HM.out; omega
                          go_wp2_with fail
                          go_region_held3 (fun w' => w'.cell? ⟨wr.heap.size, 2, none⟩ = some (.slice (some ⟨g2, o3, none⟩) e.pts.length pc) ∧ w'.cell? ⟨wr.heap.size, 3, none⟩ = some (.int .i64 (m : Int)) ∧ w'.cell? ⟨wr.heap.size, 4, none⟩ = some (.int .i64 e.mn) ∧ w'.cell? ⟨wr.heap.size, 5, none⟩ = some (.int .i64 e.mx) ∧ w'.cell? ⟨g2, o3 + m, none⟩ = some (.string q)) (first | exact ⟨s0, s1, s2, s3, s4⟩ | exact HK.out _ hbd | exact HK.out _ (below_drewN hbd _)) (first | (go_at_call 29; refine Calls.mono (HDec.out _ _ ?_ ?_) ?_; (first | exact hbd | exact below_drewN hbd _ | exact below_drewN (Below.refl _ _) _ | exact Below.refl _ _ | exact HBv.out | exact below_drewN HBv.out _); (first | exact r0 | exact r1); rintro v w2 ⟨rfl, hbd⟩))
                          all_goals
                            go_wp2_with fail
                            go_meet
                            case rel => exact ⟨_, rfl, hbd, HN.out, HSn.out⟩
                    obtain ⟨oC, rfl, hbc, hoc, hsc⟩ := hcut
                    rename World => wv0
                    clear HBv x3
                    have HBv : Hid (Below V.heap.size V wv0) := hbc
                    have HOC : Hid (bl oC = bl oP ++ tl (if e.cnt = -1 then [] else [kwLine 5 [pt e.pts e.cnt, num e.mn, num e.mx]])) := hoc
                    have HSC : Hid (oC.size ≤ 400021000) := hsc
                    clear hbc hoc hsc
                    go_upto_region 13 with fail
                    go_cut [7] (fun i wv => i = .int .i64 0 ∧ wv = wv0)
                    case first =>
                      go_wp2_with fail
                      go_meet
                      case rel => exact ⟨rfl, rfl⟩
                    obtain ⟨rfl, rfl⟩ := hcut
                    rename World => wv0
                    go_wp2_with fail
                    go_loopw [3, 7, 8] (fun ov iv _ wx => ∃ (j : Nat) (oG : ByteArray), j ≤ e.gaps.length ∧ iv = .int .i64 j ∧ ov = .string oG ∧ Below V.heap.size V wx ∧ bl oG = bl oC ++ tl ((e.gaps.take j).map (fun g => kwLine 6 [pt e.pts g.fr, pt e.pts g.to, num g.mn, num g.mx])) ∧ oG.size ≤ 400021000 + 600 * j) (fun _ iv _ _ => e.gaps.length - (intOf iv).toNat)
                    case atStart => exact ⟨0, oC, Nat.zero_le _, rfl, rfl, HBv.out, by simp [tl], by have := HSC.out; omega⟩
                    case round =>
                      clear HBv
                      obtain ⟨j, oG, hj, rfl, rfl, hbx, ho2, hs2⟩ := hrel
                      rename World => wv0
                      have HBv : Hid (Below V.heap.size V wv0) := hbx
                      have HO2 : Hid (bl oG = bl oC ++ tl ((e.gaps.take j).map (fun g => kwLine 6 [pt e.pts g.fr, pt e.pts g.to, num g.mn, num g.mx]))) := ho2
                      have HS2 : Hid (oG.size ≤ 400021000 + 600 * j) := hs2
                      clear hbx ho2 hs2
                      have HLj : Hid (e.gaps.length ≤ 64) := by show _ ≤ _; have := HOe.out.2.gaps; omega
                      have x6 := HXe.out wv0 HBv.out 6 _ rfl
                      by_cases hjl : j < e.gaps.length
                      · have j1 : (j : Int) < (e.gaps.length : Int) := by omega
                        have j2 : j < 100 := by have := HLj.out; omega
                        as_aux_lemma =>
                          obtain ⟨q, hq⟩ : ∃ q, e.gaps[j]? = some q := ⟨_, List.getElem?_eq_getElem hjl⟩
                          have HQ : Hid (e.gaps[j]? = some q) := hq
                          obtain ⟨m1, u1, e1, hp1, l1⟩ := pts_pick (HOe.out.1.gaps q (List.mem_of_getElem? hq)).1.1 (HOe.out.1.gaps q (List.mem_of_getElem? hq)).1.2
                          obtain ⟨m2, u2, e2, hp2, l2⟩ := pts_pick (HOe.out.1.gaps q (List.mem_of_getElem? hq)).2.1.1 (HOe.out.1.gaps q (List.mem_of_getElem? hq)).2.1.2
                          obtain ⟨g2, o3, rfl, hcs⟩ := slatS_cell (HP.out V (Below.refl _ _)).hp hp1
                          have HP1 : Hid (e.pts[m1]? = some u1 ∧ e.pts[m2]? = some u2) := ⟨hp1, hp2⟩
                          have r2 : InR q.mn := by have := (HOe.out.1.gaps q (List.mem_of_getElem? hq)).2.2; unfold InR; omega
                          have r3 : InR q.mx := by have := (HOe.out.1.gaps q (List.mem_of_getElem? hq)).2.2; unfold InR; omega
                          obtain ⟨q1, q2, q3, q4⟩ := q
                          simp only at e1 e2 r2 r3
                          subst e1 e2
                          obtain ⟨sa', cap', hsl, -, hcc⟩ := (HP.out wv0 HBv.out).hg
                          cases hsl
                          obtain ⟨g3, o4, rfl, hc0⟩ := hcc (fun h => by rw [h] at hq; simp at hq)
                          have c0 : wv0.cell? ⟨g3, o4 + j * 4, none⟩ = some (.int .i64 (m1 : Int)) := hc0 j _ hq 0 _ rfl
                          have c1 : wv0.cell? ⟨g3, o4 + j * 4 + 1, none⟩ = some (.int .i64 (m2 : Int)) := hc0 j _ hq 1 _ rfl
                          have c2 : wv0.cell? ⟨g3, o4 + j * 4 + 2, none⟩ = some (.int .i64 q3) := hc0 j _ hq 2 _ rfl
                          have c3 : wv0.cell? ⟨g3, o4 + j * 4 + 3, none⟩ = some (.int .i64 q4) := hc0 j _ hq 3 _ rfl
                          have HPc : Hid (∀ X, Below V.heap.size V X → X.cell? ⟨g2, o3 + m1, none⟩ = some (.string u1) ∧ X.cell? ⟨g2, o3 + m2, none⟩ = some (.string u2)) := fun X hX => ⟨cell_below hX (hcs m1 u1 hp1), cell_below hX (hcs m2 u2 hp2)⟩
                          clear hcc hc0 hq hp1 hp2 hcs
                          have s1 := name_size (HOe.out.1.pn u1 (List.mem_of_getElem? HP1.out.1))
                          have s2 := name_size (HOe.out.1.pn u2 (List.mem_of_getElem? HP1.out.2))
                          have s3 := numB_size r2
                          have s4 := numB_size r3
                          have q9 := HS2.out
                          have lz0 : (⟨#[119, 105, 110, 100, 111, 119, 32]⟩ : ByteArray).size = 7 := rfl
                          have lz1 : (⟨#[32]⟩ : ByteArray).size = 1 := rfl
                          have lz2 : (⟨#[10, 99, 121, 99, 108, 101, 32]⟩ : ByteArray).size = 7 := rfl
                          have lz3 : (⟨#[10, 100, 101, 108, 97, 121, 32]⟩ : ByteArray).size = 7 := rfl
                          have lz4 : (⟨#[10]⟩ : ByteArray).size = 1 := rfl
                          have lz5 : (⟨#[101, 110, 116, 105, 116, 121, 32]⟩ : ByteArray).size = 7 := rfl
                          have lz6 : (⟨#[112, 111, 105, 110, 116, 32]⟩ : ByteArray).size = 6 := rfl
                          have lz7 : (⟨#[99, 111, 117, 110, 116, 32]⟩ : ByteArray).size = 6 := rfl
                          have lz8 : (⟨#[103, 97, 112, 32]⟩ : ByteArray).size = 4 := rfl
                          have lz9 : (⟨#[101, 100, 103, 101, 32]⟩ : ByteArray).size = 5 := rfl
                          have lz10 : (⟨#[102, 105, 114, 115, 116, 32]⟩ : ByteArray).size = 6 := rfl
                          have lz11 : (⟨#[108, 97, 115, 116, 32]⟩ : ByteArray).size = 5 := rfl
                          have p0 := addO (oG) (⟨#[103, 97, 112, 32]⟩) (by (try simp only [ByteArray.size_append]); omega)
                          have p1 := addO (oG ++ ⟨#[103, 97, 112, 32]⟩) (u1) (by (try simp only [ByteArray.size_append]); omega)
                          have p2 := addO (oG ++ ⟨#[103, 97, 112, 32]⟩ ++ u1) (⟨#[32]⟩) (by (try simp only [ByteArray.size_append]); omega)
                          have p3 := addO (oG ++ ⟨#[103, 97, 112, 32]⟩ ++ u1 ++ ⟨#[32]⟩) (u2) (by (try simp only [ByteArray.size_append]); omega)
                          have p4 := addO (oG ++ ⟨#[103, 97, 112, 32]⟩ ++ u1 ++ ⟨#[32]⟩ ++ u2) (⟨#[32]⟩) (by (try simp only [ByteArray.size_append]); omega)
                          have p5 := addO (oG ++ ⟨#[103, 97, 112, 32]⟩ ++ u1 ++ ⟨#[32]⟩ ++ u2 ++ ⟨#[32]⟩) (numB q3) (by (try simp only [ByteArray.size_append]); omega)
                          have p6 := addO (oG ++ ⟨#[103, 97, 112, 32]⟩ ++ u1 ++ ⟨#[32]⟩ ++ u2 ++ ⟨#[32]⟩ ++ numB q3) (⟨#[32]⟩) (by (try simp only [ByteArray.size_append]); omega)
                          have p7 := addO (oG ++ ⟨#[103, 97, 112, 32]⟩ ++ u1 ++ ⟨#[32]⟩ ++ u2 ++ ⟨#[32]⟩ ++ numB q3 ++ ⟨#[32]⟩) (numB q4) (by (try simp only [ByteArray.size_append]); omega)
                          have p8 := addO (oG ++ ⟨#[103, 97, 112, 32]⟩ ++ u1 ++ ⟨#[32]⟩ ++ u2 ++ ⟨#[32]⟩ ++ numB q3 ++ ⟨#[32]⟩ ++ numB q4) (⟨#[10]⟩) (by (try simp only [ByteArray.size_append]); omega)
                          have HN : Hid (bl (oG ++ ⟨#[103, 97, 112, 32]⟩ ++ u1 ++ ⟨#[32]⟩ ++ u2 ++ ⟨#[32]⟩ ++ numB q3 ++ ⟨#[32]⟩ ++ numB q4 ++ ⟨#[10]⟩) = bl oC ++ tl ((e.gaps.take (j + 1)).map (fun g => kwLine 6 [pt e.pts g.fr, pt e.pts g.to, num g.mn, num g.mx]))) := by
                            show _ = _
                            rw [List.take_add_one, HQ.out, List.map_append, tl_app, ← List.append_assoc, ← HO2.out]
                            simp only [bl_app]
                            simp only [bl_numB]
                            simp [bl, tl, kwLine, kw, ptD_at HP1.out.1, ptD_at HP1.out.2]
                          have HSn : Hid ((oG ++ ⟨#[103, 97, 112, 32]⟩ ++ u1 ++ ⟨#[32]⟩ ++ u2 ++ ⟨#[32]⟩ ++ numB q3 ++ ⟨#[32]⟩ ++ numB q4 ++ ⟨#[10]⟩).size ≤ 400021000 + 600 * (j + 1)) := by
                            show _ ≤ _
                            simp only [ByteArray.size_append, ByteArray.size_mk', List.size_toArray, List.length_cons, List.length_nil]
                            omega
                          clear q9 lz0 lz1 lz2 lz3 lz4 lz5 lz6 lz7 lz8 lz9 lz10 lz11
                          clear s1 s2 s3 s4
                          go_upto_region 17 with fail
                          obtain ⟨Y, hY⟩ : ∃ Y, Y = wv0.alloc (.cells #[.int .i64 (m1 : Int), .int .i64 (m2 : Int), .int .i64 q3, .int .i64 q4] 78) := ⟨_, rfl⟩
                          rw [← hY]
                          have HYb : Hid (Below wv0.heap.size wv0 Y) := by show Below _ _ _; rw [hY]; exact Below.one _ _
                          have HYr : Hid (Y.heap[wv0.heap.size]? = some (.cells #[.int .i64 (m1 : Int), .int .i64 (m2 : Int), .int .i64 q3, .int .i64 q4] 78 (0, 0))) := by show _ = _; rw [hY]; exact heap_alloc_new wv0 _
                          have HYV : Hid (∀ X, Below Y.heap.size Y X → Below V.heap.size V X) := fun X hX => HBv.out.trans ((HYb.out.trans (hX.mono HYb.out.size)).mono HBv.out.size)
                          clear hY c0 c1 c2 c3 x6
                          have HDec : Hid (∀ (n : Int) X, Below Y.heap.size Y X → InR n → Calls Tryz.prog 29 #[.int .i64 n] X fun e w' => e = .returned (.string (numB n)) ∧ Below Y.heap.size Y w') := fun n X hX hn => dec_rel Y n X hX hn
                          have HK : Hid (∀ X, Below Y.heap.size Y X → X.cell? ⟨wr.heap.size, 2, none⟩ = some (.slice (some ⟨g2, o3, none⟩) e.pts.length pc) ∧ X.cell? ⟨wv0.heap.size, 0, none⟩ = some (.int .i64 (m1 : Int)) ∧ X.cell? ⟨wv0.heap.size, 1, none⟩ = some (.int .i64 (m2 : Int)) ∧ X.cell? ⟨wv0.heap.size, 2, none⟩ = some (.int .i64 q3) ∧ X.cell? ⟨wv0.heap.size, 3, none⟩ = some (.int .i64 q4) ∧ X.cell? ⟨g2, o3 + m1, none⟩ = some (.string u1) ∧ X.cell? ⟨g2, o3 + m2, none⟩ = some (.string u2)) := fun X hX => by
                            have h1 := row_below hX HYr.out
                            have h2 := HPc.out X (HYV.out X hX)
                            exact ⟨HXe.out X (HYV.out X hX) 2 _ rfl, by simp [World.cell?, h1], by simp [World.cell?, h1], by simp [World.cell?, h1], by simp [World.cell?, h1], h2.1, h2.2⟩
                          obtain ⟨s0, s1, s2, s3, s4, s5, s6⟩ := HK.out Y (Below.refl _ _)
                          have m0 : ¬ (m1 : Int) < 0 := by omega
                          have m3 : ¬ (m2 : Int) < 0 := by omega
                          go_region_held3 (fun w' => w'.cell? ⟨wr.heap.size, 2, none⟩ = some (.slice (some ⟨g2, o3, none⟩) e.pts.length pc) ∧ w'.cell? ⟨wv0.heap.size, 0, none⟩ = some (.int .i64 (m1 : Int)) ∧ w'.cell? ⟨wv0.heap.size, 1, none⟩ = some (.int .i64 (m2 : Int)) ∧ w'.cell? ⟨wv0.heap.size, 2, none⟩ = some (.int .i64 q3) ∧ w'.cell? ⟨wv0.heap.size, 3, none⟩ = some (.int .i64 q4) ∧ w'.cell? ⟨g2, o3 + m1, none⟩ = some (.string u1) ∧ w'.cell? ⟨g2, o3 + m2, none⟩ = some (.string u2)) (first | exact ⟨s0, s1, s2, s3, s4, s5, s6⟩ | exact HK.out _ hbd | exact HK.out _ (below_drewN hbd _)) (first | (go_at_call 29; refine Calls.mono (HDec.out _ _ ?_ ?_) ?_; (first | exact hbd | exact below_drewN hbd _ | exact below_drewN (Below.refl _ _) _ | exact Below.refl _ _ | exact HBv.out | exact below_drewN HBv.out _); (first | exact r2 | exact r3); rintro v w2 ⟨rfl, hbd⟩))
                          all_goals
                            have HB9 : Hid (Below V.heap.size V w2) := HYV.out _ hbd
                            clear hbd s0 s1 s2 s3 s4 s5 s6
                            go_wp2_with fail
                            go_roundw
                            case rel => exact ⟨j + 1, _, by omega, by go_num, rfl, HB9.out, HN.out, HSn.out⟩
                            case measure => simp [intOf]; omega
                      · have j1 : ¬ (j : Int) < (e.gaps.length : Int) := by omega
                        as_aux_lemma =>
                          have HOG : Hid (bl oG = bl oC ++ tl (e.gaps.map (fun g => kwLine 6 [pt e.pts g.fr, pt e.pts g.to, num g.mn, num g.mx]))) := by show _ = _; rw [HO2.out, List.take_of_length_le (by omega)]
                          have HSG : Hid (oG.size ≤ 400060000) := by show _ ≤ _; have := HS2.out; have := HLj.out; omega
                          clear HO2 HS2
                          go_upto_region 18 with fail
                          go_cut [9] (fun i wv => i = .int .i64 0 ∧ wv = wv0)
                          case first =>
                            go_wp2_with fail
                            go_meet
                            case rel => exact ⟨rfl, rfl⟩
                          obtain ⟨rfl, rfl⟩ := hcut
                          rename World => wv0
                          go_wp2_with fail
                          go_loopw [3, 9] (fun ov iv  wx => ∃ (j : Nat) (oE : ByteArray), j ≤ e.edges.length ∧ iv = .int .i64 j ∧ ov = .string oE ∧ Below V.heap.size V wx ∧ bl oE = bl oG ++ tl ((e.edges.take j).map (fun d => kwLine 7 [pt e.pts d.1, pt e.pts d.2])) ∧ oE.size ≤ 400060000 + 400 * j) (fun _ iv  _ => e.edges.length - (intOf iv).toNat)
                          case atStart => exact ⟨0, oG, Nat.zero_le _, rfl, rfl, HBv.out, by simp [tl], by have := HSG.out; omega⟩
                          case round =>
                            clear HBv
                            obtain ⟨j, oE, hj, rfl, rfl, hbx, ho2, hs2⟩ := hrel
                            rename World => wv0
                            have HBv : Hid (Below V.heap.size V wv0) := hbx
                            have HO2 : Hid (bl oE = bl oG ++ tl ((e.edges.take j).map (fun d => kwLine 7 [pt e.pts d.1, pt e.pts d.2]))) := ho2
                            have HS2 : Hid (oE.size ≤ 400060000 + 400 * j) := hs2
                            clear hbx ho2 hs2
                            have HLj : Hid (e.edges.length ≤ 64) := by show _ ≤ _; have := HOe.out.2.edges; omega
                            have x7 := HXe.out wv0 HBv.out 7 _ rfl
                            by_cases hjl : j < e.edges.length
                            · have j1 : (j : Int) < (e.edges.length : Int) := by omega
                              have j2 : j < 100 := by have := HLj.out; omega
                              as_aux_lemma =>
                                obtain ⟨q, hq⟩ : ∃ q, e.edges[j]? = some q := ⟨_, List.getElem?_eq_getElem hjl⟩
                                have HQ : Hid (e.edges[j]? = some q) := hq
                                obtain ⟨m1, u1, e1, hp1, l1⟩ := pts_pick (HOe.out.1.edges q (List.mem_of_getElem? hq)).1.1 (HOe.out.1.edges q (List.mem_of_getElem? hq)).1.2
                                obtain ⟨m2, u2, e2, hp2, l2⟩ := pts_pick (HOe.out.1.edges q (List.mem_of_getElem? hq)).2.1 (HOe.out.1.edges q (List.mem_of_getElem? hq)).2.2
                                obtain ⟨g2, o3, rfl, hcs⟩ := slatS_cell (HP.out V (Below.refl _ _)).hp hp1
                                have HP1 : Hid (e.pts[m1]? = some u1 ∧ e.pts[m2]? = some u2) := ⟨hp1, hp2⟩
                                obtain ⟨q1, q2⟩ := q
                                simp only at e1 e2
                                subst e1 e2
                                obtain ⟨sa', cap', hsl, -, hcc⟩ := (HP.out wv0 HBv.out).he
                                cases hsl
                                obtain ⟨g3, o4, rfl, hc0⟩ := hcc (fun h => by rw [h] at hq; simp at hq)
                                have c0 : wv0.cell? ⟨g3, o4 + j * 2, none⟩ = some (.int .i64 (m1 : Int)) := hc0 j _ hq 0 _ rfl
                                have c1 : wv0.cell? ⟨g3, o4 + j * 2 + 1, none⟩ = some (.int .i64 (m2 : Int)) := hc0 j _ hq 1 _ rfl
                                have c2 := cell_below HBv.out (hcs m1 u1 hp1)
                                have c3 := cell_below HBv.out (hcs m2 u2 hp2)
                                have x2 := HXe.out wv0 HBv.out 2 _ rfl
                                have m0 : ¬ (m1 : Int) < 0 := by omega
                                have m3 : ¬ (m2 : Int) < 0 := by omega
                                clear hcc hc0 hq hp1 hp2 hcs
                                have s1 := name_size (HOe.out.1.pn u1 (List.mem_of_getElem? HP1.out.1))
                                have s2 := name_size (HOe.out.1.pn u2 (List.mem_of_getElem? HP1.out.2))
                                have q9 := HS2.out
                                have lz0 : (⟨#[119, 105, 110, 100, 111, 119, 32]⟩ : ByteArray).size = 7 := rfl
                                have lz1 : (⟨#[32]⟩ : ByteArray).size = 1 := rfl
                                have lz2 : (⟨#[10, 99, 121, 99, 108, 101, 32]⟩ : ByteArray).size = 7 := rfl
                                have lz3 : (⟨#[10, 100, 101, 108, 97, 121, 32]⟩ : ByteArray).size = 7 := rfl
                                have lz4 : (⟨#[10]⟩ : ByteArray).size = 1 := rfl
                                have lz5 : (⟨#[101, 110, 116, 105, 116, 121, 32]⟩ : ByteArray).size = 7 := rfl
                                have lz6 : (⟨#[112, 111, 105, 110, 116, 32]⟩ : ByteArray).size = 6 := rfl
                                have lz7 : (⟨#[99, 111, 117, 110, 116, 32]⟩ : ByteArray).size = 6 := rfl
                                have lz8 : (⟨#[103, 97, 112, 32]⟩ : ByteArray).size = 4 := rfl
                                have lz9 : (⟨#[101, 100, 103, 101, 32]⟩ : ByteArray).size = 5 := rfl
                                have lz10 : (⟨#[102, 105, 114, 115, 116, 32]⟩ : ByteArray).size = 6 := rfl
                                have lz11 : (⟨#[108, 97, 115, 116, 32]⟩ : ByteArray).size = 5 := rfl
                                have p0 := addO (oE) (⟨#[101, 100, 103, 101, 32]⟩) (by (try simp only [ByteArray.size_append]); omega)
                                have p1 := addO (oE ++ ⟨#[101, 100, 103, 101, 32]⟩) (u1) (by (try simp only [ByteArray.size_append]); omega)
                                have p2 := addO (oE ++ ⟨#[101, 100, 103, 101, 32]⟩ ++ u1) (⟨#[32]⟩) (by (try simp only [ByteArray.size_append]); omega)
                                have p3 := addO (oE ++ ⟨#[101, 100, 103, 101, 32]⟩ ++ u1 ++ ⟨#[32]⟩) (u2) (by (try simp only [ByteArray.size_append]); omega)
                                have p4 := addO (oE ++ ⟨#[101, 100, 103, 101, 32]⟩ ++ u1 ++ ⟨#[32]⟩ ++ u2) (⟨#[10]⟩) (by (try simp only [ByteArray.size_append]); omega)
                                have HN : Hid (bl (oE ++ ⟨#[101, 100, 103, 101, 32]⟩ ++ u1 ++ ⟨#[32]⟩ ++ u2 ++ ⟨#[10]⟩) = bl oG ++ tl ((e.edges.take (j + 1)).map (fun d => kwLine 7 [pt e.pts d.1, pt e.pts d.2]))) := by
                                  show _ = _
                                  rw [List.take_add_one, HQ.out, List.map_append, tl_app, ← List.append_assoc, ← HO2.out]
                                  simp only [bl_app]
                                  simp [bl, tl, kwLine, kw, ptD_at HP1.out.1, ptD_at HP1.out.2]
                                have HSn : Hid ((oE ++ ⟨#[101, 100, 103, 101, 32]⟩ ++ u1 ++ ⟨#[32]⟩ ++ u2 ++ ⟨#[10]⟩).size ≤ 400060000 + 400 * (j + 1)) := by
                                  show _ ≤ _
                                  simp only [ByteArray.size_append, ByteArray.size_mk', List.size_toArray, List.length_cons, List.length_nil]
                                  omega
                                clear q9 lz0 lz1 lz2 lz3 lz4 lz5 lz6 lz7 lz8 lz9 lz10 lz11
                                clear s1 s2
                                go_wp2_with fail
                                go_quiet (fail)
                                go_wp2_with fail
                                go_roundw
                                case rel => exact ⟨j + 1, _, by omega, by go_num, rfl, below_drewN HBv.out _, HN.out, HSn.out⟩
                                case measure => simp [intOf]; omega
                            · have j1 : ¬ (j : Int) < (e.edges.length : Int) := by omega
                              as_aux_lemma =>
                                have HOE : Hid (bl oE = bl oG ++ tl (e.edges.map (fun d => kwLine 7 [pt e.pts d.1, pt e.pts d.2]))) := by show _ = _; rw [HO2.out, List.take_of_length_le (by omega)]
                                have HSE : Hid (oE.size ≤ 400100000) := by show _ ≤ _; have := HS2.out; have := HLj.out; omega
                                clear HO2 HS2
                                go_upto_region 22 with fail
                                go_cut [10] (fun i wv => i = .int .i64 0 ∧ wv = wv0)
                                case first =>
                                  go_wp2_with fail
                                  go_meet
                                  case rel => exact ⟨rfl, rfl⟩
                                obtain ⟨rfl, rfl⟩ := hcut
                                rename World => wv0
                                go_wp2_with fail
                                go_loopw [3, 10] (fun ov iv  wx => ∃ (j : Nat) (oF : ByteArray), j ≤ e.first.length ∧ iv = .int .i64 j ∧ ov = .string oF ∧ Below V.heap.size V wx ∧ bl oF = bl oE ++ tl ((e.first.take j).map (fun x => kwLine 8 [pt e.pts x])) ∧ oF.size ≤ 400100000 + 400 * j) (fun _ iv  _ => e.first.length - (intOf iv).toNat)
                                case atStart => exact ⟨0, oE, Nat.zero_le _, rfl, rfl, HBv.out, by simp [tl], by have := HSE.out; omega⟩
                                case round =>
                                  clear HBv
                                  obtain ⟨j, oF, hj, rfl, rfl, hbx, ho2, hs2⟩ := hrel
                                  rename World => wv0
                                  have HBv : Hid (Below V.heap.size V wv0) := hbx
                                  have HO2 : Hid (bl oF = bl oE ++ tl ((e.first.take j).map (fun x => kwLine 8 [pt e.pts x]))) := ho2
                                  have HS2 : Hid (oF.size ≤ 400100000 + 400 * j) := hs2
                                  clear hbx ho2 hs2
                                  have HLj : Hid (e.first.length ≤ 64) := by show _ ≤ _; have := HOe.out.2.first; omega
                                  have x8 := HXe.out wv0 HBv.out 8 _ rfl
                                  by_cases hjl : j < e.first.length
                                  · have j1 : (j : Int) < (e.first.length : Int) := by omega
                                    have j2 : j < 100 := by have := HLj.out; omega
                                    as_aux_lemma =>
                                      obtain ⟨q, hq⟩ : ∃ q, e.first[j]? = some q := ⟨_, List.getElem?_eq_getElem hjl⟩
                                      have HQ : Hid (e.first[j]? = some q) := hq
                                      obtain ⟨m1, u1, e1, hp1, l1⟩ := pts_pick (HOe.out.1.first q (List.mem_of_getElem? hq)).1 (HOe.out.1.first q (List.mem_of_getElem? hq)).2
                                      obtain ⟨g2, o3, rfl, hcs⟩ := slatS_cell (HP.out V (Below.refl _ _)).hp hp1
                                      have HP1 : Hid (e.pts[m1]? = some u1) := hp1
                                      subst e1
                                      obtain ⟨g3, o4, rfl, hc0⟩ := slatI_cell (HP.out wv0 HBv.out).hf hq
                                      have c0 := hc0 j _ hq
                                      have c2 := cell_below HBv.out (hcs m1 u1 hp1)
                                      have x2 := HXe.out wv0 HBv.out 2 _ rfl
                                      have m0 : ¬ (m1 : Int) < 0 := by omega
                                      clear hc0 hq hp1 hcs
                                      have s1 := name_size (HOe.out.1.pn u1 (List.mem_of_getElem? HP1.out))
                                      have q9 := HS2.out
                                      have lz0 : (⟨#[119, 105, 110, 100, 111, 119, 32]⟩ : ByteArray).size = 7 := rfl
                                      have lz1 : (⟨#[32]⟩ : ByteArray).size = 1 := rfl
                                      have lz2 : (⟨#[10, 99, 121, 99, 108, 101, 32]⟩ : ByteArray).size = 7 := rfl
                                      have lz3 : (⟨#[10, 100, 101, 108, 97, 121, 32]⟩ : ByteArray).size = 7 := rfl
                                      have lz4 : (⟨#[10]⟩ : ByteArray).size = 1 := rfl
                                      have lz5 : (⟨#[101, 110, 116, 105, 116, 121, 32]⟩ : ByteArray).size = 7 := rfl
                                      have lz6 : (⟨#[112, 111, 105, 110, 116, 32]⟩ : ByteArray).size = 6 := rfl
                                      have lz7 : (⟨#[99, 111, 117, 110, 116, 32]⟩ : ByteArray).size = 6 := rfl
                                      have lz8 : (⟨#[103, 97, 112, 32]⟩ : ByteArray).size = 4 := rfl
                                      have lz9 : (⟨#[101, 100, 103, 101, 32]⟩ : ByteArray).size = 5 := rfl
                                      have lz10 : (⟨#[102, 105, 114, 115, 116, 32]⟩ : ByteArray).size = 6 := rfl
                                      have lz11 : (⟨#[108, 97, 115, 116, 32]⟩ : ByteArray).size = 5 := rfl
                                      have p0 := addO (oF) (⟨#[102, 105, 114, 115, 116, 32]⟩) (by (try simp only [ByteArray.size_append]); omega)
                                      have p1 := addO (oF ++ ⟨#[102, 105, 114, 115, 116, 32]⟩) (u1) (by (try simp only [ByteArray.size_append]); omega)
                                      have p2 := addO (oF ++ ⟨#[102, 105, 114, 115, 116, 32]⟩ ++ u1) (⟨#[10]⟩) (by (try simp only [ByteArray.size_append]); omega)
                                      have HN : Hid (bl (oF ++ ⟨#[102, 105, 114, 115, 116, 32]⟩ ++ u1 ++ ⟨#[10]⟩) = bl oE ++ tl ((e.first.take (j + 1)).map (fun x => kwLine 8 [pt e.pts x]))) := by
                                        show _ = _
                                        rw [List.take_add_one, HQ.out, List.map_append, tl_app, ← List.append_assoc, ← HO2.out]
                                        simp only [bl_app]
                                        simp [bl, tl, kwLine, kw, ptD_at HP1.out]
                                      have HSn : Hid ((oF ++ ⟨#[102, 105, 114, 115, 116, 32]⟩ ++ u1 ++ ⟨#[10]⟩).size ≤ 400100000 + 400 * (j + 1)) := by
                                        show _ ≤ _
                                        simp only [ByteArray.size_append, ByteArray.size_mk', List.size_toArray, List.length_cons, List.length_nil]
                                        omega
                                      clear q9 lz0 lz1 lz2 lz3 lz4 lz5 lz6 lz7 lz8 lz9 lz10 lz11
                                      clear s1
                                      go_wp2_with fail
                                      go_quiet (fail)
                                      go_wp2_with fail
                                      go_roundw
                                      case rel => exact ⟨j + 1, _, by omega, by go_num, rfl, below_drewN HBv.out _, HN.out, HSn.out⟩
                                      case measure => simp [intOf]; omega
                                  · have j1 : ¬ (j : Int) < (e.first.length : Int) := by omega
                                    as_aux_lemma =>
                                      have HOF : Hid (bl oF = bl oE ++ tl (e.first.map (fun x => kwLine 8 [pt e.pts x]))) := by show _ = _; rw [HO2.out, List.take_of_length_le (by omega)]
                                      have HSF : Hid (oF.size ≤ 400140000) := by show _ ≤ _; have := HS2.out; have := HLj.out; omega
                                      clear HO2 HS2
                                      go_upto_region 26 with fail
                                      go_cut [11] (fun i wv => i = .int .i64 0 ∧ wv = wv0)
                                      case first =>
                                        go_wp2_with fail
                                        go_meet
                                        case rel => exact ⟨rfl, rfl⟩
                                      obtain ⟨rfl, rfl⟩ := hcut
                                      rename World => wv0
                                      go_wp2_with fail
                                      go_loopw [3, 11] (fun ov iv  wx => ∃ (j : Nat) (oL : ByteArray), j ≤ e.last.length ∧ iv = .int .i64 j ∧ ov = .string oL ∧ Below V.heap.size V wx ∧ bl oL = bl oF ++ tl ((e.last.take j).map (fun x => kwLine 9 [pt e.pts x])) ∧ oL.size ≤ 400140000 + 400 * j) (fun _ iv  _ => e.last.length - (intOf iv).toNat)
                                      case atStart => exact ⟨0, oF, Nat.zero_le _, rfl, rfl, HBv.out, by simp [tl], by have := HSF.out; omega⟩
                                      case round =>
                                        clear HBv
                                        obtain ⟨j, oL, hj, rfl, rfl, hbx, ho2, hs2⟩ := hrel
                                        rename World => wv0
                                        have HBv : Hid (Below V.heap.size V wv0) := hbx
                                        have HO2 : Hid (bl oL = bl oF ++ tl ((e.last.take j).map (fun x => kwLine 9 [pt e.pts x]))) := ho2
                                        have HS2 : Hid (oL.size ≤ 400140000 + 400 * j) := hs2
                                        clear hbx ho2 hs2
                                        have HLj : Hid (e.last.length ≤ 64) := by show _ ≤ _; have := HOe.out.2.last; omega
                                        have x9 := HXe.out wv0 HBv.out 9 _ rfl
                                        by_cases hjl : j < e.last.length
                                        · have j1 : (j : Int) < (e.last.length : Int) := by omega
                                          have j2 : j < 100 := by have := HLj.out; omega
                                          as_aux_lemma =>
                                            obtain ⟨q, hq⟩ : ∃ q, e.last[j]? = some q := ⟨_, List.getElem?_eq_getElem hjl⟩
                                            have HQ : Hid (e.last[j]? = some q) := hq
                                            obtain ⟨m1, u1, e1, hp1, l1⟩ := pts_pick (HOe.out.1.last q (List.mem_of_getElem? hq)).1 (HOe.out.1.last q (List.mem_of_getElem? hq)).2
                                            obtain ⟨g2, o3, rfl, hcs⟩ := slatS_cell (HP.out V (Below.refl _ _)).hp hp1
                                            have HP1 : Hid (e.pts[m1]? = some u1) := hp1
                                            subst e1
                                            obtain ⟨g3, o4, rfl, hc0⟩ := slatI_cell (HP.out wv0 HBv.out).hl hq
                                            have c0 := hc0 j _ hq
                                            have c2 := cell_below HBv.out (hcs m1 u1 hp1)
                                            have x2 := HXe.out wv0 HBv.out 2 _ rfl
                                            have m0 : ¬ (m1 : Int) < 0 := by omega
                                            clear hc0 hq hp1 hcs
                                            have s1 := name_size (HOe.out.1.pn u1 (List.mem_of_getElem? HP1.out))
                                            have q9 := HS2.out
                                            have lz0 : (⟨#[119, 105, 110, 100, 111, 119, 32]⟩ : ByteArray).size = 7 := rfl
                                            have lz1 : (⟨#[32]⟩ : ByteArray).size = 1 := rfl
                                            have lz2 : (⟨#[10, 99, 121, 99, 108, 101, 32]⟩ : ByteArray).size = 7 := rfl
                                            have lz3 : (⟨#[10, 100, 101, 108, 97, 121, 32]⟩ : ByteArray).size = 7 := rfl
                                            have lz4 : (⟨#[10]⟩ : ByteArray).size = 1 := rfl
                                            have lz5 : (⟨#[101, 110, 116, 105, 116, 121, 32]⟩ : ByteArray).size = 7 := rfl
                                            have lz6 : (⟨#[112, 111, 105, 110, 116, 32]⟩ : ByteArray).size = 6 := rfl
                                            have lz7 : (⟨#[99, 111, 117, 110, 116, 32]⟩ : ByteArray).size = 6 := rfl
                                            have lz8 : (⟨#[103, 97, 112, 32]⟩ : ByteArray).size = 4 := rfl
                                            have lz9 : (⟨#[101, 100, 103, 101, 32]⟩ : ByteArray).size = 5 := rfl
                                            have lz10 : (⟨#[102, 105, 114, 115, 116, 32]⟩ : ByteArray).size = 6 := rfl
                                            have lz11 : (⟨#[108, 97, 115, 116, 32]⟩ : ByteArray).size = 5 := rfl
                                            have p0 := addO (oL) (⟨#[108, 97, 115, 116, 32]⟩) (by (try simp only [ByteArray.size_append]); omega)
                                            have p1 := addO (oL ++ ⟨#[108, 97, 115, 116, 32]⟩) (u1) (by (try simp only [ByteArray.size_append]); omega)
                                            have p2 := addO (oL ++ ⟨#[108, 97, 115, 116, 32]⟩ ++ u1) (⟨#[10]⟩) (by (try simp only [ByteArray.size_append]); omega)
                                            have HN : Hid (bl (oL ++ ⟨#[108, 97, 115, 116, 32]⟩ ++ u1 ++ ⟨#[10]⟩) = bl oF ++ tl ((e.last.take (j + 1)).map (fun x => kwLine 9 [pt e.pts x]))) := by
                                              show _ = _
                                              rw [List.take_add_one, HQ.out, List.map_append, tl_app, ← List.append_assoc, ← HO2.out]
                                              simp only [bl_app]
                                              simp [bl, tl, kwLine, kw, ptD_at HP1.out]
                                            have HSn : Hid ((oL ++ ⟨#[108, 97, 115, 116, 32]⟩ ++ u1 ++ ⟨#[10]⟩).size ≤ 400140000 + 400 * (j + 1)) := by
                                              show _ ≤ _
                                              simp only [ByteArray.size_append, ByteArray.size_mk', List.size_toArray, List.length_cons, List.length_nil]
                                              omega
                                            clear q9 lz0 lz1 lz2 lz3 lz4 lz5 lz6 lz7 lz8 lz9 lz10 lz11
                                            clear s1
                                            go_wp2_with fail
                                            go_quiet (fail)
                                            go_wp2_with fail
                                            go_roundw
                                            case rel => exact ⟨j + 1, _, by omega, by go_num, rfl, below_drewN HBv.out _, HN.out, HSn.out⟩
                                            case measure => simp [intOf]; omega
                                        · have j1 : ¬ (j : Int) < (e.last.length : Int) := by omega
                                          as_aux_lemma =>
                                            have HOL : Hid (bl oL = bl oF ++ tl (e.last.map (fun x => kwLine 9 [pt e.pts x]))) := by show _ = _; rw [HO2.out, List.take_of_length_le (by omega)]
                                            have HSL : Hid (oL.size ≤ 400200000) := by show _ ≤ _; have := HS2.out; have := HLj.out; omega
                                            clear HO2 HS2
                                            have HFin : Hid (bl oL = tl (headL c) ++ tl ((c.ents.take (k + 1)).flatMap entLines)) := by
                                              show _ = _
                                              rw [HTk.out, ← List.append_assoc, ← HO.out, HOL.out, HOF.out, HOE.out, HOG.out, HOC.out, HOP.out, HO1.out]
                                              unfold entLines
                                              rw [show (kwLine 3 [bl e.name, num e.tol] :: (e.pts.map (fun p => kwLine 4 [bl p]) ++ ((if e.cnt = -1 then [] else [kwLine 5 [pt e.pts e.cnt, num e.mn, num e.mx]]) ++ (e.gaps.map (fun g => kwLine 6 [pt e.pts g.fr, pt e.pts g.to, num g.mn, num g.mx]) ++ (e.edges.map (fun d => kwLine 7 [pt e.pts d.1, pt e.pts d.2]) ++ (e.first.map (fun x => kwLine 8 [pt e.pts x]) ++ e.last.map (fun x => kwLine 9 [pt e.pts x]))))))) = [kwLine 3 [bl e.name, num e.tol]] ++ (e.pts.map (fun p => kwLine 4 [bl p]) ++ ((if e.cnt = -1 then [] else [kwLine 5 [pt e.pts e.cnt, num e.mn, num e.mx]]) ++ (e.gaps.map (fun g => kwLine 6 [pt e.pts g.fr, pt e.pts g.to, num g.mn, num g.mx]) ++ (e.edges.map (fun d => kwLine 7 [pt e.pts d.1, pt e.pts d.2]) ++ (e.first.map (fun x => kwLine 8 [pt e.pts x]) ++ e.last.map (fun x => kwLine 9 [pt e.pts x])))))) from rfl]
                                              simp only [tl_app, List.append_assoc]
                                            have HB9 : Hid (Below W.heap.size W wv0) := HVW.out _ HBv.out
                                            go_wp2_with fail
                                            go_roundw
                                            case rel => exact ⟨k + 1, oL, by omega, by go_num, rfl, HB9.out, HFin.out⟩
                                            case measure => simp [intOf]; omega
      · have k1 : ¬ (k : Int) < (c.ents.length : Int) := by omega
        have HE : Hid ((⟨(confText c).toArray⟩ : ByteArray) = out) := by
          show _ = _
          apply bl_inj
          rw [bl_mk, confText_is, HO.out, List.take_of_length_le (by omega)]
        go_wp2
        go_ret
        exact ⟨by rw [HE.out]; rfl, HF.out _ HR.out⟩
end Go.Proofs.YtcnfkdecghdphaaGreatDoor
