import Derived.Test.YthbkieghkfpbhaaGreatZCmt5
import Derived.Test.YthbkieghkfpbhaaGreatZOp9
import Derived.Test.YthbkieghkfpbhaaGreatZOp14
namespace Go.Proofs.YthbkieghkfpbhaaGreat
open Go.RowKit Go.Buf Go.LB
set_option linter.unusedSimpArgs false
set_option linter.unusedVariables false
theorem cmcm {W w1 : World} {c0 c1 c2 c3 c4 c5 c6 c7 c8 c9 c10 d0 d1 d2 d3 d4 d5 d6 d7 d8 d9 d10 : Value} (hb : Below ((W.alloc (.cells #[c0, c1, c2, c3, c4, c5, c6, c7, c8, c9, c10] 34)).alloc (.cells #[d0, d1, d2, d3, d4, d5, d6, d7, d8, d9, d10] 34)).heap.size ((W.alloc (.cells #[c0, c1, c2, c3, c4, c5, c6, c7, c8, c9, c10] 34)).alloc (.cells #[d0, d1, d2, d3, d4, d5, d6, d7, d8, d9, d10] 34)) w1) :
  (w1.cell? ⟨W.heap.size, 0, none⟩ = some c0 ∧ w1.cell? ⟨W.heap.size, 1, none⟩ = some c1 ∧ w1.cell? ⟨W.heap.size, 2, none⟩ = some c2 ∧ w1.cell? ⟨W.heap.size, 3, none⟩ = some c3 ∧ w1.cell? ⟨W.heap.size, 4, none⟩ = some c4 ∧ w1.cell? ⟨W.heap.size, 5, none⟩ = some c5 ∧ w1.cell? ⟨W.heap.size, 6, none⟩ = some c6 ∧ w1.cell? ⟨W.heap.size, 7, none⟩ = some c7 ∧ w1.cell? ⟨W.heap.size, 8, none⟩ = some c8 ∧ w1.cell? ⟨W.heap.size, 9, none⟩ = some c9 ∧ w1.cell? ⟨W.heap.size, 10, none⟩ = some c10) ∧ (w1.cell? ⟨W.heap.size + 1, 0, none⟩ = some d0 ∧ w1.cell? ⟨W.heap.size + 1, 1, none⟩ = some d1 ∧ w1.cell? ⟨W.heap.size + 1, 2, none⟩ = some d2 ∧ w1.cell? ⟨W.heap.size + 1, 3, none⟩ = some d3 ∧ w1.cell? ⟨W.heap.size + 1, 4, none⟩ = some d4 ∧ w1.cell? ⟨W.heap.size + 1, 5, none⟩ = some d5 ∧ w1.cell? ⟨W.heap.size + 1, 6, none⟩ = some d6 ∧ w1.cell? ⟨W.heap.size + 1, 7, none⟩ = some d7 ∧ w1.cell? ⟨W.heap.size + 1, 8, none⟩ = some d8 ∧ w1.cell? ⟨W.heap.size + 1, 9, none⟩ = some d9 ∧ w1.cell? ⟨W.heap.size + 1, 10, none⟩ = some d10) := by
 refine ⟨cmcells ((below_box _ _ _).trans (hb.mono (by simp))), ?_⟩
 have h := cmcells hb
 simpa using h
set_option maxHeartbeats 1600000 in
theorem sameVector_any (a : Option Addr) (n cap : Nat) (la : List Dt.Dot) (c : Option Addr) (m capc : Nat) (lb : List Dt.Dot) (W : World) (hr : VRow W a cap la) (hl : la.length = n) (hs : VRow W c capc lb) (hm : lb.length = m) (hn : n ≤ 100000000) (hn2 : m ≤ 100000000) :
  Calls Tryz.prog 25 #[.slice a n cap, .slice c m capc] W fun e w' => e = .returned (.bool (decide (Dt.canon la = Dt.canon lb))) ∧ Below W.heap.size W w' := by
 have HR := Lib.hid hr; have HL := Lib.hid hl; have HS := Lib.hid hs; have HM := Lib.hid hm
 clear hr hl hs hm
 go_enter Tryz.func25, Tryz.ntmps25
 go_wp2_with fail
 refine (canon_any a n cap la _ HR.out HL.out hn).mono ?_
 rintro e w1 ⟨a1, c1, rfl, h1, hb1⟩
 have H1 := Lib.hid h1; have HB1 := Lib.hid hb1; clear h1 hb1
 obtain ⟨n1, hn1⟩ : ∃ m, (Dt.canon la).length = m := ⟨_, rfl⟩
 rw [hn1]
 have HN1 := Lib.hid hn1; clear hn1
 go_wp2_with fail
 refine (canon_any c m capc lb _ (HS.out.below HB1.out) HM.out hn2).mono ?_
 rintro e w2 ⟨a2, c2, rfl, h2, hb2⟩
 have H2 := Lib.hid h2; have HB2 := Lib.hid (HB1.out.trans (hb2.mono HB1.out.size)); have HX2 := Lib.hid hb2; clear h2 hb2
 obtain ⟨n2, hn2⟩ : ∃ m, (Dt.canon lb).length = m := ⟨_, rfl⟩
 rw [hn2]
 have HN2 := Lib.hid hn2; clear hn2
 go_wp2_with fail
 refine (equalV_any a1 n1 c1 (Dt.canon la) a2 n2 c2 (Dt.canon lb) _ (H1.out.below HX2.out) HN1.out H2.out HN2.out).mono ?_
 rintro e w3 ⟨rfl, hb3⟩
 have HB3 := Lib.hid (HB2.out.trans (hb3.mono HB2.out.size)); clear hb3
 go_wp2_with fail
 go_ret
 exact ⟨rfl, HB3.out⟩
set_option maxRecDepth 100000 in
set_option maxHeartbeats 3200000 in
theorem csame_ok (r i s : Nat) (qa : Option Addr) (ql qc : Nat) (va : Option Addr) (vl vc : Nat) (tm k : Nat) (pa : Option Addr) (pl pc : Nat) (n : Int) (t : ByteArray) (da : Option Addr) (dl dc : Nat) (lq lv : List Dt.Dot) (lp : List ByteArray) (ld : List Dt.Dot) (W : World) (hq : VRow W qa qc lq) (hql : lq.length = ql) (hv : VRow W va vc lv) (hvl : lv.length = vl) (hp : SRow W pa pc lp) (hpl : lp.length = pl) (hd : VRow W da dc ld) (hdl : ld.length = dl) (qa' : Option Addr) (va' : Option Addr) (pa' : Option Addr) (da' : Option Addr) (qc' vc' pc' dc' : Nat) (hq' : VRow W qa' qc' lq) (hv' : VRow W va' vc' lv) (hp' : SRow W pa' pc' lp) (hd' : VRow W da' dc' ld) (hvn : vl ≤ 100000000) :
  Calls Tryz.prog 10 #[cmV r i s qa ql qc va vl vc tm k pa pl pc n t da dl dc, cmV r i s qa' ql qc' va' vl vc' tm k pa' pl pc' n t da' dl dc'] W fun e w' => e = .returned (.bool true) ∧ Below W.heap.size W w' := by
 have HQ := Lib.hid hq; have HQl := Lib.hid hql; have HV := Lib.hid hv; have HVl := Lib.hid hvl; have HP := Lib.hid hp; have HPl := Lib.hid hpl; have HD := Lib.hid hd; have HDl := Lib.hid hdl
 have HQ' := Lib.hid hq'; have HV' := Lib.hid hv'; have HP' := Lib.hid hp'; have HD' := Lib.hid hd'
 have HBox := Lib.hid ((below_box W #[.int .u8 (r : Int), .int .u32 (i : Int), .int .u64 (s : Int), .slice qa ql qc, .slice va vl vc, .int .u64 (tm : Int), .int .u8 (k : Int), .slice pa pl pc, .int .i64 n, .string t, .slice da dl dc] 34).trans ((below_box (W.alloc (.cells #[.int .u8 (r : Int), .int .u32 (i : Int), .int .u64 (s : Int), .slice qa ql qc, .slice va vl vc, .int .u64 (tm : Int), .int .u8 (k : Int), .slice pa pl pc, .int .i64 n, .string t, .slice da dl dc] 34)) #[.int .u8 (r : Int), .int .u32 (i : Int), .int .u64 (s : Int), .slice qa' ql qc', .slice va' vl vc', .int .u64 (tm : Int), .int .u8 (k : Int), .slice pa' pl pc', .int .i64 n, .string t, .slice da' dl dc'] 34).mono (by simp)))
 clear hq hql hv hvl hp hpl hd hdl hq' hv' hp' hd'
 go_enter Tryz.func10, Tryz.ntmps10
 go_wp2_with fail
 refine (equalD_any qa ql qc lq qa' ql qc' lq _ (HQ.out.below HBox.out) HQl.out (HQ'.out.below HBox.out) HQl.out).mono ?_
 rintro e w1 ⟨rfl, hb⟩
 rw [show decide (lq = lq) = true from by simp]
 obtain ⟨⟨c0, c1, c2, c3, c4, c5, c6, c7, c8, c9, c10⟩, ⟨e0, e1, e2, e3, e4, e5, e6, e7, e8, e9, e10⟩⟩ := cmcm hb
 have HX1 := Lib.hid hb; have HB1 := Lib.hid (HBox.out.trans (hb.mono HBox.out.size)); clear hb
 go_wp2_with fail
 refine (sameVector_any va vl vc lv va' vl vc' lv _ (HV.out.below HB1.out) HVl.out (HV'.out.below HB1.out) HVl.out hvn hvn).mono ?_
 rintro e w2 ⟨rfl, hb⟩
 rw [show decide (Dt.canon lv = Dt.canon lv) = true from by simp]
 clear c0 c1 c2 c3 c4 c5 c6 c7 c8 c9 c10 e0 e1 e2 e3 e4 e5 e6 e7 e8 e9 e10
 obtain ⟨⟨c0, c1, c2, c3, c4, c5, c6, c7, c8, c9, c10⟩, ⟨e0, e1, e2, e3, e4, e5, e6, e7, e8, e9, e10⟩⟩ := cmcm (HX1.out.trans (hb.mono HX1.out.size))
 have HB2 := Lib.hid (HB1.out.trans (hb.mono HB1.out.size)); clear hb
 go_wp2_with fail
 refine (opsame_any k pa pl pc n t da dl dc lp ld k pa' pl pc' n t da' dl dc' lp ld _ (HP.out.below HB2.out) HPl.out (HD.out.below HB2.out) HDl.out (HP'.out.below HB2.out) HPl.out (HD'.out.below HB2.out) HDl.out).mono ?_
 rintro e w3 ⟨rfl, hb⟩
 rw [show decide ((⟨k, lp, n, t, ld⟩ : Om.O) = ⟨k, lp, n, t, ld⟩) = true from by simp]
 have HB3 := Lib.hid (HB2.out.trans (hb.mono HB2.out.size)); clear hb
 go_wp2_with fail
 go_ret
 exact ⟨rfl, HB3.out⟩
def cEq (a b : Cm.C) : Bool := decide (a = b)
theorem cne {a b : Cm.C} (h : ¬ (a.dot = b.dot ∧ a.time = b.time ∧ a.par = b.par ∧ a.vv = b.vv ∧ a.op = b.op)) : cEq a b = false := decide_eq_false fun e => h (by subst e; simp)
set_option maxRecDepth 100000 in
set_option maxHeartbeats 6400000 in
theorem refcsame_any (r i s : Nat) (qa : Option Addr) (ql qc : Nat) (va : Option Addr) (vl vc : Nat) (tm k : Nat) (pa : Option Addr) (pl pc : Nat) (n : Int) (t : ByteArray) (da : Option Addr) (dl dc : Nat) (lq lv : List Dt.Dot) (lp : List ByteArray) (ld : List Dt.Dot) (r' i' s' : Nat) (qa' : Option Addr) (ql' qc' : Nat) (va' : Option Addr) (vl' vc' : Nat) (tm' k' : Nat) (pa' : Option Addr) (pl' pc' : Nat) (n' : Int) (t' : ByteArray) (da' : Option Addr) (dl' dc' : Nat) (lq' lv' : List Dt.Dot) (lp' : List ByteArray) (ld' : List Dt.Dot) (W : World) (hq : VRow W qa qc lq) (hql : lq.length = ql) (hv : VRow W va vc lv) (hvl : lv.length = vl) (hp : SRow W pa pc lp) (hpl : lp.length = pl) (hd : VRow W da dc ld) (hdl : ld.length = dl) (hq' : VRow W qa' qc' lq') (hql' : lq'.length = ql') (hv' : VRow W va' vc' lv') (hvl' : lv'.length = vl') (hp' : SRow W pa' pc' lp') (hpl' : lp'.length = pl') (hd' : VRow W da' dc' ld') (hdl' : ld'.length = dl') :
  Calls Tryz.prog 7 #[cmV r i s qa ql qc va vl vc tm k pa pl pc n t da dl dc, cmV r' i' s' qa' ql' qc' va' vl' vc' tm' k' pa' pl' pc' n' t' da' dl' dc'] W fun e w' => e = .returned (.bool (cEq ⟨((r, i), s), lq, lv, tm, ⟨k, lp, n, t, ld⟩⟩ ⟨((r', i'), s'), lq', lv', tm', ⟨k', lp', n', t', ld'⟩⟩)) ∧ Below W.heap.size W w' := by
 have HQ := Lib.hid hq; have HQl := Lib.hid hql; have HV := Lib.hid hv; have HVl := Lib.hid hvl; have HP := Lib.hid hp; have HPl := Lib.hid hpl; have HD := Lib.hid hd; have HDl := Lib.hid hdl
 have HQ' := Lib.hid hq'; have HQl' := Lib.hid hql'; have HV' := Lib.hid hv'; have HVl' := Lib.hid hvl'; have HP' := Lib.hid hp'; have HPl' := Lib.hid hpl'; have HD' := Lib.hid hd'; have HDl' := Lib.hid hdl'
 have HBox := Lib.hid ((below_box W #[.int .u8 (r : Int), .int .u32 (i : Int), .int .u64 (s : Int), .slice qa ql qc, .slice va vl vc, .int .u64 (tm : Int), .int .u8 (k : Int), .slice pa pl pc, .int .i64 n, .string t, .slice da dl dc] 34).trans ((below_box (W.alloc (.cells #[.int .u8 (r : Int), .int .u32 (i : Int), .int .u64 (s : Int), .slice qa ql qc, .slice va vl vc, .int .u64 (tm : Int), .int .u8 (k : Int), .slice pa pl pc, .int .i64 n, .string t, .slice da dl dc] 34)) #[.int .u8 (r' : Int), .int .u32 (i' : Int), .int .u64 (s' : Int), .slice qa' ql' qc', .slice va' vl' vc', .int .u64 (tm' : Int), .int .u8 (k' : Int), .slice pa' pl' pc', .int .i64 n', .string t', .slice da' dl' dc'] 34).mono (by simp)))
 clear hq hql hv hvl hp hpl hd hdl hq' hql' hv' hvl' hp' hpl' hd' hdl'
 by_cases he : ((r, i), s) = ((r', i'), s')
 case neg =>
  have hne := dot_neO he
  have HE := Lib.hid he
  clear he
  rcases hne with h1 | ⟨rfl, h1⟩ | ⟨rfl, rfl, h1⟩
  all_goals
   first
    | have d3 : ((r : Int) == (r' : Int)) = false := by simp; (try simp only at h1); omega
    | have d3 : ((i : Int) == (i' : Int)) = false := by simp; (try simp only at h1); omega
    | have d3 : ((s : Int) == (s' : Int)) = false := by simp; (try simp only at h1); omega
   clear h1
   go_enter Tryz.func7, Tryz.ntmps7
   go_wp2_with fail
   go_ret
   exact ⟨ret_bool (cne (fun h => HE.out h.1)).symm, HBox.out⟩
 simp only [Prod.mk.injEq] at he
 obtain ⟨⟨rfl, rfl⟩, rfl⟩ := he
 by_cases ht : tm = tm'
 case neg =>
  have HT := Lib.hid ht
  have d3 : ((tm : Int) == (tm' : Int)) = false := by simp; omega
  clear ht
  go_enter Tryz.func7, Tryz.ntmps7
  go_wp2_with fail
  go_ret
  exact ⟨ret_bool (cne (fun h => HT.out h.2.1)).symm, HBox.out⟩
 subst ht
 go_enter Tryz.func7, Tryz.ntmps7
 go_wp2_with fail
 refine (refsame_any qa ql qc lq qa' ql' qc' lq' _ (HQ.out.below HBox.out) HQl.out (HQ'.out.below HBox.out) HQl'.out).mono ?_
 rintro e w1 ⟨rfl, hb⟩
 obtain ⟨⟨c0, c1, c2, c3, c4, c5, c6, c7, c8, c9, c10⟩, ⟨e0, e1, e2, e3, e4, e5, e6, e7, e8, e9, e10⟩⟩ := cmcm hb
 have HX1 := Lib.hid hb; have HB1 := Lib.hid (HBox.out.trans (hb.mono HBox.out.size)); clear hb
 cases h1 : decide (lq = lq')
 ·have H1 := Lib.hid h1; clear h1
  go_wp2_with fail
  go_ret
  exact ⟨ret_bool (cne (fun h => of_decide_eq_false H1.out h.2.2.1)).symm, HB1.out⟩
 have H1 := Lib.hid h1; clear h1
 go_wp2_with fail
 refine (refsame_any va vl vc lv va' vl' vc' lv' _ (HV.out.below HB1.out) HVl.out (HV'.out.below HB1.out) HVl'.out).mono ?_
 rintro e w2 ⟨rfl, hb⟩
 clear c0 c1 c2 c3 c4 c5 c6 c7 c8 c9 c10 e0 e1 e2 e3 e4 e5 e6 e7 e8 e9 e10
 obtain ⟨⟨c0, c1, c2, c3, c4, c5, c6, c7, c8, c9, c10⟩, ⟨e0, e1, e2, e3, e4, e5, e6, e7, e8, e9, e10⟩⟩ := cmcm (HX1.out.trans (hb.mono HX1.out.size))
 have HB2 := Lib.hid (HB1.out.trans (hb.mono HB1.out.size)); clear hb
 cases h2 : decide (lv = lv')
 ·have H2 := Lib.hid h2; clear h2
  go_wp2_with fail
  go_ret
  exact ⟨ret_bool (cne (fun h => of_decide_eq_false H2.out h.2.2.2.1)).symm, HB2.out⟩
 have H2 := Lib.hid h2; clear h2
 go_wp2_with fail
 refine (refopsame_any k pa pl pc n t da dl dc lp ld k' pa' pl' pc' n' t' da' dl' dc' lp' ld' _ (HP.out.below HB2.out) HPl.out (HD.out.below HB2.out) HDl.out (HP'.out.below HB2.out) HPl'.out (HD'.out.below HB2.out) HDl'.out).mono ?_
 rintro e w3 ⟨rfl, hb⟩
 have HB3 := Lib.hid (HB2.out.trans (hb.mono HB2.out.size)); clear hb
 go_wp2_with fail
 go_ret
 refine ⟨ret_bool ?_, HB3.out⟩
 have g1 := of_decide_eq_true H1.out
 have g2 := of_decide_eq_true H2.out
 simp [cEq, g1, g2]
end Go.Proofs.YthbkieghkfpbhaaGreat
namespace Go.Proofs.YthbkieghkfpbhaaGreat
open Go.RowKit Go.Buf Go.LB
set_option linter.unusedSimpArgs false
set_option linter.unusedVariables false
theorem srow_of_ob {B : Nat} {w : World} {v : Value} {l : List ByteArray} {m : Nat} (h : OB 9 1 encS B w v l) (hl : l.length = m) (hok : ∀ s ∈ l, s.size ≤ 9223372036854775807) : ∃ a c, v = .slice a m c ∧ SRow w a c l := by
 obtain ⟨a, c, rfl, h1, h2, h3, _, h5⟩ := h.reads (fun _ => rfl)
 refine ⟨a, c, by rw [hl], h1, h2, hok, h3, fun i s hs => ?_⟩
 obtain ⟨q, hq, hc⟩ := h5 i s hs
 exact ⟨q, hq, by have := hc 0 (.string s) rfl; simpa using this⟩
theorem vrow_of_ob {B : Nat} {w : World} {v : Value} {l : List Dt.Dot} {m : Nat} (h : OB 27 3 encT B w v l) (hl : l.length = m) (hok : ∀ s ∈ l, Dt.okD s) : ∃ a c, v = .slice a m c ∧ VRow w a c l := by
 obtain ⟨a, c, rfl, h1, h2, h3, _, h5⟩ := h.reads (fun _ => rfl)
 refine ⟨a, c, by rw [hl], h1, h2, hok, h3, fun i s hs => ?_⟩
 obtain ⟨q, hq, hc⟩ := h5 i s hs
 exact ⟨q, hq, by have := hc 0 _ rfl; simpa using this, by have := hc 1 _ rfl; simpa using this, by have := hc 2 _ rfl; simpa using this⟩
theorem names_of_may {o : Om.O} (h : Om.may o = true) : (∀ s ∈ o.path, s.size ≤ 12) ∧ o.path.length ≤ 3 ∧ o.text.size ≤ 40 ∧ o.dots.length ≤ 64 := by
 obtain ⟨k, p, n, t, d⟩ := o
 simp only [Om.may, Bool.and_eq_true, Om.mayPath, decide_eq_true_eq, Om.upTo_iff] at h
 obtain ⟨⟨⟨_, h2⟩, h3⟩, h4⟩ := h
 have hpth : ∀ s ∈ p, s.size ≤ 12 := by
  intro s hs
  obtain ⟨j, hj⟩ := List.getElem?_of_mem hs
  have hlt : j < p.length := (List.getElem?_eq_some_iff.1 hj).1
  have := h3 j hlt
  simp only [Om.pathAt, List.getD, hj, Option.getD_some, Om.isName, Bool.and_eq_true, decide_eq_true_eq] at this
  omega
 have hrest : t.size ≤ 40 ∧ d.length ≤ 64 := by
  unfold Om.asked at h4
  repeat' split at h4
  all_goals simp [Om.mayAdd, Om.mayText, Om.mayDrop, Om.mayDrops, -ByteArray.size_eq_zero_iff, -List.length_eq_zero_iff] at h4
  all_goals omega
 exact ⟨hpth, h2, hrest⟩
theorem fresh_lt {W w : World} {c : Array Value} {t : TypeId} {row : Option Nat} (h : (W.alloc (.cells c t)).grownBy w row) : W.heap.size < w.heap.size := by have := h.size; simp at this; omega
theorem grown_set5 (w : World) (g : Nat) (x0 x1 x2 x3 x4 : Value) : w.grownBy (((((w.setCell ⟨g, 0, none⟩ x0).setCell ⟨g, 1, none⟩ x1).setCell ⟨g, 2, none⟩ x2).setCell ⟨g, 3, none⟩ x3).setCell ⟨g, 4, none⟩ x4) (some g) :=
 grownR (grownR (grownR (grownR (grown_setCell w g 0 x0) (grown_setCell _ g 1 x1)) (grown_setCell _ g 2 x2)) (grown_setCell _ g 3 x3)) (grown_setCell _ g 4 x4)
end Go.Proofs.YthbkieghkfpbhaaGreat
/- Reading what may be cut off: one contract a read, for all that is there and for a part of it. -/
namespace Go.Proofs.YthbkieghkfpbhaaGreat
open Go.RowKit Go.Buf Go.LB
set_option linter.unusedSimpArgs false
set_option linter.unusedVariables false
def RdX (w : World) (p : Nat) (E z : List Nat) (er : Nat) : Prop := ∃ l, RdrS w p l er ∧ ((er = 0 ∧ l ++ z = E) ∨ (z ≠ [] ∧ er ≠ 0))
theorem RdX.below {w w' : World} {p : Nat} {E z : List Nat} {er : Nat} (h : RdX w p E z er) (hb : Below w.heap.size w w') : RdX w' p E z er := by
 obtain ⟨l, h, g⟩ := h; exact ⟨l, h.below hb, g⟩
theorem RdX.grown {w w' : World} {p : Nat} {E z : List Nat} {er : Nat} {row : Option Nat} (h : RdX w p E z er) (hg : w.grownBy w' row) (hr : ∀ k, row = some k → p < k) : RdX w' p E z er := by
 obtain ⟨l, h, g⟩ := h; exact ⟨l, h.grown hg hr, g⟩
theorem RdX.setCell {w : World} {p g : Nat} {E z : List Nat} {er : Nat} (h : RdX w p E z er) (hg : p < g) (o : Nat) (x : Value) : RdX (w.setCell ⟨g, o, none⟩ x) p E z er := by
 obtain ⟨l, h, e⟩ := h; exact ⟨l, h.setCell hg o x, e⟩
theorem RdX.lt {w : World} {p : Nat} {E z : List Nat} {er : Nat} (h : RdX w p E z er) : p < w.heap.size := by obtain ⟨l, h, g⟩ := h; exact h.lt
theorem RdX.bad {w : World} {p : Nat} {E z : List Nat} {er : Nat} (h : RdX w p E z er) (he : er ≠ 0) (E' : List Nat) : RdX w p E' z er := by
 obtain ⟨l, h, g⟩ := h
 refine ⟨l, h, ?_⟩
 rcases g with g | g
 ·exact absurd g.1 he
 ·exact Or.inr g
theorem RdX.cut {w : World} {p : Nat} {z : List Nat} {er : Nat} (h : RdX w p [] z er) (hz : z ≠ []) : er ≠ 0 := by
 obtain ⟨l, h, g⟩ := h
 rcases g with g | g
 ·have := (List.append_eq_nil_iff.1 g.2).2; exact absurd this hz
 ·exact g.2
theorem RdX.whole {w : World} {p : Nat} {E : List Nat} {er : Nat} (h : RdX w p E [] er) : er = 0 ∧ RdrS w p E 0 := by
 obtain ⟨l, h, g⟩ := h
 rcases g with ⟨rfl, g⟩ | g
 ·rw [List.append_nil] at g; subst g; exact ⟨rfl, h⟩
 ·exact absurd rfl g.1
theorem pre_split {l z u R : List Nat} (h : l ++ z = u ++ R) : (∃ c, l = u ++ c ∧ c ++ z = R) ∨ (z ≠ [] ∧ ∃ m, m < u.length ∧ l = u.take m ∧ m = l.length) := by
 rcases List.append_eq_append_iff.1 h with ⟨a, h1, h2⟩ | ⟨c, h1, h2⟩
 ·cases a with
  | nil => left; exact ⟨[], by simpa using h1.symm, by simpa using h2⟩
  | cons x r =>
   right
   refine ⟨by rw [h2]; simp, l.length, by rw [h1]; simp, by rw [h1]; simp, rfl⟩
 ·left; exact ⟨c, h1, h2.symm⟩
theorem numR_x {l z R : List Nat} {n : Nat} (hn : n < 18446744073709551616) (h : l ++ z = Cd.num n ++ R) : (∃ l', numR l 0 = (n, l', 0) ∧ l' ++ z = R) ∨ (z ≠ [] ∧ numR l 0 = (0, l, 5)) := by
 rcases pre_split h with ⟨c, rfl, hc⟩ | ⟨hz, m, hm, hl, _⟩
 ·exact Or.inl ⟨c, numR_ok hn c, hc⟩
 ·refine Or.inr ⟨hz, ?_⟩
  unfold numR step
  rw [hl, Cd.rd_cut n m hm]; simp
theorem intR_x {l z R : List Nat} {n : Int} (h1 : -9223372036854775808 ≤ n) (h2 : n ≤ 9223372036854775807) (h : l ++ z = Cd.num (Cd.uns n) ++ R) : (∃ l', intR l 0 = (n, l', 0) ∧ l' ++ z = R) ∨ (z ≠ [] ∧ intR l 0 = (0, l, 5)) := by
 rcases pre_split h with ⟨c, rfl, hc⟩ | ⟨hz, m, hm, hl, _⟩
 ·exact Or.inl ⟨c, intR_ok h1 h2 c, hc⟩
 ·refine Or.inr ⟨hz, ?_⟩
  unfold intR step
  rw [hl, Cd.rd_cut _ m hm]; simp
theorem txtR_x {l z R : List Nat} (s : ByteArray) {most : Int} (hm : (s.size : Int) ≤ most) (hs : s.size < 18446744073709551616) (h : l ++ z = txtE s ++ R) : (∃ l', txtR l 0 most = (strL s, l', 0) ∧ l' ++ z = R) ∨ (z ≠ [] ∧ txtR l 0 most = ([], l, 5)) := by
 rcases pre_split h with ⟨c, rfl, hc⟩ | ⟨hz, m, hm2, hl, hml⟩
 ·exact Or.inl ⟨c, txtR_ok s c most hm hs, hc⟩
 ·refine Or.inr ⟨hz, ?_⟩
  unfold txtE at hl hm2
  rw [List.length_append, strL_length] at hm2
  have hrt : Cd.rdText l most = ([], 0, 5) := by
   unfold Cd.rdText
   by_cases hlt : m < (Cd.num s.size).length
   ·rw [List.take_append_of_le_length (by omega)] at hl
    rw [hl, Cd.rd_cut _ m hlt]; simp
   ·have e : l = Cd.num s.size ++ (strL s).take (m - (Cd.num s.size).length) := by
     rw [hl, List.take_append, List.take_of_length_le (by omega)]
    have e3 : l.length = (Cd.num s.size).length + ((strL s).take (m - (Cd.num s.size).length)).length := by rw [← List.length_append, ← e]
    have e4 : ((strL s).take (m - (Cd.num s.size).length)).length < s.size := by rw [List.length_take, strL_length]; omega
    have e2 := Cd.rd_num hs ((strL s).take (m - (Cd.num s.size).length))
    rw [← e] at e2
    rw [e2]
    simp only
    rw [if_neg (by simp), if_neg (by omega), if_pos (by omega)]
  unfold txtR step
  rw [hrt]; simp
theorem Num_x {p : Nat} {w : World} {z R : List Nat} {er : Nat} (n : Nat) (hn : n < 18446744073709551616) (h : RdX w p (Cd.num n ++ R) z er) :
  Calls Tryz.prog 35 #[.pointer (some ⟨p, 0, none⟩)] w fun e w' => ∃ v er', e = .returned (.int .u64 (v : Nat)) ∧ ((v = n ∧ er' = 0 ∧ er = 0) ∨ (v = 0 ∧ er' ≠ 0)) ∧ RdX w' p R z er' ∧ w.grownBy w' (some p) := by
 obtain ⟨l, h, g⟩ := h
 rcases g with ⟨rfl, g⟩ | ⟨hz, he⟩
 ·rcases numR_x hn g with ⟨l', h1, h2⟩ | ⟨hz, h1⟩
  ·exact (Num_at h h1).mono fun e w' ⟨a, b, c⟩ => ⟨n, 0, a, Or.inl ⟨rfl, rfl, rfl⟩, ⟨l', b, Or.inl ⟨rfl, h2⟩⟩, c⟩
  ·exact (Num_at h h1).mono fun e w' ⟨a, b, c⟩ => ⟨0, 5, a, Or.inr ⟨rfl, by decide⟩, ⟨l, b, Or.inr ⟨hz, by decide⟩⟩, c⟩
 ·have h1 : numR l er = (0, l, er) := by unfold numR step; rw [if_pos he]
  exact (Num_at h h1).mono fun e w' ⟨a, b, c⟩ => ⟨0, er, a, Or.inr ⟨rfl, he⟩, ⟨l, b, Or.inr ⟨hz, he⟩⟩, c⟩
theorem Int_x {p : Nat} {w : World} {z R : List Nat} {er : Nat} (n : Int) (h1 : -9223372036854775808 ≤ n) (h2 : n ≤ 9223372036854775807) (h : RdX w p (Cd.num (Cd.uns n) ++ R) z er) :
  Calls Tryz.prog 58 #[.pointer (some ⟨p, 0, none⟩)] w fun e w' => ∃ (v : Int) (er' : Nat), e = .returned (.int .i64 v) ∧ ((v = n ∧ er' = 0 ∧ er = 0) ∨ (v = 0 ∧ er' ≠ 0)) ∧ RdX w' p R z er' ∧ w.grownBy w' (some p) := by
 obtain ⟨l, h, g⟩ := h
 rcases g with ⟨rfl, g⟩ | ⟨hz, he⟩
 ·rcases intR_x h1 h2 g with ⟨l', h3, h4⟩ | ⟨hz, h3⟩
  ·exact (Int_at h h3).mono fun e w' ⟨a, b, c⟩ => ⟨n, 0, a, Or.inl ⟨rfl, rfl, rfl⟩, ⟨l', b, Or.inl ⟨rfl, h4⟩⟩, c⟩
  ·exact (Int_at h h3).mono fun e w' ⟨a, b, c⟩ => ⟨0, 5, a, Or.inr ⟨rfl, by decide⟩, ⟨l, b, Or.inr ⟨hz, by decide⟩⟩, c⟩
 ·have h3 : intR l er = (0, l, er) := by unfold intR step; rw [if_pos he]
  exact (Int_at h h3).mono fun e w' ⟨a, b, c⟩ => ⟨0, er, a, Or.inr ⟨rfl, he⟩, ⟨l, b, Or.inr ⟨hz, he⟩⟩, c⟩
theorem Text_x {p : Nat} {w : World} {z R : List Nat} {er : Nat} (s : ByteArray) (most : Int) (hm : (s.size : Int) ≤ most) (hm2 : most ≤ 9223372036854775807) (h : RdX w p (txtE s ++ R) z er) :
  Calls Tryz.prog 59 #[.pointer (some ⟨p, 0, none⟩), .int .i64 most] w fun e w' => ∃ (v : ByteArray) (er' : Nat), e = .returned (.string v) ∧ ((v = s ∧ er' = 0 ∧ er = 0) ∨ (v = ⟨#[]⟩ ∧ er' ≠ 0)) ∧ RdX w' p R z er' ∧ w.grownBy w' (some p) := by
 obtain ⟨l, h, g⟩ := h
 rcases g with ⟨rfl, g⟩ | ⟨hz, he⟩
 ·rcases txtR_x s hm (by omega) g with ⟨l', h3, h4⟩ | ⟨hz, h3⟩
  ·have := Text_at h (by omega) hm2 h3
   rw [strB_strL] at this
   exact this.mono fun e w' ⟨a, b, c⟩ => ⟨s, 0, a, Or.inl ⟨rfl, rfl, rfl⟩, ⟨l', b, Or.inl ⟨rfl, h4⟩⟩, c⟩
  ·exact (Text_at h (by omega) hm2 h3).mono fun e w' ⟨a, b, c⟩ => ⟨_, 5, a, Or.inr ⟨rfl, by decide⟩, ⟨l, b, Or.inr ⟨hz, by decide⟩⟩, c⟩
 ·have h3 : txtR l er most = ([], l, er) := by unfold txtR step; rw [if_pos he]
  exact (Text_at h (by omega) hm2 h3).mono fun e w' ⟨a, b, c⟩ => ⟨_, er, a, Or.inr ⟨rfl, he⟩, ⟨l, b, Or.inr ⟨hz, he⟩⟩, c⟩
end Go.Proofs.YthbkieghkfpbhaaGreat
