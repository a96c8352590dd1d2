import Derived.Test.YthbkieghkfpbhaaGreatZCmt11
namespace Go.Proofs.YthbkieghkfpbhaaGreat
open Go.RowKit Go.Buf Go.LB
set_option linter.unusedSimpArgs false
set_option linter.unusedVariables false
theorem cut_at (ct : Int) (xn xc : Nat) (hpos : 0 < xn) (hxk : xn ≤ 200000) (hle : xn ≤ xc) : ∃ kk : Nat, kk < xn ∧ kk ≤ xc ∧ (0 : Int) ≤ (kk : Int) ∧ (kk : Int) ≤ (xc : Int) ∧ wrap64 ((IntKind.u64.wrap ct).tmod (xn : Int)) = (kk : Int) := by
 obtain ⟨u, hu⟩ : ∃ u : Nat, IntKind.u64.wrap ct = (u : Int) := ⟨(IntKind.u64.wrap ct).toNat, by simp [IntKind.wrap, IntKind.bits, IntKind.signed]; omega⟩
 have hkx : u % xn < xn := Nat.mod_lt _ hpos
 have ht : ((u : Int)).tmod (xn : Int) = ((u % xn : Nat) : Int) := rfl
 refine ⟨u % xn, hkx, by omega, by omega, by omega, ?_⟩
 rw [hu, ht]
 exact IntWalk.wrap64_in _ (by omega)
theorem litB (w : World) (x : Nat) (hx : x < 256) : Row (w.alloc (.cells #[.int .u8 (x : Int)] 5)) (some ⟨w.heap.size, 0, none⟩) 1 [x] := by
 refine ⟨by simp, by omega, by simp; omega, (fun e => by cases e), fun i e he => ⟨_, rfl, ?_⟩⟩
 have hi : i < 1 := by have := (List.getElem?_eq_some_iff.1 he).1; simpa using this
 obtain rfl : i = 0 := by omega
 simp at he; subst he
 simp [Addr.add]
theorem run_slice_to (a : Option Addr) (n c i : Nat) (h : i ≤ c) (w : World) : Sem.run Tryz.prog (Instr.slice 37 (.slice a n c) none (some (.int .i64 (i : Int))) none) w = .ok (.slice a i c) w := by
 have hu := Tryz.underlying37
 have h0 : (0 : Int) ≤ (i : Int) := by omega
 have h1 : (i : Int) ≤ (c : Int) := by omega
 go_simp
set_option maxRecDepth 100000 in
set_option maxHeartbeats 12800000 in
theorem lawTwo_any (r i s : Nat) (qa : Option Addr) (ql qc : Nat) (va : Option Addr) (vl vc : Nat) (tm k : Nat) (pa : Option Addr) (pl pc : Nat) (n : Int) (t : ByteArray) (da : Option Addr) (dl dc : Nat) (lq lv : List Dt.Dot) (lp : List ByteArray) (ld : List Dt.Dot) (r' i' s' : Nat) (qa' : Option Addr) (ql' qc' : Nat) (va' : Option Addr) (vl' vc' : Nat) (tm' k' : Nat) (pa' : Option Addr) (pl' pc' : Nat) (n' : Int) (t' : ByteArray) (da' : Option Addr) (dl' dc' : Nat) (lq' lv' : List Dt.Dot) (lp' : List ByteArray) (ld' : List Dt.Dot) (ct : Int) (mo : Nat) (W : World) (hq : VRow W qa qc lq) (hql : lq.length = ql) (hv : VRow W va vc lv) (hvl : lv.length = vl) (hp : SRow W pa pc lp) (hpl : lp.length = pl) (hd : VRow W da dc ld) (hdl : ld.length = dl) (hq' : VRow W qa' qc' lq') (hql' : lq'.length = ql') (hv' : VRow W va' vc' lv') (hvl' : lv'.length = vl') (hp' : SRow W pa' pc' lp') (hpl' : lp'.length = pl') (hd' : VRow W da' dc' ld') (hdl' : ld'.length = dl') (hok : Dt.okD ((r, i), s)) (htm : tm < 18446744073709551616) (hk : k < 256) (hn1 : -9223372036854775808 ≤ n) (hn2 : n ≤ 9223372036854775807) (hok' : Dt.okD ((r', i'), s')) (htm' : tm' < 18446744073709551616) (hk' : k' < 256) (hn1' : -9223372036854775808 ≤ n') (hn2' : n' ≤ 9223372036854775807) (hct1 : -9223372036854775808 ≤ ct) (hct2 : ct ≤ 9223372036854775807) (hmo : mo < 256) :
  Calls Tryz.prog 3 #[cmV r i s qa ql qc va vl vc tm k pa pl pc n t da dl dc, cmV r' i' s' qa' ql' qc' va' vl' vc' tm' k' pa' pl' pc' n' t' da' dl' dc', .int .i64 ct, .int .u8 (mo : Int)] W fun e w' => e = .returned (.bool true) ∧ Below W.heap.size W w' := by
 have HOC := Lib.hid (OkC.mk (c := ⟨((r, i), s), lq, lv, tm, ⟨k, lp, n, t, ld⟩⟩) hok hq.ok hv.ok htm hk hn1 hn2 hd.ok)
 have HOC' := Lib.hid (OkC.mk (c := ⟨((r', i'), s'), lq', lv', tm', ⟨k', lp', n', t', ld'⟩⟩) hok' hq'.ok hv'.ok htm' hk' hn1' hn2' hd'.ok)
 have HQ := Lib.hid hq; have HQl := Lib.hid hql; have HV := Lib.hid hv; have HVl := Lib.hid hvl; have HP := Lib.hid hp; have HPl := Lib.hid hpl; have HD := Lib.hid hd; have HDl := Lib.hid hdl; have HOk := Lib.hid hok; have HTm := Lib.hid htm; have HN1 := Lib.hid hn1; have HN2 := Lib.hid hn2
 have HQ' := Lib.hid hq'; have HQl' := Lib.hid hql'; have HV' := Lib.hid hv'; have HVl' := Lib.hid hvl'; have HP' := Lib.hid hp'; have HPl' := Lib.hid hpl'; have HD' := Lib.hid hd'; have HDl' := Lib.hid hdl'; have HOk' := Lib.hid hok'; have HTm' := Lib.hid htm'; have HN1' := Lib.hid hn1'; have HN2' := Lib.hid hn2'
 have HBox := Lib.hid ((below_box W #[.int .u8 (r : Int), .int .u32 (i : Int), .int .u64 (s : Int), .slice qa ql qc, .slice va vl vc, .int .u64 (tm : Int), .int .u8 (k : Int), .slice pa pl pc, .int .i64 n, .string t, .slice da dl dc] 34).trans ((below_box (W.alloc (.cells #[.int .u8 (r : Int), .int .u32 (i : Int), .int .u64 (s : Int), .slice qa ql qc, .slice va vl vc, .int .u64 (tm : Int), .int .u8 (k : Int), .slice pa pl pc, .int .i64 n, .string t, .slice da dl dc] 34)) #[.int .u8 (r' : Int), .int .u32 (i' : Int), .int .u64 (s' : Int), .slice qa' ql' qc', .slice va' vl' vc', .int .u64 (tm' : Int), .int .u8 (k' : Int), .slice pa' pl' pc', .int .i64 n', .string t', .slice da' dl' dc'] 34).mono (by simp)))
 have HCt1 := Lib.hid hct1; have HCt2 := Lib.hid hct2
 clear hq hql hv hvl hp hpl hd hdl hok htm hn1 hn2 hq' hql' hv' hvl' hp' hpl' hd' hdl' hok' htm' hn1' hn2' hct1 hct2
 go_enter Tryz.func3, Tryz.ntmps3
 go_wp2_with fail
 refine (great11_any r i s qa ql qc va vl vc tm k pa pl pc n t da dl dc lq lv lp ld _ (HQ.out.below HBox.out) HQl.out (HV.out.below HBox.out) HVl.out (HP.out.below HBox.out) HPl.out (HD.out.below HBox.out) HDl.out).mono ?_
 rintro e w1 ⟨⟨g1, rfl, hg1⟩, hb⟩
 obtain ⟨⟨c0, c1, c2, c3, c4, c5, c6, c7, c8, c9, c10⟩, ⟨e0, e1, e2, e3, e4, e5, e6, e7, e8, e9, e10⟩⟩ := cmcm hb
 have HX1 := Lib.hid hb; have HB1 := Lib.hid (HBox.out.trans (hb.mono HBox.out.size)); have HG1 := Lib.hid hg1; clear hb hg1
 cases g1
 case true =>
  go_wp2_with fail
  refine (known11_any _).mono ?_
  rintro e wk ⟨rfl, hb⟩
  have HF := Lib.hid (HB1.out.trans (hb.mono HB1.out.size)); clear hb
  go_wp2_with fail
  go_ret
  exact ⟨rfl, HF.out⟩
 go_wp2_with fail
 refine (great11_any r' i' s' qa' ql' qc' va' vl' vc' tm' k' pa' pl' pc' n' t' da' dl' dc' lq' lv' lp' ld' _ (HQ'.out.below HB1.out) HQl'.out (HV'.out.below HB1.out) HVl'.out (HP'.out.below HB1.out) HPl'.out (HD'.out.below HB1.out) HDl'.out).mono ?_
 rintro e w2 ⟨⟨g2, rfl, hg2⟩, hb⟩
 clear c0 c1 c2 c3 c4 c5 c6 c7 c8 c9 c10 e0 e1 e2 e3 e4 e5 e6 e7 e8 e9 e10
 obtain ⟨⟨c0, c1, c2, c3, c4, c5, c6, c7, c8, c9, c10⟩, ⟨e0, e1, e2, e3, e4, e5, e6, e7, e8, e9, e10⟩⟩ := cmcm (HX1.out.trans (hb.mono HX1.out.size))
 have HX2 := Lib.hid (HX1.out.trans (hb.mono HX1.out.size)); have HB2 := Lib.hid (HB1.out.trans (hb.mono HB1.out.size)); have HG2 := Lib.hid hg2; clear hb hg2
 cases g2
 case true =>
  go_wp2_with fail
  refine (known11_any _).mono ?_
  rintro e wk ⟨rfl, hb⟩
  have HF := Lib.hid (HB2.out.trans (hb.mono HB2.out.size)); clear hb
  go_wp2_with fail
  go_ret
  exact ⟨rfl, HF.out⟩
 have HS1 := Lib.hid (HG1.out (by first | rfl | trivial)); have HS2 := Lib.hid (HG2.out (by first | rfl | trivial))
 have hvn : vl ≤ 100 := by have h := HS1.out.2.2; have g := HVl.out; simp only at h; omega
 have hvn' : vl' ≤ 100 := by have h := HS2.out.2.2; have g := HVl'.out; simp only at h; omega
 have hpn : pl ≤ 20 := by have h := HS1.out.1.2.1; have g := HPl.out; simp only at h; omega
 have hpn' : pl' ≤ 20 := by have h := HS2.out.1.2.1; have g := HPl'.out; simp only at h; omega
 have hdn : dl ≤ 100 := by have h := HS1.out.1.2.2.2; have g := HDl.out; simp only at h; omega
 have hdn' : dl' ≤ 100 := by have h := HS2.out.1.2.2.2; have g := HDl'.out; simp only at h; omega
 go_wp2_with fail
 refine (cbytes_any r i s qa ql qc va vl vc tm k pa pl pc n t da dl dc lq lv lp ld _ (HQ.out.below HB2.out) HQl.out (HV.out.below HB2.out) HVl.out (HP.out.below HB2.out) HPl.out (HD.out.below HB2.out) HDl.out HOk.out HTm.out hk HN1.out HN2.out (by omega) (by omega) (by omega)).mono ?_
 rintro e w3 ⟨hca, hb⟩
 clear c0 c1 c2 c3 c4 c5 c6 c7 c8 c9 c10 e0 e1 e2 e3 e4 e5 e6 e7 e8 e9 e10
 obtain ⟨⟨c0, c1, c2, c3, c4, c5, c6, c7, c8, c9, c10⟩, ⟨e0, e1, e2, e3, e4, e5, e6, e7, e8, e9, e10⟩⟩ := cmcm (HX2.out.trans (hb.mono HX2.out.size))
 have HX3 := Lib.hid (HX2.out.trans (hb.mono HX2.out.size)); have HB3 := Lib.hid (HB2.out.trans (hb.mono HB2.out.size)); clear hb
 rcases hca with ⟨_, hno⟩ | ⟨hma, va3, ra3, hea, hya⟩
 ·have hno' : e = .returned (.tuple #[.slice none 0 0, .int .i64 2]) := hno
  subst hno'
  clear hno
  go_wp2_with fail
  refine (cbytes_any r' i' s' qa' ql' qc' va' vl' vc' tm' k' pa' pl' pc' n' t' da' dl' dc' lq' lv' lp' ld' _ (HQ'.out.below HB3.out) HQl'.out (HV'.out.below HB3.out) HVl'.out (HP'.out.below HB3.out) HPl'.out (HD'.out.below HB3.out) HDl'.out HOk'.out HTm'.out hk' HN1'.out HN2'.out (by omega) (by omega) (by omega)).mono ?_
  rintro e w4 ⟨hcb, hb⟩
  clear c0 c1 c2 c3 c4 c5 c6 c7 c8 c9 c10 e0 e1 e2 e3 e4 e5 e6 e7 e8 e9 e10
  have HB4 := Lib.hid (HB3.out.trans (hb.mono HB3.out.size)); clear hb
  rcases hcb with ⟨_, hno⟩ | ⟨hmb, vb4, rb4, heb, hyb⟩
  ·have hno' : e = .returned (.tuple #[.slice none 0 0, .int .i64 2]) := hno
   subst hno'
   clear hno
   go_wp2_with fail
   refine (known11_any _).mono ?_
   rintro e wk ⟨rfl, hb⟩
   have HF := Lib.hid (HB4.out.trans (hb.mono HB4.out.size)); clear hb
   go_wp2_with fail
   go_ret
   exact ⟨rfl, HF.out⟩
  ·subst heb
   clear hyb
   go_wp2_with fail
   refine (known11_any _).mono ?_
   rintro e wk ⟨rfl, hb⟩
   have HF := Lib.hid (HB4.out.trans (hb.mono HB4.out.size)); clear hb
   go_wp2_with fail
   go_ret
   exact ⟨rfl, HF.out⟩
 subst hea
 obtain ⟨xa, xn, xc, rfl, hrA, hnA⟩ := hya.rowN
 have HMa := Lib.hid hma; have HRA := Lib.hid hrA; have HNA := Lib.hid hnA
 clear hya hrA hnA hma
 go_wp2_with fail
 refine (cbytes_any r' i' s' qa' ql' qc' va' vl' vc' tm' k' pa' pl' pc' n' t' da' dl' dc' lq' lv' lp' ld' _ (HQ'.out.below HB3.out) HQl'.out (HV'.out.below HB3.out) HVl'.out (HP'.out.below HB3.out) HPl'.out (HD'.out.below HB3.out) HDl'.out HOk'.out HTm'.out hk' HN1'.out HN2'.out (by omega) (by omega) (by omega)).mono ?_
 rintro e w4 ⟨hcb, hb⟩
 clear c0 c1 c2 c3 c4 c5 c6 c7 c8 c9 c10 e0 e1 e2 e3 e4 e5 e6 e7 e8 e9 e10
 obtain ⟨⟨c0, c1, c2, c3, c4, c5, c6, c7, c8, c9, c10⟩, ⟨e0, e1, e2, e3, e4, e5, e6, e7, e8, e9, e10⟩⟩ := cmcm (HX3.out.trans (hb.mono HX3.out.size))
 have HX4 := Lib.hid (HX3.out.trans (hb.mono HX3.out.size)); have HB4 := Lib.hid (HB3.out.trans (hb.mono HB3.out.size)); have HRA := Lib.hid (HRA.out.below hb); clear hb
 rcases hcb with ⟨_, hno⟩ | ⟨hmb, vb4, rb4, heb, hyb⟩
 ·have hno' : e = .returned (.tuple #[.slice none 0 0, .int .i64 2]) := hno
  subst hno'
  clear hno
  go_wp2_with fail
  refine (known11_any _).mono ?_
  rintro e wk ⟨rfl, hb⟩
  have HF := Lib.hid (HB4.out.trans (hb.mono HB4.out.size)); clear hb
  go_wp2_with fail
  go_ret
  exact ⟨rfl, HF.out⟩
 subst heb
 obtain ⟨ya, yn, yc, rfl, hrB, hnB⟩ := hyb.rowN
 have HMb := Lib.hid hmb; have HRB := Lib.hid hrB; have HNB := Lib.hid hnB
 clear hyb hrB hnB hmb
 obtain ⟨LA, hLA⟩ : ∃ L, L = cmtE ⟨((r, i), s), lq, lv, tm, ⟨k, lp, n, t, ld⟩⟩ := ⟨_, rfl⟩
 obtain ⟨LB, hLB⟩ : ∃ L, L = cmtE ⟨((r', i'), s'), lq', lv', tm', ⟨k', lp', n', t', ld'⟩⟩ := ⟨_, rfl⟩
 rw [← hLA] at HRA HNA
 rw [← hLB] at HRB HNB
 have hpos : 0 < xn := by have h := HNA.out; rw [← h, hLA]; exact cmtE_pos _
 have hxk : xn ≤ 200000 := by have h := HNA.out; rw [← h, hLA]; exact cmtE_length HMa.out
 have hcv1 := conv_row HRA.out HNA.out
 have hcv2 := conv_row HRB.out HNB.out
 have hx0 : ((xn : Int) == 0) = false := by simp; omega
 have hst : ((strB LA).toList == (strB LB).toList) = cEq ⟨((r, i), s), lq, lv, tm, ⟨k, lp, n, t, ld⟩⟩ ⟨((r', i'), s'), lq', lv', tm', ⟨k', lp', n', t', ld'⟩⟩ := by
  by_cases h : (⟨((r, i), s), lq, lv, tm, ⟨k, lp, n, t, ld⟩⟩ : Cm.C) = ⟨((r', i'), s'), lq', lv', tm', ⟨k', lp', n', t', ld'⟩⟩
  ·have hl : LA = LB := by rw [hLA, hLB, h]
   rw [hl, show cEq ⟨((r, i), s), lq, lv, tm, ⟨k, lp, n, t, ld⟩⟩ ⟨((r', i'), s'), lq', lv', tm', ⟨k', lp', n', t', ld'⟩⟩ = true from decide_eq_true h]; simp
  ·have hne : strB LA ≠ strB LB := fun e => h (cmt_inj HMa.out HMb.out HOC.out HOC'.out (by have := congrArg strL e; rwa [strL_strB HRA.out.byte, strL_strB HRB.out.byte, hLA, hLB] at this))
   rw [str_ne hne]; exact (decide_eq_false h).symm
 have HLA := Lib.hid hLA; have HLB := Lib.hid hLB; have HPos := Lib.hid hpos
 clear hLA hLB
 obtain ⟨EQ, hEQ⟩ : ∃ b, b = cEq ⟨((r, i), s), lq, lv, tm, ⟨k, lp, n, t, ld⟩⟩ ⟨((r', i'), s'), lq', lv', tm', ⟨k', lp', n', t', ld'⟩⟩ := ⟨_, rfl⟩
 rw [← hEQ] at hst
 have HEQ := Lib.hid hEQ; clear hEQ
 go_wp2_with fail
 refine Reg.region_list (by kernel_rfl) [fun v _ => v = .slice xa xn xc, fun v _ => v = .string (strB LA), fun v _ => v = .slice ya yn yc, fun v _ => v = .string (strB LB), fun v _ => v = .bool EQ, fun v _ => v = .agg #[.int .u8 (r : Int), .int .u32 (i : Int), .int .u64 (s : Int), .slice qa ql qc, .slice va vl vc, .int .u64 (tm : Int), .int .u8 (k : Int), .slice pa pl pc, .int .i64 n, .string t, .slice da dl dc], fun v _ => v = .agg #[.int .u8 (r' : Int), .int .u32 (i' : Int), .int .u64 (s' : Int), .slice qa' ql' qc', .slice va' vl' vc', .int .u64 (tm' : Int), .int .u8 (k' : Int), .slice pa' pl' pc', .int .i64 n', .string t', .slice da' dl' dc'], fun v _ => v = .bool EQ, fun v _ => v = .bool false, fun v _ => v = .bool false, fun v _ => v = .slice xa xn xc, fun v _ => v = .int .i64 xn, fun v _ => v = .bool false, fun v _ => v = .bool false] (by kernel_rfl) ?_ ?_ ?_
 ·refine ⟨k4, k4, k4, k4, k4, k4, k4, k4, k4, k4, k4, k4, k4, k4, trivial⟩
 ·refine ⟨?_, ?_, ?_, ?_, ?_, ?_, ?_, ?_, ?_, ?_, ?_, ?_, ?_, ?_, trivial⟩
  ·intro ev w hc hf hg hfix hdep hbel
   have e9 : ev (.tmp 9) = _ := hfix 9 (by decide)
   exact okb trivial rfl (by go_simp)
  ·intro ev w hc hf hg hfix hdep hbel
   have e41 : ev (.tmp 41) = _ := hdep 0 (by decide)
   have hcv := conv_row (HRA.out.below (undrewB hbel)) HNA.out
   exact okb trivial rfl (by go_simp)
  ·intro ev w hc hf hg hfix hdep hbel
   have e11 : ev (.tmp 11) = _ := hfix 11 (by decide)
   exact okb trivial rfl (by go_simp)
  ·intro ev w hc hf hg hfix hdep hbel
   have e43 : ev (.tmp 43) = _ := hdep 2 (by decide)
   have hcv := conv_row (HRB.out.below (undrewB hbel)) HNB.out
   exact okb trivial rfl (by go_simp)
  ·intro ev w hc hf hg hfix hdep hbel
   have e42 : ev (.tmp 42) = _ := hdep 1 (by decide)
   have e44 : ev (.tmp 44) = _ := hdep 3 (by decide)
   exact okb trivial rfl (by go_simp)
  ·intro ev w hc hf hg hfix hdep hbel
   have e4 : ev (.tmp 4) = _ := hfix 4 (by decide)
   obtain ⟨⟨c0, c1, c2, c3, c4, c5, c6, c7, c8, c9, c10⟩, ⟨e0, e1, e2, e3, e4, e5, e6, e7, e8, e9, e10⟩⟩ := cmcm (HX4.out.trans ((undrewB hbel).mono HX4.out.size))
   exact okb trivial rfl (by go_simp)
  ·intro ev w hc hf hg hfix hdep hbel
   have e5 : ev (.tmp 5) = _ := hfix 5 (by decide)
   obtain ⟨⟨c0, c1, c2, c3, c4, c5, c6, c7, c8, c9, c10⟩, ⟨e0, e1, e2, e3, e4, e5, e6, e7, e8, e9, e10⟩⟩ := cmcm (HX4.out.trans ((undrewB hbel).mono HX4.out.size))
   exact okb trivial rfl (by go_simp)
  ·intro ev w hc hf hg hfix hdep hbel
   have e46 : ev (.tmp 46) = _ := hdep 5 (by decide)
   have e47 : ev (.tmp 47) = _ := hdep 6 (by decide)
   refine Or.inl ⟨trivial, Or.inr ⟨7, #[.agg #[.int .u8 (r : Int), .int .u32 (i : Int), .int .u64 (s : Int), .slice qa ql qc, .slice va vl vc, .int .u64 (tm : Int), .int .u8 (k : Int), .slice pa pl pc, .int .i64 n, .string t, .slice da dl dc], .agg #[.int .u8 (r' : Int), .int .u32 (i' : Int), .int .u64 (s' : Int), .slice qa' ql' qc', .slice va' vl' vc', .int .u64 (tm' : Int), .int .u8 (k' : Int), .slice pa' pl' pc', .int .i64 n', .string t', .slice da' dl' dc']], w, by go_simp, ?_⟩⟩
   have hb0 := HB4.out.trans ((undrewB hbel).mono HB4.out.size)
   refine (refcsame_any r i s qa ql qc va vl vc tm k pa pl pc n t da dl dc lq lv lp ld r' i' s' qa' ql' qc' va' vl' vc' tm' k' pa' pl' pc' n' t' da' dl' dc' lq' lv' lp' ld' w (HQ.out.below hb0) HQl.out (HV.out.below hb0) HVl.out (HP.out.below hb0) HPl.out (HD.out.below hb0) HDl.out (HQ'.out.below hb0) HQl'.out (HV'.out.below hb0) HVl'.out (HP'.out.below hb0) HPl'.out (HD'.out.below hb0) HDl'.out).mono ?_
   rintro e w9 ⟨rfl, hb⟩
   exact ⟨_, rfl, by rw [HEQ.out], hb⟩
  ·intro ev w hc hf hg hfix hdep hbel
   have e45 : ev (.tmp 45) = _ := hdep 4 (by decide)
   have e48 : ev (.tmp 48) = _ := hdep 7 (by decide)
   exact okb trivial rfl (by go_simp)
  ·intro ev w hc hf hg hfix hdep hbel
   have e49 : ev (.tmp 49) = _ := hdep 8 (by decide)
   exact okb trivial rfl (by go_simp)
  ·intro ev w hc hf hg hfix hdep hbel
   have fg : ev (.tmp 50) = _ := hdep 9 (by decide)
   have e9 : ev (.tmp 9) = _ := hfix 9 (by decide)
   exact okb fg rfl (by go_simp)
  ·intro ev w hc hf hg hfix hdep hbel
   have fg : ev (.tmp 50) = _ := hdep 9 (by decide)
   have e51 : ev (.tmp 51) = _ := hdep 10 (by decide)
   exact okb fg rfl (by go_simp)
  ·intro ev w hc hf hg hfix hdep hbel
   have fg : ev (.tmp 50) = _ := hdep 9 (by decide)
   have e52 : ev (.tmp 52) = _ := hdep 11 (by decide)
   exact okb fg rfl (by go_simp)
  ·intro ev w hc hf hg hfix hdep hbel
   have e50 : ev (.tmp 50) = _ := hdep 9 (by decide)
   have e53 : ev (.tmp 53) = _ := hdep 12 (by decide)
   exact okb trivial rfl (by go_simp)
 ·intro v w2 hv hb2
  have r0 : v 0 = _ := hv 0 (by decide)
  have r1 : v 1 = _ := hv 1 (by decide)
  have r2 : v 2 = _ := hv 2 (by decide)
  have r3 : v 3 = _ := hv 3 (by decide)
  have r4 : v 4 = _ := hv 4 (by decide)
  have r5 : v 5 = _ := hv 5 (by decide)
  have r6 : v 6 = _ := hv 6 (by decide)
  have r7 : v 7 = _ := hv 7 (by decide)
  have r8 : v 8 = _ := hv 8 (by decide)
  have r9 : v 9 = _ := hv 9 (by decide)
  have r10 : v 10 = _ := hv 10 (by decide)
  have r11 : v 11 = _ := hv 11 (by decide)
  have r12 : v 12 = _ := hv 12 (by decide)
  have r13 : v 13 = _ := hv 13 (by decide)
  simp only [Reg.putAll, Act.put, List.setIfInBounds_toArray, List.set_cons_zero, List.set_cons_succ, r0, r1, r2, r3, r4, r5, r6, r7, r8, r9, r10, r11, r12, r13]
  clear r0 r1 r2 r3 r4 r5 r6 r7 r8 r9 r10 r11 r12 r13 hv
  have HX7 := Lib.hid (HX4.out.trans (hb2.mono HX4.out.size)); have HB7 := Lib.hid (HB4.out.trans (hb2.mono HB4.out.size)); have HRA7 := Lib.hid (HRA.out.below hb2); clear hb2 hcv1 hcv2
  have hle : xn ≤ xc := by have h := HRA7.out.le; rw [HNA.out] at h; exact h
  have hkc : ∃ kk : Nat, kk < xn ∧ kk ≤ xc ∧ (0 : Int) ≤ (kk : Int) ∧ (kk : Int) ≤ (xc : Int) ∧ wrap64 ((IntKind.u64.wrap ct).tmod (xn : Int)) = (kk : Int) := cut_at ct xn xc HPos.out hxk hle
  obtain ⟨kk, hkx, hkc, hk0, hk1, hkw⟩ := hkc
  have HKx := Lib.hid hkx; have HKc := Lib.hid hkc
  have hsl := run_slice_to xa xn xc kk hkc w2
  go_wp2_with fail
  refine (cread_x r i s ql vl tm k pl n t dl lq lv lp ld HQl.out HVl.out HPl.out HDl.out HOC.out.dot HOC.out.par HOC.out.vv HOC.out.dots HOC.out.time hk HOC.out.n1 HOC.out.n2 HMa.out xa kk xc (LA.take kk) [] (LA.drop kk) (by rw [List.take_append_drop, List.append_nil, HLA.out]) w2 (HRA7.out.take kk xc (by omega) (Nat.le_refl _) HRA7.out.2.2.2.1) (by rw [List.length_take]; have := HNA.out; omega) (by omega) (Or.inr rfl)).mono ?_
  rintro e w5 ⟨x1, x2, x3, x4, x5, x6, x7, x8, x9, x10, x11, x12, x13, x14, x15, x16, x17, x18, x19, er, rfl, her, _, _, hb⟩
  have her' : er ≠ 0 := her (by intro h; have h2 := congrArg List.length h; rw [List.length_drop] at h2; have := HNA.out; simp at h2; omega)
  have t1 : ((er : Int) == 0) = false := by simp; omega
  have t2 : ((er : Int) != 0) = true := by simp; omega
  have HB8 := Lib.hid (HB7.out.trans (hb.mono HB7.out.size)); have HRA8 := Lib.hid (HRA7.out.below hb)
  clear hb her hkw hle hk0 hk1 hsl HRA7
  have hbx := below_box w5 #[.int .u8 (x1 : Int), .int .u32 (x2 : Int), .int .u64 (x3 : Int), .slice x4 x5 x6, .slice x7 x8 x9, .int .u64 (x10 : Int), .int .u8 (x11 : Int), .slice x12 x13 x14, .int .i64 x15, .string x16, .slice x17 x18 x19] 34
  have HBx := Lib.hid hbx
  have HSrc := Lib.hid (src_row (HRA8.out.below (hbx.trans ((below_box (w5.alloc (.cells #[.int .u8 (x1 : Int), .int .u32 (x2 : Int), .int .u64 (x3 : Int), .slice x4 x5 x6, .slice x7 x8 x9, .int .u64 (x10 : Int), .int .u8 (x11 : Int), .slice x12 x13 x14, .int .i64 x15, .string x16, .slice x17 x18 x19] 34)) #[] 5).mono hbx.size))) HNA.out)
  have HBy := Lib.hid HRA8.out.byte
  have hs5 : (w5.alloc (.cells #[.int .u8 (x1 : Int), .int .u32 (x2 : Int), .int .u64 (x3 : Int), .slice x4 x5 x6, .slice x7 x8 x9, .int .u64 (x10 : Int), .int .u8 (x11 : Int), .slice x12 x13 x14, .int .i64 x15, .string x16, .slice x17 x18 x19] 34)).heap.size = w5.heap.size + 1 := by simp
  have HBBe := Lib.hid (show BB (w5.heap.size + 1) ((w5.alloc (.cells #[.int .u8 (x1 : Int), .int .u32 (x2 : Int), .int .u64 (x3 : Int), .slice x4 x5 x6, .slice x7 x8 x9, .int .u64 (x10 : Int), .int .u8 (x11 : Int), .slice x12 x13 x14, .int .i64 x15, .string x16, .slice x17 x18 x19] 34)).alloc (.cells #[] 5)) (.slice (some ⟨w5.heap.size + 1, 0, none⟩) 0 0) [] (some (w5.heap.size + 1)) from by have := BB.empty (w5.alloc (.cells #[.int .u8 (x1 : Int), .int .u32 (x2 : Int), .int .u64 (x3 : Int), .slice x4 x5 x6, .slice x7 x8 x9, .int .u64 (x10 : Int), .int .u8 (x11 : Int), .slice x12 x13 x14, .int .i64 x15, .string x16, .slice x17 x18 x19] 34)); rwa [hs5] at this)
  have HBl0 := Lib.hid (show Below (w5.heap.size + 1) (w5.alloc (.cells #[.int .u8 (x1 : Int), .int .u32 (x2 : Int), .int .u64 (x3 : Int), .slice x4 x5 x6, .slice x7 x8 x9, .int .u64 (x10 : Int), .int .u8 (x11 : Int), .slice x12 x13 x14, .int .i64 x15, .string x16, .slice x17 x18 x19] 34)) ((w5.alloc (.cells #[.int .u8 (x1 : Int), .int .u32 (x2 : Int), .int .u64 (x3 : Int), .slice x4 x5 x6, .slice x7 x8 x9, .int .u64 (x10 : Int), .int .u8 (x11 : Int), .slice x12 x13 x14, .int .i64 x15, .string x16, .slice x17 x18 x19] 34)).alloc (.cells #[] 5)) from by have := below_box (w5.alloc (.cells #[.int .u8 (x1 : Int), .int .u32 (x2 : Int), .int .u64 (x3 : Int), .slice x4 x5 x6, .slice x7 x8 x9, .int .u64 (x10 : Int), .int .u8 (x11 : Int), .slice x12 x13 x14, .int .i64 x15, .string x16, .slice x17 x18 x19] 34)) #[] 5; rwa [hs5] at this)
  have HBs0 := Lib.hid (show w5.heap.size + 1 ≤ ((w5.alloc (.cells #[.int .u8 (x1 : Int), .int .u32 (x2 : Int), .int .u64 (x3 : Int), .slice x4 x5 x6, .slice x7 x8 x9, .int .u64 (x10 : Int), .int .u8 (x11 : Int), .slice x12 x13 x14, .int .i64 x15, .string x16, .slice x17 x18 x19] 34)).alloc (.cells #[] 5)).heap.size from by simp)
  have HBs1 := Lib.hid (show w5.heap.size + 1 ≤ (w5.alloc (.cells #[.int .u8 (x1 : Int), .int .u32 (x2 : Int), .int .u64 (x3 : Int), .slice x4 x5 x6, .slice x7 x8 x9, .int .u64 (x10 : Int), .int .u8 (x11 : Int), .slice x12 x13 x14, .int .i64 x15, .string x16, .slice x17 x18 x19] 34)).heap.size from by simp)
  have HXn := Lib.hid hxk
  clear hbx hs5
  go_wp2_with (first
   | (refine wpList_append_bb rfl (.tmp 71) (.tmp 73) 37 rfl (w5.heap.size + 1) _ LA rowI rfl (HI.out.1.alloc _) _ 1 [mo] rfl (src_row (litB wI mo hmo) rfl) rfl (by simp; omega) (by have := HNA.out; omega) ?_; intro vJ wJ rowJ h4 h5 h6; obtain ⟨ja, jn, jc, rfl, hrJ, hnJ⟩ := h4.rowN; have HJ := Lib.hid hrJ; have HNJ := Lib.hid hnJ; have HPJ := Lib.hid (PT.step (HI.out.1.alloc _) (HI.out.2.alloc (Nat.le_trans HBs1.out HI.out.2.size) _) HBs1.out h4 h5); clear h4 h5 h6 hrJ hnJ)
   | (refine wpList_append_bb rfl (.tmp 69) (.tmp 70) 37 rfl (w5.heap.size + 1) _ [] (some (w5.heap.size + 1)) rfl HBBe.out _ xn LA rfl HSrc.out HNA.out HBy.out (by have := HXn.out; simp; omega) ?_; intro vI wI rowI h1 h2 h3; rw [List.nil_append] at h1; have HI := Lib.hid (And.intro h1 (HBl0.out.grown h2 HBs0.out (fun j hj => by cases hj; exact Nat.le_refl _))); clear h1 h2 h3))
  refine (cread_x r i s ql vl tm k pl n t dl lq lv lp ld HQl.out HVl.out HPl.out HDl.out HOC.out.dot HOC.out.par HOC.out.vv HOC.out.dots HOC.out.time hk HOC.out.n1 HOC.out.n2 HMa.out ja jn jc (LA ++ [mo]) [mo] [] (by rw [List.append_nil, HLA.out]) wJ HJ.out HNJ.out (by have h := HNJ.out; have h2 := HNA.out; rw [List.length_append] at h; simp at h; omega) (Or.inl rfl)).mono ?_
  rintro e w6 ⟨y1, y2, y3, y4, y5, y6, y7, y8, y9, y10, y11, y12, y13, y14, y15, y16, y17, y18, y19, er2, rfl, _, h4, _, hb6⟩
  obtain rfl := h4 rfl (by simp)
  have hb8 := HBx.out.trans (HPJ.out.below.mono (Nat.le_succ _))
  have hb9 := hb8.trans (hb6.mono hb8.size)
  have HB9 := Lib.hid (HB8.out.trans (hb9.mono HB8.out.size))
  have HBy2 := Lib.hid (below_box w6 #[.int .u8 (y1 : Int), .int .u32 (y2 : Int), .int .u64 (y3 : Int), .slice y4 y5 y6, .slice y7 y8 y9, .int .u64 (y10 : Int), .int .u8 (y11 : Int), .slice y12 y13 y14, .int .i64 y15, .string y16, .slice y17 y18 y19] 34)
  clear h4 hb6 hb8 hb9
  go_wp2_with fail
  refine (known11_any _).mono ?_
  rintro e wk ⟨rfl, hb⟩
  have hb10 := HBy2.out.trans (hb.mono HBy2.out.size)
  have HF := Lib.hid (HB9.out.trans (hb10.mono HB9.out.size)); clear hb hb10
  go_wp2_with fail
  go_ret
  exact ⟨rfl, HF.out⟩
end Go.Proofs.YthbkieghkfpbhaaGreat
