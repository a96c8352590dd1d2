import Derived.Test.YtplafpchgfjomaaZCode3
import Derived.Test.YtplafpchgfjomaaZSt1
import Derived.Test.YtplafpchgfjomaaZSt15
import Derived.Test.YtplafpchgfjomaaZSt8
namespace Go.Proofs.Ytplafpchgfjomaa
open Go.RowKit Go.Buf Go.LB
set_option linter.unusedSimpArgs false
set_option linter.unusedVariables false
theorem ok_of_may {w : World} {d : Nat} {a : Option Addr} {cap : Nat} {t : List Tm.N} (h : TRow w d a cap t) (hn : t.length ≤ 100000000) (hm : Tm.may strLt 3 t = true) : takesT 3 t ∧ deepT 3 t ∧ okT 3 t :=
 have h1 := takesT_of_may strLt 3 t (okT_of_row 3 h) hn hm
 ⟨h1, deepT_of_takes 3 t h1, okT_of_row 3 h⟩
set_option maxRecDepth 100000 in
set_option maxHeartbeats 12800000 in
theorem lawState_any (d : Nat) (a : Option Addr) (n cap : Nat) (t : List Tm.N) (d2 : Nat) (a2 : Option Addr) (n2 cap2 : Nat) (t2 : List Tm.N) (ct : Int) (mo : Nat) (W : World) (ht : TRow W d a cap t) (hn : t.length = n) (hs : sz 10 t ≤ 100000000) (ht2 : TRow W d2 a2 cap2 t2) (hn2 : t2.length = n2) (hs2 : sz 10 t2 ≤ 100000000) (hct1 : -9223372036854775808 ≤ ct) (hct2 : ct ≤ 9223372036854775807) (hmo : mo < 256) :
  Calls Try.prog 3 #[.slice a n cap, .slice a2 n2 cap2, .int .i64 ct, .int .u8 (mo : Int)] W fun e w' => e = .returned (.bool true) ∧ Below W.heap.size W w' := by
 have hnb : n ≤ 100000000 := by have h : t.length ≤ sz 10 t := sz_len 9 t; omega
 have hnb2 : n2 ≤ 100000000 := by have h : t2.length ≤ sz 10 t2 := sz_len 9 t2; omega
 have HT := Lib.hid ht; have HN := Lib.hid hn; have HS := Lib.hid hs; have HT2 := Lib.hid ht2; have HN2 := Lib.hid hn2; have HS2 := Lib.hid hs2; have HCt1 := Lib.hid hct1; have HCt2 := Lib.hid hct2; have HNb := Lib.hid hnb; have HNb2 := Lib.hid hnb2
 clear ht hn hs ht2 hn2 hs2 hct1 hct2 hnb hnb2
 go_enter Try.func3, Try.ntmps3
 go_wp2_with fail
 refine (sgreat_any d a n cap t W HT.out HN.out HS.out).mono ?_
 rintro e w1 ⟨rfl, hb⟩
 have HB1 := Lib.hid hb; clear hb
 cases hg1 : decide (1500 < sz 10 t)
 case true =>
  clear hg1
  go_wp2_with fail
  refine (known09_any _).mono ?_
  rintro e wk ⟨rfl, hb⟩
  have HF := Lib.hid (HB1.out.trans (hb.mono HB1.out.size)); clear hb
  go_wp2_with fail
  go_ret
  exact ⟨rfl, HF.out⟩
 have HG1 := Lib.hid (show sz 10 t ≤ 1500 by have := of_decide_eq_false hg1; omega); clear hg1
 go_wp2_with fail
 refine (sgreat_any d2 a2 n2 cap2 t2 w1 (TRow.below HB1.out HT2.out) HN2.out HS2.out).mono ?_
 rintro e w2 ⟨rfl, hb⟩
 have HB2 := Lib.hid (HB1.out.trans (hb.mono HB1.out.size)); clear hb
 cases hg2 : decide (1500 < sz 10 t2)
 case true =>
  clear hg2
  go_wp2_with fail
  refine (known09_any _).mono ?_
  rintro e wk ⟨rfl, hb⟩
  have HF := Lib.hid (HB2.out.trans (hb.mono HB2.out.size)); clear hb
  go_wp2_with fail
  go_ret
  exact ⟨rfl, HF.out⟩
 have HG2 := Lib.hid (show sz 10 t2 ≤ 1500 by have := of_decide_eq_false hg2; omega); clear hg2
 go_wp2_with fail
 refine (sbytes_any d a n cap t w2 (TRow.below HB2.out HT.out) HN.out (fun _ => by have := trE_length 3 10 t (by decide); have := HG1.out; omega) HNb.out).mono ?_
 rintro e w3 ⟨hca, hb⟩
 have HB3 := Lib.hid (HB2.out.trans (hb.mono HB2.out.size)); clear hb
 rcases hca with ⟨_, rfl⟩ | ⟨hma, va3, ra3, rfl, hya⟩
 ·go_wp2_with fail
  refine (sbytes_any d2 a2 n2 cap2 t2 w3 (TRow.below HB3.out HT2.out) HN2.out (fun _ => by have := trE_length 3 10 t2 (by decide); have := HG2.out; omega) HNb2.out).mono ?_
  rintro e w4 ⟨hcb, hb⟩
  have HB4 := Lib.hid (HB3.out.trans (hb.mono HB3.out.size)); clear hb
  rcases hcb with ⟨_, rfl⟩ | ⟨hmb, vb4, rb4, rfl, hyb⟩
  ·skip
   go_wp2_with fail
   refine (known09_any _).mono ?_
   rintro e wk ⟨rfl, hb⟩
   have HF := Lib.hid (HB4.out.trans (hb.mono HB4.out.size)); clear hb
   go_wp2_with fail
   go_ret
   exact ⟨rfl, HF.out⟩
  ·clear hyb
   go_wp2_with fail
   refine (known09_any _).mono ?_
   rintro e wk ⟨rfl, hb⟩
   have HF := Lib.hid (HB4.out.trans (hb.mono HB4.out.size)); clear hb
   go_wp2_with fail
   go_ret
   exact ⟨rfl, HF.out⟩
 obtain ⟨xa, xn, xc, rfl, hrA, hnA⟩ := hya.rowN
 have HMa := Lib.hid hma; have HRA := Lib.hid hrA; have HNA := Lib.hid hnA
 clear hya hrA hnA hma
 go_wp2_with fail
 refine (sbytes_any d2 a2 n2 cap2 t2 w3 (TRow.below HB3.out HT2.out) HN2.out (fun _ => by have := trE_length 3 10 t2 (by decide); have := HG2.out; omega) HNb2.out).mono ?_
 rintro e w4 ⟨hcb, hb⟩
 have HB4 := Lib.hid (HB3.out.trans (hb.mono HB3.out.size)); have HRA := Lib.hid (HRA.out.below hb); clear hb
 rcases hcb with ⟨_, rfl⟩ | ⟨hmb, vb4, rb4, rfl, hyb⟩
 ·skip
  go_wp2_with fail
  refine (known09_any _).mono ?_
  rintro e wk ⟨rfl, hb⟩
  have HF := Lib.hid (HB4.out.trans (hb.mono HB4.out.size)); clear hb
  go_wp2_with fail
  go_ret
  exact ⟨rfl, HF.out⟩
 obtain ⟨ya, yn, yc, rfl, hrB, hnB⟩ := hyb.rowN
 obtain ⟨tk1, dp1, ok1⟩ := ok_of_may HT.out (by rw [HN.out]; exact HNb.out) HMa.out
 obtain ⟨tk2, dp2, ok2⟩ := ok_of_may HT2.out (by rw [HN2.out]; exact HNb2.out) hmb
 have HMb := Lib.hid hmb; have HRB := Lib.hid hrB; have HNB := Lib.hid hnB; have HTk1 := Lib.hid tk1; have HD1 := Lib.hid dp1
 obtain ⟨LA, hLA⟩ : ∃ L, L = trE 3 t := ⟨_, rfl⟩
 obtain ⟨LB, hLB⟩ : ∃ L, L = trE 3 t2 := ⟨_, rfl⟩
 rw [← hLA] at HRA HNA
 rw [← hLB] at HRB HNB
 have hpos : 0 < xn := by have h := HNA.out; rw [← h, hLA]; exact trE_pos 3 t
 have hxk : xn ≤ 200000 := by have h := HNA.out; rw [← h, hLA]; have := trE_length 3 10 t (by decide); have := HG1.out; omega
 have hcv1 := conv_row HRA.out HNA.out
 have hcv2 := conv_row HRB.out HNB.out
 have hx0 : ((xn : Int) == 0) = false := by simp; omega
 obtain ⟨EQ, hEQ⟩ : ∃ b : Bool, (b = true ↔ t = t2) := by
  classical
  exact ⟨decide (t = t2), by simp⟩
 have hst : ((strB LA).toList == (strB LB).toList) = EQ := by
  by_cases h : t = t2
  ·have hl : LA = LB := by rw [hLA, hLB, h]
   rw [hl, hEQ.2 h]; simp
  ·have hne : strB LA ≠ strB LB := fun e => h (by
    have h2 := congrArg strL e
    rw [strL_strB HRA.out.byte, strL_strB HRB.out.byte, hLA, hLB] at h2
    have h3 := trE_inj 3 t t2 [] [] dp1 dp2 ok1 ok2 (by have := HN.out; have := HNb.out; omega) (by have := HN2.out; have := HNb2.out; omega) (by rw [h2])
    exact h3.1)
   rw [str_ne hne]
   cases EQ
   ·rfl
   ·exact absurd (hEQ.1 rfl) h
 have HLA := Lib.hid hLA; have HLB := Lib.hid hLB; have HPos := Lib.hid hpos; have HEQ := Lib.hid hEQ
 clear hLA hLB hEQ hyb hrB hnB hmb tk1 tk2 dp1 dp2 ok1 ok2
 go_wp2_with fail
 refine Reg.region_list (by kernel_rfl) [fun v _ => v = .slice xa xn xc, fun v _ => v = .string (strB LA), fun v _ => v = .slice ya yn yc, fun v _ => v = .string (strB LB), fun v _ => v = .bool EQ, fun v _ => v = .slice a n cap, fun v _ => v = .slice a2 n2 cap2, fun v _ => v = .bool EQ, fun v _ => v = .bool false, fun v _ => v = .bool false, fun v _ => v = .slice xa xn xc, fun v _ => v = .int .i64 xn, fun v _ => v = .bool false, fun v _ => v = .bool false] (by kernel_rfl) ?_ ?_ ?_
 ·refine ⟨k4, k4, k4, k4, k4, k4, k4, k4, k4, k4, k4, k4, k4, k4, trivial⟩
 ·refine ⟨?_, ?_, ?_, ?_, ?_, ?_, ?_, ?_, ?_, ?_, ?_, ?_, ?_, ?_, trivial⟩
  ·intro ev w hc hf hg hfix hdep hbel
   have e9 : ev (.tmp 9) = _ := hfix 9 (by decide)
   exact okb trivial rfl (by go_simp)
  ·intro ev w hc hf hg hfix hdep hbel
   have e41 : ev (.tmp 41) = _ := hdep 0 (by decide)
   have hcv := conv_row (HRA.out.below (undrewX hbel)) HNA.out
   exact okb trivial rfl (by go_simp)
  ·intro ev w hc hf hg hfix hdep hbel
   have e11 : ev (.tmp 11) = _ := hfix 11 (by decide)
   exact okb trivial rfl (by go_simp)
  ·intro ev w hc hf hg hfix hdep hbel
   have e43 : ev (.tmp 43) = _ := hdep 2 (by decide)
   have hcv := conv_row (HRB.out.below (undrewX hbel)) HNB.out
   exact okb trivial rfl (by go_simp)
  ·intro ev w hc hf hg hfix hdep hbel
   have e42 : ev (.tmp 42) = _ := hdep 1 (by decide)
   have e44 : ev (.tmp 44) = _ := hdep 3 (by decide)
   exact okb trivial rfl (by go_simp)
  ·intro ev w hc hf hg hfix hdep hbel
   have e0 : ev (.tmp 0) = _ := hfix 0 (by decide)
   exact okb trivial rfl (by go_simp)
  ·intro ev w hc hf hg hfix hdep hbel
   have e1 : ev (.tmp 1) = _ := hfix 1 (by decide)
   exact okb trivial rfl (by go_simp)
  ·intro ev w hc hf hg hfix hdep hbel
   have e46 : ev (.tmp 46) = _ := hdep 5 (by decide)
   have e47 : ev (.tmp 47) = _ := hdep 6 (by decide)
   refine Or.inl ⟨trivial, Or.inr ⟨7, #[.slice a n cap, .slice a2 n2 cap2], w, by go_simp, ?_⟩⟩
   have hb0 := HB4.out.trans ((undrewX hbel).mono HB4.out.size)
   refine (refSame_any 3 d d2 a a2 n n2 cap cap2 t t2 w (TRow.below hb0 HT.out) (TRow.below hb0 HT2.out) HN.out HN2.out HD1.out).mono ?_
   rintro e w9 ⟨⟨b, rfl, hbq⟩, hb⟩
   have hbe : b = EQ := Bool.eq_iff_iff.2 (hbq.trans HEQ.out.symm)
   exact ⟨_, rfl, by rw [hbe], hb⟩
  ·intro ev w hc hf hg hfix hdep hbel
   have e45 : ev (.tmp 45) = _ := hdep 4 (by decide)
   have e48 : ev (.tmp 48) = _ := hdep 7 (by decide)
   exact okb trivial rfl (by go_simp)
  ·intro ev w hc hf hg hfix hdep hbel
   have e49 : ev (.tmp 49) = _ := hdep 8 (by decide)
   exact okb trivial rfl (by go_simp)
  ·intro ev w hc hf hg hfix hdep hbel
   have fg : ev (.tmp 50) = _ := hdep 9 (by decide)
   have e9 : ev (.tmp 9) = _ := hfix 9 (by decide)
   exact okb fg rfl (by go_simp)
  ·intro ev w hc hf hg hfix hdep hbel
   have fg : ev (.tmp 50) = _ := hdep 9 (by decide)
   have e51 : ev (.tmp 51) = _ := hdep 10 (by decide)
   exact okb fg rfl (by go_simp)
  ·intro ev w hc hf hg hfix hdep hbel
   have fg : ev (.tmp 50) = _ := hdep 9 (by decide)
   have e52 : ev (.tmp 52) = _ := hdep 11 (by decide)
   exact okb fg rfl (by go_simp)
  ·intro ev w hc hf hg hfix hdep hbel
   have e50 : ev (.tmp 50) = _ := hdep 9 (by decide)
   have e53 : ev (.tmp 53) = _ := hdep 12 (by decide)
   exact okb trivial rfl (by go_simp)
 ·intro v w2 hv hb2
  have r0 : v 0 = _ := hv 0 (by decide)
  have r1 : v 1 = _ := hv 1 (by decide)
  have r2 : v 2 = _ := hv 2 (by decide)
  have r3 : v 3 = _ := hv 3 (by decide)
  have r4 : v 4 = _ := hv 4 (by decide)
  have r5 : v 5 = _ := hv 5 (by decide)
  have r6 : v 6 = _ := hv 6 (by decide)
  have r7 : v 7 = _ := hv 7 (by decide)
  have r8 : v 8 = _ := hv 8 (by decide)
  have r9 : v 9 = _ := hv 9 (by decide)
  have r10 : v 10 = _ := hv 10 (by decide)
  have r11 : v 11 = _ := hv 11 (by decide)
  have r12 : v 12 = _ := hv 12 (by decide)
  have r13 : v 13 = _ := hv 13 (by decide)
  simp only [Reg.putAll, Act.put, List.setIfInBounds_toArray, List.set_cons_zero, List.set_cons_succ, r0, r1, r2, r3, r4, r5, r6, r7, r8, r9, r10, r11, r12, r13]
  clear r0 r1 r2 r3 r4 r5 r6 r7 r8 r9 r10 r11 r12 r13 hv
  have HB7 := Lib.hid (HB4.out.trans (hb2.mono HB4.out.size)); have HRA7 := Lib.hid (HRA.out.below hb2); clear hb2 hcv1 hcv2
  have hle : xn ≤ xc := by have h := HRA7.out.le; rw [HNA.out] at h; exact h
  have hkc : ∃ kk : Nat, kk < xn ∧ kk ≤ xc ∧ (0 : Int) ≤ (kk : Int) ∧ (kk : Int) ≤ (xc : Int) ∧ wrap64 ((IntKind.u64.wrap ct).tmod (xn : Int)) = (kk : Int) := cut_at ct xn xc HPos.out hxk hle
  obtain ⟨kk, hkx, hkc, hk0, hk1, hkw⟩ := hkc
  have HKx := Lib.hid hkx; have HKc := Lib.hid hkc
  have hsl := run_slice_to xa xn xc kk hkc w2
  go_wp2_with fail
  refine (sread_x t HTk1.out xa kk xc (LA.take kk) [] (LA.drop kk) (by rw [List.take_append_drop, List.append_nil, HLA.out]) _ (HRA7.out.take kk xc (by omega) (Nat.le_refl _) HRA7.out.2.2.2.1) (by rw [List.length_take]; have := HNA.out; omega) (by omega) (Or.inr rfl)).mono ?_
  rintro e w5 ⟨v5, er, rfl, ⟨her, _, _⟩, hb⟩
  have her' : er ≠ 0 := her (by intro h; have h2 := congrArg List.length h; rw [List.length_drop] at h2; have := HNA.out; simp at h2; omega)
  have t1' : ((er : Int) == 0) = false := by simp; omega
  have t2' : ((er : Int) != 0) = true := by simp; omega
  have HB8 := Lib.hid (HB7.out.trans (hb.mono HB7.out.size)); have HRA8 := Lib.hid (HRA7.out.below hb)
  clear hb her hkw hle hk0 hk1 hsl HRA7
  have HSrc := Lib.hid (src_row (HRA8.out.below (below_box3 w5 #[] 5)) HNA.out)
  have HBy := Lib.hid HRA8.out.byte
  have HBBe := Lib.hid (BB.empty w5)
  have HBl0 := Lib.hid (below_box3 w5 #[] 5)
  have HBs0 := Lib.hid (show w5.heap.size ≤ (w5.alloc (.cells #[] 5)).heap.size from by simp)
  have HXn := Lib.hid hxk
  go_wp2_with (first
   | (refine wpList_append_bb rfl (.tmp 71) (.tmp 73) 26 rfl w5.heap.size _ LA rowI rfl (HI.out.1.alloc _) _ 1 [mo] rfl (src_row (litB wI mo hmo) rfl) rfl (by simp; omega) (by have := HNA.out; omega) ?_; intro vJ wJ rowJ h4 h5 h6; obtain ⟨ja, jn, jc, rfl, hrJ, hnJ⟩ := h4.rowN; have HJ := Lib.hid hrJ; have HNJ := Lib.hid hnJ; have HPJ := Lib.hid (PT.step (HI.out.1.alloc _) (HI.out.2.alloc HI.out.2.size _) (Nat.le_refl _) h4 h5); clear h4 h5 h6 hrJ hnJ)
   | (refine wpList_append_bb rfl (.tmp 69) (.tmp 70) 26 rfl w5.heap.size _ [] (some w5.heap.size) rfl HBBe.out _ xn LA rfl HSrc.out HNA.out HBy.out (by have := HXn.out; simp; omega) ?_; intro vI wI rowI h1 h2 h3; rw [List.nil_append] at h1; have HI := Lib.hid (And.intro h1 (HBl0.out.grown h2 HBs0.out (fun j hj => by cases hj; exact Nat.le_refl _))); clear h1 h2 h3))
  refine (sread_x t HTk1.out ja jn jc (LA ++ [mo]) [mo] [] (by rw [List.append_nil, HLA.out]) wJ HJ.out HNJ.out (by have h := HNJ.out; have h2 := HNA.out; have h3 := HXn.out; rw [List.length_append] at h; simp at h; omega) (Or.inl rfl)).mono ?_
  rintro e w6 ⟨v6, er2, rfl, ⟨_, h4, _⟩, hb6⟩
  obtain rfl := h4 rfl (Or.inl (by simp))
  have hb8 := HPJ.out.below
  have hb9 := hb8.trans (hb6.mono hb8.size)
  have HB9 := Lib.hid (HB8.out.trans (hb9.mono HB8.out.size))
  clear h4 hb6 hb8 hb9
  go_wp2_with fail
  refine (known09_any _).mono ?_
  rintro e wk ⟨rfl, hb⟩
  have HF := Lib.hid (HB9.out.trans (hb.mono HB9.out.size)); clear hb
  go_wp2_with fail
  go_ret
  exact ⟨rfl, HF.out⟩
end Go.Proofs.Ytplafpchgfjomaa
