import Derived.Test.YtijbblbaabmfjaaCode11
namespace Go.Proofs.Ytijbblbaabmfjaa
open Go.RowKit Go.Buf
set_option maxRecDepth 100000 in
set_option maxHeartbeats 1600000 in
theorem back_big (n m : Int) (s : ByteArray) (a : Option Addr) (bn cap : Nat) (at_ x : Int) (w : World) (hbig : 500 < s.size ∨ 500 < bn) (hs : s.size ≤ 9223372036854775807) (hn : bn ≤ 9223372036854775807) :
    Calls Try.prog 4 #[.int .u64 n, .int .i64 m, .string s, .slice a bn cap, .int .i64 at_, .int .u8 x] w (RetBool w.heap.size w true) := by
  by_cases h1 : 500 < s.size
  · go_enter Try.func4, Try.ntmps4
    go_wp2_with fail
    refine (known_any _).mono ?_
    rintro e w1 ⟨rfl, hb⟩
    have Hb := Lib.hid hb; clear hb
    go_wp2_with fail
    go_ret
    exact ⟨rfl, Hb.out⟩
  · have h2 : 500 < bn := by omega
    clear hbig
    go_enter Try.func4, Try.ntmps4
    go_wp2_with fail
    refine (known_any _).mono ?_
    rintro e w1 ⟨rfl, hb⟩
    have Hb := Lib.hid hb; clear hb
    go_wp2_with fail
    go_ret
    exact ⟨rfl, Hb.out⟩
set_option maxRecDepth 100000 in
set_option maxHeartbeats 3200000 in
theorem back_small (n : Nat) (m : Int) (s : ByteArray) (a : Option Addr) (bn cap : Nat) (l : List Nat) (at_ : Int) (x : Nat) (w : World) (hr : Row w a cap l) (hl : l.length = bn) (hbn : bn ≤ 500) (hsn : s.size ≤ 500)
    (hn : n < 18446744073709551616) (hm1 : -9223372036854775808 ≤ m) (hm2 : m ≤ 9223372036854775807) (hx : x < 256) :
    Calls Try.prog 4 #[.int .u64 n, .int .i64 m, .string s, .slice a bn cap, .int .i64 at_, .int .u8 x] w (RetBool w.heap.size w true) := by
  have HR := Lib.hid hr; have HL := Lib.hid hl; have HN := Lib.hid hn
  have hle : bn ≤ cap := by rw [← hl]; exact hr.le
  have hcap := hr.cap
  clear hr hl hn
  go_enter Try.func4, Try.ntmps4
  go_wp2_with fail
  refine (num_any w.heap.size (.slice none 0 0) [] none n _ (BB.nil (Nat.le_refl _)) HN.out (by decide)).mono ?_
  rintro e w1 ⟨v1, row1, rfl, h1, h2, h3⟩
  have HB1 := Lib.hid h1; have HG1 := Lib.hid h2; have HN1 := Lib.hid h3
  clear h1 h2 h3
  go_wp2_with fail
  have hnl := Cd.num_len n
  have hml := Cd.num_len (Cd.uns m)
  have hsl := Cd.num_len s.size
  refine (int_any w.heap.size v1 _ row1 m _ HB1.out hm1 hm2 (by simp; omega)).mono ?_
  rintro e w2 ⟨v2, row2, rfl, h1, h2, h3⟩
  have HB2 := Lib.hid h1; have HG2 := Lib.hid (grown_trans HG1.out h2 HN1.out); have HN2 := Lib.hid (HN1.out.trans h3 HG1.out.size)
  clear h1 h2 h3
  go_wp2_with fail
  refine (text_any w.heap.size v2 _ row2 s _ HB2.out (by omega) (by simp; omega)).mono ?_
  rintro e w3 ⟨v3, row3, rfl, h1, h2, h3⟩
  have HB3 := Lib.hid h1; have HG3 := Lib.hid (grown_trans HG2.out h2 HN2.out); have HN3 := Lib.hid (HN2.out.trans h3 HG2.out.size)
  clear h1 h2 h3
  have hb03 : Below w.heap.size w w3 := below_of_grown HG3.out (Nat.le_refl _) (fun k hk => by cases hk)
  have HB03 := Lib.hid hb03; clear hb03
  have hlen4 : ([] ++ Cd.num n ++ Cd.num (Cd.uns m) ++ (Cd.num s.size ++ strL s)).length + bn ≤ 140737488355328 := by simp [strL_length]; omega
  go_wp2_with (refine wpList_append_bb rfl (.tmp 39) (.tmp 40) 22 rfl w.heap.size _ _ row3 rfl HB3.out _ bn l rfl (src_row (HR.out.below HB03.out) HL.out) HL.out HR.out.byte hlen4 ?_; intro v4 w4 row4 h1 h2 h3)
  obtain ⟨a4, c4, rfl, hrow4⟩ := h1.row
  obtain ⟨L, hL⟩ : ∃ L, L = [] ++ Cd.num n ++ Cd.num (Cd.uns m) ++ (Cd.num s.size ++ strL s) ++ l := ⟨_, rfl⟩
  rw [← hL] at hrow4 ⊢
  have hb04 : Below w.heap.size w w4 := HB03.out.trans (below_of_grown h2 HB03.out.size (fun k hk => (HB3.out.2.row_le k hk).1))
  have H4 := Lib.hid hrow4; have HB04 := Lib.hid hb04; have HLL := Lib.hid hL
  clear h1 h2 h3 hrow4 hb04 hL
  go_wp2_with fail
  have hLlen : L.length ≤ 140737488355328 := by rw [HLL.out]; simp [strL_length]; have := HL.out; omega
  refine (NewReader_any a4 L.length c4 L _ H4.out rfl hLlen).mono ?_
  rintro e w5 ⟨p, rfl, h1, h2, h3⟩
  have hp : w.heap.size ≤ p := Nat.le_trans HB04.out.size h3
  have HB05 := Lib.hid (HB04.out.trans (h2.mono HB04.out.size)); have HD5 := Lib.hid h1; have HP := Lib.hid hp
  have e1 : numR L 0 = (n, Cd.num (Cd.uns m) ++ (Cd.num s.size ++ (strL s ++ l)), 0) := by
    rw [HLL.out, List.nil_append, List.append_assoc, List.append_assoc, List.append_assoc, numR_num HN.out]
  have e2 : intR (Cd.num (Cd.uns m) ++ (Cd.num s.size ++ (strL s ++ l))) 0 = (m, Cd.num s.size ++ (strL s ++ l), 0) := intR_num hm1 hm2 _
  have e3 : txtR (Cd.num s.size ++ (strL s ++ l)) 0 500 = (strL s, l, 0) := by
    have := txtR_text (strL s) l 500 (by rw [strL_length]; omega) (by rw [strL_length]; omega)
    rw [strL_length] at this; exact this
  have E1 := Lib.hid e1; have E2 := Lib.hid e2; have E3 := Lib.hid e3
  clear h1 h2 h3 hp e1 e2 e3 hlen4 hLlen
  go_wp2_with fail
  refine (Num_at HD5.out E1.out).mono ?_
  rintro e w6 ⟨rfl, h1, h2⟩
  have HB06 := Lib.hid (HB05.out.trans (below_of_grown h2 HB05.out.size (fun k hk => by cases hk; exact HP.out))); have HD6 := Lib.hid h1
  clear h1 h2
  have tn : ((n : Int) != (n : Int)) = false := by simp
  go_wp2_with fail
  refine (Int_at HD6.out E2.out).mono ?_
  rintro e w7 ⟨rfl, h1, h2⟩
  have HB07 := Lib.hid (HB06.out.trans (below_of_grown h2 HB06.out.size (fun k hk => by cases hk; exact HP.out))); have HD7 := Lib.hid h1
  clear h1 h2
  go_wp2_with fail
  refine (Text_at HD7.out (by decide) (by decide) E3.out).mono ?_
  rw [strB_strL]
  rintro e w8 ⟨rfl, h1, h2⟩
  have HB08 := Lib.hid (HB07.out.trans (below_of_grown h2 HB07.out.size (fun k hk => by cases hk; exact HP.out))); have HD8 := Lib.hid h1
  clear h1 h2
  go_wp2_with fail
  refine (Err_at HD8.out).mono ?_
  rintro e w' ⟨rfl, rfl⟩
  go_wp2_with fail
  refine (Left_at HD8.out).mono ?_
  rw [HL.out]
  rintro e w' ⟨rfl, rfl⟩
  go_wp2_with fail
  refine (frame_own a bn cap l _ (HR.out.below HB08.out) HL.out (by omega)).mono ?_
  rintro e w9 ⟨v9, rfl, h1, h2⟩
  obtain ⟨F, hF⟩ : ∃ F, F = frameL l := ⟨_, rfl⟩
  have hFl := frameL_len l
  have hFb : ∀ x ∈ F, x < 256 := by rw [hF]; exact frameL_byte HR.out.byte (by rw [HL.out]; omega)
  rw [HL.out, ← hF] at hFl
  have hbl := Cd.num_len bn
  rw [← hF] at h1
  obtain ⟨fn, hfn⟩ : ∃ fn, fn = F.length := ⟨_, rfl⟩
  rw [← hfn] at h1 hFl
  obtain ⟨g, fc, cur, rfl, hg, hblk, hc1, hc2, hcs, htake⟩ := own_open h1 (by omega)
  have hg0 : w.heap.size ≤ g := Nat.le_trans HB08.out.size hg
  have h5 : 5 ≤ fn := by omega
  have hf600 : fn ≤ 600 := by omega
  have HB09 := Lib.hid (HB08.out.trans (h2.mono HB08.out.size)); have Hblk := Lib.hid hblk; have Htake := Lib.hid htake; have HG0 := Lib.hid hg0; have HF := Lib.hid hF; have HFN := Lib.hid hfn; have HFB := Lib.hid hFb; have HFL := Lib.hid hFl
  have hrow9 := own_row hblk hfn.symm hFb hc1 hc2 htake
  have HR9 := Lib.hid hrow9
  clear h1 h2 hg hblk htake hg0 hF hfn hFb hFl hrow9 hcs hbl
  have hlenA : ([] : List Nat).length + fn ≤ 140737488355328 := by simp; omega
  have hlenB : ([] ++ F).length + s.size ≤ 140737488355328 := by rw [List.nil_append, ← HFN.out]; omega
  have FNs := HFN.out.symm
  have HFNs := Lib.hid FNs
  clear FNs
  go_wp2_with (first
    | (refine wpList_append_bb rfl (.tmp 82) (.tmp 83) 22 rfl w9.heap.size _ [] _ rfl (BB.empty w9) _ fn F rfl (src_row (HR9.out.alloc _) HFNs.out) HFNs.out HFB.out hlenA ?_; intro v10 w10 row10 h1 h2 h3)
    | (refine wpList_append_bb rfl (.tmp 84) (.tmp 85) 9 rfl w9.heap.size _ ([] ++ F) _ rfl (by assumption) _ s.size (strL s) rfl (src_str s) (strL_length s) (strL_byte s) hlenB ?_; intro v11 w11 row11 h4 h5 h6))
  obtain ⟨a11, c11, rfl, hrow11⟩ := h4.row
  have hb10 : Below w9.heap.size w9 w10 := ((Below.refl _ _).alloc (Nat.le_refl _) _).trans (below_of_grown h2 (by simp) (fun k hk => by cases hk; exact Nat.le_refl _))
  have hb11 : Below w9.heap.size w9 w11 := hb10.trans (below_of_grown h5 hb10.size (fun k hk => (h1.2.row_le k hk).1))
  have HB11 := Lib.hid hb11; have HR11 := Lib.hid hrow11
  have HBW11 := Lib.hid (HB09.out.trans (hb11.mono HB09.out.size))
  clear h1 h2 h3 h4 h5 h6 hb10 hb11 hrow11 hlenA hlenB
  refine (unframe_any a11 _ c11 _ _ HR11.out rfl).mono ?_
  have eu : unfr ([] ++ F ++ strL s) = (l, fn, 0) := by rw [List.nil_append, HF.out, unfr_frame l (strL s) (by rw [HL.out]; omega), ← HF.out, HFNs.out]
  rw [eu]
  rintro e w12 ⟨v12, row12, rfl, h1, h2⟩
  obtain ⟨a12, c12, rfl, hrow12⟩ := h1.row
  have hcv1 := conv_row hrow12 HL.out
  have HBW12 := Lib.hid (HBW11.out.trans (h2.mono HBW11.out.size))
  have hcv2 := conv_row (HR.out.below HBW12.out) HL.out
  have HB12 := Lib.hid (HB11.out.trans (h2.mono HB11.out.size))
  rw [HL.out]
  clear h1 h2 eu hrow12
  go_wp2_with fail
  have hrow13 := (HR9.out.below HB12.out).take (fn - 1) fc (by omega) (Nat.le_refl _) (fun h => by cases h)
  have es : unfr (F.take (fn - 1)) = ([], 0, 5) := by
    have := unfr_short l (by rw [HL.out]; omega)
    rw [← HF.out, HFNs.out] at this; exact this
  refine (unframe_any _ (fn - 1) fc _ _ hrow13 (by rw [List.length_take, HFNs.out]; omega)).mono ?_
  rw [es]
  rintro e w13 ⟨v13, row13, rfl, h1, h2⟩
  have HBW13 := Lib.hid (HBW12.out.trans (h2.mono HBW12.out.size))
  have HB13 := Lib.hid (HB12.out.trans (h2.mono HB12.out.size))
  clear h1 h2 es hrow13 hcv1 hcv2
  obtain ⟨i, hi1, hi2⟩ : ∃ i : Nat, (IntKind.u64.wrap at_).tmod (fn : Int) = (i : Int) ∧ i < fn := by
    have h1 := u64_wrap_bounds at_
    have h2 := Int.emod_nonneg (IntKind.u64.wrap at_) (b := (fn : Int)) (by omega)
    have h3 := Int.emod_lt_of_pos (IntKind.u64.wrap at_) (b := (fn : Int)) (by omega)
    refine ⟨((IntKind.u64.wrap at_) % (fn : Int)).toNat, ?_, by omega⟩
    rw [Int.tmod_eq_emod_of_nonneg h1.1]; omega
  have hblk13 : w13.heap[g]? = some (.cells cur 5 (0, 0)) := (HB13.out.block g (Array.getElem?_eq_some_iff.1 Hblk.out).1).trans Hblk.out
  obtain ⟨y, hy⟩ : ∃ y, y = F.getD i 0 := ⟨_, rfl⟩
  have hy8 : y < 256 := by rw [hy, List.getD_eq_getElem?_getD, List.getElem?_eq_getElem (by rw [HFNs.out]; exact hi2)]; exact HFB.out _ (List.getElem_mem _)
  have hcell : w13.cell? ⟨g, i, none⟩ = some (.int .u8 (y : Nat)) := by
    obtain ⟨q, hq, hc⟩ := (own_row hblk13 HFNs.out HFB.out hc1 hc2 Htake.out).2.2.2.2 i y (by rw [hy]; simp [List.getD, HFNs.out, hi2])
    obtain rfl := Option.some.inj hq
    simpa [Addr.add_mid] using hc
  have hfr : w13.frozen? ⟨g, i, none⟩ = false := frozen_of_row w13 g i cur 5 hblk13
  have Hblk13 := Lib.hid hblk13; have Hy := Lib.hid hy
  clear hblk13 hy
  by_cases hi0 : 0 < i
  · by_cases hb128 : bn < 128
    · by_cases hxy : x = y
      · have txy : ((y : Int) != (x : Int)) = false := by simp; omega
        clear hxy
        go_wp2_with fail
        refine (known_any _).mono ?_
        rintro e w14 ⟨rfl, hk⟩
        have HK := Lib.hid hk; clear hk
        go_wp2_with fail
        go_ret
        exact ⟨rfl, HBW13.out.trans (HK.out.mono HBW13.out.size)⟩
      · have txy : ((y : Int) != (x : Int)) = true := by simp; omega
        have HXY := Lib.hid hxy
        clear hxy
        have hrow14 := own_set Hblk13.out HFNs.out HFB.out hc1 hc2 Htake.out i x hx
        have hb14 : Below w.heap.size w (w13.setCell ⟨g, i, none⟩ (.int .u8 (x : Nat))) := HBW13.out.setCell HG0.out _
        have HR14 := Lib.hid hrow14; have HB14 := Lib.hid hb14
        have e6 : unfr (F.set i x) = ([], 0, 6) := by
          rw [HF.out]
          exact unfr_set l HR.out.byte (by rw [HL.out]; exact hb128) i x hi0 (by rw [← HF.out, HFNs.out]; exact hi2) hx (by rw [← HF.out, ← Hy.out]; exact HXY.out)
        have E6 := Lib.hid e6
        clear hrow14 hb14 e6
        go_wp2_with fail
        refine (unframe_any _ fn fc _ _ HR14.out (by rw [List.length_set]; exact HFNs.out)).mono ?_
        rw [E6.out]
        rintro e w15 ⟨v15, row15, rfl, h1, h2⟩
        have HBW15 := Lib.hid (HB14.out.trans (h2.mono HB14.out.size))
        clear h1 h2
        go_wp2_with fail
        refine (known_any _).mono ?_
        rintro e w14 ⟨rfl, hk⟩
        have HK := Lib.hid hk; clear hk
        go_wp2_with fail
        go_ret
        exact ⟨rfl, HBW15.out.trans (HK.out.mono HBW15.out.size)⟩
    · go_wp2_with fail
      refine (known_any _).mono ?_
      rintro e w14 ⟨rfl, hk⟩
      have HK := Lib.hid hk; clear hk
      go_wp2_with fail
      go_ret
      exact ⟨rfl, HBW13.out.trans (HK.out.mono HBW13.out.size)⟩
  · obtain rfl : i = 0 := by omega
    go_wp2_with fail
    refine (known_any _).mono ?_
    rintro e w14 ⟨rfl, hk⟩
    have HK := Lib.hid hk; clear hk
    go_wp2_with fail
    go_ret
    exact ⟨rfl, HBW13.out.trans (HK.out.mono HBW13.out.size)⟩
end Go.Proofs.Ytijbblbaabmfjaa
