import Derived.Test.YtfebbdnibimmmaaDot15
import Derived.Test.YtfebbdnibimmmaaDot16
import Derived.Test.YtfebbdnibimmmaaDot17
namespace Go.Proofs.Ytfebbdnibimmmaa
open Go.RowKit Go.Maps
set_option maxHeartbeats 400000 in
theorem of_any (r i s : Int) (w : World) :
    Calls Try.prog 26 #[.int .u8 r, .int .u32 i, .int .u64 s] w fun e w' => e = .returned (.agg #[.int .u8 r, .int .u32 i, .int .u64 s]) ∧ Below w.heap.size w w' := by
  go_enter Try.func26, Try.ntmps26
  go_wp2_with fail
  refine bodyPost_ret (v := .agg #[.int .u8 r, .int .u32 i, .int .u64 s]) (by simp [results, Try.results26, go_sem]) rfl ⟨rfl, ?_⟩
  exact (Below.refl _ _).alloc (Nat.le_refl _) _
theorem lit1 (w : World) (d : Dt.Dot) (hd : Dt.okD d) (x y z : Int) (hx : x = d.1.1) (hy : y = d.1.2) (hz : z = d.2) : VRow (w.alloc (.cells #[.int .u8 x, .int .u32 y, .int .u64 z] 29)) (some ⟨w.heap.size, 0, none⟩) 1 [d] := by
  subst hx; subst hy; subst hz
  refine ⟨by simp, by omega, by simpa using hd, (fun e => by cases e), fun i e he => ⟨_, rfl, ?_⟩⟩
  have hi : i < 1 := by have := (List.getElem?_eq_some_iff.1 he).1; simpa using this
  obtain rfl : i = 0 := by omega
  simp at he; subst he
  simp [Addr.add]
theorem lit2 (w : World) (d e : Dt.Dot) (hd : Dt.okD d) (he : Dt.okD e) (x y z x' y' z' : Int) (hx : x = d.1.1) (hy : y = d.1.2) (hz : z = d.2) (hx' : x' = e.1.1) (hy' : y' = e.1.2) (hz' : z' = e.2) :
    VRow (w.alloc (.cells #[.int .u8 x, .int .u32 y, .int .u64 z, .int .u8 x', .int .u32 y', .int .u64 z'] 29)) (some ⟨w.heap.size, 0, none⟩) 2 [d, e] := by
  subst hx; subst hy; subst hz; subst hx'; subst hy'; subst hz'
  refine ⟨by simp, by omega, (fun q hq => by simp at hq; rcases hq with rfl | rfl <;> assumption), (fun e => by cases e), fun i q hq => ⟨_, rfl, ?_⟩⟩
  have hi : i < 2 := by have := (List.getElem?_eq_some_iff.1 hq).1; simpa using this
  obtain rfl | rfl : i = 0 ∨ i = 1 := by omega
  all_goals
    simp at hq; subst hq
    simp [Addr.add]
abbrev kA : List Dt.Dot := [((0, 1), 3)]
abbrev kJ : List Dt.Dot := [((0, 1), 3), ((1, 1), 5)]
abbrev kM : List Dt.Dot := [((0, 1), 2)]
abbrev kB : List Dt.Dot := [((0, 1), 2), ((1, 1), 5)]
set_option maxRecDepth 100000 in
set_option maxHeartbeats 3200000 in
theorem known_any (W : World) : Calls Try.prog 5 #[] W fun e w' => e = .returned (.bool true) ∧ Below W.heap.size W w' := by
  go_enter Try.func5, Try.ntmps5
  go_wp2_with fail
  refine (of_any _ _ _ _).mono ?_
  rintro e w1 ⟨rfl, hb1⟩
  have HB1 := Lib.hid hb1; clear hb1
  go_wp2_with fail
  refine (of_any _ _ _ _).mono ?_
  rintro e w2 ⟨rfl, hb2⟩
  have hrA := (lit1 w1 ((0, 1), 3) ⟨by decide, by decide, by decide⟩ 0 1 3 rfl rfl rfl).below hb2
  have hbb : Below W.heap.size W w2 := (HB1.out.alloc HB1.out.size _).trans (hb2.mono (by have := HB1.out.size; simp; omega))
  have HB2 := Lib.hid hbb; have HA := Lib.hid hrA; clear hb2 hrA hbb HB1
  go_wp2_with fail
  refine (of_any _ _ _ _).mono ?_
  rintro e w3 ⟨rfl, hb3⟩
  have HB3 := Lib.hid (HB2.out.trans (hb3.mono HB2.out.size)); have HA3 := Lib.hid (HA.out.below hb3); clear hb3 HA HB2
  have hrB := lit2 w3 ((0, 1), 2) ((1, 1), 5) ⟨by decide, by decide, by decide⟩ ⟨by decide, by decide, by decide⟩ 0 1 2 1 1 5 rfl rfl rfl rfl rfl rfl
  have HRB := Lib.hid hrB; clear hrB
  have hal := (Below.refl w3.heap.size w3).alloc (Nat.le_refl _) (.cells #[.int .u8 0, .int .u32 1, .int .u64 2, .int .u8 1, .int .u32 1, .int .u64 5] 29)
  have HA4 := Lib.hid (HA3.out.below hal)
  clear HA3 hal
  go_wp2_with fail
  have hj := join_any _ 1 1 kA _ 2 2 kB _ HA4.out rfl (by omega) HRB.out rfl (by omega)
  rw [show Dt.join kA kB = kJ from by decide +kernel] at hj
  refine hj.mono ?_
  clear hj
  rintro e w4 ⟨a4, c4, rfl, hr4, hb4⟩
  have HJ := Lib.hid hr4; have HA5 := Lib.hid (HA4.out.below hb4); have HRB5 := Lib.hid (HRB.out.below hb4)
  have hbb : Below W.heap.size W w4 := (HB3.out.alloc HB3.out.size _).trans (hb4.mono (by have := HB3.out.size; simp; omega))
  have HB4 := Lib.hid hbb
  clear hr4 hb4 hbb HA4 HRB HB3
  go_wp2_with fail
  refine (of_any _ _ _ _).mono ?_
  rintro e w5 ⟨rfl, hb5⟩
  have HJ5 := Lib.hid (HJ.out.below hb5); have HA6 := Lib.hid (HA5.out.below hb5); have HRB6 := Lib.hid (HRB5.out.below hb5); have HB5 := Lib.hid (HB4.out.trans (hb5.mono HB4.out.size))
  clear hb5 HJ HA5 HRB5 HB4
  go_wp2_with fail
  refine (of_any _ _ _ _).mono ?_
  rintro e w6 ⟨rfl, hb6⟩
  have HJ6 := Lib.hid (HJ5.out.below hb6); have HA7 := Lib.hid (HA6.out.below hb6); have HRB7 := Lib.hid (HRB6.out.below hb6); have HB6 := Lib.hid (HB5.out.trans (hb6.mono HB5.out.size))
  clear hb6 HJ5 HA6 HRB6 HB5
  have hal := (Below.refl w6.heap.size w6).alloc (Nat.le_refl _) (.cells #[.int .u8 0, .int .u32 1, .int .u64 3, .int .u8 1, .int .u32 1, .int .u64 5] 29)
  have HL6 := Lib.hid (lit2 w6 ((0, 1), 3) ((1, 1), 5) ⟨by decide, by decide, by decide⟩ ⟨by decide, by decide, by decide⟩ 0 1 3 1 1 5 rfl rfl rfl rfl rfl rfl)
  have HJ7 := Lib.hid (HJ6.out.below hal); have HA8 := Lib.hid (HA7.out.below hal); have HRB8 := Lib.hid (HRB7.out.below hal); have HB7 := Lib.hid (HB6.out.alloc HB6.out.size (.cells #[.int .u8 0, .int .u32 1, .int .u64 3, .int .u8 1, .int .u32 1, .int .u64 5] 29))
  clear hal HJ6 HA7 HRB7 HB6
  go_wp2_with fail
  have hs := refsame_any a4 2 c4 kJ _ 2 2 [((0, 1), 3), ((1, 1), 5)] _ HJ7.out rfl HL6.out rfl
  rw [show decide (kJ = [((0, 1), 3), ((1, 1), 5)]) = true from by decide] at hs
  refine hs.mono ?_
  clear hs
  rintro e w7 ⟨rfl, hb7⟩
  have HA9 := Lib.hid (HA8.out.below hb7); have HRB9 := Lib.hid (HRB8.out.below hb7); have HB8 := Lib.hid (HB7.out.trans (hb7.mono HB7.out.size))
  clear hb7 HJ7 HA8 HRB8 HB7 HL6
  go_wp2_with fail
  have hj := meet_any _ 1 1 kA _ 2 2 kB _ HA9.out rfl (by omega) HRB9.out rfl (by omega)
  rw [show Dt.meet kA kB = kM from by decide +kernel] at hj
  refine hj.mono ?_
  clear hj
  rintro e w8 ⟨a8, c8, rfl, hr8, hb8⟩
  have HM := Lib.hid hr8; have HA10 := Lib.hid (HA9.out.below hb8); have HB9 := Lib.hid (HB8.out.trans (hb8.mono HB8.out.size))
  clear hr8 hb8 HA9 HRB9 HB8
  go_wp2_with fail
  refine (of_any _ _ _ _).mono ?_
  rintro e w9 ⟨rfl, hb9⟩
  have HM2 := Lib.hid (HM.out.below hb9); have HA11 := Lib.hid (HA10.out.below hb9); have HB10 := Lib.hid (HB9.out.trans (hb9.mono HB9.out.size))
  clear hb9 HM HA10 HB9
  have hal := (Below.refl w9.heap.size w9).alloc (Nat.le_refl _) (.cells #[.int .u8 0, .int .u32 1, .int .u64 2] 29)
  have HL9 := Lib.hid (lit1 w9 ((0, 1), 2) ⟨by decide, by decide, by decide⟩ 0 1 2 rfl rfl rfl)
  have HM3 := Lib.hid (HM2.out.below hal); have HA12 := Lib.hid (HA11.out.below hal); have HB11 := Lib.hid (HB10.out.alloc HB10.out.size (.cells #[.int .u8 0, .int .u32 1, .int .u64 2] 29))
  clear hal HM2 HA11 HB10
  go_wp2_with fail
  have hs := refsame_any a8 1 c8 kM _ 1 1 [((0, 1), 2)] _ HM3.out rfl HL9.out rfl
  rw [show decide (kM = [((0, 1), 2)]) = true from by decide] at hs
  refine hs.mono ?_
  clear hs
  rintro e w10 ⟨rfl, hb10⟩
  have HA13 := Lib.hid (HA12.out.below hb10); have HB12 := Lib.hid (HB11.out.trans (hb10.mono HB11.out.size))
  clear hb10 HM3 HA12 HB11 HL9
  go_wp2_with fail
  have hy := bytes_any _ 1 1 kA _ HA13.out rfl (by omega)
  rw [show vecB kA = [1, 0, 1, 3] from by decide +kernel] at hy
  refine hy.mono ?_
  clear hy
  rintro e w11 ⟨v, row, rfl, hbb, hb11⟩
  obtain ⟨a11, c11, rfl, hrow⟩ := hbb.row
  have hcv : Sem.run Try.prog (convert 45 9 (.slice a11 4 c11)) w11 = .ok (.string ⟨#[1, 0, 1, 3]⟩) w11 := conv_row (n := 4) hrow rfl
  have HB13 := Lib.hid (HB12.out.trans (hb11.mono HB12.out.size))
  clear hbb hrow hb11 HB12 HA13
  go_wp2_with fail
  go_ret
  exact ⟨rfl, HB13.out⟩
end Go.Proofs.Ytfebbdnibimmmaa
