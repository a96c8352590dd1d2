import Derived.Test.YtbciopieciglmaaZDot4
namespace Go.Proofs.Ytbciopieciglmaa
open Go.RowKit Go.Buf
set_option linter.unusedSimpArgs false
theorem may_of_loop {k : Nat} {p : List ByteArray} {n : Int} {t : ByteArray} {d : List Dt.Dot} (h1 : Om.type k ≠ 0) (h2 : Om.mayPath p = true) (h3 : t.size ≤ 40) (h4 : d.length ≤ 64) (hk : k ≠ 1) (hn : n = 0) (hd : k = 4 ∨ d.length = 0) :
  Om.may ⟨k, p, n, t, d⟩ = Om.upTo (Om.dropAt d) d.length := by
 unfold Om.may Om.asked
 simp only [h2, Bool.true_and, hk, if_false]
 have ht : Om.mayText ⟨k, p, n, t, d⟩ = decide (d.length = 0) := by simp [Om.mayText, hn, h3]
 have hdr : Om.mayDrop ⟨k, p, n, t, d⟩ = Om.upTo (Om.dropAt d) d.length := by simp [Om.mayDrop, Om.mayDrops, hn, h3, h4]
 rw [ht, hdr]
 rcases hd with rfl | h0
 ·simp
 ·have hu : Om.upTo (Om.dropAt d) d.length = true := by rw [h0]; exact Om.upTo_zero _
  rw [hu, h0]
  unfold Om.type at h1
  by_cases e2 : k = 2
  ·simp [e2]
  by_cases e3 : k = 3
  ·simp [e3]
  by_cases e4 : k = 4
  ·simp [e4]
  by_cases e5 : k = 5
  ·simp [e5]
  ·simp [hk, e2, e3, e4, e5] at h1
theorem may_type {k : Nat} {p : List ByteArray} {n : Int} {t : ByteArray} {d : List Dt.Dot} (h : Om.type k = 0) : Om.may ⟨k, p, n, t, d⟩ = false := by
 have h1 : k ≠ 1 := by rintro rfl; simp [Om.type] at h
 have h2 : k ≠ 2 := by rintro rfl; simp [Om.type] at h
 have h3 : k ≠ 3 := by rintro rfl; simp [Om.type] at h
 have h4 : k ≠ 4 := by rintro rfl; simp [Om.type] at h
 have h5 : k ≠ 5 := by rintro rfl; simp [Om.type] at h
 simp [Om.may, Om.asked, h1, h2, h3, h4, h5]
theorem may_path {k : Nat} {p : List ByteArray} {n : Int} {t : ByteArray} {d : List Dt.Dot} (h : Om.mayPath p = false) : Om.may ⟨k, p, n, t, d⟩ = false := by simp [Om.may, h]
theorem may_text {k : Nat} {p : List ByteArray} {n : Int} {t : ByteArray} {d : List Dt.Dot} (h : 40 < t.size) : Om.may ⟨k, p, n, t, d⟩ = false := by
 have h1 : ¬ t.size ≤ 40 := by omega
 have h2 : ¬ t.size = 0 := by omega
 unfold Om.may Om.asked
 repeat' split
 all_goals simp [Om.mayAdd, Om.mayText, Om.mayDrop, h1, h2, -ByteArray.size_eq_zero_iff]
theorem may_dots {k : Nat} {p : List ByteArray} {n : Int} {t : ByteArray} {d : List Dt.Dot} (h : 64 < d.length) : Om.may ⟨k, p, n, t, d⟩ = false := by
 have h1 : ¬ d.length ≤ 64 := by omega
 have h2 : ¬ d.length = 0 := by omega
 unfold Om.may Om.asked
 repeat' split
 all_goals simp [Om.mayAdd, Om.mayText, Om.mayDrop, Om.mayDrops, h1, h2, -List.length_eq_zero_iff]
theorem may_n {k : Nat} {p : List ByteArray} {n : Int} {t : ByteArray} {d : List Dt.Dot} (hk : k ≠ 1) (h : n ≠ 0) : Om.may ⟨k, p, n, t, d⟩ = false := by
 unfold Om.may Om.asked
 simp only [hk, if_false]
 repeat' split
 all_goals simp [Om.mayText, Om.mayDrop, h]
theorem may_some {k : Nat} {p : List ByteArray} {n : Int} {t : ByteArray} {d : List Dt.Dot} (hk : k ≠ 1) (hk4 : k ≠ 4) (h : 0 < d.length) : Om.may ⟨k, p, n, t, d⟩ = false := by
 have h2 : ¬ d.length = 0 := by omega
 unfold Om.may Om.asked
 simp only [hk, hk4, if_false]
 repeat' split
 all_goals simp [Om.mayText, h2, -List.length_eq_zero_iff]
set_option maxRecDepth 100000 in
set_option maxHeartbeats 3200000 in
theorem refmay_type (k : Nat) (pa : Option Addr) (pl pc : Nat) (n : Int) (t : ByteArray) (da : Option Addr) (dl dc : Nat) (p : List ByteArray) (d : List Dt.Dot) (W : World) (hp : SRow W pa pc p) (hpl : p.length = pl) (hr : VRow W da dc d) (hdl : d.length = dl) (hT : Om.type k = 0) :
  Calls Try.prog 32 #[opV k pa pl pc n t da dl dc] W fun e w' => e = .returned (.bool (Om.may ⟨k, p, n, t, d⟩)) ∧ Below W.heap.size W w' := by
 have HP := Lib.hid hp; have HPl := Lib.hid hpl; have HR := Lib.hid hr; have HDl := Lib.hid hdl
 have HBox := Lib.hid (below_box W #[.int .u8 (k : Int), .slice pa pl pc, .int .i64 n, .string t, .slice da dl dc] 35)
 clear hp hpl hr hdl
 have HM := Lib.hid (may_type (p := p) (n := n) (t := t) (d := d) hT); have HT := Lib.hid hT; clear hT
 go_enter Try.func32, Try.ntmps32
 go_wp2_with fail
 refine (reftype_any k _).mono ?_
 rintro e w1 ⟨rfl, rfl⟩
 rw [HT.out]
 go_wp2_with fail
 go_ret
 exact ⟨ret_bool HM.out.symm, HBox.out⟩
set_option maxRecDepth 100000 in
set_option maxHeartbeats 3200000 in
theorem refmay_path (k : Nat) (pa : Option Addr) (pl pc : Nat) (n : Int) (t : ByteArray) (da : Option Addr) (dl dc : Nat) (p : List ByteArray) (d : List Dt.Dot) (W : World) (hp : SRow W pa pc p) (hpl : p.length = pl) (hr : VRow W da dc d) (hdl : d.length = dl) (T : Nat) (hT0 : T ≠ 0) (hT : Om.type k = T) (hm : Om.mayPath p = false) :
  Calls Try.prog 32 #[opV k pa pl pc n t da dl dc] W fun e w' => e = .returned (.bool (Om.may ⟨k, p, n, t, d⟩)) ∧ Below W.heap.size W w' := by
 have HP := Lib.hid hp; have HPl := Lib.hid hpl; have HR := Lib.hid hr; have HDl := Lib.hid hdl
 have HBox := Lib.hid (below_box W #[.int .u8 (k : Int), .slice pa pl pc, .int .i64 n, .string t, .slice da dl dc] 35)
 clear hp hpl hr hdl
 have hT1 : ((T : Int) == 0) = false := by simp; omega
 have HM := Lib.hid (may_path (k := k) (n := n) (t := t) (d := d) hm); have HMp := Lib.hid hm; have HT := Lib.hid hT; clear hT hm
 go_enter Try.func32, Try.ntmps32
 go_wp2_with fail
 refine (reftype_any k _).mono ?_
 rintro e w1 ⟨rfl, rfl⟩
 rw [HT.out]
 go_wp2_with fail
 refine (refmayPath_any pa pl pc p _ (HP.out.below HBox.out) HPl.out).mono ?_
 rintro e w1 ⟨rfl, rfl⟩
 rw [HMp.out]
 go_wp2_with fail
 go_ret
 exact ⟨ret_bool HM.out.symm, HBox.out⟩
set_option maxRecDepth 100000 in
set_option maxHeartbeats 3200000 in
theorem refmay_text (k : Nat) (pa : Option Addr) (pl pc : Nat) (n : Int) (t : ByteArray) (da : Option Addr) (dl dc : Nat) (p : List ByteArray) (d : List Dt.Dot) (W : World) (hp : SRow W pa pc p) (hpl : p.length = pl) (hr : VRow W da dc d) (hdl : d.length = dl) (T : Nat) (hT0 : T ≠ 0) (hT : Om.type k = T) (hm : Om.mayPath p = true) (ht : 40 < t.size) :
  Calls Try.prog 32 #[opV k pa pl pc n t da dl dc] W fun e w' => e = .returned (.bool (Om.may ⟨k, p, n, t, d⟩)) ∧ Below W.heap.size W w' := by
 have HP := Lib.hid hp; have HPl := Lib.hid hpl; have HR := Lib.hid hr; have HDl := Lib.hid hdl
 have HBox := Lib.hid (below_box W #[.int .u8 (k : Int), .slice pa pl pc, .int .i64 n, .string t, .slice da dl dc] 35)
 clear hp hpl hr hdl
 have HM := Lib.hid (may_text (k := k) (p := p) (n := n) (t := t) (d := d) ht)
 have hT1 : ((T : Int) == 0) = false := by simp; omega
 have HMp := Lib.hid hm; have HT := Lib.hid hT; clear hT hm hT0
 go_enter Try.func32, Try.ntmps32
 go_wp2_with fail
 refine (reftype_any k _).mono ?_
 rintro e w1 ⟨rfl, rfl⟩
 rw [HT.out]
 go_wp2_with fail
 refine (refmayPath_any pa pl pc p _ (HP.out.below HBox.out) HPl.out).mono ?_
 rintro e w1 ⟨rfl, rfl⟩
 rw [HMp.out]
 go_wp2_with fail
 go_ret
 exact ⟨ret_bool HM.out.symm, HBox.out⟩
set_option maxRecDepth 100000 in
set_option maxHeartbeats 3200000 in
theorem refmay_dots (k : Nat) (pa : Option Addr) (pl pc : Nat) (n : Int) (t : ByteArray) (da : Option Addr) (dl dc : Nat) (p : List ByteArray) (d : List Dt.Dot) (W : World) (hp : SRow W pa pc p) (hpl : p.length = pl) (hr : VRow W da dc d) (hdl : d.length = dl) (T : Nat) (hT0 : T ≠ 0) (hT : Om.type k = T) (hm : Om.mayPath p = true) (ht : t.size ≤ 40) (hd : 64 < dl) :
  Calls Try.prog 32 #[opV k pa pl pc n t da dl dc] W fun e w' => e = .returned (.bool (Om.may ⟨k, p, n, t, d⟩)) ∧ Below W.heap.size W w' := by
 have HP := Lib.hid hp; have HPl := Lib.hid hpl; have HR := Lib.hid hr; have HDl := Lib.hid hdl
 have HBox := Lib.hid (below_box W #[.int .u8 (k : Int), .slice pa pl pc, .int .i64 n, .string t, .slice da dl dc] 35)
 clear hp hpl hr hdl
 have HM := Lib.hid (may_dots (k := k) (p := p) (n := n) (t := t) (d := d) (by rw [HDl.out]; exact hd))
 have hT1 : ((T : Int) == 0) = false := by simp; omega
 have HMp := Lib.hid hm; have HT := Lib.hid hT; clear hT hm hT0
 go_enter Try.func32, Try.ntmps32
 go_wp2_with fail
 refine (reftype_any k _).mono ?_
 rintro e w1 ⟨rfl, rfl⟩
 rw [HT.out]
 go_wp2_with fail
 refine (refmayPath_any pa pl pc p _ (HP.out.below HBox.out) HPl.out).mono ?_
 rintro e w1 ⟨rfl, rfl⟩
 rw [HMp.out]
 go_wp2_with fail
 go_ret
 exact ⟨ret_bool HM.out.symm, HBox.out⟩
set_option maxRecDepth 100000 in
set_option maxHeartbeats 3200000 in
theorem refmay_add (k : Nat) (pa : Option Addr) (pl pc : Nat) (n : Int) (t : ByteArray) (da : Option Addr) (dl dc : Nat) (p : List ByteArray) (d : List Dt.Dot) (W : World) (hp : SRow W pa pc p) (hpl : p.length = pl) (hr : VRow W da dc d) (hdl : d.length = dl) (T : Nat) (hT0 : T ≠ 0) (hT : Om.type k = T) (hm : Om.mayPath p = true) (ht : t.size ≤ 40) (hd : dl ≤ 64) (hk : k = 1) :
  Calls Try.prog 32 #[opV k pa pl pc n t da dl dc] W fun e w' => e = .returned (.bool (Om.may ⟨k, p, n, t, d⟩)) ∧ Below W.heap.size W w' := by
 have HP := Lib.hid hp; have HPl := Lib.hid hpl; have HR := Lib.hid hr; have HDl := Lib.hid hdl
 have HBox := Lib.hid (below_box W #[.int .u8 (k : Int), .slice pa pl pc, .int .i64 n, .string t, .slice da dl dc] 35)
 clear hp hpl hr hdl
 have hT1 : ((T : Int) == 0) = false := by simp; omega
 have HMp := Lib.hid hm; have HT := Lib.hid hT; clear hT hm hT0
 subst hk
 go_enter Try.func32, Try.ntmps32
 go_wp2_with fail
 refine (reftype_any 1 _).mono ?_
 rintro e w1 ⟨rfl, rfl⟩
 rw [HT.out]
 go_wp2_with fail
 refine (refmayPath_any pa pl pc p _ (HP.out.below HBox.out) HPl.out).mono ?_
 rintro e w1 ⟨rfl, rfl⟩
 rw [HMp.out]
 go_wp2_with fail
 all_goals
  go_ret
  refine ⟨ret_bool ?_, HBox.out⟩
  have hD := HDl.out
  try simp only [str_nil] at *
  rw [Bool.eq_iff_iff]
  simp [Om.may, HMp.out, Om.asked, Om.mayAdd, -ByteArray.size_eq_zero_iff, -List.length_eq_zero_iff]
  try omega
set_option maxRecDepth 100000 in
set_option maxHeartbeats 3200000 in
theorem refmay_n (k : Nat) (pa : Option Addr) (pl pc : Nat) (n : Int) (t : ByteArray) (da : Option Addr) (dl dc : Nat) (p : List ByteArray) (d : List Dt.Dot) (W : World) (hp : SRow W pa pc p) (hpl : p.length = pl) (hr : VRow W da dc d) (hdl : d.length = dl) (T : Nat) (hT0 : T ≠ 0) (hT : Om.type k = T) (hm : Om.mayPath p = true) (ht : t.size ≤ 40) (hd : dl ≤ 64) (hk : k ≠ 1) (hn : n ≠ 0) :
  Calls Try.prog 32 #[opV k pa pl pc n t da dl dc] W fun e w' => e = .returned (.bool (Om.may ⟨k, p, n, t, d⟩)) ∧ Below W.heap.size W w' := by
 have HP := Lib.hid hp; have HPl := Lib.hid hpl; have HR := Lib.hid hr; have HDl := Lib.hid hdl
 have HBox := Lib.hid (below_box W #[.int .u8 (k : Int), .slice pa pl pc, .int .i64 n, .string t, .slice da dl dc] 35)
 clear hp hpl hr hdl
 have HM := Lib.hid (may_n (p := p) (t := t) (d := d) hk hn)
 have hk1 : ((k : Int) == 1) = false := by simp; omega
 have hn1 : (n == 0) = false := by simpa using hn
 have hn2 : (n != 0) = true := by simpa using hn
 have hT1 : ((T : Int) == 0) = false := by simp; omega
 have HMp := Lib.hid hm; have HT := Lib.hid hT; clear hT hm hT0
 go_enter Try.func32, Try.ntmps32
 go_wp2_with fail
 refine (reftype_any k _).mono ?_
 rintro e w1 ⟨rfl, rfl⟩
 rw [HT.out]
 go_wp2_with fail
 refine (refmayPath_any pa pl pc p _ (HP.out.below HBox.out) HPl.out).mono ?_
 rintro e w1 ⟨rfl, rfl⟩
 rw [HMp.out]
 go_wp2_with fail
 go_ret
 exact ⟨ret_bool HM.out.symm, HBox.out⟩
set_option maxRecDepth 100000 in
set_option maxHeartbeats 3200000 in
theorem refmay_some (k : Nat) (pa : Option Addr) (pl pc : Nat) (n : Int) (t : ByteArray) (da : Option Addr) (dl dc : Nat) (p : List ByteArray) (d : List Dt.Dot) (W : World) (hp : SRow W pa pc p) (hpl : p.length = pl) (hr : VRow W da dc d) (hdl : d.length = dl) (T : Nat) (hT0 : T ≠ 0) (hT : Om.type k = T) (hm : Om.mayPath p = true) (ht : t.size ≤ 40) (hd : dl ≤ 64) (hk : k ≠ 1) (hk4 : k ≠ 4) (hn : n = 0) (hz : 0 < dl) :
  Calls Try.prog 32 #[opV k pa pl pc n t da dl dc] W fun e w' => e = .returned (.bool (Om.may ⟨k, p, n, t, d⟩)) ∧ Below W.heap.size W w' := by
 have HP := Lib.hid hp; have HPl := Lib.hid hpl; have HR := Lib.hid hr; have HDl := Lib.hid hdl
 have HBox := Lib.hid (below_box W #[.int .u8 (k : Int), .slice pa pl pc, .int .i64 n, .string t, .slice da dl dc] 35)
 clear hp hpl hr hdl
 subst hn
 have HM := Lib.hid (may_some (p := p) (n := 0) (t := t) (d := d) hk hk4 (by rw [HDl.out]; exact hz))
 have hk1 : ((k : Int) == 1) = false := by simp; omega
 have hk2 : ((k : Int) == 4) = false := by simp; omega
 have hT1 : ((T : Int) == 0) = false := by simp; omega
 have HMp := Lib.hid hm; have HT := Lib.hid hT; clear hT hm hT0
 go_enter Try.func32, Try.ntmps32
 go_wp2_with fail
 refine (reftype_any k _).mono ?_
 rintro e w1 ⟨rfl, rfl⟩
 rw [HT.out]
 go_wp2_with fail
 refine (refmayPath_any pa pl pc p _ (HP.out.below HBox.out) HPl.out).mono ?_
 rintro e w1 ⟨rfl, rfl⟩
 rw [HMp.out]
 go_wp2_with fail
 go_ret
 exact ⟨ret_bool HM.out.symm, HBox.out⟩
set_option maxRecDepth 100000 in
set_option maxHeartbeats 3200000 in
theorem refmay_none (k : Nat) (pa : Option Addr) (pl pc : Nat) (n : Int) (t : ByteArray) (da : Option Addr) (dl dc : Nat) (p : List ByteArray) (d : List Dt.Dot) (W : World) (hp : SRow W pa pc p) (hpl : p.length = pl) (hr : VRow W da dc d) (hdl : d.length = dl) (T : Nat) (hT0 : T ≠ 0) (hT : Om.type k = T) (hm : Om.mayPath p = true) (ht : t.size ≤ 40) (hd : dl ≤ 64) (hk : k ≠ 1) (hk4 : k ≠ 4) (hn : n = 0) (hz : dl = 0) :
  Calls Try.prog 32 #[opV k pa pl pc n t da dl dc] W fun e w' => e = .returned (.bool (Om.may ⟨k, p, n, t, d⟩)) ∧ Below W.heap.size W w' := by
 have HP := Lib.hid hp; have HPl := Lib.hid hpl; have HR := Lib.hid hr; have HDl := Lib.hid hdl
 have HBox := Lib.hid (below_box W #[.int .u8 (k : Int), .slice pa pl pc, .int .i64 n, .string t, .slice da dl dc] 35)
 clear hp hpl hr hdl
 subst hn
 have HM := Lib.hid (may_of_loop (k := k) (p := p) (n := 0) (t := t) (d := d) (by omega) hm ht (by rw [HDl.out]; exact hd) hk rfl (by rw [HDl.out]; omega))
 have hk1 : ((k : Int) == 1) = false := by simp; omega
 have hk2 : ((k : Int) == 4) = false := by simp; omega
 have hT1 : ((T : Int) == 0) = false := by simp; omega
 have HMp := Lib.hid hm; have HT := Lib.hid hT; clear hT hm hT0
 subst hz
 go_enter Try.func32, Try.ntmps32
 go_wp2_with fail
 refine (reftype_any k _).mono ?_
 rintro e w1 ⟨rfl, rfl⟩
 rw [HT.out]
 go_wp2_with fail
 refine (refmayPath_any pa pl pc p _ (HP.out.below HBox.out) HPl.out).mono ?_
 rintro e w1 ⟨rfl, rfl⟩
 rw [HMp.out]
 go_wp2_with fail
 go_loopw [3] (fun i wr => ∃ j : Nat, j ≤ 0 ∧ i = .int .i64 j ∧ Om.upTo (Om.dropAt d) j = true ∧ Below (W.alloc (.cells #[.int .u8 (k : Int), .slice pa pl pc, .int .i64 0, .string t, .slice da 0 dc] 35)).heap.size (W.alloc (.cells #[.int .u8 (k : Int), .slice pa pl pc, .int .i64 0, .string t, .slice da 0 dc] 35)) wr) (fun i _ => 0 - (intOf i).toNat)
 case atStart => exact ⟨0, Nat.zero_le _, rfl, Om.upTo_zero _, Below.refl _ _⟩
 case round =>
  obtain ⟨k0, hk0, rfl, hu, hbel⟩ := hrel
  have HU := Lib.hid hu; have HBel := Lib.hid hbel; clear hu
  obtain ⟨hc0, hc1, hc2, hc3, hc4⟩ := opcells hbel
  clear hbel
  obtain rfl : k0 = 0 := by omega
  go_wp2_with fail
  go_ret
  exact ⟨ret_bool (by rw [HM.out, HDl.out]; exact HU.out.symm), HBox.out.trans (HBel.out.mono HBox.out.size)⟩
end Go.Proofs.Ytbciopieciglmaa
