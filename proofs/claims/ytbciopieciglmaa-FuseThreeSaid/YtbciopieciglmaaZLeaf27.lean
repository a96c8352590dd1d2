import Derived.Test.YtbciopieciglmaaZLeaf26
namespace Go.Proofs.Ytbciopieciglmaa
open Go.RowKit Go.Buf Go.LB Go.Lib
set_option linter.unusedSimpArgs false
set_option linter.unusedVariables false
theorem refAt_of {k : Nat} {l : List Lm.It} {tombs : List Dt.Dot} {i : Nat} {x : Lm.It} (h : l[i]? = some x) : Lm.refAt k l tombs i =
  (Dt.may x.2.1 && decide (x.2.2.size ≤ 40) && !(decide (k = 3) && decide (x.1 ≠ 0)) && !(decide (k = 4) && (decide (x.1 < 1) || decide (1099511627776 < x.1))) && decide (Lm.idx l x.2.1 = (i : Int)) && !Lm.hasD tombs x.2.1 && (decide (i = 0) || Lm.aheadI (l.getD (i - 1) Lm.z) x)) := by
 unfold Lm.refAt
 rw [List.getD_eq_getElem?_getD, h]; rfl
theorem refMay_item {L : Lm.L} {i : Nat} (hi : i < L.items.length) (h : Lm.refAt L.kind L.items L.tombs i = false) : Lm.refMay L = false := by
 unfold Lm.refMay
 rw [Om.upTo_not hi h]; simp
theorem refMay_tomb {L : Lm.L} {i : Nat} (hi : i < L.tombs.length) (h : Om.dropAt L.tombs i = false) : Lm.refMay L = false := by
 unfold Lm.refMay Lm.mayTombs
 rw [Om.upTo_not hi h]; simp
theorem getD_of {α : Type} {l : List α} {i : Nat} {x d : α} (h : l[i]? = some x) : l.getD i d = x := by rw [List.getD_eq_getElem?_getD, h]; rfl
set_option maxRecDepth 100000 in
set_option maxHeartbeats 12800000 in
theorem refmayY1 (kk : Nat) (n : Int) (t r i s : Nat) (x : ByteArray) (ia : Option Addr) (il ic : Nat) (da : Option Addr) (dl dc : Nat) (li : List Lm.It) (ld : List Dt.Dot) (W : World) (hi : IRow W ia ic li) (hil : li.length = il) (hd : VRow W da dc ld) (hdl : ld.length = dl) (hx : x.size ≤ 9223372036854775807) (hn1 : il ≤ 1000000) (hn2 : dl ≤ 1000000) (hk : kk = 1) (ht : t = 0) (z_r : r = 0) (z_i : i = 0) (z_s : s = 0) (hx0 : x = ⟨#[]⟩) (h0 : il = 0) (h1 : dl = 0) :
  Calls Try.prog 13 #[leafV kk n t r i s x ia il ic da dl dc] W fun e w' => e = .returned (.bool (Lm.refMay ⟨kk, n, t, ((r, i), s), x, li, ld⟩)) ∧ Below W.heap.size W w' := by
 subst hk ht z_r z_i z_s hx0 h0 h1
 obtain ⟨X, hX⟩ : ∃ X, X = ((W.alloc (.cells #[.int .u8 (1 : Nat), .int .i64 n, .int .u64 (0 : Nat), .int .u8 (0 : Nat), .int .u32 (0 : Nat), .int .u64 (0 : Nat), .string ⟨#[]⟩, .slice ia 0 ic, .slice da 0 dc] 40)).alloc (.cells #[.int .u8 0, .int .u32 0, .int .u64 0] 31)) := ⟨_, rfl⟩
 have HBox := Lib.hid (below_box W #[.int .u8 (1 : Nat), .int .i64 n, .int .u64 (0 : Nat), .int .u8 (0 : Nat), .int .u32 (0 : Nat), .int .u64 (0 : Nat), .string ⟨#[]⟩, .slice ia 0 ic, .slice da 0 dc] 40)
 have HWX := Lib.hid (show Below W.heap.size W X by rw [hX]; exact HBox.out.alloc HBox.out.size _)
 have HCells := Lib.hid (show ∀ w1, Below X.heap.size X w1 → _ from fun w1 hb => leafcells2 (by rw [hX] at hb; exact hb))
 have hic := hi.cap; have hdc := hd.cap; have hile := hi.le; have hdle := hd.le
 rw [hil] at hile; rw [hdl] at hdle
 have HI := Lib.hid hi; have HIl := Lib.hid hil; have HD := Lib.hid hd; have HDl := Lib.hid hdl; have HX := Lib.hid hx
 clear hi hil hd hdl hx
 go_enter Try.func13, Try.ntmps13
 go_wp2_with fail
 go_loopw [4] (fun v wr => v = .int .i64 0 ∧ Below X.heap.size X wr) (fun _ _ => 0)
 case atStart => exact ⟨rfl, by rw [hX]; exact Below.refl _ _⟩
 case round =>
  obtain ⟨rfl, hbel4⟩ := hrel
  have HW4t := Lib.hid hbel4
  obtain ⟨hc0, hc1, hc2, hc3, hc4, hc5, hc6, hc7, hc8⟩ := HCells.out wr hbel4
  clear hbel4
  go_wp2_with fail
  go_loopw [6] (fun v wr => v = .int .i64 0 ∧ Below X.heap.size X wr) (fun _ _ => 0)
  case atStart => exact ⟨rfl, HW4t.out⟩
  case round =>
   obtain ⟨rfl, hbel6⟩ := hrel
   have HW6t := Lib.hid hbel6
   obtain ⟨hc0, hc1, hc2, hc3, hc4, hc5, hc6, hc7, hc8⟩ := HCells.out wr hbel6
   clear hbel6
   have hyes : Lm.refMay ⟨1, n, 0, ((0, 0), 0), ⟨#[]⟩, li, ld⟩ = true := by
    unfold Lm.refMay
    rw [Bool.and_eq_true, Bool.and_eq_true, Bool.and_eq_true]
    exact ⟨⟨⟨by have h1 := HIl.out; have h2 := HDl.out; simp [Lm.headA, h1, h2, -List.length_eq_zero_iff], by simp [Lm.headB] <;> rfl⟩, Om.upTo_iff.2 (fun j hj => by have := HIl.out; simp only at hj; omega)⟩, Om.upTo_iff.2 (fun j hj => by have := HDl.out; simp only at hj; omega)⟩
   have HYes := Lib.hid hyes
   have HWE := Lib.hid (HWX.out.trans (HW6t.out.mono HWX.out.size))
   clear hyes
   go_wp2_with fail
   go_ret
   exact ⟨ret_bool HYes.out.symm, HWE.out⟩
set_option maxRecDepth 100000 in
set_option maxHeartbeats 12800000 in
theorem refmayY2 (kk : Nat) (n : Int) (t r i s : Nat) (x : ByteArray) (ia : Option Addr) (il ic : Nat) (da : Option Addr) (dl dc : Nat) (li : List Lm.It) (ld : List Dt.Dot) (W : World) (hi : IRow W ia ic li) (hil : li.length = il) (hd : VRow W da dc ld) (hdl : ld.length = dl) (hx : x.size ≤ 9223372036854775807) (hn1 : il ≤ 1000000) (hn2 : dl ≤ 1000000) (hk : kk = 2) (hn : n = 0) (ht : t = 0) (z_r : r = 0) (z_i : i = 0) (z_s : s = 0) (hx0 : x = ⟨#[]⟩) (h0 : il = 0) (h1 : dl = 0) :
  Calls Try.prog 13 #[leafV kk n t r i s x ia il ic da dl dc] W fun e w' => e = .returned (.bool (Lm.refMay ⟨kk, n, t, ((r, i), s), x, li, ld⟩)) ∧ Below W.heap.size W w' := by
 subst hk hn ht z_r z_i z_s hx0 h0 h1
 obtain ⟨X, hX⟩ : ∃ X, X = ((W.alloc (.cells #[.int .u8 (2 : Nat), .int .i64 0, .int .u64 (0 : Nat), .int .u8 (0 : Nat), .int .u32 (0 : Nat), .int .u64 (0 : Nat), .string ⟨#[]⟩, .slice ia 0 ic, .slice da 0 dc] 40)).alloc (.cells #[.int .u8 0, .int .u32 0, .int .u64 0] 31)) := ⟨_, rfl⟩
 have HBox := Lib.hid (below_box W #[.int .u8 (2 : Nat), .int .i64 0, .int .u64 (0 : Nat), .int .u8 (0 : Nat), .int .u32 (0 : Nat), .int .u64 (0 : Nat), .string ⟨#[]⟩, .slice ia 0 ic, .slice da 0 dc] 40)
 have HWX := Lib.hid (show Below W.heap.size W X by rw [hX]; exact HBox.out.alloc HBox.out.size _)
 have HCells := Lib.hid (show ∀ w1, Below X.heap.size X w1 → _ from fun w1 hb => leafcells2 (by rw [hX] at hb; exact hb))
 have hic := hi.cap; have hdc := hd.cap; have hile := hi.le; have hdle := hd.le
 rw [hil] at hile; rw [hdl] at hdle
 have HI := Lib.hid hi; have HIl := Lib.hid hil; have HD := Lib.hid hd; have HDl := Lib.hid hdl; have HX := Lib.hid hx
 clear hi hil hd hdl hx
 go_enter Try.func13, Try.ntmps13
 go_wp2_with fail
 go_loopw [4] (fun v wr => v = .int .i64 0 ∧ Below X.heap.size X wr) (fun _ _ => 0)
 case atStart => exact ⟨rfl, by rw [hX]; exact Below.refl _ _⟩
 case round =>
  obtain ⟨rfl, hbel4⟩ := hrel
  have HW4t := Lib.hid hbel4
  obtain ⟨hc0, hc1, hc2, hc3, hc4, hc5, hc6, hc7, hc8⟩ := HCells.out wr hbel4
  clear hbel4
  go_wp2_with fail
  go_loopw [6] (fun v wr => v = .int .i64 0 ∧ Below X.heap.size X wr) (fun _ _ => 0)
  case atStart => exact ⟨rfl, HW4t.out⟩
  case round =>
   obtain ⟨rfl, hbel6⟩ := hrel
   have HW6t := Lib.hid hbel6
   obtain ⟨hc0, hc1, hc2, hc3, hc4, hc5, hc6, hc7, hc8⟩ := HCells.out wr hbel6
   clear hbel6
   have hyes : Lm.refMay ⟨2, 0, 0, ((0, 0), 0), ⟨#[]⟩, li, ld⟩ = true := by
    unfold Lm.refMay
    rw [Bool.and_eq_true, Bool.and_eq_true, Bool.and_eq_true]
    exact ⟨⟨⟨by have h1 := HIl.out; have h2 := HDl.out; simp [Lm.headA, h1, h2, -List.length_eq_zero_iff], by simp [Lm.headB] <;> rfl⟩, Om.upTo_iff.2 (fun j hj => by have := HIl.out; simp only at hj; omega)⟩, Om.upTo_iff.2 (fun j hj => by have := HDl.out; simp only at hj; omega)⟩
   have HYes := Lib.hid hyes
   have HWE := Lib.hid (HWX.out.trans (HW6t.out.mono HWX.out.size))
   clear hyes
   go_wp2_with fail
   go_ret
   exact ⟨ret_bool HYes.out.symm, HWE.out⟩
set_option maxRecDepth 100000 in
set_option maxHeartbeats 12800000 in
theorem refmayX2y (kk : Nat) (n : Int) (t r i s : Nat) (x : ByteArray) (ia : Option Addr) (il ic : Nat) (da : Option Addr) (dl dc : Nat) (li : List Lm.It) (ld : List Dt.Dot) (W : World) (hi : IRow W ia ic li) (hil : li.length = il) (hd : VRow W da dc ld) (hdl : ld.length = dl) (hx : x.size ≤ 9223372036854775807) (hn1 : il ≤ 1000000) (hn2 : dl ≤ 1000000) (hk : kk = 2) (hn : n = 0) (h0 : il = 0) (h1 : dl = 0) (ht : t ≠ 0) (ht2 : t ≤ 1099511627776) (hm : Dt.may ((r, i), s) = true) (hxs : x.size ≤ 40) :
  Calls Try.prog 13 #[leafV kk n t r i s x ia il ic da dl dc] W fun e w' => e = .returned (.bool (Lm.refMay ⟨kk, n, t, ((r, i), s), x, li, ld⟩)) ∧ Below W.heap.size W w' := by
 subst hk hn h0 h1
 have e1_t : ((t : Int) == 0) = false := by simp; omega
 have e2_t : ((t : Int) != 0) = true := by simp; omega
 have d1 : ¬ (1099511627776 : Int) < (t : Int) := by omega
 have d2 : ¬ (40 : Int) < (x.size : Int) := by omega
 have HT := Lib.hid ht; have HT2 := Lib.hid ht2; have HM := Lib.hid hm; have HXs := Lib.hid hxs
 clear ht ht2 hm hxs
 obtain ⟨X, hX⟩ : ∃ X, X = ((W.alloc (.cells #[.int .u8 (2 : Nat), .int .i64 0, .int .u64 (t : Int), .int .u8 (r : Int), .int .u32 (i : Int), .int .u64 (s : Int), .string x, .slice ia 0 ic, .slice da 0 dc] 40)).alloc (.cells #[.int .u8 0, .int .u32 0, .int .u64 0] 31)) := ⟨_, rfl⟩
 have HBox := Lib.hid (below_box W #[.int .u8 (2 : Nat), .int .i64 0, .int .u64 (t : Int), .int .u8 (r : Int), .int .u32 (i : Int), .int .u64 (s : Int), .string x, .slice ia 0 ic, .slice da 0 dc] 40)
 have HWX := Lib.hid (show Below W.heap.size W X by rw [hX]; exact HBox.out.alloc HBox.out.size _)
 have HCells := Lib.hid (show ∀ w1, Below X.heap.size X w1 → _ from fun w1 hb => leafcells2 (by rw [hX] at hb; exact hb))
 have hic := hi.cap; have hdc := hd.cap; have hile := hi.le; have hdle := hd.le
 rw [hil] at hile; rw [hdl] at hdle
 have HI := Lib.hid hi; have HIl := Lib.hid hil; have HD := Lib.hid hd; have HDl := Lib.hid hdl; have HX := Lib.hid hx
 clear hi hil hd hdl hx
 go_enter Try.func13, Try.ntmps13
 go_wp2_with fail
 refine (refmay_any r i s _).mono ?_
 rintro e w1 ⟨rfl, hb⟩
 have HB := Lib.hid hb
 obtain ⟨hc0, hc1, hc2, hc3, hc4, hc5, hc6, hc7, hc8⟩ := leafcells2 hb
 clear hb
 rw [HM.out]
 go_wp2_with fail
 go_loopw [4] (fun v wr => v = .int .i64 0 ∧ Below X.heap.size X wr) (fun _ _ => 0)
 case atStart => exact ⟨rfl, by rw [hX]; exact HB.out⟩
 case round =>
  obtain ⟨rfl, hbel4⟩ := hrel
  have HW4t := Lib.hid hbel4
  obtain ⟨hc0, hc1, hc2, hc3, hc4, hc5, hc6, hc7, hc8⟩ := HCells.out wr hbel4
  clear hbel4
  go_wp2_with fail
  go_loopw [6] (fun v wr => v = .int .i64 0 ∧ Below X.heap.size X wr) (fun _ _ => 0)
  case atStart => exact ⟨rfl, HW4t.out⟩
  case round =>
   obtain ⟨rfl, hbel6⟩ := hrel
   have HW6t := Lib.hid hbel6
   obtain ⟨hc0, hc1, hc2, hc3, hc4, hc5, hc6, hc7, hc8⟩ := HCells.out wr hbel6
   clear hbel6
   have hyes : Lm.refMay ⟨2, 0, t, ((r, i), s), x, li, ld⟩ = true := by
    unfold Lm.refMay
    rw [Bool.and_eq_true, Bool.and_eq_true, Bool.and_eq_true]
    exact ⟨⟨⟨by have h1 := HIl.out; have h2 := HDl.out; simp [Lm.headA, h1, h2, -List.length_eq_zero_iff], by simp [Lm.headB, HT.out, HT2.out, HM.out, HXs.out] <;> rfl⟩, Om.upTo_iff.2 (fun j hj => by have := HIl.out; simp only at hj; omega)⟩, Om.upTo_iff.2 (fun j hj => by have := HDl.out; simp only at hj; omega)⟩
   have HYes := Lib.hid hyes
   have HWE := Lib.hid (HWX.out.trans (HW6t.out.mono HWX.out.size))
   clear hyes
   go_wp2_with fail
   go_ret
   exact ⟨ret_bool HYes.out.symm, HWE.out⟩
end Go.Proofs.Ytbciopieciglmaa
