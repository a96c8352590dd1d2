import Derived.Test.YtbciopieciglmaaZLeaf25
namespace Go.Proofs.Ytbciopieciglmaa
open Go.RowKit Go.Buf Go.LB Go.Lib
set_option linter.unusedSimpArgs false
set_option linter.unusedVariables false
theorem leafcells2 {W w1 : World} {c0 c1 c2 c3 c4 c5 c6 c7 c8 : Value} {o2 : Obj} (hb : Below ((W.alloc (.cells #[c0, c1, c2, c3, c4, c5, c6, c7, c8] 40)).alloc o2).heap.size ((W.alloc (.cells #[c0, c1, c2, c3, c4, c5, c6, c7, c8] 40)).alloc o2) w1) :
  w1.cell? ⟨W.heap.size, 0, none⟩ = some c0 ∧ w1.cell? ⟨W.heap.size, 1, none⟩ = some c1 ∧ w1.cell? ⟨W.heap.size, 2, none⟩ = some c2 ∧ w1.cell? ⟨W.heap.size, 3, none⟩ = some c3 ∧ w1.cell? ⟨W.heap.size, 4, none⟩ = some c4 ∧ w1.cell? ⟨W.heap.size, 5, none⟩ = some c5 ∧ w1.cell? ⟨W.heap.size, 6, none⟩ = some c6 ∧ w1.cell? ⟨W.heap.size, 7, none⟩ = some c7 ∧ w1.cell? ⟨W.heap.size, 8, none⟩ = some c8 :=
 leafcells (((Below.refl _ _).alloc (Nat.le_refl _) o2).trans (hb.mono (by simp)))
set_option maxRecDepth 100000 in
set_option maxHeartbeats 4000000 in
theorem refmayK0 (kk : Nat) (n : Int) (t r i s : Nat) (x : ByteArray) (ia : Option Addr) (il ic : Nat) (da : Option Addr) (dl dc : Nat) (li : List Lm.It) (ld : List Dt.Dot) (W : World) (hi : IRow W ia ic li) (hil : li.length = il) (hd : VRow W da dc ld) (hdl : ld.length = dl) (hx : x.size ≤ 9223372036854775807) (hk : kk < 1) :
  Calls Try.prog 13 #[leafV kk n t r i s x ia il ic da dl dc] W fun e w' => e = .returned (.bool (Lm.refMay ⟨kk, n, t, ((r, i), s), x, li, ld⟩)) ∧ Below W.heap.size W w' := by
 have HBox := Lib.hid (below_box W #[.int .u8 (kk : Int), .int .i64 n, .int .u64 (t : Int), .int .u8 (r : Int), .int .u32 (i : Int), .int .u64 (s : Int), .string x, .slice ia il ic, .slice da dl dc] 40)
 have HBox2 := Lib.hid (HBox.out.alloc HBox.out.size (.cells #[.int .u8 0, .int .u32 0, .int .u64 0] 31))
 have hic := hi.cap; have hdc := hd.cap; have hile := hi.le; have hdle := hd.le
 rw [hil] at hile; rw [hdl] at hdle
 have HI := Lib.hid hi; have HIl := Lib.hid hil; have HD := Lib.hid hd; have HDl := Lib.hid hdl; have HX := Lib.hid hx
 clear hi hil hd hdl hx
 have d1 : (kk : Int) < 1 := by omega
 have HK := Lib.hid hk; clear hk
 go_enter Try.func13, Try.ntmps13
 go_wp2_with fail
 go_ret
 exact ⟨ret_bool (by have := HK.out; simp [Lm.refMay, Lm.headA]; omega), HBox.out⟩
set_option maxRecDepth 100000 in
set_option maxHeartbeats 4000000 in
theorem refmayK5 (kk : Nat) (n : Int) (t r i s : Nat) (x : ByteArray) (ia : Option Addr) (il ic : Nat) (da : Option Addr) (dl dc : Nat) (li : List Lm.It) (ld : List Dt.Dot) (W : World) (hi : IRow W ia ic li) (hil : li.length = il) (hd : VRow W da dc ld) (hdl : ld.length = dl) (hx : x.size ≤ 9223372036854775807) (hk : 4 < kk) :
  Calls Try.prog 13 #[leafV kk n t r i s x ia il ic da dl dc] W fun e w' => e = .returned (.bool (Lm.refMay ⟨kk, n, t, ((r, i), s), x, li, ld⟩)) ∧ Below W.heap.size W w' := by
 have HBox := Lib.hid (below_box W #[.int .u8 (kk : Int), .int .i64 n, .int .u64 (t : Int), .int .u8 (r : Int), .int .u32 (i : Int), .int .u64 (s : Int), .string x, .slice ia il ic, .slice da dl dc] 40)
 have HBox2 := Lib.hid (HBox.out.alloc HBox.out.size (.cells #[.int .u8 0, .int .u32 0, .int .u64 0] 31))
 have hic := hi.cap; have hdc := hd.cap; have hile := hi.le; have hdle := hd.le
 rw [hil] at hile; rw [hdl] at hdle
 have HI := Lib.hid hi; have HIl := Lib.hid hil; have HD := Lib.hid hd; have HDl := Lib.hid hdl; have HX := Lib.hid hx
 clear hi hil hd hdl hx
 have d0 : ¬ (kk : Int) < 1 := by omega
 have d1 : (4 : Int) < (kk : Int) := by omega
 have HK := Lib.hid hk; clear hk
 go_enter Try.func13, Try.ntmps13
 go_wp2_with fail
 go_ret
 exact ⟨ret_bool (by have := HK.out; simp [Lm.refMay, Lm.headA]; omega), HBox.out⟩
set_option maxRecDepth 100000 in
set_option maxHeartbeats 4000000 in
theorem refmayI1 (kk : Nat) (n : Int) (t r i s : Nat) (x : ByteArray) (ia : Option Addr) (il ic : Nat) (da : Option Addr) (dl dc : Nat) (li : List Lm.It) (ld : List Dt.Dot) (W : World) (hi : IRow W ia ic li) (hil : li.length = il) (hd : VRow W da dc ld) (hdl : ld.length = dl) (hx : x.size ≤ 9223372036854775807) (hk : kk = 1) (h : 0 < il) :
  Calls Try.prog 13 #[leafV kk n t r i s x ia il ic da dl dc] W fun e w' => e = .returned (.bool (Lm.refMay ⟨kk, n, t, ((r, i), s), x, li, ld⟩)) ∧ Below W.heap.size W w' := by
 have HBox := Lib.hid (below_box W #[.int .u8 (kk : Int), .int .i64 n, .int .u64 (t : Int), .int .u8 (r : Int), .int .u32 (i : Int), .int .u64 (s : Int), .string x, .slice ia il ic, .slice da dl dc] 40)
 have HBox2 := Lib.hid (HBox.out.alloc HBox.out.size (.cells #[.int .u8 0, .int .u32 0, .int .u64 0] 31))
 have hic := hi.cap; have hdc := hd.cap; have hile := hi.le; have hdle := hd.le
 rw [hil] at hile; rw [hdl] at hdle
 have HI := Lib.hid hi; have HIl := Lib.hid hil; have HD := Lib.hid hd; have HDl := Lib.hid hdl; have HX := Lib.hid hx
 clear hi hil hd hdl hx
 subst hk
 have e1 : (0 : Int) < (il : Int) := by omega
 have HH := Lib.hid h; clear h
 go_enter Try.func13, Try.ntmps13
 go_wp2_with fail
 go_ret
 exact ⟨ret_bool (by have h2 : li ≠ [] := (fun e => by have := HH.out; have h3 := HIl.out; rw [e] at h3; simp at h3; omega); simp [Lm.refMay, Lm.headA, h2]), HBox.out⟩
set_option maxRecDepth 100000 in
set_option maxHeartbeats 4000000 in
theorem refmayD1 (kk : Nat) (n : Int) (t r i s : Nat) (x : ByteArray) (ia : Option Addr) (il ic : Nat) (da : Option Addr) (dl dc : Nat) (li : List Lm.It) (ld : List Dt.Dot) (W : World) (hi : IRow W ia ic li) (hil : li.length = il) (hd : VRow W da dc ld) (hdl : ld.length = dl) (hx : x.size ≤ 9223372036854775807) (hk : kk = 1) (h0 : il = 0) (h : 0 < dl) :
  Calls Try.prog 13 #[leafV kk n t r i s x ia il ic da dl dc] W fun e w' => e = .returned (.bool (Lm.refMay ⟨kk, n, t, ((r, i), s), x, li, ld⟩)) ∧ Below W.heap.size W w' := by
 have HBox := Lib.hid (below_box W #[.int .u8 (kk : Int), .int .i64 n, .int .u64 (t : Int), .int .u8 (r : Int), .int .u32 (i : Int), .int .u64 (s : Int), .string x, .slice ia il ic, .slice da dl dc] 40)
 have HBox2 := Lib.hid (HBox.out.alloc HBox.out.size (.cells #[.int .u8 0, .int .u32 0, .int .u64 0] 31))
 have hic := hi.cap; have hdc := hd.cap; have hile := hi.le; have hdle := hd.le
 rw [hil] at hile; rw [hdl] at hdle
 have HI := Lib.hid hi; have HIl := Lib.hid hil; have HD := Lib.hid hd; have HDl := Lib.hid hdl; have HX := Lib.hid hx
 clear hi hil hd hdl hx
 subst h0 hk
 have e1 : (0 : Int) < (dl : Int) := by omega
 have HH := Lib.hid h; clear h
 go_enter Try.func13, Try.ntmps13
 go_wp2_with fail
 go_ret
 exact ⟨ret_bool (by have h2 : ld ≠ [] := (fun e => by have := HH.out; have h3 := HDl.out; rw [e] at h3; simp at h3; omega); simp [Lm.refMay, Lm.headA, h2]), HBox.out⟩
set_option maxRecDepth 100000 in
set_option maxHeartbeats 4000000 in
theorem refmayT1 (kk : Nat) (n : Int) (t r i s : Nat) (x : ByteArray) (ia : Option Addr) (il ic : Nat) (da : Option Addr) (dl dc : Nat) (li : List Lm.It) (ld : List Dt.Dot) (W : World) (hi : IRow W ia ic li) (hil : li.length = il) (hd : VRow W da dc ld) (hdl : ld.length = dl) (hx : x.size ≤ 9223372036854775807) (hk : kk = 1) (h0 : il = 0) (h1 : dl = 0) (h : t ≠ 0) :
  Calls Try.prog 13 #[leafV kk n t r i s x ia il ic da dl dc] W fun e w' => e = .returned (.bool (Lm.refMay ⟨kk, n, t, ((r, i), s), x, li, ld⟩)) ∧ Below W.heap.size W w' := by
 have HBox := Lib.hid (below_box W #[.int .u8 (kk : Int), .int .i64 n, .int .u64 (t : Int), .int .u8 (r : Int), .int .u32 (i : Int), .int .u64 (s : Int), .string x, .slice ia il ic, .slice da dl dc] 40)
 have HBox2 := Lib.hid (HBox.out.alloc HBox.out.size (.cells #[.int .u8 0, .int .u32 0, .int .u64 0] 31))
 have hic := hi.cap; have hdc := hd.cap; have hile := hi.le; have hdle := hd.le
 rw [hil] at hile; rw [hdl] at hdle
 have HI := Lib.hid hi; have HIl := Lib.hid hil; have HD := Lib.hid hd; have HDl := Lib.hid hdl; have HX := Lib.hid hx
 clear hi hil hd hdl hx
 subst h1 h0 hk
 have e1_t : ((t : Int) == 0) = false := by simp; omega
 have e2_t : ((t : Int) != 0) = true := by simp; omega
 have HH := Lib.hid h; clear h
 go_enter Try.func13, Try.ntmps13
 go_wp2_with fail
 go_ret
 exact ⟨ret_bool (by simp [Lm.refMay, Lm.headA, Lm.headB, HH.out]), HBox2.out⟩
set_option maxRecDepth 100000 in
set_option maxHeartbeats 4000000 in
theorem refmayB1_r (kk : Nat) (n : Int) (t r i s : Nat) (x : ByteArray) (ia : Option Addr) (il ic : Nat) (da : Option Addr) (dl dc : Nat) (li : List Lm.It) (ld : List Dt.Dot) (W : World) (hi : IRow W ia ic li) (hil : li.length = il) (hd : VRow W da dc ld) (hdl : ld.length = dl) (hx : x.size ≤ 9223372036854775807) (hk : kk = 1) (h0 : il = 0) (h1 : dl = 0) (ht : t = 0) (h : r ≠ 0) :
  Calls Try.prog 13 #[leafV kk n t r i s x ia il ic da dl dc] W fun e w' => e = .returned (.bool (Lm.refMay ⟨kk, n, t, ((r, i), s), x, li, ld⟩)) ∧ Below W.heap.size W w' := by
 have HBox := Lib.hid (below_box W #[.int .u8 (kk : Int), .int .i64 n, .int .u64 (t : Int), .int .u8 (r : Int), .int .u32 (i : Int), .int .u64 (s : Int), .string x, .slice ia il ic, .slice da dl dc] 40)
 have HBox2 := Lib.hid (HBox.out.alloc HBox.out.size (.cells #[.int .u8 0, .int .u32 0, .int .u64 0] 31))
 have hic := hi.cap; have hdc := hd.cap; have hile := hi.le; have hdle := hd.le
 rw [hil] at hile; rw [hdl] at hdle
 have HI := Lib.hid hi; have HIl := Lib.hid hil; have HD := Lib.hid hd; have HDl := Lib.hid hdl; have HX := Lib.hid hx
 clear hi hil hd hdl hx
 subst ht h1 h0 hk
 have e1_r : ((r : Int) == 0) = false := by simp; omega
 have e2_r : ((r : Int) != 0) = true := by simp; omega
 have HH := Lib.hid h; clear h
 go_enter Try.func13, Try.ntmps13
 go_wp2_with fail
 go_ret
 exact ⟨ret_bool (by simp [Lm.refMay, Lm.headA, Lm.headB, HH.out]), HBox2.out⟩
set_option maxRecDepth 100000 in
set_option maxHeartbeats 4000000 in
theorem refmayB1_i (kk : Nat) (n : Int) (t r i s : Nat) (x : ByteArray) (ia : Option Addr) (il ic : Nat) (da : Option Addr) (dl dc : Nat) (li : List Lm.It) (ld : List Dt.Dot) (W : World) (hi : IRow W ia ic li) (hil : li.length = il) (hd : VRow W da dc ld) (hdl : ld.length = dl) (hx : x.size ≤ 9223372036854775807) (hk : kk = 1) (h0 : il = 0) (h1 : dl = 0) (ht : t = 0) (z_r : r = 0) (h : i ≠ 0) :
  Calls Try.prog 13 #[leafV kk n t r i s x ia il ic da dl dc] W fun e w' => e = .returned (.bool (Lm.refMay ⟨kk, n, t, ((r, i), s), x, li, ld⟩)) ∧ Below W.heap.size W w' := by
 have HBox := Lib.hid (below_box W #[.int .u8 (kk : Int), .int .i64 n, .int .u64 (t : Int), .int .u8 (r : Int), .int .u32 (i : Int), .int .u64 (s : Int), .string x, .slice ia il ic, .slice da dl dc] 40)
 have HBox2 := Lib.hid (HBox.out.alloc HBox.out.size (.cells #[.int .u8 0, .int .u32 0, .int .u64 0] 31))
 have hic := hi.cap; have hdc := hd.cap; have hile := hi.le; have hdle := hd.le
 rw [hil] at hile; rw [hdl] at hdle
 have HI := Lib.hid hi; have HIl := Lib.hid hil; have HD := Lib.hid hd; have HDl := Lib.hid hdl; have HX := Lib.hid hx
 clear hi hil hd hdl hx
 subst z_r ht h1 h0 hk
 have e1_i : ((i : Int) == 0) = false := by simp; omega
 have e2_i : ((i : Int) != 0) = true := by simp; omega
 have HH := Lib.hid h; clear h
 go_enter Try.func13, Try.ntmps13
 go_wp2_with fail
 go_ret
 exact ⟨ret_bool (by simp [Lm.refMay, Lm.headA, Lm.headB, HH.out]), HBox2.out⟩
set_option maxRecDepth 100000 in
set_option maxHeartbeats 4000000 in
theorem refmayB1_s (kk : Nat) (n : Int) (t r i s : Nat) (x : ByteArray) (ia : Option Addr) (il ic : Nat) (da : Option Addr) (dl dc : Nat) (li : List Lm.It) (ld : List Dt.Dot) (W : World) (hi : IRow W ia ic li) (hil : li.length = il) (hd : VRow W da dc ld) (hdl : ld.length = dl) (hx : x.size ≤ 9223372036854775807) (hk : kk = 1) (h0 : il = 0) (h1 : dl = 0) (ht : t = 0) (z_r : r = 0) (z_i : i = 0) (h : s ≠ 0) :
  Calls Try.prog 13 #[leafV kk n t r i s x ia il ic da dl dc] W fun e w' => e = .returned (.bool (Lm.refMay ⟨kk, n, t, ((r, i), s), x, li, ld⟩)) ∧ Below W.heap.size W w' := by
 have HBox := Lib.hid (below_box W #[.int .u8 (kk : Int), .int .i64 n, .int .u64 (t : Int), .int .u8 (r : Int), .int .u32 (i : Int), .int .u64 (s : Int), .string x, .slice ia il ic, .slice da dl dc] 40)
 have HBox2 := Lib.hid (HBox.out.alloc HBox.out.size (.cells #[.int .u8 0, .int .u32 0, .int .u64 0] 31))
 have hic := hi.cap; have hdc := hd.cap; have hile := hi.le; have hdle := hd.le
 rw [hil] at hile; rw [hdl] at hdle
 have HI := Lib.hid hi; have HIl := Lib.hid hil; have HD := Lib.hid hd; have HDl := Lib.hid hdl; have HX := Lib.hid hx
 clear hi hil hd hdl hx
 subst z_r z_i ht h1 h0 hk
 have e1_s : ((s : Int) == 0) = false := by simp; omega
 have e2_s : ((s : Int) != 0) = true := by simp; omega
 have HH := Lib.hid h; clear h
 go_enter Try.func13, Try.ntmps13
 go_wp2_with fail
 go_ret
 exact ⟨ret_bool (by simp [Lm.refMay, Lm.headA, Lm.headB, HH.out]), HBox2.out⟩
set_option maxRecDepth 100000 in
set_option maxHeartbeats 4000000 in
theorem refmayB1_x (kk : Nat) (n : Int) (t r i s : Nat) (x : ByteArray) (ia : Option Addr) (il ic : Nat) (da : Option Addr) (dl dc : Nat) (li : List Lm.It) (ld : List Dt.Dot) (W : World) (hi : IRow W ia ic li) (hil : li.length = il) (hd : VRow W da dc ld) (hdl : ld.length = dl) (hx : x.size ≤ 9223372036854775807) (hk : kk = 1) (h0 : il = 0) (h1 : dl = 0) (ht : t = 0) (z_r : r = 0) (z_i : i = 0) (z_s : s = 0) (h : x.size ≠ 0) :
  Calls Try.prog 13 #[leafV kk n t r i s x ia il ic da dl dc] W fun e w' => e = .returned (.bool (Lm.refMay ⟨kk, n, t, ((r, i), s), x, li, ld⟩)) ∧ Below W.heap.size W w' := by
 have HBox := Lib.hid (below_box W #[.int .u8 (kk : Int), .int .i64 n, .int .u64 (t : Int), .int .u8 (r : Int), .int .u32 (i : Int), .int .u64 (s : Int), .string x, .slice ia il ic, .slice da dl dc] 40)
 have HBox2 := Lib.hid (HBox.out.alloc HBox.out.size (.cells #[.int .u8 0, .int .u32 0, .int .u64 0] 31))
 have hic := hi.cap; have hdc := hd.cap; have hile := hi.le; have hdle := hd.le
 rw [hil] at hile; rw [hdl] at hdle
 have HI := Lib.hid hi; have HIl := Lib.hid hil; have HD := Lib.hid hd; have HDl := Lib.hid hdl; have HX := Lib.hid hx
 clear hi hil hd hdl hx
 subst z_r z_i z_s ht h1 h0 hk
 have hx1 : x ≠ ⟨#[]⟩ := fun e => h (Lm.text_zero.1 e)
 have e0 : x.toList ≠ [] := fun e => h ((str_nil x).1 e)
 have e1 : (x.toList == []) = false := by simpa using e0
 have e2 : (x.toList != []) = true := by simp [bne, e1]
 have e3 := str_ne hx1
 have HH := Lib.hid h; clear h hx1 e0
 go_enter Try.func13, Try.ntmps13
 go_wp2_with fail
 go_ret
 exact ⟨ret_bool (by simp [Lm.refMay, Lm.headA, Lm.headB, HH.out, -ByteArray.size_eq_zero_iff]), HBox2.out⟩
set_option maxRecDepth 100000 in
set_option maxHeartbeats 4000000 in
theorem refmayN2 (kk : Nat) (n : Int) (t r i s : Nat) (x : ByteArray) (ia : Option Addr) (il ic : Nat) (da : Option Addr) (dl dc : Nat) (li : List Lm.It) (ld : List Dt.Dot) (W : World) (hi : IRow W ia ic li) (hil : li.length = il) (hd : VRow W da dc ld) (hdl : ld.length = dl) (hx : x.size ≤ 9223372036854775807) (hk : kk = 2) (hn : n ≠ 0) :
  Calls Try.prog 13 #[leafV kk n t r i s x ia il ic da dl dc] W fun e w' => e = .returned (.bool (Lm.refMay ⟨kk, n, t, ((r, i), s), x, li, ld⟩)) ∧ Below W.heap.size W w' := by
 have HBox := Lib.hid (below_box W #[.int .u8 (kk : Int), .int .i64 n, .int .u64 (t : Int), .int .u8 (r : Int), .int .u32 (i : Int), .int .u64 (s : Int), .string x, .slice ia il ic, .slice da dl dc] 40)
 have HBox2 := Lib.hid (HBox.out.alloc HBox.out.size (.cells #[.int .u8 0, .int .u32 0, .int .u64 0] 31))
 have hic := hi.cap; have hdc := hd.cap; have hile := hi.le; have hdle := hd.le
 rw [hil] at hile; rw [hdl] at hdle
 have HI := Lib.hid hi; have HIl := Lib.hid hil; have HD := Lib.hid hd; have HDl := Lib.hid hdl; have HX := Lib.hid hx
 clear hi hil hd hdl hx
 subst hk
 have e1 : (n == 0) = false := by simpa using hn
 have e2 : (n != 0) = true := by simpa using hn
 have HN := Lib.hid hn; clear hn
 go_enter Try.func13, Try.ntmps13
 go_wp2_with fail
 go_ret
 exact ⟨ret_bool (by simp [Lm.refMay, Lm.headA, HN.out]), HBox.out⟩
set_option maxRecDepth 100000 in
set_option maxHeartbeats 4000000 in
theorem refmayI2 (kk : Nat) (n : Int) (t r i s : Nat) (x : ByteArray) (ia : Option Addr) (il ic : Nat) (da : Option Addr) (dl dc : Nat) (li : List Lm.It) (ld : List Dt.Dot) (W : World) (hi : IRow W ia ic li) (hil : li.length = il) (hd : VRow W da dc ld) (hdl : ld.length = dl) (hx : x.size ≤ 9223372036854775807) (hk : kk = 2) (hn : n = 0) (h : 0 < il) :
  Calls Try.prog 13 #[leafV kk n t r i s x ia il ic da dl dc] W fun e w' => e = .returned (.bool (Lm.refMay ⟨kk, n, t, ((r, i), s), x, li, ld⟩)) ∧ Below W.heap.size W w' := by
 have HBox := Lib.hid (below_box W #[.int .u8 (kk : Int), .int .i64 n, .int .u64 (t : Int), .int .u8 (r : Int), .int .u32 (i : Int), .int .u64 (s : Int), .string x, .slice ia il ic, .slice da dl dc] 40)
 have HBox2 := Lib.hid (HBox.out.alloc HBox.out.size (.cells #[.int .u8 0, .int .u32 0, .int .u64 0] 31))
 have hic := hi.cap; have hdc := hd.cap; have hile := hi.le; have hdle := hd.le
 rw [hil] at hile; rw [hdl] at hdle
 have HI := Lib.hid hi; have HIl := Lib.hid hil; have HD := Lib.hid hd; have HDl := Lib.hid hdl; have HX := Lib.hid hx
 clear hi hil hd hdl hx
 subst hk hn
 have e1 : (0 : Int) < (il : Int) := by omega
 have HH := Lib.hid h; clear h
 go_enter Try.func13, Try.ntmps13
 go_wp2_with fail
 go_ret
 exact ⟨ret_bool (by have h2 : li ≠ [] := (fun e => by have := HH.out; have h3 := HIl.out; rw [e] at h3; simp at h3; omega); simp [Lm.refMay, Lm.headA, h2]), HBox.out⟩
set_option maxRecDepth 100000 in
set_option maxHeartbeats 4000000 in
theorem refmayD2 (kk : Nat) (n : Int) (t r i s : Nat) (x : ByteArray) (ia : Option Addr) (il ic : Nat) (da : Option Addr) (dl dc : Nat) (li : List Lm.It) (ld : List Dt.Dot) (W : World) (hi : IRow W ia ic li) (hil : li.length = il) (hd : VRow W da dc ld) (hdl : ld.length = dl) (hx : x.size ≤ 9223372036854775807) (hk : kk = 2) (hn : n = 0) (h0 : il = 0) (h : 0 < dl) :
  Calls Try.prog 13 #[leafV kk n t r i s x ia il ic da dl dc] W fun e w' => e = .returned (.bool (Lm.refMay ⟨kk, n, t, ((r, i), s), x, li, ld⟩)) ∧ Below W.heap.size W w' := by
 have HBox := Lib.hid (below_box W #[.int .u8 (kk : Int), .int .i64 n, .int .u64 (t : Int), .int .u8 (r : Int), .int .u32 (i : Int), .int .u64 (s : Int), .string x, .slice ia il ic, .slice da dl dc] 40)
 have HBox2 := Lib.hid (HBox.out.alloc HBox.out.size (.cells #[.int .u8 0, .int .u32 0, .int .u64 0] 31))
 have hic := hi.cap; have hdc := hd.cap; have hile := hi.le; have hdle := hd.le
 rw [hil] at hile; rw [hdl] at hdle
 have HI := Lib.hid hi; have HIl := Lib.hid hil; have HD := Lib.hid hd; have HDl := Lib.hid hdl; have HX := Lib.hid hx
 clear hi hil hd hdl hx
 subst h0 hk hn
 have e1 : (0 : Int) < (dl : Int) := by omega
 have HH := Lib.hid h; clear h
 go_enter Try.func13, Try.ntmps13
 go_wp2_with fail
 go_ret
 exact ⟨ret_bool (by have h2 : ld ≠ [] := (fun e => by have := HH.out; have h3 := HDl.out; rw [e] at h3; simp at h3; omega); simp [Lm.refMay, Lm.headA, h2]), HBox.out⟩
set_option maxRecDepth 100000 in
set_option maxHeartbeats 4000000 in
theorem refmayB2_r (kk : Nat) (n : Int) (t r i s : Nat) (x : ByteArray) (ia : Option Addr) (il ic : Nat) (da : Option Addr) (dl dc : Nat) (li : List Lm.It) (ld : List Dt.Dot) (W : World) (hi : IRow W ia ic li) (hil : li.length = il) (hd : VRow W da dc ld) (hdl : ld.length = dl) (hx : x.size ≤ 9223372036854775807) (hk : kk = 2) (hn : n = 0) (h0 : il = 0) (h1 : dl = 0) (ht : t = 0) (h : r ≠ 0) :
  Calls Try.prog 13 #[leafV kk n t r i s x ia il ic da dl dc] W fun e w' => e = .returned (.bool (Lm.refMay ⟨kk, n, t, ((r, i), s), x, li, ld⟩)) ∧ Below W.heap.size W w' := by
 have HBox := Lib.hid (below_box W #[.int .u8 (kk : Int), .int .i64 n, .int .u64 (t : Int), .int .u8 (r : Int), .int .u32 (i : Int), .int .u64 (s : Int), .string x, .slice ia il ic, .slice da dl dc] 40)
 have HBox2 := Lib.hid (HBox.out.alloc HBox.out.size (.cells #[.int .u8 0, .int .u32 0, .int .u64 0] 31))
 have hic := hi.cap; have hdc := hd.cap; have hile := hi.le; have hdle := hd.le
 rw [hil] at hile; rw [hdl] at hdle
 have HI := Lib.hid hi; have HIl := Lib.hid hil; have HD := Lib.hid hd; have HDl := Lib.hid hdl; have HX := Lib.hid hx
 clear hi hil hd hdl hx
 subst ht h1 h0 hk hn
 have e1_r : ((r : Int) == 0) = false := by simp; omega
 have e2_r : ((r : Int) != 0) = true := by simp; omega
 have HH := Lib.hid h; clear h
 go_enter Try.func13, Try.ntmps13
 go_wp2_with fail
 go_ret
 exact ⟨ret_bool (by simp [Lm.refMay, Lm.headA, Lm.headB, HH.out]), HBox2.out⟩
set_option maxRecDepth 100000 in
set_option maxHeartbeats 4000000 in
theorem refmayB2_i (kk : Nat) (n : Int) (t r i s : Nat) (x : ByteArray) (ia : Option Addr) (il ic : Nat) (da : Option Addr) (dl dc : Nat) (li : List Lm.It) (ld : List Dt.Dot) (W : World) (hi : IRow W ia ic li) (hil : li.length = il) (hd : VRow W da dc ld) (hdl : ld.length = dl) (hx : x.size ≤ 9223372036854775807) (hk : kk = 2) (hn : n = 0) (h0 : il = 0) (h1 : dl = 0) (ht : t = 0) (z_r : r = 0) (h : i ≠ 0) :
  Calls Try.prog 13 #[leafV kk n t r i s x ia il ic da dl dc] W fun e w' => e = .returned (.bool (Lm.refMay ⟨kk, n, t, ((r, i), s), x, li, ld⟩)) ∧ Below W.heap.size W w' := by
 have HBox := Lib.hid (below_box W #[.int .u8 (kk : Int), .int .i64 n, .int .u64 (t : Int), .int .u8 (r : Int), .int .u32 (i : Int), .int .u64 (s : Int), .string x, .slice ia il ic, .slice da dl dc] 40)
 have HBox2 := Lib.hid (HBox.out.alloc HBox.out.size (.cells #[.int .u8 0, .int .u32 0, .int .u64 0] 31))
 have hic := hi.cap; have hdc := hd.cap; have hile := hi.le; have hdle := hd.le
 rw [hil] at hile; rw [hdl] at hdle
 have HI := Lib.hid hi; have HIl := Lib.hid hil; have HD := Lib.hid hd; have HDl := Lib.hid hdl; have HX := Lib.hid hx
 clear hi hil hd hdl hx
 subst z_r ht h1 h0 hk hn
 have e1_i : ((i : Int) == 0) = false := by simp; omega
 have e2_i : ((i : Int) != 0) = true := by simp; omega
 have HH := Lib.hid h; clear h
 go_enter Try.func13, Try.ntmps13
 go_wp2_with fail
 go_ret
 exact ⟨ret_bool (by simp [Lm.refMay, Lm.headA, Lm.headB, HH.out]), HBox2.out⟩
set_option maxRecDepth 100000 in
set_option maxHeartbeats 4000000 in
theorem refmayB2_s (kk : Nat) (n : Int) (t r i s : Nat) (x : ByteArray) (ia : Option Addr) (il ic : Nat) (da : Option Addr) (dl dc : Nat) (li : List Lm.It) (ld : List Dt.Dot) (W : World) (hi : IRow W ia ic li) (hil : li.length = il) (hd : VRow W da dc ld) (hdl : ld.length = dl) (hx : x.size ≤ 9223372036854775807) (hk : kk = 2) (hn : n = 0) (h0 : il = 0) (h1 : dl = 0) (ht : t = 0) (z_r : r = 0) (z_i : i = 0) (h : s ≠ 0) :
  Calls Try.prog 13 #[leafV kk n t r i s x ia il ic da dl dc] W fun e w' => e = .returned (.bool (Lm.refMay ⟨kk, n, t, ((r, i), s), x, li, ld⟩)) ∧ Below W.heap.size W w' := by
 have HBox := Lib.hid (below_box W #[.int .u8 (kk : Int), .int .i64 n, .int .u64 (t : Int), .int .u8 (r : Int), .int .u32 (i : Int), .int .u64 (s : Int), .string x, .slice ia il ic, .slice da dl dc] 40)
 have HBox2 := Lib.hid (HBox.out.alloc HBox.out.size (.cells #[.int .u8 0, .int .u32 0, .int .u64 0] 31))
 have hic := hi.cap; have hdc := hd.cap; have hile := hi.le; have hdle := hd.le
 rw [hil] at hile; rw [hdl] at hdle
 have HI := Lib.hid hi; have HIl := Lib.hid hil; have HD := Lib.hid hd; have HDl := Lib.hid hdl; have HX := Lib.hid hx
 clear hi hil hd hdl hx
 subst z_r z_i ht h1 h0 hk hn
 have e1_s : ((s : Int) == 0) = false := by simp; omega
 have e2_s : ((s : Int) != 0) = true := by simp; omega
 have HH := Lib.hid h; clear h
 go_enter Try.func13, Try.ntmps13
 go_wp2_with fail
 go_ret
 exact ⟨ret_bool (by simp [Lm.refMay, Lm.headA, Lm.headB, HH.out]), HBox2.out⟩
set_option maxRecDepth 100000 in
set_option maxHeartbeats 4000000 in
theorem refmayB2_x (kk : Nat) (n : Int) (t r i s : Nat) (x : ByteArray) (ia : Option Addr) (il ic : Nat) (da : Option Addr) (dl dc : Nat) (li : List Lm.It) (ld : List Dt.Dot) (W : World) (hi : IRow W ia ic li) (hil : li.length = il) (hd : VRow W da dc ld) (hdl : ld.length = dl) (hx : x.size ≤ 9223372036854775807) (hk : kk = 2) (hn : n = 0) (h0 : il = 0) (h1 : dl = 0) (ht : t = 0) (z_r : r = 0) (z_i : i = 0) (z_s : s = 0) (h : x.size ≠ 0) :
  Calls Try.prog 13 #[leafV kk n t r i s x ia il ic da dl dc] W fun e w' => e = .returned (.bool (Lm.refMay ⟨kk, n, t, ((r, i), s), x, li, ld⟩)) ∧ Below W.heap.size W w' := by
 have HBox := Lib.hid (below_box W #[.int .u8 (kk : Int), .int .i64 n, .int .u64 (t : Int), .int .u8 (r : Int), .int .u32 (i : Int), .int .u64 (s : Int), .string x, .slice ia il ic, .slice da dl dc] 40)
 have HBox2 := Lib.hid (HBox.out.alloc HBox.out.size (.cells #[.int .u8 0, .int .u32 0, .int .u64 0] 31))
 have hic := hi.cap; have hdc := hd.cap; have hile := hi.le; have hdle := hd.le
 rw [hil] at hile; rw [hdl] at hdle
 have HI := Lib.hid hi; have HIl := Lib.hid hil; have HD := Lib.hid hd; have HDl := Lib.hid hdl; have HX := Lib.hid hx
 clear hi hil hd hdl hx
 subst z_r z_i z_s ht h1 h0 hk hn
 have hx1 : x ≠ ⟨#[]⟩ := fun e => h (Lm.text_zero.1 e)
 have e0 : x.toList ≠ [] := fun e => h ((str_nil x).1 e)
 have e1 : (x.toList == []) = false := by simpa using e0
 have e2 : (x.toList != []) = true := by simp [bne, e1]
 have e3 := str_ne hx1
 have HH := Lib.hid h; clear h hx1 e0
 go_enter Try.func13, Try.ntmps13
 go_wp2_with fail
 go_ret
 exact ⟨ret_bool (by simp [Lm.refMay, Lm.headA, Lm.headB, HH.out, -ByteArray.size_eq_zero_iff]), HBox2.out⟩
set_option maxRecDepth 100000 in
set_option maxHeartbeats 4000000 in
theorem refmayT2 (kk : Nat) (n : Int) (t r i s : Nat) (x : ByteArray) (ia : Option Addr) (il ic : Nat) (da : Option Addr) (dl dc : Nat) (li : List Lm.It) (ld : List Dt.Dot) (W : World) (hi : IRow W ia ic li) (hil : li.length = il) (hd : VRow W da dc ld) (hdl : ld.length = dl) (hx : x.size ≤ 9223372036854775807) (hk : kk = 2) (hn : n = 0) (h0 : il = 0) (h1 : dl = 0) (ht : t ≠ 0) (h : 1099511627776 < t) :
  Calls Try.prog 13 #[leafV kk n t r i s x ia il ic da dl dc] W fun e w' => e = .returned (.bool (Lm.refMay ⟨kk, n, t, ((r, i), s), x, li, ld⟩)) ∧ Below W.heap.size W w' := by
 have HBox := Lib.hid (below_box W #[.int .u8 (kk : Int), .int .i64 n, .int .u64 (t : Int), .int .u8 (r : Int), .int .u32 (i : Int), .int .u64 (s : Int), .string x, .slice ia il ic, .slice da dl dc] 40)
 have HBox2 := Lib.hid (HBox.out.alloc HBox.out.size (.cells #[.int .u8 0, .int .u32 0, .int .u64 0] 31))
 have hic := hi.cap; have hdc := hd.cap; have hile := hi.le; have hdle := hd.le
 rw [hil] at hile; rw [hdl] at hdle
 have HI := Lib.hid hi; have HIl := Lib.hid hil; have HD := Lib.hid hd; have HDl := Lib.hid hdl; have HX := Lib.hid hx
 clear hi hil hd hdl hx
 subst h1 h0 hk hn
 have e1_t : ((t : Int) == 0) = false := by simp; omega
 have e2_t : ((t : Int) != 0) = true := by simp; omega
 have d1 : (1099511627776 : Int) < (t : Int) := by omega
 have HT := Lib.hid ht; have HH := Lib.hid h; clear ht h
 go_enter Try.func13, Try.ntmps13
 go_wp2_with fail
 go_ret
 exact ⟨ret_bool (by have := HH.out; simp [Lm.refMay, Lm.headA, Lm.headB, HT.out]; omega), HBox2.out⟩
set_option maxRecDepth 100000 in
set_option maxHeartbeats 4000000 in
theorem refmayM2 (kk : Nat) (n : Int) (t r i s : Nat) (x : ByteArray) (ia : Option Addr) (il ic : Nat) (da : Option Addr) (dl dc : Nat) (li : List Lm.It) (ld : List Dt.Dot) (W : World) (hi : IRow W ia ic li) (hil : li.length = il) (hd : VRow W da dc ld) (hdl : ld.length = dl) (hx : x.size ≤ 9223372036854775807) (hk : kk = 2) (hn : n = 0) (h0 : il = 0) (h1 : dl = 0) (ht : t ≠ 0) (ht2 : t ≤ 1099511627776) (h : Dt.may ((r, i), s) = false) :
  Calls Try.prog 13 #[leafV kk n t r i s x ia il ic da dl dc] W fun e w' => e = .returned (.bool (Lm.refMay ⟨kk, n, t, ((r, i), s), x, li, ld⟩)) ∧ Below W.heap.size W w' := by
 have HBox := Lib.hid (below_box W #[.int .u8 (kk : Int), .int .i64 n, .int .u64 (t : Int), .int .u8 (r : Int), .int .u32 (i : Int), .int .u64 (s : Int), .string x, .slice ia il ic, .slice da dl dc] 40)
 have HBox2 := Lib.hid (HBox.out.alloc HBox.out.size (.cells #[.int .u8 0, .int .u32 0, .int .u64 0] 31))
 have hic := hi.cap; have hdc := hd.cap; have hile := hi.le; have hdle := hd.le
 rw [hil] at hile; rw [hdl] at hdle
 have HI := Lib.hid hi; have HIl := Lib.hid hil; have HD := Lib.hid hd; have HDl := Lib.hid hdl; have HX := Lib.hid hx
 clear hi hil hd hdl hx
 subst h1 h0 hk hn
 have e1_t : ((t : Int) == 0) = false := by simp; omega
 have e2_t : ((t : Int) != 0) = true := by simp; omega
 have d1 : ¬ (1099511627776 : Int) < (t : Int) := by omega
 have HT := Lib.hid ht; have HT2 := Lib.hid ht2; clear ht ht2
 have HH := Lib.hid h
 clear h
 go_enter Try.func13, Try.ntmps13
 go_wp2_with fail
 refine (refmay_any r i s _).mono ?_
 rintro e w1 ⟨rfl, hb⟩
 have HB := Lib.hid hb
 obtain ⟨hc0, hc1, hc2, hc3, hc4, hc5, hc6, hc7, hc8⟩ := leafcells2 hb
 clear hb
 rw [HH.out]
 go_wp2_with fail
 go_ret
 exact ⟨ret_bool (by simp [Lm.refMay, Lm.headA, Lm.headB, HT.out, HT2.out, HH.out]), HBox2.out.trans (HB.out.mono HBox2.out.size)⟩
set_option maxRecDepth 100000 in
set_option maxHeartbeats 4000000 in
theorem refmayX2 (kk : Nat) (n : Int) (t r i s : Nat) (x : ByteArray) (ia : Option Addr) (il ic : Nat) (da : Option Addr) (dl dc : Nat) (li : List Lm.It) (ld : List Dt.Dot) (W : World) (hi : IRow W ia ic li) (hil : li.length = il) (hd : VRow W da dc ld) (hdl : ld.length = dl) (hx : x.size ≤ 9223372036854775807) (hk : kk = 2) (hn : n = 0) (h0 : il = 0) (h1 : dl = 0) (ht : t ≠ 0) (ht2 : t ≤ 1099511627776) (hm : Dt.may ((r, i), s) = true) (h : 40 < x.size) :
  Calls Try.prog 13 #[leafV kk n t r i s x ia il ic da dl dc] W fun e w' => e = .returned (.bool (Lm.refMay ⟨kk, n, t, ((r, i), s), x, li, ld⟩)) ∧ Below W.heap.size W w' := by
 have HBox := Lib.hid (below_box W #[.int .u8 (kk : Int), .int .i64 n, .int .u64 (t : Int), .int .u8 (r : Int), .int .u32 (i : Int), .int .u64 (s : Int), .string x, .slice ia il ic, .slice da dl dc] 40)
 have HBox2 := Lib.hid (HBox.out.alloc HBox.out.size (.cells #[.int .u8 0, .int .u32 0, .int .u64 0] 31))
 have hic := hi.cap; have hdc := hd.cap; have hile := hi.le; have hdle := hd.le
 rw [hil] at hile; rw [hdl] at hdle
 have HI := Lib.hid hi; have HIl := Lib.hid hil; have HD := Lib.hid hd; have HDl := Lib.hid hdl; have HX := Lib.hid hx
 clear hi hil hd hdl hx
 subst h1 h0 hk hn
 have e1_t : ((t : Int) == 0) = false := by simp; omega
 have e2_t : ((t : Int) != 0) = true := by simp; omega
 have d1 : ¬ (1099511627776 : Int) < (t : Int) := by omega
 have HT := Lib.hid ht; have HT2 := Lib.hid ht2; clear ht ht2
 have HH := Lib.hid h; have HM := Lib.hid hm
 have d2 : (40 : Int) < (x.size : Int) := by omega
 clear h hm
 go_enter Try.func13, Try.ntmps13
 go_wp2_with fail
 refine (refmay_any r i s _).mono ?_
 rintro e w1 ⟨rfl, hb⟩
 have HB := Lib.hid hb
 obtain ⟨hc0, hc1, hc2, hc3, hc4, hc5, hc6, hc7, hc8⟩ := leafcells2 hb
 clear hb
 rw [HM.out]
 go_wp2_with fail
 go_ret
 exact ⟨ret_bool (by have := HH.out; simp [Lm.refMay, Lm.headA, Lm.headB, HT.out, HT2.out, HM.out]; omega), HBox2.out.trans (HB.out.mono HBox2.out.size)⟩
set_option maxRecDepth 100000 in
set_option maxHeartbeats 4000000 in
theorem refmayN3 (kk : Nat) (n : Int) (t r i s : Nat) (x : ByteArray) (ia : Option Addr) (il ic : Nat) (da : Option Addr) (dl dc : Nat) (li : List Lm.It) (ld : List Dt.Dot) (W : World) (hi : IRow W ia ic li) (hil : li.length = il) (hd : VRow W da dc ld) (hdl : ld.length = dl) (hx : x.size ≤ 9223372036854775807) (hk : kk = 3) (hn : n ≠ 0) :
  Calls Try.prog 13 #[leafV kk n t r i s x ia il ic da dl dc] W fun e w' => e = .returned (.bool (Lm.refMay ⟨kk, n, t, ((r, i), s), x, li, ld⟩)) ∧ Below W.heap.size W w' := by
 have HBox := Lib.hid (below_box W #[.int .u8 (kk : Int), .int .i64 n, .int .u64 (t : Int), .int .u8 (r : Int), .int .u32 (i : Int), .int .u64 (s : Int), .string x, .slice ia il ic, .slice da dl dc] 40)
 have HBox2 := Lib.hid (HBox.out.alloc HBox.out.size (.cells #[.int .u8 0, .int .u32 0, .int .u64 0] 31))
 have hic := hi.cap; have hdc := hd.cap; have hile := hi.le; have hdle := hd.le
 rw [hil] at hile; rw [hdl] at hdle
 have HI := Lib.hid hi; have HIl := Lib.hid hil; have HD := Lib.hid hd; have HDl := Lib.hid hdl; have HX := Lib.hid hx
 clear hi hil hd hdl hx
 subst hk
 have e1 : (n == 0) = false := by simpa using hn
 have e2 : (n != 0) = true := by simpa using hn
 have HN := Lib.hid hn; clear hn
 go_enter Try.func13, Try.ntmps13
 go_wp2_with fail
 go_ret
 exact ⟨ret_bool (by simp [Lm.refMay, Lm.headA, HN.out]), HBox.out⟩
set_option maxRecDepth 100000 in
set_option maxHeartbeats 4000000 in
theorem refmayT3 (kk : Nat) (n : Int) (t r i s : Nat) (x : ByteArray) (ia : Option Addr) (il ic : Nat) (da : Option Addr) (dl dc : Nat) (li : List Lm.It) (ld : List Dt.Dot) (W : World) (hi : IRow W ia ic li) (hil : li.length = il) (hd : VRow W da dc ld) (hdl : ld.length = dl) (hx : x.size ≤ 9223372036854775807) (hk : kk = 3) (hn : n = 0) (h : t ≠ 0) :
  Calls Try.prog 13 #[leafV kk n t r i s x ia il ic da dl dc] W fun e w' => e = .returned (.bool (Lm.refMay ⟨kk, n, t, ((r, i), s), x, li, ld⟩)) ∧ Below W.heap.size W w' := by
 have HBox := Lib.hid (below_box W #[.int .u8 (kk : Int), .int .i64 n, .int .u64 (t : Int), .int .u8 (r : Int), .int .u32 (i : Int), .int .u64 (s : Int), .string x, .slice ia il ic, .slice da dl dc] 40)
 have HBox2 := Lib.hid (HBox.out.alloc HBox.out.size (.cells #[.int .u8 0, .int .u32 0, .int .u64 0] 31))
 have hic := hi.cap; have hdc := hd.cap; have hile := hi.le; have hdle := hd.le
 rw [hil] at hile; rw [hdl] at hdle
 have HI := Lib.hid hi; have HIl := Lib.hid hil; have HD := Lib.hid hd; have HDl := Lib.hid hdl; have HX := Lib.hid hx
 clear hi hil hd hdl hx
 subst hk hn
 have e1_t : ((t : Int) == 0) = false := by simp; omega
 have e2_t : ((t : Int) != 0) = true := by simp; omega
 have HH := Lib.hid h; clear h
 go_enter Try.func13, Try.ntmps13
 go_wp2_with fail
 go_ret
 exact ⟨ret_bool (by simp [Lm.refMay, Lm.headA, Lm.headB, HH.out]), HBox2.out⟩
set_option maxRecDepth 100000 in
set_option maxHeartbeats 4000000 in
theorem refmayB3_r (kk : Nat) (n : Int) (t r i s : Nat) (x : ByteArray) (ia : Option Addr) (il ic : Nat) (da : Option Addr) (dl dc : Nat) (li : List Lm.It) (ld : List Dt.Dot) (W : World) (hi : IRow W ia ic li) (hil : li.length = il) (hd : VRow W da dc ld) (hdl : ld.length = dl) (hx : x.size ≤ 9223372036854775807) (hk : kk = 3) (hn : n = 0) (ht : t = 0) (h : r ≠ 0) :
  Calls Try.prog 13 #[leafV kk n t r i s x ia il ic da dl dc] W fun e w' => e = .returned (.bool (Lm.refMay ⟨kk, n, t, ((r, i), s), x, li, ld⟩)) ∧ Below W.heap.size W w' := by
 have HBox := Lib.hid (below_box W #[.int .u8 (kk : Int), .int .i64 n, .int .u64 (t : Int), .int .u8 (r : Int), .int .u32 (i : Int), .int .u64 (s : Int), .string x, .slice ia il ic, .slice da dl dc] 40)
 have HBox2 := Lib.hid (HBox.out.alloc HBox.out.size (.cells #[.int .u8 0, .int .u32 0, .int .u64 0] 31))
 have hic := hi.cap; have hdc := hd.cap; have hile := hi.le; have hdle := hd.le
 rw [hil] at hile; rw [hdl] at hdle
 have HI := Lib.hid hi; have HIl := Lib.hid hil; have HD := Lib.hid hd; have HDl := Lib.hid hdl; have HX := Lib.hid hx
 clear hi hil hd hdl hx
 subst ht hk hn
 have e1_r : ((r : Int) == 0) = false := by simp; omega
 have e2_r : ((r : Int) != 0) = true := by simp; omega
 have HH := Lib.hid h; clear h
 go_enter Try.func13, Try.ntmps13
 go_wp2_with fail
 go_ret
 exact ⟨ret_bool (by simp [Lm.refMay, Lm.headA, Lm.headB, HH.out]), HBox2.out⟩
set_option maxRecDepth 100000 in
set_option maxHeartbeats 4000000 in
theorem refmayB3_i (kk : Nat) (n : Int) (t r i s : Nat) (x : ByteArray) (ia : Option Addr) (il ic : Nat) (da : Option Addr) (dl dc : Nat) (li : List Lm.It) (ld : List Dt.Dot) (W : World) (hi : IRow W ia ic li) (hil : li.length = il) (hd : VRow W da dc ld) (hdl : ld.length = dl) (hx : x.size ≤ 9223372036854775807) (hk : kk = 3) (hn : n = 0) (ht : t = 0) (z_r : r = 0) (h : i ≠ 0) :
  Calls Try.prog 13 #[leafV kk n t r i s x ia il ic da dl dc] W fun e w' => e = .returned (.bool (Lm.refMay ⟨kk, n, t, ((r, i), s), x, li, ld⟩)) ∧ Below W.heap.size W w' := by
 have HBox := Lib.hid (below_box W #[.int .u8 (kk : Int), .int .i64 n, .int .u64 (t : Int), .int .u8 (r : Int), .int .u32 (i : Int), .int .u64 (s : Int), .string x, .slice ia il ic, .slice da dl dc] 40)
 have HBox2 := Lib.hid (HBox.out.alloc HBox.out.size (.cells #[.int .u8 0, .int .u32 0, .int .u64 0] 31))
 have hic := hi.cap; have hdc := hd.cap; have hile := hi.le; have hdle := hd.le
 rw [hil] at hile; rw [hdl] at hdle
 have HI := Lib.hid hi; have HIl := Lib.hid hil; have HD := Lib.hid hd; have HDl := Lib.hid hdl; have HX := Lib.hid hx
 clear hi hil hd hdl hx
 subst z_r ht hk hn
 have e1_i : ((i : Int) == 0) = false := by simp; omega
 have e2_i : ((i : Int) != 0) = true := by simp; omega
 have HH := Lib.hid h; clear h
 go_enter Try.func13, Try.ntmps13
 go_wp2_with fail
 go_ret
 exact ⟨ret_bool (by simp [Lm.refMay, Lm.headA, Lm.headB, HH.out]), HBox2.out⟩
set_option maxRecDepth 100000 in
set_option maxHeartbeats 4000000 in
theorem refmayB3_s (kk : Nat) (n : Int) (t r i s : Nat) (x : ByteArray) (ia : Option Addr) (il ic : Nat) (da : Option Addr) (dl dc : Nat) (li : List Lm.It) (ld : List Dt.Dot) (W : World) (hi : IRow W ia ic li) (hil : li.length = il) (hd : VRow W da dc ld) (hdl : ld.length = dl) (hx : x.size ≤ 9223372036854775807) (hk : kk = 3) (hn : n = 0) (ht : t = 0) (z_r : r = 0) (z_i : i = 0) (h : s ≠ 0) :
  Calls Try.prog 13 #[leafV kk n t r i s x ia il ic da dl dc] W fun e w' => e = .returned (.bool (Lm.refMay ⟨kk, n, t, ((r, i), s), x, li, ld⟩)) ∧ Below W.heap.size W w' := by
 have HBox := Lib.hid (below_box W #[.int .u8 (kk : Int), .int .i64 n, .int .u64 (t : Int), .int .u8 (r : Int), .int .u32 (i : Int), .int .u64 (s : Int), .string x, .slice ia il ic, .slice da dl dc] 40)
 have HBox2 := Lib.hid (HBox.out.alloc HBox.out.size (.cells #[.int .u8 0, .int .u32 0, .int .u64 0] 31))
 have hic := hi.cap; have hdc := hd.cap; have hile := hi.le; have hdle := hd.le
 rw [hil] at hile; rw [hdl] at hdle
 have HI := Lib.hid hi; have HIl := Lib.hid hil; have HD := Lib.hid hd; have HDl := Lib.hid hdl; have HX := Lib.hid hx
 clear hi hil hd hdl hx
 subst z_r z_i ht hk hn
 have e1_s : ((s : Int) == 0) = false := by simp; omega
 have e2_s : ((s : Int) != 0) = true := by simp; omega
 have HH := Lib.hid h; clear h
 go_enter Try.func13, Try.ntmps13
 go_wp2_with fail
 go_ret
 exact ⟨ret_bool (by simp [Lm.refMay, Lm.headA, Lm.headB, HH.out]), HBox2.out⟩
set_option maxRecDepth 100000 in
set_option maxHeartbeats 4000000 in
theorem refmayB3_x (kk : Nat) (n : Int) (t r i s : Nat) (x : ByteArray) (ia : Option Addr) (il ic : Nat) (da : Option Addr) (dl dc : Nat) (li : List Lm.It) (ld : List Dt.Dot) (W : World) (hi : IRow W ia ic li) (hil : li.length = il) (hd : VRow W da dc ld) (hdl : ld.length = dl) (hx : x.size ≤ 9223372036854775807) (hk : kk = 3) (hn : n = 0) (ht : t = 0) (z_r : r = 0) (z_i : i = 0) (z_s : s = 0) (h : x.size ≠ 0) :
  Calls Try.prog 13 #[leafV kk n t r i s x ia il ic da dl dc] W fun e w' => e = .returned (.bool (Lm.refMay ⟨kk, n, t, ((r, i), s), x, li, ld⟩)) ∧ Below W.heap.size W w' := by
 have HBox := Lib.hid (below_box W #[.int .u8 (kk : Int), .int .i64 n, .int .u64 (t : Int), .int .u8 (r : Int), .int .u32 (i : Int), .int .u64 (s : Int), .string x, .slice ia il ic, .slice da dl dc] 40)
 have HBox2 := Lib.hid (HBox.out.alloc HBox.out.size (.cells #[.int .u8 0, .int .u32 0, .int .u64 0] 31))
 have hic := hi.cap; have hdc := hd.cap; have hile := hi.le; have hdle := hd.le
 rw [hil] at hile; rw [hdl] at hdle
 have HI := Lib.hid hi; have HIl := Lib.hid hil; have HD := Lib.hid hd; have HDl := Lib.hid hdl; have HX := Lib.hid hx
 clear hi hil hd hdl hx
 subst z_r z_i z_s ht hk hn
 have hx1 : x ≠ ⟨#[]⟩ := fun e => h (Lm.text_zero.1 e)
 have e0 : x.toList ≠ [] := fun e => h ((str_nil x).1 e)
 have e1 : (x.toList == []) = false := by simpa using e0
 have e2 : (x.toList != []) = true := by simp [bne, e1]
 have e3 := str_ne hx1
 have HH := Lib.hid h; clear h hx1 e0
 go_enter Try.func13, Try.ntmps13
 go_wp2_with fail
 go_ret
 exact ⟨ret_bool (by simp [Lm.refMay, Lm.headA, Lm.headB, HH.out, -ByteArray.size_eq_zero_iff]), HBox2.out⟩
set_option maxRecDepth 100000 in
set_option maxHeartbeats 4000000 in
theorem refmayN4 (kk : Nat) (n : Int) (t r i s : Nat) (x : ByteArray) (ia : Option Addr) (il ic : Nat) (da : Option Addr) (dl dc : Nat) (li : List Lm.It) (ld : List Dt.Dot) (W : World) (hi : IRow W ia ic li) (hil : li.length = il) (hd : VRow W da dc ld) (hdl : ld.length = dl) (hx : x.size ≤ 9223372036854775807) (hk : kk = 4) (hn : n ≠ 0) :
  Calls Try.prog 13 #[leafV kk n t r i s x ia il ic da dl dc] W fun e w' => e = .returned (.bool (Lm.refMay ⟨kk, n, t, ((r, i), s), x, li, ld⟩)) ∧ Below W.heap.size W w' := by
 have HBox := Lib.hid (below_box W #[.int .u8 (kk : Int), .int .i64 n, .int .u64 (t : Int), .int .u8 (r : Int), .int .u32 (i : Int), .int .u64 (s : Int), .string x, .slice ia il ic, .slice da dl dc] 40)
 have HBox2 := Lib.hid (HBox.out.alloc HBox.out.size (.cells #[.int .u8 0, .int .u32 0, .int .u64 0] 31))
 have hic := hi.cap; have hdc := hd.cap; have hile := hi.le; have hdle := hd.le
 rw [hil] at hile; rw [hdl] at hdle
 have HI := Lib.hid hi; have HIl := Lib.hid hil; have HD := Lib.hid hd; have HDl := Lib.hid hdl; have HX := Lib.hid hx
 clear hi hil hd hdl hx
 subst hk
 have e1 : (n == 0) = false := by simpa using hn
 have e2 : (n != 0) = true := by simpa using hn
 have HN := Lib.hid hn; clear hn
 go_enter Try.func13, Try.ntmps13
 go_wp2_with fail
 go_ret
 exact ⟨ret_bool (by simp [Lm.refMay, Lm.headA, HN.out]), HBox.out⟩
set_option maxRecDepth 100000 in
set_option maxHeartbeats 4000000 in
theorem refmayD4 (kk : Nat) (n : Int) (t r i s : Nat) (x : ByteArray) (ia : Option Addr) (il ic : Nat) (da : Option Addr) (dl dc : Nat) (li : List Lm.It) (ld : List Dt.Dot) (W : World) (hi : IRow W ia ic li) (hil : li.length = il) (hd : VRow W da dc ld) (hdl : ld.length = dl) (hx : x.size ≤ 9223372036854775807) (hk : kk = 4) (hn : n = 0) (h : 0 < dl) :
  Calls Try.prog 13 #[leafV kk n t r i s x ia il ic da dl dc] W fun e w' => e = .returned (.bool (Lm.refMay ⟨kk, n, t, ((r, i), s), x, li, ld⟩)) ∧ Below W.heap.size W w' := by
 have HBox := Lib.hid (below_box W #[.int .u8 (kk : Int), .int .i64 n, .int .u64 (t : Int), .int .u8 (r : Int), .int .u32 (i : Int), .int .u64 (s : Int), .string x, .slice ia il ic, .slice da dl dc] 40)
 have HBox2 := Lib.hid (HBox.out.alloc HBox.out.size (.cells #[.int .u8 0, .int .u32 0, .int .u64 0] 31))
 have hic := hi.cap; have hdc := hd.cap; have hile := hi.le; have hdle := hd.le
 rw [hil] at hile; rw [hdl] at hdle
 have HI := Lib.hid hi; have HIl := Lib.hid hil; have HD := Lib.hid hd; have HDl := Lib.hid hdl; have HX := Lib.hid hx
 clear hi hil hd hdl hx
 subst hk hn
 have e1 : (0 : Int) < (dl : Int) := by omega
 have HH := Lib.hid h; clear h
 go_enter Try.func13, Try.ntmps13
 go_wp2_with fail
 go_ret
 exact ⟨ret_bool (by have h2 : ld ≠ [] := (fun e => by have := HH.out; have h3 := HDl.out; rw [e] at h3; simp at h3; omega); simp [Lm.refMay, Lm.headA, h2]), HBox.out⟩
set_option maxRecDepth 100000 in
set_option maxHeartbeats 4000000 in
theorem refmayT4 (kk : Nat) (n : Int) (t r i s : Nat) (x : ByteArray) (ia : Option Addr) (il ic : Nat) (da : Option Addr) (dl dc : Nat) (li : List Lm.It) (ld : List Dt.Dot) (W : World) (hi : IRow W ia ic li) (hil : li.length = il) (hd : VRow W da dc ld) (hdl : ld.length = dl) (hx : x.size ≤ 9223372036854775807) (hk : kk = 4) (hn : n = 0) (h1 : dl = 0) (h : t ≠ 0) :
  Calls Try.prog 13 #[leafV kk n t r i s x ia il ic da dl dc] W fun e w' => e = .returned (.bool (Lm.refMay ⟨kk, n, t, ((r, i), s), x, li, ld⟩)) ∧ Below W.heap.size W w' := by
 have HBox := Lib.hid (below_box W #[.int .u8 (kk : Int), .int .i64 n, .int .u64 (t : Int), .int .u8 (r : Int), .int .u32 (i : Int), .int .u64 (s : Int), .string x, .slice ia il ic, .slice da dl dc] 40)
 have HBox2 := Lib.hid (HBox.out.alloc HBox.out.size (.cells #[.int .u8 0, .int .u32 0, .int .u64 0] 31))
 have hic := hi.cap; have hdc := hd.cap; have hile := hi.le; have hdle := hd.le
 rw [hil] at hile; rw [hdl] at hdle
 have HI := Lib.hid hi; have HIl := Lib.hid hil; have HD := Lib.hid hd; have HDl := Lib.hid hdl; have HX := Lib.hid hx
 clear hi hil hd hdl hx
 subst h1 hk hn
 have e1_t : ((t : Int) == 0) = false := by simp; omega
 have e2_t : ((t : Int) != 0) = true := by simp; omega
 have HH := Lib.hid h; clear h
 go_enter Try.func13, Try.ntmps13
 go_wp2_with fail
 go_ret
 exact ⟨ret_bool (by simp [Lm.refMay, Lm.headA, Lm.headB, HH.out]), HBox2.out⟩
set_option maxRecDepth 100000 in
set_option maxHeartbeats 4000000 in
theorem refmayB4_r (kk : Nat) (n : Int) (t r i s : Nat) (x : ByteArray) (ia : Option Addr) (il ic : Nat) (da : Option Addr) (dl dc : Nat) (li : List Lm.It) (ld : List Dt.Dot) (W : World) (hi : IRow W ia ic li) (hil : li.length = il) (hd : VRow W da dc ld) (hdl : ld.length = dl) (hx : x.size ≤ 9223372036854775807) (hk : kk = 4) (hn : n = 0) (h1 : dl = 0) (ht : t = 0) (h : r ≠ 0) :
  Calls Try.prog 13 #[leafV kk n t r i s x ia il ic da dl dc] W fun e w' => e = .returned (.bool (Lm.refMay ⟨kk, n, t, ((r, i), s), x, li, ld⟩)) ∧ Below W.heap.size W w' := by
 have HBox := Lib.hid (below_box W #[.int .u8 (kk : Int), .int .i64 n, .int .u64 (t : Int), .int .u8 (r : Int), .int .u32 (i : Int), .int .u64 (s : Int), .string x, .slice ia il ic, .slice da dl dc] 40)
 have HBox2 := Lib.hid (HBox.out.alloc HBox.out.size (.cells #[.int .u8 0, .int .u32 0, .int .u64 0] 31))
 have hic := hi.cap; have hdc := hd.cap; have hile := hi.le; have hdle := hd.le
 rw [hil] at hile; rw [hdl] at hdle
 have HI := Lib.hid hi; have HIl := Lib.hid hil; have HD := Lib.hid hd; have HDl := Lib.hid hdl; have HX := Lib.hid hx
 clear hi hil hd hdl hx
 subst ht h1 hk hn
 have e1_r : ((r : Int) == 0) = false := by simp; omega
 have e2_r : ((r : Int) != 0) = true := by simp; omega
 have HH := Lib.hid h; clear h
 go_enter Try.func13, Try.ntmps13
 go_wp2_with fail
 go_ret
 exact ⟨ret_bool (by simp [Lm.refMay, Lm.headA, Lm.headB, HH.out]), HBox2.out⟩
set_option maxRecDepth 100000 in
set_option maxHeartbeats 4000000 in
theorem refmayB4_i (kk : Nat) (n : Int) (t r i s : Nat) (x : ByteArray) (ia : Option Addr) (il ic : Nat) (da : Option Addr) (dl dc : Nat) (li : List Lm.It) (ld : List Dt.Dot) (W : World) (hi : IRow W ia ic li) (hil : li.length = il) (hd : VRow W da dc ld) (hdl : ld.length = dl) (hx : x.size ≤ 9223372036854775807) (hk : kk = 4) (hn : n = 0) (h1 : dl = 0) (ht : t = 0) (z_r : r = 0) (h : i ≠ 0) :
  Calls Try.prog 13 #[leafV kk n t r i s x ia il ic da dl dc] W fun e w' => e = .returned (.bool (Lm.refMay ⟨kk, n, t, ((r, i), s), x, li, ld⟩)) ∧ Below W.heap.size W w' := by
 have HBox := Lib.hid (below_box W #[.int .u8 (kk : Int), .int .i64 n, .int .u64 (t : Int), .int .u8 (r : Int), .int .u32 (i : Int), .int .u64 (s : Int), .string x, .slice ia il ic, .slice da dl dc] 40)
 have HBox2 := Lib.hid (HBox.out.alloc HBox.out.size (.cells #[.int .u8 0, .int .u32 0, .int .u64 0] 31))
 have hic := hi.cap; have hdc := hd.cap; have hile := hi.le; have hdle := hd.le
 rw [hil] at hile; rw [hdl] at hdle
 have HI := Lib.hid hi; have HIl := Lib.hid hil; have HD := Lib.hid hd; have HDl := Lib.hid hdl; have HX := Lib.hid hx
 clear hi hil hd hdl hx
 subst z_r ht h1 hk hn
 have e1_i : ((i : Int) == 0) = false := by simp; omega
 have e2_i : ((i : Int) != 0) = true := by simp; omega
 have HH := Lib.hid h; clear h
 go_enter Try.func13, Try.ntmps13
 go_wp2_with fail
 go_ret
 exact ⟨ret_bool (by simp [Lm.refMay, Lm.headA, Lm.headB, HH.out]), HBox2.out⟩
set_option maxRecDepth 100000 in
set_option maxHeartbeats 4000000 in
theorem refmayB4_s (kk : Nat) (n : Int) (t r i s : Nat) (x : ByteArray) (ia : Option Addr) (il ic : Nat) (da : Option Addr) (dl dc : Nat) (li : List Lm.It) (ld : List Dt.Dot) (W : World) (hi : IRow W ia ic li) (hil : li.length = il) (hd : VRow W da dc ld) (hdl : ld.length = dl) (hx : x.size ≤ 9223372036854775807) (hk : kk = 4) (hn : n = 0) (h1 : dl = 0) (ht : t = 0) (z_r : r = 0) (z_i : i = 0) (h : s ≠ 0) :
  Calls Try.prog 13 #[leafV kk n t r i s x ia il ic da dl dc] W fun e w' => e = .returned (.bool (Lm.refMay ⟨kk, n, t, ((r, i), s), x, li, ld⟩)) ∧ Below W.heap.size W w' := by
 have HBox := Lib.hid (below_box W #[.int .u8 (kk : Int), .int .i64 n, .int .u64 (t : Int), .int .u8 (r : Int), .int .u32 (i : Int), .int .u64 (s : Int), .string x, .slice ia il ic, .slice da dl dc] 40)
 have HBox2 := Lib.hid (HBox.out.alloc HBox.out.size (.cells #[.int .u8 0, .int .u32 0, .int .u64 0] 31))
 have hic := hi.cap; have hdc := hd.cap; have hile := hi.le; have hdle := hd.le
 rw [hil] at hile; rw [hdl] at hdle
 have HI := Lib.hid hi; have HIl := Lib.hid hil; have HD := Lib.hid hd; have HDl := Lib.hid hdl; have HX := Lib.hid hx
 clear hi hil hd hdl hx
 subst z_r z_i ht h1 hk hn
 have e1_s : ((s : Int) == 0) = false := by simp; omega
 have e2_s : ((s : Int) != 0) = true := by simp; omega
 have HH := Lib.hid h; clear h
 go_enter Try.func13, Try.ntmps13
 go_wp2_with fail
 go_ret
 exact ⟨ret_bool (by simp [Lm.refMay, Lm.headA, Lm.headB, HH.out]), HBox2.out⟩
set_option maxRecDepth 100000 in
set_option maxHeartbeats 4000000 in
theorem refmayB4_x (kk : Nat) (n : Int) (t r i s : Nat) (x : ByteArray) (ia : Option Addr) (il ic : Nat) (da : Option Addr) (dl dc : Nat) (li : List Lm.It) (ld : List Dt.Dot) (W : World) (hi : IRow W ia ic li) (hil : li.length = il) (hd : VRow W da dc ld) (hdl : ld.length = dl) (hx : x.size ≤ 9223372036854775807) (hk : kk = 4) (hn : n = 0) (h1 : dl = 0) (ht : t = 0) (z_r : r = 0) (z_i : i = 0) (z_s : s = 0) (h : x.size ≠ 0) :
  Calls Try.prog 13 #[leafV kk n t r i s x ia il ic da dl dc] W fun e w' => e = .returned (.bool (Lm.refMay ⟨kk, n, t, ((r, i), s), x, li, ld⟩)) ∧ Below W.heap.size W w' := by
 have HBox := Lib.hid (below_box W #[.int .u8 (kk : Int), .int .i64 n, .int .u64 (t : Int), .int .u8 (r : Int), .int .u32 (i : Int), .int .u64 (s : Int), .string x, .slice ia il ic, .slice da dl dc] 40)
 have HBox2 := Lib.hid (HBox.out.alloc HBox.out.size (.cells #[.int .u8 0, .int .u32 0, .int .u64 0] 31))
 have hic := hi.cap; have hdc := hd.cap; have hile := hi.le; have hdle := hd.le
 rw [hil] at hile; rw [hdl] at hdle
 have HI := Lib.hid hi; have HIl := Lib.hid hil; have HD := Lib.hid hd; have HDl := Lib.hid hdl; have HX := Lib.hid hx
 clear hi hil hd hdl hx
 subst z_r z_i z_s ht h1 hk hn
 have hx1 : x ≠ ⟨#[]⟩ := fun e => h (Lm.text_zero.1 e)
 have e0 : x.toList ≠ [] := fun e => h ((str_nil x).1 e)
 have e1 : (x.toList == []) = false := by simpa using e0
 have e2 : (x.toList != []) = true := by simp [bne, e1]
 have e3 := str_ne hx1
 have HH := Lib.hid h; clear h hx1 e0
 go_enter Try.func13, Try.ntmps13
 go_wp2_with fail
 go_ret
 exact ⟨ret_bool (by simp [Lm.refMay, Lm.headA, Lm.headB, HH.out, -ByteArray.size_eq_zero_iff]), HBox2.out⟩
end Go.Proofs.Ytbciopieciglmaa
