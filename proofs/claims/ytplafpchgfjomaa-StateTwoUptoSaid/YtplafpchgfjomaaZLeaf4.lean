import Derived.Test.YtplafpchgfjomaaZOp8
namespace Go.Proofs.Ytplafpchgfjomaa
open Go.RowKit Go.Buf Go.LB
set_option linter.unusedSimpArgs false
set_option linter.unusedVariables false
theorem below_drewL {B : Nat} {w w' : World} (h : Below B w w') (q : Nat) : Below B w (w'.drewN q) := ⟨h.os, h.tape, h.output, h.size, h.block⟩
theorem it_ne {d e : Lm.It} (h : d ≠ e) : d.1 ≠ e.1 ∨ (d.1 = e.1 ∧ d.2.1.1.1 ≠ e.2.1.1.1) ∨ (d.1 = e.1 ∧ d.2.1.1.1 = e.2.1.1.1 ∧ d.2.1.1.2 ≠ e.2.1.1.2) ∨ (d.1 = e.1 ∧ d.2.1.1.1 = e.2.1.1.1 ∧ d.2.1.1.2 = e.2.1.1.2 ∧ d.2.1.2 ≠ e.2.1.2) ∨ (d.1 = e.1 ∧ d.2.1.1.1 = e.2.1.1.1 ∧ d.2.1.1.2 = e.2.1.1.2 ∧ d.2.1.2 = e.2.1.2 ∧ d.2.2 ≠ e.2.2) := by
 rcases d with ⟨t, ⟨⟨a, b⟩, c⟩, p⟩; rcases e with ⟨u, ⟨⟨x, y⟩, z⟩, q⟩
 simp only [ne_eq, Prod.mk.injEq] at *
 by_cases h1 : t = u
 ·by_cases h2 : a = x
  ·by_cases h3 : b = y
   ·by_cases h4 : c = z
    ·right; right; right; right; exact ⟨h1, h2, h3, h4, fun h5 => h ⟨h1, ⟨⟨h2, h3⟩, h4⟩, h5⟩⟩
    ·right; right; right; left; exact ⟨h1, h2, h3, h4⟩
   ·right; right; left; exact ⟨h1, h2, h3⟩
  ·right; left; exact ⟨h1, h2⟩
 ·left; exact h1
theorem take_eq_succI {la lb : List Lm.It} {k : Nat} {d : Lm.It} (h : la.take k = lb.take k) (ha : la[k]? = some d) (hb : lb[k]? = some d) : la.take (k + 1) = lb.take (k + 1) := by
 obtain ⟨h1, rfl⟩ := List.getElem?_eq_some_iff.1 ha
 obtain ⟨h2, e⟩ := List.getElem?_eq_some_iff.1 hb
 rw [List.take_succ_eq_append_getElem h1, List.take_succ_eq_append_getElem h2, h, e]
set_option maxRecDepth 100000 in
set_option maxHeartbeats 3200000 in
theorem equalI_any (a : Option Addr) (n cap : Nat) (la : List Lm.It) (c : Option Addr) (m capc : Nat) (lb : List Lm.It) (W : World) (hr : IRow W a cap la) (hl : la.length = n) (hs : IRow W c capc lb) (hm : lb.length = m) :
  Calls Try.prog 58 #[.slice a n cap, .slice c m capc] W fun e w' => e = .returned (.bool (decide (la = lb))) ∧ Below W.heap.size W w' := by
 have hle := hr.le
 have hcap := hr.cap
 rw [hl] at hle
 have HRA := Lib.hid hr; have HLA := Lib.hid hl; have HRB := Lib.hid hs; have HLB := Lib.hid hm
 clear hr hl hs hm
 by_cases hnm : n = m
 ·subst hnm
  go_enter Try.func58, Try.ntmps58
  go_wp2
  go_loopw [5, 13] (fun _ i wr => ∃ k : Nat, k ≤ n ∧ i = .int .i64 k ∧ la.take k = lb.take k ∧ Below W.heap.size W wr) (fun _ i _ => n - (intOf i).toNat)
  case atStart => exact ⟨0, Nat.zero_le _, rfl, rfl, Below.refl _ _⟩
  case round =>
   obtain ⟨k, hk, rfl, htk, hbel⟩ := hrel
   have HT := Lib.hid htk; have HW := Lib.hid hbel; clear htk hbel
   by_cases hlt : k < n
   ·obtain ⟨d, hd⟩ := geti_some (l := la) (i := k) (by rw [HLA.out]; exact hlt)
    obtain ⟨e, he⟩ := geti_some (l := lb) (i := k) (by rw [HLB.out]; exact hlt)
    obtain ⟨b1, o1, rfl, hb1, hc1⟩ := HRA.out.at (by rw [HLA.out]; omega)
    obtain ⟨b2, o2, rfl, hb2, hc2⟩ := HRB.out.at (by rw [HLB.out]; omega)
    obtain ⟨g0, g1, g2, g3, g4⟩ := hc1 k d hd
    obtain ⟨h0, h1, h2, h3, h4⟩ := hc2 k e he
    have q0 := (HW.out.cell (p := ⟨b1, o1 + k * 5, none⟩) hb1).trans g0
    have q1 := (HW.out.cell (p := ⟨b1, o1 + k * 5 + 1, none⟩) hb1).trans g1
    have q2 := (HW.out.cell (p := ⟨b1, o1 + k * 5 + 2, none⟩) hb1).trans g2
    have q3 := (HW.out.cell (p := ⟨b1, o1 + k * 5 + 3, none⟩) hb1).trans g3
    have q4 := (HW.out.cell (p := ⟨b1, o1 + k * 5 + 4, none⟩) hb1).trans g4
    have p0 := (HW.out.cell (p := ⟨b2, o2 + k * 5, none⟩) hb2).trans h0
    have p1 := (HW.out.cell (p := ⟨b2, o2 + k * 5 + 1, none⟩) hb2).trans h1
    have p2 := (HW.out.cell (p := ⟨b2, o2 + k * 5 + 2, none⟩) hb2).trans h2
    have p3 := (HW.out.cell (p := ⟨b2, o2 + k * 5 + 3, none⟩) hb2).trans h3
    have p4 := (HW.out.cell (p := ⟨b2, o2 + k * 5 + 4, none⟩) hb2).trans h4
    have i0 : (0 : Int) ≤ (k : Int) := by omega
    have i1 : (k : Int) < (n : Int) := by omega
    have Hd := Lib.hid hd; have He := Lib.hid he
    clear hc1 hc2 g0 h0 g1 h1 g2 h2 g3 h3 g4 h4 hd he
    by_cases hde : d = e
    ·subst hde
     have Hs := Lib.hid (take_eq_succI HT.out Hd.out He.out)
     obtain ⟨t, ⟨⟨r, i⟩, s⟩, x⟩ := d
     simp only at q0 p0 q1 p1 q2 p2 q3 p3 q4 p4
     go_wp2
     go_quiet (fail)
     go_wp2
     clear q0 p0 q1 p1 q2 p2 q3 p3 q4 p4
     go_roundw
     case rel => exact ⟨k + 1, by omega, by go_num, Hs.out, below_drewL HW.out _⟩
     case measure => simp [intOf]; omega
    ·have hfin : decide (la = lb) = false := decide_eq_false fun g => hde (by have h1 := Hd.out; have h2 := He.out; rw [g, h2] at h1; exact (Option.some.inj h1).symm)
     have Hfin := Lib.hid hfin; clear hfin
     have hne := it_ne hde
     obtain ⟨t, ⟨⟨r, i⟩, s⟩, x⟩ := d
     obtain ⟨t', ⟨⟨r', i'⟩, s'⟩, x'⟩ := e
     simp only at q0 p0 q1 p1 q2 p2 q3 p3 q4 p4 hne
     clear hde
     rcases hne with h1 | ⟨rfl, h1⟩ | ⟨rfl, rfl, h1⟩ | ⟨rfl, rfl, rfl, h1⟩ | ⟨rfl, rfl, rfl, rfl, h1⟩
     ·have d1 : ((t : Int) == (t' : Int)) = false := by simp; omega
      clear h1
      go_wp2
      go_quiet (fail)
      go_wp2
      go_ret
      exact ⟨ret_bool Hfin.out.symm, below_drewL HW.out _⟩
     ·have d1 : ((r : Int) == (r' : Int)) = false := by simp; omega
      clear h1
      go_wp2
      go_quiet (fail)
      go_wp2
      go_ret
      exact ⟨ret_bool Hfin.out.symm, below_drewL HW.out _⟩
     ·have d1 : ((i : Int) == (i' : Int)) = false := by simp; omega
      clear h1
      go_wp2
      go_quiet (fail)
      go_wp2
      go_ret
      exact ⟨ret_bool Hfin.out.symm, below_drewL HW.out _⟩
     ·have d1 : ((s : Int) == (s' : Int)) = false := by simp; omega
      clear h1
      go_wp2
      go_quiet (fail)
      go_wp2
      go_ret
      exact ⟨ret_bool Hfin.out.symm, below_drewL HW.out _⟩
     ·have d1 := str_ne h1
      clear h1
      go_wp2
      go_quiet (fail)
      go_wp2
      go_ret
      exact ⟨ret_bool Hfin.out.symm, below_drewL HW.out _⟩
   ·have hfin : decide (la = lb) = true := decide_eq_true (by have := HT.out; rwa [List.take_of_length_le (by rw [HLA.out]; omega), List.take_of_length_le (by rw [HLB.out]; omega)] at this)
    have Hfin := Lib.hid hfin; clear hfin
    go_wp2
    go_ret
    exact ⟨ret_bool Hfin.out.symm, HW.out⟩
 ·have hfin : decide (la = lb) = false := decide_eq_false fun g => hnm (by rw [← HLA.out, ← HLB.out, g])
  have Hfin := Lib.hid hfin; clear hfin
  have d1 : ((n : Int) == (m : Int)) = false := by simp; omega
  go_enter Try.func58, Try.ntmps58
  go_wp2
  go_ret
  exact ⟨ret_bool Hfin.out.symm, Below.refl _ _⟩
set_option maxHeartbeats 2000000 in
theorem same_c0 (kk : Nat) (n : Int) (t r i s : Nat) (x : ByteArray) (ia : Option Addr) (il ic : Nat) (da : Option Addr) (dl dc : Nat) (li : List Lm.It) (ld : List Dt.Dot) (kk' : Nat) (n' : Int) (t' : Nat) (r' : Nat) (i' : Nat) (s' : Nat) (x' : ByteArray) (ia' : Option Addr) (il' ic' : Nat) (da' : Option Addr) (dl' dc' : Nat) (li' : List Lm.It) (ld' : List Dt.Dot) (W : World) (hne : kk ≠ kk') :
  Calls Try.prog 52 #[leafV kk n t r i s x ia il ic da dl dc, leafV kk' n' t' r' i' s' x' ia' il' ic' da' dl' dc'] W fun e w' => e = .returned (.bool (Lm.same ⟨kk, n, t, ((r, i), s), x, li, ld⟩ ⟨kk', n', t', ((r', i'), s'), x', li', ld'⟩)) ∧ Below W.heap.size W w' := by
 have HBox := Lib.hid (below_box2 W #[.int .u8 (kk : Int), .int .i64 n, .int .u64 (t : Int), .int .u8 (r : Int), .int .u32 (i : Int), .int .u64 (s : Int), .string x, .slice ia il ic, .slice da dl dc] #[.int .u8 (kk' : Int), .int .i64 n', .int .u64 (t' : Int), .int .u8 (r' : Int), .int .u32 (i' : Int), .int .u64 (s' : Int), .string x', .slice ia' il' ic', .slice da' dl' dc'] 44 44)
 have d1 : ((kk : Int) == (kk' : Int)) = false := by simp; omega
 have HN := Lib.hid hne; clear hne
 go_enter Try.func52, Try.ntmps52
 go_wp2_with fail
 go_ret
 exact ⟨ret_bool (by simp [Lm.same, HN.out]), HBox.out⟩
set_option maxHeartbeats 2000000 in
theorem same_c1 (kk : Nat) (n : Int) (t r i s : Nat) (x : ByteArray) (ia : Option Addr) (il ic : Nat) (da : Option Addr) (dl dc : Nat) (li : List Lm.It) (ld : List Dt.Dot) (n' : Int) (t' : Nat) (r' : Nat) (i' : Nat) (s' : Nat) (x' : ByteArray) (ia' : Option Addr) (il' ic' : Nat) (da' : Option Addr) (dl' dc' : Nat) (li' : List Lm.It) (ld' : List Dt.Dot) (W : World) (hne : n ≠ n') :
  Calls Try.prog 52 #[leafV kk n t r i s x ia il ic da dl dc, leafV kk n' t' r' i' s' x' ia' il' ic' da' dl' dc'] W fun e w' => e = .returned (.bool (Lm.same ⟨kk, n, t, ((r, i), s), x, li, ld⟩ ⟨kk, n', t', ((r', i'), s'), x', li', ld'⟩)) ∧ Below W.heap.size W w' := by
 have HBox := Lib.hid (below_box2 W #[.int .u8 (kk : Int), .int .i64 n, .int .u64 (t : Int), .int .u8 (r : Int), .int .u32 (i : Int), .int .u64 (s : Int), .string x, .slice ia il ic, .slice da dl dc] #[.int .u8 (kk : Int), .int .i64 n', .int .u64 (t' : Int), .int .u8 (r' : Int), .int .u32 (i' : Int), .int .u64 (s' : Int), .string x', .slice ia' il' ic', .slice da' dl' dc'] 44 44)
 have d1 : (n == n') = false := by simp; omega
 have HN := Lib.hid hne; clear hne
 go_enter Try.func52, Try.ntmps52
 go_wp2_with fail
 go_ret
 exact ⟨ret_bool (by simp [Lm.same, HN.out]), HBox.out⟩
set_option maxHeartbeats 2000000 in
theorem same_c2 (kk : Nat) (n : Int) (t r i s : Nat) (x : ByteArray) (ia : Option Addr) (il ic : Nat) (da : Option Addr) (dl dc : Nat) (li : List Lm.It) (ld : List Dt.Dot) (t' : Nat) (r' : Nat) (i' : Nat) (s' : Nat) (x' : ByteArray) (ia' : Option Addr) (il' ic' : Nat) (da' : Option Addr) (dl' dc' : Nat) (li' : List Lm.It) (ld' : List Dt.Dot) (W : World) (hne : t ≠ t') :
  Calls Try.prog 52 #[leafV kk n t r i s x ia il ic da dl dc, leafV kk n t' r' i' s' x' ia' il' ic' da' dl' dc'] W fun e w' => e = .returned (.bool (Lm.same ⟨kk, n, t, ((r, i), s), x, li, ld⟩ ⟨kk, n, t', ((r', i'), s'), x', li', ld'⟩)) ∧ Below W.heap.size W w' := by
 have HBox := Lib.hid (below_box2 W #[.int .u8 (kk : Int), .int .i64 n, .int .u64 (t : Int), .int .u8 (r : Int), .int .u32 (i : Int), .int .u64 (s : Int), .string x, .slice ia il ic, .slice da dl dc] #[.int .u8 (kk : Int), .int .i64 n, .int .u64 (t' : Int), .int .u8 (r' : Int), .int .u32 (i' : Int), .int .u64 (s' : Int), .string x', .slice ia' il' ic', .slice da' dl' dc'] 44 44)
 have d1 : ((t : Int) == (t' : Int)) = false := by simp; omega
 have HN := Lib.hid hne; clear hne
 go_enter Try.func52, Try.ntmps52
 go_wp2_with fail
 go_ret
 exact ⟨ret_bool (by simp [Lm.same, HN.out]), HBox.out⟩
set_option maxHeartbeats 2000000 in
theorem same_c3 (kk : Nat) (n : Int) (t r i s : Nat) (x : ByteArray) (ia : Option Addr) (il ic : Nat) (da : Option Addr) (dl dc : Nat) (li : List Lm.It) (ld : List Dt.Dot) (r' : Nat) (i' : Nat) (s' : Nat) (x' : ByteArray) (ia' : Option Addr) (il' ic' : Nat) (da' : Option Addr) (dl' dc' : Nat) (li' : List Lm.It) (ld' : List Dt.Dot) (W : World) (hne : r ≠ r') :
  Calls Try.prog 52 #[leafV kk n t r i s x ia il ic da dl dc, leafV kk n t r' i' s' x' ia' il' ic' da' dl' dc'] W fun e w' => e = .returned (.bool (Lm.same ⟨kk, n, t, ((r, i), s), x, li, ld⟩ ⟨kk, n, t, ((r', i'), s'), x', li', ld'⟩)) ∧ Below W.heap.size W w' := by
 have HBox := Lib.hid (below_box2 W #[.int .u8 (kk : Int), .int .i64 n, .int .u64 (t : Int), .int .u8 (r : Int), .int .u32 (i : Int), .int .u64 (s : Int), .string x, .slice ia il ic, .slice da dl dc] #[.int .u8 (kk : Int), .int .i64 n, .int .u64 (t : Int), .int .u8 (r' : Int), .int .u32 (i' : Int), .int .u64 (s' : Int), .string x', .slice ia' il' ic', .slice da' dl' dc'] 44 44)
 have d1 : ((r : Int) == (r' : Int)) = false := by simp; omega
 have HN := Lib.hid hne; clear hne
 go_enter Try.func52, Try.ntmps52
 go_wp2_with fail
 go_ret
 exact ⟨ret_bool (by simp [Lm.same, HN.out]), HBox.out⟩
set_option maxHeartbeats 2000000 in
theorem same_c4 (kk : Nat) (n : Int) (t r i s : Nat) (x : ByteArray) (ia : Option Addr) (il ic : Nat) (da : Option Addr) (dl dc : Nat) (li : List Lm.It) (ld : List Dt.Dot) (i' : Nat) (s' : Nat) (x' : ByteArray) (ia' : Option Addr) (il' ic' : Nat) (da' : Option Addr) (dl' dc' : Nat) (li' : List Lm.It) (ld' : List Dt.Dot) (W : World) (hne : i ≠ i') :
  Calls Try.prog 52 #[leafV kk n t r i s x ia il ic da dl dc, leafV kk n t r i' s' x' ia' il' ic' da' dl' dc'] W fun e w' => e = .returned (.bool (Lm.same ⟨kk, n, t, ((r, i), s), x, li, ld⟩ ⟨kk, n, t, ((r, i'), s'), x', li', ld'⟩)) ∧ Below W.heap.size W w' := by
 have HBox := Lib.hid (below_box2 W #[.int .u8 (kk : Int), .int .i64 n, .int .u64 (t : Int), .int .u8 (r : Int), .int .u32 (i : Int), .int .u64 (s : Int), .string x, .slice ia il ic, .slice da dl dc] #[.int .u8 (kk : Int), .int .i64 n, .int .u64 (t : Int), .int .u8 (r : Int), .int .u32 (i' : Int), .int .u64 (s' : Int), .string x', .slice ia' il' ic', .slice da' dl' dc'] 44 44)
 have d1 : ((i : Int) == (i' : Int)) = false := by simp; omega
 have HN := Lib.hid hne; clear hne
 go_enter Try.func52, Try.ntmps52
 go_wp2_with fail
 go_ret
 exact ⟨ret_bool (by simp [Lm.same, HN.out]), HBox.out⟩
set_option maxHeartbeats 2000000 in
theorem same_c5 (kk : Nat) (n : Int) (t r i s : Nat) (x : ByteArray) (ia : Option Addr) (il ic : Nat) (da : Option Addr) (dl dc : Nat) (li : List Lm.It) (ld : List Dt.Dot) (s' : Nat) (x' : ByteArray) (ia' : Option Addr) (il' ic' : Nat) (da' : Option Addr) (dl' dc' : Nat) (li' : List Lm.It) (ld' : List Dt.Dot) (W : World) (hne : s ≠ s') :
  Calls Try.prog 52 #[leafV kk n t r i s x ia il ic da dl dc, leafV kk n t r i s' x' ia' il' ic' da' dl' dc'] W fun e w' => e = .returned (.bool (Lm.same ⟨kk, n, t, ((r, i), s), x, li, ld⟩ ⟨kk, n, t, ((r, i), s'), x', li', ld'⟩)) ∧ Below W.heap.size W w' := by
 have HBox := Lib.hid (below_box2 W #[.int .u8 (kk : Int), .int .i64 n, .int .u64 (t : Int), .int .u8 (r : Int), .int .u32 (i : Int), .int .u64 (s : Int), .string x, .slice ia il ic, .slice da dl dc] #[.int .u8 (kk : Int), .int .i64 n, .int .u64 (t : Int), .int .u8 (r : Int), .int .u32 (i : Int), .int .u64 (s' : Int), .string x', .slice ia' il' ic', .slice da' dl' dc'] 44 44)
 have d1 : ((s : Int) == (s' : Int)) = false := by simp; omega
 have HN := Lib.hid hne; clear hne
 go_enter Try.func52, Try.ntmps52
 go_wp2_with fail
 go_ret
 exact ⟨ret_bool (by simp [Lm.same, HN.out]), HBox.out⟩
set_option maxHeartbeats 2000000 in
theorem same_c6 (kk : Nat) (n : Int) (t r i s : Nat) (x : ByteArray) (ia : Option Addr) (il ic : Nat) (da : Option Addr) (dl dc : Nat) (li : List Lm.It) (ld : List Dt.Dot) (x' : ByteArray) (ia' : Option Addr) (il' ic' : Nat) (da' : Option Addr) (dl' dc' : Nat) (li' : List Lm.It) (ld' : List Dt.Dot) (W : World) (hne : x ≠ x') :
  Calls Try.prog 52 #[leafV kk n t r i s x ia il ic da dl dc, leafV kk n t r i s x' ia' il' ic' da' dl' dc'] W fun e w' => e = .returned (.bool (Lm.same ⟨kk, n, t, ((r, i), s), x, li, ld⟩ ⟨kk, n, t, ((r, i), s), x', li', ld'⟩)) ∧ Below W.heap.size W w' := by
 have HBox := Lib.hid (below_box2 W #[.int .u8 (kk : Int), .int .i64 n, .int .u64 (t : Int), .int .u8 (r : Int), .int .u32 (i : Int), .int .u64 (s : Int), .string x, .slice ia il ic, .slice da dl dc] #[.int .u8 (kk : Int), .int .i64 n, .int .u64 (t : Int), .int .u8 (r : Int), .int .u32 (i : Int), .int .u64 (s : Int), .string x', .slice ia' il' ic', .slice da' dl' dc'] 44 44)
 have d1 := str_ne hne
 have HN := Lib.hid hne; clear hne
 go_enter Try.func52, Try.ntmps52
 go_wp2_with fail
 go_ret
 exact ⟨ret_bool (by simp [Lm.same, HN.out]), HBox.out⟩
set_option maxHeartbeats 4000000 in
theorem same_all (kk : Nat) (n : Int) (t r i s : Nat) (x : ByteArray) (ia : Option Addr) (il ic : Nat) (da : Option Addr) (dl dc : Nat) (li : List Lm.It) (ld : List Dt.Dot)  (ia' : Option Addr) (il' ic' : Nat) (da' : Option Addr) (dl' dc' : Nat) (li' : List Lm.It) (ld' : List Dt.Dot) (W : World) (hi : IRow W ia ic li) (hil : li.length = il) (hd : VRow W da dc ld) (hdl : ld.length = dl) (hi' : IRow W ia' ic' li') (hil' : li'.length = il') (hd' : VRow W da' dc' ld') (hdl' : ld'.length = dl') :
  Calls Try.prog 52 #[leafV kk n t r i s x ia il ic da dl dc, leafV kk n t r i s x ia' il' ic' da' dl' dc'] W fun e w' => e = .returned (.bool (Lm.same ⟨kk, n, t, ((r, i), s), x, li, ld⟩ ⟨kk, n, t, ((r, i), s), x, li', ld'⟩)) ∧ Below W.heap.size W w' := by
 have HBox := Lib.hid (below_box2 W #[.int .u8 (kk : Int), .int .i64 n, .int .u64 (t : Int), .int .u8 (r : Int), .int .u32 (i : Int), .int .u64 (s : Int), .string x, .slice ia il ic, .slice da dl dc] #[.int .u8 (kk : Int), .int .i64 n, .int .u64 (t : Int), .int .u8 (r : Int), .int .u32 (i : Int), .int .u64 (s : Int), .string x, .slice ia' il' ic', .slice da' dl' dc'] 44 44)
 have HI := Lib.hid hi; have HIl := Lib.hid hil; have HD := Lib.hid hd; have HDl := Lib.hid hdl
 have HI' := Lib.hid hi'; have HIl' := Lib.hid hil'; have HD' := Lib.hid hd'; have HDl' := Lib.hid hdl'
 clear hi hil hd hdl hi' hil' hd' hdl'
 go_enter Try.func52, Try.ntmps52
 go_wp2_with fail
 refine (equalI_any ia il ic li ia' il' ic' li' _ (HI.out.below HBox.out) HIl.out (HI'.out.below HBox.out) HIl'.out).mono ?_
 rintro e w1 ⟨rfl, hb⟩
 have hb0 : Below (W.alloc (.cells #[.int .u8 (kk : Int), .int .i64 n, .int .u64 (t : Int), .int .u8 (r : Int), .int .u32 (i : Int), .int .u64 (s : Int), .string x, .slice ia il ic, .slice da dl dc] 44)).heap.size (W.alloc (.cells #[.int .u8 (kk : Int), .int .i64 n, .int .u64 (t : Int), .int .u8 (r : Int), .int .u32 (i : Int), .int .u64 (s : Int), .string x, .slice ia il ic, .slice da dl dc] 44)) w1 := (((Below.refl _ _).alloc (Nat.le_refl _) _)).trans (hb.mono (by simp))
 obtain ⟨-, -, -, -, -, -, -, hc7, hc8⟩ := leafcells hb0
 obtain ⟨-, -, -, -, -, -, -, he7, he8⟩ := leafcells hb
 simp only [World.size_alloc] at he7 he8
 have HB := Lib.hid (HBox.out.trans (hb.mono HBox.out.size)); clear hb hb0
 cases hq : decide (li = li')
 ·have HQ := Lib.hid (of_decide_eq_false hq); clear hq
  go_wp2_with fail
  go_ret
  exact ⟨ret_bool (by simp [Lm.same, HQ.out]), HB.out⟩
 ·have HQ := Lib.hid (of_decide_eq_true hq); clear hq
  go_wp2_with fail
  refine (equalD_any da dl dc ld da' dl' dc' ld' _ (HD.out.below HB.out) HDl.out (HD'.out.below HB.out) HDl'.out).mono ?_
  rintro e w2 ⟨rfl, hb⟩
  have HB2 := Lib.hid (HB.out.trans (hb.mono HB.out.size)); clear hb hc7 hc8 he7 he8
  go_wp2_with fail
  go_ret
  exact ⟨ret_bool (by simp [Lm.same, HQ.out]), HB2.out⟩
theorem same_any (kk : Nat) (n : Int) (t r i s : Nat) (x : ByteArray) (ia : Option Addr) (il ic : Nat) (da : Option Addr) (dl dc : Nat) (li : List Lm.It) (ld : List Dt.Dot) (kk' : Nat) (n' : Int) (t' : Nat) (r' : Nat) (i' : Nat) (s' : Nat) (x' : ByteArray) (ia' : Option Addr) (il' ic' : Nat) (da' : Option Addr) (dl' dc' : Nat) (li' : List Lm.It) (ld' : List Dt.Dot) (W : World) (hi : IRow W ia ic li) (hil : li.length = il) (hd : VRow W da dc ld) (hdl : ld.length = dl) (hi' : IRow W ia' ic' li') (hil' : li'.length = il') (hd' : VRow W da' dc' ld') (hdl' : ld'.length = dl') :
  Calls Try.prog 52 #[leafV kk n t r i s x ia il ic da dl dc, leafV kk' n' t' r' i' s' x' ia' il' ic' da' dl' dc'] W fun e w' => e = .returned (.bool (Lm.same ⟨kk, n, t, ((r, i), s), x, li, ld⟩ ⟨kk', n', t', ((r', i'), s'), x', li', ld'⟩)) ∧ Below W.heap.size W w' := by
 by_cases h0 : kk = kk'
 case neg => exact same_c0 kk n t r i s x ia il ic da dl dc li ld kk' n' t' r' i' s' x' ia' il' ic' da' dl' dc' li' ld' W h0
 subst h0
 by_cases h1 : n = n'
 case neg => exact same_c1 kk n t r i s x ia il ic da dl dc li ld n' t' r' i' s' x' ia' il' ic' da' dl' dc' li' ld' W h1
 subst h1
 by_cases h2 : t = t'
 case neg => exact same_c2 kk n t r i s x ia il ic da dl dc li ld t' r' i' s' x' ia' il' ic' da' dl' dc' li' ld' W h2
 subst h2
 by_cases h3 : r = r'
 case neg => exact same_c3 kk n t r i s x ia il ic da dl dc li ld r' i' s' x' ia' il' ic' da' dl' dc' li' ld' W h3
 subst h3
 by_cases h4 : i = i'
 case neg => exact same_c4 kk n t r i s x ia il ic da dl dc li ld i' s' x' ia' il' ic' da' dl' dc' li' ld' W h4
 subst h4
 by_cases h5 : s = s'
 case neg => exact same_c5 kk n t r i s x ia il ic da dl dc li ld s' x' ia' il' ic' da' dl' dc' li' ld' W h5
 subst h5
 by_cases h6 : x = x'
 case neg => exact same_c6 kk n t r i s x ia il ic da dl dc li ld x' ia' il' ic' da' dl' dc' li' ld' W h6
 subst h6
 exact same_all kk n t r i s x ia il ic da dl dc li ld ia' il' ic' da' dl' dc' li' ld' W hi hil hd hdl hi' hil' hd' hdl'
end Go.Proofs.Ytplafpchgfjomaa
