import Derived.Test.YtplafpchgfjomaaZLeaf4
namespace Go.Proofs.Ytplafpchgfjomaa
open Go.RowKit Go.Buf Go.LB
set_option linter.unusedSimpArgs false
set_option linter.unusedVariables false
set_option maxHeartbeats 2000000 in
theorem refsame05_c0 (kk : Nat) (n : Int) (t r i s : Nat) (x : ByteArray) (ia : Option Addr) (il ic : Nat) (da : Option Addr) (dl dc : Nat) (li : List Lm.It) (ld : List Dt.Dot) (kk' : Nat) (n' : Int) (t' : Nat) (r' : Nat) (i' : Nat) (s' : Nat) (x' : ByteArray) (ia' : Option Addr) (il' ic' : Nat) (da' : Option Addr) (dl' dc' : Nat) (li' : List Lm.It) (ld' : List Dt.Dot) (W : World) (hne : kk ≠ kk') :
  Calls Try.prog 12 #[leafV kk n t r i s x ia il ic da dl dc, leafV kk' n' t' r' i' s' x' ia' il' ic' da' dl' dc'] W fun e w' => e = .returned (.bool (Lm.same ⟨kk, n, t, ((r, i), s), x, li, ld⟩ ⟨kk', n', t', ((r', i'), s'), x', li', ld'⟩)) ∧ Below W.heap.size W w' := by
 have HBox := Lib.hid (below_box2 W #[.int .u8 (kk : Int), .int .i64 n, .int .u64 (t : Int), .int .u8 (r : Int), .int .u32 (i : Int), .int .u64 (s : Int), .string x, .slice ia il ic, .slice da dl dc] #[.int .u8 (kk' : Int), .int .i64 n', .int .u64 (t' : Int), .int .u8 (r' : Int), .int .u32 (i' : Int), .int .u64 (s' : Int), .string x', .slice ia' il' ic', .slice da' dl' dc'] 44 44)
 have d1 : ((kk : Int) == (kk' : Int)) = false := by simp; omega
 have d2 : ((kk : Int) != (kk' : Int)) = true := by simp; omega
 have HN := Lib.hid hne; clear hne
 go_enter Try.func12, Try.ntmps12
 go_wp2_with fail
 go_ret
 exact ⟨ret_bool (by simp [Lm.same, HN.out]), HBox.out⟩
set_option maxHeartbeats 2000000 in
theorem refsame05_c1 (kk : Nat) (n : Int) (t r i s : Nat) (x : ByteArray) (ia : Option Addr) (il ic : Nat) (da : Option Addr) (dl dc : Nat) (li : List Lm.It) (ld : List Dt.Dot) (n' : Int) (t' : Nat) (r' : Nat) (i' : Nat) (s' : Nat) (x' : ByteArray) (ia' : Option Addr) (il' ic' : Nat) (da' : Option Addr) (dl' dc' : Nat) (li' : List Lm.It) (ld' : List Dt.Dot) (W : World) (hne : n ≠ n') :
  Calls Try.prog 12 #[leafV kk n t r i s x ia il ic da dl dc, leafV kk n' t' r' i' s' x' ia' il' ic' da' dl' dc'] W fun e w' => e = .returned (.bool (Lm.same ⟨kk, n, t, ((r, i), s), x, li, ld⟩ ⟨kk, n', t', ((r', i'), s'), x', li', ld'⟩)) ∧ Below W.heap.size W w' := by
 have HBox := Lib.hid (below_box2 W #[.int .u8 (kk : Int), .int .i64 n, .int .u64 (t : Int), .int .u8 (r : Int), .int .u32 (i : Int), .int .u64 (s : Int), .string x, .slice ia il ic, .slice da dl dc] #[.int .u8 (kk : Int), .int .i64 n', .int .u64 (t' : Int), .int .u8 (r' : Int), .int .u32 (i' : Int), .int .u64 (s' : Int), .string x', .slice ia' il' ic', .slice da' dl' dc'] 44 44)
 have d1 : (n == n') = false := by simp; omega
 have d2 : (n != n') = true := by simp; omega
 have HN := Lib.hid hne; clear hne
 go_enter Try.func12, Try.ntmps12
 go_wp2_with fail
 go_ret
 exact ⟨ret_bool (by simp [Lm.same, HN.out]), HBox.out⟩
set_option maxHeartbeats 2000000 in
theorem refsame05_c2 (kk : Nat) (n : Int) (t r i s : Nat) (x : ByteArray) (ia : Option Addr) (il ic : Nat) (da : Option Addr) (dl dc : Nat) (li : List Lm.It) (ld : List Dt.Dot) (t' : Nat) (r' : Nat) (i' : Nat) (s' : Nat) (x' : ByteArray) (ia' : Option Addr) (il' ic' : Nat) (da' : Option Addr) (dl' dc' : Nat) (li' : List Lm.It) (ld' : List Dt.Dot) (W : World) (hne : t ≠ t') :
  Calls Try.prog 12 #[leafV kk n t r i s x ia il ic da dl dc, leafV kk n t' r' i' s' x' ia' il' ic' da' dl' dc'] W fun e w' => e = .returned (.bool (Lm.same ⟨kk, n, t, ((r, i), s), x, li, ld⟩ ⟨kk, n, t', ((r', i'), s'), x', li', ld'⟩)) ∧ Below W.heap.size W w' := by
 have HBox := Lib.hid (below_box2 W #[.int .u8 (kk : Int), .int .i64 n, .int .u64 (t : Int), .int .u8 (r : Int), .int .u32 (i : Int), .int .u64 (s : Int), .string x, .slice ia il ic, .slice da dl dc] #[.int .u8 (kk : Int), .int .i64 n, .int .u64 (t' : Int), .int .u8 (r' : Int), .int .u32 (i' : Int), .int .u64 (s' : Int), .string x', .slice ia' il' ic', .slice da' dl' dc'] 44 44)
 have d1 : ((t : Int) == (t' : Int)) = false := by simp; omega
 have d2 : ((t : Int) != (t' : Int)) = true := by simp; omega
 have HN := Lib.hid hne; clear hne
 go_enter Try.func12, Try.ntmps12
 go_wp2_with fail
 go_ret
 exact ⟨ret_bool (by simp [Lm.same, HN.out]), HBox.out⟩
set_option maxHeartbeats 2000000 in
theorem refsame05_c3 (kk : Nat) (n : Int) (t r i s : Nat) (x : ByteArray) (ia : Option Addr) (il ic : Nat) (da : Option Addr) (dl dc : Nat) (li : List Lm.It) (ld : List Dt.Dot) (r' : Nat) (i' : Nat) (s' : Nat) (x' : ByteArray) (ia' : Option Addr) (il' ic' : Nat) (da' : Option Addr) (dl' dc' : Nat) (li' : List Lm.It) (ld' : List Dt.Dot) (W : World) (hne : r ≠ r') :
  Calls Try.prog 12 #[leafV kk n t r i s x ia il ic da dl dc, leafV kk n t r' i' s' x' ia' il' ic' da' dl' dc'] W fun e w' => e = .returned (.bool (Lm.same ⟨kk, n, t, ((r, i), s), x, li, ld⟩ ⟨kk, n, t, ((r', i'), s'), x', li', ld'⟩)) ∧ Below W.heap.size W w' := by
 have HBox := Lib.hid (below_box2 W #[.int .u8 (kk : Int), .int .i64 n, .int .u64 (t : Int), .int .u8 (r : Int), .int .u32 (i : Int), .int .u64 (s : Int), .string x, .slice ia il ic, .slice da dl dc] #[.int .u8 (kk : Int), .int .i64 n, .int .u64 (t : Int), .int .u8 (r' : Int), .int .u32 (i' : Int), .int .u64 (s' : Int), .string x', .slice ia' il' ic', .slice da' dl' dc'] 44 44)
 have d1 : ((r : Int) == (r' : Int)) = false := by simp; omega
 have d2 : ((r : Int) != (r' : Int)) = true := by simp; omega
 have HN := Lib.hid hne; clear hne
 go_enter Try.func12, Try.ntmps12
 go_wp2_with fail
 go_ret
 exact ⟨ret_bool (by simp [Lm.same, HN.out]), HBox.out⟩
set_option maxHeartbeats 2000000 in
theorem refsame05_c4 (kk : Nat) (n : Int) (t r i s : Nat) (x : ByteArray) (ia : Option Addr) (il ic : Nat) (da : Option Addr) (dl dc : Nat) (li : List Lm.It) (ld : List Dt.Dot) (i' : Nat) (s' : Nat) (x' : ByteArray) (ia' : Option Addr) (il' ic' : Nat) (da' : Option Addr) (dl' dc' : Nat) (li' : List Lm.It) (ld' : List Dt.Dot) (W : World) (hne : i ≠ i') :
  Calls Try.prog 12 #[leafV kk n t r i s x ia il ic da dl dc, leafV kk n t r i' s' x' ia' il' ic' da' dl' dc'] W fun e w' => e = .returned (.bool (Lm.same ⟨kk, n, t, ((r, i), s), x, li, ld⟩ ⟨kk, n, t, ((r, i'), s'), x', li', ld'⟩)) ∧ Below W.heap.size W w' := by
 have HBox := Lib.hid (below_box2 W #[.int .u8 (kk : Int), .int .i64 n, .int .u64 (t : Int), .int .u8 (r : Int), .int .u32 (i : Int), .int .u64 (s : Int), .string x, .slice ia il ic, .slice da dl dc] #[.int .u8 (kk : Int), .int .i64 n, .int .u64 (t : Int), .int .u8 (r : Int), .int .u32 (i' : Int), .int .u64 (s' : Int), .string x', .slice ia' il' ic', .slice da' dl' dc'] 44 44)
 have d1 : ((i : Int) == (i' : Int)) = false := by simp; omega
 have d2 : ((i : Int) != (i' : Int)) = true := by simp; omega
 have HN := Lib.hid hne; clear hne
 go_enter Try.func12, Try.ntmps12
 go_wp2_with fail
 go_ret
 exact ⟨ret_bool (by simp [Lm.same, HN.out]), HBox.out⟩
set_option maxHeartbeats 2000000 in
theorem refsame05_c5 (kk : Nat) (n : Int) (t r i s : Nat) (x : ByteArray) (ia : Option Addr) (il ic : Nat) (da : Option Addr) (dl dc : Nat) (li : List Lm.It) (ld : List Dt.Dot) (s' : Nat) (x' : ByteArray) (ia' : Option Addr) (il' ic' : Nat) (da' : Option Addr) (dl' dc' : Nat) (li' : List Lm.It) (ld' : List Dt.Dot) (W : World) (hne : s ≠ s') :
  Calls Try.prog 12 #[leafV kk n t r i s x ia il ic da dl dc, leafV kk n t r i s' x' ia' il' ic' da' dl' dc'] W fun e w' => e = .returned (.bool (Lm.same ⟨kk, n, t, ((r, i), s), x, li, ld⟩ ⟨kk, n, t, ((r, i), s'), x', li', ld'⟩)) ∧ Below W.heap.size W w' := by
 have HBox := Lib.hid (below_box2 W #[.int .u8 (kk : Int), .int .i64 n, .int .u64 (t : Int), .int .u8 (r : Int), .int .u32 (i : Int), .int .u64 (s : Int), .string x, .slice ia il ic, .slice da dl dc] #[.int .u8 (kk : Int), .int .i64 n, .int .u64 (t : Int), .int .u8 (r : Int), .int .u32 (i : Int), .int .u64 (s' : Int), .string x', .slice ia' il' ic', .slice da' dl' dc'] 44 44)
 have d1 : ((s : Int) == (s' : Int)) = false := by simp; omega
 have d2 : ((s : Int) != (s' : Int)) = true := by simp; omega
 have HN := Lib.hid hne; clear hne
 go_enter Try.func12, Try.ntmps12
 go_wp2_with fail
 go_ret
 exact ⟨ret_bool (by simp [Lm.same, HN.out]), HBox.out⟩
set_option maxHeartbeats 2000000 in
theorem refsame05_c6 (kk : Nat) (n : Int) (t r i s : Nat) (x : ByteArray) (ia : Option Addr) (il ic : Nat) (da : Option Addr) (dl dc : Nat) (li : List Lm.It) (ld : List Dt.Dot) (x' : ByteArray) (ia' : Option Addr) (il' ic' : Nat) (da' : Option Addr) (dl' dc' : Nat) (li' : List Lm.It) (ld' : List Dt.Dot) (W : World) (hne : x ≠ x') :
  Calls Try.prog 12 #[leafV kk n t r i s x ia il ic da dl dc, leafV kk n t r i s x' ia' il' ic' da' dl' dc'] W fun e w' => e = .returned (.bool (Lm.same ⟨kk, n, t, ((r, i), s), x, li, ld⟩ ⟨kk, n, t, ((r, i), s), x', li', ld'⟩)) ∧ Below W.heap.size W w' := by
 have HBox := Lib.hid (below_box2 W #[.int .u8 (kk : Int), .int .i64 n, .int .u64 (t : Int), .int .u8 (r : Int), .int .u32 (i : Int), .int .u64 (s : Int), .string x, .slice ia il ic, .slice da dl dc] #[.int .u8 (kk : Int), .int .i64 n, .int .u64 (t : Int), .int .u8 (r : Int), .int .u32 (i : Int), .int .u64 (s : Int), .string x', .slice ia' il' ic', .slice da' dl' dc'] 44 44)
 have d1 := str_ne hne
 have d2 : (x.toList != x'.toList) = true := by simp [bne, d1]
 have HN := Lib.hid hne; clear hne
 go_enter Try.func12, Try.ntmps12
 go_wp2_with fail
 go_ret
 exact ⟨ret_bool (by simp [Lm.same, HN.out]), HBox.out⟩
set_option maxRecDepth 100000 in
set_option maxHeartbeats 6400000 in
theorem refsame05_all (kk : Nat) (n : Int) (t r i s : Nat) (x : ByteArray) (ia : Option Addr) (il ic : Nat) (da : Option Addr) (dl dc : Nat) (li : List Lm.It) (ld : List Dt.Dot)  (ia' : Option Addr) (il' ic' : Nat) (da' : Option Addr) (dl' dc' : Nat) (li' : List Lm.It) (ld' : List Dt.Dot) (W : World) (hi : IRow W ia ic li) (hil : li.length = il) (hd : VRow W da dc ld) (hdl : ld.length = dl) (hi' : IRow W ia' ic' li') (hil' : li'.length = il') (hd' : VRow W da' dc' ld') (hdl' : ld'.length = dl') :
  Calls Try.prog 12 #[leafV kk n t r i s x ia il ic da dl dc, leafV kk n t r i s x ia' il' ic' da' dl' dc'] W fun e w' => e = .returned (.bool (Lm.same ⟨kk, n, t, ((r, i), s), x, li, ld⟩ ⟨kk, n, t, ((r, i), s), x, li', ld'⟩)) ∧ Below W.heap.size W w' := by
 have HBox := Lib.hid (below_box2 W #[.int .u8 (kk : Int), .int .i64 n, .int .u64 (t : Int), .int .u8 (r : Int), .int .u32 (i : Int), .int .u64 (s : Int), .string x, .slice ia il ic, .slice da dl dc] #[.int .u8 (kk : Int), .int .i64 n, .int .u64 (t : Int), .int .u8 (r : Int), .int .u32 (i : Int), .int .u64 (s : Int), .string x, .slice ia' il' ic', .slice da' dl' dc'] 44 44)
 have hic := hi.cap; have hdc := hd.cap; have hile := hi.le; have hdle := hd.le
 rw [hil] at hile; rw [hdl] at hdle
 have HI := Lib.hid hi; have HIl := Lib.hid hil; have HD := Lib.hid hd; have HDl := Lib.hid hdl
 have HI' := Lib.hid hi'; have HIl' := Lib.hid hil'; have HD' := Lib.hid hd'; have HDl' := Lib.hid hdl'
 clear hi hil hd hdl hi' hil' hd' hdl'
 by_cases hni : il = il'
 case neg =>
  have d1 : ((il : Int) == (il' : Int)) = false := by simp; omega
  have d2 : ((il : Int) != (il' : Int)) = true := by simp; omega
  have HN := Lib.hid (show ¬ li = li' from fun g => hni (by rw [← HIl.out, ← HIl'.out, g])); clear hni
  go_enter Try.func12, Try.ntmps12
  go_wp2_with fail
  go_ret
  exact ⟨ret_bool (by simp [Lm.same, HN.out]), HBox.out⟩
 subst hni
 by_cases hnd : dl = dl'
 case neg =>
  have d1 : ((dl : Int) == (dl' : Int)) = false := by simp; omega
  have d2 : ((dl : Int) != (dl' : Int)) = true := by simp; omega
  have HN := Lib.hid (show ¬ ld = ld' from fun g => hnd (by rw [← HDl.out, ← HDl'.out, g])); clear hnd
  go_enter Try.func12, Try.ntmps12
  go_wp2_with fail
  go_ret
  exact ⟨ret_bool (by simp [Lm.same, HN.out]), HBox.out⟩
 subst hnd
 go_enter Try.func12, Try.ntmps12
 go_wp2_with fail
 go_loopw [5] (fun u wr => ∃ k : Nat, k ≤ il ∧ u = .int .i64 k ∧ li.take k = li'.take k ∧ Below ((W.alloc (.cells #[.int .u8 (kk : Int), .int .i64 n, .int .u64 (t : Int), .int .u8 (r : Int), .int .u32 (i : Int), .int .u64 (s : Int), .string x, .slice ia il ic, .slice da dl dc] 44)).alloc (.cells #[.int .u8 (kk : Int), .int .i64 n, .int .u64 (t : Int), .int .u8 (r : Int), .int .u32 (i : Int), .int .u64 (s : Int), .string x, .slice ia' il ic', .slice da' dl dc'] 44)).heap.size ((W.alloc (.cells #[.int .u8 (kk : Int), .int .i64 n, .int .u64 (t : Int), .int .u8 (r : Int), .int .u32 (i : Int), .int .u64 (s : Int), .string x, .slice ia il ic, .slice da dl dc] 44)).alloc (.cells #[.int .u8 (kk : Int), .int .i64 n, .int .u64 (t : Int), .int .u8 (r : Int), .int .u32 (i : Int), .int .u64 (s : Int), .string x, .slice ia' il ic', .slice da' dl dc'] 44)) wr) (fun u _ => il - (intOf u).toNat)
 case atStart => exact ⟨0, Nat.zero_le _, rfl, rfl, Below.refl _ _⟩
 case round =>
   obtain ⟨k, hk, rfl, htk, hbel⟩ := hrel
   have HT := Lib.hid htk; clear htk
   have hbx : Below (W.alloc (.cells #[.int .u8 (kk : Int), .int .i64 n, .int .u64 (t : Int), .int .u8 (r : Int), .int .u32 (i : Int), .int .u64 (s : Int), .string x, .slice ia il ic, .slice da dl dc] 44)).heap.size (W.alloc (.cells #[.int .u8 (kk : Int), .int .i64 n, .int .u64 (t : Int), .int .u8 (r : Int), .int .u32 (i : Int), .int .u64 (s : Int), .string x, .slice ia il ic, .slice da dl dc] 44)) wr := (((Below.refl _ _).alloc (Nat.le_refl _) _)).trans (hbel.mono (by simp))
   obtain ⟨-, -, -, -, -, -, -, hc7, hc8⟩ := leafcells hbx
   obtain ⟨-, -, -, -, -, -, -, he7, he8⟩ := leafcells hbel
   simp only [World.size_alloc] at he7 he8
   have HW := Lib.hid (HBox.out.trans (hbel.mono HBox.out.size)); have HBel := Lib.hid hbel; clear hbel hbx
   by_cases hlt : k < il
   ·obtain ⟨d, hd⟩ := geti_some (l := li) (i := k) (by rw [HIl.out]; exact hlt)
    obtain ⟨e, he⟩ := geti_some (l := li') (i := k) (by rw [HIl'.out]; exact hlt)
    obtain ⟨b1, o1, rfl, hb1, hc1⟩ := HI.out.at (by rw [HIl.out]; omega)
    obtain ⟨b2, o2, rfl, hb2, hc2⟩ := HI'.out.at (by rw [HIl'.out]; omega)
    obtain ⟨g0, g1, g2, g3, g4⟩ := hc1 k d hd
    obtain ⟨h0, h1, h2, h3, h4⟩ := hc2 k e he
    have q0 := (HW.out.cell (p := ⟨b1, o1 + k * 5, none⟩) hb1).trans g0
    have q1 := (HW.out.cell (p := ⟨b1, o1 + k * 5 + 1, none⟩) hb1).trans g1
    have q2 := (HW.out.cell (p := ⟨b1, o1 + k * 5 + 2, none⟩) hb1).trans g2
    have q3 := (HW.out.cell (p := ⟨b1, o1 + k * 5 + 3, none⟩) hb1).trans g3
    have q4 := (HW.out.cell (p := ⟨b1, o1 + k * 5 + 4, none⟩) hb1).trans g4
    have p0 := (HW.out.cell (p := ⟨b2, o2 + k * 5, none⟩) hb2).trans h0
    have p1 := (HW.out.cell (p := ⟨b2, o2 + k * 5 + 1, none⟩) hb2).trans h1
    have p2 := (HW.out.cell (p := ⟨b2, o2 + k * 5 + 2, none⟩) hb2).trans h2
    have p3 := (HW.out.cell (p := ⟨b2, o2 + k * 5 + 3, none⟩) hb2).trans h3
    have p4 := (HW.out.cell (p := ⟨b2, o2 + k * 5 + 4, none⟩) hb2).trans h4
    have i0 : (0 : Int) ≤ (k : Int) := by omega
    have i1 : (k : Int) < (il : Int) := by omega
    have Hd := Lib.hid hd; have He := Lib.hid he
    clear hc1 hc2 g0 h0 g1 h1 g2 h2 g3 h3 g4 h4 hd he
    by_cases hde : d = e
    ·subst hde
     have Hs := Lib.hid (take_eq_succI HT.out Hd.out He.out)
     obtain ⟨t, ⟨⟨r, i⟩, s⟩, x⟩ := d
     simp only at q0 p0 q1 p1 q2 p2 q3 p3 q4 p4
     go_wp2
     go_quiet (fail)
     go_wp2
     clear q0 p0 q1 p1 q2 p2 q3 p3 q4 p4
     go_roundw
     case rel => exact ⟨k + 1, by omega, by go_num, Hs.out, below_drewL HBel.out _⟩
     case measure => simp [intOf]; omega
    ·have hfin : decide (li = li') = false := decide_eq_false fun g => hde (by have h1 := Hd.out; have h2 := He.out; rw [g, h2] at h1; exact (Option.some.inj h1).symm)
     have Hfin := Lib.hid hfin; clear hfin
     have hne := it_ne hde
     obtain ⟨t, ⟨⟨r, i⟩, s⟩, x⟩ := d
     obtain ⟨t', ⟨⟨r', i'⟩, s'⟩, x'⟩ := e
     simp only at q0 p0 q1 p1 q2 p2 q3 p3 q4 p4 hne
     clear hde
     rcases hne with h1 | ⟨rfl, h1⟩ | ⟨rfl, rfl, h1⟩ | ⟨rfl, rfl, rfl, h1⟩ | ⟨rfl, rfl, rfl, rfl, h1⟩
     ·have d1 : ((t : Int) == (t' : Int)) = false := by simp; omega
      clear h1
      go_wp2
      go_quiet (fail)
      go_wp2
      go_ret
      exact ⟨ret_bool (by simp [Lm.same, of_decide_eq_false Hfin.out]), below_drewL HW.out _⟩
     ·have d1 : ((r : Int) == (r' : Int)) = false := by simp; omega
      clear h1
      go_wp2
      go_quiet (fail)
      go_wp2
      go_ret
      exact ⟨ret_bool (by simp [Lm.same, of_decide_eq_false Hfin.out]), below_drewL HW.out _⟩
     ·have d1 : ((i : Int) == (i' : Int)) = false := by simp; omega
      clear h1
      go_wp2
      go_quiet (fail)
      go_wp2
      go_ret
      exact ⟨ret_bool (by simp [Lm.same, of_decide_eq_false Hfin.out]), below_drewL HW.out _⟩
     ·have d1 : ((s : Int) == (s' : Int)) = false := by simp; omega
      clear h1
      go_wp2
      go_quiet (fail)
      go_wp2
      go_ret
      exact ⟨ret_bool (by simp [Lm.same, of_decide_eq_false Hfin.out]), below_drewL HW.out _⟩
     ·have d1 := str_ne h1
      clear h1
      go_wp2
      go_quiet (fail)
      go_wp2
      go_ret
      exact ⟨ret_bool (by simp [Lm.same, of_decide_eq_false Hfin.out]), below_drewL HW.out _⟩
   ·have HE := Lib.hid (show li = li' by have := HT.out; rwa [List.take_of_length_le (by rw [HIl.out]; omega), List.take_of_length_le (by rw [HIl'.out]; omega)] at this)
    go_wp2_with fail
    go_loopw [6] (fun u wr => ∃ k : Nat, k ≤ dl ∧ u = .int .i64 k ∧ ld.take k = ld'.take k ∧ Below ((W.alloc (.cells #[.int .u8 (kk : Int), .int .i64 n, .int .u64 (t : Int), .int .u8 (r : Int), .int .u32 (i : Int), .int .u64 (s : Int), .string x, .slice ia il ic, .slice da dl dc] 44)).alloc (.cells #[.int .u8 (kk : Int), .int .i64 n, .int .u64 (t : Int), .int .u8 (r : Int), .int .u32 (i : Int), .int .u64 (s : Int), .string x, .slice ia' il ic', .slice da' dl dc'] 44)).heap.size ((W.alloc (.cells #[.int .u8 (kk : Int), .int .i64 n, .int .u64 (t : Int), .int .u8 (r : Int), .int .u32 (i : Int), .int .u64 (s : Int), .string x, .slice ia il ic, .slice da dl dc] 44)).alloc (.cells #[.int .u8 (kk : Int), .int .i64 n, .int .u64 (t : Int), .int .u8 (r : Int), .int .u32 (i : Int), .int .u64 (s : Int), .string x, .slice ia' il ic', .slice da' dl dc'] 44)) wr) (fun u _ => dl - (intOf u).toNat)
    case atStart => exact ⟨0, Nat.zero_le _, rfl, rfl, HBel.out⟩
    case round =>
      clear hc7 hc8 he7 he8 HW HBel HT
      obtain ⟨k, hk, rfl, htk, hbel⟩ := hrel
      have HT := Lib.hid htk; clear htk
      have hbx : Below (W.alloc (.cells #[.int .u8 (kk : Int), .int .i64 n, .int .u64 (t : Int), .int .u8 (r : Int), .int .u32 (i : Int), .int .u64 (s : Int), .string x, .slice ia il ic, .slice da dl dc] 44)).heap.size (W.alloc (.cells #[.int .u8 (kk : Int), .int .i64 n, .int .u64 (t : Int), .int .u8 (r : Int), .int .u32 (i : Int), .int .u64 (s : Int), .string x, .slice ia il ic, .slice da dl dc] 44)) wr := (((Below.refl _ _).alloc (Nat.le_refl _) _)).trans (hbel.mono (by simp))
      obtain ⟨-, -, -, -, -, -, -, hc7, hc8⟩ := leafcells hbx
      obtain ⟨-, -, -, -, -, -, -, he7, he8⟩ := leafcells hbel
      simp only [World.size_alloc] at he7 he8
      have HW := Lib.hid (HBox.out.trans (hbel.mono HBox.out.size)); have HBel := Lib.hid hbel; clear hbel hbx
      by_cases hlt : k < dl
      ·obtain ⟨d, hd⟩ := getD_some (l := ld) (i := k) (by rw [HDl.out]; exact hlt)
       obtain ⟨e, he⟩ := getD_some (l := ld') (i := k) (by rw [HDl'.out]; exact hlt)
       obtain ⟨b1, o1, rfl, hb1, hc1⟩ := HD.out.at (by rw [HDl.out]; omega)
       obtain ⟨b2, o2, rfl, hb2, hc2⟩ := HD'.out.at (by rw [HDl'.out]; omega)
       obtain ⟨g0, g1, g2⟩ := hc1 k d hd
       obtain ⟨h0, h1, h2⟩ := hc2 k e he
       have q0 := (HW.out.cell (p := ⟨b1, o1 + k * 3, none⟩) hb1).trans g0
       have q1 := (HW.out.cell (p := ⟨b1, o1 + k * 3 + 1, none⟩) hb1).trans g1
       have q2 := (HW.out.cell (p := ⟨b1, o1 + k * 3 + 2, none⟩) hb1).trans g2
       have p0 := (HW.out.cell (p := ⟨b2, o2 + k * 3, none⟩) hb2).trans h0
       have p1 := (HW.out.cell (p := ⟨b2, o2 + k * 3 + 1, none⟩) hb2).trans h1
       have p2 := (HW.out.cell (p := ⟨b2, o2 + k * 3 + 2, none⟩) hb2).trans h2
       have i0 : (0 : Int) ≤ (k : Int) := by omega
       have i1 : (k : Int) < (dl : Int) := by omega
       have Hd := Lib.hid hd; have He := Lib.hid he
       clear hc1 hc2 g0 h0 g1 h1 g2 h2 hd he
       by_cases hde : d = e
       ·subst hde
        have Hs := Lib.hid (take_eq_succO HT.out Hd.out He.out)
        obtain ⟨⟨r, i⟩, s⟩ := d
        simp only at q0 p0 q1 p1 q2 p2
        go_wp2
        go_quiet (fail)
        go_wp2
        clear q0 p0 q1 p1 q2 p2
        go_roundw
        case rel => exact ⟨k + 1, by omega, by go_num, Hs.out, below_drewL HBel.out _⟩
        case measure => simp [intOf]; omega
       ·have hfin : decide (ld = ld') = false := decide_eq_false fun g => hde (by have h1 := Hd.out; have h2 := He.out; rw [g, h2] at h1; exact (Option.some.inj h1).symm)
        have Hfin := Lib.hid hfin; clear hfin
        have hne := dot_neO hde
        obtain ⟨⟨r, i⟩, s⟩ := d
        obtain ⟨⟨r', i'⟩, s'⟩ := e
        simp only at q0 p0 q1 p1 q2 p2 hne
        clear hde
        rcases hne with h1 | ⟨rfl, h1⟩ | ⟨rfl, rfl, h1⟩
        ·have d1 : ((r : Int) == (r' : Int)) = false := by simp; omega
         clear h1
         go_wp2
         go_quiet (fail)
         go_wp2
         go_ret
         exact ⟨ret_bool (by simp [Lm.same, of_decide_eq_false Hfin.out]), below_drewL HW.out _⟩
        ·have d1 : ((i : Int) == (i' : Int)) = false := by simp; omega
         clear h1
         go_wp2
         go_quiet (fail)
         go_wp2
         go_ret
         exact ⟨ret_bool (by simp [Lm.same, of_decide_eq_false Hfin.out]), below_drewL HW.out _⟩
        ·have d1 : ((s : Int) == (s' : Int)) = false := by simp; omega
         clear h1
         go_wp2
         go_quiet (fail)
         go_wp2
         go_ret
         exact ⟨ret_bool (by simp [Lm.same, of_decide_eq_false Hfin.out]), below_drewL HW.out _⟩
      ·have HF := Lib.hid (show ld = ld' by have := HT.out; rwa [List.take_of_length_le (by rw [HDl.out]; omega), List.take_of_length_le (by rw [HDl'.out]; omega)] at this)
       go_wp2_with fail
       go_ret
       exact ⟨ret_bool (by simp [Lm.same, HE.out, HF.out]), HW.out⟩
theorem refsame05_any (kk : Nat) (n : Int) (t r i s : Nat) (x : ByteArray) (ia : Option Addr) (il ic : Nat) (da : Option Addr) (dl dc : Nat) (li : List Lm.It) (ld : List Dt.Dot) (kk' : Nat) (n' : Int) (t' : Nat) (r' : Nat) (i' : Nat) (s' : Nat) (x' : ByteArray) (ia' : Option Addr) (il' ic' : Nat) (da' : Option Addr) (dl' dc' : Nat) (li' : List Lm.It) (ld' : List Dt.Dot) (W : World) (hi : IRow W ia ic li) (hil : li.length = il) (hd : VRow W da dc ld) (hdl : ld.length = dl) (hi' : IRow W ia' ic' li') (hil' : li'.length = il') (hd' : VRow W da' dc' ld') (hdl' : ld'.length = dl') :
  Calls Try.prog 12 #[leafV kk n t r i s x ia il ic da dl dc, leafV kk' n' t' r' i' s' x' ia' il' ic' da' dl' dc'] W fun e w' => e = .returned (.bool (Lm.same ⟨kk, n, t, ((r, i), s), x, li, ld⟩ ⟨kk', n', t', ((r', i'), s'), x', li', ld'⟩)) ∧ Below W.heap.size W w' := by
 by_cases h0 : kk = kk'
 case neg => exact refsame05_c0 kk n t r i s x ia il ic da dl dc li ld kk' n' t' r' i' s' x' ia' il' ic' da' dl' dc' li' ld' W h0
 subst h0
 by_cases h1 : n = n'
 case neg => exact refsame05_c1 kk n t r i s x ia il ic da dl dc li ld n' t' r' i' s' x' ia' il' ic' da' dl' dc' li' ld' W h1
 subst h1
 by_cases h2 : t = t'
 case neg => exact refsame05_c2 kk n t r i s x ia il ic da dl dc li ld t' r' i' s' x' ia' il' ic' da' dl' dc' li' ld' W h2
 subst h2
 by_cases h3 : r = r'
 case neg => exact refsame05_c3 kk n t r i s x ia il ic da dl dc li ld r' i' s' x' ia' il' ic' da' dl' dc' li' ld' W h3
 subst h3
 by_cases h4 : i = i'
 case neg => exact refsame05_c4 kk n t r i s x ia il ic da dl dc li ld i' s' x' ia' il' ic' da' dl' dc' li' ld' W h4
 subst h4
 by_cases h5 : s = s'
 case neg => exact refsame05_c5 kk n t r i s x ia il ic da dl dc li ld s' x' ia' il' ic' da' dl' dc' li' ld' W h5
 subst h5
 by_cases h6 : x = x'
 case neg => exact refsame05_c6 kk n t r i s x ia il ic da dl dc li ld x' ia' il' ic' da' dl' dc' li' ld' W h6
 subst h6
 exact refsame05_all kk n t r i s x ia il ic da dl dc li ld ia' il' ic' da' dl' dc' li' ld' W hi hil hd hdl hi' hil' hd' hdl'
end Go.Proofs.Ytplafpchgfjomaa
