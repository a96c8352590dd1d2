import Derived.Test.YthbkieghkfpbhaaGreatZDot11
namespace Go.Proofs.YthbkieghkfpbhaaGreat
open Go.RowKit Go.Buf Go.Maps
set_option linter.unusedSimpArgs false
set_option linter.unusedVariables false
theorem same_no {o o' : Om.O} (h : ¬ (o.kind = o'.kind ∧ o.n = o'.n ∧ o.text = o'.text ∧ o.path = o'.path ∧ o.dots = o'.dots)) : decide (o = o') = false := decide_eq_false fun e => h (by subst e; simp)
theorem opcells2 {W w1 : World} {c0 c1 c2 c3 c4 d0 d1 d2 d3 d4 : Value} (hb : Below ((W.alloc (.cells #[c0, c1, c2, c3, c4] 32)).alloc (.cells #[d0, d1, d2, d3, d4] 32)).heap.size ((W.alloc (.cells #[c0, c1, c2, c3, c4] 32)).alloc (.cells #[d0, d1, d2, d3, d4] 32)) w1) :
  (w1.cell? ⟨W.heap.size, 0, none⟩ = some c0 ∧ w1.cell? ⟨W.heap.size, 1, none⟩ = some c1 ∧ w1.cell? ⟨W.heap.size, 2, none⟩ = some c2 ∧ w1.cell? ⟨W.heap.size, 3, none⟩ = some c3 ∧ w1.cell? ⟨W.heap.size, 4, none⟩ = some c4) ∧
  (w1.cell? ⟨W.heap.size + 1, 0, none⟩ = some d0 ∧ w1.cell? ⟨W.heap.size + 1, 1, none⟩ = some d1 ∧ w1.cell? ⟨W.heap.size + 1, 2, none⟩ = some d2 ∧ w1.cell? ⟨W.heap.size + 1, 3, none⟩ = some d3 ∧ w1.cell? ⟨W.heap.size + 1, 4, none⟩ = some d4) := by
 refine ⟨opcells ((below_box _ _ _).trans (hb.mono (by simp))), ?_⟩
 have h := opcells hb
 simpa using h
set_option maxRecDepth 100000 in
set_option maxHeartbeats 1600000 in
theorem opsame_any (k : Nat) (pa : Option Addr) (pl pc : Nat) (n : Int) (t : ByteArray) (da : Option Addr) (dl dc : Nat) (p : List ByteArray) (d : List Dt.Dot) (k' : Nat) (pa' : Option Addr) (pl' pc' : Nat) (n' : Int) (t' : ByteArray) (da' : Option Addr) (dl' dc' : Nat) (p' : List ByteArray) (d' : List Dt.Dot) (W : World) (hp : SRow W pa pc p) (hpl : p.length = pl) (hr : VRow W da dc d) (hdl : d.length = dl) (hp' : SRow W pa' pc' p') (hpl' : p'.length = pl') (hr' : VRow W da' dc' d') (hdl' : d'.length = dl') :
  Calls Tryz.prog 26 #[opV k pa pl pc n t da dl dc, opV k' pa' pl' pc' n' t' da' dl' dc'] W fun e w' => e = .returned (.bool (decide ((⟨k, p, n, t, d⟩ : Om.O) = ⟨k', p', n', t', d'⟩))) ∧ Below W.heap.size W w' := by
 have HP := Lib.hid hp; have HPl := Lib.hid hpl; have HR := Lib.hid hr; have HDl := Lib.hid hdl
 have HP' := Lib.hid hp'; have HPl' := Lib.hid hpl'; have HR' := Lib.hid hr'; have HDl' := Lib.hid hdl'
 have HBox := Lib.hid ((below_box W #[.int .u8 (k : Int), .slice pa pl pc, .int .i64 n, .string t, .slice da dl dc] 32).trans ((below_box (W.alloc (.cells #[.int .u8 (k : Int), .slice pa pl pc, .int .i64 n, .string t, .slice da dl dc] 32)) #[.int .u8 (k' : Int), .slice pa' pl' pc', .int .i64 n', .string t', .slice da' dl' dc'] 32).mono (below_box W #[.int .u8 (k : Int), .slice pa pl pc, .int .i64 n, .string t, .slice da dl dc] 32).size))
 clear hp hpl hr hdl hp' hpl' hr' hdl'
 by_cases hk : k = k'
 case neg =>
  have HM := Lib.hid (same_no (o := ⟨k, p, n, t, d⟩) (o' := ⟨k', p', n', t', d'⟩) (by simp; omega))
  have d1 : ((k : Int) == (k' : Int)) = false := by simp; omega
  clear hk
  go_enter Tryz.func26, Tryz.ntmps26
  go_wp2_with fail
  go_ret
  exact ⟨ret_bool HM.out.symm, HBox.out⟩
 subst hk
 by_cases hn : n = n'
 case neg =>
  have HM := Lib.hid (same_no (o := ⟨k, p, n, t, d⟩) (o' := ⟨k, p', n', t', d'⟩) (by simp; omega))
  have d1 : (n == n') = false := by simpa using hn
  clear hn
  go_enter Tryz.func26, Tryz.ntmps26
  go_wp2_with fail
  go_ret
  exact ⟨ret_bool HM.out.symm, HBox.out⟩
 subst hn
 by_cases ht : t = t'
 case neg =>
  have HM := Lib.hid (same_no (o := ⟨k, p, n, t, d⟩) (o' := ⟨k, p', n, t', d'⟩) (by simp; intro h; exact absurd h ht))
  have d1 := str_ne ht
  clear ht
  go_enter Tryz.func26, Tryz.ntmps26
  go_wp2_with fail
  go_ret
  exact ⟨ret_bool HM.out.symm, HBox.out⟩
 subst ht
 by_cases hp : p = p'
 case neg =>
  have HM := Lib.hid (same_no (o := ⟨k, p, n, t, d⟩) (o' := ⟨k, p', n, t, d'⟩) (by simp; intro h; exact absurd h hp))
  have HQ := Lib.hid (decide_eq_false hp)
  clear hp
  go_enter Tryz.func26, Tryz.ntmps26
  go_wp2_with fail
  refine (equalS_any pa pl pc p pa' pl' pc' p' _ (HP.out.below HBox.out) HPl.out (HP'.out.below HBox.out) HPl'.out).mono ?_
  rintro e w1 ⟨rfl, hb⟩
  obtain ⟨⟨hc0, hc1, hc2, hc3, hc4⟩, hd0, hd1, hd2, hd3, hd4⟩ := opcells2 hb
  have HB := Lib.hid (HBox.out.trans (hb.mono HBox.out.size)); clear hb
  rw [HQ.out]
  go_wp2_with fail
  go_ret
  exact ⟨ret_bool HM.out.symm, HB.out⟩
 have HQ := Lib.hid (decide_eq_true hp)
 have HPP := Lib.hid hp; clear hp
 go_enter Tryz.func26, Tryz.ntmps26
 go_wp2_with fail
 refine (equalS_any pa pl pc p pa' pl' pc' p' _ (HP.out.below HBox.out) HPl.out (HP'.out.below HBox.out) HPl'.out).mono ?_
 rintro e w1 ⟨rfl, hb⟩
 obtain ⟨⟨hc0, hc1, hc2, hc3, hc4⟩, hd0, hd1, hd2, hd3, hd4⟩ := opcells2 hb
 have HB := Lib.hid (HBox.out.trans (hb.mono HBox.out.size)); clear hb
 rw [HQ.out]
 go_wp2_with fail
 refine (equalD_any da dl dc d da' dl' dc' d' _ (HR.out.below HB.out) HDl.out (HR'.out.below HB.out) HDl'.out).mono ?_
 rintro e w2 ⟨rfl, hb⟩
 have HB2 := Lib.hid (HB.out.trans (hb.mono HB.out.size)); clear hb
 go_wp2_with fail
 go_ret
 exact ⟨ret_bool (by simp [HPP.out]), HB2.out⟩
end Go.Proofs.YthbkieghkfpbhaaGreat
namespace Go.Proofs.YthbkieghkfpbhaaGreat
open Go.RowKit Go.Buf Go.Maps
set_option linter.unusedSimpArgs false
set_option linter.unusedVariables false
set_option maxRecDepth 100000 in
set_option maxHeartbeats 6400000 in
theorem refopsame_any (k : Nat) (pa : Option Addr) (pl pc : Nat) (n : Int) (t : ByteArray) (da : Option Addr) (dl dc : Nat) (p : List ByteArray) (d : List Dt.Dot) (k' : Nat) (pa' : Option Addr) (pl' pc' : Nat) (n' : Int) (t' : ByteArray) (da' : Option Addr) (dl' dc' : Nat) (p' : List ByteArray) (d' : List Dt.Dot) (W : World) (hp : SRow W pa pc p) (hpl : p.length = pl) (hr : VRow W da dc d) (hdl : d.length = dl) (hp' : SRow W pa' pc' p') (hpl' : p'.length = pl') (hr' : VRow W da' dc' d') (hdl' : d'.length = dl') :
  Calls Tryz.prog 13 #[opV k pa pl pc n t da dl dc, opV k' pa' pl' pc' n' t' da' dl' dc'] W fun e w' => e = .returned (.bool (decide ((⟨k, p, n, t, d⟩ : Om.O) = ⟨k', p', n', t', d'⟩))) ∧ Below W.heap.size W w' := by
 have hle := hp.le
 have hcap := hp.cap
 have hle2 := hr.le
 have hcap2 := hr.cap
 rw [hpl] at hle
 rw [hdl] at hle2
 have HP := Lib.hid hp; have HPl := Lib.hid hpl; have HR := Lib.hid hr; have HDl := Lib.hid hdl
 have HP' := Lib.hid hp'; have HPl' := Lib.hid hpl'; have HR' := Lib.hid hr'; have HDl' := Lib.hid hdl'
 have HBox := Lib.hid ((below_box W #[.int .u8 (k : Int), .slice pa pl pc, .int .i64 n, .string t, .slice da dl dc] 32).trans ((below_box (W.alloc (.cells #[.int .u8 (k : Int), .slice pa pl pc, .int .i64 n, .string t, .slice da dl dc] 32)) #[.int .u8 (k' : Int), .slice pa' pl' pc', .int .i64 n', .string t', .slice da' dl' dc'] 32).mono (below_box W #[.int .u8 (k : Int), .slice pa pl pc, .int .i64 n, .string t, .slice da dl dc] 32).size))
 clear hp hpl hr hdl hp' hpl' hr' hdl'
 by_cases hk : k = k'
 case neg =>
  have HM := Lib.hid (same_no (o := ⟨k, p, n, t, d⟩) (o' := ⟨k', p', n', t', d'⟩) (by simp; omega))
  have d1 : ((k : Int) == (k' : Int)) = false := by simp; omega
  have d2 : ((k : Int) != (k' : Int)) = true := by simp; omega
  go_enter Tryz.func13, Tryz.ntmps13
  go_wp2_with fail
  go_ret
  exact ⟨ret_bool HM.out.symm, HBox.out⟩
 subst hk
 by_cases hn : n = n'
 case neg =>
  have HM := Lib.hid (same_no (o := ⟨k, p, n, t, d⟩) (o' := ⟨k, p', n', t', d'⟩) (by simp; omega))
  have d1 : (n == n') = false := by simpa using hn
  have d2 : (n != n') = true := by simpa using hn
  go_enter Tryz.func13, Tryz.ntmps13
  go_wp2_with fail
  go_ret
  exact ⟨ret_bool HM.out.symm, HBox.out⟩
 subst hn
 by_cases ht : t = t'
 case neg =>
  have HM := Lib.hid (same_no (o := ⟨k, p, n, t, d⟩) (o' := ⟨k, p', n, t', d'⟩) (by simp; intro h; exact absurd h ht))
  have d1 := str_ne ht
  clear ht
  go_enter Tryz.func13, Tryz.ntmps13
  go_wp2_with fail
  go_ret
  exact ⟨ret_bool HM.out.symm, HBox.out⟩
 subst ht
 by_cases hpp : pl = pl'
 case neg =>
  have HM := Lib.hid (same_no (o := ⟨k, p, n, t, d⟩) (o' := ⟨k, p', n, t, d'⟩) (by simp; intro h; exact absurd (by rw [← HPl.out, ← HPl'.out, h]) hpp))
  have d1 : ((pl : Int) == (pl' : Int)) = false := by simp; omega
  clear hpp
  go_enter Tryz.func13, Tryz.ntmps13
  go_wp2_with fail
  go_ret
  exact ⟨ret_bool HM.out.symm, HBox.out⟩
 subst hpp
 by_cases hdd : dl = dl'
 case neg =>
  have HM := Lib.hid (same_no (o := ⟨k, p, n, t, d⟩) (o' := ⟨k, p', n, t, d'⟩) (by simp; intro _ h; exact absurd (by rw [← HDl.out, ← HDl'.out, h]) hdd))
  have d1 : ((dl : Int) == (dl' : Int)) = false := by simp; omega
  clear hdd
  go_enter Tryz.func13, Tryz.ntmps13
  go_wp2_with fail
  go_ret
  exact ⟨ret_bool HM.out.symm, HBox.out⟩
 subst hdd
 go_enter Tryz.func13, Tryz.ntmps13
 go_wp2_with fail
 go_loopw [5] (fun i wr => ∃ k0 : Nat, k0 ≤ pl ∧ i = .int .i64 k0 ∧ p.take k0 = p'.take k0 ∧ Below ((W.alloc (.cells #[.int .u8 (k : Int), .slice pa pl pc, .int .i64 n, .string t, .slice da dl dc] 32)).alloc (.cells #[.int .u8 (k : Int), .slice pa' pl pc', .int .i64 n, .string t, .slice da' dl dc'] 32)).heap.size ((W.alloc (.cells #[.int .u8 (k : Int), .slice pa pl pc, .int .i64 n, .string t, .slice da dl dc] 32)).alloc (.cells #[.int .u8 (k : Int), .slice pa' pl pc', .int .i64 n, .string t, .slice da' dl dc'] 32)) wr) (fun i _ => pl - (intOf i).toNat)
 case atStart => exact ⟨0, Nat.zero_le _, rfl, rfl, Below.refl _ _⟩
 case round =>
  obtain ⟨k0, hk0, rfl, htk, hbel⟩ := hrel
  obtain ⟨⟨hc0, hc1, hc2, hc3, hc4⟩, hd0, hd1, hd2, hd3, hd4⟩ := opcells2 hbel
  have HT := Lib.hid htk; have HBel := Lib.hid hbel; clear htk hbel
  by_cases hlt : k0 < pl
  ·obtain ⟨x, hx⟩ := gets_some (l := p) (i := k0) (by rw [HPl.out]; exact hlt)
   obtain ⟨y, hy⟩ := gets_some (l := p') (i := k0) (by rw [HPl'.out]; exact hlt)
   have hr1 := HP.out.below HBox.out
   have hr2 := HP'.out.below HBox.out
   obtain ⟨b1, o1, rfl, hb1, ht1⟩ := hr1.at (by rw [HPl.out]; omega)
   obtain ⟨b2, o2, rfl, hb2, ht2⟩ := hr2.at (by rw [HPl'.out]; omega)
   clear hr1 hr2
   have g0 := ht1 k0 x hx
   have g3 := ht2 k0 y hy
   have q0 := (HBel.out.cell (p := ⟨b1, o1 + k0, none⟩) hb1).trans g0
   have q3 := (HBel.out.cell (p := ⟨b2, o2 + k0, none⟩) hb2).trans g3
   clear g0 g3
   have i0 : (0 : Int) ≤ (k0 : Int) := by omega
   have i1 : (k0 : Int) < (pl : Int) := by omega
   have Hx := Lib.hid hx; have Hy := Lib.hid hy
   clear ht1 ht2 hx hy
   by_cases hxy : x = y
   ·subst hxy
    have Hs := Lib.hid (take_eq_succS HT.out Hx.out Hy.out)
    go_wp2
    go_quiet (fail)
    go_wp2
    go_roundw
    case rel => exact ⟨k0 + 1, by omega, by go_num, Hs.out, below_drewN HBel.out _⟩
    case measure => simp [intOf]; omega
   ·have Hfin := Lib.hid (same_no (o := ⟨k, p, n, t, d⟩) (o' := ⟨k, p', n, t, d'⟩) (by
     rintro ⟨_, _, _, g1, g2⟩
     refine hxy ?_
     have h1 := Hx.out; have h2 := Hy.out
     simp only at g1 g2
     rw [g1, h2] at h1; exact (Option.some.inj h1).symm))
    have d1 := str_ne hxy
    clear hxy
    go_wp2
    go_quiet (fail)
    go_wp2
    go_ret
    exact ⟨ret_bool Hfin.out.symm, HBox.out.trans ((below_drewN HBel.out _).mono HBox.out.size)⟩
  ·have HPE := Lib.hid (show p = p' by have := HT.out; rwa [List.take_of_length_le (by rw [HPl.out]; omega), List.take_of_length_le (by rw [HPl'.out]; omega)] at this)
   clear HT
   go_wp2
   have HBel0 := HBel; clear HBel
   go_loopw [6] (fun i wr => ∃ k0 : Nat, k0 ≤ dl ∧ i = .int .i64 k0 ∧ d.take k0 = d'.take k0 ∧ Below ((W.alloc (.cells #[.int .u8 (k : Int), .slice pa pl pc, .int .i64 n, .string t, .slice da dl dc] 32)).alloc (.cells #[.int .u8 (k : Int), .slice pa' pl pc', .int .i64 n, .string t, .slice da' dl dc'] 32)).heap.size ((W.alloc (.cells #[.int .u8 (k : Int), .slice pa pl pc, .int .i64 n, .string t, .slice da dl dc] 32)).alloc (.cells #[.int .u8 (k : Int), .slice pa' pl pc', .int .i64 n, .string t, .slice da' dl dc'] 32)) wr) (fun i _ => dl - (intOf i).toNat)
   case atStart => exact ⟨0, Nat.zero_le _, rfl, rfl, HBel0.out⟩
   case round =>
    obtain ⟨k0, hk0, rfl, htk, hbel⟩ := hrel
    obtain ⟨⟨hc0, hc1, hc2, hc3, hc4⟩, hd0, hd1, hd2, hd3, hd4⟩ := opcells2 hbel
    have HT := Lib.hid htk; have HBel := Lib.hid hbel; clear htk hbel
    by_cases hlt : k0 < dl
    ·obtain ⟨x, hx⟩ := getD_some (l := d) (i := k0) (by rw [HDl.out]; exact hlt)
     obtain ⟨y, hy⟩ := getD_some (l := d') (i := k0) (by rw [HDl'.out]; exact hlt)
     have hr1 := HR.out.below HBox.out
     have hr2 := HR'.out.below HBox.out
     obtain ⟨b1, o1, rfl, hb1, ht1⟩ := hr1.at (by rw [HDl.out]; omega)
     obtain ⟨b2, o2, rfl, hb2, ht2⟩ := hr2.at (by rw [HDl'.out]; omega)
     clear hr1 hr2
     obtain ⟨g0, g1, g2⟩ := ht1 k0 x hx
     obtain ⟨g3, g4, g5⟩ := ht2 k0 y hy
     have q0 := (HBel.out.cell (p := ⟨b1, o1 + k0 * 3, none⟩) hb1).trans g0
     have q1 := (HBel.out.cell (p := ⟨b1, o1 + k0 * 3 + 1, none⟩) hb1).trans g1
     have q2 := (HBel.out.cell (p := ⟨b1, o1 + k0 * 3 + 2, none⟩) hb1).trans g2
     have q3 := (HBel.out.cell (p := ⟨b2, o2 + k0 * 3, none⟩) hb2).trans g3
     have q4 := (HBel.out.cell (p := ⟨b2, o2 + k0 * 3 + 1, none⟩) hb2).trans g4
     have q5 := (HBel.out.cell (p := ⟨b2, o2 + k0 * 3 + 2, none⟩) hb2).trans g5
     clear g0 g1 g2 g3 g4 g5
     have i0 : (0 : Int) ≤ (k0 : Int) := by omega
     have i1 : (k0 : Int) < (dl : Int) := by omega
     have Hx := Lib.hid hx; have Hy := Lib.hid hy
     clear ht1 ht2 hx hy
     by_cases hxy : x = y
     ·subst hxy
      have Hs := Lib.hid (take_eq_succO HT.out Hx.out Hy.out)
      obtain ⟨⟨r, i⟩, s⟩ := x
      simp only at q0 q1 q2 q3 q4 q5
      go_wp2
      go_quiet (fail)
      go_wp2
      go_roundw
      case rel => exact ⟨k0 + 1, by omega, by go_num, Hs.out, below_drewN HBel.out _⟩
      case measure => simp [intOf]; omega
     ·have Hfin := Lib.hid (same_no (o := ⟨k, p, n, t, d⟩) (o' := ⟨k, p', n, t, d'⟩) (by
       rintro ⟨_, _, _, g1, g2⟩
       refine hxy ?_
       have h1 := Hx.out; have h2 := Hy.out
       simp only at g1 g2
       rw [g2, h2] at h1; exact (Option.some.inj h1).symm))
      have hne := dot_neO hxy
      obtain ⟨⟨r, i⟩, s⟩ := x
      obtain ⟨⟨r', i'⟩, s'⟩ := y
      simp only at q0 q1 q2 q3 q4 q5 hne
      clear hxy
      rcases hne with h1 | ⟨rfl, h1⟩ | ⟨rfl, rfl, h1⟩
      ·have d1 : ((r : Int) == (r' : Int)) = false := by simp; omega
       clear h1
       go_wp2
       go_quiet (fail)
       go_wp2
       go_ret
       exact ⟨ret_bool Hfin.out.symm, HBox.out.trans ((below_drewN HBel.out _).mono HBox.out.size)⟩
      ·have d1 : ((i : Int) == (i' : Int)) = false := by simp; omega
       clear h1
       go_wp2
       go_quiet (fail)
       go_wp2
       go_ret
       exact ⟨ret_bool Hfin.out.symm, HBox.out.trans ((below_drewN HBel.out _).mono HBox.out.size)⟩
      ·have d1 : ((s : Int) == (s' : Int)) = false := by simp; omega
       clear h1
       go_wp2
       go_quiet (fail)
       go_wp2
       go_ret
       exact ⟨ret_bool Hfin.out.symm, HBox.out.trans ((below_drewN HBel.out _).mono HBox.out.size)⟩
    ·have HDE := Lib.hid (show d = d' by have := HT.out; rwa [List.take_of_length_le (by rw [HDl.out]; omega), List.take_of_length_le (by rw [HDl'.out]; omega)] at this)
     clear HT
     go_wp2
     go_ret
     exact ⟨ret_bool (by simp [HPE.out, HDE.out]), HBox.out.trans (HBel.out.mono HBox.out.size)⟩
end Go.Proofs.YthbkieghkfpbhaaGreat
namespace Go.Proofs.YthbkieghkfpbhaaGreat
open Go.RowKit Go.Maps
theorem dot_ne {d e : Dt.Dot} (h : d ≠ e) : d.1.1 ≠ e.1.1 ∨ (d.1.1 = e.1.1 ∧ d.1.2 ≠ e.1.2) ∨ (d.1.1 = e.1.1 ∧ d.1.2 = e.1.2 ∧ d.2 ≠ e.2) := by
 rcases d with ⟨⟨a, b⟩, c⟩; rcases e with ⟨⟨x, y⟩, z⟩
 simp only [ne_eq, Prod.mk.injEq] at *
 omega
theorem take_eq_succ {la lb : List Dt.Dot} {k : Nat} {d : Dt.Dot} (h : la.take k = lb.take k) (ha : la[k]? = some d) (hb : lb[k]? = some d) : la.take (k + 1) = lb.take (k + 1) := by
 obtain ⟨h1, rfl⟩ := List.getElem?_eq_some_iff.1 ha
 obtain ⟨h2, e⟩ := List.getElem?_eq_some_iff.1 hb
 rw [List.take_succ_eq_append_getElem h1, List.take_succ_eq_append_getElem h2, h, e]
set_option maxRecDepth 100000 in
set_option maxHeartbeats 1600000 in
theorem refsame_any (a : Option Addr) (n cap : Nat) (la : List Dt.Dot) (c : Option Addr) (m capc : Nat) (lb : List Dt.Dot) (W : World) (hr : VRow W a cap la) (hl : la.length = n) (hs : VRow W c capc lb) (hm : lb.length = m) :
  Calls Tryz.prog 12 #[.slice a n cap, .slice c m capc] W fun e w' => e = .returned (.bool (decide (la = lb))) ∧ Below W.heap.size W w' := by
 have hle := hr.le
 have hcap := hr.cap
 rw [hl] at hle
 have HR := Lib.hid hr; have HL := Lib.hid hl; have HS := Lib.hid hs; have HM := Lib.hid hm
 clear hr hl hs hm
 by_cases hnm : n = m
 ·subst hnm
  go_enter Tryz.func12, Tryz.ntmps12
  go_wp2
  go_loopw [5] (fun i wr => ∃ k : Nat, k ≤ n ∧ i = .int .i64 k ∧ la.take k = lb.take k ∧ Below W.heap.size W wr) (fun i _ => n - (intOf i).toNat)
  case atStart => exact ⟨0, Nat.zero_le _, rfl, rfl, Below.refl _ _⟩
  case round =>
   obtain ⟨k, hk, rfl, htk, hbel⟩ := hrel
   have HT := Lib.hid htk; have HBel := Lib.hid hbel; clear htk hbel
   by_cases hlt : k < n
   ·obtain ⟨d, hd⟩ := getD_some (l := la) (i := k) (by rw [HL.out]; exact hlt)
    obtain ⟨e, he⟩ := getD_some (l := lb) (i := k) (by rw [HM.out]; exact hlt)
    obtain ⟨b1, o1, rfl, hb1, hc1⟩ := HR.out.at (by rw [HL.out]; omega)
    obtain ⟨b2, o2, rfl, hb2, hc2⟩ := HS.out.at (by rw [HM.out]; omega)
    obtain ⟨g0, g1, g2⟩ := hc1 k d hd
    obtain ⟨g3, g4, g5⟩ := hc2 k e he
    have q0 := (HBel.out.cell (p := ⟨b1, o1 + k * 3, none⟩) hb1).trans g0
    have q1 := (HBel.out.cell (p := ⟨b1, o1 + k * 3 + 1, none⟩) hb1).trans g1
    have q2 := (HBel.out.cell (p := ⟨b1, o1 + k * 3 + 2, none⟩) hb1).trans g2
    have q3 := (HBel.out.cell (p := ⟨b2, o2 + k * 3, none⟩) hb2).trans g3
    have q4 := (HBel.out.cell (p := ⟨b2, o2 + k * 3 + 1, none⟩) hb2).trans g4
    have q5 := (HBel.out.cell (p := ⟨b2, o2 + k * 3 + 2, none⟩) hb2).trans g5
    have i0 : (0 : Int) ≤ (k : Int) := by omega
    have i1 : (k : Int) < (n : Int) := by omega
    have Hd := Lib.hid hd; have He := Lib.hid he
    clear hc1 hc2 g0 g1 g2 g3 g4 g5 hd he
    by_cases hde : d = e
    ·subst hde
     have Hs := Lib.hid (take_eq_succ HT.out Hd.out He.out)
     obtain ⟨⟨r, i⟩, s⟩ := d
     simp only at q0 q1 q2 q3 q4 q5
     go_wp2
     go_quiet (fail)
     go_wp2
     clear q0 q1 q2 q3 q4 q5
     go_roundw
     case rel => exact ⟨k + 1, by omega, by go_num, Hs.out, below_drewN HBel.out _⟩
     case measure => simp [intOf]; omega
    ·have hfin : decide (la = lb) = false := decide_eq_false fun g => hde (by have h1 := Hd.out; have h2 := He.out; rw [g, h2] at h1; exact (Option.some.inj h1).symm)
     have Hfin := Lib.hid hfin; clear hfin
     have hne := dot_ne hde
     obtain ⟨⟨r, i⟩, s⟩ := d
     obtain ⟨⟨r', i'⟩, s'⟩ := e
     simp only at q0 q1 q2 q3 q4 q5 hne
     clear hde
     rcases hne with h1 | ⟨rfl, h1⟩ | ⟨rfl, rfl, h1⟩
     ·have d1 : ((r : Int) == (r' : Int)) = false := by simp; omega
      clear h1
      go_wp2
      go_quiet (fail)
      go_wp2
      go_ret
      exact ⟨ret_bool Hfin.out.symm, below_drewN HBel.out _⟩
     ·have d1 : ((i : Int) == (i' : Int)) = false := by simp; omega
      clear h1
      go_wp2
      go_quiet (fail)
      go_wp2
      go_ret
      exact ⟨ret_bool Hfin.out.symm, below_drewN HBel.out _⟩
     ·have d1 : ((s : Int) == (s' : Int)) = false := by simp; omega
      clear h1
      go_wp2
      go_quiet (fail)
      go_wp2
      go_ret
      exact ⟨ret_bool Hfin.out.symm, below_drewN HBel.out _⟩
   ·have hfin : decide (la = lb) = true := decide_eq_true (by have := HT.out; rwa [List.take_of_length_le (by rw [HL.out]; omega), List.take_of_length_le (by rw [HM.out]; omega)] at this)
    have Hfin := Lib.hid hfin; clear hfin
    go_wp2
    go_ret
    exact ⟨ret_bool Hfin.out.symm, HBel.out⟩
 ·have hfin : decide (la = lb) = false := decide_eq_false fun g => hnm (by rw [← HL.out, ← HM.out, g])
  have Hfin := Lib.hid hfin; clear hfin
  have d1 : ((n : Int) == (m : Int)) = false := by simp; omega
  go_enter Tryz.func12, Tryz.ntmps12
  go_wp2
  go_ret
  exact ⟨ret_bool Hfin.out.symm, Below.refl _ _⟩
end Go.Proofs.YthbkieghkfpbhaaGreat
