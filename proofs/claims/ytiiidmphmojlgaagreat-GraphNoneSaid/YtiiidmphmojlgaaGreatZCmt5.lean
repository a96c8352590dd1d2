import Derived.Test.YtiiidmphmojlgaaGreatZIdx
import Derived.Test.YtiiidmphmojlgaaGreatZLeaf6
import Derived.Test.YtiiidmphmojlgaaGreatZOp3
namespace Go.Proofs.YtiiidmphmojlgaaGreat
open Go.RowKit Go.Buf Go.LB Go.Maps
set_option linter.unusedSimpArgs false
set_option linter.unusedVariables false
set_option maxRecDepth 100000 in
set_option maxHeartbeats 1600000 in
theorem equalV_any (a : Option Addr) (n cap : Nat) (la : List Dt.Dot) (c : Option Addr) (m capc : Nat) (lb : List Dt.Dot) (W : World) (hr : VRow W a cap la) (hl : la.length = n) (hs : VRow W c capc lb) (hm : lb.length = m) :
  Calls Tryz.prog 97 #[.slice a n cap, .slice c m capc] W fun e w' => e = .returned (.bool (decide (la = lb))) ∧ Below W.heap.size W w' := by
 have hle := hr.le
 have hcap := hr.cap
 rw [hl] at hle
 have HR := Lib.hid hr; have HL := Lib.hid hl; have HS := Lib.hid hs; have HM := Lib.hid hm
 clear hr hl hs hm
 by_cases hnm : n = m
 ·subst hnm
  go_enter Tryz.func97, Tryz.ntmps97
  go_wp2
  go_loopw [5, 13] (fun _ i wr => ∃ k : Nat, k ≤ n ∧ i = .int .i64 k ∧ la.take k = lb.take k ∧ Below W.heap.size W wr) (fun _ i _ => n - (intOf i).toNat)
  case atStart => exact ⟨0, Nat.zero_le _, rfl, rfl, Below.refl _ _⟩
  case round =>
   obtain ⟨k, hk, rfl, htk, hbel⟩ := hrel
   have HT := Lib.hid htk; have HBel := Lib.hid hbel; clear htk hbel
   by_cases hlt : k < n
   ·obtain ⟨d, hd⟩ := getD_some (l := la) (i := k) (by rw [HL.out]; exact hlt)
    obtain ⟨e, he⟩ := getD_some (l := lb) (i := k) (by rw [HM.out]; exact hlt)
    obtain ⟨b1, o1, rfl, hb1, hc1⟩ := HR.out.at (by rw [HL.out]; omega)
    obtain ⟨b2, o2, rfl, hb2, hc2⟩ := HS.out.at (by rw [HM.out]; omega)
    obtain ⟨g0, g1, g2⟩ := hc1 k d hd
    obtain ⟨g3, g4, g5⟩ := hc2 k e he
    have q0 := (HBel.out.cell (p := ⟨b1, o1 + k * 3, none⟩) hb1).trans g0
    have q1 := (HBel.out.cell (p := ⟨b1, o1 + k * 3 + 1, none⟩) hb1).trans g1
    have q2 := (HBel.out.cell (p := ⟨b1, o1 + k * 3 + 2, none⟩) hb1).trans g2
    have q3 := (HBel.out.cell (p := ⟨b2, o2 + k * 3, none⟩) hb2).trans g3
    have q4 := (HBel.out.cell (p := ⟨b2, o2 + k * 3 + 1, none⟩) hb2).trans g4
    have q5 := (HBel.out.cell (p := ⟨b2, o2 + k * 3 + 2, none⟩) hb2).trans g5
    have i0 : (0 : Int) ≤ (k : Int) := by omega
    have i1 : (k : Int) < (n : Int) := by omega
    have Hd := Lib.hid hd; have He := Lib.hid he
    clear hc1 hc2 g0 g1 g2 g3 g4 g5 hd he
    by_cases hde : d = e
    ·subst hde
     have Hs := Lib.hid (take_eq_succO HT.out Hd.out He.out)
     obtain ⟨⟨r, i⟩, s⟩ := d
     simp only at q0 q1 q2 q3 q4 q5
     go_wp2
     go_quiet (fail)
     go_wp2
     clear q0 q1 q2 q3 q4 q5
     go_roundw
     case rel => exact ⟨k + 1, by omega, by go_num, Hs.out, below_drewN HBel.out _⟩
     case measure => simp [intOf]; omega
    ·have hfin : decide (la = lb) = false := decide_eq_false fun g => hde (by have h1 := Hd.out; have h2 := He.out; rw [g, h2] at h1; exact (Option.some.inj h1).symm)
     have Hfin := Lib.hid hfin; clear hfin
     have hne := dot_neO hde
     obtain ⟨⟨r, i⟩, s⟩ := d
     obtain ⟨⟨r', i'⟩, s'⟩ := e
     simp only at q0 q1 q2 q3 q4 q5 hne
     clear hde
     rcases hne with h1 | ⟨rfl, h1⟩ | ⟨rfl, rfl, h1⟩
     ·have d1 : ((r : Int) == (r' : Int)) = false := by simp; omega
      clear h1
      go_wp2
      go_quiet (fail)
      go_wp2
      go_ret
      exact ⟨ret_bool Hfin.out.symm, below_drewN HBel.out _⟩
     ·have d1 : ((i : Int) == (i' : Int)) = false := by simp; omega
      clear h1
      go_wp2
      go_quiet (fail)
      go_wp2
      go_ret
      exact ⟨ret_bool Hfin.out.symm, below_drewN HBel.out _⟩
     ·have d1 : ((s : Int) == (s' : Int)) = false := by simp; omega
      clear h1
      go_wp2
      go_quiet (fail)
      go_wp2
      go_ret
      exact ⟨ret_bool Hfin.out.symm, below_drewN HBel.out _⟩
   ·have hfin : decide (la = lb) = true := decide_eq_true (by have := HT.out; rwa [List.take_of_length_le (by rw [HL.out]; omega), List.take_of_length_le (by rw [HM.out]; omega)] at this)
    have Hfin := Lib.hid hfin; clear hfin
    go_wp2
    go_ret
    exact ⟨ret_bool Hfin.out.symm, HBel.out⟩
 ·have hfin : decide (la = lb) = false := decide_eq_false fun g => hnm (by rw [← HL.out, ← HM.out, g])
  have Hfin := Lib.hid hfin; clear hfin
  have d1 : ((n : Int) == (m : Int)) = false := by simp; omega
  go_enter Tryz.func97, Tryz.ntmps97
  go_wp2
  go_ret
  exact ⟨ret_bool Hfin.out.symm, Below.refl _ _⟩
set_option maxRecDepth 100000 in
set_option maxHeartbeats 6400000 in
theorem mayHistory_any (r i s : Nat) (qa : Option Addr) (ql qc : Nat) (va : Option Addr) (vl vc : Nat) (tm k : Nat) (pa : Option Addr) (pl pc : Nat) (n : Int) (t : ByteArray) (da : Option Addr) (dl dc : Nat) (lq lv : List Dt.Dot) (lp : List ByteArray) (ld : List Dt.Dot) (W : World) (hq : VRow W qa qc lq) (hql : lq.length = ql) (hv : VRow W va vc lv) (hvl : lv.length = vl) (hp : SRow W pa pc lp) (hpl : lp.length = pl) (hd : VRow W da dc ld) (hdl : ld.length = dl) (hvn : vl ≤ 100000000) :
  Calls Tryz.prog 58 #[cmV r i s qa ql qc va vl vc tm k pa pl pc n t da dl dc] W fun e w' => e = .returned (.bool (Cm.mayHistory ⟨((r, i), s), lq, lv, tm, ⟨k, lp, n, t, ld⟩⟩)) ∧ Below W.heap.size W w' := by
 have HV := Lib.hid hv; have HVl := Lib.hid hvl
 obtain ⟨LC, hLC⟩ : ∃ LC, LC = Dt.canon lv := ⟨_, rfl⟩
 obtain ⟨mL, hLL⟩ : ∃ m, LC.length = m := ⟨_, rfl⟩
 have HBox := Lib.hid (below_box W #[.int .u8 (r : Int), .int .u32 (i : Int), .int .u64 (s : Int), .slice qa ql qc, .slice va vl vc, .int .u64 (tm : Int), .int .u8 (k : Int), .slice pa pl pc, .int .i64 n, .string t, .slice da dl dc] 34)
 have HLC := Lib.hid hLC; have HLL := Lib.hid hLL
 clear hq hql hv hvl hp hpl hd hdl hLC hLL
 cases heq : decide (lv = LC)
 ·have HEq := Lib.hid heq; clear heq
  go_enter Tryz.func58, Tryz.ntmps58
  go_wp2_with fail
  refine Reg.region_list (by kernel_rfl) [fun v _ => v = .pointer (some ⟨W.heap.size, 4, none⟩), fun v _ => v = .slice va vl vc, fun v _ => v = .pointer (some ⟨W.heap.size, 4, none⟩), fun v _ => v = .slice va vl vc, fun v w => ∃ a c, v = .slice a mL c ∧ VRow w a c LC, fun v _ => v = .bool false, fun v _ => v = .bool false, fun v _ => v = undef, fun v _ => v = undef, fun v _ => v = undef, fun v _ => v = undef, fun v _ => v = undef, fun v _ => v = undef, fun v _ => v = undef, fun v _ => v = undef, fun v _ => v = undef, fun v _ => v = undef, fun v _ => v = .bool false, fun v _ => v = .bool false] (by kernel_rfl) ?_ ?_ ?_
  ·refine ⟨k4, k4, k4, k4, (fun v wa wb hb h => by obtain ⟨a, c, h1, h2⟩ := h; exact ⟨a, c, h1, h2.below hb⟩), k4, k4, k4, k4, k4, k4, k4, k4, k4, k4, k4, k4, k4, k4, trivial⟩
  ·refine ⟨?_, ?_, ?_, ?_, ?_, ?_, ?_, ?_, ?_, ?_, ?_, ?_, ?_, ?_, ?_, ?_, ?_, ?_, ?_, trivial⟩
   ·intro ev w hc hf hg hfix hdep hbel
    have e1 : ev (.tmp 1) = _ := hfix 1 (by decide)
    exact okb trivial rfl (by go_simp)
   ·intro ev w hc hf hg hfix hdep hbel
    have e3 : ev (.tmp 3) = _ := hdep 0 (by decide)
    obtain ⟨hc0, hc1, hc2, hc3, hc4, hc5, hc6, hc7, hc8, hc9, hc10⟩ := cmcells (undrewB hbel)
    exact okb trivial rfl (by go_simp)
   ·intro ev w hc hf hg hfix hdep hbel
    have e1 : ev (.tmp 1) = _ := hfix 1 (by decide)
    exact okb trivial rfl (by go_simp)
   ·intro ev w hc hf hg hfix hdep hbel
    have e5 : ev (.tmp 5) = _ := hdep 2 (by decide)
    obtain ⟨hc0, hc1, hc2, hc3, hc4, hc5, hc6, hc7, hc8, hc9, hc10⟩ := cmcells (undrewB hbel)
    exact okb trivial rfl (by go_simp)
   ·intro ev w hc hf hg hfix hdep hbel
    have e6 : ev (.tmp 6) = _ := hdep 3 (by decide)
    refine Or.inl ⟨trivial, Or.inr ⟨33, #[.slice va vl vc], w, by go_simp, ?_⟩⟩
    refine (canon_any va vl vc lv w (HV.out.below (HBox.out.trans ((undrewB hbel).mono HBox.out.size))) HVl.out (by omega)).mono ?_
    rintro e w1 ⟨a, c, rfl, hr, hb⟩
    rw [← HLC.out] at hr
    exact ⟨_, rfl, ⟨a, c, by rw [← HLC.out, HLL.out], hr⟩, hb⟩
   ·intro ev w hc hf hg hfix hdep hbel
    have e4 : ev (.tmp 4) = _ := hdep 1 (by decide)
    have e7 := hdep 4 (by decide)
    obtain ⟨a, c, he, hr⟩ := e7
    have he' : ev (.tmp 7) = .slice a mL c := he
    refine Or.inl ⟨trivial, Or.inr ⟨97, #[.slice va vl vc, .slice a mL c], w, by go_simp, ?_⟩⟩
    refine (equalV_any va vl vc lv a mL c LC w (HV.out.below (HBox.out.trans ((undrewB hbel).mono HBox.out.size))) HVl.out hr HLL.out).mono ?_
    rintro e w1 ⟨rfl, hb⟩
    exact ⟨_, rfl, by rw [HEq.out], hb⟩
   ·intro ev w hc hf hg hfix hdep hbel
    have e8 : ev (.tmp 8) = _ := hdep 5 (by decide)
    exact okb trivial rfl (by go_simp)
   ·intro ev w hc hf hg hfix hdep hbel
    have fg : ev (.tmp 9) = _ := hdep 6 (by decide)
    exact Or.inr ⟨Or.inl fg, rfl⟩
   ·intro ev w hc hf hg hfix hdep hbel
    have fg : ev (.tmp 9) = _ := hdep 6 (by decide)
    exact Or.inr ⟨Or.inl fg, rfl⟩
   ·intro ev w hc hf hg hfix hdep hbel
    have fg : ev (.tmp 9) = _ := hdep 6 (by decide)
    exact Or.inr ⟨Or.inl fg, rfl⟩
   ·intro ev w hc hf hg hfix hdep hbel
    have fg : ev (.tmp 9) = _ := hdep 6 (by decide)
    exact Or.inr ⟨Or.inl fg, rfl⟩
   ·intro ev w hc hf hg hfix hdep hbel
    have fg : ev (.tmp 9) = _ := hdep 6 (by decide)
    exact Or.inr ⟨Or.inl fg, rfl⟩
   ·intro ev w hc hf hg hfix hdep hbel
    have fg : ev (.tmp 9) = _ := hdep 6 (by decide)
    exact Or.inr ⟨Or.inl fg, rfl⟩
   ·intro ev w hc hf hg hfix hdep hbel
    have fg : ev (.tmp 9) = _ := hdep 6 (by decide)
    exact Or.inr ⟨Or.inl fg, rfl⟩
   ·intro ev w hc hf hg hfix hdep hbel
    have fg : ev (.tmp 9) = _ := hdep 6 (by decide)
    exact Or.inr ⟨Or.inl fg, rfl⟩
   ·intro ev w hc hf hg hfix hdep hbel
    have fg : ev (.tmp 9) = _ := hdep 6 (by decide)
    exact Or.inr ⟨Or.inl fg, rfl⟩
   ·intro ev w hc hf hg hfix hdep hbel
    have fg : ev (.tmp 9) = _ := hdep 6 (by decide)
    exact Or.inr ⟨Or.inl fg, rfl⟩
   ·intro ev w hc hf hg hfix hdep hbel
    have e9 : ev (.tmp 9) = _ := hdep 6 (by decide)
    have e19 : ev (.tmp 19) = _ := hdep 16 (by decide)
    exact okb trivial rfl (by go_simp)
   ·intro ev w hc hf hg hfix hdep hbel
    have e20 : ev (.tmp 20) = _ := hdep 17 (by decide)
    exact okb trivial rfl (by go_simp)
  ·intro v w2 hv hb2
   have r0 : v 0 = _ := hv 0 (by decide)
   have r1 : v 1 = _ := hv 1 (by decide)
   have r2 : v 2 = _ := hv 2 (by decide)
   have r3 : v 3 = _ := hv 3 (by decide)
   have r4 := hv 4 (by decide)
   have r5 : v 5 = _ := hv 5 (by decide)
   have r6 : v 6 = _ := hv 6 (by decide)
   have r7 : v 7 = _ := hv 7 (by decide)
   have r8 : v 8 = _ := hv 8 (by decide)
   have r9 : v 9 = _ := hv 9 (by decide)
   have r10 : v 10 = _ := hv 10 (by decide)
   have r11 : v 11 = _ := hv 11 (by decide)
   have r12 : v 12 = _ := hv 12 (by decide)
   have r13 : v 13 = _ := hv 13 (by decide)
   have r14 : v 14 = _ := hv 14 (by decide)
   have r15 : v 15 = _ := hv 15 (by decide)
   have r16 : v 16 = _ := hv 16 (by decide)
   have r17 : v 17 = _ := hv 17 (by decide)
   have r18 : v 18 = _ := hv 18 (by decide)
   simp only [Reg.putAll, Act.put, List.setIfInBounds_toArray, List.set_cons_zero, List.set_cons_succ, r0, r1, r2, r3, r5, r6, r7, r8, r9, r10, r11, r12, r13, r14, r15, r16, r17, r18]
   clear r0 r1 r2 r3 r5 r6 r7 r8 r9 r10 r11 r12 r13 r14 r15 r16 r17 r18 hv
   have HB := Lib.hid (HBox.out.trans (hb2.mono HBox.out.size)); clear hb2
   go_wp2_with fail
   go_ret
   exact ⟨ret_bool (by have h := HEq.out; rw [HLC.out] at h; simp only [Cm.mayHistory, h, Bool.false_and]), HB.out⟩

 have HEq := Lib.hid heq; clear heq
 cases hg : ((Dt.get lv (r, i) : Int) == (s : Int))
 ·have HG := Lib.hid hg
  go_enter Tryz.func58, Tryz.ntmps58
  go_wp2_with fail
  refine Reg.region_list (by kernel_rfl) [fun v _ => v = .pointer (some ⟨W.heap.size, 4, none⟩), fun v _ => v = .slice va vl vc, fun v _ => v = .pointer (some ⟨W.heap.size, 4, none⟩), fun v _ => v = .slice va vl vc, fun v w => ∃ a c, v = .slice a mL c ∧ VRow w a c LC, fun v _ => v = .bool true, fun v _ => v = .bool true, fun v _ => v = .pointer (some ⟨W.heap.size, 4, none⟩), fun v _ => v = .slice va vl vc, fun v _ => v = .pointer (some ⟨W.heap.size, 0, none⟩), fun v _ => v = .pointer (some ⟨W.heap.size, 0, none⟩), fun v _ => v = .agg #[.int .u8 (r : Int), .int .u32 (i : Int)], fun v _ => v = .int .u64 (Dt.get lv (r, i) : Nat), fun v _ => v = .pointer (some ⟨W.heap.size, 0, none⟩), fun v _ => v = .pointer (some ⟨W.heap.size, 2, none⟩), fun v _ => v = .int .u64 (s : Int), fun v _ => v = .bool false, fun v _ => v = .bool false, fun v _ => v = .bool false] (by kernel_rfl) ?_ ?_ ?_
  ·refine ⟨k4, k4, k4, k4, (fun v wa wb hb h => by obtain ⟨a, c, h1, h2⟩ := h; exact ⟨a, c, h1, h2.below hb⟩), k4, k4, k4, k4, k4, k4, k4, k4, k4, k4, k4, k4, k4, k4, trivial⟩
  ·refine ⟨?_, ?_, ?_, ?_, ?_, ?_, ?_, ?_, ?_, ?_, ?_, ?_, ?_, ?_, ?_, ?_, ?_, ?_, ?_, trivial⟩
   ·intro ev w hc hf hg hfix hdep hbel
    have e1 : ev (.tmp 1) = _ := hfix 1 (by decide)
    exact okb trivial rfl (by go_simp)
   ·intro ev w hc hf hg hfix hdep hbel
    have e3 : ev (.tmp 3) = _ := hdep 0 (by decide)
    obtain ⟨hc0, hc1, hc2, hc3, hc4, hc5, hc6, hc7, hc8, hc9, hc10⟩ := cmcells (undrewB hbel)
    exact okb trivial rfl (by go_simp)
   ·intro ev w hc hf hg hfix hdep hbel
    have e1 : ev (.tmp 1) = _ := hfix 1 (by decide)
    exact okb trivial rfl (by go_simp)
   ·intro ev w hc hf hg hfix hdep hbel
    have e5 : ev (.tmp 5) = _ := hdep 2 (by decide)
    obtain ⟨hc0, hc1, hc2, hc3, hc4, hc5, hc6, hc7, hc8, hc9, hc10⟩ := cmcells (undrewB hbel)
    exact okb trivial rfl (by go_simp)
   ·intro ev w hc hf hg hfix hdep hbel
    have e6 : ev (.tmp 6) = _ := hdep 3 (by decide)
    refine Or.inl ⟨trivial, Or.inr ⟨33, #[.slice va vl vc], w, by go_simp, ?_⟩⟩
    refine (canon_any va vl vc lv w (HV.out.below (HBox.out.trans ((undrewB hbel).mono HBox.out.size))) HVl.out (by omega)).mono ?_
    rintro e w1 ⟨a, c, rfl, hr, hb⟩
    rw [← HLC.out] at hr
    exact ⟨_, rfl, ⟨a, c, by rw [← HLC.out, HLL.out], hr⟩, hb⟩
   ·intro ev w hc hf hg hfix hdep hbel
    have e4 : ev (.tmp 4) = _ := hdep 1 (by decide)
    have e7 := hdep 4 (by decide)
    obtain ⟨a, c, he, hr⟩ := e7
    have he' : ev (.tmp 7) = .slice a mL c := he
    refine Or.inl ⟨trivial, Or.inr ⟨97, #[.slice va vl vc, .slice a mL c], w, by go_simp, ?_⟩⟩
    refine (equalV_any va vl vc lv a mL c LC w (HV.out.below (HBox.out.trans ((undrewB hbel).mono HBox.out.size))) HVl.out hr HLL.out).mono ?_
    rintro e w1 ⟨rfl, hb⟩
    exact ⟨_, rfl, by rw [HEq.out], hb⟩
   ·intro ev w hc hf hg hfix hdep hbel
    have e8 : ev (.tmp 8) = _ := hdep 5 (by decide)
    exact okb trivial rfl (by go_simp)
   ·intro ev w hc hf hg hfix hdep hbel
    have fg : ev (.tmp 9) = _ := hdep 6 (by decide)
    have e1 : ev (.tmp 1) = _ := hfix 1 (by decide)
    exact okb fg rfl (by go_simp)
   ·intro ev w hc hf hg hfix hdep hbel
    have fg : ev (.tmp 9) = _ := hdep 6 (by decide)
    have e10 : ev (.tmp 10) = _ := hdep 7 (by decide)
    obtain ⟨hc0, hc1, hc2, hc3, hc4, hc5, hc6, hc7, hc8, hc9, hc10⟩ := cmcells (undrewB hbel)
    exact okb fg rfl (by go_simp)
   ·intro ev w hc hf hg hfix hdep hbel
    have fg : ev (.tmp 9) = _ := hdep 6 (by decide)
    have e1 : ev (.tmp 1) = _ := hfix 1 (by decide)
    exact okb fg rfl (by go_simp)
   ·intro ev w hc hf hg hfix hdep hbel
    have fg : ev (.tmp 9) = _ := hdep 6 (by decide)
    have e12 : ev (.tmp 12) = _ := hdep 9 (by decide)
    exact okb fg rfl (by go_simp)
   ·intro ev w hc hf hg hfix hdep hbel
    have fg : ev (.tmp 9) = _ := hdep 6 (by decide)
    have e13 : ev (.tmp 13) = _ := hdep 10 (by decide)
    obtain ⟨hc0, hc1, hc2, hc3, hc4, hc5, hc6, hc7, hc8, hc9, hc10⟩ := cmcells (undrewB hbel)
    exact okb fg rfl (by go_simp)
   ·intro ev w hc hf hg hfix hdep hbel
    have fg : ev (.tmp 9) = _ := hdep 6 (by decide)
    have e11 : ev (.tmp 11) = _ := hdep 8 (by decide)
    have e14 : ev (.tmp 14) = _ := hdep 11 (by decide)
    refine Or.inl ⟨fg, Or.inr ⟨43, #[.slice va vl vc, .agg #[.int .u8 (r : Int), .int .u32 (i : Int)]], w, by go_simp, ?_⟩⟩
    refine (get_any va vl vc r i lv w (HV.out.below (HBox.out.trans ((undrewB hbel).mono HBox.out.size))) HVl.out).mono ?_
    rintro e w1 ⟨rfl, hb⟩
    exact ⟨_, rfl, rfl, hb⟩
   ·intro ev w hc hf hg hfix hdep hbel
    have fg : ev (.tmp 9) = _ := hdep 6 (by decide)
    have e1 : ev (.tmp 1) = _ := hfix 1 (by decide)
    exact okb fg rfl (by go_simp)
   ·intro ev w hc hf hg hfix hdep hbel
    have fg : ev (.tmp 9) = _ := hdep 6 (by decide)
    have e16 : ev (.tmp 16) = _ := hdep 13 (by decide)
    exact okb fg rfl (by go_simp)
   ·intro ev w hc hf hg hfix hdep hbel
    have fg : ev (.tmp 9) = _ := hdep 6 (by decide)
    have e17 : ev (.tmp 17) = _ := hdep 14 (by decide)
    obtain ⟨hc0, hc1, hc2, hc3, hc4, hc5, hc6, hc7, hc8, hc9, hc10⟩ := cmcells (undrewB hbel)
    exact okb fg rfl (by go_simp)
   ·intro ev w hc hf hg hfix hdep hbel
    have fg : ev (.tmp 9) = _ := hdep 6 (by decide)
    have e15 : ev (.tmp 15) = _ := hdep 12 (by decide)
    have e18 : ev (.tmp 18) = _ := hdep 15 (by decide)
    exact okb fg rfl (by go_simp)
   ·intro ev w hc hf hg hfix hdep hbel
    have e9 : ev (.tmp 9) = _ := hdep 6 (by decide)
    have e19 : ev (.tmp 19) = _ := hdep 16 (by decide)
    exact okb trivial rfl (by go_simp)
   ·intro ev w hc hf hg hfix hdep hbel
    have e20 : ev (.tmp 20) = _ := hdep 17 (by decide)
    exact okb trivial rfl (by go_simp)
  ·intro v w2 hv hb2
   have r0 : v 0 = _ := hv 0 (by decide)
   have r1 : v 1 = _ := hv 1 (by decide)
   have r2 : v 2 = _ := hv 2 (by decide)
   have r3 : v 3 = _ := hv 3 (by decide)
   have r4 := hv 4 (by decide)
   have r5 : v 5 = _ := hv 5 (by decide)
   have r6 : v 6 = _ := hv 6 (by decide)
   have r7 : v 7 = _ := hv 7 (by decide)
   have r8 : v 8 = _ := hv 8 (by decide)
   have r9 : v 9 = _ := hv 9 (by decide)
   have r10 : v 10 = _ := hv 10 (by decide)
   have r11 : v 11 = _ := hv 11 (by decide)
   have r12 : v 12 = _ := hv 12 (by decide)
   have r13 : v 13 = _ := hv 13 (by decide)
   have r14 : v 14 = _ := hv 14 (by decide)
   have r15 : v 15 = _ := hv 15 (by decide)
   have r16 : v 16 = _ := hv 16 (by decide)
   have r17 : v 17 = _ := hv 17 (by decide)
   have r18 : v 18 = _ := hv 18 (by decide)
   simp only [Reg.putAll, Act.put, List.setIfInBounds_toArray, List.set_cons_zero, List.set_cons_succ, r0, r1, r2, r3, r5, r6, r7, r8, r9, r10, r11, r12, r13, r14, r15, r16, r17, r18]
   clear r0 r1 r2 r3 r5 r6 r7 r8 r9 r10 r11 r12 r13 r14 r15 r16 r17 r18 hv
   have HB := Lib.hid (HBox.out.trans (hb2.mono HBox.out.size)); clear hb2
   go_wp2_with fail
   go_ret
   exact ⟨ret_bool (by have h := HG.out; have g := HEq.out; rw [HLC.out] at g; simp only [Cm.mayHistory, g, Bool.true_and]; symm; rw [decide_eq_false_iff_not]; intro e; rw [e] at h; simp at h), HB.out⟩

 ·have HG := Lib.hid hg
  go_enter Tryz.func58, Tryz.ntmps58
  go_wp2_with fail
  refine Reg.region_list (by kernel_rfl) [fun v _ => v = .pointer (some ⟨W.heap.size, 4, none⟩), fun v _ => v = .slice va vl vc, fun v _ => v = .pointer (some ⟨W.heap.size, 4, none⟩), fun v _ => v = .slice va vl vc, fun v w => ∃ a c, v = .slice a mL c ∧ VRow w a c LC, fun v _ => v = .bool true, fun v _ => v = .bool true, fun v _ => v = .pointer (some ⟨W.heap.size, 4, none⟩), fun v _ => v = .slice va vl vc, fun v _ => v = .pointer (some ⟨W.heap.size, 0, none⟩), fun v _ => v = .pointer (some ⟨W.heap.size, 0, none⟩), fun v _ => v = .agg #[.int .u8 (r : Int), .int .u32 (i : Int)], fun v _ => v = .int .u64 (Dt.get lv (r, i) : Nat), fun v _ => v = .pointer (some ⟨W.heap.size, 0, none⟩), fun v _ => v = .pointer (some ⟨W.heap.size, 2, none⟩), fun v _ => v = .int .u64 (s : Int), fun v _ => v = .bool true, fun v _ => v = .bool true, fun v _ => v = .bool true] (by kernel_rfl) ?_ ?_ ?_
  ·refine ⟨k4, k4, k4, k4, (fun v wa wb hb h => by obtain ⟨a, c, h1, h2⟩ := h; exact ⟨a, c, h1, h2.below hb⟩), k4, k4, k4, k4, k4, k4, k4, k4, k4, k4, k4, k4, k4, k4, trivial⟩
  ·refine ⟨?_, ?_, ?_, ?_, ?_, ?_, ?_, ?_, ?_, ?_, ?_, ?_, ?_, ?_, ?_, ?_, ?_, ?_, ?_, trivial⟩
   ·intro ev w hc hf hg hfix hdep hbel
    have e1 : ev (.tmp 1) = _ := hfix 1 (by decide)
    exact okb trivial rfl (by go_simp)
   ·intro ev w hc hf hg hfix hdep hbel
    have e3 : ev (.tmp 3) = _ := hdep 0 (by decide)
    obtain ⟨hc0, hc1, hc2, hc3, hc4, hc5, hc6, hc7, hc8, hc9, hc10⟩ := cmcells (undrewB hbel)
    exact okb trivial rfl (by go_simp)
   ·intro ev w hc hf hg hfix hdep hbel
    have e1 : ev (.tmp 1) = _ := hfix 1 (by decide)
    exact okb trivial rfl (by go_simp)
   ·intro ev w hc hf hg hfix hdep hbel
    have e5 : ev (.tmp 5) = _ := hdep 2 (by decide)
    obtain ⟨hc0, hc1, hc2, hc3, hc4, hc5, hc6, hc7, hc8, hc9, hc10⟩ := cmcells (undrewB hbel)
    exact okb trivial rfl (by go_simp)
   ·intro ev w hc hf hg hfix hdep hbel
    have e6 : ev (.tmp 6) = _ := hdep 3 (by decide)
    refine Or.inl ⟨trivial, Or.inr ⟨33, #[.slice va vl vc], w, by go_simp, ?_⟩⟩
    refine (canon_any va vl vc lv w (HV.out.below (HBox.out.trans ((undrewB hbel).mono HBox.out.size))) HVl.out (by omega)).mono ?_
    rintro e w1 ⟨a, c, rfl, hr, hb⟩
    rw [← HLC.out] at hr
    exact ⟨_, rfl, ⟨a, c, by rw [← HLC.out, HLL.out], hr⟩, hb⟩
   ·intro ev w hc hf hg hfix hdep hbel
    have e4 : ev (.tmp 4) = _ := hdep 1 (by decide)
    have e7 := hdep 4 (by decide)
    obtain ⟨a, c, he, hr⟩ := e7
    have he' : ev (.tmp 7) = .slice a mL c := he
    refine Or.inl ⟨trivial, Or.inr ⟨97, #[.slice va vl vc, .slice a mL c], w, by go_simp, ?_⟩⟩
    refine (equalV_any va vl vc lv a mL c LC w (HV.out.below (HBox.out.trans ((undrewB hbel).mono HBox.out.size))) HVl.out hr HLL.out).mono ?_
    rintro e w1 ⟨rfl, hb⟩
    exact ⟨_, rfl, by rw [HEq.out], hb⟩
   ·intro ev w hc hf hg hfix hdep hbel
    have e8 : ev (.tmp 8) = _ := hdep 5 (by decide)
    exact okb trivial rfl (by go_simp)
   ·intro ev w hc hf hg hfix hdep hbel
    have fg : ev (.tmp 9) = _ := hdep 6 (by decide)
    have e1 : ev (.tmp 1) = _ := hfix 1 (by decide)
    exact okb fg rfl (by go_simp)
   ·intro ev w hc hf hg hfix hdep hbel
    have fg : ev (.tmp 9) = _ := hdep 6 (by decide)
    have e10 : ev (.tmp 10) = _ := hdep 7 (by decide)
    obtain ⟨hc0, hc1, hc2, hc3, hc4, hc5, hc6, hc7, hc8, hc9, hc10⟩ := cmcells (undrewB hbel)
    exact okb fg rfl (by go_simp)
   ·intro ev w hc hf hg hfix hdep hbel
    have fg : ev (.tmp 9) = _ := hdep 6 (by decide)
    have e1 : ev (.tmp 1) = _ := hfix 1 (by decide)
    exact okb fg rfl (by go_simp)
   ·intro ev w hc hf hg hfix hdep hbel
    have fg : ev (.tmp 9) = _ := hdep 6 (by decide)
    have e12 : ev (.tmp 12) = _ := hdep 9 (by decide)
    exact okb fg rfl (by go_simp)
   ·intro ev w hc hf hg hfix hdep hbel
    have fg : ev (.tmp 9) = _ := hdep 6 (by decide)
    have e13 : ev (.tmp 13) = _ := hdep 10 (by decide)
    obtain ⟨hc0, hc1, hc2, hc3, hc4, hc5, hc6, hc7, hc8, hc9, hc10⟩ := cmcells (undrewB hbel)
    exact okb fg rfl (by go_simp)
   ·intro ev w hc hf hg hfix hdep hbel
    have fg : ev (.tmp 9) = _ := hdep 6 (by decide)
    have e11 : ev (.tmp 11) = _ := hdep 8 (by decide)
    have e14 : ev (.tmp 14) = _ := hdep 11 (by decide)
    refine Or.inl ⟨fg, Or.inr ⟨43, #[.slice va vl vc, .agg #[.int .u8 (r : Int), .int .u32 (i : Int)]], w, by go_simp, ?_⟩⟩
    refine (get_any va vl vc r i lv w (HV.out.below (HBox.out.trans ((undrewB hbel).mono HBox.out.size))) HVl.out).mono ?_
    rintro e w1 ⟨rfl, hb⟩
    exact ⟨_, rfl, rfl, hb⟩
   ·intro ev w hc hf hg hfix hdep hbel
    have fg : ev (.tmp 9) = _ := hdep 6 (by decide)
    have e1 : ev (.tmp 1) = _ := hfix 1 (by decide)
    exact okb fg rfl (by go_simp)
   ·intro ev w hc hf hg hfix hdep hbel
    have fg : ev (.tmp 9) = _ := hdep 6 (by decide)
    have e16 : ev (.tmp 16) = _ := hdep 13 (by decide)
    exact okb fg rfl (by go_simp)
   ·intro ev w hc hf hg hfix hdep hbel
    have fg : ev (.tmp 9) = _ := hdep 6 (by decide)
    have e17 : ev (.tmp 17) = _ := hdep 14 (by decide)
    obtain ⟨hc0, hc1, hc2, hc3, hc4, hc5, hc6, hc7, hc8, hc9, hc10⟩ := cmcells (undrewB hbel)
    exact okb fg rfl (by go_simp)
   ·intro ev w hc hf hg hfix hdep hbel
    have fg : ev (.tmp 9) = _ := hdep 6 (by decide)
    have e15 : ev (.tmp 15) = _ := hdep 12 (by decide)
    have e18 : ev (.tmp 18) = _ := hdep 15 (by decide)
    exact okb fg rfl (by go_simp)
   ·intro ev w hc hf hg hfix hdep hbel
    have e9 : ev (.tmp 9) = _ := hdep 6 (by decide)
    have e19 : ev (.tmp 19) = _ := hdep 16 (by decide)
    exact okb trivial rfl (by go_simp)
   ·intro ev w hc hf hg hfix hdep hbel
    have e20 : ev (.tmp 20) = _ := hdep 17 (by decide)
    exact okb trivial rfl (by go_simp)
  ·intro v w2 hv hb2
   have r0 : v 0 = _ := hv 0 (by decide)
   have r1 : v 1 = _ := hv 1 (by decide)
   have r2 : v 2 = _ := hv 2 (by decide)
   have r3 : v 3 = _ := hv 3 (by decide)
   have r4 := hv 4 (by decide)
   have r5 : v 5 = _ := hv 5 (by decide)
   have r6 : v 6 = _ := hv 6 (by decide)
   have r7 : v 7 = _ := hv 7 (by decide)
   have r8 : v 8 = _ := hv 8 (by decide)
   have r9 : v 9 = _ := hv 9 (by decide)
   have r10 : v 10 = _ := hv 10 (by decide)
   have r11 : v 11 = _ := hv 11 (by decide)
   have r12 : v 12 = _ := hv 12 (by decide)
   have r13 : v 13 = _ := hv 13 (by decide)
   have r14 : v 14 = _ := hv 14 (by decide)
   have r15 : v 15 = _ := hv 15 (by decide)
   have r16 : v 16 = _ := hv 16 (by decide)
   have r17 : v 17 = _ := hv 17 (by decide)
   have r18 : v 18 = _ := hv 18 (by decide)
   simp only [Reg.putAll, Act.put, List.setIfInBounds_toArray, List.set_cons_zero, List.set_cons_succ, r0, r1, r2, r3, r5, r6, r7, r8, r9, r10, r11, r12, r13, r14, r15, r16, r17, r18]
   clear r0 r1 r2 r3 r5 r6 r7 r8 r9 r10 r11 r12 r13 r14 r15 r16 r17 r18 hv
   have HB := Lib.hid (HBox.out.trans (hb2.mono HBox.out.size)); clear hb2
   go_wp2_with fail
   go_ret
   exact ⟨ret_bool (by have h := HG.out; have g := HEq.out; rw [HLC.out] at g; simp only [Cm.mayHistory, g, Bool.true_and]; symm; rw [decide_eq_true_eq]; have := beq_iff_eq.1 h; omega), HB.out⟩

set_option maxRecDepth 100000 in
set_option maxHeartbeats 3200000 in
theorem cmay_any (r i s : Nat) (qa : Option Addr) (ql qc : Nat) (va : Option Addr) (vl vc : Nat) (tm k : Nat) (pa : Option Addr) (pl pc : Nat) (n : Int) (t : ByteArray) (da : Option Addr) (dl dc : Nat) (lq lv : List Dt.Dot) (lp : List ByteArray) (ld : List Dt.Dot) (W : World) (hq : VRow W qa qc lq) (hql : lq.length = ql) (hv : VRow W va vc lv) (hvl : lv.length = vl) (hp : SRow W pa pc lp) (hpl : lp.length = pl) (hd : VRow W da dc ld) (hdl : ld.length = dl) (hk : k < 256) (hpn : pl ≤ 1000000000) (hdn : dl ≤ 1000000000) (hvn : vl ≤ 100000000) :
  Calls Tryz.prog 39 #[cmV r i s qa ql qc va vl vc tm k pa pl pc n t da dl dc] W fun e w' => e = .returned (.bool (Cm.may ⟨((r, i), s), lq, lv, tm, ⟨k, lp, n, t, ld⟩⟩)) ∧ Below W.heap.size W w' := by
 have HQ := Lib.hid hq; have HQl := Lib.hid hql; have HV := Lib.hid hv; have HVl := Lib.hid hvl; have HP := Lib.hid hp; have HPl := Lib.hid hpl; have HD := Lib.hid hd; have HDl := Lib.hid hdl
 have HBox := Lib.hid (below_box W #[.int .u8 (r : Int), .int .u32 (i : Int), .int .u64 (s : Int), .slice qa ql qc, .slice va vl vc, .int .u64 (tm : Int), .int .u8 (k : Int), .slice pa pl pc, .int .i64 n, .string t, .slice da dl dc] 34)
 clear hq hql hv hvl hp hpl hd hdl
 go_enter Tryz.func39, Tryz.ntmps39
 go_wp2_with fail
 refine (event_any r i s qa ql qc va vl vc tm k pa pl pc n t da dl dc lq lv lp ld _ (HQ.out.below HBox.out) HQl.out (HV.out.below HBox.out) HVl.out (HP.out.below HBox.out) HPl.out (HD.out.below HBox.out) HDl.out hpn hdn).mono ?_
 rintro e w1 ⟨pa', pc', da', dc', rfl, hp', hd', hb⟩
 have HB1 := Lib.hid (HBox.out.trans (hb.mono HBox.out.size)); have HX1 := Lib.hid hb; have HP' := Lib.hid hp'; have HD' := Lib.hid hd'; clear hb hp' hd'
 go_wp2_with fail
 refine (mayEvent_any r i s tm k hk pa' pl pc' n t da' dl dc' lp ld _ HP'.out HPl.out HD'.out HDl.out).mono ?_
 rintro e w2 ⟨rfl, hb⟩
 have HX2 := Lib.hid (HX1.out.trans (hb.mono HX1.out.size)); have HB2 := Lib.hid (HB1.out.trans (hb.mono HB1.out.size)); clear hb
 obtain ⟨hc0, hc1, hc2, hc3, hc4, hc5, hc6, hc7, hc8, hc9, hc10⟩ := cmcells HX2.out
 cases h1 : Om.mayEvent ⟨((r, i), s), tm, ⟨k, lp, n, t, ld⟩⟩
 ·have H1 := Lib.hid h1; clear h1
  go_wp2_with fail
  go_ret
  exact ⟨ret_bool (by have h := H1.out; simp only [Cm.may, Cm.event, h, Bool.false_and]), HB2.out⟩
 have H1 := Lib.hid h1; clear h1
 go_wp2_with fail
 refine (mayHistory_any r i s qa ql qc va vl vc tm k pa pl pc n t da dl dc lq lv lp ld _ (HQ.out.below HB2.out) HQl.out (HV.out.below HB2.out) HVl.out (HP.out.below HB2.out) HPl.out (HD.out.below HB2.out) HDl.out hvn).mono ?_
 rintro e w3 ⟨rfl, hb⟩
 clear hc0 hc1 hc2 hc3 hc4 hc5 hc6 hc7 hc8 hc9 hc10
 have HX3 := Lib.hid (HX2.out.trans (hb.mono HX2.out.size)); have HB3 := Lib.hid (HB2.out.trans (hb.mono HB2.out.size)); clear hb
 obtain ⟨hc0, hc1, hc2, hc3, hc4, hc5, hc6, hc7, hc8, hc9, hc10⟩ := cmcells HX3.out
 cases h2 : Cm.mayHistory ⟨((r, i), s), lq, lv, tm, ⟨k, lp, n, t, ld⟩⟩
 ·have H2 := Lib.hid h2; clear h2
  go_wp2_with fail
  go_ret
  exact ⟨ret_bool (by have h := H2.out; simp only [Cm.may, h, Bool.and_false, Bool.false_and]), HB3.out⟩
 have H2 := Lib.hid h2; clear h2
 go_wp2_with fail
 refine (mayParents_any r i s qa ql qc va vl vc tm k pa pl pc n t da dl dc lq lv lp ld _ (HQ.out.below HB3.out) HQl.out (HV.out.below HB3.out) HVl.out (HP.out.below HB3.out) HPl.out (HD.out.below HB3.out) HDl.out).mono ?_
 rintro e w4 ⟨rfl, hb⟩
 clear hc0 hc1 hc2 hc3 hc4 hc5 hc6 hc7 hc8 hc9 hc10
 have HX4 := Lib.hid (HX3.out.trans (hb.mono HX3.out.size)); have HB4 := Lib.hid (HB3.out.trans (hb.mono HB3.out.size)); clear hb
 obtain ⟨hc0, hc1, hc2, hc3, hc4, hc5, hc6, hc7, hc8, hc9, hc10⟩ := cmcells HX4.out
 cases h3 : Cm.mayParents ⟨((r, i), s), lq, lv, tm, ⟨k, lp, n, t, ld⟩⟩
 ·have H3 := Lib.hid h3; clear h3
  go_wp2_with fail
  go_ret
  exact ⟨ret_bool (by have h := H3.out; simp only [Cm.may, h, Bool.and_false, Bool.false_and]), HB4.out⟩
 have H3 := Lib.hid h3; clear h3
 go_wp2_with fail
 refine (isBehind_any r i s qa ql qc va vl vc tm k pa pl pc n t da dl dc lq lv lp ld _ (HQ.out.below HB4.out) HQl.out (HV.out.below HB4.out) HVl.out (HP.out.below HB4.out) HPl.out (HD.out.below HB4.out) HDl.out da dl dc ld (HD.out.below HB4.out) HDl.out).mono ?_
 rintro e w5 ⟨rfl, hb⟩
 have HB5 := Lib.hid (HB4.out.trans (hb.mono HB4.out.size)); clear hb
 go_wp2_with fail
 go_ret
 exact ⟨ret_bool (by have g1 := H1.out; have g2 := H2.out; have g3 := H3.out; simp only [Cm.may, Cm.event, g1, g2, g3, Bool.true_and]), HB5.out⟩
end Go.Proofs.YtiiidmphmojlgaaGreat
