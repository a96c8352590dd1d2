import Derived.Test.YtplafpchgfjomaaZTree2
import Derived.Test.YtplafpchgfjomaaZCode8
namespace Go.Proofs.Ytplafpchgfjomaa
open Go.RowKit Go.Buf Go.LB
set_option linter.unusedSimpArgs false
set_option linter.unusedVariables false
set_option maxRecDepth 100000 in
set_option maxHeartbeats 6400000 in
theorem mayNode_of (f : List Tm.N → Bool) (m : Nat) (nm : ByteArray) (ls : List Lm.L) (bs : List Tm.N) (la : Option Addr) (lc : Nat) (ba : Option Addr) (bc : Nat) (W : World) (hok : nm.size ≤ 100000000 ∧ ls.length ≤ 100000000 ∧ bs.length ≤ 100000000) (hls : LRow W la lc ls)
  (hbs : ∀ w, Below W.heap.size W w → Calls Try.prog 18 #[.slice ba bs.length bc, .int .i64 (m : Int)] w fun e w' => e = .returned (.bool (f bs)) ∧ Below w.heap.size w w') (hm : m ≤ 1000) :
  Calls Try.prog 24 #[.agg #[.string nm, .slice la ls.length lc, .slice ba bs.length bc], .int .i64 ((m + 1 : Nat) : Int)] W fun e w' => e = .returned (.bool (Tm.mayNode f (.mk nm ls bs))) ∧ Below W.heap.size W w' := by
 have h1 : wrap64 ((ls.length : Int) + (bs.length : Int)) = ((ls.length + bs.length : Nat) : Int) := by rw [Int.natCast_add]; exact IntWalk.wrap64_in _ (by omega)
 have h2 : wrap64 (((m + 1 : Nat) : Int) - 1) = (m : Int) := by rw [show ((m + 1 : Nat) : Int) - 1 = (m : Int) by omega]; exact IntWalk.wrap64_in _ (by omega)
 have HLs := Lib.hid hls; have HBs := Lib.hid hbs; have HOk := Lib.hid hok
 have HBox := Lib.hid (below_box W #[.string nm, .slice la ls.length lc, .slice ba bs.length bc] 47)
 have HBk := Lib.hid (Blk.new W #[.string nm, .slice la ls.length lc, .slice ba bs.length bc] 47)
 have hemp : (!ls.isEmpty || !bs.isEmpty) = decide (0 < ls.length + bs.length) := by cases ls <;> cases bs <;> simp <;> omega
 have HEmp := Lib.hid hemp
 clear hls hbs hok hemp
 have hp0 : nm.size ≤ 9223372036854775807 := Nat.le_trans HOk.out.1 (by omega)
 go_enter Try.func24, Try.ntmps24
 go_wp2_with fail
 refine (isName_any nm hp0 _).mono ?_
 rintro e w1 ⟨rfl, rfl⟩
 cases hn : Om.isName nm
 ·have HN := Lib.hid hn; clear hn
  go_wp2_with fail
  go_ret
  exact ⟨ret_bool (by simp [Tm.mayNode, HN.out]), HBox.out⟩
 ·have HN := Lib.hid hn; clear hn
  by_cases hz : 0 < ls.length + bs.length
  ·have hz2 : (0 : Int) < ((ls.length + bs.length : Nat) : Int) := by omega
   have HZ := Lib.hid hz
   go_wp2_with fail
   refine (mayLeaves_any la ls.length lc ls _ (HLs.out.below HBox.out) rfl).mono ?_
   rintro e w2 ⟨rfl, hb⟩
   have HB2 := Lib.hid (HBox.out.trans (hb.mono HBox.out.size))
   have hk := HBk.out.below hb
   have c0 := hk.cell 0; have c1 := hk.cell 1; have c2 := hk.cell 2
   simp only [List.getElem?_cons_succ, List.getElem?_cons_zero] at c0 c1 c2
   clear hb hk hz hz2
   cases hl : Tm.mayLeaves ls
   ·have HL := Lib.hid hl; clear hl
    go_wp2_with fail
    go_ret
    exact ⟨ret_bool (by simp [Tm.mayNode, HL.out]), HB2.out⟩
   ·have HL := Lib.hid hl; clear hl
    go_wp2_with fail
    refine (HBs.out _ HB2.out).mono ?_
    rintro e w3 ⟨rfl, hb⟩
    have HB3 := Lib.hid (HB2.out.trans (hb.mono HB2.out.size)); clear hb
    go_wp2_with fail
    go_ret
    exact ⟨ret_bool (by simp only [Tm.mayNode, Tm.N.name_mk, Tm.N.leaves_mk, Tm.N.under_mk, HN.out, HL.out, HEmp.out, decide_eq_true HZ.out, Bool.true_and]), HB3.out⟩
  ·have hz2 : ¬ (0 : Int) < ((ls.length + bs.length : Nat) : Int) := by omega
   have HZ := Lib.hid hz; clear hz
   go_wp2_with fail
   go_ret
   exact ⟨ret_bool (by simp only [Tm.mayNode, Tm.N.name_mk, Tm.N.leaves_mk, Tm.N.under_mk, HEmp.out, decide_eq_false HZ.out, Bool.and_false, Bool.false_and]), HBox.out⟩
set_option maxRecDepth 100000 in
set_option maxHeartbeats 6400000 in
theorem mayBelow_any : ∀ (m : Nat), m ≤ 1000 → ∀ (d : Nat) (a : Option Addr) (n cap : Nat) (l : List Tm.N) (W : World), TRow W d a cap l → l.length = n →
  Calls Try.prog 18 #[.slice a n cap, .int .i64 (m : Int)] W fun e w' => e = .returned (.bool (Tm.may strLt m l)) ∧ Below W.heap.size W w'
 | 0, _, d, a, n, cap, l, W, hr, hl => by
  by_cases h0 : 0 < n
  ·have h1 : (0 : Int) < (n : Int) := by omega
   have hne : l.isEmpty = false := by cases l with
    | nil => simp at hl; omega
    | cons => rfl
   clear hr hl
   go_enter Try.func18, Try.ntmps18
   go_wp2_with fail
   go_ret
   exact ⟨ret_bool (by simp [Tm.may, hne]), Below.refl _ _⟩
  ·obtain rfl : n = 0 := by omega
   obtain rfl : l = [] := List.eq_nil_of_length_eq_zero hl
   clear hr hl h0
   go_enter Try.func18, Try.ntmps18
   go_wp2_with fail
   go_loopw [5, 6, 16] (fun _ _ i wr => i = .int .i64 0 ∧ wr = W) (fun _ _ _ _ => 0)
   case atStart => exact ⟨rfl, rfl⟩
   case round =>
    obtain ⟨rfl, rfl⟩ := hrel
    go_wp2_with fail
    go_ret
    exact ⟨rfl, Below.refl _ _⟩
 | m + 1, hm, d, a, n, cap, l, W, hr, hl => by
  by_cases h0 : 0 < n
  case neg =>
   obtain rfl : n = 0 := by omega
   obtain rfl : l = [] := List.eq_nil_of_length_eq_zero hl
   clear hr hl h0
   go_enter Try.func18, Try.ntmps18
   go_wp2_with fail
   go_loopw [5, 6, 16] (fun _ _ i wr => i = .int .i64 0 ∧ wr = W) (fun _ _ _ _ => 0)
   case atStart => exact ⟨rfl, rfl⟩
   case round =>
    obtain ⟨rfl, rfl⟩ := hrel
    go_wp2_with fail
    go_ret
    exact ⟨rfl, Below.refl _ _⟩
  have IH := Lib.hid (mayBelow_any m (by omega))
  have hle := hr.le
  have hcap := hr.cap
  rw [hl] at hle
  have HR := Lib.hid hr; have HL := Lib.hid hl
  have hm1 : ¬ (((m + 1 : Nat) : Int) = 0) := by omega
  have hm2 : ((((m + 1 : Nat) : Int)) == 0) = false := by simpa using hm1
  clear hr hl
  have hn0 : (0 : Int) < (n : Int) := by omega
  go_enter Try.func18, Try.ntmps18
  all_goals
  ·go_wp2_with fail
   go_loopw [5, 6, 16] (fun _ _ i wr => ∃ k : Nat, k ≤ n ∧ i = .int .i64 k ∧ Om.upTo (Tm.nodeAt strLt (Tm.may strLt m) l) k = true ∧ Below W.heap.size W wr) (fun _ _ i _ => n - (intOf i).toNat)
   case atStart => exact ⟨0, Nat.zero_le _, rfl, Om.upTo_zero _, Below.refl _ _⟩
   case round =>
    obtain ⟨k, hk, rfl, hu, hbel⟩ := hrel
    have HU := Lib.hid hu; have HBel := Lib.hid hbel; clear hu hbel
    by_cases hlt : k < n
    ·obtain ⟨x, hd⟩ := someN (l := l) (i := k) (by rw [HL.out]; exact hlt)
     obtain ⟨d2, blk, off, rfl, rfl, hblk, hcells⟩ := HR.out.at (by rw [HL.out]; omega)
     obtain ⟨hok, la, lc, ba, bc, ⟨g0, g1, g2⟩, hls, hbs⟩ := hcells k x hd
     have q0 := (HBel.out.cell (p := ⟨blk, off + k * 3, none⟩) hblk).trans g0
     have q1 := (HBel.out.cell (p := ⟨blk, off + k * 3 + 1, none⟩) hblk).trans g1
     have q2 := (HBel.out.cell (p := ⟨blk, off + k * 3 + 2, none⟩) hblk).trans g2
     have HD := Lib.hid hd; have HCs := Lib.hid hcells; have hsz := HBel.out.size
     obtain ⟨nm, ls, bs⟩ := x
     simp only [Tm.N.name_mk, Tm.N.leaves_mk, Tm.N.under_mk] at q0 q1 q2 hok hls hbs
     have HLs := Lib.hid hls; have HBs := Lib.hid hbs; have HOk := Lib.hid hok
     have i0 : (0 : Int) ≤ (k : Int) := by omega
     have i1 : (k : Int) < (n : Int) := by omega
     clear hcells g0 g1 g2 hd hok hls hbs
     by_cases hk0 : k = 0
     ·subst hk0
      simp only [Nat.zero_mul, Nat.add_zero] at q0 q1 q2
      cases hmy : Tm.mayNode (Tm.may strLt m) (.mk nm ls bs)
      all_goals have HMy := Lib.hid hmy; have HX := Lib.hid ((Tm.nodeAt_zero (lt := strLt) HD.out).trans hmy); clear hmy
      ·skip
       have hC : ∀ w2, Below (wr.alloc (.cells #[.string nm, .slice la ls.length lc, .slice ba bs.length bc] 47)).drew.heap.size (wr.alloc (.cells #[.string nm, .slice la ls.length lc, .slice ba bs.length bc] 47)).drew w2 → w2.cell? ⟨wr.heap.size, 0, none⟩ = some (.string nm) ∧ w2.cell? ⟨wr.heap.size, 1, none⟩ = some (.slice la ls.length lc) ∧ w2.cell? ⟨wr.heap.size, 2, none⟩ = some (.slice ba bs.length bc) := fun w2 h =>
        ⟨(h.cell (p := ⟨wr.heap.size, 0, none⟩) (by simp)).trans (by simp), (h.cell (p := ⟨wr.heap.size, 1, none⟩) (by simp)).trans (by simp), (h.cell (p := ⟨wr.heap.size, 2, none⟩) (by simp)).trans (by simp)⟩
       have HC := Lib.hid hC; clear hC
       go_wp2_with fail
       refine Reg.region_list (by kernel_rfl) [fun v _ => v = .int .i64 ((0 : Nat) : Int), fun v _ => v = .bool false, fun v _ => v = .bool false, fun v _ => v = undef, fun v _ => v = undef, fun v _ => v = undef, fun v _ => v = undef, fun v _ => v = undef, fun v _ => v = undef, fun v _ => v = undef, fun v _ => v = undef, fun v _ => v = undef, fun v _ => v = .bool false, fun v _ => v = .bool false, fun v _ => v = .agg #[.string nm, .slice la ls.length lc, .slice ba bs.length bc], fun v _ => v = .int .i64 ((m + 1 : Nat) : Int), fun v _ => v = .bool false, fun v _ => v = .bool true, fun v _ => v = .bool true] (by kernel_rfl) ?_ ?_ ?_
       ·refine ⟨k4, k4, k4, k4, k4, k4, k4, k4, k4, k4, k4, k4, k4, k4, k4, k4, k4, k4, k4, trivial⟩
       ·refine ⟨?_, ?_, ?_, ?_, ?_, ?_, ?_, ?_, ?_, ?_, ?_, ?_, ?_, ?_, ?_, ?_, ?_, ?_, ?_, trivial⟩
        ·intro ev w hc hf hg hfix hdep hbel
         have e5 : ev (.tmp 5) = _ := hfix 5 (by decide)
         exact okb trivial rfl (by go_simp)
        ·intro ev w hc hf hg hfix hdep hbel
         have e21 : ev (.tmp 21) = _ := hdep 0 (by decide)
         exact okb trivial rfl (by go_simp)
        ·intro ev w hc hf hg hfix hdep hbel
         have e22 : ev (.tmp 22) = _ := hdep 1 (by decide)
         exact okb trivial rfl (by go_simp)
        ·intro ev w hc hf hg hfix hdep hbel
         have fg : ev (.tmp 23) = _ := hdep 2 (by decide)
         exact Or.inr ⟨Or.inl fg, rfl⟩
        ·intro ev w hc hf hg hfix hdep hbel
         have fg : ev (.tmp 23) = _ := hdep 2 (by decide)
         exact Or.inr ⟨Or.inl fg, rfl⟩
        ·intro ev w hc hf hg hfix hdep hbel
         have fg : ev (.tmp 23) = _ := hdep 2 (by decide)
         exact Or.inr ⟨Or.inl fg, rfl⟩
        ·intro ev w hc hf hg hfix hdep hbel
         have fg : ev (.tmp 23) = _ := hdep 2 (by decide)
         exact Or.inr ⟨Or.inl fg, rfl⟩
        ·intro ev w hc hf hg hfix hdep hbel
         have fg : ev (.tmp 23) = _ := hdep 2 (by decide)
         exact Or.inr ⟨Or.inl fg, rfl⟩
        ·intro ev w hc hf hg hfix hdep hbel
         have fg : ev (.tmp 23) = _ := hdep 2 (by decide)
         exact Or.inr ⟨Or.inl fg, rfl⟩
        ·intro ev w hc hf hg hfix hdep hbel
         have fg : ev (.tmp 23) = _ := hdep 2 (by decide)
         exact Or.inr ⟨Or.inl fg, rfl⟩
        ·intro ev w hc hf hg hfix hdep hbel
         have fg : ev (.tmp 23) = _ := hdep 2 (by decide)
         exact Or.inr ⟨Or.inl fg, rfl⟩
        ·intro ev w hc hf hg hfix hdep hbel
         have fg : ev (.tmp 23) = _ := hdep 2 (by decide)
         exact Or.inr ⟨Or.inl fg, rfl⟩
        ·intro ev w hc hf hg hfix hdep hbel
         have e23 : ev (.tmp 23) = _ := hdep 2 (by decide)
         have e32 : ev (.tmp 32) = _ := hdep 11 (by decide)
         exact okb trivial rfl (by go_simp)
        ·intro ev w hc hf hg hfix hdep hbel
         have e33 : ev (.tmp 33) = _ := hdep 12 (by decide)
         exact okb trivial rfl (by go_simp)
        ·intro ev w hc hf hg hfix hdep hbel
         have fg : ev (.tmp 34) = _ := hdep 13 (by decide)
         have e6 : ev (.tmp 6) = _ := hfix 6 (by decide)
         obtain ⟨hc0, hc1, hc2⟩ := HC.out w hbel
         exact okb fg rfl (by go_simp)
        ·intro ev w hc hf hg hfix hdep hbel
         have fg : ev (.tmp 34) = _ := hdep 13 (by decide)
         have e1 : ev (.tmp 1) = _ := hfix 1 (by decide)
         exact okb fg rfl (by go_simp)
        ·intro ev w hc hf hg hfix hdep hbel
         have fg : ev (.tmp 34) = _ := hdep 13 (by decide)
         have e35 : ev (.tmp 35) = _ := hdep 14 (by decide)
         have e36 : ev (.tmp 36) = _ := hdep 15 (by decide)
         refine Or.inl ⟨fg, Or.inr ⟨24, #[.agg #[.string nm, .slice la ls.length lc, .slice ba bs.length bc], .int .i64 ((m + 1 : Nat) : Int)], w, by go_simp, ?_⟩⟩
         have hw : Below W.heap.size W w := HBel.out.trans ((((Below.refl _ _).alloc (Nat.le_refl _) _).trans ((undrewX hbel).mono (by simp))).mono HBel.out.size)
         refine (mayNode_of (Tm.may strLt m) m nm ls bs la lc ba bc w HOk.out (HLs.out.below hw) (fun w2 h2 => IH.out d2 ba bs.length bc bs w2 (TRow.below (hw.trans (h2.mono hw.size)) HBs.out) rfl) (by omega)).mono ?_
         rintro e w1 ⟨rfl, hb1⟩
         exact ⟨_, rfl, by rw [HMy.out], hb1⟩
        ·intro ev w hc hf hg hfix hdep hbel
         have fg : ev (.tmp 34) = _ := hdep 13 (by decide)
         have e37 : ev (.tmp 37) = _ := hdep 16 (by decide)
         exact okb fg rfl (by go_simp)
        ·intro ev w hc hf hg hfix hdep hbel
         have e34 : ev (.tmp 34) = _ := hdep 13 (by decide)
         have e38 : ev (.tmp 38) = _ := hdep 17 (by decide)
         exact okb trivial rfl (by go_simp)
       ·intro v w2 hv hb2
        have r0 : v 0 = _ := hv 0 (by decide)
        have r1 : v 1 = _ := hv 1 (by decide)
        have r2 : v 2 = _ := hv 2 (by decide)
        have r3 : v 3 = _ := hv 3 (by decide)
        have r4 : v 4 = _ := hv 4 (by decide)
        have r5 : v 5 = _ := hv 5 (by decide)
        have r6 : v 6 = _ := hv 6 (by decide)
        have r7 : v 7 = _ := hv 7 (by decide)
        have r8 : v 8 = _ := hv 8 (by decide)
        have r9 : v 9 = _ := hv 9 (by decide)
        have r10 : v 10 = _ := hv 10 (by decide)
        have r11 : v 11 = _ := hv 11 (by decide)
        have r12 : v 12 = _ := hv 12 (by decide)
        have r13 : v 13 = _ := hv 13 (by decide)
        have r14 : v 14 = _ := hv 14 (by decide)
        have r15 : v 15 = _ := hv 15 (by decide)
        have r16 : v 16 = _ := hv 16 (by decide)
        have r17 : v 17 = _ := hv 17 (by decide)
        have r18 : v 18 = _ := hv 18 (by decide)
        simp only [Reg.putAll, Act.put, List.setIfInBounds_toArray, List.set_cons_zero, List.set_cons_succ, r0, r1, r2, r3, r4, r5, r6, r7, r8, r9, r10, r11, r12, r13, r14, r15, r16, r17, r18]
        clear r0 r1 r2 r3 r4 r5 r6 r7 r8 r9 r10 r11 r12 r13 r14 r15 r16 r17 r18 hv
        have HBw := Lib.hid (HBel.out.trans (((Below.alloc (Below.refl _ _) (Nat.le_refl _) _).trans (hb2.mono (by simp))).mono HBel.out.size)); clear hb2
        go_wp2_with fail
        go_ret
        exact ⟨ret_bool (by simp [Tm.may, HL.out, Om.upTo_not hlt HX.out]), HBw.out⟩
      ·skip
       have hC : ∀ w2, Below (wr.alloc (.cells #[.string nm, .slice la ls.length lc, .slice ba bs.length bc] 47)).drew.heap.size (wr.alloc (.cells #[.string nm, .slice la ls.length lc, .slice ba bs.length bc] 47)).drew w2 → w2.cell? ⟨wr.heap.size, 0, none⟩ = some (.string nm) ∧ w2.cell? ⟨wr.heap.size, 1, none⟩ = some (.slice la ls.length lc) ∧ w2.cell? ⟨wr.heap.size, 2, none⟩ = some (.slice ba bs.length bc) := fun w2 h =>
        ⟨(h.cell (p := ⟨wr.heap.size, 0, none⟩) (by simp)).trans (by simp), (h.cell (p := ⟨wr.heap.size, 1, none⟩) (by simp)).trans (by simp), (h.cell (p := ⟨wr.heap.size, 2, none⟩) (by simp)).trans (by simp)⟩
       have HC := Lib.hid hC; clear hC
       go_wp2_with fail
       refine Reg.region_list (by kernel_rfl) [fun v _ => v = .int .i64 ((0 : Nat) : Int), fun v _ => v = .bool false, fun v _ => v = .bool false, fun v _ => v = undef, fun v _ => v = undef, fun v _ => v = undef, fun v _ => v = undef, fun v _ => v = undef, fun v _ => v = undef, fun v _ => v = undef, fun v _ => v = undef, fun v _ => v = undef, fun v _ => v = .bool false, fun v _ => v = .bool false, fun v _ => v = .agg #[.string nm, .slice la ls.length lc, .slice ba bs.length bc], fun v _ => v = .int .i64 ((m + 1 : Nat) : Int), fun v _ => v = .bool true, fun v _ => v = .bool false, fun v _ => v = .bool false] (by kernel_rfl) ?_ ?_ ?_
       ·refine ⟨k4, k4, k4, k4, k4, k4, k4, k4, k4, k4, k4, k4, k4, k4, k4, k4, k4, k4, k4, trivial⟩
       ·refine ⟨?_, ?_, ?_, ?_, ?_, ?_, ?_, ?_, ?_, ?_, ?_, ?_, ?_, ?_, ?_, ?_, ?_, ?_, ?_, trivial⟩
        ·intro ev w hc hf hg hfix hdep hbel
         have e5 : ev (.tmp 5) = _ := hfix 5 (by decide)
         exact okb trivial rfl (by go_simp)
        ·intro ev w hc hf hg hfix hdep hbel
         have e21 : ev (.tmp 21) = _ := hdep 0 (by decide)
         exact okb trivial rfl (by go_simp)
        ·intro ev w hc hf hg hfix hdep hbel
         have e22 : ev (.tmp 22) = _ := hdep 1 (by decide)
         exact okb trivial rfl (by go_simp)
        ·intro ev w hc hf hg hfix hdep hbel
         have fg : ev (.tmp 23) = _ := hdep 2 (by decide)
         exact Or.inr ⟨Or.inl fg, rfl⟩
        ·intro ev w hc hf hg hfix hdep hbel
         have fg : ev (.tmp 23) = _ := hdep 2 (by decide)
         exact Or.inr ⟨Or.inl fg, rfl⟩
        ·intro ev w hc hf hg hfix hdep hbel
         have fg : ev (.tmp 23) = _ := hdep 2 (by decide)
         exact Or.inr ⟨Or.inl fg, rfl⟩
        ·intro ev w hc hf hg hfix hdep hbel
         have fg : ev (.tmp 23) = _ := hdep 2 (by decide)
         exact Or.inr ⟨Or.inl fg, rfl⟩
        ·intro ev w hc hf hg hfix hdep hbel
         have fg : ev (.tmp 23) = _ := hdep 2 (by decide)
         exact Or.inr ⟨Or.inl fg, rfl⟩
        ·intro ev w hc hf hg hfix hdep hbel
         have fg : ev (.tmp 23) = _ := hdep 2 (by decide)
         exact Or.inr ⟨Or.inl fg, rfl⟩
        ·intro ev w hc hf hg hfix hdep hbel
         have fg : ev (.tmp 23) = _ := hdep 2 (by decide)
         exact Or.inr ⟨Or.inl fg, rfl⟩
        ·intro ev w hc hf hg hfix hdep hbel
         have fg : ev (.tmp 23) = _ := hdep 2 (by decide)
         exact Or.inr ⟨Or.inl fg, rfl⟩
        ·intro ev w hc hf hg hfix hdep hbel
         have fg : ev (.tmp 23) = _ := hdep 2 (by decide)
         exact Or.inr ⟨Or.inl fg, rfl⟩
        ·intro ev w hc hf hg hfix hdep hbel
         have e23 : ev (.tmp 23) = _ := hdep 2 (by decide)
         have e32 : ev (.tmp 32) = _ := hdep 11 (by decide)
         exact okb trivial rfl (by go_simp)
        ·intro ev w hc hf hg hfix hdep hbel
         have e33 : ev (.tmp 33) = _ := hdep 12 (by decide)
         exact okb trivial rfl (by go_simp)
        ·intro ev w hc hf hg hfix hdep hbel
         have fg : ev (.tmp 34) = _ := hdep 13 (by decide)
         have e6 : ev (.tmp 6) = _ := hfix 6 (by decide)
         obtain ⟨hc0, hc1, hc2⟩ := HC.out w hbel
         exact okb fg rfl (by go_simp)
        ·intro ev w hc hf hg hfix hdep hbel
         have fg : ev (.tmp 34) = _ := hdep 13 (by decide)
         have e1 : ev (.tmp 1) = _ := hfix 1 (by decide)
         exact okb fg rfl (by go_simp)
        ·intro ev w hc hf hg hfix hdep hbel
         have fg : ev (.tmp 34) = _ := hdep 13 (by decide)
         have e35 : ev (.tmp 35) = _ := hdep 14 (by decide)
         have e36 : ev (.tmp 36) = _ := hdep 15 (by decide)
         refine Or.inl ⟨fg, Or.inr ⟨24, #[.agg #[.string nm, .slice la ls.length lc, .slice ba bs.length bc], .int .i64 ((m + 1 : Nat) : Int)], w, by go_simp, ?_⟩⟩
         have hw : Below W.heap.size W w := HBel.out.trans ((((Below.refl _ _).alloc (Nat.le_refl _) _).trans ((undrewX hbel).mono (by simp))).mono HBel.out.size)
         refine (mayNode_of (Tm.may strLt m) m nm ls bs la lc ba bc w HOk.out (HLs.out.below hw) (fun w2 h2 => IH.out d2 ba bs.length bc bs w2 (TRow.below (hw.trans (h2.mono hw.size)) HBs.out) rfl) (by omega)).mono ?_
         rintro e w1 ⟨rfl, hb1⟩
         exact ⟨_, rfl, by rw [HMy.out], hb1⟩
        ·intro ev w hc hf hg hfix hdep hbel
         have fg : ev (.tmp 34) = _ := hdep 13 (by decide)
         have e37 : ev (.tmp 37) = _ := hdep 16 (by decide)
         exact okb fg rfl (by go_simp)
        ·intro ev w hc hf hg hfix hdep hbel
         have e34 : ev (.tmp 34) = _ := hdep 13 (by decide)
         have e38 : ev (.tmp 38) = _ := hdep 17 (by decide)
         exact okb trivial rfl (by go_simp)
       ·intro v w2 hv hb2
        have r0 : v 0 = _ := hv 0 (by decide)
        have r1 : v 1 = _ := hv 1 (by decide)
        have r2 : v 2 = _ := hv 2 (by decide)
        have r3 : v 3 = _ := hv 3 (by decide)
        have r4 : v 4 = _ := hv 4 (by decide)
        have r5 : v 5 = _ := hv 5 (by decide)
        have r6 : v 6 = _ := hv 6 (by decide)
        have r7 : v 7 = _ := hv 7 (by decide)
        have r8 : v 8 = _ := hv 8 (by decide)
        have r9 : v 9 = _ := hv 9 (by decide)
        have r10 : v 10 = _ := hv 10 (by decide)
        have r11 : v 11 = _ := hv 11 (by decide)
        have r12 : v 12 = _ := hv 12 (by decide)
        have r13 : v 13 = _ := hv 13 (by decide)
        have r14 : v 14 = _ := hv 14 (by decide)
        have r15 : v 15 = _ := hv 15 (by decide)
        have r16 : v 16 = _ := hv 16 (by decide)
        have r17 : v 17 = _ := hv 17 (by decide)
        have r18 : v 18 = _ := hv 18 (by decide)
        simp only [Reg.putAll, Act.put, List.setIfInBounds_toArray, List.set_cons_zero, List.set_cons_succ, r0, r1, r2, r3, r4, r5, r6, r7, r8, r9, r10, r11, r12, r13, r14, r15, r16, r17, r18]
        clear r0 r1 r2 r3 r4 r5 r6 r7 r8 r9 r10 r11 r12 r13 r14 r15 r16 r17 r18 hv
        have HBw := Lib.hid (HBel.out.trans (((Below.alloc (Below.refl _ _) (Nat.le_refl _) _).trans (hb2.mono (by simp))).mono HBel.out.size)); clear hb2
        go_wp2_with fail
        go_roundw
        case rel => exact ⟨0 + 1, by omega, by go_num, Om.upTo_succ HU.out HX.out, HBw.out⟩
        case measure => simp [intOf]; omega
     ·obtain ⟨j, rfl⟩ : ∃ j, k = j + 1 := ⟨k - 1, by omega⟩
      obtain ⟨e, he⟩ := someN (l := l) (i := j) (by rw [HL.out]; omega)
      obtain ⟨_, la', lc', ba', bc', ⟨g0, _⟩, _, _⟩ := HCs.out j e he
      have p0 := (HBel.out.cell (p := ⟨blk, off + j * 3, none⟩) hblk).trans g0
      have hbw := World.block_lt_of_cell? _ _ p0
      have j0 : (0 : Int) ≤ (j : Int) := by omega
      have j1 : (j : Int) < (n : Int) := by omega
      have j2 : IntKind.i64.wrap (j : Int) = (j : Int) := by simp [IntKind.wrap, IntKind.bits, IntKind.signed]; omega
      have j3 : ¬ n ≤ j := by omega
      simp only at hbw
      have hd := Tm.nodeAt_succ (lt := strLt) (f := Tm.may strLt m) (l := l) (k := j + 1) (e := e) (by omega) HD.out he
      obtain ⟨nm', hnm⟩ : ∃ nm', nm' = e.name := ⟨_, rfl⟩
      rw [← hnm] at p0 hd
      clear g0 he hk0 hnm
      simp only [Tm.N.name_mk] at p0 hd
      have hC : ∀ w2, Below (wr.alloc (.cells #[.string nm, .slice la ls.length lc, .slice ba bs.length bc] 47)).drew.heap.size (wr.alloc (.cells #[.string nm, .slice la ls.length lc, .slice ba bs.length bc] 47)).drew w2 → w2.cell? ⟨wr.heap.size, 0, none⟩ = some (.string nm) ∧ w2.cell? ⟨wr.heap.size, 1, none⟩ = some (.slice la ls.length lc) ∧ w2.cell? ⟨wr.heap.size, 2, none⟩ = some (.slice ba bs.length bc) ∧ w2.cell? ⟨blk, off + j * 3, none⟩ = some (.string nm') := fun w2 h =>
       ⟨(h.cell (p := ⟨wr.heap.size, 0, none⟩) (by simp)).trans (by simp), (h.cell (p := ⟨wr.heap.size, 1, none⟩) (by simp)).trans (by simp), (h.cell (p := ⟨wr.heap.size, 2, none⟩) (by simp)).trans (by simp), ((Below.alloc (Below.refl wr.heap.size wr) (Nat.le_refl _) _).drew.trans (h.mono (by simp))).cell (p := ⟨blk, off + j * 3, none⟩) (by simp only; omega) |>.trans p0⟩
      have HC := Lib.hid hC; clear hC
      clear p0
      cases hlx : strLt nm' nm
      ·rw [hlx, Bool.false_and] at hd
       have HX := Lib.hid hd; clear hd
       have hls : Op.bytesLess nm'.toList nm.toList = false := hlx
       clear hlx
       go_wp2_with fail
       refine Reg.region_list (by kernel_rfl) [fun v _ => v = .int .i64 ((j + 1 : Nat) : Int), fun v _ => v = .bool true, fun v _ => v = .bool true, fun v _ => v = .slice (some ⟨blk, off, none⟩) n cap, fun v _ => v = .int .i64 ((j + 1 : Nat) : Int), fun v _ => v = .int .i64 (j : Int), fun v _ => v = .pointer (some ⟨blk, off + j * 3, none⟩), fun v _ => v = .pointer (some ⟨blk, off + j * 3, none⟩), fun v _ => v = .string nm', fun v _ => v = .pointer (some ⟨wr.heap.size, 0, none⟩), fun v _ => v = .string nm, fun v _ => v = .bool true, fun v _ => v = .bool true, fun v _ => v = .bool true, fun v _ => v = undef, fun v _ => v = undef, fun v _ => v = undef, fun v _ => v = undef, fun v _ => v = .bool true] (by kernel_rfl) ?_ ?_ ?_
       ·refine ⟨k4, k4, k4, k4, k4, k4, k4, k4, k4, k4, k4, k4, k4, k4, k4, k4, k4, k4, k4, trivial⟩
       ·refine ⟨?_, ?_, ?_, ?_, ?_, ?_, ?_, ?_, ?_, ?_, ?_, ?_, ?_, ?_, ?_, ?_, ?_, ?_, ?_, trivial⟩
        ·intro ev w hc hf hg hfix hdep hbel
         have e5 : ev (.tmp 5) = _ := hfix 5 (by decide)
         exact okb trivial rfl (by go_simp)
        ·intro ev w hc hf hg hfix hdep hbel
         have e21 : ev (.tmp 21) = _ := hdep 0 (by decide)
         exact okb trivial rfl (by go_simp)
        ·intro ev w hc hf hg hfix hdep hbel
         have e22 : ev (.tmp 22) = _ := hdep 1 (by decide)
         exact okb trivial rfl (by go_simp)
        ·intro ev w hc hf hg hfix hdep hbel
         have fg : ev (.tmp 23) = _ := hdep 2 (by decide)
         have e0 : ev (.tmp 0) = _ := hfix 0 (by decide)
         exact okb fg rfl (by go_simp)
        ·intro ev w hc hf hg hfix hdep hbel
         have fg : ev (.tmp 23) = _ := hdep 2 (by decide)
         have e5 : ev (.tmp 5) = _ := hfix 5 (by decide)
         exact okb fg rfl (by go_simp)
        ·intro ev w hc hf hg hfix hdep hbel
         have fg : ev (.tmp 23) = _ := hdep 2 (by decide)
         have e25 : ev (.tmp 25) = _ := hdep 4 (by decide)
         exact okb fg rfl (by go_simp)
        ·intro ev w hc hf hg hfix hdep hbel
         have fg : ev (.tmp 23) = _ := hdep 2 (by decide)
         have e24 : ev (.tmp 24) = _ := hdep 3 (by decide)
         have e26 : ev (.tmp 26) = _ := hdep 5 (by decide)
         exact okb fg rfl (by go_simp)
        ·intro ev w hc hf hg hfix hdep hbel
         have fg : ev (.tmp 23) = _ := hdep 2 (by decide)
         have e27 : ev (.tmp 27) = _ := hdep 6 (by decide)
         exact okb fg rfl (by go_simp)
        ·intro ev w hc hf hg hfix hdep hbel
         have fg : ev (.tmp 23) = _ := hdep 2 (by decide)
         have e28 : ev (.tmp 28) = _ := hdep 7 (by decide)
         obtain ⟨hc0, hc1, hc2, hc3⟩ := HC.out w hbel
         exact okb fg rfl (by go_simp)
        ·intro ev w hc hf hg hfix hdep hbel
         have fg : ev (.tmp 23) = _ := hdep 2 (by decide)
         have e6 : ev (.tmp 6) = _ := hfix 6 (by decide)
         exact okb fg rfl (by go_simp)
        ·intro ev w hc hf hg hfix hdep hbel
         have fg : ev (.tmp 23) = _ := hdep 2 (by decide)
         have e30 : ev (.tmp 30) = _ := hdep 9 (by decide)
         obtain ⟨hc0, hc1, hc2, hc3⟩ := HC.out w hbel
         exact okb fg rfl (by go_simp)
        ·intro ev w hc hf hg hfix hdep hbel
         have fg : ev (.tmp 23) = _ := hdep 2 (by decide)
         have e29 : ev (.tmp 29) = _ := hdep 8 (by decide)
         have e31 : ev (.tmp 31) = _ := hdep 10 (by decide)
         exact okb fg rfl (by go_simp)
        ·intro ev w hc hf hg hfix hdep hbel
         have e23 : ev (.tmp 23) = _ := hdep 2 (by decide)
         have e32 : ev (.tmp 32) = _ := hdep 11 (by decide)
         exact okb trivial rfl (by go_simp)
        ·intro ev w hc hf hg hfix hdep hbel
         have e33 : ev (.tmp 33) = _ := hdep 12 (by decide)
         exact okb trivial rfl (by go_simp)
        ·intro ev w hc hf hg hfix hdep hbel
         have fg : ev (.tmp 34) = _ := hdep 13 (by decide)
         exact Or.inr ⟨Or.inl fg, rfl⟩
        ·intro ev w hc hf hg hfix hdep hbel
         have fg : ev (.tmp 34) = _ := hdep 13 (by decide)
         exact Or.inr ⟨Or.inl fg, rfl⟩
        ·intro ev w hc hf hg hfix hdep hbel
         have fg : ev (.tmp 34) = _ := hdep 13 (by decide)
         exact Or.inr ⟨Or.inl fg, rfl⟩
        ·intro ev w hc hf hg hfix hdep hbel
         have fg : ev (.tmp 34) = _ := hdep 13 (by decide)
         exact Or.inr ⟨Or.inl fg, rfl⟩
        ·intro ev w hc hf hg hfix hdep hbel
         have e34 : ev (.tmp 34) = _ := hdep 13 (by decide)
         have e38 : ev (.tmp 38) = _ := hdep 17 (by decide)
         exact okb trivial rfl (by go_simp)
       ·intro v w2 hv hb2
        have r0 : v 0 = _ := hv 0 (by decide)
        have r1 : v 1 = _ := hv 1 (by decide)
        have r2 : v 2 = _ := hv 2 (by decide)
        have r3 : v 3 = _ := hv 3 (by decide)
        have r4 : v 4 = _ := hv 4 (by decide)
        have r5 : v 5 = _ := hv 5 (by decide)
        have r6 : v 6 = _ := hv 6 (by decide)
        have r7 : v 7 = _ := hv 7 (by decide)
        have r8 : v 8 = _ := hv 8 (by decide)
        have r9 : v 9 = _ := hv 9 (by decide)
        have r10 : v 10 = _ := hv 10 (by decide)
        have r11 : v 11 = _ := hv 11 (by decide)
        have r12 : v 12 = _ := hv 12 (by decide)
        have r13 : v 13 = _ := hv 13 (by decide)
        have r14 : v 14 = _ := hv 14 (by decide)
        have r15 : v 15 = _ := hv 15 (by decide)
        have r16 : v 16 = _ := hv 16 (by decide)
        have r17 : v 17 = _ := hv 17 (by decide)
        have r18 : v 18 = _ := hv 18 (by decide)
        simp only [Reg.putAll, Act.put, List.setIfInBounds_toArray, List.set_cons_zero, List.set_cons_succ, r0, r1, r2, r3, r4, r5, r6, r7, r8, r9, r10, r11, r12, r13, r14, r15, r16, r17, r18]
        clear r0 r1 r2 r3 r4 r5 r6 r7 r8 r9 r10 r11 r12 r13 r14 r15 r16 r17 r18 hv
        have HBw := Lib.hid (HBel.out.trans (((Below.alloc (Below.refl _ _) (Nat.le_refl _) _).trans (hb2.mono (by simp))).mono HBel.out.size)); clear hb2
        go_wp2_with fail
        go_ret
        exact ⟨ret_bool (by simp [Tm.may, HL.out, Om.upTo_not hlt HX.out]), HBw.out⟩
      ·rw [hlx, Bool.true_and] at hd
       have hls : Op.bytesLess nm'.toList nm.toList = true := hlx
       clear hlx
       cases hmy : Tm.mayNode (Tm.may strLt m) (.mk nm ls bs)
       all_goals have HMy := Lib.hid hmy; have HX := Lib.hid (hd.trans hmy); clear hmy hd
       ·skip
        go_wp2_with fail
        refine Reg.region_list (by kernel_rfl) [fun v _ => v = .int .i64 ((j + 1 : Nat) : Int), fun v _ => v = .bool true, fun v _ => v = .bool true, fun v _ => v = .slice (some ⟨blk, off, none⟩) n cap, fun v _ => v = .int .i64 ((j + 1 : Nat) : Int), fun v _ => v = .int .i64 (j : Int), fun v _ => v = .pointer (some ⟨blk, off + j * 3, none⟩), fun v _ => v = .pointer (some ⟨blk, off + j * 3, none⟩), fun v _ => v = .string nm', fun v _ => v = .pointer (some ⟨wr.heap.size, 0, none⟩), fun v _ => v = .string nm, fun v _ => v = .bool false, fun v _ => v = .bool false, fun v _ => v = .bool false, fun v _ => v = .agg #[.string nm, .slice la ls.length lc, .slice ba bs.length bc], fun v _ => v = .int .i64 ((m + 1 : Nat) : Int), fun v _ => v = .bool false, fun v _ => v = .bool true, fun v _ => v = .bool true] (by kernel_rfl) ?_ ?_ ?_
        ·refine ⟨k4, k4, k4, k4, k4, k4, k4, k4, k4, k4, k4, k4, k4, k4, k4, k4, k4, k4, k4, trivial⟩
        ·refine ⟨?_, ?_, ?_, ?_, ?_, ?_, ?_, ?_, ?_, ?_, ?_, ?_, ?_, ?_, ?_, ?_, ?_, ?_, ?_, trivial⟩
         ·intro ev w hc hf hg hfix hdep hbel
          have e5 : ev (.tmp 5) = _ := hfix 5 (by decide)
          exact okb trivial rfl (by go_simp)
         ·intro ev w hc hf hg hfix hdep hbel
          have e21 : ev (.tmp 21) = _ := hdep 0 (by decide)
          exact okb trivial rfl (by go_simp)
         ·intro ev w hc hf hg hfix hdep hbel
          have e22 : ev (.tmp 22) = _ := hdep 1 (by decide)
          exact okb trivial rfl (by go_simp)
         ·intro ev w hc hf hg hfix hdep hbel
          have fg : ev (.tmp 23) = _ := hdep 2 (by decide)
          have e0 : ev (.tmp 0) = _ := hfix 0 (by decide)
          exact okb fg rfl (by go_simp)
         ·intro ev w hc hf hg hfix hdep hbel
          have fg : ev (.tmp 23) = _ := hdep 2 (by decide)
          have e5 : ev (.tmp 5) = _ := hfix 5 (by decide)
          exact okb fg rfl (by go_simp)
         ·intro ev w hc hf hg hfix hdep hbel
          have fg : ev (.tmp 23) = _ := hdep 2 (by decide)
          have e25 : ev (.tmp 25) = _ := hdep 4 (by decide)
          exact okb fg rfl (by go_simp)
         ·intro ev w hc hf hg hfix hdep hbel
          have fg : ev (.tmp 23) = _ := hdep 2 (by decide)
          have e24 : ev (.tmp 24) = _ := hdep 3 (by decide)
          have e26 : ev (.tmp 26) = _ := hdep 5 (by decide)
          exact okb fg rfl (by go_simp)
         ·intro ev w hc hf hg hfix hdep hbel
          have fg : ev (.tmp 23) = _ := hdep 2 (by decide)
          have e27 : ev (.tmp 27) = _ := hdep 6 (by decide)
          exact okb fg rfl (by go_simp)
         ·intro ev w hc hf hg hfix hdep hbel
          have fg : ev (.tmp 23) = _ := hdep 2 (by decide)
          have e28 : ev (.tmp 28) = _ := hdep 7 (by decide)
          obtain ⟨hc0, hc1, hc2, hc3⟩ := HC.out w hbel
          exact okb fg rfl (by go_simp)
         ·intro ev w hc hf hg hfix hdep hbel
          have fg : ev (.tmp 23) = _ := hdep 2 (by decide)
          have e6 : ev (.tmp 6) = _ := hfix 6 (by decide)
          exact okb fg rfl (by go_simp)
         ·intro ev w hc hf hg hfix hdep hbel
          have fg : ev (.tmp 23) = _ := hdep 2 (by decide)
          have e30 : ev (.tmp 30) = _ := hdep 9 (by decide)
          obtain ⟨hc0, hc1, hc2, hc3⟩ := HC.out w hbel
          exact okb fg rfl (by go_simp)
         ·intro ev w hc hf hg hfix hdep hbel
          have fg : ev (.tmp 23) = _ := hdep 2 (by decide)
          have e29 : ev (.tmp 29) = _ := hdep 8 (by decide)
          have e31 : ev (.tmp 31) = _ := hdep 10 (by decide)
          exact okb fg rfl (by go_simp)
         ·intro ev w hc hf hg hfix hdep hbel
          have e23 : ev (.tmp 23) = _ := hdep 2 (by decide)
          have e32 : ev (.tmp 32) = _ := hdep 11 (by decide)
          exact okb trivial rfl (by go_simp)
         ·intro ev w hc hf hg hfix hdep hbel
          have e33 : ev (.tmp 33) = _ := hdep 12 (by decide)
          exact okb trivial rfl (by go_simp)
         ·intro ev w hc hf hg hfix hdep hbel
          have fg : ev (.tmp 34) = _ := hdep 13 (by decide)
          have e6 : ev (.tmp 6) = _ := hfix 6 (by decide)
          obtain ⟨hc0, hc1, hc2, hc3⟩ := HC.out w hbel
          exact okb fg rfl (by go_simp)
         ·intro ev w hc hf hg hfix hdep hbel
          have fg : ev (.tmp 34) = _ := hdep 13 (by decide)
          have e1 : ev (.tmp 1) = _ := hfix 1 (by decide)
          exact okb fg rfl (by go_simp)
         ·intro ev w hc hf hg hfix hdep hbel
          have fg : ev (.tmp 34) = _ := hdep 13 (by decide)
          have e35 : ev (.tmp 35) = _ := hdep 14 (by decide)
          have e36 : ev (.tmp 36) = _ := hdep 15 (by decide)
          refine Or.inl ⟨fg, Or.inr ⟨24, #[.agg #[.string nm, .slice la ls.length lc, .slice ba bs.length bc], .int .i64 ((m + 1 : Nat) : Int)], w, by go_simp, ?_⟩⟩
          have hw : Below W.heap.size W w := HBel.out.trans ((((Below.refl _ _).alloc (Nat.le_refl _) _).trans ((undrewX hbel).mono (by simp))).mono HBel.out.size)
          refine (mayNode_of (Tm.may strLt m) m nm ls bs la lc ba bc w HOk.out (HLs.out.below hw) (fun w2 h2 => IH.out d2 ba bs.length bc bs w2 (TRow.below (hw.trans (h2.mono hw.size)) HBs.out) rfl) (by omega)).mono ?_
          rintro e w1 ⟨rfl, hb1⟩
          exact ⟨_, rfl, by rw [HMy.out], hb1⟩
         ·intro ev w hc hf hg hfix hdep hbel
          have fg : ev (.tmp 34) = _ := hdep 13 (by decide)
          have e37 : ev (.tmp 37) = _ := hdep 16 (by decide)
          exact okb fg rfl (by go_simp)
         ·intro ev w hc hf hg hfix hdep hbel
          have e34 : ev (.tmp 34) = _ := hdep 13 (by decide)
          have e38 : ev (.tmp 38) = _ := hdep 17 (by decide)
          exact okb trivial rfl (by go_simp)
        ·intro v w2 hv hb2
         have r0 : v 0 = _ := hv 0 (by decide)
         have r1 : v 1 = _ := hv 1 (by decide)
         have r2 : v 2 = _ := hv 2 (by decide)
         have r3 : v 3 = _ := hv 3 (by decide)
         have r4 : v 4 = _ := hv 4 (by decide)
         have r5 : v 5 = _ := hv 5 (by decide)
         have r6 : v 6 = _ := hv 6 (by decide)
         have r7 : v 7 = _ := hv 7 (by decide)
         have r8 : v 8 = _ := hv 8 (by decide)
         have r9 : v 9 = _ := hv 9 (by decide)
         have r10 : v 10 = _ := hv 10 (by decide)
         have r11 : v 11 = _ := hv 11 (by decide)
         have r12 : v 12 = _ := hv 12 (by decide)
         have r13 : v 13 = _ := hv 13 (by decide)
         have r14 : v 14 = _ := hv 14 (by decide)
         have r15 : v 15 = _ := hv 15 (by decide)
         have r16 : v 16 = _ := hv 16 (by decide)
         have r17 : v 17 = _ := hv 17 (by decide)
         have r18 : v 18 = _ := hv 18 (by decide)
         simp only [Reg.putAll, Act.put, List.setIfInBounds_toArray, List.set_cons_zero, List.set_cons_succ, r0, r1, r2, r3, r4, r5, r6, r7, r8, r9, r10, r11, r12, r13, r14, r15, r16, r17, r18]
         clear r0 r1 r2 r3 r4 r5 r6 r7 r8 r9 r10 r11 r12 r13 r14 r15 r16 r17 r18 hv
         have HBw := Lib.hid (HBel.out.trans (((Below.alloc (Below.refl _ _) (Nat.le_refl _) _).trans (hb2.mono (by simp))).mono HBel.out.size)); clear hb2
         go_wp2_with fail
         go_ret
         exact ⟨ret_bool (by simp [Tm.may, HL.out, Om.upTo_not hlt HX.out]), HBw.out⟩
       ·skip
        go_wp2_with fail
        refine Reg.region_list (by kernel_rfl) [fun v _ => v = .int .i64 ((j + 1 : Nat) : Int), fun v _ => v = .bool true, fun v _ => v = .bool true, fun v _ => v = .slice (some ⟨blk, off, none⟩) n cap, fun v _ => v = .int .i64 ((j + 1 : Nat) : Int), fun v _ => v = .int .i64 (j : Int), fun v _ => v = .pointer (some ⟨blk, off + j * 3, none⟩), fun v _ => v = .pointer (some ⟨blk, off + j * 3, none⟩), fun v _ => v = .string nm', fun v _ => v = .pointer (some ⟨wr.heap.size, 0, none⟩), fun v _ => v = .string nm, fun v _ => v = .bool false, fun v _ => v = .bool false, fun v _ => v = .bool false, fun v _ => v = .agg #[.string nm, .slice la ls.length lc, .slice ba bs.length bc], fun v _ => v = .int .i64 ((m + 1 : Nat) : Int), fun v _ => v = .bool true, fun v _ => v = .bool false, fun v _ => v = .bool false] (by kernel_rfl) ?_ ?_ ?_
        ·refine ⟨k4, k4, k4, k4, k4, k4, k4, k4, k4, k4, k4, k4, k4, k4, k4, k4, k4, k4, k4, trivial⟩
        ·refine ⟨?_, ?_, ?_, ?_, ?_, ?_, ?_, ?_, ?_, ?_, ?_, ?_, ?_, ?_, ?_, ?_, ?_, ?_, ?_, trivial⟩
         ·intro ev w hc hf hg hfix hdep hbel
          have e5 : ev (.tmp 5) = _ := hfix 5 (by decide)
          exact okb trivial rfl (by go_simp)
         ·intro ev w hc hf hg hfix hdep hbel
          have e21 : ev (.tmp 21) = _ := hdep 0 (by decide)
          exact okb trivial rfl (by go_simp)
         ·intro ev w hc hf hg hfix hdep hbel
          have e22 : ev (.tmp 22) = _ := hdep 1 (by decide)
          exact okb trivial rfl (by go_simp)
         ·intro ev w hc hf hg hfix hdep hbel
          have fg : ev (.tmp 23) = _ := hdep 2 (by decide)
          have e0 : ev (.tmp 0) = _ := hfix 0 (by decide)
          exact okb fg rfl (by go_simp)
         ·intro ev w hc hf hg hfix hdep hbel
          have fg : ev (.tmp 23) = _ := hdep 2 (by decide)
          have e5 : ev (.tmp 5) = _ := hfix 5 (by decide)
          exact okb fg rfl (by go_simp)
         ·intro ev w hc hf hg hfix hdep hbel
          have fg : ev (.tmp 23) = _ := hdep 2 (by decide)
          have e25 : ev (.tmp 25) = _ := hdep 4 (by decide)
          exact okb fg rfl (by go_simp)
         ·intro ev w hc hf hg hfix hdep hbel
          have fg : ev (.tmp 23) = _ := hdep 2 (by decide)
          have e24 : ev (.tmp 24) = _ := hdep 3 (by decide)
          have e26 : ev (.tmp 26) = _ := hdep 5 (by decide)
          exact okb fg rfl (by go_simp)
         ·intro ev w hc hf hg hfix hdep hbel
          have fg : ev (.tmp 23) = _ := hdep 2 (by decide)
          have e27 : ev (.tmp 27) = _ := hdep 6 (by decide)
          exact okb fg rfl (by go_simp)
         ·intro ev w hc hf hg hfix hdep hbel
          have fg : ev (.tmp 23) = _ := hdep 2 (by decide)
          have e28 : ev (.tmp 28) = _ := hdep 7 (by decide)
          obtain ⟨hc0, hc1, hc2, hc3⟩ := HC.out w hbel
          exact okb fg rfl (by go_simp)
         ·intro ev w hc hf hg hfix hdep hbel
          have fg : ev (.tmp 23) = _ := hdep 2 (by decide)
          have e6 : ev (.tmp 6) = _ := hfix 6 (by decide)
          exact okb fg rfl (by go_simp)
         ·intro ev w hc hf hg hfix hdep hbel
          have fg : ev (.tmp 23) = _ := hdep 2 (by decide)
          have e30 : ev (.tmp 30) = _ := hdep 9 (by decide)
          obtain ⟨hc0, hc1, hc2, hc3⟩ := HC.out w hbel
          exact okb fg rfl (by go_simp)
         ·intro ev w hc hf hg hfix hdep hbel
          have fg : ev (.tmp 23) = _ := hdep 2 (by decide)
          have e29 : ev (.tmp 29) = _ := hdep 8 (by decide)
          have e31 : ev (.tmp 31) = _ := hdep 10 (by decide)
          exact okb fg rfl (by go_simp)
         ·intro ev w hc hf hg hfix hdep hbel
          have e23 : ev (.tmp 23) = _ := hdep 2 (by decide)
          have e32 : ev (.tmp 32) = _ := hdep 11 (by decide)
          exact okb trivial rfl (by go_simp)
         ·intro ev w hc hf hg hfix hdep hbel
          have e33 : ev (.tmp 33) = _ := hdep 12 (by decide)
          exact okb trivial rfl (by go_simp)
         ·intro ev w hc hf hg hfix hdep hbel
          have fg : ev (.tmp 34) = _ := hdep 13 (by decide)
          have e6 : ev (.tmp 6) = _ := hfix 6 (by decide)
          obtain ⟨hc0, hc1, hc2, hc3⟩ := HC.out w hbel
          exact okb fg rfl (by go_simp)
         ·intro ev w hc hf hg hfix hdep hbel
          have fg : ev (.tmp 34) = _ := hdep 13 (by decide)
          have e1 : ev (.tmp 1) = _ := hfix 1 (by decide)
          exact okb fg rfl (by go_simp)
         ·intro ev w hc hf hg hfix hdep hbel
          have fg : ev (.tmp 34) = _ := hdep 13 (by decide)
          have e35 : ev (.tmp 35) = _ := hdep 14 (by decide)
          have e36 : ev (.tmp 36) = _ := hdep 15 (by decide)
          refine Or.inl ⟨fg, Or.inr ⟨24, #[.agg #[.string nm, .slice la ls.length lc, .slice ba bs.length bc], .int .i64 ((m + 1 : Nat) : Int)], w, by go_simp, ?_⟩⟩
          have hw : Below W.heap.size W w := HBel.out.trans ((((Below.refl _ _).alloc (Nat.le_refl _) _).trans ((undrewX hbel).mono (by simp))).mono HBel.out.size)
          refine (mayNode_of (Tm.may strLt m) m nm ls bs la lc ba bc w HOk.out (HLs.out.below hw) (fun w2 h2 => IH.out d2 ba bs.length bc bs w2 (TRow.below (hw.trans (h2.mono hw.size)) HBs.out) rfl) (by omega)).mono ?_
          rintro e w1 ⟨rfl, hb1⟩
          exact ⟨_, rfl, by rw [HMy.out], hb1⟩
         ·intro ev w hc hf hg hfix hdep hbel
          have fg : ev (.tmp 34) = _ := hdep 13 (by decide)
          have e37 : ev (.tmp 37) = _ := hdep 16 (by decide)
          exact okb fg rfl (by go_simp)
         ·intro ev w hc hf hg hfix hdep hbel
          have e34 : ev (.tmp 34) = _ := hdep 13 (by decide)
          have e38 : ev (.tmp 38) = _ := hdep 17 (by decide)
          exact okb trivial rfl (by go_simp)
        ·intro v w2 hv hb2
         have r0 : v 0 = _ := hv 0 (by decide)
         have r1 : v 1 = _ := hv 1 (by decide)
         have r2 : v 2 = _ := hv 2 (by decide)
         have r3 : v 3 = _ := hv 3 (by decide)
         have r4 : v 4 = _ := hv 4 (by decide)
         have r5 : v 5 = _ := hv 5 (by decide)
         have r6 : v 6 = _ := hv 6 (by decide)
         have r7 : v 7 = _ := hv 7 (by decide)
         have r8 : v 8 = _ := hv 8 (by decide)
         have r9 : v 9 = _ := hv 9 (by decide)
         have r10 : v 10 = _ := hv 10 (by decide)
         have r11 : v 11 = _ := hv 11 (by decide)
         have r12 : v 12 = _ := hv 12 (by decide)
         have r13 : v 13 = _ := hv 13 (by decide)
         have r14 : v 14 = _ := hv 14 (by decide)
         have r15 : v 15 = _ := hv 15 (by decide)
         have r16 : v 16 = _ := hv 16 (by decide)
         have r17 : v 17 = _ := hv 17 (by decide)
         have r18 : v 18 = _ := hv 18 (by decide)
         simp only [Reg.putAll, Act.put, List.setIfInBounds_toArray, List.set_cons_zero, List.set_cons_succ, r0, r1, r2, r3, r4, r5, r6, r7, r8, r9, r10, r11, r12, r13, r14, r15, r16, r17, r18]
         clear r0 r1 r2 r3 r4 r5 r6 r7 r8 r9 r10 r11 r12 r13 r14 r15 r16 r17 r18 hv
         have HBw := Lib.hid (HBel.out.trans (((Below.alloc (Below.refl _ _) (Nat.le_refl _) _).trans (hb2.mono (by simp))).mono HBel.out.size)); clear hb2
         go_wp2_with fail
         go_roundw
         case rel => exact ⟨(j + 1) + 1, by omega, by go_num, Om.upTo_succ HU.out HX.out, HBw.out⟩
         case measure => simp [intOf]; omega
    ·obtain rfl : k = n := by omega
     go_wp2_with fail
     go_ret
     exact ⟨ret_bool (by simp [Tm.may, HL.out, HU.out]), HBel.out⟩
theorem treeMay_any (d : Nat) (a : Option Addr) (n cap : Nat) (l : List Tm.N) (W : World) (hr : TRow W d a cap l) (hl : l.length = n) :
  Calls Try.prog 10 #[.slice a n cap] W fun e w' => e = .returned (.bool (Tm.may strLt 3 l)) ∧ Below W.heap.size W w' := by
 have HR := Lib.hid hr; have HL := Lib.hid hl
 clear hr hl
 go_enter Try.func10, Try.ntmps10
 go_wp2_with fail
 refine (mayBelow_any 3 (by omega) d a n cap l _ HR.out HL.out).mono ?_
 rintro e w1 ⟨rfl, hb⟩
 have HB := Lib.hid hb; clear hb
 go_wp2_with fail
 go_ret
 exact ⟨rfl, HB.out⟩
end Go.Proofs.Ytplafpchgfjomaa
