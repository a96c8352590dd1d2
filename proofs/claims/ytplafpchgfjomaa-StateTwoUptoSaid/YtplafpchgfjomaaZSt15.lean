import Derived.Test.YtplafpchgfjomaaZSt1
import Derived.Test.YtplafpchgfjomaaZReg
import Derived.Test.YtplafpchgfjomaaZLeaf5
namespace Go.Proofs.Ytplafpchgfjomaa
open Go.RowKit Go.Buf Go.LB
set_option linter.unusedSimpArgs false
set_option linter.unusedVariables false
theorem take_eq {α : Type} {l m : List α} {j : Nat} {x y : α} (hx : l[j]? = some x) (hy : m[j]? = some y) (h : l.take j = m.take j) (he : x = y) : l.take (j + 1) = m.take (j + 1) := by
 obtain ⟨h1, rfl⟩ := List.getElem?_eq_some_iff.1 hx
 obtain ⟨h2, rfl⟩ := List.getElem?_eq_some_iff.1 hy
 rw [List.take_succ_eq_append_getElem h1, List.take_succ_eq_append_getElem h2, h, he]
theorem ne_at {α : Type} {l m : List α} {j : Nat} {x y : α} (hx : l[j]? = some x) (hy : m[j]? = some y) (he : x ≠ y) : l ≠ m := fun h => he (by subst h; rw [hx] at hy; exact Option.some.inj hy)
theorem same_eq {a b : Lm.L} : Lm.same a b = true ↔ a = b := by
 rw [Lm.same_iff]
 cases a; cases b
 simp only [Lm.L.mk.injEq]
theorem no_iff {P : Prop} (h : ¬ P) : (false = true ↔ P) := by simp [h]
theorem str_ne2 {d e : ByteArray} (h : d ≠ e) : (d.toList != e.toList) = true := by simp [bne, str_ne h]
set_option maxRecDepth 100000 in
set_option maxHeartbeats 25600000 in
theorem refSame_any : ∀ (m d d2 : Nat) (a a2 : Option Addr) (n n2 cap cap2 : Nat) (t t2 : List Tm.N) (W : World), TRow W d a cap t → TRow W d2 a2 cap2 t2 → t.length = n → t2.length = n2 → deepT m t →
  Calls Try.prog 7 #[.slice a n cap, .slice a2 n2 cap2] W fun e w' => (∃ b, e = .returned (.bool b) ∧ (b = true ↔ t = t2)) ∧ Below W.heap.size W w' := by
 intro m
 induction m with
 | zero =>
  intro d d2 a a2 n n2 cap cap2 t t2 W ht ht2 hn hn2 hd
  obtain rfl : t = [] := hd
  obtain rfl : n = 0 := by simpa using hn.symm
  by_cases h0 : 0 = n2
  ·subst h0
   obtain rfl : t2 = [] := List.eq_nil_of_length_eq_zero hn2
   clear ht ht2 hn hn2
   go_enter Try.func7, Try.ntmps7
   go_wp2_with fail
   go_loopw [5] (fun i wr => i = .int .i64 0 ∧ wr = W) (fun _ _ => 0)
   case atStart => exact ⟨rfl, rfl⟩
   case round =>
    obtain ⟨rfl, rfl⟩ := hrel
    go_wp2_with fail
    go_ret
    exact ⟨⟨true, rfl, by simp⟩, Below.refl _ _⟩
  ·have h1 : ((0 : Int) == (n2 : Int)) = false := by simp; omega
   have h2 : ((0 : Int) != (n2 : Int)) = true := by simp; omega
   have hne : ([] : List Tm.N) ≠ t2 := fun h => by rw [← h] at hn2; simp at hn2; omega
   have HNe := Lib.hid hne
   clear ht ht2 hn hn2 hne
   go_enter Try.func7, Try.ntmps7
   go_wp2_with fail
   go_ret
   exact ⟨⟨false, rfl, no_iff HNe.out⟩, Below.refl _ _⟩
 | succ m ih =>
  intro d d2 a a2 n n2 cap cap2 t t2 W ht ht2 hn hn2 hd
  have IH := Lib.hid ih; clear ih
  by_cases h0 : n = n2
  case neg =>
   have h1 : ((n : Int) == (n2 : Int)) = false := by simp; omega
   have h2 : ((n : Int) != (n2 : Int)) = true := by simp; omega
   have hne : t ≠ t2 := fun h => by rw [h] at hn; omega
   have HNe := Lib.hid hne
   clear ht ht2 hn hn2 hd hne
   go_enter Try.func7, Try.ntmps7
   go_wp2_with fail
   go_ret
   exact ⟨⟨false, rfl, no_iff HNe.out⟩, Below.refl _ _⟩
  subst h0
  have hle := ht.le
  have hcap := ht.cap
  have hle2 := ht2.le
  have hcap2 := ht2.cap
  rw [hn] at hle
  rw [hn2] at hle2
  have HT := Lib.hid ht; have HT2 := Lib.hid ht2; have HN := Lib.hid hn; have HN2 := Lib.hid hn2; have HD := Lib.hid hd
  clear ht ht2 hn hn2 hd
  go_enter Try.func7, Try.ntmps7
  go_wp2_with fail
  go_loopw [5] (fun i wr => ∃ j : Nat, j ≤ n ∧ i = .int .i64 j ∧ t.take j = t2.take j ∧ Below W.heap.size W wr) (fun i _ => n - (intOf i).toNat)
  case atStart => exact ⟨0, Nat.zero_le _, rfl, by simp, Below.refl _ _⟩
  case round =>
   obtain ⟨j, hj, rfl, htk, hbel⟩ := hrel
   have HBel := Lib.hid hbel; have HTk := Lib.hid htk; clear hbel htk
   by_cases hlt : j < n
   ·obtain ⟨x, hx⟩ := someN (l := t) (i := j) (by rw [HN.out]; exact hlt)
    obtain ⟨y, hy⟩ := someN (l := t2) (i := j) (by rw [HN2.out]; exact hlt)
    obtain ⟨dm, blk, off, _, rfl, hblt, hc⟩ := HT.out.at (by rw [HN.out]; omega)
    obtain ⟨dm2, blk2, off2, _, rfl, hblt2, hc2⟩ := HT2.out.at (by rw [HN2.out]; omega)
    obtain ⟨⟨s1, s2, s3⟩, la, lc, ba, bc, ⟨q0, q1, q2⟩, hlr, htr⟩ := hc j x hx
    obtain ⟨⟨z1, z2, z3⟩, la2, lc2, ba2, bc2, ⟨v0, v1, v2⟩, hlr2, htr2⟩ := hc2 j y hy
    have hdu := HD.out x (List.mem_of_getElem? hx)
    obtain ⟨nm, ls, us⟩ := x
    obtain ⟨nm2, ls2, us2⟩ := y
    simp only [Tm.N.name_mk, Tm.N.leaves_mk, Tm.N.under_mk] at q0 q1 q2 v0 v1 v2 hlr htr hlr2 htr2 hdu
    obtain ⟨ll, hll⟩ : ∃ m, ls.length = m := ⟨_, rfl⟩
    obtain ⟨bl, hbl⟩ : ∃ m, us.length = m := ⟨_, rfl⟩
    obtain ⟨ll2, hll2⟩ : ∃ m, ls2.length = m := ⟨_, rfl⟩
    obtain ⟨bl2, hbl2⟩ : ∃ m, us2.length = m := ⟨_, rfl⟩
    rw [hll] at q1; rw [hbl] at q2; rw [hll2] at v1; rw [hbl2] at v2
    have hlle := hlr.le; have hlcap := hlr.cap; have hlle2 := hlr2.le; have hlcap2 := hlr2.cap
    rw [hll] at hlle; rw [hll2] at hlle2
    have HQ1 := Lib.hid q1; have HV1 := Lib.hid v1
    have HP0 := Lib.hid (bcell_of HBel.out q0); have HP1 := Lib.hid (bcell_of HBel.out q1); have HP2 := Lib.hid (bcell_of HBel.out q2); have HR0 := Lib.hid (bcell_of HBel.out v0); have HR1 := Lib.hid (bcell_of HBel.out v1); have HR2 := Lib.hid (bcell_of HBel.out v2)
    have HX := Lib.hid hx; have HY := Lib.hid hy; have HLr := Lib.hid hlr; have HLr2 := Lib.hid hlr2; have HTr := Lib.hid htr; have HTr2 := Lib.hid htr2; have HDu := Lib.hid hdu; have HLl := Lib.hid hll; have HLl2 := Lib.hid hll2; have HBl := Lib.hid hbl; have HBl2 := Lib.hid hbl2
    have i0 : (0 : Int) ≤ (j : Int) := by omega
    have i1 : (j : Int) < (n : Int) := by omega
    clear hc hc2 q0 q1 q2 v0 v1 v2 hx hy hlr hlr2 htr htr2 hdu hll hll2 hbl hbl2 s1 s2 s3 z1 z2 z3
    by_cases hnm : nm = nm2
    case neg =>
     have HNe := Lib.hid (str_ne hnm); have HNe2 := Lib.hid (str_ne2 hnm); have HNm := Lib.hid hnm
     clear hnm
     go_wp2_with fail
     refine Reg.region_list (by kernel_rfl) [fun v _ => v = .slice (some ⟨blk, off, none⟩) n cap, fun v _ => v = .int .i64 (j : Int), fun v _ => v = .pointer (some ⟨blk, off + j * 3, none⟩), fun v _ => v = .pointer (some ⟨blk, off + j * 3, none⟩), fun v _ => v = .string nm, fun v _ => v = .slice (some ⟨blk2, off2, none⟩) n cap2, fun v _ => v = .int .i64 (j : Int), fun v _ => v = .pointer (some ⟨blk2, off2 + j * 3, none⟩), fun v _ => v = .pointer (some ⟨blk2, off2 + j * 3, none⟩), fun v _ => v = .string nm2, fun v _ => v = .bool true, fun v _ => v = .bool true, fun v _ => v = undef, fun v _ => v = undef, fun v _ => v = undef, fun v _ => v = undef, fun v _ => v = undef, fun v _ => v = undef, fun v _ => v = undef, fun v _ => v = undef, fun v _ => v = undef, fun v _ => v = undef, fun v _ => v = undef, fun v _ => v = undef, fun v _ => v = undef, fun v _ => v = .bool true, fun v _ => v = .bool true, fun v _ => v = undef, fun v _ => v = undef, fun v _ => v = undef, fun v _ => v = undef, fun v _ => v = undef, fun v _ => v = undef, fun v _ => v = undef, fun v _ => v = undef, fun v _ => v = undef, fun v _ => v = undef, fun v _ => v = undef, fun v _ => v = undef, fun v _ => v = .bool true] (by kernel_rfl) ?_ ?_ ?_
     ·refine ⟨k4, k4, k4, k4, k4, k4, k4, k4, k4, k4, k4, k4, k4, k4, k4, k4, k4, k4, k4, k4, k4, k4, k4, k4, k4, k4, k4, k4, k4, k4, k4, k4, k4, k4, k4, k4, k4, k4, k4, k4, trivial⟩
     ·refine ⟨?_, ?_, ?_, ?_, ?_, ?_, ?_, ?_, ?_, ?_, ?_, ?_, ?_, ?_, ?_, ?_, ?_, ?_, ?_, ?_, ?_, ?_, ?_, ?_, ?_, ?_, ?_, ?_, ?_, ?_, ?_, ?_, ?_, ?_, ?_, ?_, ?_, ?_, ?_, ?_, trivial⟩
      ·intro ev w hc hf hg hfix hdep hbel
       have e0 : ev (.tmp 0) = _ := hfix 0 (by decide)
       exact okb trivial rfl (by go_simp)
      ·intro ev w hc hf hg hfix hdep hbel
       have e5 : ev (.tmp 5) = _ := hfix 5 (by decide)
       exact okb trivial rfl (by go_simp)
      ·intro ev w hc hf hg hfix hdep hbel
       have e18 : ev (.tmp 18) = _ := hdep 0 (by decide)
       have e19 : ev (.tmp 19) = _ := hdep 1 (by decide)
       exact okb trivial rfl (by go_simp)
      ·intro ev w hc hf hg hfix hdep hbel
       have e20 : ev (.tmp 20) = _ := hdep 2 (by decide)
       exact okb trivial rfl (by go_simp)
      ·intro ev w hc hf hg hfix hdep hbel
       have e21 : ev (.tmp 21) = _ := hdep 3 (by decide)
       have hbw : Below wr.heap.size wr w := undrewX hbel
       have p0 := bcell_of hbw HP0.out; have r0 := bcell_of hbw HR0.out; have p1 := bcell_of hbw HP1.out; have r1 := bcell_of hbw HR1.out; have p2 := bcell_of hbw HP2.out; have r2 := bcell_of hbw HR2.out
       exact okb trivial rfl (by go_simp)
      ·intro ev w hc hf hg hfix hdep hbel
       have e1 : ev (.tmp 1) = _ := hfix 1 (by decide)
       exact okb trivial rfl (by go_simp)
      ·intro ev w hc hf hg hfix hdep hbel
       have e5 : ev (.tmp 5) = _ := hfix 5 (by decide)
       exact okb trivial rfl (by go_simp)
      ·intro ev w hc hf hg hfix hdep hbel
       have e23 : ev (.tmp 23) = _ := hdep 5 (by decide)
       have e24 : ev (.tmp 24) = _ := hdep 6 (by decide)
       exact okb trivial rfl (by go_simp)
      ·intro ev w hc hf hg hfix hdep hbel
       have e25 : ev (.tmp 25) = _ := hdep 7 (by decide)
       exact okb trivial rfl (by go_simp)
      ·intro ev w hc hf hg hfix hdep hbel
       have e26 : ev (.tmp 26) = _ := hdep 8 (by decide)
       have hbw : Below wr.heap.size wr w := undrewX hbel
       have p0 := bcell_of hbw HP0.out; have r0 := bcell_of hbw HR0.out; have p1 := bcell_of hbw HP1.out; have r1 := bcell_of hbw HR1.out; have p2 := bcell_of hbw HP2.out; have r2 := bcell_of hbw HR2.out
       exact okb trivial rfl (by go_simp)
      ·intro ev w hc hf hg hfix hdep hbel
       have e22 : ev (.tmp 22) = _ := hdep 4 (by decide)
       have e27 : ev (.tmp 27) = _ := hdep 9 (by decide)
       have hne := HNe.out
       have hne2 := HNe2.out
       exact okb trivial rfl (by go_simp)
      ·intro ev w hc hf hg hfix hdep hbel
       have e28 : ev (.tmp 28) = _ := hdep 10 (by decide)
       exact okb trivial rfl (by go_simp)
      ·intro ev w hc hf hg hfix hdep hbel
       have fg : ev (.tmp 29) = _ := hdep 11 (by decide)
       exact Or.inr ⟨Or.inl fg, rfl⟩
      ·intro ev w hc hf hg hfix hdep hbel
       have fg : ev (.tmp 29) = _ := hdep 11 (by decide)
       exact Or.inr ⟨Or.inl fg, rfl⟩
      ·intro ev w hc hf hg hfix hdep hbel
       have fg : ev (.tmp 29) = _ := hdep 11 (by decide)
       exact Or.inr ⟨Or.inl fg, rfl⟩
      ·intro ev w hc hf hg hfix hdep hbel
       have fg : ev (.tmp 29) = _ := hdep 11 (by decide)
       exact Or.inr ⟨Or.inl fg, rfl⟩
      ·intro ev w hc hf hg hfix hdep hbel
       have fg : ev (.tmp 29) = _ := hdep 11 (by decide)
       exact Or.inr ⟨Or.inl fg, rfl⟩
      ·intro ev w hc hf hg hfix hdep hbel
       have fg : ev (.tmp 29) = _ := hdep 11 (by decide)
       exact Or.inr ⟨Or.inl fg, rfl⟩
      ·intro ev w hc hf hg hfix hdep hbel
       have fg : ev (.tmp 29) = _ := hdep 11 (by decide)
       exact Or.inr ⟨Or.inl fg, rfl⟩
      ·intro ev w hc hf hg hfix hdep hbel
       have fg : ev (.tmp 29) = _ := hdep 11 (by decide)
       exact Or.inr ⟨Or.inl fg, rfl⟩
      ·intro ev w hc hf hg hfix hdep hbel
       have fg : ev (.tmp 29) = _ := hdep 11 (by decide)
       exact Or.inr ⟨Or.inl fg, rfl⟩
      ·intro ev w hc hf hg hfix hdep hbel
       have fg : ev (.tmp 29) = _ := hdep 11 (by decide)
       exact Or.inr ⟨Or.inl fg, rfl⟩
      ·intro ev w hc hf hg hfix hdep hbel
       have fg : ev (.tmp 29) = _ := hdep 11 (by decide)
       exact Or.inr ⟨Or.inl fg, rfl⟩
      ·intro ev w hc hf hg hfix hdep hbel
       have fg : ev (.tmp 29) = _ := hdep 11 (by decide)
       exact Or.inr ⟨Or.inl fg, rfl⟩
      ·intro ev w hc hf hg hfix hdep hbel
       have fg : ev (.tmp 29) = _ := hdep 11 (by decide)
       exact Or.inr ⟨Or.inl fg, rfl⟩
      ·intro ev w hc hf hg hfix hdep hbel
       have e29 : ev (.tmp 29) = _ := hdep 11 (by decide)
       have e42 : ev (.tmp 42) = _ := hdep 24 (by decide)
       exact okb trivial rfl (by go_simp)
      ·intro ev w hc hf hg hfix hdep hbel
       have e43 : ev (.tmp 43) = _ := hdep 25 (by decide)
       exact okb trivial rfl (by go_simp)
      ·intro ev w hc hf hg hfix hdep hbel
       have fg : ev (.tmp 44) = _ := hdep 26 (by decide)
       exact Or.inr ⟨Or.inl fg, rfl⟩
      ·intro ev w hc hf hg hfix hdep hbel
       have fg : ev (.tmp 44) = _ := hdep 26 (by decide)
       exact Or.inr ⟨Or.inl fg, rfl⟩
      ·intro ev w hc hf hg hfix hdep hbel
       have fg : ev (.tmp 44) = _ := hdep 26 (by decide)
       exact Or.inr ⟨Or.inl fg, rfl⟩
      ·intro ev w hc hf hg hfix hdep hbel
       have fg : ev (.tmp 44) = _ := hdep 26 (by decide)
       exact Or.inr ⟨Or.inl fg, rfl⟩
      ·intro ev w hc hf hg hfix hdep hbel
       have fg : ev (.tmp 44) = _ := hdep 26 (by decide)
       exact Or.inr ⟨Or.inl fg, rfl⟩
      ·intro ev w hc hf hg hfix hdep hbel
       have fg : ev (.tmp 44) = _ := hdep 26 (by decide)
       exact Or.inr ⟨Or.inl fg, rfl⟩
      ·intro ev w hc hf hg hfix hdep hbel
       have fg : ev (.tmp 44) = _ := hdep 26 (by decide)
       exact Or.inr ⟨Or.inl fg, rfl⟩
      ·intro ev w hc hf hg hfix hdep hbel
       have fg : ev (.tmp 44) = _ := hdep 26 (by decide)
       exact Or.inr ⟨Or.inl fg, rfl⟩
      ·intro ev w hc hf hg hfix hdep hbel
       have fg : ev (.tmp 44) = _ := hdep 26 (by decide)
       exact Or.inr ⟨Or.inl fg, rfl⟩
      ·intro ev w hc hf hg hfix hdep hbel
       have fg : ev (.tmp 44) = _ := hdep 26 (by decide)
       exact Or.inr ⟨Or.inl fg, rfl⟩
      ·intro ev w hc hf hg hfix hdep hbel
       have fg : ev (.tmp 44) = _ := hdep 26 (by decide)
       exact Or.inr ⟨Or.inl fg, rfl⟩
      ·intro ev w hc hf hg hfix hdep hbel
       have fg : ev (.tmp 44) = _ := hdep 26 (by decide)
       exact Or.inr ⟨Or.inl fg, rfl⟩
      ·intro ev w hc hf hg hfix hdep hbel
       have e44 : ev (.tmp 44) = _ := hdep 26 (by decide)
       have e56 : ev (.tmp 56) = _ := hdep 38 (by decide)
       exact okb trivial rfl (by go_simp)
     ·intro v w2 hv hb2
      have r0 : v 0 = _ := hv 0 (by decide)
      have r1 : v 1 = _ := hv 1 (by decide)
      have r2 : v 2 = _ := hv 2 (by decide)
      have r3 : v 3 = _ := hv 3 (by decide)
      have r4 : v 4 = _ := hv 4 (by decide)
      have r5 : v 5 = _ := hv 5 (by decide)
      have r6 : v 6 = _ := hv 6 (by decide)
      have r7 : v 7 = _ := hv 7 (by decide)
      have r8 : v 8 = _ := hv 8 (by decide)
      have r9 : v 9 = _ := hv 9 (by decide)
      have r10 : v 10 = _ := hv 10 (by decide)
      have r11 : v 11 = _ := hv 11 (by decide)
      have r12 : v 12 = _ := hv 12 (by decide)
      have r13 : v 13 = _ := hv 13 (by decide)
      have r14 : v 14 = _ := hv 14 (by decide)
      have r15 : v 15 = _ := hv 15 (by decide)
      have r16 : v 16 = _ := hv 16 (by decide)
      have r17 : v 17 = _ := hv 17 (by decide)
      have r18 : v 18 = _ := hv 18 (by decide)
      have r19 : v 19 = _ := hv 19 (by decide)
      have r20 : v 20 = _ := hv 20 (by decide)
      have r21 : v 21 = _ := hv 21 (by decide)
      have r22 : v 22 = _ := hv 22 (by decide)
      have r23 : v 23 = _ := hv 23 (by decide)
      have r24 : v 24 = _ := hv 24 (by decide)
      have r25 : v 25 = _ := hv 25 (by decide)
      have r26 : v 26 = _ := hv 26 (by decide)
      have r27 : v 27 = _ := hv 27 (by decide)
      have r28 : v 28 = _ := hv 28 (by decide)
      have r29 : v 29 = _ := hv 29 (by decide)
      have r30 : v 30 = _ := hv 30 (by decide)
      have r31 : v 31 = _ := hv 31 (by decide)
      have r32 : v 32 = _ := hv 32 (by decide)
      have r33 : v 33 = _ := hv 33 (by decide)
      have r34 : v 34 = _ := hv 34 (by decide)
      have r35 : v 35 = _ := hv 35 (by decide)
      have r36 : v 36 = _ := hv 36 (by decide)
      have r37 : v 37 = _ := hv 37 (by decide)
      have r38 : v 38 = _ := hv 38 (by decide)
      have r39 : v 39 = _ := hv 39 (by decide)
      simp only [Reg.putAll, Act.put, List.setIfInBounds_toArray, List.set_cons_zero, List.set_cons_succ, r0, r1, r2, r3, r4, r5, r6, r7, r8, r9, r10, r11, r12, r13, r14, r15, r16, r17, r18, r19, r20, r21, r22, r23, r24, r25, r26, r27, r28, r29, r30, r31, r32, r33, r34, r35, r36, r37, r38, r39]
      clear r0 r1 r2 r3 r4 r5 r6 r7 r8 r9 r10 r11 r12 r13 r14 r15 r16 r17 r18 r19 r20 r21 r22 r23 r24 r25 r26 r27 r28 r29 r30 r31 r32 r33 r34 r35 r36 r37 r38 r39 hv
      have HBw := Lib.hid (HBel.out.trans (hb2.mono HBel.out.size)); clear hb2
      go_wp2_with fail
      go_ret
      exact ⟨⟨false, rfl, no_iff (ne_at HX.out HY.out (fun e => HNm.out (by simpa using congrArg Tm.N.name e)))⟩, HBw.out⟩
    subst hnm
    have HNq := Lib.hid (show (nm.toList == nm.toList) = true by simp)
    by_cases hl : ll = ll2
    case neg =>
     have HLne := Lib.hid (show ((ll : Int) == (ll2 : Int)) = false ∧ ((ll : Int) != (ll2 : Int)) = true by constructor <;> (simp; omega)); have HL0 := Lib.hid hl
     clear hl
     go_wp2_with fail
     refine Reg.region_list (by kernel_rfl) [fun v _ => v = .slice (some ⟨blk, off, none⟩) n cap, fun v _ => v = .int .i64 (j : Int), fun v _ => v = .pointer (some ⟨blk, off + j * 3, none⟩), fun v _ => v = .pointer (some ⟨blk, off + j * 3, none⟩), fun v _ => v = .string nm, fun v _ => v = .slice (some ⟨blk2, off2, none⟩) n cap2, fun v _ => v = .int .i64 (j : Int), fun v _ => v = .pointer (some ⟨blk2, off2 + j * 3, none⟩), fun v _ => v = .pointer (some ⟨blk2, off2 + j * 3, none⟩), fun v _ => v = .string nm, fun v _ => v = .bool false, fun v _ => v = .bool false, fun v _ => v = .slice (some ⟨blk, off, none⟩) n cap, fun v _ => v = .int .i64 (j : Int), fun v _ => v = .pointer (some ⟨blk, off + j * 3, none⟩), fun v _ => v = .pointer (some ⟨blk, off + j * 3 + 1, none⟩), fun v _ => v = .slice la ll lc, fun v _ => v = .int .i64 ll, fun v _ => v = .slice (some ⟨blk2, off2, none⟩) n cap2, fun v _ => v = .int .i64 (j : Int), fun v _ => v = .pointer (some ⟨blk2, off2 + j * 3, none⟩), fun v _ => v = .pointer (some ⟨blk2, off2 + j * 3 + 1, none⟩), fun v _ => v = .slice la2 ll2 lc2, fun v _ => v = .int .i64 ll2, fun v _ => v = .bool true, fun v _ => v = .bool true, fun v _ => v = .bool true, fun v _ => v = undef, fun v _ => v = undef, fun v _ => v = undef, fun v _ => v = undef, fun v _ => v = undef, fun v _ => v = undef, fun v _ => v = undef, fun v _ => v = undef, fun v _ => v = undef, fun v _ => v = undef, fun v _ => v = undef, fun v _ => v = undef, fun v _ => v = .bool true] (by kernel_rfl) ?_ ?_ ?_
     ·refine ⟨k4, k4, k4, k4, k4, k4, k4, k4, k4, k4, k4, k4, k4, k4, k4, k4, k4, k4, k4, k4, k4, k4, k4, k4, k4, k4, k4, k4, k4, k4, k4, k4, k4, k4, k4, k4, k4, k4, k4, k4, trivial⟩
     ·refine ⟨?_, ?_, ?_, ?_, ?_, ?_, ?_, ?_, ?_, ?_, ?_, ?_, ?_, ?_, ?_, ?_, ?_, ?_, ?_, ?_, ?_, ?_, ?_, ?_, ?_, ?_, ?_, ?_, ?_, ?_, ?_, ?_, ?_, ?_, ?_, ?_, ?_, ?_, ?_, ?_, trivial⟩
      ·intro ev w hc hf hg hfix hdep hbel
       have e0 : ev (.tmp 0) = _ := hfix 0 (by decide)
       exact okb trivial rfl (by go_simp)
      ·intro ev w hc hf hg hfix hdep hbel
       have e5 : ev (.tmp 5) = _ := hfix 5 (by decide)
       exact okb trivial rfl (by go_simp)
      ·intro ev w hc hf hg hfix hdep hbel
       have e18 : ev (.tmp 18) = _ := hdep 0 (by decide)
       have e19 : ev (.tmp 19) = _ := hdep 1 (by decide)
       exact okb trivial rfl (by go_simp)
      ·intro ev w hc hf hg hfix hdep hbel
       have e20 : ev (.tmp 20) = _ := hdep 2 (by decide)
       exact okb trivial rfl (by go_simp)
      ·intro ev w hc hf hg hfix hdep hbel
       have e21 : ev (.tmp 21) = _ := hdep 3 (by decide)
       have hbw : Below wr.heap.size wr w := undrewX hbel
       have p0 := bcell_of hbw HP0.out; have r0 := bcell_of hbw HR0.out; have p1 := bcell_of hbw HP1.out; have r1 := bcell_of hbw HR1.out; have p2 := bcell_of hbw HP2.out; have r2 := bcell_of hbw HR2.out
       exact okb trivial rfl (by go_simp)
      ·intro ev w hc hf hg hfix hdep hbel
       have e1 : ev (.tmp 1) = _ := hfix 1 (by decide)
       exact okb trivial rfl (by go_simp)
      ·intro ev w hc hf hg hfix hdep hbel
       have e5 : ev (.tmp 5) = _ := hfix 5 (by decide)
       exact okb trivial rfl (by go_simp)
      ·intro ev w hc hf hg hfix hdep hbel
       have e23 : ev (.tmp 23) = _ := hdep 5 (by decide)
       have e24 : ev (.tmp 24) = _ := hdep 6 (by decide)
       exact okb trivial rfl (by go_simp)
      ·intro ev w hc hf hg hfix hdep hbel
       have e25 : ev (.tmp 25) = _ := hdep 7 (by decide)
       exact okb trivial rfl (by go_simp)
      ·intro ev w hc hf hg hfix hdep hbel
       have e26 : ev (.tmp 26) = _ := hdep 8 (by decide)
       have hbw : Below wr.heap.size wr w := undrewX hbel
       have p0 := bcell_of hbw HP0.out; have r0 := bcell_of hbw HR0.out; have p1 := bcell_of hbw HP1.out; have r1 := bcell_of hbw HR1.out; have p2 := bcell_of hbw HP2.out; have r2 := bcell_of hbw HR2.out
       exact okb trivial rfl (by go_simp)
      ·intro ev w hc hf hg hfix hdep hbel
       have e22 : ev (.tmp 22) = _ := hdep 4 (by decide)
       have e27 : ev (.tmp 27) = _ := hdep 9 (by decide)
       have heq := HNq.out
       exact okb trivial rfl (by go_simp)
      ·intro ev w hc hf hg hfix hdep hbel
       have e28 : ev (.tmp 28) = _ := hdep 10 (by decide)
       exact okb trivial rfl (by go_simp)
      ·intro ev w hc hf hg hfix hdep hbel
       have fg : ev (.tmp 29) = _ := hdep 11 (by decide)
       have e0 : ev (.tmp 0) = _ := hfix 0 (by decide)
       exact okb fg rfl (by go_simp)
      ·intro ev w hc hf hg hfix hdep hbel
       have fg : ev (.tmp 29) = _ := hdep 11 (by decide)
       have e5 : ev (.tmp 5) = _ := hfix 5 (by decide)
       exact okb fg rfl (by go_simp)
      ·intro ev w hc hf hg hfix hdep hbel
       have fg : ev (.tmp 29) = _ := hdep 11 (by decide)
       have e30 : ev (.tmp 30) = _ := hdep 12 (by decide)
       have e31 : ev (.tmp 31) = _ := hdep 13 (by decide)
       exact okb fg rfl (by go_simp)
      ·intro ev w hc hf hg hfix hdep hbel
       have fg : ev (.tmp 29) = _ := hdep 11 (by decide)
       have e32 : ev (.tmp 32) = _ := hdep 14 (by decide)
       exact okb fg rfl (by go_simp)
      ·intro ev w hc hf hg hfix hdep hbel
       have fg : ev (.tmp 29) = _ := hdep 11 (by decide)
       have e33 : ev (.tmp 33) = _ := hdep 15 (by decide)
       have hbw : Below wr.heap.size wr w := undrewX hbel
       have p0 := bcell_of hbw HP0.out; have r0 := bcell_of hbw HR0.out; have p1 := bcell_of hbw HP1.out; have r1 := bcell_of hbw HR1.out; have p2 := bcell_of hbw HP2.out; have r2 := bcell_of hbw HR2.out
       exact okb fg rfl (by go_simp)
      ·intro ev w hc hf hg hfix hdep hbel
       have fg : ev (.tmp 29) = _ := hdep 11 (by decide)
       have e34 : ev (.tmp 34) = _ := hdep 16 (by decide)
       exact okb fg rfl (by go_simp)
      ·intro ev w hc hf hg hfix hdep hbel
       have fg : ev (.tmp 29) = _ := hdep 11 (by decide)
       have e1 : ev (.tmp 1) = _ := hfix 1 (by decide)
       exact okb fg rfl (by go_simp)
      ·intro ev w hc hf hg hfix hdep hbel
       have fg : ev (.tmp 29) = _ := hdep 11 (by decide)
       have e5 : ev (.tmp 5) = _ := hfix 5 (by decide)
       exact okb fg rfl (by go_simp)
      ·intro ev w hc hf hg hfix hdep hbel
       have fg : ev (.tmp 29) = _ := hdep 11 (by decide)
       have e36 : ev (.tmp 36) = _ := hdep 18 (by decide)
       have e37 : ev (.tmp 37) = _ := hdep 19 (by decide)
       exact okb fg rfl (by go_simp)
      ·intro ev w hc hf hg hfix hdep hbel
       have fg : ev (.tmp 29) = _ := hdep 11 (by decide)
       have e38 : ev (.tmp 38) = _ := hdep 20 (by decide)
       exact okb fg rfl (by go_simp)
      ·intro ev w hc hf hg hfix hdep hbel
       have fg : ev (.tmp 29) = _ := hdep 11 (by decide)
       have e39 : ev (.tmp 39) = _ := hdep 21 (by decide)
       have hbw : Below wr.heap.size wr w := undrewX hbel
       have p0 := bcell_of hbw HP0.out; have r0 := bcell_of hbw HR0.out; have p1 := bcell_of hbw HP1.out; have r1 := bcell_of hbw HR1.out; have p2 := bcell_of hbw HP2.out; have r2 := bcell_of hbw HR2.out
       exact okb fg rfl (by go_simp)
      ·intro ev w hc hf hg hfix hdep hbel
       have fg : ev (.tmp 29) = _ := hdep 11 (by decide)
       have e40 : ev (.tmp 40) = _ := hdep 22 (by decide)
       exact okb fg rfl (by go_simp)
      ·intro ev w hc hf hg hfix hdep hbel
       have fg : ev (.tmp 29) = _ := hdep 11 (by decide)
       have e35 : ev (.tmp 35) = _ := hdep 17 (by decide)
       have e41 : ev (.tmp 41) = _ := hdep 23 (by decide)
       have hl1 := HLne.out.1
       have hl2 := HLne.out.2
       exact okb fg rfl (by go_simp)
      ·intro ev w hc hf hg hfix hdep hbel
       have e29 : ev (.tmp 29) = _ := hdep 11 (by decide)
       have e42 : ev (.tmp 42) = _ := hdep 24 (by decide)
       exact okb trivial rfl (by go_simp)
      ·intro ev w hc hf hg hfix hdep hbel
       have e43 : ev (.tmp 43) = _ := hdep 25 (by decide)
       exact okb trivial rfl (by go_simp)
      ·intro ev w hc hf hg hfix hdep hbel
       have fg : ev (.tmp 44) = _ := hdep 26 (by decide)
       exact Or.inr ⟨Or.inl fg, rfl⟩
      ·intro ev w hc hf hg hfix hdep hbel
       have fg : ev (.tmp 44) = _ := hdep 26 (by decide)
       exact Or.inr ⟨Or.inl fg, rfl⟩
      ·intro ev w hc hf hg hfix hdep hbel
       have fg : ev (.tmp 44) = _ := hdep 26 (by decide)
       exact Or.inr ⟨Or.inl fg, rfl⟩
      ·intro ev w hc hf hg hfix hdep hbel
       have fg : ev (.tmp 44) = _ := hdep 26 (by decide)
       exact Or.inr ⟨Or.inl fg, rfl⟩
      ·intro ev w hc hf hg hfix hdep hbel
       have fg : ev (.tmp 44) = _ := hdep 26 (by decide)
       exact Or.inr ⟨Or.inl fg, rfl⟩
      ·intro ev w hc hf hg hfix hdep hbel
       have fg : ev (.tmp 44) = _ := hdep 26 (by decide)
       exact Or.inr ⟨Or.inl fg, rfl⟩
      ·intro ev w hc hf hg hfix hdep hbel
       have fg : ev (.tmp 44) = _ := hdep 26 (by decide)
       exact Or.inr ⟨Or.inl fg, rfl⟩
      ·intro ev w hc hf hg hfix hdep hbel
       have fg : ev (.tmp 44) = _ := hdep 26 (by decide)
       exact Or.inr ⟨Or.inl fg, rfl⟩
      ·intro ev w hc hf hg hfix hdep hbel
       have fg : ev (.tmp 44) = _ := hdep 26 (by decide)
       exact Or.inr ⟨Or.inl fg, rfl⟩
      ·intro ev w hc hf hg hfix hdep hbel
       have fg : ev (.tmp 44) = _ := hdep 26 (by decide)
       exact Or.inr ⟨Or.inl fg, rfl⟩
      ·intro ev w hc hf hg hfix hdep hbel
       have fg : ev (.tmp 44) = _ := hdep 26 (by decide)
       exact Or.inr ⟨Or.inl fg, rfl⟩
      ·intro ev w hc hf hg hfix hdep hbel
       have fg : ev (.tmp 44) = _ := hdep 26 (by decide)
       exact Or.inr ⟨Or.inl fg, rfl⟩
      ·intro ev w hc hf hg hfix hdep hbel
       have e44 : ev (.tmp 44) = _ := hdep 26 (by decide)
       have e56 : ev (.tmp 56) = _ := hdep 38 (by decide)
       exact okb trivial rfl (by go_simp)
     ·intro v w2 hv hb2
      have r0 : v 0 = _ := hv 0 (by decide)
      have r1 : v 1 = _ := hv 1 (by decide)
      have r2 : v 2 = _ := hv 2 (by decide)
      have r3 : v 3 = _ := hv 3 (by decide)
      have r4 : v 4 = _ := hv 4 (by decide)
      have r5 : v 5 = _ := hv 5 (by decide)
      have r6 : v 6 = _ := hv 6 (by decide)
      have r7 : v 7 = _ := hv 7 (by decide)
      have r8 : v 8 = _ := hv 8 (by decide)
      have r9 : v 9 = _ := hv 9 (by decide)
      have r10 : v 10 = _ := hv 10 (by decide)
      have r11 : v 11 = _ := hv 11 (by decide)
      have r12 : v 12 = _ := hv 12 (by decide)
      have r13 : v 13 = _ := hv 13 (by decide)
      have r14 : v 14 = _ := hv 14 (by decide)
      have r15 : v 15 = _ := hv 15 (by decide)
      have r16 : v 16 = _ := hv 16 (by decide)
      have r17 : v 17 = _ := hv 17 (by decide)
      have r18 : v 18 = _ := hv 18 (by decide)
      have r19 : v 19 = _ := hv 19 (by decide)
      have r20 : v 20 = _ := hv 20 (by decide)
      have r21 : v 21 = _ := hv 21 (by decide)
      have r22 : v 22 = _ := hv 22 (by decide)
      have r23 : v 23 = _ := hv 23 (by decide)
      have r24 : v 24 = _ := hv 24 (by decide)
      have r25 : v 25 = _ := hv 25 (by decide)
      have r26 : v 26 = _ := hv 26 (by decide)
      have r27 : v 27 = _ := hv 27 (by decide)
      have r28 : v 28 = _ := hv 28 (by decide)
      have r29 : v 29 = _ := hv 29 (by decide)
      have r30 : v 30 = _ := hv 30 (by decide)
      have r31 : v 31 = _ := hv 31 (by decide)
      have r32 : v 32 = _ := hv 32 (by decide)
      have r33 : v 33 = _ := hv 33 (by decide)
      have r34 : v 34 = _ := hv 34 (by decide)
      have r35 : v 35 = _ := hv 35 (by decide)
      have r36 : v 36 = _ := hv 36 (by decide)
      have r37 : v 37 = _ := hv 37 (by decide)
      have r38 : v 38 = _ := hv 38 (by decide)
      have r39 : v 39 = _ := hv 39 (by decide)
      simp only [Reg.putAll, Act.put, List.setIfInBounds_toArray, List.set_cons_zero, List.set_cons_succ, r0, r1, r2, r3, r4, r5, r6, r7, r8, r9, r10, r11, r12, r13, r14, r15, r16, r17, r18, r19, r20, r21, r22, r23, r24, r25, r26, r27, r28, r29, r30, r31, r32, r33, r34, r35, r36, r37, r38, r39]
      clear r0 r1 r2 r3 r4 r5 r6 r7 r8 r9 r10 r11 r12 r13 r14 r15 r16 r17 r18 r19 r20 r21 r22 r23 r24 r25 r26 r27 r28 r29 r30 r31 r32 r33 r34 r35 r36 r37 r38 r39 hv
      have HBw := Lib.hid (HBel.out.trans (hb2.mono HBel.out.size)); clear hb2
      go_wp2_with fail
      go_ret
      exact ⟨⟨false, rfl, no_iff (ne_at HX.out HY.out (fun e => HL0.out (by have := congrArg (fun x => x.leaves.length) e; simp only [Tm.N.leaves_mk] at this; rw [← HLl.out, ← HLl2.out]; exact this)))⟩, HBw.out⟩
    subst hl
    by_cases hus : us = us2
    case neg =>
     have HBq := Lib.hid hus; have HUs := Lib.hid hus
     clear hus
     go_wp2_with fail
     refine Reg.region_list (by kernel_rfl) [fun v _ => v = .slice (some ⟨blk, off, none⟩) n cap, fun v _ => v = .int .i64 (j : Int), fun v _ => v = .pointer (some ⟨blk, off + j * 3, none⟩), fun v _ => v = .pointer (some ⟨blk, off + j * 3, none⟩), fun v _ => v = .string nm, fun v _ => v = .slice (some ⟨blk2, off2, none⟩) n cap2, fun v _ => v = .int .i64 (j : Int), fun v _ => v = .pointer (some ⟨blk2, off2 + j * 3, none⟩), fun v _ => v = .pointer (some ⟨blk2, off2 + j * 3, none⟩), fun v _ => v = .string nm, fun v _ => v = .bool false, fun v _ => v = .bool false, fun v _ => v = .slice (some ⟨blk, off, none⟩) n cap, fun v _ => v = .int .i64 (j : Int), fun v _ => v = .pointer (some ⟨blk, off + j * 3, none⟩), fun v _ => v = .pointer (some ⟨blk, off + j * 3 + 1, none⟩), fun v _ => v = .slice la ll lc, fun v _ => v = .int .i64 ll, fun v _ => v = .slice (some ⟨blk2, off2, none⟩) n cap2, fun v _ => v = .int .i64 (j : Int), fun v _ => v = .pointer (some ⟨blk2, off2 + j * 3, none⟩), fun v _ => v = .pointer (some ⟨blk2, off2 + j * 3 + 1, none⟩), fun v _ => v = .slice la2 ll lc2, fun v _ => v = .int .i64 ll, fun v _ => v = .bool false, fun v _ => v = .bool false, fun v _ => v = .bool false, fun v _ => v = .slice (some ⟨blk, off, none⟩) n cap, fun v _ => v = .int .i64 (j : Int), fun v _ => v = .pointer (some ⟨blk, off + j * 3, none⟩), fun v _ => v = .pointer (some ⟨blk, off + j * 3 + 2, none⟩), fun v _ => v = .slice ba bl bc, fun v _ => v = .slice (some ⟨blk2, off2, none⟩) n cap2, fun v _ => v = .int .i64 (j : Int), fun v _ => v = .pointer (some ⟨blk2, off2 + j * 3, none⟩), fun v _ => v = .pointer (some ⟨blk2, off2 + j * 3 + 2, none⟩), fun v _ => v = .slice ba2 bl2 bc2, fun v _ => v = .bool false, fun v _ => v = .bool true, fun v _ => v = .bool true] (by kernel_rfl) ?_ ?_ ?_
     ·refine ⟨k4, k4, k4, k4, k4, k4, k4, k4, k4, k4, k4, k4, k4, k4, k4, k4, k4, k4, k4, k4, k4, k4, k4, k4, k4, k4, k4, k4, k4, k4, k4, k4, k4, k4, k4, k4, k4, k4, k4, k4, trivial⟩
     ·refine ⟨?_, ?_, ?_, ?_, ?_, ?_, ?_, ?_, ?_, ?_, ?_, ?_, ?_, ?_, ?_, ?_, ?_, ?_, ?_, ?_, ?_, ?_, ?_, ?_, ?_, ?_, ?_, ?_, ?_, ?_, ?_, ?_, ?_, ?_, ?_, ?_, ?_, ?_, ?_, ?_, trivial⟩
      ·intro ev w hc hf hg hfix hdep hbel
       have e0 : ev (.tmp 0) = _ := hfix 0 (by decide)
       exact okb trivial rfl (by go_simp)
      ·intro ev w hc hf hg hfix hdep hbel
       have e5 : ev (.tmp 5) = _ := hfix 5 (by decide)
       exact okb trivial rfl (by go_simp)
      ·intro ev w hc hf hg hfix hdep hbel
       have e18 : ev (.tmp 18) = _ := hdep 0 (by decide)
       have e19 : ev (.tmp 19) = _ := hdep 1 (by decide)
       exact okb trivial rfl (by go_simp)
      ·intro ev w hc hf hg hfix hdep hbel
       have e20 : ev (.tmp 20) = _ := hdep 2 (by decide)
       exact okb trivial rfl (by go_simp)
      ·intro ev w hc hf hg hfix hdep hbel
       have e21 : ev (.tmp 21) = _ := hdep 3 (by decide)
       have hbw : Below wr.heap.size wr w := undrewX hbel
       have p0 := bcell_of hbw HP0.out; have r0 := bcell_of hbw HR0.out; have p1 := bcell_of hbw HP1.out; have r1 := bcell_of hbw HR1.out; have p2 := bcell_of hbw HP2.out; have r2 := bcell_of hbw HR2.out
       exact okb trivial rfl (by go_simp)
      ·intro ev w hc hf hg hfix hdep hbel
       have e1 : ev (.tmp 1) = _ := hfix 1 (by decide)
       exact okb trivial rfl (by go_simp)
      ·intro ev w hc hf hg hfix hdep hbel
       have e5 : ev (.tmp 5) = _ := hfix 5 (by decide)
       exact okb trivial rfl (by go_simp)
      ·intro ev w hc hf hg hfix hdep hbel
       have e23 : ev (.tmp 23) = _ := hdep 5 (by decide)
       have e24 : ev (.tmp 24) = _ := hdep 6 (by decide)
       exact okb trivial rfl (by go_simp)
      ·intro ev w hc hf hg hfix hdep hbel
       have e25 : ev (.tmp 25) = _ := hdep 7 (by decide)
       exact okb trivial rfl (by go_simp)
      ·intro ev w hc hf hg hfix hdep hbel
       have e26 : ev (.tmp 26) = _ := hdep 8 (by decide)
       have hbw : Below wr.heap.size wr w := undrewX hbel
       have p0 := bcell_of hbw HP0.out; have r0 := bcell_of hbw HR0.out; have p1 := bcell_of hbw HP1.out; have r1 := bcell_of hbw HR1.out; have p2 := bcell_of hbw HP2.out; have r2 := bcell_of hbw HR2.out
       exact okb trivial rfl (by go_simp)
      ·intro ev w hc hf hg hfix hdep hbel
       have e22 : ev (.tmp 22) = _ := hdep 4 (by decide)
       have e27 : ev (.tmp 27) = _ := hdep 9 (by decide)
       have heq := HNq.out
       exact okb trivial rfl (by go_simp)
      ·intro ev w hc hf hg hfix hdep hbel
       have e28 : ev (.tmp 28) = _ := hdep 10 (by decide)
       exact okb trivial rfl (by go_simp)
      ·intro ev w hc hf hg hfix hdep hbel
       have fg : ev (.tmp 29) = _ := hdep 11 (by decide)
       have e0 : ev (.tmp 0) = _ := hfix 0 (by decide)
       exact okb fg rfl (by go_simp)
      ·intro ev w hc hf hg hfix hdep hbel
       have fg : ev (.tmp 29) = _ := hdep 11 (by decide)
       have e5 : ev (.tmp 5) = _ := hfix 5 (by decide)
       exact okb fg rfl (by go_simp)
      ·intro ev w hc hf hg hfix hdep hbel
       have fg : ev (.tmp 29) = _ := hdep 11 (by decide)
       have e30 : ev (.tmp 30) = _ := hdep 12 (by decide)
       have e31 : ev (.tmp 31) = _ := hdep 13 (by decide)
       exact okb fg rfl (by go_simp)
      ·intro ev w hc hf hg hfix hdep hbel
       have fg : ev (.tmp 29) = _ := hdep 11 (by decide)
       have e32 : ev (.tmp 32) = _ := hdep 14 (by decide)
       exact okb fg rfl (by go_simp)
      ·intro ev w hc hf hg hfix hdep hbel
       have fg : ev (.tmp 29) = _ := hdep 11 (by decide)
       have e33 : ev (.tmp 33) = _ := hdep 15 (by decide)
       have hbw : Below wr.heap.size wr w := undrewX hbel
       have p0 := bcell_of hbw HP0.out; have r0 := bcell_of hbw HR0.out; have p1 := bcell_of hbw HP1.out; have r1 := bcell_of hbw HR1.out; have p2 := bcell_of hbw HP2.out; have r2 := bcell_of hbw HR2.out
       exact okb fg rfl (by go_simp)
      ·intro ev w hc hf hg hfix hdep hbel
       have fg : ev (.tmp 29) = _ := hdep 11 (by decide)
       have e34 : ev (.tmp 34) = _ := hdep 16 (by decide)
       exact okb fg rfl (by go_simp)
      ·intro ev w hc hf hg hfix hdep hbel
       have fg : ev (.tmp 29) = _ := hdep 11 (by decide)
       have e1 : ev (.tmp 1) = _ := hfix 1 (by decide)
       exact okb fg rfl (by go_simp)
      ·intro ev w hc hf hg hfix hdep hbel
       have fg : ev (.tmp 29) = _ := hdep 11 (by decide)
       have e5 : ev (.tmp 5) = _ := hfix 5 (by decide)
       exact okb fg rfl (by go_simp)
      ·intro ev w hc hf hg hfix hdep hbel
       have fg : ev (.tmp 29) = _ := hdep 11 (by decide)
       have e36 : ev (.tmp 36) = _ := hdep 18 (by decide)
       have e37 : ev (.tmp 37) = _ := hdep 19 (by decide)
       exact okb fg rfl (by go_simp)
      ·intro ev w hc hf hg hfix hdep hbel
       have fg : ev (.tmp 29) = _ := hdep 11 (by decide)
       have e38 : ev (.tmp 38) = _ := hdep 20 (by decide)
       exact okb fg rfl (by go_simp)
      ·intro ev w hc hf hg hfix hdep hbel
       have fg : ev (.tmp 29) = _ := hdep 11 (by decide)
       have e39 : ev (.tmp 39) = _ := hdep 21 (by decide)
       have hbw : Below wr.heap.size wr w := undrewX hbel
       have p0 := bcell_of hbw HP0.out; have r0 := bcell_of hbw HR0.out; have p1 := bcell_of hbw HP1.out; have r1 := bcell_of hbw HR1.out; have p2 := bcell_of hbw HP2.out; have r2 := bcell_of hbw HR2.out
       exact okb fg rfl (by go_simp)
      ·intro ev w hc hf hg hfix hdep hbel
       have fg : ev (.tmp 29) = _ := hdep 11 (by decide)
       have e40 : ev (.tmp 40) = _ := hdep 22 (by decide)
       exact okb fg rfl (by go_simp)
      ·intro ev w hc hf hg hfix hdep hbel
       have fg : ev (.tmp 29) = _ := hdep 11 (by decide)
       have e35 : ev (.tmp 35) = _ := hdep 17 (by decide)
       have e41 : ev (.tmp 41) = _ := hdep 23 (by decide)
       exact okb fg rfl (by go_simp)
      ·intro ev w hc hf hg hfix hdep hbel
       have e29 : ev (.tmp 29) = _ := hdep 11 (by decide)
       have e42 : ev (.tmp 42) = _ := hdep 24 (by decide)
       exact okb trivial rfl (by go_simp)
      ·intro ev w hc hf hg hfix hdep hbel
       have e43 : ev (.tmp 43) = _ := hdep 25 (by decide)
       exact okb trivial rfl (by go_simp)
      ·intro ev w hc hf hg hfix hdep hbel
       have fg : ev (.tmp 44) = _ := hdep 26 (by decide)
       have e0 : ev (.tmp 0) = _ := hfix 0 (by decide)
       exact okb fg rfl (by go_simp)
      ·intro ev w hc hf hg hfix hdep hbel
       have fg : ev (.tmp 44) = _ := hdep 26 (by decide)
       have e5 : ev (.tmp 5) = _ := hfix 5 (by decide)
       exact okb fg rfl (by go_simp)
      ·intro ev w hc hf hg hfix hdep hbel
       have fg : ev (.tmp 44) = _ := hdep 26 (by decide)
       have e45 : ev (.tmp 45) = _ := hdep 27 (by decide)
       have e46 : ev (.tmp 46) = _ := hdep 28 (by decide)
       exact okb fg rfl (by go_simp)
      ·intro ev w hc hf hg hfix hdep hbel
       have fg : ev (.tmp 44) = _ := hdep 26 (by decide)
       have e47 : ev (.tmp 47) = _ := hdep 29 (by decide)
       exact okb fg rfl (by go_simp)
      ·intro ev w hc hf hg hfix hdep hbel
       have fg : ev (.tmp 44) = _ := hdep 26 (by decide)
       have e48 : ev (.tmp 48) = _ := hdep 30 (by decide)
       have hbw : Below wr.heap.size wr w := undrewX hbel
       have p0 := bcell_of hbw HP0.out; have r0 := bcell_of hbw HR0.out; have p1 := bcell_of hbw HP1.out; have r1 := bcell_of hbw HR1.out; have p2 := bcell_of hbw HP2.out; have r2 := bcell_of hbw HR2.out
       exact okb fg rfl (by go_simp)
      ·intro ev w hc hf hg hfix hdep hbel
       have fg : ev (.tmp 44) = _ := hdep 26 (by decide)
       have e1 : ev (.tmp 1) = _ := hfix 1 (by decide)
       exact okb fg rfl (by go_simp)
      ·intro ev w hc hf hg hfix hdep hbel
       have fg : ev (.tmp 44) = _ := hdep 26 (by decide)
       have e5 : ev (.tmp 5) = _ := hfix 5 (by decide)
       exact okb fg rfl (by go_simp)
      ·intro ev w hc hf hg hfix hdep hbel
       have fg : ev (.tmp 44) = _ := hdep 26 (by decide)
       have e50 : ev (.tmp 50) = _ := hdep 32 (by decide)
       have e51 : ev (.tmp 51) = _ := hdep 33 (by decide)
       exact okb fg rfl (by go_simp)
      ·intro ev w hc hf hg hfix hdep hbel
       have fg : ev (.tmp 44) = _ := hdep 26 (by decide)
       have e52 : ev (.tmp 52) = _ := hdep 34 (by decide)
       exact okb fg rfl (by go_simp)
      ·intro ev w hc hf hg hfix hdep hbel
       have fg : ev (.tmp 44) = _ := hdep 26 (by decide)
       have e53 : ev (.tmp 53) = _ := hdep 35 (by decide)
       have hbw : Below wr.heap.size wr w := undrewX hbel
       have p0 := bcell_of hbw HP0.out; have r0 := bcell_of hbw HR0.out; have p1 := bcell_of hbw HP1.out; have r1 := bcell_of hbw HR1.out; have p2 := bcell_of hbw HP2.out; have r2 := bcell_of hbw HR2.out
       exact okb fg rfl (by go_simp)
      ·intro ev w hc hf hg hfix hdep hbel
       have fg : ev (.tmp 44) = _ := hdep 26 (by decide)
       have e49 : ev (.tmp 49) = _ := hdep 31 (by decide)
       have e54 : ev (.tmp 54) = _ := hdep 36 (by decide)
       refine Or.inl ⟨fg, Or.inr ⟨7, #[.slice ba bl bc, .slice ba2 bl2 bc2], w, by go_simp, ?_⟩⟩
       have hbw2 : Below W.heap.size W w := HBel.out.trans ((undrewX hbel).mono HBel.out.size)
       refine (IH.out dm dm2 ba ba2 bl bl2 bc bc2 us us2 w (TRow.below hbw2 HTr.out) (TRow.below hbw2 HTr2.out) HBl.out HBl2.out HDu.out).mono ?_
       rintro e w1 ⟨⟨b1, rfl, hb1⟩, hbel1⟩
       have hb2 : b1 = false := by have := HBq.out; cases b1 <;> simp_all
       exact ⟨_, rfl, by rw [hb2], hbel1⟩
      ·intro ev w hc hf hg hfix hdep hbel
       have fg : ev (.tmp 44) = _ := hdep 26 (by decide)
       have e55 : ev (.tmp 55) = _ := hdep 37 (by decide)
       exact okb fg rfl (by go_simp)
      ·intro ev w hc hf hg hfix hdep hbel
       have e44 : ev (.tmp 44) = _ := hdep 26 (by decide)
       have e56 : ev (.tmp 56) = _ := hdep 38 (by decide)
       exact okb trivial rfl (by go_simp)
     ·intro v w2 hv hb2
      have r0 : v 0 = _ := hv 0 (by decide)
      have r1 : v 1 = _ := hv 1 (by decide)
      have r2 : v 2 = _ := hv 2 (by decide)
      have r3 : v 3 = _ := hv 3 (by decide)
      have r4 : v 4 = _ := hv 4 (by decide)
      have r5 : v 5 = _ := hv 5 (by decide)
      have r6 : v 6 = _ := hv 6 (by decide)
      have r7 : v 7 = _ := hv 7 (by decide)
      have r8 : v 8 = _ := hv 8 (by decide)
      have r9 : v 9 = _ := hv 9 (by decide)
      have r10 : v 10 = _ := hv 10 (by decide)
      have r11 : v 11 = _ := hv 11 (by decide)
      have r12 : v 12 = _ := hv 12 (by decide)
      have r13 : v 13 = _ := hv 13 (by decide)
      have r14 : v 14 = _ := hv 14 (by decide)
      have r15 : v 15 = _ := hv 15 (by decide)
      have r16 : v 16 = _ := hv 16 (by decide)
      have r17 : v 17 = _ := hv 17 (by decide)
      have r18 : v 18 = _ := hv 18 (by decide)
      have r19 : v 19 = _ := hv 19 (by decide)
      have r20 : v 20 = _ := hv 20 (by decide)
      have r21 : v 21 = _ := hv 21 (by decide)
      have r22 : v 22 = _ := hv 22 (by decide)
      have r23 : v 23 = _ := hv 23 (by decide)
      have r24 : v 24 = _ := hv 24 (by decide)
      have r25 : v 25 = _ := hv 25 (by decide)
      have r26 : v 26 = _ := hv 26 (by decide)
      have r27 : v 27 = _ := hv 27 (by decide)
      have r28 : v 28 = _ := hv 28 (by decide)
      have r29 : v 29 = _ := hv 29 (by decide)
      have r30 : v 30 = _ := hv 30 (by decide)
      have r31 : v 31 = _ := hv 31 (by decide)
      have r32 : v 32 = _ := hv 32 (by decide)
      have r33 : v 33 = _ := hv 33 (by decide)
      have r34 : v 34 = _ := hv 34 (by decide)
      have r35 : v 35 = _ := hv 35 (by decide)
      have r36 : v 36 = _ := hv 36 (by decide)
      have r37 : v 37 = _ := hv 37 (by decide)
      have r38 : v 38 = _ := hv 38 (by decide)
      have r39 : v 39 = _ := hv 39 (by decide)
      simp only [Reg.putAll, Act.put, List.setIfInBounds_toArray, List.set_cons_zero, List.set_cons_succ, r0, r1, r2, r3, r4, r5, r6, r7, r8, r9, r10, r11, r12, r13, r14, r15, r16, r17, r18, r19, r20, r21, r22, r23, r24, r25, r26, r27, r28, r29, r30, r31, r32, r33, r34, r35, r36, r37, r38, r39]
      clear r0 r1 r2 r3 r4 r5 r6 r7 r8 r9 r10 r11 r12 r13 r14 r15 r16 r17 r18 r19 r20 r21 r22 r23 r24 r25 r26 r27 r28 r29 r30 r31 r32 r33 r34 r35 r36 r37 r38 r39 hv
      have HBw := Lib.hid (HBel.out.trans (hb2.mono HBel.out.size)); clear hb2
      go_wp2_with fail
      go_ret
      exact ⟨⟨false, rfl, no_iff (ne_at HX.out HY.out (fun e => HUs.out (by simpa using congrArg Tm.N.under e)))⟩, HBw.out⟩
    have HBq := Lib.hid hus; have HUs := Lib.hid hus
    clear hus
    go_wp2_with fail
    refine Reg.region_list (by kernel_rfl) [fun v _ => v = .slice (some ⟨blk, off, none⟩) n cap, fun v _ => v = .int .i64 (j : Int), fun v _ => v = .pointer (some ⟨blk, off + j * 3, none⟩), fun v _ => v = .pointer (some ⟨blk, off + j * 3, none⟩), fun v _ => v = .string nm, fun v _ => v = .slice (some ⟨blk2, off2, none⟩) n cap2, fun v _ => v = .int .i64 (j : Int), fun v _ => v = .pointer (some ⟨blk2, off2 + j * 3, none⟩), fun v _ => v = .pointer (some ⟨blk2, off2 + j * 3, none⟩), fun v _ => v = .string nm, fun v _ => v = .bool false, fun v _ => v = .bool false, fun v _ => v = .slice (some ⟨blk, off, none⟩) n cap, fun v _ => v = .int .i64 (j : Int), fun v _ => v = .pointer (some ⟨blk, off + j * 3, none⟩), fun v _ => v = .pointer (some ⟨blk, off + j * 3 + 1, none⟩), fun v _ => v = .slice la ll lc, fun v _ => v = .int .i64 ll, fun v _ => v = .slice (some ⟨blk2, off2, none⟩) n cap2, fun v _ => v = .int .i64 (j : Int), fun v _ => v = .pointer (some ⟨blk2, off2 + j * 3, none⟩), fun v _ => v = .pointer (some ⟨blk2, off2 + j * 3 + 1, none⟩), fun v _ => v = .slice la2 ll lc2, fun v _ => v = .int .i64 ll, fun v _ => v = .bool false, fun v _ => v = .bool false, fun v _ => v = .bool false, fun v _ => v = .slice (some ⟨blk, off, none⟩) n cap, fun v _ => v = .int .i64 (j : Int), fun v _ => v = .pointer (some ⟨blk, off + j * 3, none⟩), fun v _ => v = .pointer (some ⟨blk, off + j * 3 + 2, none⟩), fun v _ => v = .slice ba bl bc, fun v _ => v = .slice (some ⟨blk2, off2, none⟩) n cap2, fun v _ => v = .int .i64 (j : Int), fun v _ => v = .pointer (some ⟨blk2, off2 + j * 3, none⟩), fun v _ => v = .pointer (some ⟨blk2, off2 + j * 3 + 2, none⟩), fun v _ => v = .slice ba2 bl2 bc2, fun v _ => v = .bool true, fun v _ => v = .bool false, fun v _ => v = .bool false] (by kernel_rfl) ?_ ?_ ?_
    ·refine ⟨k4, k4, k4, k4, k4, k4, k4, k4, k4, k4, k4, k4, k4, k4, k4, k4, k4, k4, k4, k4, k4, k4, k4, k4, k4, k4, k4, k4, k4, k4, k4, k4, k4, k4, k4, k4, k4, k4, k4, k4, trivial⟩
    ·refine ⟨?_, ?_, ?_, ?_, ?_, ?_, ?_, ?_, ?_, ?_, ?_, ?_, ?_, ?_, ?_, ?_, ?_, ?_, ?_, ?_, ?_, ?_, ?_, ?_, ?_, ?_, ?_, ?_, ?_, ?_, ?_, ?_, ?_, ?_, ?_, ?_, ?_, ?_, ?_, ?_, trivial⟩
     ·intro ev w hc hf hg hfix hdep hbel
      have e0 : ev (.tmp 0) = _ := hfix 0 (by decide)
      exact okb trivial rfl (by go_simp)
     ·intro ev w hc hf hg hfix hdep hbel
      have e5 : ev (.tmp 5) = _ := hfix 5 (by decide)
      exact okb trivial rfl (by go_simp)
     ·intro ev w hc hf hg hfix hdep hbel
      have e18 : ev (.tmp 18) = _ := hdep 0 (by decide)
      have e19 : ev (.tmp 19) = _ := hdep 1 (by decide)
      exact okb trivial rfl (by go_simp)
     ·intro ev w hc hf hg hfix hdep hbel
      have e20 : ev (.tmp 20) = _ := hdep 2 (by decide)
      exact okb trivial rfl (by go_simp)
     ·intro ev w hc hf hg hfix hdep hbel
      have e21 : ev (.tmp 21) = _ := hdep 3 (by decide)
      have hbw : Below wr.heap.size wr w := undrewX hbel
      have p0 := bcell_of hbw HP0.out; have r0 := bcell_of hbw HR0.out; have p1 := bcell_of hbw HP1.out; have r1 := bcell_of hbw HR1.out; have p2 := bcell_of hbw HP2.out; have r2 := bcell_of hbw HR2.out
      exact okb trivial rfl (by go_simp)
     ·intro ev w hc hf hg hfix hdep hbel
      have e1 : ev (.tmp 1) = _ := hfix 1 (by decide)
      exact okb trivial rfl (by go_simp)
     ·intro ev w hc hf hg hfix hdep hbel
      have e5 : ev (.tmp 5) = _ := hfix 5 (by decide)
      exact okb trivial rfl (by go_simp)
     ·intro ev w hc hf hg hfix hdep hbel
      have e23 : ev (.tmp 23) = _ := hdep 5 (by decide)
      have e24 : ev (.tmp 24) = _ := hdep 6 (by decide)
      exact okb trivial rfl (by go_simp)
     ·intro ev w hc hf hg hfix hdep hbel
      have e25 : ev (.tmp 25) = _ := hdep 7 (by decide)
      exact okb trivial rfl (by go_simp)
     ·intro ev w hc hf hg hfix hdep hbel
      have e26 : ev (.tmp 26) = _ := hdep 8 (by decide)
      have hbw : Below wr.heap.size wr w := undrewX hbel
      have p0 := bcell_of hbw HP0.out; have r0 := bcell_of hbw HR0.out; have p1 := bcell_of hbw HP1.out; have r1 := bcell_of hbw HR1.out; have p2 := bcell_of hbw HP2.out; have r2 := bcell_of hbw HR2.out
      exact okb trivial rfl (by go_simp)
     ·intro ev w hc hf hg hfix hdep hbel
      have e22 : ev (.tmp 22) = _ := hdep 4 (by decide)
      have e27 : ev (.tmp 27) = _ := hdep 9 (by decide)
      have heq := HNq.out
      exact okb trivial rfl (by go_simp)
     ·intro ev w hc hf hg hfix hdep hbel
      have e28 : ev (.tmp 28) = _ := hdep 10 (by decide)
      exact okb trivial rfl (by go_simp)
     ·intro ev w hc hf hg hfix hdep hbel
      have fg : ev (.tmp 29) = _ := hdep 11 (by decide)
      have e0 : ev (.tmp 0) = _ := hfix 0 (by decide)
      exact okb fg rfl (by go_simp)
     ·intro ev w hc hf hg hfix hdep hbel
      have fg : ev (.tmp 29) = _ := hdep 11 (by decide)
      have e5 : ev (.tmp 5) = _ := hfix 5 (by decide)
      exact okb fg rfl (by go_simp)
     ·intro ev w hc hf hg hfix hdep hbel
      have fg : ev (.tmp 29) = _ := hdep 11 (by decide)
      have e30 : ev (.tmp 30) = _ := hdep 12 (by decide)
      have e31 : ev (.tmp 31) = _ := hdep 13 (by decide)
      exact okb fg rfl (by go_simp)
     ·intro ev w hc hf hg hfix hdep hbel
      have fg : ev (.tmp 29) = _ := hdep 11 (by decide)
      have e32 : ev (.tmp 32) = _ := hdep 14 (by decide)
      exact okb fg rfl (by go_simp)
     ·intro ev w hc hf hg hfix hdep hbel
      have fg : ev (.tmp 29) = _ := hdep 11 (by decide)
      have e33 : ev (.tmp 33) = _ := hdep 15 (by decide)
      have hbw : Below wr.heap.size wr w := undrewX hbel
      have p0 := bcell_of hbw HP0.out; have r0 := bcell_of hbw HR0.out; have p1 := bcell_of hbw HP1.out; have r1 := bcell_of hbw HR1.out; have p2 := bcell_of hbw HP2.out; have r2 := bcell_of hbw HR2.out
      exact okb fg rfl (by go_simp)
     ·intro ev w hc hf hg hfix hdep hbel
      have fg : ev (.tmp 29) = _ := hdep 11 (by decide)
      have e34 : ev (.tmp 34) = _ := hdep 16 (by decide)
      exact okb fg rfl (by go_simp)
     ·intro ev w hc hf hg hfix hdep hbel
      have fg : ev (.tmp 29) = _ := hdep 11 (by decide)
      have e1 : ev (.tmp 1) = _ := hfix 1 (by decide)
      exact okb fg rfl (by go_simp)
     ·intro ev w hc hf hg hfix hdep hbel
      have fg : ev (.tmp 29) = _ := hdep 11 (by decide)
      have e5 : ev (.tmp 5) = _ := hfix 5 (by decide)
      exact okb fg rfl (by go_simp)
     ·intro ev w hc hf hg hfix hdep hbel
      have fg : ev (.tmp 29) = _ := hdep 11 (by decide)
      have e36 : ev (.tmp 36) = _ := hdep 18 (by decide)
      have e37 : ev (.tmp 37) = _ := hdep 19 (by decide)
      exact okb fg rfl (by go_simp)
     ·intro ev w hc hf hg hfix hdep hbel
      have fg : ev (.tmp 29) = _ := hdep 11 (by decide)
      have e38 : ev (.tmp 38) = _ := hdep 20 (by decide)
      exact okb fg rfl (by go_simp)
     ·intro ev w hc hf hg hfix hdep hbel
      have fg : ev (.tmp 29) = _ := hdep 11 (by decide)
      have e39 : ev (.tmp 39) = _ := hdep 21 (by decide)
      have hbw : Below wr.heap.size wr w := undrewX hbel
      have p0 := bcell_of hbw HP0.out; have r0 := bcell_of hbw HR0.out; have p1 := bcell_of hbw HP1.out; have r1 := bcell_of hbw HR1.out; have p2 := bcell_of hbw HP2.out; have r2 := bcell_of hbw HR2.out
      exact okb fg rfl (by go_simp)
     ·intro ev w hc hf hg hfix hdep hbel
      have fg : ev (.tmp 29) = _ := hdep 11 (by decide)
      have e40 : ev (.tmp 40) = _ := hdep 22 (by decide)
      exact okb fg rfl (by go_simp)
     ·intro ev w hc hf hg hfix hdep hbel
      have fg : ev (.tmp 29) = _ := hdep 11 (by decide)
      have e35 : ev (.tmp 35) = _ := hdep 17 (by decide)
      have e41 : ev (.tmp 41) = _ := hdep 23 (by decide)
      exact okb fg rfl (by go_simp)
     ·intro ev w hc hf hg hfix hdep hbel
      have e29 : ev (.tmp 29) = _ := hdep 11 (by decide)
      have e42 : ev (.tmp 42) = _ := hdep 24 (by decide)
      exact okb trivial rfl (by go_simp)
     ·intro ev w hc hf hg hfix hdep hbel
      have e43 : ev (.tmp 43) = _ := hdep 25 (by decide)
      exact okb trivial rfl (by go_simp)
     ·intro ev w hc hf hg hfix hdep hbel
      have fg : ev (.tmp 44) = _ := hdep 26 (by decide)
      have e0 : ev (.tmp 0) = _ := hfix 0 (by decide)
      exact okb fg rfl (by go_simp)
     ·intro ev w hc hf hg hfix hdep hbel
      have fg : ev (.tmp 44) = _ := hdep 26 (by decide)
      have e5 : ev (.tmp 5) = _ := hfix 5 (by decide)
      exact okb fg rfl (by go_simp)
     ·intro ev w hc hf hg hfix hdep hbel
      have fg : ev (.tmp 44) = _ := hdep 26 (by decide)
      have e45 : ev (.tmp 45) = _ := hdep 27 (by decide)
      have e46 : ev (.tmp 46) = _ := hdep 28 (by decide)
      exact okb fg rfl (by go_simp)
     ·intro ev w hc hf hg hfix hdep hbel
      have fg : ev (.tmp 44) = _ := hdep 26 (by decide)
      have e47 : ev (.tmp 47) = _ := hdep 29 (by decide)
      exact okb fg rfl (by go_simp)
     ·intro ev w hc hf hg hfix hdep hbel
      have fg : ev (.tmp 44) = _ := hdep 26 (by decide)
      have e48 : ev (.tmp 48) = _ := hdep 30 (by decide)
      have hbw : Below wr.heap.size wr w := undrewX hbel
      have p0 := bcell_of hbw HP0.out; have r0 := bcell_of hbw HR0.out; have p1 := bcell_of hbw HP1.out; have r1 := bcell_of hbw HR1.out; have p2 := bcell_of hbw HP2.out; have r2 := bcell_of hbw HR2.out
      exact okb fg rfl (by go_simp)
     ·intro ev w hc hf hg hfix hdep hbel
      have fg : ev (.tmp 44) = _ := hdep 26 (by decide)
      have e1 : ev (.tmp 1) = _ := hfix 1 (by decide)
      exact okb fg rfl (by go_simp)
     ·intro ev w hc hf hg hfix hdep hbel
      have fg : ev (.tmp 44) = _ := hdep 26 (by decide)
      have e5 : ev (.tmp 5) = _ := hfix 5 (by decide)
      exact okb fg rfl (by go_simp)
     ·intro ev w hc hf hg hfix hdep hbel
      have fg : ev (.tmp 44) = _ := hdep 26 (by decide)
      have e50 : ev (.tmp 50) = _ := hdep 32 (by decide)
      have e51 : ev (.tmp 51) = _ := hdep 33 (by decide)
      exact okb fg rfl (by go_simp)
     ·intro ev w hc hf hg hfix hdep hbel
      have fg : ev (.tmp 44) = _ := hdep 26 (by decide)
      have e52 : ev (.tmp 52) = _ := hdep 34 (by decide)
      exact okb fg rfl (by go_simp)
     ·intro ev w hc hf hg hfix hdep hbel
      have fg : ev (.tmp 44) = _ := hdep 26 (by decide)
      have e53 : ev (.tmp 53) = _ := hdep 35 (by decide)
      have hbw : Below wr.heap.size wr w := undrewX hbel
      have p0 := bcell_of hbw HP0.out; have r0 := bcell_of hbw HR0.out; have p1 := bcell_of hbw HP1.out; have r1 := bcell_of hbw HR1.out; have p2 := bcell_of hbw HP2.out; have r2 := bcell_of hbw HR2.out
      exact okb fg rfl (by go_simp)
     ·intro ev w hc hf hg hfix hdep hbel
      have fg : ev (.tmp 44) = _ := hdep 26 (by decide)
      have e49 : ev (.tmp 49) = _ := hdep 31 (by decide)
      have e54 : ev (.tmp 54) = _ := hdep 36 (by decide)
      refine Or.inl ⟨fg, Or.inr ⟨7, #[.slice ba bl bc, .slice ba2 bl2 bc2], w, by go_simp, ?_⟩⟩
      have hbw2 : Below W.heap.size W w := HBel.out.trans ((undrewX hbel).mono HBel.out.size)
      refine (IH.out dm dm2 ba ba2 bl bl2 bc bc2 us us2 w (TRow.below hbw2 HTr.out) (TRow.below hbw2 HTr2.out) HBl.out HBl2.out HDu.out).mono ?_
      rintro e w1 ⟨⟨b1, rfl, hb1⟩, hbel1⟩
      have hb2 : b1 = true := by have := HBq.out; cases b1 <;> simp_all
      exact ⟨_, rfl, by rw [hb2], hbel1⟩
     ·intro ev w hc hf hg hfix hdep hbel
      have fg : ev (.tmp 44) = _ := hdep 26 (by decide)
      have e55 : ev (.tmp 55) = _ := hdep 37 (by decide)
      exact okb fg rfl (by go_simp)
     ·intro ev w hc hf hg hfix hdep hbel
      have e44 : ev (.tmp 44) = _ := hdep 26 (by decide)
      have e56 : ev (.tmp 56) = _ := hdep 38 (by decide)
      exact okb trivial rfl (by go_simp)
    ·intro v w2 hv hb2
     have r0 : v 0 = _ := hv 0 (by decide)
     have r1 : v 1 = _ := hv 1 (by decide)
     have r2 : v 2 = _ := hv 2 (by decide)
     have r3 : v 3 = _ := hv 3 (by decide)
     have r4 : v 4 = _ := hv 4 (by decide)
     have r5 : v 5 = _ := hv 5 (by decide)
     have r6 : v 6 = _ := hv 6 (by decide)
     have r7 : v 7 = _ := hv 7 (by decide)
     have r8 : v 8 = _ := hv 8 (by decide)
     have r9 : v 9 = _ := hv 9 (by decide)
     have r10 : v 10 = _ := hv 10 (by decide)
     have r11 : v 11 = _ := hv 11 (by decide)
     have r12 : v 12 = _ := hv 12 (by decide)
     have r13 : v 13 = _ := hv 13 (by decide)
     have r14 : v 14 = _ := hv 14 (by decide)
     have r15 : v 15 = _ := hv 15 (by decide)
     have r16 : v 16 = _ := hv 16 (by decide)
     have r17 : v 17 = _ := hv 17 (by decide)
     have r18 : v 18 = _ := hv 18 (by decide)
     have r19 : v 19 = _ := hv 19 (by decide)
     have r20 : v 20 = _ := hv 20 (by decide)
     have r21 : v 21 = _ := hv 21 (by decide)
     have r22 : v 22 = _ := hv 22 (by decide)
     have r23 : v 23 = _ := hv 23 (by decide)
     have r24 : v 24 = _ := hv 24 (by decide)
     have r25 : v 25 = _ := hv 25 (by decide)
     have r26 : v 26 = _ := hv 26 (by decide)
     have r27 : v 27 = _ := hv 27 (by decide)
     have r28 : v 28 = _ := hv 28 (by decide)
     have r29 : v 29 = _ := hv 29 (by decide)
     have r30 : v 30 = _ := hv 30 (by decide)
     have r31 : v 31 = _ := hv 31 (by decide)
     have r32 : v 32 = _ := hv 32 (by decide)
     have r33 : v 33 = _ := hv 33 (by decide)
     have r34 : v 34 = _ := hv 34 (by decide)
     have r35 : v 35 = _ := hv 35 (by decide)
     have r36 : v 36 = _ := hv 36 (by decide)
     have r37 : v 37 = _ := hv 37 (by decide)
     have r38 : v 38 = _ := hv 38 (by decide)
     have r39 : v 39 = _ := hv 39 (by decide)
     simp only [Reg.putAll, Act.put, List.setIfInBounds_toArray, List.set_cons_zero, List.set_cons_succ, r0, r1, r2, r3, r4, r5, r6, r7, r8, r9, r10, r11, r12, r13, r14, r15, r16, r17, r18, r19, r20, r21, r22, r23, r24, r25, r26, r27, r28, r29, r30, r31, r32, r33, r34, r35, r36, r37, r38, r39]
     clear r0 r1 r2 r3 r4 r5 r6 r7 r8 r9 r10 r11 r12 r13 r14 r15 r16 r17 r18 r19 r20 r21 r22 r23 r24 r25 r26 r27 r28 r29 r30 r31 r32 r33 r34 r35 r36 r37 r38 r39 hv
     have HBw := Lib.hid (HBel.out.trans (hb2.mono HBel.out.size)); clear hb2
     have p1 := bcell_of HBw.out HQ1.out
     go_wp2_with fail
     go_loopw [6] (fun i wr => ∃ kk : Nat, kk ≤ ll ∧ i = .int .i64 kk ∧ ls.take kk = ls2.take kk ∧ Below W.heap.size W wr) (fun i _ => ll - (intOf i).toNat)
     case atStart => exact ⟨0, Nat.zero_le _, rfl, by simp, HBw.out⟩
     case round =>
      obtain ⟨kk, hk, rfl, htk2, hbel2⟩ := hrel
      have HBel := Lib.hid hbel2; have HTk2 := Lib.hid htk2; clear hbel2 htk2 p1
      have p1 := bcell_of HBel.out HQ1.out
      have HP1 := Lib.hid p1; have HR1 := Lib.hid (bcell_of HBel.out HV1.out)
      by_cases hlt2 : kk < ll
      ·obtain ⟨x1, hx1⟩ := someL (l := ls) (i := kk) (by rw [HLl.out]; exact hlt2)
       obtain ⟨y1, hy1⟩ := someL (l := ls2) (i := kk) (by rw [HLl2.out]; exact hlt2)
       obtain ⟨lb, lo, rfl, hlb, hlc⟩ := HLr.out.at (by rw [HLl.out]; omega)
       obtain ⟨lb2, lo2, rfl, hlb2, hlc2⟩ := HLr2.out.at (by rw [HLl2.out]; omega)
       obtain ⟨_, ia1, ic1, da1, dc1, ⟨c0, c1, c2, c3, c4, c5, c6, c7, c8⟩, hir1, hvr1⟩ := hlc kk x1 hx1
       obtain ⟨_, ia2, ic2, da2, dc2, ⟨d0, d1, d2, d3, d4, d5, d6, d7, d8⟩, hir2, hvr2⟩ := hlc2 kk y1 hy1
       obtain ⟨k1, n1, t1, ⟨⟨rr1, i1'⟩, s1⟩, u1, li1, ld1⟩ := x1
       obtain ⟨k2, n2, t2', ⟨⟨rr2, i2⟩, s2⟩, u2, li2, ld2⟩ := y1
       simp only at c0 c1 c2 c3 c4 c5 c6 c7 c8 d0 d1 d2 d3 d4 d5 d6 d7 d8 hir1 hvr1 hir2 hvr2
       obtain ⟨il1, hil1⟩ : ∃ m, li1.length = m := ⟨_, rfl⟩
       obtain ⟨dl1, hdl1⟩ : ∃ m, ld1.length = m := ⟨_, rfl⟩
       obtain ⟨il2, hil2⟩ : ∃ m, li2.length = m := ⟨_, rfl⟩
       obtain ⟨dl2, hdl2⟩ : ∃ m, ld2.length = m := ⟨_, rfl⟩
       rw [hil1] at c7; rw [hdl1] at c8; rw [hil2] at d7; rw [hdl2] at d8
       have HX1 := Lib.hid hx1; have HY1 := Lib.hid hy1; have HIr1 := Lib.hid hir1; have HVr1 := Lib.hid hvr1; have HIr2 := Lib.hid hir2; have HVr2 := Lib.hid hvr2; have HIl1 := Lib.hid hil1; have HDl1 := Lib.hid hdl1; have HIl2 := Lib.hid hil2; have HDl2 := Lib.hid hdl2
       have HC0 := Lib.hid (bcell_of HBel.out c0); have HD0 := Lib.hid (bcell_of HBel.out d0); have HC1 := Lib.hid (bcell_of HBel.out c1); have HD1 := Lib.hid (bcell_of HBel.out d1); have HC2 := Lib.hid (bcell_of HBel.out c2); have HD2 := Lib.hid (bcell_of HBel.out d2); have HC3 := Lib.hid (bcell_of HBel.out c3); have HD3 := Lib.hid (bcell_of HBel.out d3); have HC4 := Lib.hid (bcell_of HBel.out c4); have HD4 := Lib.hid (bcell_of HBel.out d4); have HC5 := Lib.hid (bcell_of HBel.out c5); have HD5 := Lib.hid (bcell_of HBel.out d5); have HC6 := Lib.hid (bcell_of HBel.out c6); have HD6 := Lib.hid (bcell_of HBel.out d6); have HC7 := Lib.hid (bcell_of HBel.out c7); have HD7 := Lib.hid (bcell_of HBel.out d7); have HC8 := Lib.hid (bcell_of HBel.out c8); have HD8 := Lib.hid (bcell_of HBel.out d8)
       have k0 : (0 : Int) ≤ (kk : Int) := by omega
       have k1' : (kk : Int) < (ll : Int) := by omega
       have hbl1 := World.block_lt_of_cell? _ _ HP1.out
       clear hlc hlc2 hx1 hy1 hir1 hvr1 hir2 hvr2 hil1 hdl1 hil2 hdl2 c0 c1 c2 c3 c4 c5 c6 c7 c8 d0 d1 d2 d3 d4 d5 d6 d7 d8 hbl1
       cases hsm : Lm.same ⟨k1, n1, t1, ((rr1, i1'), s1), u1, li1, ld1⟩ ⟨k2, n2, t2', ((rr2, i2), s2), u2, li2, ld2⟩ with
       | false =>
        have HSm := Lib.hid hsm; clear hsm
        go_wp2_with fail
        refine Reg.region_list (by kernel_rfl) [fun v _ => v = .slice (some ⟨blk, off, none⟩) n cap, fun v _ => v = .int .i64 (j : Int), fun v _ => v = .pointer (some ⟨blk, off + j * 3, none⟩), fun v _ => v = .pointer (some ⟨blk, off + j * 3 + 1, none⟩), fun v _ => v = .slice (some ⟨lb, lo, none⟩) ll lc, fun v _ => v = .int .i64 (kk : Int), fun v _ => v = .pointer (some ⟨lb, lo + kk * 9, none⟩), fun v _ => v = .agg #[.int .u8 (k1 : Int), .int .i64 n1, .int .u64 (t1 : Int), .int .u8 (rr1 : Int), .int .u32 (i1' : Int), .int .u64 (s1 : Int), .string u1, .slice ia1 il1 ic1, .slice da1 dl1 dc1], fun v _ => v = .slice (some ⟨blk2, off2, none⟩) n cap2, fun v _ => v = .int .i64 (j : Int), fun v _ => v = .pointer (some ⟨blk2, off2 + j * 3, none⟩), fun v _ => v = .pointer (some ⟨blk2, off2 + j * 3 + 1, none⟩), fun v _ => v = .slice (some ⟨lb2, lo2, none⟩) ll lc2, fun v _ => v = .int .i64 (kk : Int), fun v _ => v = .pointer (some ⟨lb2, lo2 + kk * 9, none⟩), fun v _ => v = .agg #[.int .u8 (k2 : Int), .int .i64 n2, .int .u64 (t2' : Int), .int .u8 (rr2 : Int), .int .u32 (i2 : Int), .int .u64 (s2 : Int), .string u2, .slice ia2 il2 ic2, .slice da2 dl2 dc2], fun v _ => v = .bool false, fun v _ => v = .bool true] (by kernel_rfl) ?_ ?_ ?_
        ·refine ⟨k4, k4, k4, k4, k4, k4, k4, k4, k4, k4, k4, k4, k4, k4, k4, k4, k4, k4, trivial⟩
        ·refine ⟨?_, ?_, ?_, ?_, ?_, ?_, ?_, ?_, ?_, ?_, ?_, ?_, ?_, ?_, ?_, ?_, ?_, ?_, trivial⟩
         ·intro ev w hc hf hg hfix hdep hbel
          have e0 : ev (.tmp 0) = _ := hfix 0 (by decide)
          exact okb trivial rfl (by go_simp)
         ·intro ev w hc hf hg hfix hdep hbel
          have e5 : ev (.tmp 5) = _ := hfix 5 (by decide)
          exact okb trivial rfl (by go_simp)
         ·intro ev w hc hf hg hfix hdep hbel
          have e68 : ev (.tmp 68) = _ := hdep 0 (by decide)
          have e69 : ev (.tmp 69) = _ := hdep 1 (by decide)
          exact okb trivial rfl (by go_simp)
         ·intro ev w hc hf hg hfix hdep hbel
          have e70 : ev (.tmp 70) = _ := hdep 2 (by decide)
          exact okb trivial rfl (by go_simp)
         ·intro ev w hc hf hg hfix hdep hbel
          have e71 : ev (.tmp 71) = _ := hdep 3 (by decide)
          have hbw : Below wr.heap.size wr w := undrewX hbel
          have p1 := bcell_of hbw HP1.out; have r1 := bcell_of hbw HR1.out
          have c0 := bcell_of hbw HC0.out; have d0 := bcell_of hbw HD0.out; have c1 := bcell_of hbw HC1.out; have d1 := bcell_of hbw HD1.out; have c2 := bcell_of hbw HC2.out; have d2 := bcell_of hbw HD2.out; have c3 := bcell_of hbw HC3.out; have d3 := bcell_of hbw HD3.out; have c4 := bcell_of hbw HC4.out; have d4 := bcell_of hbw HD4.out; have c5 := bcell_of hbw HC5.out; have d5 := bcell_of hbw HD5.out; have c6 := bcell_of hbw HC6.out; have d6 := bcell_of hbw HD6.out; have c7 := bcell_of hbw HC7.out; have d7 := bcell_of hbw HD7.out; have c8 := bcell_of hbw HC8.out; have d8 := bcell_of hbw HD8.out
          exact okb trivial rfl (by go_simp)
         ·intro ev w hc hf hg hfix hdep hbel
          have e6 : ev (.tmp 6) = _ := hfix 6 (by decide)
          exact okb trivial rfl (by go_simp)
         ·intro ev w hc hf hg hfix hdep hbel
          have e72 : ev (.tmp 72) = _ := hdep 4 (by decide)
          have e73 : ev (.tmp 73) = _ := hdep 5 (by decide)
          exact okb trivial rfl (by go_simp)
         ·intro ev w hc hf hg hfix hdep hbel
          have e74 : ev (.tmp 74) = _ := hdep 6 (by decide)
          have hbw : Below wr.heap.size wr w := undrewX hbel
          have p1 := bcell_of hbw HP1.out; have r1 := bcell_of hbw HR1.out
          have c0 := bcell_of hbw HC0.out; have d0 := bcell_of hbw HD0.out; have c1 := bcell_of hbw HC1.out; have d1 := bcell_of hbw HD1.out; have c2 := bcell_of hbw HC2.out; have d2 := bcell_of hbw HD2.out; have c3 := bcell_of hbw HC3.out; have d3 := bcell_of hbw HD3.out; have c4 := bcell_of hbw HC4.out; have d4 := bcell_of hbw HD4.out; have c5 := bcell_of hbw HC5.out; have d5 := bcell_of hbw HD5.out; have c6 := bcell_of hbw HC6.out; have d6 := bcell_of hbw HD6.out; have c7 := bcell_of hbw HC7.out; have d7 := bcell_of hbw HD7.out; have c8 := bcell_of hbw HC8.out; have d8 := bcell_of hbw HD8.out
          exact okb trivial rfl (by go_simp)
         ·intro ev w hc hf hg hfix hdep hbel
          have e1 : ev (.tmp 1) = _ := hfix 1 (by decide)
          exact okb trivial rfl (by go_simp)
         ·intro ev w hc hf hg hfix hdep hbel
          have e5 : ev (.tmp 5) = _ := hfix 5 (by decide)
          exact okb trivial rfl (by go_simp)
         ·intro ev w hc hf hg hfix hdep hbel
          have e76 : ev (.tmp 76) = _ := hdep 8 (by decide)
          have e77 : ev (.tmp 77) = _ := hdep 9 (by decide)
          exact okb trivial rfl (by go_simp)
         ·intro ev w hc hf hg hfix hdep hbel
          have e78 : ev (.tmp 78) = _ := hdep 10 (by decide)
          exact okb trivial rfl (by go_simp)
         ·intro ev w hc hf hg hfix hdep hbel
          have e79 : ev (.tmp 79) = _ := hdep 11 (by decide)
          have hbw : Below wr.heap.size wr w := undrewX hbel
          have p1 := bcell_of hbw HP1.out; have r1 := bcell_of hbw HR1.out
          have c0 := bcell_of hbw HC0.out; have d0 := bcell_of hbw HD0.out; have c1 := bcell_of hbw HC1.out; have d1 := bcell_of hbw HD1.out; have c2 := bcell_of hbw HC2.out; have d2 := bcell_of hbw HD2.out; have c3 := bcell_of hbw HC3.out; have d3 := bcell_of hbw HD3.out; have c4 := bcell_of hbw HC4.out; have d4 := bcell_of hbw HD4.out; have c5 := bcell_of hbw HC5.out; have d5 := bcell_of hbw HD5.out; have c6 := bcell_of hbw HC6.out; have d6 := bcell_of hbw HD6.out; have c7 := bcell_of hbw HC7.out; have d7 := bcell_of hbw HD7.out; have c8 := bcell_of hbw HC8.out; have d8 := bcell_of hbw HD8.out
          exact okb trivial rfl (by go_simp)
         ·intro ev w hc hf hg hfix hdep hbel
          have e6 : ev (.tmp 6) = _ := hfix 6 (by decide)
          exact okb trivial rfl (by go_simp)
         ·intro ev w hc hf hg hfix hdep hbel
          have e80 : ev (.tmp 80) = _ := hdep 12 (by decide)
          have e81 : ev (.tmp 81) = _ := hdep 13 (by decide)
          exact okb trivial rfl (by go_simp)
         ·intro ev w hc hf hg hfix hdep hbel
          have e82 : ev (.tmp 82) = _ := hdep 14 (by decide)
          have hbw : Below wr.heap.size wr w := undrewX hbel
          have p1 := bcell_of hbw HP1.out; have r1 := bcell_of hbw HR1.out
          have c0 := bcell_of hbw HC0.out; have d0 := bcell_of hbw HD0.out; have c1 := bcell_of hbw HC1.out; have d1 := bcell_of hbw HD1.out; have c2 := bcell_of hbw HC2.out; have d2 := bcell_of hbw HD2.out; have c3 := bcell_of hbw HC3.out; have d3 := bcell_of hbw HD3.out; have c4 := bcell_of hbw HC4.out; have d4 := bcell_of hbw HD4.out; have c5 := bcell_of hbw HC5.out; have d5 := bcell_of hbw HD5.out; have c6 := bcell_of hbw HC6.out; have d6 := bcell_of hbw HD6.out; have c7 := bcell_of hbw HC7.out; have d7 := bcell_of hbw HD7.out; have c8 := bcell_of hbw HC8.out; have d8 := bcell_of hbw HD8.out
          exact okb trivial rfl (by go_simp)
         ·intro ev w hc hf hg hfix hdep hbel
          have e75 : ev (.tmp 75) = _ := hdep 7 (by decide)
          have e83 : ev (.tmp 83) = _ := hdep 15 (by decide)
          refine Or.inl ⟨trivial, Or.inr ⟨12, #[.agg #[.int .u8 (k1 : Int), .int .i64 n1, .int .u64 (t1 : Int), .int .u8 (rr1 : Int), .int .u32 (i1' : Int), .int .u64 (s1 : Int), .string u1, .slice ia1 il1 ic1, .slice da1 dl1 dc1], .agg #[.int .u8 (k2 : Int), .int .i64 n2, .int .u64 (t2' : Int), .int .u8 (rr2 : Int), .int .u32 (i2 : Int), .int .u64 (s2 : Int), .string u2, .slice ia2 il2 ic2, .slice da2 dl2 dc2]], w, by go_simp, ?_⟩⟩
          have hbw2 : Below W.heap.size W w := HBel.out.trans ((undrewX hbel).mono HBel.out.size)
          refine (refsame05_any k1 n1 t1 rr1 i1' s1 u1 ia1 il1 ic1 da1 dl1 dc1 li1 ld1 k2 n2 t2' rr2 i2 s2 u2 ia2 il2 ic2 da2 dl2 dc2 li2 ld2 w (HIr1.out.below hbw2) HIl1.out (HVr1.out.below hbw2) HDl1.out (HIr2.out.below hbw2) HIl2.out (HVr2.out.below hbw2) HDl2.out).mono ?_
          rintro e w1 ⟨rfl, hbel1⟩
          exact ⟨_, rfl, by rw [HSm.out], hbel1⟩
         ·intro ev w hc hf hg hfix hdep hbel
          have e84 : ev (.tmp 84) = _ := hdep 16 (by decide)
          exact okb trivial rfl (by go_simp)
        ·intro v w2 hv hb2
         have r0 : v 0 = _ := hv 0 (by decide)
         have r1 : v 1 = _ := hv 1 (by decide)
         have r2 : v 2 = _ := hv 2 (by decide)
         have r3 : v 3 = _ := hv 3 (by decide)
         have r4 : v 4 = _ := hv 4 (by decide)
         have r5 : v 5 = _ := hv 5 (by decide)
         have r6 : v 6 = _ := hv 6 (by decide)
         have r7 : v 7 = _ := hv 7 (by decide)
         have r8 : v 8 = _ := hv 8 (by decide)
         have r9 : v 9 = _ := hv 9 (by decide)
         have r10 : v 10 = _ := hv 10 (by decide)
         have r11 : v 11 = _ := hv 11 (by decide)
         have r12 : v 12 = _ := hv 12 (by decide)
         have r13 : v 13 = _ := hv 13 (by decide)
         have r14 : v 14 = _ := hv 14 (by decide)
         have r15 : v 15 = _ := hv 15 (by decide)
         have r16 : v 16 = _ := hv 16 (by decide)
         have r17 : v 17 = _ := hv 17 (by decide)
         simp only [Reg.putAll, Act.put, List.setIfInBounds_toArray, List.set_cons_zero, List.set_cons_succ, r0, r1, r2, r3, r4, r5, r6, r7, r8, r9, r10, r11, r12, r13, r14, r15, r16, r17]
         clear r0 r1 r2 r3 r4 r5 r6 r7 r8 r9 r10 r11 r12 r13 r14 r15 r16 r17 hv
         have HBw := Lib.hid (HBel.out.trans (hb2.mono HBel.out.size)); clear hb2
         go_wp2_with fail
         go_ret
         exact ⟨⟨false, rfl, no_iff (ne_at HX.out HY.out (fun e => ne_at HX1.out HY1.out (fun e2 => by have := same_eq.2 e2; rw [HSm.out] at this; cases this) (by simpa using congrArg Tm.N.leaves e)))⟩, HBw.out⟩
       | true =>
        have HSm := Lib.hid hsm; clear hsm
        go_wp2_with fail
        refine Reg.region_list (by kernel_rfl) [fun v _ => v = .slice (some ⟨blk, off, none⟩) n cap, fun v _ => v = .int .i64 (j : Int), fun v _ => v = .pointer (some ⟨blk, off + j * 3, none⟩), fun v _ => v = .pointer (some ⟨blk, off + j * 3 + 1, none⟩), fun v _ => v = .slice (some ⟨lb, lo, none⟩) ll lc, fun v _ => v = .int .i64 (kk : Int), fun v _ => v = .pointer (some ⟨lb, lo + kk * 9, none⟩), fun v _ => v = .agg #[.int .u8 (k1 : Int), .int .i64 n1, .int .u64 (t1 : Int), .int .u8 (rr1 : Int), .int .u32 (i1' : Int), .int .u64 (s1 : Int), .string u1, .slice ia1 il1 ic1, .slice da1 dl1 dc1], fun v _ => v = .slice (some ⟨blk2, off2, none⟩) n cap2, fun v _ => v = .int .i64 (j : Int), fun v _ => v = .pointer (some ⟨blk2, off2 + j * 3, none⟩), fun v _ => v = .pointer (some ⟨blk2, off2 + j * 3 + 1, none⟩), fun v _ => v = .slice (some ⟨lb2, lo2, none⟩) ll lc2, fun v _ => v = .int .i64 (kk : Int), fun v _ => v = .pointer (some ⟨lb2, lo2 + kk * 9, none⟩), fun v _ => v = .agg #[.int .u8 (k2 : Int), .int .i64 n2, .int .u64 (t2' : Int), .int .u8 (rr2 : Int), .int .u32 (i2 : Int), .int .u64 (s2 : Int), .string u2, .slice ia2 il2 ic2, .slice da2 dl2 dc2], fun v _ => v = .bool true, fun v _ => v = .bool false] (by kernel_rfl) ?_ ?_ ?_
        ·refine ⟨k4, k4, k4, k4, k4, k4, k4, k4, k4, k4, k4, k4, k4, k4, k4, k4, k4, k4, trivial⟩
        ·refine ⟨?_, ?_, ?_, ?_, ?_, ?_, ?_, ?_, ?_, ?_, ?_, ?_, ?_, ?_, ?_, ?_, ?_, ?_, trivial⟩
         ·intro ev w hc hf hg hfix hdep hbel
          have e0 : ev (.tmp 0) = _ := hfix 0 (by decide)
          exact okb trivial rfl (by go_simp)
         ·intro ev w hc hf hg hfix hdep hbel
          have e5 : ev (.tmp 5) = _ := hfix 5 (by decide)
          exact okb trivial rfl (by go_simp)
         ·intro ev w hc hf hg hfix hdep hbel
          have e68 : ev (.tmp 68) = _ := hdep 0 (by decide)
          have e69 : ev (.tmp 69) = _ := hdep 1 (by decide)
          exact okb trivial rfl (by go_simp)
         ·intro ev w hc hf hg hfix hdep hbel
          have e70 : ev (.tmp 70) = _ := hdep 2 (by decide)
          exact okb trivial rfl (by go_simp)
         ·intro ev w hc hf hg hfix hdep hbel
          have e71 : ev (.tmp 71) = _ := hdep 3 (by decide)
          have hbw : Below wr.heap.size wr w := undrewX hbel
          have p1 := bcell_of hbw HP1.out; have r1 := bcell_of hbw HR1.out
          have c0 := bcell_of hbw HC0.out; have d0 := bcell_of hbw HD0.out; have c1 := bcell_of hbw HC1.out; have d1 := bcell_of hbw HD1.out; have c2 := bcell_of hbw HC2.out; have d2 := bcell_of hbw HD2.out; have c3 := bcell_of hbw HC3.out; have d3 := bcell_of hbw HD3.out; have c4 := bcell_of hbw HC4.out; have d4 := bcell_of hbw HD4.out; have c5 := bcell_of hbw HC5.out; have d5 := bcell_of hbw HD5.out; have c6 := bcell_of hbw HC6.out; have d6 := bcell_of hbw HD6.out; have c7 := bcell_of hbw HC7.out; have d7 := bcell_of hbw HD7.out; have c8 := bcell_of hbw HC8.out; have d8 := bcell_of hbw HD8.out
          exact okb trivial rfl (by go_simp)
         ·intro ev w hc hf hg hfix hdep hbel
          have e6 : ev (.tmp 6) = _ := hfix 6 (by decide)
          exact okb trivial rfl (by go_simp)
         ·intro ev w hc hf hg hfix hdep hbel
          have e72 : ev (.tmp 72) = _ := hdep 4 (by decide)
          have e73 : ev (.tmp 73) = _ := hdep 5 (by decide)
          exact okb trivial rfl (by go_simp)
         ·intro ev w hc hf hg hfix hdep hbel
          have e74 : ev (.tmp 74) = _ := hdep 6 (by decide)
          have hbw : Below wr.heap.size wr w := undrewX hbel
          have p1 := bcell_of hbw HP1.out; have r1 := bcell_of hbw HR1.out
          have c0 := bcell_of hbw HC0.out; have d0 := bcell_of hbw HD0.out; have c1 := bcell_of hbw HC1.out; have d1 := bcell_of hbw HD1.out; have c2 := bcell_of hbw HC2.out; have d2 := bcell_of hbw HD2.out; have c3 := bcell_of hbw HC3.out; have d3 := bcell_of hbw HD3.out; have c4 := bcell_of hbw HC4.out; have d4 := bcell_of hbw HD4.out; have c5 := bcell_of hbw HC5.out; have d5 := bcell_of hbw HD5.out; have c6 := bcell_of hbw HC6.out; have d6 := bcell_of hbw HD6.out; have c7 := bcell_of hbw HC7.out; have d7 := bcell_of hbw HD7.out; have c8 := bcell_of hbw HC8.out; have d8 := bcell_of hbw HD8.out
          exact okb trivial rfl (by go_simp)
         ·intro ev w hc hf hg hfix hdep hbel
          have e1 : ev (.tmp 1) = _ := hfix 1 (by decide)
          exact okb trivial rfl (by go_simp)
         ·intro ev w hc hf hg hfix hdep hbel
          have e5 : ev (.tmp 5) = _ := hfix 5 (by decide)
          exact okb trivial rfl (by go_simp)
         ·intro ev w hc hf hg hfix hdep hbel
          have e76 : ev (.tmp 76) = _ := hdep 8 (by decide)
          have e77 : ev (.tmp 77) = _ := hdep 9 (by decide)
          exact okb trivial rfl (by go_simp)
         ·intro ev w hc hf hg hfix hdep hbel
          have e78 : ev (.tmp 78) = _ := hdep 10 (by decide)
          exact okb trivial rfl (by go_simp)
         ·intro ev w hc hf hg hfix hdep hbel
          have e79 : ev (.tmp 79) = _ := hdep 11 (by decide)
          have hbw : Below wr.heap.size wr w := undrewX hbel
          have p1 := bcell_of hbw HP1.out; have r1 := bcell_of hbw HR1.out
          have c0 := bcell_of hbw HC0.out; have d0 := bcell_of hbw HD0.out; have c1 := bcell_of hbw HC1.out; have d1 := bcell_of hbw HD1.out; have c2 := bcell_of hbw HC2.out; have d2 := bcell_of hbw HD2.out; have c3 := bcell_of hbw HC3.out; have d3 := bcell_of hbw HD3.out; have c4 := bcell_of hbw HC4.out; have d4 := bcell_of hbw HD4.out; have c5 := bcell_of hbw HC5.out; have d5 := bcell_of hbw HD5.out; have c6 := bcell_of hbw HC6.out; have d6 := bcell_of hbw HD6.out; have c7 := bcell_of hbw HC7.out; have d7 := bcell_of hbw HD7.out; have c8 := bcell_of hbw HC8.out; have d8 := bcell_of hbw HD8.out
          exact okb trivial rfl (by go_simp)
         ·intro ev w hc hf hg hfix hdep hbel
          have e6 : ev (.tmp 6) = _ := hfix 6 (by decide)
          exact okb trivial rfl (by go_simp)
         ·intro ev w hc hf hg hfix hdep hbel
          have e80 : ev (.tmp 80) = _ := hdep 12 (by decide)
          have e81 : ev (.tmp 81) = _ := hdep 13 (by decide)
          exact okb trivial rfl (by go_simp)
         ·intro ev w hc hf hg hfix hdep hbel
          have e82 : ev (.tmp 82) = _ := hdep 14 (by decide)
          have hbw : Below wr.heap.size wr w := undrewX hbel
          have p1 := bcell_of hbw HP1.out; have r1 := bcell_of hbw HR1.out
          have c0 := bcell_of hbw HC0.out; have d0 := bcell_of hbw HD0.out; have c1 := bcell_of hbw HC1.out; have d1 := bcell_of hbw HD1.out; have c2 := bcell_of hbw HC2.out; have d2 := bcell_of hbw HD2.out; have c3 := bcell_of hbw HC3.out; have d3 := bcell_of hbw HD3.out; have c4 := bcell_of hbw HC4.out; have d4 := bcell_of hbw HD4.out; have c5 := bcell_of hbw HC5.out; have d5 := bcell_of hbw HD5.out; have c6 := bcell_of hbw HC6.out; have d6 := bcell_of hbw HD6.out; have c7 := bcell_of hbw HC7.out; have d7 := bcell_of hbw HD7.out; have c8 := bcell_of hbw HC8.out; have d8 := bcell_of hbw HD8.out
          exact okb trivial rfl (by go_simp)
         ·intro ev w hc hf hg hfix hdep hbel
          have e75 : ev (.tmp 75) = _ := hdep 7 (by decide)
          have e83 : ev (.tmp 83) = _ := hdep 15 (by decide)
          refine Or.inl ⟨trivial, Or.inr ⟨12, #[.agg #[.int .u8 (k1 : Int), .int .i64 n1, .int .u64 (t1 : Int), .int .u8 (rr1 : Int), .int .u32 (i1' : Int), .int .u64 (s1 : Int), .string u1, .slice ia1 il1 ic1, .slice da1 dl1 dc1], .agg #[.int .u8 (k2 : Int), .int .i64 n2, .int .u64 (t2' : Int), .int .u8 (rr2 : Int), .int .u32 (i2 : Int), .int .u64 (s2 : Int), .string u2, .slice ia2 il2 ic2, .slice da2 dl2 dc2]], w, by go_simp, ?_⟩⟩
          have hbw2 : Below W.heap.size W w := HBel.out.trans ((undrewX hbel).mono HBel.out.size)
          refine (refsame05_any k1 n1 t1 rr1 i1' s1 u1 ia1 il1 ic1 da1 dl1 dc1 li1 ld1 k2 n2 t2' rr2 i2 s2 u2 ia2 il2 ic2 da2 dl2 dc2 li2 ld2 w (HIr1.out.below hbw2) HIl1.out (HVr1.out.below hbw2) HDl1.out (HIr2.out.below hbw2) HIl2.out (HVr2.out.below hbw2) HDl2.out).mono ?_
          rintro e w1 ⟨rfl, hbel1⟩
          exact ⟨_, rfl, by rw [HSm.out], hbel1⟩
         ·intro ev w hc hf hg hfix hdep hbel
          have e84 : ev (.tmp 84) = _ := hdep 16 (by decide)
          exact okb trivial rfl (by go_simp)
        ·intro v w2 hv hb2
         have r0 : v 0 = _ := hv 0 (by decide)
         have r1 : v 1 = _ := hv 1 (by decide)
         have r2 : v 2 = _ := hv 2 (by decide)
         have r3 : v 3 = _ := hv 3 (by decide)
         have r4 : v 4 = _ := hv 4 (by decide)
         have r5 : v 5 = _ := hv 5 (by decide)
         have r6 : v 6 = _ := hv 6 (by decide)
         have r7 : v 7 = _ := hv 7 (by decide)
         have r8 : v 8 = _ := hv 8 (by decide)
         have r9 : v 9 = _ := hv 9 (by decide)
         have r10 : v 10 = _ := hv 10 (by decide)
         have r11 : v 11 = _ := hv 11 (by decide)
         have r12 : v 12 = _ := hv 12 (by decide)
         have r13 : v 13 = _ := hv 13 (by decide)
         have r14 : v 14 = _ := hv 14 (by decide)
         have r15 : v 15 = _ := hv 15 (by decide)
         have r16 : v 16 = _ := hv 16 (by decide)
         have r17 : v 17 = _ := hv 17 (by decide)
         simp only [Reg.putAll, Act.put, List.setIfInBounds_toArray, List.set_cons_zero, List.set_cons_succ, r0, r1, r2, r3, r4, r5, r6, r7, r8, r9, r10, r11, r12, r13, r14, r15, r16, r17]
         clear r0 r1 r2 r3 r4 r5 r6 r7 r8 r9 r10 r11 r12 r13 r14 r15 r16 r17 hv
         have HBw := Lib.hid (HBel.out.trans (hb2.mono HBel.out.size)); clear hb2
         go_wp2_with fail
         go_roundw
         case rel => exact ⟨kk + 1, by omega, by go_num, take_eq HX1.out HY1.out HTk2.out (same_eq.1 HSm.out), HBw.out⟩
         case measure => simp [intOf]; omega
      ·obtain rfl : kk = ll := by omega
       have hls : ls = ls2 := by have := HTk2.out; rwa [List.take_of_length_le (by rw [HLl.out]; omega), List.take_of_length_le (by rw [HLl2.out]; omega)] at this
       have HLs := Lib.hid hls; clear hls
       go_wp2_with fail
       go_roundw
       case rel => exact ⟨j + 1, by omega, by go_num, take_eq HX.out HY.out HTk.out (by rw [HLs.out, HUs.out]), HBel.out⟩
       case measure => simp [intOf]; omega
   ·obtain rfl : j = n := by omega
    go_wp2_with fail
    go_ret
    exact ⟨⟨true, rfl, ⟨fun _ => by have := HTk.out; rwa [List.take_of_length_le (by rw [HN.out]; omega), List.take_of_length_le (by rw [HN2.out]; omega)] at this, fun _ => rfl⟩⟩, HBel.out⟩
end Go.Proofs.Ytplafpchgfjomaa
