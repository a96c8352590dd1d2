import Derived.Test.YtfebbdnibimmmaaDot13
import Derived.Test.YtfebbdnibimmmaaDot14
namespace Go.Proofs.Ytfebbdnibimmmaa
open Go.RowKit Go.Maps
set_option maxHeartbeats 400000 in
theorem join_any (a : Option Addr) (n cap : Nat) (la : List Dt.Dot) (c : Option Addr) (m capc : Nat) (lb : List Dt.Dot) (W : World) (hr : VRow W a cap la) (hl : la.length = n) (hn : n ≤ 100000000) (hs : VRow W c capc lb) (hm : lb.length = m) (hn2 : m ≤ 100000000) :
    Calls Try.prog 21 #[.slice a n cap, .slice c m capc] W (RetVec W (Dt.join la lb)) := by
  have H := Lib.hid (bothJ a n cap la c m capc lb W hr hl hn hs hm hn2)
  clear hr hl hs hm
  go_enter Try.func21, Try.ntmps21
  go_wp2_with fail
  refine H.out.mono ?_
  rintro e w1 ⟨a2, c2, rfl, hr2, hb2⟩
  have HR2 := Lib.hid hr2; have Hb2 := Lib.hid hb2
  clear hr2 hb2
  go_wp2_with fail
  go_ret
  exact ⟨a2, c2, rfl, HR2.out, Hb2.out⟩
set_option maxHeartbeats 400000 in
theorem meet_any (a : Option Addr) (n cap : Nat) (la : List Dt.Dot) (c : Option Addr) (m capc : Nat) (lb : List Dt.Dot) (W : World) (hr : VRow W a cap la) (hl : la.length = n) (hn : n ≤ 100000000) (hs : VRow W c capc lb) (hm : lb.length = m) (hn2 : m ≤ 100000000) :
    Calls Try.prog 23 #[.slice a n cap, .slice c m capc] W (RetVec W (Dt.meet la lb)) := by
  have H := Lib.hid (bothM a n cap la c m capc lb W hr hl hn hs hm hn2)
  clear hr hl hs hm
  go_enter Try.func23, Try.ntmps23
  go_wp2_with fail
  refine H.out.mono ?_
  rintro e w1 ⟨a2, c2, rfl, hr2, hb2⟩
  have HR2 := Lib.hid hr2; have Hb2 := Lib.hid hb2
  clear hr2 hb2
  go_wp2_with fail
  go_ret
  exact ⟨a2, c2, rfl, HR2.out, Hb2.out⟩
set_option maxRecDepth 100000 in
set_option maxHeartbeats 1600000 in
theorem has_any (a : Option Addr) (n cap : Nat) (r i s : Nat) (l : List Dt.Dot) (W : World) (hr : VRow W a cap l) (hl : l.length = n) :
    Calls Try.prog 17 #[.slice a n cap, dotV ((r, i), s)] W fun e w' => e = .returned (.bool (Dt.has l ((r, i), s))) ∧ Below W.heap.size W w' := by
  have HR := Lib.hid hr; have HL := Lib.hid hl
  clear hr hl
  have hC : ∀ w2, Below (W.alloc (.cells #[.int .u8 (r : Int), .int .u32 (i : Int), .int .u64 (s : Int)] 29)).drew.heap.size (W.alloc (.cells #[.int .u8 (r : Int), .int .u32 (i : Int), .int .u64 (s : Int)] 29)).drew w2 → w2.cell? ⟨W.heap.size, 0, none⟩ = some (.int .u8 (r : Int)) ∧ w2.cell? ⟨W.heap.size, 1, none⟩ = some (.int .u32 (i : Int)) ∧ w2.cell? ⟨W.heap.size, 2, none⟩ = some (.int .u64 (s : Int)) := fun w2 h =>
    ⟨(h.cell (p := ⟨W.heap.size, 0, none⟩) (by simp)).trans (by simp), (h.cell (p := ⟨W.heap.size, 1, none⟩) (by simp)).trans (by simp), (h.cell (p := ⟨W.heap.size, 2, none⟩) (by simp)).trans (by simp)⟩
  have HC := Lib.hid hC; clear hC
  cases hm : Dt.may ((r, i), s)
  · have HM := Lib.hid hm; clear hm
    go_enter Try.func17, Try.ntmps17
    go_wp2_with fail
    refine Reg.region_list (by kernel_rfl) [fun v _ => v = dotV ((r, i), s), fun v _ => v = .bool false, fun v _ => v = .bool false, fun v _ => v = undef, fun v _ => v = undef, fun v _ => v = undef, fun v _ => v = undef, fun v _ => v = undef, fun v _ => v = undef, fun v _ => v = undef, fun v _ => v = .bool false, fun v _ => v = .bool false] (by kernel_rfl) ?_ ?_ ?_
    · refine ⟨(fun _ _ _ _ h => h), (fun _ _ _ _ h => h), (fun _ _ _ _ h => h), (fun _ _ _ _ h => h), (fun _ _ _ _ h => h), (fun _ _ _ _ h => h), (fun _ _ _ _ h => h), (fun _ _ _ _ h => h), (fun _ _ _ _ h => h), (fun _ _ _ _ h => h), (fun _ _ _ _ h => h), (fun _ _ _ _ h => h), trivial⟩
    · refine ⟨?_, ?_, ?_, ?_, ?_, ?_, ?_, ?_, ?_, ?_, ?_, ?_, trivial⟩
      · intro ev w hc hf hg hfix hdep hbel
        have e3 : ev (.tmp 3) = .pointer (some ⟨W.heap.size, 0, none⟩) := hfix 3 (by decide)
        obtain ⟨hc0, hc1, hc2⟩ := HC.out w hbel
        exact Or.inl ⟨trivial, Or.inl ⟨dotV ((r, i), s), w, by go_simp, rfl, Below.refl _ _⟩⟩
      · intro ev w hc hf hg hfix hdep hbel
        have e5 : ev (.tmp 5) = dotV ((r, i), s) := hdep 0 (by decide)
        refine Or.inl ⟨trivial, Or.inr ⟨8, #[dotV ((r, i), s)], w, by go_simp, ?_⟩⟩
        refine (may_any r i s w).mono ?_
        rintro e w1 ⟨rfl, hb1⟩
        exact ⟨_, rfl, by rw [HM.out], hb1⟩
      · intro ev w hc hf hg hfix hdep hbel
        have e6 : ev (.tmp 6) = .bool false := hdep 1 (by decide)
        exact Or.inl ⟨trivial, Or.inl ⟨.bool false, w, by go_simp, rfl, Below.refl _ _⟩⟩
      · intro ev w hc hf hg hfix hdep hbel
        have fg : ev (.tmp 7) = .bool false := hdep 2 (by decide)
        have e3 : ev (.tmp 3) = .pointer (some ⟨W.heap.size, 0, none⟩) := hfix 3 (by decide)
        exact Or.inr ⟨fg, rfl⟩
      · intro ev w hc hf hg hfix hdep hbel
        have fg : ev (.tmp 7) = .bool false := hdep 2 (by decide)
        have e8 : ev (.tmp 8) = undef := hdep 3 (by decide)
        exact Or.inr ⟨fg, rfl⟩
      · intro ev w hc hf hg hfix hdep hbel
        have fg : ev (.tmp 7) = .bool false := hdep 2 (by decide)
        have e0 : ev (.tmp 0) = .slice a n cap := hfix 0 (by decide)
        exact Or.inr ⟨fg, rfl⟩
      · intro ev w hc hf hg hfix hdep hbel
        have fg : ev (.tmp 7) = .bool false := hdep 2 (by decide)
        have e3 : ev (.tmp 3) = .pointer (some ⟨W.heap.size, 0, none⟩) := hfix 3 (by decide)
        exact Or.inr ⟨fg, rfl⟩
      · intro ev w hc hf hg hfix hdep hbel
        have fg : ev (.tmp 7) = .bool false := hdep 2 (by decide)
        have e11 : ev (.tmp 11) = undef := hdep 6 (by decide)
        exact Or.inr ⟨fg, rfl⟩
      · intro ev w hc hf hg hfix hdep hbel
        have fg : ev (.tmp 7) = .bool false := hdep 2 (by decide)
        have e10 : ev (.tmp 10) = undef := hdep 5 (by decide)
        have e12 : ev (.tmp 12) = undef := hdep 7 (by decide)
        exact Or.inr ⟨fg, rfl⟩
      · intro ev w hc hf hg hfix hdep hbel
        have fg : ev (.tmp 7) = .bool false := hdep 2 (by decide)
        have e9 : ev (.tmp 9) = undef := hdep 4 (by decide)
        have e13 : ev (.tmp 13) = undef := hdep 8 (by decide)
        exact Or.inr ⟨fg, rfl⟩
      · intro ev w hc hf hg hfix hdep hbel
        have e7 : ev (.tmp 7) = .bool false := hdep 2 (by decide)
        have e14 : ev (.tmp 14) = undef := hdep 9 (by decide)
        exact Or.inl ⟨trivial, Or.inl ⟨.bool false, w, by go_simp, rfl, Below.refl _ _⟩⟩
      · intro ev w hc hf hg hfix hdep hbel
        have e15 : ev (.tmp 15) = .bool false := hdep 10 (by decide)
        exact Or.inl ⟨trivial, Or.inl ⟨.bool false, w, by go_simp, rfl, Below.refl _ _⟩⟩
    · intro v w2 hv hb2
      have r0 : v 0 = dotV ((r, i), s) := hv 0 (by decide)
      have r1 : v 1 = .bool false := hv 1 (by decide)
      have r2 : v 2 = .bool false := hv 2 (by decide)
      have r3 : v 3 = undef := hv 3 (by decide)
      have r4 : v 4 = undef := hv 4 (by decide)
      have r5 : v 5 = undef := hv 5 (by decide)
      have r6 : v 6 = undef := hv 6 (by decide)
      have r7 : v 7 = undef := hv 7 (by decide)
      have r8 : v 8 = undef := hv 8 (by decide)
      have r9 : v 9 = undef := hv 9 (by decide)
      have r10 : v 10 = .bool false := hv 10 (by decide)
      have r11 : v 11 = .bool false := hv 11 (by decide)
      simp only [Reg.putAll, Act.put, List.setIfInBounds_toArray, List.set_cons_zero, List.set_cons_succ, r0, r1, r2, r3, r4, r5, r6, r7, r8, r9, r10, r11]
      clear r0 r1 r2 r3 r4 r5 r6 r7 r8 r9 r10 r11 hv
      go_wp2_with fail
      go_ret
      exact ⟨ret_bool (by simp [Dt.has, HM.out]), ((Below.refl _ _).alloc (Nat.le_refl _) _).trans (hb2.mono (by simp))⟩
  · have HM := Lib.hid hm; clear hm
    go_enter Try.func17, Try.ntmps17
    go_wp2_with fail
    refine Reg.region_list (by kernel_rfl) [fun v _ => v = dotV ((r, i), s), fun v _ => v = .bool true, fun v _ => v = .bool true, fun v _ => v = .pointer (some ⟨W.heap.size, 2, none⟩), fun v _ => v = .int .u64 (s : Int), fun v _ => v = .slice a n cap, fun v _ => v = .pointer (some ⟨W.heap.size, 0, none⟩), fun v _ => v = acV (r, i), fun v _ => v = .int .u64 (Dt.get l (r, i) : Nat), fun v _ => v = .bool (decide (s ≤ Dt.get l (r, i))), fun v _ => v = .bool (decide (s ≤ Dt.get l (r, i))), fun v _ => v = .bool (decide (s ≤ Dt.get l (r, i)))] (by kernel_rfl) ?_ ?_ ?_
    · refine ⟨(fun _ _ _ _ h => h), (fun _ _ _ _ h => h), (fun _ _ _ _ h => h), (fun _ _ _ _ h => h), (fun _ _ _ _ h => h), (fun _ _ _ _ h => h), (fun _ _ _ _ h => h), (fun _ _ _ _ h => h), (fun _ _ _ _ h => h), (fun _ _ _ _ h => h), (fun _ _ _ _ h => h), (fun _ _ _ _ h => h), trivial⟩
    · refine ⟨?_, ?_, ?_, ?_, ?_, ?_, ?_, ?_, ?_, ?_, ?_, ?_, trivial⟩
      · intro ev w hc hf hg hfix hdep hbel
        have e3 : ev (.tmp 3) = .pointer (some ⟨W.heap.size, 0, none⟩) := hfix 3 (by decide)
        obtain ⟨hc0, hc1, hc2⟩ := HC.out w hbel
        exact Or.inl ⟨trivial, Or.inl ⟨dotV ((r, i), s), w, by go_simp, rfl, Below.refl _ _⟩⟩
      · intro ev w hc hf hg hfix hdep hbel
        have e5 : ev (.tmp 5) = dotV ((r, i), s) := hdep 0 (by decide)
        refine Or.inl ⟨trivial, Or.inr ⟨8, #[dotV ((r, i), s)], w, by go_simp, ?_⟩⟩
        refine (may_any r i s w).mono ?_
        rintro e w1 ⟨rfl, hb1⟩
        exact ⟨_, rfl, by rw [HM.out], hb1⟩
      · intro ev w hc hf hg hfix hdep hbel
        have e6 : ev (.tmp 6) = .bool true := hdep 1 (by decide)
        exact Or.inl ⟨trivial, Or.inl ⟨.bool true, w, by go_simp, rfl, Below.refl _ _⟩⟩
      · intro ev w hc hf hg hfix hdep hbel
        have fg : ev (.tmp 7) = .bool true := hdep 2 (by decide)
        have e3 : ev (.tmp 3) = .pointer (some ⟨W.heap.size, 0, none⟩) := hfix 3 (by decide)
        exact Or.inl ⟨fg, Or.inl ⟨.pointer (some ⟨W.heap.size, 2, none⟩), w, by go_simp, rfl, Below.refl _ _⟩⟩
      · intro ev w hc hf hg hfix hdep hbel
        have fg : ev (.tmp 7) = .bool true := hdep 2 (by decide)
        have e8 : ev (.tmp 8) = .pointer (some ⟨W.heap.size, 2, none⟩) := hdep 3 (by decide)
        obtain ⟨hc0, hc1, hc2⟩ := HC.out w hbel
        exact Or.inl ⟨fg, Or.inl ⟨.int .u64 (s : Int), w, by go_simp, rfl, Below.refl _ _⟩⟩
      · intro ev w hc hf hg hfix hdep hbel
        have fg : ev (.tmp 7) = .bool true := hdep 2 (by decide)
        have e0 : ev (.tmp 0) = .slice a n cap := hfix 0 (by decide)
        exact Or.inl ⟨fg, Or.inl ⟨.slice a n cap, w, by go_simp, rfl, Below.refl _ _⟩⟩
      · intro ev w hc hf hg hfix hdep hbel
        have fg : ev (.tmp 7) = .bool true := hdep 2 (by decide)
        have e3 : ev (.tmp 3) = .pointer (some ⟨W.heap.size, 0, none⟩) := hfix 3 (by decide)
        exact Or.inl ⟨fg, Or.inl ⟨.pointer (some ⟨W.heap.size, 0, none⟩), w, by go_simp, rfl, Below.refl _ _⟩⟩
      · intro ev w hc hf hg hfix hdep hbel
        have fg : ev (.tmp 7) = .bool true := hdep 2 (by decide)
        have e11 : ev (.tmp 11) = .pointer (some ⟨W.heap.size, 0, none⟩) := hdep 6 (by decide)
        obtain ⟨hc0, hc1, hc2⟩ := HC.out w hbel
        exact Or.inl ⟨fg, Or.inl ⟨acV (r, i), w, by go_simp, rfl, Below.refl _ _⟩⟩
      · intro ev w hc hf hg hfix hdep hbel
        have fg : ev (.tmp 7) = .bool true := hdep 2 (by decide)
        have e10 : ev (.tmp 10) = .slice a n cap := hdep 5 (by decide)
        have e12 : ev (.tmp 12) = acV (r, i) := hdep 7 (by decide)
        refine Or.inl ⟨fg, Or.inr ⟨15, #[.slice a n cap, acV (r, i)], w, by go_simp, ?_⟩⟩
        refine (get_any a n cap r i l w (HR.out.below (((Below.refl _ _).alloc (Nat.le_refl _) _).drew.trans (hbel.mono (by simp)))) HL.out).mono ?_
        rintro e w1 ⟨rfl, hb1⟩
        exact ⟨_, rfl, rfl, hb1⟩
      · intro ev w hc hf hg hfix hdep hbel
        have fg : ev (.tmp 7) = .bool true := hdep 2 (by decide)
        have e9 : ev (.tmp 9) = .int .u64 (s : Int) := hdep 4 (by decide)
        have e13 : ev (.tmp 13) = .int .u64 (Dt.get l (r, i) : Nat) := hdep 8 (by decide)
        exact Or.inl ⟨fg, Or.inl ⟨.bool (decide (s ≤ Dt.get l (r, i))), w, by go_simp, rfl, Below.refl _ _⟩⟩
      · intro ev w hc hf hg hfix hdep hbel
        have e7 : ev (.tmp 7) = .bool true := hdep 2 (by decide)
        have e14 : ev (.tmp 14) = .bool (decide (s ≤ Dt.get l (r, i))) := hdep 9 (by decide)
        exact Or.inl ⟨trivial, Or.inl ⟨.bool (decide (s ≤ Dt.get l (r, i))), w, by go_simp, rfl, Below.refl _ _⟩⟩
      · intro ev w hc hf hg hfix hdep hbel
        have e15 : ev (.tmp 15) = .bool (decide (s ≤ Dt.get l (r, i))) := hdep 10 (by decide)
        exact Or.inl ⟨trivial, Or.inl ⟨.bool (decide (s ≤ Dt.get l (r, i))), w, by go_simp, rfl, Below.refl _ _⟩⟩
    · intro v w2 hv hb2
      have r0 : v 0 = dotV ((r, i), s) := hv 0 (by decide)
      have r1 : v 1 = .bool true := hv 1 (by decide)
      have r2 : v 2 = .bool true := hv 2 (by decide)
      have r3 : v 3 = .pointer (some ⟨W.heap.size, 2, none⟩) := hv 3 (by decide)
      have r4 : v 4 = .int .u64 (s : Int) := hv 4 (by decide)
      have r5 : v 5 = .slice a n cap := hv 5 (by decide)
      have r6 : v 6 = .pointer (some ⟨W.heap.size, 0, none⟩) := hv 6 (by decide)
      have r7 : v 7 = acV (r, i) := hv 7 (by decide)
      have r8 : v 8 = .int .u64 (Dt.get l (r, i) : Nat) := hv 8 (by decide)
      have r9 : v 9 = .bool (decide (s ≤ Dt.get l (r, i))) := hv 9 (by decide)
      have r10 : v 10 = .bool (decide (s ≤ Dt.get l (r, i))) := hv 10 (by decide)
      have r11 : v 11 = .bool (decide (s ≤ Dt.get l (r, i))) := hv 11 (by decide)
      simp only [Reg.putAll, Act.put, List.setIfInBounds_toArray, List.set_cons_zero, List.set_cons_succ, r0, r1, r2, r3, r4, r5, r6, r7, r8, r9, r10, r11]
      clear r0 r1 r2 r3 r4 r5 r6 r7 r8 r9 r10 r11 hv
      go_wp2_with fail
      go_ret
      exact ⟨ret_bool (by simp [Dt.has, HM.out]), ((Below.refl _ _).alloc (Nat.le_refl _) _).trans (hb2.mono (by simp))⟩
def nextV (l : List Dt.Dot) (a : Dt.Ac) : Value := if Dt.mayA a = false then .tuple #[dotV ((0, 0), 0), .int .i64 2] else if Dt.get l a = 1048576 then .tuple #[dotV ((0, 0), 0), .int .i64 14] else .tuple #[dotV (a, Dt.get l a + 1), .int .i64 0]
theorem set3 {B : Nat} {w w1 : World} (h : Below B w w1) {b : Nat} (hb : B ≤ b) (x y z : Value) : Below B w (((w1.setCell ⟨b, 0, none⟩ x).setCell ⟨b, 1, none⟩ y).setCell ⟨b, 2, none⟩ z) := ((h.setCell hb _).setCell hb _).setCell hb _
set_option maxHeartbeats 800000 in
theorem next_any (a : Option Addr) (n cap : Nat) (r i : Nat) (l : List Dt.Dot) (W : World) (hr : VRow W a cap l) (hl : l.length = n) :
    Calls Try.prog 25 #[.slice a n cap, acV (r, i)] W fun e w' => e = .returned (nextV l (r, i)) ∧ Below W.heap.size W w' := by
  have HR := Lib.hid hr; have HL := Lib.hid hl
  clear hr hl
  cases hm : Dt.mayA (r, i)
  · have he : nextV l (r, i) = .tuple #[dotV ((0, 0), 0), .int .i64 2] := by unfold nextV; rw [if_pos hm]
    have HE := Lib.hid he; clear he
    go_enter Try.func25, Try.ntmps25
    go_wp2_with fail
    refine (mayActor_any r i _).mono ?_
    rintro e w1 ⟨rfl, hb⟩
    obtain ⟨hc, hf⟩ := bcell hb
    go_wp2_with fail
    refine bodyPost_ret (v := .tuple #[.agg #[.int .u8 0, .int .u32 0, .int .u64 0], .int .i64 2]) (by simp [results, Try.results25, go_sem, hc]) rfl ⟨by rw [HE.out]; rfl, ?_⟩
    exact set3 ((((Below.refl _ _).alloc (Nat.le_refl _) _).alloc (by simp) _).trans (hb.mono (by simp; omega))) (by omega) _ _ _
  · by_cases hx : Dt.get l (r, i) = 1048576
    · have he : nextV l (r, i) = .tuple #[dotV ((0, 0), 0), .int .i64 14] := by unfold nextV; rw [if_neg (by rw [hm]; simp), if_pos hx]
      have HE := Lib.hid he; clear he
      have hx2 : ((Dt.get l (r, i) : Nat) : Int) = 1048576 := by omega
      have HX := Lib.hid hx2; clear hx hx2
      go_enter Try.func25, Try.ntmps25
      go_wp2_with fail
      refine (mayActor_any r i _).mono ?_
      rintro e w1 ⟨rfl, hb⟩
      obtain ⟨hc, hf⟩ := bcell hb
      have hz : W.heap.size + 1 < w1.heap.size := by have := hb.size; simp at this; omega
      have hb0 : Below W.heap.size W w1 := (((Below.refl _ _).alloc (Nat.le_refl _) _).alloc (by simp) _).trans (hb.mono (by simp; omega))
      have Hb0 := Lib.hid hb0; clear hb0
      go_wp2_with fail
      refine (get_any a n cap r i l w1 (HR.out.below Hb0.out) HL.out).mono ?_
      rintro e w2 ⟨rfl, hb2⟩
      rw [HX.out]
      obtain ⟨hc2, hf2⟩ := bcell hb2
      go_wp2_with fail
      refine bodyPost_ret (v := .tuple #[.agg #[.int .u8 0, .int .u32 0, .int .u64 0], .int .i64 14]) (by simp [results, Try.results25, go_sem, hc, hc2, hz]) rfl ⟨by rw [HE.out]; rfl, ?_⟩
      exact set3 (Hb0.out.trans (hb2.mono Hb0.out.size)) (by omega) _ _ _
    · have he : nextV l (r, i) = .tuple #[dotV ((r, i), Dt.get l (r, i) + 1), .int .i64 0] := by unfold nextV; rw [if_neg (by rw [hm]; simp), if_neg hx]
      have HE := Lib.hid he; clear he
      have hle := Dt.get_le l (r, i)
      have hx2 : (((Dt.get l (r, i) : Nat) : Int) == 1048576) = false := by simp; omega
      generalize hg : Dt.get l (r, i) = g at HE hx hle hx2
      have HG := Lib.hid hg; clear hg
      go_enter Try.func25, Try.ntmps25
      go_wp2_with fail
      refine (mayActor_any r i _).mono ?_
      rintro e w1 ⟨rfl, hb⟩
      obtain ⟨hc, hf⟩ := bcell hb
      have hz0 : W.heap.size < w1.heap.size := by have := hb.size; simp at this; omega
      have hz : W.heap.size + 1 < w1.heap.size := by have := hb.size; simp at this; omega
      have hb0 : Below W.heap.size W w1 := (((Below.refl _ _).alloc (Nat.le_refl _) _).alloc (by simp) _).trans (hb.mono (by simp; omega))
      have Hb0 := Lib.hid hb0; clear hb0
      go_wp2_with fail
      refine (get_any a n cap r i l w1 (HR.out.below Hb0.out) HL.out).mono ?_
      rintro e w2 ⟨rfl, hb2⟩
      rw [HG.out]
      obtain ⟨hc2, hf2⟩ := bcell hb2
      go_wp2_with fail
      refine bodyPost_ret (v := .tuple #[.agg #[.int .u8 (r : Int), .int .u32 (i : Int), .int .u64 ((g + 1 : Nat) : Int)], .int .i64 0]) (by simp [results, Try.results25, go_sem, hc, hc2, hz]) rfl ⟨by rw [HE.out], ?_⟩
      exact set3 (Hb0.out.trans (hb2.mono Hb0.out.size)) (by omega) _ _ _
end Go.Proofs.Ytfebbdnibimmmaa
