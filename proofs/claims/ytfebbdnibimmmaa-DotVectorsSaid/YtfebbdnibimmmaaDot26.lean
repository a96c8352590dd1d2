import Derived.Test.YtfebbdnibimmmaaDot25
namespace Go.Proofs.Ytfebbdnibimmmaa
open Go.RowKit Go.Maps Go.Buf
set_option maxRecDepth 100000 in
set_option maxHeartbeats 12800000 in
theorem vectors_small (av : Option Addr) (n cv : Nat) (lv : List Dt.Dot) (aw : Option Addr) (m cw : Nat) (lw : List Dt.Dot) (d o : Dt.Dot) (W : World) (hv : VRow W av cv lv) (hlv : lv.length = n) (hn : n ≤ 100) (hw : VRow W aw cw lw) (hlw : lw.length = m) (hm : m ≤ 100) (hd : Dt.okD d) (ho : Dt.okD o) :
    Calls Try.prog 3 #[.slice av n cv, .slice aw m cw, dotV d, dotV o] W fun e w' => e = .returned (.bool true) ∧ Below W.heap.size W w' := by
  obtain ⟨⟨r, i⟩, s⟩ := d
  obtain ⟨⟨ro, io⟩, so⟩ := o
  have HV := Lib.hid hv; have HLv := Lib.hid hlv; have HW := Lib.hid hw; have HLw := Lib.hid hlw; have HD := Lib.hid hd; have HO := Lib.hid ho
  clear hv hlv hw hlw hd ho
  go_enter Try.func3, Try.ntmps3
  go_wp2_with (first
    | (refine wpList_append_vb rfl (.tmp 26) (.tmp 27) rfl W.heap.size _ [] none rfl (VBf.empty _ (by have := HB1.out.size; simp; omega)) _ m lw rfl (src_vrow (HW.out.below (Below.alloc HB1.out HB1.out.size _)) HLw.out (by omega)) HLw.out HW.out.ok (by first | (simp; done) | (simp; omega)) ?_; intro v2 w2 row2 hb2 hg2 hn2;
       have HB2 := Lib.hid (Below.grown (Below.alloc (Below.refl _ _) (Nat.le_refl _) _) hg2 (by first | (simp; done) | (simp; omega)) (fun k hk => by cases hk) : Below w1.heap.size w1 w2);
       rw [List.nil_append] at hb2; obtain ⟨a10, c10, hv2, hw2⟩ := hb2.row; rw [HLw.out] at hv2;
       have H10 := Lib.hid hw2; clear hb2 hg2 hn2 hw2; subst hv2)
    | (refine wpList_append_vb rfl (.tmp 23) (.tmp 24) rfl W.heap.size _ [] none rfl (VBf.empty _ (by first | (simp; done) | (simp; omega))) _ n lv rfl (src_vrow (HV.out.below (Below.alloc (Below.alloc (Below.alloc (Below.refl _ _) (Nat.le_refl _) _) (by first | (simp; done) | (simp; omega)) _) (by first | (simp; done) | (simp; omega)) _)) HLv.out (by omega)) HLv.out HV.out.ok (by first | (simp; done) | (simp; omega)) ?_; intro v1 w1 row1 hb1 hg1 hn1;
       have HB1 := Lib.hid (Below.grown (Below.alloc (Below.alloc (Below.alloc (Below.refl _ _) (Nat.le_refl _) _) (by first | (simp; done) | (simp; omega)) _) (by first | (simp; done) | (simp; omega)) _) hg1 (by first | (simp; done) | (simp; omega)) (fun k hk => by cases hk) : Below W.heap.size W w1);
       have HG1 := Lib.hid hg1;
       rw [List.nil_append] at hb1; obtain ⟨a9, c9, hv1, hw1⟩ := hb1.row; rw [HLv.out] at hv1;
       have H9 := Lib.hid hw1; clear hb1 hg1 hn1 hw1; subst hv1))
  obtain ⟨b6, hb6⟩ : ∃ b6, b6 = W.heap.size := ⟨_, rfl⟩
  obtain ⟨b7, hb7⟩ : ∃ b7, b7 = W.heap.size + 1 := ⟨_, rfl⟩
  have hC : ∀ w', Below w2.heap.size w2 w' → w'.cell? ⟨b6, 0, none⟩ = some (.int .u8 (r : Int)) ∧ w'.cell? ⟨b6, 1, none⟩ = some (.int .u32 (i : Int)) ∧ w'.cell? ⟨b6, 2, none⟩ = some (.int .u64 (s : Int)) ∧ w'.cell? ⟨b7, 0, none⟩ = some (.int .u8 (ro : Int)) ∧ w'.cell? ⟨b7, 1, none⟩ = some (.int .u32 (io : Int)) ∧ w'.cell? ⟨b7, 2, none⟩ = some (.int .u64 (so : Int)) := by
    intro w' h
    have h1 := HB1.out.size
    have hz : W.heap.size + 3 ≤ w1.heap.size := by have := HG1.out.size; simp at this; omega
    have h2 := HB2.out.size
    have hk : ∀ (b k : Nat) (v : Value), b < W.heap.size + 2 → ((W.alloc (.cells #[.int .u8 (r : Int), .int .u32 (i : Int), .int .u64 (s : Int)] 29)).alloc (.cells #[.int .u8 (ro : Int), .int .u32 (io : Int), .int .u64 (so : Int)] 29)).cell? ⟨b, k, none⟩ = some v → w'.cell? ⟨b, k, none⟩ = some v := fun b k v hb h3 =>
      ((h.cell (p := ⟨b, k, none⟩) (by simp only; omega)).trans (HB2.out.cell (p := ⟨b, k, none⟩) (by simp only; omega))).trans (HG1.out.cell (((Below.alloc (Below.refl _ _) (Nat.le_refl _) _).cell (p := ⟨b, k, none⟩) (by simp; omega)).trans h3) (by simp))
    subst hb6; subst hb7
    refine ⟨?_, ?_, ?_, ?_, ?_, ?_⟩ <;> (refine hk _ _ _ ?_ ?_; omega; simp)
  have HC := Lib.hid hC; clear hC
  rw [← hb7, ← hb6]
  have hb0 : Below W.heap.size W w2 := HB1.out.trans (HB2.out.mono HB1.out.size)
  have HV := Lib.hid (HV.out.below hb0); have HW := Lib.hid (HW.out.below hb0); have H9 := Lib.hid (H9.out.below HB2.out)
  have HB0 := Lib.hid hb0; have HB := Lib.hid (Below.refl w2.heap.size w2)
  obtain ⟨LC, hLC⟩ : ∃ L, L = Dt.canon lv := ⟨_, rfl⟩
  obtain ⟨LJ, hLJ⟩ : ∃ L, L = Dt.join lv lw := ⟨_, rfl⟩
  obtain ⟨LM, hLM⟩ : ∃ L, L = Dt.meet lv lw := ⟨_, rfl⟩
  obtain ⟨NLC, hNLC⟩ : ∃ L, L = LC.length := ⟨_, rfl⟩
  obtain ⟨NLJ, hNLJ⟩ : ∃ L, L = LJ.length := ⟨_, rfl⟩
  obtain ⟨NLM, hNLM⟩ : ∃ L, L = LM.length := ⟨_, rfl⟩
  have ELC := Lib.hid hLC.symm; have ELJ := Lib.hid hLJ.symm; have ELM := Lib.hid hLM.symm; have HNLC := Lib.hid hNLC; have HNLJ := Lib.hid hNLJ; have HNLM := Lib.hid hNLM
  have HLC := Lib.hid (show (Dt.canon lv).length = NLC by rw [hNLC, hLC]); have HLJ := Lib.hid (show (Dt.join lv lw).length = NLJ by rw [hNLJ, hLJ]); have HLM := Lib.hid (show (Dt.meet lv lw).length = NLM by rw [hNLM, hLM])
  clear hLC hLJ hLM hNLC hNLJ hNLM hb6 hb7 hb0 HB1 HB2 HG1
  go_wp2_with fail
  refine Reg.region_list (by kernel_rfl) [fun v _ => v = .pointer (some ⟨b6, 0, none⟩), fun v _ => v = acV (r, i), fun v _ => v = .bool (Dt.mayA (r, i)), fun v _ => v = .pointer (some ⟨b6, 0, none⟩), fun v _ => v = acV (r, i), fun v _ => v = .bool (Dt.mayA (r, i)), fun v _ => v = .bool false, fun v _ => v = .bool false, fun v _ => v = dotV ((r, i), s), fun v _ => v = .bool (Dt.may ((r, i), s)), fun v _ => v = dotV ((r, i), s), fun v _ => v = .bool (Dt.may ((r, i), s)), fun v _ => v = .bool false, fun v _ => v = .bool false, fun v _ => v = .bool false, fun v _ => v = dotV ((r, i), s), fun v _ => v = dotV ((ro, io), so), fun v _ => v = .int .i64 (Dt.cmp ((r, i), s) ((ro, io), so)), fun v _ => v = dotV ((r, i), s), fun v _ => v = dotV ((ro, io), so), fun v _ => v = .int .i64 (Dt.cmp ((r, i), s) ((ro, io), so)), fun v _ => v = .bool false, fun v _ => v = .bool false, fun v _ => v = .bool false, fun v _ => v = .slice a9 n c9, fun v w => ∃ b c, v = .slice b NLC c ∧ VRow w b c LC, fun v _ => v = .slice av n cv, fun v w => ∃ b c, v = .slice b NLC c ∧ VRow w b c LC, fun v _ => v = .bool true, fun v _ => v = .bool false, fun v _ => v = .bool false] (by kernel_rfl) ?_ ?_ ?_
  · refine ⟨(fun _ _ _ _ h => h), (fun _ _ _ _ h => h), (fun _ _ _ _ h => h), (fun _ _ _ _ h => h), (fun _ _ _ _ h => h), (fun _ _ _ _ h => h), (fun _ _ _ _ h => h), (fun _ _ _ _ h => h), (fun _ _ _ _ h => h), (fun _ _ _ _ h => h), (fun _ _ _ _ h => h), (fun _ _ _ _ h => h), (fun _ _ _ _ h => h), (fun _ _ _ _ h => h), (fun _ _ _ _ h => h), (fun _ _ _ _ h => h), (fun _ _ _ _ h => h), (fun _ _ _ _ h => h), (fun _ _ _ _ h => h), (fun _ _ _ _ h => h), (fun _ _ _ _ h => h), (fun _ _ _ _ h => h), (fun _ _ _ _ h => h), (fun _ _ _ _ h => h), (fun _ _ _ _ h => h), (fun v wa wb hb h => by obtain ⟨b, c, h1, h2⟩ := h; exact ⟨b, c, h1, h2.below hb⟩), (fun _ _ _ _ h => h), (fun v wa wb hb h => by obtain ⟨b, c, h1, h2⟩ := h; exact ⟨b, c, h1, h2.below hb⟩), (fun _ _ _ _ h => h), (fun _ _ _ _ h => h), (fun _ _ _ _ h => h), trivial⟩
  · refine ⟨?_, ?_, ?_, ?_, ?_, ?_, ?_, ?_, ?_, ?_, ?_, ?_, ?_, ?_, ?_, ?_, ?_, ?_, ?_, ?_, ?_, ?_, ?_, ?_, ?_, ?_, ?_, ?_, ?_, ?_, ?_, trivial⟩
    · intro ev w hc hf hg hfix hdep hbel
      have e6 : ev (.tmp 6) = .pointer (some ⟨b6, 0, none⟩) := hfix 6 (by decide)
      exact Or.inl ⟨trivial, Or.inl ⟨.pointer (some ⟨b6, 0, none⟩), w, by go_simp, rfl, Below.refl _ _⟩⟩
    · intro ev w hc hf hg hfix hdep hbel
      have e29 : ev (.tmp 29) = .pointer (some ⟨b6, 0, none⟩) := hdep 0 (by decide)
      obtain ⟨hc0, hc1, hc2, hc3, hc4, hc5⟩ := HC.out w (HB.out.drew.trans (hbel.mono HB.out.size))
      exact Or.inl ⟨trivial, Or.inl ⟨acV (r, i), w, by go_simp, rfl, Below.refl _ _⟩⟩
    · intro ev w hc hf hg hfix hdep hbel
      have e30 : ev (.tmp 30) = acV (r, i) := hdep 1 (by decide)
      refine Or.inl ⟨trivial, Or.inr ⟨6, #[acV (r, i)], w, by go_simp, ?_⟩⟩
      refine (mayActor_any r i w).mono ?_
      rintro e w1 ⟨rfl, hb1⟩
      exact ⟨_, rfl, rfl, hb1⟩
    · intro ev w hc hf hg hfix hdep hbel
      have e6 : ev (.tmp 6) = .pointer (some ⟨b6, 0, none⟩) := hfix 6 (by decide)
      exact Or.inl ⟨trivial, Or.inl ⟨.pointer (some ⟨b6, 0, none⟩), w, by go_simp, rfl, Below.refl _ _⟩⟩
    · intro ev w hc hf hg hfix hdep hbel
      have e32 : ev (.tmp 32) = .pointer (some ⟨b6, 0, none⟩) := hdep 3 (by decide)
      obtain ⟨hc0, hc1, hc2, hc3, hc4, hc5⟩ := HC.out w (HB.out.drew.trans (hbel.mono HB.out.size))
      exact Or.inl ⟨trivial, Or.inl ⟨acV (r, i), w, by go_simp, rfl, Below.refl _ _⟩⟩
    · intro ev w hc hf hg hfix hdep hbel
      have e33 : ev (.tmp 33) = acV (r, i) := hdep 4 (by decide)
      refine Or.inl ⟨trivial, Or.inr ⟨7, #[acV (r, i)], w, by go_simp, ?_⟩⟩
      refine (refmayActor_any r i w).mono ?_
      rintro e w1 ⟨rfl, hb1⟩
      exact ⟨_, rfl, rfl, hb1⟩
    · intro ev w hc hf hg hfix hdep hbel
      have e31 : ev (.tmp 31) = .bool (Dt.mayA (r, i)) := hdep 2 (by decide)
      have e34 : ev (.tmp 34) = .bool (Dt.mayA (r, i)) := hdep 5 (by decide)
      exact Or.inl ⟨trivial, Or.inl ⟨.bool false, w, by go_simp, rfl, Below.refl _ _⟩⟩
    · intro ev w hc hf hg hfix hdep hbel
      have e35 : ev (.tmp 35) = .bool false := hdep 6 (by decide)
      exact Or.inl ⟨trivial, Or.inl ⟨.bool false, w, by go_simp, rfl, Below.refl _ _⟩⟩
    · intro ev w hc hf hg hfix hdep hbel
      have fg : ev (.tmp 36) = .bool false := hdep 7 (by decide)
      have e6 : ev (.tmp 6) = .pointer (some ⟨b6, 0, none⟩) := hfix 6 (by decide)
      obtain ⟨hc0, hc1, hc2, hc3, hc4, hc5⟩ := HC.out w (HB.out.drew.trans (hbel.mono HB.out.size))
      exact Or.inl ⟨fg, Or.inl ⟨dotV ((r, i), s), w, by go_simp, rfl, Below.refl _ _⟩⟩
    · intro ev w hc hf hg hfix hdep hbel
      have fg : ev (.tmp 36) = .bool false := hdep 7 (by decide)
      have e37 : ev (.tmp 37) = dotV ((r, i), s) := hdep 8 (by decide)
      refine Or.inl ⟨fg, Or.inr ⟨8, #[dotV ((r, i), s)], w, by go_simp, ?_⟩⟩
      refine (may_any r i s w).mono ?_
      rintro e w1 ⟨rfl, hb1⟩
      exact ⟨_, rfl, rfl, hb1⟩
    · intro ev w hc hf hg hfix hdep hbel
      have fg : ev (.tmp 36) = .bool false := hdep 7 (by decide)
      have e6 : ev (.tmp 6) = .pointer (some ⟨b6, 0, none⟩) := hfix 6 (by decide)
      obtain ⟨hc0, hc1, hc2, hc3, hc4, hc5⟩ := HC.out w (HB.out.drew.trans (hbel.mono HB.out.size))
      exact Or.inl ⟨fg, Or.inl ⟨dotV ((r, i), s), w, by go_simp, rfl, Below.refl _ _⟩⟩
    · intro ev w hc hf hg hfix hdep hbel
      have fg : ev (.tmp 36) = .bool false := hdep 7 (by decide)
      have e39 : ev (.tmp 39) = dotV ((r, i), s) := hdep 10 (by decide)
      refine Or.inl ⟨fg, Or.inr ⟨9, #[dotV ((r, i), s)], w, by go_simp, ?_⟩⟩
      refine (refmay_any r i s w).mono ?_
      rintro e w1 ⟨rfl, hb1⟩
      exact ⟨_, rfl, rfl, hb1⟩
    · intro ev w hc hf hg hfix hdep hbel
      have fg : ev (.tmp 36) = .bool false := hdep 7 (by decide)
      have e38 : ev (.tmp 38) = .bool (Dt.may ((r, i), s)) := hdep 9 (by decide)
      have e40 : ev (.tmp 40) = .bool (Dt.may ((r, i), s)) := hdep 11 (by decide)
      exact Or.inl ⟨fg, Or.inl ⟨.bool false, w, by go_simp, rfl, Below.refl _ _⟩⟩
    · intro ev w hc hf hg hfix hdep hbel
      have e36 : ev (.tmp 36) = .bool false := hdep 7 (by decide)
      have e41 : ev (.tmp 41) = .bool false := hdep 12 (by decide)
      exact Or.inl ⟨trivial, Or.inl ⟨.bool false, w, by go_simp, rfl, Below.refl _ _⟩⟩
    · intro ev w hc hf hg hfix hdep hbel
      have e42 : ev (.tmp 42) = .bool false := hdep 13 (by decide)
      exact Or.inl ⟨trivial, Or.inl ⟨.bool false, w, by go_simp, rfl, Below.refl _ _⟩⟩
    · intro ev w hc hf hg hfix hdep hbel
      have fg : ev (.tmp 43) = .bool false := hdep 14 (by decide)
      have e6 : ev (.tmp 6) = .pointer (some ⟨b6, 0, none⟩) := hfix 6 (by decide)
      obtain ⟨hc0, hc1, hc2, hc3, hc4, hc5⟩ := HC.out w (HB.out.drew.trans (hbel.mono HB.out.size))
      exact Or.inl ⟨fg, Or.inl ⟨dotV ((r, i), s), w, by go_simp, rfl, Below.refl _ _⟩⟩
    · intro ev w hc hf hg hfix hdep hbel
      have fg : ev (.tmp 43) = .bool false := hdep 14 (by decide)
      have e7 : ev (.tmp 7) = .pointer (some ⟨b7, 0, none⟩) := hfix 7 (by decide)
      obtain ⟨hc0, hc1, hc2, hc3, hc4, hc5⟩ := HC.out w (HB.out.drew.trans (hbel.mono HB.out.size))
      exact Or.inl ⟨fg, Or.inl ⟨dotV ((ro, io), so), w, by go_simp, rfl, Below.refl _ _⟩⟩
    · intro ev w hc hf hg hfix hdep hbel
      have fg : ev (.tmp 43) = .bool false := hdep 14 (by decide)
      have e44 : ev (.tmp 44) = dotV ((r, i), s) := hdep 15 (by decide)
      have e45 : ev (.tmp 45) = dotV ((ro, io), so) := hdep 16 (by decide)
      refine Or.inl ⟨fg, Or.inr ⟨10, #[dotV ((r, i), s), dotV ((ro, io), so)], w, by go_simp, ?_⟩⟩
      refine (compare_any r i s ro io so w).mono ?_
      rintro e w1 ⟨rfl, hb1⟩
      exact ⟨_, rfl, rfl, hb1.below⟩
    · intro ev w hc hf hg hfix hdep hbel
      have fg : ev (.tmp 43) = .bool false := hdep 14 (by decide)
      have e6 : ev (.tmp 6) = .pointer (some ⟨b6, 0, none⟩) := hfix 6 (by decide)
      obtain ⟨hc0, hc1, hc2, hc3, hc4, hc5⟩ := HC.out w (HB.out.drew.trans (hbel.mono HB.out.size))
      exact Or.inl ⟨fg, Or.inl ⟨dotV ((r, i), s), w, by go_simp, rfl, Below.refl _ _⟩⟩
    · intro ev w hc hf hg hfix hdep hbel
      have fg : ev (.tmp 43) = .bool false := hdep 14 (by decide)
      have e7 : ev (.tmp 7) = .pointer (some ⟨b7, 0, none⟩) := hfix 7 (by decide)
      obtain ⟨hc0, hc1, hc2, hc3, hc4, hc5⟩ := HC.out w (HB.out.drew.trans (hbel.mono HB.out.size))
      exact Or.inl ⟨fg, Or.inl ⟨dotV ((ro, io), so), w, by go_simp, rfl, Below.refl _ _⟩⟩
    · intro ev w hc hf hg hfix hdep hbel
      have fg : ev (.tmp 43) = .bool false := hdep 14 (by decide)
      have e47 : ev (.tmp 47) = dotV ((r, i), s) := hdep 18 (by decide)
      have e48 : ev (.tmp 48) = dotV ((ro, io), so) := hdep 19 (by decide)
      refine Or.inl ⟨fg, Or.inr ⟨11, #[dotV ((r, i), s), dotV ((ro, io), so)], w, by go_simp, ?_⟩⟩
      refine (refcompare_any ((r, i), s) ((ro, io), so) w).mono ?_
      rintro e w1 ⟨rfl, hb1⟩
      exact ⟨_, rfl, rfl, hb1⟩
    · intro ev w hc hf hg hfix hdep hbel
      have fg : ev (.tmp 43) = .bool false := hdep 14 (by decide)
      have e46 : ev (.tmp 46) = .int .i64 (Dt.cmp ((r, i), s) ((ro, io), so)) := hdep 17 (by decide)
      have e49 : ev (.tmp 49) = .int .i64 (Dt.cmp ((r, i), s) ((ro, io), so)) := hdep 20 (by decide)
      exact Or.inl ⟨fg, Or.inl ⟨.bool false, w, by go_simp, rfl, Below.refl _ _⟩⟩
    · intro ev w hc hf hg hfix hdep hbel
      have e43 : ev (.tmp 43) = .bool false := hdep 14 (by decide)
      have e50 : ev (.tmp 50) = .bool false := hdep 21 (by decide)
      exact Or.inl ⟨trivial, Or.inl ⟨.bool false, w, by go_simp, rfl, Below.refl _ _⟩⟩
    · intro ev w hc hf hg hfix hdep hbel
      have e51 : ev (.tmp 51) = .bool false := hdep 22 (by decide)
      exact Or.inl ⟨trivial, Or.inl ⟨.bool false, w, by go_simp, rfl, Below.refl _ _⟩⟩
    · intro ev w hc hf hg hfix hdep hbel
      have fg : ev (.tmp 52) = .bool false := hdep 23 (by decide)
      have e9 : ev (.tmp 9) = .slice a9 n c9 := hfix 9 (by decide)
      exact Or.inl ⟨fg, Or.inl ⟨.slice a9 n c9, w, by go_simp, rfl, Below.refl _ _⟩⟩
    · intro ev w hc hf hg hfix hdep hbel
      have fg : ev (.tmp 52) = .bool false := hdep 23 (by decide)
      have e53 : ev (.tmp 53) = .slice a9 n c9 := hdep 24 (by decide)
      refine Or.inl ⟨fg, Or.inr ⟨13, #[.slice a9 n c9], w, by go_simp, ?_⟩⟩
      refine (canon_any a9 n c9 lv w (H9.out.below (HB.out.drew.trans (hbel.mono HB.out.size))) HLv.out (by omega)).mono ?_
      rintro e w1 ⟨b, c, rfl, hrow, hb1⟩
      exact ⟨_, rfl, ⟨b, c, by rw [HLC.out], by rw [← ELC.out]; exact hrow⟩, hb1⟩
    · intro ev w hc hf hg hfix hdep hbel
      have fg : ev (.tmp 52) = .bool false := hdep 23 (by decide)
      have e0 : ev (.tmp 0) = .slice av n cv := hfix 0 (by decide)
      exact Or.inl ⟨fg, Or.inl ⟨.slice av n cv, w, by go_simp, rfl, Below.refl _ _⟩⟩
    · intro ev w hc hf hg hfix hdep hbel
      have fg : ev (.tmp 52) = .bool false := hdep 23 (by decide)
      have e55 : ev (.tmp 55) = .slice av n cv := hdep 26 (by decide)
      refine Or.inl ⟨fg, Or.inr ⟨14, #[.slice av n cv], w, by go_simp, ?_⟩⟩
      refine (refcanon_any av n cv lv w (HV.out.below (HB.out.drew.trans (hbel.mono HB.out.size))) HLv.out (by omega)).mono ?_
      rintro e w1 ⟨b, c, rfl, hrow, hb1⟩
      exact ⟨_, rfl, ⟨b, c, by rw [HLC.out], by rw [← ELC.out]; exact hrow⟩, hb1⟩
    · intro ev w hc hf hg hfix hdep hbel
      have fg : ev (.tmp 52) = .bool false := hdep 23 (by decide)
      have e54 := hdep 25 (by decide)
      have e56 := hdep 27 (by decide)
      obtain ⟨bx, cx, hx, rx⟩ := e54
      obtain ⟨by', cy, hy, ry⟩ := e56
      have hx' : ev (.tmp 54) = .slice bx NLC cx := hx
      have hy' : ev (.tmp 56) = .slice by' NLC cy := hy
      clear hx hy
      refine Or.inl ⟨fg, Or.inr ⟨12, #[.slice bx NLC cx, .slice by' NLC cy], w, by go_simp, ?_⟩⟩
      refine (refsame_any bx NLC cx LC by' NLC cy LC w rx HNLC.out.symm ry HNLC.out.symm).mono ?_
      rintro e w1 ⟨rfl, hb1⟩
      exact ⟨_, rfl, by rw [decide_eq_true rfl], hb1⟩
    · intro ev w hc hf hg hfix hdep hbel
      have fg : ev (.tmp 52) = .bool false := hdep 23 (by decide)
      have e57 : ev (.tmp 57) = .bool true := hdep 28 (by decide)
      exact Or.inl ⟨fg, Or.inl ⟨.bool false, w, by go_simp, rfl, Below.refl _ _⟩⟩
    · intro ev w hc hf hg hfix hdep hbel
      have e52 : ev (.tmp 52) = .bool false := hdep 23 (by decide)
      have e58 : ev (.tmp 58) = .bool false := hdep 29 (by decide)
      exact Or.inl ⟨trivial, Or.inl ⟨.bool false, w, by go_simp, rfl, Below.refl _ _⟩⟩
  · intro v w2 hv hb2
    have r0 : v 0 = .pointer (some ⟨b6, 0, none⟩) := hv 0 (by decide)
    have r1 : v 1 = acV (r, i) := hv 1 (by decide)
    have r2 : v 2 = .bool (Dt.mayA (r, i)) := hv 2 (by decide)
    have r3 : v 3 = .pointer (some ⟨b6, 0, none⟩) := hv 3 (by decide)
    have r4 : v 4 = acV (r, i) := hv 4 (by decide)
    have r5 : v 5 = .bool (Dt.mayA (r, i)) := hv 5 (by decide)
    have r6 : v 6 = .bool false := hv 6 (by decide)
    have r7 : v 7 = .bool false := hv 7 (by decide)
    have r8 : v 8 = dotV ((r, i), s) := hv 8 (by decide)
    have r9 : v 9 = .bool (Dt.may ((r, i), s)) := hv 9 (by decide)
    have r10 : v 10 = dotV ((r, i), s) := hv 10 (by decide)
    have r11 : v 11 = .bool (Dt.may ((r, i), s)) := hv 11 (by decide)
    have r12 : v 12 = .bool false := hv 12 (by decide)
    have r13 : v 13 = .bool false := hv 13 (by decide)
    have r14 : v 14 = .bool false := hv 14 (by decide)
    have r15 : v 15 = dotV ((r, i), s) := hv 15 (by decide)
    have r16 : v 16 = dotV ((ro, io), so) := hv 16 (by decide)
    have r17 : v 17 = .int .i64 (Dt.cmp ((r, i), s) ((ro, io), so)) := hv 17 (by decide)
    have r18 : v 18 = dotV ((r, i), s) := hv 18 (by decide)
    have r19 : v 19 = dotV ((ro, io), so) := hv 19 (by decide)
    have r20 : v 20 = .int .i64 (Dt.cmp ((r, i), s) ((ro, io), so)) := hv 20 (by decide)
    have r21 : v 21 = .bool false := hv 21 (by decide)
    have r22 : v 22 = .bool false := hv 22 (by decide)
    have r23 : v 23 = .bool false := hv 23 (by decide)
    have r24 : v 24 = .slice a9 n c9 := hv 24 (by decide)
    have r25 := hv 25 (by decide)
    have r26 : v 26 = .slice av n cv := hv 26 (by decide)
    have r27 := hv 27 (by decide)
    have r28 : v 28 = .bool true := hv 28 (by decide)
    have r29 : v 29 = .bool false := hv 29 (by decide)
    have r30 : v 30 = .bool false := hv 30 (by decide)
    simp only [Reg.putAll, Act.put, List.setIfInBounds_toArray, List.set_cons_zero, List.set_cons_succ, r0, r1, r2, r3, r4, r5, r6, r7, r8, r9, r10, r11, r12, r13, r14, r15, r16, r17, r18, r19, r20, r21, r22, r23, r24, r26, r28, r29, r30]
    clear r0 r1 r2 r3 r4 r5 r6 r7 r8 r9 r10 r11 r12 r13 r14 r15 r16 r17 r18 r19 r20 r21 r22 r23 r24 r26 r28 r29 r30 hv
    have HB := Lib.hid (HB.out.trans (hb2.mono HB.out.size)); clear hb2
    go_wp2_with fail
    refine Reg.region_list (by kernel_rfl) [fun v _ => v = .slice a9 n c9, fun v _ => v = .pointer (some ⟨b6, 0, none⟩), fun v _ => v = acV (r, i), fun v _ => v = .int .u64 (Dt.get lv (r, i) : Nat), fun v _ => v = .slice av n cv, fun v _ => v = .pointer (some ⟨b6, 0, none⟩), fun v _ => v = acV (r, i), fun v _ => v = .int .u64 (Dt.get lv (r, i) : Nat), fun v _ => v = .bool false, fun v _ => v = .bool false, fun v _ => v = .slice a9 n c9, fun v _ => v = dotV ((r, i), s), fun v _ => v = .bool (Dt.has lv ((r, i), s)), fun v _ => v = .slice av n cv, fun v _ => v = dotV ((r, i), s), fun v _ => v = .bool (Dt.has lv ((r, i), s)), fun v _ => v = .bool false, fun v _ => v = .bool false, fun v _ => v = .bool false, fun v _ => v = .slice a9 n c9, fun v _ => v = .slice a10 m c10, fun v _ => v = .bool (Dt.within lv lw), fun v _ => v = .slice av n cv, fun v _ => v = .slice aw m cw, fun v _ => v = .bool (Dt.within lv lw), fun v _ => v = .bool false, fun v _ => v = .bool false] (by kernel_rfl) ?_ ?_ ?_
    · refine ⟨(fun _ _ _ _ h => h), (fun _ _ _ _ h => h), (fun _ _ _ _ h => h), (fun _ _ _ _ h => h), (fun _ _ _ _ h => h), (fun _ _ _ _ h => h), (fun _ _ _ _ h => h), (fun _ _ _ _ h => h), (fun _ _ _ _ h => h), (fun _ _ _ _ h => h), (fun _ _ _ _ h => h), (fun _ _ _ _ h => h), (fun _ _ _ _ h => h), (fun _ _ _ _ h => h), (fun _ _ _ _ h => h), (fun _ _ _ _ h => h), (fun _ _ _ _ h => h), (fun _ _ _ _ h => h), (fun _ _ _ _ h => h), (fun _ _ _ _ h => h), (fun _ _ _ _ h => h), (fun _ _ _ _ h => h), (fun _ _ _ _ h => h), (fun _ _ _ _ h => h), (fun _ _ _ _ h => h), (fun _ _ _ _ h => h), (fun _ _ _ _ h => h), trivial⟩
    · refine ⟨?_, ?_, ?_, ?_, ?_, ?_, ?_, ?_, ?_, ?_, ?_, ?_, ?_, ?_, ?_, ?_, ?_, ?_, ?_, ?_, ?_, ?_, ?_, ?_, ?_, ?_, ?_, trivial⟩
      · intro ev w hc hf hg hfix hdep hbel
        have e9 : ev (.tmp 9) = .slice a9 n c9 := hfix 9 (by decide)
        exact Or.inl ⟨trivial, Or.inl ⟨.slice a9 n c9, w, by go_simp, rfl, Below.refl _ _⟩⟩
      · intro ev w hc hf hg hfix hdep hbel
        have e6 : ev (.tmp 6) = .pointer (some ⟨b6, 0, none⟩) := hfix 6 (by decide)
        exact Or.inl ⟨trivial, Or.inl ⟨.pointer (some ⟨b6, 0, none⟩), w, by go_simp, rfl, Below.refl _ _⟩⟩
      · intro ev w hc hf hg hfix hdep hbel
        have e61 : ev (.tmp 61) = .pointer (some ⟨b6, 0, none⟩) := hdep 1 (by decide)
        obtain ⟨hc0, hc1, hc2, hc3, hc4, hc5⟩ := HC.out w (HB.out.drew.trans (hbel.mono HB.out.size))
        exact Or.inl ⟨trivial, Or.inl ⟨acV (r, i), w, by go_simp, rfl, Below.refl _ _⟩⟩
      · intro ev w hc hf hg hfix hdep hbel
        have e60 : ev (.tmp 60) = .slice a9 n c9 := hdep 0 (by decide)
        have e62 : ev (.tmp 62) = acV (r, i) := hdep 2 (by decide)
        refine Or.inl ⟨trivial, Or.inr ⟨15, #[.slice a9 n c9, acV (r, i)], w, by go_simp, ?_⟩⟩
        refine (get_any a9 n c9 r i lv w (H9.out.below (HB.out.drew.trans (hbel.mono HB.out.size))) HLv.out).mono ?_
        rintro e w1 ⟨rfl, hb1⟩
        exact ⟨_, rfl, rfl, hb1⟩
      · intro ev w hc hf hg hfix hdep hbel
        have e0 : ev (.tmp 0) = .slice av n cv := hfix 0 (by decide)
        exact Or.inl ⟨trivial, Or.inl ⟨.slice av n cv, w, by go_simp, rfl, Below.refl _ _⟩⟩
      · intro ev w hc hf hg hfix hdep hbel
        have e6 : ev (.tmp 6) = .pointer (some ⟨b6, 0, none⟩) := hfix 6 (by decide)
        exact Or.inl ⟨trivial, Or.inl ⟨.pointer (some ⟨b6, 0, none⟩), w, by go_simp, rfl, Below.refl _ _⟩⟩
      · intro ev w hc hf hg hfix hdep hbel
        have e65 : ev (.tmp 65) = .pointer (some ⟨b6, 0, none⟩) := hdep 5 (by decide)
        obtain ⟨hc0, hc1, hc2, hc3, hc4, hc5⟩ := HC.out w (HB.out.drew.trans (hbel.mono HB.out.size))
        exact Or.inl ⟨trivial, Or.inl ⟨acV (r, i), w, by go_simp, rfl, Below.refl _ _⟩⟩
      · intro ev w hc hf hg hfix hdep hbel
        have e64 : ev (.tmp 64) = .slice av n cv := hdep 4 (by decide)
        have e66 : ev (.tmp 66) = acV (r, i) := hdep 6 (by decide)
        refine Or.inl ⟨trivial, Or.inr ⟨16, #[.slice av n cv, acV (r, i)], w, by go_simp, ?_⟩⟩
        refine (refget_any av n cv r i lv w (HV.out.below (HB.out.drew.trans (hbel.mono HB.out.size))) HLv.out).mono ?_
        rintro e w1 ⟨rfl, hb1⟩
        exact ⟨_, rfl, rfl, hb1⟩
      · intro ev w hc hf hg hfix hdep hbel
        have e63 : ev (.tmp 63) = .int .u64 (Dt.get lv (r, i) : Nat) := hdep 3 (by decide)
        have e67 : ev (.tmp 67) = .int .u64 (Dt.get lv (r, i) : Nat) := hdep 7 (by decide)
        exact Or.inl ⟨trivial, Or.inl ⟨.bool false, w, by go_simp, rfl, Below.refl _ _⟩⟩
      · intro ev w hc hf hg hfix hdep hbel
        have e68 : ev (.tmp 68) = .bool false := hdep 8 (by decide)
        exact Or.inl ⟨trivial, Or.inl ⟨.bool false, w, by go_simp, rfl, Below.refl _ _⟩⟩
      · intro ev w hc hf hg hfix hdep hbel
        have fg : ev (.tmp 69) = .bool false := hdep 9 (by decide)
        have e9 : ev (.tmp 9) = .slice a9 n c9 := hfix 9 (by decide)
        exact Or.inl ⟨fg, Or.inl ⟨.slice a9 n c9, w, by go_simp, rfl, Below.refl _ _⟩⟩
      · intro ev w hc hf hg hfix hdep hbel
        have fg : ev (.tmp 69) = .bool false := hdep 9 (by decide)
        have e6 : ev (.tmp 6) = .pointer (some ⟨b6, 0, none⟩) := hfix 6 (by decide)
        obtain ⟨hc0, hc1, hc2, hc3, hc4, hc5⟩ := HC.out w (HB.out.drew.trans (hbel.mono HB.out.size))
        exact Or.inl ⟨fg, Or.inl ⟨dotV ((r, i), s), w, by go_simp, rfl, Below.refl _ _⟩⟩
      · intro ev w hc hf hg hfix hdep hbel
        have fg : ev (.tmp 69) = .bool false := hdep 9 (by decide)
        have e70 : ev (.tmp 70) = .slice a9 n c9 := hdep 10 (by decide)
        have e71 : ev (.tmp 71) = dotV ((r, i), s) := hdep 11 (by decide)
        refine Or.inl ⟨fg, Or.inr ⟨17, #[.slice a9 n c9, dotV ((r, i), s)], w, by go_simp, ?_⟩⟩
        refine (has_any a9 n c9 r i s lv w (H9.out.below (HB.out.drew.trans (hbel.mono HB.out.size))) HLv.out).mono ?_
        rintro e w1 ⟨rfl, hb1⟩
        exact ⟨_, rfl, rfl, hb1⟩
      · intro ev w hc hf hg hfix hdep hbel
        have fg : ev (.tmp 69) = .bool false := hdep 9 (by decide)
        have e0 : ev (.tmp 0) = .slice av n cv := hfix 0 (by decide)
        exact Or.inl ⟨fg, Or.inl ⟨.slice av n cv, w, by go_simp, rfl, Below.refl _ _⟩⟩
      · intro ev w hc hf hg hfix hdep hbel
        have fg : ev (.tmp 69) = .bool false := hdep 9 (by decide)
        have e6 : ev (.tmp 6) = .pointer (some ⟨b6, 0, none⟩) := hfix 6 (by decide)
        obtain ⟨hc0, hc1, hc2, hc3, hc4, hc5⟩ := HC.out w (HB.out.drew.trans (hbel.mono HB.out.size))
        exact Or.inl ⟨fg, Or.inl ⟨dotV ((r, i), s), w, by go_simp, rfl, Below.refl _ _⟩⟩
      · intro ev w hc hf hg hfix hdep hbel
        have fg : ev (.tmp 69) = .bool false := hdep 9 (by decide)
        have e73 : ev (.tmp 73) = .slice av n cv := hdep 13 (by decide)
        have e74 : ev (.tmp 74) = dotV ((r, i), s) := hdep 14 (by decide)
        refine Or.inl ⟨fg, Or.inr ⟨18, #[.slice av n cv, dotV ((r, i), s)], w, by go_simp, ?_⟩⟩
        refine (refhas_any av n cv r i s lv w (HV.out.below (HB.out.drew.trans (hbel.mono HB.out.size))) HLv.out).mono ?_
        rintro e w1 ⟨rfl, hb1⟩
        exact ⟨_, rfl, rfl, hb1⟩
      · intro ev w hc hf hg hfix hdep hbel
        have fg : ev (.tmp 69) = .bool false := hdep 9 (by decide)
        have e72 : ev (.tmp 72) = .bool (Dt.has lv ((r, i), s)) := hdep 12 (by decide)
        have e75 : ev (.tmp 75) = .bool (Dt.has lv ((r, i), s)) := hdep 15 (by decide)
        exact Or.inl ⟨fg, Or.inl ⟨.bool false, w, by go_simp, rfl, Below.refl _ _⟩⟩
      · intro ev w hc hf hg hfix hdep hbel
        have e69 : ev (.tmp 69) = .bool false := hdep 9 (by decide)
        have e76 : ev (.tmp 76) = .bool false := hdep 16 (by decide)
        exact Or.inl ⟨trivial, Or.inl ⟨.bool false, w, by go_simp, rfl, Below.refl _ _⟩⟩
      · intro ev w hc hf hg hfix hdep hbel
        have e77 : ev (.tmp 77) = .bool false := hdep 17 (by decide)
        exact Or.inl ⟨trivial, Or.inl ⟨.bool false, w, by go_simp, rfl, Below.refl _ _⟩⟩
      · intro ev w hc hf hg hfix hdep hbel
        have fg : ev (.tmp 78) = .bool false := hdep 18 (by decide)
        have e9 : ev (.tmp 9) = .slice a9 n c9 := hfix 9 (by decide)
        exact Or.inl ⟨fg, Or.inl ⟨.slice a9 n c9, w, by go_simp, rfl, Below.refl _ _⟩⟩
      · intro ev w hc hf hg hfix hdep hbel
        have fg : ev (.tmp 78) = .bool false := hdep 18 (by decide)
        have e10 : ev (.tmp 10) = .slice a10 m c10 := hfix 10 (by decide)
        exact Or.inl ⟨fg, Or.inl ⟨.slice a10 m c10, w, by go_simp, rfl, Below.refl _ _⟩⟩
      · intro ev w hc hf hg hfix hdep hbel
        have fg : ev (.tmp 78) = .bool false := hdep 18 (by decide)
        have e79 : ev (.tmp 79) = .slice a9 n c9 := hdep 19 (by decide)
        have e80 : ev (.tmp 80) = .slice a10 m c10 := hdep 20 (by decide)
        refine Or.inl ⟨fg, Or.inr ⟨19, #[.slice a9 n c9, .slice a10 m c10], w, by go_simp, ?_⟩⟩
        refine (within_any a9 n c9 lv a10 m c10 lw w (H9.out.below (HB.out.drew.trans (hbel.mono HB.out.size))) HLv.out (H10.out.below (HB.out.drew.trans (hbel.mono HB.out.size))) HLw.out (by omega)).mono ?_
        rintro e w1 ⟨rfl, hb1⟩
        exact ⟨_, rfl, rfl, hb1⟩
      · intro ev w hc hf hg hfix hdep hbel
        have fg : ev (.tmp 78) = .bool false := hdep 18 (by decide)
        have e0 : ev (.tmp 0) = .slice av n cv := hfix 0 (by decide)
        exact Or.inl ⟨fg, Or.inl ⟨.slice av n cv, w, by go_simp, rfl, Below.refl _ _⟩⟩
      · intro ev w hc hf hg hfix hdep hbel
        have fg : ev (.tmp 78) = .bool false := hdep 18 (by decide)
        have e1 : ev (.tmp 1) = .slice aw m cw := hfix 1 (by decide)
        exact Or.inl ⟨fg, Or.inl ⟨.slice aw m cw, w, by go_simp, rfl, Below.refl _ _⟩⟩
      · intro ev w hc hf hg hfix hdep hbel
        have fg : ev (.tmp 78) = .bool false := hdep 18 (by decide)
        have e82 : ev (.tmp 82) = .slice av n cv := hdep 22 (by decide)
        have e83 : ev (.tmp 83) = .slice aw m cw := hdep 23 (by decide)
        refine Or.inl ⟨fg, Or.inr ⟨20, #[.slice av n cv, .slice aw m cw], w, by go_simp, ?_⟩⟩
        refine (refwithin_any av n cv lv aw m cw lw w (HV.out.below (HB.out.drew.trans (hbel.mono HB.out.size))) HLv.out (HW.out.below (HB.out.drew.trans (hbel.mono HB.out.size))) HLw.out).mono ?_
        rintro e w1 ⟨rfl, hb1⟩
        exact ⟨_, rfl, rfl, hb1⟩
      · intro ev w hc hf hg hfix hdep hbel
        have fg : ev (.tmp 78) = .bool false := hdep 18 (by decide)
        have e81 : ev (.tmp 81) = .bool (Dt.within lv lw) := hdep 21 (by decide)
        have e84 : ev (.tmp 84) = .bool (Dt.within lv lw) := hdep 24 (by decide)
        exact Or.inl ⟨fg, Or.inl ⟨.bool false, w, by go_simp, rfl, Below.refl _ _⟩⟩
      · intro ev w hc hf hg hfix hdep hbel
        have e78 : ev (.tmp 78) = .bool false := hdep 18 (by decide)
        have e85 : ev (.tmp 85) = .bool false := hdep 25 (by decide)
        exact Or.inl ⟨trivial, Or.inl ⟨.bool false, w, by go_simp, rfl, Below.refl _ _⟩⟩
    · intro v w2 hv hb2
      have r0 : v 0 = .slice a9 n c9 := hv 0 (by decide)
      have r1 : v 1 = .pointer (some ⟨b6, 0, none⟩) := hv 1 (by decide)
      have r2 : v 2 = acV (r, i) := hv 2 (by decide)
      have r3 : v 3 = .int .u64 (Dt.get lv (r, i) : Nat) := hv 3 (by decide)
      have r4 : v 4 = .slice av n cv := hv 4 (by decide)
      have r5 : v 5 = .pointer (some ⟨b6, 0, none⟩) := hv 5 (by decide)
      have r6 : v 6 = acV (r, i) := hv 6 (by decide)
      have r7 : v 7 = .int .u64 (Dt.get lv (r, i) : Nat) := hv 7 (by decide)
      have r8 : v 8 = .bool false := hv 8 (by decide)
      have r9 : v 9 = .bool false := hv 9 (by decide)
      have r10 : v 10 = .slice a9 n c9 := hv 10 (by decide)
      have r11 : v 11 = dotV ((r, i), s) := hv 11 (by decide)
      have r12 : v 12 = .bool (Dt.has lv ((r, i), s)) := hv 12 (by decide)
      have r13 : v 13 = .slice av n cv := hv 13 (by decide)
      have r14 : v 14 = dotV ((r, i), s) := hv 14 (by decide)
      have r15 : v 15 = .bool (Dt.has lv ((r, i), s)) := hv 15 (by decide)
      have r16 : v 16 = .bool false := hv 16 (by decide)
      have r17 : v 17 = .bool false := hv 17 (by decide)
      have r18 : v 18 = .bool false := hv 18 (by decide)
      have r19 : v 19 = .slice a9 n c9 := hv 19 (by decide)
      have r20 : v 20 = .slice a10 m c10 := hv 20 (by decide)
      have r21 : v 21 = .bool (Dt.within lv lw) := hv 21 (by decide)
      have r22 : v 22 = .slice av n cv := hv 22 (by decide)
      have r23 : v 23 = .slice aw m cw := hv 23 (by decide)
      have r24 : v 24 = .bool (Dt.within lv lw) := hv 24 (by decide)
      have r25 : v 25 = .bool false := hv 25 (by decide)
      have r26 : v 26 = .bool false := hv 26 (by decide)
      simp only [Reg.putAll, Act.put, List.setIfInBounds_toArray, List.set_cons_zero, List.set_cons_succ, r0, r1, r2, r3, r4, r5, r6, r7, r8, r9, r10, r11, r12, r13, r14, r15, r16, r17, r18, r19, r20, r21, r22, r23, r24, r25, r26]
      clear r0 r1 r2 r3 r4 r5 r6 r7 r8 r9 r10 r11 r12 r13 r14 r15 r16 r17 r18 r19 r20 r21 r22 r23 r24 r25 r26 hv
      have HB := Lib.hid (HB.out.trans (hb2.mono HB.out.size)); clear hb2
      go_wp2_with fail
      refine (join_any a9 n c9 lv a10 m c10 lw _ (H9.out.below HB.out) HLv.out (by omega) (H10.out.below HB.out) HLw.out (by omega)).mono ?_
      rintro e w3 ⟨p3, k3, rfl, hr3, hb⟩
      rw [ELJ.out] at hr3; rw [HLJ.out]; have HR3 := Lib.hid hr3; clear hr3
      have HB := Lib.hid (HB.out.trans (hb.mono HB.out.size)); clear hb
      go_wp2_with fail
      refine (refjoin_any av n cv lv aw m cw lw _ (HV.out.below HB.out) HLv.out (by omega) (HW.out.below HB.out) HLw.out (by omega)).mono ?_
      rintro e w4 ⟨p4, k4, rfl, hr4, hb⟩
      rw [ELJ.out] at hr4; rw [HLJ.out]; have HR4 := Lib.hid hr4; have HR3 := Lib.hid (HR3.out.below hb); clear hr4
      have HB := Lib.hid (HB.out.trans (hb.mono HB.out.size)); clear hb
      go_wp2_with fail
      refine (refsame_any p3 NLJ k3 LJ p4 NLJ k4 LJ _ HR3.out HNLJ.out.symm HR4.out HNLJ.out.symm).mono ?_
      rintro e wz ⟨rfl, hb⟩
      rw [decide_eq_true rfl]; clear HR3 HR4
      have HB := Lib.hid (HB.out.trans (hb.mono HB.out.size)); clear hb
      go_wp2_with fail
      refine (meet_any a9 n c9 lv a10 m c10 lw _ (H9.out.below HB.out) HLv.out (by omega) (H10.out.below HB.out) HLw.out (by omega)).mono ?_
      rintro e w5 ⟨p5, k5, rfl, hr5, hb⟩
      rw [ELM.out] at hr5; rw [HLM.out]; have HR5 := Lib.hid hr5; clear hr5
      have HB := Lib.hid (HB.out.trans (hb.mono HB.out.size)); clear hb
      go_wp2_with fail
      refine (refmeet_any av n cv lv aw m cw lw _ (HV.out.below HB.out) HLv.out (by omega) (HW.out.below HB.out) HLw.out (by omega)).mono ?_
      rintro e w6 ⟨p6, k6, rfl, hr6, hb⟩
      rw [ELM.out] at hr6; rw [HLM.out]; have HR6 := Lib.hid hr6; have HR5 := Lib.hid (HR5.out.below hb); clear hr6
      have HB := Lib.hid (HB.out.trans (hb.mono HB.out.size)); clear hb
      go_wp2_with fail
      refine (refsame_any p5 NLM k5 LM p6 NLM k6 LM _ HR5.out HNLM.out.symm HR6.out HNLM.out.symm).mono ?_
      rintro e wz ⟨rfl, hb⟩
      rw [decide_eq_true rfl]; clear HR5 HR6
      have HB := Lib.hid (HB.out.trans (hb.mono HB.out.size)); clear hb
      go_wp2_with fail
      refine (refsame_any a9 n c9 lv av n cv lv _ (H9.out.below HB.out) HLv.out (HV.out.below HB.out) HLv.out).mono ?_
      rintro e wz ⟨rfl, hb⟩
      rw [decide_eq_true rfl]
      have HB := Lib.hid (HB.out.trans (hb.mono HB.out.size)); clear hb
      go_wp2_with fail
      refine (refsame_any a10 m c10 lw aw m cw lw _ (H10.out.below HB.out) HLw.out (HW.out.below HB.out) HLw.out).mono ?_
      rintro e wz ⟨rfl, hb⟩
      rw [decide_eq_true rfl]
      have HB := Lib.hid (HB.out.trans (hb.mono HB.out.size)); clear hb
      obtain ⟨hc0, hc1, hc2, hc3, hc4, hc5⟩ := HC.out _ HB.out
      go_wp2_with fail
      refine (next_any a9 n c9 r i lv _ (H9.out.below HB.out) HLv.out).mono ?_
      rintro e w9 ⟨rfl, hb⟩
      have HB := Lib.hid (HB.out.trans (hb.mono HB.out.size)); clear hb hc0 hc1 hc2 hc3 hc4 hc5
      obtain ⟨hc0, hc1, hc2, hc3, hc4, hc5⟩ := HC.out _ HB.out
      have hl6 := World.block_lt_of_cell? _ _ hc0
      simp only at hl6
      cases hmA : Dt.mayA (r, i)
      · have hnx : nextV lv (r, i) = .tuple #[dotV ((0, 0), 0), .int .i64 2] := by unfold nextV; rw [if_pos hmA]
        rw [hnx]
        have HmA := Lib.hid hmA; have HG0 := Lib.hid (Dt.get_zero (v := lv) hmA); clear hmA hnx
        go_wp2_with fail
        have hbA := Below.alloc HB.out HB.out.size (.cells #[.int .u8 0, .int .u32 0, .int .u64 0] 29)
        refine (refget_any av n cv r i lv _ (HV.out.below hbA) HLv.out).mono ?_
        rintro e w10 ⟨rfl, hb⟩
        rw [HG0.out]
        have k0 : w10.cell? ⟨w9.heap.size, 0, none⟩ = some (.int .u8 0) := (hb.cell (p := ⟨w9.heap.size, 0, none⟩) (by simp)).trans (by simp)
        have k1 : w10.cell? ⟨w9.heap.size, 1, none⟩ = some (.int .u32 0) := (hb.cell (p := ⟨w9.heap.size, 1, none⟩) (by simp)).trans (by simp)
        have k2 : w10.cell? ⟨w9.heap.size, 2, none⟩ = some (.int .u64 0) := (hb.cell (p := ⟨w9.heap.size, 2, none⟩) (by simp)).trans (by simp)
        have HB := Lib.hid (hbA.trans (hb.mono hbA.size)); clear hb hbA hc0 hc1 hc2 hc3 hc4 hc5 hl6
        obtain ⟨hc0, hc1, hc2, hc3, hc4, hc5⟩ := HC.out _ HB.out
        generalize w9.heap.size = bx at k0 k1 k2 ⊢
        go_wp2_with fail
        refine (refmayActor_any r i _).mono ?_
        rintro e w11 ⟨rfl, hb⟩
        rw [HmA.out]
        have j0 := (hb.cell (p := ⟨bx, 0, none⟩) (World.block_lt_of_cell? _ _ k0)).trans k0
        have j1 := (hb.cell (p := ⟨bx, 1, none⟩) (World.block_lt_of_cell? _ _ k1)).trans k1
        have j2 := (hb.cell (p := ⟨bx, 2, none⟩) (World.block_lt_of_cell? _ _ k2)).trans k2
        have HB := Lib.hid (HB.out.trans (hb.mono HB.out.size)); clear hb hc0 hc1 hc2 hc3 hc4 hc5 k0 k1 k2
        obtain ⟨hc0, hc1, hc2, hc3, hc4, hc5⟩ := HC.out _ HB.out
        go_wp2_with fail
        refine (known_any _).mono ?_
        rintro e w12 ⟨rfl, hb⟩
        have HB := Lib.hid (HB.out.trans (hb.mono HB.out.size)); clear hb
        go_wp2_with fail
        go_ret
        exact ⟨rfl, HB0.out.trans (HB.out.mono HB0.out.size)⟩
      · by_cases hx : Dt.get lv (r, i) = 1048576
        · have hnx : nextV lv (r, i) = .tuple #[dotV ((0, 0), 0), .int .i64 14] := by unfold nextV; rw [if_neg (by rw [hmA]; simp), if_pos hx]
          rw [hnx]
          have HmA := Lib.hid hmA; have HX := Lib.hid hx; clear hmA hnx hx
          go_wp2_with fail
          have hbA := Below.alloc HB.out HB.out.size (.cells #[.int .u8 0, .int .u32 0, .int .u64 0] 29)
          refine (refget_any av n cv r i lv _ (HV.out.below hbA) HLv.out).mono ?_
          rintro e w10 ⟨rfl, hb⟩
          rw [HX.out]
          have k0 : w10.cell? ⟨w9.heap.size, 0, none⟩ = some (.int .u8 0) := (hb.cell (p := ⟨w9.heap.size, 0, none⟩) (by simp)).trans (by simp)
          have k1 : w10.cell? ⟨w9.heap.size, 1, none⟩ = some (.int .u32 0) := (hb.cell (p := ⟨w9.heap.size, 1, none⟩) (by simp)).trans (by simp)
          have k2 : w10.cell? ⟨w9.heap.size, 2, none⟩ = some (.int .u64 0) := (hb.cell (p := ⟨w9.heap.size, 2, none⟩) (by simp)).trans (by simp)
          have HB := Lib.hid (hbA.trans (hb.mono hbA.size)); clear hb hbA hc0 hc1 hc2 hc3 hc4 hc5 hl6
          obtain ⟨hc0, hc1, hc2, hc3, hc4, hc5⟩ := HC.out _ HB.out
          generalize w9.heap.size = bx at k0 k1 k2 ⊢
          go_wp2_with fail
          refine (refmayActor_any r i _).mono ?_
          rintro e w11 ⟨rfl, hb⟩
          rw [HmA.out]
          have j0 := (hb.cell (p := ⟨bx, 0, none⟩) (World.block_lt_of_cell? _ _ k0)).trans k0
          have j1 := (hb.cell (p := ⟨bx, 1, none⟩) (World.block_lt_of_cell? _ _ k1)).trans k1
          have j2 := (hb.cell (p := ⟨bx, 2, none⟩) (World.block_lt_of_cell? _ _ k2)).trans k2
          have HB := Lib.hid (HB.out.trans (hb.mono HB.out.size)); clear hb hc0 hc1 hc2 hc3 hc4 hc5 k0 k1 k2
          obtain ⟨hc0, hc1, hc2, hc3, hc4, hc5⟩ := HC.out _ HB.out
          go_wp2_with fail
          refine (known_any _).mono ?_
          rintro e w12 ⟨rfl, hb⟩
          have HB := Lib.hid (HB.out.trans (hb.mono HB.out.size)); clear hb
          go_wp2_with fail
          go_ret
          exact ⟨rfl, HB0.out.trans (HB.out.mono HB0.out.size)⟩
        · have hnx : nextV lv (r, i) = .tuple #[dotV ((r, i), Dt.get lv (r, i) + 1), .int .i64 0] := by unfold nextV; rw [if_neg (by rw [hmA]; simp), if_neg hx]
          have hle := Dt.get_le lv (r, i)
          rw [hnx]
          generalize hg : Dt.get lv (r, i) = g at hx hle hnx ⊢
          have HmA := Lib.hid hmA; have HX := Lib.hid hg
          have x1 : ((g : Int) == 1048576) = false := by simp; omega
          have x4 : g + 1 < 18446744073709551616 := by omega
          clear hmA hnx hx hg
          go_wp2_with fail
          have hbA := Below.alloc HB.out HB.out.size (.cells #[.int .u8 (r : Int), .int .u32 (i : Int), .int .u64 ((g : Int) + 1)] 29)
          refine (refget_any av n cv r i lv _ (HV.out.below hbA) HLv.out).mono ?_
          rintro e w10 ⟨rfl, hb⟩
          rw [HX.out]
          have k0 : w10.cell? ⟨w9.heap.size, 0, none⟩ = some (.int .u8 (r : Int)) := (hb.cell (p := ⟨w9.heap.size, 0, none⟩) (by simp)).trans (by simp)
          have k1 : w10.cell? ⟨w9.heap.size, 1, none⟩ = some (.int .u32 (i : Int)) := (hb.cell (p := ⟨w9.heap.size, 1, none⟩) (by simp)).trans (by simp)
          have k2 : w10.cell? ⟨w9.heap.size, 2, none⟩ = some (.int .u64 ((g : Int) + 1)) := (hb.cell (p := ⟨w9.heap.size, 2, none⟩) (by simp)).trans (by simp)
          have HB := Lib.hid (hbA.trans (hb.mono hbA.size)); clear hb hbA hc0 hc1 hc2 hc3 hc4 hc5 hl6
          obtain ⟨hc0, hc1, hc2, hc3, hc4, hc5⟩ := HC.out _ HB.out
          generalize w9.heap.size = bx at k0 k1 k2 ⊢
          go_wp2_with fail
          refine (refmayActor_any r i _).mono ?_
          rintro e w11 ⟨rfl, hb⟩
          rw [HmA.out]
          have j0 := (hb.cell (p := ⟨bx, 0, none⟩) (World.block_lt_of_cell? _ _ k0)).trans k0
          have j1 := (hb.cell (p := ⟨bx, 1, none⟩) (World.block_lt_of_cell? _ _ k1)).trans k1
          have j2 := (hb.cell (p := ⟨bx, 2, none⟩) (World.block_lt_of_cell? _ _ k2)).trans k2
          have HB := Lib.hid (HB.out.trans (hb.mono HB.out.size)); clear hb hc0 hc1 hc2 hc3 hc4 hc5 k0 k1 k2
          obtain ⟨hc0, hc1, hc2, hc3, hc4, hc5⟩ := HC.out _ HB.out
          go_wp2_with fail
          refine (known_any _).mono ?_
          rintro e w12 ⟨rfl, hb⟩
          have HB := Lib.hid (HB.out.trans (hb.mono HB.out.size)); clear hb
          go_wp2_with fail
          go_ret
          exact ⟨rfl, HB0.out.trans (HB.out.mono HB0.out.size)⟩
end Go.Proofs.Ytfebbdnibimmmaa
