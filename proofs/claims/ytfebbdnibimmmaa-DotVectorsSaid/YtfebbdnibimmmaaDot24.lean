import Derived.Test.YtfebbdnibimmmaaDot23
namespace Go.Proofs.Ytfebbdnibimmmaa
open Go.RowKit Go.Maps Go.Buf
def vtail (a : Option Addr) (k c : Nat) : Option Addr := if c = k then a else a.map (fun p => p.add (k * 3))
theorem VRow.drop {w : World} {a : Option Addr} {cap : Nat} {l : List Dt.Dot} (h : VRow w a cap l) (k : Nat) (hk : k ≤ l.length) : VRow w (vtail a k cap) (cap - k) (l.drop k) := by
  obtain ⟨h1, h2, h3, h4, h5⟩ := h
  refine ⟨by simp; omega, by omega, fun x hx => h3 x (List.mem_of_mem_drop hx), fun hn => ?_, fun i d hd => ?_⟩
  · unfold vtail at hn
    split at hn
    · omega
    · cases a with
      | none => have := h4 rfl; omega
      | some p => simp at hn
  · rw [List.getElem?_drop] at hd
    obtain ⟨p, hp, g0, g1, g2⟩ := h5 (k + i) d hd
    have hlt : k + i < l.length := (List.getElem?_eq_some_iff.1 hd).1
    refine ⟨p.add (k * 3), ?_, ?_, ?_, ?_⟩
    · unfold vtail
      rw [if_neg (by omega), hp]; rfl
    · rw [Addr.add_add, show k * 3 + i * 3 = (k + i) * 3 from by omega]; exact g0
    · rw [Addr.add_add, show k * 3 + (i * 3 + 1) = (k + i) * 3 + 1 from by omega]; exact g1
    · rw [Addr.add_add, show k * 3 + (i * 3 + 2) = (k + i) * 3 + 2 from by omega]; exact g2
theorem VRow.take {w : World} {a : Option Addr} {cap : Nat} {l : List Dt.Dot} (h : VRow w a cap l) (k : Nat) : VRow w a cap (l.take k) := by
  obtain ⟨h1, h2, h3, h4, h5⟩ := h
  refine ⟨by simp; omega, h2, fun x hx => h3 x (List.mem_of_mem_take hx), h4, fun i d hd => ?_⟩
  rw [List.getElem?_take] at hd
  split at hd
  · exact h5 i d hd
  · cases hd
theorem vrun_slice_from (a : Option Addr) (n c i : Nat) (h : i ≤ n) (w : World) : Sem.run Try.prog (Instr.slice 23 (.slice a n c) (some (.int .i64 (i : Int))) none none) w = .ok (.slice (vtail a i c) (n - i) (c - i)) w := by
  have hu := Try.underlying23
  have h0 : (0 : Int) ≤ (i : Int) := by omega
  have h1 : (i : Int) ≤ (n : Int) := by omega
  go_simp
  simp [vtail]
theorem vrun_slice_head (a : Option Addr) (n c i : Nat) (h : i ≤ c) (w : World) : Sem.run Try.prog (Instr.slice 23 (.slice a n c) none (some (.int .i64 (i : Int))) none) w = .ok (.slice a i c) w := by
  have hu := Try.underlying23
  have h0 : (0 : Int) ≤ (i : Int) := by omega
  have h1 : (i : Int) ≤ (c : Int) := by omega
  go_simp
theorem keepS {wI w' : World} {a b c : Addr} {x y z : Value} (h0 : wI.cell? a = some x ∧ wI.cell? b = some y ∧ wI.cell? c = some z) (h : Below wI.heap.size wI w') : w'.cell? a = some x ∧ w'.cell? b = some y ∧ w'.cell? c = some z ∧ Below wI.heap.size wI w' :=
  ⟨(h.cell (World.block_lt_of_cell? _ _ h0.1)).trans h0.1, (h.cell (World.block_lt_of_cell? _ _ h0.2.1)).trans h0.2.1, (h.cell (World.block_lt_of_cell? _ _ h0.2.2)).trans h0.2.2, h⟩
theorem newFresh {w : World} {row row' : Option Nat} {N : Nat} (hn : New w row row') (h : ∀ k, row = some k → N ≤ k) (hs : N ≤ w.heap.size) : ∀ k, row' = some k → N ≤ k := by
  rcases hn with rfl | ⟨k, rfl, hk⟩
  · exact h
  · intro j hj; cases hj; omega
def outF (l : List Dt.Dot) (k : Nat) : List Dt.Dot := (l.take k).foldl (Dt.canonStep l) []
theorem outF_succ {l : List Dt.Dot} {k : Nat} {d : Dt.Dot} (hd : l[k]? = some d) : outF l (k + 1) = Dt.canonStep l (outF l k) d := by
  unfold outF
  obtain ⟨hk, rfl⟩ := List.getElem?_eq_some_iff.1 hd
  rw [List.take_succ_eq_append_getElem hk, List.foldl_append]; rfl
theorem outF_length (l : List Dt.Dot) : ∀ k, k ≤ l.length → (outF l k).length ≤ k := by
  intro k
  induction k with
  | zero => intro _; simp [outF]
  | succ k ih =>
    intro hk
    have hd : l[k]? = some l[k] := List.getElem?_eq_getElem (by omega)
    rw [outF_succ hd]
    have := ih (by omega)
    unfold Dt.canonStep
    split
    · have h2 := congrArg List.length (List.takeWhile_append_dropWhile (p := fun x => Dt.less x l[k]) (l := outF l k))
      rw [List.length_append] at h2
      simp only [List.length_append, List.length_cons]; omega
    · omega
theorem split_at {p : Dt.Dot → Bool} {o : List Dt.Dot} {j : Nat} (h1 : ∀ x ∈ o.take j, p x = true) (h2 : ∀ x, o[j]? = some x → p x = false) : o.takeWhile p = o.take j ∧ o.dropWhile p = o.drop j := by
  induction o generalizing j with
  | nil => simp
  | cons y r ih =>
    cases j with
    | zero =>
      have := h2 y (by simp)
      simp [this]
    | succ j =>
      have hy := h1 y (by simp)
      obtain ⟨e1, e2⟩ := ih (j := j) (fun x hx => h1 x (by simp [hx])) (fun x hx => h2 x (by simpa using hx))
      simp [hy, e1, e2]
set_option maxRecDepth 100000 in
set_option maxHeartbeats 12800000 in
theorem refcanon_any (a : Option Addr) (n cap : Nat) (l : List Dt.Dot) (W : World) (hr : VRow W a cap l) (hl : l.length = n) (hn : n ≤ 1000000) :
    Calls Try.prog 14 #[.slice a n cap] W (RetVec W (Dt.canon l)) := by
  have hle := hr.le
  have hcap := hr.cap
  rw [hl] at hle
  have HR := Lib.hid hr; have HL := Lib.hid hl
  clear hr hl
  go_enter Try.func14, Try.ntmps14
  go_wp2
  go_loopw [3, 4] (fun v iv wr => ∃ (i : Nat) (row : Option Nat), i ≤ n ∧ iv = .int .i64 i ∧ VBf W.heap.size wr v (outF l i) row ∧ Below W.heap.size W wr) (fun _ iv _ => n - (intOf iv).toNat)
  case atStart => exact ⟨0, none, Nat.zero_le _, rfl, VBf.nil (Nat.le_refl _), Below.refl _ _⟩
  case round =>
    obtain ⟨i, row, hi, rfl, hv, hbel⟩ := hrel
    obtain ⟨wo, rfl⟩ : ∃ wo : World, wo = wr := ⟨_, rfl⟩
    obtain ⟨ao, co, rfl, hO⟩ := hv.row
    have hol := outF_length l i (by rw [HL.out]; exact hi)
    have hoc := hO.le
    have HBel := Lib.hid hbel; have HV := Lib.hid hv; have HO := Lib.hid hO
    clear hbel hv hO
    by_cases hlt : i < n
    · obtain ⟨d, hd⟩ := getD_some (l := l) (i := i) (by rw [HL.out]; exact hlt)
      have hdok := HR.out.ok d (List.mem_of_getElem? hd)
      obtain ⟨blk, off, rfl, hblk, hcells⟩ := HR.out.at (by rw [HL.out]; omega)
      obtain ⟨g0, g1, g2⟩ := hcells i d hd
      have q0 := (HBel.out.cell (p := ⟨blk, off + i * 3, none⟩) hblk).trans g0
      have q1 := (HBel.out.cell (p := ⟨blk, off + i * 3 + 1, none⟩) hblk).trans g1
      have q2 := (HBel.out.cell (p := ⟨blk, off + i * 3 + 2, none⟩) hblk).trans g2
      have Hs := Lib.hid (outF_succ hd)
      have Hdok := Lib.hid hdok
      generalize ho : outF l i = o at Hs HV HO hol hoc ⊢
      have HOf := Lib.hid ho; clear ho
      obtain ⟨⟨r, q⟩, s⟩ := d
      simp only at q0 q1 q2
      have hC : ∀ w2, Below wo.drew.heap.size wo.drew w2 → w2.cell? ⟨blk, off + i * 3, none⟩ = some (.int .u8 (r : Int)) ∧ w2.cell? ⟨blk, off + i * 3 + 1, none⟩ = some (.int .u32 (q : Int)) ∧ w2.cell? ⟨blk, off + i * 3 + 2, none⟩ = some (.int .u64 (s : Int)) := fun w2 h =>
        ⟨(h.cell (World.block_lt_of_cell? wo _ q0)).trans q0, (h.cell (World.block_lt_of_cell? wo _ q1)).trans q1, (h.cell (World.block_lt_of_cell? wo _ q2)).trans q2⟩
      have HC := Lib.hid hC
      have HQ0 := Lib.hid q0; have HQ1 := Lib.hid q1; have HQ2 := Lib.hid q2
      have HK0 := Lib.hid (World.block_lt_of_cell? wo _ q0); have HK1 := Lib.hid (World.block_lt_of_cell? wo _ q1); have HK2 := Lib.hid (World.block_lt_of_cell? wo _ q2)
      have i0 : (0 : Int) ≤ (i : Int) := by omega
      have i1 : (i : Int) < (n : Int) := by omega
      clear hcells g0 g1 g2 hd hC q0 q1 q2 hdok
      cases hmy : Dt.may ((r, q), s)
      · have HMy := Lib.hid hmy
        have HCS := Lib.hid (show Dt.canonStep l o ((r, q), s) = o from by unfold Dt.canonStep; rw [if_neg (by rw [hmy]; simp)])
        clear hmy
        go_wp2_with fail
        refine Reg.region_list (by kernel_rfl) [fun v _ => v = .slice (some ⟨blk, off, none⟩) n cap, fun v _ => v = .int .i64 (i : Int), fun v _ => v = .pointer (some ⟨blk, off + i * 3, none⟩), fun v _ => v = dotV ((r, q), s), fun v _ => v = .bool false, fun v _ => v = .bool true, fun v _ => v = .bool true, fun v _ => v = undef, fun v _ => v = undef, fun v _ => v = undef, fun v _ => v = undef, fun v _ => v = undef, fun v _ => v = undef, fun v _ => v = undef, fun v _ => v = undef, fun v _ => v = undef, fun v _ => v = undef, fun v _ => v = undef, fun v _ => v = undef, fun v _ => v = undef, fun v _ => v = .bool true, fun v _ => v = .bool true, fun v _ => v = undef, fun v _ => v = undef, fun v _ => v = undef, fun v _ => v = undef, fun v _ => v = undef, fun v _ => v = undef, fun v _ => v = undef, fun v _ => v = undef, fun v _ => v = .bool true] (by kernel_rfl) ?_ ?_ ?_
        · refine ⟨(fun _ _ _ _ h => h), (fun _ _ _ _ h => h), (fun _ _ _ _ h => h), (fun _ _ _ _ h => h), (fun _ _ _ _ h => h), (fun _ _ _ _ h => h), (fun _ _ _ _ h => h), (fun _ _ _ _ h => h), (fun _ _ _ _ h => h), (fun _ _ _ _ h => h), (fun _ _ _ _ h => h), (fun _ _ _ _ h => h), (fun _ _ _ _ h => h), (fun _ _ _ _ h => h), (fun _ _ _ _ h => h), (fun _ _ _ _ h => h), (fun _ _ _ _ h => h), (fun _ _ _ _ h => h), (fun _ _ _ _ h => h), (fun _ _ _ _ h => h), (fun _ _ _ _ h => h), (fun _ _ _ _ h => h), (fun _ _ _ _ h => h), (fun _ _ _ _ h => h), (fun _ _ _ _ h => h), (fun _ _ _ _ h => h), (fun _ _ _ _ h => h), (fun _ _ _ _ h => h), (fun _ _ _ _ h => h), (fun _ _ _ _ h => h), (fun _ _ _ _ h => h), trivial⟩
        · refine ⟨?_, ?_, ?_, ?_, ?_, ?_, ?_, ?_, ?_, ?_, ?_, ?_, ?_, ?_, ?_, ?_, ?_, ?_, ?_, ?_, ?_, ?_, ?_, ?_, ?_, ?_, ?_, ?_, ?_, ?_, ?_, trivial⟩
          · intro ev w hc hf hg hfix hdep hbel
            have e0 : ev (.tmp 0) = .slice (some ⟨blk, off, none⟩) n cap := hfix 0 (by decide)
            exact Or.inl ⟨trivial, Or.inl ⟨.slice (some ⟨blk, off, none⟩) n cap, w, by go_simp, rfl, Below.refl _ _⟩⟩
          · intro ev w hc hf hg hfix hdep hbel
            have e4 : ev (.tmp 4) = .int .i64 (i : Int) := hfix 4 (by decide)
            exact Or.inl ⟨trivial, Or.inl ⟨.int .i64 (i : Int), w, by go_simp, rfl, Below.refl _ _⟩⟩
          · intro ev w hc hf hg hfix hdep hbel
            have e12 : ev (.tmp 12) = .slice (some ⟨blk, off, none⟩) n cap := hdep 0 (by decide)
            have e13 : ev (.tmp 13) = .int .i64 (i : Int) := hdep 1 (by decide)
            exact Or.inl ⟨trivial, Or.inl ⟨.pointer (some ⟨blk, off + i * 3, none⟩), w, by go_simp, rfl, Below.refl _ _⟩⟩
          · intro ev w hc hf hg hfix hdep hbel
            have e14 : ev (.tmp 14) = .pointer (some ⟨blk, off + i * 3, none⟩) := hdep 2 (by decide)
            obtain ⟨hc0, hc1, hc2⟩ := HC.out w hbel
            exact Or.inl ⟨trivial, Or.inl ⟨dotV ((r, q), s), w, by go_simp, rfl, Below.refl _ _⟩⟩
          · intro ev w hc hf hg hfix hdep hbel
            have e15 : ev (.tmp 15) = dotV ((r, q), s) := hdep 3 (by decide)
            refine Or.inl ⟨trivial, Or.inr ⟨9, #[dotV ((r, q), s)], w, by go_simp, ?_⟩⟩
            refine (refmay_any r q s w).mono ?_
            rintro e w1 ⟨rfl, hb1⟩
            exact ⟨_, rfl, by rw [HMy.out], hb1⟩
          · intro ev w hc hf hg hfix hdep hbel
            have e16 : ev (.tmp 16) = .bool false := hdep 4 (by decide)
            exact Or.inl ⟨trivial, Or.inl ⟨.bool true, w, by go_simp, rfl, Below.refl _ _⟩⟩
          · intro ev w hc hf hg hfix hdep hbel
            have e17 : ev (.tmp 17) = .bool true := hdep 5 (by decide)
            exact Or.inl ⟨trivial, Or.inl ⟨.bool true, w, by go_simp, rfl, Below.refl _ _⟩⟩
          · intro ev w hc hf hg hfix hdep hbel
            have fg : ev (.tmp 18) = .bool true := hdep 6 (by decide)
            have e0 : ev (.tmp 0) = .slice (some ⟨blk, off, none⟩) n cap := hfix 0 (by decide)
            exact Or.inr ⟨fg, rfl⟩
          · intro ev w hc hf hg hfix hdep hbel
            have fg : ev (.tmp 18) = .bool true := hdep 6 (by decide)
            have e4 : ev (.tmp 4) = .int .i64 (i : Int) := hfix 4 (by decide)
            exact Or.inr ⟨fg, rfl⟩
          · intro ev w hc hf hg hfix hdep hbel
            have fg : ev (.tmp 18) = .bool true := hdep 6 (by decide)
            have e19 : ev (.tmp 19) = undef := hdep 7 (by decide)
            have e20 : ev (.tmp 20) = undef := hdep 8 (by decide)
            exact Or.inr ⟨fg, rfl⟩
          · intro ev w hc hf hg hfix hdep hbel
            have fg : ev (.tmp 18) = .bool true := hdep 6 (by decide)
            have e21 : ev (.tmp 21) = undef := hdep 9 (by decide)
            exact Or.inr ⟨fg, rfl⟩
          · intro ev w hc hf hg hfix hdep hbel
            have fg : ev (.tmp 18) = .bool true := hdep 6 (by decide)
            have e22 : ev (.tmp 22) = undef := hdep 10 (by decide)
            exact Or.inr ⟨fg, rfl⟩
          · intro ev w hc hf hg hfix hdep hbel
            have fg : ev (.tmp 18) = .bool true := hdep 6 (by decide)
            have e0 : ev (.tmp 0) = .slice (some ⟨blk, off, none⟩) n cap := hfix 0 (by decide)
            exact Or.inr ⟨fg, rfl⟩
          · intro ev w hc hf hg hfix hdep hbel
            have fg : ev (.tmp 18) = .bool true := hdep 6 (by decide)
            have e0 : ev (.tmp 0) = .slice (some ⟨blk, off, none⟩) n cap := hfix 0 (by decide)
            exact Or.inr ⟨fg, rfl⟩
          · intro ev w hc hf hg hfix hdep hbel
            have fg : ev (.tmp 18) = .bool true := hdep 6 (by decide)
            have e4 : ev (.tmp 4) = .int .i64 (i : Int) := hfix 4 (by decide)
            exact Or.inr ⟨fg, rfl⟩
          · intro ev w hc hf hg hfix hdep hbel
            have fg : ev (.tmp 18) = .bool true := hdep 6 (by decide)
            have e25 : ev (.tmp 25) = undef := hdep 13 (by decide)
            have e26 : ev (.tmp 26) = undef := hdep 14 (by decide)
            exact Or.inr ⟨fg, rfl⟩
          · intro ev w hc hf hg hfix hdep hbel
            have fg : ev (.tmp 18) = .bool true := hdep 6 (by decide)
            have e27 : ev (.tmp 27) = undef := hdep 15 (by decide)
            exact Or.inr ⟨fg, rfl⟩
          · intro ev w hc hf hg hfix hdep hbel
            have fg : ev (.tmp 18) = .bool true := hdep 6 (by decide)
            have e28 : ev (.tmp 28) = undef := hdep 16 (by decide)
            exact Or.inr ⟨fg, rfl⟩
          · intro ev w hc hf hg hfix hdep hbel
            have fg : ev (.tmp 18) = .bool true := hdep 6 (by decide)
            have e24 : ev (.tmp 24) = undef := hdep 12 (by decide)
            have e29 : ev (.tmp 29) = undef := hdep 17 (by decide)
            exact Or.inr ⟨fg, rfl⟩
          · intro ev w hc hf hg hfix hdep hbel
            have fg : ev (.tmp 18) = .bool true := hdep 6 (by decide)
            have e23 : ev (.tmp 23) = undef := hdep 11 (by decide)
            have e30 : ev (.tmp 30) = undef := hdep 18 (by decide)
            exact Or.inr ⟨fg, rfl⟩
          · intro ev w hc hf hg hfix hdep hbel
            have e18 : ev (.tmp 18) = .bool true := hdep 6 (by decide)
            have e31 : ev (.tmp 31) = undef := hdep 19 (by decide)
            exact Or.inl ⟨trivial, Or.inl ⟨.bool true, w, by go_simp, rfl, Below.refl _ _⟩⟩
          · intro ev w hc hf hg hfix hdep hbel
            have e32 : ev (.tmp 32) = .bool true := hdep 20 (by decide)
            exact Or.inl ⟨trivial, Or.inl ⟨.bool true, w, by go_simp, rfl, Below.refl _ _⟩⟩
          · intro ev w hc hf hg hfix hdep hbel
            have fg : ev (.tmp 33) = .bool true := hdep 21 (by decide)
            have e3 : ev (.tmp 3) = .slice ao (o.length) co := hfix 3 (by decide)
            exact Or.inr ⟨fg, rfl⟩
          · intro ev w hc hf hg hfix hdep hbel
            have fg : ev (.tmp 33) = .bool true := hdep 21 (by decide)
            have e0 : ev (.tmp 0) = .slice (some ⟨blk, off, none⟩) n cap := hfix 0 (by decide)
            exact Or.inr ⟨fg, rfl⟩
          · intro ev w hc hf hg hfix hdep hbel
            have fg : ev (.tmp 33) = .bool true := hdep 21 (by decide)
            have e4 : ev (.tmp 4) = .int .i64 (i : Int) := hfix 4 (by decide)
            exact Or.inr ⟨fg, rfl⟩
          · intro ev w hc hf hg hfix hdep hbel
            have fg : ev (.tmp 33) = .bool true := hdep 21 (by decide)
            have e35 : ev (.tmp 35) = undef := hdep 23 (by decide)
            have e36 : ev (.tmp 36) = undef := hdep 24 (by decide)
            exact Or.inr ⟨fg, rfl⟩
          · intro ev w hc hf hg hfix hdep hbel
            have fg : ev (.tmp 33) = .bool true := hdep 21 (by decide)
            have e37 : ev (.tmp 37) = undef := hdep 25 (by decide)
            exact Or.inr ⟨fg, rfl⟩
          · intro ev w hc hf hg hfix hdep hbel
            have fg : ev (.tmp 33) = .bool true := hdep 21 (by decide)
            have e38 : ev (.tmp 38) = undef := hdep 26 (by decide)
            exact Or.inr ⟨fg, rfl⟩
          · intro ev w hc hf hg hfix hdep hbel
            have fg : ev (.tmp 33) = .bool true := hdep 21 (by decide)
            have e34 : ev (.tmp 34) = undef := hdep 22 (by decide)
            have e39 : ev (.tmp 39) = undef := hdep 27 (by decide)
            exact Or.inr ⟨fg, rfl⟩
          · intro ev w hc hf hg hfix hdep hbel
            have fg : ev (.tmp 33) = .bool true := hdep 21 (by decide)
            have e40 : ev (.tmp 40) = undef := hdep 28 (by decide)
            exact Or.inr ⟨fg, rfl⟩
          · intro ev w hc hf hg hfix hdep hbel
            have e33 : ev (.tmp 33) = .bool true := hdep 21 (by decide)
            have e41 : ev (.tmp 41) = undef := hdep 29 (by decide)
            exact Or.inl ⟨trivial, Or.inl ⟨.bool true, w, by go_simp, rfl, Below.refl _ _⟩⟩
        · intro v w2 hv hb2
          have r0 : v 0 = .slice (some ⟨blk, off, none⟩) n cap := hv 0 (by decide)
          have r1 : v 1 = .int .i64 (i : Int) := hv 1 (by decide)
          have r2 : v 2 = .pointer (some ⟨blk, off + i * 3, none⟩) := hv 2 (by decide)
          have r3 : v 3 = dotV ((r, q), s) := hv 3 (by decide)
          have r4 : v 4 = .bool false := hv 4 (by decide)
          have r5 : v 5 = .bool true := hv 5 (by decide)
          have r6 : v 6 = .bool true := hv 6 (by decide)
          have r7 : v 7 = undef := hv 7 (by decide)
          have r8 : v 8 = undef := hv 8 (by decide)
          have r9 : v 9 = undef := hv 9 (by decide)
          have r10 : v 10 = undef := hv 10 (by decide)
          have r11 : v 11 = undef := hv 11 (by decide)
          have r12 : v 12 = undef := hv 12 (by decide)
          have r13 : v 13 = undef := hv 13 (by decide)
          have r14 : v 14 = undef := hv 14 (by decide)
          have r15 : v 15 = undef := hv 15 (by decide)
          have r16 : v 16 = undef := hv 16 (by decide)
          have r17 : v 17 = undef := hv 17 (by decide)
          have r18 : v 18 = undef := hv 18 (by decide)
          have r19 : v 19 = undef := hv 19 (by decide)
          have r20 : v 20 = .bool true := hv 20 (by decide)
          have r21 : v 21 = .bool true := hv 21 (by decide)
          have r22 : v 22 = undef := hv 22 (by decide)
          have r23 : v 23 = undef := hv 23 (by decide)
          have r24 : v 24 = undef := hv 24 (by decide)
          have r25 : v 25 = undef := hv 25 (by decide)
          have r26 : v 26 = undef := hv 26 (by decide)
          have r27 : v 27 = undef := hv 27 (by decide)
          have r28 : v 28 = undef := hv 28 (by decide)
          have r29 : v 29 = undef := hv 29 (by decide)
          have r30 : v 30 = .bool true := hv 30 (by decide)
          simp only [Reg.putAll, Act.put, List.setIfInBounds_toArray, List.set_cons_zero, List.set_cons_succ, r0, r1, r2, r3, r4, r5, r6, r7, r8, r9, r10, r11, r12, r13, r14, r15, r16, r17, r18, r19, r20, r21, r22, r23, r24, r25, r26, r27, r28, r29, r30]
          clear r0 r1 r2 r3 r4 r5 r6 r7 r8 r9 r10 r11 r12 r13 r14 r15 r16 r17 r18 r19 r20 r21 r22 r23 r24 r25 r26 r27 r28 r29 r30 hv
          have HBw := Lib.hid (HBel.out.trans (hb2.mono HBel.out.size)); have HV2 := Lib.hid (HV.out.below hb2); clear hb2
          go_wp2_with fail
          go_roundw
          case rel => exact ⟨i + 1, row, by omega, by go_num, by rw [Hs.out, HCS.out]; exact HV2.out, HBw.out⟩
          case measure => simp [intOf]; omega
      · have HMy := Lib.hid hmy
        by_cases e3 : s = Dt.get l (r, q)
        · have HG := Lib.hid e3.symm
          by_cases e4 : Dt.get o (r, q) = 0
          · have HG2 := Lib.hid e4
            have HCS := Lib.hid (show Dt.canonStep l o ((r, q), s) = o.takeWhile (fun x => Dt.less x ((r, q), s)) ++ ((r, q), s) :: o.dropWhile (fun x => Dt.less x ((r, q), s)) from by unfold Dt.canonStep; rw [if_pos ⟨hmy, e3, e4⟩])
            clear e3 e4 hmy
            go_wp2_with fail
            refine Reg.region_list (by kernel_rfl) [fun v _ => v = .slice (some ⟨blk, off, none⟩) n cap, fun v _ => v = .int .i64 (i : Int), fun v _ => v = .pointer (some ⟨blk, off + i * 3, none⟩), fun v _ => v = dotV ((r, q), s), fun v _ => v = .bool true, fun v _ => v = .bool false, fun v _ => v = .bool false, fun v _ => v = .slice (some ⟨blk, off, none⟩) n cap, fun v _ => v = .int .i64 (i : Int), fun v _ => v = .pointer (some ⟨blk, off + i * 3, none⟩), fun v _ => v = .pointer (some ⟨blk, off + i * 3 + 2, none⟩), fun v _ => v = .int .u64 (s : Int), fun v _ => v = .slice (some ⟨blk, off, none⟩) n cap, fun v _ => v = .slice (some ⟨blk, off, none⟩) n cap, fun v _ => v = .int .i64 (i : Int), fun v _ => v = .pointer (some ⟨blk, off + i * 3, none⟩), fun v _ => v = .pointer (some ⟨blk, off + i * 3, none⟩), fun v _ => v = acV (r, q), fun v _ => v = .int .u64 (s : Int), fun v _ => v = .bool false, fun v _ => v = .bool false, fun v _ => v = .bool false, fun v _ => v = .slice ao (o.length) co, fun v _ => v = .slice (some ⟨blk, off, none⟩) n cap, fun v _ => v = .int .i64 (i : Int), fun v _ => v = .pointer (some ⟨blk, off + i * 3, none⟩), fun v _ => v = .pointer (some ⟨blk, off + i * 3, none⟩), fun v _ => v = acV (r, q), fun v _ => v = .int .u64 0, fun v _ => v = .bool false, fun v _ => v = .bool false] (by kernel_rfl) ?_ ?_ ?_
            · refine ⟨(fun _ _ _ _ h => h), (fun _ _ _ _ h => h), (fun _ _ _ _ h => h), (fun _ _ _ _ h => h), (fun _ _ _ _ h => h), (fun _ _ _ _ h => h), (fun _ _ _ _ h => h), (fun _ _ _ _ h => h), (fun _ _ _ _ h => h), (fun _ _ _ _ h => h), (fun _ _ _ _ h => h), (fun _ _ _ _ h => h), (fun _ _ _ _ h => h), (fun _ _ _ _ h => h), (fun _ _ _ _ h => h), (fun _ _ _ _ h => h), (fun _ _ _ _ h => h), (fun _ _ _ _ h => h), (fun _ _ _ _ h => h), (fun _ _ _ _ h => h), (fun _ _ _ _ h => h), (fun _ _ _ _ h => h), (fun _ _ _ _ h => h), (fun _ _ _ _ h => h), (fun _ _ _ _ h => h), (fun _ _ _ _ h => h), (fun _ _ _ _ h => h), (fun _ _ _ _ h => h), (fun _ _ _ _ h => h), (fun _ _ _ _ h => h), (fun _ _ _ _ h => h), trivial⟩
            · refine ⟨?_, ?_, ?_, ?_, ?_, ?_, ?_, ?_, ?_, ?_, ?_, ?_, ?_, ?_, ?_, ?_, ?_, ?_, ?_, ?_, ?_, ?_, ?_, ?_, ?_, ?_, ?_, ?_, ?_, ?_, ?_, trivial⟩
              · intro ev w hc hf hg hfix hdep hbel
                have e0 : ev (.tmp 0) = .slice (some ⟨blk, off, none⟩) n cap := hfix 0 (by decide)
                exact Or.inl ⟨trivial, Or.inl ⟨.slice (some ⟨blk, off, none⟩) n cap, w, by go_simp, rfl, Below.refl _ _⟩⟩
              · intro ev w hc hf hg hfix hdep hbel
                have e4 : ev (.tmp 4) = .int .i64 (i : Int) := hfix 4 (by decide)
                exact Or.inl ⟨trivial, Or.inl ⟨.int .i64 (i : Int), w, by go_simp, rfl, Below.refl _ _⟩⟩
              · intro ev w hc hf hg hfix hdep hbel
                have e12 : ev (.tmp 12) = .slice (some ⟨blk, off, none⟩) n cap := hdep 0 (by decide)
                have e13 : ev (.tmp 13) = .int .i64 (i : Int) := hdep 1 (by decide)
                exact Or.inl ⟨trivial, Or.inl ⟨.pointer (some ⟨blk, off + i * 3, none⟩), w, by go_simp, rfl, Below.refl _ _⟩⟩
              · intro ev w hc hf hg hfix hdep hbel
                have e14 : ev (.tmp 14) = .pointer (some ⟨blk, off + i * 3, none⟩) := hdep 2 (by decide)
                obtain ⟨hc0, hc1, hc2⟩ := HC.out w hbel
                exact Or.inl ⟨trivial, Or.inl ⟨dotV ((r, q), s), w, by go_simp, rfl, Below.refl _ _⟩⟩
              · intro ev w hc hf hg hfix hdep hbel
                have e15 : ev (.tmp 15) = dotV ((r, q), s) := hdep 3 (by decide)
                refine Or.inl ⟨trivial, Or.inr ⟨9, #[dotV ((r, q), s)], w, by go_simp, ?_⟩⟩
                refine (refmay_any r q s w).mono ?_
                rintro e w1 ⟨rfl, hb1⟩
                exact ⟨_, rfl, by rw [HMy.out], hb1⟩
              · intro ev w hc hf hg hfix hdep hbel
                have e16 : ev (.tmp 16) = .bool true := hdep 4 (by decide)
                exact Or.inl ⟨trivial, Or.inl ⟨.bool false, w, by go_simp, rfl, Below.refl _ _⟩⟩
              · intro ev w hc hf hg hfix hdep hbel
                have e17 : ev (.tmp 17) = .bool false := hdep 5 (by decide)
                exact Or.inl ⟨trivial, Or.inl ⟨.bool false, w, by go_simp, rfl, Below.refl _ _⟩⟩
              · intro ev w hc hf hg hfix hdep hbel
                have fg : ev (.tmp 18) = .bool false := hdep 6 (by decide)
                have e0 : ev (.tmp 0) = .slice (some ⟨blk, off, none⟩) n cap := hfix 0 (by decide)
                exact Or.inl ⟨fg, Or.inl ⟨.slice (some ⟨blk, off, none⟩) n cap, w, by go_simp, rfl, Below.refl _ _⟩⟩
              · intro ev w hc hf hg hfix hdep hbel
                have fg : ev (.tmp 18) = .bool false := hdep 6 (by decide)
                have e4 : ev (.tmp 4) = .int .i64 (i : Int) := hfix 4 (by decide)
                exact Or.inl ⟨fg, Or.inl ⟨.int .i64 (i : Int), w, by go_simp, rfl, Below.refl _ _⟩⟩
              · intro ev w hc hf hg hfix hdep hbel
                have fg : ev (.tmp 18) = .bool false := hdep 6 (by decide)
                have e19 : ev (.tmp 19) = .slice (some ⟨blk, off, none⟩) n cap := hdep 7 (by decide)
                have e20 : ev (.tmp 20) = .int .i64 (i : Int) := hdep 8 (by decide)
                exact Or.inl ⟨fg, Or.inl ⟨.pointer (some ⟨blk, off + i * 3, none⟩), w, by go_simp, rfl, Below.refl _ _⟩⟩
              · intro ev w hc hf hg hfix hdep hbel
                have fg : ev (.tmp 18) = .bool false := hdep 6 (by decide)
                have e21 : ev (.tmp 21) = .pointer (some ⟨blk, off + i * 3, none⟩) := hdep 9 (by decide)
                exact Or.inl ⟨fg, Or.inl ⟨.pointer (some ⟨blk, off + i * 3 + 2, none⟩), w, by go_simp, rfl, Below.refl _ _⟩⟩
              · intro ev w hc hf hg hfix hdep hbel
                have fg : ev (.tmp 18) = .bool false := hdep 6 (by decide)
                have e22 : ev (.tmp 22) = .pointer (some ⟨blk, off + i * 3 + 2, none⟩) := hdep 10 (by decide)
                obtain ⟨hc0, hc1, hc2⟩ := HC.out w hbel
                exact Or.inl ⟨fg, Or.inl ⟨.int .u64 (s : Int), w, by go_simp, rfl, Below.refl _ _⟩⟩
              · intro ev w hc hf hg hfix hdep hbel
                have fg : ev (.tmp 18) = .bool false := hdep 6 (by decide)
                have e0 : ev (.tmp 0) = .slice (some ⟨blk, off, none⟩) n cap := hfix 0 (by decide)
                exact Or.inl ⟨fg, Or.inl ⟨.slice (some ⟨blk, off, none⟩) n cap, w, by go_simp, rfl, Below.refl _ _⟩⟩
              · intro ev w hc hf hg hfix hdep hbel
                have fg : ev (.tmp 18) = .bool false := hdep 6 (by decide)
                have e0 : ev (.tmp 0) = .slice (some ⟨blk, off, none⟩) n cap := hfix 0 (by decide)
                exact Or.inl ⟨fg, Or.inl ⟨.slice (some ⟨blk, off, none⟩) n cap, w, by go_simp, rfl, Below.refl _ _⟩⟩
              · intro ev w hc hf hg hfix hdep hbel
                have fg : ev (.tmp 18) = .bool false := hdep 6 (by decide)
                have e4 : ev (.tmp 4) = .int .i64 (i : Int) := hfix 4 (by decide)
                exact Or.inl ⟨fg, Or.inl ⟨.int .i64 (i : Int), w, by go_simp, rfl, Below.refl _ _⟩⟩
              · intro ev w hc hf hg hfix hdep hbel
                have fg : ev (.tmp 18) = .bool false := hdep 6 (by decide)
                have e25 : ev (.tmp 25) = .slice (some ⟨blk, off, none⟩) n cap := hdep 13 (by decide)
                have e26 : ev (.tmp 26) = .int .i64 (i : Int) := hdep 14 (by decide)
                exact Or.inl ⟨fg, Or.inl ⟨.pointer (some ⟨blk, off + i * 3, none⟩), w, by go_simp, rfl, Below.refl _ _⟩⟩
              · intro ev w hc hf hg hfix hdep hbel
                have fg : ev (.tmp 18) = .bool false := hdep 6 (by decide)
                have e27 : ev (.tmp 27) = .pointer (some ⟨blk, off + i * 3, none⟩) := hdep 15 (by decide)
                exact Or.inl ⟨fg, Or.inl ⟨.pointer (some ⟨blk, off + i * 3, none⟩), w, by go_simp, rfl, Below.refl _ _⟩⟩
              · intro ev w hc hf hg hfix hdep hbel
                have fg : ev (.tmp 18) = .bool false := hdep 6 (by decide)
                have e28 : ev (.tmp 28) = .pointer (some ⟨blk, off + i * 3, none⟩) := hdep 16 (by decide)
                obtain ⟨hc0, hc1, hc2⟩ := HC.out w hbel
                exact Or.inl ⟨fg, Or.inl ⟨acV (r, q), w, by go_simp, rfl, Below.refl _ _⟩⟩
              · intro ev w hc hf hg hfix hdep hbel
                have fg : ev (.tmp 18) = .bool false := hdep 6 (by decide)
                have e24 : ev (.tmp 24) = .slice (some ⟨blk, off, none⟩) n cap := hdep 12 (by decide)
                have e29 : ev (.tmp 29) = acV (r, q) := hdep 17 (by decide)
                refine Or.inl ⟨fg, Or.inr ⟨16, #[.slice (some ⟨blk, off, none⟩) n cap, acV (r, q)], w, by go_simp, ?_⟩⟩
                refine (refget_any (some ⟨blk, off, none⟩) n cap r q l w (HR.out.below (HBel.out.drew.trans (hbel.mono HBel.out.size))) HL.out).mono ?_
                rintro e w1 ⟨rfl, hb1⟩
                exact ⟨_, rfl, by rw [HG.out], hb1⟩
              · intro ev w hc hf hg hfix hdep hbel
                have fg : ev (.tmp 18) = .bool false := hdep 6 (by decide)
                have e23 : ev (.tmp 23) = .int .u64 (s : Int) := hdep 11 (by decide)
                have e30 : ev (.tmp 30) = .int .u64 (s : Int) := hdep 18 (by decide)
                exact Or.inl ⟨fg, Or.inl ⟨.bool false, w, by go_simp, rfl, Below.refl _ _⟩⟩
              · intro ev w hc hf hg hfix hdep hbel
                have e18 : ev (.tmp 18) = .bool false := hdep 6 (by decide)
                have e31 : ev (.tmp 31) = .bool false := hdep 19 (by decide)
                exact Or.inl ⟨trivial, Or.inl ⟨.bool false, w, by go_simp, rfl, Below.refl _ _⟩⟩
              · intro ev w hc hf hg hfix hdep hbel
                have e32 : ev (.tmp 32) = .bool false := hdep 20 (by decide)
                exact Or.inl ⟨trivial, Or.inl ⟨.bool false, w, by go_simp, rfl, Below.refl _ _⟩⟩
              · intro ev w hc hf hg hfix hdep hbel
                have fg : ev (.tmp 33) = .bool false := hdep 21 (by decide)
                have e3 : ev (.tmp 3) = .slice ao (o.length) co := hfix 3 (by decide)
                exact Or.inl ⟨fg, Or.inl ⟨.slice ao (o.length) co, w, by go_simp, rfl, Below.refl _ _⟩⟩
              · intro ev w hc hf hg hfix hdep hbel
                have fg : ev (.tmp 33) = .bool false := hdep 21 (by decide)
                have e0 : ev (.tmp 0) = .slice (some ⟨blk, off, none⟩) n cap := hfix 0 (by decide)
                exact Or.inl ⟨fg, Or.inl ⟨.slice (some ⟨blk, off, none⟩) n cap, w, by go_simp, rfl, Below.refl _ _⟩⟩
              · intro ev w hc hf hg hfix hdep hbel
                have fg : ev (.tmp 33) = .bool false := hdep 21 (by decide)
                have e4 : ev (.tmp 4) = .int .i64 (i : Int) := hfix 4 (by decide)
                exact Or.inl ⟨fg, Or.inl ⟨.int .i64 (i : Int), w, by go_simp, rfl, Below.refl _ _⟩⟩
              · intro ev w hc hf hg hfix hdep hbel
                have fg : ev (.tmp 33) = .bool false := hdep 21 (by decide)
                have e35 : ev (.tmp 35) = .slice (some ⟨blk, off, none⟩) n cap := hdep 23 (by decide)
                have e36 : ev (.tmp 36) = .int .i64 (i : Int) := hdep 24 (by decide)
                exact Or.inl ⟨fg, Or.inl ⟨.pointer (some ⟨blk, off + i * 3, none⟩), w, by go_simp, rfl, Below.refl _ _⟩⟩
              · intro ev w hc hf hg hfix hdep hbel
                have fg : ev (.tmp 33) = .bool false := hdep 21 (by decide)
                have e37 : ev (.tmp 37) = .pointer (some ⟨blk, off + i * 3, none⟩) := hdep 25 (by decide)
                exact Or.inl ⟨fg, Or.inl ⟨.pointer (some ⟨blk, off + i * 3, none⟩), w, by go_simp, rfl, Below.refl _ _⟩⟩
              · intro ev w hc hf hg hfix hdep hbel
                have fg : ev (.tmp 33) = .bool false := hdep 21 (by decide)
                have e38 : ev (.tmp 38) = .pointer (some ⟨blk, off + i * 3, none⟩) := hdep 26 (by decide)
                obtain ⟨hc0, hc1, hc2⟩ := HC.out w hbel
                exact Or.inl ⟨fg, Or.inl ⟨acV (r, q), w, by go_simp, rfl, Below.refl _ _⟩⟩
              · intro ev w hc hf hg hfix hdep hbel
                have fg : ev (.tmp 33) = .bool false := hdep 21 (by decide)
                have e34 : ev (.tmp 34) = .slice ao (o.length) co := hdep 22 (by decide)
                have e39 : ev (.tmp 39) = acV (r, q) := hdep 27 (by decide)
                refine Or.inl ⟨fg, Or.inr ⟨16, #[.slice ao (o.length) co, acV (r, q)], w, by go_simp, ?_⟩⟩
                refine (refget_any ao o.length co r q o w (HO.out.below ((Below.refl _ _).drew.trans hbel)) rfl).mono ?_
                rintro e w1 ⟨rfl, hb1⟩
                exact ⟨_, rfl, by rw [HG2.out]; rfl, hb1⟩
              · intro ev w hc hf hg hfix hdep hbel
                have fg : ev (.tmp 33) = .bool false := hdep 21 (by decide)
                have e40 : ev (.tmp 40) = .int .u64 0 := hdep 28 (by decide)
                exact Or.inl ⟨fg, Or.inl ⟨.bool false, w, by go_simp, rfl, Below.refl _ _⟩⟩
              · intro ev w hc hf hg hfix hdep hbel
                have e33 : ev (.tmp 33) = .bool false := hdep 21 (by decide)
                have e41 : ev (.tmp 41) = .bool false := hdep 29 (by decide)
                exact Or.inl ⟨trivial, Or.inl ⟨.bool false, w, by go_simp, rfl, Below.refl _ _⟩⟩
            · intro v w2 hv hb2
              have r0 : v 0 = .slice (some ⟨blk, off, none⟩) n cap := hv 0 (by decide)
              have r1 : v 1 = .int .i64 (i : Int) := hv 1 (by decide)
              have r2 : v 2 = .pointer (some ⟨blk, off + i * 3, none⟩) := hv 2 (by decide)
              have r3 : v 3 = dotV ((r, q), s) := hv 3 (by decide)
              have r4 : v 4 = .bool true := hv 4 (by decide)
              have r5 : v 5 = .bool false := hv 5 (by decide)
              have r6 : v 6 = .bool false := hv 6 (by decide)
              have r7 : v 7 = .slice (some ⟨blk, off, none⟩) n cap := hv 7 (by decide)
              have r8 : v 8 = .int .i64 (i : Int) := hv 8 (by decide)
              have r9 : v 9 = .pointer (some ⟨blk, off + i * 3, none⟩) := hv 9 (by decide)
              have r10 : v 10 = .pointer (some ⟨blk, off + i * 3 + 2, none⟩) := hv 10 (by decide)
              have r11 : v 11 = .int .u64 (s : Int) := hv 11 (by decide)
              have r12 : v 12 = .slice (some ⟨blk, off, none⟩) n cap := hv 12 (by decide)
              have r13 : v 13 = .slice (some ⟨blk, off, none⟩) n cap := hv 13 (by decide)
              have r14 : v 14 = .int .i64 (i : Int) := hv 14 (by decide)
              have r15 : v 15 = .pointer (some ⟨blk, off + i * 3, none⟩) := hv 15 (by decide)
              have r16 : v 16 = .pointer (some ⟨blk, off + i * 3, none⟩) := hv 16 (by decide)
              have r17 : v 17 = acV (r, q) := hv 17 (by decide)
              have r18 : v 18 = .int .u64 (s : Int) := hv 18 (by decide)
              have r19 : v 19 = .bool false := hv 19 (by decide)
              have r20 : v 20 = .bool false := hv 20 (by decide)
              have r21 : v 21 = .bool false := hv 21 (by decide)
              have r22 : v 22 = .slice ao (o.length) co := hv 22 (by decide)
              have r23 : v 23 = .slice (some ⟨blk, off, none⟩) n cap := hv 23 (by decide)
              have r24 : v 24 = .int .i64 (i : Int) := hv 24 (by decide)
              have r25 : v 25 = .pointer (some ⟨blk, off + i * 3, none⟩) := hv 25 (by decide)
              have r26 : v 26 = .pointer (some ⟨blk, off + i * 3, none⟩) := hv 26 (by decide)
              have r27 : v 27 = acV (r, q) := hv 27 (by decide)
              have r28 : v 28 = .int .u64 0 := hv 28 (by decide)
              have r29 : v 29 = .bool false := hv 29 (by decide)
              have r30 : v 30 = .bool false := hv 30 (by decide)
              simp only [Reg.putAll, Act.put, List.setIfInBounds_toArray, List.set_cons_zero, List.set_cons_succ, r0, r1, r2, r3, r4, r5, r6, r7, r8, r9, r10, r11, r12, r13, r14, r15, r16, r17, r18, r19, r20, r21, r22, r23, r24, r25, r26, r27, r28, r29, r30]
              clear r0 r1 r2 r3 r4 r5 r6 r7 r8 r9 r10 r11 r12 r13 r14 r15 r16 r17 r18 r19 r20 r21 r22 r23 r24 r25 r26 r27 r28 r29 r30 hv
              have hbr : Below wo.heap.size wo w2 := hb2
              obtain ⟨w3, hw3⟩ : ∃ w3, w3 = w2 := ⟨_, rfl⟩
              rw [← hw3] at hbr ⊢
              clear hw3 hb2
              have HBr := Lib.hid hbr; clear hbr
              go_wp2_with fail
              go_loopw [5] (fun jv wr => ∃ j : Nat, j ≤ o.length ∧ jv = .int .i64 j ∧ (∀ x ∈ o.take j, Dt.less x ((r, q), s) = true) ∧ Below wo.heap.size wo wr) (fun jv _ => o.length - (intOf jv).toNat)
              case atStart => exact ⟨0, Nat.zero_le _, rfl, by simp, HBr.out⟩
              case round =>
                obtain ⟨j, hj, rfl, htk, hb4⟩ := hrel
                have HTk := Lib.hid htk; have HB4 := Lib.hid hb4; clear htk hb4
                by_cases hjl : j < o.length
                · obtain ⟨x, hx⟩ := getD_some (l := o) (i := j) hjl
                  obtain ⟨ob, of0, rfl, hob, hoc2⟩ := HO.out.at (by omega)
                  obtain ⟨x0, x1, x2⟩ := hoc2 j x hx
                  have y0 := (HB4.out.cell (p := ⟨ob, of0 + j * 3, none⟩) hob).trans x0
                  have y1 := (HB4.out.cell (p := ⟨ob, of0 + j * 3 + 1, none⟩) hob).trans x1
                  have y2 := (HB4.out.cell (p := ⟨ob, of0 + j * 3 + 2, none⟩) hob).trans x2
                  have y3 := (HB4.out.cell HK0.out).trans HQ0.out
                  have y4 := (HB4.out.cell HK1.out).trans HQ1.out
                  have y5 := (HB4.out.cell HK2.out).trans HQ2.out
                  have Hx := Lib.hid hx
                  obtain ⟨⟨xr, xi⟩, xs⟩ := x
                  simp only at y0 y1 y2
                  have hC7 : ∀ w5, Below wr.drew.heap.size wr.drew w5 → w5.cell? ⟨ob, of0 + j * 3, none⟩ = some (.int .u8 (xr : Int)) ∧ w5.cell? ⟨ob, of0 + j * 3 + 1, none⟩ = some (.int .u32 (xi : Int)) ∧ w5.cell? ⟨ob, of0 + j * 3 + 2, none⟩ = some (.int .u64 (xs : Int)) ∧ w5.cell? ⟨blk, off + i * 3, none⟩ = some (.int .u8 (r : Int)) ∧ w5.cell? ⟨blk, off + i * 3 + 1, none⟩ = some (.int .u32 (q : Int)) ∧ w5.cell? ⟨blk, off + i * 3 + 2, none⟩ = some (.int .u64 (s : Int)) := fun w5 h =>
                    ⟨(h.cell (World.block_lt_of_cell? wr _ y0)).trans y0, (h.cell (World.block_lt_of_cell? wr _ y1)).trans y1, (h.cell (World.block_lt_of_cell? wr _ y2)).trans y2, (h.cell (World.block_lt_of_cell? wr _ y3)).trans y3, (h.cell (World.block_lt_of_cell? wr _ y4)).trans y4, (h.cell (World.block_lt_of_cell? wr _ y5)).trans y5⟩
                  have HC7 := Lib.hid hC7
                  have j0 : (0 : Int) ≤ (j : Int) := by omega
                  have j1 : (j : Int) < (o.length : Int) := by omega
                  clear hoc2 x0 x1 x2 hx hC7 y0 y1 y2 y3 y4 y5
                  cases hls : Dt.less ((xr, xi), xs) ((r, q), s)
                  · have HLs := Lib.hid hls; clear hls
                    have hsp := split_at (p := fun x => Dt.less x ((r, q), s)) HTk.out (fun y hy => by rw [Hx.out] at hy; cases hy; exact HLs.out)
                    have HSp := Lib.hid hsp; clear hsp
                    go_wp2_with fail
                    refine Reg.region_list (by kernel_rfl) [fun v _ => v = .int .i64 (j : Int), fun v _ => v = .slice (some ⟨ob, of0, none⟩) (o.length) co, fun v _ => v = .int .i64 (o.length : Int), fun v _ => v = .bool true, fun v _ => v = .bool true, fun v _ => v = .slice (some ⟨ob, of0, none⟩) (o.length) co, fun v _ => v = .int .i64 (j : Int), fun v _ => v = .pointer (some ⟨ob, of0 + j * 3, none⟩), fun v _ => v = dotV ((xr, xi), xs), fun v _ => v = .slice (some ⟨blk, off, none⟩) n cap, fun v _ => v = .int .i64 (i : Int), fun v _ => v = .pointer (some ⟨blk, off + i * 3, none⟩), fun v _ => v = dotV ((r, q), s), fun v _ => v = .bool false, fun v _ => v = .bool false] (by kernel_rfl) ?_ ?_ ?_
                    · refine ⟨(fun _ _ _ _ h => h), (fun _ _ _ _ h => h), (fun _ _ _ _ h => h), (fun _ _ _ _ h => h), (fun _ _ _ _ h => h), (fun _ _ _ _ h => h), (fun _ _ _ _ h => h), (fun _ _ _ _ h => h), (fun _ _ _ _ h => h), (fun _ _ _ _ h => h), (fun _ _ _ _ h => h), (fun _ _ _ _ h => h), (fun _ _ _ _ h => h), (fun _ _ _ _ h => h), (fun _ _ _ _ h => h), trivial⟩
                    · refine ⟨?_, ?_, ?_, ?_, ?_, ?_, ?_, ?_, ?_, ?_, ?_, ?_, ?_, ?_, ?_, trivial⟩
                      · intro ev w hc hf hg hfix hdep hbel
                        have e5 : ev (.tmp 5) = .int .i64 (j : Int) := hfix 5 (by decide)
                        exact Or.inl ⟨trivial, Or.inl ⟨.int .i64 (j : Int), w, by go_simp, rfl, Below.refl _ _⟩⟩
                      · intro ev w hc hf hg hfix hdep hbel
                        have e3 : ev (.tmp 3) = .slice (some ⟨ob, of0, none⟩) (o.length) co := hfix 3 (by decide)
                        exact Or.inl ⟨trivial, Or.inl ⟨.slice (some ⟨ob, of0, none⟩) (o.length) co, w, by go_simp, rfl, Below.refl _ _⟩⟩
                      · intro ev w hc hf hg hfix hdep hbel
                        have e44 : ev (.tmp 44) = .slice (some ⟨ob, of0, none⟩) (o.length) co := hdep 1 (by decide)
                        exact Or.inl ⟨trivial, Or.inl ⟨.int .i64 (o.length : Int), w, by go_simp, rfl, Below.refl _ _⟩⟩
                      · intro ev w hc hf hg hfix hdep hbel
                        have e43 : ev (.tmp 43) = .int .i64 (j : Int) := hdep 0 (by decide)
                        have e45 : ev (.tmp 45) = .int .i64 (o.length : Int) := hdep 2 (by decide)
                        exact Or.inl ⟨trivial, Or.inl ⟨.bool true, w, by go_simp, rfl, Below.refl _ _⟩⟩
                      · intro ev w hc hf hg hfix hdep hbel
                        have e46 : ev (.tmp 46) = .bool true := hdep 3 (by decide)
                        exact Or.inl ⟨trivial, Or.inl ⟨.bool true, w, by go_simp, rfl, Below.refl _ _⟩⟩
                      · intro ev w hc hf hg hfix hdep hbel
                        have fg : ev (.tmp 47) = .bool true := hdep 4 (by decide)
                        have e3 : ev (.tmp 3) = .slice (some ⟨ob, of0, none⟩) (o.length) co := hfix 3 (by decide)
                        exact Or.inl ⟨fg, Or.inl ⟨.slice (some ⟨ob, of0, none⟩) (o.length) co, w, by go_simp, rfl, Below.refl _ _⟩⟩
                      · intro ev w hc hf hg hfix hdep hbel
                        have fg : ev (.tmp 47) = .bool true := hdep 4 (by decide)
                        have e5 : ev (.tmp 5) = .int .i64 (j : Int) := hfix 5 (by decide)
                        exact Or.inl ⟨fg, Or.inl ⟨.int .i64 (j : Int), w, by go_simp, rfl, Below.refl _ _⟩⟩
                      · intro ev w hc hf hg hfix hdep hbel
                        have fg : ev (.tmp 47) = .bool true := hdep 4 (by decide)
                        have e48 : ev (.tmp 48) = .slice (some ⟨ob, of0, none⟩) (o.length) co := hdep 5 (by decide)
                        have e49 : ev (.tmp 49) = .int .i64 (j : Int) := hdep 6 (by decide)
                        exact Or.inl ⟨fg, Or.inl ⟨.pointer (some ⟨ob, of0 + j * 3, none⟩), w, by go_simp, rfl, Below.refl _ _⟩⟩
                      · intro ev w hc hf hg hfix hdep hbel
                        have fg : ev (.tmp 47) = .bool true := hdep 4 (by decide)
                        have e50 : ev (.tmp 50) = .pointer (some ⟨ob, of0 + j * 3, none⟩) := hdep 7 (by decide)
                        obtain ⟨hc0, hc1, hc2, hc3, hc4, hc5⟩ := HC7.out w hbel
                        exact Or.inl ⟨fg, Or.inl ⟨dotV ((xr, xi), xs), w, by go_simp, rfl, Below.refl _ _⟩⟩
                      · intro ev w hc hf hg hfix hdep hbel
                        have fg : ev (.tmp 47) = .bool true := hdep 4 (by decide)
                        have e0 : ev (.tmp 0) = .slice (some ⟨blk, off, none⟩) n cap := hfix 0 (by decide)
                        exact Or.inl ⟨fg, Or.inl ⟨.slice (some ⟨blk, off, none⟩) n cap, w, by go_simp, rfl, Below.refl _ _⟩⟩
                      · intro ev w hc hf hg hfix hdep hbel
                        have fg : ev (.tmp 47) = .bool true := hdep 4 (by decide)
                        have e4 : ev (.tmp 4) = .int .i64 (i : Int) := hfix 4 (by decide)
                        exact Or.inl ⟨fg, Or.inl ⟨.int .i64 (i : Int), w, by go_simp, rfl, Below.refl _ _⟩⟩
                      · intro ev w hc hf hg hfix hdep hbel
                        have fg : ev (.tmp 47) = .bool true := hdep 4 (by decide)
                        have e52 : ev (.tmp 52) = .slice (some ⟨blk, off, none⟩) n cap := hdep 9 (by decide)
                        have e53 : ev (.tmp 53) = .int .i64 (i : Int) := hdep 10 (by decide)
                        exact Or.inl ⟨fg, Or.inl ⟨.pointer (some ⟨blk, off + i * 3, none⟩), w, by go_simp, rfl, Below.refl _ _⟩⟩
                      · intro ev w hc hf hg hfix hdep hbel
                        have fg : ev (.tmp 47) = .bool true := hdep 4 (by decide)
                        have e54 : ev (.tmp 54) = .pointer (some ⟨blk, off + i * 3, none⟩) := hdep 11 (by decide)
                        obtain ⟨hc0, hc1, hc2, hc3, hc4, hc5⟩ := HC7.out w hbel
                        exact Or.inl ⟨fg, Or.inl ⟨dotV ((r, q), s), w, by go_simp, rfl, Below.refl _ _⟩⟩
                      · intro ev w hc hf hg hfix hdep hbel
                        have fg : ev (.tmp 47) = .bool true := hdep 4 (by decide)
                        have e51 : ev (.tmp 51) = dotV ((xr, xi), xs) := hdep 8 (by decide)
                        have e55 : ev (.tmp 55) = dotV ((r, q), s) := hdep 12 (by decide)
                        refine Or.inl ⟨fg, Or.inr ⟨31, #[dotV ((xr, xi), xs), dotV ((r, q), s)], w, by go_simp, ?_⟩⟩
                        refine (refless_any xr xi xs r q s w).mono ?_
                        rintro e w1 ⟨rfl, hb1⟩
                        exact ⟨_, rfl, by rw [HLs.out], hb1⟩
                      · intro ev w hc hf hg hfix hdep hbel
                        have e47 : ev (.tmp 47) = .bool true := hdep 4 (by decide)
                        have e56 : ev (.tmp 56) = .bool false := hdep 13 (by decide)
                        exact Or.inl ⟨trivial, Or.inl ⟨.bool false, w, by go_simp, rfl, Below.refl _ _⟩⟩
                    · intro v w2 hv hb2
                      have r0 : v 0 = .int .i64 (j : Int) := hv 0 (by decide)
                      have r1 : v 1 = .slice (some ⟨ob, of0, none⟩) (o.length) co := hv 1 (by decide)
                      have r2 : v 2 = .int .i64 (o.length : Int) := hv 2 (by decide)
                      have r3 : v 3 = .bool true := hv 3 (by decide)
                      have r4 : v 4 = .bool true := hv 4 (by decide)
                      have r5 : v 5 = .slice (some ⟨ob, of0, none⟩) (o.length) co := hv 5 (by decide)
                      have r6 : v 6 = .int .i64 (j : Int) := hv 6 (by decide)
                      have r7 : v 7 = .pointer (some ⟨ob, of0 + j * 3, none⟩) := hv 7 (by decide)
                      have r8 : v 8 = dotV ((xr, xi), xs) := hv 8 (by decide)
                      have r9 : v 9 = .slice (some ⟨blk, off, none⟩) n cap := hv 9 (by decide)
                      have r10 : v 10 = .int .i64 (i : Int) := hv 10 (by decide)
                      have r11 : v 11 = .pointer (some ⟨blk, off + i * 3, none⟩) := hv 11 (by decide)
                      have r12 : v 12 = dotV ((r, q), s) := hv 12 (by decide)
                      have r13 : v 13 = .bool false := hv 13 (by decide)
                      have r14 : v 14 = .bool false := hv 14 (by decide)
                      simp only [Reg.putAll, Act.put, List.setIfInBounds_toArray, List.set_cons_zero, List.set_cons_succ, r0, r1, r2, r3, r4, r5, r6, r7, r8, r9, r10, r11, r12, r13, r14]
                      clear r0 r1 r2 r3 r4 r5 r6 r7 r8 r9 r10 r11 r12 r13 r14 hv
                      obtain ⟨wI, hwI⟩ : ∃ wI, wI = w2 := ⟨_, rfl⟩
                      have hbw := HB4.out.trans (hb2.mono HB4.out.size)
                      rw [← hwI] at hbw ⊢
                      clear hwI hb2
                      have HBw := Lib.hid hbw; clear hbw
                      have hOI := HO.out.below HBw.out
                      have p0 := (HBw.out.cell HK0.out).trans HQ0.out
                      have p1 := (HBw.out.cell HK1.out).trans HQ1.out
                      have p2 := (HBw.out.cell HK2.out).trans HQ2.out
                      have hbase : W.heap.size ≤ wI.heap.size := Nat.le_trans HBel.out.size HBw.out.size
                      have HOI := Lib.hid hOI; have HPc := Lib.hid (⟨p0, p1, p2⟩ : wI.cell? ⟨blk, off + i * 3, none⟩ = some (.int .u8 (r : Int)) ∧ wI.cell? ⟨blk, off + i * 3 + 1, none⟩ = some (.int .u32 (q : Int)) ∧ wI.cell? ⟨blk, off + i * 3 + 2, none⟩ = some (.int .u64 (s : Int)))
                      have Hbase := Lib.hid hbase
                      clear hOI hbase p0 p1 p2
                      have htok : (∀ d ∈ o.take j, Dt.okD d) ∧ (∀ d ∈ o.drop j, Dt.okD d) := ⟨fun d hd => HO.out.ok d (List.mem_of_mem_take hd), fun d hd => HO.out.ok d (List.mem_of_mem_drop hd)⟩
                      have HTok := Lib.hid htok; clear htok
                      have hs1 := fun w' : World => vrun_slice_head (some ⟨ob, of0, none⟩) o.length co j (by omega) w'
                      have hs2 := fun w' : World => vrun_slice_from (some ⟨ob, of0, none⟩) o.length co j (by omega) w'
                      go_wp2_with fail
                      go_region_held3 (fun w' : World => w'.cell? ⟨blk, off + i * 3, none⟩ = some (.int .u8 (r : Int)) ∧ w'.cell? ⟨blk, off + i * 3 + 1, none⟩ = some (.int .u32 (q : Int)) ∧ w'.cell? ⟨blk, off + i * 3 + 2, none⟩ = some (.int .u64 (s : Int)) ∧ Below wI.heap.size wI w')
                        (first
                          | assumption
                          | exact keepS HPc.out (by assumption)
                          | exact keepS HPc.out ((Below.refl _ _).drew)
                          | exact keepS HPc.out (Below.alloc (And.right (And.right (And.right (by assumption)))) (Below.size (And.right (And.right (And.right (by assumption))))) _)
                          | go_keep)
                        (first
                          | (refine step_append_vb rfl (.tmp 70) (.tmp 73) rfl W.heap.size _ (o.take j ++ [((r, q), s)]) _ rfl T2.out _ (o.length - j) (o.drop j) rfl (src_vrow ((HOI.out.below B2.out).drop j (by omega)) (by simp) (by omega)) (by simp) HTok.out.2 (by simp; omega) ?_; intro v3 w5 row3 hb3 hg3 hn3; have B3 := Lib.hid (Below.grown B2.out hg3 B2.out.size F2.out); have T3 := Lib.hid hb3; clear hb3 hg3 hn3; have b3 := B3.out)
                          | (refine step_append_vb rfl (.tmp 64) (.tmp 69) rfl W.heap.size _ (o.take j) _ rfl (T1.out.alloc _) _ 1 [((r, q), s)] rfl (src_lit (by simp) (by simp) (by simp)) rfl (by intro x hx; simp at hx; subst hx; exact Hdok.out) (by simp; omega) ?_; intro v2 w4 row2 hb2 hg2 hn2; have B2 := Lib.hid (Below.grown (Below.alloc B1.out B1.out.size _) hg2 (Nat.le_trans B1.out.size (by simp)) F1.out); have F2 := Lib.hid (newFresh hn2 F1.out (Nat.le_trans B1.out.size (by simp))); have T2 := Lib.hid hb2; clear hb2 hg2 hn2; have b2 := B2.out)
                          | (refine step_append_vb rfl (.tmp 64) (.tmp 69) rfl W.heap.size _ (o.take j) _ rfl T1.out _ 1 [((r, q), s)] rfl (src_lit (G1.out.cell (by simp) (by simp)) (G1.out.cell (by simp) (by simp)) (G1.out.cell (by simp) (by simp))) rfl (by intro x hx; simp at hx; subst hx; exact Hdok.out) (by simp; omega) ?_; intro v2 w4 row2 hb2 hg2 hn2; have B2 := Lib.hid (Below.grown B1.out hg2 B1.out.size F1.out); have F2 := Lib.hid (newFresh hn2 F1.out B1.out.size); have T2 := Lib.hid hb2; clear hb2 hg2 hn2; have b2 := B2.out)
                          | (refine step_append_vb rfl (.tmp 60) (.tmp 63) rfl W.heap.size _ [] none rfl (VBf.empty _ (Nat.le_trans Hbase.out (Below.size (And.right (And.right (And.right (by assumption))))))) _ j (o.take j) rfl (src_vrow ((HOI.out.below (And.right (And.right (And.right (by assumption))))).take j) (by simp; omega) (by omega)) (by simp; omega) HTok.out.1 (by simp; omega) ?_; intro v1 w3 row1 hb1 hg1 hn1; have B1 := Lib.hid (Below.grown (And.right (And.right (And.right (by assumption)))) hg1 (Below.size (And.right (And.right (And.right (by assumption))))) (fun k hk => by cases hk)); have F1 := Lib.hid (newFresh hn1 (fun k hk => by cases hk) (Below.size (And.right (And.right (And.right (by assumption)))))); have G1 := Lib.hid hg1; have T1 := Lib.hid hb1; clear hb1 hg1 hn1; have b1 := B1.out))
                      all_goals
                        clear hs1 hs2 b1 b2 b3
                        have hlist : o.take j ++ [((r, q), s)] ++ o.drop j = outF l (i + 1) := by rw [Hs.out, HCS.out, HSp.out.1, HSp.out.2]; simp
                        have hv9 := T3.out
                        rw [hlist] at hv9
                        have HV9 := Lib.hid hv9
                        have HB9 := Lib.hid (HBel.out.trans ((HBw.out.trans (B3.out.mono HBw.out.size)).mono HBel.out.size))
                        clear hv9 hlist
                        go_wp2_with fail
                        go_roundw
                        case rel => exact ⟨i + 1, _, by omega, by go_num, HV9.out, HB9.out⟩
                        case measure => simp [intOf]; omega
                  · have HLs := Lib.hid hls; clear hls
                    have hnext : ∀ y ∈ o.take (j + 1), Dt.less y ((r, q), s) = true := by
                      intro y hy
                      rw [List.take_succ_eq_append_getElem hjl, List.mem_append, List.mem_singleton] at hy
                      rcases hy with hy | hy
                      · exact HTk.out y hy
                      · have h1 := Hx.out; rw [List.getElem?_eq_getElem hjl] at h1; rw [hy, Option.some.inj h1]; exact HLs.out
                    have HN := Lib.hid hnext; clear hnext
                    go_wp2_with fail
                    refine Reg.region_list (by kernel_rfl) [fun v _ => v = .int .i64 (j : Int), fun v _ => v = .slice (some ⟨ob, of0, none⟩) (o.length) co, fun v _ => v = .int .i64 (o.length : Int), fun v _ => v = .bool true, fun v _ => v = .bool true, fun v _ => v = .slice (some ⟨ob, of0, none⟩) (o.length) co, fun v _ => v = .int .i64 (j : Int), fun v _ => v = .pointer (some ⟨ob, of0 + j * 3, none⟩), fun v _ => v = dotV ((xr, xi), xs), fun v _ => v = .slice (some ⟨blk, off, none⟩) n cap, fun v _ => v = .int .i64 (i : Int), fun v _ => v = .pointer (some ⟨blk, off + i * 3, none⟩), fun v _ => v = dotV ((r, q), s), fun v _ => v = .bool true, fun v _ => v = .bool true] (by kernel_rfl) ?_ ?_ ?_
                    · refine ⟨(fun _ _ _ _ h => h), (fun _ _ _ _ h => h), (fun _ _ _ _ h => h), (fun _ _ _ _ h => h), (fun _ _ _ _ h => h), (fun _ _ _ _ h => h), (fun _ _ _ _ h => h), (fun _ _ _ _ h => h), (fun _ _ _ _ h => h), (fun _ _ _ _ h => h), (fun _ _ _ _ h => h), (fun _ _ _ _ h => h), (fun _ _ _ _ h => h), (fun _ _ _ _ h => h), (fun _ _ _ _ h => h), trivial⟩
                    · refine ⟨?_, ?_, ?_, ?_, ?_, ?_, ?_, ?_, ?_, ?_, ?_, ?_, ?_, ?_, ?_, trivial⟩
                      · intro ev w hc hf hg hfix hdep hbel
                        have e5 : ev (.tmp 5) = .int .i64 (j : Int) := hfix 5 (by decide)
                        exact Or.inl ⟨trivial, Or.inl ⟨.int .i64 (j : Int), w, by go_simp, rfl, Below.refl _ _⟩⟩
                      · intro ev w hc hf hg hfix hdep hbel
                        have e3 : ev (.tmp 3) = .slice (some ⟨ob, of0, none⟩) (o.length) co := hfix 3 (by decide)
                        exact Or.inl ⟨trivial, Or.inl ⟨.slice (some ⟨ob, of0, none⟩) (o.length) co, w, by go_simp, rfl, Below.refl _ _⟩⟩
                      · intro ev w hc hf hg hfix hdep hbel
                        have e44 : ev (.tmp 44) = .slice (some ⟨ob, of0, none⟩) (o.length) co := hdep 1 (by decide)
                        exact Or.inl ⟨trivial, Or.inl ⟨.int .i64 (o.length : Int), w, by go_simp, rfl, Below.refl _ _⟩⟩
                      · intro ev w hc hf hg hfix hdep hbel
                        have e43 : ev (.tmp 43) = .int .i64 (j : Int) := hdep 0 (by decide)
                        have e45 : ev (.tmp 45) = .int .i64 (o.length : Int) := hdep 2 (by decide)
                        exact Or.inl ⟨trivial, Or.inl ⟨.bool true, w, by go_simp, rfl, Below.refl _ _⟩⟩
                      · intro ev w hc hf hg hfix hdep hbel
                        have e46 : ev (.tmp 46) = .bool true := hdep 3 (by decide)
                        exact Or.inl ⟨trivial, Or.inl ⟨.bool true, w, by go_simp, rfl, Below.refl _ _⟩⟩
                      · intro ev w hc hf hg hfix hdep hbel
                        have fg : ev (.tmp 47) = .bool true := hdep 4 (by decide)
                        have e3 : ev (.tmp 3) = .slice (some ⟨ob, of0, none⟩) (o.length) co := hfix 3 (by decide)
                        exact Or.inl ⟨fg, Or.inl ⟨.slice (some ⟨ob, of0, none⟩) (o.length) co, w, by go_simp, rfl, Below.refl _ _⟩⟩
                      · intro ev w hc hf hg hfix hdep hbel
                        have fg : ev (.tmp 47) = .bool true := hdep 4 (by decide)
                        have e5 : ev (.tmp 5) = .int .i64 (j : Int) := hfix 5 (by decide)
                        exact Or.inl ⟨fg, Or.inl ⟨.int .i64 (j : Int), w, by go_simp, rfl, Below.refl _ _⟩⟩
                      · intro ev w hc hf hg hfix hdep hbel
                        have fg : ev (.tmp 47) = .bool true := hdep 4 (by decide)
                        have e48 : ev (.tmp 48) = .slice (some ⟨ob, of0, none⟩) (o.length) co := hdep 5 (by decide)
                        have e49 : ev (.tmp 49) = .int .i64 (j : Int) := hdep 6 (by decide)
                        exact Or.inl ⟨fg, Or.inl ⟨.pointer (some ⟨ob, of0 + j * 3, none⟩), w, by go_simp, rfl, Below.refl _ _⟩⟩
                      · intro ev w hc hf hg hfix hdep hbel
                        have fg : ev (.tmp 47) = .bool true := hdep 4 (by decide)
                        have e50 : ev (.tmp 50) = .pointer (some ⟨ob, of0 + j * 3, none⟩) := hdep 7 (by decide)
                        obtain ⟨hc0, hc1, hc2, hc3, hc4, hc5⟩ := HC7.out w hbel
                        exact Or.inl ⟨fg, Or.inl ⟨dotV ((xr, xi), xs), w, by go_simp, rfl, Below.refl _ _⟩⟩
                      · intro ev w hc hf hg hfix hdep hbel
                        have fg : ev (.tmp 47) = .bool true := hdep 4 (by decide)
                        have e0 : ev (.tmp 0) = .slice (some ⟨blk, off, none⟩) n cap := hfix 0 (by decide)
                        exact Or.inl ⟨fg, Or.inl ⟨.slice (some ⟨blk, off, none⟩) n cap, w, by go_simp, rfl, Below.refl _ _⟩⟩
                      · intro ev w hc hf hg hfix hdep hbel
                        have fg : ev (.tmp 47) = .bool true := hdep 4 (by decide)
                        have e4 : ev (.tmp 4) = .int .i64 (i : Int) := hfix 4 (by decide)
                        exact Or.inl ⟨fg, Or.inl ⟨.int .i64 (i : Int), w, by go_simp, rfl, Below.refl _ _⟩⟩
                      · intro ev w hc hf hg hfix hdep hbel
                        have fg : ev (.tmp 47) = .bool true := hdep 4 (by decide)
                        have e52 : ev (.tmp 52) = .slice (some ⟨blk, off, none⟩) n cap := hdep 9 (by decide)
                        have e53 : ev (.tmp 53) = .int .i64 (i : Int) := hdep 10 (by decide)
                        exact Or.inl ⟨fg, Or.inl ⟨.pointer (some ⟨blk, off + i * 3, none⟩), w, by go_simp, rfl, Below.refl _ _⟩⟩
                      · intro ev w hc hf hg hfix hdep hbel
                        have fg : ev (.tmp 47) = .bool true := hdep 4 (by decide)
                        have e54 : ev (.tmp 54) = .pointer (some ⟨blk, off + i * 3, none⟩) := hdep 11 (by decide)
                        obtain ⟨hc0, hc1, hc2, hc3, hc4, hc5⟩ := HC7.out w hbel
                        exact Or.inl ⟨fg, Or.inl ⟨dotV ((r, q), s), w, by go_simp, rfl, Below.refl _ _⟩⟩
                      · intro ev w hc hf hg hfix hdep hbel
                        have fg : ev (.tmp 47) = .bool true := hdep 4 (by decide)
                        have e51 : ev (.tmp 51) = dotV ((xr, xi), xs) := hdep 8 (by decide)
                        have e55 : ev (.tmp 55) = dotV ((r, q), s) := hdep 12 (by decide)
                        refine Or.inl ⟨fg, Or.inr ⟨31, #[dotV ((xr, xi), xs), dotV ((r, q), s)], w, by go_simp, ?_⟩⟩
                        refine (refless_any xr xi xs r q s w).mono ?_
                        rintro e w1 ⟨rfl, hb1⟩
                        exact ⟨_, rfl, by rw [HLs.out], hb1⟩
                      · intro ev w hc hf hg hfix hdep hbel
                        have e47 : ev (.tmp 47) = .bool true := hdep 4 (by decide)
                        have e56 : ev (.tmp 56) = .bool true := hdep 13 (by decide)
                        exact Or.inl ⟨trivial, Or.inl ⟨.bool true, w, by go_simp, rfl, Below.refl _ _⟩⟩
                    · intro v w2 hv hb2
                      have r0 : v 0 = .int .i64 (j : Int) := hv 0 (by decide)
                      have r1 : v 1 = .slice (some ⟨ob, of0, none⟩) (o.length) co := hv 1 (by decide)
                      have r2 : v 2 = .int .i64 (o.length : Int) := hv 2 (by decide)
                      have r3 : v 3 = .bool true := hv 3 (by decide)
                      have r4 : v 4 = .bool true := hv 4 (by decide)
                      have r5 : v 5 = .slice (some ⟨ob, of0, none⟩) (o.length) co := hv 5 (by decide)
                      have r6 : v 6 = .int .i64 (j : Int) := hv 6 (by decide)
                      have r7 : v 7 = .pointer (some ⟨ob, of0 + j * 3, none⟩) := hv 7 (by decide)
                      have r8 : v 8 = dotV ((xr, xi), xs) := hv 8 (by decide)
                      have r9 : v 9 = .slice (some ⟨blk, off, none⟩) n cap := hv 9 (by decide)
                      have r10 : v 10 = .int .i64 (i : Int) := hv 10 (by decide)
                      have r11 : v 11 = .pointer (some ⟨blk, off + i * 3, none⟩) := hv 11 (by decide)
                      have r12 : v 12 = dotV ((r, q), s) := hv 12 (by decide)
                      have r13 : v 13 = .bool true := hv 13 (by decide)
                      have r14 : v 14 = .bool true := hv 14 (by decide)
                      simp only [Reg.putAll, Act.put, List.setIfInBounds_toArray, List.set_cons_zero, List.set_cons_succ, r0, r1, r2, r3, r4, r5, r6, r7, r8, r9, r10, r11, r12, r13, r14]
                      clear r0 r1 r2 r3 r4 r5 r6 r7 r8 r9 r10 r11 r12 r13 r14 hv
                      have HB5 := Lib.hid (HB4.out.trans (hb2.mono HB4.out.size)); clear hb2
                      go_wp2_with fail
                      go_roundw
                      case rel => exact ⟨j + 1, by omega, by go_num, HN.out, HB5.out⟩
                      case measure => simp [intOf]; omega
                · have hsp := split_at (p := fun x => Dt.less x ((r, q), s)) HTk.out (fun y hy => by have := (List.getElem?_eq_some_iff.1 hy).1; omega)
                  have HSp := Lib.hid hsp; clear hsp
                  have j1 : (o.length : Int) ≤ (j : Int) := by omega
                  go_wp2_with fail
                  refine Reg.region_list (by kernel_rfl) [fun v _ => v = .int .i64 (j : Int), fun v _ => v = .slice ao (o.length) co, fun v _ => v = .int .i64 (o.length : Int), fun v _ => v = .bool false, fun v _ => v = .bool false, fun v _ => v = undef, fun v _ => v = undef, fun v _ => v = undef, fun v _ => v = undef, fun v _ => v = undef, fun v _ => v = undef, fun v _ => v = undef, fun v _ => v = undef, fun v _ => v = undef, fun v _ => v = .bool false] (by kernel_rfl) ?_ ?_ ?_
                  · refine ⟨(fun _ _ _ _ h => h), (fun _ _ _ _ h => h), (fun _ _ _ _ h => h), (fun _ _ _ _ h => h), (fun _ _ _ _ h => h), (fun _ _ _ _ h => h), (fun _ _ _ _ h => h), (fun _ _ _ _ h => h), (fun _ _ _ _ h => h), (fun _ _ _ _ h => h), (fun _ _ _ _ h => h), (fun _ _ _ _ h => h), (fun _ _ _ _ h => h), (fun _ _ _ _ h => h), (fun _ _ _ _ h => h), trivial⟩
                  · refine ⟨?_, ?_, ?_, ?_, ?_, ?_, ?_, ?_, ?_, ?_, ?_, ?_, ?_, ?_, ?_, trivial⟩
                    · intro ev w hc hf hg hfix hdep hbel
                      have e5 : ev (.tmp 5) = .int .i64 (j : Int) := hfix 5 (by decide)
                      exact Or.inl ⟨trivial, Or.inl ⟨.int .i64 (j : Int), w, by go_simp, rfl, Below.refl _ _⟩⟩
                    · intro ev w hc hf hg hfix hdep hbel
                      have e3 : ev (.tmp 3) = .slice ao (o.length) co := hfix 3 (by decide)
                      exact Or.inl ⟨trivial, Or.inl ⟨.slice ao (o.length) co, w, by go_simp, rfl, Below.refl _ _⟩⟩
                    · intro ev w hc hf hg hfix hdep hbel
                      have e44 : ev (.tmp 44) = .slice ao (o.length) co := hdep 1 (by decide)
                      exact Or.inl ⟨trivial, Or.inl ⟨.int .i64 (o.length : Int), w, by go_simp, rfl, Below.refl _ _⟩⟩
                    · intro ev w hc hf hg hfix hdep hbel
                      have e43 : ev (.tmp 43) = .int .i64 (j : Int) := hdep 0 (by decide)
                      have e45 : ev (.tmp 45) = .int .i64 (o.length : Int) := hdep 2 (by decide)
                      exact Or.inl ⟨trivial, Or.inl ⟨.bool false, w, by go_simp, rfl, Below.refl _ _⟩⟩
                    · intro ev w hc hf hg hfix hdep hbel
                      have e46 : ev (.tmp 46) = .bool false := hdep 3 (by decide)
                      exact Or.inl ⟨trivial, Or.inl ⟨.bool false, w, by go_simp, rfl, Below.refl _ _⟩⟩
                    · intro ev w hc hf hg hfix hdep hbel
                      have fg : ev (.tmp 47) = .bool false := hdep 4 (by decide)
                      have e3 : ev (.tmp 3) = .slice ao (o.length) co := hfix 3 (by decide)
                      exact Or.inr ⟨fg, rfl⟩
                    · intro ev w hc hf hg hfix hdep hbel
                      have fg : ev (.tmp 47) = .bool false := hdep 4 (by decide)
                      have e5 : ev (.tmp 5) = .int .i64 (j : Int) := hfix 5 (by decide)
                      exact Or.inr ⟨fg, rfl⟩
                    · intro ev w hc hf hg hfix hdep hbel
                      have fg : ev (.tmp 47) = .bool false := hdep 4 (by decide)
                      have e48 : ev (.tmp 48) = undef := hdep 5 (by decide)
                      have e49 : ev (.tmp 49) = undef := hdep 6 (by decide)
                      exact Or.inr ⟨fg, rfl⟩
                    · intro ev w hc hf hg hfix hdep hbel
                      have fg : ev (.tmp 47) = .bool false := hdep 4 (by decide)
                      have e50 : ev (.tmp 50) = undef := hdep 7 (by decide)
                      exact Or.inr ⟨fg, rfl⟩
                    · intro ev w hc hf hg hfix hdep hbel
                      have fg : ev (.tmp 47) = .bool false := hdep 4 (by decide)
                      have e0 : ev (.tmp 0) = .slice (some ⟨blk, off, none⟩) n cap := hfix 0 (by decide)
                      exact Or.inr ⟨fg, rfl⟩
                    · intro ev w hc hf hg hfix hdep hbel
                      have fg : ev (.tmp 47) = .bool false := hdep 4 (by decide)
                      have e4 : ev (.tmp 4) = .int .i64 (i : Int) := hfix 4 (by decide)
                      exact Or.inr ⟨fg, rfl⟩
                    · intro ev w hc hf hg hfix hdep hbel
                      have fg : ev (.tmp 47) = .bool false := hdep 4 (by decide)
                      have e52 : ev (.tmp 52) = undef := hdep 9 (by decide)
                      have e53 : ev (.tmp 53) = undef := hdep 10 (by decide)
                      exact Or.inr ⟨fg, rfl⟩
                    · intro ev w hc hf hg hfix hdep hbel
                      have fg : ev (.tmp 47) = .bool false := hdep 4 (by decide)
                      have e54 : ev (.tmp 54) = undef := hdep 11 (by decide)
                      exact Or.inr ⟨fg, rfl⟩
                    · intro ev w hc hf hg hfix hdep hbel
                      have fg : ev (.tmp 47) = .bool false := hdep 4 (by decide)
                      have e51 : ev (.tmp 51) = undef := hdep 8 (by decide)
                      have e55 : ev (.tmp 55) = undef := hdep 12 (by decide)
                      exact Or.inr ⟨fg, rfl⟩
                    · intro ev w hc hf hg hfix hdep hbel
                      have e47 : ev (.tmp 47) = .bool false := hdep 4 (by decide)
                      have e56 : ev (.tmp 56) = undef := hdep 13 (by decide)
                      exact Or.inl ⟨trivial, Or.inl ⟨.bool false, w, by go_simp, rfl, Below.refl _ _⟩⟩
                  · intro v w2 hv hb2
                    have r0 : v 0 = .int .i64 (j : Int) := hv 0 (by decide)
                    have r1 : v 1 = .slice ao (o.length) co := hv 1 (by decide)
                    have r2 : v 2 = .int .i64 (o.length : Int) := hv 2 (by decide)
                    have r3 : v 3 = .bool false := hv 3 (by decide)
                    have r4 : v 4 = .bool false := hv 4 (by decide)
                    have r5 : v 5 = undef := hv 5 (by decide)
                    have r6 : v 6 = undef := hv 6 (by decide)
                    have r7 : v 7 = undef := hv 7 (by decide)
                    have r8 : v 8 = undef := hv 8 (by decide)
                    have r9 : v 9 = undef := hv 9 (by decide)
                    have r10 : v 10 = undef := hv 10 (by decide)
                    have r11 : v 11 = undef := hv 11 (by decide)
                    have r12 : v 12 = undef := hv 12 (by decide)
                    have r13 : v 13 = undef := hv 13 (by decide)
                    have r14 : v 14 = .bool false := hv 14 (by decide)
                    simp only [Reg.putAll, Act.put, List.setIfInBounds_toArray, List.set_cons_zero, List.set_cons_succ, r0, r1, r2, r3, r4, r5, r6, r7, r8, r9, r10, r11, r12, r13, r14]
                    clear r0 r1 r2 r3 r4 r5 r6 r7 r8 r9 r10 r11 r12 r13 r14 hv
                    obtain ⟨wI, hwI⟩ : ∃ wI, wI = w2 := ⟨_, rfl⟩
                    have hbw := HB4.out.trans (hb2.mono HB4.out.size)
                    rw [← hwI] at hbw ⊢
                    clear hwI hb2
                    have HBw := Lib.hid hbw; clear hbw
                    have hOI := HO.out.below HBw.out
                    have p0 := (HBw.out.cell HK0.out).trans HQ0.out
                    have p1 := (HBw.out.cell HK1.out).trans HQ1.out
                    have p2 := (HBw.out.cell HK2.out).trans HQ2.out
                    have hbase : W.heap.size ≤ wI.heap.size := Nat.le_trans HBel.out.size HBw.out.size
                    have HOI := Lib.hid hOI; have HPc := Lib.hid (⟨p0, p1, p2⟩ : wI.cell? ⟨blk, off + i * 3, none⟩ = some (.int .u8 (r : Int)) ∧ wI.cell? ⟨blk, off + i * 3 + 1, none⟩ = some (.int .u32 (q : Int)) ∧ wI.cell? ⟨blk, off + i * 3 + 2, none⟩ = some (.int .u64 (s : Int)))
                    have Hbase := Lib.hid hbase
                    clear hOI hbase p0 p1 p2
                    have htok : (∀ d ∈ o.take j, Dt.okD d) ∧ (∀ d ∈ o.drop j, Dt.okD d) := ⟨fun d hd => HO.out.ok d (List.mem_of_mem_take hd), fun d hd => HO.out.ok d (List.mem_of_mem_drop hd)⟩
                    have HTok := Lib.hid htok; clear htok
                    have hs1 := fun w' : World => vrun_slice_head ao o.length co j (by omega) w'
                    have hs2 := fun w' : World => vrun_slice_from ao o.length co j (by omega) w'
                    go_wp2_with fail
                    go_region_held3 (fun w' : World => w'.cell? ⟨blk, off + i * 3, none⟩ = some (.int .u8 (r : Int)) ∧ w'.cell? ⟨blk, off + i * 3 + 1, none⟩ = some (.int .u32 (q : Int)) ∧ w'.cell? ⟨blk, off + i * 3 + 2, none⟩ = some (.int .u64 (s : Int)) ∧ Below wI.heap.size wI w')
                      (first
                        | assumption
                        | exact keepS HPc.out (by assumption)
                        | exact keepS HPc.out ((Below.refl _ _).drew)
                        | exact keepS HPc.out (Below.alloc (And.right (And.right (And.right (by assumption)))) (Below.size (And.right (And.right (And.right (by assumption))))) _)
                        | go_keep)
                      (first
                        | (refine step_append_vb rfl (.tmp 70) (.tmp 73) rfl W.heap.size _ (o.take j ++ [((r, q), s)]) _ rfl T2.out _ (o.length - j) (o.drop j) rfl (src_vrow ((HOI.out.below B2.out).drop j (by omega)) (by simp) (by omega)) (by simp) HTok.out.2 (by simp; omega) ?_; intro v3 w5 row3 hb3 hg3 hn3; have B3 := Lib.hid (Below.grown B2.out hg3 B2.out.size F2.out); have T3 := Lib.hid hb3; clear hb3 hg3 hn3; have b3 := B3.out)
                        | (refine step_append_vb rfl (.tmp 64) (.tmp 69) rfl W.heap.size _ (o.take j) _ rfl (T1.out.alloc _) _ 1 [((r, q), s)] rfl (src_lit (by simp) (by simp) (by simp)) rfl (by intro x hx; simp at hx; subst hx; exact Hdok.out) (by simp; omega) ?_; intro v2 w4 row2 hb2 hg2 hn2; have B2 := Lib.hid (Below.grown (Below.alloc B1.out B1.out.size _) hg2 (Nat.le_trans B1.out.size (by simp)) F1.out); have F2 := Lib.hid (newFresh hn2 F1.out (Nat.le_trans B1.out.size (by simp))); have T2 := Lib.hid hb2; clear hb2 hg2 hn2; have b2 := B2.out)
                        | (refine step_append_vb rfl (.tmp 64) (.tmp 69) rfl W.heap.size _ (o.take j) _ rfl T1.out _ 1 [((r, q), s)] rfl (src_lit (G1.out.cell (by simp) (by simp)) (G1.out.cell (by simp) (by simp)) (G1.out.cell (by simp) (by simp))) rfl (by intro x hx; simp at hx; subst hx; exact Hdok.out) (by simp; omega) ?_; intro v2 w4 row2 hb2 hg2 hn2; have B2 := Lib.hid (Below.grown B1.out hg2 B1.out.size F1.out); have F2 := Lib.hid (newFresh hn2 F1.out B1.out.size); have T2 := Lib.hid hb2; clear hb2 hg2 hn2; have b2 := B2.out)
                        | (refine step_append_vb rfl (.tmp 60) (.tmp 63) rfl W.heap.size _ [] none rfl (VBf.empty _ (Nat.le_trans Hbase.out (Below.size (And.right (And.right (And.right (by assumption))))))) _ j (o.take j) rfl (src_vrow ((HOI.out.below (And.right (And.right (And.right (by assumption))))).take j) (by simp; omega) (by omega)) (by simp; omega) HTok.out.1 (by simp; omega) ?_; intro v1 w3 row1 hb1 hg1 hn1; have B1 := Lib.hid (Below.grown (And.right (And.right (And.right (by assumption)))) hg1 (Below.size (And.right (And.right (And.right (by assumption))))) (fun k hk => by cases hk)); have F1 := Lib.hid (newFresh hn1 (fun k hk => by cases hk) (Below.size (And.right (And.right (And.right (by assumption)))))); have G1 := Lib.hid hg1; have T1 := Lib.hid hb1; clear hb1 hg1 hn1; have b1 := B1.out))
                    all_goals
                      clear hs1 hs2 b1 b2 b3
                      have hlist : o.take j ++ [((r, q), s)] ++ o.drop j = outF l (i + 1) := by rw [Hs.out, HCS.out, HSp.out.1, HSp.out.2]; simp
                      have hv9 := T3.out
                      rw [hlist] at hv9
                      have HV9 := Lib.hid hv9
                      have HB9 := Lib.hid (HBel.out.trans ((HBw.out.trans (B3.out.mono HBw.out.size)).mono HBel.out.size))
                      clear hv9 hlist
                      go_wp2_with fail
                      go_roundw
                      case rel => exact ⟨i + 1, _, by omega, by go_num, HV9.out, HB9.out⟩
                      case measure => simp [intOf]; omega
          · obtain ⟨g2, hg2⟩ : ∃ g2, g2 = Dt.get o (r, q) := ⟨_, rfl⟩
            have HG2 := Lib.hid hg2.symm
            have HCS0 := Lib.hid (show Dt.canonStep l o ((r, q), s) = o from by unfold Dt.canonStep; rw [if_neg (fun h => e4 h.2.2)])
            have i2 : (0 : Int) < (g2 : Int) := by omega
            have i3 : decide (0 < g2) = true := decide_eq_true (by omega)
            have i4 : 0 < g2 := by omega
            clear e3 e4 hg2
            have HCS := Lib.hid (show Dt.canonStep l o ((r, q), s) = o from HCS0.out)
            clear hmy
            go_wp2_with fail
            refine Reg.region_list (by kernel_rfl) [fun v _ => v = .slice (some ⟨blk, off, none⟩) n cap, fun v _ => v = .int .i64 (i : Int), fun v _ => v = .pointer (some ⟨blk, off + i * 3, none⟩), fun v _ => v = dotV ((r, q), s), fun v _ => v = .bool true, fun v _ => v = .bool false, fun v _ => v = .bool false, fun v _ => v = .slice (some ⟨blk, off, none⟩) n cap, fun v _ => v = .int .i64 (i : Int), fun v _ => v = .pointer (some ⟨blk, off + i * 3, none⟩), fun v _ => v = .pointer (some ⟨blk, off + i * 3 + 2, none⟩), fun v _ => v = .int .u64 (s : Int), fun v _ => v = .slice (some ⟨blk, off, none⟩) n cap, fun v _ => v = .slice (some ⟨blk, off, none⟩) n cap, fun v _ => v = .int .i64 (i : Int), fun v _ => v = .pointer (some ⟨blk, off + i * 3, none⟩), fun v _ => v = .pointer (some ⟨blk, off + i * 3, none⟩), fun v _ => v = acV (r, q), fun v _ => v = .int .u64 (s : Int), fun v _ => v = .bool false, fun v _ => v = .bool false, fun v _ => v = .bool false, fun v _ => v = .slice ao (o.length) co, fun v _ => v = .slice (some ⟨blk, off, none⟩) n cap, fun v _ => v = .int .i64 (i : Int), fun v _ => v = .pointer (some ⟨blk, off + i * 3, none⟩), fun v _ => v = .pointer (some ⟨blk, off + i * 3, none⟩), fun v _ => v = acV (r, q), fun v _ => v = .int .u64 (g2 : Int), fun v _ => v = .bool true, fun v _ => v = .bool true] (by kernel_rfl) ?_ ?_ ?_
            · refine ⟨(fun _ _ _ _ h => h), (fun _ _ _ _ h => h), (fun _ _ _ _ h => h), (fun _ _ _ _ h => h), (fun _ _ _ _ h => h), (fun _ _ _ _ h => h), (fun _ _ _ _ h => h), (fun _ _ _ _ h => h), (fun _ _ _ _ h => h), (fun _ _ _ _ h => h), (fun _ _ _ _ h => h), (fun _ _ _ _ h => h), (fun _ _ _ _ h => h), (fun _ _ _ _ h => h), (fun _ _ _ _ h => h), (fun _ _ _ _ h => h), (fun _ _ _ _ h => h), (fun _ _ _ _ h => h), (fun _ _ _ _ h => h), (fun _ _ _ _ h => h), (fun _ _ _ _ h => h), (fun _ _ _ _ h => h), (fun _ _ _ _ h => h), (fun _ _ _ _ h => h), (fun _ _ _ _ h => h), (fun _ _ _ _ h => h), (fun _ _ _ _ h => h), (fun _ _ _ _ h => h), (fun _ _ _ _ h => h), (fun _ _ _ _ h => h), (fun _ _ _ _ h => h), trivial⟩
            · refine ⟨?_, ?_, ?_, ?_, ?_, ?_, ?_, ?_, ?_, ?_, ?_, ?_, ?_, ?_, ?_, ?_, ?_, ?_, ?_, ?_, ?_, ?_, ?_, ?_, ?_, ?_, ?_, ?_, ?_, ?_, ?_, trivial⟩
              · intro ev w hc hf hg hfix hdep hbel
                have e0 : ev (.tmp 0) = .slice (some ⟨blk, off, none⟩) n cap := hfix 0 (by decide)
                exact Or.inl ⟨trivial, Or.inl ⟨.slice (some ⟨blk, off, none⟩) n cap, w, by go_simp, rfl, Below.refl _ _⟩⟩
              · intro ev w hc hf hg hfix hdep hbel
                have e4 : ev (.tmp 4) = .int .i64 (i : Int) := hfix 4 (by decide)
                exact Or.inl ⟨trivial, Or.inl ⟨.int .i64 (i : Int), w, by go_simp, rfl, Below.refl _ _⟩⟩
              · intro ev w hc hf hg hfix hdep hbel
                have e12 : ev (.tmp 12) = .slice (some ⟨blk, off, none⟩) n cap := hdep 0 (by decide)
                have e13 : ev (.tmp 13) = .int .i64 (i : Int) := hdep 1 (by decide)
                exact Or.inl ⟨trivial, Or.inl ⟨.pointer (some ⟨blk, off + i * 3, none⟩), w, by go_simp, rfl, Below.refl _ _⟩⟩
              · intro ev w hc hf hg hfix hdep hbel
                have e14 : ev (.tmp 14) = .pointer (some ⟨blk, off + i * 3, none⟩) := hdep 2 (by decide)
                obtain ⟨hc0, hc1, hc2⟩ := HC.out w hbel
                exact Or.inl ⟨trivial, Or.inl ⟨dotV ((r, q), s), w, by go_simp, rfl, Below.refl _ _⟩⟩
              · intro ev w hc hf hg hfix hdep hbel
                have e15 : ev (.tmp 15) = dotV ((r, q), s) := hdep 3 (by decide)
                refine Or.inl ⟨trivial, Or.inr ⟨9, #[dotV ((r, q), s)], w, by go_simp, ?_⟩⟩
                refine (refmay_any r q s w).mono ?_
                rintro e w1 ⟨rfl, hb1⟩
                exact ⟨_, rfl, by rw [HMy.out], hb1⟩
              · intro ev w hc hf hg hfix hdep hbel
                have e16 : ev (.tmp 16) = .bool true := hdep 4 (by decide)
                exact Or.inl ⟨trivial, Or.inl ⟨.bool false, w, by go_simp, rfl, Below.refl _ _⟩⟩
              · intro ev w hc hf hg hfix hdep hbel
                have e17 : ev (.tmp 17) = .bool false := hdep 5 (by decide)
                exact Or.inl ⟨trivial, Or.inl ⟨.bool false, w, by go_simp, rfl, Below.refl _ _⟩⟩
              · intro ev w hc hf hg hfix hdep hbel
                have fg : ev (.tmp 18) = .bool false := hdep 6 (by decide)
                have e0 : ev (.tmp 0) = .slice (some ⟨blk, off, none⟩) n cap := hfix 0 (by decide)
                exact Or.inl ⟨fg, Or.inl ⟨.slice (some ⟨blk, off, none⟩) n cap, w, by go_simp, rfl, Below.refl _ _⟩⟩
              · intro ev w hc hf hg hfix hdep hbel
                have fg : ev (.tmp 18) = .bool false := hdep 6 (by decide)
                have e4 : ev (.tmp 4) = .int .i64 (i : Int) := hfix 4 (by decide)
                exact Or.inl ⟨fg, Or.inl ⟨.int .i64 (i : Int), w, by go_simp, rfl, Below.refl _ _⟩⟩
              · intro ev w hc hf hg hfix hdep hbel
                have fg : ev (.tmp 18) = .bool false := hdep 6 (by decide)
                have e19 : ev (.tmp 19) = .slice (some ⟨blk, off, none⟩) n cap := hdep 7 (by decide)
                have e20 : ev (.tmp 20) = .int .i64 (i : Int) := hdep 8 (by decide)
                exact Or.inl ⟨fg, Or.inl ⟨.pointer (some ⟨blk, off + i * 3, none⟩), w, by go_simp, rfl, Below.refl _ _⟩⟩
              · intro ev w hc hf hg hfix hdep hbel
                have fg : ev (.tmp 18) = .bool false := hdep 6 (by decide)
                have e21 : ev (.tmp 21) = .pointer (some ⟨blk, off + i * 3, none⟩) := hdep 9 (by decide)
                exact Or.inl ⟨fg, Or.inl ⟨.pointer (some ⟨blk, off + i * 3 + 2, none⟩), w, by go_simp, rfl, Below.refl _ _⟩⟩
              · intro ev w hc hf hg hfix hdep hbel
                have fg : ev (.tmp 18) = .bool false := hdep 6 (by decide)
                have e22 : ev (.tmp 22) = .pointer (some ⟨blk, off + i * 3 + 2, none⟩) := hdep 10 (by decide)
                obtain ⟨hc0, hc1, hc2⟩ := HC.out w hbel
                exact Or.inl ⟨fg, Or.inl ⟨.int .u64 (s : Int), w, by go_simp, rfl, Below.refl _ _⟩⟩
              · intro ev w hc hf hg hfix hdep hbel
                have fg : ev (.tmp 18) = .bool false := hdep 6 (by decide)
                have e0 : ev (.tmp 0) = .slice (some ⟨blk, off, none⟩) n cap := hfix 0 (by decide)
                exact Or.inl ⟨fg, Or.inl ⟨.slice (some ⟨blk, off, none⟩) n cap, w, by go_simp, rfl, Below.refl _ _⟩⟩
              · intro ev w hc hf hg hfix hdep hbel
                have fg : ev (.tmp 18) = .bool false := hdep 6 (by decide)
                have e0 : ev (.tmp 0) = .slice (some ⟨blk, off, none⟩) n cap := hfix 0 (by decide)
                exact Or.inl ⟨fg, Or.inl ⟨.slice (some ⟨blk, off, none⟩) n cap, w, by go_simp, rfl, Below.refl _ _⟩⟩
              · intro ev w hc hf hg hfix hdep hbel
                have fg : ev (.tmp 18) = .bool false := hdep 6 (by decide)
                have e4 : ev (.tmp 4) = .int .i64 (i : Int) := hfix 4 (by decide)
                exact Or.inl ⟨fg, Or.inl ⟨.int .i64 (i : Int), w, by go_simp, rfl, Below.refl _ _⟩⟩
              · intro ev w hc hf hg hfix hdep hbel
                have fg : ev (.tmp 18) = .bool false := hdep 6 (by decide)
                have e25 : ev (.tmp 25) = .slice (some ⟨blk, off, none⟩) n cap := hdep 13 (by decide)
                have e26 : ev (.tmp 26) = .int .i64 (i : Int) := hdep 14 (by decide)
                exact Or.inl ⟨fg, Or.inl ⟨.pointer (some ⟨blk, off + i * 3, none⟩), w, by go_simp, rfl, Below.refl _ _⟩⟩
              · intro ev w hc hf hg hfix hdep hbel
                have fg : ev (.tmp 18) = .bool false := hdep 6 (by decide)
                have e27 : ev (.tmp 27) = .pointer (some ⟨blk, off + i * 3, none⟩) := hdep 15 (by decide)
                exact Or.inl ⟨fg, Or.inl ⟨.pointer (some ⟨blk, off + i * 3, none⟩), w, by go_simp, rfl, Below.refl _ _⟩⟩
              · intro ev w hc hf hg hfix hdep hbel
                have fg : ev (.tmp 18) = .bool false := hdep 6 (by decide)
                have e28 : ev (.tmp 28) = .pointer (some ⟨blk, off + i * 3, none⟩) := hdep 16 (by decide)
                obtain ⟨hc0, hc1, hc2⟩ := HC.out w hbel
                exact Or.inl ⟨fg, Or.inl ⟨acV (r, q), w, by go_simp, rfl, Below.refl _ _⟩⟩
              · intro ev w hc hf hg hfix hdep hbel
                have fg : ev (.tmp 18) = .bool false := hdep 6 (by decide)
                have e24 : ev (.tmp 24) = .slice (some ⟨blk, off, none⟩) n cap := hdep 12 (by decide)
                have e29 : ev (.tmp 29) = acV (r, q) := hdep 17 (by decide)
                refine Or.inl ⟨fg, Or.inr ⟨16, #[.slice (some ⟨blk, off, none⟩) n cap, acV (r, q)], w, by go_simp, ?_⟩⟩
                refine (refget_any (some ⟨blk, off, none⟩) n cap r q l w (HR.out.below (HBel.out.drew.trans (hbel.mono HBel.out.size))) HL.out).mono ?_
                rintro e w1 ⟨rfl, hb1⟩
                exact ⟨_, rfl, by rw [HG.out], hb1⟩
              · intro ev w hc hf hg hfix hdep hbel
                have fg : ev (.tmp 18) = .bool false := hdep 6 (by decide)
                have e23 : ev (.tmp 23) = .int .u64 (s : Int) := hdep 11 (by decide)
                have e30 : ev (.tmp 30) = .int .u64 (s : Int) := hdep 18 (by decide)
                exact Or.inl ⟨fg, Or.inl ⟨.bool false, w, by go_simp, rfl, Below.refl _ _⟩⟩
              · intro ev w hc hf hg hfix hdep hbel
                have e18 : ev (.tmp 18) = .bool false := hdep 6 (by decide)
                have e31 : ev (.tmp 31) = .bool false := hdep 19 (by decide)
                exact Or.inl ⟨trivial, Or.inl ⟨.bool false, w, by go_simp, rfl, Below.refl _ _⟩⟩
              · intro ev w hc hf hg hfix hdep hbel
                have e32 : ev (.tmp 32) = .bool false := hdep 20 (by decide)
                exact Or.inl ⟨trivial, Or.inl ⟨.bool false, w, by go_simp, rfl, Below.refl _ _⟩⟩
              · intro ev w hc hf hg hfix hdep hbel
                have fg : ev (.tmp 33) = .bool false := hdep 21 (by decide)
                have e3 : ev (.tmp 3) = .slice ao (o.length) co := hfix 3 (by decide)
                exact Or.inl ⟨fg, Or.inl ⟨.slice ao (o.length) co, w, by go_simp, rfl, Below.refl _ _⟩⟩
              · intro ev w hc hf hg hfix hdep hbel
                have fg : ev (.tmp 33) = .bool false := hdep 21 (by decide)
                have e0 : ev (.tmp 0) = .slice (some ⟨blk, off, none⟩) n cap := hfix 0 (by decide)
                exact Or.inl ⟨fg, Or.inl ⟨.slice (some ⟨blk, off, none⟩) n cap, w, by go_simp, rfl, Below.refl _ _⟩⟩
              · intro ev w hc hf hg hfix hdep hbel
                have fg : ev (.tmp 33) = .bool false := hdep 21 (by decide)
                have e4 : ev (.tmp 4) = .int .i64 (i : Int) := hfix 4 (by decide)
                exact Or.inl ⟨fg, Or.inl ⟨.int .i64 (i : Int), w, by go_simp, rfl, Below.refl _ _⟩⟩
              · intro ev w hc hf hg hfix hdep hbel
                have fg : ev (.tmp 33) = .bool false := hdep 21 (by decide)
                have e35 : ev (.tmp 35) = .slice (some ⟨blk, off, none⟩) n cap := hdep 23 (by decide)
                have e36 : ev (.tmp 36) = .int .i64 (i : Int) := hdep 24 (by decide)
                exact Or.inl ⟨fg, Or.inl ⟨.pointer (some ⟨blk, off + i * 3, none⟩), w, by go_simp, rfl, Below.refl _ _⟩⟩
              · intro ev w hc hf hg hfix hdep hbel
                have fg : ev (.tmp 33) = .bool false := hdep 21 (by decide)
                have e37 : ev (.tmp 37) = .pointer (some ⟨blk, off + i * 3, none⟩) := hdep 25 (by decide)
                exact Or.inl ⟨fg, Or.inl ⟨.pointer (some ⟨blk, off + i * 3, none⟩), w, by go_simp, rfl, Below.refl _ _⟩⟩
              · intro ev w hc hf hg hfix hdep hbel
                have fg : ev (.tmp 33) = .bool false := hdep 21 (by decide)
                have e38 : ev (.tmp 38) = .pointer (some ⟨blk, off + i * 3, none⟩) := hdep 26 (by decide)
                obtain ⟨hc0, hc1, hc2⟩ := HC.out w hbel
                exact Or.inl ⟨fg, Or.inl ⟨acV (r, q), w, by go_simp, rfl, Below.refl _ _⟩⟩
              · intro ev w hc hf hg hfix hdep hbel
                have fg : ev (.tmp 33) = .bool false := hdep 21 (by decide)
                have e34 : ev (.tmp 34) = .slice ao (o.length) co := hdep 22 (by decide)
                have e39 : ev (.tmp 39) = acV (r, q) := hdep 27 (by decide)
                refine Or.inl ⟨fg, Or.inr ⟨16, #[.slice ao (o.length) co, acV (r, q)], w, by go_simp, ?_⟩⟩
                refine (refget_any ao o.length co r q o w (HO.out.below ((Below.refl _ _).drew.trans hbel)) rfl).mono ?_
                rintro e w1 ⟨rfl, hb1⟩
                exact ⟨_, rfl, by rw [HG2.out], hb1⟩
              · intro ev w hc hf hg hfix hdep hbel
                have fg : ev (.tmp 33) = .bool false := hdep 21 (by decide)
                have e40 : ev (.tmp 40) = .int .u64 (g2 : Int) := hdep 28 (by decide)
                exact Or.inl ⟨fg, Or.inl ⟨.bool true, w, by go_simp, rfl, Below.refl _ _⟩⟩
              · intro ev w hc hf hg hfix hdep hbel
                have e33 : ev (.tmp 33) = .bool false := hdep 21 (by decide)
                have e41 : ev (.tmp 41) = .bool true := hdep 29 (by decide)
                exact Or.inl ⟨trivial, Or.inl ⟨.bool true, w, by go_simp, rfl, Below.refl _ _⟩⟩
            · intro v w2 hv hb2
              have r0 : v 0 = .slice (some ⟨blk, off, none⟩) n cap := hv 0 (by decide)
              have r1 : v 1 = .int .i64 (i : Int) := hv 1 (by decide)
              have r2 : v 2 = .pointer (some ⟨blk, off + i * 3, none⟩) := hv 2 (by decide)
              have r3 : v 3 = dotV ((r, q), s) := hv 3 (by decide)
              have r4 : v 4 = .bool true := hv 4 (by decide)
              have r5 : v 5 = .bool false := hv 5 (by decide)
              have r6 : v 6 = .bool false := hv 6 (by decide)
              have r7 : v 7 = .slice (some ⟨blk, off, none⟩) n cap := hv 7 (by decide)
              have r8 : v 8 = .int .i64 (i : Int) := hv 8 (by decide)
              have r9 : v 9 = .pointer (some ⟨blk, off + i * 3, none⟩) := hv 9 (by decide)
              have r10 : v 10 = .pointer (some ⟨blk, off + i * 3 + 2, none⟩) := hv 10 (by decide)
              have r11 : v 11 = .int .u64 (s : Int) := hv 11 (by decide)
              have r12 : v 12 = .slice (some ⟨blk, off, none⟩) n cap := hv 12 (by decide)
              have r13 : v 13 = .slice (some ⟨blk, off, none⟩) n cap := hv 13 (by decide)
              have r14 : v 14 = .int .i64 (i : Int) := hv 14 (by decide)
              have r15 : v 15 = .pointer (some ⟨blk, off + i * 3, none⟩) := hv 15 (by decide)
              have r16 : v 16 = .pointer (some ⟨blk, off + i * 3, none⟩) := hv 16 (by decide)
              have r17 : v 17 = acV (r, q) := hv 17 (by decide)
              have r18 : v 18 = .int .u64 (s : Int) := hv 18 (by decide)
              have r19 : v 19 = .bool false := hv 19 (by decide)
              have r20 : v 20 = .bool false := hv 20 (by decide)
              have r21 : v 21 = .bool false := hv 21 (by decide)
              have r22 : v 22 = .slice ao (o.length) co := hv 22 (by decide)
              have r23 : v 23 = .slice (some ⟨blk, off, none⟩) n cap := hv 23 (by decide)
              have r24 : v 24 = .int .i64 (i : Int) := hv 24 (by decide)
              have r25 : v 25 = .pointer (some ⟨blk, off + i * 3, none⟩) := hv 25 (by decide)
              have r26 : v 26 = .pointer (some ⟨blk, off + i * 3, none⟩) := hv 26 (by decide)
              have r27 : v 27 = acV (r, q) := hv 27 (by decide)
              have r28 : v 28 = .int .u64 (g2 : Int) := hv 28 (by decide)
              have r29 : v 29 = .bool true := hv 29 (by decide)
              have r30 : v 30 = .bool true := hv 30 (by decide)
              simp only [Reg.putAll, Act.put, List.setIfInBounds_toArray, List.set_cons_zero, List.set_cons_succ, r0, r1, r2, r3, r4, r5, r6, r7, r8, r9, r10, r11, r12, r13, r14, r15, r16, r17, r18, r19, r20, r21, r22, r23, r24, r25, r26, r27, r28, r29, r30]
              clear r0 r1 r2 r3 r4 r5 r6 r7 r8 r9 r10 r11 r12 r13 r14 r15 r16 r17 r18 r19 r20 r21 r22 r23 r24 r25 r26 r27 r28 r29 r30 hv
              have HBw := Lib.hid (HBel.out.trans (hb2.mono HBel.out.size)); have HV2 := Lib.hid (HV.out.below hb2); clear hb2
              go_wp2_with fail
              go_roundw
              case rel => exact ⟨i + 1, row, by omega, by go_num, by rw [Hs.out, HCS.out]; exact HV2.out, HBw.out⟩
              case measure => simp [intOf]; omega
        · obtain ⟨g, hg⟩ : ∃ g, g = Dt.get l (r, q) := ⟨_, rfl⟩
          have HG := Lib.hid hg.symm
          have HCS0 := Lib.hid (show Dt.canonStep l o ((r, q), s) = o from by unfold Dt.canonStep; rw [if_neg (fun h => e3 h.2.1)])
          have d4 : ¬ s = g := fun h => e3 (h.trans hg)
          have d1 : ((s : Int) == (g : Int)) = false := by simp; omega
          have d2 : ((s : Int) != (g : Int)) = true := by simp; omega
          clear e3 hg
          have HCS := Lib.hid (show Dt.canonStep l o ((r, q), s) = o from HCS0.out)
          clear hmy
          go_wp2_with fail
          refine Reg.region_list (by kernel_rfl) [fun v _ => v = .slice (some ⟨blk, off, none⟩) n cap, fun v _ => v = .int .i64 (i : Int), fun v _ => v = .pointer (some ⟨blk, off + i * 3, none⟩), fun v _ => v = dotV ((r, q), s), fun v _ => v = .bool true, fun v _ => v = .bool false, fun v _ => v = .bool false, fun v _ => v = .slice (some ⟨blk, off, none⟩) n cap, fun v _ => v = .int .i64 (i : Int), fun v _ => v = .pointer (some ⟨blk, off + i * 3, none⟩), fun v _ => v = .pointer (some ⟨blk, off + i * 3 + 2, none⟩), fun v _ => v = .int .u64 (s : Int), fun v _ => v = .slice (some ⟨blk, off, none⟩) n cap, fun v _ => v = .slice (some ⟨blk, off, none⟩) n cap, fun v _ => v = .int .i64 (i : Int), fun v _ => v = .pointer (some ⟨blk, off + i * 3, none⟩), fun v _ => v = .pointer (some ⟨blk, off + i * 3, none⟩), fun v _ => v = acV (r, q), fun v _ => v = .int .u64 (g : Int), fun v _ => v = .bool true, fun v _ => v = .bool true, fun v _ => v = .bool true, fun v _ => v = undef, fun v _ => v = undef, fun v _ => v = undef, fun v _ => v = undef, fun v _ => v = undef, fun v _ => v = undef, fun v _ => v = undef, fun v _ => v = undef, fun v _ => v = .bool true] (by kernel_rfl) ?_ ?_ ?_
          · refine ⟨(fun _ _ _ _ h => h), (fun _ _ _ _ h => h), (fun _ _ _ _ h => h), (fun _ _ _ _ h => h), (fun _ _ _ _ h => h), (fun _ _ _ _ h => h), (fun _ _ _ _ h => h), (fun _ _ _ _ h => h), (fun _ _ _ _ h => h), (fun _ _ _ _ h => h), (fun _ _ _ _ h => h), (fun _ _ _ _ h => h), (fun _ _ _ _ h => h), (fun _ _ _ _ h => h), (fun _ _ _ _ h => h), (fun _ _ _ _ h => h), (fun _ _ _ _ h => h), (fun _ _ _ _ h => h), (fun _ _ _ _ h => h), (fun _ _ _ _ h => h), (fun _ _ _ _ h => h), (fun _ _ _ _ h => h), (fun _ _ _ _ h => h), (fun _ _ _ _ h => h), (fun _ _ _ _ h => h), (fun _ _ _ _ h => h), (fun _ _ _ _ h => h), (fun _ _ _ _ h => h), (fun _ _ _ _ h => h), (fun _ _ _ _ h => h), (fun _ _ _ _ h => h), trivial⟩
          · refine ⟨?_, ?_, ?_, ?_, ?_, ?_, ?_, ?_, ?_, ?_, ?_, ?_, ?_, ?_, ?_, ?_, ?_, ?_, ?_, ?_, ?_, ?_, ?_, ?_, ?_, ?_, ?_, ?_, ?_, ?_, ?_, trivial⟩
            · intro ev w hc hf hg hfix hdep hbel
              have e0 : ev (.tmp 0) = .slice (some ⟨blk, off, none⟩) n cap := hfix 0 (by decide)
              exact Or.inl ⟨trivial, Or.inl ⟨.slice (some ⟨blk, off, none⟩) n cap, w, by go_simp, rfl, Below.refl _ _⟩⟩
            · intro ev w hc hf hg hfix hdep hbel
              have e4 : ev (.tmp 4) = .int .i64 (i : Int) := hfix 4 (by decide)
              exact Or.inl ⟨trivial, Or.inl ⟨.int .i64 (i : Int), w, by go_simp, rfl, Below.refl _ _⟩⟩
            · intro ev w hc hf hg hfix hdep hbel
              have e12 : ev (.tmp 12) = .slice (some ⟨blk, off, none⟩) n cap := hdep 0 (by decide)
              have e13 : ev (.tmp 13) = .int .i64 (i : Int) := hdep 1 (by decide)
              exact Or.inl ⟨trivial, Or.inl ⟨.pointer (some ⟨blk, off + i * 3, none⟩), w, by go_simp, rfl, Below.refl _ _⟩⟩
            · intro ev w hc hf hg hfix hdep hbel
              have e14 : ev (.tmp 14) = .pointer (some ⟨blk, off + i * 3, none⟩) := hdep 2 (by decide)
              obtain ⟨hc0, hc1, hc2⟩ := HC.out w hbel
              exact Or.inl ⟨trivial, Or.inl ⟨dotV ((r, q), s), w, by go_simp, rfl, Below.refl _ _⟩⟩
            · intro ev w hc hf hg hfix hdep hbel
              have e15 : ev (.tmp 15) = dotV ((r, q), s) := hdep 3 (by decide)
              refine Or.inl ⟨trivial, Or.inr ⟨9, #[dotV ((r, q), s)], w, by go_simp, ?_⟩⟩
              refine (refmay_any r q s w).mono ?_
              rintro e w1 ⟨rfl, hb1⟩
              exact ⟨_, rfl, by rw [HMy.out], hb1⟩
            · intro ev w hc hf hg hfix hdep hbel
              have e16 : ev (.tmp 16) = .bool true := hdep 4 (by decide)
              exact Or.inl ⟨trivial, Or.inl ⟨.bool false, w, by go_simp, rfl, Below.refl _ _⟩⟩
            · intro ev w hc hf hg hfix hdep hbel
              have e17 : ev (.tmp 17) = .bool false := hdep 5 (by decide)
              exact Or.inl ⟨trivial, Or.inl ⟨.bool false, w, by go_simp, rfl, Below.refl _ _⟩⟩
            · intro ev w hc hf hg hfix hdep hbel
              have fg : ev (.tmp 18) = .bool false := hdep 6 (by decide)
              have e0 : ev (.tmp 0) = .slice (some ⟨blk, off, none⟩) n cap := hfix 0 (by decide)
              exact Or.inl ⟨fg, Or.inl ⟨.slice (some ⟨blk, off, none⟩) n cap, w, by go_simp, rfl, Below.refl _ _⟩⟩
            · intro ev w hc hf hg hfix hdep hbel
              have fg : ev (.tmp 18) = .bool false := hdep 6 (by decide)
              have e4 : ev (.tmp 4) = .int .i64 (i : Int) := hfix 4 (by decide)
              exact Or.inl ⟨fg, Or.inl ⟨.int .i64 (i : Int), w, by go_simp, rfl, Below.refl _ _⟩⟩
            · intro ev w hc hf hg hfix hdep hbel
              have fg : ev (.tmp 18) = .bool false := hdep 6 (by decide)
              have e19 : ev (.tmp 19) = .slice (some ⟨blk, off, none⟩) n cap := hdep 7 (by decide)
              have e20 : ev (.tmp 20) = .int .i64 (i : Int) := hdep 8 (by decide)
              exact Or.inl ⟨fg, Or.inl ⟨.pointer (some ⟨blk, off + i * 3, none⟩), w, by go_simp, rfl, Below.refl _ _⟩⟩
            · intro ev w hc hf hg hfix hdep hbel
              have fg : ev (.tmp 18) = .bool false := hdep 6 (by decide)
              have e21 : ev (.tmp 21) = .pointer (some ⟨blk, off + i * 3, none⟩) := hdep 9 (by decide)
              exact Or.inl ⟨fg, Or.inl ⟨.pointer (some ⟨blk, off + i * 3 + 2, none⟩), w, by go_simp, rfl, Below.refl _ _⟩⟩
            · intro ev w hc hf hg hfix hdep hbel
              have fg : ev (.tmp 18) = .bool false := hdep 6 (by decide)
              have e22 : ev (.tmp 22) = .pointer (some ⟨blk, off + i * 3 + 2, none⟩) := hdep 10 (by decide)
              obtain ⟨hc0, hc1, hc2⟩ := HC.out w hbel
              exact Or.inl ⟨fg, Or.inl ⟨.int .u64 (s : Int), w, by go_simp, rfl, Below.refl _ _⟩⟩
            · intro ev w hc hf hg hfix hdep hbel
              have fg : ev (.tmp 18) = .bool false := hdep 6 (by decide)
              have e0 : ev (.tmp 0) = .slice (some ⟨blk, off, none⟩) n cap := hfix 0 (by decide)
              exact Or.inl ⟨fg, Or.inl ⟨.slice (some ⟨blk, off, none⟩) n cap, w, by go_simp, rfl, Below.refl _ _⟩⟩
            · intro ev w hc hf hg hfix hdep hbel
              have fg : ev (.tmp 18) = .bool false := hdep 6 (by decide)
              have e0 : ev (.tmp 0) = .slice (some ⟨blk, off, none⟩) n cap := hfix 0 (by decide)
              exact Or.inl ⟨fg, Or.inl ⟨.slice (some ⟨blk, off, none⟩) n cap, w, by go_simp, rfl, Below.refl _ _⟩⟩
            · intro ev w hc hf hg hfix hdep hbel
              have fg : ev (.tmp 18) = .bool false := hdep 6 (by decide)
              have e4 : ev (.tmp 4) = .int .i64 (i : Int) := hfix 4 (by decide)
              exact Or.inl ⟨fg, Or.inl ⟨.int .i64 (i : Int), w, by go_simp, rfl, Below.refl _ _⟩⟩
            · intro ev w hc hf hg hfix hdep hbel
              have fg : ev (.tmp 18) = .bool false := hdep 6 (by decide)
              have e25 : ev (.tmp 25) = .slice (some ⟨blk, off, none⟩) n cap := hdep 13 (by decide)
              have e26 : ev (.tmp 26) = .int .i64 (i : Int) := hdep 14 (by decide)
              exact Or.inl ⟨fg, Or.inl ⟨.pointer (some ⟨blk, off + i * 3, none⟩), w, by go_simp, rfl, Below.refl _ _⟩⟩
            · intro ev w hc hf hg hfix hdep hbel
              have fg : ev (.tmp 18) = .bool false := hdep 6 (by decide)
              have e27 : ev (.tmp 27) = .pointer (some ⟨blk, off + i * 3, none⟩) := hdep 15 (by decide)
              exact Or.inl ⟨fg, Or.inl ⟨.pointer (some ⟨blk, off + i * 3, none⟩), w, by go_simp, rfl, Below.refl _ _⟩⟩
            · intro ev w hc hf hg hfix hdep hbel
              have fg : ev (.tmp 18) = .bool false := hdep 6 (by decide)
              have e28 : ev (.tmp 28) = .pointer (some ⟨blk, off + i * 3, none⟩) := hdep 16 (by decide)
              obtain ⟨hc0, hc1, hc2⟩ := HC.out w hbel
              exact Or.inl ⟨fg, Or.inl ⟨acV (r, q), w, by go_simp, rfl, Below.refl _ _⟩⟩
            · intro ev w hc hf hg hfix hdep hbel
              have fg : ev (.tmp 18) = .bool false := hdep 6 (by decide)
              have e24 : ev (.tmp 24) = .slice (some ⟨blk, off, none⟩) n cap := hdep 12 (by decide)
              have e29 : ev (.tmp 29) = acV (r, q) := hdep 17 (by decide)
              refine Or.inl ⟨fg, Or.inr ⟨16, #[.slice (some ⟨blk, off, none⟩) n cap, acV (r, q)], w, by go_simp, ?_⟩⟩
              refine (refget_any (some ⟨blk, off, none⟩) n cap r q l w (HR.out.below (HBel.out.drew.trans (hbel.mono HBel.out.size))) HL.out).mono ?_
              rintro e w1 ⟨rfl, hb1⟩
              exact ⟨_, rfl, by rw [HG.out], hb1⟩
            · intro ev w hc hf hg hfix hdep hbel
              have fg : ev (.tmp 18) = .bool false := hdep 6 (by decide)
              have e23 : ev (.tmp 23) = .int .u64 (s : Int) := hdep 11 (by decide)
              have e30 : ev (.tmp 30) = .int .u64 (g : Int) := hdep 18 (by decide)
              exact Or.inl ⟨fg, Or.inl ⟨.bool true, w, by go_simp, rfl, Below.refl _ _⟩⟩
            · intro ev w hc hf hg hfix hdep hbel
              have e18 : ev (.tmp 18) = .bool false := hdep 6 (by decide)
              have e31 : ev (.tmp 31) = .bool true := hdep 19 (by decide)
              exact Or.inl ⟨trivial, Or.inl ⟨.bool true, w, by go_simp, rfl, Below.refl _ _⟩⟩
            · intro ev w hc hf hg hfix hdep hbel
              have e32 : ev (.tmp 32) = .bool true := hdep 20 (by decide)
              exact Or.inl ⟨trivial, Or.inl ⟨.bool true, w, by go_simp, rfl, Below.refl _ _⟩⟩
            · intro ev w hc hf hg hfix hdep hbel
              have fg : ev (.tmp 33) = .bool true := hdep 21 (by decide)
              have e3 : ev (.tmp 3) = .slice ao (o.length) co := hfix 3 (by decide)
              exact Or.inr ⟨fg, rfl⟩
            · intro ev w hc hf hg hfix hdep hbel
              have fg : ev (.tmp 33) = .bool true := hdep 21 (by decide)
              have e0 : ev (.tmp 0) = .slice (some ⟨blk, off, none⟩) n cap := hfix 0 (by decide)
              exact Or.inr ⟨fg, rfl⟩
            · intro ev w hc hf hg hfix hdep hbel
              have fg : ev (.tmp 33) = .bool true := hdep 21 (by decide)
              have e4 : ev (.tmp 4) = .int .i64 (i : Int) := hfix 4 (by decide)
              exact Or.inr ⟨fg, rfl⟩
            · intro ev w hc hf hg hfix hdep hbel
              have fg : ev (.tmp 33) = .bool true := hdep 21 (by decide)
              have e35 : ev (.tmp 35) = undef := hdep 23 (by decide)
              have e36 : ev (.tmp 36) = undef := hdep 24 (by decide)
              exact Or.inr ⟨fg, rfl⟩
            · intro ev w hc hf hg hfix hdep hbel
              have fg : ev (.tmp 33) = .bool true := hdep 21 (by decide)
              have e37 : ev (.tmp 37) = undef := hdep 25 (by decide)
              exact Or.inr ⟨fg, rfl⟩
            · intro ev w hc hf hg hfix hdep hbel
              have fg : ev (.tmp 33) = .bool true := hdep 21 (by decide)
              have e38 : ev (.tmp 38) = undef := hdep 26 (by decide)
              exact Or.inr ⟨fg, rfl⟩
            · intro ev w hc hf hg hfix hdep hbel
              have fg : ev (.tmp 33) = .bool true := hdep 21 (by decide)
              have e34 : ev (.tmp 34) = undef := hdep 22 (by decide)
              have e39 : ev (.tmp 39) = undef := hdep 27 (by decide)
              exact Or.inr ⟨fg, rfl⟩
            · intro ev w hc hf hg hfix hdep hbel
              have fg : ev (.tmp 33) = .bool true := hdep 21 (by decide)
              have e40 : ev (.tmp 40) = undef := hdep 28 (by decide)
              exact Or.inr ⟨fg, rfl⟩
            · intro ev w hc hf hg hfix hdep hbel
              have e33 : ev (.tmp 33) = .bool true := hdep 21 (by decide)
              have e41 : ev (.tmp 41) = undef := hdep 29 (by decide)
              exact Or.inl ⟨trivial, Or.inl ⟨.bool true, w, by go_simp, rfl, Below.refl _ _⟩⟩
          · intro v w2 hv hb2
            have r0 : v 0 = .slice (some ⟨blk, off, none⟩) n cap := hv 0 (by decide)
            have r1 : v 1 = .int .i64 (i : Int) := hv 1 (by decide)
            have r2 : v 2 = .pointer (some ⟨blk, off + i * 3, none⟩) := hv 2 (by decide)
            have r3 : v 3 = dotV ((r, q), s) := hv 3 (by decide)
            have r4 : v 4 = .bool true := hv 4 (by decide)
            have r5 : v 5 = .bool false := hv 5 (by decide)
            have r6 : v 6 = .bool false := hv 6 (by decide)
            have r7 : v 7 = .slice (some ⟨blk, off, none⟩) n cap := hv 7 (by decide)
            have r8 : v 8 = .int .i64 (i : Int) := hv 8 (by decide)
            have r9 : v 9 = .pointer (some ⟨blk, off + i * 3, none⟩) := hv 9 (by decide)
            have r10 : v 10 = .pointer (some ⟨blk, off + i * 3 + 2, none⟩) := hv 10 (by decide)
            have r11 : v 11 = .int .u64 (s : Int) := hv 11 (by decide)
            have r12 : v 12 = .slice (some ⟨blk, off, none⟩) n cap := hv 12 (by decide)
            have r13 : v 13 = .slice (some ⟨blk, off, none⟩) n cap := hv 13 (by decide)
            have r14 : v 14 = .int .i64 (i : Int) := hv 14 (by decide)
            have r15 : v 15 = .pointer (some ⟨blk, off + i * 3, none⟩) := hv 15 (by decide)
            have r16 : v 16 = .pointer (some ⟨blk, off + i * 3, none⟩) := hv 16 (by decide)
            have r17 : v 17 = acV (r, q) := hv 17 (by decide)
            have r18 : v 18 = .int .u64 (g : Int) := hv 18 (by decide)
            have r19 : v 19 = .bool true := hv 19 (by decide)
            have r20 : v 20 = .bool true := hv 20 (by decide)
            have r21 : v 21 = .bool true := hv 21 (by decide)
            have r22 : v 22 = undef := hv 22 (by decide)
            have r23 : v 23 = undef := hv 23 (by decide)
            have r24 : v 24 = undef := hv 24 (by decide)
            have r25 : v 25 = undef := hv 25 (by decide)
            have r26 : v 26 = undef := hv 26 (by decide)
            have r27 : v 27 = undef := hv 27 (by decide)
            have r28 : v 28 = undef := hv 28 (by decide)
            have r29 : v 29 = undef := hv 29 (by decide)
            have r30 : v 30 = .bool true := hv 30 (by decide)
            simp only [Reg.putAll, Act.put, List.setIfInBounds_toArray, List.set_cons_zero, List.set_cons_succ, r0, r1, r2, r3, r4, r5, r6, r7, r8, r9, r10, r11, r12, r13, r14, r15, r16, r17, r18, r19, r20, r21, r22, r23, r24, r25, r26, r27, r28, r29, r30]
            clear r0 r1 r2 r3 r4 r5 r6 r7 r8 r9 r10 r11 r12 r13 r14 r15 r16 r17 r18 r19 r20 r21 r22 r23 r24 r25 r26 r27 r28 r29 r30 hv
            have HBw := Lib.hid (HBel.out.trans (hb2.mono HBel.out.size)); have HV2 := Lib.hid (HV.out.below hb2); clear hb2
            go_wp2_with fail
            go_roundw
            case rel => exact ⟨i + 1, row, by omega, by go_num, by rw [Hs.out, HCS.out]; exact HV2.out, HBw.out⟩
            case measure => simp [intOf]; omega
    · have hfin : outF l i = Dt.canon l := by
        rw [← Dt.canonR_eq]
        unfold outF Dt.canonR
        rw [List.take_of_length_le (by rw [HL.out]; omega)]
      rw [hfin] at HO
      have Hfin := Lib.hid (congrArg List.length hfin); clear hfin
      go_wp2
      go_ret
      exact ⟨ao, co, ret_slice Hfin.out, HO.out, HBel.out⟩
end Go.Proofs.Ytfebbdnibimmmaa
