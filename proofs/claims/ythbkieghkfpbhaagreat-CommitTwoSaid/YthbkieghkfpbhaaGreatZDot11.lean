import Derived.Test.YthbkieghkfpbhaaGreatZDot7
import Derived.Test.YthbkieghkfpbhaaGreatZOp3
namespace Go.Proofs.YthbkieghkfpbhaaGreat
open Go.Shelf Go.RowKit Go.Maps
set_option maxRecDepth 100000 in
set_option maxHeartbeats 3200000 in
theorem vector_any (b n : Nat) (f : Dt.Ac → Nat) (w : World) (h : NumX w b n f) (hn : n ≤ 1000000000 - 1) (hf : ∀ a, okAc a → 0 < f a → Dt.mayA a = true) :
  Calls Tryz.prog 66 #[.map (some b)] w (RetVec w (Dt.vec f)) := by
 obtain ⟨D, hown, hD⟩ := h
 have hsz := size_le hown
 have hblt := hown.lt
 obtain ⟨i0, hi, hz0, hz1, hz2⟩ := info_parts info_dot
 have HOwn := Lib.hid hown; have HD := Lib.hid hD; have HF := Lib.hid hf
 have HI := Lib.hid hi; have HZ0 := Lib.hid hz0; have HZ1 := Lib.hid hz1; have HZ2 := Lib.hid hz2
 have HBl := Lib.hid hblt
 clear hown hD hf hi hz0 hz1 hz2 hblt
 go_enter Tryz.func66, Tryz.ntmps66
 go_wp2_with (at_range; refine wpList_range_own _ rfl _ 99 rfl 24 25 actLaw Tryz.underlying99 _ b n D rfl HOwn.out ?_; intro w0 hrg0 hg0 hs0)
 go_frame
 have Hr0 := Lib.hid hrg0; have Hg0 := Lib.hid hg0; have Hs0 := Lib.hid hs0
 clear hrg0 hg0 hs0
 go_loopw [3] (fun v wr => ∃ (left : Lit → Bool) (cnt : Nat) (xs : List Dt.Dot), wr.ranges Tryz.prog 24 (plainElem Tryz.prog 25) b w.heap.size n D left cnt ∧ wr.ownsRow (w.heap.size + 1) 27 3 v xs.length (dotsV xs) ∧ VecInv f D left xs ∧ xs.length + cnt ≤ n ∧ Below w.heap.size w wr) (fun _ wr => wr.rangeLeft b w.heap.size)
 case atStart => exact ⟨_, _, [], Hr0.out, World.ownsRow_nil _ _ _ _, vecInv_start f D, by simpa using hsz, ⟨Hg0.out.os, Hg0.out.tape, Hg0.out.output, Hg0.out.size, fun k hk => Hg0.out.block k hk (by simp)⟩⟩
 case round =>
  obtain ⟨left, cnt, xs, hrg, hrow, hinv, hcnt, hbel⟩ := hrel
  have Hrg := Lib.hid hrg; have Hrow := Lib.hid hrow; have Hinv := Lib.hid hinv; have Hcnt := Lib.hid hcnt; have Hbel := Lib.hid hbel
  clear hrg hrow hinv hcnt hbel
  go_wp2_with (at_next; refine wpList_next_ranges _ rfl _ rfl 24 actLaw (plainElem Tryz.prog 25) (fun a : Dt.Ac => acV a) (fun c : Nat => .int .u64 (c : Int)) ?k1 ?k2 b w.heap.size n D left cnt rfl Hrg.out ?k3 ?k4)
  case k1 =>
   intro key l hk
   obtain ⟨a, _, e, _⟩ := keyOf_act_inv hk
   exact ⟨a, e⟩
  case k2 =>
   intro v y hv
   obtain ⟨c, e, _, hw⟩ := plainElem_int_inv Tryz.underlying25 hv
   obtain ⟨c, rfl⟩ := Int.eq_ofNat_of_zero_le (bounds_u64 hw).1
   exact ⟨c, e⟩
  case k3 =>
   intro hc0 hl0
   have Hl := Lib.hid hl0; clear hl0 hc0
   rcases Hrow.out.2 with ⟨rfl, hx0⟩ | ⟨g, cap, cur, rfl, hg1, hg2, hg3, hg4, hg5, hg6⟩
   ·obtain rfl : xs = [] := List.eq_nil_of_length_eq_zero hx0
    have hnil : [] = Dt.vec f := vec_of_sort Hinv.out Hl.out HD.out HF.out (List.Perm.refl _) List.Pairwise.nil
    have Hnil := Lib.hid hnil; clear hnil hx0
    go_wp2_with fail
    refine (sort_none _ _ _ _).mono ?_
    rintro e w1 ⟨rfl, rfl⟩
    go_wp2_with fail
    go_ret
    exact ⟨none, 0, by rw [← Hnil.out]; rfl, by rw [← Hnil.out]; exact VRow.nil _, Hbel.out⟩
   ·by_cases hx0 : xs.length = 0
    ·obtain rfl : xs = [] := List.eq_nil_of_length_eq_zero hx0
     have hnil : [] = Dt.vec f := vec_of_sort Hinv.out Hl.out HD.out HF.out (List.Perm.refl _) List.Pairwise.nil
     have Hnil := Lib.hid hnil; have H4 := Lib.hid hg4
     clear hnil hx0 hg1 hg2 hg3 hg4 hg5 hg6
     go_wp2_with fail
     refine (sort_none _ _ _ _).mono ?_
     rintro e w1 ⟨rfl, rfl⟩
     go_wp2_with fail
     go_ret
     exact ⟨some ⟨g, 0, none⟩, cap, by rw [← Hnil.out]; rfl, by rw [← Hnil.out]; exact ⟨Nat.zero_le _, by have := H4.out; unfold maxLen at this; omega, by simp, (fun e => by cases e), by simp⟩, Hbel.out⟩
    ·have hH := holds_of_own Hrow.out
     have hglt : g < wr.heap.size := (Array.getElem?_eq_some_iff.1 hg2).1
     have HH := Lib.hid hH; have Hglt := Lib.hid hglt; have H1 := Lib.hid hg1; have H3 := Lib.hid hg3; have H4 := Lib.hid hg4
     clear hH hglt hg1 hg2 hg3 hg4 hg5 hg6 hx0
     go_wp2_with fail
     refine (sortDot g cap xs _ HH.out Hglt.out (by have := Hcnt.out; omega)).mono ?_
     rintro e w1 ⟨rfl, ys, hperm, hsort, hys, hgr⟩
     have hvec : ys = Dt.vec f := vec_of_sort Hinv.out Hl.out HD.out HF.out hperm hsort
     have hlen : xs.length = (Dt.vec f).length := by rw [← hvec, hperm.length_eq]
     have hrow : VRow w1 (some ⟨g, 0, none⟩) cap (Dt.vec f) := by
      rw [← hvec]
      refine row_of_holds hys (fun d hd => ?_) (by rw [hperm.length_eq]; exact H3.out) (by have := H4.out; unfold maxLen at this; omega)
      have := (Hinv.out.2 d).1 (hperm.mem_iff.1 hd)
      exact ⟨this.1.1, this.1.2, by rw [this.2.2.1]; exact Nums.bound (w := w) (b := b) (n := n) (D := D) (f := f) ⟨HOwn.out, HD.out⟩ this.1⟩
     have hb2 : Below w.heap.size w w1 := Hbel.out.grown hgr Hbel.out.size (fun k hk => by cases hk; have := H1.out; omega)
     have HV := Lib.hid hlen; have HR := Lib.hid hrow; have HB := Lib.hid hb2
     clear hvec hlen hrow hb2 hperm hsort hys hgr
     go_wp2_with fail
     go_ret
     exact ⟨some ⟨g, 0, none⟩, cap, ret_slice (by first | rfl | exact HV.out), HR.out, HB.out⟩
  case k4 =>
   intro a0 a1 c l y1 y2 w1 cnt1 hkey hlk hv hat hrg1 hlt1 hg1 hs1 hen
   obtain ⟨hok, rfl, hfx, hc⟩ := entry_facts HD.out hkey hv hat
   have hhas := has_of_left hat
   have hbB : Below w.heap.size w w1 := Hbel.out.grown hg1 Hbel.out.size (fun k hk => by cases hk; exact Nat.le_refl _)
   have hrow1 : w1.ownsRow (w.heap.size + 1) 27 3 u3 xs.length (dotsV xs) := Hrow.out.kept hg1 (by
    cases hvb : u3.ownBlock with
    | none => exact Or.inl rfl
    | some k => right; intro e; cases e; have := (Hrow.out.lt _ hvb).1; omega)
   have HOk := Lib.hid hok; have Hfx := Lib.hid hfx; have Hhas := Lib.hid hhas; have Hlk := Lib.hid hlk; have Hrg1 := Lib.hid hrg1; have Hlt1 := Lib.hid hlt1; have HbB := Lib.hid hbB; have HRow1 := Lib.hid hrow1
   clear hkey hlk hv hat hrg1 hlt1 hg1 hs1 hok hfx hhas hbB hrow1
   by_cases h0 : 0 < c
   ·go_wp2_with (refine wpList_append_own _ rfl _ _ 29 rfl (w.heap.size + 1) 27 i0 (.agg #[.int .u8 0, .int .u32 0, .int .u64 0]) 3 16 Tryz.underlying29 HI.out HZ0.out HZ1.out HZ2.out rfl (by decide) u3 xs.length (dotsV xs) rfl ((HRow1.out.alloc _).alloc _) ⟨w1.heap.size + 1, 0, none⟩ 1 1 (encD ((a0, a1), c)) rfl rfl ?c1 (encD_one _) ?c3 ?c4 ?c5 ?_)
    case c1 =>
     intro j u hu
     match j, hu with
     | 0, hu => simp [encD] at hu; subst hu; simp [Addr.add]
     | 1, hu => simp [encD] at hu; subst hu; simp [Addr.add]
     | 2, hu => simp [encD] at hu; subst hu; simp [Addr.add]
     | j + 3, hu => simp [encD] at hu
    case c3 => have := Hcnt.out; unfold maxLen; omega
    case c4 => have := Hcnt.out; omega
    case c5 => have := HbB.out.size; have := Hrg.out.lt; have := Hrg1.out.lt; simp; omega
    intro v' w2 hown' hg2 _
    have hlen : (xs ++ [((a0, a1), c)]).length = xs.length + 1 := by simp
    rw [← dotsV_snoc, ← hlen] at hown'
    have hne : ∀ k, u3.ownBlock = some k → w.heap.size < k := fun k hk => by have := (HRow1.out.lt _ hk).1; omega
    have hrg2 := ((Hrg1.out.alloc (.cells #[.int .u8 (a0 : Int), .int .u32 (a1 : Int)] 24)).alloc (.cells #[.int .u8 (a0 : Int), .int .u32 (a1 : Int), .int .u64 (c : Int)] 27)).kept hg2 (fun e => by have := hne _ e.symm; have := HBl.out; omega) (fun e => by have := hne _ e.symm; omega)
    have hb2 : Below w.heap.size w w2 := (((HbB.out.alloc HbB.out.size _).alloc (by have := HbB.out.size; simp; omega) _)).grown hg2 (by have := HbB.out.size; simp; omega) (fun k hk => by have := hne _ hk; omega)
    have hiv := vecInv_take Hinv.out HOk.out (by rw [Hfx.out]; exact h0) Hhas.out Hlk.out
    rw [Hfx.out] at hiv
    have G1 := Lib.hid hown'; have G2 := Lib.hid hrg2; have G3 := Lib.hid hb2; have G4 := Lib.hid hiv
    clear hown' hg2 hlen hne hrg2 hb2 hiv
    go_wp2_with fail
    go_roundw
    case rel => exact ⟨_, _, _, G2.out, G1.out, G4.out, by have := Hcnt.out; have := Hlt1.out; simp; omega, G3.out⟩
    case measure => rw [G2.out.left_eq, Hrg.out.left_eq]; exact Hlt1.out
   ·have hfz : f (a0, a1) = 0 := by rw [Hfx.out]; omega
    have hiv := vecInv_skip Hinv.out HOk.out hfz
    have hrg2 := Hrg1.out.alloc (.cells #[.int .u8 (a0 : Int), .int .u32 (a1 : Int)] 24)
    have hb2 : Below w.heap.size w (w1.alloc (.cells #[.int .u8 (a0 : Int), .int .u32 (a1 : Int)] 24)) := HbB.out.alloc HbB.out.size _
    have hw2 := HRow1.out.alloc (.cells #[.int .u8 (a0 : Int), .int .u32 (a1 : Int)] 24)
    have G1 := Lib.hid hw2; have G2 := Lib.hid hrg2; have G3 := Lib.hid hb2; have G4 := Lib.hid hiv
    clear hfz hiv hrg2 hb2 hw2
    go_wp2_with fail
    go_roundw
    case rel => exact ⟨_, _, _, G2.out, G1.out, G4.out, by have := Hcnt.out; have := Hlt1.out; omega, G3.out⟩
    case measure => rw [G2.out.left_eq, Hrg.out.left_eq]; exact Hlt1.out
end Go.Proofs.YthbkieghkfpbhaaGreat
namespace Go.Proofs.YthbkieghkfpbhaaGreat
open Go.RowKit Go.Maps
set_option maxHeartbeats 400000 in
theorem canon_any (a : Option Addr) (n cap : Nat) (l : List Dt.Dot) (w : World) (hr : VRow w a cap l) (hl : l.length = n) (hn : n ≤ 100000000) :
  Calls Tryz.prog 42 #[.slice a n cap] w (RetVec w (Dt.canon l)) := by
 have HR := Lib.hid hr; have HL := Lib.hid hl
 clear hr hl
 go_enter Tryz.func42, Tryz.ntmps42
 go_wp2_with fail
 refine (stands_any a n cap l w HR.out HL.out hn).mono ?_
 rintro e w1 ⟨b, rfl, hN, hB, hb⟩
 have HN := Lib.hid hN; have HB := Lib.hid hB; have Hb := Lib.hid hb
 clear hN hB hb
 go_wp2_with fail
 refine (vector_any b n (Dt.get l) w1 HN.out (by omega) (fun a _ h => Dt.get_may h)).mono ?_
 rintro e w2 ⟨a2, c2, rfl, hr2, hb2⟩
 have HR2 := Lib.hid hr2; have Hb2 := Lib.hid hb2
 clear hr2 hb2
 go_wp2_with fail
 go_ret
 exact ⟨a2, c2, rfl, HR2.out, Hb.out.trans (Hb2.out.mono Hb.out.size)⟩
def bothG (p : Dt.Ac → Nat) (seen : Lit → Bool) : Dt.Ac → Nat := fun a => if seen (kl a) = true then p a else 0
theorem Nums.congr {w : World} {b n : Nat} {D : DataW Unit} {f g : Dt.Ac → Nat} (h : Nums w b n D f) (e : ∀ a, okAc a → f a = g a) : Nums w b n D g := ⟨h.1, fun a ha => by rw [h.2 a ha, e a ha]⟩
end Go.Proofs.YthbkieghkfpbhaaGreat
namespace Go.Proofs.YthbkieghkfpbhaaGreat
open Go.RowKit Go.Maps
def seenK (Dx Dy : DataW Unit) (k : Nat) : Lit → Bool := fun z => (decide (1 ≤ k) && Maps.has Dx z) || (decide (2 ≤ k) && Maps.has Dy z)
def seenL (Dx Dy Dm : DataW Unit) (k : Nat) (left : Lit → Bool) : Lit → Bool := fun z => seenK Dx Dy k z || (Maps.has Dm z && !left z)
theorem Nums.size_le {w : World} {b n : Nat} {D : DataW Unit} {f : Dt.Ac → Nat} (h : Nums w b n D f) : Maps.size D ≤ n := Go.Proofs.YthbkieghkfpbhaaGreat.size_le h.1
end Go.Proofs.YthbkieghkfpbhaaGreat
namespace Go.Proofs.YthbkieghkfpbhaaGreat
open Go.RowKit Go.Maps
theorem below_drewN {B : Nat} {w w' : World} (h : Below B w w') (q : Nat) : Below B w (w'.drewN q) := ⟨h.os, h.tape, h.output, h.size, h.block⟩
theorem Nums.drewN {w : World} {b n : Nat} {D : DataW Unit} {f : Dt.Ac → Nat} (h : Nums w b n D f) (q : Nat) : Nums (w.drewN q) b n D f := h.kept (row := none) ⟨rfl, rfl, rfl, Nat.le_refl _, fun _ _ _ => rfl⟩ (by simp)
def withF (f : Dt.Ac → Nat) (l : List Dt.Dot) (k : Nat) : Bool := (l.take k).all fun d => !Dt.may d || decide (d.2 ≤ f d.1)
end Go.Proofs.YthbkieghkfpbhaaGreat
namespace Go.Proofs.YthbkieghkfpbhaaGreat
open Go.RowKit Go.Maps
set_option maxRecDepth 100000 in
set_option maxHeartbeats 1600000 in
theorem has_any (a : Option Addr) (n cap : Nat) (r i s : Nat) (l : List Dt.Dot) (W : World) (hr : VRow W a cap l) (hl : l.length = n) :
  Calls Tryz.prog 47 #[.slice a n cap, dotV ((r, i), s)] W fun e w' => e = .returned (.bool (Dt.has l ((r, i), s))) ∧ Below W.heap.size W w' := by
 have HR := Lib.hid hr; have HL := Lib.hid hl
 clear hr hl
 have hC : ∀ w2, Below (W.alloc (.cells #[.int .u8 (r : Int), .int .u32 (i : Int), .int .u64 (s : Int)] 27)).drew.heap.size (W.alloc (.cells #[.int .u8 (r : Int), .int .u32 (i : Int), .int .u64 (s : Int)] 27)).drew w2 → w2.cell? ⟨W.heap.size, 0, none⟩ = some (.int .u8 (r : Int)) ∧ w2.cell? ⟨W.heap.size, 1, none⟩ = some (.int .u32 (i : Int)) ∧ w2.cell? ⟨W.heap.size, 2, none⟩ = some (.int .u64 (s : Int)) := fun w2 h =>
  ⟨(h.cell (p := ⟨W.heap.size, 0, none⟩) (by simp)).trans (by simp), (h.cell (p := ⟨W.heap.size, 1, none⟩) (by simp)).trans (by simp), (h.cell (p := ⟨W.heap.size, 2, none⟩) (by simp)).trans (by simp)⟩
 have HC := Lib.hid hC; clear hC
 cases hm : Dt.may ((r, i), s)
 ·have HM := Lib.hid hm; clear hm
  go_enter Tryz.func47, Tryz.ntmps47
  go_wp2_with fail
  refine Reg.region_list (by kernel_rfl) [fun v _ => v = dotV ((r, i), s), fun v _ => v = .bool false, fun v _ => v = .bool false, fun v _ => v = undef, fun v _ => v = undef, fun v _ => v = undef, fun v _ => v = undef, fun v _ => v = undef, fun v _ => v = undef, fun v _ => v = undef, fun v _ => v = .bool false, fun v _ => v = .bool false] (by kernel_rfl) ?_ ?_ ?_
  ·refine ⟨k4, k4, k4, k4, k4, k4, k4, k4, k4, k4, k4, k4, trivial⟩
  ·refine ⟨?_, ?_, ?_, ?_, ?_, ?_, ?_, ?_, ?_, ?_, ?_, ?_, trivial⟩
   ·intro ev w hc hf hg hfix hdep hbel
    have e3 : ev (.tmp 3) = _ := hfix 3 (by decide)
    obtain ⟨hc0, hc1, hc2⟩ := HC.out w hbel
    exact okb trivial rfl (by go_simp)
   ·intro ev w hc hf hg hfix hdep hbel
    have e5 : ev (.tmp 5) = _ := hdep 0 (by decide)
    refine Or.inl ⟨trivial, Or.inr ⟨37, #[dotV ((r, i), s)], w, by go_simp, ?_⟩⟩
    refine (may_any r i s w).mono ?_
    rintro e w1 ⟨rfl, hb1⟩
    exact ⟨_, rfl, by rw [HM.out], hb1⟩
   ·intro ev w hc hf hg hfix hdep hbel
    have e6 : ev (.tmp 6) = _ := hdep 1 (by decide)
    exact okb trivial rfl (by go_simp)
   ·intro ev w hc hf hg hfix hdep hbel
    have fg : ev (.tmp 7) = _ := hdep 2 (by decide)
    exact Or.inr ⟨Or.inl fg, rfl⟩
   ·intro ev w hc hf hg hfix hdep hbel
    have fg : ev (.tmp 7) = _ := hdep 2 (by decide)
    exact Or.inr ⟨Or.inl fg, rfl⟩
   ·intro ev w hc hf hg hfix hdep hbel
    have fg : ev (.tmp 7) = _ := hdep 2 (by decide)
    exact Or.inr ⟨Or.inl fg, rfl⟩
   ·intro ev w hc hf hg hfix hdep hbel
    have fg : ev (.tmp 7) = _ := hdep 2 (by decide)
    exact Or.inr ⟨Or.inl fg, rfl⟩
   ·intro ev w hc hf hg hfix hdep hbel
    have fg : ev (.tmp 7) = _ := hdep 2 (by decide)
    exact Or.inr ⟨Or.inl fg, rfl⟩
   ·intro ev w hc hf hg hfix hdep hbel
    have fg : ev (.tmp 7) = _ := hdep 2 (by decide)
    exact Or.inr ⟨Or.inl fg, rfl⟩
   ·intro ev w hc hf hg hfix hdep hbel
    have fg : ev (.tmp 7) = _ := hdep 2 (by decide)
    exact Or.inr ⟨Or.inl fg, rfl⟩
   ·intro ev w hc hf hg hfix hdep hbel
    have e7 : ev (.tmp 7) = _ := hdep 2 (by decide)
    have e14 : ev (.tmp 14) = _ := hdep 9 (by decide)
    exact okb trivial rfl (by go_simp)
   ·intro ev w hc hf hg hfix hdep hbel
    have e15 : ev (.tmp 15) = _ := hdep 10 (by decide)
    exact okb trivial rfl (by go_simp)
  ·intro v w2 hv hb2
   have r0 : v 0 = _ := hv 0 (by decide)
   have r1 : v 1 = _ := hv 1 (by decide)
   have r2 : v 2 = _ := hv 2 (by decide)
   have r3 : v 3 = _ := hv 3 (by decide)
   have r4 : v 4 = _ := hv 4 (by decide)
   have r5 : v 5 = _ := hv 5 (by decide)
   have r6 : v 6 = _ := hv 6 (by decide)
   have r7 : v 7 = _ := hv 7 (by decide)
   have r8 : v 8 = _ := hv 8 (by decide)
   have r9 : v 9 = _ := hv 9 (by decide)
   have r10 : v 10 = _ := hv 10 (by decide)
   have r11 : v 11 = _ := hv 11 (by decide)
   simp only [Reg.putAll, Act.put, List.setIfInBounds_toArray, List.set_cons_zero, List.set_cons_succ, r0, r1, r2, r3, r4, r5, r6, r7, r8, r9, r10, r11]
   clear r0 r1 r2 r3 r4 r5 r6 r7 r8 r9 r10 r11 hv
   go_wp2_with fail
   go_ret
   exact ⟨ret_bool (by simp [Dt.has, HM.out]), ((Below.refl _ _).alloc (Nat.le_refl _) _).trans (hb2.mono (by simp))⟩
 ·have HM := Lib.hid hm; clear hm
  go_enter Tryz.func47, Tryz.ntmps47
  go_wp2_with fail
  refine Reg.region_list (by kernel_rfl) [fun v _ => v = dotV ((r, i), s), fun v _ => v = .bool true, fun v _ => v = .bool true, fun v _ => v = .pointer (some ⟨W.heap.size, 2, none⟩), fun v _ => v = .int .u64 (s : Int), fun v _ => v = .slice a n cap, fun v _ => v = .pointer (some ⟨W.heap.size, 0, none⟩), fun v _ => v = acV (r, i), fun v _ => v = .int .u64 (Dt.get l (r, i) : Nat), fun v _ => v = .bool (decide (s ≤ Dt.get l (r, i))), fun v _ => v = .bool (decide (s ≤ Dt.get l (r, i))), fun v _ => v = .bool (decide (s ≤ Dt.get l (r, i)))] (by kernel_rfl) ?_ ?_ ?_
  ·refine ⟨k4, k4, k4, k4, k4, k4, k4, k4, k4, k4, k4, k4, trivial⟩
  ·refine ⟨?_, ?_, ?_, ?_, ?_, ?_, ?_, ?_, ?_, ?_, ?_, ?_, trivial⟩
   ·intro ev w hc hf hg hfix hdep hbel
    have e3 : ev (.tmp 3) = _ := hfix 3 (by decide)
    obtain ⟨hc0, hc1, hc2⟩ := HC.out w hbel
    exact okb trivial rfl (by go_simp)
   ·intro ev w hc hf hg hfix hdep hbel
    have e5 : ev (.tmp 5) = _ := hdep 0 (by decide)
    refine Or.inl ⟨trivial, Or.inr ⟨37, #[dotV ((r, i), s)], w, by go_simp, ?_⟩⟩
    refine (may_any r i s w).mono ?_
    rintro e w1 ⟨rfl, hb1⟩
    exact ⟨_, rfl, by rw [HM.out], hb1⟩
   ·intro ev w hc hf hg hfix hdep hbel
    have e6 : ev (.tmp 6) = _ := hdep 1 (by decide)
    exact okb trivial rfl (by go_simp)
   ·intro ev w hc hf hg hfix hdep hbel
    have fg : ev (.tmp 7) = _ := hdep 2 (by decide)
    have e3 : ev (.tmp 3) = _ := hfix 3 (by decide)
    exact okb fg rfl (by go_simp)
   ·intro ev w hc hf hg hfix hdep hbel
    have fg : ev (.tmp 7) = _ := hdep 2 (by decide)
    have e8 : ev (.tmp 8) = _ := hdep 3 (by decide)
    obtain ⟨hc0, hc1, hc2⟩ := HC.out w hbel
    exact okb fg rfl (by go_simp)
   ·intro ev w hc hf hg hfix hdep hbel
    have fg : ev (.tmp 7) = _ := hdep 2 (by decide)
    have e0 : ev (.tmp 0) = _ := hfix 0 (by decide)
    exact okb fg rfl (by go_simp)
   ·intro ev w hc hf hg hfix hdep hbel
    have fg : ev (.tmp 7) = _ := hdep 2 (by decide)
    have e3 : ev (.tmp 3) = _ := hfix 3 (by decide)
    exact okb fg rfl (by go_simp)
   ·intro ev w hc hf hg hfix hdep hbel
    have fg : ev (.tmp 7) = _ := hdep 2 (by decide)
    have e11 : ev (.tmp 11) = _ := hdep 6 (by decide)
    obtain ⟨hc0, hc1, hc2⟩ := HC.out w hbel
    exact okb fg rfl (by go_simp)
   ·intro ev w hc hf hg hfix hdep hbel
    have fg : ev (.tmp 7) = _ := hdep 2 (by decide)
    have e10 : ev (.tmp 10) = _ := hdep 5 (by decide)
    have e12 : ev (.tmp 12) = _ := hdep 7 (by decide)
    refine Or.inl ⟨fg, Or.inr ⟨43, #[.slice a n cap, acV (r, i)], w, by go_simp, ?_⟩⟩
    refine (get_any a n cap r i l w (HR.out.below (((Below.refl _ _).alloc (Nat.le_refl _) _).drew.trans (hbel.mono (by simp)))) HL.out).mono ?_
    rintro e w1 ⟨rfl, hb1⟩
    exact ⟨_, rfl, rfl, hb1⟩
   ·intro ev w hc hf hg hfix hdep hbel
    have fg : ev (.tmp 7) = _ := hdep 2 (by decide)
    have e9 : ev (.tmp 9) = _ := hdep 4 (by decide)
    have e13 : ev (.tmp 13) = _ := hdep 8 (by decide)
    exact okb fg rfl (by go_simp)
   ·intro ev w hc hf hg hfix hdep hbel
    have e7 : ev (.tmp 7) = _ := hdep 2 (by decide)
    have e14 : ev (.tmp 14) = _ := hdep 9 (by decide)
    exact okb trivial rfl (by go_simp)
   ·intro ev w hc hf hg hfix hdep hbel
    have e15 : ev (.tmp 15) = _ := hdep 10 (by decide)
    exact okb trivial rfl (by go_simp)
  ·intro v w2 hv hb2
   have r0 : v 0 = _ := hv 0 (by decide)
   have r1 : v 1 = _ := hv 1 (by decide)
   have r2 : v 2 = _ := hv 2 (by decide)
   have r3 : v 3 = _ := hv 3 (by decide)
   have r4 : v 4 = _ := hv 4 (by decide)
   have r5 : v 5 = _ := hv 5 (by decide)
   have r6 : v 6 = _ := hv 6 (by decide)
   have r7 : v 7 = _ := hv 7 (by decide)
   have r8 : v 8 = _ := hv 8 (by decide)
   have r9 : v 9 = _ := hv 9 (by decide)
   have r10 : v 10 = _ := hv 10 (by decide)
   have r11 : v 11 = _ := hv 11 (by decide)
   simp only [Reg.putAll, Act.put, List.setIfInBounds_toArray, List.set_cons_zero, List.set_cons_succ, r0, r1, r2, r3, r4, r5, r6, r7, r8, r9, r10, r11]
   clear r0 r1 r2 r3 r4 r5 r6 r7 r8 r9 r10 r11 hv
   go_wp2_with fail
   go_ret
   exact ⟨ret_bool (by simp [Dt.has, HM.out]), ((Below.refl _ _).alloc (Nat.le_refl _) _).trans (hb2.mono (by simp))⟩
def nextV (l : List Dt.Dot) (a : Dt.Ac) : Value := if Dt.mayA a = false then .tuple #[dotV ((0, 0), 0), .int .i64 2] else if Dt.get l a = 1048576 then .tuple #[dotV ((0, 0), 0), .int .i64 14] else .tuple #[dotV (a, Dt.get l a + 1), .int .i64 0]
end Go.Proofs.YthbkieghkfpbhaaGreat
namespace Go.Proofs.YthbkieghkfpbhaaGreat
open Go.RowKit Go.Buf Go.Maps
set_option linter.unusedSimpArgs false
set_option linter.unusedVariables false
theorem str_ne {d e : ByteArray} (h : d ≠ e) : (d.toList == e.toList) = false := by
 rw [ByteArray.toList_eq, ByteArray.toList_eq]
 simp only [beq_eq_false_iff_ne, ne_eq]
 intro g
 exact h (ByteArray.ext (Array.toList_inj.1 g))
theorem take_eq_succS {la lb : List ByteArray} {k : Nat} {d : ByteArray} (h : la.take k = lb.take k) (ha : la[k]? = some d) (hb : lb[k]? = some d) : la.take (k + 1) = lb.take (k + 1) := by
 obtain ⟨h1, rfl⟩ := List.getElem?_eq_some_iff.1 ha
 obtain ⟨h2, e⟩ := List.getElem?_eq_some_iff.1 hb
 rw [List.take_succ_eq_append_getElem h1, List.take_succ_eq_append_getElem h2, h, e]
theorem dot_neO {d e : Dt.Dot} (h : d ≠ e) : d.1.1 ≠ e.1.1 ∨ (d.1.1 = e.1.1 ∧ d.1.2 ≠ e.1.2) ∨ (d.1.1 = e.1.1 ∧ d.1.2 = e.1.2 ∧ d.2 ≠ e.2) := by
 rcases d with ⟨⟨a, b⟩, c⟩; rcases e with ⟨⟨x, y⟩, z⟩
 simp only [ne_eq, Prod.mk.injEq] at *
 omega
theorem take_eq_succO {la lb : List Dt.Dot} {k : Nat} {d : Dt.Dot} (h : la.take k = lb.take k) (ha : la[k]? = some d) (hb : lb[k]? = some d) : la.take (k + 1) = lb.take (k + 1) := by
 obtain ⟨h1, rfl⟩ := List.getElem?_eq_some_iff.1 ha
 obtain ⟨h2, e⟩ := List.getElem?_eq_some_iff.1 hb
 rw [List.take_succ_eq_append_getElem h1, List.take_succ_eq_append_getElem h2, h, e]
set_option maxRecDepth 100000 in
set_option maxHeartbeats 1600000 in
theorem equalD_any (a : Option Addr) (n cap : Nat) (la : List Dt.Dot) (c : Option Addr) (m capc : Nat) (lb : List Dt.Dot) (W : World) (hr : VRow W a cap la) (hl : la.length = n) (hs : VRow W c capc lb) (hm : lb.length = m) :
  Calls Tryz.prog 24 #[.slice a n cap, .slice c m capc] W fun e w' => e = .returned (.bool (decide (la = lb))) ∧ Below W.heap.size W w' := by
 have hle := hr.le
 have hcap := hr.cap
 rw [hl] at hle
 have HR := Lib.hid hr; have HL := Lib.hid hl; have HS := Lib.hid hs; have HM := Lib.hid hm
 clear hr hl hs hm
 by_cases hnm : n = m
 ·subst hnm
  go_enter Tryz.func24, Tryz.ntmps24
  go_wp2
  go_loopw [5, 13] (fun _ i wr => ∃ k : Nat, k ≤ n ∧ i = .int .i64 k ∧ la.take k = lb.take k ∧ Below W.heap.size W wr) (fun _ i _ => n - (intOf i).toNat)
  case atStart => exact ⟨0, Nat.zero_le _, rfl, rfl, Below.refl _ _⟩
  case round =>
   obtain ⟨k, hk, rfl, htk, hbel⟩ := hrel
   have HT := Lib.hid htk; have HBel := Lib.hid hbel; clear htk hbel
   by_cases hlt : k < n
   ·obtain ⟨d, hd⟩ := getD_some (l := la) (i := k) (by rw [HL.out]; exact hlt)
    obtain ⟨e, he⟩ := getD_some (l := lb) (i := k) (by rw [HM.out]; exact hlt)
    obtain ⟨b1, o1, rfl, hb1, hc1⟩ := HR.out.at (by rw [HL.out]; omega)
    obtain ⟨b2, o2, rfl, hb2, hc2⟩ := HS.out.at (by rw [HM.out]; omega)
    obtain ⟨g0, g1, g2⟩ := hc1 k d hd
    obtain ⟨g3, g4, g5⟩ := hc2 k e he
    have q0 := (HBel.out.cell (p := ⟨b1, o1 + k * 3, none⟩) hb1).trans g0
    have q1 := (HBel.out.cell (p := ⟨b1, o1 + k * 3 + 1, none⟩) hb1).trans g1
    have q2 := (HBel.out.cell (p := ⟨b1, o1 + k * 3 + 2, none⟩) hb1).trans g2
    have q3 := (HBel.out.cell (p := ⟨b2, o2 + k * 3, none⟩) hb2).trans g3
    have q4 := (HBel.out.cell (p := ⟨b2, o2 + k * 3 + 1, none⟩) hb2).trans g4
    have q5 := (HBel.out.cell (p := ⟨b2, o2 + k * 3 + 2, none⟩) hb2).trans g5
    have i0 : (0 : Int) ≤ (k : Int) := by omega
    have i1 : (k : Int) < (n : Int) := by omega
    have Hd := Lib.hid hd; have He := Lib.hid he
    clear hc1 hc2 g0 g1 g2 g3 g4 g5 hd he
    by_cases hde : d = e
    ·subst hde
     have Hs := Lib.hid (take_eq_succO HT.out Hd.out He.out)
     obtain ⟨⟨r, i⟩, s⟩ := d
     simp only at q0 q1 q2 q3 q4 q5
     go_wp2
     go_quiet (fail)
     go_wp2
     clear q0 q1 q2 q3 q4 q5
     go_roundw
     case rel => exact ⟨k + 1, by omega, by go_num, Hs.out, below_drewN HBel.out _⟩
     case measure => simp [intOf]; omega
    ·have hfin : decide (la = lb) = false := decide_eq_false fun g => hde (by have h1 := Hd.out; have h2 := He.out; rw [g, h2] at h1; exact (Option.some.inj h1).symm)
     have Hfin := Lib.hid hfin; clear hfin
     have hne := dot_neO hde
     obtain ⟨⟨r, i⟩, s⟩ := d
     obtain ⟨⟨r', i'⟩, s'⟩ := e
     simp only at q0 q1 q2 q3 q4 q5 hne
     clear hde
     rcases hne with h1 | ⟨rfl, h1⟩ | ⟨rfl, rfl, h1⟩
     ·have d1 : ((r : Int) == (r' : Int)) = false := by simp; omega
      clear h1
      go_wp2
      go_quiet (fail)
      go_wp2
      go_ret
      exact ⟨ret_bool Hfin.out.symm, below_drewN HBel.out _⟩
     ·have d1 : ((i : Int) == (i' : Int)) = false := by simp; omega
      clear h1
      go_wp2
      go_quiet (fail)
      go_wp2
      go_ret
      exact ⟨ret_bool Hfin.out.symm, below_drewN HBel.out _⟩
     ·have d1 : ((s : Int) == (s' : Int)) = false := by simp; omega
      clear h1
      go_wp2
      go_quiet (fail)
      go_wp2
      go_ret
      exact ⟨ret_bool Hfin.out.symm, below_drewN HBel.out _⟩
   ·have hfin : decide (la = lb) = true := decide_eq_true (by have := HT.out; rwa [List.take_of_length_le (by rw [HL.out]; omega), List.take_of_length_le (by rw [HM.out]; omega)] at this)
    have Hfin := Lib.hid hfin; clear hfin
    go_wp2
    go_ret
    exact ⟨ret_bool Hfin.out.symm, HBel.out⟩
 ·have hfin : decide (la = lb) = false := decide_eq_false fun g => hnm (by rw [← HL.out, ← HM.out, g])
  have Hfin := Lib.hid hfin; clear hfin
  have d1 : ((n : Int) == (m : Int)) = false := by simp; omega
  go_enter Tryz.func24, Tryz.ntmps24
  go_wp2
  go_ret
  exact ⟨ret_bool Hfin.out.symm, Below.refl _ _⟩
set_option maxRecDepth 100000 in
set_option maxHeartbeats 1600000 in
theorem equalS_any (a : Option Addr) (n cap : Nat) (la : List ByteArray) (c : Option Addr) (m capc : Nat) (lb : List ByteArray) (W : World) (hr : SRow W a cap la) (hl : la.length = n) (hs : SRow W c capc lb) (hm : lb.length = m) :
  Calls Tryz.prog 48 #[.slice a n cap, .slice c m capc] W fun e w' => e = .returned (.bool (decide (la = lb))) ∧ Below W.heap.size W w' := by
 have hle := hr.le
 have hcap := hr.cap
 rw [hl] at hle
 have HR := Lib.hid hr; have HL := Lib.hid hl; have HS := Lib.hid hs; have HM := Lib.hid hm
 clear hr hl hs hm
 by_cases hnm : n = m
 ·subst hnm
  go_enter Tryz.func48, Tryz.ntmps48
  go_wp2
  go_loopw [5, 13] (fun _ i wr => ∃ k : Nat, k ≤ n ∧ i = .int .i64 k ∧ la.take k = lb.take k ∧ Below W.heap.size W wr) (fun _ i _ => n - (intOf i).toNat)
  case atStart => exact ⟨0, Nat.zero_le _, rfl, rfl, Below.refl _ _⟩
  case round =>
   obtain ⟨k, hk, rfl, htk, hbel⟩ := hrel
   have HT := Lib.hid htk; have HBel := Lib.hid hbel; clear htk hbel
   by_cases hlt : k < n
   ·obtain ⟨d, hd⟩ := gets_some (l := la) (i := k) (by rw [HL.out]; exact hlt)
    obtain ⟨e, he⟩ := gets_some (l := lb) (i := k) (by rw [HM.out]; exact hlt)
    obtain ⟨b1, o1, rfl, hb1, hc1⟩ := HR.out.at (by rw [HL.out]; omega)
    obtain ⟨b2, o2, rfl, hb2, hc2⟩ := HS.out.at (by rw [HM.out]; omega)
    have g0 := hc1 k d hd
    have g3 := hc2 k e he
    have q0 := (HBel.out.cell (p := ⟨b1, o1 + k, none⟩) hb1).trans g0
    have q3 := (HBel.out.cell (p := ⟨b2, o2 + k, none⟩) hb2).trans g3
    have i0 : (0 : Int) ≤ (k : Int) := by omega
    have i1 : (k : Int) < (n : Int) := by omega
    have Hd := Lib.hid hd; have He := Lib.hid he
    clear hc1 hc2 g0 g3 hd he
    by_cases hde : d = e
    ·subst hde
     have Hs := Lib.hid (take_eq_succS HT.out Hd.out He.out)
     go_wp2
     go_quiet (fail)
     go_wp2
     clear q0 q3
     go_roundw
     case rel => exact ⟨k + 1, by omega, by go_num, Hs.out, below_drewN HBel.out _⟩
     case measure => simp [intOf]; omega
    ·have hfin : decide (la = lb) = false := decide_eq_false fun g => hde (by have h1 := Hd.out; have h2 := He.out; rw [g, h2] at h1; exact (Option.some.inj h1).symm)
     have Hfin := Lib.hid hfin; clear hfin
     have d1 := str_ne hde
     go_wp2
     go_quiet (fail)
     go_wp2
     go_ret
     exact ⟨ret_bool Hfin.out.symm, below_drewN HBel.out _⟩
   ·have hfin : decide (la = lb) = true := decide_eq_true (by have := HT.out; rwa [List.take_of_length_le (by rw [HL.out]; omega), List.take_of_length_le (by rw [HM.out]; omega)] at this)
    have Hfin := Lib.hid hfin; clear hfin
    go_wp2
    go_ret
    exact ⟨ret_bool Hfin.out.symm, HBel.out⟩
 ·have hfin : decide (la = lb) = false := decide_eq_false fun g => hnm (by rw [← HL.out, ← HM.out, g])
  have Hfin := Lib.hid hfin; clear hfin
  have d1 : ((n : Int) == (m : Int)) = false := by simp; omega
  go_enter Tryz.func48, Tryz.ntmps48
  go_wp2
  go_ret
  exact ⟨ret_bool Hfin.out.symm, Below.refl _ _⟩
end Go.Proofs.YthbkieghkfpbhaaGreat
