import Derived.Test.YtiiidmphmojlgaaGreatZLeaf6
namespace Go.Proofs.YtiiidmphmojlgaaGreat
open Go.RowKit Go.Maps
def seenK (Dx Dy : DataW Unit) (k : Nat) : Lit → Bool := fun z => (decide (1 ≤ k) && Maps.has Dx z) || (decide (2 ≤ k) && Maps.has Dy z)
def seenL (Dx Dy Dm : DataW Unit) (k : Nat) (left : Lit → Bool) : Lit → Bool := fun z => seenK Dx Dy k z || (Maps.has Dm z && !left z)
theorem seenL_start (Dx Dy Dm : DataW Unit) (k : Nat) : seenL Dx Dy Dm k (Maps.has Dm) = seenK Dx Dy k := by funext z; unfold seenL; cases Maps.has Dm z <;> simp
theorem seenL_step {Dx Dy Dm : DataW Unit} {k : Nat} {left : Lit → Bool} {x : Dt.Ac} (hx : okAc x) (hh : Maps.has Dm (kl x) = true) : ∀ a, okAc a → (seenL Dx Dy Dm k left (kl a) || (kl a).sameKey (kl x)) = seenL Dx Dy Dm k (fun z => left z && !z.sameKey (kl x)) (kl a) := by
 intro a ha
 unfold seenL
 by_cases e : a = x
 ·subst e
  have := WideAt.sameKey_self (actLaw.key (keyOf_act ha))
  simp [this, hh]
 ·have := sameKey_ne (fun g => e (kl_inj ha hx g))
  simp [this]
theorem seenL_end0 {Dx Dy : DataW Unit} {left : Lit → Bool} (hl : ∀ z, left z = false) : seenL Dx Dy Dx 0 left = seenK Dx Dy 1 := by funext z; unfold seenL seenK; simp [hl]
theorem seenL_end1 {Dx Dy : DataW Unit} {left : Lit → Bool} (hl : ∀ z, left z = false) : seenL Dx Dy Dy 1 left = seenK Dx Dy 2 := by funext z; unfold seenL seenK; simp [hl]
theorem bothG_seen {p : Dt.Ac → Nat} {s s' : Lit → Bool} (h : ∀ a, okAc a → s (kl a) = s' (kl a)) : ∀ a, okAc a → bothG p s a = bothG p s' a := by
 intro a ha; unfold bothG; rw [h a ha]
theorem both_all {p : Dt.Ac → Nat} {Dx Dy : DataW Unit} {fx fy : Dt.Ac → Nat} (hx : ∀ a, okAc a → Dx.atKey (kl a) (.lit (.int .u64 0)) = .lit (.int .u64 (fx a : Nat))) (hy : ∀ a, okAc a → Dy.atKey (kl a) (.lit (.int .u64 0)) = .lit (.int .u64 (fy a : Nat)))
  (h0 : ∀ a, fx a = 0 → fy a = 0 → p a = 0) : ∀ a, okAc a → bothG p (seenK Dx Dy 2) a = p a := by
 intro a ha
 unfold bothG seenK
 cases h1 : Maps.has Dx (kl a)
 ·cases h2 : Maps.has Dy (kl a)
  ·have e1 := hx a ha
   have e2 := hy a ha
   rw [atKey_of_not_has h1] at e1
   rw [atKey_of_not_has h2] at e2
   simp only [DataW.lit.injEq, Lit.int.injEq, true_and] at e1 e2
   simp [h0 a (by omega) (by omega)]
  ·simp
 ·simp
theorem Nums.size_le {w : World} {b n : Nat} {D : DataW Unit} {f : Dt.Ac → Nat} (h : Nums w b n D f) : Maps.size D ≤ n := Go.Proofs.YtiiidmphmojlgaaGreat.size_le h.1
set_option maxRecDepth 100000 in
set_option maxHeartbeats 6400000 in
theorem bothM (a : Option Addr) (n cap : Nat) (la : List Dt.Dot) (c : Option Addr) (m capc : Nat) (lb : List Dt.Dot) (W : World) (hr : VRow W a cap la) (hl : la.length = n) (hn : n ≤ 100000000) (hs : VRow W c capc lb) (hm : lb.length = m) (hn2 : m ≤ 100000000) :
  Calls Tryz.prog 125 #[.slice a n cap, .slice c m capc, .func (.func 126) #[] #[]] W (RetVec W (Dt.vec (fun a => min (Dt.get la a) (Dt.get lb a)))) := by
 have HR := Lib.hid hr; have HL := Lib.hid hl; have HS := Lib.hid hs; have HM := Lib.hid hm
 clear hr hl hs hm
 have hmm := @run_makeMap Tryz.prog
 go_enter Tryz.func125, Tryz.ntmps125
 go_wp2_with fail
 refine (stands_any a n cap la W HR.out HL.out hn).mono ?_
 rintro e w1 ⟨bx, rfl, hNx, hBx, hb1⟩
 have HNx := Lib.hid hNx; have HBx := Lib.hid hBx; have Hb1 := Lib.hid hb1
 clear hNx hBx hb1
 go_wp2_with fail
 refine (stands_any c m capc lb w1 (HS.out.below Hb1.out) HM.out hn2).mono ?_
 rintro e w2 ⟨bY, rfl, hNy, hBy, hb2⟩
 obtain ⟨Dx, hx⟩ := HNx.out
 obtain ⟨Dy, hy⟩ := hNy
 have hxlt := hx.lt
 have hx3 := (hx.below hb2).below (((Below.refl _ _).alloc (Nat.le_refl _) (.map #[] 0)))
 have hy3 := hy.below (((Below.refl _ _).alloc (Nat.le_refl _) (.map #[] 0)))
 have hz3 := Nums.made w2
 have hbb : Below W.heap.size W (w2.alloc (.map #[] 0)) := (Hb1.out.trans (hb2.mono Hb1.out.size)).alloc (Nat.le_trans Hb1.out.size hb2.size) _
 have hylt := hy.lt
 have hxy : bx < bY := by omega
 have hBl : W.heap.size ≤ bx := HBx.out
 have Hx3 := Lib.hid hx3; have Hy3 := Lib.hid hy3; have Hz3 := Lib.hid hz3; have Hbb := Lib.hid hbb
 have hbnY : bY < w2.heap.size := hylt
 clear hx hy hx3 hy3 hz3 hbb hxlt hylt HNx HBx Hb1 hBy hb2
 go_wp2_with fail
 obtain ⟨bn, hbn⟩ : ∃ bn, bn = w2.heap.size := ⟨_, rfl⟩
 rw [← hbn] at Hz3 hbnY ⊢
 generalize hw3 : w2.alloc (.map #[] 0) = w3 at Hx3 Hy3 Hz3 Hbb ⊢
 clear hw3 hbn
 have i0 : ∀ w : World, (Instr.index 175 (.agg #[.map (some bx), .map (some bY)]) (.int .i64 0)).run Tryz.prog w = .ok (.map (some bx)) w := fun _ => by kernel_rfl
 have i1 : ∀ w : World, (Instr.index 175 (.agg #[.map (some bx), .map (some bY)]) (.int .i64 1)).run Tryz.prog w = .ok (.map (some bY)) w := fun _ => by kernel_rfl
 go_loopw [21] (fun i wr => ∃ k : Nat, k ≤ 2 ∧ i = .int .i64 k ∧ Nums wr bx n Dx (Dt.get la) ∧ Nums wr bY m Dy (Dt.get lb) ∧ NumX wr bn (k * (n + m)) (bothG (fun a => min (Dt.get la a) (Dt.get lb a)) (seenK Dx Dy k)) ∧ Below W.heap.size W wr) (fun i _ => 2 - (intOf i).toNat)
 case atStart => exact ⟨0, by omega, rfl, Hx3.out, Hy3.out, NumX.congr' (NumX.mono (show NumX w3 bn 0 _ from ⟨_, Hz3.out⟩) (Nat.zero_le _)) (fun a _ => by simp [bothG, seenK]), Hbb.out⟩
 case round =>
  obtain ⟨k, hk, rfl, hx, hy, hz, hbel⟩ := hrel
  have Hx := Lib.hid hx; have Hy := Lib.hid hy; have Hz := Lib.hid hz; have Hbel := Lib.hid hbel
  clear hx hy hz hbel
  obtain rfl | rfl | rfl : k = 0 ∨ k = 1 ∨ k = 2 := by omega
  ·obtain ⟨wo, rfl⟩ : ∃ wo : World, wo = wr := ⟨_, rfl⟩
   go_wp2_with (at_range; refine wpList_range_own _ rfl _ 96 rfl 24 25 actLaw Tryz.underlying96 _ bx n Dx rfl Hx.out.1 ?_; intro w0 hrg0 hg0 hs0)
   go_frame
   obtain ⟨r, hrr⟩ : ∃ r, r = wo.heap.size := ⟨_, rfl⟩
   rw [← hrr] at hrg0 hs0 ⊢
   have hx0 := Hx.out.kept hg0 (by simp); have hy0 := Hy.out.kept hg0 (by simp); have hz0 := Hz.out.kept hg0 (by simp)
   have hb0 : Below W.heap.size W w0 := Hbel.out.grown hg0 Hbel.out.size (by simp)
   have hrx : bx < r := by rw [hrr]; exact Hx.out.lt
   have hry : bY < r := by rw [hrr]; exact Hy.out.lt
   have hrn : bn < r := by rw [hrr]; exact Hz.out.lt
   have Hr0 := Lib.hid hrg0; have Hx0 := Lib.hid hx0; have Hy0 := Lib.hid hy0; have Hz0 := Lib.hid hz0; have Hb0 := Lib.hid hb0
   have hsz := Hx.out.size_le
   clear hrg0 hg0 hs0 hx0 hy0 hz0 hb0 hrr
   go_loopw [26] (fun _ wr => ∃ (left : Lit → Bool) (cnt q : Nat), wr.ranges Tryz.prog 24 (plainElem Tryz.prog 25) bx r n Dx left cnt ∧ Nums wr bx n Dx (Dt.get la) ∧ Nums wr bY m Dy (Dt.get lb) ∧ NumX wr bn q (bothG (fun a => min (Dt.get la a) (Dt.get lb a)) (seenL Dx Dy Dx 0 left)) ∧ q + cnt ≤ 1 * (n + m) ∧ Below W.heap.size W wr) (fun _ wr => wr.rangeLeft bx r)
   case atStart => exact ⟨_, _, _, Hr0.out, Hx0.out, Hy0.out, Hz0.out.congr' (by rw [seenL_start]; exact fun _ _ => rfl), by omega, Hb0.out⟩
   case round =>
    obtain ⟨left, cnt, q, hrg, hx, hy, hz, hq, hbel⟩ := hrel
    have Hrg := Lib.hid hrg; have Hx1 := Lib.hid hx; have Hy1 := Lib.hid hy; have Hz1 := Lib.hid hz; have Hq := Lib.hid hq; have Hbel1 := Lib.hid hbel
    clear hrg hx hy hz hq hbel
    go_wp2_with (at_next; refine wpList_next_ranges _ rfl _ rfl 24 actLaw (plainElem Tryz.prog 25) (fun a : Dt.Ac => acV a) (fun c : Nat => .int .u64 (c : Int)) ?k1 ?k2 bx r n Dx left cnt rfl Hrg.out ?k3 ?k4)
    case k1 =>
     intro key l hk
     obtain ⟨a, _, e, _⟩ := keyOf_act_inv hk
     exact ⟨a, e⟩
    case k2 =>
     intro v y hv
     obtain ⟨c, e, _, hw⟩ := plainElem_int_inv Tryz.underlying25 hv
     obtain ⟨c, rfl⟩ := Int.eq_ofNat_of_zero_le (bounds_u64 hw).1
     exact ⟨c, e⟩
    case k3 =>
     intro hc0 hl0
     have Hl := Lib.hid hl0; clear hl0 hc0
     go_wp2_with fail
     go_roundw
     case rel => exact ⟨1, by omega, rfl, Hx1.out, Hy1.out, (Hz1.out.mono (by have := Hq.out; omega)).congr' (by rw [seenL_end0 Hl.out]; exact fun _ _ => rfl), Hbel1.out⟩
     case measure => simp [intOf]
    case k4 =>
     intro a0 a1 c l y1 y2 w4 cnt1 hkey hlk hv hat hrg1 hlt1 hg1 hs1 hen
     obtain ⟨hok, rfl, hfx, hc⟩ := entry_facts Hx1.out.2 hkey hv hat
     have hhas := has_of_left hat
     have hx4 := Hx1.out.kept hg1 (fun e => by have := Option.some.inj e; omega); have hy4 := Hy1.out.kept hg1 (fun e => by have := Option.some.inj e; omega)
     have hz4 := Hz1.out.kept hg1 (fun e => by have := Option.some.inj e; omega)
     have hb4 : Below W.heap.size W w4 := Hbel1.out.grown hg1 Hbel1.out.size (fun k hk => by cases hk; omega)
     have Hen := Lib.hid hen
     have hx5 := hx4.kept ((World.grownBy_alloc w4 (.cells #[.int .u8 (a0 : Int), .int .u32 (a1 : Int)] 24) none)) (by simp)
     have hy5 := hy4.kept ((World.grownBy_alloc w4 (.cells #[.int .u8 (a0 : Int), .int .u32 (a1 : Int)] 24) none)) (by simp)
     have hz5 := hz4.kept ((World.grownBy_alloc w4 (.cells #[.int .u8 (a0 : Int), .int .u32 (a1 : Int)] 24) none)) (by simp)
     have hr5 := hrg1.alloc (.cells #[.int .u8 (a0 : Int), .int .u32 (a1 : Int)] 24)
     have hb5 := hb4.alloc hb4.size (.cells #[.int .u8 (a0 : Int), .int .u32 (a1 : Int)] 24)
     have hx6 := hx5.below (Below.refl _ _).drew
     have hy6 := hy5.below (Below.refl _ _).drew
     have hz6 := hz5.below (Below.refl _ _).drew
     have hr6 := hr5.kept (row := none) (Go.Buf.grown_of_below (Below.refl _ _).drew) (by simp) (by simp)
     have hlx := hx6.lookup hok
     have hly := hy6.lookup hok
     obtain ⟨Dz, hz6⟩ := hz6
     obtain ⟨w7, hup, hN7, hg7⟩ := hz6.update hok (x := min (Dt.get la (a0, a1)) (Dt.get lb (a0, a1))) (by have := Dt.get_le la (a0, a1); have := Dt.get_le lb (a0, a1); omega) (by have := Hq.out; unfold maxLen; omega)
     have hx7 := hx6.kept hg7 (fun e => by have := Option.some.inj e; omega); have hy7 := hy6.kept hg7 (fun e => by have := Option.some.inj e; omega)
     have hr7 := hr6.kept hg7 (fun e => by have := Option.some.inj e; omega) (fun e => by have := Option.some.inj e; omega)
     have hb7 : Below W.heap.size W w7 := hb5.drew.grown hg7 hb5.size (fun k hk => by cases hk; omega)
     have hz7 : NumX w7 bn (q + 1) (bothG (fun a => min (Dt.get la a) (Dt.get lb a)) (seenL Dx Dy Dx 0 (fun z => left z && !z.sameKey (kl (a0, a1))))) := NumX.congr' (show NumX w7 bn (q + 1) _ from ⟨_, hN7⟩) (fun a ha => (bothG_upd (p := (fun a => min (Dt.get la a) (Dt.get lb a))) hok a ha).trans (bothG_seen (fun a ha => seenL_step hok hhas a ha) a ha))
     have G1 := Lib.hid hx7; have G2 := Lib.hid hy7; have G3 := Lib.hid hr7; have G4 := Lib.hid hb7; have G5 := Lib.hid hz7; have Hlt1 := Lib.hid hlt1
     have Hlx := Lib.hid hlx; have Hly := Lib.hid hly; have Hup := Lib.hid hup
     clear hok hhas hx4 hy4 hz4 hb4 hx5 hy5 hz5 hr5 hb5 hx6 hy6 hz6 hr6 hN7 hg7 hx7 hy7 hr7 hb7 hz7 hlk hv hat hrg1 hg1 hs1 hkey hen hlx hly hup hfx hc hlt1
     have hen := Hen.out; clear Hen
     go_wp2_with fail
     clear hen
     have hlx := Hlx.out; have hly := Hly.out
     refine still_tail 10 (by kernel_rfl) (by kernel_rfl) ?_
     simp only [List.take_succ_cons, List.take_zero, List.drop_succ_cons, List.drop_zero]
     repeat still_step
     refine wpStill_step (fun K hK => ?_)
     go_simp
     refine ⟨_, pickM _ _ _, hK _ ?_⟩
     clear hK K
     refine wpStill_nil ?_
     clear hlx hly
     have hup := Hup.out
     go_wp2_with fail
     clear hup
     go_roundw
     case rel =>
      repeat apply Exists.intro
      exact ⟨⟨_, _, _, G3.out, G1.out, G2.out, G5.out, by have := Hq.out; have := Hlt1.out; omega, G4.out⟩, rfl⟩
     case measure => rw [G3.out.left_eq, Hrg.out.left_eq]; exact Hlt1.out
  ·obtain ⟨wo, rfl⟩ : ∃ wo : World, wo = wr := ⟨_, rfl⟩
   go_wp2_with (at_range; refine wpList_range_own _ rfl _ 96 rfl 24 25 actLaw Tryz.underlying96 _ bY m Dy rfl Hy.out.1 ?_; intro w0 hrg0 hg0 hs0)
   go_frame
   obtain ⟨r, hrr⟩ : ∃ r, r = wo.heap.size := ⟨_, rfl⟩
   rw [← hrr] at hrg0 hs0 ⊢
   have hx0 := Hx.out.kept hg0 (by simp); have hy0 := Hy.out.kept hg0 (by simp); have hz0 := Hz.out.kept hg0 (by simp)
   have hb0 : Below W.heap.size W w0 := Hbel.out.grown hg0 Hbel.out.size (by simp)
   have hrx : bx < r := by rw [hrr]; exact Hx.out.lt
   have hry : bY < r := by rw [hrr]; exact Hy.out.lt
   have hrn : bn < r := by rw [hrr]; exact Hz.out.lt
   have Hr0 := Lib.hid hrg0; have Hx0 := Lib.hid hx0; have Hy0 := Lib.hid hy0; have Hz0 := Lib.hid hz0; have Hb0 := Lib.hid hb0
   have hsz := Hy.out.size_le
   clear hrg0 hg0 hs0 hx0 hy0 hz0 hb0 hrr
   go_loopw [26] (fun _ wr => ∃ (left : Lit → Bool) (cnt q : Nat), wr.ranges Tryz.prog 24 (plainElem Tryz.prog 25) bY r m Dy left cnt ∧ Nums wr bx n Dx (Dt.get la) ∧ Nums wr bY m Dy (Dt.get lb) ∧ NumX wr bn q (bothG (fun a => min (Dt.get la a) (Dt.get lb a)) (seenL Dx Dy Dy 1 left)) ∧ q + cnt ≤ 2 * (n + m) ∧ Below W.heap.size W wr) (fun _ wr => wr.rangeLeft bY r)
   case atStart => exact ⟨_, _, _, Hr0.out, Hx0.out, Hy0.out, Hz0.out.congr' (by rw [seenL_start]; exact fun _ _ => rfl), by omega, Hb0.out⟩
   case round =>
    obtain ⟨left, cnt, q, hrg, hx, hy, hz, hq, hbel⟩ := hrel
    have Hrg := Lib.hid hrg; have Hx1 := Lib.hid hx; have Hy1 := Lib.hid hy; have Hz1 := Lib.hid hz; have Hq := Lib.hid hq; have Hbel1 := Lib.hid hbel
    clear hrg hx hy hz hq hbel
    go_wp2_with (at_next; refine wpList_next_ranges _ rfl _ rfl 24 actLaw (plainElem Tryz.prog 25) (fun a : Dt.Ac => acV a) (fun c : Nat => .int .u64 (c : Int)) ?k1 ?k2 bY r m Dy left cnt rfl Hrg.out ?k3 ?k4)
    case k1 =>
     intro key l hk
     obtain ⟨a, _, e, _⟩ := keyOf_act_inv hk
     exact ⟨a, e⟩
    case k2 =>
     intro v y hv
     obtain ⟨c, e, _, hw⟩ := plainElem_int_inv Tryz.underlying25 hv
     obtain ⟨c, rfl⟩ := Int.eq_ofNat_of_zero_le (bounds_u64 hw).1
     exact ⟨c, e⟩
    case k3 =>
     intro hc0 hl0
     have Hl := Lib.hid hl0; clear hl0 hc0
     go_wp2_with fail
     go_roundw
     case rel => exact ⟨2, by omega, rfl, Hx1.out, Hy1.out, (Hz1.out.mono (by have := Hq.out; omega)).congr' (by rw [seenL_end1 Hl.out]; exact fun _ _ => rfl), Hbel1.out⟩
     case measure => simp [intOf]
    case k4 =>
     intro a0 a1 c l y1 y2 w4 cnt1 hkey hlk hv hat hrg1 hlt1 hg1 hs1 hen
     obtain ⟨hok, rfl, hfx, hc⟩ := entry_facts Hy1.out.2 hkey hv hat
     have hhas := has_of_left hat
     have hx4 := Hx1.out.kept hg1 (fun e => by have := Option.some.inj e; omega); have hy4 := Hy1.out.kept hg1 (fun e => by have := Option.some.inj e; omega)
     have hz4 := Hz1.out.kept hg1 (fun e => by have := Option.some.inj e; omega)
     have hb4 : Below W.heap.size W w4 := Hbel1.out.grown hg1 Hbel1.out.size (fun k hk => by cases hk; omega)
     have Hen := Lib.hid hen
     have hx5 := hx4.kept ((World.grownBy_alloc w4 (.cells #[.int .u8 (a0 : Int), .int .u32 (a1 : Int)] 24) none)) (by simp)
     have hy5 := hy4.kept ((World.grownBy_alloc w4 (.cells #[.int .u8 (a0 : Int), .int .u32 (a1 : Int)] 24) none)) (by simp)
     have hz5 := hz4.kept ((World.grownBy_alloc w4 (.cells #[.int .u8 (a0 : Int), .int .u32 (a1 : Int)] 24) none)) (by simp)
     have hr5 := hrg1.alloc (.cells #[.int .u8 (a0 : Int), .int .u32 (a1 : Int)] 24)
     have hb5 := hb4.alloc hb4.size (.cells #[.int .u8 (a0 : Int), .int .u32 (a1 : Int)] 24)
     have hx6 := hx5.below (Below.refl _ _).drew
     have hy6 := hy5.below (Below.refl _ _).drew
     have hz6 := hz5.below (Below.refl _ _).drew
     have hr6 := hr5.kept (row := none) (Go.Buf.grown_of_below (Below.refl _ _).drew) (by simp) (by simp)
     have hlx := hx6.lookup hok
     have hly := hy6.lookup hok
     obtain ⟨Dz, hz6⟩ := hz6
     obtain ⟨w7, hup, hN7, hg7⟩ := hz6.update hok (x := min (Dt.get la (a0, a1)) (Dt.get lb (a0, a1))) (by have := Dt.get_le la (a0, a1); have := Dt.get_le lb (a0, a1); omega) (by have := Hq.out; unfold maxLen; omega)
     have hx7 := hx6.kept hg7 (fun e => by have := Option.some.inj e; omega); have hy7 := hy6.kept hg7 (fun e => by have := Option.some.inj e; omega)
     have hr7 := hr6.kept hg7 (fun e => by have := Option.some.inj e; omega) (fun e => by have := Option.some.inj e; omega)
     have hb7 : Below W.heap.size W w7 := hb5.drew.grown hg7 hb5.size (fun k hk => by cases hk; omega)
     have hz7 : NumX w7 bn (q + 1) (bothG (fun a => min (Dt.get la a) (Dt.get lb a)) (seenL Dx Dy Dy 1 (fun z => left z && !z.sameKey (kl (a0, a1))))) := NumX.congr' (show NumX w7 bn (q + 1) _ from ⟨_, hN7⟩) (fun a ha => (bothG_upd (p := (fun a => min (Dt.get la a) (Dt.get lb a))) hok a ha).trans (bothG_seen (fun a ha => seenL_step hok hhas a ha) a ha))
     have G1 := Lib.hid hx7; have G2 := Lib.hid hy7; have G3 := Lib.hid hr7; have G4 := Lib.hid hb7; have G5 := Lib.hid hz7; have Hlt1 := Lib.hid hlt1
     have Hlx := Lib.hid hlx; have Hly := Lib.hid hly; have Hup := Lib.hid hup
     clear hok hhas hx4 hy4 hz4 hb4 hx5 hy5 hz5 hr5 hb5 hx6 hy6 hz6 hr6 hN7 hg7 hx7 hy7 hr7 hb7 hz7 hlk hv hat hrg1 hg1 hs1 hkey hen hlx hly hup hfx hc hlt1
     have hen := Hen.out; clear Hen
     go_wp2_with fail
     clear hen
     have hlx := Hlx.out; have hly := Hly.out
     refine still_tail 10 (by kernel_rfl) (by kernel_rfl) ?_
     simp only [List.take_succ_cons, List.take_zero, List.drop_succ_cons, List.drop_zero]
     repeat still_step
     refine wpStill_step (fun K hK => ?_)
     go_simp
     refine ⟨_, pickM _ _ _, hK _ ?_⟩
     clear hK K
     refine wpStill_nil ?_
     clear hlx hly
     have hup := Hup.out
     go_wp2_with fail
     clear hup
     go_roundw
     case rel =>
      repeat apply Exists.intro
      exact ⟨⟨_, _, _, G3.out, G1.out, G2.out, G5.out, by have := Hq.out; have := Hlt1.out; omega, G4.out⟩, rfl⟩
     case measure => rw [G3.out.left_eq, Hrg.out.left_eq]; exact Hlt1.out
  ·have hfin : NumX wr bn (2 * (n + m)) (fun a => min (Dt.get la a) (Dt.get lb a)) := Hz.out.congr' (both_all Hx.out.2 Hy.out.2 (fun a h1 h2 => by simp [h1, h2]))
   have Hfin := Lib.hid hfin; clear hfin
   go_wp2_with fail
   refine (vector_any bn (2 * (n + m)) _ _ Hfin.out (by omega) (fun a _ h => ?_)).mono ?_
   ·have h1 : 0 < Dt.get la a ∨ 0 < Dt.get lb a := by omega
    exact h1.elim Dt.get_may Dt.get_may
   rintro e w5 ⟨a2, c2, rfl, hr2, hb2⟩
   have HR2 := Lib.hid hr2; have Hb2 := Lib.hid hb2
   clear hr2 hb2
   go_wp2_with fail
   go_ret
   exact ⟨a2, c2, rfl, HR2.out, Hbel.out.trans (Hb2.out.mono Hbel.out.size)⟩
end Go.Proofs.YtiiidmphmojlgaaGreat
namespace Go.Proofs.YtiiidmphmojlgaaGreat
open Go.RowKit Go.Maps
theorem below_drewN {B : Nat} {w w' : World} (h : Below B w w') (q : Nat) : Below B w (w'.drewN q) := ⟨h.os, h.tape, h.output, h.size, h.block⟩
theorem Nums.drewN {w : World} {b n : Nat} {D : DataW Unit} {f : Dt.Ac → Nat} (h : Nums w b n D f) (q : Nat) : Nums (w.drewN q) b n D f := h.kept (row := none) ⟨rfl, rfl, rfl, Nat.le_refl _, fun _ _ _ => rfl⟩ (by simp)
set_option maxRecDepth 100000 in
set_option maxHeartbeats 1000000 in
theorem withinClosure (x : Bool) (d : Dt.Dot) (c b n : Nat) (f : Dt.Ac → Nat) (w : World) (hm : Dt.okD d) (h0 : w.cell? ⟨c, 0, none⟩ = some (.map (some b))) (h : NumX w b n f) :
  Calls Tryz.prog 104 #[.bool x, dotV d, .pointer (some ⟨c, 0, none⟩)] w fun e w' => e = .returned (.bool (x && decide (d.2 ≤ f d.1))) ∧ Below w.heap.size w w' := by
 obtain ⟨D, hD⟩ := h
 obtain ⟨⟨r, i⟩, s⟩ := d
 have hok : okAc (r, i) := ⟨hm.1, hm.2.1⟩
 have hclt := World.block_lt_of_cell? _ _ h0
 simp only at hclt
 have hlk : ∀ q, (Instr.lookup 96 (.map (some b)) (acV (r, i)) false).run Tryz.prog ((w.alloc (.cells #[.int .u8 (r : Int), .int .u32 (i : Int), .int .u64 (s : Int)] 27)).drewN q) = .ok (.int .u64 (f (r, i) : Nat)) ((w.alloc (.cells #[.int .u8 (r : Int), .int .u32 (i : Int), .int .u64 (s : Int)] 27)).drewN q) := fun q =>
  Nums.lookup (Nums.drewN (hD.kept (World.grownBy_alloc w (.cells #[.int .u8 (r : Int), .int .u32 (i : Int), .int .u64 (s : Int)] 27) none) (by simp)) q) hok
 clear hD
 cases x
 ·clear hlk
  go_enter Tryz.func104, Tryz.ntmps104
  go_wp2
  go_quiet (fail)
  go_wp2
  go_ret
  exact ⟨ret_bool (by simp), below_drewN ((Below.refl _ _).alloc (Nat.le_refl _) _) _⟩
 ·by_cases hle : s ≤ f (r, i)
  ·go_enter Tryz.func104, Tryz.ntmps104
   go_wp2
   go_quiet (fail)
   go_wp2
   go_ret
   exact ⟨ret_bool (by simp [hle]), below_drewN ((Below.refl _ _).alloc (Nat.le_refl _) _) _⟩
  ·go_enter Tryz.func104, Tryz.ntmps104
   go_wp2
   go_quiet (fail)
   go_wp2
   go_ret
   exact ⟨ret_bool (by simp [hle]), below_drewN ((Below.refl _ _).alloc (Nat.le_refl _) _) _⟩
def withF (f : Dt.Ac → Nat) (l : List Dt.Dot) (k : Nat) : Bool := (l.take k).all fun d => !Dt.may d || decide (d.2 ≤ f d.1)
theorem withF_succ {f : Dt.Ac → Nat} {l : List Dt.Dot} {k : Nat} {d : Dt.Dot} (hd : l[k]? = some d) : withF f l (k + 1) = (withF f l k && (!Dt.may d || decide (d.2 ≤ f d.1))) := by
 unfold withF
 obtain ⟨hk, rfl⟩ := List.getElem?_eq_some_iff.1 hd
 rw [List.take_succ_eq_append_getElem hk, List.all_append]; simp
set_option maxRecDepth 100000 in
set_option maxHeartbeats 1600000 in
theorem throughB (a : Option Addr) (n cap c b q : Nat) (f : Dt.Ac → Nat) (l : List Dt.Dot) (w : World) (hr : VRow w a cap l) (hl : l.length = n) (h0 : w.cell? ⟨c, 0, none⟩ = some (.map (some b))) (h1 : NumX w b q f) :
  Calls Tryz.prog 103 #[.slice a n cap, .bool true, .func (.func 104) #[] #[.pointer (some ⟨c, 0, none⟩)]] w fun e w' => e = .returned (.bool (withF f l n)) ∧ Below w.heap.size w w' := by
 have hle := hr.le
 have hcap := hr.cap
 have hb := World.block_lt_of_cell? _ _ h0
 have HR := Lib.hid hr; have HL := Lib.hid hl; have H0 := Lib.hid h0; have H1 := Lib.hid h1; have HB := Lib.hid hb
 rw [hl] at hle
 clear hr hl h0 h1 hb
 go_enter Tryz.func103, Tryz.ntmps103
 go_wp2
 go_loopw [1, 8, 11] (fun u _ i wr => ∃ k : Nat, k ≤ n ∧ i = .int .i64 k ∧ u = .bool (withF f l k) ∧ Below w.heap.size w wr) (fun _ _ i _ => n - (intOf i).toNat)
 case atStart => exact ⟨0, Nat.zero_le _, rfl, rfl, Below.refl _ _⟩
 case round =>
  obtain ⟨k, hk, rfl, rfl, hbel⟩ := hrel
  have HBel := Lib.hid hbel; clear hbel
  by_cases hlt : k < n
  ·obtain ⟨d, hd⟩ := getD_some (l := l) (i := k) (by rw [HL.out]; exact hlt)
   have hokd := HR.out.ok d (List.mem_of_getElem? hd)
   obtain ⟨blk, off, rfl, hblk, hcells⟩ := HR.out.at (by rw [HL.out]; omega)
   obtain ⟨g0, g1, g2⟩ := hcells k d hd
   have q0 := (HBel.out.cell (p := ⟨blk, off + k * 3, none⟩) hblk).trans g0
   have q1 := (HBel.out.cell (p := ⟨blk, off + k * 3 + 1, none⟩) hblk).trans g1
   have q2 := (HBel.out.cell (p := ⟨blk, off + k * 3 + 2, none⟩) hblk).trans g2
   have Hs := Lib.hid (withF_succ (f := f) hd)
   have HO := Lib.hid hokd
   obtain ⟨⟨r, i⟩, s⟩ := d
   simp only at q0 q1 q2
   clear hcells g0 g1 g2 hd hokd
   generalize hu : withF f l k = u at Hs ⊢
   clear hu
   cases hm : Dt.may ((r, i), s)
   ·have Hm := Lib.hid hm
    go_wp2_with fail
    refine (may_any r i s _).mono ?_
    rintro e w1 ⟨rfl, hb⟩
    go_wp2_with fail
    clear q0 q1 q2 hm
    go_roundw
    case rel => exact ⟨k + 1, by omega, by go_num, by rw [Hs.out, Hm.out]; simp, HBel.out.trans (((Below.refl _ _).alloc HBel.out.size _).trans (hb.mono (by have := HBel.out.size; simp; omega)))⟩
    case measure => simp [intOf]; omega
   ·go_wp2_with fail
    refine (may_any r i s _).mono ?_
    rintro e w1 ⟨rfl, hb⟩
    obtain ⟨hc, hf⟩ := bcell hb
    have hb2 : Below w.heap.size w w1 := HBel.out.trans (((Below.refl _ _).alloc HBel.out.size _).trans (hb.mono (by have := HBel.out.size; simp; omega)))
    have c0 := (hb2.cell (p := ⟨c, 0, none⟩) HB.out).trans H0.out
    have Hb := Lib.hid hb2; have C0 := Lib.hid c0; have Hm := Lib.hid hm
    clear hb2 c0
    go_wp2_with fail
    refine (withinClosure _ ((r, i), s) c b q f _ HO.out C0.out (H1.out.below Hb.out)).mono ?_
    rintro e w2 ⟨rfl, hb3⟩
    clear hc hf q0 q1 q2 hm
    go_wp2_with fail
    go_roundw
    case rel => exact ⟨k + 1, by omega, by go_num, by rw [Hs.out, Hm.out]; simp, Hb.out.trans (hb3.mono Hb.out.size)⟩
    case measure => simp [intOf]; omega
  ·have hfin : withF f l k = withF f l n := by rw [show k = n from by omega]
   have Hfin := Lib.hid hfin; clear hfin
   go_wp2
   go_ret
   exact ⟨ret_bool (by first | rfl | rw [Hfin.out]), HBel.out⟩
set_option maxHeartbeats 400000 in
theorem within_any (a : Option Addr) (n cap : Nat) (la : List Dt.Dot) (c : Option Addr) (m capc : Nat) (lb : List Dt.Dot) (W : World) (hr : VRow W a cap la) (hl : la.length = n) (hs : VRow W c capc lb) (hm : lb.length = m) (hn2 : m ≤ 100000000) :
  Calls Tryz.prog 64 #[.slice a n cap, .slice c m capc] W fun e w' => e = .returned (.bool (Dt.within la lb)) ∧ Below W.heap.size W w' := by
 have hw : withF (Dt.get lb) la n = Dt.within la lb := by unfold withF Dt.within; rw [List.take_of_length_le (by omega)]
 have HR := Lib.hid hr; have HL := Lib.hid hl; have HS := Lib.hid hs; have HM := Lib.hid hm; have HW := Lib.hid hw
 clear hr hl hs hm hw
 go_enter Tryz.func64, Tryz.ntmps64
 go_wp2_with fail
 refine (stands_any c m capc lb W HS.out HM.out hn2).mono ?_
 rintro e w1 ⟨b, rfl, hN, hB, hb⟩
 have HN := Lib.hid hN; have HB := Lib.hid hB; have Hb := Lib.hid hb
 clear hN hB hb
 go_wp2_with fail
 refine (throughB a n cap w1.heap.size b m _ la _ (HR.out.below (Hb.out.trans ((Below.refl _ _).alloc Hb.out.size _))) HL.out (by simp) (HN.out.below ((Below.refl _ _).alloc (Nat.le_refl _) _))).mono ?_
 rintro e w2 ⟨rfl, hb2⟩
 have Hb2 := Lib.hid hb2; clear hb2
 go_wp2_with fail
 go_ret
 exact ⟨ret_bool (by first | exact HW.out | rw [HW.out]), Hb.out.trans (((Below.refl _ _).alloc Hb.out.size _).trans (Hb2.out.mono (by have := Hb.out.size; simp; omega)))⟩
end Go.Proofs.YtiiidmphmojlgaaGreat
