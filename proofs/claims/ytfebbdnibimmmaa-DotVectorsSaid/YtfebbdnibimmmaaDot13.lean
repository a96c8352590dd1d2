import Derived.Test.YtfebbdnibimmmaaDot12
namespace Go.Proofs.Ytfebbdnibimmmaa
open Go.RowKit Go.Maps
def seenK (Dx Dy : DataW Unit) (k : Nat) : Lit → Bool := fun z => (decide (1 ≤ k) && Maps.has Dx z) || (decide (2 ≤ k) && Maps.has Dy z)
def seenL (Dx Dy Dm : DataW Unit) (k : Nat) (left : Lit → Bool) : Lit → Bool := fun z => seenK Dx Dy k z || (Maps.has Dm z && !left z)
theorem seenL_start (Dx Dy Dm : DataW Unit) (k : Nat) : seenL Dx Dy Dm k (Maps.has Dm) = seenK Dx Dy k := by funext z; unfold seenL; cases Maps.has Dm z <;> simp
theorem seenL_step {Dx Dy Dm : DataW Unit} {k : Nat} {left : Lit → Bool} {x : Dt.Ac} (hx : okAc x) (hh : Maps.has Dm (kl x) = true) : ∀ a, okAc a → (seenL Dx Dy Dm k left (kl a) || (kl a).sameKey (kl x)) = seenL Dx Dy Dm k (fun z => left z && !z.sameKey (kl x)) (kl a) := by
  intro a ha
  unfold seenL
  by_cases e : a = x
  · subst e
    have := WideAt.sameKey_self (actLaw.key (keyOf_act ha))
    simp [this, hh]
  · have := sameKey_ne (fun g => e (kl_inj ha hx g))
    simp [this]
theorem seenL_end0 {Dx Dy : DataW Unit} {left : Lit → Bool} (hl : ∀ z, left z = false) : seenL Dx Dy Dx 0 left = seenK Dx Dy 1 := by funext z; unfold seenL seenK; simp [hl]
theorem seenL_end1 {Dx Dy : DataW Unit} {left : Lit → Bool} (hl : ∀ z, left z = false) : seenL Dx Dy Dy 1 left = seenK Dx Dy 2 := by funext z; unfold seenL seenK; simp [hl]
theorem bothG_seen {p : Dt.Ac → Nat} {s s' : Lit → Bool} (h : ∀ a, okAc a → s (kl a) = s' (kl a)) : ∀ a, okAc a → bothG p s a = bothG p s' a := by
  intro a ha; unfold bothG; rw [h a ha]
theorem both_all {p : Dt.Ac → Nat} {Dx Dy : DataW Unit} {fx fy : Dt.Ac → Nat} (hx : ∀ a, okAc a → Dx.atKey (kl a) (.lit (.int .u64 0)) = .lit (.int .u64 (fx a : Nat))) (hy : ∀ a, okAc a → Dy.atKey (kl a) (.lit (.int .u64 0)) = .lit (.int .u64 (fy a : Nat)))
    (h0 : ∀ a, fx a = 0 → fy a = 0 → p a = 0) : ∀ a, okAc a → bothG p (seenK Dx Dy 2) a = p a := by
  intro a ha
  unfold bothG seenK
  cases h1 : Maps.has Dx (kl a)
  · cases h2 : Maps.has Dy (kl a)
    · have e1 := hx a ha
      have e2 := hy a ha
      rw [atKey_of_not_has h1] at e1
      rw [atKey_of_not_has h2] at e2
      simp only [DataW.lit.injEq, Lit.int.injEq, true_and] at e1 e2
      simp [h0 a (by omega) (by omega)]
    · simp
  · simp
theorem Nums.size_le {w : World} {b n : Nat} {D : DataW Unit} {f : Dt.Ac → Nat} (h : Nums w b n D f) : Maps.size D ≤ n := Go.Proofs.Ytfebbdnibimmmaa.size_le h.1
set_option maxRecDepth 100000 in
set_option maxHeartbeats 6400000 in
theorem bothJ (a : Option Addr) (n cap : Nat) (la : List Dt.Dot) (c : Option Addr) (m capc : Nat) (lb : List Dt.Dot) (W : World) (hr : VRow W a cap la) (hl : la.length = n) (hn : n ≤ 100000000) (hs : VRow W c capc lb) (hm : lb.length = m) (hn2 : m ≤ 100000000) :
    Calls Try.prog 38 #[.slice a n cap, .slice c m capc, .func (.func 39) #[] #[]] W (RetVec W (Dt.vec (fun a => max (Dt.get la a) (Dt.get lb a)))) := by
  have HR := Lib.hid hr; have HL := Lib.hid hl; have HS := Lib.hid hs; have HM := Lib.hid hm
  clear hr hl hs hm
  have hmm := @run_makeMap Try.prog
  go_enter Try.func38, Try.ntmps38
  go_wp2_with fail
  refine (stands_any a n cap la W HR.out HL.out hn).mono ?_
  rintro e w1 ⟨bx, rfl, hNx, hBx, hb1⟩
  have HNx := Lib.hid hNx; have HBx := Lib.hid hBx; have Hb1 := Lib.hid hb1
  clear hNx hBx hb1
  go_wp2_with fail
  refine (stands_any c m capc lb w1 (HS.out.below Hb1.out) HM.out hn2).mono ?_
  rintro e w2 ⟨bY, rfl, hNy, hBy, hb2⟩
  obtain ⟨Dx, hx⟩ := HNx.out
  obtain ⟨Dy, hy⟩ := hNy
  have hxlt := hx.lt
  have hx3 := (hx.below hb2).below (((Below.refl _ _).alloc (Nat.le_refl _) (.map #[] 0)))
  have hy3 := hy.below (((Below.refl _ _).alloc (Nat.le_refl _) (.map #[] 0)))
  have hz3 := Nums.made w2
  have hbb : Below W.heap.size W (w2.alloc (.map #[] 0)) := (Hb1.out.trans (hb2.mono Hb1.out.size)).alloc (Nat.le_trans Hb1.out.size hb2.size) _
  have hylt := hy.lt
  have hxy : bx < bY := by omega
  have hBl : W.heap.size ≤ bx := HBx.out
  have Hx3 := Lib.hid hx3; have Hy3 := Lib.hid hy3; have Hz3 := Lib.hid hz3; have Hbb := Lib.hid hbb
  have hbnY : bY < w2.heap.size := hylt
  clear hx hy hx3 hy3 hz3 hbb hxlt hylt HNx HBx Hb1 hBy hb2
  go_wp2_with fail
  obtain ⟨bn, hbn⟩ : ∃ bn, bn = w2.heap.size := ⟨_, rfl⟩
  rw [← hbn] at Hz3 hbnY ⊢
  generalize hw3 : w2.alloc (.map #[] 0) = w3 at Hx3 Hy3 Hz3 Hbb ⊢
  clear hw3 hbn
  have i0 : ∀ w : World, (Instr.index 71 (.agg #[.map (some bx), .map (some bY)]) (.int .i64 0)).run Try.prog w = .ok (.map (some bx)) w := fun _ => by kernel_rfl
  have i1 : ∀ w : World, (Instr.index 71 (.agg #[.map (some bx), .map (some bY)]) (.int .i64 1)).run Try.prog w = .ok (.map (some bY)) w := fun _ => by kernel_rfl
  go_loopw [21] (fun i wr => ∃ k : Nat, k ≤ 2 ∧ i = .int .i64 k ∧ Nums wr bx n Dx (Dt.get la) ∧ Nums wr bY m Dy (Dt.get lb) ∧ NumX wr bn (k * (n + m)) (bothG (fun a => max (Dt.get la a) (Dt.get lb a)) (seenK Dx Dy k)) ∧ Below W.heap.size W wr) (fun i _ => 2 - (intOf i).toNat)
  case atStart => exact ⟨0, by omega, rfl, Hx3.out, Hy3.out, NumX.congr' (NumX.mono (show NumX w3 bn 0 _ from ⟨_, Hz3.out⟩) (Nat.zero_le _)) (fun a _ => by simp [bothG, seenK]), Hbb.out⟩
  case round =>
    obtain ⟨k, hk, rfl, hx, hy, hz, hbel⟩ := hrel
    have Hx := Lib.hid hx; have Hy := Lib.hid hy; have Hz := Lib.hid hz; have Hbel := Lib.hid hbel
    clear hx hy hz hbel
    obtain rfl | rfl | rfl : k = 0 ∨ k = 1 ∨ k = 2 := by omega
    · obtain ⟨wo, rfl⟩ : ∃ wo : World, wo = wr := ⟨_, rfl⟩
      go_wp2_with (at_range; refine wpList_range_own _ rfl _ 52 rfl 26 27 actLaw Try.underlying52 _ bx n Dx rfl Hx.out.1 ?_; intro w0 hrg0 hg0 hs0)
      go_frame
      obtain ⟨r, hrr⟩ : ∃ r, r = wo.heap.size := ⟨_, rfl⟩
      rw [← hrr] at hrg0 hs0 ⊢
      have hx0 := Hx.out.kept hg0 (by simp); have hy0 := Hy.out.kept hg0 (by simp); have hz0 := Hz.out.kept hg0 (by simp)
      have hb0 : Below W.heap.size W w0 := Hbel.out.grown hg0 Hbel.out.size (by simp)
      have hrx : bx < r := by rw [hrr]; exact Hx.out.lt
      have hry : bY < r := by rw [hrr]; exact Hy.out.lt
      have hrn : bn < r := by rw [hrr]; exact Hz.out.lt
      have Hr0 := Lib.hid hrg0; have Hx0 := Lib.hid hx0; have Hy0 := Lib.hid hy0; have Hz0 := Lib.hid hz0; have Hb0 := Lib.hid hb0
      have hsz := Hx.out.size_le
      clear hrg0 hg0 hs0 hx0 hy0 hz0 hb0 hrr
      go_loopw [26] (fun _ wr => ∃ (left : Lit → Bool) (cnt q : Nat), wr.ranges Try.prog 26 (plainElem Try.prog 27) bx r n Dx left cnt ∧ Nums wr bx n Dx (Dt.get la) ∧ Nums wr bY m Dy (Dt.get lb) ∧ NumX wr bn q (bothG (fun a => max (Dt.get la a) (Dt.get lb a)) (seenL Dx Dy Dx 0 left)) ∧ q + cnt ≤ 1 * (n + m) ∧ Below W.heap.size W wr) (fun _ wr => wr.rangeLeft bx r)
      case atStart => exact ⟨_, _, _, Hr0.out, Hx0.out, Hy0.out, Hz0.out.congr' (by rw [seenL_start]; exact fun _ _ => rfl), by omega, Hb0.out⟩
      case round =>
        obtain ⟨left, cnt, q, hrg, hx, hy, hz, hq, hbel⟩ := hrel
        have Hrg := Lib.hid hrg; have Hx1 := Lib.hid hx; have Hy1 := Lib.hid hy; have Hz1 := Lib.hid hz; have Hq := Lib.hid hq; have Hbel1 := Lib.hid hbel
        clear hrg hx hy hz hq hbel
        go_wp2_with (at_next; refine wpList_next_ranges _ rfl _ rfl 26 actLaw (plainElem Try.prog 27) (fun a : Dt.Ac => acV a) (fun c : Nat => .int .u64 (c : Int)) ?k1 ?k2 bx r n Dx left cnt rfl Hrg.out ?k3 ?k4)
        case k1 =>
          intro key l hk
          obtain ⟨a, _, e, _⟩ := keyOf_act_inv hk
          exact ⟨a, e⟩
        case k2 =>
          intro v y hv
          obtain ⟨c, e, _, hw⟩ := plainElem_int_inv Try.underlying27 hv
          obtain ⟨c, rfl⟩ := Int.eq_ofNat_of_zero_le (bounds_u64 hw).1
          exact ⟨c, e⟩
        case k3 =>
          intro hc0 hl0
          have Hl := Lib.hid hl0; clear hl0 hc0
          go_wp2_with fail
          go_roundw
          case rel => exact ⟨1, by omega, rfl, Hx1.out, Hy1.out, (Hz1.out.mono (by have := Hq.out; omega)).congr' (by rw [seenL_end0 Hl.out]; exact fun _ _ => rfl), Hbel1.out⟩
          case measure => simp [intOf]
        case k4 =>
          intro a0 a1 c l y1 y2 w4 cnt1 hkey hlk hv hat hrg1 hlt1 hg1 hs1 hen
          obtain ⟨hok, rfl, hfx, hc⟩ := entry_facts Hx1.out.2 hkey hv hat
          have hhas := has_of_left hat
          have hx4 := Hx1.out.kept hg1 (fun e => by have := Option.some.inj e; omega); have hy4 := Hy1.out.kept hg1 (fun e => by have := Option.some.inj e; omega)
          have hz4 := Hz1.out.kept hg1 (fun e => by have := Option.some.inj e; omega)
          have hb4 : Below W.heap.size W w4 := Hbel1.out.grown hg1 Hbel1.out.size (fun k hk => by cases hk; omega)
          have Hen := Lib.hid hen
          have hx5 := hx4.kept ((World.grownBy_alloc w4 (.cells #[.int .u8 (a0 : Int), .int .u32 (a1 : Int)] 26) none)) (by simp)
          have hy5 := hy4.kept ((World.grownBy_alloc w4 (.cells #[.int .u8 (a0 : Int), .int .u32 (a1 : Int)] 26) none)) (by simp)
          have hz5 := hz4.kept ((World.grownBy_alloc w4 (.cells #[.int .u8 (a0 : Int), .int .u32 (a1 : Int)] 26) none)) (by simp)
          have hr5 := hrg1.alloc (.cells #[.int .u8 (a0 : Int), .int .u32 (a1 : Int)] 26)
          have hb5 := hb4.alloc hb4.size (.cells #[.int .u8 (a0 : Int), .int .u32 (a1 : Int)] 26)
          have hx6 := hx5.below (Below.refl _ _).drew
          have hy6 := hy5.below (Below.refl _ _).drew
          have hz6 := hz5.below (Below.refl _ _).drew
          have hr6 := hr5.kept (row := none) (Go.Buf.grown_of_below (Below.refl _ _).drew) (by simp) (by simp)
          have hlx := hx6.lookup hok
          have hly := hy6.lookup hok
          obtain ⟨Dz, hz6⟩ := hz6
          obtain ⟨w7, hup, hN7, hg7⟩ := hz6.update hok (x := max (Dt.get la (a0, a1)) (Dt.get lb (a0, a1))) (by have := Dt.get_le la (a0, a1); have := Dt.get_le lb (a0, a1); omega) (by have := Hq.out; unfold maxLen; omega)
          have hx7 := hx6.kept hg7 (fun e => by have := Option.some.inj e; omega); have hy7 := hy6.kept hg7 (fun e => by have := Option.some.inj e; omega)
          have hr7 := hr6.kept hg7 (fun e => by have := Option.some.inj e; omega) (fun e => by have := Option.some.inj e; omega)
          have hb7 : Below W.heap.size W w7 := hb5.drew.grown hg7 hb5.size (fun k hk => by cases hk; omega)
          have hz7 : NumX w7 bn (q + 1) (bothG (fun a => max (Dt.get la a) (Dt.get lb a)) (seenL Dx Dy Dx 0 (fun z => left z && !z.sameKey (kl (a0, a1))))) := NumX.congr' (show NumX w7 bn (q + 1) _ from ⟨_, hN7⟩) (fun a ha => (bothG_upd (p := (fun a => max (Dt.get la a) (Dt.get lb a))) hok a ha).trans (bothG_seen (fun a ha => seenL_step hok hhas a ha) a ha))
          have G1 := Lib.hid hx7; have G2 := Lib.hid hy7; have G3 := Lib.hid hr7; have G4 := Lib.hid hb7; have G5 := Lib.hid hz7; have Hlt1 := Lib.hid hlt1
          have Hlx := Lib.hid hlx; have Hly := Lib.hid hly; have Hup := Lib.hid hup
          clear hok hhas hx4 hy4 hz4 hb4 hx5 hy5 hz5 hr5 hb5 hx6 hy6 hz6 hr6 hN7 hg7 hx7 hy7 hr7 hb7 hz7 hlk hv hat hrg1 hg1 hs1 hkey hen hlx hly hup hfx hc hlt1
          have hen := Hen.out; clear Hen
          go_wp2_with fail
          clear hen
          have hlx := Hlx.out; have hly := Hly.out
          refine still_tail 10 (by kernel_rfl) (by kernel_rfl) ?_
          simp only [List.take_succ_cons, List.take_zero, List.drop_succ_cons, List.drop_zero]
          repeat still_step
          refine wpStill_step (fun K hK => ?_)
          go_simp
          refine ⟨_, pickJ _ _ _, hK _ ?_⟩
          clear hK K
          refine wpStill_nil ?_
          clear hlx hly
          have hup := Hup.out
          go_wp2_with fail
          clear hup
          go_roundw
          case rel =>
            repeat apply Exists.intro
            exact ⟨⟨_, _, _, G3.out, G1.out, G2.out, G5.out, by have := Hq.out; have := Hlt1.out; omega, G4.out⟩, rfl⟩
          case measure => rw [G3.out.left_eq, Hrg.out.left_eq]; exact Hlt1.out
    · obtain ⟨wo, rfl⟩ : ∃ wo : World, wo = wr := ⟨_, rfl⟩
      go_wp2_with (at_range; refine wpList_range_own _ rfl _ 52 rfl 26 27 actLaw Try.underlying52 _ bY m Dy rfl Hy.out.1 ?_; intro w0 hrg0 hg0 hs0)
      go_frame
      obtain ⟨r, hrr⟩ : ∃ r, r = wo.heap.size := ⟨_, rfl⟩
      rw [← hrr] at hrg0 hs0 ⊢
      have hx0 := Hx.out.kept hg0 (by simp); have hy0 := Hy.out.kept hg0 (by simp); have hz0 := Hz.out.kept hg0 (by simp)
      have hb0 : Below W.heap.size W w0 := Hbel.out.grown hg0 Hbel.out.size (by simp)
      have hrx : bx < r := by rw [hrr]; exact Hx.out.lt
      have hry : bY < r := by rw [hrr]; exact Hy.out.lt
      have hrn : bn < r := by rw [hrr]; exact Hz.out.lt
      have Hr0 := Lib.hid hrg0; have Hx0 := Lib.hid hx0; have Hy0 := Lib.hid hy0; have Hz0 := Lib.hid hz0; have Hb0 := Lib.hid hb0
      have hsz := Hy.out.size_le
      clear hrg0 hg0 hs0 hx0 hy0 hz0 hb0 hrr
      go_loopw [26] (fun _ wr => ∃ (left : Lit → Bool) (cnt q : Nat), wr.ranges Try.prog 26 (plainElem Try.prog 27) bY r m Dy left cnt ∧ Nums wr bx n Dx (Dt.get la) ∧ Nums wr bY m Dy (Dt.get lb) ∧ NumX wr bn q (bothG (fun a => max (Dt.get la a) (Dt.get lb a)) (seenL Dx Dy Dy 1 left)) ∧ q + cnt ≤ 2 * (n + m) ∧ Below W.heap.size W wr) (fun _ wr => wr.rangeLeft bY r)
      case atStart => exact ⟨_, _, _, Hr0.out, Hx0.out, Hy0.out, Hz0.out.congr' (by rw [seenL_start]; exact fun _ _ => rfl), by omega, Hb0.out⟩
      case round =>
        obtain ⟨left, cnt, q, hrg, hx, hy, hz, hq, hbel⟩ := hrel
        have Hrg := Lib.hid hrg; have Hx1 := Lib.hid hx; have Hy1 := Lib.hid hy; have Hz1 := Lib.hid hz; have Hq := Lib.hid hq; have Hbel1 := Lib.hid hbel
        clear hrg hx hy hz hq hbel
        go_wp2_with (at_next; refine wpList_next_ranges _ rfl _ rfl 26 actLaw (plainElem Try.prog 27) (fun a : Dt.Ac => acV a) (fun c : Nat => .int .u64 (c : Int)) ?k1 ?k2 bY r m Dy left cnt rfl Hrg.out ?k3 ?k4)
        case k1 =>
          intro key l hk
          obtain ⟨a, _, e, _⟩ := keyOf_act_inv hk
          exact ⟨a, e⟩
        case k2 =>
          intro v y hv
          obtain ⟨c, e, _, hw⟩ := plainElem_int_inv Try.underlying27 hv
          obtain ⟨c, rfl⟩ := Int.eq_ofNat_of_zero_le (bounds_u64 hw).1
          exact ⟨c, e⟩
        case k3 =>
          intro hc0 hl0
          have Hl := Lib.hid hl0; clear hl0 hc0
          go_wp2_with fail
          go_roundw
          case rel => exact ⟨2, by omega, rfl, Hx1.out, Hy1.out, (Hz1.out.mono (by have := Hq.out; omega)).congr' (by rw [seenL_end1 Hl.out]; exact fun _ _ => rfl), Hbel1.out⟩
          case measure => simp [intOf]
        case k4 =>
          intro a0 a1 c l y1 y2 w4 cnt1 hkey hlk hv hat hrg1 hlt1 hg1 hs1 hen
          obtain ⟨hok, rfl, hfx, hc⟩ := entry_facts Hy1.out.2 hkey hv hat
          have hhas := has_of_left hat
          have hx4 := Hx1.out.kept hg1 (fun e => by have := Option.some.inj e; omega); have hy4 := Hy1.out.kept hg1 (fun e => by have := Option.some.inj e; omega)
          have hz4 := Hz1.out.kept hg1 (fun e => by have := Option.some.inj e; omega)
          have hb4 : Below W.heap.size W w4 := Hbel1.out.grown hg1 Hbel1.out.size (fun k hk => by cases hk; omega)
          have Hen := Lib.hid hen
          have hx5 := hx4.kept ((World.grownBy_alloc w4 (.cells #[.int .u8 (a0 : Int), .int .u32 (a1 : Int)] 26) none)) (by simp)
          have hy5 := hy4.kept ((World.grownBy_alloc w4 (.cells #[.int .u8 (a0 : Int), .int .u32 (a1 : Int)] 26) none)) (by simp)
          have hz5 := hz4.kept ((World.grownBy_alloc w4 (.cells #[.int .u8 (a0 : Int), .int .u32 (a1 : Int)] 26) none)) (by simp)
          have hr5 := hrg1.alloc (.cells #[.int .u8 (a0 : Int), .int .u32 (a1 : Int)] 26)
          have hb5 := hb4.alloc hb4.size (.cells #[.int .u8 (a0 : Int), .int .u32 (a1 : Int)] 26)
          have hx6 := hx5.below (Below.refl _ _).drew
          have hy6 := hy5.below (Below.refl _ _).drew
          have hz6 := hz5.below (Below.refl _ _).drew
          have hr6 := hr5.kept (row := none) (Go.Buf.grown_of_below (Below.refl _ _).drew) (by simp) (by simp)
          have hlx := hx6.lookup hok
          have hly := hy6.lookup hok
          obtain ⟨Dz, hz6⟩ := hz6
          obtain ⟨w7, hup, hN7, hg7⟩ := hz6.update hok (x := max (Dt.get la (a0, a1)) (Dt.get lb (a0, a1))) (by have := Dt.get_le la (a0, a1); have := Dt.get_le lb (a0, a1); omega) (by have := Hq.out; unfold maxLen; omega)
          have hx7 := hx6.kept hg7 (fun e => by have := Option.some.inj e; omega); have hy7 := hy6.kept hg7 (fun e => by have := Option.some.inj e; omega)
          have hr7 := hr6.kept hg7 (fun e => by have := Option.some.inj e; omega) (fun e => by have := Option.some.inj e; omega)
          have hb7 : Below W.heap.size W w7 := hb5.drew.grown hg7 hb5.size (fun k hk => by cases hk; omega)
          have hz7 : NumX w7 bn (q + 1) (bothG (fun a => max (Dt.get la a) (Dt.get lb a)) (seenL Dx Dy Dy 1 (fun z => left z && !z.sameKey (kl (a0, a1))))) := NumX.congr' (show NumX w7 bn (q + 1) _ from ⟨_, hN7⟩) (fun a ha => (bothG_upd (p := (fun a => max (Dt.get la a) (Dt.get lb a))) hok a ha).trans (bothG_seen (fun a ha => seenL_step hok hhas a ha) a ha))
          have G1 := Lib.hid hx7; have G2 := Lib.hid hy7; have G3 := Lib.hid hr7; have G4 := Lib.hid hb7; have G5 := Lib.hid hz7; have Hlt1 := Lib.hid hlt1
          have Hlx := Lib.hid hlx; have Hly := Lib.hid hly; have Hup := Lib.hid hup
          clear hok hhas hx4 hy4 hz4 hb4 hx5 hy5 hz5 hr5 hb5 hx6 hy6 hz6 hr6 hN7 hg7 hx7 hy7 hr7 hb7 hz7 hlk hv hat hrg1 hg1 hs1 hkey hen hlx hly hup hfx hc hlt1
          have hen := Hen.out; clear Hen
          go_wp2_with fail
          clear hen
          have hlx := Hlx.out; have hly := Hly.out
          refine still_tail 10 (by kernel_rfl) (by kernel_rfl) ?_
          simp only [List.take_succ_cons, List.take_zero, List.drop_succ_cons, List.drop_zero]
          repeat still_step
          refine wpStill_step (fun K hK => ?_)
          go_simp
          refine ⟨_, pickJ _ _ _, hK _ ?_⟩
          clear hK K
          refine wpStill_nil ?_
          clear hlx hly
          have hup := Hup.out
          go_wp2_with fail
          clear hup
          go_roundw
          case rel =>
            repeat apply Exists.intro
            exact ⟨⟨_, _, _, G3.out, G1.out, G2.out, G5.out, by have := Hq.out; have := Hlt1.out; omega, G4.out⟩, rfl⟩
          case measure => rw [G3.out.left_eq, Hrg.out.left_eq]; exact Hlt1.out
    · have hfin : NumX wr bn (2 * (n + m)) (fun a => max (Dt.get la a) (Dt.get lb a)) := Hz.out.congr' (both_all Hx.out.2 Hy.out.2 (fun a h1 h2 => by simp [h1, h2]))
      have Hfin := Lib.hid hfin; clear hfin
      go_wp2_with fail
      refine (vector_any bn (2 * (n + m)) _ _ Hfin.out (by omega) (fun a _ h => ?_)).mono ?_
      · have h1 : 0 < Dt.get la a ∨ 0 < Dt.get lb a := by omega
        exact h1.elim Dt.get_may Dt.get_may
      rintro e w5 ⟨a2, c2, rfl, hr2, hb2⟩
      have HR2 := Lib.hid hr2; have Hb2 := Lib.hid hb2
      clear hr2 hb2
      go_wp2_with fail
      go_ret
      exact ⟨a2, c2, rfl, HR2.out, Hbel.out.trans (Hb2.out.mono Hbel.out.size)⟩
set_option maxRecDepth 100000 in
set_option maxHeartbeats 6400000 in
theorem bothM (a : Option Addr) (n cap : Nat) (la : List Dt.Dot) (c : Option Addr) (m capc : Nat) (lb : List Dt.Dot) (W : World) (hr : VRow W a cap la) (hl : la.length = n) (hn : n ≤ 100000000) (hs : VRow W c capc lb) (hm : lb.length = m) (hn2 : m ≤ 100000000) :
    Calls Try.prog 38 #[.slice a n cap, .slice c m capc, .func (.func 40) #[] #[]] W (RetVec W (Dt.vec (fun a => min (Dt.get la a) (Dt.get lb a)))) := by
  have HR := Lib.hid hr; have HL := Lib.hid hl; have HS := Lib.hid hs; have HM := Lib.hid hm
  clear hr hl hs hm
  have hmm := @run_makeMap Try.prog
  go_enter Try.func38, Try.ntmps38
  go_wp2_with fail
  refine (stands_any a n cap la W HR.out HL.out hn).mono ?_
  rintro e w1 ⟨bx, rfl, hNx, hBx, hb1⟩
  have HNx := Lib.hid hNx; have HBx := Lib.hid hBx; have Hb1 := Lib.hid hb1
  clear hNx hBx hb1
  go_wp2_with fail
  refine (stands_any c m capc lb w1 (HS.out.below Hb1.out) HM.out hn2).mono ?_
  rintro e w2 ⟨bY, rfl, hNy, hBy, hb2⟩
  obtain ⟨Dx, hx⟩ := HNx.out
  obtain ⟨Dy, hy⟩ := hNy
  have hxlt := hx.lt
  have hx3 := (hx.below hb2).below (((Below.refl _ _).alloc (Nat.le_refl _) (.map #[] 0)))
  have hy3 := hy.below (((Below.refl _ _).alloc (Nat.le_refl _) (.map #[] 0)))
  have hz3 := Nums.made w2
  have hbb : Below W.heap.size W (w2.alloc (.map #[] 0)) := (Hb1.out.trans (hb2.mono Hb1.out.size)).alloc (Nat.le_trans Hb1.out.size hb2.size) _
  have hylt := hy.lt
  have hxy : bx < bY := by omega
  have hBl : W.heap.size ≤ bx := HBx.out
  have Hx3 := Lib.hid hx3; have Hy3 := Lib.hid hy3; have Hz3 := Lib.hid hz3; have Hbb := Lib.hid hbb
  have hbnY : bY < w2.heap.size := hylt
  clear hx hy hx3 hy3 hz3 hbb hxlt hylt HNx HBx Hb1 hBy hb2
  go_wp2_with fail
  obtain ⟨bn, hbn⟩ : ∃ bn, bn = w2.heap.size := ⟨_, rfl⟩
  rw [← hbn] at Hz3 hbnY ⊢
  generalize hw3 : w2.alloc (.map #[] 0) = w3 at Hx3 Hy3 Hz3 Hbb ⊢
  clear hw3 hbn
  have i0 : ∀ w : World, (Instr.index 71 (.agg #[.map (some bx), .map (some bY)]) (.int .i64 0)).run Try.prog w = .ok (.map (some bx)) w := fun _ => by kernel_rfl
  have i1 : ∀ w : World, (Instr.index 71 (.agg #[.map (some bx), .map (some bY)]) (.int .i64 1)).run Try.prog w = .ok (.map (some bY)) w := fun _ => by kernel_rfl
  go_loopw [21] (fun i wr => ∃ k : Nat, k ≤ 2 ∧ i = .int .i64 k ∧ Nums wr bx n Dx (Dt.get la) ∧ Nums wr bY m Dy (Dt.get lb) ∧ NumX wr bn (k * (n + m)) (bothG (fun a => min (Dt.get la a) (Dt.get lb a)) (seenK Dx Dy k)) ∧ Below W.heap.size W wr) (fun i _ => 2 - (intOf i).toNat)
  case atStart => exact ⟨0, by omega, rfl, Hx3.out, Hy3.out, NumX.congr' (NumX.mono (show NumX w3 bn 0 _ from ⟨_, Hz3.out⟩) (Nat.zero_le _)) (fun a _ => by simp [bothG, seenK]), Hbb.out⟩
  case round =>
    obtain ⟨k, hk, rfl, hx, hy, hz, hbel⟩ := hrel
    have Hx := Lib.hid hx; have Hy := Lib.hid hy; have Hz := Lib.hid hz; have Hbel := Lib.hid hbel
    clear hx hy hz hbel
    obtain rfl | rfl | rfl : k = 0 ∨ k = 1 ∨ k = 2 := by omega
    · obtain ⟨wo, rfl⟩ : ∃ wo : World, wo = wr := ⟨_, rfl⟩
      go_wp2_with (at_range; refine wpList_range_own _ rfl _ 52 rfl 26 27 actLaw Try.underlying52 _ bx n Dx rfl Hx.out.1 ?_; intro w0 hrg0 hg0 hs0)
      go_frame
      obtain ⟨r, hrr⟩ : ∃ r, r = wo.heap.size := ⟨_, rfl⟩
      rw [← hrr] at hrg0 hs0 ⊢
      have hx0 := Hx.out.kept hg0 (by simp); have hy0 := Hy.out.kept hg0 (by simp); have hz0 := Hz.out.kept hg0 (by simp)
      have hb0 : Below W.heap.size W w0 := Hbel.out.grown hg0 Hbel.out.size (by simp)
      have hrx : bx < r := by rw [hrr]; exact Hx.out.lt
      have hry : bY < r := by rw [hrr]; exact Hy.out.lt
      have hrn : bn < r := by rw [hrr]; exact Hz.out.lt
      have Hr0 := Lib.hid hrg0; have Hx0 := Lib.hid hx0; have Hy0 := Lib.hid hy0; have Hz0 := Lib.hid hz0; have Hb0 := Lib.hid hb0
      have hsz := Hx.out.size_le
      clear hrg0 hg0 hs0 hx0 hy0 hz0 hb0 hrr
      go_loopw [26] (fun _ wr => ∃ (left : Lit → Bool) (cnt q : Nat), wr.ranges Try.prog 26 (plainElem Try.prog 27) bx r n Dx left cnt ∧ Nums wr bx n Dx (Dt.get la) ∧ Nums wr bY m Dy (Dt.get lb) ∧ NumX wr bn q (bothG (fun a => min (Dt.get la a) (Dt.get lb a)) (seenL Dx Dy Dx 0 left)) ∧ q + cnt ≤ 1 * (n + m) ∧ Below W.heap.size W wr) (fun _ wr => wr.rangeLeft bx r)
      case atStart => exact ⟨_, _, _, Hr0.out, Hx0.out, Hy0.out, Hz0.out.congr' (by rw [seenL_start]; exact fun _ _ => rfl), by omega, Hb0.out⟩
      case round =>
        obtain ⟨left, cnt, q, hrg, hx, hy, hz, hq, hbel⟩ := hrel
        have Hrg := Lib.hid hrg; have Hx1 := Lib.hid hx; have Hy1 := Lib.hid hy; have Hz1 := Lib.hid hz; have Hq := Lib.hid hq; have Hbel1 := Lib.hid hbel
        clear hrg hx hy hz hq hbel
        go_wp2_with (at_next; refine wpList_next_ranges _ rfl _ rfl 26 actLaw (plainElem Try.prog 27) (fun a : Dt.Ac => acV a) (fun c : Nat => .int .u64 (c : Int)) ?k1 ?k2 bx r n Dx left cnt rfl Hrg.out ?k3 ?k4)
        case k1 =>
          intro key l hk
          obtain ⟨a, _, e, _⟩ := keyOf_act_inv hk
          exact ⟨a, e⟩
        case k2 =>
          intro v y hv
          obtain ⟨c, e, _, hw⟩ := plainElem_int_inv Try.underlying27 hv
          obtain ⟨c, rfl⟩ := Int.eq_ofNat_of_zero_le (bounds_u64 hw).1
          exact ⟨c, e⟩
        case k3 =>
          intro hc0 hl0
          have Hl := Lib.hid hl0; clear hl0 hc0
          go_wp2_with fail
          go_roundw
          case rel => exact ⟨1, by omega, rfl, Hx1.out, Hy1.out, (Hz1.out.mono (by have := Hq.out; omega)).congr' (by rw [seenL_end0 Hl.out]; exact fun _ _ => rfl), Hbel1.out⟩
          case measure => simp [intOf]
        case k4 =>
          intro a0 a1 c l y1 y2 w4 cnt1 hkey hlk hv hat hrg1 hlt1 hg1 hs1 hen
          obtain ⟨hok, rfl, hfx, hc⟩ := entry_facts Hx1.out.2 hkey hv hat
          have hhas := has_of_left hat
          have hx4 := Hx1.out.kept hg1 (fun e => by have := Option.some.inj e; omega); have hy4 := Hy1.out.kept hg1 (fun e => by have := Option.some.inj e; omega)
          have hz4 := Hz1.out.kept hg1 (fun e => by have := Option.some.inj e; omega)
          have hb4 : Below W.heap.size W w4 := Hbel1.out.grown hg1 Hbel1.out.size (fun k hk => by cases hk; omega)
          have Hen := Lib.hid hen
          have hx5 := hx4.kept ((World.grownBy_alloc w4 (.cells #[.int .u8 (a0 : Int), .int .u32 (a1 : Int)] 26) none)) (by simp)
          have hy5 := hy4.kept ((World.grownBy_alloc w4 (.cells #[.int .u8 (a0 : Int), .int .u32 (a1 : Int)] 26) none)) (by simp)
          have hz5 := hz4.kept ((World.grownBy_alloc w4 (.cells #[.int .u8 (a0 : Int), .int .u32 (a1 : Int)] 26) none)) (by simp)
          have hr5 := hrg1.alloc (.cells #[.int .u8 (a0 : Int), .int .u32 (a1 : Int)] 26)
          have hb5 := hb4.alloc hb4.size (.cells #[.int .u8 (a0 : Int), .int .u32 (a1 : Int)] 26)
          have hx6 := hx5.below (Below.refl _ _).drew
          have hy6 := hy5.below (Below.refl _ _).drew
          have hz6 := hz5.below (Below.refl _ _).drew
          have hr6 := hr5.kept (row := none) (Go.Buf.grown_of_below (Below.refl _ _).drew) (by simp) (by simp)
          have hlx := hx6.lookup hok
          have hly := hy6.lookup hok
          obtain ⟨Dz, hz6⟩ := hz6
          obtain ⟨w7, hup, hN7, hg7⟩ := hz6.update hok (x := min (Dt.get la (a0, a1)) (Dt.get lb (a0, a1))) (by have := Dt.get_le la (a0, a1); have := Dt.get_le lb (a0, a1); omega) (by have := Hq.out; unfold maxLen; omega)
          have hx7 := hx6.kept hg7 (fun e => by have := Option.some.inj e; omega); have hy7 := hy6.kept hg7 (fun e => by have := Option.some.inj e; omega)
          have hr7 := hr6.kept hg7 (fun e => by have := Option.some.inj e; omega) (fun e => by have := Option.some.inj e; omega)
          have hb7 : Below W.heap.size W w7 := hb5.drew.grown hg7 hb5.size (fun k hk => by cases hk; omega)
          have hz7 : NumX w7 bn (q + 1) (bothG (fun a => min (Dt.get la a) (Dt.get lb a)) (seenL Dx Dy Dx 0 (fun z => left z && !z.sameKey (kl (a0, a1))))) := NumX.congr' (show NumX w7 bn (q + 1) _ from ⟨_, hN7⟩) (fun a ha => (bothG_upd (p := (fun a => min (Dt.get la a) (Dt.get lb a))) hok a ha).trans (bothG_seen (fun a ha => seenL_step hok hhas a ha) a ha))
          have G1 := Lib.hid hx7; have G2 := Lib.hid hy7; have G3 := Lib.hid hr7; have G4 := Lib.hid hb7; have G5 := Lib.hid hz7; have Hlt1 := Lib.hid hlt1
          have Hlx := Lib.hid hlx; have Hly := Lib.hid hly; have Hup := Lib.hid hup
          clear hok hhas hx4 hy4 hz4 hb4 hx5 hy5 hz5 hr5 hb5 hx6 hy6 hz6 hr6 hN7 hg7 hx7 hy7 hr7 hb7 hz7 hlk hv hat hrg1 hg1 hs1 hkey hen hlx hly hup hfx hc hlt1
          have hen := Hen.out; clear Hen
          go_wp2_with fail
          clear hen
          have hlx := Hlx.out; have hly := Hly.out
          refine still_tail 10 (by kernel_rfl) (by kernel_rfl) ?_
          simp only [List.take_succ_cons, List.take_zero, List.drop_succ_cons, List.drop_zero]
          repeat still_step
          refine wpStill_step (fun K hK => ?_)
          go_simp
          refine ⟨_, pickM _ _ _, hK _ ?_⟩
          clear hK K
          refine wpStill_nil ?_
          clear hlx hly
          have hup := Hup.out
          go_wp2_with fail
          clear hup
          go_roundw
          case rel =>
            repeat apply Exists.intro
            exact ⟨⟨_, _, _, G3.out, G1.out, G2.out, G5.out, by have := Hq.out; have := Hlt1.out; omega, G4.out⟩, rfl⟩
          case measure => rw [G3.out.left_eq, Hrg.out.left_eq]; exact Hlt1.out
    · obtain ⟨wo, rfl⟩ : ∃ wo : World, wo = wr := ⟨_, rfl⟩
      go_wp2_with (at_range; refine wpList_range_own _ rfl _ 52 rfl 26 27 actLaw Try.underlying52 _ bY m Dy rfl Hy.out.1 ?_; intro w0 hrg0 hg0 hs0)
      go_frame
      obtain ⟨r, hrr⟩ : ∃ r, r = wo.heap.size := ⟨_, rfl⟩
      rw [← hrr] at hrg0 hs0 ⊢
      have hx0 := Hx.out.kept hg0 (by simp); have hy0 := Hy.out.kept hg0 (by simp); have hz0 := Hz.out.kept hg0 (by simp)
      have hb0 : Below W.heap.size W w0 := Hbel.out.grown hg0 Hbel.out.size (by simp)
      have hrx : bx < r := by rw [hrr]; exact Hx.out.lt
      have hry : bY < r := by rw [hrr]; exact Hy.out.lt
      have hrn : bn < r := by rw [hrr]; exact Hz.out.lt
      have Hr0 := Lib.hid hrg0; have Hx0 := Lib.hid hx0; have Hy0 := Lib.hid hy0; have Hz0 := Lib.hid hz0; have Hb0 := Lib.hid hb0
      have hsz := Hy.out.size_le
      clear hrg0 hg0 hs0 hx0 hy0 hz0 hb0 hrr
      go_loopw [26] (fun _ wr => ∃ (left : Lit → Bool) (cnt q : Nat), wr.ranges Try.prog 26 (plainElem Try.prog 27) bY r m Dy left cnt ∧ Nums wr bx n Dx (Dt.get la) ∧ Nums wr bY m Dy (Dt.get lb) ∧ NumX wr bn q (bothG (fun a => min (Dt.get la a) (Dt.get lb a)) (seenL Dx Dy Dy 1 left)) ∧ q + cnt ≤ 2 * (n + m) ∧ Below W.heap.size W wr) (fun _ wr => wr.rangeLeft bY r)
      case atStart => exact ⟨_, _, _, Hr0.out, Hx0.out, Hy0.out, Hz0.out.congr' (by rw [seenL_start]; exact fun _ _ => rfl), by omega, Hb0.out⟩
      case round =>
        obtain ⟨left, cnt, q, hrg, hx, hy, hz, hq, hbel⟩ := hrel
        have Hrg := Lib.hid hrg; have Hx1 := Lib.hid hx; have Hy1 := Lib.hid hy; have Hz1 := Lib.hid hz; have Hq := Lib.hid hq; have Hbel1 := Lib.hid hbel
        clear hrg hx hy hz hq hbel
        go_wp2_with (at_next; refine wpList_next_ranges _ rfl _ rfl 26 actLaw (plainElem Try.prog 27) (fun a : Dt.Ac => acV a) (fun c : Nat => .int .u64 (c : Int)) ?k1 ?k2 bY r m Dy left cnt rfl Hrg.out ?k3 ?k4)
        case k1 =>
          intro key l hk
          obtain ⟨a, _, e, _⟩ := keyOf_act_inv hk
          exact ⟨a, e⟩
        case k2 =>
          intro v y hv
          obtain ⟨c, e, _, hw⟩ := plainElem_int_inv Try.underlying27 hv
          obtain ⟨c, rfl⟩ := Int.eq_ofNat_of_zero_le (bounds_u64 hw).1
          exact ⟨c, e⟩
        case k3 =>
          intro hc0 hl0
          have Hl := Lib.hid hl0; clear hl0 hc0
          go_wp2_with fail
          go_roundw
          case rel => exact ⟨2, by omega, rfl, Hx1.out, Hy1.out, (Hz1.out.mono (by have := Hq.out; omega)).congr' (by rw [seenL_end1 Hl.out]; exact fun _ _ => rfl), Hbel1.out⟩
          case measure => simp [intOf]
        case k4 =>
          intro a0 a1 c l y1 y2 w4 cnt1 hkey hlk hv hat hrg1 hlt1 hg1 hs1 hen
          obtain ⟨hok, rfl, hfx, hc⟩ := entry_facts Hy1.out.2 hkey hv hat
          have hhas := has_of_left hat
          have hx4 := Hx1.out.kept hg1 (fun e => by have := Option.some.inj e; omega); have hy4 := Hy1.out.kept hg1 (fun e => by have := Option.some.inj e; omega)
          have hz4 := Hz1.out.kept hg1 (fun e => by have := Option.some.inj e; omega)
          have hb4 : Below W.heap.size W w4 := Hbel1.out.grown hg1 Hbel1.out.size (fun k hk => by cases hk; omega)
          have Hen := Lib.hid hen
          have hx5 := hx4.kept ((World.grownBy_alloc w4 (.cells #[.int .u8 (a0 : Int), .int .u32 (a1 : Int)] 26) none)) (by simp)
          have hy5 := hy4.kept ((World.grownBy_alloc w4 (.cells #[.int .u8 (a0 : Int), .int .u32 (a1 : Int)] 26) none)) (by simp)
          have hz5 := hz4.kept ((World.grownBy_alloc w4 (.cells #[.int .u8 (a0 : Int), .int .u32 (a1 : Int)] 26) none)) (by simp)
          have hr5 := hrg1.alloc (.cells #[.int .u8 (a0 : Int), .int .u32 (a1 : Int)] 26)
          have hb5 := hb4.alloc hb4.size (.cells #[.int .u8 (a0 : Int), .int .u32 (a1 : Int)] 26)
          have hx6 := hx5.below (Below.refl _ _).drew
          have hy6 := hy5.below (Below.refl _ _).drew
          have hz6 := hz5.below (Below.refl _ _).drew
          have hr6 := hr5.kept (row := none) (Go.Buf.grown_of_below (Below.refl _ _).drew) (by simp) (by simp)
          have hlx := hx6.lookup hok
          have hly := hy6.lookup hok
          obtain ⟨Dz, hz6⟩ := hz6
          obtain ⟨w7, hup, hN7, hg7⟩ := hz6.update hok (x := min (Dt.get la (a0, a1)) (Dt.get lb (a0, a1))) (by have := Dt.get_le la (a0, a1); have := Dt.get_le lb (a0, a1); omega) (by have := Hq.out; unfold maxLen; omega)
          have hx7 := hx6.kept hg7 (fun e => by have := Option.some.inj e; omega); have hy7 := hy6.kept hg7 (fun e => by have := Option.some.inj e; omega)
          have hr7 := hr6.kept hg7 (fun e => by have := Option.some.inj e; omega) (fun e => by have := Option.some.inj e; omega)
          have hb7 : Below W.heap.size W w7 := hb5.drew.grown hg7 hb5.size (fun k hk => by cases hk; omega)
          have hz7 : NumX w7 bn (q + 1) (bothG (fun a => min (Dt.get la a) (Dt.get lb a)) (seenL Dx Dy Dy 1 (fun z => left z && !z.sameKey (kl (a0, a1))))) := NumX.congr' (show NumX w7 bn (q + 1) _ from ⟨_, hN7⟩) (fun a ha => (bothG_upd (p := (fun a => min (Dt.get la a) (Dt.get lb a))) hok a ha).trans (bothG_seen (fun a ha => seenL_step hok hhas a ha) a ha))
          have G1 := Lib.hid hx7; have G2 := Lib.hid hy7; have G3 := Lib.hid hr7; have G4 := Lib.hid hb7; have G5 := Lib.hid hz7; have Hlt1 := Lib.hid hlt1
          have Hlx := Lib.hid hlx; have Hly := Lib.hid hly; have Hup := Lib.hid hup
          clear hok hhas hx4 hy4 hz4 hb4 hx5 hy5 hz5 hr5 hb5 hx6 hy6 hz6 hr6 hN7 hg7 hx7 hy7 hr7 hb7 hz7 hlk hv hat hrg1 hg1 hs1 hkey hen hlx hly hup hfx hc hlt1
          have hen := Hen.out; clear Hen
          go_wp2_with fail
          clear hen
          have hlx := Hlx.out; have hly := Hly.out
          refine still_tail 10 (by kernel_rfl) (by kernel_rfl) ?_
          simp only [List.take_succ_cons, List.take_zero, List.drop_succ_cons, List.drop_zero]
          repeat still_step
          refine wpStill_step (fun K hK => ?_)
          go_simp
          refine ⟨_, pickM _ _ _, hK _ ?_⟩
          clear hK K
          refine wpStill_nil ?_
          clear hlx hly
          have hup := Hup.out
          go_wp2_with fail
          clear hup
          go_roundw
          case rel =>
            repeat apply Exists.intro
            exact ⟨⟨_, _, _, G3.out, G1.out, G2.out, G5.out, by have := Hq.out; have := Hlt1.out; omega, G4.out⟩, rfl⟩
          case measure => rw [G3.out.left_eq, Hrg.out.left_eq]; exact Hlt1.out
    · have hfin : NumX wr bn (2 * (n + m)) (fun a => min (Dt.get la a) (Dt.get lb a)) := Hz.out.congr' (both_all Hx.out.2 Hy.out.2 (fun a h1 h2 => by simp [h1, h2]))
      have Hfin := Lib.hid hfin; clear hfin
      go_wp2_with fail
      refine (vector_any bn (2 * (n + m)) _ _ Hfin.out (by omega) (fun a _ h => ?_)).mono ?_
      · have h1 : 0 < Dt.get la a ∨ 0 < Dt.get lb a := by omega
        exact h1.elim Dt.get_may Dt.get_may
      rintro e w5 ⟨a2, c2, rfl, hr2, hb2⟩
      have HR2 := Lib.hid hr2; have Hb2 := Lib.hid hb2
      clear hr2 hb2
      go_wp2_with fail
      go_ret
      exact ⟨a2, c2, rfl, HR2.out, Hbel.out.trans (Hb2.out.mono Hbel.out.size)⟩
end Go.Proofs.Ytfebbdnibimmmaa
