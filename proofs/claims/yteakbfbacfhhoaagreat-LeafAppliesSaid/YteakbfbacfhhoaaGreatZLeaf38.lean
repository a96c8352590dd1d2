import Derived.Test.YteakbfbacfhhoaaGreatZLeaf35
import Derived.Test.YteakbfbacfhhoaaGreatZRegE
import Derived.Test.YteakbfbacfhhoaaGreatZLeaf4
namespace Go.Proofs.YteakbfbacfhhoaaGreat
open Go.RowKit Go.Buf Go.LB Go.Lib
set_option linter.unusedSimpArgs false
set_option linter.unusedVariables false
theorem litD1 (w : World) (d : Dt.Dot) (hd : Dt.okD d) (x y z : Int) (hx : x = d.1.1) (hy : y = d.1.2) (hz : z = d.2) :
  VRow (w.alloc (.cells #[.int .u8 x, .int .u32 y, .int .u64 z] 27)) (some ⟨w.heap.size, 0, none⟩) 1 [d] := by
 subst hx; subst hy; subst hz
 refine ⟨by simp, by omega, (fun q hq => by simp at hq; subst hq; exact hd), (fun e => by cases e), fun i q hq => ⟨_, rfl, ?_⟩⟩
 have hi : i < 1 := by have := (List.getElem?_eq_some_iff.1 hq).1; simpa using this
 obtain rfl : i = 0 := by omega
 simp at hq; subst hq
 simp [Addr.add]
theorem blk_alloc {w : World} {b : Nat} {t : TypeId} {cs : List Value} (h : Blk w b t cs) (o : Obj) : Blk (w.alloc o) b t cs := h.below ((Below.refl _ _).alloc (Nat.le_refl _) o)
theorem vrow_alloc {w : World} {a : Option Addr} {c : Nat} {l : List Dt.Dot} (h : VRow w a c l) (o : Obj) : VRow (w.alloc o) a c l := h.below ((Below.refl _ _).alloc (Nat.le_refl _) o)
theorem srow_alloc {w : World} {a : Option Addr} {c : Nat} {l : List ByteArray} (h : SRow w a c l) (o : Obj) : SRow (w.alloc o) a c l := h.below ((Below.refl _ _).alloc (Nat.le_refl _) o)
abbrev K.d1 : Dt.Dot := ((0, 1), 1)
abbrev K.d2 : Dt.Dot := ((0, 1), 2)
abbrev K.a : ByteArray := ⟨#[97]⟩
abbrev K.u : ByteArray := ⟨#[117]⟩
abbrev K.e1 : Om.E := ⟨K.d1, 1, ⟨3, [K.a], 0, K.u, []⟩⟩
abbrev K.e2 : Om.E := ⟨K.d2, 2, ⟨4, [K.a], 0, K.u, [K.d1]⟩⟩
abbrev K.l0 : Lm.L := ⟨3, 0, 0, ((0, 0), 0), ⟨#[]⟩, [], []⟩
abbrev K.l1 : Lm.L := ⟨3, 0, 0, ((0, 0), 0), ⟨#[]⟩, [(0, K.d1, K.u)], []⟩
abbrev K.l2 : Lm.L := ⟨3, 0, 0, ((0, 0), 0), ⟨#[]⟩, [], [K.d1]⟩
theorem K.r1 : Lm.apply K.l0 K.e1 = (K.l1, 0) := by kernel_rfl
theorem K.r2 : Lm.apply K.l1 K.e2 = (K.l2, 0) := by kernel_rfl
theorem K.r3 : Lm.apply K.l0 K.e2 = (K.l2, 0) := by kernel_rfl
theorem K.r4 : Lm.apply K.l2 K.e1 = (K.l2, 0) := by kernel_rfl
theorem ownI_leaf {B b : Nat} {w w' : World} {v : Value} {l : List Lm.It} {row : Option Nat} {cs : List Value} (h : OwnI B w v l row) (hb : Blk w b 31 cs) (hc : Chg (fun k => k = b) w w') : OwnI B w' v l row := by
 refine h.chg hc fun k e f => ?_
 subst f
 rcases h.2 with ⟨h1, _⟩ | ⟨g, _, _, h1, _, _, h2, _⟩
 ·rw [e] at h1; cases h1
 ·rw [e] at h1; cases h1
  exact absurd (blk_same hb h2).1 (by decide)
theorem ownD_leaf {B b : Nat} {w w' : World} {v : Value} {l : List Dt.Dot} {row : Option Nat} {cs : List Value} (h : OwnD B w v l row) (hb : Blk w b 31 cs) (hc : Chg (fun k => k = b) w w') : OwnD B w' v l row := by
 refine h.chg hc fun k e f => ?_
 subst f
 rcases h.2 with ⟨h1, _⟩ | ⟨g, _, _, h1, _, _, h2, _⟩
 ·rw [e] at h1; cases h1
 ·rw [e] at h1; cases h1
  exact absurd (blk_same hb h2).1 (by decide)
theorem ownI_at {B : Nat} {w : World} {a : Option Addr} {n c : Nat} {l : List Lm.It} {row : Option Nat} (h : OwnI B w (.slice a n c) l row) (hok : ∀ x ∈ l, okI x) : IRow w a c l := by
 obtain ⟨a', c', e, r⟩ := ownI_row h hok
 cases e; exact r
theorem ownD_at {B : Nat} {w : World} {a : Option Addr} {n c : Nat} {l : List Dt.Dot} {row : Option Nat} (h : OwnD B w (.slice a n c) l row) (hok : ∀ x ∈ l, Dt.okD x) : VRow w a c l := by
 obtain ⟨a', c', e, r⟩ := ownD_row h hok
 cases e; exact r
set_option maxRecDepth 100000 in
set_option maxHeartbeats 12800000 in
theorem known05_any (W : World) : Calls Tryz.prog 6 #[] W fun e w' => e = .returned (.bool true) ∧ Below W.heap.size W w' := by
 go_enter Tryz.func6, Tryz.ntmps6
 go_wp2_with fail
 obtain ⟨X, hX⟩ : ∃ X, X = (((((((W.alloc (.cells #[.int .u8 0, .int .u32 1, .int .u64 1] 27)).alloc (.cells #[.int .u8 0, .int .u32 1, .int .u64 2] 27)).alloc (.cells #[.string ⟨#[97]⟩] 9)).alloc (.cells #[.int .u8 0, .int .u32 1, .int .u64 1, .int .u64 1, .int .u8 3, .slice (some ⟨W.heap.size + 1 + 1, 0, none⟩) 1 1, .int .i64 0, .string ⟨#[117]⟩, .slice none 0 0] 36)).alloc (.cells #[.string ⟨#[97]⟩] 9)).alloc (.cells #[.int .u8 0, .int .u32 1, .int .u64 1] 27)).alloc (.cells #[.int .u8 0, .int .u32 1, .int .u64 2, .int .u64 2, .int .u8 4, .slice (some ⟨W.heap.size + 1 + 1 + 1 + 1, 0, none⟩) 1 1, .int .i64 0, .string ⟨#[117]⟩, .slice (some ⟨W.heap.size + 1 + 1 + 1 + 1 + 1, 0, none⟩) 1 1] 36)) := ⟨_, rfl⟩
 have hB : Below W.heap.size W X := by rw [hX]; exact Below.alloc (Below.alloc (Below.alloc (Below.alloc (Below.alloc (Below.alloc (Below.alloc (Below.refl W.heap.size W) (Nat.le_refl _) _) (by simp <;> omega) _) (by simp <;> omega) _) (by simp <;> omega) _) (by simp <;> omega) _) (by simp <;> omega) _) (by simp <;> omega) _
 have hsz : X.heap.size = W.heap.size + 1 + 1 + 1 + 1 + 1 + 1 + 1 := by rw [hX]; simp
 have hE1 : Blk X (W.heap.size + 1 + 1 + 1) 36 [.int .u8 0, .int .u32 1, .int .u64 1, .int .u64 1, .int .u8 3, .slice (some ⟨W.heap.size + 1 + 1, 0, none⟩) 1 1, .int .i64 0, .string ⟨#[117]⟩, .slice none 0 0] := by
  have h := Blk.new (((W.alloc (.cells #[.int .u8 0, .int .u32 1, .int .u64 1] 27)).alloc (.cells #[.int .u8 0, .int .u32 1, .int .u64 2] 27)).alloc (.cells #[.string ⟨#[97]⟩] 9)) #[.int .u8 0, .int .u32 1, .int .u64 1, .int .u64 1, .int .u8 3, .slice (some ⟨W.heap.size + 1 + 1, 0, none⟩) 1 1, .int .i64 0, .string ⟨#[117]⟩, .slice none 0 0] 36
  rw [World.size_alloc, World.size_alloc, World.size_alloc] at h; rw [hX]; exact blk_alloc (blk_alloc (blk_alloc (h) _) _) _
 have hE2 : Blk X (W.heap.size + 1 + 1 + 1 + 1 + 1 + 1) 36 [.int .u8 0, .int .u32 1, .int .u64 2, .int .u64 2, .int .u8 4, .slice (some ⟨W.heap.size + 1 + 1 + 1 + 1, 0, none⟩) 1 1, .int .i64 0, .string ⟨#[117]⟩, .slice (some ⟨W.heap.size + 1 + 1 + 1 + 1 + 1, 0, none⟩) 1 1] := by
  have h := Blk.new ((((((W.alloc (.cells #[.int .u8 0, .int .u32 1, .int .u64 1] 27)).alloc (.cells #[.int .u8 0, .int .u32 1, .int .u64 2] 27)).alloc (.cells #[.string ⟨#[97]⟩] 9)).alloc (.cells #[.int .u8 0, .int .u32 1, .int .u64 1, .int .u64 1, .int .u8 3, .slice (some ⟨W.heap.size + 1 + 1, 0, none⟩) 1 1, .int .i64 0, .string ⟨#[117]⟩, .slice none 0 0] 36)).alloc (.cells #[.string ⟨#[97]⟩] 9)).alloc (.cells #[.int .u8 0, .int .u32 1, .int .u64 1] 27)) #[.int .u8 0, .int .u32 1, .int .u64 2, .int .u64 2, .int .u8 4, .slice (some ⟨W.heap.size + 1 + 1 + 1 + 1, 0, none⟩) 1 1, .int .i64 0, .string ⟨#[117]⟩, .slice (some ⟨W.heap.size + 1 + 1 + 1 + 1 + 1, 0, none⟩) 1 1] 36
  rw [World.size_alloc, World.size_alloc, World.size_alloc, World.size_alloc, World.size_alloc, World.size_alloc] at h; rw [hX]; exact h
 have hP1 : SRow X (some ⟨W.heap.size + 1 + 1, 0, none⟩) 1 [K.a] := by
  have h := litS1 ((W.alloc (.cells #[.int .u8 0, .int .u32 1, .int .u64 1] 27)).alloc (.cells #[.int .u8 0, .int .u32 1, .int .u64 2] 27)) K.a (by decide)
  rw [World.size_alloc, World.size_alloc] at h; rw [hX]; exact srow_alloc (srow_alloc (srow_alloc (srow_alloc (h) _) _) _) _
 have hP2 : SRow X (some ⟨W.heap.size + 1 + 1 + 1 + 1, 0, none⟩) 1 [K.a] := by
  have h := litS1 ((((W.alloc (.cells #[.int .u8 0, .int .u32 1, .int .u64 1] 27)).alloc (.cells #[.int .u8 0, .int .u32 1, .int .u64 2] 27)).alloc (.cells #[.string ⟨#[97]⟩] 9)).alloc (.cells #[.int .u8 0, .int .u32 1, .int .u64 1, .int .u64 1, .int .u8 3, .slice (some ⟨W.heap.size + 1 + 1, 0, none⟩) 1 1, .int .i64 0, .string ⟨#[117]⟩, .slice none 0 0] 36)) K.a (by decide)
  rw [World.size_alloc, World.size_alloc, World.size_alloc, World.size_alloc] at h; rw [hX]; exact srow_alloc (srow_alloc (h) _) _
 have hD2 : VRow X (some ⟨W.heap.size + 1 + 1 + 1 + 1 + 1, 0, none⟩) 1 [K.d1] := by
  have h := litD1 (((((W.alloc (.cells #[.int .u8 0, .int .u32 1, .int .u64 1] 27)).alloc (.cells #[.int .u8 0, .int .u32 1, .int .u64 2] 27)).alloc (.cells #[.string ⟨#[97]⟩] 9)).alloc (.cells #[.int .u8 0, .int .u32 1, .int .u64 1, .int .u64 1, .int .u8 3, .slice (some ⟨W.heap.size + 1 + 1, 0, none⟩) 1 1, .int .i64 0, .string ⟨#[117]⟩, .slice none 0 0] 36)).alloc (.cells #[.string ⟨#[97]⟩] 9)) K.d1 ⟨by decide, by decide, by decide⟩ 0 1 1 rfl rfl rfl
  rw [World.size_alloc, World.size_alloc, World.size_alloc, World.size_alloc, World.size_alloc] at h; rw [hX]; exact vrow_alloc (h) _
 rw [← hX]
 clear hX
 generalize W.heap.size + 1 + 1 + 1 + 1 + 1 + 1 = q6 at *
 generalize W.heap.size + 1 + 1 + 1 + 1 + 1 = q5 at *
 generalize W.heap.size + 1 + 1 + 1 + 1 = q4 at *
 generalize W.heap.size + 1 + 1 + 1 = q3 at *
 generalize W.heap.size + 1 + 1 = q2 at *
 generalize W.heap.size + 1 = q1 at *
 have HB := Lib.hid hB; have HE1 := Lib.hid hE1; have HE2 := Lib.hid hE2; have HP1 := Lib.hid hP1; have HP2 := Lib.hid hP2; have HD2 := Lib.hid hD2
 clear hB hE1 hE2 hP1 hP2 hD2
 have HBU := Lib.hid (Below.refl X.heap.size X)
 refine RegE.region_list (by kernel_rfl) (fun _ => True) [7] [7, 8] [RegE.plain (fun v _ => v = .agg #[.int .u8 3, .int .i64 0, .int .u64 0, .int .u8 0, .int .u32 0, .int .u64 0, .string ⟨#[]⟩, .slice none 0 0, .slice none 0 0]), RegE.plain (fun v _ => v = .agg #[.int .u8 0, .int .u32 1, .int .u64 1, .int .u64 1, .int .u8 3, .slice (some ⟨q2, 0, none⟩) 1 1, .int .i64 0, .string ⟨#[117]⟩, .slice none 0 0]), RegE.plain (fun v w => ∃ vI rI vD rD, v = .tuple #[.agg #[.int .u8 3, .int .i64 0, .int .u64 0, .int .u8 0, .int .u32 0, .int .u64 0, .string ⟨#[]⟩, vI, vD], .int .i64 0] ∧ OwnI X.heap.size w vI [(0, K.d1, K.u)] rI ∧ OwnD X.heap.size w vD [] rD), RegE.plain (fun v w => ∃ vI rI vD rD, v = .tuple #[.agg #[.int .u8 3, .int .i64 0, .int .u64 0, .int .u8 0, .int .u32 0, .int .u64 0, .string ⟨#[]⟩, vI, vD], .int .i64 0] ∧ OwnI X.heap.size w vI [(0, K.d1, K.u)] rI ∧ OwnD X.heap.size w vD [] rD), RegE.plain (fun v w => ∃ vI rI vD rD, v = .agg #[.int .u8 3, .int .i64 0, .int .u64 0, .int .u8 0, .int .u32 0, .int .u64 0, .string ⟨#[]⟩, vI, vD] ∧ OwnI X.heap.size w vI [(0, K.d1, K.u)] rI ∧ OwnD X.heap.size w vD [] rD), RegE.plain (fun v _ => v = .int .i64 0), RegE.plain (fun v w => ∃ b, v = .pointer (some ⟨b, 0, none⟩) ∧ X.heap.size ≤ b ∧ Blk w b 31 [.int .u8 0, .int .i64 0, .int .u64 0, .int .u8 0, .int .u32 0, .int .u64 0, .string ⟨#[]⟩, .slice none 0 0, .slice none 0 0]), RegE.change (fun v w => ∃ b vI rI vD rD, v = .pointer (some ⟨b, 0, none⟩) ∧ X.heap.size ≤ b ∧ Blk w b 31 [.int .u8 3, .int .i64 0, .int .u64 0, .int .u8 0, .int .u32 0, .int .u64 0, .string ⟨#[]⟩, vI, vD] ∧ OwnI X.heap.size w vI [(0, K.d1, K.u)] rI ∧ OwnD X.heap.size w vD [] rD) (fun k => X.heap.size ≤ k) (fun w w' => ∃ b cs, X.heap.size ≤ b ∧ Blk w b 31 cs ∧ Chg (fun k => k = b) w w'), RegE.plain (fun v _ => v = .int .i64 0)] (by kernel_rfl) (by kernel_rfl) (trivial) (fun (_ _ : World) _ _ => trivial) ?_ ?_ ?_ ?_ ?_ ?_
 ·exact ⟨Or.inr ⟨fun _ h => h, rfl⟩, Or.inr ⟨fun _ h => h, rfl⟩, Or.inr ⟨fun _ h => h, rfl⟩, Or.inr ⟨fun _ h => h, rfl⟩, Or.inr ⟨fun _ h => h, rfl⟩, Or.inr ⟨fun _ h => h, rfl⟩, Or.inr ⟨fun _ h => h, rfl⟩, Or.inl (by decide), Or.inr ⟨fun _ h => h, rfl⟩, trivial⟩
 ·exact ⟨⟨fun _ _ h => h, fun wx wy h => (fun (_ _ : World) _ _ => trivial) wx wy (RegE.to_below h (fun _ h => h))⟩, ⟨fun _ _ h => h, fun wx wy h => (fun (_ _ : World) _ _ => trivial) wx wy (RegE.to_below h (fun _ h => h))⟩, ⟨fun _ _ h => h, fun wx wy h => (fun (_ _ : World) _ _ => trivial) wx wy (RegE.to_below h (fun _ h => h))⟩, ⟨fun _ _ h => h, fun wx wy h => (fun (_ _ : World) _ _ => trivial) wx wy (RegE.to_below h (fun _ h => h))⟩, ⟨fun _ _ h => h, fun wx wy h => (fun (_ _ : World) _ _ => trivial) wx wy (RegE.to_below h (fun _ h => h))⟩, ⟨fun _ _ h => h, fun wx wy h => (fun (_ _ : World) _ _ => trivial) wx wy (RegE.to_below h (fun _ h => h))⟩, ⟨fun _ _ h => h, fun wx wy h => (fun (_ _ : World) _ _ => trivial) wx wy (RegE.to_below h (fun _ h => h))⟩, ⟨(fun wa wb h => by obtain ⟨b, cs, g1, _, g3⟩ := h; exact g3.mono (fun k _ e => by rw [e]; exact g1)), (fun _ _ _ _ => trivial)⟩, ⟨fun _ _ h => h, fun wx wy h => (fun (_ _ : World) _ _ => trivial) wx wy (RegE.to_below h (fun _ h => h))⟩, trivial⟩
 ·refine ⟨k4, k4, (fun v wa wb hb h => by obtain ⟨vI, rI, vD, rD, h1, h2, h3⟩ := h; exact ⟨vI, rI, vD, rD, h1, h2.below hb, h3.below hb⟩), (fun v wa wb hb h => by obtain ⟨vI, rI, vD, rD, h1, h2, h3⟩ := h; exact ⟨vI, rI, vD, rD, h1, h2.below hb, h3.below hb⟩), (fun v wa wb hb h => by obtain ⟨vI, rI, vD, rD, h1, h2, h3⟩ := h; exact ⟨vI, rI, vD, rD, h1, h2.below hb, h3.below hb⟩), k4, (fun v wa wb hb h => by obtain ⟨b, h1, h2, h3⟩ := h; exact ⟨b, h1, h2, h3.below hb⟩), (fun v wa wb hb h => by obtain ⟨b, vI, rI, vD, rD, h0, h1, h2, h3, h4⟩ := h; exact ⟨b, vI, rI, vD, rD, h0, h1, h2.below hb, h3.below hb, h4.below hb⟩), k4, trivial⟩
 ·refine ⟨⟨Or.inr (Or.inr (Or.inl (by kernel_rfl))), Or.inr (Or.inr (Or.inr k4)), Or.inr (Or.inr (Or.inr (fun v wa wb hr h => by obtain ⟨b, cs, g1, g2, g3⟩ := hr; obtain ⟨vI, rI, vD, rD, h1, h2, h3⟩ := h; exact ⟨vI, rI, vD, rD, h1, ownI_leaf h2 g2 g3, ownD_leaf h3 g2 g3⟩))), Or.inr (Or.inr (Or.inr (fun v wa wb hr h => by obtain ⟨b, cs, g1, g2, g3⟩ := hr; obtain ⟨vI, rI, vD, rD, h1, h2, h3⟩ := h; exact ⟨vI, rI, vD, rD, h1, ownI_leaf h2 g2 g3, ownD_leaf h3 g2 g3⟩))), Or.inr (Or.inr (Or.inl (by kernel_rfl))), Or.inr (Or.inr (Or.inr k4)), Or.inr (Or.inr (Or.inl (by kernel_rfl))), Or.inl rfl, Or.inr (Or.inr (Or.inr k4)), trivial⟩, trivial⟩
 ·refine ⟨?_, ?_, ?_, ?_, ?_, ?_, ?_, ?_, ?_, trivial⟩
  ·intro ev w hc hf hg hfix hdep hchg hinv
   refine Or.inl ⟨trivial, Or.inr (Or.inl ⟨11, #[.int .u8 3], w, by go_simp, ?_⟩)⟩
   refine (new_any 3 w).mono ?_
   rintro e w9 ⟨rfl, hb⟩
   exact ⟨_, rfl, rfl, Chg.of_below hb⟩
  ·intro ev w hc hf hg hfix hdep hchg hinv
   have e3 : ev (.tmp 3) = _ := hfix 3 (by decide)
   have d := HE1.out.below (HBU.out.trans ((RegE.chg0 (hchg [] (by kernel_rfl))).mono HBU.out.size))
   obtain ⟨d0, d1, d2, d3, d4, d5, d6, d7, d8⟩ := d.nine
   exact Or.inl ⟨trivial, Or.inl ⟨_, w, by go_simp, rfl, Chg.refl _ _⟩⟩
  ·intro ev w hc hf hg hfix hdep hchg hinv
   have e26 : ev (.tmp 26) = _ := hdep 0 (by decide)
   have e27 : ev (.tmp 27) = _ := hdep 1 (by decide)
   refine Or.inl ⟨trivial, Or.inr (Or.inl ⟨15, #[.agg #[.int .u8 3, .int .i64 0, .int .u64 0, .int .u8 0, .int .u32 0, .int .u64 0, .string ⟨#[]⟩, .slice none 0 0, .slice none 0 0], .agg #[.int .u8 0, .int .u32 1, .int .u64 1, .int .u64 1, .int .u8 3, .slice (some ⟨q2, 0, none⟩) 1 1, .int .i64 0, .string ⟨#[117]⟩, .slice none 0 0]], w, by go_simp, ?_⟩)⟩
   have hb0 := RegE.chg0 (hchg [] (by kernel_rfl))
   have hbw : Below X.heap.size X w := HBU.out.trans (hb0.mono HBU.out.size)
   refine (apply_any 3 0 0 0 0 0 ⟨#[]⟩ none 0 0 none 0 0 [] [] 0 1 1 1 3 (some ⟨q2, 0, none⟩) 1 1 0 ⟨#[117]⟩ (none) 0 0 [K.a] [] w (IRow.nil _) rfl (VRow.nil _) rfl (by decide) (by decide) (by decide) (by decide) (HP1.out.below hbw) rfl (VRow.nil _) rfl).mono ?_
   rintro e w9 ⟨hae, hb⟩
   rw [show Lm.apply ⟨3, 0, 0, ((0, 0), 0), ⟨#[]⟩, [], []⟩ K.e1 = _ from K.r1] at hae
   obtain ⟨vI, rI, vD, rD, rfl, hI, hD⟩ := hae
   exact ⟨_, rfl, ⟨vI, rI, vD, rD, rfl, hI.base hb0.size, hD.base hb0.size⟩, Chg.of_below hb⟩
  ·intro ev w hc hf hg hfix hdep hchg hinv
   have e28 := hdep 2 (by decide)
   exact Or.inl ⟨trivial, Or.inl ⟨ev (.tmp 28), w, by go_simp, e28, Chg.refl _ _⟩⟩
  ·intro ev w hc hf hg hfix hdep hchg hinv
   have e25 := hdep 3 (by decide)
   obtain ⟨vI, rI, vD, rD, hv, h1, h2⟩ := e25
   have e25 : ev (.tmp 25) = .tuple #[.agg #[.int .u8 3, .int .i64 0, .int .u64 0, .int .u8 0, .int .u32 0, .int .u64 0, .string ⟨#[]⟩, vI, vD], .int .i64 0] := hv
   exact Or.inl ⟨trivial, Or.inl ⟨.agg #[.int .u8 3, .int .i64 0, .int .u64 0, .int .u8 0, .int .u32 0, .int .u64 0, .string ⟨#[]⟩, vI, vD], w, by go_simp, ⟨vI, rI, vD, rD, rfl, h1, h2⟩, Chg.refl _ _⟩⟩
  ·intro ev w hc hf hg hfix hdep hchg hinv
   have e25 := hdep 3 (by decide)
   obtain ⟨vI, rI, vD, rD, hv, h1, h2⟩ := e25
   have e25 : ev (.tmp 25) = .tuple #[.agg #[.int .u8 3, .int .i64 0, .int .u64 0, .int .u8 0, .int .u32 0, .int .u64 0, .string ⟨#[]⟩, vI, vD], .int .i64 0] := hv
   exact Or.inl ⟨trivial, Or.inl ⟨_, w, by go_simp, rfl, Chg.refl _ _⟩⟩
  ·intro ev w hc hf hg hfix hdep hchg hinv
   have hb0 := RegE.chg0 (hchg [] (by kernel_rfl))
   exact Or.inl ⟨trivial, Or.inl ⟨.pointer (some ⟨w.heap.size, 0, none⟩), w.alloc (.cells #[.int .u8 0, .int .i64 0, .int .u64 0, .int .u8 0, .int .u32 0, .int .u64 0, .string ⟨#[]⟩, .slice none 0 0, .slice none 0 0] 31), by go_simp, ⟨w.heap.size, rfl, hb0.size, Blk.new w _ _⟩, (Chg.refl _ w).alloc _⟩⟩
  ·intro ev w hc hf hg hfix hdep hchg hinv
   have e5 := hdep 6 (by decide)
   have e29 := hdep 4 (by decide)
   obtain ⟨vI, rI, vD, rD, hv, h1, h2⟩ := e29
   have e29 : ev (.tmp 29) = .agg #[.int .u8 3, .int .i64 0, .int .u64 0, .int .u8 0, .int .u32 0, .int .u64 0, .string ⟨#[]⟩, vI, vD] := hv
   obtain ⟨b, hvb, hub, hbk⟩ := e5
   have e5 : ev (.tmp 5) = .pointer (some ⟨b, 0, none⟩) := hvb
   obtain ⟨d0, d1, d2, d3, d4, d5, d6, d7, d8⟩ := hbk.nine
   obtain ⟨y0, y1, y2, y3, y4, y5, y6, y7, y8⟩ := hbk.froz9
   obtain ⟨a7, n7, m7, hv7⟩ := Own.slice h1
   obtain ⟨a8, n8, m8, hv8⟩ := Own.slice h2
   subst hv7; subst hv8
   have hc9 := chg9 w b (.int .u8 3) (.int .i64 0) (.int .u64 0) (.int .u8 0) (.int .u32 0) (.int .u64 0) (.string ⟨#[]⟩) (.slice a7 n7 m7) (.slice a8 n8 m8)
   exact Or.inl ⟨trivial, Or.inr (Or.inr ⟨(((((((((w.setCell ⟨b, 0, none⟩ (.int .u8 3)).setCell ⟨b, 1, none⟩ (.int .i64 0)).setCell ⟨b, 2, none⟩ (.int .u64 0)).setCell ⟨b, 3, none⟩ (.int .u8 0)).setCell ⟨b, 4, none⟩ (.int .u32 0)).setCell ⟨b, 5, none⟩ (.int .u64 0)).setCell ⟨b, 6, none⟩ (.string ⟨#[]⟩)).setCell ⟨b, 7, none⟩ (.slice a7 n7 m7)).setCell ⟨b, 8, none⟩ (.slice a8 n8 m8)), by go_simp, ⟨b, _, rI, _, rD, e5, hub, blk9 hbk _ _ _ _ _ _ _ _ _, ownI_leaf h1 hbk hc9, ownD_leaf h2 hbk hc9⟩, ⟨b, _, hub, hbk, hc9⟩⟩)⟩
  ·intro ev w hc hf hg hfix hdep hchg hinv
   have e30 : ev (.tmp 30) = _ := hdep 5 (by decide)
   exact Or.inl ⟨trivial, Or.inl ⟨_, w, by go_simp, rfl, Chg.refl _ _⟩⟩
 ·intro v w2 hv hlk hb2 hJ2
  have lk7 := hlk 6 7 (by kernel_rfl)
  have r7 := hv 7 (by decide) (by decide)
  have r8 := hv 8 (by decide) (by decide)
  simp only [Reg.putAll, Act.put, List.setIfInBounds_toArray, List.set_cons_zero, List.set_cons_succ]
  clear hv hlk
  obtain ⟨b, vI, rI, vD, rD, hv7, hub, hbk, hI, hD⟩ := r7
  simp only [Nat.zero_add, Nat.reduceAdd]
  rw [← lk7, hv7, show v 8 = .int .i64 0 from r8]
  clear lk7 hv7 r8 hJ2
  have hbU := (RegE.end1 hb2).below (B := X.heap.size) (fun k _ e => e) (Nat.le_refl _)
  obtain ⟨a7, c7, hv7, hIr⟩ := ownI_row hI (fun x hx => by simp at hx; subst hx; exact ⟨by decide, ⟨by decide, by decide, by decide⟩, by decide⟩)
  have hv7 : vI = .slice a7 1 c7 := hv7
  obtain ⟨a8, c8, hv8, hDr⟩ := ownD_row hD (by simp)
  have hv8 : vD = .slice a8 0 c8 := hv8
  subst hv7; subst hv8
  have hE := HE2.out.below hbU
  obtain ⟨d0, d1, d2, d3, d4, d5, d6, d7, d8⟩ := hbk.nine; obtain ⟨x0, x1, x2, x3, x4, x5, x6, x7, x8⟩ := hE.nine
  have HBK := Lib.hid hbk; have HIr := Lib.hid hIr; have HDr := Lib.hid hDr; have HBU := Lib.hid hbU; have HUB := Lib.hid hub
  clear hb2 hI hD hbk hIr hDr hbU hE hub
  go_wp2_with fail
  refine (apply_any 3 0 0 0 0 0 ⟨#[]⟩ a7 1 c7 a8 0 c8 [(0, K.d1, K.u)] [] 0 1 2 2 4 (some ⟨q4, 0, none⟩) 1 1 0 ⟨#[117]⟩ (some ⟨q5, 0, none⟩) 1 1 [K.a] [K.d1] _ HIr.out rfl HDr.out rfl (by decide) (by decide) (by decide) (by decide) (HP2.out.below HBU.out) rfl (HD2.out.below HBU.out) rfl).mono ?_
  rintro e w4 ⟨hae, hb⟩
  rw [show Lm.apply ⟨3, 0, 0, ((0, 0), 0), ⟨#[]⟩, [(0, K.d1, K.u)], []⟩ K.e2 = _ from K.r2] at hae
  obtain ⟨vI, rI', vD, rD', rfl, hI, hD⟩ := hae
  obtain ⟨a9, c9, hv9, _⟩ := ownI_row hI (by simp)
  have hv9 : vI = .slice a9 0 c9 := hv9
  obtain ⟨a10, c10, hv10, _⟩ := ownD_row hD (fun x hx => by simp at hx; subst hx; exact ⟨by decide, by decide, by decide⟩)
  have hv10 : vD = .slice a10 1 c10 := hv10
  subst hv9; subst hv10
  have hbk := HBK.out.below hb
  have hbU := HBU.out.trans (hb.mono HBU.out.size)
  clear d0 d1 d2 d3 d4 d5 d6 d7 d8 x0 x1 x2 x3 x4 x5 x6 x7 x8
  obtain ⟨d0, d1, d2, d3, d4, d5, d6, d7, d8⟩ := hbk.nine; obtain ⟨y0, y1, y2, y3, y4, y5, y6, y7, y8⟩ := hbk.froz9
  have HBK4 := Lib.hid hbk; have HI4 := Lib.hid (hI.base HBU.out.size); have HD4 := Lib.hid (hD.base HBU.out.size); have HBU4 := Lib.hid hbU
  clear hb hbk hI hD hbU
  go_wp2_with fail
  have hc9 := chg9 w4 b (.int .u8 3) (.int .i64 0) (.int .u64 0) (.int .u8 0) (.int .u32 0) (.int .u64 0) (.string ⟨#[]⟩) (.slice a9 0 c9) (.slice a10 1 c10)
  obtain ⟨X2, hX2⟩ : ∃ X2, X2 = (((((((((w4.setCell ⟨b, 0, none⟩ (.int .u8 3)).setCell ⟨b, 1, none⟩ (.int .i64 0)).setCell ⟨b, 2, none⟩ (.int .u64 0)).setCell ⟨b, 3, none⟩ (.int .u8 0)).setCell ⟨b, 4, none⟩ (.int .u32 0)).setCell ⟨b, 5, none⟩ (.int .u64 0)).setCell ⟨b, 6, none⟩ (.string ⟨#[]⟩)).setCell ⟨b, 7, none⟩ (.slice a9 0 c9)).setCell ⟨b, 8, none⟩ (.slice a10 1 c10)) := ⟨_, rfl⟩
  rw [← hX2] at hc9 ⊢
  have HBK5 := Lib.hid (show Blk X2 b 31 [.int .u8 3, .int .i64 0, .int .u64 0, .int .u8 0, .int .u32 0, .int .u64 0, .string ⟨#[]⟩, .slice a9 0 c9, .slice a10 1 c10] by rw [hX2]; exact blk9 HBK4.out _ _ _ _ _ _ _ _ _)
  have HI5 := Lib.hid (ownI_leaf HI4.out HBK4.out hc9); have HD5 := Lib.hid (ownD_leaf HD4.out HBK4.out hc9)
  have hbU := Chg.belowTrans HBU4.out hc9 (fun k _ e => by have := HUB.out; have : k = b := e; omega) HBU4.out.size
  have HBU := Lib.hid hbU
  have HLt := Lib.hid HBK5.out.lt
  clear hX2 hc9 hbU d0 d1 d2 d3 d4 d5 d6 d7 d8 y0 y1 y2 y3 y4 y5 y6 y7 y8 HBK4 HI4 HD4 HBU4 HBK HIr HDr
  refine RegE.region_list (by kernel_rfl) (fun _ => True) [7] [7, 8] [RegE.plain (fun v _ => v = .agg #[.int .u8 3, .int .i64 0, .int .u64 0, .int .u8 0, .int .u32 0, .int .u64 0, .string ⟨#[]⟩, .slice none 0 0, .slice none 0 0]), RegE.plain (fun v _ => v = .agg #[.int .u8 0, .int .u32 1, .int .u64 2, .int .u64 2, .int .u8 4, .slice (some ⟨q4, 0, none⟩) 1 1, .int .i64 0, .string ⟨#[117]⟩, .slice (some ⟨q5, 0, none⟩) 1 1]), RegE.plain (fun v w => ∃ vI rI vD rD, v = .tuple #[.agg #[.int .u8 3, .int .i64 0, .int .u64 0, .int .u8 0, .int .u32 0, .int .u64 0, .string ⟨#[]⟩, vI, vD], .int .i64 0] ∧ OwnI X2.heap.size w vI [] rI ∧ OwnD X2.heap.size w vD [K.d1] rD), RegE.plain (fun v w => ∃ vI rI vD rD, v = .tuple #[.agg #[.int .u8 3, .int .i64 0, .int .u64 0, .int .u8 0, .int .u32 0, .int .u64 0, .string ⟨#[]⟩, vI, vD], .int .i64 0] ∧ OwnI X2.heap.size w vI [] rI ∧ OwnD X2.heap.size w vD [K.d1] rD), RegE.plain (fun v w => ∃ vI rI vD rD, v = .agg #[.int .u8 3, .int .i64 0, .int .u64 0, .int .u8 0, .int .u32 0, .int .u64 0, .string ⟨#[]⟩, vI, vD] ∧ OwnI X2.heap.size w vI [] rI ∧ OwnD X2.heap.size w vD [K.d1] rD), RegE.plain (fun v _ => v = .int .i64 0), RegE.plain (fun v w => ∃ b, v = .pointer (some ⟨b, 0, none⟩) ∧ X2.heap.size ≤ b ∧ Blk w b 31 [.int .u8 0, .int .i64 0, .int .u64 0, .int .u8 0, .int .u32 0, .int .u64 0, .string ⟨#[]⟩, .slice none 0 0, .slice none 0 0]), RegE.change (fun v w => ∃ b vI rI vD rD, v = .pointer (some ⟨b, 0, none⟩) ∧ X2.heap.size ≤ b ∧ Blk w b 31 [.int .u8 3, .int .i64 0, .int .u64 0, .int .u8 0, .int .u32 0, .int .u64 0, .string ⟨#[]⟩, vI, vD] ∧ OwnI X2.heap.size w vI [] rI ∧ OwnD X2.heap.size w vD [K.d1] rD) (fun k => X2.heap.size ≤ k) (fun w w' => ∃ b cs, X2.heap.size ≤ b ∧ Blk w b 31 cs ∧ Chg (fun k => k = b) w w'), RegE.plain (fun v _ => v = .int .i64 0)] (by kernel_rfl) (by kernel_rfl) (trivial) (fun (_ _ : World) _ _ => trivial) ?_ ?_ ?_ ?_ ?_ ?_
  ·exact ⟨Or.inr ⟨fun _ h => h, rfl⟩, Or.inr ⟨fun _ h => h, rfl⟩, Or.inr ⟨fun _ h => h, rfl⟩, Or.inr ⟨fun _ h => h, rfl⟩, Or.inr ⟨fun _ h => h, rfl⟩, Or.inr ⟨fun _ h => h, rfl⟩, Or.inr ⟨fun _ h => h, rfl⟩, Or.inl (by decide), Or.inr ⟨fun _ h => h, rfl⟩, trivial⟩
  ·exact ⟨⟨fun _ _ h => h, fun wx wy h => (fun (_ _ : World) _ _ => trivial) wx wy (RegE.to_below h (fun _ h => h))⟩, ⟨fun _ _ h => h, fun wx wy h => (fun (_ _ : World) _ _ => trivial) wx wy (RegE.to_below h (fun _ h => h))⟩, ⟨fun _ _ h => h, fun wx wy h => (fun (_ _ : World) _ _ => trivial) wx wy (RegE.to_below h (fun _ h => h))⟩, ⟨fun _ _ h => h, fun wx wy h => (fun (_ _ : World) _ _ => trivial) wx wy (RegE.to_below h (fun _ h => h))⟩, ⟨fun _ _ h => h, fun wx wy h => (fun (_ _ : World) _ _ => trivial) wx wy (RegE.to_below h (fun _ h => h))⟩, ⟨fun _ _ h => h, fun wx wy h => (fun (_ _ : World) _ _ => trivial) wx wy (RegE.to_below h (fun _ h => h))⟩, ⟨fun _ _ h => h, fun wx wy h => (fun (_ _ : World) _ _ => trivial) wx wy (RegE.to_below h (fun _ h => h))⟩, ⟨(fun wa wb h => by obtain ⟨b, cs, g1, _, g3⟩ := h; exact g3.mono (fun k _ e => by rw [e]; exact g1)), (fun _ _ _ _ => trivial)⟩, ⟨fun _ _ h => h, fun wx wy h => (fun (_ _ : World) _ _ => trivial) wx wy (RegE.to_below h (fun _ h => h))⟩, trivial⟩
  ·refine ⟨k4, k4, (fun v wa wb hb h => by obtain ⟨vI, rI, vD, rD, h1, h2, h3⟩ := h; exact ⟨vI, rI, vD, rD, h1, h2.below hb, h3.below hb⟩), (fun v wa wb hb h => by obtain ⟨vI, rI, vD, rD, h1, h2, h3⟩ := h; exact ⟨vI, rI, vD, rD, h1, h2.below hb, h3.below hb⟩), (fun v wa wb hb h => by obtain ⟨vI, rI, vD, rD, h1, h2, h3⟩ := h; exact ⟨vI, rI, vD, rD, h1, h2.below hb, h3.below hb⟩), k4, (fun v wa wb hb h => by obtain ⟨b, h1, h2, h3⟩ := h; exact ⟨b, h1, h2, h3.below hb⟩), (fun v wa wb hb h => by obtain ⟨b, vI, rI, vD, rD, h0, h1, h2, h3, h4⟩ := h; exact ⟨b, vI, rI, vD, rD, h0, h1, h2.below hb, h3.below hb, h4.below hb⟩), k4, trivial⟩
  ·refine ⟨⟨Or.inr (Or.inr (Or.inl (by kernel_rfl))), Or.inr (Or.inr (Or.inr k4)), Or.inr (Or.inr (Or.inr (fun v wa wb hr h => by obtain ⟨b, cs, g1, g2, g3⟩ := hr; obtain ⟨vI, rI, vD, rD, h1, h2, h3⟩ := h; exact ⟨vI, rI, vD, rD, h1, ownI_leaf h2 g2 g3, ownD_leaf h3 g2 g3⟩))), Or.inr (Or.inr (Or.inr (fun v wa wb hr h => by obtain ⟨b, cs, g1, g2, g3⟩ := hr; obtain ⟨vI, rI, vD, rD, h1, h2, h3⟩ := h; exact ⟨vI, rI, vD, rD, h1, ownI_leaf h2 g2 g3, ownD_leaf h3 g2 g3⟩))), Or.inr (Or.inr (Or.inl (by kernel_rfl))), Or.inr (Or.inr (Or.inr k4)), Or.inr (Or.inr (Or.inl (by kernel_rfl))), Or.inl rfl, Or.inr (Or.inr (Or.inr k4)), trivial⟩, trivial⟩
  ·refine ⟨?_, ?_, ?_, ?_, ?_, ?_, ?_, ?_, ?_, trivial⟩
   ·intro ev w hc hf hg hfix hdep hchg hinv
    refine Or.inl ⟨trivial, Or.inr (Or.inl ⟨11, #[.int .u8 3], w, by go_simp, ?_⟩)⟩
    refine (new_any 3 w).mono ?_
    rintro e w9 ⟨rfl, hb⟩
    exact ⟨_, rfl, rfl, Chg.of_below hb⟩
   ·intro ev w hc hf hg hfix hdep hchg hinv
    have e4 : ev (.tmp 4) = _ := hfix 4 (by decide)
    have d := HE2.out.below (HBU.out.trans ((RegE.chg0 (hchg [] (by kernel_rfl))).mono HBU.out.size))
    obtain ⟨d0, d1, d2, d3, d4, d5, d6, d7, d8⟩ := d.nine
    exact Or.inl ⟨trivial, Or.inl ⟨_, w, by go_simp, rfl, Chg.refl _ _⟩⟩
   ·intro ev w hc hf hg hfix hdep hchg hinv
    have e38 : ev (.tmp 38) = _ := hdep 0 (by decide)
    have e39 : ev (.tmp 39) = _ := hdep 1 (by decide)
    refine Or.inl ⟨trivial, Or.inr (Or.inl ⟨15, #[.agg #[.int .u8 3, .int .i64 0, .int .u64 0, .int .u8 0, .int .u32 0, .int .u64 0, .string ⟨#[]⟩, .slice none 0 0, .slice none 0 0], .agg #[.int .u8 0, .int .u32 1, .int .u64 2, .int .u64 2, .int .u8 4, .slice (some ⟨q4, 0, none⟩) 1 1, .int .i64 0, .string ⟨#[117]⟩, .slice (some ⟨q5, 0, none⟩) 1 1]], w, by go_simp, ?_⟩)⟩
    have hb0 := RegE.chg0 (hchg [] (by kernel_rfl))
    have hbw : Below X.heap.size X w := HBU.out.trans (hb0.mono HBU.out.size)
    refine (apply_any 3 0 0 0 0 0 ⟨#[]⟩ none 0 0 none 0 0 [] [] 0 1 2 2 4 (some ⟨q4, 0, none⟩) 1 1 0 ⟨#[117]⟩ (some ⟨q5, 0, none⟩) 1 1 [K.a] [K.d1] w (IRow.nil _) rfl (VRow.nil _) rfl (by decide) (by decide) (by decide) (by decide) (HP2.out.below hbw) rfl (HD2.out.below hbw) rfl).mono ?_
    rintro e w9 ⟨hae, hb⟩
    rw [show Lm.apply ⟨3, 0, 0, ((0, 0), 0), ⟨#[]⟩, [], []⟩ K.e2 = _ from K.r3] at hae
    obtain ⟨vI, rI, vD, rD, rfl, hI, hD⟩ := hae
    exact ⟨_, rfl, ⟨vI, rI, vD, rD, rfl, hI.base hb0.size, hD.base hb0.size⟩, Chg.of_below hb⟩
   ·intro ev w hc hf hg hfix hdep hchg hinv
    have e40 := hdep 2 (by decide)
    exact Or.inl ⟨trivial, Or.inl ⟨ev (.tmp 40), w, by go_simp, e40, Chg.refl _ _⟩⟩
   ·intro ev w hc hf hg hfix hdep hchg hinv
    have e37 := hdep 3 (by decide)
    obtain ⟨vI, rI, vD, rD, hv, h1, h2⟩ := e37
    have e37 : ev (.tmp 37) = .tuple #[.agg #[.int .u8 3, .int .i64 0, .int .u64 0, .int .u8 0, .int .u32 0, .int .u64 0, .string ⟨#[]⟩, vI, vD], .int .i64 0] := hv
    exact Or.inl ⟨trivial, Or.inl ⟨.agg #[.int .u8 3, .int .i64 0, .int .u64 0, .int .u8 0, .int .u32 0, .int .u64 0, .string ⟨#[]⟩, vI, vD], w, by go_simp, ⟨vI, rI, vD, rD, rfl, h1, h2⟩, Chg.refl _ _⟩⟩
   ·intro ev w hc hf hg hfix hdep hchg hinv
    have e37 := hdep 3 (by decide)
    obtain ⟨vI, rI, vD, rD, hv, h1, h2⟩ := e37
    have e37 : ev (.tmp 37) = .tuple #[.agg #[.int .u8 3, .int .i64 0, .int .u64 0, .int .u8 0, .int .u32 0, .int .u64 0, .string ⟨#[]⟩, vI, vD], .int .i64 0] := hv
    exact Or.inl ⟨trivial, Or.inl ⟨_, w, by go_simp, rfl, Chg.refl _ _⟩⟩
   ·intro ev w hc hf hg hfix hdep hchg hinv
    have hb0 := RegE.chg0 (hchg [] (by kernel_rfl))
    exact Or.inl ⟨trivial, Or.inl ⟨.pointer (some ⟨w.heap.size, 0, none⟩), w.alloc (.cells #[.int .u8 0, .int .i64 0, .int .u64 0, .int .u8 0, .int .u32 0, .int .u64 0, .string ⟨#[]⟩, .slice none 0 0, .slice none 0 0] 31), by go_simp, ⟨w.heap.size, rfl, hb0.size, Blk.new w _ _⟩, (Chg.refl _ w).alloc _⟩⟩
   ·intro ev w hc hf hg hfix hdep hchg hinv
    have e8 := hdep 6 (by decide)
    have e41 := hdep 4 (by decide)
    obtain ⟨vI, rI, vD, rD, hv, h1, h2⟩ := e41
    have e41 : ev (.tmp 41) = .agg #[.int .u8 3, .int .i64 0, .int .u64 0, .int .u8 0, .int .u32 0, .int .u64 0, .string ⟨#[]⟩, vI, vD] := hv
    obtain ⟨b, hvb, hub, hbk⟩ := e8
    have e8 : ev (.tmp 8) = .pointer (some ⟨b, 0, none⟩) := hvb
    obtain ⟨d0, d1, d2, d3, d4, d5, d6, d7, d8⟩ := hbk.nine
    obtain ⟨y0, y1, y2, y3, y4, y5, y6, y7, y8⟩ := hbk.froz9
    obtain ⟨a7, n7, m7, hv7⟩ := Own.slice h1
    obtain ⟨a8, n8, m8, hv8⟩ := Own.slice h2
    subst hv7; subst hv8
    have hc9 := chg9 w b (.int .u8 3) (.int .i64 0) (.int .u64 0) (.int .u8 0) (.int .u32 0) (.int .u64 0) (.string ⟨#[]⟩) (.slice a7 n7 m7) (.slice a8 n8 m8)
    exact Or.inl ⟨trivial, Or.inr (Or.inr ⟨(((((((((w.setCell ⟨b, 0, none⟩ (.int .u8 3)).setCell ⟨b, 1, none⟩ (.int .i64 0)).setCell ⟨b, 2, none⟩ (.int .u64 0)).setCell ⟨b, 3, none⟩ (.int .u8 0)).setCell ⟨b, 4, none⟩ (.int .u32 0)).setCell ⟨b, 5, none⟩ (.int .u64 0)).setCell ⟨b, 6, none⟩ (.string ⟨#[]⟩)).setCell ⟨b, 7, none⟩ (.slice a7 n7 m7)).setCell ⟨b, 8, none⟩ (.slice a8 n8 m8)), by go_simp, ⟨b, _, rI, _, rD, e8, hub, blk9 hbk _ _ _ _ _ _ _ _ _, ownI_leaf h1 hbk hc9, ownD_leaf h2 hbk hc9⟩, ⟨b, _, hub, hbk, hc9⟩⟩)⟩
   ·intro ev w hc hf hg hfix hdep hchg hinv
    have e42 : ev (.tmp 42) = _ := hdep 5 (by decide)
    exact Or.inl ⟨trivial, Or.inl ⟨_, w, by go_simp, rfl, Chg.refl _ _⟩⟩
  ·intro v w2 hv hlk hb2 hJ2
   have lk7 := hlk 6 7 (by kernel_rfl)
   have r7 := hv 7 (by decide) (by decide)
   have r8 := hv 8 (by decide) (by decide)
   simp only [Reg.putAll, Act.put, List.setIfInBounds_toArray, List.set_cons_zero, List.set_cons_succ]
   clear hv hlk
   obtain ⟨b2, vI, rI, vD, rD, hv7, hub2, hbk2, hI2, hD2⟩ := r7
   simp only [Nat.zero_add, Nat.reduceAdd]
   rw [← lk7, hv7, show v 8 = .int .i64 0 from r8]
   clear lk7 hv7 r8 hJ2
   have hbX := (RegE.end1 hb2).below (B := X2.heap.size) (fun k _ e => e) (Nat.le_refl _)
   have hbU := HBU.out.trans (hbX.mono HBU.out.size)
   obtain ⟨a7', c7', hv7, hIr⟩ := ownI_row hI2 (by simp)
   have hv7 : vI = .slice a7' 0 c7' := hv7
   obtain ⟨a8', c8', hv8, hDr⟩ := ownD_row hD2 (fun x hx => by simp at hx; subst hx; exact ⟨by decide, by decide, by decide⟩)
   have hv8 : vD = .slice a8' 1 c8' := hv8
   subst hv7; subst hv8
   have hE := HE1.out.below hbU
   obtain ⟨d0, d1, d2, d3, d4, d5, d6, d7, d8⟩ := hbk2.nine; obtain ⟨x0, x1, x2, x3, x4, x5, x6, x7, x8⟩ := hE.nine
   have HBA := Lib.hid (HBK5.out.below hbX); have HIA := Lib.hid (HI5.out.below hbX); have HDA := Lib.hid (HD5.out.below hbX)
   have HBK := Lib.hid hbk2; have HIr := Lib.hid hIr; have HDr := Lib.hid hDr; have HBU2 := Lib.hid hbU; have HUB2 := Lib.hid hub2; have HBX := Lib.hid hbX
   clear hb2 hI2 hD2 hbk2 hIr hDr hbU hE hub2 hbX HBK5 HI5 HD5 HBU
   go_wp2_with fail
   refine (apply_any 3 0 0 0 0 0 ⟨#[]⟩ a7' 0 c7' a8' 1 c8' [] [K.d1] 0 1 1 1 3 (some ⟨q2, 0, none⟩) 1 1 0 ⟨#[117]⟩ none 0 0 [K.a] [] _ HIr.out rfl HDr.out rfl (by decide) (by decide) (by decide) (by decide) (HP1.out.below HBU2.out) rfl (VRow.nil _) rfl).mono ?_
   rintro e w6 ⟨hae, hb⟩
   rw [show Lm.apply ⟨3, 0, 0, ((0, 0), 0), ⟨#[]⟩, [], [K.d1]⟩ K.e1 = _ from K.r4] at hae
   obtain ⟨vI, rI6, vD, rD6, rfl, hI, hD⟩ := hae
   obtain ⟨a11, c11, hv9, _⟩ := ownI_row hI (by simp)
   have hv9 : vI = .slice a11 0 c11 := hv9
   obtain ⟨a12, c12, hv10, _⟩ := ownD_row hD (fun x hx => by simp at hx; subst hx; exact ⟨by decide, by decide, by decide⟩)
   have hv10 : vD = .slice a12 1 c12 := hv10
   subst hv9; subst hv10
   have hbk := HBK.out.below hb
   have hba := HBA.out.below hb; have hia := HIA.out.below hb; have hda := HDA.out.below hb
   have hbU := HBU2.out.trans (hb.mono HBU2.out.size)
   have hs6 := hb.size; have hs5 := HBX.out.size
   clear d0 d1 d2 d3 d4 d5 d6 d7 d8 x0 x1 x2 x3 x4 x5 x6 x7 x8
   obtain ⟨d0, d1, d2, d3, d4, d5, d6, d7, d8⟩ := hbk.nine; obtain ⟨y0, y1, y2, y3, y4, y5, y6, y7, y8⟩ := hbk.froz9
   have HBK6 := Lib.hid hbk; have HI6 := Lib.hid hI; have HD6 := Lib.hid hD; have HBU6 := Lib.hid hbU; have HBA6 := Lib.hid hba; have HIA6 := Lib.hid hia; have HDA6 := Lib.hid hda
   have hne : ¬ (b = b2) := by have := HLt.out; have := HUB2.out; omega
   have hne2 : ¬ (b2 = b) := fun e => hne e.symm
   obtain ⟨g0, g1, g2, g3, g4, g5, g6, g7, g8⟩ := hba.nine
   clear hb hbk hI hD hbU hba hia hda
   go_wp2_with fail
   have hc9 := chg9 w6 b2 (.int .u8 3) (.int .i64 0) (.int .u64 0) (.int .u8 0) (.int .u32 0) (.int .u64 0) (.string ⟨#[]⟩) (.slice a11 0 c11) (.slice a12 1 c12)
   have HBF := Lib.hid (Chg.belowTrans HBU6.out hc9 (fun k _ e => by have := HUB2.out; have := HUB.out; have := HLt.out; have : k = b2 := e; omega) HBU6.out.size)
   refine (refsame05_any 3 0 0 0 0 0 ⟨#[]⟩ a9 0 c9 a10 1 c10 [] [K.d1] 3 0 0 0 0 0 ⟨#[]⟩ a11 0 c11 a12 1 c12 [] [K.d1] _ (ownI_at (ownI_leaf HIA6.out HBK6.out hc9) (by simp)) rfl (ownD_at (ownD_leaf HDA6.out HBK6.out hc9) (fun x hx => by simp at hx; subst hx; exact ⟨by decide, by decide, by decide⟩)) rfl (ownI_at (ownI_leaf HI6.out HBK6.out hc9) (by simp)) rfl (ownD_at (ownD_leaf HD6.out HBK6.out hc9) (fun x hx => by simp at hx; subst hx; exact ⟨by decide, by decide, by decide⟩)) rfl).mono ?_
   rintro e w8 ⟨rfl, hb⟩
   rw [show Lm.same _ _ = true from Lm.same_refl K.l2]
   have HBF2 := Lib.hid (HB.out.trans ((HBF.out.trans (hb.mono HBF.out.size)).mono HB.out.size))
   clear hb hc9 d0 d1 d2 d3 d4 d5 d6 d7 d8 y0 y1 y2 y3 y4 y5 y6 y7 y8 g0 g1 g2 g3 g4 g5 g6 g7 g8
   go_wp2_with fail
   go_ret
   exact ⟨rfl, HBF2.out⟩
end Go.Proofs.YteakbfbacfhhoaaGreat
