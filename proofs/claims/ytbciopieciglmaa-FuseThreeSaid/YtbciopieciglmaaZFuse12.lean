import Derived.Test.YtbciopieciglmaaZFuse11
import Derived.Test.YtbciopieciglmaaZRegD
import Derived.Test.YtbciopieciglmaaZLeaf14
import Derived.Test.YtbciopieciglmaaZRegE
namespace Go.Proofs.Ytbciopieciglmaa
open Go.RowKit Go.Buf Go.LB Go.Lib
set_option linter.unusedSimpArgs false
set_option linter.unusedVariables false
def RE6 (w : World) (L : Lm.L) (err : Int) (e : Ending) : Prop := ∃ ia ic da dc, e = .returned (.tuple #[.agg #[.int .u8 (L.kind : Int), .int .i64 L.n, .int .u64 (L.time : Int), .int .u8 (L.dot.1.1 : Int), .int .u32 (L.dot.1.2 : Int), .int .u64 (L.dot.2 : Int), .string L.text, .slice ia L.items.length ic, .slice da L.tombs.length dc], .int .i64 err]) ∧ IRow w ia ic L.items ∧ VRow w da dc L.tombs
def GreatL6 (li : List Lm.It) (ld : List Dt.Dot) (e : Ending) : Prop := ∃ b : Bool, e = .returned (.bool b) ∧ (b = false → li.length ≤ 100 ∧ ld.length ≤ 100)
end Go.Proofs.Ytbciopieciglmaa
namespace Go.Proofs.Ytbciopieciglmaa
open Go.RowKit Go.Buf Go.LB Go.Lib
set_option linter.unusedSimpArgs false
set_option linter.unusedVariables false
theorem lit6D (w : World) (d : Dt.Dot) (hd : Dt.okD d) (x y z : Int) (hx : x = d.1.1) (hy : y = d.1.2) (hz : z = d.2) :
  VRow (w.alloc (.cells #[.int .u8 x, .int .u32 y, .int .u64 z] 31)) (some ⟨w.heap.size, 0, none⟩) 1 [d] := by
 subst hx; subst hy; subst hz
 refine ⟨by simp, by omega, (fun q hq => by simp at hq; subst hq; exact hd), (fun e => by cases e), fun i q hq => ⟨_, rfl, ?_⟩⟩
 have hi : i < 1 := by have := (List.getElem?_eq_some_iff.1 hq).1; simpa using this
 obtain rfl : i = 0 := by omega
 simp at hq; subst hq
 simp [Addr.add]
theorem lit6I (w : World) (z : Lm.It) (hd : okI z) (x1 x2 x3 x4 : Int) (h1 : x1 = z.1) (h2 : x2 = z.2.1.1.1) (h3 : x3 = z.2.1.1.2) (h4 : x4 = z.2.1.2) :
  IRow (w.alloc (.cells #[.int .u64 x1, .int .u8 x2, .int .u32 x3, .int .u64 x4, .string z.2.2] 51)) (some ⟨w.heap.size, 0, none⟩) 1 [z] := by
 subst h1; subst h2; subst h3; subst h4
 refine ⟨by simp, by omega, (fun q hq => by simp at hq; subst hq; exact hd), (fun e => by cases e), fun i q hq => ⟨_, rfl, ?_⟩⟩
 have hi : i < 1 := by have := (List.getElem?_eq_some_iff.1 hq).1; simpa using this
 obtain rfl : i = 0 := by omega
 simp at hq; subst hq
 simp [Addr.add]
abbrev K6.d : Dt.Dot := ((0, 1), 1)
abbrev K6.u : ByteArray := ⟨#[117]⟩
abbrev K6.i : Lm.It := (0, K6.d, K6.u)
theorem K6.m1 : Lm.merge ⟨1, 5, 0, ((0, 0), 0), ⟨#[]⟩, [], []⟩ ⟨1, 7, 0, ((0, 0), 0), ⟨#[]⟩, [], []⟩ ⟨1, 4, 0, ((0, 0), 0), ⟨#[]⟩, [], []⟩ = (⟨1, 6, 0, ((0, 0), 0), ⟨#[]⟩, [], []⟩, 0) := by kernel_rfl
theorem K6.m2 : Lm.merge ⟨3, 0, 0, ((0, 0), 0), ⟨#[]⟩, [], []⟩ ⟨3, 0, 0, ((0, 0), 0), ⟨#[]⟩, [K6.i], []⟩ ⟨3, 0, 0, ((0, 0), 0), ⟨#[]⟩, [], [K6.d]⟩ = (⟨3, 0, 0, ((0, 0), 0), ⟨#[]⟩, [], [K6.d]⟩, 0) := by kernel_rfl
theorem own6I_leaf {B b : Nat} {w w' : World} {v : Value} {l : List Lm.It} {row : Option Nat} {cs : List Value} (h : OwnI B w v l row) (hb : Blk w b 40 cs) (hc : Chg (fun k => k = b) w w') : OwnI B w' v l row :=
 h.chg hc fun k e f => ownI_ne h hb (by decide) (by rw [e, f])
theorem own6D_leaf {B b : Nat} {w w' : World} {v : Value} {l : List Dt.Dot} {row : Option Nat} {cs : List Value} (h : OwnD B w v l row) (hb : Blk w b 40 cs) (hc : Chg (fun k => k = b) w w') : OwnD B w' v l row :=
 h.chg hc fun k e f => ownD_ne h hb (by decide) (by rw [e, f])
set_option maxHeartbeats 1000000 in
theorem known61_any (x : Int) (W : World) : Calls Try.prog 8 #[.int .i64 x] W fun e w' => e = .returned (leafV 1 x 0 0 0 0 ⟨#[]⟩ none 0 0 none 0 0) ∧ Below W.heap.size W w' := by
 go_enter Try.func8, Try.ntmps8
 go_wp2_with fail
 refine bodyPost_ret (v := leafV 1 x 0 0 0 0 ⟨#[]⟩ none 0 0 none 0 0) (res_leaf Try.results8 (by simp) (Blk.new _ _ _)) rfl ⟨rfl, (Below.refl _ _).alloc (Nat.le_refl _) _⟩
set_option maxRecDepth 100000 in
set_option maxHeartbeats 12800000 in
theorem known06_any (W : World) : Calls Try.prog 4 #[] W fun e w' => e = .returned (.bool true) ∧ Below W.heap.size W w' := by
 go_enter Try.func4, Try.ntmps4
 go_wp2_with fail
 refine (known61_any 5 _).mono ?_
 rintro e w1 ⟨rfl, hb⟩
 have HB1 := Lib.hid hb; clear hb
 go_wp2_with fail
 refine (known61_any 7 _).mono ?_
 rintro e w2 ⟨rfl, hb⟩
 have HB2 := Lib.hid (HB1.out.trans (hb.mono HB1.out.size)); clear hb
 go_wp2_with fail
 refine (known61_any 4 _).mono ?_
 rintro e w3 ⟨rfl, hb⟩
 have HB3 := Lib.hid (HB2.out.trans (hb.mono HB2.out.size)); clear hb
 go_wp2_with fail
 refine (fmerge_any 1 5 0 0 0 0 ⟨#[]⟩ none 0 0 none 0 0 [] [] 1 7 0 0 0 0 ⟨#[]⟩ none 0 0 none 0 0 [] [] 1 4 0 0 0 0 ⟨#[]⟩ none 0 0 none 0 0 [] [] _ (IRow.nil _) rfl (VRow.nil _) rfl (by decide) (by decide) (by decide) (IRow.nil _) rfl (VRow.nil _) rfl (by decide) (by decide) (by decide) (IRow.nil _) rfl (VRow.nil _) rfl (by decide) (by decide) (by decide)).mono ?_
 rintro e w4 ⟨hae, hb⟩
 rw [K6.m1] at hae
 obtain ⟨vI, rI, vD, rD, rfl, hI, hD⟩ := hae
 obtain ⟨a7, n7, m7, hv7⟩ := Own.slice hI
 obtain ⟨a8, n8, m8, hv8⟩ := Own.slice hD
 subst hv7; subst hv8
 have HB4 := Lib.hid (HB3.out.trans (hb.mono HB3.out.size)); clear hb hI hD
 go_wp2_with fail
 obtain ⟨U, hU⟩ : ∃ U, U = (w4.alloc (.cells #[.int .u8 1, .int .i64 6, .int .u64 0, .int .u8 0, .int .u32 0, .int .u64 0, .string ⟨#[]⟩, .slice a7 n7 m7, .slice a8 n8 m8] 40)).alloc (.cells #[.int .u8 0, .int .u32 1, .int .u64 1] 31) := ⟨_, rfl⟩
 have hB : Below W.heap.size W U := by rw [hU]; exact (HB4.out.alloc HB4.out.size _).alloc (by simp; have := HB4.out.size; omega) _
 have hM : Blk U w4.heap.size 40 [.int .u8 1, .int .i64 6, .int .u64 0, .int .u8 0, .int .u32 0, .int .u64 0, .string ⟨#[]⟩, .slice a7 n7 m7, .slice a8 n8 m8] := by rw [hU]; exact (Blk.new w4 #[.int .u8 1, .int .i64 6, .int .u64 0, .int .u8 0, .int .u32 0, .int .u64 0, .string ⟨#[]⟩, .slice a7 n7 m7, .slice a8 n8 m8] 40).below ((Below.refl _ _).alloc (Nat.le_refl _) _)
 have hD0 : Blk U (w4.heap.size + 1) 31 [.int .u8 0, .int .u32 1, .int .u64 1] := by
  have h := Blk.new (w4.alloc (.cells #[.int .u8 1, .int .i64 6, .int .u64 0, .int .u8 0, .int .u32 0, .int .u64 0, .string ⟨#[]⟩, .slice a7 n7 m7, .slice a8 n8 m8] 40)) #[.int .u8 0, .int .u32 1, .int .u64 1] 31
  rw [World.size_alloc] at h; rw [hU]; exact h
 rw [← hU]
 clear hU
 generalize w4.heap.size + 1 = qd at *
 generalize w4.heap.size = qm at *
 have HBU := Lib.hid hB; have HM := Lib.hid hM; have HD0 := Lib.hid hD0
 clear hB hM hD0 HB4
 refine RegE.region_list (by kernel_rfl) (fun _ => True) [13] [13, 14] [RegE.plain (fun v _ => v = .agg #[.int .u8 3, .int .i64 0, .int .u64 0, .int .u8 0, .int .u32 0, .int .u64 0, .string ⟨#[]⟩, .slice none 0 0, .slice none 0 0]), RegE.plain (fun v _ => v = .agg #[.int .u8 0, .int .u32 1, .int .u64 1]), RegE.plain (fun v _ => v = .agg #[.int .u64 0, .int .u8 0, .int .u32 1, .int .u64 1, .string ⟨#[117]⟩]), RegE.plain (fun v w => ∃ q, v = .slice (some ⟨q, 0, none⟩) 1 1 ∧ IRow w (some ⟨q, 0, none⟩) 1 [K6.i]), RegE.plain (fun v w => ∃ q, v = .agg #[.int .u8 3, .int .i64 0, .int .u64 0, .int .u8 0, .int .u32 0, .int .u64 0, .string ⟨#[]⟩, .slice (some ⟨q, 0, none⟩) 1 1, .slice none 0 0] ∧ IRow w (some ⟨q, 0, none⟩) 1 [K6.i]), RegE.plain (fun v _ => v = .agg #[.int .u8 0, .int .u32 1, .int .u64 1]), RegE.plain (fun v w => ∃ q, v = .slice (some ⟨q, 0, none⟩) 1 1 ∧ VRow w (some ⟨q, 0, none⟩) 1 [K6.d]), RegE.plain (fun v w => ∃ q, v = .agg #[.int .u8 3, .int .i64 0, .int .u64 0, .int .u8 0, .int .u32 0, .int .u64 0, .string ⟨#[]⟩, .slice none 0 0, .slice (some ⟨q, 0, none⟩) 1 1] ∧ VRow w (some ⟨q, 0, none⟩) 1 [K6.d]), RegE.plain (fun v w => ∃ vI rI vD rD, v = .tuple #[.agg #[.int .u8 3, .int .i64 0, .int .u64 0, .int .u8 0, .int .u32 0, .int .u64 0, .string ⟨#[]⟩, vI, vD], .int .i64 0] ∧ OwnI U.heap.size w vI [] rI ∧ OwnD U.heap.size w vD [K6.d] rD), RegE.plain (fun v w => ∃ vI rI vD rD, v = .tuple #[.agg #[.int .u8 3, .int .i64 0, .int .u64 0, .int .u8 0, .int .u32 0, .int .u64 0, .string ⟨#[]⟩, vI, vD], .int .i64 0] ∧ OwnI U.heap.size w vI [] rI ∧ OwnD U.heap.size w vD [K6.d] rD), RegE.plain (fun v w => ∃ vI rI vD rD, v = .agg #[.int .u8 3, .int .i64 0, .int .u64 0, .int .u8 0, .int .u32 0, .int .u64 0, .string ⟨#[]⟩, vI, vD] ∧ OwnI U.heap.size w vI [] rI ∧ OwnD U.heap.size w vD [K6.d] rD), RegE.plain (fun v _ => v = .int .i64 0), RegE.plain (fun v w => ∃ b, v = .pointer (some ⟨b, 0, none⟩) ∧ U.heap.size ≤ b ∧ Blk w b 40 [.int .u8 0, .int .i64 0, .int .u64 0, .int .u8 0, .int .u32 0, .int .u64 0, .string ⟨#[]⟩, .slice none 0 0, .slice none 0 0]), RegE.change (fun v w => ∃ b vI rI vD rD, v = .pointer (some ⟨b, 0, none⟩) ∧ U.heap.size ≤ b ∧ Blk w b 40 [.int .u8 3, .int .i64 0, .int .u64 0, .int .u8 0, .int .u32 0, .int .u64 0, .string ⟨#[]⟩, vI, vD] ∧ OwnI U.heap.size w vI [] rI ∧ OwnD U.heap.size w vD [K6.d] rD) (fun k => U.heap.size ≤ k) (fun w w' => ∃ b cs, U.heap.size ≤ b ∧ Blk w b 40 cs ∧ Chg (fun k => k = b) w w'), RegE.plain (fun v _ => v = .int .i64 0)] (by kernel_rfl) (by kernel_rfl) (trivial) (fun (_ _ : World) _ _ => trivial) ?_ ?_ ?_ ?_ ?_ ?_
 ·exact ⟨Or.inr ⟨fun _ h => h, rfl⟩, Or.inr ⟨fun _ h => h, rfl⟩, Or.inr ⟨fun _ h => h, rfl⟩, Or.inr ⟨fun _ h => h, rfl⟩, Or.inr ⟨fun _ h => h, rfl⟩, Or.inr ⟨fun _ h => h, rfl⟩, Or.inr ⟨fun _ h => h, rfl⟩, Or.inr ⟨fun _ h => h, rfl⟩, Or.inr ⟨fun _ h => h, rfl⟩, Or.inr ⟨fun _ h => h, rfl⟩, Or.inr ⟨fun _ h => h, rfl⟩, Or.inr ⟨fun _ h => h, rfl⟩, Or.inr ⟨fun _ h => h, rfl⟩, Or.inl (by decide), Or.inr ⟨fun _ h => h, rfl⟩, trivial⟩
 ·exact ⟨⟨fun _ _ h => h, fun wx wy h => (fun (_ _ : World) _ _ => trivial) wx wy (RegE.to_below h (fun _ h => h))⟩, ⟨fun _ _ h => h, fun wx wy h => (fun (_ _ : World) _ _ => trivial) wx wy (RegE.to_below h (fun _ h => h))⟩, ⟨fun _ _ h => h, fun wx wy h => (fun (_ _ : World) _ _ => trivial) wx wy (RegE.to_below h (fun _ h => h))⟩, ⟨fun _ _ h => h, fun wx wy h => (fun (_ _ : World) _ _ => trivial) wx wy (RegE.to_below h (fun _ h => h))⟩, ⟨fun _ _ h => h, fun wx wy h => (fun (_ _ : World) _ _ => trivial) wx wy (RegE.to_below h (fun _ h => h))⟩, ⟨fun _ _ h => h, fun wx wy h => (fun (_ _ : World) _ _ => trivial) wx wy (RegE.to_below h (fun _ h => h))⟩, ⟨fun _ _ h => h, fun wx wy h => (fun (_ _ : World) _ _ => trivial) wx wy (RegE.to_below h (fun _ h => h))⟩, ⟨fun _ _ h => h, fun wx wy h => (fun (_ _ : World) _ _ => trivial) wx wy (RegE.to_below h (fun _ h => h))⟩, ⟨fun _ _ h => h, fun wx wy h => (fun (_ _ : World) _ _ => trivial) wx wy (RegE.to_below h (fun _ h => h))⟩, ⟨fun _ _ h => h, fun wx wy h => (fun (_ _ : World) _ _ => trivial) wx wy (RegE.to_below h (fun _ h => h))⟩, ⟨fun _ _ h => h, fun wx wy h => (fun (_ _ : World) _ _ => trivial) wx wy (RegE.to_below h (fun _ h => h))⟩, ⟨fun _ _ h => h, fun wx wy h => (fun (_ _ : World) _ _ => trivial) wx wy (RegE.to_below h (fun _ h => h))⟩, ⟨fun _ _ h => h, fun wx wy h => (fun (_ _ : World) _ _ => trivial) wx wy (RegE.to_below h (fun _ h => h))⟩, ⟨(fun wa wb h => by obtain ⟨b, cs, g1, _, g3⟩ := h; exact g3.mono (fun k _ e => by rw [e]; exact g1)), (fun _ _ _ _ => trivial)⟩, ⟨fun _ _ h => h, fun wx wy h => (fun (_ _ : World) _ _ => trivial) wx wy (RegE.to_below h (fun _ h => h))⟩, trivial⟩
 ·refine ⟨k4, k4, k4, (fun v wa wb hb h => by obtain ⟨q, h1, h2⟩ := h; exact ⟨q, h1, h2.below hb⟩), (fun v wa wb hb h => by obtain ⟨q, h1, h2⟩ := h; exact ⟨q, h1, h2.below hb⟩), k4, (fun v wa wb hb h => by obtain ⟨q, h1, h2⟩ := h; exact ⟨q, h1, h2.below hb⟩), (fun v wa wb hb h => by obtain ⟨q, h1, h2⟩ := h; exact ⟨q, h1, h2.below hb⟩), (fun v wa wb hb h => by obtain ⟨vI, rI, vD, rD, h1, h2, h3⟩ := h; exact ⟨vI, rI, vD, rD, h1, h2.below hb, h3.below hb⟩), (fun v wa wb hb h => by obtain ⟨vI, rI, vD, rD, h1, h2, h3⟩ := h; exact ⟨vI, rI, vD, rD, h1, h2.below hb, h3.below hb⟩), (fun v wa wb hb h => by obtain ⟨vI, rI, vD, rD, h1, h2, h3⟩ := h; exact ⟨vI, rI, vD, rD, h1, h2.below hb, h3.below hb⟩), k4, (fun v wa wb hb h => by obtain ⟨b, h1, h2, h3⟩ := h; exact ⟨b, h1, h2, h3.below hb⟩), (fun v wa wb hb h => by obtain ⟨b, vI, rI, vD, rD, h0, h1, h2, h3, h4⟩ := h; exact ⟨b, vI, rI, vD, rD, h0, h1, h2.below hb, h3.below hb, h4.below hb⟩), k4, trivial⟩
 ·refine ⟨⟨Or.inr (Or.inr (Or.inl (by kernel_rfl))), Or.inr (Or.inr (Or.inr k4)), Or.inr (Or.inr (Or.inr k4)), Or.inr (Or.inr (Or.inl (by kernel_rfl))), Or.inr (Or.inr (Or.inl (by kernel_rfl))), Or.inr (Or.inr (Or.inr k4)), Or.inr (Or.inr (Or.inl (by kernel_rfl))), Or.inr (Or.inr (Or.inl (by kernel_rfl))), Or.inr (Or.inr (Or.inr (fun v wa wb hr h => by obtain ⟨b, cs, g1, g2, g3⟩ := hr; obtain ⟨vI, rI, vD, rD, h1, h2, h3⟩ := h; exact ⟨vI, rI, vD, rD, h1, own6I_leaf h2 g2 g3, own6D_leaf h3 g2 g3⟩))), Or.inr (Or.inr (Or.inr (fun v wa wb hr h => by obtain ⟨b, cs, g1, g2, g3⟩ := hr; obtain ⟨vI, rI, vD, rD, h1, h2, h3⟩ := h; exact ⟨vI, rI, vD, rD, h1, own6I_leaf h2 g2 g3, own6D_leaf h3 g2 g3⟩))), Or.inr (Or.inr (Or.inl (by kernel_rfl))), Or.inr (Or.inr (Or.inr k4)), Or.inr (Or.inr (Or.inl (by kernel_rfl))), Or.inl rfl, Or.inr (Or.inr (Or.inr k4)), trivial⟩, trivial⟩
 ·refine ⟨?_, ?_, ?_, ?_, ?_, ?_, ?_, ?_, ?_, ?_, ?_, ?_, ?_, ?_, ?_, trivial⟩
  ·intro ev w hc hf hg hfix hdep hchg hinv
   refine Or.inl ⟨trivial, Or.inr (Or.inl ⟨9, #[.int .u8 3], w, by go_simp, ?_⟩)⟩
   refine (refnew_any 3 w).mono ?_
   rintro e w9 ⟨rfl, hb⟩
   exact ⟨_, rfl, rfl, Chg.of_below hb⟩
  ·intro ev w hc hf hg hfix hdep hchg hinv
   have e4 : ev (.tmp 4) = _ := hfix 4 (by decide)
   have d := HD0.out.below (RegE.chg0 (hchg [] (by kernel_rfl)))
   have d0 := d.cell 0; have d1 := d.cell 1; have d2 := d.cell 2
   simp only [List.getElem?_cons_succ, List.getElem?_cons_zero] at d0 d1 d2
   exact Or.inl ⟨trivial, Or.inl ⟨_, w, by go_simp, rfl, Chg.refl _ _⟩⟩
  ·intro ev w hc hf hg hfix hdep hchg hinv
   have e21 : ev (.tmp 21) = _ := hdep 1 (by decide)
   exact Or.inl ⟨trivial, Or.inl ⟨_, w, by go_simp, rfl, Chg.refl _ _⟩⟩
  ·intro ev w hc hf hg hfix hdep hchg hinv
   have e22 : ev (.tmp 22) = _ := hdep 2 (by decide)
   exact Or.inl ⟨trivial, Or.inl ⟨.slice (some ⟨w.heap.size, 0, none⟩) 1 1, w.alloc (.cells #[.int .u64 0, .int .u8 0, .int .u32 1, .int .u64 1, .string ⟨#[117]⟩] 51), by go_simp, ⟨w.heap.size, rfl, lit6I w K6.i ⟨by decide, ⟨by decide, by decide, by decide⟩, by decide⟩ 0 0 1 1 rfl rfl rfl rfl⟩, Chg.of_below (below_box _ _ _)⟩⟩
  ·intro ev w hc hf hg hfix hdep hchg hinv
   have e23 := hdep 3 (by decide)
   obtain ⟨q, hv, h1⟩ := e23
   have e23 : ev (.tmp 23) = .slice (some ⟨q, 0, none⟩) 1 1 := hv
   exact Or.inl ⟨trivial, Or.inl ⟨.agg #[.int .u8 3, .int .i64 0, .int .u64 0, .int .u8 0, .int .u32 0, .int .u64 0, .string ⟨#[]⟩, .slice (some ⟨q, 0, none⟩) 1 1, .slice none 0 0], w, by go_simp, ⟨q, rfl, h1⟩, Chg.refl _ _⟩⟩
  ·intro ev w hc hf hg hfix hdep hchg hinv
   have e4 : ev (.tmp 4) = _ := hfix 4 (by decide)
   have d := HD0.out.below (RegE.chg0 (hchg [] (by kernel_rfl)))
   have d0 := d.cell 0; have d1 := d.cell 1; have d2 := d.cell 2
   simp only [List.getElem?_cons_succ, List.getElem?_cons_zero] at d0 d1 d2
   exact Or.inl ⟨trivial, Or.inl ⟨_, w, by go_simp, rfl, Chg.refl _ _⟩⟩
  ·intro ev w hc hf hg hfix hdep hchg hinv
   have e25 : ev (.tmp 25) = _ := hdep 5 (by decide)
   exact Or.inl ⟨trivial, Or.inl ⟨.slice (some ⟨w.heap.size, 0, none⟩) 1 1, w.alloc (.cells #[.int .u8 0, .int .u32 1, .int .u64 1] 31), by go_simp, ⟨w.heap.size, rfl, lit6D w K6.d ⟨by decide, by decide, by decide⟩ 0 1 1 rfl rfl rfl⟩, Chg.of_below (below_box _ _ _)⟩⟩
  ·intro ev w hc hf hg hfix hdep hchg hinv
   have e26 := hdep 6 (by decide)
   obtain ⟨q, hv, h1⟩ := e26
   have e26 : ev (.tmp 26) = .slice (some ⟨q, 0, none⟩) 1 1 := hv
   exact Or.inl ⟨trivial, Or.inl ⟨.agg #[.int .u8 3, .int .i64 0, .int .u64 0, .int .u8 0, .int .u32 0, .int .u64 0, .string ⟨#[]⟩, .slice none 0 0, .slice (some ⟨q, 0, none⟩) 1 1], w, by go_simp, ⟨q, rfl, h1⟩, Chg.refl _ _⟩⟩
  ·intro ev w hc hf hg hfix hdep hchg hinv
   have e20 : ev (.tmp 20) = _ := hdep 0 (by decide)
   have e24 := hdep 4 (by decide)
   have e27 := hdep 7 (by decide)
   have hb0 := RegE.chg0 (hchg [] (by kernel_rfl))
   obtain ⟨q1, hv1, hi1⟩ := e24
   have e24 : ev (.tmp 24) = .agg #[.int .u8 3, .int .i64 0, .int .u64 0, .int .u8 0, .int .u32 0, .int .u64 0, .string ⟨#[]⟩, .slice (some ⟨q1, 0, none⟩) 1 1, .slice none 0 0] := hv1
   obtain ⟨q2, hv2, hi2⟩ := e27
   have e27 : ev (.tmp 27) = .agg #[.int .u8 3, .int .i64 0, .int .u64 0, .int .u8 0, .int .u32 0, .int .u64 0, .string ⟨#[]⟩, .slice none 0 0, .slice (some ⟨q2, 0, none⟩) 1 1] := hv2
   refine Or.inl ⟨trivial, Or.inr (Or.inl ⟨6, #[.agg #[.int .u8 3, .int .i64 0, .int .u64 0, .int .u8 0, .int .u32 0, .int .u64 0, .string ⟨#[]⟩, .slice none 0 0, .slice none 0 0], .agg #[.int .u8 3, .int .i64 0, .int .u64 0, .int .u8 0, .int .u32 0, .int .u64 0, .string ⟨#[]⟩, .slice (some ⟨q1, 0, none⟩) 1 1, .slice none 0 0], .agg #[.int .u8 3, .int .i64 0, .int .u64 0, .int .u8 0, .int .u32 0, .int .u64 0, .string ⟨#[]⟩, .slice none 0 0, .slice (some ⟨q2, 0, none⟩) 1 1]], w, by go_simp, ?_⟩)⟩
   refine (fmerge_any 3 0 0 0 0 0 ⟨#[]⟩ none 0 0 none 0 0 [] [] 3 0 0 0 0 0 ⟨#[]⟩ (some ⟨q1, 0, none⟩) 1 1 none 0 0 [K6.i] [] 3 0 0 0 0 0 ⟨#[]⟩ none 0 0 (some ⟨q2, 0, none⟩) 1 1 [] [K6.d] w (IRow.nil _) rfl (VRow.nil _) rfl (by decide) (by decide) (by decide) hi1 rfl (VRow.nil _) rfl (by decide) (by decide) (by decide) (IRow.nil _) rfl hi2 rfl (by decide) (by decide) (by decide)).mono ?_
   rintro e w9 ⟨hae, hb⟩
   rw [K6.m2] at hae
   obtain ⟨vI, rI, vD, rD, rfl, hI, hD⟩ := hae
   exact ⟨_, rfl, ⟨vI, rI, vD, rD, rfl, hI.base hb0.size, hD.base hb0.size⟩, Chg.of_below hb⟩
  ·intro ev w hc hf hg hfix hdep hchg hinv
   have e28 := hdep 8 (by decide)
   exact Or.inl ⟨trivial, Or.inl ⟨ev (.tmp 28), w, by go_simp, e28, Chg.refl _ _⟩⟩
  ·intro ev w hc hf hg hfix hdep hchg hinv
   have e19 := hdep 9 (by decide)
   obtain ⟨vI, rI, vD, rD, hv, h1, h2⟩ := e19
   have e19 : ev (.tmp 19) = .tuple #[.agg #[.int .u8 3, .int .i64 0, .int .u64 0, .int .u8 0, .int .u32 0, .int .u64 0, .string ⟨#[]⟩, vI, vD], .int .i64 0] := hv
   exact Or.inl ⟨trivial, Or.inl ⟨.agg #[.int .u8 3, .int .i64 0, .int .u64 0, .int .u8 0, .int .u32 0, .int .u64 0, .string ⟨#[]⟩, vI, vD], w, by go_simp, ⟨vI, rI, vD, rD, rfl, h1, h2⟩, Chg.refl _ _⟩⟩
  ·intro ev w hc hf hg hfix hdep hchg hinv
   have e19 := hdep 9 (by decide)
   obtain ⟨vI, rI, vD, rD, hv, h1, h2⟩ := e19
   have e19 : ev (.tmp 19) = .tuple #[.agg #[.int .u8 3, .int .i64 0, .int .u64 0, .int .u8 0, .int .u32 0, .int .u64 0, .string ⟨#[]⟩, vI, vD], .int .i64 0] := hv
   exact Or.inl ⟨trivial, Or.inl ⟨_, w, by go_simp, rfl, Chg.refl _ _⟩⟩
  ·intro ev w hc hf hg hfix hdep hchg hinv
   have hb0 := RegE.chg0 (hchg [] (by kernel_rfl))
   exact Or.inl ⟨trivial, Or.inl ⟨.pointer (some ⟨w.heap.size, 0, none⟩), w.alloc (.cells #[.int .u8 0, .int .i64 0, .int .u64 0, .int .u8 0, .int .u32 0, .int .u64 0, .string ⟨#[]⟩, .slice none 0 0, .slice none 0 0] 40), by go_simp, ⟨w.heap.size, rfl, hb0.size, Blk.new w _ _⟩, (Chg.refl _ w).alloc _⟩⟩
  ·intro ev w hc hf hg hfix hdep hchg hinv
   have e5 := hdep 12 (by decide)
   have e29 := hdep 10 (by decide)
   obtain ⟨vI, rI, vD, rD, hv, h1, h2⟩ := e29
   have e29 : ev (.tmp 29) = .agg #[.int .u8 3, .int .i64 0, .int .u64 0, .int .u8 0, .int .u32 0, .int .u64 0, .string ⟨#[]⟩, vI, vD] := hv
   obtain ⟨b, hvb, hub, hbk⟩ := e5
   have e5 : ev (.tmp 5) = .pointer (some ⟨b, 0, none⟩) := hvb
   obtain ⟨d0, d1, d2, d3, d4, d5, d6, d7, d8⟩ := hbk.nine
   obtain ⟨y0, y1, y2, y3, y4, y5, y6, y7, y8⟩ := hbk.froz9
   obtain ⟨a7, n7, m7, hv7⟩ := Own.slice h1
   obtain ⟨a8, n8, m8, hv8⟩ := Own.slice h2
   subst hv7; subst hv8
   have hc9 := chg9 w b (.int .u8 3) (.int .i64 0) (.int .u64 0) (.int .u8 0) (.int .u32 0) (.int .u64 0) (.string ⟨#[]⟩) (.slice a7 n7 m7) (.slice a8 n8 m8)
   exact Or.inl ⟨trivial, Or.inr (Or.inr ⟨(((((((((w.setCell ⟨b, 0, none⟩ (.int .u8 3)).setCell ⟨b, 1, none⟩ (.int .i64 0)).setCell ⟨b, 2, none⟩ (.int .u64 0)).setCell ⟨b, 3, none⟩ (.int .u8 0)).setCell ⟨b, 4, none⟩ (.int .u32 0)).setCell ⟨b, 5, none⟩ (.int .u64 0)).setCell ⟨b, 6, none⟩ (.string ⟨#[]⟩)).setCell ⟨b, 7, none⟩ (.slice a7 n7 m7)).setCell ⟨b, 8, none⟩ (.slice a8 n8 m8)), by go_simp, ⟨b, _, rI, _, rD, e5, hub, blk9 hbk _ _ _ _ _ _ _ _ _, own6I_leaf h1 hbk hc9, own6D_leaf h2 hbk hc9⟩, ⟨b, _, hub, hbk, hc9⟩⟩)⟩
  ·intro ev w hc hf hg hfix hdep hchg hinv
   have e30 : ev (.tmp 30) = _ := hdep 11 (by decide)
   exact Or.inl ⟨trivial, Or.inl ⟨_, w, by go_simp, rfl, Chg.refl _ _⟩⟩
 ·intro v w2 hv hlk hb2 hJ2
  have lk13 := hlk 12 13 (by kernel_rfl)
  have r13 := hv 13 (by decide) (by decide)
  have r14 := hv 14 (by decide) (by decide)
  simp only [Reg.putAll, Act.put, List.setIfInBounds_toArray, List.set_cons_zero, List.set_cons_succ]
  clear hv hlk
  obtain ⟨b, vI, rI, vD, rD, hv13, hub, hbk, hI, hD⟩ := r13
  simp only [Nat.zero_add, Nat.reduceAdd]
  rw [← lk13, hv13, show v 14 = .int .i64 0 from r14]
  clear lk13 hv13 r14 hJ2
  have hbU := (RegE.end1 hb2).below (B := U.heap.size) (fun k _ e => e) (Nat.le_refl _)
  obtain ⟨a17, c17, hv17, _⟩ := ownI_row hI (by simp)
  have hv17 : vI = .slice a17 0 c17 := hv17
  obtain ⟨a18, c18, hv18, _⟩ := ownD_row hD (fun x hx => by simp at hx; subst hx; exact ⟨by decide, by decide, by decide⟩)
  have hv18 : vD = .slice a18 1 c18 := hv18
  subst hv17; subst hv18
  have hM2 := HM.out.below hbU
  have d7 := hbk.cell 7; have d8 := hbk.cell 8
  have x1 := hM2.cell 1
  simp only [List.getElem?_cons_succ, List.getElem?_cons_zero] at d7 d8 x1
  have HF := Lib.hid (HBU.out.trans (hbU.mono HBU.out.size))
  clear hb2 hI hD hbk hbU hM2 hub
  go_wp2_with fail
  go_ret
  exact ⟨rfl, HF.out⟩
end Go.Proofs.Ytbciopieciglmaa
