import Derived.Test.YtiiidmphmojlgaaGreatZGr22
import Derived.Test.YtiiidmphmojlgaaGreatZGr16
import Derived.Test.YtiiidmphmojlgaaGreatZOp3
namespace Go.Proofs.YtiiidmphmojlgaaGreat
open Go.RowKit Go.Buf Go.LB Go.Lib
set_option linter.unusedSimpArgs false
set_option linter.unusedVariables false
theorem srow_one {w : World} {b : Nat} {s : ByteArray} (h : Blk w b 9 [.string s]) (hs : s.size ≤ 100) : SRow w (some ⟨b, 0, none⟩) 1 [s] := by
 refine ⟨by simp, by omega, by simp; omega, (fun e => by cases e), fun i e he => ⟨_, rfl, ?_⟩⟩
 have hi : i < 1 := by have := (List.getElem?_eq_some_iff.1 he).1; simpa using this
 obtain rfl : i = 0 := by omega
 simp at he; subst he
 have h0 := h.cell 0
 simpa [Addr.add] using h0
def K12.c : Cm.C := ⟨((0, 1), 1), [], [((0, 1), 1)], 1, ⟨1, [⟨#[97]⟩], 5, ⟨#[]⟩, []⟩⟩
def K12.l : Cm.C := ⟨((1, 1), 1), [((0, 1), 1)], [((0, 1), 1), ((1, 1), 1)], 2, ⟨1, [⟨#[97]⟩], 5, ⟨#[]⟩, []⟩⟩
theorem K12.may : Cm.may K12.c = true := by decide +kernel
theorem K12.mayL : Cm.may K12.l = true := by decide +kernel
theorem below_seven (w : World) (o0 o1 o2 o3 o4 o5 o6 : Obj) : Below w.heap.size w (((((((w.alloc o0).alloc o1).alloc o2).alloc o3).alloc o4).alloc o5).alloc o6) := ((((((((Below.refl _ _).alloc (Nat.le_refl _) _).alloc (by simp) _).alloc (by simp; omega) _).alloc (by simp; omega) _).alloc (by simp; omega) _).alloc (by simp; omega) _).alloc (by simp; omega) _)
set_option maxRecDepth 100000 in
set_option maxHeartbeats 12800000 in
theorem known12_any (W : World) : Calls Tryz.prog 14 #[] W fun e w' => e = .returned (.bool true) ∧ Below W.heap.size W w' := by
 go_enter Tryz.func14, Tryz.ntmps14
 go_wp2_with fail
 refine (new_none _).mono ?_
 rintro e w1 ⟨gb, b, rfl, hG, hgb, hbb, hne, hm, hb⟩
 have hGb : Blk w1 gb 42 [.int .u64 0, .slice none 0 0, .slice none 0 0, .int .u64 0, .slice none 0 0, .map (some b)] := by
  rcases hG with ⟨h, _⟩ | ⟨g, h, h2⟩
  ·cases h
  ·cases h; exact h2
 have HG := Lib.hid hGb; have HM := Lib.hid hm; have HB1 := Lib.hid hb; have HBb := Lib.hid hbb; have HNe := Lib.hid hne
 clear hG hm hb hgb hbb hne hGb
 go_wp2_with fail
 go_region
 all_goals
  go_wp2_with fail
  obtain ⟨X, hX⟩ : ∃ X, X = (((((((w1.alloc (.cells #[.int .u8 0, .int .u32 1, .int .u64 1] 27)).alloc (.cells #[.int .u8 0, .int .u32 1, .int .u64 1] 27)).alloc (.cells #[.string ⟨#[97]⟩] 9)).alloc (.cells #[.int .u8 0, .int .u32 1, .int .u64 1, .slice none 0 0, .slice (some ⟨w1.heap.size + 1, 0, none⟩) 1 1, .int .u64 1, .int .u8 1, .slice (some ⟨w1.heap.size + 1 + 1, 0, none⟩) 1 1, .int .i64 5, .string ⟨#[]⟩, .slice none 0 0] 34)).alloc (.cells #[.int .u8 1, .int .u32 1, .int .u64 1, .slice (some ⟨w1.heap.size + 1 + 1 + 1 + 1 + 1, 0, none⟩) 1 1, .slice (some ⟨w1.heap.size + 1 + 1 + 1 + 1 + 1 + 1, 0, none⟩) 2 2, .int .u64 2, .int .u8 1, .slice (some ⟨w1.heap.size + 1 + 1, 0, none⟩) 1 1, .int .i64 5, .string ⟨#[]⟩, .slice none 0 0] 34)).alloc (.cells #[.int .u8 0, .int .u32 1, .int .u64 1] 27)).alloc (.cells #[.int .u8 0, .int .u32 1, .int .u64 1, .int .u8 1, .int .u32 1, .int .u64 1] 27)).drew := ⟨_, rfl⟩
  have hB : Below w1.heap.size w1 X := by rw [hX]; exact (below_seven w1 _ _ _ _ _ _ _).drew
  rw [← hX]
  have hD : Blk X (w1.heap.size) 27 [.int .u8 0, .int .u32 1, .int .u64 1] := by
   have h := (Blk.new w1 #[.int .u8 0, .int .u32 1, .int .u64 1] 27).below (w' := (((((((w1.alloc (.cells #[.int .u8 0, .int .u32 1, .int .u64 1] 27)).alloc (.cells #[.int .u8 0, .int .u32 1, .int .u64 1] 27)).alloc (.cells #[.string ⟨#[97]⟩] 9)).alloc (.cells #[.int .u8 0, .int .u32 1, .int .u64 1, .slice none 0 0, .slice (some ⟨w1.heap.size + 1, 0, none⟩) 1 1, .int .u64 1, .int .u8 1, .slice (some ⟨w1.heap.size + 1 + 1, 0, none⟩) 1 1, .int .i64 5, .string ⟨#[]⟩, .slice none 0 0] 34)).alloc (.cells #[.int .u8 1, .int .u32 1, .int .u64 1, .slice (some ⟨w1.heap.size + 1 + 1 + 1 + 1 + 1, 0, none⟩) 1 1, .slice (some ⟨w1.heap.size + 1 + 1 + 1 + 1 + 1 + 1, 0, none⟩) 2 2, .int .u64 2, .int .u8 1, .slice (some ⟨w1.heap.size + 1 + 1, 0, none⟩) 1 1, .int .i64 5, .string ⟨#[]⟩, .slice none 0 0] 34)).alloc (.cells #[.int .u8 0, .int .u32 1, .int .u64 1] 27)).alloc (.cells #[.int .u8 0, .int .u32 1, .int .u64 1, .int .u8 1, .int .u32 1, .int .u64 1] 27))) (((((((Below.refl _ _).alloc (by exact Nat.le_refl _) _).alloc (by simp; try omega) _).alloc (by simp; try omega) _).alloc (by simp; try omega) _).alloc (by simp; try omega) _).alloc (by simp; try omega) _)
   simp only [World.size_alloc] at h
   rw [hX]; exact h
  have hV : Blk X (w1.heap.size + 1) 27 [.int .u8 0, .int .u32 1, .int .u64 1] := by
   have h := (Blk.new (w1.alloc (.cells #[.int .u8 0, .int .u32 1, .int .u64 1] 27)) #[.int .u8 0, .int .u32 1, .int .u64 1] 27).below (w' := (((((((w1.alloc (.cells #[.int .u8 0, .int .u32 1, .int .u64 1] 27)).alloc (.cells #[.int .u8 0, .int .u32 1, .int .u64 1] 27)).alloc (.cells #[.string ⟨#[97]⟩] 9)).alloc (.cells #[.int .u8 0, .int .u32 1, .int .u64 1, .slice none 0 0, .slice (some ⟨w1.heap.size + 1, 0, none⟩) 1 1, .int .u64 1, .int .u8 1, .slice (some ⟨w1.heap.size + 1 + 1, 0, none⟩) 1 1, .int .i64 5, .string ⟨#[]⟩, .slice none 0 0] 34)).alloc (.cells #[.int .u8 1, .int .u32 1, .int .u64 1, .slice (some ⟨w1.heap.size + 1 + 1 + 1 + 1 + 1, 0, none⟩) 1 1, .slice (some ⟨w1.heap.size + 1 + 1 + 1 + 1 + 1 + 1, 0, none⟩) 2 2, .int .u64 2, .int .u8 1, .slice (some ⟨w1.heap.size + 1 + 1, 0, none⟩) 1 1, .int .i64 5, .string ⟨#[]⟩, .slice none 0 0] 34)).alloc (.cells #[.int .u8 0, .int .u32 1, .int .u64 1] 27)).alloc (.cells #[.int .u8 0, .int .u32 1, .int .u64 1, .int .u8 1, .int .u32 1, .int .u64 1] 27))) ((((((Below.refl _ _).alloc (by exact Nat.le_refl _) _).alloc (by simp; try omega) _).alloc (by simp; try omega) _).alloc (by simp; try omega) _).alloc (by simp; try omega) _)
   simp only [World.size_alloc] at h
   rw [hX]; exact h
  have hP : Blk X (w1.heap.size + 1 + 1) 9 [.string ⟨#[97]⟩] := by
   have h := (Blk.new ((w1.alloc (.cells #[.int .u8 0, .int .u32 1, .int .u64 1] 27)).alloc (.cells #[.int .u8 0, .int .u32 1, .int .u64 1] 27)) #[.string ⟨#[97]⟩] 9).below (w' := (((((((w1.alloc (.cells #[.int .u8 0, .int .u32 1, .int .u64 1] 27)).alloc (.cells #[.int .u8 0, .int .u32 1, .int .u64 1] 27)).alloc (.cells #[.string ⟨#[97]⟩] 9)).alloc (.cells #[.int .u8 0, .int .u32 1, .int .u64 1, .slice none 0 0, .slice (some ⟨w1.heap.size + 1, 0, none⟩) 1 1, .int .u64 1, .int .u8 1, .slice (some ⟨w1.heap.size + 1 + 1, 0, none⟩) 1 1, .int .i64 5, .string ⟨#[]⟩, .slice none 0 0] 34)).alloc (.cells #[.int .u8 1, .int .u32 1, .int .u64 1, .slice (some ⟨w1.heap.size + 1 + 1 + 1 + 1 + 1, 0, none⟩) 1 1, .slice (some ⟨w1.heap.size + 1 + 1 + 1 + 1 + 1 + 1, 0, none⟩) 2 2, .int .u64 2, .int .u8 1, .slice (some ⟨w1.heap.size + 1 + 1, 0, none⟩) 1 1, .int .i64 5, .string ⟨#[]⟩, .slice none 0 0] 34)).alloc (.cells #[.int .u8 0, .int .u32 1, .int .u64 1] 27)).alloc (.cells #[.int .u8 0, .int .u32 1, .int .u64 1, .int .u8 1, .int .u32 1, .int .u64 1] 27))) (((((Below.refl _ _).alloc (by exact Nat.le_refl _) _).alloc (by simp; try omega) _).alloc (by simp; try omega) _).alloc (by simp; try omega) _)
   simp only [World.size_alloc] at h
   rw [hX]; exact h
  have hC : Blk X (w1.heap.size + 1 + 1 + 1) 34 [.int .u8 0, .int .u32 1, .int .u64 1, .slice none 0 0, .slice (some ⟨w1.heap.size + 1, 0, none⟩) 1 1, .int .u64 1, .int .u8 1, .slice (some ⟨w1.heap.size + 1 + 1, 0, none⟩) 1 1, .int .i64 5, .string ⟨#[]⟩, .slice none 0 0] := by
   have h := (Blk.new (((w1.alloc (.cells #[.int .u8 0, .int .u32 1, .int .u64 1] 27)).alloc (.cells #[.int .u8 0, .int .u32 1, .int .u64 1] 27)).alloc (.cells #[.string ⟨#[97]⟩] 9)) #[.int .u8 0, .int .u32 1, .int .u64 1, .slice none 0 0, .slice (some ⟨w1.heap.size + 1, 0, none⟩) 1 1, .int .u64 1, .int .u8 1, .slice (some ⟨w1.heap.size + 1 + 1, 0, none⟩) 1 1, .int .i64 5, .string ⟨#[]⟩, .slice none 0 0] 34).below (w' := (((((((w1.alloc (.cells #[.int .u8 0, .int .u32 1, .int .u64 1] 27)).alloc (.cells #[.int .u8 0, .int .u32 1, .int .u64 1] 27)).alloc (.cells #[.string ⟨#[97]⟩] 9)).alloc (.cells #[.int .u8 0, .int .u32 1, .int .u64 1, .slice none 0 0, .slice (some ⟨w1.heap.size + 1, 0, none⟩) 1 1, .int .u64 1, .int .u8 1, .slice (some ⟨w1.heap.size + 1 + 1, 0, none⟩) 1 1, .int .i64 5, .string ⟨#[]⟩, .slice none 0 0] 34)).alloc (.cells #[.int .u8 1, .int .u32 1, .int .u64 1, .slice (some ⟨w1.heap.size + 1 + 1 + 1 + 1 + 1, 0, none⟩) 1 1, .slice (some ⟨w1.heap.size + 1 + 1 + 1 + 1 + 1 + 1, 0, none⟩) 2 2, .int .u64 2, .int .u8 1, .slice (some ⟨w1.heap.size + 1 + 1, 0, none⟩) 1 1, .int .i64 5, .string ⟨#[]⟩, .slice none 0 0] 34)).alloc (.cells #[.int .u8 0, .int .u32 1, .int .u64 1] 27)).alloc (.cells #[.int .u8 0, .int .u32 1, .int .u64 1, .int .u8 1, .int .u32 1, .int .u64 1] 27))) ((((Below.refl _ _).alloc (by exact Nat.le_refl _) _).alloc (by simp; try omega) _).alloc (by simp; try omega) _)
   simp only [World.size_alloc] at h
   rw [hX]; exact h
  have hL : Blk X (w1.heap.size + 1 + 1 + 1 + 1) 34 [.int .u8 1, .int .u32 1, .int .u64 1, .slice (some ⟨w1.heap.size + 1 + 1 + 1 + 1 + 1, 0, none⟩) 1 1, .slice (some ⟨w1.heap.size + 1 + 1 + 1 + 1 + 1 + 1, 0, none⟩) 2 2, .int .u64 2, .int .u8 1, .slice (some ⟨w1.heap.size + 1 + 1, 0, none⟩) 1 1, .int .i64 5, .string ⟨#[]⟩, .slice none 0 0] := by
   have h := (Blk.new ((((w1.alloc (.cells #[.int .u8 0, .int .u32 1, .int .u64 1] 27)).alloc (.cells #[.int .u8 0, .int .u32 1, .int .u64 1] 27)).alloc (.cells #[.string ⟨#[97]⟩] 9)).alloc (.cells #[.int .u8 0, .int .u32 1, .int .u64 1, .slice none 0 0, .slice (some ⟨w1.heap.size + 1, 0, none⟩) 1 1, .int .u64 1, .int .u8 1, .slice (some ⟨w1.heap.size + 1 + 1, 0, none⟩) 1 1, .int .i64 5, .string ⟨#[]⟩, .slice none 0 0] 34)) #[.int .u8 1, .int .u32 1, .int .u64 1, .slice (some ⟨w1.heap.size + 1 + 1 + 1 + 1 + 1, 0, none⟩) 1 1, .slice (some ⟨w1.heap.size + 1 + 1 + 1 + 1 + 1 + 1, 0, none⟩) 2 2, .int .u64 2, .int .u8 1, .slice (some ⟨w1.heap.size + 1 + 1, 0, none⟩) 1 1, .int .i64 5, .string ⟨#[]⟩, .slice none 0 0] 34).below (w' := (((((((w1.alloc (.cells #[.int .u8 0, .int .u32 1, .int .u64 1] 27)).alloc (.cells #[.int .u8 0, .int .u32 1, .int .u64 1] 27)).alloc (.cells #[.string ⟨#[97]⟩] 9)).alloc (.cells #[.int .u8 0, .int .u32 1, .int .u64 1, .slice none 0 0, .slice (some ⟨w1.heap.size + 1, 0, none⟩) 1 1, .int .u64 1, .int .u8 1, .slice (some ⟨w1.heap.size + 1 + 1, 0, none⟩) 1 1, .int .i64 5, .string ⟨#[]⟩, .slice none 0 0] 34)).alloc (.cells #[.int .u8 1, .int .u32 1, .int .u64 1, .slice (some ⟨w1.heap.size + 1 + 1 + 1 + 1 + 1, 0, none⟩) 1 1, .slice (some ⟨w1.heap.size + 1 + 1 + 1 + 1 + 1 + 1, 0, none⟩) 2 2, .int .u64 2, .int .u8 1, .slice (some ⟨w1.heap.size + 1 + 1, 0, none⟩) 1 1, .int .i64 5, .string ⟨#[]⟩, .slice none 0 0] 34)).alloc (.cells #[.int .u8 0, .int .u32 1, .int .u64 1] 27)).alloc (.cells #[.int .u8 0, .int .u32 1, .int .u64 1, .int .u8 1, .int .u32 1, .int .u64 1] 27))) (((Below.refl _ _).alloc (by exact Nat.le_refl _) _).alloc (by simp; try omega) _)
   simp only [World.size_alloc] at h
   rw [hX]; exact h
  have hQ : Blk X (w1.heap.size + 1 + 1 + 1 + 1 + 1) 27 [.int .u8 0, .int .u32 1, .int .u64 1] := by
   have h := (Blk.new (((((w1.alloc (.cells #[.int .u8 0, .int .u32 1, .int .u64 1] 27)).alloc (.cells #[.int .u8 0, .int .u32 1, .int .u64 1] 27)).alloc (.cells #[.string ⟨#[97]⟩] 9)).alloc (.cells #[.int .u8 0, .int .u32 1, .int .u64 1, .slice none 0 0, .slice (some ⟨w1.heap.size + 1, 0, none⟩) 1 1, .int .u64 1, .int .u8 1, .slice (some ⟨w1.heap.size + 1 + 1, 0, none⟩) 1 1, .int .i64 5, .string ⟨#[]⟩, .slice none 0 0] 34)).alloc (.cells #[.int .u8 1, .int .u32 1, .int .u64 1, .slice (some ⟨w1.heap.size + 1 + 1 + 1 + 1 + 1, 0, none⟩) 1 1, .slice (some ⟨w1.heap.size + 1 + 1 + 1 + 1 + 1 + 1, 0, none⟩) 2 2, .int .u64 2, .int .u8 1, .slice (some ⟨w1.heap.size + 1 + 1, 0, none⟩) 1 1, .int .i64 5, .string ⟨#[]⟩, .slice none 0 0] 34)) #[.int .u8 0, .int .u32 1, .int .u64 1] 27).below (w' := (((((((w1.alloc (.cells #[.int .u8 0, .int .u32 1, .int .u64 1] 27)).alloc (.cells #[.int .u8 0, .int .u32 1, .int .u64 1] 27)).alloc (.cells #[.string ⟨#[97]⟩] 9)).alloc (.cells #[.int .u8 0, .int .u32 1, .int .u64 1, .slice none 0 0, .slice (some ⟨w1.heap.size + 1, 0, none⟩) 1 1, .int .u64 1, .int .u8 1, .slice (some ⟨w1.heap.size + 1 + 1, 0, none⟩) 1 1, .int .i64 5, .string ⟨#[]⟩, .slice none 0 0] 34)).alloc (.cells #[.int .u8 1, .int .u32 1, .int .u64 1, .slice (some ⟨w1.heap.size + 1 + 1 + 1 + 1 + 1, 0, none⟩) 1 1, .slice (some ⟨w1.heap.size + 1 + 1 + 1 + 1 + 1 + 1, 0, none⟩) 2 2, .int .u64 2, .int .u8 1, .slice (some ⟨w1.heap.size + 1 + 1, 0, none⟩) 1 1, .int .i64 5, .string ⟨#[]⟩, .slice none 0 0] 34)).alloc (.cells #[.int .u8 0, .int .u32 1, .int .u64 1] 27)).alloc (.cells #[.int .u8 0, .int .u32 1, .int .u64 1, .int .u8 1, .int .u32 1, .int .u64 1] 27))) ((Below.refl _ _).alloc (by exact Nat.le_refl _) _)
   simp only [World.size_alloc] at h
   rw [hX]; exact h
  have hU : Blk X (w1.heap.size + 1 + 1 + 1 + 1 + 1 + 1) 27 [.int .u8 0, .int .u32 1, .int .u64 1, .int .u8 1, .int .u32 1, .int .u64 1] := by
   have h := (Blk.new ((((((w1.alloc (.cells #[.int .u8 0, .int .u32 1, .int .u64 1] 27)).alloc (.cells #[.int .u8 0, .int .u32 1, .int .u64 1] 27)).alloc (.cells #[.string ⟨#[97]⟩] 9)).alloc (.cells #[.int .u8 0, .int .u32 1, .int .u64 1, .slice none 0 0, .slice (some ⟨w1.heap.size + 1, 0, none⟩) 1 1, .int .u64 1, .int .u8 1, .slice (some ⟨w1.heap.size + 1 + 1, 0, none⟩) 1 1, .int .i64 5, .string ⟨#[]⟩, .slice none 0 0] 34)).alloc (.cells #[.int .u8 1, .int .u32 1, .int .u64 1, .slice (some ⟨w1.heap.size + 1 + 1 + 1 + 1 + 1, 0, none⟩) 1 1, .slice (some ⟨w1.heap.size + 1 + 1 + 1 + 1 + 1 + 1, 0, none⟩) 2 2, .int .u64 2, .int .u8 1, .slice (some ⟨w1.heap.size + 1 + 1, 0, none⟩) 1 1, .int .i64 5, .string ⟨#[]⟩, .slice none 0 0] 34)).alloc (.cells #[.int .u8 0, .int .u32 1, .int .u64 1] 27)) #[.int .u8 0, .int .u32 1, .int .u64 1, .int .u8 1, .int .u32 1, .int .u64 1] 27).below (w' := (((((((w1.alloc (.cells #[.int .u8 0, .int .u32 1, .int .u64 1] 27)).alloc (.cells #[.int .u8 0, .int .u32 1, .int .u64 1] 27)).alloc (.cells #[.string ⟨#[97]⟩] 9)).alloc (.cells #[.int .u8 0, .int .u32 1, .int .u64 1, .slice none 0 0, .slice (some ⟨w1.heap.size + 1, 0, none⟩) 1 1, .int .u64 1, .int .u8 1, .slice (some ⟨w1.heap.size + 1 + 1, 0, none⟩) 1 1, .int .i64 5, .string ⟨#[]⟩, .slice none 0 0] 34)).alloc (.cells #[.int .u8 1, .int .u32 1, .int .u64 1, .slice (some ⟨w1.heap.size + 1 + 1 + 1 + 1 + 1, 0, none⟩) 1 1, .slice (some ⟨w1.heap.size + 1 + 1 + 1 + 1 + 1 + 1, 0, none⟩) 2 2, .int .u64 2, .int .u8 1, .slice (some ⟨w1.heap.size + 1 + 1, 0, none⟩) 1 1, .int .i64 5, .string ⟨#[]⟩, .slice none 0 0] 34)).alloc (.cells #[.int .u8 0, .int .u32 1, .int .u64 1] 27)).alloc (.cells #[.int .u8 0, .int .u32 1, .int .u64 1, .int .u8 1, .int .u32 1, .int .u64 1] 27))) (Below.refl _ _)
   simp only [World.size_alloc] at h
   rw [hX]; exact h
  clear hX
  have HB := Lib.hid hB; have HD := Lib.hid hD; have HV := Lib.hid hV; have HP := Lib.hid hP; have HC := Lib.hid hC; have HL := Lib.hid hL; have HQ := Lib.hid hQ; have HU := Lib.hid hU
  clear hB hD hV hP hC hL hQ hU
  have hok0 : Dt.okD ((0, 1), 1) := ⟨by decide, by decide, by decide⟩
  have hok1 : Dt.okD ((1, 1), 1) := ⟨by decide, by decide, by decide⟩
  have HO0 := Lib.hid hok0; have HO1 := Lib.hid hok1; clear hok0 hok1
  refine (insert_gap gb b 1 1 (some ⟨w1.heap.size + 1 + 1 + 1 + 1 + 1, 0, none⟩) 1 (some ⟨w1.heap.size + 1 + 1 + 1 + 1 + 1 + 1, 0, none⟩) 2 2 2 1 (some ⟨w1.heap.size + 1 + 1, 0, none⟩) 1 1 5 ⟨#[]⟩ none 0 0 ((0, 1), 1) [((0, 1), 1), ((1, 1), 1)] [⟨#[97]⟩] [] X (vrow_dot (d := ((0, 1), 1)) HQ.out HO0.out) (vrow_dots (d := ((0, 1), 1)) (e := ((1, 1), 1)) HU.out HO0.out HO1.out) rfl (srow_one HP.out (by decide)) rfl (VRow.nil _) rfl (by omega) (by omega) (by omega) (by omega) K12.mayL (HG.out.below HB.out) (CMap.below (CMap.zero HM.out) HB.out) HO1.out).mono ?_
  rintro e w2 ⟨rfl, hb⟩
  have HB2 := Lib.hid (HB.out.trans (hb.mono HB.out.size)); have HD2 := Lib.hid (HD.out.below hb); have HV2 := Lib.hid (HV.out.below hb); have HP2 := Lib.hid (HP.out.below hb); have HC2 := Lib.hid (HC.out.below hb)
  clear hb HD HV HP HC HL HQ HU
  have c0 := HC2.out.cell 0; have c1 := HC2.out.cell 1; have c2 := HC2.out.cell 2; have c3 := HC2.out.cell 3; have c4 := HC2.out.cell 4; have c5 := HC2.out.cell 5; have c6 := HC2.out.cell 6; have c7 := HC2.out.cell 7; have c8 := HC2.out.cell 8; have c9 := HC2.out.cell 9; have c10 := HC2.out.cell 10
  simp only [List.getElem?_cons_succ, List.getElem?_cons_zero] at c0 c1 c2 c3 c4 c5 c6 c7 c8 c9 c10
  have s3 := HC2.out.lt
  go_wp2_with fail
  have HMb := Lib.hid (map_below HM.out HB2.out)
  refine (insert_first gb b 0 1 (some ⟨w1.heap.size + 1, 0, none⟩) 1 1 1 (some ⟨w1.heap.size + 1 + 1, 0, none⟩) 1 1 5 ⟨#[]⟩ none 0 0 [⟨#[97]⟩] [] w2 (vrow_dot (d := ((0, 1), 1)) HV2.out HO0.out) (srow_one HP2.out (by decide)) rfl (VRow.nil _) rfl (by omega) (by omega) (by omega) K12.may (HG.out.below HB2.out) HMb.out (by omega) (by omega) (by omega) (by decide)).mono ?_
  rintro e w3 ⟨rfl, hm3, hc3⟩
  have hb1 : b < w1.heap.size := (Array.getElem?_eq_some_iff.1 HM.out).1
  have HM3 := Lib.hid hm3
  have HG3 := Lib.hid ((HG.out.below HB2.out).chg hc3 (fun e => HNe.out e))
  have HD3 := Lib.hid (HD2.out.chg hc3 (fun e => by have e' : w1.heap.size = b := e; omega)); have HV3 := Lib.hid (HV2.out.chg hc3 (fun e => by have e' : w1.heap.size + 1 = b := e; omega)); have HP3 := Lib.hid (HP2.out.chg hc3 (fun e => by have e' : w1.heap.size + 1 + 1 = b := e; omega)); have HC3 := Lib.hid (HC2.out.chg hc3 (fun e => by have e' : w1.heap.size + 1 + 1 + 1 = b := e; omega))
  have HB3 := Lib.hid (Chg.belowTrans (HB1.out.trans (HB2.out.mono HB1.out.size)) hc3 (fun q _ e => by have e' : q = b := e; rw [e']; exact HBb.out) (Nat.le_trans HB1.out.size HB2.out.size))
  clear hb1 hm3 hc3 c0 c1 c2 c3 c4 c5 c6 c7 c8 c9 c10 s3 HB2 HD2 HV2 HP2 HC2 HMb HB
  have c0 := HC3.out.cell 0; have c1 := HC3.out.cell 1; have c2 := HC3.out.cell 2; have c3 := HC3.out.cell 3; have c4 := HC3.out.cell 4; have c5 := HC3.out.cell 5; have c6 := HC3.out.cell 6; have c7 := HC3.out.cell 7; have c8 := HC3.out.cell 8; have c9 := HC3.out.cell 9; have c10 := HC3.out.cell 10
  simp only [List.getElem?_cons_succ, List.getElem?_cons_zero] at c0 c1 c2 c3 c4 c5 c6 c7 c8 c9 c10
  have s3 := HC3.out.lt
  go_wp2_with fail
  refine (insert_twice gb b 0 1 (some ⟨w1.heap.size + 1, 0, none⟩) 1 1 1 (some ⟨w1.heap.size + 1 + 1, 0, none⟩) 1 1 5 ⟨#[]⟩ none 0 0 [⟨#[97]⟩] [] w3 (vrow_dot (d := ((0, 1), 1)) HV3.out HO0.out) (srow_one HP3.out (by decide)) rfl (VRow.nil _) rfl (by omega) (by omega) (by omega) K12.may HG3.out [⟨((0, 1), 1), [], [((0, 1), 1)], 1, ⟨1, [⟨#[97]⟩], 5, ⟨#[]⟩, []⟩⟩] HM3.out rfl).mono ?_
  rintro e w4 ⟨rfl, hb⟩
  have HG4 := Lib.hid (HG3.out.below hb); have HM4 := Lib.hid (CMap.below HM3.out hb); have HD4 := Lib.hid (HD3.out.below hb); have HB4 := Lib.hid (HB3.out.trans (hb.mono HB3.out.size))
  clear hb c0 c1 c2 c3 c4 c5 c6 c7 c8 c9 c10 s3 HG3 HM3 HD3 HV3 HP3 HC3 HB3
  go_wp2_with fail
  refine (heads_one (some ⟨gb, 0, none⟩) b ⟨((0, 1), 1), [], [((0, 1), 1)], 1, ⟨1, [⟨#[97]⟩], 5, ⟨#[]⟩, []⟩⟩ w4 (Or.inr ⟨gb, rfl, HG4.out⟩) HM4.out).mono ?_
  rintro e w5 ⟨⟨ha, hk, rfl, hv⟩, hb⟩
  have HG5 := Lib.hid (HG4.out.below hb); have HM5 := Lib.hid (CMap.below HM4.out hb); have HD5 := Lib.hid (HD4.out.below hb); have HB5 := Lib.hid (HB4.out.trans (hb.mono HB4.out.size))
  obtain ⟨hblk, hoff, rfl, hlt, hcells⟩ := hv.at (by simp)
  obtain ⟨g0, g1, g2⟩ := hcells 0 ((0, 1), 1) rfl
  have hHB : Below w5.heap.size w5 w5 := Below.refl _ _
  have HLt := Lib.hid hlt; have HG0 := Lib.hid g0; have HG1 := Lib.hid g1; have HG2 := Lib.hid g2
  clear hb hv hcells g0 g1 g2 hlt hHB HG4 HM4 HD4 HB4
  go_wp2_with fail
  refine Reg.region_list (by kernel_rfl) [fun v _ => v = .int .i64 9, fun v _ => v = .bool true, fun v _ => v = .bool true, fun v _ => v = .int .i64 0, fun v _ => v = .bool true, fun v _ => v = .bool true, fun v _ => v = .bool true, fun v _ => v = .int .i64 8, fun v _ => v = .bool true, fun v _ => v = .bool true, fun v _ => v = .bool true, fun v _ => v = .slice (some ⟨hblk, hoff, none⟩) 1 hk, fun v _ => v = .int .i64 1, fun v _ => v = .bool true, fun v _ => v = .bool true, fun v _ => v = .bool true, fun v _ => v = .slice (some ⟨hblk, hoff, none⟩) 1 hk, fun v _ => v = .pointer (some ⟨hblk, hoff, none⟩), fun v _ => v = .agg #[.int .u8 0, .int .u32 1, .int .u64 1], fun v _ => v = .agg #[.int .u8 0, .int .u32 1, .int .u64 1], fun v _ => v = .bool true, fun v _ => v = .bool true, fun v _ => v = .bool true, fun v _ => v = .pointer (some ⟨gb, 0, none⟩), fun v _ => v = .agg #[.int .u8 0, .int .u32 1, .int .u64 1], fun v _ => v = .bool true, fun v _ => v = .bool true, fun v _ => v = .bool true, fun v _ => v = .pointer (some ⟨gb, 0, none⟩), fun v _ => v = .int .u64 1, fun v _ => v = .bool true, fun v _ => v = .bool true, fun v _ => v = .bool true] (by kernel_rfl) ?_ ?_ ?_
  ·refine ⟨k4, k4, k4, k4, k4, k4, k4, k4, k4, k4, k4, k4, k4, k4, k4, k4, k4, k4, k4, k4, k4, k4, k4, k4, k4, k4, k4, k4, k4, k4, k4, k4, k4, trivial⟩
  ·refine ⟨?_, ?_, ?_, ?_, ?_, ?_, ?_, ?_, ?_, ?_, ?_, ?_, ?_, ?_, ?_, ?_, ?_, ?_, ?_, ?_, ?_, ?_, ?_, ?_, ?_, ?_, ?_, ?_, ?_, ?_, ?_, ?_, ?_, trivial⟩
   ·intro ev w hc hf hg hfix hdep hbel
    have e6 : ev (.tmp 6) = _ := hfix 6 (by decide)
    exact okb trivial rfl (by go_simp)
   ·intro ev w hc hf hg hfix hdep hbel
    have e53 : ev (.tmp 53) = _ := hdep 0 (by decide)
    exact okb trivial rfl (by go_simp)
   ·intro ev w hc hf hg hfix hdep hbel
    have e54 : ev (.tmp 54) = _ := hdep 1 (by decide)
    exact okb trivial rfl (by go_simp)
   ·intro ev w hc hf hg hfix hdep hbel
    have fg : ev (.tmp 55) = _ := hdep 2 (by decide)
    have e7 : ev (.tmp 7) = _ := hfix 7 (by decide)
    exact okb fg rfl (by go_simp)
   ·intro ev w hc hf hg hfix hdep hbel
    have fg : ev (.tmp 55) = _ := hdep 2 (by decide)
    have e56 : ev (.tmp 56) = _ := hdep 3 (by decide)
    exact okb fg rfl (by go_simp)
   ·intro ev w hc hf hg hfix hdep hbel
    have e55 : ev (.tmp 55) = _ := hdep 2 (by decide)
    have e57 : ev (.tmp 57) = _ := hdep 4 (by decide)
    exact okb trivial rfl (by go_simp)
   ·intro ev w hc hf hg hfix hdep hbel
    have e58 : ev (.tmp 58) = _ := hdep 5 (by decide)
    exact okb trivial rfl (by go_simp)
   ·intro ev w hc hf hg hfix hdep hbel
    have fg : ev (.tmp 59) = _ := hdep 6 (by decide)
    have e8 : ev (.tmp 8) = _ := hfix 8 (by decide)
    exact okb fg rfl (by go_simp)
   ·intro ev w hc hf hg hfix hdep hbel
    have fg : ev (.tmp 59) = _ := hdep 6 (by decide)
    have e60 : ev (.tmp 60) = _ := hdep 7 (by decide)
    exact okb fg rfl (by go_simp)
   ·intro ev w hc hf hg hfix hdep hbel
    have e59 : ev (.tmp 59) = _ := hdep 6 (by decide)
    have e61 : ev (.tmp 61) = _ := hdep 8 (by decide)
    exact okb trivial rfl (by go_simp)
   ·intro ev w hc hf hg hfix hdep hbel
    have e62 : ev (.tmp 62) = _ := hdep 9 (by decide)
    exact okb trivial rfl (by go_simp)
   ·intro ev w hc hf hg hfix hdep hbel
    have fg : ev (.tmp 63) = _ := hdep 10 (by decide)
    have e9 : ev (.tmp 9) = _ := hfix 9 (by decide)
    exact okb fg rfl (by go_simp)
   ·intro ev w hc hf hg hfix hdep hbel
    have fg : ev (.tmp 63) = _ := hdep 10 (by decide)
    have e64 : ev (.tmp 64) = _ := hdep 11 (by decide)
    exact okb fg rfl (by go_simp)
   ·intro ev w hc hf hg hfix hdep hbel
    have fg : ev (.tmp 63) = _ := hdep 10 (by decide)
    have e65 : ev (.tmp 65) = _ := hdep 12 (by decide)
    exact okb fg rfl (by go_simp)
   ·intro ev w hc hf hg hfix hdep hbel
    have e63 : ev (.tmp 63) = _ := hdep 10 (by decide)
    have e66 : ev (.tmp 66) = _ := hdep 13 (by decide)
    exact okb trivial rfl (by go_simp)
   ·intro ev w hc hf hg hfix hdep hbel
    have e67 : ev (.tmp 67) = _ := hdep 14 (by decide)
    exact okb trivial rfl (by go_simp)
   ·intro ev w hc hf hg hfix hdep hbel
    have fg : ev (.tmp 68) = _ := hdep 15 (by decide)
    have e9 : ev (.tmp 9) = _ := hfix 9 (by decide)
    exact okb fg rfl (by go_simp)
   ·intro ev w hc hf hg hfix hdep hbel
    have fg : ev (.tmp 68) = _ := hdep 15 (by decide)
    have e69 : ev (.tmp 69) = _ := hdep 16 (by decide)
    exact okb fg rfl (by go_simp)
   ·intro ev w hc hf hg hfix hdep hbel
    have fg : ev (.tmp 68) = _ := hdep 15 (by decide)
    have e70 : ev (.tmp 70) = _ := hdep 17 (by decide)
    have hq0 := ((undrewB hbel).cell (p := ⟨hblk, hoff, none⟩) HLt.out).trans (by simpa using HG0.out)
    have hq1 := ((undrewB hbel).cell (p := ⟨hblk, hoff + 1, none⟩) HLt.out).trans (by simpa using HG1.out)
    have hq2 := ((undrewB hbel).cell (p := ⟨hblk, hoff + 2, none⟩) HLt.out).trans (by simpa using HG2.out)
    exact okb fg rfl (by go_simp)
   ·intro ev w hc hf hg hfix hdep hbel
    have fg : ev (.tmp 68) = _ := hdep 15 (by decide)
    have e3 : ev (.tmp 3) = _ := hfix 3 (by decide)
    have hz := HD5.out.below (undrewB hbel)
    have z0 := hz.cell 0; have z1 := hz.cell 1; have z2 := hz.cell 2
    simp only [List.getElem?_cons_succ, List.getElem?_cons_zero] at z0 z1 z2
    exact okb fg rfl (by go_simp)
   ·intro ev w hc hf hg hfix hdep hbel
    have fg : ev (.tmp 68) = _ := hdep 15 (by decide)
    have e71 : ev (.tmp 71) = _ := hdep 18 (by decide)
    have e72 : ev (.tmp 72) = _ := hdep 19 (by decide)
    exact okb fg rfl (by go_simp)
   ·intro ev w hc hf hg hfix hdep hbel
    have e68 : ev (.tmp 68) = _ := hdep 15 (by decide)
    have e73 : ev (.tmp 73) = _ := hdep 20 (by decide)
    exact okb trivial rfl (by go_simp)
   ·intro ev w hc hf hg hfix hdep hbel
    have e74 : ev (.tmp 74) = _ := hdep 21 (by decide)
    exact okb trivial rfl (by go_simp)
   ·intro ev w hc hf hg hfix hdep hbel
    have fg : ev (.tmp 75) = _ := hdep 22 (by decide)
    have e1 : ev (.tmp 1) = _ := hfix 1 (by decide)
    exact okb fg rfl (by go_simp)
   ·intro ev w hc hf hg hfix hdep hbel
    have fg : ev (.tmp 75) = _ := hdep 22 (by decide)
    have e3 : ev (.tmp 3) = _ := hfix 3 (by decide)
    have hz := HD5.out.below (undrewB hbel)
    have z0 := hz.cell 0; have z1 := hz.cell 1; have z2 := hz.cell 2
    simp only [List.getElem?_cons_succ, List.getElem?_cons_zero] at z0 z1 z2
    exact okb fg rfl (by go_simp)
   ·intro ev w hc hf hg hfix hdep hbel
    have fg : ev (.tmp 75) = _ := hdep 22 (by decide)
    have e76 : ev (.tmp 76) = _ := hdep 23 (by decide)
    have e77 : ev (.tmp 77) = _ := hdep 24 (by decide)
    refine Or.inl ⟨fg, Or.inr ⟨6, #[.pointer (some ⟨gb, 0, none⟩), .agg #[.int .u8 0, .int .u32 1, .int .u64 1]], w, by go_simp, ?_⟩⟩
    refine (ghas_any (some ⟨gb, 0, none⟩) (some b) 0 1 1 [⟨((0, 1), 1), [], [((0, 1), 1)], 1, ⟨1, [⟨#[97]⟩], 5, ⟨#[]⟩, []⟩⟩] w (Or.inr ⟨gb, rfl, HG5.out.below (undrewB hbel)⟩) (CMap.below HM5.out (undrewB hbel)) HO0.out).mono ?_
    rintro e w9 ⟨rfl, hb⟩
    exact ⟨_, rfl, rfl, hb⟩
   ·intro ev w hc hf hg hfix hdep hbel
    have e75 : ev (.tmp 75) = _ := hdep 22 (by decide)
    have e78 : ev (.tmp 78) = _ := hdep 25 (by decide)
    exact okb trivial rfl (by go_simp)
   ·intro ev w hc hf hg hfix hdep hbel
    have e79 : ev (.tmp 79) = _ := hdep 26 (by decide)
    exact okb trivial rfl (by go_simp)
   ·intro ev w hc hf hg hfix hdep hbel
    have fg : ev (.tmp 80) = _ := hdep 27 (by decide)
    have e1 : ev (.tmp 1) = _ := hfix 1 (by decide)
    exact okb fg rfl (by go_simp)
   ·intro ev w hc hf hg hfix hdep hbel
    have fg : ev (.tmp 80) = _ := hdep 27 (by decide)
    have e81 : ev (.tmp 81) = _ := hdep 28 (by decide)
    refine Or.inl ⟨fg, Or.inr ⟨10, #[.pointer (some ⟨gb, 0, none⟩)], w, by go_simp, ?_⟩⟩
    refine (time_one (some ⟨gb, 0, none⟩) b ⟨((0, 1), 1), [], [((0, 1), 1)], 1, ⟨1, [⟨#[97]⟩], 5, ⟨#[]⟩, []⟩⟩ w (Or.inr ⟨gb, rfl, HG5.out.below (undrewB hbel)⟩) (CMap.below HM5.out (undrewB hbel))).mono ?_
    rintro e w9 ⟨rfl, hb⟩
    exact ⟨_, rfl, rfl, hb⟩
   ·intro ev w hc hf hg hfix hdep hbel
    have fg : ev (.tmp 80) = _ := hdep 27 (by decide)
    have e82 : ev (.tmp 82) = _ := hdep 29 (by decide)
    exact okb fg rfl (by go_simp)
   ·intro ev w hc hf hg hfix hdep hbel
    have e80 : ev (.tmp 80) = _ := hdep 27 (by decide)
    have e83 : ev (.tmp 83) = _ := hdep 30 (by decide)
    exact okb trivial rfl (by go_simp)
   ·intro ev w hc hf hg hfix hdep hbel
    have e84 : ev (.tmp 84) = _ := hdep 31 (by decide)
    exact okb trivial rfl (by go_simp)
  ·intro v w2 hv hb2
   have r0 : v 0 = _ := hv 0 (by decide)
   have r1 : v 1 = _ := hv 1 (by decide)
   have r2 : v 2 = _ := hv 2 (by decide)
   have r3 : v 3 = _ := hv 3 (by decide)
   have r4 : v 4 = _ := hv 4 (by decide)
   have r5 : v 5 = _ := hv 5 (by decide)
   have r6 : v 6 = _ := hv 6 (by decide)
   have r7 : v 7 = _ := hv 7 (by decide)
   have r8 : v 8 = _ := hv 8 (by decide)
   have r9 : v 9 = _ := hv 9 (by decide)
   have r10 : v 10 = _ := hv 10 (by decide)
   have r11 : v 11 = _ := hv 11 (by decide)
   have r12 : v 12 = _ := hv 12 (by decide)
   have r13 : v 13 = _ := hv 13 (by decide)
   have r14 : v 14 = _ := hv 14 (by decide)
   have r15 : v 15 = _ := hv 15 (by decide)
   have r16 : v 16 = _ := hv 16 (by decide)
   have r17 : v 17 = _ := hv 17 (by decide)
   have r18 : v 18 = _ := hv 18 (by decide)
   have r19 : v 19 = _ := hv 19 (by decide)
   have r20 : v 20 = _ := hv 20 (by decide)
   have r21 : v 21 = _ := hv 21 (by decide)
   have r22 : v 22 = _ := hv 22 (by decide)
   have r23 : v 23 = _ := hv 23 (by decide)
   have r24 : v 24 = _ := hv 24 (by decide)
   have r25 : v 25 = _ := hv 25 (by decide)
   have r26 : v 26 = _ := hv 26 (by decide)
   have r27 : v 27 = _ := hv 27 (by decide)
   have r28 : v 28 = _ := hv 28 (by decide)
   have r29 : v 29 = _ := hv 29 (by decide)
   have r30 : v 30 = _ := hv 30 (by decide)
   have r31 : v 31 = _ := hv 31 (by decide)
   have r32 : v 32 = _ := hv 32 (by decide)
   simp only [Reg.putAll, Act.put, List.setIfInBounds_toArray, List.set_cons_zero, List.set_cons_succ, r0, r1, r2, r3, r4, r5, r6, r7, r8, r9, r10, r11, r12, r13, r14, r15, r16, r17, r18, r19, r20, r21, r22, r23, r24, r25, r26, r27, r28, r29, r30, r31, r32]
   clear r0 r1 r2 r3 r4 r5 r6 r7 r8 r9 r10 r11 r12 r13 r14 r15 r16 r17 r18 r19 r20 r21 r22 r23 r24 r25 r26 r27 r28 r29 r30 r31 r32 hv
   have HB6 := Lib.hid (HB5.out.trans (hb2.mono HB5.out.size)); clear hb2
   go_wp2_with fail
   go_ret
   exact ⟨rfl, HB6.out⟩
end Go.Proofs.YtiiidmphmojlgaaGreat
