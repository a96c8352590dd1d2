import Derived.Test.YteakbfbacfhhoaaGreatZLeaf9
import Derived.Test.YteakbfbacfhhoaaGreatZLeaf12
import Derived.Test.YteakbfbacfhhoaaGreatZRegD
namespace Go.Proofs.YteakbfbacfhhoaaGreat
open Go.RowKit Go.Buf Go.LB Go.Lib
set_option linter.unusedSimpArgs false
set_option linter.unusedVariables false
theorem src1I (w : World) (b : Nat) (z : Lm.It) (h : Blk w b 47 (encI z)) : Src Tryz.prog 5 28 (.slice (some ⟨b, 0, none⟩) 1 1) [z].length ([z].flatMap encI) w := by
 have e : [z].flatMap encI = encI z := by simp
 rw [e]
 exact Src.ofSlice w Tryz.underlying28 ⟨b, 0, none⟩ 1 1 (encI z) rfl (fun j u hj => by rw [Addr.add_lit, Nat.zero_add, h.cell]; exact hj) (encI_one z)
theorem appsI (v : Value) (row : Option Nat) (l l2 : List Lm.It) (x : Value) (B : Nat) (w : World) (h : OwnI B w v l row) (hs : Src Tryz.prog 5 28 x l2.length (l2.flatMap encI) w) (hn : l.length + l2.length ≤ 100000000) (ty : TypeId) :
  ∃ v' w' row', (Builtin.append_ #[28, 28] ty #[v, x]).run Tryz.prog w = .ok v' w' ∧ OwnI B w' v' (l ++ l2) row' ∧ w.grownBy w' row ∧ New w row row' := by
 obtain ⟨i0, hi, hz0, hz1, hz2⟩ := info_parts info_item
 exact LB.run_append_owned (P := Tryz.prog) encI_len w B 28 28 ty i0 _ 40 Tryz.underlying28 hi hz0 hz1 hz2 rfl h x l2 hs (by simp [maxLen]; omega) (by omega)
theorem app1I (v : Value) (row : Option Nat) (l : List Lm.It) (z : Lm.It) (B : Nat) (w : World) (h : OwnI B w v l row) (hn : l.length ≤ 1000000) (ty : TypeId) :
  ∃ v' w' row', (Builtin.append_ #[28, 28] ty #[v, .slice (some ⟨w.heap.size, 0, none⟩) 1 1]).run Tryz.prog (w.alloc (.cells #[.int .u64 (z.1 : Int), .int .u8 (z.2.1.1.1 : Int), .int .u32 (z.2.1.1.2 : Int), .int .u64 (z.2.1.2 : Int), .string z.2.2] 47)) = .ok v' w' ∧ OwnI B w' v' (l ++ [z]) row' ∧ (w.alloc (.cells #[.int .u64 (z.1 : Int), .int .u8 (z.2.1.1.1 : Int), .int .u32 (z.2.1.1.2 : Int), .int .u64 (z.2.1.2 : Int), .string z.2.2] 47)).grownBy w' row ∧ New (w.alloc (.cells #[.int .u64 (z.1 : Int), .int .u8 (z.2.1.1.1 : Int), .int .u32 (z.2.1.1.2 : Int), .int .u64 (z.2.1.2 : Int), .string z.2.2] 47)) row row' :=
 appsI v row l [z] _ B _ (h.below ((Below.refl _ _).alloc (Nat.le_refl _) _)) (src1I _ _ z (Blk.new w _ _)) (by simp; omega) ty
theorem src1D (w : World) (b : Nat) (z : Dt.Dot) (h : Blk w b 27 (encD z)) : Src Tryz.prog 3 29 (.slice (some ⟨b, 0, none⟩) 1 1) [z].length ([z].flatMap encD) w := by
 have e : [z].flatMap encD = encD z := by simp
 rw [e]
 exact Src.ofSlice w Tryz.underlying29 ⟨b, 0, none⟩ 1 1 (encD z) rfl (fun j u hj => by rw [Addr.add_lit, Nat.zero_add, h.cell]; exact hj) (encD_one z)
theorem appsD (v : Value) (row : Option Nat) (l l2 : List Dt.Dot) (x : Value) (B : Nat) (w : World) (h : OwnD B w v l row) (hs : Src Tryz.prog 3 29 x l2.length (l2.flatMap encD) w) (hn : l.length + l2.length ≤ 100000000) (ty : TypeId) :
  ∃ v' w' row', (Builtin.append_ #[29, 29] ty #[v, x]).run Tryz.prog w = .ok v' w' ∧ OwnD B w' v' (l ++ l2) row' ∧ w.grownBy w' row ∧ New w row row' := by
 obtain ⟨i0, hi, hz0, hz1, hz2⟩ := info_parts info_dot
 exact LB.run_append_owned (P := Tryz.prog) encD_len w B 29 29 ty i0 _ 16 Tryz.underlying29 hi hz0 hz1 hz2 rfl h x l2 hs (by simp [maxLen]; omega) (by omega)
theorem app1D (v : Value) (row : Option Nat) (l : List Dt.Dot) (z : Dt.Dot) (B : Nat) (w : World) (h : OwnD B w v l row) (hn : l.length ≤ 1000000) (ty : TypeId) :
  ∃ v' w' row', (Builtin.append_ #[29, 29] ty #[v, .slice (some ⟨w.heap.size, 0, none⟩) 1 1]).run Tryz.prog (w.alloc (.cells #[.int .u8 (z.1.1 : Int), .int .u32 (z.1.2 : Int), .int .u64 (z.2 : Int)] 27)) = .ok v' w' ∧ OwnD B w' v' (l ++ [z]) row' ∧ (w.alloc (.cells #[.int .u8 (z.1.1 : Int), .int .u32 (z.1.2 : Int), .int .u64 (z.2 : Int)] 27)).grownBy w' row ∧ New (w.alloc (.cells #[.int .u8 (z.1.1 : Int), .int .u32 (z.1.2 : Int), .int .u64 (z.2 : Int)] 27)) row row' :=
 appsD v row l [z] _ B _ (h.below ((Below.refl _ _).alloc (Nat.le_refl _) _)) (src1D _ _ z (Blk.new w _ _)) (by simp; omega) ty
end Go.Proofs.YteakbfbacfhhoaaGreat
