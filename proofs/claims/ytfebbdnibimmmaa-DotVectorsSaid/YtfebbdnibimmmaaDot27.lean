import Derived.Test.YtfebbdnibimmmaaDot26
namespace Go.Proofs.Ytfebbdnibimmmaa
open Go.RowKit Go.ChangeShapes Go.WideShapes Go.Deep
set_option maxRecDepth 100000 in
set_option maxHeartbeats 3200000 in
theorem vectors_big (a : Option Addr) (n ca : Nat) (b : Option Addr) (m cb : Nat) (d o : Dt.Dot) (W : World) (h : 100 < n ∨ 100 < m) (hn : n ≤ 9223372036854775807) (hm : m ≤ 9223372036854775807) :
    Calls Try.prog 3 #[.slice a n ca, .slice b m cb, dotV d, dotV o] W fun e w' => e = .returned (.bool true) ∧ Below W.heap.size W w' := by
  by_cases h1 : 100 < n
  · clear h
    go_enter Try.func3, Try.ntmps3
    go_wp2_with fail
    refine (known_any _).mono ?_
    rintro e w1 ⟨rfl, hb⟩
    have hb2 := (Below.alloc (Below.alloc (Below.refl W.heap.size W) (Nat.le_refl _) (.cells #[.int .u8 (d.1.1 : Int), .int .u32 (d.1.2 : Int), .int .u64 (d.2 : Int)] 29)) (by simp) (.cells #[.int .u8 (o.1.1 : Int), .int .u32 (o.1.2 : Int), .int .u64 (o.2 : Int)] 29)).trans (hb.mono (by simp; omega))
    have HB := Lib.hid hb2; clear hb hb2
    go_wp2_with fail
    go_ret
    exact ⟨rfl, HB.out⟩
  · have h2 : 100 < m := by omega
    clear h
    go_enter Try.func3, Try.ntmps3
    go_wp2_with fail
    refine (known_any _).mono ?_
    rintro e w1 ⟨rfl, hb⟩
    have hb2 := (Below.alloc (Below.alloc (Below.refl W.heap.size W) (Nat.le_refl _) (.cells #[.int .u8 (d.1.1 : Int), .int .u32 (d.1.2 : Int), .int .u64 (d.2 : Int)] 29)) (by simp) (.cells #[.int .u8 (o.1.1 : Int), .int .u32 (o.1.2 : Int), .int .u64 (o.2 : Int)] 29)).trans (hb.mono (by simp; omega))
    have HB := Lib.hid hb2; clear hb hb2
    go_wp2_with fail
    go_ret
    exact ⟨rfl, HB.out⟩
end Go.Proofs.Ytfebbdnibimmmaa
