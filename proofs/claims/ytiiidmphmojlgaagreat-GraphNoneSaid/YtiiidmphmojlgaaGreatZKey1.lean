import Derived.RangeFuncNested
import Derived.RangeFuncBound
import Derived.RangeFuncCalls
import Derived.RangeFuncLeaves
import Derived.RangeFuncBox
import Derived.Shelf.Abstract
import Derived.WalkKit
import Derived.OwnWalkIn
import Derived.TacticsInMore
import Derived.LoopNIn
import Derived.LoopIn
import Derived.Test.YtiiidmphmojlgaaGreatZGr9
/- maps.Keys over a map of commits: the iterator of a map that is nil, and of a map of one commit, whatever the loop's body is. -/
namespace Go.Proofs.YtiiidmphmojlgaaGreat
open Go.RowKit Go.Buf Go.LB Go.Lib
set_option linter.unusedSimpArgs false
set_option linter.unusedVariables false
attribute [local go_sem] Oper.semAt_some
set_option maxHeartbeats 1000000 in
theorem keys_in (F : Fence) (n : Nat) (hf : F.fn 28) (hro : F.round = none) (mb : Option Nat) (w : World) :
  CallsIn F n Tryz.prog 28 #[.map mb] w fun e w' => e = .returned (.func (.func 48) #[] #[.pointer (some ⟨w.heap.size, 0, none⟩)]) ∧ w' = w.alloc (.cells #[.map mb] 40) := by
 refine callsIn_of_wp Tryz.func28 rfl hf ?_ hro
 simp only [Tryz.ntmps28, List.size_toArray, List.length_cons, List.length_nil, Nat.reduceAdd, Nat.reduceSub, Array.replicate_succ, Array.replicate_zero, List.push_toArray, List.append_toArray, List.nil_append, List.cons_append]
 gi_wp2
 go_ret
 exact ⟨rfl, rfl⟩
theorem keys_any (mb : Option Nat) (w : World) :
  Calls Tryz.prog 28 #[.map mb] w fun e w' => e = .returned (.func (.func 48) #[] #[.pointer (some ⟨w.heap.size, 0, none⟩)]) ∧ w' = w.alloc (.cells #[.map mb] 40) :=
 (callsIn_wide (n := 3)).1 (keys_in Fence.wide 3 trivial rfl mb w)
theorem putObj_blk {w : World} {r b : Nat} {o o' : Obj} (hne : r ≠ b) (h : w.heap[b]? = some o') : (w.putObj r o).heap[b]? = some o' := (World.putObj_heap_other (Ne.symm hne)).trans h
theorem iterSeen_eq {w : World} {r : Nat} {m : Option Nat} {k c : Nat} {seen : Array Nat} (h : w.heap[r]? = some (.mapIter m k seen c)) : (World.iterSeen w r).size = seen.size := by simp [World.iterSeen, h]
set_option maxRecDepth 100000 in
set_option maxHeartbeats 3200000 in
theorem keys_stops_nil (F : Fence) (n : Nat) (hf : F.fn 48) (hro : F.round = none) (Bm : Nat) (w : World) (hBm : Bm < w.heap.size) (hm : w.cell? ⟨Bm, 0, none⟩ = some (.map none)) :
  SeqStops F n Tryz.prog 48 #[.pointer (some ⟨Bm, 0, none⟩)] dotV (fun xs => xs = []) (fun _ => False) 0 w := fun l J Jx W hW hJ _ hY h0 => by
 have hm2 := (hW.cell (p := ⟨Bm, 0, none⟩) hBm).trans hm
 have hr : (Instr.range 40 (.map none)).run Tryz.prog W = .ok (.pointer (some ⟨W.heap.size, 0, none⟩)) (W.alloc (.mapIter none 0 #[] 0)) := run_range_nilMap W _ _ _ Tryz.underlying40
 have hn : ∀ ty, (Instr.next (.pointer (some ⟨W.heap.size, 0, none⟩)) false ty).run Tryz.prog (W.alloc (.mapIter none 0 #[] 0)) = .ok (.tuple #[.bool false]) (W.alloc (.mapIter none 0 #[] 0)) := fun ty => run_next_nilMap W ty 0 0 #[]
 have hJ1 := hJ [] W (W.alloc (.mapIter none 0 #[] 0)) none h0 (World.grownBy_alloc W _ none) (fun r e => by cases e)
 have HJ1 := Lib.hid hJ1
 clear hJ1 h0 hY
 refine callsIn_of_wp Tryz.func48 rfl hf ?_ hro
 simp only [Tryz.ntmps48, List.size_toArray, List.length_cons, List.length_nil, Nat.reduceAdd, Nat.reduceSub, Array.replicate_succ, Array.replicate_zero, List.push_toArray, List.append_toArray, List.nil_append, List.cons_append]
 gi_wp2
 gi_loopw [3] (fun _ wr => wr = W.alloc (.mapIter none 0 #[] 0)) (fun _ _ => 0)
 case atStart => rfl
 case round =>
  subst hrel
  gi_wp2
  go_end0
  exact ⟨⟨_, rfl⟩, .inl ⟨[], rfl, HJ1.out⟩⟩
set_option maxRecDepth 100000 in
set_option maxHeartbeats 6400000 in
theorem keys_stops_one (F : Fence) (n : Nat) (hf : F.fn 48) (hro : F.round = none) (hn : 1 ≤ n) (Bm b clock : Nat) (e : MapEntry) (d : Dt.Dot) (w : World) (hBm : Bm < w.heap.size) (hm : w.cell? ⟨Bm, 0, none⟩ = some (.map (some b))) (hb : w.heap[b]? = some (.map #[e] clock)) (hk : e.key = dotV d) (hc : e.born < clock) :
  SeqStops F n Tryz.prog 48 #[.pointer (some ⟨Bm, 0, none⟩)] dotV (fun xs => xs = [d]) (fun pre => pre = [d]) 1 w := fun l J Jx W hW hJ _ hY h0 => by
 have hm2 := (hW.cell (p := ⟨Bm, 0, none⟩) hBm).trans hm
 have hblt := (Array.getElem?_eq_some_iff.1 hb).1
 have hbl : W.heap[b]? = some (.map #[e] clock) := (hW.block b hblt).trans hb
 have hbW : b < W.heap.size := (Array.getElem?_eq_some_iff.1 hbl).1
 have hr := run_range_map (P := Tryz.prog) W 40 _ _ b #[e] clock Tryz.underlying40 hbl
 have hJ1 := hJ [] W (W.alloc (.mapIter (some b) clock #[] clock)) none h0 (World.grownBy_alloc W _ none) (fun r e => by cases e)
 have hb1 : (W.alloc (.mapIter (some b) clock #[] clock)).heap[b]? = some (.map #[e] clock) := (((Below.refl W.heap.size W).alloc (Nat.le_refl _) (.mapIter (some b) clock #[] clock)).block b hbW).trans hbl
 have hi1 : (W.alloc (.mapIter (some b) clock #[] clock)).heap[W.heap.size]? = some (.mapIter (some b) clock #[] clock) := heap_alloc_new _ _
 have HJ1 := Lib.hid hJ1; have HB1 := Lib.hid hb1; have HI1 := Lib.hid hi1; have HK := Lib.hid hk; have HC := Lib.hid hc; have HJ := Lib.hid hJ; have HY := Lib.hid hY; have HbW := Lib.hid hbW
 clear hJ1 h0 hb1 hi1 hbl hb hk hc hJ hY hblt hbW
 refine callsIn_of_wp Tryz.func48 rfl hf ?_ hro
 simp only [Tryz.ntmps48, List.size_toArray, List.length_cons, List.length_nil, Nat.reduceAdd, Nat.reduceSub, Array.replicate_succ, Array.replicate_zero, List.push_toArray, List.append_toArray, List.nil_append, List.cons_append]
 gi_wp2
 clear hr
 gi_loopw [3] (fun _ wr => ∃ (seen : Array Nat) (c0 : Nat), wr.heap[W.heap.size]? = some (.mapIter (some b) clock seen c0) ∧ wr.heap[b]? = some (.map #[e] clock) ∧ ((seen = #[] ∧ J [] wr) ∨ (seen = #[e.born] ∧ c0 = clock ∧ J [d] wr))) (fun _ wr => 1 - (World.iterSeen wr W.heap.size).size)
 case atStart => exact ⟨#[], clock, HI1.out, HB1.out, Or.inl ⟨rfl, HJ1.out⟩⟩
 case round =>
  obtain ⟨seen, c0, hit, hmp, ⟨rfl, hj⟩ | ⟨rfl, rfl, hj⟩⟩ := hrel
  ·have n1 := fun ty => next_one hit hmp HC.out ty
   have hne : W.heap.size ≠ b := fun e => by have := HbW.out; omega
   obtain ⟨w3, hw3⟩ : ∃ w3, w3 = wr.putObj W.heap.size (.mapIter (some b) clock #[e.born] clock) := ⟨_, rfl⟩
   have n2 : ∀ ty, (Instr.next (.pointer (some ⟨W.heap.size, 0, none⟩)) false ty).run Tryz.prog wr = .ok (.tuple #[.bool true, e.key, e.val]) w3 := fun ty => by rw [hw3]; exact n1 ty
   have hit3 : w3.heap[W.heap.size]? = some (.mapIter (some b) clock #[e.born] clock) := by rw [hw3]; exact World.putObj_heap_same (Array.getElem?_eq_some_iff.1 hit).1
   have hmp3 : w3.heap[b]? = some (.map #[e] clock) := by rw [hw3]; exact putObj_blk hne hmp
   have hj3 : J [] w3 := HJ.out [] wr w3 (some W.heap.size) hj (by rw [hw3]; exact grownBy_putObj' _ _ _) (fun r e => by cases e; exact ⟨Nat.le_refl _, _, hit, rfl⟩)
   have hz := iterSeen_eq hit
   have n3 := entry_one hit3 hmp3
   rw [HK.out] at n2 n3
   have up : Below w3.heap.size w3 (w3.alloc (.cells #[.int .u8 (d.1.1 : Int), .int .u32 (d.1.2 : Int), .int .u64 (d.2 : Int)] 27)) := (Below.refl _ _).alloc (Nat.le_refl _) _
   have hj4 := HJ.out [] w3 (w3.alloc (.cells #[.int .u8 (d.1.1 : Int), .int .u32 (d.1.2 : Int), .int .u64 (d.2 : Int)] 27)) none hj3 (World.grownBy_alloc _ _ none) (fun r e => by cases e)
   have hit4 := (up.block _ (Array.getElem?_eq_some_iff.1 hit3).1).trans hit3
   have hmp4 := (up.block _ (Array.getElem?_eq_some_iff.1 hmp3).1).trans hmp3
   obtain ⟨fn, tmps, assign, body, hy, hR⟩ := HY.out [] d _ hj4 (by simp)
   have HI4 := Lib.hid hit4; have HM4 := Lib.hid hmp4; have HR := Lib.hid hR; have HZ := Lib.hid hz
   clear n1 hw3 hit hmp hit3 hmp3 hj hj3 hj4 hit4 hmp4 up hR hz
   gi_wp2
   refine HR.out.mono ?_
   rintro x W3 (⟨rfl, hJ3, hk3⟩ | ⟨rfl, hJx3⟩)
   ·have hit5 := hk3.same _ _ HI4.out rfl
    have hmp5 := hk3.same _ _ HM4.out rfl
    have HI5 := Lib.hid hit5; have HM5 := Lib.hid hmp5; have HJ5 := Lib.hid hJ3
    clear hk3 hJ3 hit5 hmp5 n2 n3
    gi_wp2
    go_roundw
    case rel => exact ⟨#[e.born], clock, HI5.out, HM5.out, Or.inr ⟨rfl, rfl, HJ5.out⟩⟩
    case measure => rw [iterSeen_eq HI5.out, HZ.out]; simp
   ·have HJx := Lib.hid hJx3
    clear hJx3 n2 n3
    gi_wp2
    refine bodyPost_ret (results_none rfl _ _ _) rfl ?_
    exact ⟨⟨_, rfl⟩, .inr ⟨[d], rfl, HJx.out⟩⟩
  ·have n1 := fun ty => next_end hit hmp HC.out ty
   have HJ2 := Lib.hid hj
   clear hit hmp hj
   gi_wp2
   go_end0
   exact ⟨⟨_, rfl⟩, .inl ⟨[d], rfl, HJ2.out⟩⟩
end Go.Proofs.YtiiidmphmojlgaaGreat
