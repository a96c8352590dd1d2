import Derived.Test.YthbkieghkfpbhaaGreatZCmt8
namespace Go.Proofs.YthbkieghkfpbhaaGreat
open Go.RowKit Go.Buf Go.LB
set_option linter.unusedSimpArgs false
set_option linter.unusedVariables false
theorem boxBelow {W w : World} {c : Array Value} {t : TypeId} (h : Below (W.alloc (.cells c t)).heap.size (W.alloc (.cells c t)) w) : w.heap[W.heap.size]? = some (.cells c t (0, 0)) := by
 rw [h.block W.heap.size (by simp)]; exact heap_alloc_new W _
theorem below_of_grown_at {W w w' : World} (h : Below W.heap.size W w) (hg : w.grownBy w' (some W.heap.size)) : Below W.heap.size W w' := h.grown hg h.size (fun j hj => by cases hj; exact Nat.le_refl _)
end Go.Proofs.YthbkieghkfpbhaaGreat
