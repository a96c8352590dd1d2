import Derived.Test.YtpkfjgoimaomfaaCrc5
namespace Go.Proofs.Ytpkfjgoimaomfaa
open Go.RowKit
def L14 : List Nat := [26, 23, 22, 16, 12, 11, 10, 8, 7, 5, 4, 2, 1, 0]
def divB (p : Nat) : Bool := L14.contains p
theorem divB_yes {p k : Nat} (hk : k < 14) (h : L14.getD k 0 = p) : divB p = true := by
  unfold divB
  rw [List.contains_iff_mem, ← h, List.getD_eq_getElem?_getD, List.getElem?_eq_getElem (show k < L14.length from hk)]
  exact List.getElem_mem _
theorem divB_no {p : Nat} (h : ∀ j, j < 14 → L14.getD j 0 ≠ p) : divB p = false := by
  unfold divB
  rw [Bool.eq_false_iff]
  intro hc
  rw [List.contains_iff_mem] at hc
  obtain ⟨j, hj, hjp⟩ := List.mem_iff_getElem.1 hc
  refine h j hj ?_
  rw [List.getD_eq_getElem?_getD, List.getElem?_eq_getElem hj]
  exact hjp
end Go.Proofs.Ytpkfjgoimaomfaa
