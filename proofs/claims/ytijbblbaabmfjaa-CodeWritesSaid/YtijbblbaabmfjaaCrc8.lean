import Derived.Test.YtijbblbaabmfjaaCrc5
namespace Go.Proofs.Ytijbblbaabmfjaa
open Go.RowKit
def L14 : List Nat := [26, 23, 22, 16, 12, 11, 10, 8, 7, 5, 4, 2, 1, 0]
def divB (p : Nat) : Bool := L14.contains p
theorem divB_yes {p k : Nat} (hk : k < 14) (h : L14.getD k 0 = p) : divB p = true := by
  unfold divB
  rw [List.contains_iff_mem, ← h, List.getD_eq_getElem?_getD, List.getElem?_eq_getElem (show k < L14.length from hk)]
  exact List.getElem_mem _
theorem divB_no {p : Nat} (h : ∀ j, j < 14 → L14.getD j 0 ≠ p) : divB p = false := by
  unfold divB
  rw [Bool.eq_false_iff]
  intro hc
  rw [List.contains_iff_mem] at hc
  obtain ⟨j, hj, hjp⟩ := List.mem_iff_getElem.1 hc
  refine h j hj ?_
  rw [List.getD_eq_getElem?_getD, List.getElem?_eq_getElem hj]
  exact hjp
set_option maxRecDepth 100000 in
set_option maxHeartbeats 800000 in
theorem divisor_any (p : Nat) (w : World) : Calls Try.prog 42 #[.int .i64 p] w (RetBool w.heap.size w (divB p)) := by
  go_enter Try.func42, Try.ntmps42
  go_wp2_with fail
  generalize hW : w.alloc (Obj.cells #[Value.int IntKind.i64 26, Value.int IntKind.i64 23, Value.int IntKind.i64 22, Value.int IntKind.i64 16, Value.int IntKind.i64 12, Value.int IntKind.i64 11, Value.int IntKind.i64 10, Value.int IntKind.i64 8, Value.int IntKind.i64 7, Value.int IntKind.i64 5, Value.int IntKind.i64 4, Value.int IntKind.i64 2, Value.int IntKind.i64 1, Value.int IntKind.i64 0] 3) = W
  have hbel : Below w.heap.size w W := by subst hW; exact (Below.refl _ _).alloc (Nat.le_refl _) _
  have hcell : ∀ k, k < 14 → W.cell? ⟨w.heap.size, k, none⟩ = some (.int .i64 (L14.getD k 0 : Nat)) := by
    intro k hk
    have hb : W.heap[w.heap.size]? = some (.cells (L14.map fun x => Value.int .i64 (x : Nat)).toArray 3) := by subst hW; exact heap_alloc_new w _
    rw [cell_of_row _ _ _ _ _ _ hb]
    have : k < L14.length := hk
    simp [List.getD, this]
  have Hbel := Lib.hid hbel; have Hcell := Lib.hid hcell; have HW := Lib.hid hW
  clear hbel hcell hW
  go_loop [4] (fun i => ∃ k : Nat, k ≤ 14 ∧ i = .int .i64 k ∧ ∀ j, j < k → L14.getD j 0 ≠ p) (fun i => 14 - (intOf i).toNat)
  case atStart => exact ⟨0, by omega, rfl, fun j hj => by omega⟩
  case round =>
    obtain ⟨k, hk, rfl, hno⟩ := hrel
    have Hno := Lib.hid hno; clear hno
    by_cases hlt : k < 14
    · obtain ⟨x, hx⟩ : ∃ x, x = L14.getD k 0 := ⟨_, rfl⟩
      have hc := Hcell.out k hlt
      rw [← hx] at hc
      by_cases he : x = p
      · subst he
        have hd := divB_yes hlt hx.symm
        have Hx := Lib.hid hx; have Hd := Lib.hid hd; clear hx hd
        have heq : (((x : Nat) : Int) == (x : Int)) = true := by simp
        go_wp2
        go_ret
        exact ⟨by rw [Hd.out]; rfl, Hbel.out⟩
      · have heq : ((x : Int) == (p : Int)) = false := by simp; omega
        have Hx := Lib.hid hx; clear hx
        go_wp2
        refine ⟨⟨k + 1, by omega, by go_num, fun j hj => ?_⟩, by simp [intOf]; omega⟩
        by_cases hjk : j = k
        · subst hjk; rw [← Hx.out]; exact he
        · exact Hno.out j (by omega)
    · obtain rfl : k = 14 := by omega
      have hd := divB_no Hno.out
      have Hd := Lib.hid hd; clear hd
      go_wp2
      go_ret
      exact ⟨by rw [Hd.out]; rfl, Hbel.out⟩
end Go.Proofs.Ytijbblbaabmfjaa
