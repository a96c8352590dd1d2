import Derived.Test.YtpkfjgoimaomfaaCrc8
import Derived.Test.YtpkfjgoimaomfaaCrcMath2
namespace Go.Proofs.Ytpkfjgoimaomfaa
open Go.RowKit
def boolsV (N : Nat) (F : Nat → Bool) : List Value := (List.range N).map fun i => .bool (F i)
def HasB (w : World) (g N : Nat) (F : Nat → Bool) : Prop := w.heap[g]? = some (.cells (boolsV N F).toArray 4 (0, 0))
theorem HasB.cell {w : World} {g N : Nat} {F : Nat → Bool} (h : HasB w g N F) (i : Nat) (hi : i < N) : w.cell? ⟨g, i, none⟩ = some (.bool (F i)) := by
  rw [cell_of_row w g i _ _ _ h]; simp [boolsV, hi]
theorem HasB.frozen {w : World} {g N : Nat} {F : Nat → Bool} (h : HasB w g N F) (i : Nat) : w.frozen? ⟨g, i, none⟩ = false := frozen_of_row w g i _ _ h
theorem HasB.congr {w : World} {g N : Nat} {F G : Nat → Bool} (h : HasB w g N F) (he : ∀ i, i < N → F i = G i) : HasB w g N G := by
  unfold HasB at *
  rw [h]
  congr 2
  apply Array.ext'
  simp only [boolsV]
  exact List.map_congr_left fun i hi => by rw [he i (by simpa using hi)]
theorem HasB.set {w : World} {g N : Nat} {F G : Nat → Bool} (h : HasB w g N F) (i : Nat) (x : Bool) (hx : x = G i) (hG : ∀ j, j < N → j ≠ i → G j = F j) :
    HasB (w.setCell ⟨g, i, none⟩ (.bool x)) g N G := by
  unfold HasB
  rw [heap_setCell_same w g i _ _ _ h]
  congr 2
  apply Array.ext'
  simp only [Array.toList_setIfInBounds]
  apply List.ext_getElem (by simp [boolsV])
  intro j h1 h2
  have hj : j < N := by simpa [boolsV] using h2
  by_cases e : i = j
  · subst e; simp [boolsV, hx]
  · rw [List.getElem_set_ne e]; simp [boolsV, hG j hj (fun c => e c.symm)]
theorem HasB.below {w w' : World} {g N B : Nat} {F : Nat → Bool} (h : HasB w g N F) (hb : Below B w w') (hg : g < B) : HasB w' g N F := by
  unfold HasB at *; rw [hb.block g hg]; exact h
theorem HasB.lt {w : World} {g N : Nat} {F : Nat → Bool} (h : HasB w g N F) : g < w.heap.size := (Array.getElem?_eq_some_iff.1 h).1
theorem info4 : (Try.prog.info? 4).map (fun i => (i.zero, i.size, i.bytes)) = some (some (.bool false), 1, 1) := by kernel_rfl
theorem made_bools (n : Nat) : madeCells (Value.bool false).cells n = (boolsV n fun _ => false).toArray := by
  apply Array.ext'
  apply List.ext_getElem (by simp [madeCells, boolsV])
  intro j h1 h2
  simp [madeCells, boolsV, Value.cells, Nat.mod_one]
theorem shr_bit (x m : Nat) (hx : x < 256) : (bits .and .u8 ((x : Int) / 2 ^ m) 1 == 1) = x.testBit m := by
  have e1 : ((x : Int) / 2 ^ m) = ((x / 2 ^ m : Nat) : Int) := by simp
  have hlt : x / 2 ^ m < 256 := Nat.lt_of_le_of_lt (Nat.div_le_self _ _) hx
  have e2 := u8_and_nat (x / 2 ^ m) 1 hlt (by omega)
  rw [nat_mask1] at e2
  rw [e1]
  have e3 : bits .and .u8 ((x / 2 ^ m : Nat) : Int) 1 = ((x / 2 ^ m % 2 : Nat) : Int) := e2
  rw [e3]
  have h1 : x.testBit m = decide (x / 2 ^ m % 2 = 1) := Nat.testBit_eq_decide_div_mod_eq
  rw [h1, Bool.eq_iff_iff]
  simp
  omega
/-- a slice of N bools at the head of a new block, that reads as F -/
def RetB (B : Nat) (w : World) (N : Nat) (F : Nat → Bool) (e : Ending) (w' : World) : Prop := ∃ g, e = .returned (.slice (some ⟨g, 0, none⟩) N N) ∧ B ≤ g ∧ HasB w' g N F ∧ Below B w w'
end Go.Proofs.Ytpkfjgoimaomfaa
