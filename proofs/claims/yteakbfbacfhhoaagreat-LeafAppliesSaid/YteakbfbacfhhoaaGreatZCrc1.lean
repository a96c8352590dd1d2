import Derived.Test.YteakbfbacfhhoaaGreatZBytes
import Derived.Test.YteakbfbacfhhoaaGreatZCrcMath
namespace Go.Proofs.YteakbfbacfhhoaaGreat
open Go.RowKit
def tblVals (F : Nat → Nat) : List Value := (List.range 256).map fun i => .int .u32 (F i : Nat)
def OnlyBlock (b : Nat) (w w' : World) : Prop := w'.os = w.os ∧ w'.tape = w.tape ∧ w'.output = w.output ∧ w'.heap.size = w.heap.size ∧ ∀ k, k ≠ b → w'.heap[k]? = w.heap[k]?
theorem OnlyBlock.refl (b : Nat) (w : World) : OnlyBlock b w w := ⟨rfl, rfl, rfl, rfl, fun _ _ => rfl⟩
theorem OnlyBlock.set {b : Nat} {w w' : World} (h : OnlyBlock b w w') (i : Nat) (v : Value) : OnlyBlock b w (w'.setCell ⟨b, i, none⟩ v) := by
 obtain ⟨h1, h2, h3, h4, h5⟩ := h
 refine ⟨h1, h2, h3, by simpa [World.setCell] using h4, fun k hk => ?_⟩
 rw [heap_setCell_other _ _ _ _ hk]; exact h5 k hk
def FF (F : Nat → Nat) (bit reg q : Nat) : Nat → Nat := fun i => if i % (2 * bit) = bit ∧ i < q then F (i - bit) ^^^ reg else F i
def TT (bit : Nat) : Nat → Nat := fun i => if i % bit = 0 then Crc.st8 (i % 256) else 0
def tbl (F : Nat → Nat) : Array Value := (tblVals F).toArray
end Go.Proofs.YteakbfbacfhhoaaGreat
namespace Go.Proofs.YteakbfbacfhhoaaGreat
open Go.RowKit
end Go.Proofs.YteakbfbacfhhoaaGreat
namespace Go.Proofs.YteakbfbacfhhoaaGreat
open Go.RowKit
def fourV (s : Nat) : List Value := (Crc.four s).map fun x => .int .u8 (x : Nat)
def zero4 : Array Value := #[.int .u8 0, .int .u8 0, .int .u8 0, .int .u8 0]
end Go.Proofs.YteakbfbacfhhoaaGreat
namespace Go.Proofs.YteakbfbacfhhoaaGreat
open Go.RowKit
end Go.Proofs.YteakbfbacfhhoaaGreat
