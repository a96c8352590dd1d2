import Derived.Test.YteakbfbacfhhoaaGreatZBytes
import Derived.Test.YteakbfbacfhhoaaGreatZBuf
import Derived.Test.YteakbfbacfhhoaaGreatZCodeMath
namespace Go.Proofs.YteakbfbacfhhoaaGreat
open Go.RowKit Go.Buf
def BB (B : Nat) (w : World) (v : Value) (l : List Nat) (row : Option Nat) : Prop := (∀ x ∈ l, x < 256) ∧ Buf 5 1 B w v l.length (bytesV l) row
def RetBB (B : Nat) (w : World) (row : Option Nat) (l : List Nat) (e : Ending) (w' : World) : Prop := ∃ v row', e = .returned v ∧ BB B w' v l row' ∧ w.grownBy w' row ∧ New w row row'
theorem BB.nil {B : Nat} {w : World} (hB : B ≤ w.heap.size) : BB B w (.slice none 0 0) [] none := ⟨by simp, Buf.nil hB⟩
def strL (s : ByteArray) : List Nat := s.data.toList.map UInt8.toNat
theorem BB.row {B : Nat} {w : World} {v : Value} {l : List Nat} {row : Option Nat} (h : BB B w v l row) : ∃ a c, v = .slice a l.length c ∧ Row w a c l := by
 obtain ⟨a, c, rfl, h1, h2, h3⟩ := h.2.shape
 refine ⟨a, c, rfl, h1, by unfold maxLen at h2; omega, h.1, h3, fun i x hx => ?_⟩
 cases a with
 | none =>
  have := h3 rfl
  have hi := (List.getElem?_eq_some_iff.1 hx).1
  omega
 | some p => exact ⟨p, rfl, h.2.cells p rfl i _ (by simp [bytesV, hx])⟩
theorem BB.base {B B' : Nat} {w : World} {v : Value} {l : List Nat} {row : Option Nat} (h : BB B w v l row) (hB : B' ≤ B) : BB B' w v l row := ⟨h.1, h.2.base hB⟩
theorem BB.alloc {B : Nat} {w : World} {v : Value} {l : List Nat} {row : Option Nat} (h : BB B w v l row) (o : Obj) : BB B (w.alloc o) v l row := ⟨h.1, h.2.kept (World.grownBy_alloc w o none) (Or.inl rfl)⟩
theorem BB.below {B : Nat} {w w' : World} {v : Value} {l : List Nat} {row : Option Nat} (h : BB B w v l row) (hb : Below w.heap.size w w') : BB B w' v l row := ⟨h.1, h.2.kept (grown_of_below (row := none) hb) (Or.inl rfl)⟩
end Go.Proofs.YteakbfbacfhhoaaGreat
namespace Go.Proofs.YteakbfbacfhhoaaGreat
open Go.RowKit Go.Buf
def num3 (r : Nat × Nat × Nat) : Value := .tuple #[.int .u64 (r.1 : Nat), .int .i64 (r.2.1 : Nat), .int .i64 (r.2.2 : Nat)]
end Go.Proofs.YteakbfbacfhhoaaGreat
