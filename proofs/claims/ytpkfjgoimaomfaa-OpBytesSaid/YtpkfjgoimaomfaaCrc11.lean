import Derived.Test.YtpkfjgoimaomfaaCrc9
namespace Go.Proofs.Ytpkfjgoimaomfaa
open Go.RowKit
theorem row_one (w : World) (q : Nat) : Row (w.alloc (.cells #[.int .u8 ((q : Int) % 256)] 5)) (some ⟨w.heap.size, 0, none⟩) 1 [q % 256] := by
  refine row_of_block (heap_alloc_new w _) (fun x hx => by simp at hx; omega) 0 1 (by omega) (by simp) (fun i x hx => ?_)
  have hi : i < 1 := by have := (List.getElem?_eq_some_iff.1 hx).1; simpa using this
  obtain rfl : i = 0 := by omega
  simp at hx; subst hx; simp
theorem four_eq (s : Nat) : Crc.four s = [s % 256, s / 256 % 256, s / 65536 % 256, s / 16777216 % 256] := rfl
end Go.Proofs.Ytpkfjgoimaomfaa
