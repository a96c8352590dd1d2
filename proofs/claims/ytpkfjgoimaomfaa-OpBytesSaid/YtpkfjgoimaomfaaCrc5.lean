import Derived.Test.YtpkfjgoimaomfaaCrc3
namespace Go.Proofs.Ytpkfjgoimaomfaa
open Go.RowKit
theorem Crc.four_byte (s : Nat) : ∀ x ∈ Crc.four s, x < 256 := by
  intro x hx; simp [Crc.four] at hx; omega
end Go.Proofs.Ytpkfjgoimaomfaa
