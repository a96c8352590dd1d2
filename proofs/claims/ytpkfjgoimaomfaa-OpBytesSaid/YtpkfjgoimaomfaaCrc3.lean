import Derived.Test.YtpkfjgoimaomfaaCrc2
namespace Go.Proofs.Ytpkfjgoimaomfaa
open Go.RowKit
def fourV (s : Nat) : List Value := (Crc.four s).map fun x => .int .u8 (x : Nat)
def zero4 : Array Value := #[.int .u8 0, .int .u8 0, .int .u8 0, .int .u8 0]
end Go.Proofs.Ytpkfjgoimaomfaa
