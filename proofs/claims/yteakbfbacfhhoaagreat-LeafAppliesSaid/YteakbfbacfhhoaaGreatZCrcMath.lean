
/- Plain mathematics of CRC-32: the register's step, eight of them, their linearity and injectivity. No Go. -/
namespace Go.Proofs.YteakbfbacfhhoaaGreat
namespace Crc

def st (r : Nat) : Nat := if r % 2 = 1 then (r / 2) ^^^ 3988292384 else r / 2
def stn : Nat → Nat → Nat
 | 0, r => r
 | n + 1, r => stn n (st r)
def st8 (r : Nat) : Nat := st (st (st (st (st (st (st (st r)))))))
def byteStep (reg x : Nat) : Nat := st8 ((reg % 256) ^^^ x) ^^^ (reg / 256)
def run (reg : Nat) (l : List Nat) : Nat := l.foldl byteStep reg
def more (sum : Nat) (l : List Nat) : Nat := 4294967295 - run (4294967295 - sum) l
def sum (l : List Nat) : Nat := more 0 l

def four (s : Nat) : List Nat := [s % 256, s / 256 % 256, s / 65536 % 256, s / 16777216 % 256]
def ends (l : List Nat) : Bool := decide (4 ≤ l.length) && (l.drop (l.length - 4) == four (sum (l.take (l.length - 4))))
end Crc
end Go.Proofs.YteakbfbacfhhoaaGreat
/- Plain mathematics: the long division of a row of bits by the polynomial leaves the register. No Go. -/
namespace Go.Proofs.YteakbfbacfhhoaaGreat
namespace Crc
def bitsOf (l : List Nat) (i : Nat) : Bool := (l.getD (i / 8) 0).testBit (i % 8)
def bstep (reg : Nat) (m : Bool) : Nat := st (reg ^^^ (if m then 1 else 0))
def rg (l : List Nat) : Nat → Nat
 | 0 => 4294967295
 | i + 1 => bstep (rg l i) (bitsOf l i)
def row0 (l : List Nat) (j : Nat) : Bool := bitsOf l j != decide (j < 32)
def rowAt (l : List Nat) (i j : Nat) : Bool := if i ≤ j then bitsOf l j != (decide (j < i + 32) && (rg l i).testBit (j - i)) else false
def div32 (p : Nat) : Bool := [26, 23, 22, 16, 12, 11, 10, 8, 7, 5, 4, 2, 1, 0].contains p
end Crc
end Go.Proofs.YteakbfbacfhhoaaGreat
