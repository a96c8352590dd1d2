
/- Plain mathematics of layer 2: canonical numbers and their reading. No Go. -/
namespace Go.Proofs.YteakbfbacfhhoaaGreat
namespace Cd
def numF : Nat → Nat → List Nat
 | 0, n => [n]
 | k + 1, n => if n < 128 then [n] else (n % 128 + 128) :: numF k (n / 128)
def num (n : Nat) : List Nat := numF 9 n
def ended (n i x : Nat) : Nat × Nat × Nat := if i = 9 ∧ 1 < x then (0, 0, 14) else if 0 < i ∧ x = 0 then (0, 0, 4) else (n, i + 1, 0)
def readF : Nat → Nat → Nat → List Nat → Nat × Nat × Nat
 | 0, _, _, _ => (0, 0, 14)
 | _ + 1, _, _, [] => (0, 0, 5)
 | f + 1, i, acc, x :: r => if x < 128 then ended (acc + x * 128 ^ i) i x else readF f (i + 1) (acc + (x - 128) * 128 ^ i) r
def rd (l : List Nat) : Nat × Nat × Nat := readF 10 0 0 l
def uns (m : Int) : Nat := if m < 0 then (2 * (-m - 1) + 1).toNat else (2 * m).toNat
def sgn (n : Nat) : Int := if n % 2 = 1 then -(n / 2 : Nat) - 1 else (n / 2 : Nat)
def rdText (l : List Nat) (most : Int) : List Nat × Nat × Nat :=
 if (rd l).2.2 ≠ 0 then ([], 0, (rd l).2.2) else if (max most 0).toNat < (rd l).1 then ([], 0, 3) else if l.length - (rd l).2.1 < (rd l).1 then ([], 0, 5)
 else ((l.drop (rd l).2.1).take (rd l).1, (rd l).2.1 + (rd l).1, 0)
def frame (sum : List Nat → List Nat) (b : List Nat) : List Nat := (num b.length ++ b) ++ sum (num b.length ++ b)
def unframe (ends : List Nat → Bool) (l : List Nat) : List Nat × Nat × Nat :=
 if (rd l).2.2 ≠ 0 then ([], 0, (rd l).2.2) else if 1048576 < (rd l).1 then ([], 0, 3) else if l.length < (rd l).2.1 + (rd l).1 + 4 then ([], 0, 5)
 else if ends (l.take ((rd l).2.1 + (rd l).1 + 4)) then ((l.drop (rd l).2.1).take (rd l).1, (rd l).2.1 + (rd l).1 + 4, 0) else ([], 0, 6)
end Cd
end Go.Proofs.YteakbfbacfhhoaaGreat
