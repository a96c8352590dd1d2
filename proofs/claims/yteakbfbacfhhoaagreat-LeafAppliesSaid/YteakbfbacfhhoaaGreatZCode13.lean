import Derived.Test.YteakbfbacfhhoaaGreatZCode3
import Derived.Test.YteakbfbacfhhoaaGreatZCrc8
namespace Go.Proofs.YteakbfbacfhhoaaGreat
open Go.RowKit Go.Buf
theorem BB.step {B : Nat} {w w1 w2 : World} {v : Value} {l : List Nat} {r : Option Nat} (hb : Below B w w1) (h : BB B w1 v l r) (hg : w1.grownBy w2 r) (hB : B ≤ w.heap.size) : Below B w w2 :=
 hb.trans (below_of_grown hg (Nat.le_trans hB hb.size) (fun k hk => (h.2.row_le k hk).1))
end Go.Proofs.YteakbfbacfhhoaaGreat
