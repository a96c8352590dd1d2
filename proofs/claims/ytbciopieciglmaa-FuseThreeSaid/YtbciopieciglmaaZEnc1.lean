import Derived.Test.YtbciopieciglmaaZDot4
namespace Go.Proofs.Ytbciopieciglmaa
open Go.RowKit Go.Buf
structure PT (B : Nat) (X w : World) (v : Value) (l : List Nat) : Prop where
  bb : ∃ row, BB B w v l row
  below : Below B X w
theorem PT.step {B : Nat} {X w w' : World} {v v' : Value} {l l' : List Nat} {row row' : Option Nat} (hb : BB B w v l row) (h : Below B X w) (hB : B ≤ X.heap.size) (h1 : BB B w' v' l' row') (h2 : w.grownBy w' row) : PT B X w' v' l' :=
 ⟨⟨row', h1⟩, h.trans (below_of_grown h2 (Nat.le_trans hB h.size) (fun k hk => (hb.2.row_le k hk).1))⟩
def dotE (d : Dt.Dot) : List Nat := Cd.num d.1.1 ++ Cd.num d.1.2 ++ Cd.num d.2
def txtE (s : ByteArray) : List Nat := Cd.num s.size ++ strL s
def upE {α : Type} (f : α → List Nat) (l : List α) (k : Nat) : List Nat := (l.take k).flatMap f
end Go.Proofs.Ytbciopieciglmaa
namespace Go.Proofs.Ytbciopieciglmaa
open Go.RowKit Go.Buf
theorem dotcells {W w1 : World} {c0 c1 c2 : Value} (hb : Below (W.alloc (.cells #[c0, c1, c2] 31)).heap.size (W.alloc (.cells #[c0, c1, c2] 31)) w1) :
  w1.cell? ⟨W.heap.size, 0, none⟩ = some c0 ∧ w1.cell? ⟨W.heap.size, 1, none⟩ = some c1 ∧ w1.cell? ⟨W.heap.size, 2, none⟩ = some c2 :=
 ⟨(hb.cell (p := ⟨W.heap.size, 0, none⟩) (by simp)).trans (by simp), (hb.cell (p := ⟨W.heap.size, 1, none⟩) (by simp)).trans (by simp), (hb.cell (p := ⟨W.heap.size, 2, none⟩) (by simp)).trans (by simp)⟩
structure BTo (B : Nat) (W0 : World) (row0 : Option Nat) (g : Nat) (w : World) (v : Value) (l : List Nat) (row : Option Nat) : Prop where
  bb : BB B w v l row
  grown : W0.grownBy w row0
  new : New W0 row0 row
  ne : ∀ k, row = some k → k ≠ g
  lt : g < w.heap.size
end Go.Proofs.Ytbciopieciglmaa
