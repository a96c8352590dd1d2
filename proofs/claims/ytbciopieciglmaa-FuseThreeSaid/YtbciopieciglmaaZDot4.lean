import Derived.Test.YtbciopieciglmaaZBytes
import Derived.Test.YtbciopieciglmaaZBuf
import Derived.Laws.ShiftsVarLaws
import Derived.Test.YtbciopieciglmaaZOpMath
import Derived.Laws.EntriesVeiled
namespace Go.Proofs.Ytbciopieciglmaa
open Go.RowKit
def VRow (w : World) (a : Option Addr) (cap : Nat) (l : List Dt.Dot) : Prop :=
 l.length ≤ cap ∧ cap ≤ 9223372036854775807 ∧ (∀ d ∈ l, Dt.okD d) ∧ (a = none → cap = 0) ∧
 ∀ i d, l[i]? = some d → ∃ p, a = some p ∧ w.cell? (p.add (i * 3)) = some (.int .u8 (d.1.1 : Int)) ∧ w.cell? (p.add (i * 3 + 1)) = some (.int .u32 (d.1.2 : Int)) ∧ w.cell? (p.add (i * 3 + 2)) = some (.int .u64 (d.2 : Int))
theorem VRow.le {w : World} {a : Option Addr} {cap : Nat} {l : List Dt.Dot} (h : VRow w a cap l) : l.length ≤ cap := h.1
theorem VRow.cap {w : World} {a : Option Addr} {cap : Nat} {l : List Dt.Dot} (h : VRow w a cap l) : cap ≤ 9223372036854775807 := h.2.1
theorem VRow.ok {w : World} {a : Option Addr} {cap : Nat} {l : List Dt.Dot} (h : VRow w a cap l) : ∀ d ∈ l, Dt.okD d := h.2.2.1
theorem VRow.below {w w' : World} {a : Option Addr} {cap : Nat} {l : List Dt.Dot} (h : VRow w a cap l) (hb : Below w.heap.size w w') : VRow w' a cap l := by
 refine ⟨h.1, h.2.1, h.2.2.1, h.2.2.2.1, fun i d hd => ?_⟩
 obtain ⟨p, hp, h1, h2, h3⟩ := h.2.2.2.2 i d hd
 refine ⟨p, hp, ?_, ?_, ?_⟩
 ·exact (hb.cell (World.block_lt_of_cell? _ _ h1)).trans h1
 ·exact (hb.cell (World.block_lt_of_cell? _ _ h2)).trans h2
 ·exact (hb.cell (World.block_lt_of_cell? _ _ h3)).trans h3
theorem VRow.nil (w : World) : VRow w none 0 [] := ⟨by simp, by omega, by simp, by simp, by simp⟩
theorem VRow.at {w : World} {a : Option Addr} {cap : Nat} {l : List Dt.Dot} (h : VRow w a cap l) (hl : 0 < l.length) :
  ∃ b off, a = some ⟨b, off, none⟩ ∧ b < w.heap.size ∧ ∀ i d, l[i]? = some d → w.cell? ⟨b, off + i * 3, none⟩ = some (.int .u8 (d.1.1 : Int)) ∧ w.cell? ⟨b, off + i * 3 + 1, none⟩ = some (.int .u32 (d.1.2 : Int)) ∧ w.cell? ⟨b, off + i * 3 + 2, none⟩ = some (.int .u64 (d.2 : Int)) := by
 obtain ⟨p, hp, hc, _⟩ := h.2.2.2.2 0 l[0] (by simp [hl])
 have hs := World.cell?_spot hc
 obtain ⟨b, off, spot⟩ := p
 have hspot : spot = none := by simpa [Addr.add] using hs
 subst hspot
 refine ⟨b, off, hp, by simpa [Addr.add] using World.block_lt_of_cell? w _ hc, fun i d hd => ?_⟩
 obtain ⟨q, hq, h1, h2, h3⟩ := h.2.2.2.2 i d hd
 rw [hp] at hq
 obtain rfl := Option.some.inj hq
 rw [Addr.add_mid] at h1 h2 h3
 exact ⟨h1, by rw [← h2]; rfl, by rw [← h3]; rfl⟩
theorem getD_some {l : List Dt.Dot} {i : Nat} (hi : i < l.length) : ∃ d, l[i]? = some d := ⟨l[i], List.getElem?_eq_getElem hi⟩
def getF (a : Dt.Ac) (l : List Dt.Dot) (k : Nat) : Nat := Dt.get (l.take k) a
end Go.Proofs.Ytbciopieciglmaa
/- Plain mathematics of layer 2: canonical numbers and their reading. No Go. -/
namespace Go.Proofs.Ytbciopieciglmaa
namespace Cd
def numF : Nat → Nat → List Nat
 | 0, n => [n]
 | k + 1, n => if n < 128 then [n] else (n % 128 + 128) :: numF k (n / 128)
def num (n : Nat) : List Nat := numF 9 n
def ended (n i x : Nat) : Nat × Nat × Nat := if i = 9 ∧ 1 < x then (0, 0, 14) else if 0 < i ∧ x = 0 then (0, 0, 4) else (n, i + 1, 0)
def readF : Nat → Nat → Nat → List Nat → Nat × Nat × Nat
 | 0, _, _, _ => (0, 0, 14)
 | _ + 1, _, _, [] => (0, 0, 5)
 | f + 1, i, acc, x :: r => if x < 128 then ended (acc + x * 128 ^ i) i x else readF f (i + 1) (acc + (x - 128) * 128 ^ i) r
def rd (l : List Nat) : Nat × Nat × Nat := readF 10 0 0 l
def uns (m : Int) : Nat := if m < 0 then (2 * (-m - 1) + 1).toNat else (2 * m).toNat
def sgn (n : Nat) : Int := if n % 2 = 1 then -(n / 2 : Nat) - 1 else (n / 2 : Nat)
def rdText (l : List Nat) (most : Int) : List Nat × Nat × Nat :=
 if (rd l).2.2 ≠ 0 then ([], 0, (rd l).2.2) else if (max most 0).toNat < (rd l).1 then ([], 0, 3) else if l.length - (rd l).2.1 < (rd l).1 then ([], 0, 5)
 else ((l.drop (rd l).2.1).take (rd l).1, (rd l).2.1 + (rd l).1, 0)
def frame (sum : List Nat → List Nat) (b : List Nat) : List Nat := (num b.length ++ b) ++ sum (num b.length ++ b)
def unframe (ends : List Nat → Bool) (l : List Nat) : List Nat × Nat × Nat :=
 if (rd l).2.2 ≠ 0 then ([], 0, (rd l).2.2) else if 1048576 < (rd l).1 then ([], 0, 3) else if l.length < (rd l).2.1 + (rd l).1 + 4 then ([], 0, 5)
 else if ends (l.take ((rd l).2.1 + (rd l).1 + 4)) then ((l.drop (rd l).2.1).take (rd l).1, (rd l).2.1 + (rd l).1 + 4, 0) else ([], 0, 6)
end Cd
end Go.Proofs.Ytbciopieciglmaa
namespace Go.Proofs.Ytbciopieciglmaa
open Go.RowKit Go.Buf
def BB (B : Nat) (w : World) (v : Value) (l : List Nat) (row : Option Nat) : Prop := (∀ x ∈ l, x < 256) ∧ Buf 5 1 B w v l.length (bytesV l) row
def RetBB (B : Nat) (w : World) (row : Option Nat) (l : List Nat) (e : Ending) (w' : World) : Prop := ∃ v row', e = .returned v ∧ BB B w' v l row' ∧ w.grownBy w' row ∧ New w row row'
theorem BB.nil {B : Nat} {w : World} (hB : B ≤ w.heap.size) : BB B w (.slice none 0 0) [] none := ⟨by simp, Buf.nil hB⟩
def strL (s : ByteArray) : List Nat := s.data.toList.map UInt8.toNat
theorem BB.row {B : Nat} {w : World} {v : Value} {l : List Nat} {row : Option Nat} (h : BB B w v l row) : ∃ a c, v = .slice a l.length c ∧ Row w a c l := by
 obtain ⟨a, c, rfl, h1, h2, h3⟩ := h.2.shape
 refine ⟨a, c, rfl, h1, by unfold maxLen at h2; omega, h.1, h3, fun i x hx => ?_⟩
 cases a with
 | none =>
  have := h3 rfl
  have hi := (List.getElem?_eq_some_iff.1 hx).1
  omega
 | some p => exact ⟨p, rfl, h.2.cells p rfl i _ (by simp [bytesV, hx])⟩
theorem BB.base {B B' : Nat} {w : World} {v : Value} {l : List Nat} {row : Option Nat} (h : BB B w v l row) (hB : B' ≤ B) : BB B' w v l row := ⟨h.1, h.2.base hB⟩
theorem BB.alloc {B : Nat} {w : World} {v : Value} {l : List Nat} {row : Option Nat} (h : BB B w v l row) (o : Obj) : BB B (w.alloc o) v l row := ⟨h.1, h.2.kept (World.grownBy_alloc w o none) (Or.inl rfl)⟩
theorem BB.below {B : Nat} {w w' : World} {v : Value} {l : List Nat} {row : Option Nat} (h : BB B w v l row) (hb : Below w.heap.size w w') : BB B w' v l row := ⟨h.1, h.2.kept (grown_of_below (row := none) hb) (Or.inl rfl)⟩
end Go.Proofs.Ytbciopieciglmaa
namespace Go.Proofs.Ytbciopieciglmaa
open Go.RowKit Go.Buf
def num3 (r : Nat × Nat × Nat) : Value := .tuple #[.int .u64 (r.1 : Nat), .int .i64 (r.2.1 : Nat), .int .i64 (r.2.2 : Nat)]
end Go.Proofs.Ytbciopieciglmaa
namespace Go.Proofs.Ytbciopieciglmaa
open Go.RowKit Go.Buf
end Go.Proofs.Ytbciopieciglmaa
/- Plain mathematics of CRC-32: the register's step, eight of them, their linearity and injectivity. No Go. -/
namespace Go.Proofs.Ytbciopieciglmaa
namespace Crc

def st (r : Nat) : Nat := if r % 2 = 1 then (r / 2) ^^^ 3988292384 else r / 2
def stn : Nat → Nat → Nat
 | 0, r => r
 | n + 1, r => stn n (st r)
def st8 (r : Nat) : Nat := st (st (st (st (st (st (st (st r)))))))
def byteStep (reg x : Nat) : Nat := st8 ((reg % 256) ^^^ x) ^^^ (reg / 256)
def run (reg : Nat) (l : List Nat) : Nat := l.foldl byteStep reg
def more (sum : Nat) (l : List Nat) : Nat := 4294967295 - run (4294967295 - sum) l
def sum (l : List Nat) : Nat := more 0 l

theorem run_snoc (reg : Nat) (l : List Nat) (x : Nat) : run reg (l ++ [x]) = byteStep (run reg l) x := by simp [run]
def four (s : Nat) : List Nat := [s % 256, s / 256 % 256, s / 65536 % 256, s / 16777216 % 256]
def ends (l : List Nat) : Bool := decide (4 ≤ l.length) && (l.drop (l.length - 4) == four (sum (l.take (l.length - 4))))
end Crc
end Go.Proofs.Ytbciopieciglmaa
namespace Go.Proofs.Ytbciopieciglmaa
open Go.RowKit
def tblVals (F : Nat → Nat) : List Value := (List.range 256).map fun i => .int .u32 (F i : Nat)
def OnlyBlock (b : Nat) (w w' : World) : Prop := w'.os = w.os ∧ w'.tape = w.tape ∧ w'.output = w.output ∧ w'.heap.size = w.heap.size ∧ ∀ k, k ≠ b → w'.heap[k]? = w.heap[k]?
theorem OnlyBlock.refl (b : Nat) (w : World) : OnlyBlock b w w := ⟨rfl, rfl, rfl, rfl, fun _ _ => rfl⟩
theorem OnlyBlock.set {b : Nat} {w w' : World} (h : OnlyBlock b w w') (i : Nat) (v : Value) : OnlyBlock b w (w'.setCell ⟨b, i, none⟩ v) := by
 obtain ⟨h1, h2, h3, h4, h5⟩ := h
 refine ⟨h1, h2, h3, by simpa [World.setCell] using h4, fun k hk => ?_⟩
 rw [heap_setCell_other _ _ _ _ hk]; exact h5 k hk
def FF (F : Nat → Nat) (bit reg q : Nat) : Nat → Nat := fun i => if i % (2 * bit) = bit ∧ i < q then F (i - bit) ^^^ reg else F i
def TT (bit : Nat) : Nat → Nat := fun i => if i % bit = 0 then Crc.st8 (i % 256) else 0
def tbl (F : Nat → Nat) : Array Value := (tblVals F).toArray
end Go.Proofs.Ytbciopieciglmaa
namespace Go.Proofs.Ytbciopieciglmaa
open Go.RowKit
end Go.Proofs.Ytbciopieciglmaa
namespace Go.Proofs.Ytbciopieciglmaa
open Go.RowKit
def fourV (s : Nat) : List Value := (Crc.four s).map fun x => .int .u8 (x : Nat)
def zero4 : Array Value := #[.int .u8 0, .int .u8 0, .int .u8 0, .int .u8 0]
end Go.Proofs.Ytbciopieciglmaa
namespace Go.Proofs.Ytbciopieciglmaa
open Go.RowKit
end Go.Proofs.Ytbciopieciglmaa
namespace Go.Proofs.Ytbciopieciglmaa
open Go.RowKit Go.Buf
theorem Row.alloc {w : World} {a : Option Addr} {cap : Nat} {l : List Nat} (h : Row w a cap l) (o : Obj) : Row (w.alloc o) a cap l := h.below ((Below.refl _ _).alloc (Nat.le_refl _) o)
theorem BB.empty (w : World) : BB w.heap.size (w.alloc (.cells #[] 5)) (.slice (some ⟨w.heap.size, 0, none⟩) 0 0) [] (some w.heap.size) :=
 ⟨by simp, Buf.own (World.ownsRow_made w #[] 0 (Nat.le_refl _) (by unfold maxLen; omega) rfl) (by simp)⟩
theorem RetBB.below {w w' : World} {l : List Nat} {e : Ending} (h : RetBB w.heap.size w none l e w') : ∃ v row', e = .returned v ∧ BB w.heap.size w' v l row' ∧ Below w.heap.size w w' := by
 obtain ⟨v, row', h1, h2, h3, h4⟩ := h
 exact ⟨v, row', h1, h2, below_of_grown h3 (Nat.le_refl _) (fun k hk => by cases hk)⟩
def frameL (l : List Nat) : List Nat := Cd.frame (fun x => Crc.four (Crc.sum x)) l
end Go.Proofs.Ytbciopieciglmaa
namespace Go.Proofs.Ytbciopieciglmaa
open Go.RowKit Go.Buf
def unfr (l : List Nat) : List Nat × Nat × Nat := Cd.unframe Crc.ends l
def RetUn (w : World) (r : List Nat × Nat × Nat) (e : Ending) (w' : World) : Prop := ∃ v row', e = .returned (.tuple #[v, .int .i64 (r.2.1 : Nat), .int .i64 (r.2.2 : Nat)]) ∧ BB w.heap.size w' v r.1 row' ∧ Below w.heap.size w w'
end Go.Proofs.Ytbciopieciglmaa
namespace Go.Proofs.Ytbciopieciglmaa
open Go.RowKit Go.Buf
def tailAt (a : Option Addr) (lo c : Nat) : Option Addr := if c = lo then a else a.map (·.add lo)
theorem Addr.add_add (p : Addr) (i j : Nat) : (p.add i).add j = p.add (i + j) := by
 unfold Addr.add
 by_cases hi : i = 0
 ·subst hi; simp
 ·by_cases hj : j = 0
  ·subst hj; simp
  ·simp [hi, hj, Nat.add_assoc]
theorem Row.drop {w : World} {a : Option Addr} {cap : Nat} {l : List Nat} (h : Row w a cap l) (k : Nat) (hk : k ≤ l.length) : Row w (tailAt a k cap) (cap - k) (l.drop k) := by
 have hle := h.le
 obtain ⟨h1, h2, h3, h4, h5⟩ := h
 refine ⟨by simp; omega, by omega, fun x hx => h3 x (List.mem_of_mem_drop hx), fun hn => ?_, fun i x hx => ?_⟩
 ·unfold tailAt at hn
  split at hn
  ·omega
  ·cases a with
   | none => have := h4 rfl; omega
   | some p => simp at hn
 ·rw [List.getElem?_drop] at hx
  obtain ⟨p, hp, hc⟩ := h5 (k + i) x hx
  have hlt : k + i < l.length := (List.getElem?_eq_some_iff.1 hx).1
  refine ⟨p.add k, ?_, by rw [Addr.add_add]; exact hc⟩
  unfold tailAt
  rw [if_neg (by omega), hp]; rfl
end Go.Proofs.Ytbciopieciglmaa
namespace Go.Proofs.Ytbciopieciglmaa
open Go.RowKit Go.Buf
def txt3 (r : List Nat × Nat × Nat) : Value := .tuple #[.string (strB r.1), .int .i64 (r.2.1 : Nat), .int .i64 (r.2.2 : Nat)]
def step {α : Type} (none : α) (l : List Nat) (er : Nat) (r : α × Nat × Nat) : α × List Nat × Nat := if er ≠ 0 then (none, l, er) else if r.2.2 ≠ 0 then (none, l, r.2.2) else (r.1, l.drop r.2.1, 0)
end Go.Proofs.Ytbciopieciglmaa
namespace Go.Proofs.Ytbciopieciglmaa
open Go.RowKit Go.Buf
def numR (l : List Nat) (er : Nat) : Nat × List Nat × Nat := step 0 l er (Cd.rd l)
def intR (l : List Nat) (er : Nat) : Int × List Nat × Nat := step 0 l er (Cd.sgn (Cd.rd l).1, (Cd.rd l).2)
def txtR (l : List Nat) (er : Nat) (most : Int) : List Nat × List Nat × Nat := step [] l er (Cd.rdText l most)
def mkU (x : Nat) : Value := .int .u64 (x : Nat)
def mkI (x : Int) : Value := .int .i64 x
def mkS (x : List Nat) : Value := .string (strB x)
end Go.Proofs.Ytbciopieciglmaa
namespace Go.Proofs.Ytbciopieciglmaa
open Go.RowKit Go.Buf
end Go.Proofs.Ytbciopieciglmaa
namespace Go.Proofs.Ytbciopieciglmaa
open Go.RowKit
def L14 : List Nat := [26, 23, 22, 16, 12, 11, 10, 8, 7, 5, 4, 2, 1, 0]
def divB (p : Nat) : Bool := L14.contains p
end Go.Proofs.Ytbciopieciglmaa
/- Plain mathematics: the long division of a row of bits by the polynomial leaves the register. No Go. -/
namespace Go.Proofs.Ytbciopieciglmaa
namespace Crc
def bitsOf (l : List Nat) (i : Nat) : Bool := (l.getD (i / 8) 0).testBit (i % 8)
def bstep (reg : Nat) (m : Bool) : Nat := st (reg ^^^ (if m then 1 else 0))
def rg (l : List Nat) : Nat → Nat
 | 0 => 4294967295
 | i + 1 => bstep (rg l i) (bitsOf l i)
def row0 (l : List Nat) (j : Nat) : Bool := bitsOf l j != decide (j < 32)
def rowAt (l : List Nat) (i j : Nat) : Bool := if i ≤ j then bitsOf l j != (decide (j < i + 32) && (rg l i).testBit (j - i)) else false
def div32 (p : Nat) : Bool := [26, 23, 22, 16, 12, 11, 10, 8, 7, 5, 4, 2, 1, 0].contains p
end Crc
end Go.Proofs.Ytbciopieciglmaa
namespace Go.Proofs.Ytbciopieciglmaa
open Go.RowKit
def boolsV (N : Nat) (F : Nat → Bool) : List Value := (List.range N).map fun i => .bool (F i)
def HasB (w : World) (g N : Nat) (F : Nat → Bool) : Prop := w.heap[g]? = some (.cells (boolsV N F).toArray 4 (0, 0))
theorem HasB.cell {w : World} {g N : Nat} {F : Nat → Bool} (h : HasB w g N F) (i : Nat) (hi : i < N) : w.cell? ⟨g, i, none⟩ = some (.bool (F i)) := by
 rw [cell_of_row w g i _ _ _ h]; simp [boolsV, hi]
theorem HasB.frozen {w : World} {g N : Nat} {F : Nat → Bool} (h : HasB w g N F) (i : Nat) : w.frozen? ⟨g, i, none⟩ = false := frozen_of_row w g i _ _ h
theorem HasB.congr {w : World} {g N : Nat} {F G : Nat → Bool} (h : HasB w g N F) (he : ∀ i, i < N → F i = G i) : HasB w g N G := by
 unfold HasB at *
 rw [h]
 congr 2
 apply Array.ext'
 simp only [boolsV]
 exact List.map_congr_left fun i hi => by rw [he i (by simpa using hi)]
theorem HasB.set {w : World} {g N : Nat} {F G : Nat → Bool} (h : HasB w g N F) (i : Nat) (x : Bool) (hx : x = G i) (hG : ∀ j, j < N → j ≠ i → G j = F j) :
  HasB (w.setCell ⟨g, i, none⟩ (.bool x)) g N G := by
 unfold HasB
 rw [heap_setCell_same w g i _ _ _ h]
 congr 2
 apply Array.ext'
 simp only [Array.toList_setIfInBounds]
 apply List.ext_getElem (by simp [boolsV])
 intro j h1 h2
 have hj : j < N := by simpa [boolsV] using h2
 by_cases e : i = j
 ·subst e; simp [boolsV, hx]
 ·rw [List.getElem_set_ne e]; simp [boolsV, hG j hj (fun c => e c.symm)]
theorem HasB.below {w w' : World} {g N B : Nat} {F : Nat → Bool} (h : HasB w g N F) (hb : Below B w w') (hg : g < B) : HasB w' g N F := by
 unfold HasB at *; rw [hb.block g hg]; exact h
theorem HasB.lt {w : World} {g N : Nat} {F : Nat → Bool} (h : HasB w g N F) : g < w.heap.size := (Array.getElem?_eq_some_iff.1 h).1
def RetB (B : Nat) (w : World) (N : Nat) (F : Nat → Bool) (e : Ending) (w' : World) : Prop := ∃ g, e = .returned (.slice (some ⟨g, 0, none⟩) N N) ∧ B ≤ g ∧ HasB w' g N F ∧ Below B w w'
end Go.Proofs.Ytbciopieciglmaa
namespace Go.Proofs.Ytbciopieciglmaa
open Go.RowKit
end Go.Proofs.Ytbciopieciglmaa
namespace Go.Proofs.Ytbciopieciglmaa
open Go.RowKit Go.Buf
theorem BB.step {B : Nat} {w w1 w2 : World} {v : Value} {l : List Nat} {r : Option Nat} (hb : Below B w w1) (h : BB B w1 v l r) (hg : w1.grownBy w2 r) (hB : B ≤ w.heap.size) : Below B w w2 :=
 hb.trans (below_of_grown hg (Nat.le_trans hB hb.size) (fun k hk => (h.2.row_le k hk).1))
end Go.Proofs.Ytbciopieciglmaa
namespace Go.Proofs.Ytbciopieciglmaa
open Go.RowKit Go.Buf
def SRow (w : World) (a : Option Addr) (cap : Nat) (l : List ByteArray) : Prop :=
 l.length ≤ cap ∧ cap ≤ 9223372036854775807 ∧ (∀ s ∈ l, s.size ≤ 9223372036854775807) ∧ (a = none → cap = 0) ∧
 ∀ i s, l[i]? = some s → ∃ p, a = some p ∧ w.cell? (p.add i) = some (.string s)
theorem SRow.le {w : World} {a : Option Addr} {cap : Nat} {l : List ByteArray} (h : SRow w a cap l) : l.length ≤ cap := h.1
theorem SRow.cap {w : World} {a : Option Addr} {cap : Nat} {l : List ByteArray} (h : SRow w a cap l) : cap ≤ 9223372036854775807 := h.2.1
theorem SRow.ok {w : World} {a : Option Addr} {cap : Nat} {l : List ByteArray} (h : SRow w a cap l) : ∀ s ∈ l, s.size ≤ 9223372036854775807 := h.2.2.1
theorem SRow.below {w w' : World} {a : Option Addr} {cap : Nat} {l : List ByteArray} (h : SRow w a cap l) (hb : Below w.heap.size w w') : SRow w' a cap l := by
 refine ⟨h.1, h.2.1, h.2.2.1, h.2.2.2.1, fun i d hd => ?_⟩
 obtain ⟨p, hp, h1⟩ := h.2.2.2.2 i d hd
 exact ⟨p, hp, (hb.cell (World.block_lt_of_cell? _ _ h1)).trans h1⟩
theorem SRow.nil (w : World) : SRow w none 0 [] := ⟨by simp, by omega, by simp, by simp, by simp⟩
theorem SRow.at {w : World} {a : Option Addr} {cap : Nat} {l : List ByteArray} (h : SRow w a cap l) (hl : 0 < l.length) :
  ∃ b off, a = some ⟨b, off, none⟩ ∧ b < w.heap.size ∧ ∀ i s, l[i]? = some s → w.cell? ⟨b, off + i, none⟩ = some (.string s) := by
 obtain ⟨p, hp, hc⟩ := h.2.2.2.2 0 l[0] (by simp [hl])
 have hs := World.cell?_spot hc
 obtain ⟨b, off, spot⟩ := p
 have hspot : spot = none := by simpa [Addr.add] using hs
 subst hspot
 refine ⟨b, off, hp, by simpa [Addr.add] using World.block_lt_of_cell? w _ hc, fun i d hd => ?_⟩
 obtain ⟨q, hq, h1⟩ := h.2.2.2.2 i d hd
 rw [hp] at hq
 obtain rfl := Option.some.inj hq
 rw [Addr.add_mid] at h1
 exact h1
theorem gets_some {l : List ByteArray} {i : Nat} (hi : i < l.length) : ∃ s, l[i]? = some s := ⟨l[i], List.getElem?_eq_getElem hi⟩
theorem nameAt_get (s : ByteArray) (k : Nat) (h : k < s.size) : Om.nb s[k].toNat = Om.nameAt s k := by
 unfold Om.nameAt
 rw [Array.getD, dif_pos (show k < s.data.size from h)]; rfl
set_option maxRecDepth 100000 in
set_option maxHeartbeats 3200000 in
theorem refisName_any (s : ByteArray) (hs : s.size ≤ 9223372036854775807) (w : World) : Calls Try.prog 62 #[.string s] w fun e w' => e = .returned (.bool (Om.isName s)) ∧ w = w' := by
  by_cases h1 : 1 ≤ s.size
  · by_cases h2 : s.size ≤ 12
    · go_enter Try.func62, Try.ntmps62
      go_wp2_with fail
      go_loopw [3, 4] (fun i _ wr => ∃ k : Nat, k ≤ s.size ∧ i = .int .i64 k ∧ Om.upTo (Om.nameAt s) k = true ∧ w = wr) (fun i _ _ => s.size - (intOf i).toNat)
      case atStart => exact ⟨0, Nat.zero_le _, rfl, Om.upTo_zero _, rfl⟩
      case round =>
        obtain ⟨k, hk, rfl, hu, rfl⟩ := hrel
        have HU := Lib.hid hu; clear hu
        by_cases hlt : k < s.size
        · have hA := nameAt_get s k hlt
          obtain ⟨c, hc⟩ : ∃ c, c = s[k].toNat := ⟨_, rfl⟩
          have hcc : (s[k].toNat : Int) = (c : Int) := by rw [hc]
          rw [← hc] at hA
          have HA := Lib.hid hA
          clear hA hc
          go_wp2
          all_goals first
            | (refine ⟨⟨k + 1, by omega, by go_num, Om.upTo_succ HU.out ?_, trivial⟩, by simp [intOf]; omega⟩
               rw [← HA.out]
               simp only [Om.nb, Bool.or_eq_true, Bool.and_eq_true, decide_eq_true_eq, Bool.not_eq_eq_eq_not, Bool.not_false] at *
               omega)
            | (go_ret
               refine ⟨ret_bool ?_, rfl⟩
               have hx : Om.nameAt s k = false := by
                 rw [← HA.out]
                 simp only [Om.nb, Bool.or_eq_false_iff, Bool.and_eq_false_iff, Bool.not_eq_eq_eq_not, Bool.not_true, decide_eq_false_iff_not] at *
                 omega
               simp [Om.isName, Om.upTo_not hlt hx])
        · obtain rfl : k = s.size := by omega
          go_wp2_with fail
          go_ret
          exact ⟨ret_bool (by simp [Om.isName, HU.out, h1, h2]), rfl⟩
    · go_enter Try.func62, Try.ntmps62
      go_wp2_with fail
      go_ret
      exact ⟨ret_bool (by simp [Om.isName, h2]), rfl⟩
  · go_enter Try.func62, Try.ntmps62
    go_wp2_with fail
    go_ret
    exact ⟨ret_bool (by simp [Om.isName, h1]), rfl⟩
theorem pathAt_get {l : List ByteArray} {k : Nat} {s : ByteArray} (h : l[k]? = some s) : Om.isName s = Om.pathAt l k := by simp [Om.pathAt, List.getD, h]
def noName (l : List ByteArray) : Int := if Om.upTo (Om.pathAt l) l.length then -1 else l.findIdx (fun s => !Om.isName s)
set_option maxRecDepth 100000 in
set_option maxHeartbeats 800000 in
theorem refmayPath_any (a : Option Addr) (n cap : Nat) (l : List ByteArray) (w : World) (hr : SRow w a cap l) (hl : l.length = n) :
  Calls Try.prog 50 #[.slice a n cap] w fun e w' => e = .returned (.bool (Om.mayPath l)) ∧ w = w' := by
 have hle := hr.le
 have hcap := hr.cap
 rw [hl] at hle
 have HR := Lib.hid hr; have HL := Lib.hid hl
 clear hr hl
 go_enter Try.func50, Try.ntmps50
 go_wp2_with fail
 go_loopw [3] (fun i wr => ∃ k : Nat, k ≤ n ∧ i = .int .i64 k ∧ Om.upTo (Om.pathAt l) k = true ∧ w = wr) (fun i _ => n - (intOf i).toNat)
 case atStart => exact ⟨0, Nat.zero_le _, rfl, Om.upTo_zero _, rfl⟩
 case round =>
  obtain ⟨k, hk, rfl, hu, rfl⟩ := hrel
  have HU := Lib.hid hu; clear hu
  by_cases hlt : k < n
  ·obtain ⟨s, hs⟩ := gets_some (l := l) (i := k) (by rw [HL.out]; exact hlt)
   obtain ⟨b, off, rfl, hb, hc⟩ := HR.out.at (by rw [HL.out]; omega)
   have q := hc k s hs
   have HS := Lib.hid (HR.out.ok s (List.mem_of_getElem? hs))
   have HA := Lib.hid (pathAt_get hs)
   clear hc hs
   have i0 : (0 : Int) ≤ (k : Int) := by omega
   have i1 : (k : Int) < (n : Int) := by omega
   go_wp2_with fail
   refine (refisName_any s HS.out _).mono ?_
   rintro e w1 ⟨rfl, rfl⟩
   rw [HA.out]
   cases hx : Om.pathAt l k
   ·have HX := Lib.hid hx; clear hx
    go_wp2_with fail
    go_ret
    exact ⟨ret_bool (by simp [Om.mayPath, HL.out, Om.upTo_not hlt HX.out]), rfl⟩
   ·have HX := Lib.hid hx; clear hx
    go_wp2_with fail
    go_roundw
    case rel => exact ⟨k + 1, by omega, by go_num, Om.upTo_succ HU.out HX.out, trivial⟩
    case measure => simp [intOf]; omega
  ·obtain rfl : k = n := by omega
   go_wp2_with fail
   all_goals
    go_ret
    exact ⟨ret_bool (by rw [Bool.eq_iff_iff]; simp [Om.mayPath, HL.out, HU.out]; try omega), rfl⟩
set_option maxHeartbeats 800000 in
theorem reftype_any (k : Nat) (w : World) : Calls Try.prog 15 #[.int .u8 (k : Int)] w fun e w' => e = .returned (.int .u8 (Om.type k : Nat)) ∧ w = w' := by
 by_cases h1 : k = 1
 ·subst h1
  go_enter Try.func15, Try.ntmps15
  go_wp2_with fail
  go_ret
  exact ⟨rfl, rfl⟩
 by_cases h2 : k = 2
 ·subst h2
  go_enter Try.func15, Try.ntmps15
  go_wp2_with fail
  go_ret
  exact ⟨rfl, rfl⟩
 by_cases h3 : k = 3
 ·subst h3
  go_enter Try.func15, Try.ntmps15
  go_wp2_with fail
  go_ret
  exact ⟨rfl, rfl⟩
 by_cases h4 : k = 4
 ·subst h4
  go_enter Try.func15, Try.ntmps15
  go_wp2_with fail
  go_ret
  exact ⟨rfl, rfl⟩
 by_cases h5 : k = 5
 ·subst h5
  go_enter Try.func15, Try.ntmps15
  go_wp2_with fail
  go_ret
  exact ⟨rfl, rfl⟩
 have d1 : ((k : Int) == 1) = false := by simp; omega
 have d2 : ((k : Int) == 2) = false := by simp; omega
 have d3 : ((k : Int) == 3) = false := by simp; omega
 have d4 : ((k : Int) == 4) = false := by simp; omega
 have d5 : ((k : Int) == 5) = false := by simp; omega
 have HT : Hid (Om.type k = 0) := Lib.hid (by simp [Om.type, *])
 clear h1 h2 h3 h4 h5
 go_enter Try.func15, Try.ntmps15
 go_wp2_with fail
 go_ret
 exact ⟨by rw [HT.out]; rfl, rfl⟩
end Go.Proofs.Ytbciopieciglmaa
namespace Go.Proofs.Ytbciopieciglmaa
open Go.RowKit Go.Buf
theorem cmp_less (x y : Dt.Dot) : decide (0 ≤ Dt.cmp x y) = !Dt.less x y := by
 unfold Dt.cmp Dt.less
 by_cases h1 : Dt.lt x y
 ·simp [h1]
 ·by_cases h2 : Dt.lt y x <;> simp [h1, h2]
theorem dropAt_zero {l : List Dt.Dot} {d : Dt.Dot} (h : l[0]? = some d) : Om.dropAt l 0 = Dt.may d := by simp [Om.dropAt, List.getD, h]
theorem dropAt_succ {l : List Dt.Dot} {k : Nat} {d e : Dt.Dot} (hk : 0 < k) (h : l[k]? = some d) (h' : l[k - 1]? = some e) : Om.dropAt l k = (Dt.may d && Dt.less e d) := by
 have : ¬ k = 0 := by omega
 simp [Om.dropAt, List.getD, h, h', this]
theorem dropAt_no {l : List Dt.Dot} {k : Nat} {d : Dt.Dot} (h : l[k]? = some d) (hm : Dt.may d = false) : Om.dropAt l k = false := by simp [Om.dropAt, List.getD, h, hm]
end Go.Proofs.Ytbciopieciglmaa
namespace Go.Proofs.Ytbciopieciglmaa
open Go.RowKit Go.Buf
set_option linter.unusedSimpArgs false
abbrev opV (k : Nat) (pa : Option Addr) (pl pc : Nat) (n : Int) (t : ByteArray) (da : Option Addr) (dl dc : Nat) : Value := .agg #[.int .u8 (k : Int), .slice pa pl pc, .int .i64 n, .string t, .slice da dl dc]
theorem opcells {W w1 : World} {c0 c1 c2 c3 c4 : Value} (hb : Below (W.alloc (.cells #[c0, c1, c2, c3, c4] 35)).heap.size (W.alloc (.cells #[c0, c1, c2, c3, c4] 35)) w1) :
  w1.cell? ⟨W.heap.size, 0, none⟩ = some c0 ∧ w1.cell? ⟨W.heap.size, 1, none⟩ = some c1 ∧ w1.cell? ⟨W.heap.size, 2, none⟩ = some c2 ∧ w1.cell? ⟨W.heap.size, 3, none⟩ = some c3 ∧ w1.cell? ⟨W.heap.size, 4, none⟩ = some c4 :=
 ⟨(hb.cell (p := ⟨W.heap.size, 0, none⟩) (by simp)).trans (by simp), (hb.cell (p := ⟨W.heap.size, 1, none⟩) (by simp)).trans (by simp), (hb.cell (p := ⟨W.heap.size, 2, none⟩) (by simp)).trans (by simp), (hb.cell (p := ⟨W.heap.size, 3, none⟩) (by simp)).trans (by simp), (hb.cell (p := ⟨W.heap.size, 4, none⟩) (by simp)).trans (by simp)⟩
theorem below_box (W : World) (c : Array Value) (t : TypeId) : Below W.heap.size W (W.alloc (.cells c t)) := (Below.refl _ _).alloc (Nat.le_refl _) _
theorem str_nil (t : ByteArray) : t.toList = [] ↔ t.size = 0 := by
 rw [ByteArray.toList_eq]
 constructor
 ·intro h; have := congrArg List.length h; simpa using this
 ·intro h; have : t.data.size = 0 := h; simp; exact Array.eq_empty_of_size_eq_zero this
end Go.Proofs.Ytbciopieciglmaa
