import Derived.Test.YteakbfbacfhhoaaGreatZCode1
import Derived.Laws.ShiftsVarLaws
import Derived.Test.YteakbfbacfhhoaaGreatZCrc1
namespace Go.Proofs.YteakbfbacfhhoaaGreat
open Go.RowKit Go.Buf
end Go.Proofs.YteakbfbacfhhoaaGreat
namespace Go.Proofs.YteakbfbacfhhoaaGreat
open Go.RowKit Go.Buf
theorem Row.alloc {w : World} {a : Option Addr} {cap : Nat} {l : List Nat} (h : Row w a cap l) (o : Obj) : Row (w.alloc o) a cap l := h.below ((Below.refl _ _).alloc (Nat.le_refl _) o)
theorem BB.empty (w : World) : BB w.heap.size (w.alloc (.cells #[] 5)) (.slice (some ⟨w.heap.size, 0, none⟩) 0 0) [] (some w.heap.size) :=
 ⟨by simp, Buf.own (World.ownsRow_made w #[] 0 (Nat.le_refl _) (by unfold maxLen; omega) rfl) (by simp)⟩
theorem RetBB.below {w w' : World} {l : List Nat} {e : Ending} (h : RetBB w.heap.size w none l e w') : ∃ v row', e = .returned v ∧ BB w.heap.size w' v l row' ∧ Below w.heap.size w w' := by
 obtain ⟨v, row', h1, h2, h3, h4⟩ := h
 exact ⟨v, row', h1, h2, below_of_grown h3 (Nat.le_refl _) (fun k hk => by cases hk)⟩
def frameL (l : List Nat) : List Nat := Cd.frame (fun x => Crc.four (Crc.sum x)) l
end Go.Proofs.YteakbfbacfhhoaaGreat
namespace Go.Proofs.YteakbfbacfhhoaaGreat
open Go.RowKit Go.Buf
def unfr (l : List Nat) : List Nat × Nat × Nat := Cd.unframe Crc.ends l
def RetUn (w : World) (r : List Nat × Nat × Nat) (e : Ending) (w' : World) : Prop := ∃ v row', e = .returned (.tuple #[v, .int .i64 (r.2.1 : Nat), .int .i64 (r.2.2 : Nat)]) ∧ BB w.heap.size w' v r.1 row' ∧ Below w.heap.size w w'
end Go.Proofs.YteakbfbacfhhoaaGreat
namespace Go.Proofs.YteakbfbacfhhoaaGreat
open Go.RowKit Go.Buf
def tailAt (a : Option Addr) (lo c : Nat) : Option Addr := if c = lo then a else a.map (·.add lo)
theorem Addr.add_add (p : Addr) (i j : Nat) : (p.add i).add j = p.add (i + j) := by
 unfold Addr.add
 by_cases hi : i = 0
 ·subst hi; simp
 ·by_cases hj : j = 0
  ·subst hj; simp
  ·simp [hi, hj, Nat.add_assoc]
theorem Row.drop {w : World} {a : Option Addr} {cap : Nat} {l : List Nat} (h : Row w a cap l) (k : Nat) (hk : k ≤ l.length) : Row w (tailAt a k cap) (cap - k) (l.drop k) := by
 have hle := h.le
 obtain ⟨h1, h2, h3, h4, h5⟩ := h
 refine ⟨by simp; omega, by omega, fun x hx => h3 x (List.mem_of_mem_drop hx), fun hn => ?_, fun i x hx => ?_⟩
 ·unfold tailAt at hn
  split at hn
  ·omega
  ·cases a with
   | none => have := h4 rfl; omega
   | some p => simp at hn
 ·rw [List.getElem?_drop] at hx
  obtain ⟨p, hp, hc⟩ := h5 (k + i) x hx
  have hlt : k + i < l.length := (List.getElem?_eq_some_iff.1 hx).1
  refine ⟨p.add k, ?_, by rw [Addr.add_add]; exact hc⟩
  unfold tailAt
  rw [if_neg (by omega), hp]; rfl
end Go.Proofs.YteakbfbacfhhoaaGreat
namespace Go.Proofs.YteakbfbacfhhoaaGreat
open Go.RowKit Go.Buf
def txt3 (r : List Nat × Nat × Nat) : Value := .tuple #[.string (strB r.1), .int .i64 (r.2.1 : Nat), .int .i64 (r.2.2 : Nat)]
def step {α : Type} (none : α) (l : List Nat) (er : Nat) (r : α × Nat × Nat) : α × List Nat × Nat := if er ≠ 0 then (none, l, er) else if r.2.2 ≠ 0 then (none, l, r.2.2) else (r.1, l.drop r.2.1, 0)
end Go.Proofs.YteakbfbacfhhoaaGreat
namespace Go.Proofs.YteakbfbacfhhoaaGreat
open Go.RowKit Go.Buf
def numR (l : List Nat) (er : Nat) : Nat × List Nat × Nat := step 0 l er (Cd.rd l)
def intR (l : List Nat) (er : Nat) : Int × List Nat × Nat := step 0 l er (Cd.sgn (Cd.rd l).1, (Cd.rd l).2)
def txtR (l : List Nat) (er : Nat) (most : Int) : List Nat × List Nat × Nat := step [] l er (Cd.rdText l most)
def mkU (x : Nat) : Value := .int .u64 (x : Nat)
def mkI (x : Int) : Value := .int .i64 x
def mkS (x : List Nat) : Value := .string (strB x)
end Go.Proofs.YteakbfbacfhhoaaGreat
namespace Go.Proofs.YteakbfbacfhhoaaGreat
open Go.RowKit Go.Buf
end Go.Proofs.YteakbfbacfhhoaaGreat
