import Derived.Test.YtpkfjgoimaomfaaCode8
namespace Go.Proofs.Ytpkfjgoimaomfaa
open Go.RowKit Go.Buf
/-- a slice literal of bytes -/
theorem row_lits {w : World} (l : List Nat) (vs : Array Value) (h : vs = (bytesV l).toArray) (hb : ∀ x ∈ l, x < 256) (hl : l.length ≤ 9223372036854775807) : Row (w.alloc (.cells vs 5)) (some ⟨w.heap.size, 0, none⟩) l.length l := by
  subst h
  refine row_of_block (heap_alloc_new w _) hb 0 l.length hl (Nat.le_refl _) (fun i x hx => ?_)
  simp [bytesV, hx]
/-- what a call for a new buffer's text makes -/
theorem text_of_new {w : World} {l : List Nat} {e : Ending} {w' : World} (h : RetBB w.heap.size w none l e w') (n : Nat) (hn : l.length = n) (s : ByteArray) (hs : strB l = s) : ∃ a c, e = .returned (.slice a n c) ∧ Below w.heap.size w w' ∧ Sem.run Try.prog (convert 42 9 (.slice a n c)) w' = .ok (.string s) w' := by
  obtain ⟨v, row', rfl, h1, h2⟩ := h.below
  obtain ⟨a, c, rfl, hr⟩ := h1.row
  subst hn; subst hs
  exact ⟨a, c, rfl, h2, conv_row hr rfl⟩
end Go.Proofs.Ytpkfjgoimaomfaa
