import Derived.Test.YtpkfjgoimaomfaaDot4
import Derived.Test.YtpkfjgoimaomfaaCode4
namespace Go.Proofs.Ytpkfjgoimaomfaa
open Go.RowKit Go.Buf
theorem BB.rowN {B : Nat} {w : World} {v : Value} {l : List Nat} {row : Option Nat} (h : BB B w v l row) : ∃ a n c, v = .slice a n c ∧ Row w a c l ∧ l.length = n := by
  obtain ⟨a, c, h1, h2⟩ := h.row
  exact ⟨a, _, c, h1, h2, rfl⟩
/-- a buffer on its way, since the world X, whose first B blocks stay -/
structure PT (B : Nat) (X w : World) (v : Value) (l : List Nat) : Prop where
  bb : ∃ row, BB B w v l row
  below : Below B X w
theorem PT.step {B : Nat} {X w w' : World} {v v' : Value} {l l' : List Nat} {row row' : Option Nat} (hb : BB B w v l row) (h : Below B X w) (hB : B ≤ X.heap.size) (h1 : BB B w' v' l' row') (h2 : w.grownBy w' row) : PT B X w' v' l' :=
  ⟨⟨row', h1⟩, h.trans (below_of_grown h2 (Nat.le_trans hB h.size) (fun k hk => (hb.2.row_le k hk).1))⟩
theorem PT.ret {B : Nat} {X w w' : World} {v : Value} {l : List Nat} {row : Option Nat} {e : Ending} (hb : BB B w v l row) (h : Below B X w) (hB : B ≤ X.heap.size) {l' : List Nat} (hr : RetBB B w row l' e w') : ∃ v', e = .returned v' ∧ PT B X w' v' l' := by
  obtain ⟨v', row', rfl, h1, h2, _⟩ := hr
  exact ⟨v', rfl, PT.step hb h hB h1 h2⟩
theorem num_pt {B : Nat} {X w : World} {v : Value} {l : List Nat} (h : PT B X w v l) (hB : B ≤ X.heap.size) (n : Nat) (hn : n < 18446744073709551616) (hsm : l.length + 10 ≤ 140737488355328) :
    Calls Try.prog 34 #[v, .int .u64 n] w fun e w' => ∃ v', e = .returned v' ∧ PT B X w' v' (l ++ Cd.num n) := by
  obtain ⟨⟨row, hb⟩, h⟩ := h
  exact (num_any B v l row n w hb hn hsm).mono fun e w' hr => PT.ret hb h hB hr
theorem int_pt {B : Nat} {X w : World} {v : Value} {l : List Nat} (h : PT B X w v l) (hB : B ≤ X.heap.size) (m : Int) (h1 : -9223372036854775808 ≤ m) (h2 : m ≤ 9223372036854775807) (hsm : l.length + 10 ≤ 140737488355328) :
    Calls Try.prog 37 #[v, .int .i64 m] w fun e w' => ∃ v', e = .returned v' ∧ PT B X w' v' (l ++ Cd.num (Cd.uns m)) := by
  obtain ⟨⟨row, hb⟩, h⟩ := h
  exact (int_any B v l row m w hb h1 h2 hsm).mono fun e w' hr => PT.ret hb h hB hr
theorem text_pt {B : Nat} {X w : World} {v : Value} {l : List Nat} (h : PT B X w v l) (hB : B ≤ X.heap.size) (s : ByteArray) (hs : s.size ≤ 9223372036854775807) (hsm : l.length + 10 + s.size ≤ 140737488355328) :
    Calls Try.prog 36 #[v, .string s] w fun e w' => ∃ v', e = .returned v' ∧ PT B X w' v' (l ++ (Cd.num s.size ++ strL s)) := by
  obtain ⟨⟨row, hb⟩, h⟩ := h
  exact (text_any B v l row s w hb hs hsm).mono fun e w' hr => PT.ret hb h hB hr
def dotE (d : Dt.Dot) : List Nat := Cd.num d.1.1 ++ Cd.num d.1.2 ++ Cd.num d.2
theorem dotE_length (d : Dt.Dot) : (dotE d).length ≤ 30 := by
  unfold dotE; simp only [List.length_append]
  have := (Cd.num_len d.1.1).2; have := (Cd.num_len d.1.2).2; have := (Cd.num_len d.2).2; omega
def txtE (s : ByteArray) : List Nat := Cd.num s.size ++ strL s
theorem txtE_length (s : ByteArray) : (txtE s).length ≤ 10 + s.size := by
  unfold txtE; rw [List.length_append, strL_length]; have := (Cd.num_len s.size).2; omega
/-- of the first k: -/
def upE {α : Type} (f : α → List Nat) (l : List α) (k : Nat) : List Nat := (l.take k).flatMap f
theorem upE_zero {α : Type} (f : α → List Nat) (l : List α) : upE f l 0 = [] := by simp [upE]
theorem upE_succ {α : Type} {f : α → List Nat} {l : List α} {k : Nat} {d : α} (hd : l[k]? = some d) : upE f l (k + 1) = upE f l k ++ f d := by
  unfold upE
  obtain ⟨hk, rfl⟩ := List.getElem?_eq_some_iff.1 hd
  rw [List.take_succ_eq_append_getElem hk, List.flatMap_append]; simp
theorem upE_all {α : Type} (f : α → List Nat) {l : List α} {k : Nat} (h : l.length ≤ k) : upE f l k = l.flatMap f := by unfold upE; rw [List.take_of_length_le h]
theorem upE_length {α : Type} {f : α → List Nat} {l : List α} {m : Nat} (h : ∀ d ∈ l, (f d).length ≤ m) (k : Nat) : (upE f l k).length ≤ k * m := by
  induction k with
  | zero => simp [upE]
  | succ k ih =>
    by_cases hk : k < l.length
    · rw [upE_succ (List.getElem?_eq_getElem hk), List.length_append]
      have := h _ (List.getElem_mem hk)
      rw [Nat.succ_mul]; omega
    · have e : upE f l (k + 1) = upE f l k := by unfold upE; rw [List.take_of_length_le (by omega), List.take_of_length_le (by omega)]
      rw [e, Nat.succ_mul]; omega
end Go.Proofs.Ytpkfjgoimaomfaa
