import Derived.Test.YtplafpchgfjomaaZBytes
import Derived.Test.YtplafpchgfjomaaZBuf
namespace Go.Proofs.Ytplafpchgfjomaa
open Go.RowKit
def VRow (w : World) (a : Option Addr) (cap : Nat) (l : List Dt.Dot) : Prop :=
 l.length ≤ cap ∧ cap ≤ 9223372036854775807 ∧ (∀ d ∈ l, Dt.okD d) ∧ (a = none → cap = 0) ∧
 ∀ i d, l[i]? = some d → ∃ p, a = some p ∧ w.cell? (p.add (i * 3)) = some (.int .u8 (d.1.1 : Int)) ∧ w.cell? (p.add (i * 3 + 1)) = some (.int .u32 (d.1.2 : Int)) ∧ w.cell? (p.add (i * 3 + 2)) = some (.int .u64 (d.2 : Int))
theorem VRow.le {w : World} {a : Option Addr} {cap : Nat} {l : List Dt.Dot} (h : VRow w a cap l) : l.length ≤ cap := h.1
theorem VRow.cap {w : World} {a : Option Addr} {cap : Nat} {l : List Dt.Dot} (h : VRow w a cap l) : cap ≤ 9223372036854775807 := h.2.1
theorem VRow.ok {w : World} {a : Option Addr} {cap : Nat} {l : List Dt.Dot} (h : VRow w a cap l) : ∀ d ∈ l, Dt.okD d := h.2.2.1
theorem VRow.below {w w' : World} {a : Option Addr} {cap : Nat} {l : List Dt.Dot} (h : VRow w a cap l) (hb : Below w.heap.size w w') : VRow w' a cap l := by
 refine ⟨h.1, h.2.1, h.2.2.1, h.2.2.2.1, fun i d hd => ?_⟩
 obtain ⟨p, hp, h1, h2, h3⟩ := h.2.2.2.2 i d hd
 refine ⟨p, hp, ?_, ?_, ?_⟩
 ·exact (hb.cell (World.block_lt_of_cell? _ _ h1)).trans h1
 ·exact (hb.cell (World.block_lt_of_cell? _ _ h2)).trans h2
 ·exact (hb.cell (World.block_lt_of_cell? _ _ h3)).trans h3
theorem VRow.nil (w : World) : VRow w none 0 [] := ⟨by simp, by omega, by simp, by simp, by simp⟩
theorem VRow.at {w : World} {a : Option Addr} {cap : Nat} {l : List Dt.Dot} (h : VRow w a cap l) (hl : 0 < l.length) :
  ∃ b off, a = some ⟨b, off, none⟩ ∧ b < w.heap.size ∧ ∀ i d, l[i]? = some d → w.cell? ⟨b, off + i * 3, none⟩ = some (.int .u8 (d.1.1 : Int)) ∧ w.cell? ⟨b, off + i * 3 + 1, none⟩ = some (.int .u32 (d.1.2 : Int)) ∧ w.cell? ⟨b, off + i * 3 + 2, none⟩ = some (.int .u64 (d.2 : Int)) := by
 obtain ⟨p, hp, hc, _⟩ := h.2.2.2.2 0 l[0] (by simp [hl])
 have hs := World.cell?_spot hc
 obtain ⟨b, off, spot⟩ := p
 have hspot : spot = none := by simpa [Addr.add] using hs
 subst hspot
 refine ⟨b, off, hp, by simpa [Addr.add] using World.block_lt_of_cell? w _ hc, fun i d hd => ?_⟩
 obtain ⟨q, hq, h1, h2, h3⟩ := h.2.2.2.2 i d hd
 rw [hp] at hq
 obtain rfl := Option.some.inj hq
 rw [Addr.add_mid] at h1 h2 h3
 exact ⟨h1, by rw [← h2]; rfl, by rw [← h3]; rfl⟩
theorem getD_some {l : List Dt.Dot} {i : Nat} (hi : i < l.length) : ∃ d, l[i]? = some d := ⟨l[i], List.getElem?_eq_getElem hi⟩
def getF (a : Dt.Ac) (l : List Dt.Dot) (k : Nat) : Nat := Dt.get (l.take k) a
end Go.Proofs.Ytplafpchgfjomaa
/- Plain mathematics of layer 2: canonical numbers and their reading. No Go. -/
namespace Go.Proofs.Ytplafpchgfjomaa
namespace Cd
def numF : Nat → Nat → List Nat
 | 0, n => [n]
 | k + 1, n => if n < 128 then [n] else (n % 128 + 128) :: numF k (n / 128)
def num (n : Nat) : List Nat := numF 9 n
def ended (n i x : Nat) : Nat × Nat × Nat := if i = 9 ∧ 1 < x then (0, 0, 14) else if 0 < i ∧ x = 0 then (0, 0, 4) else (n, i + 1, 0)
def readF : Nat → Nat → Nat → List Nat → Nat × Nat × Nat
 | 0, _, _, _ => (0, 0, 14)
 | _ + 1, _, _, [] => (0, 0, 5)
 | f + 1, i, acc, x :: r => if x < 128 then ended (acc + x * 128 ^ i) i x else readF f (i + 1) (acc + (x - 128) * 128 ^ i) r
def rd (l : List Nat) : Nat × Nat × Nat := readF 10 0 0 l
theorem numF_len : ∀ k n, 1 ≤ (numF k n).length ∧ (numF k n).length ≤ k + 1 := by
 intro k
 induction k with
 | zero => intro n; simp [numF]
 | succ k ih =>
  intro n
  unfold numF
  split
  ·simp
  ·have := ih (n / 128); simp; omega
theorem num_len (n : Nat) : 1 ≤ (num n).length ∧ (num n).length ≤ 10 := numF_len 9 n
theorem readF_numF : ∀ k i n acc r, k + i = 9 → n < 2 * 128 ^ k → (0 < i → 0 < n) → readF (k + 1) i acc (numF k n ++ r) = (acc + n * 128 ^ i, i + (numF k n).length, 0) := by
 intro k
 induction k with
 | zero =>
  intro i n acc r hk hn hi
  simp only [numF, List.cons_append, List.nil_append, readF]
  have : n < 128 := by omega
  rw [if_pos this]
  unfold ended
  have h9 : i = 9 := by omega
  subst h9
  have := hi (by omega)
  have e : ¬ (9 = 9 ∧ 1 < n) := by omega
  have e2 : ¬ (0 < 9 ∧ n = 0) := by omega
  rw [if_neg e, if_neg e2]; rfl
 | succ k ih =>
  intro i n acc r hk hn hi
  unfold numF
  split
  ·rename_i hs
   simp only [List.cons_append, List.nil_append, readF]
   rw [if_pos hs]
   unfold ended
   have e : ¬ (i = 9 ∧ 1 < n) := by omega
   have e2 : ¬ (0 < i ∧ n = 0) := by omega
   rw [if_neg e, if_neg e2]; rfl
  ·rename_i hs
   simp only [List.cons_append, readF]
   rw [if_neg (by omega)]
   rw [Nat.pow_succ] at hn
   have h1 := ih (i + 1) (n / 128) (acc + (n % 128 + 128 - 128) * 128 ^ i) r (by omega) (by omega) (by omega)
   rw [h1]
   have e1 : n % 128 + 128 - 128 = n % 128 := by omega
   rw [e1, Nat.pow_succ]
   have e2 : n = 128 * (n / 128) + n % 128 := (Nat.div_add_mod n 128).symm
   have e3 : acc + n % 128 * 128 ^ i + n / 128 * (128 ^ i * 128) = acc + n * 128 ^ i := by
    conv => rhs; rw [e2]
    rw [Nat.add_mul, Nat.mul_comm (128 ^ i) 128, ← Nat.mul_assoc, Nat.mul_comm (n / 128) 128]
    omega
   rw [e3, List.length_cons, show i + 1 + (numF k (n / 128)).length = i + ((numF k (n / 128)).length + 1) from by omega]
theorem rd_num {n : Nat} (h : n < 18446744073709551616) (r : List Nat) : rd (num n ++ r) = (n, (num n).length, 0) := by
 have := readF_numF 9 0 n 0 r rfl (by omega) (by omega)
 simpa [rd, num] using this
theorem readF_cut : ∀ k i n acc m, k + i = 9 → m < (numF k n).length → readF (k + 1) i acc ((numF k n).take m) = (0, 0, 5) := by
 intro k
 induction k with
 | zero => intro i n acc m _ hm; simp [numF] at hm; subst hm; simp [readF]
 | succ k ih =>
  intro i n acc m hk hm
  unfold numF at hm ⊢
  split at hm
  ·rename_i hs; rw [if_pos hs]
   simp at hm; subst hm; simp [readF]
  ·rename_i hs; rw [if_neg hs]
   cases m with
   | zero => simp [readF]
   | succ m =>
    simp only [List.take_succ_cons, readF]
    rw [if_neg (by omega)]
    exact ih (i + 1) (n / 128) _ m (by omega) (by simpa using hm)
theorem rd_cut (n m : Nat) (h : m < (num n).length) : rd ((num n).take m) = (0, 0, 5) := readF_cut 9 0 n 0 m rfl h
theorem ended_size (n i x : Nat) : (ended n i x).2.1 ≤ i + 1 := by unfold ended; split <;> (try split) <;> simp
theorem readF_size : ∀ f i acc l, (readF f i acc l).2.1 ≤ i + l.length := by
 intro f
 induction f with
 | zero => intro i acc l; simp [readF]
 | succ f ih =>
  intro i acc l
  cases l with
  | nil => simp [readF]
  | cons x r =>
   simp only [readF]
   split
   ·have := ended_size (acc + x * 128 ^ i) i x; simp; omega
   ·have := ih (i + 1) (acc + (x - 128) * 128 ^ i) r; simp; omega
theorem rd_size (l : List Nat) : (rd l).2.1 ≤ l.length := by have := readF_size 10 0 0 l; simpa [rd] using this
theorem readF_size10 : ∀ f i acc l, i + f = 10 → (readF f i acc l).2.1 ≤ 10 := by
 intro f
 induction f with
 | zero => intro i acc l _; simp [readF]
 | succ f ih =>
  intro i acc l h
  cases l with
  | nil => simp [readF]
  | cons x r =>
   simp only [readF]
   split
   ·have := ended_size (acc + x * 128 ^ i) i x; omega
   ·exact ih (i + 1) _ r (by omega)
theorem readF_lt : ∀ f i acc (l : List Nat), i + f = 10 → acc < 128 ^ i → (∀ x ∈ l, x < 256) → (readF f i acc l).1 < 18446744073709551616 := by
 intro f
 induction f with
 | zero => intro i acc l _ _ _; simp [readF]
 | succ f ih =>
  intro i acc l h ha hb
  cases l with
  | nil => simp [readF]
  | cons x r =>
   simp only [readF]
   split
   ·rename_i hx
    unfold ended
    split
    ·simp
    ·split
     ·simp
     ·rename_i h9 _
      show acc + x * 128 ^ i < _
      have hp : 128 ^ i ≤ 128 ^ 9 := Nat.pow_le_pow_right (by omega) (by omega)
      by_cases hi : i = 9
      ·subst hi
       have hx1 : x ≤ 1 := by omega
       have : x * 128 ^ 9 ≤ 1 * 128 ^ 9 := Nat.mul_le_mul_right _ hx1
       omega
      ·have hp8 : 128 ^ i ≤ 128 ^ 8 := Nat.pow_le_pow_right (by omega) (by omega)
       have : x * 128 ^ i ≤ 127 * 128 ^ i := Nat.mul_le_mul_right _ (by omega)
       omega
   ·rename_i hx
    by_cases hi : i = 9
    ·have : f = 0 := by omega
     subst this; simp [readF]
    ·have hx8 := hb x (by simp)
     refine ih (i + 1) _ r (by omega) ?_ (fun y hy => hb y (by simp [hy]))
     have : (x - 128) * 128 ^ i ≤ 127 * 128 ^ i := Nat.mul_le_mul_right _ (by omega)
     rw [Nat.pow_succ]; omega
theorem rd_lt {l : List Nat} (h : ∀ x ∈ l, x < 256) : (rd l).1 < 18446744073709551616 := readF_lt 10 0 0 l rfl (by decide) h
theorem rd_size10 (l : List Nat) : (rd l).2.1 ≤ 10 := readF_size10 10 0 0 l rfl
def uns (m : Int) : Nat := if m < 0 then (2 * (-m - 1) + 1).toNat else (2 * m).toNat
def sgn (n : Nat) : Int := if n % 2 = 1 then -(n / 2 : Nat) - 1 else (n / 2 : Nat)
theorem sgn_uns (m : Int) : sgn (uns m) = m := by
 unfold uns sgn
 split
 ·rw [if_pos (by omega)]; omega
 ·rw [if_neg (by omega)]; omega
theorem uns_lt {m : Int} (h1 : -9223372036854775808 ≤ m) (h2 : m ≤ 9223372036854775807) : uns m < 18446744073709551616 := by
 unfold uns; split <;> omega
def rdText (l : List Nat) (most : Int) : List Nat × Nat × Nat :=
 if (rd l).2.2 ≠ 0 then ([], 0, (rd l).2.2) else if (max most 0).toNat < (rd l).1 then ([], 0, 3) else if l.length - (rd l).2.1 < (rd l).1 then ([], 0, 5)
 else ((l.drop (rd l).2.1).take (rd l).1, (rd l).2.1 + (rd l).1, 0)
theorem rdText_text (s r : List Nat) (most : Int) (hm : (s.length : Int) ≤ most) (hs : s.length < 18446744073709551616) : rdText (num s.length ++ (s ++ r)) most = (s, (num s.length).length + s.length, 0) := by
 unfold rdText
 have h := rd_num hs (s ++ r)
 rw [h]
 simp only
 rw [if_neg (by simp), if_neg (by omega), if_neg (by simp)]
 simp
def frame (sum : List Nat → List Nat) (b : List Nat) : List Nat := (num b.length ++ b) ++ sum (num b.length ++ b)
def unframe (ends : List Nat → Bool) (l : List Nat) : List Nat × Nat × Nat :=
 if (rd l).2.2 ≠ 0 then ([], 0, (rd l).2.2) else if 1048576 < (rd l).1 then ([], 0, 3) else if l.length < (rd l).2.1 + (rd l).1 + 4 then ([], 0, 5)
 else if ends (l.take ((rd l).2.1 + (rd l).1 + 4)) then ((l.drop (rd l).2.1).take (rd l).1, (rd l).2.1 + (rd l).1 + 4, 0) else ([], 0, 6)
end Cd
end Go.Proofs.Ytplafpchgfjomaa
namespace Go.Proofs.Ytplafpchgfjomaa
open Go.RowKit Go.Buf
def BB (B : Nat) (w : World) (v : Value) (l : List Nat) (row : Option Nat) : Prop := (∀ x ∈ l, x < 256) ∧ Buf 5 1 B w v l.length (bytesV l) row
def RetBB (B : Nat) (w : World) (row : Option Nat) (l : List Nat) (e : Ending) (w' : World) : Prop := ∃ v row', e = .returned v ∧ BB B w' v l row' ∧ w.grownBy w' row ∧ New w row row'
theorem BB.nil {B : Nat} {w : World} (hB : B ≤ w.heap.size) : BB B w (.slice none 0 0) [] none := ⟨by simp, Buf.nil hB⟩
theorem src_row {w : World} {a : Option Addr} {n cap : Nat} {l : List Nat} (h : Row w a cap l) (hn : l.length = n) : Src Try.prog 1 26 (.slice a n cap) n (bytesV l) w := by
 cases a with
 | none =>
  have hc := h.2.2.2.1 rfl
  have hle := h.le
  have hl : l = [] := List.eq_nil_of_length_eq_zero (by omega)
  subst hl
  subst hn
  exact Src.ofNil w Try.underlying26 cap
 | some p => exact Src.ofSlice w Try.underlying26 p n cap (bytesV l) (by rw [bytesV_length, hn, Nat.mul_one]) (h.holds p rfl) (bytesV_one l)
def strL (s : ByteArray) : List Nat := s.data.toList.map UInt8.toNat
theorem strL_length (s : ByteArray) : (strL s).length = s.size := by simp [strL]
theorem strL_byte (s : ByteArray) : ∀ x ∈ strL s, x < 256 := by intro x hx; simp [strL] at hx; obtain ⟨a, _, rfl⟩ := hx; exact a.toNat_lt
theorem strB_strL (s : ByteArray) : strB (strL s) = s := by
 unfold strB strL
 cases s with
 | mk d =>
  congr 1
  apply Array.ext'
  simp only [List.map_map]
  conv => rhs; rw [← List.map_id d.toList]
  exact List.map_congr_left fun x _ => by simp
theorem strL_strB {l : List Nat} (h : ∀ x ∈ l, x < 256) : strL (strB l) = l := by
 unfold strB strL
 simp only [List.map_map]
 conv => rhs; rw [← List.map_id l]
 exact List.map_congr_left fun x hx => by have := h x hx; simp; omega
theorem src_str {w : World} (s : ByteArray) : Src Try.prog 1 9 (.string s) s.size (bytesV (strL s)) w := by
 have := Src.ofString (P := Try.prog) w Try.underlying9 s
 have e : byteCells s = bytesV (strL s) := by simp [byteCells, bytesV, strL]
 rw [e] at this; exact this
theorem BB.row {B : Nat} {w : World} {v : Value} {l : List Nat} {row : Option Nat} (h : BB B w v l row) : ∃ a c, v = .slice a l.length c ∧ Row w a c l := by
 obtain ⟨a, c, rfl, h1, h2, h3⟩ := h.2.shape
 refine ⟨a, c, rfl, h1, by unfold maxLen at h2; omega, h.1, h3, fun i x hx => ?_⟩
 cases a with
 | none =>
  have := h3 rfl
  have hi := (List.getElem?_eq_some_iff.1 hx).1
  omega
 | some p => exact ⟨p, rfl, h.2.cells p rfl i _ (by simp [bytesV, hx])⟩
theorem BB.base {B B' : Nat} {w : World} {v : Value} {l : List Nat} {row : Option Nat} (h : BB B w v l row) (hB : B' ≤ B) : BB B' w v l row := ⟨h.1, h.2.base hB⟩
theorem BB.alloc {B : Nat} {w : World} {v : Value} {l : List Nat} {row : Option Nat} (h : BB B w v l row) (o : Obj) : BB B (w.alloc o) v l row := ⟨h.1, h.2.kept (World.grownBy_alloc w o none) (Or.inl rfl)⟩
theorem BB.below {B : Nat} {w w' : World} {v : Value} {l : List Nat} {row : Option Nat} (h : BB B w v l row) (hb : Below w.heap.size w w') : BB B w' v l row := ⟨h.1, h.2.kept (grown_of_below (row := none) hb) (Or.inl rfl)⟩
theorem grown_alloc {w w' : World} {row : Option Nat} (o : Obj) (h : (w.alloc o).grownBy w' row) : w.grownBy w' row :=
 ⟨h.os, h.tape, h.output, Nat.le_trans (by simp) h.size, fun k hk hne => (h.block k (by simp; omega) hne).trans (Below.heap_alloc w o k hk)⟩
theorem new_alloc {w : World} {row row' : Option Nat} (o : Obj) (h : New (w.alloc o) row row') : New w row row' := by
 rcases h with h | ⟨k, hk, hl⟩
 ·exact Or.inl h
 ·exact Or.inr ⟨k, hk, by simp at hl; omega⟩
theorem wpList_append_bb {w : World} {ops : Array Oper} {rest : List Oper} {o : Oper} {ac : Act} {Q : Exit → Act → World → Prop} (hgd : o.guard = none) (s x : Operand) (tx : TypeId)
  (ho : o.op = .call { callee := .builtin .append, args := #[s, x], argTypes := #[26, tx] }) (B : Nat) (v : Value) (l : List Nat) (row : Option Nat) (hv : ac.eval s = v) (hb : BB B w v l row)
  (y : Value) (m : Nat) (l2 : List Nat) (hx : ac.eval x = y) (hs : Src Try.prog 1 tx y m (bytesV l2) w) (hm : l2.length = m) (hl2 : ∀ x ∈ l2, x < 256) (hsm : l.length + m ≤ 140737488355328)
  (h : ∀ v' w' row', BB B w' v' (l ++ l2) row' → w.grownBy w' row → New w row row' → wpList Try.prog ops Q rest (ac.put o.dst v') w') : wpList Try.prog ops Q (o :: rest) ac w := by
 obtain ⟨i0, hi, hz0, hz1, hz2⟩ := info_parts info5
 refine wpList_append_buf hgd s x 26 tx ho B 5 i0 (.int .u8 0) 1 1 Try.underlying26 hi hz0 hz1 hz2 rfl v l.length (bytesV l) row hv hb.2 y m (bytesV l2) hx hs (by unfold maxLen; omega) (by omega) ?_
 intro v' w' row' h1 h2 h3
 refine h v' w' row' ⟨?_, ?_⟩ h2 h3
 ·intro x hx
  rcases List.mem_append.1 hx with hx | hx
  ·exact hb.1 x hx
  ·exact hl2 x hx
 ·rw [bytesV_append, List.length_append, hm]; exact h1
theorem row_litE (w : World) (x : Nat) (z : Int) (hz : z = (x : Nat)) (hx : x < 256) : Row (w.alloc (.cells #[.int .u8 z] 5)) (some ⟨w.heap.size, 0, none⟩) 1 [x] := by
 subst hz
 refine row_of_block (heap_alloc_new w _) (fun y hy => by simp at hy; omega) 0 1 (by omega) (by simp) (fun i y hy => ?_)
 have hi : i < 1 := by have := (List.getElem?_eq_some_iff.1 hy).1; simpa using this
 obtain rfl : i = 0 := by omega
 simp at hy; subst hy; simp
theorem row_lit (w : World) (x : Nat) (z : Int) (hz : z = (x : Nat)) (hx : x < 256) : Src Try.prog 1 26 (.slice (some ⟨w.heap.size, 0, none⟩) 1 1) 1 (bytesV [x]) (w.alloc (.cells #[.int .u8 z] 5)) := src_row (row_litE w x z hz hx) rfl
theorem or128 (x : Nat) (hx : x < 256) : bits .or .u8 (x : Int) 128 = ((x % 128 + 128 : Nat) : Int) := by
 have h : ∀ x : Fin 256, bits .or .u8 ((x.val : Nat) : Int) 128 = ((x.val % 128 + 128 : Nat) : Int) := by decide +kernel
 exact h ⟨x, hx⟩
set_option maxRecDepth 100000 in
set_option maxHeartbeats 800000 in
theorem num_any (B : Nat) (v : Value) (l : List Nat) (row : Option Nat) (n : Nat) (w : World) (hb : BB B w v l row) (hn : n < 18446744073709551616) (hsm : l.length + 10 ≤ 140737488355328) :
  Calls Try.prog 19 #[v, .int .u64 n] w (RetBB B w row (l ++ Cd.num n)) := by
 have Hb := Lib.hid hb; clear hb
 go_enter Try.func19, Try.ntmps19
 go_wp2
 go_loopw [0, 1] (fun u i wr => ∃ (q k : Nat) (pre : List Nat) (r1 : Option Nat), i = .int .u64 q ∧ q < 18446744073709551616 ∧ BB B wr u (l ++ pre) r1 ∧ w.grownBy wr row ∧ New w row r1 ∧ pre ++ Cd.numF k q = Cd.num n ∧ q < 2 * 128 ^ k ∧ pre.length + k = 9) (fun _ i _ => (intOf i).toNat)
 case atStart => exact ⟨n, 9, [], row, rfl, hn, by simpa using Hb.out, grown_refl w row, New.refl w row, rfl, by omega, rfl⟩
 case round =>
  obtain ⟨q, k, pre, r1, rfl, hq, hbb, hg, hnw, hpre, hqk, hpk⟩ := hrel
  have Hbb := Lib.hid hbb; have Hg := Lib.hid hg; have Hnw := Lib.hid hnw; have Hpre := Lib.hid hpre; have Hqk := Lib.hid hqk; have Hpk := Lib.hid hpk
  clear hbb hg hnw hpre hqk hpk
  by_cases hlt : 128 ≤ q
  ·have hor := or128 (q % 256) (Nat.mod_lt _ (by omega))
   have e1 : q % 256 % 128 = q % 128 := by omega
   have e2 : ((q % 256 : Nat) : Int) = (q : Int) % 256 := by omega
   rw [e1, e2] at hor
   have Hor := Lib.hid hor; clear hor e1 e2
   have hlen : (l ++ pre).length + 1 ≤ 140737488355328 := by have := Hpk.out; simp; omega
   have hx8 : q % 128 + 128 < 256 := by omega
   go_wp2_with (refine wpList_append_bb rfl (.tmp 7) (.tmp 11) 26 rfl B _ (l ++ pre) r1 rfl (Hbb.out.alloc _) _ 1 [q % 128 + 128] rfl (row_lit wr _ _ Hor.out hx8) rfl (by simp; omega) hlen ?_; intro v' w3 row3 h1 h2 h3)
   have H1 := Lib.hid h1; have H2 := Lib.hid (grown_alloc _ h2); have H3 := Lib.hid (new_alloc _ h3)
   clear h1 h2 h3
   go_wp2_with fail
   have hk : k ≠ 0 := by intro e; have := Hqk.out; subst e; simp at this; omega
   obtain ⟨k', rfl⟩ := Nat.exists_eq_succ_of_ne_zero hk
   refine ⟨⟨q / 128, k', pre ++ [q % 128 + 128], row3, by simp, by omega, by rw [← List.append_assoc]; exact H1.out, grown_trans Hg.out H2.out Hnw.out, Hnw.out.trans H3.out Hg.out.size, ?_, ?_, ?_⟩, ?_⟩
   ·rw [← Hpre.out]
    have : ¬ q < 128 := by omega
    simp [Cd.numF, this]
   ·have := Hqk.out
    rw [Nat.pow_succ] at this; omega
   ·have := Hpk.out
    simp; omega
   ·simp [intOf]; omega
  ·have hq8 : q < 128 := by omega
   have e1 : (q : Int) % 256 = (q : Int) := by omega
   have hfin : (l ++ pre) ++ [q] = l ++ Cd.num n := by
    rw [← Hpre.out, List.append_assoc]
    have : Cd.numF k q = [q] := by cases k <;> simp [Cd.numF, hq8]
    rw [this]
   have hlen : (l ++ pre).length + 1 ≤ 140737488355328 := by have := Hpk.out; simp; omega
   have Hfin := Lib.hid hfin; clear hfin
   have E1 := Lib.hid e1; clear e1
   go_wp2_with (refine wpList_append_bb rfl (.tmp 15) (.tmp 18) 26 rfl B _ (l ++ pre) r1 rfl (Hbb.out.alloc _) _ 1 [q] rfl (row_lit wr q _ (by omega) (by omega)) rfl (by simp; omega) hlen ?_; intro v' w3 row3 h1 h2 h3)
   rw [Hfin.out] at h1
   have H1 := Lib.hid h1; have H2 := Lib.hid (grown_alloc _ h2); have H3 := Lib.hid (new_alloc _ h3)
   clear h1 h2 h3
   go_wp2_with fail
   go_ret
   exact ⟨v', row3, rfl, H1.out, grown_trans Hg.out H2.out Hnw.out, Hnw.out.trans H3.out Hg.out.size⟩
end Go.Proofs.Ytplafpchgfjomaa
namespace Go.Proofs.Ytplafpchgfjomaa
open Go.RowKit Go.Buf
theorem i64_not_all (m : Int) (h1 : -9223372036854775808 ≤ m) (h2 : m ≤ 9223372036854775807) : bits .xor .i64 (-1) m = -1 - m := by
 show IntKind.i64.wrap ((BitVec.ofInt 64 (-1) ^^^ BitVec.ofInt 64 m).toNat : Int) = _
 have h3 : BitVec.ofInt 64 (-1) = BitVec.allOnes 64 := by decide
 rw [h3, BitVec.allOnes_xor, BitVec.toNat_not, BitVec.toNat_ofInt]
 simp [IntKind.wrap, IntKind.bits, IntKind.signed]
 omega
theorem u64_or_one (x : Nat) (h : 2 * x + 1 < 18446744073709551616) : bits .or .u64 ((2 * x : Nat) : Int) 1 = ((2 * x + 1 : Nat) : Int) := by
 have h1 := u64_or_nat (2 * x) 1 (by omega) (by omega)
 rw [nat_join 1 (2 * x) 1 (by omega) (by omega)] at h1
 exact h1
theorem u64_and_one (x : Nat) (h : x < 18446744073709551616) : bits .and .u64 (x : Int) 1 = ((x % 2 : Nat) : Int) := by
 have h1 := u64_and_nat x 1 h (by omega)
 rw [nat_mask1] at h1; exact h1
set_option maxHeartbeats 400000 in
theorem unsigned_any (m : Int) (w : World) (h1 : -9223372036854775808 ≤ m) (h2 : m ≤ 9223372036854775807) :
  Calls Try.prog 34 #[.int .i64 m] w fun e w' => e = .returned (.int .u64 (Cd.uns m : Nat)) ∧ w = w' := by
 by_cases hm : m < 0
 ·obtain ⟨x, rfl⟩ : ∃ x : Nat, m = -1 - (x : Int) := ⟨(-1 - m).toNat, by omega⟩
  have e1 := i64_not_all (-1 - (x : Int)) h1 h2
  have e2 : -1 - (-1 - (x : Int)) = (x : Int) := by omega
  rw [e2] at e1
  have e3 : IntKind.u64.wrap (IntKind.u64.wrap (x : Int) * 2) = ((2 * x : Nat) : Int) := by simp [IntKind.wrap, IntKind.bits, IntKind.signed]; omega
  have e4 := u64_or_one x (by omega)
  have hu : Cd.uns (-1 - (x : Int)) = 2 * x + 1 := by unfold Cd.uns; rw [if_pos hm]; omega
  have H1 := Lib.hid e1; have H3 := Lib.hid e3; have H4 := Lib.hid e4; have HU := Lib.hid hu
  clear e1 e2 e3 e4 hu
  go_enter Try.func34, Try.ntmps34
  go_wp2
  go_ret
  exact ⟨ret_int (by rw [H1.out, H3.out, H4.out, HU.out]), rfl⟩
 ·have hm' : 0 ≤ m := by omega
  have hu : Cd.uns m = (2 * m).toNat := by unfold Cd.uns; rw [if_neg hm]
  have HU := Lib.hid hu; clear hu
  go_enter Try.func34, Try.ntmps34
  go_wp2
  go_ret
  exact ⟨ret_int (by rw [HU.out]; omega), rfl⟩
set_option maxHeartbeats 400000 in
theorem signed_any (n : Nat) (w : World) (h1 : n < 18446744073709551616) :
  Calls Try.prog 57 #[.int .u64 n] w fun e w' => e = .returned (.int .i64 (Cd.sgn n)) ∧ w = w' := by
 have e1 := u64_and_one n h1
 have e2 := i64_not_all (n / 2 : Nat) (by omega) (by omega)
 have e3 : ((n / 2 : Nat) : Int) = (n : Int) / 2 := by omega
 rw [e3] at e2
 by_cases hm : n % 2 = 1
 ·have ht : (bits .and .u64 (n : Int) 1 == 1) = true := by rw [e1, hm]; rfl
  have hs : Cd.sgn n = -(n / 2 : Nat) - 1 := by unfold Cd.sgn; rw [if_pos hm]
  have H2 := Lib.hid e2; have HS := Lib.hid hs
  clear e1 e2 e3 hs hm
  go_enter Try.func57, Try.ntmps57
  go_wp2
  go_ret
  exact ⟨ret_int (by rw [H2.out, HS.out]; omega), rfl⟩
 ·have ht : (bits .and .u64 (n : Int) 1 == 1) = false := by rw [e1, show n % 2 = 0 from by omega]; rfl
  have hs : Cd.sgn n = (n / 2 : Nat) := by unfold Cd.sgn; rw [if_neg hm]
  have HS := Lib.hid hs
  clear e1 e2 e3 hs hm
  go_enter Try.func57, Try.ntmps57
  go_wp2
  go_ret
  exact ⟨ret_int (by rw [HS.out]; omega), rfl⟩
def num3 (r : Nat × Nat × Nat) : Value := .tuple #[.int .u64 (r.1 : Nat), .int .i64 (r.2.1 : Nat), .int .i64 (r.2.2 : Nat)]
theorem ret3 {n m k : Nat} {r : Nat × Nat × Nat} (h : r = (n, m, k)) {a b c : Int} (ha : a = n) (hb : b = m) (hc : c = k) : Ending.returned (.tuple #[.int .u64 a, .int .i64 b, .int .i64 c]) = .returned (num3 r) := by
 subst h; subst ha; subst hb; subst hc; rfl
set_option maxHeartbeats 400000 in
theorem ended_any (n i x : Nat) (w : World) (hi : i < 10) (hx : x < 256) :
  Calls Try.prog 56 #[.int .u64 n, .int .i64 i, .int .u8 x] w fun e w' => e = .returned (num3 (Cd.ended n i x)) ∧ w = w' := by
 by_cases h9 : i = 9
 ·subst h9
  by_cases h1 : 1 < x
  ·have hr : Cd.ended n 9 x = (0, 0, 14) := by unfold Cd.ended; rw [if_pos ⟨rfl, h1⟩]
   have HR := Lib.hid hr; clear hr
   go_enter Try.func56, Try.ntmps56
   go_wp2
   go_ret3
   exact ⟨ret3 HR.out rfl rfl rfl, rfl⟩
  ·by_cases h0 : x = 0
   ·subst h0
    go_enter Try.func56, Try.ntmps56
    go_wp2
    go_ret3
    exact ⟨rfl, rfl⟩
   ·obtain rfl : x = 1 := by omega
    have hr : Cd.ended n 9 1 = (n, 10, 0) := by unfold Cd.ended; rw [if_neg (by omega), if_neg (by omega)]
    have HR := Lib.hid hr; clear hr
    go_enter Try.func56, Try.ntmps56
    go_wp2
    go_ret3
    exact ⟨ret3 HR.out rfl rfl rfl, rfl⟩
 ·have t9 : ((i : Int) == 9) = false := by simp; omega
  by_cases h0 : 0 < i ∧ x = 0
  ·obtain ⟨hp, rfl⟩ := h0
   have hr : Cd.ended n i 0 = (0, 0, 4) := by unfold Cd.ended; rw [if_neg (by omega), if_pos ⟨hp, rfl⟩]
   have HR := Lib.hid hr; clear hr h9
   go_enter Try.func56, Try.ntmps56
   go_wp2
   go_ret3
   exact ⟨ret3 HR.out rfl rfl rfl, rfl⟩
  ·have hr : Cd.ended n i x = (n, i + 1, 0) := by unfold Cd.ended; rw [if_neg (by omega), if_neg h0]
   have HR := Lib.hid hr; clear hr h9
   by_cases hp : 0 < i
   ·have tx : ((x : Int) == 0) = false := by simp; omega
    clear h0
    go_enter Try.func56, Try.ntmps56
    go_wp2
    go_ret3
    exact ⟨ret3 HR.out rfl (by simp) rfl, rfl⟩
   ·obtain rfl : i = 0 := by omega
    clear h0 hp t9
    go_enter Try.func56, Try.ntmps56
    go_wp2
    go_ret3
    exact ⟨ret3 HR.out rfl rfl rfl, rfl⟩
end Go.Proofs.Ytplafpchgfjomaa
