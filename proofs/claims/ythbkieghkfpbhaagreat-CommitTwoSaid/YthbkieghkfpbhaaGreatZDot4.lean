import Derived.Test.YthbkieghkfpbhaaGreatZBytes
import Derived.Test.YthbkieghkfpbhaaGreatZBuf
namespace Go.Proofs.YthbkieghkfpbhaaGreat
open Go.RowKit
def VRow (w : World) (a : Option Addr) (cap : Nat) (l : List Dt.Dot) : Prop :=
 l.length ≤ cap ∧ cap ≤ 9223372036854775807 ∧ (∀ d ∈ l, Dt.okD d) ∧ (a = none → cap = 0) ∧
 ∀ i d, l[i]? = some d → ∃ p, a = some p ∧ w.cell? (p.add (i * 3)) = some (.int .u8 (d.1.1 : Int)) ∧ w.cell? (p.add (i * 3 + 1)) = some (.int .u32 (d.1.2 : Int)) ∧ w.cell? (p.add (i * 3 + 2)) = some (.int .u64 (d.2 : Int))
theorem VRow.le {w : World} {a : Option Addr} {cap : Nat} {l : List Dt.Dot} (h : VRow w a cap l) : l.length ≤ cap := h.1
theorem VRow.cap {w : World} {a : Option Addr} {cap : Nat} {l : List Dt.Dot} (h : VRow w a cap l) : cap ≤ 9223372036854775807 := h.2.1
theorem VRow.ok {w : World} {a : Option Addr} {cap : Nat} {l : List Dt.Dot} (h : VRow w a cap l) : ∀ d ∈ l, Dt.okD d := h.2.2.1
theorem VRow.below {w w' : World} {a : Option Addr} {cap : Nat} {l : List Dt.Dot} (h : VRow w a cap l) (hb : Below w.heap.size w w') : VRow w' a cap l := by
 refine ⟨h.1, h.2.1, h.2.2.1, h.2.2.2.1, fun i d hd => ?_⟩
 obtain ⟨p, hp, h1, h2, h3⟩ := h.2.2.2.2 i d hd
 refine ⟨p, hp, ?_, ?_, ?_⟩
 ·exact (hb.cell (World.block_lt_of_cell? _ _ h1)).trans h1
 ·exact (hb.cell (World.block_lt_of_cell? _ _ h2)).trans h2
 ·exact (hb.cell (World.block_lt_of_cell? _ _ h3)).trans h3
theorem VRow.nil (w : World) : VRow w none 0 [] := ⟨by simp, by omega, by simp, by simp, by simp⟩
theorem VRow.at {w : World} {a : Option Addr} {cap : Nat} {l : List Dt.Dot} (h : VRow w a cap l) (hl : 0 < l.length) :
  ∃ b off, a = some ⟨b, off, none⟩ ∧ b < w.heap.size ∧ ∀ i d, l[i]? = some d → w.cell? ⟨b, off + i * 3, none⟩ = some (.int .u8 (d.1.1 : Int)) ∧ w.cell? ⟨b, off + i * 3 + 1, none⟩ = some (.int .u32 (d.1.2 : Int)) ∧ w.cell? ⟨b, off + i * 3 + 2, none⟩ = some (.int .u64 (d.2 : Int)) := by
 obtain ⟨p, hp, hc, _⟩ := h.2.2.2.2 0 l[0] (by simp [hl])
 have hs := World.cell?_spot hc
 obtain ⟨b, off, spot⟩ := p
 have hspot : spot = none := by simpa [Addr.add] using hs
 subst hspot
 refine ⟨b, off, hp, by simpa [Addr.add] using World.block_lt_of_cell? w _ hc, fun i d hd => ?_⟩
 obtain ⟨q, hq, h1, h2, h3⟩ := h.2.2.2.2 i d hd
 rw [hp] at hq
 obtain rfl := Option.some.inj hq
 rw [Addr.add_mid] at h1 h2 h3
 exact ⟨h1, by rw [← h2]; rfl, by rw [← h3]; rfl⟩
theorem getD_some {l : List Dt.Dot} {i : Nat} (hi : i < l.length) : ∃ d, l[i]? = some d := ⟨l[i], List.getElem?_eq_getElem hi⟩
set_option maxHeartbeats 400000 in
theorem getClosure (b : Nat) (a : Dt.Ac) (n : Nat) (d : Dt.Dot) (w : World) (hm : Dt.may d = true) (h0 : w.cell? ⟨b, 0, none⟩ = some (.int .u8 (a.1 : Int))) (h1 : w.cell? ⟨b, 1, none⟩ = some (.int .u32 (a.2 : Int))) :
  Calls Tryz.prog 68 #[.int .u64 (n : Int), dotV d, .pointer (some ⟨b, 0, none⟩)] w fun e w' => e = .returned (.int .u64 (Dt.getStep a n d : Nat)) ∧ Below w.heap.size w w' := by
 obtain ⟨⟨r, i⟩, s⟩ := d
 obtain ⟨r', i'⟩ := a
 have hb := World.block_lt_of_cell? _ _ h0
 simp only at hb h0 h1
 by_cases e1 : r = r'
 ·subst e1
  by_cases e2 : i = i'
  ·subst e2
   go_enter Tryz.func68, Tryz.ntmps68
   go_wp2
   all_goals
    go_ret
    exact ⟨ret_int (by simp only [Dt.getStep, hm]; simp; try omega), (Below.refl _ _).alloc (Nat.le_refl _) _⟩
  ·have d1 : ((i : Int) == (i' : Int)) = false := by simp; omega
   go_enter Tryz.func68, Tryz.ntmps68
   go_wp2
   go_ret
   exact ⟨ret_int (by simp [Dt.getStep, e2]), (Below.refl _ _).alloc (Nat.le_refl _) _⟩
 ·have d1 : ((r : Int) == (r' : Int)) = false := by simp; omega
  go_enter Tryz.func68, Tryz.ntmps68
  go_wp2
  go_ret
  exact ⟨ret_int (by simp [Dt.getStep, e1]), (Below.refl _ _).alloc (Nat.le_refl _) _⟩
def getF (a : Dt.Ac) (l : List Dt.Dot) (k : Nat) : Nat := Dt.get (l.take k) a
theorem getF_succ {a : Dt.Ac} {l : List Dt.Dot} {k : Nat} {d : Dt.Dot} (hd : l[k]? = some d) : getF a l (k + 1) = Dt.getStep a (getF a l k) d := by
 unfold getF
 obtain ⟨hk, rfl⟩ := List.getElem?_eq_some_iff.1 hd
 rw [List.take_succ_eq_append_getElem hk, Dt.get_snoc]
theorem getStep_not {a : Dt.Ac} {n : Nat} {d : Dt.Dot} (h : Dt.may d = false) : Dt.getStep a n d = n := by simp [Dt.getStep, h]
set_option maxRecDepth 100000 in
set_option maxHeartbeats 1600000 in
theorem throughU (a : Option Addr) (n cap b : Nat) (c : Dt.Ac) (l : List Dt.Dot) (w : World) (hr : VRow w a cap l) (hl : l.length = n) (h0 : w.cell? ⟨b, 0, none⟩ = some (.int .u8 (c.1 : Int))) (h1 : w.cell? ⟨b, 1, none⟩ = some (.int .u32 (c.2 : Int))) :
  Calls Tryz.prog 67 #[.slice a n cap, .int .u64 0, .func (.func 68) #[] #[.pointer (some ⟨b, 0, none⟩)]] w fun e w' => e = .returned (.int .u64 (Dt.get l c : Nat)) ∧ Below w.heap.size w w' := by
 have hle := hr.le
 have hcap := hr.cap
 have hb := World.block_lt_of_cell? _ _ h0
 have HR := Lib.hid hr; have HL := Lib.hid hl; have H0 := Lib.hid h0; have H1 := Lib.hid h1; have HB := Lib.hid hb
 rw [hl] at hle
 clear hr hl h0 h1 hb
 go_enter Tryz.func67, Tryz.ntmps67
 go_wp2
 go_loopw [1, 8, 11] (fun u _ i wr => ∃ k : Nat, k ≤ n ∧ i = .int .i64 k ∧ u = .int .u64 (getF c l k : Nat) ∧ Below w.heap.size w wr) (fun _ _ i _ => n - (intOf i).toNat)
 case atStart => exact ⟨0, Nat.zero_le _, rfl, rfl, Below.refl _ _⟩
 case round =>
  obtain ⟨k, hk, rfl, rfl, hbel⟩ := hrel
  have HBel := Lib.hid hbel; clear hbel
  by_cases hlt : k < n
  ·obtain ⟨d, hd⟩ := getD_some (l := l) (i := k) (by rw [HL.out]; exact hlt)
   obtain ⟨blk, off, rfl, hblk, hcells⟩ := HR.out.at (by rw [HL.out]; omega)
   obtain ⟨g0, g1, g2⟩ := hcells k d hd
   have q0 := (HBel.out.cell (p := ⟨blk, off + k * 3, none⟩) hblk).trans g0
   have q1 := (HBel.out.cell (p := ⟨blk, off + k * 3 + 1, none⟩) hblk).trans g1
   have q2 := (HBel.out.cell (p := ⟨blk, off + k * 3 + 2, none⟩) hblk).trans g2
   have Hs := Lib.hid (getF_succ (a := c) hd)
   obtain ⟨⟨r, i⟩, s⟩ := d
   simp only at q0 q1 q2
   clear hcells g0 g1 g2 hd
   cases hm : Dt.may ((r, i), s)
   ·have Hf := Lib.hid (getStep_not (a := c) (n := getF c l k) hm)
    go_wp2_with fail
    refine (may_any r i s _).mono ?_
    rintro e w1 ⟨rfl, hb⟩
    go_wp2_with fail
    clear q0 q1 q2
    go_roundw
    case rel => exact ⟨k + 1, by omega, by go_num, by rw [Hs.out, Hf.out], HBel.out.trans (((Below.refl _ _).alloc HBel.out.size _).trans (hb.mono (by have := HBel.out.size; simp; omega)))⟩
    case measure => simp [intOf]; omega
   ·go_wp2_with fail
    refine (may_any r i s _).mono ?_
    rintro e w1 ⟨rfl, hb⟩
    obtain ⟨hc, hf⟩ := bcell hb
    have hb2 : Below w.heap.size w w1 := HBel.out.trans (((Below.refl _ _).alloc HBel.out.size _).trans (hb.mono (by have := HBel.out.size; simp; omega)))
    have c0 := (hb2.cell (p := ⟨b, 0, none⟩) HB.out).trans H0.out
    have c1 := (hb2.cell (p := ⟨b, 1, none⟩) HB.out).trans H1.out
    have Hb := Lib.hid hb2; have C0 := Lib.hid c0; have C1 := Lib.hid c1
    clear hb2 c0 c1
    go_wp2_with fail
    refine (getClosure b c (getF c l k) ((r, i), s) _ hm C0.out C1.out).mono ?_
    rintro e w2 ⟨rfl, hb3⟩
    clear hc hf q0 q1 q2
    go_wp2_with fail
    go_roundw
    case rel => exact ⟨k + 1, by omega, by go_num, by rw [Hs.out], Hb.out.trans (hb3.mono Hb.out.size)⟩
    case measure => simp [intOf]; omega
  ·have hfin : getF c l k = Dt.get l c := by
    show Dt.get (l.take k) c = Dt.get l c
    rw [List.take_of_length_le (by rw [HL.out]; omega)]
   have Hfin := Lib.hid hfin; clear hfin
   go_wp2
   go_ret
   exact ⟨ret_int (by rw [Hfin.out]), HBel.out⟩
set_option maxHeartbeats 400000 in
theorem get_any (a : Option Addr) (n cap : Nat) (r i : Nat) (l : List Dt.Dot) (w : World) (hr : VRow w a cap l) (hl : l.length = n) :
  Calls Tryz.prog 43 #[.slice a n cap, acV (r, i)] w fun e w' => e = .returned (.int .u64 (Dt.get l (r, i) : Nat)) ∧ Below w.heap.size w w' := by
 have HR := Lib.hid hr; have HL := Lib.hid hl
 clear hr hl
 go_enter Tryz.func43, Tryz.ntmps43
 go_wp2_with fail
 refine (throughU a n cap w.heap.size (r, i) l _ (HR.out.below ((Below.refl _ _).alloc (Nat.le_refl _) _)) HL.out (by simp) (by simp)).mono ?_
 rintro e w1 ⟨rfl, hb⟩
 go_wp2_with fail
 go_ret
 exact ⟨rfl, ((Below.refl _ _).alloc (Nat.le_refl _) _).trans (hb.mono (by simp))⟩
end Go.Proofs.YthbkieghkfpbhaaGreat
/- Plain mathematics of layer 2: canonical numbers and their reading. No Go. -/
namespace Go.Proofs.YthbkieghkfpbhaaGreat
namespace Cd
def numF : Nat → Nat → List Nat
 | 0, n => [n]
 | k + 1, n => if n < 128 then [n] else (n % 128 + 128) :: numF k (n / 128)
def num (n : Nat) : List Nat := numF 9 n
def ended (n i x : Nat) : Nat × Nat × Nat := if i = 9 ∧ 1 < x then (0, 0, 14) else if 0 < i ∧ x = 0 then (0, 0, 4) else (n, i + 1, 0)
def readF : Nat → Nat → Nat → List Nat → Nat × Nat × Nat
 | 0, _, _, _ => (0, 0, 14)
 | _ + 1, _, _, [] => (0, 0, 5)
 | f + 1, i, acc, x :: r => if x < 128 then ended (acc + x * 128 ^ i) i x else readF f (i + 1) (acc + (x - 128) * 128 ^ i) r
def rd (l : List Nat) : Nat × Nat × Nat := readF 10 0 0 l
theorem numF_len : ∀ k n, 1 ≤ (numF k n).length ∧ (numF k n).length ≤ k + 1 := by
 intro k
 induction k with
 | zero => intro n; simp [numF]
 | succ k ih =>
  intro n
  unfold numF
  split
  ·simp
  ·have := ih (n / 128); simp; omega
theorem num_len (n : Nat) : 1 ≤ (num n).length ∧ (num n).length ≤ 10 := numF_len 9 n
theorem readF_numF : ∀ k i n acc r, k + i = 9 → n < 2 * 128 ^ k → (0 < i → 0 < n) → readF (k + 1) i acc (numF k n ++ r) = (acc + n * 128 ^ i, i + (numF k n).length, 0) := by
 intro k
 induction k with
 | zero =>
  intro i n acc r hk hn hi
  simp only [numF, List.cons_append, List.nil_append, readF]
  have : n < 128 := by omega
  rw [if_pos this]
  unfold ended
  have h9 : i = 9 := by omega
  subst h9
  have := hi (by omega)
  have e : ¬ (9 = 9 ∧ 1 < n) := by omega
  have e2 : ¬ (0 < 9 ∧ n = 0) := by omega
  rw [if_neg e, if_neg e2]; rfl
 | succ k ih =>
  intro i n acc r hk hn hi
  unfold numF
  split
  ·rename_i hs
   simp only [List.cons_append, List.nil_append, readF]
   rw [if_pos hs]
   unfold ended
   have e : ¬ (i = 9 ∧ 1 < n) := by omega
   have e2 : ¬ (0 < i ∧ n = 0) := by omega
   rw [if_neg e, if_neg e2]; rfl
  ·rename_i hs
   simp only [List.cons_append, readF]
   rw [if_neg (by omega)]
   rw [Nat.pow_succ] at hn
   have h1 := ih (i + 1) (n / 128) (acc + (n % 128 + 128 - 128) * 128 ^ i) r (by omega) (by omega) (by omega)
   rw [h1]
   have e1 : n % 128 + 128 - 128 = n % 128 := by omega
   rw [e1, Nat.pow_succ]
   have e2 : n = 128 * (n / 128) + n % 128 := (Nat.div_add_mod n 128).symm
   have e3 : acc + n % 128 * 128 ^ i + n / 128 * (128 ^ i * 128) = acc + n * 128 ^ i := by
    conv => rhs; rw [e2]
    rw [Nat.add_mul, Nat.mul_comm (128 ^ i) 128, ← Nat.mul_assoc, Nat.mul_comm (n / 128) 128]
    omega
   rw [e3, List.length_cons, show i + 1 + (numF k (n / 128)).length = i + ((numF k (n / 128)).length + 1) from by omega]
theorem rd_num {n : Nat} (h : n < 18446744073709551616) (r : List Nat) : rd (num n ++ r) = (n, (num n).length, 0) := by
 have := readF_numF 9 0 n 0 r rfl (by omega) (by omega)
 simpa [rd, num] using this
theorem readF_cut : ∀ k i n acc m, k + i = 9 → m < (numF k n).length → readF (k + 1) i acc ((numF k n).take m) = (0, 0, 5) := by
 intro k
 induction k with
 | zero => intro i n acc m _ hm; simp [numF] at hm; subst hm; simp [readF]
 | succ k ih =>
  intro i n acc m hk hm
  unfold numF at hm ⊢
  split at hm
  ·rename_i hs; rw [if_pos hs]
   simp at hm; subst hm; simp [readF]
  ·rename_i hs; rw [if_neg hs]
   cases m with
   | zero => simp [readF]
   | succ m =>
    simp only [List.take_succ_cons, readF]
    rw [if_neg (by omega)]
    exact ih (i + 1) (n / 128) _ m (by omega) (by simpa using hm)
theorem rd_cut (n m : Nat) (h : m < (num n).length) : rd ((num n).take m) = (0, 0, 5) := readF_cut 9 0 n 0 m rfl h
theorem ended_size (n i x : Nat) : (ended n i x).2.1 ≤ i + 1 := by unfold ended; split <;> (try split) <;> simp
theorem readF_size : ∀ f i acc l, (readF f i acc l).2.1 ≤ i + l.length := by
 intro f
 induction f with
 | zero => intro i acc l; simp [readF]
 | succ f ih =>
  intro i acc l
  cases l with
  | nil => simp [readF]
  | cons x r =>
   simp only [readF]
   split
   ·have := ended_size (acc + x * 128 ^ i) i x; simp; omega
   ·have := ih (i + 1) (acc + (x - 128) * 128 ^ i) r; simp; omega
theorem rd_size (l : List Nat) : (rd l).2.1 ≤ l.length := by have := readF_size 10 0 0 l; simpa [rd] using this
theorem readF_size10 : ∀ f i acc l, i + f = 10 → (readF f i acc l).2.1 ≤ 10 := by
 intro f
 induction f with
 | zero => intro i acc l _; simp [readF]
 | succ f ih =>
  intro i acc l h
  cases l with
  | nil => simp [readF]
  | cons x r =>
   simp only [readF]
   split
   ·have := ended_size (acc + x * 128 ^ i) i x; omega
   ·exact ih (i + 1) _ r (by omega)
theorem readF_lt : ∀ f i acc (l : List Nat), i + f = 10 → acc < 128 ^ i → (∀ x ∈ l, x < 256) → (readF f i acc l).1 < 18446744073709551616 := by
 intro f
 induction f with
 | zero => intro i acc l _ _ _; simp [readF]
 | succ f ih =>
  intro i acc l h ha hb
  cases l with
  | nil => simp [readF]
  | cons x r =>
   simp only [readF]
   split
   ·rename_i hx
    unfold ended
    split
    ·simp
    ·split
     ·simp
     ·rename_i h9 _
      show acc + x * 128 ^ i < _
      have hp : 128 ^ i ≤ 128 ^ 9 := Nat.pow_le_pow_right (by omega) (by omega)
      by_cases hi : i = 9
      ·subst hi
       have hx1 : x ≤ 1 := by omega
       have : x * 128 ^ 9 ≤ 1 * 128 ^ 9 := Nat.mul_le_mul_right _ hx1
       omega
      ·have hp8 : 128 ^ i ≤ 128 ^ 8 := Nat.pow_le_pow_right (by omega) (by omega)
       have : x * 128 ^ i ≤ 127 * 128 ^ i := Nat.mul_le_mul_right _ (by omega)
       omega
   ·rename_i hx
    by_cases hi : i = 9
    ·have : f = 0 := by omega
     subst this; simp [readF]
    ·have hx8 := hb x (by simp)
     refine ih (i + 1) _ r (by omega) ?_ (fun y hy => hb y (by simp [hy]))
     have : (x - 128) * 128 ^ i ≤ 127 * 128 ^ i := Nat.mul_le_mul_right _ (by omega)
     rw [Nat.pow_succ]; omega
theorem rd_lt {l : List Nat} (h : ∀ x ∈ l, x < 256) : (rd l).1 < 18446744073709551616 := readF_lt 10 0 0 l rfl (by decide) h
theorem rd_size10 (l : List Nat) : (rd l).2.1 ≤ 10 := readF_size10 10 0 0 l rfl
def uns (m : Int) : Nat := if m < 0 then (2 * (-m - 1) + 1).toNat else (2 * m).toNat
def sgn (n : Nat) : Int := if n % 2 = 1 then -(n / 2 : Nat) - 1 else (n / 2 : Nat)
theorem sgn_uns (m : Int) : sgn (uns m) = m := by
 unfold uns sgn
 split
 ·rw [if_pos (by omega)]; omega
 ·rw [if_neg (by omega)]; omega
theorem uns_lt {m : Int} (h1 : -9223372036854775808 ≤ m) (h2 : m ≤ 9223372036854775807) : uns m < 18446744073709551616 := by
 unfold uns; split <;> omega
def rdText (l : List Nat) (most : Int) : List Nat × Nat × Nat :=
 if (rd l).2.2 ≠ 0 then ([], 0, (rd l).2.2) else if (max most 0).toNat < (rd l).1 then ([], 0, 3) else if l.length - (rd l).2.1 < (rd l).1 then ([], 0, 5)
 else ((l.drop (rd l).2.1).take (rd l).1, (rd l).2.1 + (rd l).1, 0)
theorem rdText_text (s r : List Nat) (most : Int) (hm : (s.length : Int) ≤ most) (hs : s.length < 18446744073709551616) : rdText (num s.length ++ (s ++ r)) most = (s, (num s.length).length + s.length, 0) := by
 unfold rdText
 have h := rd_num hs (s ++ r)
 rw [h]
 simp only
 rw [if_neg (by simp), if_neg (by omega), if_neg (by simp)]
 simp
def frame (sum : List Nat → List Nat) (b : List Nat) : List Nat := (num b.length ++ b) ++ sum (num b.length ++ b)
def unframe (ends : List Nat → Bool) (l : List Nat) : List Nat × Nat × Nat :=
 if (rd l).2.2 ≠ 0 then ([], 0, (rd l).2.2) else if 1048576 < (rd l).1 then ([], 0, 3) else if l.length < (rd l).2.1 + (rd l).1 + 4 then ([], 0, 5)
 else if ends (l.take ((rd l).2.1 + (rd l).1 + 4)) then ((l.drop (rd l).2.1).take (rd l).1, (rd l).2.1 + (rd l).1 + 4, 0) else ([], 0, 6)
end Cd
end Go.Proofs.YthbkieghkfpbhaaGreat
namespace Go.Proofs.YthbkieghkfpbhaaGreat
open Go.RowKit Go.Buf
def BB (B : Nat) (w : World) (v : Value) (l : List Nat) (row : Option Nat) : Prop := (∀ x ∈ l, x < 256) ∧ Buf 5 1 B w v l.length (bytesV l) row
def RetBB (B : Nat) (w : World) (row : Option Nat) (l : List Nat) (e : Ending) (w' : World) : Prop := ∃ v row', e = .returned v ∧ BB B w' v l row' ∧ w.grownBy w' row ∧ New w row row'
theorem BB.nil {B : Nat} {w : World} (hB : B ≤ w.heap.size) : BB B w (.slice none 0 0) [] none := ⟨by simp, Buf.nil hB⟩
theorem src_row {w : World} {a : Option Addr} {n cap : Nat} {l : List Nat} (h : Row w a cap l) (hn : l.length = n) : Src Tryz.prog 1 37 (.slice a n cap) n (bytesV l) w := by
 cases a with
 | none =>
  have hc := h.2.2.2.1 rfl
  have hle := h.le
  have hl : l = [] := List.eq_nil_of_length_eq_zero (by omega)
  subst hl
  subst hn
  exact Src.ofNil w Tryz.underlying37 cap
 | some p => exact Src.ofSlice w Tryz.underlying37 p n cap (bytesV l) (by rw [bytesV_length, hn, Nat.mul_one]) (h.holds p rfl) (bytesV_one l)
def strL (s : ByteArray) : List Nat := s.data.toList.map UInt8.toNat
theorem strL_length (s : ByteArray) : (strL s).length = s.size := by simp [strL]
theorem strL_byte (s : ByteArray) : ∀ x ∈ strL s, x < 256 := by intro x hx; simp [strL] at hx; obtain ⟨a, _, rfl⟩ := hx; exact a.toNat_lt
theorem strB_strL (s : ByteArray) : strB (strL s) = s := by
 unfold strB strL
 cases s with
 | mk d =>
  congr 1
  apply Array.ext'
  simp only [List.map_map]
  conv => rhs; rw [← List.map_id d.toList]
  exact List.map_congr_left fun x _ => by simp
theorem strL_strB {l : List Nat} (h : ∀ x ∈ l, x < 256) : strL (strB l) = l := by
 unfold strB strL
 simp only [List.map_map]
 conv => rhs; rw [← List.map_id l]
 exact List.map_congr_left fun x hx => by have := h x hx; simp; omega
theorem src_str {w : World} (s : ByteArray) : Src Tryz.prog 1 9 (.string s) s.size (bytesV (strL s)) w := by
 have := Src.ofString (P := Tryz.prog) w Tryz.underlying9 s
 have e : byteCells s = bytesV (strL s) := by simp [byteCells, bytesV, strL]
 rw [e] at this; exact this
theorem BB.of_row {B : Nat} {w : World} {a : Option Addr} {n : Nat} {l : List Nat} (h : Row w a n l) (hn : l.length = n) (hB : B ≤ w.heap.size) : BB B w (.slice a n n) l none := by
 refine ⟨h.byte, ?_⟩
 subst hn
 exact Buf.full hB (by simp [bytesV_length]) (by have := h.cap; unfold maxLen; omega) (fun ha => h.2.2.2.1 ha) (fun b hb => h.holds b hb)
theorem BB.row {B : Nat} {w : World} {v : Value} {l : List Nat} {row : Option Nat} (h : BB B w v l row) : ∃ a c, v = .slice a l.length c ∧ Row w a c l := by
 obtain ⟨a, c, rfl, h1, h2, h3⟩ := h.2.shape
 refine ⟨a, c, rfl, h1, by unfold maxLen at h2; omega, h.1, h3, fun i x hx => ?_⟩
 cases a with
 | none =>
  have := h3 rfl
  have hi := (List.getElem?_eq_some_iff.1 hx).1
  omega
 | some p => exact ⟨p, rfl, h.2.cells p rfl i _ (by simp [bytesV, hx])⟩
theorem BB.base {B B' : Nat} {w : World} {v : Value} {l : List Nat} {row : Option Nat} (h : BB B w v l row) (hB : B' ≤ B) : BB B' w v l row := ⟨h.1, h.2.base hB⟩
theorem BB.alloc {B : Nat} {w : World} {v : Value} {l : List Nat} {row : Option Nat} (h : BB B w v l row) (o : Obj) : BB B (w.alloc o) v l row := ⟨h.1, h.2.kept (World.grownBy_alloc w o none) (Or.inl rfl)⟩
theorem BB.below {B : Nat} {w w' : World} {v : Value} {l : List Nat} {row : Option Nat} (h : BB B w v l row) (hb : Below w.heap.size w w') : BB B w' v l row := ⟨h.1, h.2.kept (grown_of_below (row := none) hb) (Or.inl rfl)⟩
theorem grown_alloc {w w' : World} {row : Option Nat} (o : Obj) (h : (w.alloc o).grownBy w' row) : w.grownBy w' row :=
 ⟨h.os, h.tape, h.output, Nat.le_trans (by simp) h.size, fun k hk hne => (h.block k (by simp; omega) hne).trans (Below.heap_alloc w o k hk)⟩
theorem new_alloc {w : World} {row row' : Option Nat} (o : Obj) (h : New (w.alloc o) row row') : New w row row' := by
 rcases h with h | ⟨k, hk, hl⟩
 ·exact Or.inl h
 ·exact Or.inr ⟨k, hk, by simp at hl; omega⟩
theorem wpList_append_bb {w : World} {ops : Array Oper} {rest : List Oper} {o : Oper} {ac : Act} {Q : Exit → Act → World → Prop} (hgd : o.guard = none) (s x : Operand) (tx : TypeId)
  (ho : o.op = .call { callee := .builtin .append, args := #[s, x], argTypes := #[37, tx] }) (B : Nat) (v : Value) (l : List Nat) (row : Option Nat) (hv : ac.eval s = v) (hb : BB B w v l row)
  (y : Value) (m : Nat) (l2 : List Nat) (hx : ac.eval x = y) (hs : Src Tryz.prog 1 tx y m (bytesV l2) w) (hm : l2.length = m) (hl2 : ∀ x ∈ l2, x < 256) (hsm : l.length + m ≤ 140737488355328)
  (h : ∀ v' w' row', BB B w' v' (l ++ l2) row' → w.grownBy w' row → New w row row' → wpList Tryz.prog ops Q rest (ac.put o.dst v') w') : wpList Tryz.prog ops Q (o :: rest) ac w := by
 obtain ⟨i0, hi, hz0, hz1, hz2⟩ := info_parts info5
 refine wpList_append_buf hgd s x 37 tx ho B 5 i0 (.int .u8 0) 1 1 Tryz.underlying37 hi hz0 hz1 hz2 rfl v l.length (bytesV l) row hv hb.2 y m (bytesV l2) hx hs (by unfold maxLen; omega) (by omega) ?_
 intro v' w' row' h1 h2 h3
 refine h v' w' row' ⟨?_, ?_⟩ h2 h3
 ·intro x hx
  rcases List.mem_append.1 hx with hx | hx
  ·exact hb.1 x hx
  ·exact hl2 x hx
 ·rw [bytesV_append, List.length_append, hm]; exact h1
theorem row_litE (w : World) (x : Nat) (z : Int) (hz : z = (x : Nat)) (hx : x < 256) : Row (w.alloc (.cells #[.int .u8 z] 5)) (some ⟨w.heap.size, 0, none⟩) 1 [x] := by
 subst hz
 refine row_of_block (heap_alloc_new w _) (fun y hy => by simp at hy; omega) 0 1 (by omega) (by simp) (fun i y hy => ?_)
 have hi : i < 1 := by have := (List.getElem?_eq_some_iff.1 hy).1; simpa using this
 obtain rfl : i = 0 := by omega
 simp at hy; subst hy; simp
theorem row_lit (w : World) (x : Nat) (z : Int) (hz : z = (x : Nat)) (hx : x < 256) : Src Tryz.prog 1 37 (.slice (some ⟨w.heap.size, 0, none⟩) 1 1) 1 (bytesV [x]) (w.alloc (.cells #[.int .u8 z] 5)) := src_row (row_litE w x z hz hx) rfl
theorem or128 (x : Nat) (hx : x < 256) : bits .or .u8 (x : Int) 128 = ((x % 128 + 128 : Nat) : Int) := by
 have h : ∀ x : Fin 256, bits .or .u8 ((x.val : Nat) : Int) 128 = ((x.val % 128 + 128 : Nat) : Int) := by decide +kernel
 exact h ⟨x, hx⟩
set_option maxRecDepth 100000 in
set_option maxHeartbeats 800000 in
theorem num_any (B : Nat) (v : Value) (l : List Nat) (row : Option Nat) (n : Nat) (w : World) (hb : BB B w v l row) (hn : n < 18446744073709551616) (hsm : l.length + 10 ≤ 140737488355328) :
  Calls Tryz.prog 31 #[v, .int .u64 n] w (RetBB B w row (l ++ Cd.num n)) := by
 have Hb := Lib.hid hb; clear hb
 go_enter Tryz.func31, Tryz.ntmps31
 go_wp2
 go_loopw [0, 1] (fun u i wr => ∃ (q k : Nat) (pre : List Nat) (r1 : Option Nat), i = .int .u64 q ∧ q < 18446744073709551616 ∧ BB B wr u (l ++ pre) r1 ∧ w.grownBy wr row ∧ New w row r1 ∧ pre ++ Cd.numF k q = Cd.num n ∧ q < 2 * 128 ^ k ∧ pre.length + k = 9) (fun _ i _ => (intOf i).toNat)
 case atStart => exact ⟨n, 9, [], row, rfl, hn, by simpa using Hb.out, grown_refl w row, New.refl w row, rfl, by omega, rfl⟩
 case round =>
  obtain ⟨q, k, pre, r1, rfl, hq, hbb, hg, hnw, hpre, hqk, hpk⟩ := hrel
  have Hbb := Lib.hid hbb; have Hg := Lib.hid hg; have Hnw := Lib.hid hnw; have Hpre := Lib.hid hpre; have Hqk := Lib.hid hqk; have Hpk := Lib.hid hpk
  clear hbb hg hnw hpre hqk hpk
  by_cases hlt : 128 ≤ q
  ·have hor := or128 (q % 256) (Nat.mod_lt _ (by omega))
   have e1 : q % 256 % 128 = q % 128 := by omega
   have e2 : ((q % 256 : Nat) : Int) = (q : Int) % 256 := by omega
   rw [e1, e2] at hor
   have Hor := Lib.hid hor; clear hor e1 e2
   have hlen : (l ++ pre).length + 1 ≤ 140737488355328 := by have := Hpk.out; simp; omega
   have hx8 : q % 128 + 128 < 256 := by omega
   go_wp2_with (refine wpList_append_bb rfl (.tmp 7) (.tmp 11) 37 rfl B _ (l ++ pre) r1 rfl (Hbb.out.alloc _) _ 1 [q % 128 + 128] rfl (row_lit wr _ _ Hor.out hx8) rfl (by simp; omega) hlen ?_; intro v' w3 row3 h1 h2 h3)
   have H1 := Lib.hid h1; have H2 := Lib.hid (grown_alloc _ h2); have H3 := Lib.hid (new_alloc _ h3)
   clear h1 h2 h3
   go_wp2_with fail
   have hk : k ≠ 0 := by intro e; have := Hqk.out; subst e; simp at this; omega
   obtain ⟨k', rfl⟩ := Nat.exists_eq_succ_of_ne_zero hk
   refine ⟨⟨q / 128, k', pre ++ [q % 128 + 128], row3, by simp, by omega, by rw [← List.append_assoc]; exact H1.out, grown_trans Hg.out H2.out Hnw.out, Hnw.out.trans H3.out Hg.out.size, ?_, ?_, ?_⟩, ?_⟩
   ·rw [← Hpre.out]
    have : ¬ q < 128 := by omega
    simp [Cd.numF, this]
   ·have := Hqk.out
    rw [Nat.pow_succ] at this; omega
   ·have := Hpk.out
    simp; omega
   ·simp [intOf]; omega
  ·have hq8 : q < 128 := by omega
   have e1 : (q : Int) % 256 = (q : Int) := by omega
   have hfin : (l ++ pre) ++ [q] = l ++ Cd.num n := by
    rw [← Hpre.out, List.append_assoc]
    have : Cd.numF k q = [q] := by cases k <;> simp [Cd.numF, hq8]
    rw [this]
   have hlen : (l ++ pre).length + 1 ≤ 140737488355328 := by have := Hpk.out; simp; omega
   have Hfin := Lib.hid hfin; clear hfin
   have E1 := Lib.hid e1; clear e1
   go_wp2_with (refine wpList_append_bb rfl (.tmp 15) (.tmp 18) 37 rfl B _ (l ++ pre) r1 rfl (Hbb.out.alloc _) _ 1 [q] rfl (row_lit wr q _ (by omega) (by omega)) rfl (by simp; omega) hlen ?_; intro v' w3 row3 h1 h2 h3)
   rw [Hfin.out] at h1
   have H1 := Lib.hid h1; have H2 := Lib.hid (grown_alloc _ h2); have H3 := Lib.hid (new_alloc _ h3)
   clear h1 h2 h3
   go_wp2_with fail
   go_ret
   exact ⟨v', row3, rfl, H1.out, grown_trans Hg.out H2.out Hnw.out, Hnw.out.trans H3.out Hg.out.size⟩
end Go.Proofs.YthbkieghkfpbhaaGreat
