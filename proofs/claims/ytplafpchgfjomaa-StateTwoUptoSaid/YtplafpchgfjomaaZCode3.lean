import Derived.Test.YtplafpchgfjomaaZDot4
import Derived.Laws.ShiftsVarLaws
import Derived.Test.YtplafpchgfjomaaZBytes
namespace Go.Proofs.Ytplafpchgfjomaa
open Go.RowKit Go.Buf
set_option maxHeartbeats 400000 in
theorem ended_over (z : Int) (x k : Nat) (hk : k = 9) (w : World) (h1 : 1 < x) :
  Calls Try.prog 56 #[.int .u64 z, .int .i64 k, .int .u8 x] w fun e w' => e = .returned (num3 (0, 0, 14)) ∧ w = w' := by
 subst hk
 go_enter Try.func56, Try.ntmps56
 go_wp2
 go_ret3
 exact ⟨rfl, rfl⟩
theorem step_eq (acc k x : Nat) (hk : k < 10) (hacc : acc < 128 ^ k) (hx : x < 256) (h9 : k = 9 → x % 128 ≤ 1) :
  bits .or .u64 (acc : Int) (IntKind.u64.wrap (IntKind.u64.wrap (bits .andNot .u8 (x : Int) 128) * 2 ^ (7 * k))) = ((acc + x % 128 * 128 ^ k : Nat) : Int) := by
 have e0 : bits .andNot .u8 (x : Int) 128 = ((x % 128 : Nat) : Int) := by
  have := u8_andNot_nat x 128 hx (by omega)
  rw [show x &&& (255 - 128) = x % 128 from nat_mask7 x] at this
  exact this
 have e2 : (2 : Nat) ^ (7 * k) = 128 ^ k := by rw [Nat.pow_mul]
 have h3 : x % 128 * 128 ^ k < 18446744073709551616 ∧ acc + x % 128 * 128 ^ k < 18446744073709551616 := by
  by_cases h : k = 9
  ·subst h
   have : x % 128 * 128 ^ 9 ≤ 1 * 128 ^ 9 := Nat.mul_le_mul_right _ (h9 rfl)
   omega
  ·have hp : 128 ^ k ≤ 128 ^ 8 := Nat.pow_le_pow_right (by omega) (by omega)
   have : x % 128 * 128 ^ k ≤ 127 * 128 ^ k := Nat.mul_le_mul_right _ (by omega)
   omega
 have hp63 : 128 ^ k ≤ 128 ^ 9 := Nat.pow_le_pow_right (by omega) (by omega)
 have e3 : IntKind.u64.wrap (IntKind.u64.wrap (bits .andNot .u8 (x : Int) 128) * 2 ^ (7 * k)) = ((x % 128 * 128 ^ k : Nat) : Int) := by
  rw [e0, show IntKind.u64.wrap ((x % 128 : Nat) : Int) = ((x % 128 : Nat) : Int) from by rw [IntKind.wrap_u64]; omega]
  have e4 : ((x % 128 : Nat) : Int) * 2 ^ (7 * k) = ((x % 128 * 128 ^ k : Nat) : Int) := by rw [← e2]; simp
  rw [e4, IntKind.wrap_u64]
  omega
 rw [e3, u64_or_nat _ _ (by omega) h3.1]
 congr 1
 rw [Nat.or_comm, nat_join (7 * k) _ _ (by rw [e2]; simp) (by rw [e2]; exact hacc)]
 omega
set_option maxRecDepth 100000 in
set_option maxHeartbeats 1600000 in
theorem number_any (a : Option Addr) (n cap : Nat) (l : List Nat) (w : World) (hr : Row w a cap l) (hn : l.length = n) :
  Calls Try.prog 49 #[.slice a n cap] w fun e w' => e = .returned (num3 (Cd.rd l)) ∧ w = w' := by
 have hcap := hr.cap
 have hle : n ≤ cap := by rw [← hn]; exact hr.le
 have x10 : max (10 : Int) 0 = 10 := by decide
 have xn : max (n : Int) 0 = (n : Int) := by omega
 by_cases h00 : n = 0
 ·subst h00
  have hl : l = [] := List.eq_nil_of_length_eq_zero hn
  have hrd : Cd.rd l = (0, 0, 5) := by rw [hl]; rfl
  have HR := Lib.hid hrd
  clear hrd hr hn hl
  go_enter Try.func49, Try.ntmps49
  go_wp2
  go_loop [5, 14] (fun u i => u = .int .u64 0 ∧ i = .int .i64 0) (fun _ _ => 0)
  case atStart => exact ⟨rfl, rfl⟩
  case round =>
   obtain ⟨rfl, rfl⟩ := hrel
   go_wp2
   go_ret3
   exact ⟨ret3 HR.out rfl rfl rfl, rfl⟩
 obtain ⟨b, off, rfl, hb, hc⟩ := hr.opened (by omega)
 have hbyte := hr.byte
 have Hc := Lib.hid hc; have Hn := Lib.hid hn; have Hbyte := Lib.hid hbyte
 clear hr hn hc hbyte h00
 by_cases h10 : 10 < n
 ·skip
  go_enter Try.func49, Try.ntmps49
  go_wp2_with fail
  go_loop [5, 14] (fun u i => ∃ (k acc : Nat) (z : Int), u = .int .u64 z ∧ i = .int .i64 k ∧ k ≤ 10 ∧ (k < 10 → z = acc ∧ acc < 128 ^ k ∧ Cd.readF (10 - k) k acc (l.drop k) = Cd.rd l) ∧ (k = 10 → Cd.rd l = (0, 0, 14))) (fun _ i => 10 - (intOf i).toNat)
  case atStart => exact ⟨0, 0, 0, rfl, rfl, by omega, fun _ => ⟨rfl, by omega, rfl⟩, fun h => by omega⟩
  case round =>
   obtain ⟨k, acc, z, rfl, rfl, hk, h1, h2⟩ := hrel
   have H1 := Lib.hid h1; have H2 := Lib.hid h2
   clear h1 h2
   by_cases hlt : k < 10
   ·obtain ⟨e0, hacc, hrd⟩ := H1.out (by omega)
    subst e0
    have hkn : k < l.length := by rw [Hn.out]; omega
    obtain ⟨x, hx⟩ : ∃ x, x = l.getD k 0 := ⟨_, rfl⟩
    have hx8 : x < 256 := by rw [hx, List.getD_eq_getElem?_getD, List.getElem?_eq_getElem hkn]; exact Hbyte.out _ (List.getElem_mem hkn)
    have hdrop : l.drop k = x :: l.drop (k + 1) := by rw [List.drop_eq_getElem_cons hkn, hx, List.getD_eq_getElem?_getD, List.getElem?_eq_getElem hkn]; rfl
    have hcell : w.cell? ⟨b, off + k, none⟩ = some (.int .u8 (x : Nat)) := by rw [Hc.out k hkn, hx]
    have hnn : (0 : Int) ≤ 7 * (k : Int) := by omega
    have hs7 : IntKind.i64.wrap (7 * (k : Int)) = 7 * (k : Int) := IntWalk.i64_in _ (by omega)
    rw [hdrop, show 10 - k = (9 - k) + 1 from by omega] at hrd
    simp only [Cd.readF] at hrd
    by_cases h9 : k = 9 ∧ 1 < x % 128
    ·obtain ⟨hk9, h91⟩ := h9
     have K9 := Lib.hid hk9
     by_cases hsm : x < 128
     ·rw [if_pos hsm] at hrd
      have hfin : Cd.rd l = (0, 0, 14) := by rw [← hrd]; unfold Cd.ended; rw [if_pos ⟨hk9, by omega⟩]
      have HF := Lib.hid hfin; have Hx := Lib.hid hx; have Hdrop := Lib.hid hdrop; have H7 := Lib.hid hs7
      clear hfin hx hdrop hs7 hrd hacc hk9
      go_wp2_with fail
      refine (ended_over _ x k K9.out _ (by omega)).mono ?_
      rintro e w' ⟨rfl, rfl⟩
      unfold num3
      go_wp2_with fail
      go_ret3
      exact ⟨by rw [HF.out]; rfl, rfl⟩
     ·rw [if_neg hsm] at hrd
      have hfin : Cd.rd l = (0, 0, 14) := by rw [← hrd, hk9]; rfl
      have HF := Lib.hid hfin; have Hx := Lib.hid hx; have Hdrop := Lib.hid hdrop; have H7 := Lib.hid hs7
      clear hfin hx hdrop hs7 hrd hacc hk9
      go_wp2_with fail
      refine ⟨⟨k + 1, 0, _, rfl, by go_num, by omega, fun h => by have := K9.out; omega, fun _ => HF.out⟩, by simp [intOf]; omega⟩
    ·have hst := step_eq acc k x (by omega) hacc hx8 (fun h => by omega)
     have HS := Lib.hid hst; have Hx := Lib.hid hx; have Hdrop := Lib.hid hdrop; have H7 := Lib.hid hs7; have Hacc := Lib.hid hacc
     by_cases hsm : x < 128
     ·rw [if_pos hsm] at hrd
      have e1 : x % 128 = x := by omega
      have HR := Lib.hid hrd; have E1 := Lib.hid e1
      clear hx hdrop hs7 hrd hacc hst h9 e1
      go_wp2_with fail
      rw [HS.out, E1.out]
      refine (ended_any _ k x _ (by omega) hx8).mono ?_
      rintro e w' ⟨rfl, rfl⟩
      rw [HR.out]
      unfold num3
      go_wp2_with fail
      go_ret3
      exact ⟨rfl, rfl⟩
     ·rw [if_neg hsm] at hrd
      have e1 : x - 128 = x % 128 := by omega
      rw [e1, show 9 - k = 10 - (k + 1) from by omega] at hrd
      have HR := Lib.hid hrd
      clear hx hdrop hs7 hrd hacc hst e1
      go_wp2_with fail
      refine ⟨⟨k + 1, acc + x % 128 * 128 ^ k, _, rfl, by go_num, by omega, fun h => ⟨by rw [HS.out], ?_, HR.out⟩, fun h => ?_⟩, by simp [intOf]; omega⟩
      ·have := Hacc.out
       have h2 : x % 128 * 128 ^ k ≤ 127 * 128 ^ k := Nat.mul_le_mul_right _ (by omega)
       rw [Nat.pow_succ]; omega
      ·have h3 := HR.out
       rw [h, Nat.sub_self] at h3
       rw [← h3]; rfl
   ·have hfin : Cd.rd l = (0, 0, 14) := by
     exact H2.out (by omega)
    have HF := Lib.hid hfin
    clear hfin
    go_wp2_with fail
    go_ret3
    exact ⟨ret3 HF.out rfl rfl rfl, rfl⟩
 ·have h10' : n ≤ 10 := by omega
  go_enter Try.func49, Try.ntmps49
  go_wp2_with fail
  go_loop [5, 14] (fun u i => ∃ (k acc : Nat) (z : Int), u = .int .u64 z ∧ i = .int .i64 k ∧ k ≤ n ∧ (k < 10 → z = acc ∧ acc < 128 ^ k ∧ Cd.readF (10 - k) k acc (l.drop k) = Cd.rd l) ∧ (k = 10 → Cd.rd l = (0, 0, 14))) (fun _ i => n - (intOf i).toNat)
  case atStart => exact ⟨0, 0, 0, rfl, rfl, by omega, fun _ => ⟨rfl, by omega, rfl⟩, fun h => by omega⟩
  case round =>
   obtain ⟨k, acc, z, rfl, rfl, hk, h1, h2⟩ := hrel
   have H1 := Lib.hid h1; have H2 := Lib.hid h2
   clear h1 h2
   by_cases hlt : k < n
   ·obtain ⟨e0, hacc, hrd⟩ := H1.out (by omega)
    subst e0
    have hkn : k < l.length := by rw [Hn.out]; omega
    obtain ⟨x, hx⟩ : ∃ x, x = l.getD k 0 := ⟨_, rfl⟩
    have hx8 : x < 256 := by rw [hx, List.getD_eq_getElem?_getD, List.getElem?_eq_getElem hkn]; exact Hbyte.out _ (List.getElem_mem hkn)
    have hdrop : l.drop k = x :: l.drop (k + 1) := by rw [List.drop_eq_getElem_cons hkn, hx, List.getD_eq_getElem?_getD, List.getElem?_eq_getElem hkn]; rfl
    have hcell : w.cell? ⟨b, off + k, none⟩ = some (.int .u8 (x : Nat)) := by rw [Hc.out k hkn, hx]
    have hnn : (0 : Int) ≤ 7 * (k : Int) := by omega
    have hs7 : IntKind.i64.wrap (7 * (k : Int)) = 7 * (k : Int) := IntWalk.i64_in _ (by omega)
    rw [hdrop, show 10 - k = (9 - k) + 1 from by omega] at hrd
    simp only [Cd.readF] at hrd
    by_cases h9 : k = 9 ∧ 1 < x % 128
    ·obtain ⟨hk9, h91⟩ := h9
     have K9 := Lib.hid hk9
     by_cases hsm : x < 128
     ·rw [if_pos hsm] at hrd
      have hfin : Cd.rd l = (0, 0, 14) := by rw [← hrd]; unfold Cd.ended; rw [if_pos ⟨hk9, by omega⟩]
      have HF := Lib.hid hfin; have Hx := Lib.hid hx; have Hdrop := Lib.hid hdrop; have H7 := Lib.hid hs7
      clear hfin hx hdrop hs7 hrd hacc hk9
      go_wp2_with fail
      refine (ended_over _ x k K9.out _ (by omega)).mono ?_
      rintro e w' ⟨rfl, rfl⟩
      unfold num3
      go_wp2_with fail
      go_ret3
      exact ⟨by rw [HF.out]; rfl, rfl⟩
     ·rw [if_neg hsm] at hrd
      have hfin : Cd.rd l = (0, 0, 14) := by rw [← hrd, hk9]; rfl
      have HF := Lib.hid hfin; have Hx := Lib.hid hx; have Hdrop := Lib.hid hdrop; have H7 := Lib.hid hs7
      clear hfin hx hdrop hs7 hrd hacc hk9
      go_wp2_with fail
      refine ⟨⟨k + 1, 0, _, rfl, by go_num, by omega, fun h => by have := K9.out; omega, fun _ => HF.out⟩, by simp [intOf]; omega⟩
    ·have hst := step_eq acc k x (by omega) hacc hx8 (fun h => by omega)
     have HS := Lib.hid hst; have Hx := Lib.hid hx; have Hdrop := Lib.hid hdrop; have H7 := Lib.hid hs7; have Hacc := Lib.hid hacc
     by_cases hsm : x < 128
     ·rw [if_pos hsm] at hrd
      have e1 : x % 128 = x := by omega
      have HR := Lib.hid hrd; have E1 := Lib.hid e1
      clear hx hdrop hs7 hrd hacc hst h9 e1
      go_wp2_with fail
      rw [HS.out, E1.out]
      refine (ended_any _ k x _ (by omega) hx8).mono ?_
      rintro e w' ⟨rfl, rfl⟩
      rw [HR.out]
      unfold num3
      go_wp2_with fail
      go_ret3
      exact ⟨rfl, rfl⟩
     ·rw [if_neg hsm] at hrd
      have e1 : x - 128 = x % 128 := by omega
      rw [e1, show 9 - k = 10 - (k + 1) from by omega] at hrd
      have HR := Lib.hid hrd
      clear hx hdrop hs7 hrd hacc hst e1
      go_wp2_with fail
      refine ⟨⟨k + 1, acc + x % 128 * 128 ^ k, _, rfl, by go_num, by omega, fun h => ⟨by rw [HS.out], ?_, HR.out⟩, fun h => ?_⟩, by simp [intOf]; omega⟩
      ·have := Hacc.out
       have h2 : x % 128 * 128 ^ k ≤ 127 * 128 ^ k := Nat.mul_le_mul_right _ (by omega)
       rw [Nat.pow_succ]; omega
      ·have h3 := HR.out
       rw [h, Nat.sub_self] at h3
       rw [← h3]; rfl
   ·obtain rfl : k = n := by omega
    have hF : k < 10 → Cd.rd l = (0, 0, 5) := fun h => by
     obtain ⟨_, _, h3⟩ := H1.out h
     rw [List.drop_eq_nil_of_le (by rw [Hn.out]; exact Nat.le_refl _), show 10 - k = (9 - k) + 1 from by omega] at h3
     exact h3.symm
    have HF := Lib.hid hF
    clear hF
    by_cases h10'' : k = 10
    ·have HG := Lib.hid (H2.out h10'')
     have h9k : 10 ≤ k := by omega
     clear h10''
     go_wp2_with fail
     go_ret3
     exact ⟨ret3 HG.out rfl rfl rfl, rfl⟩
    ·have HG := Lib.hid (HF.out (by omega))
     have h9k : k < 10 := by omega
     clear h10''
     go_wp2_with fail
     go_ret3
     exact ⟨ret3 HG.out rfl rfl rfl, rfl⟩
end Go.Proofs.Ytplafpchgfjomaa
/- Plain mathematics of CRC-32: the register's step, eight of them, their linearity and injectivity. No Go. -/
namespace Go.Proofs.Ytplafpchgfjomaa
namespace Crc

def st (r : Nat) : Nat := if r % 2 = 1 then (r / 2) ^^^ 3988292384 else r / 2
def stn : Nat → Nat → Nat
 | 0, r => r
 | n + 1, r => stn n (st r)
def st8 (r : Nat) : Nat := st (st (st (st (st (st (st (st r)))))))
def byteStep (reg x : Nat) : Nat := st8 ((reg % 256) ^^^ x) ^^^ (reg / 256)
def run (reg : Nat) (l : List Nat) : Nat := l.foldl byteStep reg
def more (sum : Nat) (l : List Nat) : Nat := 4294967295 - run (4294967295 - sum) l
def sum (l : List Nat) : Nat := more 0 l

def four (s : Nat) : List Nat := [s % 256, s / 256 % 256, s / 65536 % 256, s / 16777216 % 256]
def ends (l : List Nat) : Bool := decide (4 ≤ l.length) && (l.drop (l.length - 4) == four (sum (l.take (l.length - 4))))
end Crc
end Go.Proofs.Ytplafpchgfjomaa
namespace Go.Proofs.Ytplafpchgfjomaa
open Go.RowKit
def tblVals (F : Nat → Nat) : List Value := (List.range 256).map fun i => .int .u32 (F i : Nat)
def OnlyBlock (b : Nat) (w w' : World) : Prop := w'.os = w.os ∧ w'.tape = w.tape ∧ w'.output = w.output ∧ w'.heap.size = w.heap.size ∧ ∀ k, k ≠ b → w'.heap[k]? = w.heap[k]?
theorem OnlyBlock.refl (b : Nat) (w : World) : OnlyBlock b w w := ⟨rfl, rfl, rfl, rfl, fun _ _ => rfl⟩
theorem OnlyBlock.set {b : Nat} {w w' : World} (h : OnlyBlock b w w') (i : Nat) (v : Value) : OnlyBlock b w (w'.setCell ⟨b, i, none⟩ v) := by
 obtain ⟨h1, h2, h3, h4, h5⟩ := h
 refine ⟨h1, h2, h3, by simpa [World.setCell] using h4, fun k hk => ?_⟩
 rw [heap_setCell_other _ _ _ _ hk]; exact h5 k hk
def FF (F : Nat → Nat) (bit reg q : Nat) : Nat → Nat := fun i => if i % (2 * bit) = bit ∧ i < q then F (i - bit) ^^^ reg else F i
def TT (bit : Nat) : Nat → Nat := fun i => if i % bit = 0 then Crc.st8 (i % 256) else 0
def tbl (F : Nat → Nat) : Array Value := (tblVals F).toArray
end Go.Proofs.Ytplafpchgfjomaa
namespace Go.Proofs.Ytplafpchgfjomaa
open Go.RowKit
end Go.Proofs.Ytplafpchgfjomaa
namespace Go.Proofs.Ytplafpchgfjomaa
open Go.RowKit
def fourV (s : Nat) : List Value := (Crc.four s).map fun x => .int .u8 (x : Nat)
def zero4 : Array Value := #[.int .u8 0, .int .u8 0, .int .u8 0, .int .u8 0]
end Go.Proofs.Ytplafpchgfjomaa
namespace Go.Proofs.Ytplafpchgfjomaa
open Go.RowKit
end Go.Proofs.Ytplafpchgfjomaa
namespace Go.Proofs.Ytplafpchgfjomaa
open Go.RowKit Go.Buf
set_option maxHeartbeats 400000 in
theorem int_any (B : Nat) (v : Value) (l : List Nat) (row : Option Nat) (m : Int) (w : World) (hb : BB B w v l row) (h1 : -9223372036854775808 ≤ m) (h2 : m ≤ 9223372036854775807) (hsm : l.length + 10 ≤ 140737488355328) :
  Calls Try.prog 26 #[v, .int .i64 m] w (RetBB B w row (l ++ Cd.num (Cd.uns m))) := by
 have Hb := Lib.hid hb; clear hb
 have hu := Cd.uns_lt h1 h2
 have HU := Lib.hid hu; clear hu
 go_enter Try.func26, Try.ntmps26
 go_wp2_with fail
 refine (unsigned_any m _ h1 h2).mono ?_
 rintro e w' ⟨rfl, rfl⟩
 go_wp2_with fail
 refine (num_any B v l row (Cd.uns m) _ Hb.out HU.out hsm).mono ?_
 rintro e w1 ⟨v1, row1, rfl, h3, h4, h5⟩
 have H3 := Lib.hid h3; have H4 := Lib.hid h4; have H5 := Lib.hid h5; clear h3 h4 h5
 go_wp2_with fail
 go_ret
 exact ⟨v1, row1, rfl, H3.out, H4.out, H5.out⟩
set_option maxHeartbeats 400000 in
theorem text_any (B : Nat) (v : Value) (l : List Nat) (row : Option Nat) (s : ByteArray) (w : World) (hb : BB B w v l row) (hs : s.size ≤ 9223372036854775807) (hsm : l.length + 10 + s.size ≤ 140737488355328) :
  Calls Try.prog 20 #[v, .string s] w (RetBB B w row (l ++ (Cd.num s.size ++ strL s))) := by
 have Hb := Lib.hid hb; clear hb
 have hu : s.size < 18446744073709551616 := by omega
 have HU := Lib.hid hu; clear hu
 have hnl := Cd.num_len s.size
 go_enter Try.func20, Try.ntmps20
 go_wp2_with fail
 refine (num_any B v l row s.size _ Hb.out HU.out (by omega)).mono ?_
 rintro e w1 ⟨v1, row1, rfl, h3, h4, h5⟩
 have H3 := Lib.hid h3; have H4 := Lib.hid h4; have H5 := Lib.hid h5; clear h3 h4 h5
 have hlen : (l ++ Cd.num s.size).length + s.size ≤ 140737488355328 := by rw [List.length_append]; omega
 go_wp2_with (refine wpList_append_bb rfl (.tmp 9) (.tmp 10) 9 rfl B _ (l ++ Cd.num s.size) row1 rfl H3.out _ s.size (strL s) rfl (src_str s) (strL_length s) (strL_byte s) hlen ?_; intro v' w3 row3 h1 h2 h3)
 rw [List.append_assoc] at h1
 have HA := Lib.hid h1; have HB := Lib.hid h2; have HC := Lib.hid h3
 clear h1 h2 h3
 go_wp2_with fail
 go_ret
 exact ⟨v', row3, rfl, HA.out, grown_trans H4.out HB.out H5.out, H5.out.trans HC.out H4.out.size⟩
theorem Row.alloc {w : World} {a : Option Addr} {cap : Nat} {l : List Nat} (h : Row w a cap l) (o : Obj) : Row (w.alloc o) a cap l := h.below ((Below.refl _ _).alloc (Nat.le_refl _) o)
theorem BB.empty (w : World) : BB w.heap.size (w.alloc (.cells #[] 5)) (.slice (some ⟨w.heap.size, 0, none⟩) 0 0) [] (some w.heap.size) :=
 ⟨by simp, Buf.own (World.ownsRow_made w #[] 0 (Nat.le_refl _) (by unfold maxLen; omega) rfl) (by simp)⟩
theorem ret_new {B : Nat} {w w' : World} {v : Value} {l : List Nat} {row' : Option Nat} (hb : BB B w' v l row') (h : Below B w w') (hB : w.heap.size ≤ B) : RetBB B w none l (.returned v) w' := by
 refine ⟨v, row', rfl, hb, ⟨h.os, h.tape, h.output, h.size, fun k hk _ => h.block k (by omega)⟩, ?_⟩
 cases row' with
 | none => exact Or.inl rfl
 | some k => exact Or.inr ⟨k, rfl, Nat.le_trans hB (hb.2.row_le k rfl).1⟩
theorem RetBB.below {w w' : World} {l : List Nat} {e : Ending} (h : RetBB w.heap.size w none l e w') : ∃ v row', e = .returned v ∧ BB w.heap.size w' v l row' ∧ Below w.heap.size w w' := by
 obtain ⟨v, row', h1, h2, h3, h4⟩ := h
 exact ⟨v, row', h1, h2, below_of_grown h3 (Nat.le_refl _) (fun k hk => by cases hk)⟩
set_option maxHeartbeats 400000 in
theorem clone_any (a : Option Addr) (n cap : Nat) (l : List Nat) (w : World) (hr : Row w a cap l) (hn : l.length = n) (hsm : n ≤ 140737488355328) :
  Calls Try.prog 22 #[.slice a n cap] w (RetBB w.heap.size w none l) := by
 have Hr := Lib.hid hr; have Hn := Lib.hid hn
 have ke := fun (w : World) (a : Option Addr) (n c : Nat) => Lib.run_eql_slice_nil (P := Try.prog) w 26 5 a n c 0 0 Try.underlying26
 cases a with
 | none =>
  have hc := hr.2.2.2.1 rfl
  have hle := hr.le
  have hl : l = [] := List.eq_nil_of_length_eq_zero (by omega)
  subst hl
  have hn' : n = 0 := by rw [← hn]; rfl
  subst hn'
  subst hc
  clear hr hn hle Hr Hn
  go_enter Try.func22, Try.ntmps22
  go_wp2
  go_ret
  exact ret_new (BB.nil (Nat.le_refl _)) (Below.refl _ _) (Nat.le_refl _)
 | some p =>
  clear hr hn
  go_enter Try.func22, Try.ntmps22
  go_wp2_with (refine wpList_append_bb rfl (.tmp 5) (.tmp 6) 26 rfl w.heap.size _ [] _ rfl (BB.empty w) _ n l rfl (src_row (Hr.out.alloc _) Hn.out) Hn.out Hr.out.byte (by simp; omega) ?_; intro v' w3 row3 h1 h2 h3)
  rw [List.nil_append] at h1
  have hbel : Below w.heap.size w w3 := ((Below.refl _ _).alloc (Nat.le_refl _) _).trans (below_of_grown h2 (by simp) (fun k hk => by cases hk; exact Nat.le_refl _))
  have H1 := Lib.hid h1; have H2 := Lib.hid hbel
  clear h1 h2 h3 hbel
  go_wp2_with fail
  go_ret
  exact ret_new H1.out H2.out (Nat.le_refl _)
def frameL (l : List Nat) : List Nat := Cd.frame (fun x => Crc.four (Crc.sum x)) l
end Go.Proofs.Ytplafpchgfjomaa
namespace Go.Proofs.Ytplafpchgfjomaa
open Go.RowKit Go.Buf
theorem BB.rowN {B : Nat} {w : World} {v : Value} {l : List Nat} {row : Option Nat} (h : BB B w v l row) : ∃ a n c, v = .slice a n c ∧ Row w a c l ∧ l.length = n := by
 obtain ⟨a, c, h1, h2⟩ := h.row
 exact ⟨a, _, c, h1, h2, rfl⟩
structure PT (B : Nat) (X w : World) (v : Value) (l : List Nat) : Prop where
  bb : ∃ row, BB B w v l row
  below : Below B X w
theorem PT.step {B : Nat} {X w w' : World} {v v' : Value} {l l' : List Nat} {row row' : Option Nat} (hb : BB B w v l row) (h : Below B X w) (hB : B ≤ X.heap.size) (h1 : BB B w' v' l' row') (h2 : w.grownBy w' row) : PT B X w' v' l' :=
 ⟨⟨row', h1⟩, h.trans (below_of_grown h2 (Nat.le_trans hB h.size) (fun k hk => (hb.2.row_le k hk).1))⟩
theorem PT.ret {B : Nat} {X w w' : World} {v : Value} {l : List Nat} {row : Option Nat} {e : Ending} (hb : BB B w v l row) (h : Below B X w) (hB : B ≤ X.heap.size) {l' : List Nat} (hr : RetBB B w row l' e w') : ∃ v', e = .returned v' ∧ PT B X w' v' l' := by
 obtain ⟨v', row', rfl, h1, h2, _⟩ := hr
 exact ⟨v', rfl, PT.step hb h hB h1 h2⟩
def dotE (d : Dt.Dot) : List Nat := Cd.num d.1.1 ++ Cd.num d.1.2 ++ Cd.num d.2
theorem dotE_length (d : Dt.Dot) : (dotE d).length ≤ 30 := by
 unfold dotE; simp only [List.length_append]
 have := (Cd.num_len d.1.1).2; have := (Cd.num_len d.1.2).2; have := (Cd.num_len d.2).2; omega
def txtE (s : ByteArray) : List Nat := Cd.num s.size ++ strL s
theorem txtE_length (s : ByteArray) : (txtE s).length ≤ 10 + s.size := by
 unfold txtE; rw [List.length_append, strL_length]; have := (Cd.num_len s.size).2; omega
def upE {α : Type} (f : α → List Nat) (l : List α) (k : Nat) : List Nat := (l.take k).flatMap f
theorem upE_zero {α : Type} (f : α → List Nat) (l : List α) : upE f l 0 = [] := by simp [upE]
theorem upE_succ {α : Type} {f : α → List Nat} {l : List α} {k : Nat} {d : α} (hd : l[k]? = some d) : upE f l (k + 1) = upE f l k ++ f d := by
 unfold upE
 obtain ⟨hk, rfl⟩ := List.getElem?_eq_some_iff.1 hd
 rw [List.take_succ_eq_append_getElem hk, List.flatMap_append]; simp
theorem upE_all {α : Type} (f : α → List Nat) {l : List α} {k : Nat} (h : l.length ≤ k) : upE f l k = l.flatMap f := by unfold upE; rw [List.take_of_length_le h]
theorem upE_length {α : Type} {f : α → List Nat} {l : List α} {m : Nat} (h : ∀ d ∈ l, (f d).length ≤ m) (k : Nat) : (upE f l k).length ≤ k * m := by
 induction k with
 | zero => simp [upE]
 | succ k ih =>
  by_cases hk : k < l.length
  ·rw [upE_succ (List.getElem?_eq_getElem hk), List.length_append]
   have := h _ (List.getElem_mem hk)
   rw [Nat.succ_mul]; omega
  ·have e : upE f l (k + 1) = upE f l k := by unfold upE; rw [List.take_of_length_le (by omega), List.take_of_length_le (by omega)]
   rw [e, Nat.succ_mul]; omega
end Go.Proofs.Ytplafpchgfjomaa
namespace Go.Proofs.Ytplafpchgfjomaa
open Go.RowKit Go.Buf
set_option linter.unusedSimpArgs false
set_option linter.unusedVariables false
theorem cut_at (ct : Int) (xn xc : Nat) (hpos : 0 < xn) (hxk : xn ≤ 200000) (hle : xn ≤ xc) : ∃ kk : Nat, kk < xn ∧ kk ≤ xc ∧ (0 : Int) ≤ (kk : Int) ∧ (kk : Int) ≤ (xc : Int) ∧ wrap64 ((IntKind.u64.wrap ct).tmod (xn : Int)) = (kk : Int) := by
 obtain ⟨u, hu⟩ : ∃ u : Nat, IntKind.u64.wrap ct = (u : Int) := ⟨(IntKind.u64.wrap ct).toNat, by simp [IntKind.wrap, IntKind.bits, IntKind.signed]; omega⟩
 have hkx : u % xn < xn := Nat.mod_lt _ hpos
 have ht : ((u : Int)).tmod (xn : Int) = ((u % xn : Nat) : Int) := rfl
 refine ⟨u % xn, hkx, by omega, by omega, by omega, ?_⟩
 rw [hu, ht]
 exact IntWalk.wrap64_in _ (by omega)
theorem litB (w : World) (x : Nat) (hx : x < 256) : Row (w.alloc (.cells #[.int .u8 (x : Int)] 5)) (some ⟨w.heap.size, 0, none⟩) 1 [x] := by
 refine ⟨by simp, by omega, by simp; omega, (fun e => by cases e), fun i e he => ⟨_, rfl, ?_⟩⟩
 have hi : i < 1 := by have := (List.getElem?_eq_some_iff.1 he).1; simpa using this
 obtain rfl : i = 0 := by omega
 simp at he; subst he
 simp [Addr.add]
theorem run_slice_to (a : Option Addr) (n c i : Nat) (h : i ≤ c) (w : World) : Sem.run Try.prog (Instr.slice 26 (.slice a n c) none (some (.int .i64 (i : Int))) none) w = .ok (.slice a i c) w := by
 have hu := Try.underlying26
 have h0 : (0 : Int) ≤ (i : Int) := by omega
 have h1 : (i : Int) ≤ (c : Int) := by omega
 go_simp
end Go.Proofs.Ytplafpchgfjomaa
namespace Go.Proofs.Ytplafpchgfjomaa
open Go.RowKit Go.Buf
def unfr (l : List Nat) : List Nat × Nat × Nat := Cd.unframe Crc.ends l
def RetUn (w : World) (r : List Nat × Nat × Nat) (e : Ending) (w' : World) : Prop := ∃ v row', e = .returned (.tuple #[v, .int .i64 (r.2.1 : Nat), .int .i64 (r.2.2 : Nat)]) ∧ BB w.heap.size w' v r.1 row' ∧ Below w.heap.size w w'
end Go.Proofs.Ytplafpchgfjomaa
