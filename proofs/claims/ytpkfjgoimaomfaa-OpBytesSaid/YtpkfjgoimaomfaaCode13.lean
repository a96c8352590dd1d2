import Derived.Test.YtpkfjgoimaomfaaCode9
import Derived.Test.YtpkfjgoimaomfaaCrc11
namespace Go.Proofs.Ytpkfjgoimaomfaa
open Go.RowKit Go.Buf
theorem BB.step {B : Nat} {w w1 w2 : World} {v : Value} {l : List Nat} {r : Option Nat} (hb : Below B w w1) (h : BB B w1 v l r) (hg : w1.grownBy w2 r) (hB : B ≤ w.heap.size) : Below B w w2 :=
  hb.trans (below_of_grown hg (Nat.le_trans hB hb.size) (fun k hk => (h.2.row_le k hk).1))
set_option maxRecDepth 100000 in
set_option maxHeartbeats 1600000 in
theorem refnum_any (a : Option Addr) (bn cap : Nat) (l : List Nat) (n : Nat) (w : World) (hr : Row w a cap l) (hl : l.length = bn) (hn : n < 18446744073709551616) (hsm : bn ≤ 1000000) :
    Calls Try.prog 39 #[.slice a bn cap, .int .u64 n] w (RetBB w.heap.size w none (l ++ Cd.num n)) := by
  have Hr := Lib.hid hr; have Hl := Lib.hid hl; have HN := Lib.hid hn
  have hlen0 : ([] : List Nat).length + bn ≤ 140737488355328 := by simp; omega
  clear hr hl hn
  go_enter Try.func39, Try.ntmps39
  go_wp2_with (refine wpList_append_bb rfl (.tmp 7) (.tmp 8) 42 rfl w.heap.size _ [] _ rfl (BB.empty w) _ bn l rfl (src_row (Hr.out.alloc _) Hl.out) Hl.out Hr.out.byte hlen0 ?_; intro v1 w1 row1 h1 h2 h3)
  rw [List.nil_append] at h1
  have hb1 : Below w.heap.size w w1 := BB.step ((Below.refl _ _).alloc (Nat.le_refl _) _) (BB.empty w) h2 (Nat.le_refl _)
  have HB1 := Lib.hid h1; have HW1 := Lib.hid hb1
  clear h1 h2 h3 hb1 hlen0
  go_loopw [1, 5] (fun i u wr => ∃ (q k : Nat) (pre : List Nat) (r1 : Option Nat), i = .int .u64 q ∧ q < 18446744073709551616 ∧ BB w.heap.size wr u (l ++ pre) r1 ∧ Below w.heap.size w wr ∧ pre ++ Cd.numF k q = Cd.num n ∧ q < 2 * 128 ^ k ∧ pre.length + k = 9) (fun i _ _ => (intOf i).toNat)
  case atStart => exact ⟨n, 9, [], row1, rfl, HN.out, by simpa using HB1.out, HW1.out, rfl, by have := HN.out; omega, rfl⟩
  case round =>
    obtain ⟨q, k, pre, r1, rfl, hq, hbb, hbel, hpre, hqk, hpk⟩ := hrel
    have Hbb := Lib.hid hbb; have Hbel := Lib.hid hbel; have Hpre := Lib.hid hpre; have Hqk := Lib.hid hqk; have Hpk := Lib.hid hpk
    clear hbb hbel hpre hqk hpk
    have hlen : (l ++ pre).length + 1 ≤ 140737488355328 := by have := Hpk.out; have := Hl.out; simp; omega
    by_cases hlt : 128 ≤ q
    · have t : ((q : Int) / 128 == 0) = false := by rw [beq_eq_false_iff_ne]; omega
      have hx8 : q % 128 + 128 < 256 := by omega
      go_wp2_with (refine wpList_append_bb rfl (.tmp 21) (.tmp 24) 42 rfl w.heap.size _ (l ++ pre) r1 rfl (Hbb.out.alloc _) _ 1 [q % 128 + 128] rfl (row_lit wr _ _ (by omega) hx8) rfl (by simp; omega) hlen ?_; intro v' w3 row3 h1 h2 h3)
      have hb3 := BB.step (Hbel.out.alloc Hbel.out.size _) (Hbb.out.alloc _) h2 (Nat.le_refl _)
      have H1 := Lib.hid h1; have H2 := Lib.hid hb3
      clear h1 h2 h3 hb3
      go_wp2_with fail
      have hk : k ≠ 0 := by intro e; have := Hqk.out; subst e; simp at this; omega
      obtain ⟨k', rfl⟩ := Nat.exists_eq_succ_of_ne_zero hk
      refine ⟨⟨q / 128, k', pre ++ [q % 128 + 128], row3, by simp, by omega, by rw [← List.append_assoc]; exact H1.out, H2.out, ?_, ?_, ?_⟩, ?_⟩
      · rw [← Hpre.out]
        have : ¬ q < 128 := by omega
        simp [Cd.numF, this]
      · have := Hqk.out
        rw [Nat.pow_succ] at this; omega
      · have := Hpk.out
        simp; omega
      · simp [intOf]; omega
    · have hq8 : q < 128 := by omega
      have t : ((q : Int) / 128 == 0) = true := by rw [beq_iff_eq]; omega
      have hfin : (l ++ pre) ++ [q] = l ++ Cd.num n := by
        rw [← Hpre.out, List.append_assoc]
        have : Cd.numF k q = [q] := by cases k <;> simp [Cd.numF, hq8]
        rw [this]
      have Hfin := Lib.hid hfin; clear hfin
      go_wp2_with (refine wpList_append_bb rfl (.tmp 17) (.tmp 19) 42 rfl w.heap.size _ (l ++ pre) r1 rfl (Hbb.out.alloc _) _ 1 [q] rfl (row_lit wr q _ (by omega) (by omega)) rfl (by simp; omega) hlen ?_; intro v' w3 row3 h1 h2 h3)
      have hb3 := BB.step (Hbel.out.alloc Hbel.out.size _) (Hbb.out.alloc _) h2 (Nat.le_refl _)
      rw [Hfin.out] at h1
      have HF := Lib.hid (ret_new h1 hb3 (Nat.le_refl _))
      clear h1 h2 h3 hb3
      go_wp2_with fail
      go_ret
      exact HF.out
set_option maxHeartbeats 800000 in
theorem refint_any (a : Option Addr) (bn cap : Nat) (l : List Nat) (m : Int) (w : World) (hr : Row w a cap l) (hl : l.length = bn) (h1 : -9223372036854775808 ≤ m) (h2 : m ≤ 9223372036854775807) (hsm : bn ≤ 1000000) :
    Calls Try.prog 41 #[.slice a bn cap, .int .i64 m] w (RetBB w.heap.size w none (l ++ Cd.num (Cd.uns m))) := by
  have Hr := Lib.hid hr; have Hl := Lib.hid hl
  clear hr hl
  have hc : ∀ z : Int, z = (Cd.uns m : Nat) → Calls Try.prog 39 #[.slice a bn cap, .int .u64 z] w (RetBB w.heap.size w none (l ++ Cd.num (Cd.uns m))) := fun z he => by
    rw [he]
    exact refnum_any a bn cap l (Cd.uns m) w Hr.out Hl.out (Cd.uns_lt h1 h2) hsm
  have HC := Lib.hid hc; clear hc
  by_cases hm : m < 0
  · obtain ⟨x, rfl⟩ : ∃ x : Nat, m = -1 - (x : Int) := ⟨(-1 - m).toNat, by omega⟩
    have hu : Cd.uns (-1 - (x : Int)) = 2 * x + 1 := by unfold Cd.uns; rw [if_pos hm]; omega
    have HU := Lib.hid hu; clear hu
    go_enter Try.func41, Try.ntmps41
    go_wp2_with fail
    refine (HC.out _ (by rw [HU.out]; omega)).mono ?_
    rintro e w1 ⟨v1, row1, rfl, h3, h4, h5⟩
    have HF := Lib.hid (show RetBB w.heap.size w none _ (.returned v1) w1 from ⟨v1, row1, rfl, h3, h4, h5⟩)
    clear h3 h4 h5
    go_wp2_with fail
    go_ret
    exact HF.out
  · have hm' : 0 ≤ m := by omega
    have hu : Cd.uns m = (2 * m).toNat := by unfold Cd.uns; rw [if_neg hm]
    have HU := Lib.hid hu; clear hu
    go_enter Try.func41, Try.ntmps41
    go_wp2_with fail
    refine (HC.out _ (by rw [HU.out]; omega)).mono ?_
    rintro e w1 ⟨v1, row1, rfl, h3, h4, h5⟩
    have HF := Lib.hid (show RetBB w.heap.size w none _ (.returned v1) w1 from ⟨v1, row1, rfl, h3, h4, h5⟩)
    clear h3 h4 h5
    go_wp2_with fail
    go_ret
    exact HF.out
theorem strL_get (s : ByteArray) (k : Nat) (h : k < s.size) : (strL s).take (k + 1) = (strL s).take k ++ [s[k].toNat] := by
  have h2 : k < (strL s).length := by rw [strL_length]; exact h
  rw [List.take_succ_eq_append_getElem h2]
  simp [strL]; rfl
set_option maxRecDepth 100000 in
set_option maxHeartbeats 1600000 in
theorem reftext_any (a : Option Addr) (bn cap : Nat) (l : List Nat) (s : ByteArray) (w : World) (hr : Row w a cap l) (hl : l.length = bn) (hs : s.size ≤ 1000000) (hsm : bn ≤ 1000000) :
    Calls Try.prog 40 #[.slice a bn cap, .string s] w (RetBB w.heap.size w none (l ++ (Cd.num s.size ++ strL s))) := by
  have Hr := Lib.hid hr; have Hl := Lib.hid hl
  have hnl := Cd.num_len s.size
  clear hr hl
  go_enter Try.func40, Try.ntmps40
  go_wp2_with fail
  refine (refnum_any a bn cap l s.size w Hr.out Hl.out (by omega) hsm).mono ?_
  rintro e w1 hret
  obtain ⟨v1, row1, rfl, h1, h2⟩ := hret.below
  obtain ⟨M, hM⟩ : ∃ M, M = l ++ Cd.num s.size := ⟨_, rfl⟩
  have hMl : M.length ≤ 1000010 := by rw [hM, List.length_append, Hl.out]; omega
  rw [← hM] at h1
  have HB1 := Lib.hid h1; have HW1 := Lib.hid h2; have HM := Lib.hid hM
  clear h1 h2 hret hM
  go_wp2_with fail
  go_loopw [5, 6] (fun u i wr => ∃ (k : Nat) (r1 : Option Nat), i = .int .i64 k ∧ k ≤ s.size ∧ BB w.heap.size wr u (M ++ (strL s).take k) r1 ∧ Below w.heap.size w wr) (fun _ i _ => s.size - (intOf i).toNat)
  case atStart => exact ⟨0, row1, rfl, by omega, by simpa using HB1.out, HW1.out⟩
  case round =>
    obtain ⟨k, r1, rfl, hk, hbb, hbel⟩ := hrel
    have Hbb := Lib.hid hbb; have Hbel := Lib.hid hbel
    clear hbb hbel
    by_cases hlt : k < s.size
    · have hx8 : s[k].toNat < 256 := s[k].toNat_lt
      have hlen : (M ++ (strL s).take k).length + 1 ≤ 140737488355328 := by simp; omega
      have hst := strL_get s k hlt
      have Hst := Lib.hid hst; clear hst
      go_wp2_with (refine wpList_append_bb rfl (.tmp 18) (.tmp 22) 42 rfl w.heap.size _ (M ++ (strL s).take k) r1 rfl (Hbb.out.alloc _) _ 1 [s[k].toNat] rfl (row_lit wr _ _ rfl hx8) rfl (by simp; omega) hlen ?_; intro v' w3 row3 h1 h2 h3)
      have hb3 := BB.step (Hbel.out.alloc Hbel.out.size _) (Hbb.out.alloc _) h2 (Nat.le_refl _)
      rw [List.append_assoc, ← Hst.out] at h1
      have H1 := Lib.hid h1; have H2 := Lib.hid hb3
      clear h1 h2 h3 hb3
      go_wp2_with fail
      exact ⟨⟨k + 1, row3, by go_num, by omega, H1.out, H2.out⟩, by simp [intOf]; omega⟩
    · obtain rfl : k = s.size := by omega
      have hfin := Hbb.out
      rw [List.take_of_length_le (by rw [strL_length]; exact Nat.le_refl _), HM.out, List.append_assoc] at hfin
      have HF := Lib.hid (ret_new hfin Hbel.out (Nat.le_refl _))
      clear hfin
      go_wp2_with fail
      go_ret
      exact HF.out
end Go.Proofs.Ytpkfjgoimaomfaa
