import Derived.Test.YtpkfjgoimaomfaaCode2
import Derived.Laws.ShiftsVarLaws
namespace Go.Proofs.Ytpkfjgoimaomfaa
open Go.RowKit Go.Buf
theorem bits_or_u64_range (x y : Int) : 0 ≤ bits .or .u64 x y ∧ bits .or .u64 x y < 18446744073709551616 := u64_wrap_bounds _
set_option maxHeartbeats 400000 in
theorem ended_over (z : Int) (x k : Nat) (hk : k = 9) (w : World) (h1 : 1 < x) :
    Calls Try.prog 74 #[.int .u64 z, .int .i64 k, .int .u8 x] w fun e w' => e = .returned (num3 (0, 0, 14)) ∧ w = w' := by
  subst hk
  go_enter Try.func74, Try.ntmps74
  go_wp2
  go_ret3
  exact ⟨rfl, rfl⟩
/-- what a byte adds -/
theorem step_eq (acc k x : Nat) (hk : k < 10) (hacc : acc < 128 ^ k) (hx : x < 256) (h9 : k = 9 → x % 128 ≤ 1) :
    bits .or .u64 (acc : Int) (IntKind.u64.wrap (IntKind.u64.wrap (bits .andNot .u8 (x : Int) 128) * 2 ^ (7 * k))) = ((acc + x % 128 * 128 ^ k : Nat) : Int) := by
  have e0 : bits .andNot .u8 (x : Int) 128 = ((x % 128 : Nat) : Int) := by
    have := u8_andNot_nat x 128 hx (by omega)
    rw [show x &&& (255 - 128) = x % 128 from nat_mask7 x] at this
    exact this
  have e2 : (2 : Nat) ^ (7 * k) = 128 ^ k := by rw [Nat.pow_mul]
  have h3 : x % 128 * 128 ^ k < 18446744073709551616 ∧ acc + x % 128 * 128 ^ k < 18446744073709551616 := by
    by_cases h : k = 9
    · subst h
      have : x % 128 * 128 ^ 9 ≤ 1 * 128 ^ 9 := Nat.mul_le_mul_right _ (h9 rfl)
      omega
    · have hp : 128 ^ k ≤ 128 ^ 8 := Nat.pow_le_pow_right (by omega) (by omega)
      have : x % 128 * 128 ^ k ≤ 127 * 128 ^ k := Nat.mul_le_mul_right _ (by omega)
      omega
  have hp63 : 128 ^ k ≤ 128 ^ 9 := Nat.pow_le_pow_right (by omega) (by omega)
  have e3 : IntKind.u64.wrap (IntKind.u64.wrap (bits .andNot .u8 (x : Int) 128) * 2 ^ (7 * k)) = ((x % 128 * 128 ^ k : Nat) : Int) := by
    rw [e0, show IntKind.u64.wrap ((x % 128 : Nat) : Int) = ((x % 128 : Nat) : Int) from by rw [IntKind.wrap_u64]; omega]
    have e4 : ((x % 128 : Nat) : Int) * 2 ^ (7 * k) = ((x % 128 * 128 ^ k : Nat) : Int) := by rw [← e2]; simp
    rw [e4, IntKind.wrap_u64]
    omega
  rw [e3, u64_or_nat _ _ (by omega) h3.1]
  congr 1
  rw [Nat.or_comm, nat_join (7 * k) _ _ (by rw [e2]; simp) (by rw [e2]; exact hacc)]
  omega
set_option maxRecDepth 100000 in
set_option maxHeartbeats 1600000 in
theorem number_any (a : Option Addr) (n cap : Nat) (l : List Nat) (w : World) (hr : Row w a cap l) (hn : l.length = n) :
    Calls Try.prog 68 #[.slice a n cap] w fun e w' => e = .returned (num3 (Cd.rd l)) ∧ w = w' := by
  have hcap := hr.cap
  have hle : n ≤ cap := by rw [← hn]; exact hr.le
  have x10 : max (10 : Int) 0 = 10 := by decide
  have xn : max (n : Int) 0 = (n : Int) := by omega
  by_cases h00 : n = 0
  · subst h00
    have hl : l = [] := List.eq_nil_of_length_eq_zero hn
    have hrd : Cd.rd l = (0, 0, 5) := by rw [hl]; rfl
    have HR := Lib.hid hrd
    clear hrd hr hn hl
    go_enter Try.func68, Try.ntmps68
    go_wp2
    go_loop [5, 14] (fun u i => u = .int .u64 0 ∧ i = .int .i64 0) (fun _ _ => 0)
    case atStart => exact ⟨rfl, rfl⟩
    case round =>
      obtain ⟨rfl, rfl⟩ := hrel
      go_wp2
      go_ret3
      exact ⟨ret3 HR.out rfl rfl rfl, rfl⟩
  obtain ⟨b, off, rfl, hb, hc⟩ := hr.opened (by omega)
  have hbyte := hr.byte
  have Hc := Lib.hid hc; have Hn := Lib.hid hn; have Hbyte := Lib.hid hbyte
  clear hr hn hc hbyte h00
  by_cases h10 : 10 < n
  · skip
    go_enter Try.func68, Try.ntmps68
    go_wp2_with fail
    go_loop [5, 14] (fun u i => ∃ (k acc : Nat) (z : Int), u = .int .u64 z ∧ i = .int .i64 k ∧ k ≤ 10 ∧ (k < 10 → z = acc ∧ acc < 128 ^ k ∧ Cd.readF (10 - k) k acc (l.drop k) = Cd.rd l) ∧ (k = 10 → Cd.rd l = (0, 0, 14))) (fun _ i => 10 - (intOf i).toNat)
    case atStart => exact ⟨0, 0, 0, rfl, rfl, by omega, fun _ => ⟨rfl, by omega, rfl⟩, fun h => by omega⟩
    case round =>
      obtain ⟨k, acc, z, rfl, rfl, hk, h1, h2⟩ := hrel
      have H1 := Lib.hid h1; have H2 := Lib.hid h2
      clear h1 h2
      by_cases hlt : k < 10
      · obtain ⟨e0, hacc, hrd⟩ := H1.out (by omega)
        subst e0
        have hkn : k < l.length := by rw [Hn.out]; omega
        obtain ⟨x, hx⟩ : ∃ x, x = l.getD k 0 := ⟨_, rfl⟩
        have hx8 : x < 256 := by rw [hx, List.getD_eq_getElem?_getD, List.getElem?_eq_getElem hkn]; exact Hbyte.out _ (List.getElem_mem hkn)
        have hdrop : l.drop k = x :: l.drop (k + 1) := by rw [List.drop_eq_getElem_cons hkn, hx, List.getD_eq_getElem?_getD, List.getElem?_eq_getElem hkn]; rfl
        have hcell : w.cell? ⟨b, off + k, none⟩ = some (.int .u8 (x : Nat)) := by rw [Hc.out k hkn, hx]
        have hnn : (0 : Int) ≤ 7 * (k : Int) := by omega
        have hs7 : IntKind.i64.wrap (7 * (k : Int)) = 7 * (k : Int) := IntWalk.i64_in _ (by omega)
        rw [hdrop, show 10 - k = (9 - k) + 1 from by omega] at hrd
        simp only [Cd.readF] at hrd
        by_cases h9 : k = 9 ∧ 1 < x % 128
        · obtain ⟨hk9, h91⟩ := h9
          have K9 := Lib.hid hk9
          by_cases hsm : x < 128
          · rw [if_pos hsm] at hrd
            have hfin : Cd.rd l = (0, 0, 14) := by rw [← hrd]; unfold Cd.ended; rw [if_pos ⟨hk9, by omega⟩]
            have HF := Lib.hid hfin; have Hx := Lib.hid hx; have Hdrop := Lib.hid hdrop; have H7 := Lib.hid hs7
            clear hfin hx hdrop hs7 hrd hacc hk9
            go_wp2_with fail
            refine (ended_over _ x k K9.out _ (by omega)).mono ?_
            rintro e w' ⟨rfl, rfl⟩
            unfold num3
            go_wp2_with fail
            go_ret3
            exact ⟨by rw [HF.out]; rfl, rfl⟩
          · rw [if_neg hsm] at hrd
            have hfin : Cd.rd l = (0, 0, 14) := by rw [← hrd, hk9]; rfl
            have HF := Lib.hid hfin; have Hx := Lib.hid hx; have Hdrop := Lib.hid hdrop; have H7 := Lib.hid hs7
            clear hfin hx hdrop hs7 hrd hacc hk9
            go_wp2_with fail
            refine ⟨⟨k + 1, 0, _, rfl, by go_num, by omega, fun h => by have := K9.out; omega, fun _ => HF.out⟩, by simp [intOf]; omega⟩
        · have hst := step_eq acc k x (by omega) hacc hx8 (fun h => by omega)
          have HS := Lib.hid hst; have Hx := Lib.hid hx; have Hdrop := Lib.hid hdrop; have H7 := Lib.hid hs7; have Hacc := Lib.hid hacc
          by_cases hsm : x < 128
          · rw [if_pos hsm] at hrd
            have e1 : x % 128 = x := by omega
            have HR := Lib.hid hrd; have E1 := Lib.hid e1
            clear hx hdrop hs7 hrd hacc hst h9 e1
            go_wp2_with fail
            rw [HS.out, E1.out]
            refine (ended_any _ k x _ (by omega) hx8).mono ?_
            rintro e w' ⟨rfl, rfl⟩
            rw [HR.out]
            unfold num3
            go_wp2_with fail
            go_ret3
            exact ⟨rfl, rfl⟩
          · rw [if_neg hsm] at hrd
            have e1 : x - 128 = x % 128 := by omega
            rw [e1, show 9 - k = 10 - (k + 1) from by omega] at hrd
            have HR := Lib.hid hrd
            clear hx hdrop hs7 hrd hacc hst e1
            go_wp2_with fail
            refine ⟨⟨k + 1, acc + x % 128 * 128 ^ k, _, rfl, by go_num, by omega, fun h => ⟨by rw [HS.out], ?_, HR.out⟩, fun h => ?_⟩, by simp [intOf]; omega⟩
            · have := Hacc.out
              have h2 : x % 128 * 128 ^ k ≤ 127 * 128 ^ k := Nat.mul_le_mul_right _ (by omega)
              rw [Nat.pow_succ]; omega
            · have h3 := HR.out
              rw [h, Nat.sub_self] at h3
              rw [← h3]; rfl
      · have hfin : Cd.rd l = (0, 0, 14) := by
          exact H2.out (by omega)
        have HF := Lib.hid hfin
        clear hfin
        go_wp2_with fail
        go_ret3
        exact ⟨ret3 HF.out rfl rfl rfl, rfl⟩
  · have h10' : n ≤ 10 := by omega
    go_enter Try.func68, Try.ntmps68
    go_wp2_with fail
    go_loop [5, 14] (fun u i => ∃ (k acc : Nat) (z : Int), u = .int .u64 z ∧ i = .int .i64 k ∧ k ≤ n ∧ (k < 10 → z = acc ∧ acc < 128 ^ k ∧ Cd.readF (10 - k) k acc (l.drop k) = Cd.rd l) ∧ (k = 10 → Cd.rd l = (0, 0, 14))) (fun _ i => n - (intOf i).toNat)
    case atStart => exact ⟨0, 0, 0, rfl, rfl, by omega, fun _ => ⟨rfl, by omega, rfl⟩, fun h => by omega⟩
    case round =>
      obtain ⟨k, acc, z, rfl, rfl, hk, h1, h2⟩ := hrel
      have H1 := Lib.hid h1; have H2 := Lib.hid h2
      clear h1 h2
      by_cases hlt : k < n
      · obtain ⟨e0, hacc, hrd⟩ := H1.out (by omega)
        subst e0
        have hkn : k < l.length := by rw [Hn.out]; omega
        obtain ⟨x, hx⟩ : ∃ x, x = l.getD k 0 := ⟨_, rfl⟩
        have hx8 : x < 256 := by rw [hx, List.getD_eq_getElem?_getD, List.getElem?_eq_getElem hkn]; exact Hbyte.out _ (List.getElem_mem hkn)
        have hdrop : l.drop k = x :: l.drop (k + 1) := by rw [List.drop_eq_getElem_cons hkn, hx, List.getD_eq_getElem?_getD, List.getElem?_eq_getElem hkn]; rfl
        have hcell : w.cell? ⟨b, off + k, none⟩ = some (.int .u8 (x : Nat)) := by rw [Hc.out k hkn, hx]
        have hnn : (0 : Int) ≤ 7 * (k : Int) := by omega
        have hs7 : IntKind.i64.wrap (7 * (k : Int)) = 7 * (k : Int) := IntWalk.i64_in _ (by omega)
        rw [hdrop, show 10 - k = (9 - k) + 1 from by omega] at hrd
        simp only [Cd.readF] at hrd
        by_cases h9 : k = 9 ∧ 1 < x % 128
        · obtain ⟨hk9, h91⟩ := h9
          have K9 := Lib.hid hk9
          by_cases hsm : x < 128
          · rw [if_pos hsm] at hrd
            have hfin : Cd.rd l = (0, 0, 14) := by rw [← hrd]; unfold Cd.ended; rw [if_pos ⟨hk9, by omega⟩]
            have HF := Lib.hid hfin; have Hx := Lib.hid hx; have Hdrop := Lib.hid hdrop; have H7 := Lib.hid hs7
            clear hfin hx hdrop hs7 hrd hacc hk9
            go_wp2_with fail
            refine (ended_over _ x k K9.out _ (by omega)).mono ?_
            rintro e w' ⟨rfl, rfl⟩
            unfold num3
            go_wp2_with fail
            go_ret3
            exact ⟨by rw [HF.out]; rfl, rfl⟩
          · rw [if_neg hsm] at hrd
            have hfin : Cd.rd l = (0, 0, 14) := by rw [← hrd, hk9]; rfl
            have HF := Lib.hid hfin; have Hx := Lib.hid hx; have Hdrop := Lib.hid hdrop; have H7 := Lib.hid hs7
            clear hfin hx hdrop hs7 hrd hacc hk9
            go_wp2_with fail
            refine ⟨⟨k + 1, 0, _, rfl, by go_num, by omega, fun h => by have := K9.out; omega, fun _ => HF.out⟩, by simp [intOf]; omega⟩
        · have hst := step_eq acc k x (by omega) hacc hx8 (fun h => by omega)
          have HS := Lib.hid hst; have Hx := Lib.hid hx; have Hdrop := Lib.hid hdrop; have H7 := Lib.hid hs7; have Hacc := Lib.hid hacc
          by_cases hsm : x < 128
          · rw [if_pos hsm] at hrd
            have e1 : x % 128 = x := by omega
            have HR := Lib.hid hrd; have E1 := Lib.hid e1
            clear hx hdrop hs7 hrd hacc hst h9 e1
            go_wp2_with fail
            rw [HS.out, E1.out]
            refine (ended_any _ k x _ (by omega) hx8).mono ?_
            rintro e w' ⟨rfl, rfl⟩
            rw [HR.out]
            unfold num3
            go_wp2_with fail
            go_ret3
            exact ⟨rfl, rfl⟩
          · rw [if_neg hsm] at hrd
            have e1 : x - 128 = x % 128 := by omega
            rw [e1, show 9 - k = 10 - (k + 1) from by omega] at hrd
            have HR := Lib.hid hrd
            clear hx hdrop hs7 hrd hacc hst e1
            go_wp2_with fail
            refine ⟨⟨k + 1, acc + x % 128 * 128 ^ k, _, rfl, by go_num, by omega, fun h => ⟨by rw [HS.out], ?_, HR.out⟩, fun h => ?_⟩, by simp [intOf]; omega⟩
            · have := Hacc.out
              have h2 : x % 128 * 128 ^ k ≤ 127 * 128 ^ k := Nat.mul_le_mul_right _ (by omega)
              rw [Nat.pow_succ]; omega
            · have h3 := HR.out
              rw [h, Nat.sub_self] at h3
              rw [← h3]; rfl
      · obtain rfl : k = n := by omega
        have hF : k < 10 → Cd.rd l = (0, 0, 5) := fun h => by
          obtain ⟨_, _, h3⟩ := H1.out h
          rw [List.drop_eq_nil_of_le (by rw [Hn.out]; exact Nat.le_refl _), show 10 - k = (9 - k) + 1 from by omega] at h3
          exact h3.symm
        have HF := Lib.hid hF
        clear hF
        by_cases h10'' : k = 10
        · have HG := Lib.hid (H2.out h10'')
          have h9k : 10 ≤ k := by omega
          clear h10''
          go_wp2_with fail
          go_ret3
          exact ⟨ret3 HG.out rfl rfl rfl, rfl⟩
        · have HG := Lib.hid (HF.out (by omega))
          have h9k : k < 10 := by omega
          clear h10''
          go_wp2_with fail
          go_ret3
          exact ⟨ret3 HG.out rfl rfl rfl, rfl⟩
end Go.Proofs.Ytpkfjgoimaomfaa
