import Derived.Test.YtijbblbaabmfjaaCrc4
namespace Go.Proofs.Ytijbblbaabmfjaa
open Go.RowKit
theorem eq32 (a b c d e f g h : Int) (w : World) : (Op.equalIn 10000 57 (.agg #[.int .u8 a, .int .u8 b, .int .u8 c, .int .u8 d]) (.agg #[.int .u8 e, .int .u8 f, .int .u8 g, .int .u8 h])).run Try.prog w = .ok (a == e && b == f && c == g && d == h) w := by
  have u5 := Try.underlying5
  have a5 := Try.isAgg5
  have z5 := Try.sizeOf5
  rw [show (10000 : Nat) = 9999 + 1 from rfl, Op.equalIn]
  simp only [Sem.run_bind, run_underlying Try.underlying57, Result.andThen_ok]
  simp only [Std.Legacy.Range.forIn_eq_forIn_range', Std.Legacy.Range.size, Nat.sub_zero, Nat.add_sub_cancel, Nat.div_one, List.range'_succ, List.range'_zero, List.forIn_cons, List.forIn_nil]
  go_simp
  by_cases h1 : a = e <;> by_cases h2 : b = f <;> by_cases h3 : c = g <;> by_cases h4 : d = h <;> simp [h1, h2, h3, h4]
set_option maxHeartbeats 800000 in
theorem ends_any (a : Option Addr) (n cap : Nat) (l : List Nat) (w : World) (hr : Row w a cap l) (hn : l.length = n) :
    Calls Try.prog 34 #[.slice a n cap] w (RetBool w.heap.size w (Crc.ends l)) := by
  have hcap := hr.cap
  have hle : n ≤ cap := by rw [← hn]; exact hr.le
  by_cases h4 : n < 4
  · have hf : Crc.ends l = false := by simp [Crc.ends, hn]; omega
    rw [hf]
    clear hr hn hf
    go_enter Try.func34, Try.ntmps34
    go_wp2
    go_ret
    exact ⟨rfl, Below.refl _ _⟩
  · obtain ⟨m, rfl⟩ : ∃ m, n = m + 4 := ⟨n - 4, by omega⟩
    obtain ⟨b, off, rfl, hb, hc⟩ := hr.opened (by omega)
    have hbyte := hr.byte
    obtain ⟨x0, h0⟩ : ∃ x, x = l.getD m 0 := ⟨_, rfl⟩
    obtain ⟨x1, h1⟩ : ∃ x, x = l.getD (m + 1) 0 := ⟨_, rfl⟩
    obtain ⟨x2, h2⟩ : ∃ x, x = l.getD (m + 2) 0 := ⟨_, rfl⟩
    obtain ⟨x3, h3⟩ : ∃ x, x = l.getD (m + 3) 0 := ⟨_, rfl⟩
    have c0 : w.cell? ⟨b, off + m, none⟩ = some (.int .u8 x0) := by rw [hc m (by omega), h0]
    have c1 : w.cell? ⟨b, off + m + 1, none⟩ = some (.int .u8 x1) := by rw [Nat.add_assoc, hc (m + 1) (by omega), h1]
    have c2 : w.cell? ⟨b, off + m + 2, none⟩ = some (.int .u8 x2) := by rw [Nat.add_assoc, hc (m + 2) (by omega), h2]
    have c3 : w.cell? ⟨b, off + m + 3, none⟩ = some (.int .u8 x3) := by rw [Nat.add_assoc, hc (m + 3) (by omega), h3]
    have hd : l.drop m = [x0, x1, x2, x3] := by
      have e : l.drop m = [l.getD m 0, l.getD (m + 1) 0, l.getD (m + 2) 0, l.getD (m + 3) 0] := by
        apply List.ext_getElem (by simp [hn])
        intro i hi1 hi2
        have hi : i < 4 := by simpa using hi2
        rw [List.getElem_drop]
        match i, hi with
        | 0, _ => simp [List.getD, hn]
        | 1, _ => simp [List.getD, hn]
        | 2, _ => simp [List.getD, hn]
        | 3, _ => simp [List.getD, hn]
      rw [e, h0, h1, h2, h3]
    obtain ⟨s, hs⟩ : ∃ s, s = Crc.sum (l.take m) := ⟨_, rfl⟩
    have he : Crc.ends l = ([x0, x1, x2, x3] == Crc.four s) := by
      unfold Crc.ends
      rw [hn, Nat.add_sub_cancel, hd, hs]; simp
    rw [he]
    have hrow : Row w (some ⟨b, off, none⟩) m (l.take m) := hr.take m m (Nat.le_refl _) (by omega) (fun h => by cases h)
    have htl : (l.take m).length = m := by simp [hn]
    have hend : ∀ w', Below w.heap.size w w' → Calls Try.prog 35 #[.slice (some ⟨b, off, none⟩) m m] w' fun e w1 => e = .returned (.agg #[.int .u8 ((s % 256 : Nat) : Int), .int .u8 ((s / 256 % 256 : Nat) : Int), .int .u8 ((s / 65536 % 256 : Nat) : Int), .int .u8 ((s / 16777216 % 256 : Nat) : Int)]) ∧ Below w.heap.size w w1 := by
      intro w' hb'
      refine (ending_any (some ⟨b, off, none⟩) m m (l.take m) w' (hrow.below hb') htl).mono ?_
      rintro e w1 ⟨rfl, hb1⟩
      refine ⟨by rw [← hs]; rfl, hb'.trans (hb1.mono hb'.size)⟩
    have Hend := Lib.hid hend; have Hs := Lib.hid hs
    have hb0 := Below.refl w.heap.size w
    have hArr : ∀ (w' : World) (x : Addr) (c : Nat), Sem.run Try.prog (Instr.arrayAt 57 (.slice (some x) 4 c)) w' = .ok (.pointer (some x)) w' := fun w' x c => by
      simp [Instr.arrayAt, run_underlying Try.underlying57]
    obtain ⟨r, hr0⟩ : ∃ r, r = ([x0, x1, x2, x3] == Crc.four s) := ⟨_, rfl⟩
    rw [← hr0]
    have heq : ∀ w' : World, (Op.equalIn 10000 57 (.agg #[.int .u8 ((s : Int) % 256), .int .u8 ((s : Int) / 256 % 256), .int .u8 ((s : Int) / 65536 % 256), .int .u8 ((s : Int) / 16777216 % 256)]) (.agg #[.int .u8 x0, .int .u8 x1, .int .u8 x2, .int .u8 x3])).run Try.prog w' = .ok r w' := fun w' => by
      rw [eq32, hr0]
      congr 1
      rw [Bool.eq_iff_iff]
      simp [Crc.four]
      omega
    have Hr0 := Lib.hid hr0; clear hr0
    have i0 : (0 : Int) ≤ (m : Int) := by omega
    have i1 : (m : Int) ≤ (cap : Int) := by omega
    have i2 : (m : Int) ≤ (m : Int) + 4 := by omega
    clear hr hc hbyte h0 h1 h2 h3 hd hs he hrow htl hend hn
    go_enter Try.func34, Try.ntmps34
    go_wp2_with fail
    go_region_held3 (fun w' : World => w'.cell? ⟨b, off + m, none⟩ = some (.int .u8 x0) ∧ w'.cell? ⟨b, off + m + 1, none⟩ = some (.int .u8 x1) ∧ w'.cell? ⟨b, off + m + 2, none⟩ = some (.int .u8 x2) ∧ w'.cell? ⟨b, off + m + 3, none⟩ = some (.int .u8 x3) ∧ Below w.heap.size w w') (first | assumption | exact ⟨(by assumption : Below w.heap.size w _).cell hb |>.trans c0, (by assumption : Below w.heap.size w _).cell hb |>.trans c1, (by assumption : Below w.heap.size w _).cell hb |>.trans c2, (by assumption : Below w.heap.size w _).cell hb |>.trans c3, by assumption⟩ | exact ⟨by simpa using c0, by simpa using c1, by simpa using c2, by simpa using c3, hb0.drew⟩) (first | (go_at_call 35; refine (Hend.out _ (And.right (And.right (And.right (And.right (by assumption)))))).mono ?_; rintro e w1 ⟨rfl, hbw⟩))
    all_goals
      have hfin := (by assumption : Below w.heap.size w _)
      have HF := Lib.hid hfin
      clear hfin
      go_wp2
      go_ret
      exact ⟨rfl, HF.out⟩
theorem Crc.four_byte (s : Nat) : ∀ x ∈ Crc.four s, x < 256 := by
  intro x hx; simp [Crc.four] at hx; omega
end Go.Proofs.Ytijbblbaabmfjaa
