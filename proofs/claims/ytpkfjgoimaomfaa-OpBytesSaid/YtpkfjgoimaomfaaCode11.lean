import Derived.Test.YtpkfjgoimaomfaaCode9
namespace Go.Proofs.Ytpkfjgoimaomfaa
open Go.RowKit Go.Buf
def pre (l : List Nat) : List Nat := Cd.num l.length ++ l
theorem frameL_eq (l : List Nat) : frameL l = pre l ++ Crc.four (Crc.sum (pre l)) := rfl
theorem frameL_len (l : List Nat) : (frameL l).length = (Cd.num l.length).length + l.length + 4 := by rw [frameL_eq, List.length_append]; simp [pre, Crc.four]
theorem pre_byte {l : List Nat} (h : ∀ x ∈ l, x < 256) (hl : l.length ≤ 1048576) : ∀ x ∈ pre l, x < 256 := fun x hx => by
  rcases List.mem_append.1 hx with hx | hx
  · exact Cd.num_byte (by omega) x hx
  · exact h x hx
theorem frameL_byte {l : List Nat} (h : ∀ x ∈ l, x < 256) (hl : l.length ≤ 1048576) : ∀ x ∈ frameL l, x < 256 := fun x hx => by
  rw [frameL_eq] at hx
  rcases List.mem_append.1 hx with hx | hx
  · exact pre_byte h hl x hx
  · exact Crc.four_byte _ x hx
theorem unfr_frame (l r : List Nat) (hl : l.length ≤ 1048576) : unfr (frameL l ++ r) = (l, (frameL l).length, 0) := by
  have hrd : Cd.rd (frameL l ++ r) = (l.length, (Cd.num l.length).length, 0) := by
    rw [frameL_eq, pre, List.append_assoc, List.append_assoc]; exact Cd.rd_num (by omega) _
  have hlen := frameL_len l
  have ht : (frameL l ++ r).take ((Cd.num l.length).length + l.length + 4) = frameL l := by rw [← hlen]; exact List.take_left
  unfold unfr Cd.unframe
  rw [hrd]
  simp only
  rw [if_neg (by simp), if_neg (by omega), if_neg (by rw [List.length_append, hlen]; omega), ht]
  have he : Crc.ends (frameL l) = true := by rw [frameL_eq]; exact Crc.ends_append (pre l)
  rw [if_pos he, hlen]
  congr 1
  rw [frameL_eq, pre, List.append_assoc, List.append_assoc, List.drop_left, List.take_left]
theorem unfr_short (l : List Nat) (hl : l.length ≤ 1048576) : unfr ((frameL l).take ((frameL l).length - 1)) = ([], 0, 5) := by
  have hlen := frameL_len l
  have e : (frameL l).take ((frameL l).length - 1) = Cd.num l.length ++ (l ++ (Crc.four (Crc.sum (pre l))).take 3) := by
    rw [hlen, frameL_eq, pre, List.append_assoc, show (Cd.num l.length).length + l.length + 4 - 1 = (Cd.num l.length).length + (l.length + 3) from by omega]
    rw [List.take_length_add_append, List.take_length_add_append]
  have hrd : Cd.rd ((frameL l).take ((frameL l).length - 1)) = (l.length, (Cd.num l.length).length, 0) := by rw [e]; exact Cd.rd_num (by omega) _
  have hlt : ((frameL l).take ((frameL l).length - 1)).length < (Cd.num l.length).length + l.length + 4 := by simp; omega
  unfold unfr Cd.unframe
  rw [hrd]
  simp only
  rw [if_neg (by simp), if_neg (by omega), if_pos hlt]
theorem unfr_set (l : List Nat) (hb : ∀ x ∈ l, x < 256) (hl : l.length < 128) (i x : Nat) (hi : 0 < i) (hil : i < (frameL l).length) (hx : x < 256) (hne : x ≠ (frameL l).getD i 0) : unfr ((frameL l).set i x) = ([], 0, 6) := by
  have hlen := frameL_len l
  have hn : Cd.num l.length = [l.length] := Cd.num_small hl
  have hlen2 : (frameL l).length = l.length + 5 := by rw [hlen, hn]; simp; omega
  obtain ⟨j, rfl⟩ : ∃ j, i = j + 1 := ⟨i - 1, by omega⟩
  have e : (frameL l).set (j + 1) x = Cd.num l.length ++ (l ++ Crc.four (Crc.sum (pre l))).set j x := by
    rw [frameL_eq, pre, hn]; rfl
  have hrd : Cd.rd ((frameL l).set (j + 1) x) = (l.length, 1, 0) := by rw [e, Cd.rd_num (by omega), hn]; rfl
  have he : Crc.ends ((frameL l).set (j + 1) x) = false := by
    have := Crc.ends_set (pre l) (j + 1) x (pre_byte hb (by omega)) hx (by have h2 := hil; rw [frameL_eq, List.length_append] at h2; simpa [Crc.four] using h2)
    rw [frameL_eq]
    rw [this]
    rw [frameL_eq] at hne
    exact beq_eq_false_iff_ne.2 hne
  unfold unfr Cd.unframe
  rw [hrd]
  simp only
  rw [if_neg (by simp), if_neg (by omega), if_neg (by rw [List.length_set]; omega)]
  have ht : ((frameL l).set (j + 1) x).take (1 + l.length + 4) = (frameL l).set (j + 1) x := List.take_of_length_le (by rw [List.length_set]; omega)
  rw [ht, he]; rfl
/-- what is read of what was written -/
theorem numR_num {n : Nat} (h : n < 18446744073709551616) (r : List Nat) : numR (Cd.num n ++ r) 0 = (n, r, 0) := by
  unfold numR step; rw [Cd.rd_num h]; simp
theorem intR_num {m : Int} (h1 : -9223372036854775808 ≤ m) (h2 : m ≤ 9223372036854775807) (r : List Nat) : intR (Cd.num (Cd.uns m) ++ r) 0 = (m, r, 0) := by
  unfold intR step; rw [Cd.rd_num (Cd.uns_lt h1 h2)]; simp [Cd.sgn_uns]
theorem txtR_text (s r : List Nat) (most : Int) (hm : (s.length : Int) ≤ most) (hs : s.length < 18446744073709551616) : txtR (Cd.num s.length ++ (s ++ r)) 0 most = (s, r, 0) := by
  unfold txtR step; rw [Cd.rdText_text s r most hm hs]; simp
end Go.Proofs.Ytpkfjgoimaomfaa
