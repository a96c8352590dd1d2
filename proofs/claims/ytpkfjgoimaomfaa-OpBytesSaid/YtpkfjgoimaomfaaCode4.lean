import Derived.Test.YtpkfjgoimaomfaaCode3
import Derived.Test.YtpkfjgoimaomfaaCrc5
namespace Go.Proofs.Ytpkfjgoimaomfaa
open Go.RowKit Go.Buf
set_option maxHeartbeats 400000 in
theorem int_any (B : Nat) (v : Value) (l : List Nat) (row : Option Nat) (m : Int) (w : World) (hb : BB B w v l row) (h1 : -9223372036854775808 ≤ m) (h2 : m ≤ 9223372036854775807) (hsm : l.length + 10 ≤ 140737488355328) :
    Calls Try.prog 37 #[v, .int .i64 m] w (RetBB B w row (l ++ Cd.num (Cd.uns m))) := by
  have Hb := Lib.hid hb; clear hb
  have hu := Cd.uns_lt h1 h2
  have HU := Lib.hid hu; clear hu
  go_enter Try.func37, Try.ntmps37
  go_wp2_with fail
  refine (unsigned_any m _ h1 h2).mono ?_
  rintro e w' ⟨rfl, rfl⟩
  go_wp2_with fail
  refine (num_any B v l row (Cd.uns m) _ Hb.out HU.out hsm).mono ?_
  rintro e w1 ⟨v1, row1, rfl, h3, h4, h5⟩
  have H3 := Lib.hid h3; have H4 := Lib.hid h4; have H5 := Lib.hid h5; clear h3 h4 h5
  go_wp2_with fail
  go_ret
  exact ⟨v1, row1, rfl, H3.out, H4.out, H5.out⟩
set_option maxHeartbeats 400000 in
theorem text_any (B : Nat) (v : Value) (l : List Nat) (row : Option Nat) (s : ByteArray) (w : World) (hb : BB B w v l row) (hs : s.size ≤ 9223372036854775807) (hsm : l.length + 10 + s.size ≤ 140737488355328) :
    Calls Try.prog 36 #[v, .string s] w (RetBB B w row (l ++ (Cd.num s.size ++ strL s))) := by
  have Hb := Lib.hid hb; clear hb
  have hu : s.size < 18446744073709551616 := by omega
  have HU := Lib.hid hu; clear hu
  have hnl := Cd.num_len s.size
  go_enter Try.func36, Try.ntmps36
  go_wp2_with fail
  refine (num_any B v l row s.size _ Hb.out HU.out (by omega)).mono ?_
  rintro e w1 ⟨v1, row1, rfl, h3, h4, h5⟩
  have H3 := Lib.hid h3; have H4 := Lib.hid h4; have H5 := Lib.hid h5; clear h3 h4 h5
  have hlen : (l ++ Cd.num s.size).length + s.size ≤ 140737488355328 := by rw [List.length_append]; omega
  go_wp2_with (refine wpList_append_bb rfl (.tmp 9) (.tmp 10) 9 rfl B _ (l ++ Cd.num s.size) row1 rfl H3.out _ s.size (strL s) rfl (src_str s) (strL_length s) (strL_byte s) hlen ?_; intro v' w3 row3 h1 h2 h3)
  rw [List.append_assoc] at h1
  have HA := Lib.hid h1; have HB := Lib.hid h2; have HC := Lib.hid h3
  clear h1 h2 h3
  go_wp2_with fail
  go_ret
  exact ⟨v', row3, rfl, HA.out, grown_trans H4.out HB.out H5.out, H5.out.trans HC.out H4.out.size⟩
theorem Row.alloc {w : World} {a : Option Addr} {cap : Nat} {l : List Nat} (h : Row w a cap l) (o : Obj) : Row (w.alloc o) a cap l := h.below ((Below.refl _ _).alloc (Nat.le_refl _) o)
/-- a slice literal without elements -/
theorem BB.empty (w : World) : BB w.heap.size (w.alloc (.cells #[] 5)) (.slice (some ⟨w.heap.size, 0, none⟩) 0 0) [] (some w.heap.size) :=
  ⟨by simp, Buf.own (World.ownsRow_made w #[] 0 (Nat.le_refl _) (by unfold maxLen; omega) rfl) (by simp)⟩
theorem ret_new {B : Nat} {w w' : World} {v : Value} {l : List Nat} {row' : Option Nat} (hb : BB B w' v l row') (h : Below B w w') (hB : w.heap.size ≤ B) : RetBB B w none l (.returned v) w' := by
  refine ⟨v, row', rfl, hb, ⟨h.os, h.tape, h.output, h.size, fun k hk _ => h.block k (by omega)⟩, ?_⟩
  cases row' with
  | none => exact Or.inl rfl
  | some k => exact Or.inr ⟨k, rfl, Nat.le_trans hB (hb.2.row_le k rfl).1⟩
theorem RetBB.below {w w' : World} {l : List Nat} {e : Ending} (h : RetBB w.heap.size w none l e w') : ∃ v row', e = .returned v ∧ BB w.heap.size w' v l row' ∧ Below w.heap.size w w' := by
  obtain ⟨v, row', h1, h2, h3, h4⟩ := h
  exact ⟨v, row', h1, h2, below_of_grown h3 (Nat.le_refl _) (fun k hk => by cases hk)⟩
set_option maxHeartbeats 400000 in
theorem clone_any (a : Option Addr) (n cap : Nat) (l : List Nat) (w : World) (hr : Row w a cap l) (hn : l.length = n) (hsm : n ≤ 140737488355328) :
    Calls Try.prog 55 #[.slice a n cap] w (RetBB w.heap.size w none l) := by
  have Hr := Lib.hid hr; have Hn := Lib.hid hn
  have ke := fun (w : World) (a : Option Addr) (n c : Nat) => Lib.run_eql_slice_nil (P := Try.prog) w 42 5 a n c 0 0 Try.underlying42
  cases a with
  | none =>
    have hc := hr.2.2.2.1 rfl
    have hle := hr.le
    have hl : l = [] := List.eq_nil_of_length_eq_zero (by omega)
    subst hl
    have hn' : n = 0 := by rw [← hn]; rfl
    subst hn'
    subst hc
    clear hr hn hle Hr Hn
    go_enter Try.func55, Try.ntmps55
    go_wp2
    go_ret
    exact ret_new (BB.nil (Nat.le_refl _)) (Below.refl _ _) (Nat.le_refl _)
  | some p =>
    clear hr hn
    go_enter Try.func55, Try.ntmps55
    go_wp2_with (refine wpList_append_bb rfl (.tmp 5) (.tmp 6) 42 rfl w.heap.size _ [] _ rfl (BB.empty w) _ n l rfl (src_row (Hr.out.alloc _) Hn.out) Hn.out Hr.out.byte (by simp; omega) ?_; intro v' w3 row3 h1 h2 h3)
    rw [List.nil_append] at h1
    have hbel : Below w.heap.size w w3 := ((Below.refl _ _).alloc (Nat.le_refl _) _).trans (below_of_grown h2 (by simp) (fun k hk => by cases hk; exact Nat.le_refl _))
    have H1 := Lib.hid h1; have H2 := Lib.hid hbel
    clear h1 h2 h3 hbel
    go_wp2_with fail
    go_ret
    exact ret_new H1.out H2.out (Nat.le_refl _)
def frameL (l : List Nat) : List Nat := Cd.frame (fun x => Crc.four (Crc.sum x)) l
theorem bb_of_own {B : Nat} {w : World} {v : Value} {l : List Nat} (h : w.ownsRow B 5 1 v l.length (bytesV l)) (hb : ∀ x ∈ l, x < 256) (hB : B ≤ w.heap.size) : BB B w v l v.ownBlock := ⟨hb, Buf.own h hB⟩
theorem frameL_byte0 {l : List Nat} (h : ∀ x ∈ l, x < 256) (hl : l.length ≤ 1048576) : ∀ x ∈ frameL l, x < 256 := fun x hx => by
  unfold frameL Cd.frame at hx
  rcases List.mem_append.1 hx with hx | hx
  · rcases List.mem_append.1 hx with hx | hx
    · exact Cd.num_byte (by omega) x hx
    · exact h x hx
  · exact Crc.four_byte _ x hx
end Go.Proofs.Ytpkfjgoimaomfaa
