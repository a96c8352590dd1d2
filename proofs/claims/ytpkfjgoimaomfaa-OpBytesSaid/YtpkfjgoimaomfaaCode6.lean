import Derived.Test.YtpkfjgoimaomfaaCode5
namespace Go.Proofs.Ytpkfjgoimaomfaa
open Go.RowKit Go.Buf
/-- 'b[lo:]' -/
def tailAt (a : Option Addr) (lo c : Nat) : Option Addr := if c = lo then a else a.map (·.add lo)
theorem Addr.add_add (p : Addr) (i j : Nat) : (p.add i).add j = p.add (i + j) := by
  unfold Addr.add
  by_cases hi : i = 0
  · subst hi; simp
  · by_cases hj : j = 0
    · subst hj; simp
    · simp [hi, hj, Nat.add_assoc]
theorem Row.drop {w : World} {a : Option Addr} {cap : Nat} {l : List Nat} (h : Row w a cap l) (k : Nat) (hk : k ≤ l.length) : Row w (tailAt a k cap) (cap - k) (l.drop k) := by
  have hle := h.le
  obtain ⟨h1, h2, h3, h4, h5⟩ := h
  refine ⟨by simp; omega, by omega, fun x hx => h3 x (List.mem_of_mem_drop hx), fun hn => ?_, fun i x hx => ?_⟩
  · unfold tailAt at hn
    split at hn
    · omega
    · cases a with
      | none => have := h4 rfl; omega
      | some p => simp at hn
  · rw [List.getElem?_drop] at hx
    obtain ⟨p, hp, hc⟩ := h5 (k + i) x hx
    have hlt : k + i < l.length := (List.getElem?_eq_some_iff.1 hx).1
    refine ⟨p.add k, ?_, by rw [Addr.add_add]; exact hc⟩
    unfold tailAt
    rw [if_neg (by omega), hp]; rfl
theorem run_slice_from (a : Option Addr) (n c i : Nat) (h : i ≤ n) (w : World) : Sem.run Try.prog (Instr.slice 42 (.slice a n c) (some (.int .i64 (i : Int))) none none) w = .ok (.slice (tailAt a i c) (n - i) (c - i)) w := by
  have hu := Try.underlying42
  have h0 : (0 : Int) ≤ (i : Int) := by omega
  have h1 : (i : Int) ≤ (n : Int) := by omega
  go_simp
  simp [tailAt]
/-- A reader at block p: the bytes that are left, its error. -/
structure Rdr (w : World) (p : Nat) (a : Option Addr) (n c : Nat) (l : List Nat) (er : Nat) : Prop where
  blk : w.heap[p]? = some (.cells #[.slice a n c, .int .i64 er, .bool true] 80 (0, 0))
  row : Row w a c l
  len : l.length = n
  low : 0 < l.length → ∀ q, a = some q → q.block < p
theorem Rdr.lt {w : World} {p : Nat} {a : Option Addr} {n c : Nat} {l : List Nat} {er : Nat} (h : Rdr w p a n c l er) : p < w.heap.size := (Array.getElem?_eq_some_iff.1 h.blk).1
theorem Rdr.c0 {w : World} {p : Nat} {a : Option Addr} {n c : Nat} {l : List Nat} {er : Nat} (h : Rdr w p a n c l er) : w.cell? ⟨p, 0, none⟩ = some (.slice a n c) := by rw [cell_of_row w p 0 _ _ _ h.blk]; rfl
theorem Rdr.c1 {w : World} {p : Nat} {a : Option Addr} {n c : Nat} {l : List Nat} {er : Nat} (h : Rdr w p a n c l er) : w.cell? ⟨p, 1, none⟩ = some (.int .i64 er) := by rw [cell_of_row w p 1 _ _ _ h.blk]; rfl
theorem Rdr.c2 {w : World} {p : Nat} {a : Option Addr} {n c : Nat} {l : List Nat} {er : Nat} (h : Rdr w p a n c l er) : w.cell? ⟨p, 2, none⟩ = some (.bool true) := by rw [cell_of_row w p 2 _ _ _ h.blk]; rfl
theorem Rdr.fr {w : World} {p : Nat} {a : Option Addr} {n c : Nat} {l : List Nat} {er : Nat} (h : Rdr w p a n c l er) (i : Nat) : w.frozen? ⟨p, i, none⟩ = false := frozen_of_row w p i _ _ h.blk
/-- rows lie elsewhere than a reader -/
theorem Row.off_rdr {w w' : World} {p : Nat} {a a' : Option Addr} {n c c' : Nat} {l : List Nat} {z : Value} {t : TypeId} {b : Bool} (hb : w.heap[p]? = some (.cells #[.slice a' n c', z, .bool b] t (0, 0))) (hz : ∀ x, z ≠ .int .u8 x)
    (h : Row w a c l) (hw : ∀ k, k ≠ p → k < w.heap.size → w'.heap[k]? = w.heap[k]?) : Row w' a c l := by
  obtain ⟨h1, h2, h3, h4, h5⟩ := h
  refine ⟨h1, h2, h3, h4, fun i x hx => ?_⟩
  obtain ⟨q, hq, hc⟩ := h5 i x hx
  refine ⟨q, hq, ?_⟩
  have hblk := World.block_lt_of_cell? w _ hc
  have hspot := World.cell?_spot hc
  have hne : (q.add i).block ≠ p := by
    intro e
    obtain ⟨r, hr⟩ : ∃ r, r = q.add i := ⟨_, rfl⟩
    rw [← hr] at hc hspot e
    obtain ⟨b1, o1, s1⟩ := r
    simp only at e hspot
    subst e; subst hspot
    rw [cell_of_row w b1 o1 _ _ _ hb] at hc
    match o1, hc with
    | 0, hc => simp at hc
    | 1, hc => simp at hc; exact hz _ hc
    | 2, hc => simp at hc
    | k + 3, hc => simp at hc
  exact (World.cell?_of_block (hw _ hne hblk)).trans hc
theorem Rdr.kept {w w' : World} {p : Nat} {a : Option Addr} {n c : Nat} {l : List Nat} {er : Nat} (h : Rdr w p a n c l er) (hb : Below w.heap.size w w') : Rdr w' p a n c l er := ⟨(hb.block p h.lt).trans h.blk, h.row.below hb, h.len, h.low⟩
theorem Rdr.set0 {w : World} {p : Nat} {a : Option Addr} {n c : Nat} {l : List Nat} {er : Nat} (h : Rdr w p a n c l er) (k : Nat) (hk : k ≤ n) : Rdr (w.setCell ⟨p, 0, none⟩ (.slice (tailAt a k c) (n - k) (c - k))) p (tailAt a k c) (n - k) (c - k) (l.drop k) er := by
  refine ⟨?_, ?_, by simp [h.len], fun hl q hq => ?_⟩
  · rw [heap_setCell_same w p 0 _ _ _ h.blk]; rfl
  · exact Row.off_rdr h.blk (by simp) (h.row.drop k (by rw [h.len]; exact hk)) (fun j hj _ => heap_setCell_other _ _ _ _ hj)
  · have hl2 : 0 < l.length := by rw [List.length_drop] at hl; omega
    cases a with
    | none => simp [tailAt] at hq
    | some r =>
      have := h.low hl2 r rfl
      simp only [tailAt] at hq
      split at hq
      all_goals
        simp at hq
        subst hq
        first | exact this | (unfold Addr.add; split <;> exact this)
theorem Rdr.set1 {w : World} {p : Nat} {a : Option Addr} {n c : Nat} {l : List Nat} {er : Nat} (h : Rdr w p a n c l er) (e2 : Nat) : Rdr (w.setCell ⟨p, 1, none⟩ (.int .i64 e2)) p a n c l e2 := by
  refine ⟨?_, ?_, h.len, h.low⟩
  · rw [heap_setCell_same w p 1 _ _ _ h.blk]; rfl
  · exact Row.off_rdr h.blk (by simp) h.row (fun j hj _ => heap_setCell_other _ _ _ _ hj)
theorem grown_setCell (w : World) (p i : Nat) (v : Value) : w.grownBy (w.setCell ⟨p, i, none⟩ v) (some p) := ⟨rfl, rfl, rfl, by simp [World.setCell], fun k _ hne => heap_setCell_other _ _ _ _ (fun e => hne (by rw [e]))⟩
set_option maxHeartbeats 400000 in
theorem err_any (p : Nat) (a : Option Addr) (n c : Nat) (l : List Nat) (er : Nat) (w : World) (h : Rdr w p a n c l er) :
    Calls Try.prog 49 #[.pointer (some ⟨p, 0, none⟩)] w fun e w' => e = .returned (.int .i64 er) ∧ w = w' := by
  have h1 := h.c1
  have h2 := h.c2
  clear h
  go_enter Try.func49, Try.ntmps49
  go_wp2
  go_ret
  exact ⟨rfl, rfl⟩
set_option maxHeartbeats 400000 in
theorem err_nil (w : World) : Calls Try.prog 49 #[.pointer none] w fun e w' => e = .returned (.int .i64 1) ∧ w = w' := by
  go_enter Try.func49, Try.ntmps49
  go_wp2
  go_ret
  exact ⟨rfl, rfl⟩
set_option maxHeartbeats 400000 in
theorem left_any (p : Nat) (a : Option Addr) (n c : Nat) (l : List Nat) (er : Nat) (w : World) (h : Rdr w p a n c l er) :
    Calls Try.prog 47 #[.pointer (some ⟨p, 0, none⟩)] w fun e w' => e = .returned (.int .i64 n) ∧ w = w' := by
  have h1 := h.c0
  clear h
  go_enter Try.func47, Try.ntmps47
  go_wp2
  go_ret
  exact ⟨rfl, rfl⟩
set_option maxHeartbeats 400000 in
theorem left_nil (w : World) : Calls Try.prog 47 #[.pointer none] w fun e w' => e = .returned (.int .i64 0) ∧ w = w' := by
  go_enter Try.func47, Try.ntmps47
  go_wp2
  go_ret
  exact ⟨rfl, rfl⟩
set_option maxHeartbeats 400000 in
theorem fail_nil (z : Int) (w : World) : Calls Try.prog 48 #[.pointer none, .int .i64 z] w fun e w' => e = .returned (.tuple #[]) ∧ w = w' := by
  go_enter Try.func48, Try.ntmps48
  go_wp2_with fail
  refine (err_nil _).mono ?_
  rintro e w' ⟨rfl, rfl⟩
  go_wp2_with fail
  go_end0
  exact ⟨rfl, rfl⟩
set_option maxHeartbeats 400000 in
theorem fail_ok (p : Nat) (a : Option Addr) (n c : Nat) (l : List Nat) (z : Nat) (w : World) (h : Rdr w p a n c l 0) :
    Calls Try.prog 48 #[.pointer (some ⟨p, 0, none⟩), .int .i64 z] w fun e w' => e = .returned (.tuple #[]) ∧ Rdr w' p a n c l z ∧ w.grownBy w' (some p) := by
  have H := Lib.hid h
  have h1 := h.c1
  have hf := h.fr 1
  clear h
  go_enter Try.func48, Try.ntmps48
  go_wp2_with fail
  refine (err_any p a n c l 0 _ H.out).mono ?_
  rintro e w' ⟨rfl, rfl⟩
  go_wp2_with fail
  go_end0
  exact ⟨rfl, H.out.set1 z, grown_setCell _ _ _ _⟩
set_option maxHeartbeats 400000 in
theorem fail_no (p : Nat) (a : Option Addr) (n c : Nat) (l : List Nat) (er z : Nat) (w : World) (h : Rdr w p a n c l er) (he : er ≠ 0) :
    Calls Try.prog 48 #[.pointer (some ⟨p, 0, none⟩), .int .i64 z] w fun e w' => e = .returned (.tuple #[]) ∧ w = w' := by
  have H := Lib.hid h
  have t : ((er : Int) == 0) = false := by simp; omega
  clear h he
  go_enter Try.func48, Try.ntmps48
  go_wp2_with fail
  refine (err_any p a n c l er _ H.out).mono ?_
  rintro e w' ⟨rfl, rfl⟩
  go_wp2_with fail
  go_end0
  exact ⟨rfl, rfl⟩
set_option maxHeartbeats 400000 in
theorem rnum_any (p : Nat) (a : Option Addr) (n c : Nat) (l : List Nat) (er : Nat) (w : World) (h : Rdr w p a n c l er) :
    Calls Try.prog 57 #[.pointer (some ⟨p, 0, none⟩)] w fun e w' => e = .returned (num3 (Cd.rd l)) ∧ w = w' := by
  have H := Lib.hid h
  have h1 := h.c0
  clear h
  go_enter Try.func57, Try.ntmps57
  go_wp2_with fail
  refine (number_any a n c l _ H.out.row H.out.len).mono ?_
  rintro e w' ⟨rfl, rfl⟩
  unfold num3
  go_wp2_with fail
  go_ret3
  exact ⟨rfl, rfl⟩
set_option maxHeartbeats 400000 in
theorem rwhole_any (p : Nat) (a : Option Addr) (n c : Nat) (l : List Nat) (er : Nat) (w : World) (h : Rdr w p a n c l er) :
    Calls Try.prog 70 #[.pointer (some ⟨p, 0, none⟩)] w fun e w' => e = .returned (.tuple #[.int .i64 (Cd.sgn (Cd.rd l).1), .int .i64 ((Cd.rd l).2.1 : Nat), .int .i64 ((Cd.rd l).2.2 : Nat)]) ∧ w = w' := by
  have H := Lib.hid h
  have h1 := h.c0
  have hl := Cd.rd_lt h.row.byte
  have HL := Lib.hid hl
  clear h hl
  go_enter Try.func70, Try.ntmps70
  go_wp2_with fail
  refine (number_any a n c l _ H.out.row H.out.len).mono ?_
  rintro e w' ⟨rfl, rfl⟩
  unfold num3
  go_wp2_with fail
  refine (signed_any _ _ HL.out).mono ?_
  rintro e w' ⟨rfl, rfl⟩
  go_wp2_with fail
  go_ret3
  exact ⟨rfl, rfl⟩
end Go.Proofs.Ytpkfjgoimaomfaa
