import Derived.Test.YtplafpchgfjomaaZCode3
namespace Go.Proofs.Ytplafpchgfjomaa
open Go.RowKit Go.Buf
def tailAt (a : Option Addr) (lo c : Nat) : Option Addr := if c = lo then a else a.map (·.add lo)
theorem Addr.add_add (p : Addr) (i j : Nat) : (p.add i).add j = p.add (i + j) := by
 unfold Addr.add
 by_cases hi : i = 0
 ·subst hi; simp
 ·by_cases hj : j = 0
  ·subst hj; simp
  ·simp [hi, hj, Nat.add_assoc]
theorem Row.drop {w : World} {a : Option Addr} {cap : Nat} {l : List Nat} (h : Row w a cap l) (k : Nat) (hk : k ≤ l.length) : Row w (tailAt a k cap) (cap - k) (l.drop k) := by
 have hle := h.le
 obtain ⟨h1, h2, h3, h4, h5⟩ := h
 refine ⟨by simp; omega, by omega, fun x hx => h3 x (List.mem_of_mem_drop hx), fun hn => ?_, fun i x hx => ?_⟩
 ·unfold tailAt at hn
  split at hn
  ·omega
  ·cases a with
   | none => have := h4 rfl; omega
   | some p => simp at hn
 ·rw [List.getElem?_drop] at hx
  obtain ⟨p, hp, hc⟩ := h5 (k + i) x hx
  have hlt : k + i < l.length := (List.getElem?_eq_some_iff.1 hx).1
  refine ⟨p.add k, ?_, by rw [Addr.add_add]; exact hc⟩
  unfold tailAt
  rw [if_neg (by omega), hp]; rfl
theorem run_slice_from (a : Option Addr) (n c i : Nat) (h : i ≤ n) (w : World) : Sem.run Try.prog (Instr.slice 26 (.slice a n c) (some (.int .i64 (i : Int))) none none) w = .ok (.slice (tailAt a i c) (n - i) (c - i)) w := by
 have hu := Try.underlying26
 have h0 : (0 : Int) ≤ (i : Int) := by omega
 have h1 : (i : Int) ≤ (n : Int) := by omega
 go_simp
 simp [tailAt]
structure Rdr (w : World) (p : Nat) (a : Option Addr) (n c : Nat) (l : List Nat) (er : Nat) : Prop where
  blk : w.heap[p]? = some (.cells #[.slice a n c, .int .i64 er, .bool true] 64 (0, 0))
  row : Row w a c l
  len : l.length = n
  low : 0 < l.length → ∀ q, a = some q → q.block < p
theorem Rdr.lt {w : World} {p : Nat} {a : Option Addr} {n c : Nat} {l : List Nat} {er : Nat} (h : Rdr w p a n c l er) : p < w.heap.size := (Array.getElem?_eq_some_iff.1 h.blk).1
theorem Rdr.c0 {w : World} {p : Nat} {a : Option Addr} {n c : Nat} {l : List Nat} {er : Nat} (h : Rdr w p a n c l er) : w.cell? ⟨p, 0, none⟩ = some (.slice a n c) := by rw [cell_of_row w p 0 _ _ _ h.blk]; rfl
theorem Rdr.c1 {w : World} {p : Nat} {a : Option Addr} {n c : Nat} {l : List Nat} {er : Nat} (h : Rdr w p a n c l er) : w.cell? ⟨p, 1, none⟩ = some (.int .i64 er) := by rw [cell_of_row w p 1 _ _ _ h.blk]; rfl
theorem Rdr.c2 {w : World} {p : Nat} {a : Option Addr} {n c : Nat} {l : List Nat} {er : Nat} (h : Rdr w p a n c l er) : w.cell? ⟨p, 2, none⟩ = some (.bool true) := by rw [cell_of_row w p 2 _ _ _ h.blk]; rfl
theorem Rdr.fr {w : World} {p : Nat} {a : Option Addr} {n c : Nat} {l : List Nat} {er : Nat} (h : Rdr w p a n c l er) (i : Nat) : w.frozen? ⟨p, i, none⟩ = false := frozen_of_row w p i _ _ h.blk
theorem Row.off_rdr {w w' : World} {p : Nat} {a a' : Option Addr} {n c c' : Nat} {l : List Nat} {z : Value} {t : TypeId} {b : Bool} (hb : w.heap[p]? = some (.cells #[.slice a' n c', z, .bool b] t (0, 0))) (hz : ∀ x, z ≠ .int .u8 x)
  (h : Row w a c l) (hw : ∀ k, k ≠ p → k < w.heap.size → w'.heap[k]? = w.heap[k]?) : Row w' a c l := by
 obtain ⟨h1, h2, h3, h4, h5⟩ := h
 refine ⟨h1, h2, h3, h4, fun i x hx => ?_⟩
 obtain ⟨q, hq, hc⟩ := h5 i x hx
 refine ⟨q, hq, ?_⟩
 have hblk := World.block_lt_of_cell? w _ hc
 have hspot := World.cell?_spot hc
 have hne : (q.add i).block ≠ p := by
  intro e
  obtain ⟨r, hr⟩ : ∃ r, r = q.add i := ⟨_, rfl⟩
  rw [← hr] at hc hspot e
  obtain ⟨b1, o1, s1⟩ := r
  simp only at e hspot
  subst e; subst hspot
  rw [cell_of_row w b1 o1 _ _ _ hb] at hc
  match o1, hc with
  | 0, hc => simp at hc
  | 1, hc => simp at hc; exact hz _ hc
  | 2, hc => simp at hc
  | k + 3, hc => simp at hc
 exact (World.cell?_of_block (hw _ hne hblk)).trans hc
theorem Rdr.kept {w w' : World} {p : Nat} {a : Option Addr} {n c : Nat} {l : List Nat} {er : Nat} (h : Rdr w p a n c l er) (hb : Below w.heap.size w w') : Rdr w' p a n c l er := ⟨(hb.block p h.lt).trans h.blk, h.row.below hb, h.len, h.low⟩
theorem Rdr.set0 {w : World} {p : Nat} {a : Option Addr} {n c : Nat} {l : List Nat} {er : Nat} (h : Rdr w p a n c l er) (k : Nat) (hk : k ≤ n) : Rdr (w.setCell ⟨p, 0, none⟩ (.slice (tailAt a k c) (n - k) (c - k))) p (tailAt a k c) (n - k) (c - k) (l.drop k) er := by
 refine ⟨?_, ?_, by simp [h.len], fun hl q hq => ?_⟩
 ·rw [heap_setCell_same w p 0 _ _ _ h.blk]; rfl
 ·exact Row.off_rdr h.blk (by simp) (h.row.drop k (by rw [h.len]; exact hk)) (fun j hj _ => heap_setCell_other _ _ _ _ hj)
 ·have hl2 : 0 < l.length := by rw [List.length_drop] at hl; omega
  cases a with
  | none => simp [tailAt] at hq
  | some r =>
   have := h.low hl2 r rfl
   simp only [tailAt] at hq
   split at hq
   all_goals
    simp at hq
    subst hq
    first | exact this | (unfold Addr.add; split <;> exact this)
theorem Rdr.set1 {w : World} {p : Nat} {a : Option Addr} {n c : Nat} {l : List Nat} {er : Nat} (h : Rdr w p a n c l er) (e2 : Nat) : Rdr (w.setCell ⟨p, 1, none⟩ (.int .i64 e2)) p a n c l e2 := by
 refine ⟨?_, ?_, h.len, h.low⟩
 ·rw [heap_setCell_same w p 1 _ _ _ h.blk]; rfl
 ·exact Row.off_rdr h.blk (by simp) h.row (fun j hj _ => heap_setCell_other _ _ _ _ hj)
theorem grown_setCell (w : World) (p i : Nat) (v : Value) : w.grownBy (w.setCell ⟨p, i, none⟩ v) (some p) := ⟨rfl, rfl, rfl, by simp [World.setCell], fun k _ hne => heap_setCell_other _ _ _ _ (fun e => hne (by rw [e]))⟩
set_option maxHeartbeats 400000 in
theorem err_any (p : Nat) (a : Option Addr) (n c : Nat) (l : List Nat) (er : Nat) (w : World) (h : Rdr w p a n c l er) :
  Calls Try.prog 17 #[.pointer (some ⟨p, 0, none⟩)] w fun e w' => e = .returned (.int .i64 er) ∧ w = w' := by
 have h1 := h.c1
 have h2 := h.c2
 clear h
 go_enter Try.func17, Try.ntmps17
 go_wp2
 go_ret
 exact ⟨rfl, rfl⟩
set_option maxHeartbeats 400000 in
theorem left_any (p : Nat) (a : Option Addr) (n c : Nat) (l : List Nat) (er : Nat) (w : World) (h : Rdr w p a n c l er) :
  Calls Try.prog 15 #[.pointer (some ⟨p, 0, none⟩)] w fun e w' => e = .returned (.int .i64 n) ∧ w = w' := by
 have h1 := h.c0
 clear h
 go_enter Try.func15, Try.ntmps15
 go_wp2
 go_ret
 exact ⟨rfl, rfl⟩
set_option maxHeartbeats 400000 in
theorem fail_ok (p : Nat) (a : Option Addr) (n c : Nat) (l : List Nat) (z : Nat) (w : World) (h : Rdr w p a n c l 0) :
  Calls Try.prog 16 #[.pointer (some ⟨p, 0, none⟩), .int .i64 z] w fun e w' => e = .returned (.tuple #[]) ∧ Rdr w' p a n c l z ∧ w.grownBy w' (some p) := by
 have H := Lib.hid h
 have h1 := h.c1
 have hf := h.fr 1
 clear h
 go_enter Try.func16, Try.ntmps16
 go_wp2_with fail
 refine (err_any p a n c l 0 _ H.out).mono ?_
 rintro e w' ⟨rfl, rfl⟩
 go_wp2_with fail
 go_end0
 exact ⟨rfl, H.out.set1 z, grown_setCell _ _ _ _⟩
set_option maxHeartbeats 400000 in
theorem fail_no (p : Nat) (a : Option Addr) (n c : Nat) (l : List Nat) (er z : Nat) (w : World) (h : Rdr w p a n c l er) (he : er ≠ 0) :
  Calls Try.prog 16 #[.pointer (some ⟨p, 0, none⟩), .int .i64 z] w fun e w' => e = .returned (.tuple #[]) ∧ w = w' := by
 have H := Lib.hid h
 have t : ((er : Int) == 0) = false := by simp; omega
 clear h he
 go_enter Try.func16, Try.ntmps16
 go_wp2_with fail
 refine (err_any p a n c l er _ H.out).mono ?_
 rintro e w' ⟨rfl, rfl⟩
 go_wp2_with fail
 go_end0
 exact ⟨rfl, rfl⟩
set_option maxHeartbeats 400000 in
theorem rnum_any (p : Nat) (a : Option Addr) (n c : Nat) (l : List Nat) (er : Nat) (w : World) (h : Rdr w p a n c l er) :
  Calls Try.prog 47 #[.pointer (some ⟨p, 0, none⟩)] w fun e w' => e = .returned (num3 (Cd.rd l)) ∧ w = w' := by
 have H := Lib.hid h
 have h1 := h.c0
 clear h
 go_enter Try.func47, Try.ntmps47
 go_wp2_with fail
 refine (number_any a n c l _ H.out.row H.out.len).mono ?_
 rintro e w' ⟨rfl, rfl⟩
 unfold num3
 go_wp2_with fail
 go_ret3
 exact ⟨rfl, rfl⟩
set_option maxHeartbeats 400000 in
theorem rwhole_any (p : Nat) (a : Option Addr) (n c : Nat) (l : List Nat) (er : Nat) (w : World) (h : Rdr w p a n c l er) :
  Calls Try.prog 51 #[.pointer (some ⟨p, 0, none⟩)] w fun e w' => e = .returned (.tuple #[.int .i64 (Cd.sgn (Cd.rd l).1), .int .i64 ((Cd.rd l).2.1 : Nat), .int .i64 ((Cd.rd l).2.2 : Nat)]) ∧ w = w' := by
 have H := Lib.hid h
 have h1 := h.c0
 have hl := Cd.rd_lt h.row.byte
 have HL := Lib.hid hl
 clear h hl
 go_enter Try.func51, Try.ntmps51
 go_wp2_with fail
 refine (number_any a n c l _ H.out.row H.out.len).mono ?_
 rintro e w' ⟨rfl, rfl⟩
 unfold num3
 go_wp2_with fail
 refine (signed_any _ _ HL.out).mono ?_
 rintro e w' ⟨rfl, rfl⟩
 go_wp2_with fail
 go_ret3
 exact ⟨rfl, rfl⟩
end Go.Proofs.Ytplafpchgfjomaa
namespace Go.Proofs.Ytplafpchgfjomaa
open Go.RowKit Go.Buf
theorem Row.string {w : World} {a : Option Addr} {n cap : Nat} {l : List Nat} (hr : Row w a cap l) (hn : l.length = n) :
  Sem.run Try.prog (convert 26 9 (.slice a n cap)) w = .ok (.string (strB l)) w := conv_row hr hn
def txt3 (r : List Nat × Nat × Nat) : Value := .tuple #[.string (strB r.1), .int .i64 (r.2.1 : Nat), .int .i64 (r.2.2 : Nat)]
theorem txt_none {r : List Nat × Nat × Nat} {k : Nat} (h : r = ([], 0, k)) {z : Int} (hz : z = k) : Ending.returned (.tuple #[.string ⟨#[]⟩, .int .i64 0, .int .i64 z]) = .returned (txt3 r) := by subst h; subst hz; rfl
theorem run_slice_mid (a : Option Addr) (n c s x : Nat) (h : s + x ≤ n) (hc : n ≤ c) (w : World) : Sem.run Try.prog (Instr.slice 26 (.slice a n c) (some (.int .i64 (s : Int))) (some (.int .i64 ((s : Int) + (x : Int)))) none) w = .ok (.slice (tailAt a s c) x (c - s)) w := by
 have hu := Try.underlying26
 have h0 : (0 : Int) ≤ (s : Int) := by omega
 have h1 : (s : Int) ≤ (s : Int) + (x : Int) := by omega
 have h2 : (s : Int) + (x : Int) ≤ (c : Int) := by omega
 go_simp
 simp [tailAt]
 omega
set_option maxRecDepth 100000 in
set_option maxHeartbeats 1600000 in
theorem text_step (p q1 q2 : Nat) (a : Option Addr) (n c : Nat) (l : List Nat) (er : Nat) (most : Int) (w : World) (h : Rdr w p a n c l er)
  (k1 : w.cell? ⟨q1, 0, none⟩ = some (.pointer (some ⟨p, 0, none⟩))) (k2 : w.cell? ⟨q2, 0, none⟩ = some (.int .i64 most)) (hm1 : -9223372036854775808 ≤ most) (hm2 : most ≤ 9223372036854775807) :
  Calls Try.prog 48 #[.pointer (some ⟨q1, 0, none⟩), .pointer (some ⟨q2, 0, none⟩)] w fun e w' => e = .returned (txt3 (Cd.rdText l most)) ∧ w = w' := by
 have H := Lib.hid h
 have h1 := h.c0
 have hcap := h.row.cap
 have hle : n ≤ c := by rw [← h.len]; exact h.row.le
 have hsz := Cd.rd_size l
 have hs10 := Cd.rd_size10 l
 have hlt := Cd.rd_lt h.row.byte
 obtain ⟨x, hx⟩ : ∃ x, x = (Cd.rd l).1 := ⟨_, rfl⟩
 obtain ⟨s, hs⟩ : ∃ s, s = (Cd.rd l).2.1 := ⟨_, rfl⟩
 obtain ⟨ee, he⟩ : ∃ ee, ee = (Cd.rd l).2.2 := ⟨_, rfl⟩
 have hrd : Cd.rd l = (x, s, ee) := by rw [hx, hs, he]
 rw [← hs] at hsz hs10
 rw [← hx] at hlt
 rw [h.len] at hsz
 obtain ⟨mx, hmx⟩ : ∃ mx : Nat, mx = (max most 0).toNat := ⟨_, rfl⟩
 have hun : Cd.rdText l most = if ee ≠ 0 then ([], 0, ee) else if mx < x then ([], 0, 3) else if n - s < x then ([], 0, 5) else ((l.drop s).take x, s + x, 0) := by
  unfold Cd.rdText; rw [hrd, ← hmx, h.len]
 have Hrd := Lib.hid hrd; have HL := Lib.hid hlt
 clear h hx hs he hrd hlt
 by_cases h0 : ee ≠ 0
 ·rw [if_pos h0] at hun
  have HU := Lib.hid hun; have Hm := Lib.hid hmx
  have t0 : ((ee : Int) != 0) = true := by simp; omega
  clear hun h0 hmx
  go_enter Try.func48, Try.ntmps48
  go_wp2_with fail
  refine (number_any a n c l _ H.out.row H.out.len).mono ?_
  rintro e w' ⟨rfl, rfl⟩
  rw [Hrd.out]
  unfold num3
  go_wp2_with fail
  go_ret3
  exact ⟨txt_none HU.out rfl, rfl⟩
 rw [if_neg h0] at hun
 obtain rfl : ee = 0 := by omega
 clear h0
 by_cases hneg : most < 0
 ·have hmx0 : mx = 0 := by omega
  subst hmx0
  clear hmx
  by_cases h2 : 0 < x
  ·rw [if_pos h2] at hun
   have HU := Lib.hid hun
   clear hun
   go_enter Try.func48, Try.ntmps48
   go_wp2_with fail
   refine (number_any a n c l _ H.out.row H.out.len).mono ?_
   rintro e w' ⟨rfl, rfl⟩
   rw [Hrd.out]
   unfold num3
   go_wp2_with fail
   go_ret3
   exact ⟨txt_none HU.out rfl, rfl⟩
  ·rw [if_neg h2] at hun
   by_cases h3 : n - s < x
   ·exfalso; omega
   ·rw [if_neg h3] at hun
    have HU := Lib.hid hun
    have h3' : (x : Int) ≤ (n : Int) - s := by omega
    have hsx : s + x ≤ n := by omega
    have htn : tailAt a s c = none → c - s = 0 := fun ha => (H.out.row.drop s (by rw [H.out.len]; exact hsz)).2.2.2.1 ha
    have hrow := (H.out.row.drop s (by rw [H.out.len]; exact hsz)).take x (c - s) (by omega) (Nat.le_refl _) htn
    have hbody : ((l.drop s).take x).length = x := by simp; have := H.out.len; omega
    have hcv : Sem.run Try.prog (convert 26 9 (.slice (tailAt a s c) x (c - s))) w = .ok (.string (strB ((l.drop s).take x))) w := conv_row hrow hbody
    have hsl := run_slice_mid a n c s x hsx hle w
    have HB := Lib.hid hbody; have HR := Lib.hid hrow
    clear hun hbody hrow
    go_enter Try.func48, Try.ntmps48
    go_wp2_with fail
    refine (number_any a n c l _ H.out.row H.out.len).mono ?_
    rintro e w' ⟨rfl, rfl⟩
    rw [Hrd.out]
    unfold num3
    go_wp2_with fail
    go_ret3
    exact ⟨by rw [HU.out]; simp [txt3], rfl⟩
 ·have hneg' : 0 ≤ most := by omega
  have hmm : most = (mx : Int) := by omega
  subst hmm
  clear hneg hmx hneg'
  by_cases h2 : mx < x
  ·rw [if_pos h2] at hun
   have HU := Lib.hid hun
   clear hun
   go_enter Try.func48, Try.ntmps48
   go_wp2_with fail
   refine (number_any a n c l _ H.out.row H.out.len).mono ?_
   rintro e w' ⟨rfl, rfl⟩
   rw [Hrd.out]
   unfold num3
   go_wp2_with fail
   go_ret3
   exact ⟨txt_none HU.out rfl, rfl⟩
  ·rw [if_neg h2] at hun
   by_cases h3 : n - s < x
   ·rw [if_pos h3] at hun
    have HU := Lib.hid hun
    have h3' : (n : Int) - s < x := by omega
    clear hun
    go_enter Try.func48, Try.ntmps48
    go_wp2_with fail
    refine (number_any a n c l _ H.out.row H.out.len).mono ?_
    rintro e w' ⟨rfl, rfl⟩
    rw [Hrd.out]
    unfold num3
    go_wp2_with fail
    go_ret3
    exact ⟨txt_none HU.out rfl, rfl⟩
   ·rw [if_neg h3] at hun
    have HU := Lib.hid hun
    have h3' : (x : Int) ≤ (n : Int) - s := by omega
    have hsx : s + x ≤ n := by omega
    have htn : tailAt a s c = none → c - s = 0 := fun ha => (H.out.row.drop s (by rw [H.out.len]; exact hsz)).2.2.2.1 ha
    have hrow := (H.out.row.drop s (by rw [H.out.len]; exact hsz)).take x (c - s) (by omega) (Nat.le_refl _) htn
    have hbody : ((l.drop s).take x).length = x := by simp; have := H.out.len; omega
    have hcv : Sem.run Try.prog (convert 26 9 (.slice (tailAt a s c) x (c - s))) w = .ok (.string (strB ((l.drop s).take x))) w := conv_row hrow hbody
    have hsl := run_slice_mid a n c s x hsx hle w
    have HB := Lib.hid hbody; have HR := Lib.hid hrow
    clear hun hbody hrow
    go_enter Try.func48, Try.ntmps48
    go_wp2_with fail
    refine (number_any a n c l _ H.out.row H.out.len).mono ?_
    rintro e w' ⟨rfl, rfl⟩
    rw [Hrd.out]
    unfold num3
    go_wp2_with fail
    go_ret3
    exact ⟨by rw [HU.out]; simp [txt3], rfl⟩
def RdrS (w : World) (p : Nat) (l : List Nat) (er : Nat) : Prop := ∃ a n c, Rdr w p a n c l er
def step {α : Type} (none : α) (l : List Nat) (er : Nat) (r : α × Nat × Nat) : α × List Nat × Nat := if er ≠ 0 then (none, l, er) else if r.2.2 ≠ 0 then (none, l, r.2.2) else (r.1, l.drop r.2.1, 0)
def RetRd {α : Type} (w : World) (p : Nat) (mk : α → Value) (r : α × List Nat × Nat) (e : Ending) (w' : World) : Prop := e = .returned (mk r.1) ∧ RdrS w' p r.2.1 r.2.2 ∧ w.grownBy w' (some p)
set_option maxRecDepth 100000 in
set_option maxHeartbeats 1600000 in
theorem read_u64 (p : Nat) (l : List Nat) (er : Nat) (w : World) (h : RdrS w p l er) (r : Nat × Nat × Nat) (hsz : r.2.1 ≤ l.length) (v : Value) (hv : v = .tuple #[.int .u64 (r.1 : Nat), .int .i64 (r.2.1 : Nat), .int .i64 (r.2.2 : Nat)])
  (hstep : Calls Try.prog 47 #[.pointer (some ⟨p, 0, none⟩)] w fun e w' => e = .returned v ∧ w = w') :
  Calls Try.prog 46 #[.pointer (some ⟨p, 0, none⟩), .func (.func 47) #[.pointer (some ⟨p, 0, none⟩)] #[]] w (RetRd w p (fun x : Nat => .int .u64 (x : Nat)) (step 0 l er r)) := by
 obtain ⟨a, n, c, h⟩ := h
 have H := Lib.hid h
 have h1 := h.c0
 have hf0 := h.fr 0
 have hln := h.len
 rw [hln] at hsz
 obtain ⟨x, s, ee⟩ := r
 simp only at hsz hv
 have HS := Lib.hid hstep
 have hle : n ≤ c := by rw [← hln]; exact h.row.le
 have hcap := h.row.cap
 have hsl := run_slice_from a n c s hsz w
 have Hv := Lib.hid hv
 clear h hln hstep hv
 by_cases h0 : er ≠ 0
 ·have t : ((er : Int) != 0) = true := by simp; omega
  have HU := Lib.hid (show step 0 l er (x, s, ee) = (0, l, er) from by unfold step; rw [if_pos h0])
  clear h0
  go_enter Try.func46, Try.ntmps46
  go_wp2_with fail
  refine (err_any p a n c l er _ H.out).mono ?_
  rintro e w' ⟨rfl, rfl⟩
  go_wp2_with fail
  go_ret
  exact ⟨by (rw [HU.out]; try rfl), by rw [HU.out]; exact ⟨a, n, c, H.out⟩, grown_refl _ _⟩
 ·obtain rfl : er = 0 := by omega
  clear h0
  by_cases h2 : ee ≠ 0
  ·have t : ((ee : Int) != 0) = true := by simp; omega
   have HU := Lib.hid (show step 0 l 0 (x, s, ee) = (0, l, ee) from by unfold step; rw [if_neg (by omega), if_pos h2])
   clear h2
   go_enter Try.func46, Try.ntmps46
   go_wp2_with fail
   refine (err_any p a n c l 0 _ H.out).mono ?_
   rintro e w' ⟨rfl, rfl⟩
   go_wp2_with fail
   refine HS.out.mono ?_
   rintro e w' ⟨rfl, rfl⟩
   rw [Hv.out]
   go_wp2_with fail
   refine (fail_ok p a n c l ee _ H.out).mono ?_
   rintro e w' ⟨rfl, hr, hg⟩
   have HR := Lib.hid hr; have HG := Lib.hid hg
   clear hr hg
   go_wp2_with fail
   go_ret
   exact ⟨by (rw [HU.out]; try rfl), by rw [HU.out]; exact ⟨a, n, c, HR.out⟩, HG.out⟩
  ·obtain rfl : ee = 0 := by omega
   have HU := Lib.hid (show step 0 l 0 (x, s, 0) = (x, l.drop s, 0) from by unfold step; rw [if_neg (by omega), if_neg (by simp)])
   clear h2
   go_enter Try.func46, Try.ntmps46
   go_wp2_with fail
   refine (err_any p a n c l 0 _ H.out).mono ?_
   rintro e w' ⟨rfl, rfl⟩
   go_wp2_with fail
   refine HS.out.mono ?_
   rintro e w' ⟨rfl, rfl⟩
   rw [Hv.out]
   go_wp2_with fail
   go_ret
   exact ⟨by (rw [HU.out]; try rfl), by rw [HU.out]; exact ⟨_, _, _, H.out.set0 s hsz⟩, grown_setCell _ _ _ _⟩
set_option maxRecDepth 100000 in
set_option maxHeartbeats 1600000 in
theorem read_i64 (p : Nat) (l : List Nat) (er : Nat) (w : World) (h : RdrS w p l er) (r : Int × Nat × Nat) (hsz : r.2.1 ≤ l.length) (v : Value) (hv : v = .tuple #[.int .i64 r.1, .int .i64 (r.2.1 : Nat), .int .i64 (r.2.2 : Nat)])
  (hstep : Calls Try.prog 51 #[.pointer (some ⟨p, 0, none⟩)] w fun e w' => e = .returned v ∧ w = w') :
  Calls Try.prog 50 #[.pointer (some ⟨p, 0, none⟩), .func (.func 51) #[.pointer (some ⟨p, 0, none⟩)] #[]] w (RetRd w p (fun x : Int => .int .i64 x) (step 0 l er r)) := by
 obtain ⟨a, n, c, h⟩ := h
 have H := Lib.hid h
 have h1 := h.c0
 have hf0 := h.fr 0
 have hln := h.len
 rw [hln] at hsz
 obtain ⟨x, s, ee⟩ := r
 simp only at hsz hv
 have HS := Lib.hid hstep
 have hle : n ≤ c := by rw [← hln]; exact h.row.le
 have hcap := h.row.cap
 have hsl := run_slice_from a n c s hsz w
 have Hv := Lib.hid hv
 clear h hln hstep hv
 by_cases h0 : er ≠ 0
 ·have t : ((er : Int) != 0) = true := by simp; omega
  have HU := Lib.hid (show step 0 l er (x, s, ee) = (0, l, er) from by unfold step; rw [if_pos h0])
  clear h0
  go_enter Try.func50, Try.ntmps50
  go_wp2_with fail
  refine (err_any p a n c l er _ H.out).mono ?_
  rintro e w' ⟨rfl, rfl⟩
  go_wp2_with fail
  go_ret
  exact ⟨by (rw [HU.out]; try rfl), by rw [HU.out]; exact ⟨a, n, c, H.out⟩, grown_refl _ _⟩
 ·obtain rfl : er = 0 := by omega
  clear h0
  by_cases h2 : ee ≠ 0
  ·have t : ((ee : Int) != 0) = true := by simp; omega
   have HU := Lib.hid (show step 0 l 0 (x, s, ee) = (0, l, ee) from by unfold step; rw [if_neg (by omega), if_pos h2])
   clear h2
   go_enter Try.func50, Try.ntmps50
   go_wp2_with fail
   refine (err_any p a n c l 0 _ H.out).mono ?_
   rintro e w' ⟨rfl, rfl⟩
   go_wp2_with fail
   refine HS.out.mono ?_
   rintro e w' ⟨rfl, rfl⟩
   rw [Hv.out]
   go_wp2_with fail
   refine (fail_ok p a n c l ee _ H.out).mono ?_
   rintro e w' ⟨rfl, hr, hg⟩
   have HR := Lib.hid hr; have HG := Lib.hid hg
   clear hr hg
   go_wp2_with fail
   go_ret
   exact ⟨by (rw [HU.out]; try rfl), by rw [HU.out]; exact ⟨a, n, c, HR.out⟩, HG.out⟩
  ·obtain rfl : ee = 0 := by omega
   have HU := Lib.hid (show step 0 l 0 (x, s, 0) = (x, l.drop s, 0) from by unfold step; rw [if_neg (by omega), if_neg (by simp)])
   clear h2
   go_enter Try.func50, Try.ntmps50
   go_wp2_with fail
   refine (err_any p a n c l 0 _ H.out).mono ?_
   rintro e w' ⟨rfl, rfl⟩
   go_wp2_with fail
   refine HS.out.mono ?_
   rintro e w' ⟨rfl, rfl⟩
   rw [Hv.out]
   go_wp2_with fail
   go_ret
   exact ⟨by (rw [HU.out]; try rfl), by rw [HU.out]; exact ⟨_, _, _, H.out.set0 s hsz⟩, grown_setCell _ _ _ _⟩
set_option maxRecDepth 100000 in
set_option maxHeartbeats 1600000 in
theorem read_str (p q1 q2 : Nat) (l : List Nat) (er : Nat) (w : World) (h : RdrS w p l er) (r : (List Nat) × Nat × Nat) (hsz : r.2.1 ≤ l.length) (v : Value) (hv : v = .tuple #[.string (strB r.1), .int .i64 (r.2.1 : Nat), .int .i64 (r.2.2 : Nat)])
  (hstep : Calls Try.prog 48 #[.pointer (some ⟨q1, 0, none⟩), .pointer (some ⟨q2, 0, none⟩)] w fun e w' => e = .returned v ∧ w = w') :
  Calls Try.prog 36 #[.pointer (some ⟨p, 0, none⟩), .func (.func 48) #[] #[.pointer (some ⟨q1, 0, none⟩), .pointer (some ⟨q2, 0, none⟩)]] w (RetRd w p (fun x : List Nat => .string (strB x)) (step [] l er r)) := by
 obtain ⟨a, n, c, h⟩ := h
 have H := Lib.hid h
 have h1 := h.c0
 have hf0 := h.fr 0
 have hln := h.len
 rw [hln] at hsz
 obtain ⟨x, s, ee⟩ := r
 simp only at hsz hv
 have HS := Lib.hid hstep
 have hle : n ≤ c := by rw [← hln]; exact h.row.le
 have hcap := h.row.cap
 have hsl := run_slice_from a n c s hsz w
 have Hv := Lib.hid hv
 clear h hln hstep hv
 by_cases h0 : er ≠ 0
 ·have t : ((er : Int) != 0) = true := by simp; omega
  have HU := Lib.hid (show step [] l er (x, s, ee) = ([], l, er) from by unfold step; rw [if_pos h0])
  clear h0
  go_enter Try.func36, Try.ntmps36
  go_wp2_with fail
  refine (err_any p a n c l er _ H.out).mono ?_
  rintro e w' ⟨rfl, rfl⟩
  go_wp2_with fail
  go_ret
  exact ⟨by (rw [HU.out]; try rfl), by rw [HU.out]; exact ⟨a, n, c, H.out⟩, grown_refl _ _⟩
 ·obtain rfl : er = 0 := by omega
  clear h0
  by_cases h2 : ee ≠ 0
  ·have t : ((ee : Int) != 0) = true := by simp; omega
   have HU := Lib.hid (show step [] l 0 (x, s, ee) = ([], l, ee) from by unfold step; rw [if_neg (by omega), if_pos h2])
   clear h2
   go_enter Try.func36, Try.ntmps36
   go_wp2_with fail
   refine (err_any p a n c l 0 _ H.out).mono ?_
   rintro e w' ⟨rfl, rfl⟩
   go_wp2_with fail
   refine HS.out.mono ?_
   rintro e w' ⟨rfl, rfl⟩
   rw [Hv.out]
   go_wp2_with fail
   refine (fail_ok p a n c l ee _ H.out).mono ?_
   rintro e w' ⟨rfl, hr, hg⟩
   have HR := Lib.hid hr; have HG := Lib.hid hg
   clear hr hg
   go_wp2_with fail
   go_ret
   exact ⟨by (rw [HU.out]; try rfl), by rw [HU.out]; exact ⟨a, n, c, HR.out⟩, HG.out⟩
  ·obtain rfl : ee = 0 := by omega
   have HU := Lib.hid (show step [] l 0 (x, s, 0) = (x, l.drop s, 0) from by unfold step; rw [if_neg (by omega), if_neg (by simp)])
   clear h2
   go_enter Try.func36, Try.ntmps36
   go_wp2_with fail
   refine (err_any p a n c l 0 _ H.out).mono ?_
   rintro e w' ⟨rfl, rfl⟩
   go_wp2_with fail
   refine HS.out.mono ?_
   rintro e w' ⟨rfl, rfl⟩
   rw [Hv.out]
   go_wp2_with fail
   go_ret
   exact ⟨by (rw [HU.out]; try rfl), by rw [HU.out]; exact ⟨_, _, _, H.out.set0 s hsz⟩, grown_setCell _ _ _ _⟩
end Go.Proofs.Ytplafpchgfjomaa
