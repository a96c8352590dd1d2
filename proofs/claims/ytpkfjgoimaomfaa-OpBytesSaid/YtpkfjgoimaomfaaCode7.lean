import Derived.Test.YtpkfjgoimaomfaaCode6
namespace Go.Proofs.Ytpkfjgoimaomfaa
open Go.RowKit Go.Buf
theorem Row.string {w : World} {a : Option Addr} {n cap : Nat} {l : List Nat} (hr : Row w a cap l) (hn : l.length = n) :
    Sem.run Try.prog (convert 42 9 (.slice a n cap)) w = .ok (.string (strB l)) w := conv_row hr hn
def txt3 (r : List Nat × Nat × Nat) : Value := .tuple #[.string (strB r.1), .int .i64 (r.2.1 : Nat), .int .i64 (r.2.2 : Nat)]
theorem strB_nil : strB [] = ⟨#[]⟩ := rfl
theorem txt_none {r : List Nat × Nat × Nat} {k : Nat} (h : r = ([], 0, k)) {z : Int} (hz : z = k) : Ending.returned (.tuple #[.string ⟨#[]⟩, .int .i64 0, .int .i64 z]) = .returned (txt3 r) := by subst h; subst hz; rfl
theorem run_slice_mid (a : Option Addr) (n c s x : Nat) (h : s + x ≤ n) (hc : n ≤ c) (w : World) : Sem.run Try.prog (Instr.slice 42 (.slice a n c) (some (.int .i64 (s : Int))) (some (.int .i64 ((s : Int) + (x : Int)))) none) w = .ok (.slice (tailAt a s c) x (c - s)) w := by
  have hu := Try.underlying42
  have h0 : (0 : Int) ≤ (s : Int) := by omega
  have h1 : (s : Int) ≤ (s : Int) + (x : Int) := by omega
  have h2 : (s : Int) + (x : Int) ≤ (c : Int) := by omega
  go_simp
  simp [tailAt]
  omega
set_option maxRecDepth 100000 in
set_option maxHeartbeats 1600000 in
theorem text_step (p q1 q2 : Nat) (a : Option Addr) (n c : Nat) (l : List Nat) (er : Nat) (most : Int) (w : World) (h : Rdr w p a n c l er)
    (k1 : w.cell? ⟨q1, 0, none⟩ = some (.pointer (some ⟨p, 0, none⟩))) (k2 : w.cell? ⟨q2, 0, none⟩ = some (.int .i64 most)) (hm1 : -9223372036854775808 ≤ most) (hm2 : most ≤ 9223372036854775807) :
    Calls Try.prog 76 #[.pointer (some ⟨q1, 0, none⟩), .pointer (some ⟨q2, 0, none⟩)] w fun e w' => e = .returned (txt3 (Cd.rdText l most)) ∧ w = w' := by
  have H := Lib.hid h
  have h1 := h.c0
  have hcap := h.row.cap
  have hle : n ≤ c := by rw [← h.len]; exact h.row.le
  have hsz := Cd.rd_size l
  have hs10 := Cd.rd_size10 l
  have hlt := Cd.rd_lt h.row.byte
  obtain ⟨x, hx⟩ : ∃ x, x = (Cd.rd l).1 := ⟨_, rfl⟩
  obtain ⟨s, hs⟩ : ∃ s, s = (Cd.rd l).2.1 := ⟨_, rfl⟩
  obtain ⟨ee, he⟩ : ∃ ee, ee = (Cd.rd l).2.2 := ⟨_, rfl⟩
  have hrd : Cd.rd l = (x, s, ee) := by rw [hx, hs, he]
  rw [← hs] at hsz hs10
  rw [← hx] at hlt
  rw [h.len] at hsz
  obtain ⟨mx, hmx⟩ : ∃ mx : Nat, mx = (max most 0).toNat := ⟨_, rfl⟩
  have hun : Cd.rdText l most = if ee ≠ 0 then ([], 0, ee) else if mx < x then ([], 0, 3) else if n - s < x then ([], 0, 5) else ((l.drop s).take x, s + x, 0) := by
    unfold Cd.rdText; rw [hrd, ← hmx, h.len]
  have Hrd := Lib.hid hrd; have HL := Lib.hid hlt
  clear h hx hs he hrd hlt
  by_cases h0 : ee ≠ 0
  · rw [if_pos h0] at hun
    have HU := Lib.hid hun; have Hm := Lib.hid hmx
    have t0 : ((ee : Int) != 0) = true := by simp; omega
    clear hun h0 hmx
    go_enter Try.func76, Try.ntmps76
    go_wp2_with fail
    refine (number_any a n c l _ H.out.row H.out.len).mono ?_
    rintro e w' ⟨rfl, rfl⟩
    rw [Hrd.out]
    unfold num3
    go_wp2_with fail
    go_ret3
    exact ⟨txt_none HU.out rfl, rfl⟩
  rw [if_neg h0] at hun
  obtain rfl : ee = 0 := by omega
  clear h0
  by_cases hneg : most < 0
  · have hmx0 : mx = 0 := by omega
    subst hmx0
    clear hmx
    by_cases h2 : 0 < x
    · rw [if_pos h2] at hun
      have HU := Lib.hid hun
      clear hun
      go_enter Try.func76, Try.ntmps76
      go_wp2_with fail
      refine (number_any a n c l _ H.out.row H.out.len).mono ?_
      rintro e w' ⟨rfl, rfl⟩
      rw [Hrd.out]
      unfold num3
      go_wp2_with fail
      go_ret3
      exact ⟨txt_none HU.out rfl, rfl⟩
    · rw [if_neg h2] at hun
      by_cases h3 : n - s < x
      · exfalso; omega
      · rw [if_neg h3] at hun
        have HU := Lib.hid hun
        have h3' : (x : Int) ≤ (n : Int) - s := by omega
        have hsx : s + x ≤ n := by omega
        have htn : tailAt a s c = none → c - s = 0 := fun ha => (H.out.row.drop s (by rw [H.out.len]; exact hsz)).2.2.2.1 ha
        have hrow := (H.out.row.drop s (by rw [H.out.len]; exact hsz)).take x (c - s) (by omega) (Nat.le_refl _) htn
        have hbody : ((l.drop s).take x).length = x := by simp; have := H.out.len; omega
        have hcv : Sem.run Try.prog (convert 42 9 (.slice (tailAt a s c) x (c - s))) w = .ok (.string (strB ((l.drop s).take x))) w := conv_row hrow hbody
        have hsl := run_slice_mid a n c s x hsx hle w
        have HB := Lib.hid hbody; have HR := Lib.hid hrow
        clear hun hbody hrow
        go_enter Try.func76, Try.ntmps76
        go_wp2_with fail
        refine (number_any a n c l _ H.out.row H.out.len).mono ?_
        rintro e w' ⟨rfl, rfl⟩
        rw [Hrd.out]
        unfold num3
        go_wp2_with fail
        go_ret3
        exact ⟨by rw [HU.out]; simp [txt3], rfl⟩
  · have hneg' : 0 ≤ most := by omega
    have hmm : most = (mx : Int) := by omega
    subst hmm
    clear hneg hmx hneg'
    by_cases h2 : mx < x
    · rw [if_pos h2] at hun
      have HU := Lib.hid hun
      clear hun
      go_enter Try.func76, Try.ntmps76
      go_wp2_with fail
      refine (number_any a n c l _ H.out.row H.out.len).mono ?_
      rintro e w' ⟨rfl, rfl⟩
      rw [Hrd.out]
      unfold num3
      go_wp2_with fail
      go_ret3
      exact ⟨txt_none HU.out rfl, rfl⟩
    · rw [if_neg h2] at hun
      by_cases h3 : n - s < x
      · rw [if_pos h3] at hun
        have HU := Lib.hid hun
        have h3' : (n : Int) - s < x := by omega
        clear hun
        go_enter Try.func76, Try.ntmps76
        go_wp2_with fail
        refine (number_any a n c l _ H.out.row H.out.len).mono ?_
        rintro e w' ⟨rfl, rfl⟩
        rw [Hrd.out]
        unfold num3
        go_wp2_with fail
        go_ret3
        exact ⟨txt_none HU.out rfl, rfl⟩
      · rw [if_neg h3] at hun
        have HU := Lib.hid hun
        have h3' : (x : Int) ≤ (n : Int) - s := by omega
        have hsx : s + x ≤ n := by omega
        have htn : tailAt a s c = none → c - s = 0 := fun ha => (H.out.row.drop s (by rw [H.out.len]; exact hsz)).2.2.2.1 ha
        have hrow := (H.out.row.drop s (by rw [H.out.len]; exact hsz)).take x (c - s) (by omega) (Nat.le_refl _) htn
        have hbody : ((l.drop s).take x).length = x := by simp; have := H.out.len; omega
        have hcv : Sem.run Try.prog (convert 42 9 (.slice (tailAt a s c) x (c - s))) w = .ok (.string (strB ((l.drop s).take x))) w := conv_row hrow hbody
        have hsl := run_slice_mid a n c s x hsx hle w
        have HB := Lib.hid hbody; have HR := Lib.hid hrow
        clear hun hbody hrow
        go_enter Try.func76, Try.ntmps76
        go_wp2_with fail
        refine (number_any a n c l _ H.out.row H.out.len).mono ?_
        rintro e w' ⟨rfl, rfl⟩
        rw [Hrd.out]
        unfold num3
        go_wp2_with fail
        go_ret3
        exact ⟨by rw [HU.out]; simp [txt3], rfl⟩
/-- a reader, whatever its slice -/
def RdrS (w : World) (p : Nat) (l : List Nat) (er : Nat) : Prop := ∃ a n c, Rdr w p a n c l er
/-- what a read comes to: the value, the bytes that are left, the error -/
def step {α : Type} (none : α) (l : List Nat) (er : Nat) (r : α × Nat × Nat) : α × List Nat × Nat := if er ≠ 0 then (none, l, er) else if r.2.2 ≠ 0 then (none, l, r.2.2) else (r.1, l.drop r.2.1, 0)
def RetRd {α : Type} (w : World) (p : Nat) (mk : α → Value) (r : α × List Nat × Nat) (e : Ending) (w' : World) : Prop := e = .returned (mk r.1) ∧ RdrS w' p r.2.1 r.2.2 ∧ w.grownBy w' (some p)
set_option maxRecDepth 100000 in
set_option maxHeartbeats 1600000 in
theorem read_u64 (p : Nat) (l : List Nat) (er : Nat) (w : World) (h : RdrS w p l er) (r : Nat × Nat × Nat) (hsz : r.2.1 ≤ l.length) (v : Value) (hv : v = .tuple #[.int .u64 (r.1 : Nat), .int .i64 (r.2.1 : Nat), .int .i64 (r.2.2 : Nat)])
    (hstep : Calls Try.prog 57 #[.pointer (some ⟨p, 0, none⟩)] w fun e w' => e = .returned v ∧ w = w') :
    Calls Try.prog 56 #[.pointer (some ⟨p, 0, none⟩), .func (.func 57) #[.pointer (some ⟨p, 0, none⟩)] #[]] w (RetRd w p (fun x : Nat => .int .u64 (x : Nat)) (step 0 l er r)) := by
  obtain ⟨a, n, c, h⟩ := h
  have H := Lib.hid h
  have h1 := h.c0
  have hf0 := h.fr 0
  have hln := h.len
  rw [hln] at hsz
  obtain ⟨x, s, ee⟩ := r
  simp only at hsz hv
  have HS := Lib.hid hstep
  have hle : n ≤ c := by rw [← hln]; exact h.row.le
  have hcap := h.row.cap
  have hsl := run_slice_from a n c s hsz w
  have Hv := Lib.hid hv
  clear h hln hstep hv
  by_cases h0 : er ≠ 0
  · have t : ((er : Int) != 0) = true := by simp; omega
    have HU := Lib.hid (show step 0 l er (x, s, ee) = (0, l, er) from by unfold step; rw [if_pos h0])
    clear h0
    go_enter Try.func56, Try.ntmps56
    go_wp2_with fail
    refine (err_any p a n c l er _ H.out).mono ?_
    rintro e w' ⟨rfl, rfl⟩
    go_wp2_with fail
    go_ret
    exact ⟨by (rw [HU.out]; try rfl), by rw [HU.out]; exact ⟨a, n, c, H.out⟩, grown_refl _ _⟩
  · obtain rfl : er = 0 := by omega
    clear h0
    by_cases h2 : ee ≠ 0
    · have t : ((ee : Int) != 0) = true := by simp; omega
      have HU := Lib.hid (show step 0 l 0 (x, s, ee) = (0, l, ee) from by unfold step; rw [if_neg (by omega), if_pos h2])
      clear h2
      go_enter Try.func56, Try.ntmps56
      go_wp2_with fail
      refine (err_any p a n c l 0 _ H.out).mono ?_
      rintro e w' ⟨rfl, rfl⟩
      go_wp2_with fail
      refine HS.out.mono ?_
      rintro e w' ⟨rfl, rfl⟩
      rw [Hv.out]
      go_wp2_with fail
      refine (fail_ok p a n c l ee _ H.out).mono ?_
      rintro e w' ⟨rfl, hr, hg⟩
      have HR := Lib.hid hr; have HG := Lib.hid hg
      clear hr hg
      go_wp2_with fail
      go_ret
      exact ⟨by (rw [HU.out]; try rfl), by rw [HU.out]; exact ⟨a, n, c, HR.out⟩, HG.out⟩
    · obtain rfl : ee = 0 := by omega
      have HU := Lib.hid (show step 0 l 0 (x, s, 0) = (x, l.drop s, 0) from by unfold step; rw [if_neg (by omega), if_neg (by simp)])
      clear h2
      go_enter Try.func56, Try.ntmps56
      go_wp2_with fail
      refine (err_any p a n c l 0 _ H.out).mono ?_
      rintro e w' ⟨rfl, rfl⟩
      go_wp2_with fail
      refine HS.out.mono ?_
      rintro e w' ⟨rfl, rfl⟩
      rw [Hv.out]
      go_wp2_with fail
      go_ret
      exact ⟨by (rw [HU.out]; try rfl), by rw [HU.out]; exact ⟨_, _, _, H.out.set0 s hsz⟩, grown_setCell _ _ _ _⟩
set_option maxRecDepth 100000 in
set_option maxHeartbeats 1600000 in
theorem read_i64 (p : Nat) (l : List Nat) (er : Nat) (w : World) (h : RdrS w p l er) (r : Int × Nat × Nat) (hsz : r.2.1 ≤ l.length) (v : Value) (hv : v = .tuple #[.int .i64 r.1, .int .i64 (r.2.1 : Nat), .int .i64 (r.2.2 : Nat)])
    (hstep : Calls Try.prog 70 #[.pointer (some ⟨p, 0, none⟩)] w fun e w' => e = .returned v ∧ w = w') :
    Calls Try.prog 69 #[.pointer (some ⟨p, 0, none⟩), .func (.func 70) #[.pointer (some ⟨p, 0, none⟩)] #[]] w (RetRd w p (fun x : Int => .int .i64 x) (step 0 l er r)) := by
  obtain ⟨a, n, c, h⟩ := h
  have H := Lib.hid h
  have h1 := h.c0
  have hf0 := h.fr 0
  have hln := h.len
  rw [hln] at hsz
  obtain ⟨x, s, ee⟩ := r
  simp only at hsz hv
  have HS := Lib.hid hstep
  have hle : n ≤ c := by rw [← hln]; exact h.row.le
  have hcap := h.row.cap
  have hsl := run_slice_from a n c s hsz w
  have Hv := Lib.hid hv
  clear h hln hstep hv
  by_cases h0 : er ≠ 0
  · have t : ((er : Int) != 0) = true := by simp; omega
    have HU := Lib.hid (show step 0 l er (x, s, ee) = (0, l, er) from by unfold step; rw [if_pos h0])
    clear h0
    go_enter Try.func69, Try.ntmps69
    go_wp2_with fail
    refine (err_any p a n c l er _ H.out).mono ?_
    rintro e w' ⟨rfl, rfl⟩
    go_wp2_with fail
    go_ret
    exact ⟨by (rw [HU.out]; try rfl), by rw [HU.out]; exact ⟨a, n, c, H.out⟩, grown_refl _ _⟩
  · obtain rfl : er = 0 := by omega
    clear h0
    by_cases h2 : ee ≠ 0
    · have t : ((ee : Int) != 0) = true := by simp; omega
      have HU := Lib.hid (show step 0 l 0 (x, s, ee) = (0, l, ee) from by unfold step; rw [if_neg (by omega), if_pos h2])
      clear h2
      go_enter Try.func69, Try.ntmps69
      go_wp2_with fail
      refine (err_any p a n c l 0 _ H.out).mono ?_
      rintro e w' ⟨rfl, rfl⟩
      go_wp2_with fail
      refine HS.out.mono ?_
      rintro e w' ⟨rfl, rfl⟩
      rw [Hv.out]
      go_wp2_with fail
      refine (fail_ok p a n c l ee _ H.out).mono ?_
      rintro e w' ⟨rfl, hr, hg⟩
      have HR := Lib.hid hr; have HG := Lib.hid hg
      clear hr hg
      go_wp2_with fail
      go_ret
      exact ⟨by (rw [HU.out]; try rfl), by rw [HU.out]; exact ⟨a, n, c, HR.out⟩, HG.out⟩
    · obtain rfl : ee = 0 := by omega
      have HU := Lib.hid (show step 0 l 0 (x, s, 0) = (x, l.drop s, 0) from by unfold step; rw [if_neg (by omega), if_neg (by simp)])
      clear h2
      go_enter Try.func69, Try.ntmps69
      go_wp2_with fail
      refine (err_any p a n c l 0 _ H.out).mono ?_
      rintro e w' ⟨rfl, rfl⟩
      go_wp2_with fail
      refine HS.out.mono ?_
      rintro e w' ⟨rfl, rfl⟩
      rw [Hv.out]
      go_wp2_with fail
      go_ret
      exact ⟨by (rw [HU.out]; try rfl), by rw [HU.out]; exact ⟨_, _, _, H.out.set0 s hsz⟩, grown_setCell _ _ _ _⟩
set_option maxRecDepth 100000 in
set_option maxHeartbeats 1600000 in
theorem read_str (p q1 q2 : Nat) (l : List Nat) (er : Nat) (w : World) (h : RdrS w p l er) (r : (List Nat) × Nat × Nat) (hsz : r.2.1 ≤ l.length) (v : Value) (hv : v = .tuple #[.string (strB r.1), .int .i64 (r.2.1 : Nat), .int .i64 (r.2.2 : Nat)])
    (hstep : Calls Try.prog 76 #[.pointer (some ⟨q1, 0, none⟩), .pointer (some ⟨q2, 0, none⟩)] w fun e w' => e = .returned v ∧ w = w') :
    Calls Try.prog 71 #[.pointer (some ⟨p, 0, none⟩), .func (.func 76) #[] #[.pointer (some ⟨q1, 0, none⟩), .pointer (some ⟨q2, 0, none⟩)]] w (RetRd w p (fun x : List Nat => .string (strB x)) (step [] l er r)) := by
  obtain ⟨a, n, c, h⟩ := h
  have H := Lib.hid h
  have h1 := h.c0
  have hf0 := h.fr 0
  have hln := h.len
  rw [hln] at hsz
  obtain ⟨x, s, ee⟩ := r
  simp only at hsz hv
  have HS := Lib.hid hstep
  have hle : n ≤ c := by rw [← hln]; exact h.row.le
  have hcap := h.row.cap
  have hsl := run_slice_from a n c s hsz w
  have Hv := Lib.hid hv
  clear h hln hstep hv
  by_cases h0 : er ≠ 0
  · have t : ((er : Int) != 0) = true := by simp; omega
    have HU := Lib.hid (show step [] l er (x, s, ee) = ([], l, er) from by unfold step; rw [if_pos h0])
    clear h0
    go_enter Try.func71, Try.ntmps71
    go_wp2_with fail
    refine (err_any p a n c l er _ H.out).mono ?_
    rintro e w' ⟨rfl, rfl⟩
    go_wp2_with fail
    go_ret
    exact ⟨by (rw [HU.out]; try rfl), by rw [HU.out]; exact ⟨a, n, c, H.out⟩, grown_refl _ _⟩
  · obtain rfl : er = 0 := by omega
    clear h0
    by_cases h2 : ee ≠ 0
    · have t : ((ee : Int) != 0) = true := by simp; omega
      have HU := Lib.hid (show step [] l 0 (x, s, ee) = ([], l, ee) from by unfold step; rw [if_neg (by omega), if_pos h2])
      clear h2
      go_enter Try.func71, Try.ntmps71
      go_wp2_with fail
      refine (err_any p a n c l 0 _ H.out).mono ?_
      rintro e w' ⟨rfl, rfl⟩
      go_wp2_with fail
      refine HS.out.mono ?_
      rintro e w' ⟨rfl, rfl⟩
      rw [Hv.out]
      go_wp2_with fail
      refine (fail_ok p a n c l ee _ H.out).mono ?_
      rintro e w' ⟨rfl, hr, hg⟩
      have HR := Lib.hid hr; have HG := Lib.hid hg
      clear hr hg
      go_wp2_with fail
      go_ret
      exact ⟨by (rw [HU.out]; try rfl), by rw [HU.out]; exact ⟨a, n, c, HR.out⟩, HG.out⟩
    · obtain rfl : ee = 0 := by omega
      have HU := Lib.hid (show step [] l 0 (x, s, 0) = (x, l.drop s, 0) from by unfold step; rw [if_neg (by omega), if_neg (by simp)])
      clear h2
      go_enter Try.func71, Try.ntmps71
      go_wp2_with fail
      refine (err_any p a n c l 0 _ H.out).mono ?_
      rintro e w' ⟨rfl, rfl⟩
      go_wp2_with fail
      refine HS.out.mono ?_
      rintro e w' ⟨rfl, rfl⟩
      rw [Hv.out]
      go_wp2_with fail
      go_ret
      exact ⟨by (rw [HU.out]; try rfl), by rw [HU.out]; exact ⟨_, _, _, H.out.set0 s hsz⟩, grown_setCell _ _ _ _⟩
end Go.Proofs.Ytpkfjgoimaomfaa
