import Derived.Test.YtpkfjgoimaomfaaCode7
namespace Go.Proofs.Ytpkfjgoimaomfaa
open Go.RowKit Go.Buf
theorem Row.blockLt {w : World} {a : Option Addr} {cap : Nat} {l : List Nat} (h : Row w a cap l) (hl : 0 < l.length) : ∀ q, a = some q → q.block < w.heap.size := by
  intro q hq
  obtain ⟨r, hr, hc⟩ := h.2.2.2.2 0 l[0] (List.getElem?_eq_getElem hl)
  rw [hq] at hr
  obtain rfl := Option.some.inj hr
  have := World.block_lt_of_cell? _ _ hc
  have h3 : (q.add 0).block = q.block := by unfold Addr.add; split <;> rfl
  omega
theorem RdrS.below {w w' : World} {p : Nat} {l : List Nat} {er : Nat} (h : RdrS w p l er) (hb : Below w.heap.size w w') : RdrS w' p l er := by
  obtain ⟨a, n, c, h⟩ := h; exact ⟨a, n, c, h.kept hb⟩
theorem RdrS.grown {w w' : World} {p : Nat} {l : List Nat} {er : Nat} {row : Option Nat} (h : RdrS w p l er) (hg : w.grownBy w' row) (hr : ∀ k, row = some k → p < k) : RdrS w' p l er := by
  obtain ⟨a, n, c, h⟩ := h
  refine ⟨a, n, c, (hg.block p h.lt (fun e => by have := hr p e.symm; omega)).trans h.blk, ⟨h.row.1, h.row.2.1, h.row.2.2.1, h.row.2.2.2.1, fun i x hx => ?_⟩, h.len, h.low⟩
  obtain ⟨q, hq, hc⟩ := h.row.2.2.2.2 i x hx
  have hl : 0 < l.length := by have := (List.getElem?_eq_some_iff.1 hx).1; omega
  refine ⟨q, hq, hg.cell hc (fun e => ?_)⟩
  have h1 := hr _ e.symm
  have h2 := h.low hl q hq
  have h3 : (q.add i).block = q.block := by unfold Addr.add; split <;> rfl
  omega
theorem RdrS.lt {w : World} {p : Nat} {l : List Nat} {er : Nat} (h : RdrS w p l er) : p < w.heap.size := by obtain ⟨a, n, c, h⟩ := h; exact h.lt
theorem RdrS.byte {w : World} {p : Nat} {l : List Nat} {er : Nat} (h : RdrS w p l er) : ∀ x ∈ l, x < 256 := by obtain ⟨a, n, c, h⟩ := h; exact h.row.byte
def numR (l : List Nat) (er : Nat) : Nat × List Nat × Nat := step 0 l er (Cd.rd l)
def intR (l : List Nat) (er : Nat) : Int × List Nat × Nat := step 0 l er (Cd.sgn (Cd.rd l).1, (Cd.rd l).2)
def txtR (l : List Nat) (er : Nat) (most : Int) : List Nat × List Nat × Nat := step [] l er (Cd.rdText l most)
def mkU (x : Nat) : Value := .int .u64 (x : Nat)
def mkI (x : Int) : Value := .int .i64 x
def mkS (x : List Nat) : Value := .string (strB x)
set_option maxHeartbeats 400000 in
theorem Num_any (p : Nat) (l : List Nat) (er : Nat) (w : World) (h : RdrS w p l er) :
    Calls Try.prog 45 #[.pointer (some ⟨p, 0, none⟩)] w (RetRd w p mkU (numR l er)) := by
  have hr := read_u64 p l er w h (Cd.rd l) (Cd.rd_size l) _ rfl (by obtain ⟨a, n, c, h⟩ := h; exact rnum_any p a n c l er w h)
  have HR := Lib.hid hr
  clear h hr
  go_enter Try.func45, Try.ntmps45
  go_wp2_with fail
  refine HR.out.mono ?_
  rintro e w1 ⟨rfl, h1, h2⟩
  have H1 := Lib.hid h1; have H2 := Lib.hid h2; clear h1 h2
  go_wp2_with fail
  go_ret
  exact ⟨rfl, H1.out, H2.out⟩
set_option maxHeartbeats 400000 in
theorem Int_any (p : Nat) (l : List Nat) (er : Nat) (w : World) (h : RdrS w p l er) :
    Calls Try.prog 61 #[.pointer (some ⟨p, 0, none⟩)] w (RetRd w p mkI (intR l er)) := by
  have hr := read_i64 p l er w h (Cd.sgn (Cd.rd l).1, (Cd.rd l).2) (Cd.rd_size l) _ rfl (by obtain ⟨a, n, c, h⟩ := h; exact rwhole_any p a n c l er w h)
  have HR := Lib.hid hr
  clear h hr
  go_enter Try.func61, Try.ntmps61
  go_wp2_with fail
  refine HR.out.mono ?_
  rintro e w1 ⟨rfl, h1, h2⟩
  have H1 := Lib.hid h1; have H2 := Lib.hid h2; clear h1 h2
  go_wp2_with fail
  go_ret
  exact ⟨rfl, H1.out, H2.out⟩
theorem Num_at {p : Nat} {l : List Nat} {er : Nat} {w : World} (h : RdrS w p l er) {v : Nat} {l2 : List Nat} {er2 : Nat} (hr : numR l er = (v, l2, er2)) :
    Calls Try.prog 45 #[.pointer (some ⟨p, 0, none⟩)] w fun e w' => e = .returned (.int .u64 v) ∧ RdrS w' p l2 er2 ∧ w.grownBy w' (some p) := by
  have := Num_any p l er w h
  rw [hr] at this; exact this
theorem Int_at {p : Nat} {l : List Nat} {er : Nat} {w : World} (h : RdrS w p l er) {v : Int} {l2 : List Nat} {er2 : Nat} (hr : intR l er = (v, l2, er2)) :
    Calls Try.prog 61 #[.pointer (some ⟨p, 0, none⟩)] w fun e w' => e = .returned (.int .i64 v) ∧ RdrS w' p l2 er2 ∧ w.grownBy w' (some p) := by
  have := Int_any p l er w h
  rw [hr] at this; exact this
theorem rdText_size (l : List Nat) (most : Int) : (Cd.rdText l most).2.1 ≤ l.length := by
  have h := Cd.rd_size l
  unfold Cd.rdText
  split
  · simp
  · split
    · simp
    · split
      · simp
      · simp; omega
set_option maxHeartbeats 400000 in
theorem text_make (t0 : Value) (most : Int) (w : World) (ht : ∃ a, t0 = .pointer a) :
    Calls Try.prog 72 #[t0, .int .i64 most] w fun e w' => e = .returned (.func (.func 76) #[] #[.pointer (some ⟨w.heap.size, 0, none⟩), .pointer (some ⟨w.heap.size + 1, 0, none⟩)]) ∧ w' = (w.alloc (.cells #[t0] 65)).alloc (.cells #[.int .i64 most] 3) := by
  obtain ⟨a, rfl⟩ := ht
  go_enter Try.func72, Try.ntmps72
  go_wp2_with fail
  go_ret
  exact ⟨rfl, rfl⟩
set_option maxHeartbeats 400000 in
theorem Text_any (p : Nat) (l : List Nat) (er : Nat) (most : Int) (w : World) (h : RdrS w p l er) (hm1 : -9223372036854775808 ≤ most) (hm2 : most ≤ 9223372036854775807) :
    Calls Try.prog 62 #[.pointer (some ⟨p, 0, none⟩), .int .i64 most] w (RetRd w p mkS (txtR l er most)) := by
  obtain ⟨W, hW⟩ : ∃ W, W = (w.alloc (.cells #[.pointer (some ⟨p, 0, none⟩)] 65)).alloc (.cells #[.int .i64 most] 3) := ⟨_, rfl⟩
  have hbel : Below w.heap.size w W := by rw [hW]; exact ((Below.refl _ _).alloc (Nat.le_refl _) _).alloc (by simp) _
  have hR : RdrS W p l er := h.below hbel
  have k1 : W.cell? ⟨w.heap.size, 0, none⟩ = some (.pointer (some ⟨p, 0, none⟩)) := by rw [hW]; rw [cell_of_row _ _ _ _ _ _ (heap_alloc2_old _ _ _)]; rfl
  have k2 : W.cell? ⟨w.heap.size + 1, 0, none⟩ = some (.int .i64 most) := by rw [hW]; rw [cell_of_row _ _ _ _ _ _ (heap_alloc2_new _ _ _)]; rfl
  have hr := read_str p w.heap.size (w.heap.size + 1) l er W hR (Cd.rdText l most) (rdText_size l most) _ rfl (by obtain ⟨a, n, c, h⟩ := hR; exact text_step p _ _ a n c l er most W h k1 k2 hm1 hm2)
  have HR := Lib.hid hr; have HW := Lib.hid hW; have HB := Lib.hid hbel
  clear h hr hW hbel hR k1 k2
  go_enter Try.func62, Try.ntmps62
  go_wp2_with fail
  refine (text_make _ most _ ⟨_, rfl⟩).mono ?_
  rintro e w1 ⟨rfl, h1⟩
  rw [← HW.out] at h1
  subst h1
  go_wp2_with fail
  refine HR.out.mono ?_
  rintro e w2 ⟨rfl, h1, h2⟩
  have H1 := Lib.hid h1; have H2 := Lib.hid (grown_trans (row := some p) (grown_of_below HB.out) h2 (New.refl _ _)); clear h1 h2
  go_wp2_with fail
  go_ret
  exact ⟨rfl, H1.out, H2.out⟩
theorem Text_at {p : Nat} {l : List Nat} {er : Nat} {w : World} (h : RdrS w p l er) {most : Int} (hm1 : -9223372036854775808 ≤ most) (hm2 : most ≤ 9223372036854775807) {v : List Nat} {l2 : List Nat} {er2 : Nat} (hr : txtR l er most = (v, l2, er2)) :
    Calls Try.prog 62 #[.pointer (some ⟨p, 0, none⟩), .int .i64 most] w fun e w' => e = .returned (.string (strB v)) ∧ RdrS w' p l2 er2 ∧ w.grownBy w' (some p) := by
  have := Text_any p l er most w h hm1 hm2
  rw [hr] at this; exact this
theorem Err_at {p : Nat} {l : List Nat} {er : Nat} {w : World} (h : RdrS w p l er) : Calls Try.prog 49 #[.pointer (some ⟨p, 0, none⟩)] w fun e w' => e = .returned (.int .i64 er) ∧ w = w' := by
  obtain ⟨a, n, c, h⟩ := h; exact err_any p a n c l er w h
theorem Left_at {p : Nat} {l : List Nat} {er : Nat} {w : World} (h : RdrS w p l er) : Calls Try.prog 47 #[.pointer (some ⟨p, 0, none⟩)] w fun e w' => e = .returned (.int .i64 l.length) ∧ w = w' := by
  obtain ⟨a, n, c, h⟩ := h; rw [h.len]; exact left_any p a n c l er w h
set_option maxHeartbeats 400000 in
theorem Num_nil (w : World) : Calls Try.prog 45 #[.pointer none] w fun e w' => e = .returned (.int .u64 0) ∧ w = w' := by
  have hr : Calls Try.prog 56 #[.pointer none, .func (.func 57) #[.pointer none] #[]] w fun e w' => e = .returned (.int .u64 0) ∧ w = w' := by
    go_enter Try.func56, Try.ntmps56
    go_wp2_with fail
    refine (err_nil _).mono ?_
    rintro e w' ⟨rfl, rfl⟩
    go_wp2_with fail
    go_ret
    exact ⟨rfl, rfl⟩
  have HR := Lib.hid hr; clear hr
  go_enter Try.func45, Try.ntmps45
  go_wp2_with fail
  refine HR.out.mono ?_
  rintro e w' ⟨rfl, rfl⟩
  go_wp2_with fail
  go_ret
  exact ⟨rfl, rfl⟩
set_option maxHeartbeats 400000 in
theorem Int_nil (w : World) : Calls Try.prog 61 #[.pointer none] w fun e w' => e = .returned (.int .i64 0) ∧ w = w' := by
  have hr : Calls Try.prog 69 #[.pointer none, .func (.func 70) #[.pointer none] #[]] w fun e w' => e = .returned (.int .i64 0) ∧ w = w' := by
    go_enter Try.func69, Try.ntmps69
    go_wp2_with fail
    refine (err_nil _).mono ?_
    rintro e w' ⟨rfl, rfl⟩
    go_wp2_with fail
    go_ret
    exact ⟨rfl, rfl⟩
  have HR := Lib.hid hr; clear hr
  go_enter Try.func61, Try.ntmps61
  go_wp2_with fail
  refine HR.out.mono ?_
  rintro e w' ⟨rfl, rfl⟩
  go_wp2_with fail
  go_ret
  exact ⟨rfl, rfl⟩
set_option maxHeartbeats 400000 in
theorem Text_nil (most : Int) (w : World) : Calls Try.prog 62 #[.pointer none, .int .i64 most] w fun e w' => e = .returned (.string ⟨#[]⟩) ∧ Below w.heap.size w w' := by
  have hr : ∀ (v : Value) (w : World), Calls Try.prog 71 #[.pointer none, v] w fun e w' => e = .returned (.string ⟨#[]⟩) ∧ w = w' := by
    intro v w
    go_enter Try.func71, Try.ntmps71
    go_wp2_with fail
    refine (err_nil _).mono ?_
    rintro e w' ⟨rfl, rfl⟩
    go_wp2_with fail
    go_ret
    exact ⟨rfl, rfl⟩
  have HR := Lib.hid hr; clear hr
  go_enter Try.func62, Try.ntmps62
  go_wp2_with fail
  refine (text_make _ most _ ⟨_, rfl⟩).mono ?_
  rintro e w1 ⟨rfl, h1⟩
  subst h1
  go_wp2_with fail
  refine (HR.out _ _).mono ?_
  rintro e w' ⟨rfl, rfl⟩
  go_wp2_with fail
  go_ret
  exact ⟨rfl, ((Below.refl _ _).alloc (Nat.le_refl _) _).alloc (by simp) _⟩
set_option maxHeartbeats 400000 in
theorem NewReader_any (a : Option Addr) (n cap : Nat) (l : List Nat) (w : World) (hr : Row w a cap l) (hn : l.length = n) (hsm : n ≤ 140737488355328) :
    Calls Try.prog 43 #[.slice a n cap] w fun e w' => ∃ p, e = .returned (.pointer (some ⟨p, 0, none⟩)) ∧ RdrS w' p l 0 ∧ Below w.heap.size w w' ∧ w.heap.size ≤ p := by
  have Hr := Lib.hid hr; have Hn := Lib.hid hn; clear hr hn
  go_enter Try.func43, Try.ntmps43
  go_wp2_with fail
  refine (clone_any a n cap l _ Hr.out Hn.out hsm).mono ?_
  rintro e w1 hret
  obtain ⟨v1, row1, rfl, h1, h2⟩ := hret.below
  obtain ⟨a1, c1, rfl, hrow⟩ := h1.row
  have H1 := Lib.hid hrow; have H2 := Lib.hid h2
  clear h1 h2 hret hrow
  go_wp2_with fail
  go_ret
  refine ⟨w1.heap.size, rfl, ⟨a1, l.length, c1, ?_, H1.out.alloc _, rfl, fun hl q hq => H1.out.blockLt hl q hq⟩, H2.out.alloc H2.out.size _, H2.out.size⟩
  exact heap_alloc_new w1 _
end Go.Proofs.Ytpkfjgoimaomfaa
