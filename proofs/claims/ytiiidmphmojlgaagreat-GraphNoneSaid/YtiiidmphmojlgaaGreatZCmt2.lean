import Derived.Test.YtiiidmphmojlgaaGreatZOp3
import Derived.Test.YtiiidmphmojlgaaGreatZOwn
import Derived.Test.YtiiidmphmojlgaaGreatZOp18
import Derived.Test.YtiiidmphmojlgaaGreatZDot7
namespace Go.Proofs.YtiiidmphmojlgaaGreat
open Go.RowKit Go.Buf Go.LB Go.Lib
set_option linter.unusedSimpArgs false
set_option linter.unusedVariables false
theorem encT_len (d : Dt.Dot) : (encT d).length = 3 := rfl
theorem encT_len_one (l : List Dt.Dot) : ∀ u ∈ l.flatMap encT, u.oneCell' = true := by
 intro u hu
 rw [List.mem_flatMap] at hu
 obtain ⟨d, _, hd⟩ := hu
 simp [encT] at hd
 rcases hd with rfl | rfl | rfl <;> rfl
theorem VRow.holdsX {w : World} {p : Addr} {cap : Nat} {l : List Dt.Dot} (h : VRow w (some p) cap l) : ∀ j u, (l.flatMap encT)[j]? = some u → w.cell? (p.add j) = some u := by
 intro j u hu
 obtain ⟨i, d, r, h1, h2, rfl, h4⟩ := flat_get encT_len (by omega) hu
 obtain ⟨q, hq, c0, c1, c2⟩ := h.2.2.2.2 i d h1
 cases hq
 have : r = 0 ∨ r = 1 ∨ r = 2 := by omega
 rcases this with rfl | rfl | rfl <;> simp [encT] at h4 <;> subst h4
 ·simpa using c0
 ·exact c1
 ·exact c2
theorem srcT {w : World} {a : Option Addr} {cap : Nat} {l : List Dt.Dot} (h : VRow w a cap l) : Src Tryz.prog 3 28 (.slice a l.length cap) l.length (l.flatMap encT) w := by
 cases a with
 | none =>
  have := h.2.2.2.1 rfl
  have hle := h.le
  have hl : l = [] := List.eq_nil_of_length_eq_zero (by omega)
  subst hl
  exact Src.ofNil w Tryz.underlying28 cap
 | some p => exact Src.ofSlice w Tryz.underlying28 p l.length cap _ (enc_length encT_len l) h.holdsX (encT_len_one l)
theorem cloneD_x_row {B : Nat} {w : World} {v : Value} {l : List Dt.Dot} {row : Option Nat} (h : Own 27 3 encT B w v l row) (hok : ∀ x ∈ l, Dt.okD x) : ∃ a c, v = .slice a l.length c ∧ VRow w a c l := by
 obtain ⟨a, c, h1, h2, h3, h4, h5⟩ := h.reads encT_len
 refine ⟨a, c, h1, h2, h3, hok, h4, fun i d hd => ?_⟩
 obtain ⟨q, hq, hc⟩ := h5 i d hd
 exact ⟨q, hq, hc 0 _ rfl, hc 1 _ rfl, hc 2 _ rfl⟩
set_option maxRecDepth 100000 in
set_option maxHeartbeats 1000000 in
theorem cloneD_x (a : Option Addr) (n cap : Nat) (l : List Dt.Dot) (W : World) (hr : VRow W a cap l) (hl : l.length = n) (hn : n ≤ 1000000000) :
  Calls Tryz.prog 27 #[.slice a n cap] W fun e w' => (∃ a' c' row, e = .returned (.slice a' n c') ∧ Own 27 3 encT W.heap.size w' (.slice a' n c') l row) ∧ Below W.heap.size W w' := by
 have ke := fun (w : World) (a : Option Addr) (n c : Nat) => Lib.run_eql_slice_nil (P := Tryz.prog) w 28 27 a n c 0 0 Tryz.underlying28
 cases a with
 | none =>
  have h1 := hr.2.2.2.1 rfl
  have hle := hr.le
  obtain rfl : l = [] := List.eq_nil_of_length_eq_zero (by omega)
  simp at hl
  subst hl
  subst h1
  have HR := Lib.hid hr
  clear hr hle
  go_enter Tryz.func27, Tryz.ntmps27
  go_wp2_with fail
  go_ret
  exact ⟨⟨none, 0, none, rfl, Own.empty (Nat.le_refl _) none⟩, Below.refl _ _⟩
 | some p =>
  have HR := Lib.hid hr; have HL := Lib.hid hl
  clear hr hl
  obtain ⟨i0, hi, hz0, hz1, hz2⟩ := info_parts infoDot
  have hrun : ∀ ty, ∃ v' w' row', (Builtin.append_ #[28, 28] ty #[.slice (some ⟨W.heap.size, 0, none⟩) 0 0, .slice (some p) n cap]).run Tryz.prog (W.alloc (.cells #[] 27)) = .ok v' w' ∧ Own 27 3 encT (W.alloc (.cells #[] 27)).heap.size w' v' l row' ∧ (W.alloc (.cells #[] 27)).grownBy w' none ∧ New (W.alloc (.cells #[] 27)) none row' := fun ty => by
   have hs := srcT (HR.out.below ((Below.refl _ _).alloc (Nat.le_refl _) (.cells #[] 27)))
   rw [HL.out] at hs
   have := LB.run_append_owned (P := Tryz.prog) encT_len (W.alloc (.cells #[] 27)) (W.alloc (.cells #[] 27)).heap.size 28 28 ty i0 _ 16 Tryz.underlying28 hi hz0 hz1 hz2 rfl (Own.empty (Nat.le_refl _) (some ⟨W.heap.size, 0, none⟩)) (.slice (some p) n cap) l (by rw [HL.out]; exact hs) (by simp [maxLen]; have := HL.out; omega) (by simp; have := HL.out; omega)
   simpa using this
  have HRun := Lib.hid hrun; clear hrun hi hz0 hz1 hz2
  obtain ⟨v, w1, row, h1, h2, h3, h4⟩ := HRun.out 28
  have hok : ∀ x ∈ l, Dt.okD x := HR.out.2.2.1
  obtain ⟨a', c', rfl, hrow⟩ := cloneD_x_row h2 hok
  rw [HL.out] at h1 h2
  have H2 := Lib.hid h2; have H3 := Lib.hid h3
  clear h2 h3 h4 hrow hok
  go_enter Tryz.func27, Tryz.ntmps27
  go_wp2_with (at_builtin; refine Lib.wpList_append_run _ rfl _ _ _ _ rfl _ _ rfl rfl _ _ h1 ?_)
  go_ret
  refine ⟨⟨a', c', row, rfl, H2.out.base (by simp)⟩, ?_⟩
  exact ((Below.refl W.heap.size W).alloc (Nat.le_refl _) _).trans ((below_of_grown H3.out (Nat.le_refl _) (fun k e => by cases e)).mono (by simp))
theorem encS_len (d : ByteArray) : (encS d).length = 1 := rfl
theorem encS_len_one (l : List ByteArray) : ∀ u ∈ l.flatMap encS, u.oneCell' = true := by
 intro u hu
 rw [List.mem_flatMap] at hu
 obtain ⟨d, _, hd⟩ := hu
 simp [encS] at hd
 subst hd; rfl
theorem SRow.holdsX {w : World} {p : Addr} {cap : Nat} {l : List ByteArray} (h : SRow w (some p) cap l) : ∀ j u, (l.flatMap encS)[j]? = some u → w.cell? (p.add j) = some u := by
 intro j u hu
 obtain ⟨i, d, r, h1, h2, rfl, h4⟩ := flat_get encS_len (by omega) hu
 obtain ⟨q, hq, c0⟩ := h.2.2.2.2 i d h1
 cases hq
 have : r = 0 := by omega
 subst this
 simp [encS] at h4
 subst h4
 simpa using c0
theorem srcS {w : World} {a : Option Addr} {cap : Nat} {l : List ByteArray} (h : SRow w a cap l) : Src Tryz.prog 1 30 (.slice a l.length cap) l.length (l.flatMap encS) w := by
 cases a with
 | none =>
  have := h.2.2.2.1 rfl
  have hle := h.le
  have hl : l = [] := List.eq_nil_of_length_eq_zero (by omega)
  subst hl
  exact Src.ofNil w Tryz.underlying30 cap
 | some p => exact Src.ofSlice w Tryz.underlying30 p l.length cap _ (enc_length encS_len l) h.holdsX (encS_len_one l)
theorem cloneS_x_row {B : Nat} {w : World} {v : Value} {l : List ByteArray} {row : Option Nat} (h : Own 9 1 encS B w v l row) (hok : ∀ x ∈ l, x.size ≤ 9223372036854775807) : ∃ a c, v = .slice a l.length c ∧ SRow w a c l := by
 obtain ⟨a, c, h1, h2, h3, h4, h5⟩ := h.reads encS_len
 refine ⟨a, c, h1, h2, h3, hok, h4, fun i d hd => ?_⟩
 obtain ⟨q, hq, hc⟩ := h5 i d hd
 exact ⟨q, hq, by simpa using hc 0 _ rfl⟩
set_option maxRecDepth 100000 in
set_option maxHeartbeats 1000000 in
theorem cloneS_x (a : Option Addr) (n cap : Nat) (l : List ByteArray) (W : World) (hr : SRow W a cap l) (hl : l.length = n) (hn : n ≤ 1000000000) :
  Calls Tryz.prog 56 #[.slice a n cap] W fun e w' => (∃ a' c' row, e = .returned (.slice a' n c') ∧ Own 9 1 encS W.heap.size w' (.slice a' n c') l row) ∧ Below W.heap.size W w' := by
 have ke := fun (w : World) (a : Option Addr) (n c : Nat) => Lib.run_eql_slice_nil (P := Tryz.prog) w 30 9 a n c 0 0 Tryz.underlying30
 cases a with
 | none =>
  have h1 := hr.2.2.2.1 rfl
  have hle := hr.le
  obtain rfl : l = [] := List.eq_nil_of_length_eq_zero (by omega)
  simp at hl
  subst hl
  subst h1
  have HR := Lib.hid hr
  clear hr hle
  go_enter Tryz.func56, Tryz.ntmps56
  go_wp2_with fail
  go_ret
  exact ⟨⟨none, 0, none, rfl, Own.empty (Nat.le_refl _) none⟩, Below.refl _ _⟩
 | some p =>
  have HR := Lib.hid hr; have HL := Lib.hid hl
  clear hr hl
  obtain ⟨i0, hi, hz0, hz1, hz2⟩ := info_parts infoStr
  have hrun : ∀ ty, ∃ v' w' row', (Builtin.append_ #[30, 30] ty #[.slice (some ⟨W.heap.size, 0, none⟩) 0 0, .slice (some p) n cap]).run Tryz.prog (W.alloc (.cells #[] 9)) = .ok v' w' ∧ Own 9 1 encS (W.alloc (.cells #[] 9)).heap.size w' v' l row' ∧ (W.alloc (.cells #[] 9)).grownBy w' none ∧ New (W.alloc (.cells #[] 9)) none row' := fun ty => by
   have hs := srcS (HR.out.below ((Below.refl _ _).alloc (Nat.le_refl _) (.cells #[] 9)))
   rw [HL.out] at hs
   have := LB.run_append_owned (P := Tryz.prog) encS_len (W.alloc (.cells #[] 9)) (W.alloc (.cells #[] 9)).heap.size 30 30 ty i0 _ 16 Tryz.underlying30 hi hz0 hz1 hz2 rfl (Own.empty (Nat.le_refl _) (some ⟨W.heap.size, 0, none⟩)) (.slice (some p) n cap) l (by rw [HL.out]; exact hs) (by simp [maxLen]; have := HL.out; omega) (by simp; have := HL.out; omega)
   simpa using this
  have HRun := Lib.hid hrun; clear hrun hi hz0 hz1 hz2
  obtain ⟨v, w1, row, h1, h2, h3, h4⟩ := HRun.out 30
  have hok : ∀ x ∈ l, x.size ≤ 9223372036854775807 := HR.out.2.2.1
  obtain ⟨a', c', rfl, hrow⟩ := cloneS_x_row h2 hok
  rw [HL.out] at h1 h2
  have H2 := Lib.hid h2; have H3 := Lib.hid h3
  clear h2 h3 h4 hrow hok
  go_enter Tryz.func56, Tryz.ntmps56
  go_wp2_with (at_builtin; refine Lib.wpList_append_run _ rfl _ _ _ _ rfl _ _ rfl rfl _ _ h1 ?_)
  go_ret
  refine ⟨⟨a', c', row, rfl, H2.out.base (by simp)⟩, ?_⟩
  exact ((Below.refl W.heap.size W).alloc (Nat.le_refl _) _).trans ((below_of_grown H3.out (Nat.le_refl _) (fun k e => by cases e)).mono (by simp))
end Go.Proofs.YtiiidmphmojlgaaGreat
