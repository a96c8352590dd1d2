import Derived.Test.YteakbfbacfhhoaaGreatZOwn
import Derived.Test.YteakbfbacfhhoaaGreatZLeaf7
import Derived.Test.YteakbfbacfhhoaaGreatZDot8
namespace Go.Proofs.YteakbfbacfhhoaaGreat
open Go.RowKit Go.Buf Go.LB Go.Lib
set_option linter.unusedSimpArgs false
set_option linter.unusedVariables false
theorem encI_len (d : Lm.It) : (encI d).length = 5 := rfl
theorem encI_one (d : Lm.It) : ∀ v ∈ encI d, v.oneCell' = true := by intro v hv; simp [encI] at hv; rcases hv with rfl | rfl | rfl | rfl | rfl <;> rfl
abbrev OwnI (B : Nat) (w : World) (v : Value) (l : List Lm.It) (row : Option Nat) : Prop := Own 47 5 encI B w v l row
abbrev OwnD (B : Nat) (w : World) (v : Value) (l : List Dt.Dot) (row : Option Nat) : Prop := Own 27 3 encD B w v l row
theorem ownI_row {B : Nat} {w : World} {v : Value} {l : List Lm.It} {row : Option Nat} (h : OwnI B w v l row) (hok : ∀ x ∈ l, okI x) : ∃ a c, v = .slice a l.length c ∧ IRow w a c l := by
 obtain ⟨a, c, h1, h2, h3, h4, h5⟩ := h.reads encI_len
 refine ⟨a, c, h1, h2, h3, hok, h4, fun i d hd => ?_⟩
 obtain ⟨q, hq, hc⟩ := h5 i d hd
 exact ⟨q, hq, hc 0 _ rfl, hc 1 _ rfl, hc 2 _ rfl, hc 3 _ rfl, hc 4 _ rfl⟩
theorem ownD_row {B : Nat} {w : World} {v : Value} {l : List Dt.Dot} {row : Option Nat} (h : OwnD B w v l row) (hok : ∀ x ∈ l, Dt.okD x) : ∃ a c, v = .slice a l.length c ∧ VRow w a c l := by
 obtain ⟨a, c, h1, h2, h3, h4, h5⟩ := h.reads encD_len
 refine ⟨a, c, h1, h2, h3, hok, h4, fun i d hd => ?_⟩
 obtain ⟨q, hq, hc⟩ := h5 i d hd
 exact ⟨q, hq, hc 0 _ rfl, hc 1 _ rfl, hc 2 _ rfl⟩
theorem flatI_one (l : List Lm.It) : ∀ u ∈ l.flatMap encI, u.oneCell' = true := by
 intro u hu
 rw [List.mem_flatMap] at hu
 obtain ⟨d, _, hd⟩ := hu
 exact encI_one d u hd
theorem flatD_one (l : List Dt.Dot) : ∀ u ∈ l.flatMap encD, u.oneCell' = true := by
 intro u hu
 rw [List.mem_flatMap] at hu
 obtain ⟨d, _, hd⟩ := hu
 exact encD_one d u hd
theorem IRow.holds {w : World} {p : Addr} {cap : Nat} {l : List Lm.It} (h : IRow w (some p) cap l) : ∀ j u, (l.flatMap encI)[j]? = some u → w.cell? (p.add j) = some u := by
 intro j u hu
 obtain ⟨i, d, r, h1, h2, rfl, h4⟩ := flat_get encI_len (by omega) hu
 obtain ⟨q, hq, c0, c1, c2, c3, c4⟩ := h.2.2.2.2 i d h1
 cases hq
 have : r = 0 ∨ r = 1 ∨ r = 2 ∨ r = 3 ∨ r = 4 := by omega
 rcases this with rfl | rfl | rfl | rfl | rfl <;> simp [encI] at h4 <;> subst h4
 ·simpa using c0
 ·exact c1
 ·exact c2
 ·exact c3
 ·exact c4
theorem VRow.holds {w : World} {p : Addr} {cap : Nat} {l : List Dt.Dot} (h : VRow w (some p) cap l) : ∀ j u, (l.flatMap encD)[j]? = some u → w.cell? (p.add j) = some u := by
 intro j u hu
 obtain ⟨i, d, r, h1, h2, rfl, h4⟩ := flat_get encD_len (by omega) hu
 obtain ⟨q, hq, c0, c1, c2⟩ := h.2.2.2.2 i d h1
 cases hq
 have : r = 0 ∨ r = 1 ∨ r = 2 := by omega
 rcases this with rfl | rfl | rfl <;> simp [encD] at h4 <;> subst h4
 ·simpa using c0
 ·exact c1
 ·exact c2
theorem srcI {w : World} {a : Option Addr} {cap : Nat} {l : List Lm.It} (h : IRow w a cap l) : Src Tryz.prog 5 28 (.slice a l.length cap) l.length (l.flatMap encI) w := by
 cases a with
 | none =>
  have := h.2.2.2.1 rfl
  have hle := h.le
  have hl : l = [] := List.eq_nil_of_length_eq_zero (by omega)
  subst hl
  exact Src.ofNil w Tryz.underlying28 cap
 | some p => exact Src.ofSlice w Tryz.underlying28 p l.length cap _ (enc_length encI_len l) h.holds (flatI_one l)
theorem srcD {w : World} {a : Option Addr} {cap : Nat} {l : List Dt.Dot} (h : VRow w a cap l) : Src Tryz.prog 3 29 (.slice a l.length cap) l.length (l.flatMap encD) w := by
 cases a with
 | none =>
  have := h.2.2.2.1 rfl
  have hle := h.le
  have hl : l = [] := List.eq_nil_of_length_eq_zero (by omega)
  subst hl
  exact Src.ofNil w Tryz.underlying29 cap
 | some p => exact Src.ofSlice w Tryz.underlying29 p l.length cap _ (enc_length encD_len l) h.holds (flatD_one l)
theorem info_item : (Tryz.prog.info? 47).map (fun i => (i.zero, i.size, i.bytes)) = some (some (.agg #[.int .u64 0, .int .u8 0, .int .u32 0, .int .u64 0, .string ⟨#[]⟩]), 5, 40) := by kernel_rfl
set_option maxRecDepth 100000 in
set_option maxHeartbeats 1000000 in
theorem cloneI_any (a : Option Addr) (n cap : Nat) (l : List Lm.It) (W : World) (hr : IRow W a cap l) (hl : l.length = n) (hn : n ≤ 1000000000) :
  Calls Tryz.prog 29 #[.slice a n cap] W fun e w' => (∃ v row, e = .returned v ∧ OwnI W.heap.size w' v l row) ∧ Below W.heap.size W w' := by
 have ke := fun (w : World) (a : Option Addr) (n c : Nat) => Lib.run_eql_slice_nil (P := Tryz.prog) w 28 47 a n c 0 0 Tryz.underlying28
 cases a with
 | none =>
  have h1 := hr.2.2.2.1 rfl
  have hle := hr.le
  obtain rfl : l = [] := List.eq_nil_of_length_eq_zero (by omega)
  simp at hl
  subst hl
  subst h1
  clear hr hle
  go_enter Tryz.func29, Tryz.ntmps29
  go_wp2_with fail
  go_ret
  exact ⟨⟨_, none, rfl, Own.empty (Nat.le_refl _) none⟩, Below.refl _ _⟩
 | some p =>
  have HR := Lib.hid hr; have HL := Lib.hid hl
  clear hr hl
  obtain ⟨i0, hi, hz0, hz1, hz2⟩ := info_parts info_item
  have hrun : ∀ ty, ∃ v' w' row', (Builtin.append_ #[28, 28] ty #[.slice (some ⟨W.heap.size, 0, none⟩) 0 0, .slice (some p) n cap]).run Tryz.prog (W.alloc (.cells #[] 47)) = .ok v' w' ∧ OwnI (W.alloc (.cells #[] 47)).heap.size w' v' l row' ∧ (W.alloc (.cells #[] 47)).grownBy w' none ∧ New (W.alloc (.cells #[] 47)) none row' := fun ty => by
   have hs := srcI (HR.out.below ((Below.refl _ _).alloc (Nat.le_refl _) (.cells #[] 47)))
   rw [HL.out] at hs
   have := LB.run_append_owned (P := Tryz.prog) encI_len (W.alloc (.cells #[] 47)) (W.alloc (.cells #[] 47)).heap.size 28 28 ty i0 _ 40 Tryz.underlying28 hi hz0 hz1 hz2 rfl (Own.empty (Nat.le_refl _) (some ⟨W.heap.size, 0, none⟩)) (.slice (some p) n cap) l (by rw [HL.out]; exact hs) (by simp [maxLen]; have := HL.out; omega) (by simp; have := HL.out; omega)
   simpa using this
  have HRun := Lib.hid hrun; clear hrun hi hz0 hz1 hz2
  obtain ⟨v, w1, row, h1, h2, h3, h4⟩ := HRun.out 28
  have H2 := Lib.hid h2; have H3 := Lib.hid h3
  clear h2 h3 h4
  go_enter Tryz.func29, Tryz.ntmps29
  go_wp2_with (at_builtin; refine Lib.wpList_append_run _ rfl _ _ _ _ rfl _ _ rfl rfl _ _ h1 ?_)
  go_ret
  refine ⟨⟨_, row, rfl, H2.out.base (by simp)⟩, ?_⟩
  exact ((Below.refl W.heap.size W).alloc (Nat.le_refl _) _).trans ((below_of_grown H3.out (Nat.le_refl _) (fun k e => by cases e)).mono (by simp))
set_option maxRecDepth 100000 in
set_option maxHeartbeats 1000000 in
theorem cloneD_any (a : Option Addr) (n cap : Nat) (l : List Dt.Dot) (W : World) (hr : VRow W a cap l) (hl : l.length = n) (hn : n ≤ 1000000000) :
  Calls Tryz.prog 30 #[.slice a n cap] W fun e w' => (∃ v row, e = .returned v ∧ OwnD W.heap.size w' v l row) ∧ Below W.heap.size W w' := by
 have ke := fun (w : World) (a : Option Addr) (n c : Nat) => Lib.run_eql_slice_nil (P := Tryz.prog) w 29 27 a n c 0 0 Tryz.underlying29
 cases a with
 | none =>
  have h1 := hr.2.2.2.1 rfl
  have hle := hr.le
  obtain rfl : l = [] := List.eq_nil_of_length_eq_zero (by omega)
  simp at hl
  subst hl
  subst h1
  clear hr hle
  go_enter Tryz.func30, Tryz.ntmps30
  go_wp2_with fail
  go_ret
  exact ⟨⟨_, none, rfl, Own.empty (Nat.le_refl _) none⟩, Below.refl _ _⟩
 | some p =>
  have HR := Lib.hid hr; have HL := Lib.hid hl
  clear hr hl
  obtain ⟨i0, hi, hz0, hz1, hz2⟩ := info_parts info_dot
  have hrun : ∀ ty, ∃ v' w' row', (Builtin.append_ #[29, 29] ty #[.slice (some ⟨W.heap.size, 0, none⟩) 0 0, .slice (some p) n cap]).run Tryz.prog (W.alloc (.cells #[] 27)) = .ok v' w' ∧ OwnD (W.alloc (.cells #[] 27)).heap.size w' v' l row' ∧ (W.alloc (.cells #[] 27)).grownBy w' none ∧ New (W.alloc (.cells #[] 27)) none row' := fun ty => by
   have hs := srcD (HR.out.below ((Below.refl _ _).alloc (Nat.le_refl _) (.cells #[] 27)))
   rw [HL.out] at hs
   have := LB.run_append_owned (P := Tryz.prog) encD_len (W.alloc (.cells #[] 27)) (W.alloc (.cells #[] 27)).heap.size 29 29 ty i0 _ 16 Tryz.underlying29 hi hz0 hz1 hz2 rfl (Own.empty (Nat.le_refl _) (some ⟨W.heap.size, 0, none⟩)) (.slice (some p) n cap) l (by rw [HL.out]; exact hs) (by simp [maxLen]; have := HL.out; omega) (by simp; have := HL.out; omega)
   simpa using this
  have HRun := Lib.hid hrun; clear hrun hi hz0 hz1 hz2
  obtain ⟨v, w1, row, h1, h2, h3, h4⟩ := HRun.out 29
  have H2 := Lib.hid h2; have H3 := Lib.hid h3
  clear h2 h3 h4
  go_enter Tryz.func30, Tryz.ntmps30
  go_wp2_with (at_builtin; refine Lib.wpList_append_run _ rfl _ _ _ _ rfl _ _ rfl rfl _ _ h1 ?_)
  go_ret
  refine ⟨⟨_, row, rfl, H2.out.base (by simp)⟩, ?_⟩
  exact ((Below.refl W.heap.size W).alloc (Nat.le_refl _) _).trans ((below_of_grown H3.out (Nat.le_refl _) (fun k e => by cases e)).mono (by simp))
end Go.Proofs.YteakbfbacfhhoaaGreat
namespace Go.Proofs.YteakbfbacfhhoaaGreat
open Go.RowKit Go.Buf Go.LB Go.Lib
set_option linter.unusedSimpArgs false
set_option linter.unusedVariables false
theorem zeroItem (w : World) : (zeroValue 47).run Tryz.prog w = .ok (.agg #[.int .u64 0, .int .u8 0, .int .u32 0, .int .u64 0, .string ⟨#[]⟩]) w := by kernel_rfl
theorem zeroDot (w : World) : (zeroValue 27).run Tryz.prog w = .ok (.agg #[.int .u8 0, .int .u32 0, .int .u64 0]) w := by kernel_rfl
theorem enters_drop : Enters 69 := enters_of Tryz.func69 (by kernel_rfl) (by kernel_rfl)
theorem enters_say : Enters 73 := enters_of Tryz.func73 (by kernel_rfl) (by kernel_rfl)
theorem elemI {w : World} {g : Nat} {l : List Lm.It} {tl : List Value} (h : Blk w g 47 (l.flatMap encI ++ tl)) {j : Nat} {x : Lm.It} (hx : l[j]? = some x) :
  w.cell? ⟨g, j * 5, none⟩ = some (.int .u64 (x.1 : Int)) ∧ w.cell? ⟨g, j * 5 + 1, none⟩ = some (.int .u8 (x.2.1.1.1 : Int)) ∧ w.cell? ⟨g, j * 5 + 2, none⟩ = some (.int .u32 (x.2.1.1.2 : Int)) ∧ w.cell? ⟨g, j * 5 + 3, none⟩ = some (.int .u64 (x.2.1.2 : Int)) ∧ w.cell? ⟨g, j * 5 + 4, none⟩ = some (.string x.2.2) := by
 have hj := (List.getElem?_eq_some_iff.1 hx).1
 have hc : ∀ r u, r < 5 → (encI x)[r]? = some u → w.cell? ⟨g, j * 5 + r, none⟩ = some u := fun r u hr hu => by
  rw [h.cell, List.getElem?_append_left (by rw [enc_length encI_len]; omega), enc_get encI_len l j x hx r hr]; exact hu
 exact ⟨hc 0 _ (by omega) rfl, hc 1 _ (by omega) rfl, hc 2 _ (by omega) rfl, hc 3 _ (by omega) rfl, hc 4 _ (by omega) rfl⟩
theorem setI {w : World} {g : Nat} {l : List Lm.It} {tl : List Value} (h : Blk w g 47 (l.flatMap encI ++ tl)) {k : Nat} (hk : k < l.length) (x : Lm.It) :
  Blk (w.setCells g (k * 5) (encI x)) g 47 ((l.set k x).flatMap encI ++ tl) := by
 have := h.setCells (encI x) (k * 5) (by rw [List.length_append, enc_length encI_len, encI_len]; omega)
 rwa [splice_elem encI_len hk] at this
theorem filter_take {p : Lm.It → Bool} {l : List Lm.It} {j : Nat} {x : Lm.It} (h : l[j]? = some x) : (l.take (j + 1)).filter p = (l.take j).filter p ++ (if p x then [x] else []) := by
 obtain ⟨hj, rfl⟩ := List.getElem?_eq_some_iff.1 h
 rw [List.take_succ_eq_append_getElem hj, List.filter_append]
 simp [List.filter_cons]
theorem filter_none {p : Lm.It → Bool} {l : List Lm.It} {j : Nat} (h : ∀ (i : Nat) (d : Lm.It), i < j → l[i]? = some d → p d = false) : (l.take j).filter (fun d => !p d) = l.take j := by
 rw [List.filter_eq_self]
 intro d hd
 obtain ⟨i, hi⟩ := List.getElem?_of_mem hd
 rw [List.getElem?_take] at hi
 split at hi
 ·next h1 => simp [h i d h1 hi]
 ·cases hi
theorem kept_at {a l : List Lm.It} {j : Nat} (h : a.length ≤ j) : (a ++ l.drop a.length)[j]? = l[j]? := by
 rw [List.getElem?_append_right h, List.getElem?_drop]; congr 1; omega
theorem kept_set {a l : List Lm.It} (h : a.length < l.length) (x : Lm.It) : (a ++ l.drop a.length).set a.length x = (a ++ [x]) ++ l.drop (a ++ [x]).length := by
 have e : (l.drop a.length).set 0 x = x :: l.drop (a.length + 1) := by rw [List.drop_eq_getElem_cons h]; rfl
 rw [List.set_append_right _ _ (Nat.le_refl _), Nat.sub_self, e]
 simp
set_option maxRecDepth 100000 in
set_option maxHeartbeats 6400000 in
theorem deleteI_own (g n cap : Nat) (tl : List Value) (f : Nat) (cp : Array Value) (p : Lm.It → Bool) (l : List Lm.It) (W : World) (hb : Blk W g 47 (l.flatMap encI ++ tl)) (hl : l.length = n) (hok : ∀ x ∈ l, okI x) (hc : n ≤ cap) (hm : cap ≤ maxLen) (ht : (l.flatMap encI ++ tl).length = cap * 5) (hE : Enters f)
  (hF : ∀ (d : Lm.It) (w : World), d ∈ l → Chg (fun k => k = g) W w → Calls Tryz.prog f (#[itVd d] ++ cp) w fun e w' => e = .returned (.bool (p d)) ∧ Below w.heap.size w w') :
  Calls Tryz.prog 68 #[.slice (some ⟨g, 0, none⟩) n cap, .func (.func f) #[] cp] W fun e w' => (∃ tl', e = .returned (.slice (some ⟨g, 0, none⟩) (l.filter (fun d => !p d)).length cap) ∧ Blk w' g 47 ((l.filter (fun d => !p d)).flatMap encI ++ tl') ∧ ((l.filter (fun d => !p d)).flatMap encI ++ tl').length = cap * 5) ∧ Chg (fun k => k = g) W w' := by
 have hr : IRow W (some ⟨g, 0, none⟩) cap l := ⟨by omega, by unfold maxLen at hm; omega, hok, (fun e => by cases e), fun i x hx => ⟨_, rfl, by
  obtain ⟨a0, a1, a2, a3, a4⟩ := elemI hb hx
  simpa [Addr.add_lit] using ⟨a0, a1, a2, a3, a4⟩⟩⟩
 have hm' : cap ≤ 9223372036854775807 := by unfold maxLen at hm; omega
 have HR := Lib.hid hr; have HBk := Lib.hid hb; have HL := Lib.hid hl; have HF := Lib.hid hF; have HE := Lib.hid hE; have HT := Lib.hid ht
 clear hr hb hl hF hE ht hm
 go_enter Tryz.func68, Tryz.ntmps68
 go_wp2_with fail
 refine (indexI_any (some ⟨g, 0, none⟩) n cap f cp p l _ HR.out HL.out HE.out (fun k d w hd hb => HF.out d w (List.mem_of_getElem? hd) (Chg.of_below hb))).mono ?_
 rintro e w1 ⟨⟨z, hz, rfl⟩, hb⟩
 have HB := Lib.hid hb; clear hb
 rcases hz with ⟨rfl, hno⟩ | ⟨i, rfl, ⟨d, hd, hpd⟩, hno⟩
 ·have hfil : l.filter (fun d => !p d) = l := by
   have := filter_none (p := p) (l := l) (j := l.length) (fun i d _ h => hno i d h)
   rwa [List.take_length] at this
  have HFi := Lib.hid hfil; clear hfil hno
  go_wp2_with fail
  go_ret
  refine ⟨⟨tl, by rw [HFi.out, HL.out]; rfl, by rw [HFi.out]; exact HBk.out.below HB.out, by rw [HFi.out]; exact HT.out⟩, Chg.of_below HB.out⟩
 ·have hin : i < n := by have := (List.getElem?_eq_some_iff.1 hd).1; rw [HL.out] at this; exact this
  have hk0 : (l.take (i + 1)).filter (fun d => !p d) = l.take i := by
   rw [filter_take hd, filter_none hno]; simp [hpd]
  have hk1 : (l.take i ++ l.drop (l.take i).length) = l := by rw [List.length_take, Nat.min_eq_left (by rw [HL.out]; omega), List.take_append_drop]
  have hk2 : (l.take i).length = i := by rw [List.length_take, Nat.min_eq_left (by rw [HL.out]; omega)]
  have HK0 := Lib.hid hk0; have HK1 := Lib.hid hk1; have HK2 := Lib.hid hk2
  clear hk0 hk1 hk2 hno hd hpd
  have hw1 : IntKind.i64.wrap ((i : Int) + 1) = (i : Int) + 1 := by simp [IntKind.wrap, IntKind.bits, IntKind.signed]; omega
  have hne : ((i : Int) == -1) = false := by simp <;> omega
  have hg := HBk.out.lt
  go_wp2_with fail
  go_loopw [5, 6, 7] (fun x y _ wr => ∃ (m j : Nat) (kept : List Lm.It), x = .int .i64 m ∧ y = .int .i64 j ∧ m < j ∧ j ≤ n ∧ kept = (l.take j).filter (fun d => !p d) ∧ kept.length = m ∧ Blk wr g 47 ((kept ++ l.drop kept.length).flatMap encI ++ tl) ∧ Chg (fun k => k = g) W wr) (fun _ y _ _ => n - (intOf y).toNat)
  case atStart => exact ⟨i, i + 1, l.take i, rfl, by go_num, by omega, by omega, HK0.out.symm, HK2.out, by rw [HK1.out]; exact HBk.out.below HB.out, Chg.of_below HB.out⟩
  case round =>
   obtain ⟨m, j, kept, rfl, rfl, hmj, hjn, hkept, hkl, hblk, hchg⟩ := hrel
   have HKe := Lib.hid hkept; have HKl := Lib.hid hkl; have HBr := Lib.hid hblk; have HC := Lib.hid hchg
   clear hkept hkl hblk hchg
   have hlen : (kept ++ l.drop kept.length).length = n := by rw [List.length_append, List.length_drop, HL.out, HKl.out]; omega
   have HLen := Lib.hid hlen; clear hlen
   by_cases hlt : j < n
   ·obtain ⟨d, hd⟩ := geti_some (l := l) (i := j) (by rw [HL.out]; exact hlt)
    have HD := Lib.hid hd
    have hd2 : (kept ++ l.drop kept.length)[j]? = some d := by rw [kept_at (by rw [HKl.out]; omega)]; exact hd
    obtain ⟨q0, q1, q2, q3, q4⟩ := elemI HBr.out hd2
    have HD2 := Lib.hid hd2
    clear hd hd2
    have j0 : (0 : Int) ≤ (j : Int) := by omega
    have j1 : (j : Int) < (n : Int) := by omega
    have m0 : (0 : Int) ≤ (m : Int) := by omega
    have m1 : (m : Int) < (n : Int) := by omega
    have hcA := HC.out.alloc (.cells #[.int .u64 (d.1 : Int), .int .u8 (d.2.1.1.1 : Int), .int .u32 (d.2.1.1.2 : Int), .int .u64 (d.2.1.2 : Int), .string d.2.2] 47)
    have hbA := HBr.out.below ((Below.refl wr.heap.size wr).alloc (Nat.le_refl _) (.cells #[.int .u64 (d.1 : Int), .int .u8 (d.2.1.1.1 : Int), .int .u32 (d.2.1.1.2 : Int), .int .u64 (d.2.1.2 : Int), .string d.2.2] 47))
    have HCA := Lib.hid hcA; have HBA := Lib.hid hbA; clear hcA hbA
    have hgr := HBr.out.lt
    go_wp2_with fail
    clear q0 q1 q2 q3 q4
    rw [HE.out, Oper.upon_enter]
    refine (HF.out d _ (List.mem_of_getElem? HD.out) HCA.out).mono ?_
    rintro e w2 ⟨rfl, hb⟩
    obtain ⟨hc0, hc1, hc2, hc3, hc4⟩ := itcells hb
    have hs2 := hb.size
    simp only [World.size_alloc] at hs2
    have HB2 := Lib.hid hb; clear hb
    have hB3 := HBA.out.below HB2.out
    have HB3 := Lib.hid hB3; clear hB3
    have hC3 : Chg (fun k => k = g) W w2 := HCA.out.trans (S := fun k => k = g) (T := fun _ => False) (Chg.of_below HB2.out) (fun k _ e => e.elim)
    have HC3 := Lib.hid hC3; clear hC3
    cases hpd : p d
    ·have hk3 : (l.take (j + 1)).filter (fun d => !p d) = kept ++ [d] := by rw [filter_take HD.out, ← HKe.out]; simp [hpd]
     have HK3 := Lib.hid hk3; clear hk3 hpd
     have hms : (kept ++ l.drop kept.length).set m d = (kept ++ [d]) ++ l.drop (kept ++ [d]).length := by
      have h := kept_set (a := kept) (l := l) (by rw [HKl.out, HL.out]; omega) d
      have e := HKl.out.symm
      rw [e]; exact h
     have HMs := Lib.hid hms; clear hms
     have hst := setI HB3.out (k := m) (by rw [HLen.out]; omega) d
     have HSt := Lib.hid hst; clear hst
     have hwm : IntKind.i64.wrap ((m : Int) + 1) = (m : Int) + 1 := by simp [IntKind.wrap, IntKind.bits, IntKind.signed]; omega
     have hwj : IntKind.i64.wrap ((j : Int) + 1) = (j : Int) + 1 := by simp [IntKind.wrap, IntKind.bits, IntKind.signed]; omega
     obtain ⟨y, hy⟩ := geti_some (l := kept ++ l.drop kept.length) (i := m) (by rw [HLen.out]; omega)
     obtain ⟨p0, p1, p2, p3, p4⟩ := elemI HB3.out hy
     have f0 := HB3.out.frozen (m * 5); have f1 := HB3.out.frozen (m * 5 + 1); have f2 := HB3.out.frozen (m * 5 + 2); have f3 := HB3.out.frozen (m * 5 + 3); have f4 := HB3.out.frozen (m * 5 + 4)
     clear hy
     go_wp2_with fail
     clear p0 p1 p2 p3 p4 f0 f1 f2 f3 f4
     go_roundw
     case rel => exact ⟨m + 1, j + 1, kept ++ [d], by go_num, by go_num, by omega, by omega, HK3.out.symm, by rw [List.length_append, HKl.out]; rfl, by rw [← HMs.out]; exact HSt.out, HC3.out.sets (Or.inr rfl) (m * 5) (encI d)⟩
     case measure => simp [intOf]; omega
    ·have hk3 : (l.take (j + 1)).filter (fun d => !p d) = kept := by rw [filter_take HD.out, ← HKe.out]; simp [hpd]
     have HK3 := Lib.hid hk3; clear hk3 hpd
     have hwj : IntKind.i64.wrap ((j : Int) + 1) = (j : Int) + 1 := by simp [IntKind.wrap, IntKind.bits, IntKind.signed]; omega
     go_wp2_with fail
     go_roundw
     case rel => exact ⟨m, j + 1, kept, rfl, by go_num, by omega, by omega, HK3.out.symm, HKl.out, HB3.out, HC3.out⟩
     case measure => simp [intOf]; omega
   ·obtain rfl : j = n := by omega
    have hfin : kept = l.filter (fun d => !p d) := by rw [HKe.out, List.take_of_length_le (by rw [HL.out]; omega)]
    have HFin := Lib.hid hfin; clear hfin
    have hsz5 : (Value.agg #[.int .u64 0, .int .u8 0, .int .u32 0, .int .u64 0, .string ⟨#[]⟩]).cells.size = 5 := rfl
    have hlc : ((kept ++ l.drop kept.length).flatMap encI ++ tl).length = cap * 5 := by
     have := HT.out
     rw [List.length_append, enc_length encI_len] at this ⊢
     rw [HLen.out]; rw [HL.out] at this; exact this
    obtain ⟨vs, hvl, hcl⟩ := run_clear_any (P := Tryz.prog) wr 28 47 0 _ Tryz.underlying28 zeroItem (by intro u hu; simp [Value.cells] at hu; rcases hu with rfl | rfl | rfl | rfl | rfl <;> rfl) (by simp [Value.cells]) g (m * 5) (j - m) (cap - m) (by
     intro q hq
     rw [hsz5] at hq
     exact HBr.out.some (by rw [hlc]; omega)) (by intro q hq; exact HBr.out.frozen _)
    have hcl2 : ∀ ty, (Builtin.clear_ #[28] ty #[.slice (some ⟨g, m * 5, none⟩) (j - m) (cap - m)]).run Tryz.prog wr = .ok (.tuple #[]) (wr.setCells g (m * 5) vs) := fun ty => by
     have : (Builtin.clear_ #[28] ty #[.slice (some ⟨g, m * 5, none⟩) (j - m) (cap - m)]) = (Builtin.clear_ #[28] 0 #[.slice (some ⟨g, m * 5, none⟩) (j - m) (cap - m)]) := rfl
     rw [this]; exact hcl
    have hfl : (kept.flatMap encI).length = m * 5 := by rw [enc_length encI_len, HKl.out]
    obtain ⟨b', hb'⟩ := splice_behind (kept.flatMap encI) ((l.drop kept.length).flatMap encI ++ tl) vs (m * 5) (by rw [hfl]; omega)
    have hblk2 : Blk (wr.setCells g (m * 5) vs) g 47 (kept.flatMap encI ++ b') ∧ (kept.flatMap encI ++ b').length = cap * 5 := by
     have h1 := HBr.out.setCells vs (m * 5) (by rw [hvl, hsz5, hlc]; omega)
     have h2 : ((kept ++ l.drop kept.length).flatMap encI ++ tl) = kept.flatMap encI ++ ((l.drop kept.length).flatMap encI ++ tl) := by rw [List.flatMap_append, List.append_assoc]
     rw [h2, hb'] at h1
     refine ⟨h1, ?_⟩
     rw [← hb', splice_len _ _ _ (by rw [← h2, hvl, hsz5, hlc]; omega), ← h2, hlc]
    have HB4 := Lib.hid hblk2
    clear hblk2 hb' hfl hcl hvl hlc
    have hC4 : Chg (fun k => k = g) W (wr.setCells g (m * 5) vs) := HC.out.sets (Or.inr rfl) _ _
    have HC4 := Lib.hid hC4; clear hC4
    have hcm : ¬ (cap = m) := by omega
    have m0 : (0 : Int) ≤ (m : Int) := by omega
    have m1 : (m : Int) ≤ (j : Int) := by omega
    have m2 : (m : Int) ≤ (cap : Int) := by omega
    go_wp2_with (simp only [hcl2])
    go_ret
    refine ⟨⟨b', ?_, by rw [← HFin.out]; exact HB4.out.1, by rw [← HFin.out]; exact HB4.out.2⟩, HC4.out⟩
    rw [← HFin.out, HKl.out]; rfl
end Go.Proofs.YteakbfbacfhhoaaGreat
namespace Go.Proofs.YteakbfbacfhhoaaGreat
open Go.RowKit Go.Buf Go.LB Go.Lib
set_option linter.unusedSimpArgs false
set_option linter.unusedVariables false
theorem elemD {w : World} {g : Nat} {l : List Dt.Dot} {tl : List Value} (h : Blk w g 27 (l.flatMap encD ++ tl)) {j : Nat} {x : Dt.Dot} (hx : l[j]? = some x) :
  w.cell? ⟨g, j * 3, none⟩ = some (.int .u8 (x.1.1 : Int)) ∧ w.cell? ⟨g, j * 3 + 1, none⟩ = some (.int .u32 (x.1.2 : Int)) ∧ w.cell? ⟨g, j * 3 + 2, none⟩ = some (.int .u64 (x.2 : Int)) := by
 have hj := (List.getElem?_eq_some_iff.1 hx).1
 have hc : ∀ r u, r < 3 → (encD x)[r]? = some u → w.cell? ⟨g, j * 3 + r, none⟩ = some u := fun r u hr hu => by
  rw [h.cell, List.getElem?_append_left (by rw [enc_length encD_len]; omega), enc_get encD_len l j x hx r hr]; exact hu
 exact ⟨hc 0 _ (by omega) rfl, hc 1 _ (by omega) rfl, hc 2 _ (by omega) rfl⟩
theorem setD {w : World} {g : Nat} {l : List Dt.Dot} {tl : List Value} (h : Blk w g 27 (l.flatMap encD ++ tl)) {k : Nat} (hk : k < l.length) (x : Dt.Dot) :
  Blk (w.setCells g (k * 3) (encD x)) g 27 ((l.set k x).flatMap encD ++ tl) := by
 have := h.setCells (encD x) (k * 3) (by rw [List.length_append, enc_length encD_len, encD_len]; omega)
 rwa [splice_elem encD_len hk] at this
theorem keptD_at {a l : List Dt.Dot} {j : Nat} (h : a.length ≤ j) : (a ++ l.drop a.length)[j]? = l[j]? := by
 rw [List.getElem?_append_right h, List.getElem?_drop]; congr 1; omega
theorem keptD_set {a l : List Dt.Dot} (h : a.length < l.length) (x : Dt.Dot) : (a ++ l.drop a.length).set a.length x = (a ++ [x]) ++ l.drop (a ++ [x]).length := by
 have e : (l.drop a.length).set 0 x = x :: l.drop (a.length + 1) := by rw [List.drop_eq_getElem_cons h]; rfl
 rw [List.set_append_right _ _ (Nat.le_refl _), Nat.sub_self, e]
 simp
theorem drewL {S : Nat → Prop} {w w' : World} (h : Chg S w w') (q : Nat) : Chg S w (w'.drewN q) := ⟨h.os, h.tape, h.output, h.size, h.block⟩
theorem blk_drewN {w : World} {b : Nat} {t : TypeId} {cs : List Value} (h : Blk w b t cs) (q : Nat) : Blk (w.drewN q) b t cs := h
theorem comp_eq {l : List Dt.Dot} {k : Nat} {d : Dt.Dot} (hk : 1 ≤ k) (hd : l[k]? = some d) (he : l[k - 1]? = some d) : Lm.compact (l.take (k + 1)) = Lm.compact (l.take k) := by
 obtain ⟨m, rfl⟩ : ∃ m, k = m + 1 := ⟨k - 1, by omega⟩
 exact Lm.compact_eq hd (by simpa using he)
theorem comp_ne {l : List Dt.Dot} {k : Nat} {d e : Dt.Dot} (hk : 1 ≤ k) (hd : l[k]? = some d) (he : l[k - 1]? = some e) (hne : d ≠ e) : Lm.compact (l.take (k + 1)) = Lm.compact (l.take k) ++ [d] := by
 obtain ⟨m, rfl⟩ : ∃ m, k = m + 1 := ⟨k - 1, by omega⟩
 exact Lm.compact_ne hd (by simpa using he) hne
theorem comp_small {l : List Dt.Dot} (h : l.length < 2) : Lm.compact l = l := by
 match l, h with
 | [], _ => rfl
 | [x], _ => rfl
theorem comp_first {l : List Dt.Dot} (h : 1 ≤ l.length) : Lm.compact (l.take 1) = l.take 1 := comp_small (by rw [List.length_take]; omega)
set_option maxRecDepth 100000 in
set_option maxHeartbeats 12800000 in
theorem compact_own (g n cap : Nat) (tl : List Value) (l : List Dt.Dot) (W : World) (hb : Blk W g 27 (l.flatMap encD ++ tl)) (hl : l.length = n) (hc : n ≤ cap) (hm : cap ≤ maxLen) (ht : (l.flatMap encD ++ tl).length = cap * 3) :
  Calls Tryz.prog 71 #[.slice (some ⟨g, 0, none⟩) n cap] W fun e w' => (∃ tl', e = .returned (.slice (some ⟨g, 0, none⟩) (Lm.compact l).length cap) ∧ Blk w' g 27 ((Lm.compact l).flatMap encD ++ tl') ∧ ((Lm.compact l).flatMap encD ++ tl').length = cap * 3) ∧ Chg (fun k => k = g) W w' := by
 have hm' : cap ≤ 9223372036854775807 := by unfold maxLen at hm; omega
 have hg := hb.lt
 have HBk := Lib.hid hb; have HL := Lib.hid hl; have HT := Lib.hid ht
 clear hb hl ht hm
 by_cases h2 : n < 2
 ·have hs := comp_small (l := l) (by rw [HL.out]; exact h2)
  have HS := Lib.hid hs; clear hs
  go_enter Tryz.func71, Tryz.ntmps71
  go_wp2_with fail
  go_ret
  exact ⟨⟨tl, by rw [HS.out, HL.out]; rfl, by rw [HS.out]; exact HBk.out, by rw [HS.out]; exact HT.out⟩, Chg.refl _ _⟩
 go_enter Tryz.func71, Tryz.ntmps71
 go_wp2_with fail
 go_loopw [3] (fun x wr => ∃ k : Nat, x = .int .i64 k ∧ 1 ≤ k ∧ k ≤ n ∧ Lm.compact (l.take k) = l.take k ∧ Blk wr g 27 (l.flatMap encD ++ tl) ∧ Chg (fun k => k = g) W wr) (fun x _ => n - (intOf x).toNat)
 case atStart => exact ⟨1, rfl, by omega, by omega, comp_first (by rw [HL.out]; omega), HBk.out, Chg.refl _ _⟩
 case round =>
  obtain ⟨k, rfl, hk1, hkn, hcomp, hblk, hchg⟩ := hrel
  have HCo := Lib.hid hcomp; have HBr := Lib.hid hblk; have HC := Lib.hid hchg
  clear hcomp hblk hchg
  by_cases hlt : k < n
  ·obtain ⟨d, hd⟩ := getD_some (l := l) (i := k) (by rw [HL.out]; exact hlt)
   obtain ⟨e, he⟩ := getD_some (l := l) (i := k - 1) (by rw [HL.out]; omega)
   obtain ⟨q0, q1, q2⟩ := elemD HBr.out hd
   obtain ⟨p0, p1, p2⟩ := elemD HBr.out he
   have hkz : ((k : Int) - 1) = ((k - 1 : Nat) : Int) := by omega
   have hwz : IntKind.i64.wrap ((k : Int) - 1) = ((k - 1 : Nat) : Int) := by simp [IntKind.wrap, IntKind.bits, IntKind.signed]; omega
   have HD := Lib.hid hd; have HE := Lib.hid he
   clear hd he
   have k0 : (0 : Int) ≤ (k : Int) := by omega
   have k1 : (k : Int) < (n : Int) := by omega
   have k2 : (0 : Int) ≤ ((k - 1 : Nat) : Int) := by omega
   have k3 : ((k - 1 : Nat) : Int) < (n : Int) := by omega
   have k4 : k - 1 < n := by omega
   have hwk : IntKind.i64.wrap ((k : Int) + 1) = (k : Int) + 1 := by simp [IntKind.wrap, IntKind.bits, IntKind.signed]; omega
   clear hkz
   by_cases hde : d = e
   ·subst hde
    have hcz : Lm.compact (l.take (k + 1)) = l.take k := by rw [comp_eq hk1 HD.out HE.out]; exact HCo.out
    have HCz := Lib.hid hcz; clear hcz
    obtain ⟨⟨r, i⟩, s⟩ := d
    simp only at q0 q1 q2 p0 p1 p2
    have hcpk : ¬ (cap = k) := by omega
    have kc : (k : Int) ≤ (cap : Int) := by omega
    have kl : (k : Int) ≤ (n : Int) := by omega
    go_wp2
    go_quiet (fail)
    go_wp2
    clear q0 q1 q2 p0 p1 p2
    go_loopw [3, 5] (fun x y wr => ∃ (m j : Nat) (kept : List Dt.Dot), x = .int .i64 m ∧ y = .int .i64 j ∧ 1 ≤ j ∧ k + j ≤ n ∧ m < k + j ∧ kept = Lm.compact (l.take (k + j)) ∧ kept.length = m ∧ Blk wr g 27 ((kept ++ l.drop kept.length).flatMap encD ++ tl) ∧ Chg (fun k => k = g) W wr) (fun _ y _ => n - (intOf y).toNat)
    case atStart =>
     have hx : (l.take k).length = k := by rw [List.length_take, Nat.min_eq_left (by rw [HL.out]; omega)]
     exact ⟨k, 1, l.take k, rfl, rfl, by omega, by omega, by omega, HCz.out.symm, hx, by rw [hx, List.take_append_drop]; exact blk_drewN HBr.out _, drewL HC.out _⟩
    case round =>
     obtain ⟨m, j, kept, rfl, rfl, hj1, hjn, hmj, hkept, hkl, hblk, hchg⟩ := hrel
     have HKe := Lib.hid hkept; have HKl := Lib.hid hkl; have HBs := Lib.hid hblk; have HD3 := Lib.hid hchg
     clear hkept hkl hblk hchg
     have hlen : (kept ++ l.drop kept.length).length = n := by rw [List.length_append, List.length_drop, HL.out, HKl.out]; omega
     have HLen := Lib.hid hlen; clear hlen
     have hwj : IntKind.i64.wrap ((j : Int) + 1) = (j : Int) + 1 := by simp [IntKind.wrap, IntKind.bits, IntKind.signed]; omega
     have hwm : IntKind.i64.wrap ((m : Int) + 1) = (m : Int) + 1 := by simp [IntKind.wrap, IntKind.bits, IntKind.signed]; omega
     by_cases hlt2 : k + j < n
     ·obtain ⟨d, hd⟩ := getD_some (l := l) (i := k + j) (by rw [HL.out]; exact hlt2)
      obtain ⟨e, he⟩ := getD_some (l := l) (i := k + j - 1) (by rw [HL.out]; omega)
      have hd2 : (kept ++ l.drop kept.length)[k + j]? = some d := by rw [keptD_at (by rw [HKl.out]; omega)]; exact hd
      have he2 : (kept ++ l.drop kept.length)[k + j - 1]? = some e := by rw [keptD_at (by rw [HKl.out]; omega)]; exact he
      obtain ⟨q0, q1, q2⟩ := elemD HBs.out hd2
      obtain ⟨p0, p1, p2⟩ := elemD HBs.out he2
      have HD := Lib.hid hd; have HE := Lib.hid he
      clear hd he hd2 he2
      have hwz : IntKind.i64.wrap ((j : Int) - 1) = ((j - 1 : Nat) : Int) := by simp [IntKind.wrap, IntKind.bits, IntKind.signed]; omega
      have x0 : (k + j) * 3 = k * 3 + j * 3 := by omega
      have x1 : (k + j - 1) * 3 = k * 3 + (j - 1) * 3 := by omega
      rw [x0] at q0 q1 q2
      rw [x1] at p0 p1 p2
      have j0 : (0 : Int) ≤ (j : Int) := by omega
      have j1 : (j : Int) < (n : Int) - (k : Int) := by omega
      have j2 : (0 : Int) ≤ ((j - 1 : Nat) : Int) := by omega
      have j3 : ((j - 1 : Nat) : Int) < (n : Int) - (k : Int) := by omega
      have j4 : j < n - k := by omega
      have j5 : j - 1 < n - k := by omega
      have j6 : (j : Int) < ((n - k : Nat) : Int) := by omega
      have j7 : ((j - 1 : Nat) : Int) < ((n - k : Nat) : Int) := by omega
      have m0 : (0 : Int) ≤ (m : Int) := by omega
      have m1 : (m : Int) < (n : Int) := by omega
      clear x0 x1
      by_cases hde : d = e
      ·subst hde
       have hcz : Lm.compact (l.take (k + (j + 1))) = kept := by rw [HKe.out]; exact comp_eq (k := k + j) (by omega) HD.out HE.out
       have HCy := Lib.hid hcz; clear hcz
       obtain ⟨⟨r, i⟩, s⟩ := d
       simp only at q0 q1 q2 p0 p1 p2
       go_wp2
       go_quiet (fail)
       go_wp2
       clear q0 q1 q2 p0 p1 p2
       go_roundw
       case rel => exact ⟨m, j + 1, kept, rfl, by go_num, by omega, by omega, by omega, HCy.out.symm, HKl.out, blk_drewN HBs.out _, drewL HD3.out _⟩
       case measure => simp [intOf]; omega
      ·have hcz : Lm.compact (l.take (k + (j + 1))) = kept ++ [d] := by rw [HKe.out]; exact comp_ne (k := k + j) (by omega) HD.out HE.out hde
       have HCy := Lib.hid hcz; clear hcz
       have hms : (kept ++ l.drop kept.length).set m d = (kept ++ [d]) ++ l.drop (kept ++ [d]).length := by
        have h := keptD_set (a := kept) (l := l) (by rw [HKl.out, HL.out]; omega) d
        have e := HKl.out.symm
        rw [e]; exact h
       have HMs := Lib.hid hms; clear hms
       have HSt := Lib.hid (fun q => setD (blk_drewN HBs.out q) (k := m) (by rw [HLen.out]; omega) d)
       obtain ⟨y, hy⟩ := getD_some (l := kept ++ l.drop kept.length) (i := m) (by rw [HLen.out]; omega)
       obtain ⟨z0, z1, z2⟩ := elemD HBs.out hy
       have f0 := HBs.out.frozen (m * 3); have f1 := HBs.out.frozen (m * 3 + 1); have f2 := HBs.out.frozen (m * 3 + 2)
       clear hy
       have hne := dot_neO hde
       obtain ⟨⟨r, i⟩, s⟩ := d
       obtain ⟨⟨r', i'⟩, s'⟩ := e
       simp only at q0 q1 q2 p0 p1 p2 hne
       clear hde
       rcases hne with h1 | ⟨rfl, h1⟩ | ⟨rfl, rfl, h1⟩
       ·have d1 : ((r : Int) == (r' : Int)) = false := by simp; omega
        clear h1
        go_wp2
        go_quiet (fail)
        go_wp2
        clear q0 q1 q2 p0 p1 p2 z0 z1 z2 f0 f1 f2
        go_roundw
        case rel => exact ⟨m + 1, j + 1, _, by go_num, by go_num, by omega, by omega, by omega, HCy.out.symm, by rw [List.length_append, HKl.out]; rfl, by rw [← HMs.out]; exact HSt.out _, (drewL HD3.out _).sets (Or.inr rfl) (m * 3) (encD ((r, i), s))⟩
        case measure => simp [intOf]; omega
       ·have d1 : ((i : Int) == (i' : Int)) = false := by simp; omega
        clear h1
        go_wp2
        go_quiet (fail)
        go_wp2
        clear q0 q1 q2 p0 p1 p2 z0 z1 z2 f0 f1 f2
        go_roundw
        case rel => exact ⟨m + 1, j + 1, _, by go_num, by go_num, by omega, by omega, by omega, HCy.out.symm, by rw [List.length_append, HKl.out]; rfl, by rw [← HMs.out]; exact HSt.out _, (drewL HD3.out _).sets (Or.inr rfl) (m * 3) (encD ((r, i), s))⟩
        case measure => simp [intOf]; omega
       ·have d1 : ((s : Int) == (s' : Int)) = false := by simp; omega
        clear h1
        go_wp2
        go_quiet (fail)
        go_wp2
        clear q0 q1 q2 p0 p1 p2 z0 z1 z2 f0 f1 f2
        go_roundw
        case rel => exact ⟨m + 1, j + 1, _, by go_num, by go_num, by omega, by omega, by omega, HCy.out.symm, by rw [List.length_append, HKl.out]; rfl, by rw [← HMs.out]; exact HSt.out _, (drewL HD3.out _).sets (Or.inr rfl) (m * 3) (encD ((r, i), s))⟩
        case measure => simp [intOf]; omega
     ·obtain rfl : n = k + j := by omega
      have hfin : kept = Lm.compact l := by rw [HKe.out, List.take_of_length_le (by rw [HL.out]; omega)]
      have HFin := Lib.hid hfin; clear hfin
      have hsz3 : (Value.agg #[.int .u8 0, .int .u32 0, .int .u64 0]).cells.size = 3 := rfl
      have hlc : ((kept ++ l.drop kept.length).flatMap encD ++ tl).length = cap * 3 := by
       have := HT.out
       rw [List.length_append, enc_length encD_len] at this ⊢
       rw [HLen.out]; rw [HL.out] at this; exact this
      obtain ⟨N, hN⟩ : ∃ N, N = k + j := ⟨_, rfl⟩
      obtain ⟨vs, hvl, hcl⟩ := run_clear_any (P := Tryz.prog) wr 29 27 0 _ Tryz.underlying29 zeroDot (by intro u hu; simp [Value.cells] at hu; rcases hu with rfl | rfl | rfl <;> rfl) (by simp [Value.cells]) g (m * 3) (k + j - m) (cap - m) (by
       intro q hq
       rw [hsz3] at hq
       exact HBs.out.some (by rw [hlc]; omega)) (by intro q hq; exact HBs.out.frozen _)
      have hcl2 : ∀ ty, (Builtin.clear_ #[29] ty #[.slice (some ⟨g, m * 3, none⟩) (k + j - m) (cap - m)]).run Tryz.prog wr = .ok (.tuple #[]) (wr.setCells g (m * 3) vs) := fun ty => by
       have : (Builtin.clear_ #[29] ty #[.slice (some ⟨g, m * 3, none⟩) (k + j - m) (cap - m)]) = (Builtin.clear_ #[29] 0 #[.slice (some ⟨g, m * 3, none⟩) (k + j - m) (cap - m)]) := rfl
       rw [this]; exact hcl
      have hfl : (kept.flatMap encD).length = m * 3 := by rw [enc_length encD_len, HKl.out]
      obtain ⟨b', hb'⟩ := splice_behind (kept.flatMap encD) ((l.drop kept.length).flatMap encD ++ tl) vs (m * 3) (by rw [hfl]; omega)
      have hblk2 : Blk (wr.setCells g (m * 3) vs) g 27 (kept.flatMap encD ++ b') ∧ (kept.flatMap encD ++ b').length = cap * 3 := by
       have h1 := HBs.out.setCells vs (m * 3) (by rw [hvl, hsz3, hlc]; omega)
       have h2 : ((kept ++ l.drop kept.length).flatMap encD ++ tl) = kept.flatMap encD ++ ((l.drop kept.length).flatMap encD ++ tl) := by rw [List.flatMap_append, List.append_assoc]
       rw [h2, hb'] at h1
       refine ⟨h1, ?_⟩
       rw [← hb', splice_len _ _ _ (by rw [← h2, hvl, hsz3, hlc]; omega), ← h2, hlc]
      have HB4 := Lib.hid hblk2
      clear hblk2 hb' hfl hcl hvl hlc
      have hC4 : Chg (fun k => k = g) W (wr.setCells g (m * 3) vs) := HD3.out.sets (Or.inr rfl) _ _
      have HC4 := Lib.hid hC4; clear hC4
      have hcm : ¬ (cap = m) := by omega
      have m0 : (0 : Int) ≤ (m : Int) := by omega
      have m1 : (m : Int) ≤ ((k + j : Nat) : Int) := by omega
      have m1' : (m : Int) ≤ (k : Int) + (j : Int) := by omega
      have m2 : (m : Int) ≤ (cap : Int) := by omega
      have jz : (j : Int) = ((k + j - k : Nat) : Int) := by omega
      have jn : ¬ (j < k + j - k) := by omega
      have jn2 : k + j - k = j := by omega
      go_wp2_with (simp only [hcl2])
      go_ret
      refine ⟨⟨b', ?_, by rw [← HFin.out]; exact HB4.out.1, by rw [← HFin.out]; exact HB4.out.2⟩, HC4.out⟩
      rw [← HFin.out, HKl.out]; rfl
   ·have hcz : Lm.compact (l.take (k + 1)) = l.take (k + 1) := by
     rw [comp_ne hk1 HD.out HE.out hde, HCo.out, Lm.take_snoc HD.out]
    have HCz := Lib.hid hcz; clear hcz
    have hne := dot_neO hde
    obtain ⟨⟨r, i⟩, s⟩ := d
    obtain ⟨⟨r', i'⟩, s'⟩ := e
    simp only at q0 q1 q2 p0 p1 p2 hne
    clear hde
    rcases hne with h1 | ⟨rfl, h1⟩ | ⟨rfl, rfl, h1⟩
    ·have d1 : ((r : Int) == (r' : Int)) = false := by simp; omega
     clear h1
     go_wp2
     go_quiet (fail)
     go_wp2
     clear q0 q1 q2 p0 p1 p2
     go_roundw
     case rel => exact ⟨k + 1, by go_num, by omega, by omega, HCz.out, blk_drewN HBr.out _, drewL HC.out _⟩
     case measure => simp [intOf]; omega
    ·have d1 : ((i : Int) == (i' : Int)) = false := by simp; omega
     clear h1
     go_wp2
     go_quiet (fail)
     go_wp2
     clear q0 q1 q2 p0 p1 p2
     go_roundw
     case rel => exact ⟨k + 1, by go_num, by omega, by omega, HCz.out, blk_drewN HBr.out _, drewL HC.out _⟩
     case measure => simp [intOf]; omega
    ·have d1 : ((s : Int) == (s' : Int)) = false := by simp; omega
     clear h1
     go_wp2
     go_quiet (fail)
     go_wp2
     clear q0 q1 q2 p0 p1 p2
     go_roundw
     case rel => exact ⟨k + 1, by go_num, by omega, by omega, HCz.out, blk_drewN HBr.out _, drewL HC.out _⟩
     case measure => simp [intOf]; omega
  ·obtain rfl : k = n := by omega
   have hfin : Lm.compact l = l := by have := HCo.out; rwa [List.take_of_length_le (by rw [HL.out]; omega)] at this
   have HFin := Lib.hid hfin; clear hfin
   go_wp2
   go_ret
   exact ⟨⟨tl, by rw [HFin.out, HL.out]; rfl, by rw [HFin.out]; exact HBr.out, by rw [HFin.out]; exact HT.out⟩, HC.out⟩
section
open Go.Shelf Go.Sort
def SortPostB (w : World) (blk : Nat) (xs : List Dt.Dot) (e : Ending) (w' : World) : Prop :=
 SortPost w blk xs e w' ∧ ∀ (cs : List Value) (t : TypeId), Blk w blk t cs → ∃ cs', Blk w' blk t cs' ∧ cs'.length = cs.length
theorem sortWorld_blk {w : World} {blk : Nat} {cs : List Value} {t : TypeId} (h : Blk w blk t cs) (n : Nat) (d : Array Dt.Dot) (os : Array Obj) : ∃ cs', Blk (sortWorldK encD 3 w blk 0 n d os) blk t cs' ∧ cs'.length = cs.length := by
 refine ⟨(putCells id 0 (flatK encD 3 d) cs.toArray).toList, ?_, by simp [putCells]⟩
 unfold Blk at h ⊢
 have hlt := (Array.getElem?_eq_some_iff.1 h).1
 have h1 : (putRowK encD 3 (Sort.ahead w n) blk 0 d).heap[blk]? = some (.cells (putCells id 0 (flatK encD 3 d) cs.toArray) t (0, 0)) := by
  simp only [putRowK, putRow, mapBlock, Sort.ahead, Array.getElem?_modify, if_pos, h, Option.map_some, onCells]
 have h2 : blk < (putRowK encD 3 (Sort.ahead w n) blk 0 d).heap.size := (Array.getElem?_eq_some_iff.1 h1).1
 unfold sortWorldK
 rw [heap_grow_old _ _ h2, h1]
set_option maxRecDepth 100000 in
set_option maxHeartbeats 2000000 in
theorem sortDots (blk cap : Nat) (xs : List Dt.Dot) (w : World) (hH : HoldsK encD 3 w blk 0 xs.toArray) (hblk : blk < w.heap.size) (hsz : xs.length < 1000000000) :
  Calls Tryz.prog 70 #[.slice (some ⟨blk, 0, none⟩) xs.length cap, .func (.func 26) #[] #[]] w (SortPostB w blk xs) := by
 have eg : ∀ args w, (callFunc 26 args).run Tryz.prog w = .ok (.enter 26 args) w := enters_of Tryz.func26 (by kernel_rfl) (by kernel_rfl)
 have hlim : Lib.bitLen xs.length < 4611686018427387904 := Nat.lt_of_le_of_lt (Lib.bitLen_le xs.length 62 (by omega) (by omega)) (by omega)
 have hp := AnyQ.pdqsortCmpFunc_all (P := Tryz.prog) Tryz.pdqDot 3 Tryz.isAgg27 Tryz.sizeOf27 encD Dt.cmp 26 #[] swoDot blk 0 cap xs.toArray w eg (dotLays blk 0 _ w) ⟨encD_len, encD_one, hH, hblk⟩ (xs.length + 1) 0 xs.length (Lib.bitLen xs.length) xs.toArray w (by omega) rfl (SWK.start hH) (Nat.zero_le _) (by simp) (by simp; omega) hlim (Or.inl rfl)
 have hl : Calls Tryz.prog 90 #[.int .u64 (xs.length : Int)] w fun e w' => e = .returned (.int .i64 (Lib.bitLen xs.length : Nat)) ∧ w = w' := by
  have h := Any.bits_Len (SlLaysF0.n15.bits Tryz.lenU) (xs.length : Int) w (by omega) (by omega)
  rw [Int.toNat_natCast] at h
  exact h.mono fun _ _ ⟨h1, h2⟩ => ⟨h1, h2.symm⟩
 have hpost : ∀ w', SWK encD 3 w blk 0 (pdq (ltOf Dt.cmp) xs.toArray 0 xs.length (Lib.bitLen xs.length) true true) w' → SortPostB w blk xs (.returned (.tuple #[])) w' := by
  rintro w' ⟨n, os, rfl⟩
  have h := pdq_sorts (ltOf Dt.cmp) swoDot xs.toArray 0 xs.toArray.size (Lib.bitLen xs.length) true true (Nat.zero_le _) (Nat.le_refl _) (Or.inl rfl)
  refine ⟨⟨rfl, (pdq (ltOf Dt.cmp) xs.toArray 0 xs.length (Lib.bitLen xs.length) true true).toList, by simpa using perm_list h.1, sorted_list (by have h1 := h.1.1; have h2 := h.2; simp only [List.size_toArray] at h1 h2; rw [h1]; exact h2), ?_, sortWorld_grown _ _ _ _ _⟩, fun cs t hb => sortWorld_blk hb _ _ _⟩
  exact holdsK_sortWorldK_c encD 3 w blk 0 xs.toArray _ n os hH hblk h.1.1
 have hp2 : Calls Tryz.prog 89 #[.slice (some ⟨blk, 0, none⟩) xs.length cap, .int .i64 0, .int .i64 (xs.length : Nat), .int .i64 (Lib.bitLen xs.length : Nat), .func (.func 26) #[] #[]] w (SortPostB w blk xs) := by
  refine Calls.mono ?_ (fun e w' (h : e = .returned (.tuple #[]) ∧ SWK encD 3 w blk 0 (pdq (ltOf Dt.cmp) xs.toArray 0 xs.length (Lib.bitLen xs.length) true true) w') => by rw [h.1]; exact hpost w' h.2)
  simp only [List.size_toArray] at hp
  exact hp
 have Hp := Lib.hid hp2; have Hl := Lib.hid hl
 clear hp hl hpost hH hp2 hlim
 go_enter Tryz.func70, Tryz.ntmps70
 go_wp2_with fail
 refine Hl.out.mono ?_
 rintro e w' ⟨rfl, rfl⟩
 go_wp2_with fail
 refine Hp.out.mono ?_
 rintro e w' ⟨⟨rfl, h⟩, h2⟩
 have H := Lib.hid h; have H2 := Lib.hid h2; clear h h2
 go_wp2_with fail
 go_end0
 exact ⟨⟨rfl, H.out⟩, H2.out⟩
set_option maxHeartbeats 400000 in
theorem sort_nones (p : Option Addr) (cap : Nat) (fv : Value) (w : World) :
  Calls Tryz.prog 70 #[.slice p 0 cap, fv] w fun e w' => e = .returned (.tuple #[]) ∧ w = w' := by
 have hl : Calls Tryz.prog 90 #[.int .u64 0] w fun e w' => e = .returned (.int .i64 (Lib.bitLen 0 : Nat)) ∧ w = w' :=
  (Any.bits_Len (SlLaysF0.n15.bits Tryz.lenU) 0 w (by omega) (by omega)).mono fun _ _ ⟨h1, h2⟩ => ⟨h1, h2.symm⟩
 have Hl := Lib.hid hl; clear hl
 go_enter Tryz.func70, Tryz.ntmps70
 go_wp2_with fail
 refine Hl.out.mono ?_
 rintro e w' ⟨rfl, rfl⟩
 go_wp2_with fail
 refine (pdq_none _ _ _ _ _).mono ?_
 rintro e w' ⟨rfl, rfl⟩
 go_wp2_with fail
 go_end0
 exact ⟨rfl, rfl⟩
end
end Go.Proofs.YteakbfbacfhhoaaGreat
namespace Go.Proofs.YteakbfbacfhhoaaGreat
open Go.RowKit Go.Buf Go.LB Go.Lib
set_option linter.unusedSimpArgs false
set_option linter.unusedVariables false
set_option maxRecDepth 100000 in
set_option maxHeartbeats 4000000 in
theorem refitem_any (a : Option Addr) (n cap : Nat) (r' i' s' : Nat) (l : List Lm.It) (W : World) (hr : IRow W a cap l) (hl : l.length = n) :
  Calls Tryz.prog 21 #[.slice a n cap, dotV ((r', i'), s')] W fun e w' => e = .returned (.int .i64 (Lm.idx l ((r', i'), s'))) ∧ Below W.heap.size W w' := by
 have hle := hr.le
 have hcap := hr.cap
 rw [hl] at hle
 have HR := Lib.hid hr; have HL := Lib.hid hl
 clear hr hl
 go_enter Tryz.func21, Tryz.ntmps21
 go_wp2_with fail
 go_loopw [5] (fun v wr => ∃ k : Nat, v = .int .i64 k ∧ k ≤ n ∧ Below (W.alloc (.cells #[.int .u8 (r' : Int), .int .u32 (i' : Int), .int .u64 (s' : Int)] 27)).heap.size (W.alloc (.cells #[.int .u8 (r' : Int), .int .u32 (i' : Int), .int .u64 (s' : Int)] 27)) wr ∧ ∀ (j : Nat) (y : Lm.It), j < k → l[j]? = some y → y.2.1 ≠ ((r', i'), s')) (fun v _ => n - (intOf v).toNat)
 case atStart => exact ⟨0, rfl, by omega, Below.refl _ _, fun j y h _ => by omega⟩
 case round =>
  obtain ⟨k, rfl, hkn, hbl, hno⟩ := hrel
  obtain ⟨b0, b1, b2⟩ := dotcells hbl
  have hbel := ((Below.refl W.heap.size W).alloc (Nat.le_refl _) (.cells #[.int .u8 (r' : Int), .int .u32 (i' : Int), .int .u64 (s' : Int)] 27)).trans (hbl.mono (by simp))
  have HNo := Lib.hid hno; have HB := Lib.hid hbl; have HW := Lib.hid hbel
  clear hbl hno
  by_cases hlt : k < n
  ·obtain ⟨d, hd⟩ := geti_some (l := l) (i := k) (by rw [HL.out]; exact hlt)
   obtain ⟨blk, off, rfl, hblk, hcells⟩ := HR.out.at (by rw [HL.out]; omega)
   obtain ⟨g0, g1, g2, g3, g4⟩ := hcells k d hd
   have q0 := (hbel.cell (p := ⟨blk, off + k * 5 + 1, none⟩) hblk).trans g1
   have q1 := (hbel.cell (p := ⟨blk, off + k * 5 + 2, none⟩) hblk).trans g2
   have q2 := (hbel.cell (p := ⟨blk, off + k * 5 + 3, none⟩) hblk).trans g3
   have HK := Lib.hid hd
   have hw1 : IntKind.i64.wrap ((k : Int) + 1) = (k : Int) + 1 := by simp [IntKind.wrap, IntKind.bits, IntKind.signed]; omega
   have k0 : (0 : Int) ≤ (k : Int) := by omega
   have k1 : (k : Int) < (n : Int) := by omega
   obtain ⟨t, ⟨⟨r, i⟩, s⟩, x⟩ := d
   simp only at q0 q1 q2
   clear hcells hd hbel hblk g0 g1 g2 g3 g4
   by_cases he : ((r, i), s) = ((r', i'), s')
   ·simp only [Prod.mk.injEq] at he
    obtain ⟨⟨rfl, rfl⟩, rfl⟩ := he
    go_wp2
    go_quiet (fail)
    go_wp2
    go_ret
    exact ⟨ret_int (Lm.idx_found HNo.out HK.out rfl).symm, below_drewL HW.out _⟩
   have hno2 : ∀ (j : Nat) (y : Lm.It), j < k + 1 → l[j]? = some y → y.2.1 ≠ ((r', i'), s') := fun j y hj hy => by
    by_cases e : j = k
    ·subst e
     have := HK.out
     rw [this] at hy
     cases hy
     exact he
    ·exact HNo.out j y (by omega) hy
   have HNo2 := Lib.hid hno2
   have hne := dot_neO he
   clear he hno2
   rcases hne with h1 | ⟨rfl, h1⟩ | ⟨rfl, rfl, h1⟩
   ·have d1 : ((r : Int) == (r' : Int)) = false := by simp; (try simp only at h1); omega
    clear h1
    go_wp2
    go_quiet (fail)
    go_wp2
    go_roundw
    case rel => exact ⟨k + 1, by go_num, by omega, below_drewL HB.out _, HNo2.out⟩
    case measure => simp [intOf]; omega
   ·have d1 : ((i : Int) == (i' : Int)) = false := by simp; (try simp only at h1); omega
    clear h1
    go_wp2
    go_quiet (fail)
    go_wp2
    go_roundw
    case rel => exact ⟨k + 1, by go_num, by omega, below_drewL HB.out _, HNo2.out⟩
    case measure => simp [intOf]; omega
   ·have d1 : ((s : Int) == (s' : Int)) = false := by simp; (try simp only at h1); omega
    clear h1
    go_wp2
    go_quiet (fail)
    go_wp2
    go_roundw
    case rel => exact ⟨k + 1, by go_num, by omega, below_drewL HB.out _, HNo2.out⟩
    case measure => simp [intOf]; omega
  ·obtain rfl : k = n := by omega
   clear hbel
   go_wp2
   go_ret
   exact ⟨ret_int (Lm.idx_none (fun j y hy => HNo.out j y (by have := (List.getElem?_eq_some_iff.1 hy).1; rw [HL.out] at this; exact this) hy)).symm, HW.out⟩
set_option maxRecDepth 100000 in
set_option maxHeartbeats 4000000 in
theorem reftomb_any (a : Option Addr) (n cap : Nat) (r' i' s' : Nat) (l : List Dt.Dot) (W : World) (hr : VRow W a cap l) (hl : l.length = n) :
  Calls Tryz.prog 22 #[.slice a n cap, dotV ((r', i'), s')] W fun e w' => e = .returned (.bool (Lm.hasD l ((r', i'), s'))) ∧ Below W.heap.size W w' := by
 have hle := hr.le
 have hcap := hr.cap
 rw [hl] at hle
 have HR := Lib.hid hr; have HL := Lib.hid hl
 clear hr hl
 go_enter Tryz.func22, Tryz.ntmps22
 go_wp2_with fail
 go_loopw [5] (fun v wr => ∃ k : Nat, v = .int .i64 k ∧ k ≤ n ∧ Below (W.alloc (.cells #[.int .u8 (r' : Int), .int .u32 (i' : Int), .int .u64 (s' : Int)] 27)).heap.size (W.alloc (.cells #[.int .u8 (r' : Int), .int .u32 (i' : Int), .int .u64 (s' : Int)] 27)) wr ∧ ∀ (j : Nat) (y : Dt.Dot), j < k → l[j]? = some y → y ≠ ((r', i'), s')) (fun v _ => n - (intOf v).toNat)
 case atStart => exact ⟨0, rfl, by omega, Below.refl _ _, fun j y h _ => by omega⟩
 case round =>
  obtain ⟨k, rfl, hkn, hbl, hno⟩ := hrel
  obtain ⟨b0, b1, b2⟩ := dotcells hbl
  have hbel := ((Below.refl W.heap.size W).alloc (Nat.le_refl _) (.cells #[.int .u8 (r' : Int), .int .u32 (i' : Int), .int .u64 (s' : Int)] 27)).trans (hbl.mono (by simp))
  have HNo := Lib.hid hno; have HB := Lib.hid hbl; have HW := Lib.hid hbel
  clear hbl hno
  by_cases hlt : k < n
  ·obtain ⟨d, hd⟩ := getD_some (l := l) (i := k) (by rw [HL.out]; exact hlt)
   obtain ⟨blk, off, rfl, hblk, hcells⟩ := HR.out.at (by rw [HL.out]; omega)
   obtain ⟨g1, g2, g3⟩ := hcells k d hd
   have q0 := (hbel.cell (p := ⟨blk, off + k * 3, none⟩) hblk).trans g1
   have q1 := (hbel.cell (p := ⟨blk, off + k * 3 + 1, none⟩) hblk).trans g2
   have q2 := (hbel.cell (p := ⟨blk, off + k * 3 + 2, none⟩) hblk).trans g3
   have HK := Lib.hid hd
   have hw1 : IntKind.i64.wrap ((k : Int) + 1) = (k : Int) + 1 := by simp [IntKind.wrap, IntKind.bits, IntKind.signed]; omega
   have k0 : (0 : Int) ≤ (k : Int) := by omega
   have k1 : (k : Int) < (n : Int) := by omega
   obtain ⟨⟨r, i⟩, s⟩ := d
   simp only at q0 q1 q2
   clear hcells hd hbel hblk g1 g2 g3
   by_cases he : ((r, i), s) = ((r', i'), s')
   ·simp only [Prod.mk.injEq] at he
    obtain ⟨⟨rfl, rfl⟩, rfl⟩ := he
    go_wp2
    go_quiet (fail)
    go_wp2
    go_ret
    exact ⟨ret_bool (Lm.hasD_iff.2 (List.mem_of_getElem? HK.out)).symm, below_drewL HW.out _⟩
   have hno2 : ∀ (j : Nat) (y : Dt.Dot), j < k + 1 → l[j]? = some y → y ≠ ((r', i'), s') := fun j y hj hy => by
    by_cases e : j = k
    ·subst e
     have := HK.out
     rw [this] at hy
     cases hy
     exact he
    ·exact HNo.out j y (by omega) hy
   have HNo2 := Lib.hid hno2
   have hne := dot_neO he
   clear he hno2
   rcases hne with h1 | ⟨rfl, h1⟩ | ⟨rfl, rfl, h1⟩
   ·have d1 : ((r : Int) == (r' : Int)) = false := by simp; (try simp only at h1); omega
    clear h1
    go_wp2
    go_quiet (fail)
    go_wp2
    go_roundw
    case rel => exact ⟨k + 1, by go_num, by omega, below_drewL HB.out _, HNo2.out⟩
    case measure => simp [intOf]; omega
   ·have d1 : ((i : Int) == (i' : Int)) = false := by simp; (try simp only at h1); omega
    clear h1
    go_wp2
    go_quiet (fail)
    go_wp2
    go_roundw
    case rel => exact ⟨k + 1, by go_num, by omega, below_drewL HB.out _, HNo2.out⟩
    case measure => simp [intOf]; omega
   ·have d1 : ((s : Int) == (s' : Int)) = false := by simp; (try simp only at h1); omega
    clear h1
    go_wp2
    go_quiet (fail)
    go_wp2
    go_roundw
    case rel => exact ⟨k + 1, by go_num, by omega, below_drewL HB.out _, HNo2.out⟩
    case measure => simp [intOf]; omega
  ·obtain rfl : k = n := by omega
   clear hbel
   go_wp2
   go_ret
   exact ⟨ret_bool (by
     cases h : Lm.hasD l ((r', i'), s')
     ·rfl
     ·obtain ⟨j, hj, he⟩ := List.getElem_of_mem (Lm.hasD_iff.1 h)
      exact absurd he (HNo.out j _ (by rw [← HL.out]; exact hj) (List.getElem?_eq_getElem hj))), HW.out⟩
end Go.Proofs.YteakbfbacfhhoaaGreat
