import Derived.Test.YtmnblimnoaockaaZDot8
import Derived.Test.YtmnblimnoaockaaZRegC
import Derived.StillTailTactics
import Derived.Test.YtmnblimnoaockaaZFuse2
namespace Go.Proofs.Ytmnblimnoaockaa
open Go.RowKit Go.Buf Go.LB Go.Lib
set_option linter.unusedSimpArgs false
set_option linter.unusedVariables false
theorem elemD {w : World} {g : Nat} {l : List Dt.Dot} {tl : List Value} (h : Blk w g 27 (l.flatMap encD ++ tl)) {j : Nat} {x : Dt.Dot} (hx : l[j]? = some x) :
  w.cell? ⟨g, j * 3, none⟩ = some (.int .u8 (x.1.1 : Int)) ∧ w.cell? ⟨g, j * 3 + 1, none⟩ = some (.int .u32 (x.1.2 : Int)) ∧ w.cell? ⟨g, j * 3 + 2, none⟩ = some (.int .u64 (x.2 : Int)) := by
 have hj := (List.getElem?_eq_some_iff.1 hx).1
 have hc : ∀ r u, r < 3 → (encD x)[r]? = some u → w.cell? ⟨g, j * 3 + r, none⟩ = some u := fun r u hr hu => by
  rw [h.cell, List.getElem?_append_left (by rw [enc_length encD_len]; omega), enc_get encD_len l j x hx r hr]; exact hu
 exact ⟨hc 0 _ (by omega) rfl, hc 1 _ (by omega) rfl, hc 2 _ (by omega) rfl⟩
theorem setD {w : World} {g : Nat} {l : List Dt.Dot} {tl : List Value} (h : Blk w g 27 (l.flatMap encD ++ tl)) {k : Nat} (hk : k < l.length) (x : Dt.Dot) :
  Blk (w.setCells g (k * 3) (encD x)) g 27 ((l.set k x).flatMap encD ++ tl) := by
 have := h.setCells (encD x) (k * 3) (by rw [List.length_append, enc_length encD_len, encD_len]; omega)
 rwa [splice_elem encD_len hk] at this
theorem keptD_at {a l : List Dt.Dot} {j : Nat} (h : a.length ≤ j) : (a ++ l.drop a.length)[j]? = l[j]? := by
 rw [List.getElem?_append_right h, List.getElem?_drop]; congr 1; omega
theorem keptD_set {a l : List Dt.Dot} (h : a.length < l.length) (x : Dt.Dot) : (a ++ l.drop a.length).set a.length x = (a ++ [x]) ++ l.drop (a ++ [x]).length := by
 have e : (l.drop a.length).set 0 x = x :: l.drop (a.length + 1) := by rw [List.drop_eq_getElem_cons h]; rfl
 rw [List.set_append_right _ _ (Nat.le_refl _), Nat.sub_self, e]
 simp
theorem drewL {S : Nat → Prop} {w w' : World} (h : Chg S w w') (q : Nat) : Chg S w (w'.drewN q) := ⟨h.os, h.tape, h.output, h.size, h.block⟩
theorem blk_drewN {w : World} {b : Nat} {t : TypeId} {cs : List Value} (h : Blk w b t cs) (q : Nat) : Blk (w.drewN q) b t cs := h
theorem comp_eq {l : List Dt.Dot} {k : Nat} {d : Dt.Dot} (hk : 1 ≤ k) (hd : l[k]? = some d) (he : l[k - 1]? = some d) : Lm.compact (l.take (k + 1)) = Lm.compact (l.take k) := by
 obtain ⟨m, rfl⟩ : ∃ m, k = m + 1 := ⟨k - 1, by omega⟩
 exact Lm.compact_eq hd (by simpa using he)
theorem comp_ne {l : List Dt.Dot} {k : Nat} {d e : Dt.Dot} (hk : 1 ≤ k) (hd : l[k]? = some d) (he : l[k - 1]? = some e) (hne : d ≠ e) : Lm.compact (l.take (k + 1)) = Lm.compact (l.take k) ++ [d] := by
 obtain ⟨m, rfl⟩ : ∃ m, k = m + 1 := ⟨k - 1, by omega⟩
 exact Lm.compact_ne hd (by simpa using he) hne
theorem comp_small {l : List Dt.Dot} (h : l.length < 2) : Lm.compact l = l := by
 match l, h with
 | [], _ => rfl
 | [x], _ => rfl
theorem comp_first {l : List Dt.Dot} (h : 1 ≤ l.length) : Lm.compact (l.take 1) = l.take 1 := comp_small (by rw [List.length_take]; omega)
set_option maxRecDepth 100000 in
set_option maxHeartbeats 12800000 in
theorem compact_own (g n cap : Nat) (tl : List Value) (l : List Dt.Dot) (W : World) (hb : Blk W g 27 (l.flatMap encD ++ tl)) (hl : l.length = n) (hc : n ≤ cap) (hm : cap ≤ maxLen) (ht : (l.flatMap encD ++ tl).length = cap * 3) :
  Calls Try.prog 48 #[.slice (some ⟨g, 0, none⟩) n cap] W fun e w' => (∃ tl', e = .returned (.slice (some ⟨g, 0, none⟩) (Lm.compact l).length cap) ∧ Blk w' g 27 ((Lm.compact l).flatMap encD ++ tl') ∧ ((Lm.compact l).flatMap encD ++ tl').length = cap * 3) ∧ Chg (fun k => k = g) W w' := by
 have hm' : cap ≤ 9223372036854775807 := by unfold maxLen at hm; omega
 have hg := hb.lt
 have HBk := Lib.hid hb; have HL := Lib.hid hl; have HT := Lib.hid ht
 clear hb hl ht hm
 by_cases h2 : n < 2
 ·have hs := comp_small (l := l) (by rw [HL.out]; exact h2)
  have HS := Lib.hid hs; clear hs
  go_enter Try.func48, Try.ntmps48
  go_wp2_with fail
  go_ret
  exact ⟨⟨tl, by rw [HS.out, HL.out]; rfl, by rw [HS.out]; exact HBk.out, by rw [HS.out]; exact HT.out⟩, Chg.refl _ _⟩
 go_enter Try.func48, Try.ntmps48
 go_wp2_with fail
 go_loopw [3] (fun x wr => ∃ k : Nat, x = .int .i64 k ∧ 1 ≤ k ∧ k ≤ n ∧ Lm.compact (l.take k) = l.take k ∧ Blk wr g 27 (l.flatMap encD ++ tl) ∧ Chg (fun k => k = g) W wr) (fun x _ => n - (intOf x).toNat)
 case atStart => exact ⟨1, rfl, by omega, by omega, comp_first (by rw [HL.out]; omega), HBk.out, Chg.refl _ _⟩
 case round =>
  obtain ⟨k, rfl, hk1, hkn, hcomp, hblk, hchg⟩ := hrel
  have HCo := Lib.hid hcomp; have HBr := Lib.hid hblk; have HC := Lib.hid hchg
  clear hcomp hblk hchg
  by_cases hlt : k < n
  ·obtain ⟨d, hd⟩ := getD_some (l := l) (i := k) (by rw [HL.out]; exact hlt)
   obtain ⟨e, he⟩ := getD_some (l := l) (i := k - 1) (by rw [HL.out]; omega)
   obtain ⟨q0, q1, q2⟩ := elemD HBr.out hd
   obtain ⟨p0, p1, p2⟩ := elemD HBr.out he
   have hkz : ((k : Int) - 1) = ((k - 1 : Nat) : Int) := by omega
   have hwz : IntKind.i64.wrap ((k : Int) - 1) = ((k - 1 : Nat) : Int) := by simp [IntKind.wrap, IntKind.bits, IntKind.signed]; omega
   have HD := Lib.hid hd; have HE := Lib.hid he
   clear hd he
   have k0 : (0 : Int) ≤ (k : Int) := by omega
   have k1 : (k : Int) < (n : Int) := by omega
   have k2 : (0 : Int) ≤ ((k - 1 : Nat) : Int) := by omega
   have k3 : ((k - 1 : Nat) : Int) < (n : Int) := by omega
   have k4 : k - 1 < n := by omega
   have hwk : IntKind.i64.wrap ((k : Int) + 1) = (k : Int) + 1 := by simp [IntKind.wrap, IntKind.bits, IntKind.signed]; omega
   clear hkz
   by_cases hde : d = e
   ·subst hde
    have hcz : Lm.compact (l.take (k + 1)) = l.take k := by rw [comp_eq hk1 HD.out HE.out]; exact HCo.out
    have HCz := Lib.hid hcz; clear hcz
    obtain ⟨⟨r, i⟩, s⟩ := d
    simp only at q0 q1 q2 p0 p1 p2
    have hcpk : ¬ (cap = k) := by omega
    have kc : (k : Int) ≤ (cap : Int) := by omega
    have kl : (k : Int) ≤ (n : Int) := by omega
    go_wp2
    go_quiet (fail)
    go_wp2
    clear q0 q1 q2 p0 p1 p2
    go_loopw [3, 5] (fun x y wr => ∃ (m j : Nat) (kept : List Dt.Dot), x = .int .i64 m ∧ y = .int .i64 j ∧ 1 ≤ j ∧ k + j ≤ n ∧ m < k + j ∧ kept = Lm.compact (l.take (k + j)) ∧ kept.length = m ∧ Blk wr g 27 ((kept ++ l.drop kept.length).flatMap encD ++ tl) ∧ Chg (fun k => k = g) W wr) (fun _ y _ => n - (intOf y).toNat)
    case atStart =>
     have hx : (l.take k).length = k := by rw [List.length_take, Nat.min_eq_left (by rw [HL.out]; omega)]
     exact ⟨k, 1, l.take k, rfl, rfl, by omega, by omega, by omega, HCz.out.symm, hx, by rw [hx, List.take_append_drop]; exact blk_drewN HBr.out _, drewL HC.out _⟩
    case round =>
     obtain ⟨m, j, kept, rfl, rfl, hj1, hjn, hmj, hkept, hkl, hblk, hchg⟩ := hrel
     have HKe := Lib.hid hkept; have HKl := Lib.hid hkl; have HBs := Lib.hid hblk; have HD3 := Lib.hid hchg
     clear hkept hkl hblk hchg
     have hlen : (kept ++ l.drop kept.length).length = n := by rw [List.length_append, List.length_drop, HL.out, HKl.out]; omega
     have HLen := Lib.hid hlen; clear hlen
     have hwj : IntKind.i64.wrap ((j : Int) + 1) = (j : Int) + 1 := by simp [IntKind.wrap, IntKind.bits, IntKind.signed]; omega
     have hwm : IntKind.i64.wrap ((m : Int) + 1) = (m : Int) + 1 := by simp [IntKind.wrap, IntKind.bits, IntKind.signed]; omega
     by_cases hlt2 : k + j < n
     ·obtain ⟨d, hd⟩ := getD_some (l := l) (i := k + j) (by rw [HL.out]; exact hlt2)
      obtain ⟨e, he⟩ := getD_some (l := l) (i := k + j - 1) (by rw [HL.out]; omega)
      have hd2 : (kept ++ l.drop kept.length)[k + j]? = some d := by rw [keptD_at (by rw [HKl.out]; omega)]; exact hd
      have he2 : (kept ++ l.drop kept.length)[k + j - 1]? = some e := by rw [keptD_at (by rw [HKl.out]; omega)]; exact he
      obtain ⟨q0, q1, q2⟩ := elemD HBs.out hd2
      obtain ⟨p0, p1, p2⟩ := elemD HBs.out he2
      have HD := Lib.hid hd; have HE := Lib.hid he
      clear hd he hd2 he2
      have hwz : IntKind.i64.wrap ((j : Int) - 1) = ((j - 1 : Nat) : Int) := by simp [IntKind.wrap, IntKind.bits, IntKind.signed]; omega
      have x0 : (k + j) * 3 = k * 3 + j * 3 := by omega
      have x1 : (k + j - 1) * 3 = k * 3 + (j - 1) * 3 := by omega
      rw [x0] at q0 q1 q2
      rw [x1] at p0 p1 p2
      have j0 : (0 : Int) ≤ (j : Int) := by omega
      have j1 : (j : Int) < (n : Int) - (k : Int) := by omega
      have j2 : (0 : Int) ≤ ((j - 1 : Nat) : Int) := by omega
      have j3 : ((j - 1 : Nat) : Int) < (n : Int) - (k : Int) := by omega
      have j4 : j < n - k := by omega
      have j5 : j - 1 < n - k := by omega
      have j6 : (j : Int) < ((n - k : Nat) : Int) := by omega
      have j7 : ((j - 1 : Nat) : Int) < ((n - k : Nat) : Int) := by omega
      have m0 : (0 : Int) ≤ (m : Int) := by omega
      have m1 : (m : Int) < (n : Int) := by omega
      clear x0 x1
      by_cases hde : d = e
      ·subst hde
       have hcz : Lm.compact (l.take (k + (j + 1))) = kept := by rw [HKe.out]; exact comp_eq (k := k + j) (by omega) HD.out HE.out
       have HCy := Lib.hid hcz; clear hcz
       obtain ⟨⟨r, i⟩, s⟩ := d
       simp only at q0 q1 q2 p0 p1 p2
       go_wp2
       go_quiet (fail)
       go_wp2
       clear q0 q1 q2 p0 p1 p2
       go_roundw
       case rel => exact ⟨m, j + 1, kept, rfl, by go_num, by omega, by omega, by omega, HCy.out.symm, HKl.out, blk_drewN HBs.out _, drewL HD3.out _⟩
       case measure => simp [intOf]; omega
      ·have hcz : Lm.compact (l.take (k + (j + 1))) = kept ++ [d] := by rw [HKe.out]; exact comp_ne (k := k + j) (by omega) HD.out HE.out hde
       have HCy := Lib.hid hcz; clear hcz
       have hms : (kept ++ l.drop kept.length).set m d = (kept ++ [d]) ++ l.drop (kept ++ [d]).length := by
        have h := keptD_set (a := kept) (l := l) (by rw [HKl.out, HL.out]; omega) d
        have e := HKl.out.symm
        rw [e]; exact h
       have HMs := Lib.hid hms; clear hms
       have HSt := Lib.hid (fun q => setD (blk_drewN HBs.out q) (k := m) (by rw [HLen.out]; omega) d)
       obtain ⟨y, hy⟩ := getD_some (l := kept ++ l.drop kept.length) (i := m) (by rw [HLen.out]; omega)
       obtain ⟨z0, z1, z2⟩ := elemD HBs.out hy
       have f0 := HBs.out.frozen (m * 3); have f1 := HBs.out.frozen (m * 3 + 1); have f2 := HBs.out.frozen (m * 3 + 2)
       clear hy
       have hne := dot_neO hde
       obtain ⟨⟨r, i⟩, s⟩ := d
       obtain ⟨⟨r', i'⟩, s'⟩ := e
       simp only at q0 q1 q2 p0 p1 p2 hne
       clear hde
       rcases hne with h1 | ⟨rfl, h1⟩ | ⟨rfl, rfl, h1⟩
       ·have d1 : ((r : Int) == (r' : Int)) = false := by simp; omega
        clear h1
        go_wp2
        go_quiet (fail)
        go_wp2
        clear q0 q1 q2 p0 p1 p2 z0 z1 z2 f0 f1 f2
        go_roundw
        case rel => exact ⟨m + 1, j + 1, _, by go_num, by go_num, by omega, by omega, by omega, HCy.out.symm, by rw [List.length_append, HKl.out]; rfl, by rw [← HMs.out]; exact HSt.out _, (drewL HD3.out _).sets (Or.inr rfl) (m * 3) (encD ((r, i), s))⟩
        case measure => simp [intOf]; omega
       ·have d1 : ((i : Int) == (i' : Int)) = false := by simp; omega
        clear h1
        go_wp2
        go_quiet (fail)
        go_wp2
        clear q0 q1 q2 p0 p1 p2 z0 z1 z2 f0 f1 f2
        go_roundw
        case rel => exact ⟨m + 1, j + 1, _, by go_num, by go_num, by omega, by omega, by omega, HCy.out.symm, by rw [List.length_append, HKl.out]; rfl, by rw [← HMs.out]; exact HSt.out _, (drewL HD3.out _).sets (Or.inr rfl) (m * 3) (encD ((r, i), s))⟩
        case measure => simp [intOf]; omega
       ·have d1 : ((s : Int) == (s' : Int)) = false := by simp; omega
        clear h1
        go_wp2
        go_quiet (fail)
        go_wp2
        clear q0 q1 q2 p0 p1 p2 z0 z1 z2 f0 f1 f2
        go_roundw
        case rel => exact ⟨m + 1, j + 1, _, by go_num, by go_num, by omega, by omega, by omega, HCy.out.symm, by rw [List.length_append, HKl.out]; rfl, by rw [← HMs.out]; exact HSt.out _, (drewL HD3.out _).sets (Or.inr rfl) (m * 3) (encD ((r, i), s))⟩
        case measure => simp [intOf]; omega
     ·obtain rfl : n = k + j := by omega
      have hfin : kept = Lm.compact l := by rw [HKe.out, List.take_of_length_le (by rw [HL.out]; omega)]
      have HFin := Lib.hid hfin; clear hfin
      have hsz3 : (Value.agg #[.int .u8 0, .int .u32 0, .int .u64 0]).cells.size = 3 := rfl
      have hlc : ((kept ++ l.drop kept.length).flatMap encD ++ tl).length = cap * 3 := by
       have := HT.out
       rw [List.length_append, enc_length encD_len] at this ⊢
       rw [HLen.out]; rw [HL.out] at this; exact this
      obtain ⟨N, hN⟩ : ∃ N, N = k + j := ⟨_, rfl⟩
      obtain ⟨vs, hvl, hcl⟩ := run_clear_any (P := Try.prog) wr 29 27 0 _ Try.underlying29 zeroDot (by intro u hu; simp [Value.cells] at hu; rcases hu with rfl | rfl | rfl <;> rfl) (by simp [Value.cells]) g (m * 3) (k + j - m) (cap - m) (by
       intro q hq
       rw [hsz3] at hq
       exact HBs.out.some (by rw [hlc]; omega)) (by intro q hq; exact HBs.out.frozen _)
      have hcl2 : ∀ ty, (Builtin.clear_ #[29] ty #[.slice (some ⟨g, m * 3, none⟩) (k + j - m) (cap - m)]).run Try.prog wr = .ok (.tuple #[]) (wr.setCells g (m * 3) vs) := fun ty => by
       have : (Builtin.clear_ #[29] ty #[.slice (some ⟨g, m * 3, none⟩) (k + j - m) (cap - m)]) = (Builtin.clear_ #[29] 0 #[.slice (some ⟨g, m * 3, none⟩) (k + j - m) (cap - m)]) := rfl
       rw [this]; exact hcl
      have hfl : (kept.flatMap encD).length = m * 3 := by rw [enc_length encD_len, HKl.out]
      obtain ⟨b', hb'⟩ := splice_behind (kept.flatMap encD) ((l.drop kept.length).flatMap encD ++ tl) vs (m * 3) (by rw [hfl]; omega)
      have hblk2 : Blk (wr.setCells g (m * 3) vs) g 27 (kept.flatMap encD ++ b') ∧ (kept.flatMap encD ++ b').length = cap * 3 := by
       have h1 := HBs.out.setCells vs (m * 3) (by rw [hvl, hsz3, hlc]; omega)
       have h2 : ((kept ++ l.drop kept.length).flatMap encD ++ tl) = kept.flatMap encD ++ ((l.drop kept.length).flatMap encD ++ tl) := by rw [List.flatMap_append, List.append_assoc]
       rw [h2, hb'] at h1
       refine ⟨h1, ?_⟩
       rw [← hb', splice_len _ _ _ (by rw [← h2, hvl, hsz3, hlc]; omega), ← h2, hlc]
      have HB4 := Lib.hid hblk2
      clear hblk2 hb' hfl hcl hvl hlc
      have hC4 : Chg (fun k => k = g) W (wr.setCells g (m * 3) vs) := HD3.out.sets (Or.inr rfl) _ _
      have HC4 := Lib.hid hC4; clear hC4
      have hcm : ¬ (cap = m) := by omega
      have m0 : (0 : Int) ≤ (m : Int) := by omega
      have m1 : (m : Int) ≤ ((k + j : Nat) : Int) := by omega
      have m1' : (m : Int) ≤ (k : Int) + (j : Int) := by omega
      have m2 : (m : Int) ≤ (cap : Int) := by omega
      have jz : (j : Int) = ((k + j - k : Nat) : Int) := by omega
      have jn : ¬ (j < k + j - k) := by omega
      have jn2 : k + j - k = j := by omega
      go_wp2_with (simp only [hcl2])
      go_ret
      refine ⟨⟨b', ?_, by rw [← HFin.out]; exact HB4.out.1, by rw [← HFin.out]; exact HB4.out.2⟩, HC4.out⟩
      rw [← HFin.out, HKl.out]; rfl
   ·have hcz : Lm.compact (l.take (k + 1)) = l.take (k + 1) := by
     rw [comp_ne hk1 HD.out HE.out hde, HCo.out, Lm.take_snoc HD.out]
    have HCz := Lib.hid hcz; clear hcz
    have hne := dot_neO hde
    obtain ⟨⟨r, i⟩, s⟩ := d
    obtain ⟨⟨r', i'⟩, s'⟩ := e
    simp only at q0 q1 q2 p0 p1 p2 hne
    clear hde
    rcases hne with h1 | ⟨rfl, h1⟩ | ⟨rfl, rfl, h1⟩
    ·have d1 : ((r : Int) == (r' : Int)) = false := by simp; omega
     clear h1
     go_wp2
     go_quiet (fail)
     go_wp2
     clear q0 q1 q2 p0 p1 p2
     go_roundw
     case rel => exact ⟨k + 1, by go_num, by omega, by omega, HCz.out, blk_drewN HBr.out _, drewL HC.out _⟩
     case measure => simp [intOf]; omega
    ·have d1 : ((i : Int) == (i' : Int)) = false := by simp; omega
     clear h1
     go_wp2
     go_quiet (fail)
     go_wp2
     clear q0 q1 q2 p0 p1 p2
     go_roundw
     case rel => exact ⟨k + 1, by go_num, by omega, by omega, HCz.out, blk_drewN HBr.out _, drewL HC.out _⟩
     case measure => simp [intOf]; omega
    ·have d1 : ((s : Int) == (s' : Int)) = false := by simp; omega
     clear h1
     go_wp2
     go_quiet (fail)
     go_wp2
     clear q0 q1 q2 p0 p1 p2
     go_roundw
     case rel => exact ⟨k + 1, by go_num, by omega, by omega, HCz.out, blk_drewN HBr.out _, drewL HC.out _⟩
     case measure => simp [intOf]; omega
  ·obtain rfl : k = n := by omega
   have hfin : Lm.compact l = l := by have := HCo.out; rwa [List.take_of_length_le (by rw [HL.out]; omega)] at this
   have HFin := Lib.hid hfin; clear hfin
   go_wp2
   go_ret
   exact ⟨⟨tl, by rw [HFin.out, HL.out]; rfl, by rw [HFin.out]; exact HBr.out, by rw [HFin.out]; exact HT.out⟩, HC.out⟩
section
open Go.Shelf Go.Sort
def SortPostB (w : World) (blk : Nat) (xs : List Dt.Dot) (e : Ending) (w' : World) : Prop :=
 SortPost w blk xs e w' ∧ ∀ (cs : List Value) (t : TypeId), Blk w blk t cs → ∃ cs', Blk w' blk t cs' ∧ cs'.length = cs.length
theorem sortWorld_blk {w : World} {blk : Nat} {cs : List Value} {t : TypeId} (h : Blk w blk t cs) (n : Nat) (d : Array Dt.Dot) (os : Array Obj) : ∃ cs', Blk (sortWorldK encD 3 w blk 0 n d os) blk t cs' ∧ cs'.length = cs.length := by
 refine ⟨(putCells id 0 (flatK encD 3 d) cs.toArray).toList, ?_, by simp [putCells]⟩
 unfold Blk at h ⊢
 have hlt := (Array.getElem?_eq_some_iff.1 h).1
 have h1 : (putRowK encD 3 (Sort.ahead w n) blk 0 d).heap[blk]? = some (.cells (putCells id 0 (flatK encD 3 d) cs.toArray) t (0, 0)) := by
  simp only [putRowK, putRow, mapBlock, Sort.ahead, Array.getElem?_modify, if_pos, h, Option.map_some, onCells]
 have h2 : blk < (putRowK encD 3 (Sort.ahead w n) blk 0 d).heap.size := (Array.getElem?_eq_some_iff.1 h1).1
 unfold sortWorldK
 rw [heap_grow_old _ _ h2, h1]
set_option maxHeartbeats 400000 in
theorem sort_nones (p : Option Addr) (cap : Nat) (fv : Value) (w : World) :
  Calls Try.prog 46 #[.slice p 0 cap, fv] w fun e w' => e = .returned (.tuple #[]) ∧ w = w' := by
 have hl : Calls Try.prog 58 #[.int .u64 0] w fun e w' => e = .returned (.int .i64 (Lib.bitLen 0 : Nat)) ∧ w = w' :=
  (Any.bits_Len (SlLaysF0.n15.bits Try.lenU) 0 w (by omega) (by omega)).mono fun _ _ ⟨h1, h2⟩ => ⟨h1, h2.symm⟩
 have Hl := Lib.hid hl; clear hl
 go_enter Try.func46, Try.ntmps46
 go_wp2_with fail
 refine Hl.out.mono ?_
 rintro e w' ⟨rfl, rfl⟩
 go_wp2_with fail
 refine (pdq_none _ _ _ _ _).mono ?_
 rintro e w' ⟨rfl, rfl⟩
 go_wp2_with fail
 go_end0
 exact ⟨rfl, rfl⟩
end
end Go.Proofs.Ytmnblimnoaockaa
namespace Go.Proofs.Ytmnblimnoaockaa
open Go.RowKit Go.Buf Go.LB Go.Lib
set_option linter.unusedSimpArgs false
set_option linter.unusedVariables false
theorem compact_nil : Lm.compact [] = [] := rfl
theorem compact_le : ∀ l : List Dt.Dot, (Lm.compact l).length ≤ l.length := by
 have key : ∀ n (l : List Dt.Dot), l.length = n → (Lm.compact l).length ≤ l.length := by
  intro n
  induction n with
  | zero => intro l hl; rw [List.eq_nil_of_length_eq_zero hl]; simp [compact_nil]
  | succ n ih =>
   intro l hl
   rcases Lm.snoc_cases l with rfl | ⟨i, d, rfl⟩
   ·simp [compact_nil]
   ·have := ih i (by simpa using hl)
    rw [Lm.compact_snoc, Lm.cstep]
    split <;> simp <;> omega
 exact fun l => key _ l rfl
set_option maxHeartbeats 1000000 in
theorem compactD_any (v : Value) (row : Option Nat) (l : List Dt.Dot) (B : Nat) (W : World) (h : OwnD B W v l row) :
  Calls Try.prog 48 #[v] W fun e w' => (∃ v', e = .returned v' ∧ OwnD B w' v' (Lm.compact l) row) ∧ Chg (fun k => some k = row) W w' := by
 rcases h.2 with ⟨rfl, rfl, a, rfl⟩ | ⟨g, cap, tl, rfl, rfl, h3, h4, h5, h6, h7⟩
 ·have hB := h.1
  clear h
  go_enter Try.func48, Try.ntmps48
  go_wp2_with fail
  go_ret
  exact ⟨⟨_, rfl, Own.empty hB a⟩, Chg.refl _ _⟩
 ·refine (compact_own g l.length cap tl l W h4 rfl h5 h6 h7).mono ?_
  rintro e w' ⟨⟨tl', rfl, hb, hl⟩, hc⟩
  exact ⟨⟨_, rfl, Nat.le_trans h.1 hc.size, Or.inr ⟨g, cap, tl', rfl, rfl, h3, hb, Nat.le_trans (compact_le _) h5, h6, hl⟩⟩, hc.mono (fun k _ e => by rw [e])⟩
theorem holds_of_blk {w : World} {g : Nat} {t : TypeId} {xs : List Dt.Dot} {tl : List Value} (h : Blk w g t (xs.flatMap encD ++ tl)) : Go.Sort.HoldsK encD 3 w g 0 xs.toArray := by
 intro j hj
 simp only [Go.Sort.size_flatK, List.size_toArray] at hj
 refine ⟨?_, by rw [Nat.zero_add]; exact h.frozen j⟩
 have hi : j / 3 < xs.length := by omega
 have h3 : j % 3 < 3 := Nat.mod_lt _ (by omega)
 rw [Nat.zero_add, h.cell, List.getElem?_append_left (by rw [enc_length encD_len]; omega), Go.Sort.get_flatK encD 3 xs.toArray j (by simpa using hj)]
 have := enc_get encD_len xs (j / 3) xs[j / 3] (List.getElem?_eq_getElem hi) (j % 3) h3
 rw [show j / 3 * 3 + j % 3 = j from by omega] at this
 rw [this, getElem!_pos xs.toArray (j / 3) (by simpa using hi)]
 rw [getElem!_pos (encD _) (j % 3) (by rw [encD_len]; exact h3)]
 simp
theorem blk_of_holds {w : World} {g : Nat} {t : TypeId} {ys : List Dt.Dot} {cs : List Value} (h : Blk w g t cs) (hl : ys.length * 3 ≤ cs.length) (hh : Go.Sort.HoldsK encD 3 w g 0 ys.toArray) : ∃ tl, cs = ys.flatMap encD ++ tl := by
 refine ⟨cs.drop (ys.length * 3), ?_⟩
 have hfl : (ys.flatMap encD).length = ys.length * 3 := enc_length encD_len ys
 have : cs.take (ys.length * 3) = ys.flatMap encD := by
  apply List.ext_getElem?
  intro j
  by_cases hj : j < ys.length * 3
  ·rw [List.getElem?_take, if_pos hj]
   have h1 := (hh j (by simpa using hj)).1
   have hi : j / 3 < ys.length := by omega
   have h3 : j % 3 < 3 := Nat.mod_lt _ (by omega)
   rw [Nat.zero_add, h.cell, Go.Sort.get_flatK encD 3 ys.toArray j (by simpa using hj)] at h1
   rw [h1]
   have := enc_get encD_len ys (j / 3) ys[j / 3] (List.getElem?_eq_getElem hi) (j % 3) h3
   rw [show j / 3 * 3 + j % 3 = j from by omega] at this
   rw [this, getElem!_pos ys.toArray (j / 3) (by simpa using hi)]
   rw [getElem!_pos (encD _) (j % 3) (by rw [encD_len]; exact h3)]
   simp
  ·rw [List.getElem?_take, if_neg hj, List.getElem?_eq_none (by rw [hfl]; omega)]
 rw [← this, List.take_append_drop]
end Go.Proofs.Ytmnblimnoaockaa
namespace Go.Proofs.Ytmnblimnoaockaa
open Go.Shelf Go.RowKit Go.Lib Go.Sort Go.LB
open Go.RegG (Gr)
set_option linter.unusedSimpArgs false
set_option linter.unusedVariables false
theorem dotLays2 (blk off size : Nat) (w : World) : CmpLays Try.prog 47 #[] encD 3 Dt.cmp blk off size w := by
 intro m os dk _ x y
 obtain ⟨⟨r, i⟩, s⟩ := x
 obtain ⟨⟨r', i'⟩, s'⟩ := y
 refine (compareDots_any r i s r' i' s' _).mono ?_
 rintro e w' ⟨rfl, h⟩
 exact ⟨rfl, grow_of_gr h⟩
set_option maxRecDepth 100000 in
set_option maxHeartbeats 2000000 in
theorem sortDots2 (blk cap : Nat) (xs : List Dt.Dot) (w : World) (hH : HoldsK encD 3 w blk 0 xs.toArray) (hblk : blk < w.heap.size) (hsz : xs.length < 1000000000) :
  Calls Try.prog 46 #[.slice (some ⟨blk, 0, none⟩) xs.length cap, .func (.func 47) #[] #[]] w (SortPostB w blk xs) := by
 have eg : ∀ args w, (callFunc 47 args).run Try.prog w = .ok (.enter 47 args) w := enters_of Try.func47 (by kernel_rfl) (by kernel_rfl)
 have hlim : Lib.bitLen xs.length < 4611686018427387904 := Nat.lt_of_le_of_lt (Lib.bitLen_le xs.length 62 (by omega) (by omega)) (by omega)
 have hp := AnyQ.pdqsortCmpFunc_all (P := Try.prog) Try.pdqDot 3 Try.isAgg27 Try.sizeOf27 encD Dt.cmp 47 #[] swoDot blk 0 cap xs.toArray w eg (dotLays2 blk 0 _ w) ⟨encD_len, encD_one, hH, hblk⟩ (xs.length + 1) 0 xs.length (Lib.bitLen xs.length) xs.toArray w (by omega) rfl (SWK.start hH) (Nat.zero_le _) (by simp) (by simp; omega) hlim (Or.inl rfl)
 have hl : Calls Try.prog 58 #[.int .u64 (xs.length : Int)] w fun e w' => e = .returned (.int .i64 (Lib.bitLen xs.length : Nat)) ∧ w = w' := by
  have h := Any.bits_Len (SlLaysF0.n15.bits Try.lenU) (xs.length : Int) w (by omega) (by omega)
  rw [Int.toNat_natCast] at h
  exact h.mono fun _ _ ⟨h1, h2⟩ => ⟨h1, h2.symm⟩
 have hpost : ∀ w', SWK encD 3 w blk 0 (pdq (ltOf Dt.cmp) xs.toArray 0 xs.length (Lib.bitLen xs.length) true true) w' → SortPostB w blk xs (.returned (.tuple #[])) w' := by
  rintro w' ⟨n, os, rfl⟩
  have h := pdq_sorts (ltOf Dt.cmp) swoDot xs.toArray 0 xs.toArray.size (Lib.bitLen xs.length) true true (Nat.zero_le _) (Nat.le_refl _) (Or.inl rfl)
  refine ⟨⟨rfl, (pdq (ltOf Dt.cmp) xs.toArray 0 xs.length (Lib.bitLen xs.length) true true).toList, by simpa using perm_list h.1, sorted_list (by have h1 := h.1.1; have h2 := h.2; simp only [List.size_toArray] at h1 h2; rw [h1]; exact h2), ?_, sortWorld_grown _ _ _ _ _⟩, fun cs t hb => sortWorld_blk hb _ _ _⟩
  exact holdsK_sortWorldK_c encD 3 w blk 0 xs.toArray _ n os hH hblk h.1.1
 have hp2 : Calls Try.prog 57 #[.slice (some ⟨blk, 0, none⟩) xs.length cap, .int .i64 0, .int .i64 (xs.length : Nat), .int .i64 (Lib.bitLen xs.length : Nat), .func (.func 47) #[] #[]] w (SortPostB w blk xs) := by
  refine Calls.mono ?_ (fun e w' (h : e = .returned (.tuple #[]) ∧ SWK encD 3 w blk 0 (pdq (ltOf Dt.cmp) xs.toArray 0 xs.length (Lib.bitLen xs.length) true true) w') => by rw [h.1]; exact hpost w' h.2)
  simp only [List.size_toArray] at hp
  exact hp
 have Hp := Lib.hid hp2; have Hl := Lib.hid hl
 clear hp hl hpost hH hp2 hlim
 go_enter Try.func46, Try.ntmps46
 go_wp2_with fail
 refine Hl.out.mono ?_
 rintro e w' ⟨rfl, rfl⟩
 go_wp2_with fail
 refine Hp.out.mono ?_
 rintro e w' ⟨⟨rfl, h⟩, h2⟩
 have H := Lib.hid h; have H2 := Lib.hid h2; clear h h2
 go_wp2_with fail
 go_end0
 exact ⟨⟨rfl, H.out⟩, H2.out⟩
set_option maxHeartbeats 1000000 in
theorem sortDD_any (v : Value) (row : Option Nat) (l : List Dt.Dot) (B : Nat) (W : World) (h : OwnD B W v l row) (hn : l.length < 1000000000) :
  Calls Try.prog 46 #[v, .func (.func 47) #[] #[]] W fun e w' => e = .returned (.tuple #[]) ∧ (∃ s : List Dt.Dot, s.Perm l ∧ s.Pairwise (fun x y => ¬ Dt.lt y x) ∧ OwnD B w' v s row) ∧ Chg (fun k => some k = row) W w' := by
 rcases h.2 with ⟨rfl, rfl, a, rfl⟩ | ⟨g, cap, tl, rfl, rfl, h3, h4, h5, h6, h7⟩
 ·refine (sort_nones a 0 _ W).mono ?_
  rintro e w' ⟨rfl, rfl⟩
  exact ⟨rfl, ⟨[], List.Perm.refl _, List.Pairwise.nil, h⟩, Chg.refl _ _⟩
 ·refine (sortDots2 g cap l W (holds_of_blk h4) h4.lt hn).mono ?_
  rintro e w' ⟨⟨rfl, ys, hp, hs, hh, hg⟩, hb⟩
  obtain ⟨cs', hb', hl'⟩ := hb _ _ h4
  have hlen := hp.length_eq
  have hc3 : l.length * 3 ≤ cap * 3 := by omega
  obtain ⟨tl', rfl⟩ := blk_of_holds hb' (by rw [hl', h7, hlen]; exact hc3) hh
  refine ⟨rfl, ⟨ys, hp, hs, Nat.le_trans h.1 hg.size, Or.inr ⟨g, cap, tl', rfl, by rw [hlen], h3, hb', by rw [hlen]; exact h5, h6, by rw [hl', h7]⟩⟩, (Chg.of_grown hg).mono (fun k _ e => e)⟩
end Go.Proofs.Ytmnblimnoaockaa
