import Derived.Test.YtbciopieciglmaaZDot8
import Derived.Test.YtbciopieciglmaaZRegC
import Derived.StillTailTactics
import Derived.Test.YtbciopieciglmaaZRegD
namespace Go.Proofs.Ytbciopieciglmaa
open Go.RowKit Go.Buf Go.LB Go.Lib
set_option linter.unusedSimpArgs false
set_option linter.unusedVariables false
set_option maxRecDepth 100000 in
set_option maxHeartbeats 4000000 in
theorem refitem_any (a : Option Addr) (n cap : Nat) (r' i' s' : Nat) (l : List Lm.It) (W : World) (hr : IRow W a cap l) (hl : l.length = n) :
  Calls Try.prog 30 #[.slice a n cap, dotV ((r', i'), s')] W fun e w' => e = .returned (.int .i64 (Lm.idx l ((r', i'), s'))) ∧ Below W.heap.size W w' := by
 have hle := hr.le
 have hcap := hr.cap
 rw [hl] at hle
 have HR := Lib.hid hr; have HL := Lib.hid hl
 clear hr hl
 go_enter Try.func30, Try.ntmps30
 go_wp2_with fail
 go_loopw [5] (fun v wr => ∃ k : Nat, v = .int .i64 k ∧ k ≤ n ∧ Below (W.alloc (.cells #[.int .u8 (r' : Int), .int .u32 (i' : Int), .int .u64 (s' : Int)] 31)).heap.size (W.alloc (.cells #[.int .u8 (r' : Int), .int .u32 (i' : Int), .int .u64 (s' : Int)] 31)) wr ∧ ∀ (j : Nat) (y : Lm.It), j < k → l[j]? = some y → y.2.1 ≠ ((r', i'), s')) (fun v _ => n - (intOf v).toNat)
 case atStart => exact ⟨0, rfl, by omega, Below.refl _ _, fun j y h _ => by omega⟩
 case round =>
  obtain ⟨k, rfl, hkn, hbl, hno⟩ := hrel
  obtain ⟨b0, b1, b2⟩ := dotcells hbl
  have hbel := ((Below.refl W.heap.size W).alloc (Nat.le_refl _) (.cells #[.int .u8 (r' : Int), .int .u32 (i' : Int), .int .u64 (s' : Int)] 31)).trans (hbl.mono (by simp))
  have HNo := Lib.hid hno; have HB := Lib.hid hbl; have HW := Lib.hid hbel
  clear hbl hno
  by_cases hlt : k < n
  ·obtain ⟨d, hd⟩ := geti_some (l := l) (i := k) (by rw [HL.out]; exact hlt)
   obtain ⟨blk, off, rfl, hblk, hcells⟩ := HR.out.at (by rw [HL.out]; omega)
   obtain ⟨g0, g1, g2, g3, g4⟩ := hcells k d hd
   have q0 := (hbel.cell (p := ⟨blk, off + k * 5 + 1, none⟩) hblk).trans g1
   have q1 := (hbel.cell (p := ⟨blk, off + k * 5 + 2, none⟩) hblk).trans g2
   have q2 := (hbel.cell (p := ⟨blk, off + k * 5 + 3, none⟩) hblk).trans g3
   have HK := Lib.hid hd
   have hw1 : IntKind.i64.wrap ((k : Int) + 1) = (k : Int) + 1 := by simp [IntKind.wrap, IntKind.bits, IntKind.signed]; omega
   have k0 : (0 : Int) ≤ (k : Int) := by omega
   have k1 : (k : Int) < (n : Int) := by omega
   obtain ⟨t, ⟨⟨r, i⟩, s⟩, x⟩ := d
   simp only at q0 q1 q2
   clear hcells hd hbel hblk g0 g1 g2 g3 g4
   by_cases he : ((r, i), s) = ((r', i'), s')
   ·simp only [Prod.mk.injEq] at he
    obtain ⟨⟨rfl, rfl⟩, rfl⟩ := he
    go_wp2
    go_quiet (fail)
    go_wp2
    go_ret
    exact ⟨ret_int (Lm.idx_found HNo.out HK.out rfl).symm, below_drewL HW.out _⟩
   have hno2 : ∀ (j : Nat) (y : Lm.It), j < k + 1 → l[j]? = some y → y.2.1 ≠ ((r', i'), s') := fun j y hj hy => by
    by_cases e : j = k
    ·subst e
     have := HK.out
     rw [this] at hy
     cases hy
     exact he
    ·exact HNo.out j y (by omega) hy
   have HNo2 := Lib.hid hno2
   have hne := dot_neO he
   clear he hno2
   rcases hne with h1 | ⟨rfl, h1⟩ | ⟨rfl, rfl, h1⟩
   ·have d1 : ((r : Int) == (r' : Int)) = false := by simp; (try simp only at h1); omega
    clear h1
    go_wp2
    go_quiet (fail)
    go_wp2
    go_roundw
    case rel => exact ⟨k + 1, by go_num, by omega, below_drewL HB.out _, HNo2.out⟩
    case measure => simp [intOf]; omega
   ·have d1 : ((i : Int) == (i' : Int)) = false := by simp; (try simp only at h1); omega
    clear h1
    go_wp2
    go_quiet (fail)
    go_wp2
    go_roundw
    case rel => exact ⟨k + 1, by go_num, by omega, below_drewL HB.out _, HNo2.out⟩
    case measure => simp [intOf]; omega
   ·have d1 : ((s : Int) == (s' : Int)) = false := by simp; (try simp only at h1); omega
    clear h1
    go_wp2
    go_quiet (fail)
    go_wp2
    go_roundw
    case rel => exact ⟨k + 1, by go_num, by omega, below_drewL HB.out _, HNo2.out⟩
    case measure => simp [intOf]; omega
  ·obtain rfl : k = n := by omega
   clear hbel
   go_wp2
   go_ret
   exact ⟨ret_int (Lm.idx_none (fun j y hy => HNo.out j y (by have := (List.getElem?_eq_some_iff.1 hy).1; rw [HL.out] at this; exact this) hy)).symm, HW.out⟩
set_option maxRecDepth 100000 in
set_option maxHeartbeats 4000000 in
theorem reftomb_any (a : Option Addr) (n cap : Nat) (r' i' s' : Nat) (l : List Dt.Dot) (W : World) (hr : VRow W a cap l) (hl : l.length = n) :
  Calls Try.prog 17 #[.slice a n cap, dotV ((r', i'), s')] W fun e w' => e = .returned (.bool (Lm.hasD l ((r', i'), s'))) ∧ Below W.heap.size W w' := by
 have hle := hr.le
 have hcap := hr.cap
 rw [hl] at hle
 have HR := Lib.hid hr; have HL := Lib.hid hl
 clear hr hl
 go_enter Try.func17, Try.ntmps17
 go_wp2_with fail
 go_loopw [5] (fun v wr => ∃ k : Nat, v = .int .i64 k ∧ k ≤ n ∧ Below (W.alloc (.cells #[.int .u8 (r' : Int), .int .u32 (i' : Int), .int .u64 (s' : Int)] 31)).heap.size (W.alloc (.cells #[.int .u8 (r' : Int), .int .u32 (i' : Int), .int .u64 (s' : Int)] 31)) wr ∧ ∀ (j : Nat) (y : Dt.Dot), j < k → l[j]? = some y → y ≠ ((r', i'), s')) (fun v _ => n - (intOf v).toNat)
 case atStart => exact ⟨0, rfl, by omega, Below.refl _ _, fun j y h _ => by omega⟩
 case round =>
  obtain ⟨k, rfl, hkn, hbl, hno⟩ := hrel
  obtain ⟨b0, b1, b2⟩ := dotcells hbl
  have hbel := ((Below.refl W.heap.size W).alloc (Nat.le_refl _) (.cells #[.int .u8 (r' : Int), .int .u32 (i' : Int), .int .u64 (s' : Int)] 31)).trans (hbl.mono (by simp))
  have HNo := Lib.hid hno; have HB := Lib.hid hbl; have HW := Lib.hid hbel
  clear hbl hno
  by_cases hlt : k < n
  ·obtain ⟨d, hd⟩ := getD_some (l := l) (i := k) (by rw [HL.out]; exact hlt)
   obtain ⟨blk, off, rfl, hblk, hcells⟩ := HR.out.at (by rw [HL.out]; omega)
   obtain ⟨g1, g2, g3⟩ := hcells k d hd
   have q0 := (hbel.cell (p := ⟨blk, off + k * 3, none⟩) hblk).trans g1
   have q1 := (hbel.cell (p := ⟨blk, off + k * 3 + 1, none⟩) hblk).trans g2
   have q2 := (hbel.cell (p := ⟨blk, off + k * 3 + 2, none⟩) hblk).trans g3
   have HK := Lib.hid hd
   have hw1 : IntKind.i64.wrap ((k : Int) + 1) = (k : Int) + 1 := by simp [IntKind.wrap, IntKind.bits, IntKind.signed]; omega
   have k0 : (0 : Int) ≤ (k : Int) := by omega
   have k1 : (k : Int) < (n : Int) := by omega
   obtain ⟨⟨r, i⟩, s⟩ := d
   simp only at q0 q1 q2
   clear hcells hd hbel hblk g1 g2 g3
   by_cases he : ((r, i), s) = ((r', i'), s')
   ·simp only [Prod.mk.injEq] at he
    obtain ⟨⟨rfl, rfl⟩, rfl⟩ := he
    go_wp2
    go_quiet (fail)
    go_wp2
    go_ret
    exact ⟨ret_bool (Lm.hasD_iff.2 (List.mem_of_getElem? HK.out)).symm, below_drewL HW.out _⟩
   have hno2 : ∀ (j : Nat) (y : Dt.Dot), j < k + 1 → l[j]? = some y → y ≠ ((r', i'), s') := fun j y hj hy => by
    by_cases e : j = k
    ·subst e
     have := HK.out
     rw [this] at hy
     cases hy
     exact he
    ·exact HNo.out j y (by omega) hy
   have HNo2 := Lib.hid hno2
   have hne := dot_neO he
   clear he hno2
   rcases hne with h1 | ⟨rfl, h1⟩ | ⟨rfl, rfl, h1⟩
   ·have d1 : ((r : Int) == (r' : Int)) = false := by simp; (try simp only at h1); omega
    clear h1
    go_wp2
    go_quiet (fail)
    go_wp2
    go_roundw
    case rel => exact ⟨k + 1, by go_num, by omega, below_drewL HB.out _, HNo2.out⟩
    case measure => simp [intOf]; omega
   ·have d1 : ((i : Int) == (i' : Int)) = false := by simp; (try simp only at h1); omega
    clear h1
    go_wp2
    go_quiet (fail)
    go_wp2
    go_roundw
    case rel => exact ⟨k + 1, by go_num, by omega, below_drewL HB.out _, HNo2.out⟩
    case measure => simp [intOf]; omega
   ·have d1 : ((s : Int) == (s' : Int)) = false := by simp; (try simp only at h1); omega
    clear h1
    go_wp2
    go_quiet (fail)
    go_wp2
    go_roundw
    case rel => exact ⟨k + 1, by go_num, by omega, below_drewL HB.out _, HNo2.out⟩
    case measure => simp [intOf]; omega
  ·obtain rfl : k = n := by omega
   clear hbel
   go_wp2
   go_ret
   exact ⟨ret_bool (by
     cases h : Lm.hasD l ((r', i'), s')
     ·rfl
     ·obtain ⟨j, hj, he⟩ := List.getElem_of_mem (Lm.hasD_iff.1 h)
      exact absurd he (HNo.out j _ (by rw [← HL.out]; exact hj) (List.getElem?_eq_getElem hj))), HW.out⟩
end Go.Proofs.Ytbciopieciglmaa
namespace Go.Proofs.Ytbciopieciglmaa
open Go.RowKit Go.Buf Go.LB Go.Lib
set_option linter.unusedSimpArgs false
set_option linter.unusedVariables false
theorem compact_nil : Lm.compact [] = [] := rfl
theorem compact_le : ∀ l : List Dt.Dot, (Lm.compact l).length ≤ l.length := by
 have key : ∀ n (l : List Dt.Dot), l.length = n → (Lm.compact l).length ≤ l.length := by
  intro n
  induction n with
  | zero => intro l hl; rw [List.eq_nil_of_length_eq_zero hl]; simp [compact_nil]
  | succ n ih =>
   intro l hl
   rcases Lm.snoc_cases l with rfl | ⟨i, d, rfl⟩
   ·simp [compact_nil]
   ·have := ih i (by simpa using hl)
    rw [Lm.compact_snoc, Lm.cstep]
    split <;> simp <;> omega
 exact fun l => key _ l rfl
set_option maxHeartbeats 1000000 in
theorem compactD_any (v : Value) (row : Option Nat) (l : List Dt.Dot) (B : Nat) (W : World) (h : OwnD B W v l row) :
  Calls Try.prog 47 #[v] W fun e w' => (∃ v', e = .returned v' ∧ OwnD B w' v' (Lm.compact l) row) ∧ Chg (fun k => some k = row) W w' := by
 rcases h.2 with ⟨rfl, rfl, a, rfl⟩ | ⟨g, cap, tl, rfl, rfl, h3, h4, h5, h6, h7⟩
 ·have hB := h.1
  clear h
  go_enter Try.func47, Try.ntmps47
  go_wp2_with fail
  go_ret
  exact ⟨⟨_, rfl, Own.empty hB a⟩, Chg.refl _ _⟩
 ·refine (compact_own g l.length cap tl l W h4 rfl h5 h6 h7).mono ?_
  rintro e w' ⟨⟨tl', rfl, hb, hl⟩, hc⟩
  exact ⟨⟨_, rfl, Nat.le_trans h.1 hc.size, Or.inr ⟨g, cap, tl', rfl, rfl, h3, hb, Nat.le_trans (compact_le _) h5, h6, hl⟩⟩, hc.mono (fun k _ e => by rw [e])⟩
theorem holds_of_blk {w : World} {g : Nat} {t : TypeId} {xs : List Dt.Dot} {tl : List Value} (h : Blk w g t (xs.flatMap encD ++ tl)) : Go.Sort.HoldsK encD 3 w g 0 xs.toArray := by
 intro j hj
 simp only [Go.Sort.size_flatK, List.size_toArray] at hj
 refine ⟨?_, by rw [Nat.zero_add]; exact h.frozen j⟩
 have hi : j / 3 < xs.length := by omega
 have h3 : j % 3 < 3 := Nat.mod_lt _ (by omega)
 rw [Nat.zero_add, h.cell, List.getElem?_append_left (by rw [enc_length encD_len]; omega), Go.Sort.get_flatK encD 3 xs.toArray j (by simpa using hj)]
 have := enc_get encD_len xs (j / 3) xs[j / 3] (List.getElem?_eq_getElem hi) (j % 3) h3
 rw [show j / 3 * 3 + j % 3 = j from by omega] at this
 rw [this, getElem!_pos xs.toArray (j / 3) (by simpa using hi)]
 rw [getElem!_pos (encD _) (j % 3) (by rw [encD_len]; exact h3)]
 simp
theorem blk_of_holds {w : World} {g : Nat} {t : TypeId} {ys : List Dt.Dot} {cs : List Value} (h : Blk w g t cs) (hl : ys.length * 3 ≤ cs.length) (hh : Go.Sort.HoldsK encD 3 w g 0 ys.toArray) : ∃ tl, cs = ys.flatMap encD ++ tl := by
 refine ⟨cs.drop (ys.length * 3), ?_⟩
 have hfl : (ys.flatMap encD).length = ys.length * 3 := enc_length encD_len ys
 have : cs.take (ys.length * 3) = ys.flatMap encD := by
  apply List.ext_getElem?
  intro j
  by_cases hj : j < ys.length * 3
  ·rw [List.getElem?_take, if_pos hj]
   have h1 := (hh j (by simpa using hj)).1
   have hi : j / 3 < ys.length := by omega
   have h3 : j % 3 < 3 := Nat.mod_lt _ (by omega)
   rw [Nat.zero_add, h.cell, Go.Sort.get_flatK encD 3 ys.toArray j (by simpa using hj)] at h1
   rw [h1]
   have := enc_get encD_len ys (j / 3) ys[j / 3] (List.getElem?_eq_getElem hi) (j % 3) h3
   rw [show j / 3 * 3 + j % 3 = j from by omega] at this
   rw [this, getElem!_pos ys.toArray (j / 3) (by simpa using hi)]
   rw [getElem!_pos (encD _) (j % 3) (by rw [encD_len]; exact h3)]
   simp
  ·rw [List.getElem?_take, if_neg hj, List.getElem?_eq_none (by rw [hfl]; omega)]
 rw [← this, List.take_append_drop]
end Go.Proofs.Ytbciopieciglmaa
namespace Go.Proofs.Ytbciopieciglmaa
open Go.RowKit Go.Buf Go.LB Go.Lib
set_option linter.unusedSimpArgs false
set_option linter.unusedVariables false
abbrev gcs (kk : Nat) (n : Int) (t r i s : Nat) (x : ByteArray) (vI vD : Value) : List Value := [.int .u8 (kk : Int), .int .i64 n, .int .u64 (t : Int), .int .u8 (r : Int), .int .u32 (i : Int), .int .u64 (s : Int), .string x, vI, vD]
theorem Own.slice {α : Type} {enc : α → List Value} {e : TypeId} {size B : Nat} {w : World} {v : Value} {l : List α} {row : Option Nat} (h : Own e size enc B w v l row) : ∃ a n c, v = .slice a n c := by
 rcases h.2 with ⟨_, _, a, rfl⟩ | ⟨g, cap, tl, _, rfl, _⟩
 ·exact ⟨a, 0, 0, rfl⟩
 ·exact ⟨_, _, _, rfl⟩
end Go.Proofs.Ytbciopieciglmaa
namespace Go.Proofs.Ytbciopieciglmaa
open Go.RowKit Go.Buf Go.LB Go.Lib
set_option linter.unusedSimpArgs false
set_option linter.unusedVariables false
theorem src1I (w : World) (b : Nat) (z : Lm.It) (h : Blk w b 51 (encI z)) : Src Try.prog 5 38 (.slice (some ⟨b, 0, none⟩) 1 1) [z].length ([z].flatMap encI) w := by
 have e : [z].flatMap encI = encI z := by simp
 rw [e]
 exact Src.ofSlice w Try.underlying38 ⟨b, 0, none⟩ 1 1 (encI z) rfl (fun j u hj => by rw [Addr.add_lit, Nat.zero_add, h.cell]; exact hj) (encI_one z)
theorem appsI (v : Value) (row : Option Nat) (l l2 : List Lm.It) (x : Value) (B : Nat) (w : World) (h : OwnI B w v l row) (hs : Src Try.prog 5 38 x l2.length (l2.flatMap encI) w) (hn : l.length + l2.length ≤ 100000000) (ty : TypeId) :
  ∃ v' w' row', (Builtin.append_ #[38, 38] ty #[v, x]).run Try.prog w = .ok v' w' ∧ OwnI B w' v' (l ++ l2) row' ∧ w.grownBy w' row ∧ New w row row' := by
 obtain ⟨i0, hi, hz0, hz1, hz2⟩ := info_parts info_item
 exact LB.run_append_owned (P := Try.prog) encI_len w B 38 38 ty i0 _ 40 Try.underlying38 hi hz0 hz1 hz2 rfl h x l2 hs (by simp [maxLen]; omega) (by omega)
theorem app1I (v : Value) (row : Option Nat) (l : List Lm.It) (z : Lm.It) (B : Nat) (w : World) (h : OwnI B w v l row) (hn : l.length ≤ 1000000) (ty : TypeId) :
  ∃ v' w' row', (Builtin.append_ #[38, 38] ty #[v, .slice (some ⟨w.heap.size, 0, none⟩) 1 1]).run Try.prog (w.alloc (.cells #[.int .u64 (z.1 : Int), .int .u8 (z.2.1.1.1 : Int), .int .u32 (z.2.1.1.2 : Int), .int .u64 (z.2.1.2 : Int), .string z.2.2] 51)) = .ok v' w' ∧ OwnI B w' v' (l ++ [z]) row' ∧ (w.alloc (.cells #[.int .u64 (z.1 : Int), .int .u8 (z.2.1.1.1 : Int), .int .u32 (z.2.1.1.2 : Int), .int .u64 (z.2.1.2 : Int), .string z.2.2] 51)).grownBy w' row ∧ New (w.alloc (.cells #[.int .u64 (z.1 : Int), .int .u8 (z.2.1.1.1 : Int), .int .u32 (z.2.1.1.2 : Int), .int .u64 (z.2.1.2 : Int), .string z.2.2] 51)) row row' :=
 appsI v row l [z] _ B _ (h.below ((Below.refl _ _).alloc (Nat.le_refl _) _)) (src1I _ _ z (Blk.new w _ _)) (by simp; omega) ty
theorem src1D (w : World) (b : Nat) (z : Dt.Dot) (h : Blk w b 31 (encD z)) : Src Try.prog 3 33 (.slice (some ⟨b, 0, none⟩) 1 1) [z].length ([z].flatMap encD) w := by
 have e : [z].flatMap encD = encD z := by simp
 rw [e]
 exact Src.ofSlice w Try.underlying33 ⟨b, 0, none⟩ 1 1 (encD z) rfl (fun j u hj => by rw [Addr.add_lit, Nat.zero_add, h.cell]; exact hj) (encD_one z)
theorem appsD (v : Value) (row : Option Nat) (l l2 : List Dt.Dot) (x : Value) (B : Nat) (w : World) (h : OwnD B w v l row) (hs : Src Try.prog 3 33 x l2.length (l2.flatMap encD) w) (hn : l.length + l2.length ≤ 100000000) (ty : TypeId) :
  ∃ v' w' row', (Builtin.append_ #[33, 33] ty #[v, x]).run Try.prog w = .ok v' w' ∧ OwnD B w' v' (l ++ l2) row' ∧ w.grownBy w' row ∧ New w row row' := by
 obtain ⟨i0, hi, hz0, hz1, hz2⟩ := info_parts info_dot
 exact LB.run_append_owned (P := Try.prog) encD_len w B 33 33 ty i0 _ 16 Try.underlying33 hi hz0 hz1 hz2 rfl h x l2 hs (by simp [maxLen]; omega) (by omega)
theorem app1D (v : Value) (row : Option Nat) (l : List Dt.Dot) (z : Dt.Dot) (B : Nat) (w : World) (h : OwnD B w v l row) (hn : l.length ≤ 1000000) (ty : TypeId) :
  ∃ v' w' row', (Builtin.append_ #[33, 33] ty #[v, .slice (some ⟨w.heap.size, 0, none⟩) 1 1]).run Try.prog (w.alloc (.cells #[.int .u8 (z.1.1 : Int), .int .u32 (z.1.2 : Int), .int .u64 (z.2 : Int)] 31)) = .ok v' w' ∧ OwnD B w' v' (l ++ [z]) row' ∧ (w.alloc (.cells #[.int .u8 (z.1.1 : Int), .int .u32 (z.1.2 : Int), .int .u64 (z.2 : Int)] 31)).grownBy w' row ∧ New (w.alloc (.cells #[.int .u8 (z.1.1 : Int), .int .u32 (z.1.2 : Int), .int .u64 (z.2 : Int)] 31)) row row' :=
 appsD v row l [z] _ B _ (h.below ((Below.refl _ _).alloc (Nat.le_refl _) _)) (src1D _ _ z (Blk.new w _ _)) (by simp; omega) ty
end Go.Proofs.Ytbciopieciglmaa
