import Derived.Test.YtplafpchgfjomaaZCode8
import Derived.Test.YtplafpchgfjomaaZBuf
import Derived.Test.YtplafpchgfjomaaZLeafMath
import Derived.Test.YtplafpchgfjomaaZDot4
import Derived.Test.YtplafpchgfjomaaZTreeMath
namespace Go.Proofs.Ytplafpchgfjomaa
open Go.RowKit Go.Buf Go.Maps
set_option linter.unusedSimpArgs false
set_option linter.unusedVariables false
theorem str_ne {d e : ByteArray} (h : d ≠ e) : (d.toList == e.toList) = false := by
 rw [ByteArray.toList_eq, ByteArray.toList_eq]
 simp only [beq_eq_false_iff_ne, ne_eq]
 intro g
 exact h (ByteArray.ext (Array.toList_inj.1 g))
theorem dot_neO {d e : Dt.Dot} (h : d ≠ e) : d.1.1 ≠ e.1.1 ∨ (d.1.1 = e.1.1 ∧ d.1.2 ≠ e.1.2) ∨ (d.1.1 = e.1.1 ∧ d.1.2 = e.1.2 ∧ d.2 ≠ e.2) := by
 rcases d with ⟨⟨a, b⟩, c⟩; rcases e with ⟨⟨x, y⟩, z⟩
 simp only [ne_eq, Prod.mk.injEq] at *
 omega
theorem take_eq_succO {la lb : List Dt.Dot} {k : Nat} {d : Dt.Dot} (h : la.take k = lb.take k) (ha : la[k]? = some d) (hb : lb[k]? = some d) : la.take (k + 1) = lb.take (k + 1) := by
 obtain ⟨h1, rfl⟩ := List.getElem?_eq_some_iff.1 ha
 obtain ⟨h2, e⟩ := List.getElem?_eq_some_iff.1 hb
 rw [List.take_succ_eq_append_getElem h1, List.take_succ_eq_append_getElem h2, h, e]
set_option maxRecDepth 100000 in
set_option maxHeartbeats 1600000 in
theorem equalD_any (a : Option Addr) (n cap : Nat) (la : List Dt.Dot) (c : Option Addr) (m capc : Nat) (lb : List Dt.Dot) (W : World) (hr : VRow W a cap la) (hl : la.length = n) (hs : VRow W c capc lb) (hm : lb.length = m) :
  Calls Try.prog 59 #[.slice a n cap, .slice c m capc] W fun e w' => e = .returned (.bool (decide (la = lb))) ∧ Below W.heap.size W w' := by
 have hle := hr.le
 have hcap := hr.cap
 rw [hl] at hle
 have HR := Lib.hid hr; have HL := Lib.hid hl; have HS := Lib.hid hs; have HM := Lib.hid hm
 clear hr hl hs hm
 by_cases hnm : n = m
 ·subst hnm
  go_enter Try.func59, Try.ntmps59
  go_wp2
  go_loopw [5, 13] (fun _ i wr => ∃ k : Nat, k ≤ n ∧ i = .int .i64 k ∧ la.take k = lb.take k ∧ Below W.heap.size W wr) (fun _ i _ => n - (intOf i).toNat)
  case atStart => exact ⟨0, Nat.zero_le _, rfl, rfl, Below.refl _ _⟩
  case round =>
   obtain ⟨k, hk, rfl, htk, hbel⟩ := hrel
   have HT := Lib.hid htk; have HBel := Lib.hid hbel; clear htk hbel
   by_cases hlt : k < n
   ·obtain ⟨d, hd⟩ := getD_some (l := la) (i := k) (by rw [HL.out]; exact hlt)
    obtain ⟨e, he⟩ := getD_some (l := lb) (i := k) (by rw [HM.out]; exact hlt)
    obtain ⟨b1, o1, rfl, hb1, hc1⟩ := HR.out.at (by rw [HL.out]; omega)
    obtain ⟨b2, o2, rfl, hb2, hc2⟩ := HS.out.at (by rw [HM.out]; omega)
    obtain ⟨g0, g1, g2⟩ := hc1 k d hd
    obtain ⟨g3, g4, g5⟩ := hc2 k e he
    have q0 := (HBel.out.cell (p := ⟨b1, o1 + k * 3, none⟩) hb1).trans g0
    have q1 := (HBel.out.cell (p := ⟨b1, o1 + k * 3 + 1, none⟩) hb1).trans g1
    have q2 := (HBel.out.cell (p := ⟨b1, o1 + k * 3 + 2, none⟩) hb1).trans g2
    have q3 := (HBel.out.cell (p := ⟨b2, o2 + k * 3, none⟩) hb2).trans g3
    have q4 := (HBel.out.cell (p := ⟨b2, o2 + k * 3 + 1, none⟩) hb2).trans g4
    have q5 := (HBel.out.cell (p := ⟨b2, o2 + k * 3 + 2, none⟩) hb2).trans g5
    have i0 : (0 : Int) ≤ (k : Int) := by omega
    have i1 : (k : Int) < (n : Int) := by omega
    have Hd := Lib.hid hd; have He := Lib.hid he
    clear hc1 hc2 g0 g1 g2 g3 g4 g5 hd he
    by_cases hde : d = e
    ·subst hde
     have Hs := Lib.hid (take_eq_succO HT.out Hd.out He.out)
     obtain ⟨⟨r, i⟩, s⟩ := d
     simp only at q0 q1 q2 q3 q4 q5
     go_wp2
     go_quiet (fail)
     go_wp2
     clear q0 q1 q2 q3 q4 q5
     go_roundw
     case rel => exact ⟨k + 1, by omega, by go_num, Hs.out, below_drewN HBel.out _⟩
     case measure => simp [intOf]; omega
    ·have hfin : decide (la = lb) = false := decide_eq_false fun g => hde (by have h1 := Hd.out; have h2 := He.out; rw [g, h2] at h1; exact (Option.some.inj h1).symm)
     have Hfin := Lib.hid hfin; clear hfin
     have hne := dot_neO hde
     obtain ⟨⟨r, i⟩, s⟩ := d
     obtain ⟨⟨r', i'⟩, s'⟩ := e
     simp only at q0 q1 q2 q3 q4 q5 hne
     clear hde
     rcases hne with h1 | ⟨rfl, h1⟩ | ⟨rfl, rfl, h1⟩
     ·have d1 : ((r : Int) == (r' : Int)) = false := by simp; omega
      clear h1
      go_wp2
      go_quiet (fail)
      go_wp2
      go_ret
      exact ⟨ret_bool Hfin.out.symm, below_drewN HBel.out _⟩
     ·have d1 : ((i : Int) == (i' : Int)) = false := by simp; omega
      clear h1
      go_wp2
      go_quiet (fail)
      go_wp2
      go_ret
      exact ⟨ret_bool Hfin.out.symm, below_drewN HBel.out _⟩
     ·have d1 : ((s : Int) == (s' : Int)) = false := by simp; omega
      clear h1
      go_wp2
      go_quiet (fail)
      go_wp2
      go_ret
      exact ⟨ret_bool Hfin.out.symm, below_drewN HBel.out _⟩
   ·have hfin : decide (la = lb) = true := decide_eq_true (by have := HT.out; rwa [List.take_of_length_le (by rw [HL.out]; omega), List.take_of_length_le (by rw [HM.out]; omega)] at this)
    have Hfin := Lib.hid hfin; clear hfin
    go_wp2
    go_ret
    exact ⟨ret_bool Hfin.out.symm, HBel.out⟩
 ·have hfin : decide (la = lb) = false := decide_eq_false fun g => hnm (by rw [← HL.out, ← HM.out, g])
  have Hfin := Lib.hid hfin; clear hfin
  have d1 : ((n : Int) == (m : Int)) = false := by simp; omega
  go_enter Try.func59, Try.ntmps59
  go_wp2
  go_ret
  exact ⟨ret_bool Hfin.out.symm, Below.refl _ _⟩
end Go.Proofs.Ytplafpchgfjomaa
namespace Go.Proofs.Ytplafpchgfjomaa
open Go.RowKit Go.Buf Go.LB
set_option linter.unusedSimpArgs false
set_option linter.unusedVariables false
def okI (x : Lm.It) : Prop := x.1 < 18446744073709551616 ∧ Dt.okD x.2.1 ∧ x.2.2.size ≤ 9223372036854775807
def encI (x : Lm.It) : List Value := [.int .u64 (x.1 : Int), .int .u8 (x.2.1.1.1 : Int), .int .u32 (x.2.1.1.2 : Int), .int .u64 (x.2.1.2 : Int), .string x.2.2]
abbrev itV (t r i s : Nat) (x : ByteArray) : Value := .agg #[.int .u64 (t : Int), .int .u8 (r : Int), .int .u32 (i : Int), .int .u64 (s : Int), .string x]
abbrev leafV (k : Nat) (n : Int) (t r i s : Nat) (x : ByteArray) (ia : Option Addr) (il ic : Nat) (da : Option Addr) (dl dc : Nat) : Value := .agg #[.int .u8 (k : Int), .int .i64 n, .int .u64 (t : Int), .int .u8 (r : Int), .int .u32 (i : Int), .int .u64 (s : Int), .string x, .slice ia il ic, .slice da dl dc]
def IRow (w : World) (a : Option Addr) (cap : Nat) (l : List Lm.It) : Prop :=
 l.length ≤ cap ∧ cap ≤ 9223372036854775807 ∧ (∀ x ∈ l, okI x) ∧ (a = none → cap = 0) ∧
 ∀ i x, l[i]? = some x → ∃ p, a = some p ∧ w.cell? (p.add (i * 5)) = some (.int .u64 (x.1 : Int)) ∧ w.cell? (p.add (i * 5 + 1)) = some (.int .u8 (x.2.1.1.1 : Int)) ∧ w.cell? (p.add (i * 5 + 2)) = some (.int .u32 (x.2.1.1.2 : Int)) ∧ w.cell? (p.add (i * 5 + 3)) = some (.int .u64 (x.2.1.2 : Int)) ∧ w.cell? (p.add (i * 5 + 4)) = some (.string x.2.2)
theorem IRow.le {w : World} {a : Option Addr} {cap : Nat} {l : List Lm.It} (h : IRow w a cap l) : l.length ≤ cap := h.1
theorem IRow.cap {w : World} {a : Option Addr} {cap : Nat} {l : List Lm.It} (h : IRow w a cap l) : cap ≤ 9223372036854775807 := h.2.1
theorem IRow.ok {w : World} {a : Option Addr} {cap : Nat} {l : List Lm.It} (h : IRow w a cap l) : ∀ x ∈ l, okI x := h.2.2.1
theorem IRow.below {w w' : World} {a : Option Addr} {cap : Nat} {l : List Lm.It} (h : IRow w a cap l) (hb : Below w.heap.size w w') : IRow w' a cap l := by
 refine ⟨h.1, h.2.1, h.2.2.1, h.2.2.2.1, fun i d hd => ?_⟩
 obtain ⟨p, hp, h1, h2, h3, h4, h5⟩ := h.2.2.2.2 i d hd
 exact ⟨p, hp, (hb.cell (World.block_lt_of_cell? _ _ h1)).trans h1, (hb.cell (World.block_lt_of_cell? _ _ h2)).trans h2, (hb.cell (World.block_lt_of_cell? _ _ h3)).trans h3, (hb.cell (World.block_lt_of_cell? _ _ h4)).trans h4, (hb.cell (World.block_lt_of_cell? _ _ h5)).trans h5⟩
theorem IRow.nil (w : World) : IRow w none 0 [] := ⟨by simp, by omega, by simp, by simp, by simp⟩
theorem IRow.at {w : World} {a : Option Addr} {cap : Nat} {l : List Lm.It} (h : IRow w a cap l) (hl : 0 < l.length) :
  ∃ b off, a = some ⟨b, off, none⟩ ∧ b < w.heap.size ∧ ∀ i x, l[i]? = some x → w.cell? ⟨b, off + i * 5, none⟩ = some (.int .u64 (x.1 : Int)) ∧ w.cell? ⟨b, off + i * 5 + 1, none⟩ = some (.int .u8 (x.2.1.1.1 : Int)) ∧ w.cell? ⟨b, off + i * 5 + 2, none⟩ = some (.int .u32 (x.2.1.1.2 : Int)) ∧ w.cell? ⟨b, off + i * 5 + 3, none⟩ = some (.int .u64 (x.2.1.2 : Int)) ∧ w.cell? ⟨b, off + i * 5 + 4, none⟩ = some (.string x.2.2) := by
 obtain ⟨p, hp, hc, _⟩ := h.2.2.2.2 0 l[0] (by simp [hl])
 have hs := World.cell?_spot hc
 obtain ⟨b, off, spot⟩ := p
 have hspot : spot = none := by simpa [Addr.add] using hs
 subst hspot
 refine ⟨b, off, hp, by simpa [Addr.add] using World.block_lt_of_cell? w _ hc, fun i d hd => ?_⟩
 obtain ⟨q, hq, h1, h2, h3, h4, h5⟩ := h.2.2.2.2 i d hd
 rw [hp] at hq
 obtain rfl := Option.some.inj hq
 rw [Addr.add_mid] at h1 h2 h3 h4 h5
 exact ⟨h1, h2, h3, h4, h5⟩
theorem geti_some {l : List Lm.It} {i : Nat} (hi : i < l.length) : ∃ x, l[i]? = some x := ⟨l[i], List.getElem?_eq_getElem hi⟩
theorem ahead_lt {t u : Nat} {d o : Dt.Dot} (h : t < u) : Lm.ahead t d u o = true := by simp [Lm.ahead, h]
theorem ahead_eq {t : Nat} {d o : Dt.Dot} : Lm.ahead t d t o = Dt.less d o := by simp [Lm.ahead]
theorem ahead_gt {t u : Nat} {d o : Dt.Dot} (h : u < t) : Lm.ahead t d u o = false := by
 have h1 : ¬ t < u := by omega
 have h2 : ¬ t = u := by omega
 simp [Lm.ahead, h1, h2]
theorem less_cmp (x y : Dt.Dot) : decide (Dt.cmp x y < 0) = Dt.less x y := by
 unfold Dt.cmp Dt.less
 by_cases h1 : Dt.lt x y
 ·simp [h1]
 ·by_cases h2 : Dt.lt y x <;> simp [h1, h2]
theorem below_box2 (W : World) (c d : Array Value) (t u : TypeId) : Below W.heap.size W ((W.alloc (.cells c t)).alloc (.cells d u)) := ((Below.refl _ _).alloc (Nat.le_refl _) _).alloc (by simp) _
set_option maxHeartbeats 1000000 in
theorem ahead_any (t r i s u r' i' s' : Nat) (W : World) :
  Calls Try.prog 69 #[.int .u64 (t : Int), dotV ((r, i), s), .int .u64 (u : Int), dotV ((r', i'), s')] W fun e w' => e = .returned (.bool (Lm.ahead t ((r, i), s) u ((r', i'), s'))) ∧ Below W.heap.size W w' := by
 have HBox := Lib.hid (below_box2 W #[.int .u8 (r : Int), .int .u32 (i : Int), .int .u64 (s : Int)] #[.int .u8 (r' : Int), .int .u32 (i' : Int), .int .u64 (s' : Int)] 40 40)
 by_cases h1 : t < u
 ·go_enter Try.func69, Try.ntmps69
  go_wp2_with fail
  go_ret
  exact ⟨ret_bool (ahead_lt h1).symm, HBox.out⟩
 ·by_cases h2 : t = u
  ·subst h2
   have HL := Lib.hid (less_cmp ((r, i), s) ((r', i'), s'))
   go_enter Try.func69, Try.ntmps69
   go_wp2_with fail
   refine (compare_any r i s r' i' s' _).mono ?_
   rintro e w1 ⟨rfl, hb⟩
   have HB := Lib.hid hb.below; clear hb
   obtain ⟨C, HC⟩ : ∃ C, C = Dt.cmp ((r, i), s) ((r', i'), s') := ⟨_, rfl⟩
   rw [← HC]
   have HC2 := Lib.hid HC; clear HC
   go_wp2_with fail
   go_ret
   exact ⟨ret_bool (by rw [ahead_eq, ← HL.out, HC2.out]), HBox.out.trans (HB.out.mono HBox.out.size)⟩
  ·have d1 : ((t : Int) == (u : Int)) = false := by simp; omega
   go_enter Try.func69, Try.ntmps69
   go_wp2_with fail
   go_ret
   exact ⟨ret_bool (ahead_gt (by omega)).symm, HBox.out⟩
def newK (k : Nat) : Nat := if 1 ≤ k ∧ k ≤ 4 then k else 0
theorem newK_not {k : Nat} (h : ¬ (1 ≤ k ∧ k ≤ 4)) : newK k = 0 := if_neg h
theorem newK_yes {k : Nat} (h : 1 ≤ k ∧ k ≤ 4) : newK k = k := if_pos h
abbrev bareV (k : Nat) : Value := leafV k 0 0 0 0 0 ⟨#[]⟩ none 0 0 none 0 0
theorem res_leaf {fn : Func} {k : Tmp} {tmps : Array Value} {w : World} {b : Nat} {c0 c1 c2 c3 c4 c5 c6 c7 c8 : Value} (hr : fn.results = #[.cell k 44]) (ht : tmps.getD k undef = .pointer (some ⟨b, 0, none⟩)) (h : Blk w b 44 [c0, c1, c2, c3, c4, c5, c6, c7, c8]) :
  (results fn tmps).run Try.prog w = .ok (.agg #[c0, c1, c2, c3, c4, c5, c6, c7, c8]) w := by
 have h0 := h.cell 0; have h1 := h.cell 1; have h2 := h.cell 2; have h3 := h.cell 3; have h4 := h.cell 4; have h5 := h.cell 5; have h6 := h.cell 6; have h7 := h.cell 7; have h8 := h.cell 8
 simp at h0 h1 h2 h3 h4 h5 h6 h7 h8
 have ht2 : tmps[k]?.getD undef = .pointer (some ⟨b, 0, none⟩) := by simpa using ht
 simp [results, hr, go_sem, ht2, h0, h1, h2, h3, h4, h5, h6, h7, h8]
set_option maxHeartbeats 1000000 in
theorem new_any (k : Nat) (W : World) : Calls Try.prog 60 #[.int .u8 (k : Int)] W fun e w' => e = .returned (bareV (newK k)) ∧ Below W.heap.size W w' := by
 by_cases h1 : 1 ≤ k
 case neg =>
  have HE := Lib.hid (newK_not (k := k) (fun h => h1 h.1))
  go_enter Try.func60, Try.ntmps60
  go_wp2_with fail
  refine bodyPost_ret (v := bareV 0) (res_leaf Try.results60 (by simp) (Blk.new _ _ _)) rfl ⟨by rw [HE.out], (Below.refl _ _).alloc (Nat.le_refl _) _⟩
 by_cases h2 : k ≤ 4
 case neg =>
  have HE := Lib.hid (newK_not (k := k) (fun h => h2 h.2))
  go_enter Try.func60, Try.ntmps60
  go_wp2_with fail
  refine bodyPost_ret (v := bareV 0) (res_leaf Try.results60 (by simp) (Blk.new _ _ _)) rfl ⟨by rw [HE.out], (Below.refl _ _).alloc (Nat.le_refl _) _⟩
 have HE := Lib.hid (newK_yes (k := k) ⟨h1, h2⟩)
 go_enter Try.func60, Try.ntmps60
 go_wp2_with fail
 refine bodyPost_ret (v := bareV k) (res_leaf Try.results60 (by simp) (Blk.new _ _ _)) rfl ⟨by rw [HE.out], (Below.refl _ _).alloc (Nat.le_refl _) _⟩
theorem itcells {W w1 : World} {c0 c1 c2 c3 c4 : Value} (hb : Below (W.alloc (.cells #[c0, c1, c2, c3, c4] 57)).heap.size (W.alloc (.cells #[c0, c1, c2, c3, c4] 57)) w1) :
  w1.cell? ⟨W.heap.size, 0, none⟩ = some c0 ∧ w1.cell? ⟨W.heap.size, 1, none⟩ = some c1 ∧ w1.cell? ⟨W.heap.size, 2, none⟩ = some c2 ∧ w1.cell? ⟨W.heap.size, 3, none⟩ = some c3 ∧ w1.cell? ⟨W.heap.size, 4, none⟩ = some c4 :=
 ⟨(hb.cell (p := ⟨W.heap.size, 0, none⟩) (by simp)).trans (by simp), (hb.cell (p := ⟨W.heap.size, 1, none⟩) (by simp)).trans (by simp), (hb.cell (p := ⟨W.heap.size, 2, none⟩) (by simp)).trans (by simp), (hb.cell (p := ⟨W.heap.size, 3, none⟩) (by simp)).trans (by simp), (hb.cell (p := ⟨W.heap.size, 4, none⟩) (by simp)).trans (by simp)⟩
theorem leafcells {W w1 : World} {c0 c1 c2 c3 c4 c5 c6 c7 c8 : Value} (hb : Below (W.alloc (.cells #[c0, c1, c2, c3, c4, c5, c6, c7, c8] 44)).heap.size (W.alloc (.cells #[c0, c1, c2, c3, c4, c5, c6, c7, c8] 44)) w1) :
  w1.cell? ⟨W.heap.size, 0, none⟩ = some c0 ∧ w1.cell? ⟨W.heap.size, 1, none⟩ = some c1 ∧ w1.cell? ⟨W.heap.size, 2, none⟩ = some c2 ∧ w1.cell? ⟨W.heap.size, 3, none⟩ = some c3 ∧ w1.cell? ⟨W.heap.size, 4, none⟩ = some c4 ∧ w1.cell? ⟨W.heap.size, 5, none⟩ = some c5 ∧ w1.cell? ⟨W.heap.size, 6, none⟩ = some c6 ∧ w1.cell? ⟨W.heap.size, 7, none⟩ = some c7 ∧ w1.cell? ⟨W.heap.size, 8, none⟩ = some c8 :=
 ⟨(hb.cell (p := ⟨W.heap.size, 0, none⟩) (by simp)).trans (by simp), (hb.cell (p := ⟨W.heap.size, 1, none⟩) (by simp)).trans (by simp), (hb.cell (p := ⟨W.heap.size, 2, none⟩) (by simp)).trans (by simp), (hb.cell (p := ⟨W.heap.size, 3, none⟩) (by simp)).trans (by simp), (hb.cell (p := ⟨W.heap.size, 4, none⟩) (by simp)).trans (by simp), (hb.cell (p := ⟨W.heap.size, 5, none⟩) (by simp)).trans (by simp), (hb.cell (p := ⟨W.heap.size, 6, none⟩) (by simp)).trans (by simp), (hb.cell (p := ⟨W.heap.size, 7, none⟩) (by simp)).trans (by simp), (hb.cell (p := ⟨W.heap.size, 8, none⟩) (by simp)).trans (by simp)⟩
set_option maxHeartbeats 1000000 in
theorem mayItem_any (t r i s : Nat) (x : ByteArray) (lo hi : Nat) (hx : x.size ≤ 9223372036854775807) (W : World) :
  Calls Try.prog 61 #[itV t r i s x, .int .u64 (lo : Int), .int .u64 (hi : Int)] W fun e w' => e = .returned (.bool (Lm.mayI lo hi (t, ((r, i), s), x))) ∧ Below W.heap.size W w' := by
 have HBox := Lib.hid (below_box W #[.int .u64 (t : Int), .int .u8 (r : Int), .int .u32 (i : Int), .int .u64 (s : Int), .string x] 57)
 by_cases h1 : lo ≤ t
 case neg =>
  go_enter Try.func61, Try.ntmps61
  go_wp2_with fail
  go_ret
  exact ⟨ret_bool (by simp [Lm.mayI, h1]), HBox.out⟩
 by_cases h2 : t ≤ hi
 case neg =>
  go_enter Try.func61, Try.ntmps61
  go_wp2_with fail
  go_ret
  exact ⟨ret_bool (by simp [Lm.mayI, h2]), HBox.out⟩
 have HX := Lib.hid hx
 clear hx
 cases hm : Dt.may ((r, i), s)
 ·have HM := Lib.hid hm; clear hm
  go_enter Try.func61, Try.ntmps61
  go_wp2_with fail
  refine (may_any r i s _).mono ?_
  rintro e w1 ⟨rfl, hb⟩
  have HB := Lib.hid hb; clear hb
  rw [HM.out]
  go_wp2_with fail
  go_ret
  exact ⟨ret_bool (by simp [Lm.mayI, HM.out]), HBox.out.trans (HB.out.mono HBox.out.size)⟩
 ·have HM := Lib.hid hm; clear hm
  go_enter Try.func61, Try.ntmps61
  go_wp2_with fail
  refine (may_any r i s _).mono ?_
  rintro e w1 ⟨rfl, hb⟩
  obtain ⟨hc0, hc1, hc2, hc3, hc4⟩ := itcells hb
  have HB := Lib.hid hb; clear hb
  rw [HM.out]
  obtain ⟨N, hN⟩ : ∃ N, N = x.size := ⟨_, rfl⟩
  have hxN := HX.out
  rw [← hN] at hxN
  go_wp2_with fail
  go_ret
  refine ⟨ret_bool ?_, HBox.out.trans (HB.out.mono HBox.out.size)⟩
  simp [Lm.mayI, HM.out, h1, h2]
  omega
end Go.Proofs.Ytplafpchgfjomaa
namespace Go.Proofs.Ytplafpchgfjomaa
open Go.RowKit Go.Buf Go.LB
set_option linter.unusedSimpArgs false
set_option linter.unusedVariables false
def strLt (a b : ByteArray) : Bool := Op.bytesLess a.toList b.toList
def okL (x : Lm.L) : Prop := x.kind < 256 ∧ (-9223372036854775808 ≤ x.n ∧ x.n ≤ 9223372036854775807) ∧ x.time < 18446744073709551616 ∧ Dt.okD x.dot ∧ x.text.size ≤ 100000000 ∧ x.items.length ≤ 1000000 ∧ x.tombs.length ≤ 1000000
def LRow (w : World) (a : Option Addr) (cap : Nat) (l : List Lm.L) : Prop :=
 l.length ≤ cap ∧ cap ≤ 9223372036854775807 ∧ (a = none → cap = 0) ∧
 ∀ i x, l[i]? = some x → okL x ∧ ∃ p ia ic da dc, a = some p ∧ (w.cell? (p.add (i * 9)) = some (.int .u8 (x.kind : Int)) ∧ w.cell? (p.add (i * 9 + 1)) = some (.int .i64 x.n) ∧ w.cell? (p.add (i * 9 + 2)) = some (.int .u64 (x.time : Int)) ∧ w.cell? (p.add (i * 9 + 3)) = some (.int .u8 (x.dot.1.1 : Int)) ∧ w.cell? (p.add (i * 9 + 4)) = some (.int .u32 (x.dot.1.2 : Int)) ∧ w.cell? (p.add (i * 9 + 5)) = some (.int .u64 (x.dot.2 : Int)) ∧ w.cell? (p.add (i * 9 + 6)) = some (.string x.text) ∧ w.cell? (p.add (i * 9 + 7)) = some (.slice ia x.items.length ic) ∧ w.cell? (p.add (i * 9 + 8)) = some (.slice da x.tombs.length dc)) ∧ IRow w ia ic x.items ∧ VRow w da dc x.tombs
theorem LRow.le {w : World} {a : Option Addr} {cap : Nat} {l : List Lm.L} (h : LRow w a cap l) : l.length ≤ cap := h.1
theorem LRow.cap {w : World} {a : Option Addr} {cap : Nat} {l : List Lm.L} (h : LRow w a cap l) : cap ≤ 9223372036854775807 := h.2.1
theorem LRow.nil (w : World) : LRow w none 0 [] := ⟨by simp, by omega, by simp, by simp⟩
theorem undrewX {B : Nat} {w w' : World} (h : Below B w.drew w') : Below B w w' := ⟨h.os, h.tape, h.output, h.size, h.block⟩
theorem bcell_of {w w' : World} {a : Addr} {v : Value} (hb : Below w.heap.size w w') (h : w.cell? a = some v) : w'.cell? a = some v := (hb.cell (World.block_lt_of_cell? _ _ h)).trans h
theorem LRow.below {w w' : World} {a : Option Addr} {cap : Nat} {l : List Lm.L} (h : LRow w a cap l) (hb : Below w.heap.size w w') : LRow w' a cap l := by
 refine ⟨h.1, h.2.1, h.2.2.1, fun i x hx => ?_⟩
 obtain ⟨ho, p, ia, ic, da, dc, hp, ⟨c0, c1, c2, c3, c4, c5, c6, c7, c8⟩, hi, hd⟩ := h.2.2.2 i x hx
 exact ⟨ho, p, ia, ic, da, dc, hp, ⟨bcell_of hb c0, bcell_of hb c1, bcell_of hb c2, bcell_of hb c3, bcell_of hb c4, bcell_of hb c5, bcell_of hb c6, bcell_of hb c7, bcell_of hb c8⟩, hi.below hb, hd.below hb⟩
theorem LRow.at {w : World} {a : Option Addr} {cap : Nat} {l : List Lm.L} (h : LRow w a cap l) (hl : 0 < l.length) :
  ∃ b off, a = some ⟨b, off, none⟩ ∧ b < w.heap.size ∧ ∀ i x, l[i]? = some x → okL x ∧ ∃ ia ic da dc, (w.cell? ⟨b, off + i * 9, none⟩ = some (.int .u8 (x.kind : Int)) ∧ w.cell? ⟨b, off + i * 9 + 1, none⟩ = some (.int .i64 x.n) ∧ w.cell? ⟨b, off + i * 9 + 2, none⟩ = some (.int .u64 (x.time : Int)) ∧ w.cell? ⟨b, off + i * 9 + 3, none⟩ = some (.int .u8 (x.dot.1.1 : Int)) ∧ w.cell? ⟨b, off + i * 9 + 4, none⟩ = some (.int .u32 (x.dot.1.2 : Int)) ∧ w.cell? ⟨b, off + i * 9 + 5, none⟩ = some (.int .u64 (x.dot.2 : Int)) ∧ w.cell? ⟨b, off + i * 9 + 6, none⟩ = some (.string x.text) ∧ w.cell? ⟨b, off + i * 9 + 7, none⟩ = some (.slice ia x.items.length ic) ∧ w.cell? ⟨b, off + i * 9 + 8, none⟩ = some (.slice da x.tombs.length dc)) ∧ IRow w ia ic x.items ∧ VRow w da dc x.tombs := by
 obtain ⟨_, p, ia, ic, da, dc, hp, ⟨c0, _⟩, _⟩ := h.2.2.2 0 l[0] (by simp [hl])
 have hs := World.cell?_spot c0
 obtain ⟨b, off, spot⟩ := p
 have hspot : spot = none := by simpa [Addr.add] using hs
 subst hspot
 refine ⟨b, off, hp, by simpa [Addr.add] using World.block_lt_of_cell? w _ c0, fun i d hd => ?_⟩
 obtain ⟨ho, q, ia, ic, da, dc, hq, ⟨c0, c1, c2, c3, c4, c5, c6, c7, c8⟩, hi, hv⟩ := h.2.2.2 i d hd
 rw [hp] at hq
 obtain rfl := Option.some.inj hq
 refine ⟨ho, ia, ic, da, dc, ⟨?_, ?_, ?_, ?_, ?_, ?_, ?_, ?_, ?_⟩, hi, hv⟩
 ·rw [Addr.add_lit] at c0; exact c0
 ·rw [Addr.add_mid] at c1; rw [Nat.add_assoc]; exact c1
 ·rw [Addr.add_mid] at c2; rw [Nat.add_assoc]; exact c2
 ·rw [Addr.add_mid] at c3; rw [Nat.add_assoc]; exact c3
 ·rw [Addr.add_mid] at c4; rw [Nat.add_assoc]; exact c4
 ·rw [Addr.add_mid] at c5; rw [Nat.add_assoc]; exact c5
 ·rw [Addr.add_mid] at c6; rw [Nat.add_assoc]; exact c6
 ·rw [Addr.add_mid] at c7; rw [Nat.add_assoc]; exact c7
 ·rw [Addr.add_mid] at c8; rw [Nat.add_assoc]; exact c8
def TRow (w : World) : Nat → Option Addr → Nat → List Tm.N → Prop
 | 0, a, cap, l => l = [] ∧ cap ≤ 9223372036854775807 ∧ (a = none → cap = 0)
 | n + 1, a, cap, l => l.length ≤ cap ∧ cap ≤ 9223372036854775807 ∧ (a = none → cap = 0) ∧
  ∀ i x, l[i]? = some x → (x.name.size ≤ 100000000 ∧ x.leaves.length ≤ 100000000 ∧ x.under.length ≤ 100000000) ∧ ∃ p la lc ba bc, a = some p ∧ (w.cell? (p.add (i * 3)) = some (.string x.name) ∧ w.cell? (p.add (i * 3 + 1)) = some (.slice la x.leaves.length lc) ∧ w.cell? (p.add (i * 3 + 2)) = some (.slice ba x.under.length bc)) ∧ LRow w la lc x.leaves ∧ TRow w n ba bc x.under
theorem TRow.le {w : World} {n : Nat} {a : Option Addr} {cap : Nat} {l : List Tm.N} (h : TRow w n a cap l) : l.length ≤ cap := by
 cases n with
 | zero => rw [h.1]; simp
 | succ n => exact h.1
theorem TRow.cap {w : World} {n : Nat} {a : Option Addr} {cap : Nat} {l : List Tm.N} (h : TRow w n a cap l) : cap ≤ 9223372036854775807 := by
 cases n with
 | zero => exact h.2.1
 | succ n => exact h.2.1
theorem TRow.below {w w' : World} (hb : Below w.heap.size w w') : ∀ {n : Nat} {a : Option Addr} {cap : Nat} {l : List Tm.N}, TRow w n a cap l → TRow w' n a cap l
 | 0, _, _, _, h => h
 | n + 1, a, cap, l, h => by
  refine ⟨h.1, h.2.1, h.2.2.1, fun i x hx => ?_⟩
  obtain ⟨ho, p, la, lc, ba, bc, hp, ⟨c0, c1, c2⟩, hl, ht⟩ := h.2.2.2 i x hx
  exact ⟨ho, p, la, lc, ba, bc, hp, ⟨bcell_of hb c0, bcell_of hb c1, bcell_of hb c2⟩, hl.below hb, TRow.below hb ht⟩
theorem TRow.nil (w : World) (n : Nat) : TRow w n none 0 [] := by
 cases n with
 | zero => exact ⟨rfl, by omega, fun _ => rfl⟩
 | succ n => exact ⟨by simp, by omega, fun _ => rfl, by simp⟩
theorem TRow.at {w : World} {n : Nat} {a : Option Addr} {cap : Nat} {l : List Tm.N} (h : TRow w n a cap l) (hl : 0 < l.length) :
  ∃ m b off, n = m + 1 ∧ a = some ⟨b, off, none⟩ ∧ b < w.heap.size ∧ ∀ i x, l[i]? = some x → (x.name.size ≤ 100000000 ∧ x.leaves.length ≤ 100000000 ∧ x.under.length ≤ 100000000) ∧ ∃ la lc ba bc, (w.cell? ⟨b, off + i * 3, none⟩ = some (.string x.name) ∧ w.cell? ⟨b, off + i * 3 + 1, none⟩ = some (.slice la x.leaves.length lc) ∧ w.cell? ⟨b, off + i * 3 + 2, none⟩ = some (.slice ba x.under.length bc)) ∧ LRow w la lc x.leaves ∧ TRow w m ba bc x.under := by
 cases n with
 | zero => rw [h.1] at hl; simp at hl
 | succ n =>
  obtain ⟨_, p, la, lc, ba, bc, hp, ⟨c0, _⟩, _⟩ := h.2.2.2 0 l[0] (by simp [hl])
  have hs := World.cell?_spot c0
  obtain ⟨b, off, spot⟩ := p
  have hspot : spot = none := by simpa [Addr.add] using hs
  subst hspot
  refine ⟨n, b, off, rfl, hp, by simpa [Addr.add] using World.block_lt_of_cell? w _ c0, fun i d hd => ?_⟩
  obtain ⟨ho, q, la, lc, ba, bc, hq, ⟨c0, c1, c2⟩, hi, hv⟩ := h.2.2.2 i d hd
  rw [hp] at hq
  obtain rfl := Option.some.inj hq
  refine ⟨ho, la, lc, ba, bc, ⟨?_, ?_, ?_⟩, hi, hv⟩
  ·rw [Addr.add_lit] at c0; exact c0
  ·rw [Addr.add_mid] at c1; rw [Nat.add_assoc]; exact c1
  ·rw [Addr.add_mid] at c2; rw [Nat.add_assoc]; exact c2
theorem someL {l : List Lm.L} {i : Nat} (hi : i < l.length) : ∃ d, l[i]? = some d := ⟨l[i], List.getElem?_eq_getElem hi⟩
theorem someN {l : List Tm.N} {i : Nat} (hi : i < l.length) : ∃ d, l[i]? = some d := ⟨l[i], List.getElem?_eq_getElem hi⟩
end Go.Proofs.Ytplafpchgfjomaa
namespace Go.Proofs.Ytplafpchgfjomaa
open Go.RowKit Go.Buf Go.LB
set_option linter.unusedSimpArgs false
set_option linter.unusedVariables false
def encS (s : ByteArray) : List Value := [.string s]
def encT (d : Dt.Dot) : List Value := [.int .u8 (d.1.1 : Int), .int .u32 (d.1.2 : Int), .int .u64 (d.2 : Int)]
theorem infoDot : (Try.prog.info? 40).map (fun i => (i.zero, i.size, i.bytes)) = some (some (.agg #[.int .u8 0, .int .u32 0, .int .u64 0]), 3, 16) := by kernel_rfl
theorem grownOwn {W w1 w2 : World} {row row2 : Option Nat} (h : W.grownBy w1 row) (h2 : w1.grownBy w2 row2) (hr : ∀ k, row2 = some k → W.heap.size ≤ k) : W.grownBy w2 row :=
 ⟨h2.os.trans h.os, h2.tape.trans h.tape, h2.output.trans h.output, Nat.le_trans h.size h2.size, fun k hk hne => (h2.block k (Nat.lt_of_lt_of_le hk h.size) (fun e => by have := hr k e.symm; omega)).trans (h.block k hk hne)⟩
theorem drop_one {α : Type} {l : List α} {k : Nat} {s : α} (h : l[k]? = some s) : l.drop k = s :: l.drop (k + 1) := by
 obtain ⟨hk, rfl⟩ := List.getElem?_eq_some_iff.1 h
 exact List.drop_eq_getElem_cons hk
theorem take_one {α : Type} {l : List α} {k : Nat} {s : α} (h : l[k]? = some s) : l.take (k + 1) = l.take k ++ [s] := by
 obtain ⟨hk, rfl⟩ := List.getElem?_eq_some_iff.1 h
 exact List.take_succ_eq_append_getElem hk
end Go.Proofs.Ytplafpchgfjomaa
namespace Go.Proofs.Ytplafpchgfjomaa
open Go.RowKit Go.Buf Go.LB
set_option linter.unusedSimpArgs false
set_option linter.unusedVariables false
theorem grown_set5 (w : World) (g : Nat) (x0 x1 x2 x3 x4 : Value) : w.grownBy (((((w.setCell ⟨g, 0, none⟩ x0).setCell ⟨g, 1, none⟩ x1).setCell ⟨g, 2, none⟩ x2).setCell ⟨g, 3, none⟩ x3).setCell ⟨g, 4, none⟩ x4) (some g) :=
 grownR (grownR (grownR (grownR (grown_setCell w g 0 x0) (grown_setCell _ g 1 x1)) (grown_setCell _ g 2 x2)) (grown_setCell _ g 3 x3)) (grown_setCell _ g 4 x4)
end Go.Proofs.Ytplafpchgfjomaa
