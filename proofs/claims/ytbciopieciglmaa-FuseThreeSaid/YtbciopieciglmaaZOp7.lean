import Derived.Test.YtbciopieciglmaaZOp6
import Derived.Test.YtbciopieciglmaaZBuf
import Derived.Test.YtbciopieciglmaaZLeafMath
namespace Go.Proofs.Ytbciopieciglmaa
open Go.RowKit Go.Buf
set_option linter.unusedSimpArgs false
set_option linter.unusedVariables false
theorem refopmay_any (k : Nat) (pa : Option Addr) (pl pc : Nat) (n : Int) (t : ByteArray) (da : Option Addr) (dl dc : Nat) (p : List ByteArray) (d : List Dt.Dot) (W : World) (hp : SRow W pa pc p) (hpl : p.length = pl) (hr : VRow W da dc d) (hdl : d.length = dl) :
  Calls Try.prog 32 #[opV k pa pl pc n t da dl dc] W fun e w' => e = .returned (.bool (Om.may ⟨k, p, n, t, d⟩)) ∧ Below W.heap.size W w' := by
 by_cases hT : Om.type k = 0
 ·exact refmay_type k pa pl pc n t da dl dc p d W hp hpl hr hdl hT
 cases hm : Om.mayPath p
 ·exact refmay_path k pa pl pc n t da dl dc p d W hp hpl hr hdl _ hT rfl hm
 by_cases ht : t.size ≤ 40
 case neg => exact refmay_text k pa pl pc n t da dl dc p d W hp hpl hr hdl _ hT rfl hm (by omega)
 by_cases hd : dl ≤ 64
 case neg => exact refmay_dots k pa pl pc n t da dl dc p d W hp hpl hr hdl _ hT rfl hm ht (by omega)
 by_cases hk : k = 1
 ·exact refmay_add k pa pl pc n t da dl dc p d W hp hpl hr hdl _ hT rfl hm ht hd hk
 by_cases hn : n = 0
 case neg => exact refmay_n k pa pl pc n t da dl dc p d W hp hpl hr hdl _ hT rfl hm ht hd hk hn
 by_cases hk4 : k = 4
 ·subst hn; subst hk4; exact refmay_drop 4 pa pl pc 0 t da dl dc p d W hp hpl hr hdl _ hT rfl hm ht hd rfl rfl
 by_cases hz : dl = 0
 ·exact refmay_none k pa pl pc n t da dl dc p d W hp hpl hr hdl _ hT rfl hm ht hd hk hk4 hn hz
 ·exact refmay_some k pa pl pc n t da dl dc p d W hp hpl hr hdl _ hT rfl hm ht hd hk hk4 hn (by omega)
abbrev evV (r i s tm : Nat) (k : Nat) (pa : Option Addr) (pl pc : Nat) (n : Int) (t : ByteArray) (da : Option Addr) (dl dc : Nat) : Value := .agg #[.int .u8 (r : Int), .int .u32 (i : Int), .int .u64 (s : Int), .int .u64 (tm : Int), .int .u8 (k : Int), .slice pa pl pc, .int .i64 n, .string t, .slice da dl dc]
theorem evcells {W w1 : World} {c0 c1 c2 c3 c4 c5 c6 c7 c8 : Value} (hb : Below (W.alloc (.cells #[c0, c1, c2, c3, c4, c5, c6, c7, c8] 37)).heap.size (W.alloc (.cells #[c0, c1, c2, c3, c4, c5, c6, c7, c8] 37)) w1) :
  w1.cell? ⟨W.heap.size, 0, none⟩ = some c0 ∧ w1.cell? ⟨W.heap.size, 1, none⟩ = some c1 ∧ w1.cell? ⟨W.heap.size, 2, none⟩ = some c2 ∧ w1.cell? ⟨W.heap.size, 3, none⟩ = some c3 ∧ w1.cell? ⟨W.heap.size, 4, none⟩ = some c4 ∧ w1.cell? ⟨W.heap.size, 5, none⟩ = some c5 ∧ w1.cell? ⟨W.heap.size, 6, none⟩ = some c6 ∧ w1.cell? ⟨W.heap.size, 7, none⟩ = some c7 ∧ w1.cell? ⟨W.heap.size, 8, none⟩ = some c8 :=
 ⟨(hb.cell (p := ⟨W.heap.size, 0, none⟩) (by simp)).trans (by simp), (hb.cell (p := ⟨W.heap.size, 1, none⟩) (by simp)).trans (by simp), (hb.cell (p := ⟨W.heap.size, 2, none⟩) (by simp)).trans (by simp), (hb.cell (p := ⟨W.heap.size, 3, none⟩) (by simp)).trans (by simp), (hb.cell (p := ⟨W.heap.size, 4, none⟩) (by simp)).trans (by simp), (hb.cell (p := ⟨W.heap.size, 5, none⟩) (by simp)).trans (by simp), (hb.cell (p := ⟨W.heap.size, 6, none⟩) (by simp)).trans (by simp), (hb.cell (p := ⟨W.heap.size, 7, none⟩) (by simp)).trans (by simp), (hb.cell (p := ⟨W.heap.size, 8, none⟩) (by simp)).trans (by simp)⟩
set_option maxRecDepth 100000 in
set_option maxHeartbeats 1600000 in
theorem refmayEvent_any (r i s tm k : Nat) (hk : k < 256) (pa : Option Addr) (pl pc : Nat) (n : Int) (t : ByteArray) (da : Option Addr) (dl dc : Nat) (p : List ByteArray) (d : List Dt.Dot) (W : World) (hp : SRow W pa pc p) (hpl : p.length = pl) (hr : VRow W da dc d) (hdl : d.length = dl) :
  Calls Try.prog 14 #[evV r i s tm k pa pl pc n t da dl dc] W fun e w' => e = .returned (.bool (Om.mayEvent ⟨((r, i), s), tm, ⟨k, p, n, t, d⟩⟩)) ∧ Below W.heap.size W w' := by
 have HP := Lib.hid hp; have HPl := Lib.hid hpl; have HR := Lib.hid hr; have HDl := Lib.hid hdl
 have HBox := Lib.hid (below_box W #[.int .u8 (r : Int), .int .u32 (i : Int), .int .u64 (s : Int), .int .u64 (tm : Int), .int .u8 (k : Int), .slice pa pl pc, .int .i64 n, .string t, .slice da dl dc] 37)
 clear hp hpl hr hdl
 cases hm : Dt.may ((r, i), s)
 ·have HM := Lib.hid hm; clear hm
  go_enter Try.func14, Try.ntmps14
  go_wp2_with fail
  refine (refmay_any r i s _).mono ?_
  rintro e w1 ⟨rfl, hb⟩
  have HB := Lib.hid hb; clear hb
  rw [HM.out]
  go_wp2_with fail
  go_ret
  exact ⟨ret_bool (by simp [Om.mayEvent, HM.out]), HBox.out.trans (HB.out.mono HBox.out.size)⟩
 have HM := Lib.hid hm; clear hm
 by_cases h1 : 1 ≤ tm
 case neg =>
  go_enter Try.func14, Try.ntmps14
  go_wp2_with fail
  refine (refmay_any r i s _).mono ?_
  rintro e w1 ⟨rfl, hb⟩
  obtain ⟨hc0, hc1, hc2, hc3, hc4, hc5, hc6, hc7, hc8⟩ := evcells hb
  have HB := Lib.hid hb; clear hb
  rw [HM.out]
  go_wp2_with fail
  go_ret
  exact ⟨ret_bool (by simp [Om.mayEvent, h1]), HBox.out.trans (HB.out.mono HBox.out.size)⟩
 by_cases h2 : tm ≤ 1099511627776
 case neg =>
  go_enter Try.func14, Try.ntmps14
  go_wp2_with fail
  refine (refmay_any r i s _).mono ?_
  rintro e w1 ⟨rfl, hb⟩
  obtain ⟨hc0, hc1, hc2, hc3, hc4, hc5, hc6, hc7, hc8⟩ := evcells hb
  have HB := Lib.hid hb; clear hb
  rw [HM.out]
  go_wp2_with fail
  go_ret
  exact ⟨ret_bool (by simp [Om.mayEvent, h2]), HBox.out.trans (HB.out.mono HBox.out.size)⟩
 go_enter Try.func14, Try.ntmps14
 go_wp2_with fail
 refine (refmay_any r i s _).mono ?_
 rintro e w1 ⟨rfl, hb⟩
 obtain ⟨hc0, hc1, hc2, hc3, hc4, hc5, hc6, hc7, hc8⟩ := evcells hb
 have HB := Lib.hid (HBox.out.trans (hb.mono HBox.out.size)); clear hb
 rw [HM.out]
 go_wp2_with fail
 refine (refopmay_any k pa pl pc n t da dl dc p d _ (HP.out.below HB.out) HPl.out (HR.out.below HB.out) HDl.out).mono ?_
 rintro e w2 ⟨rfl, hb⟩
 have HB2 := Lib.hid (HB.out.trans (hb.mono HB.out.size)); clear hb
 go_wp2_with fail
 go_ret
 exact ⟨ret_bool (by simp [Om.mayEvent, HM.out, h1, h2]), HB2.out⟩
end Go.Proofs.Ytbciopieciglmaa
namespace Go.Proofs.Ytbciopieciglmaa
open Go.RowKit Go.Buf Go.Maps
set_option linter.unusedSimpArgs false
set_option linter.unusedVariables false
theorem str_ne {d e : ByteArray} (h : d ≠ e) : (d.toList == e.toList) = false := by
 rw [ByteArray.toList_eq, ByteArray.toList_eq]
 simp only [beq_eq_false_iff_ne, ne_eq]
 intro g
 exact h (ByteArray.ext (Array.toList_inj.1 g))
theorem dot_neO {d e : Dt.Dot} (h : d ≠ e) : d.1.1 ≠ e.1.1 ∨ (d.1.1 = e.1.1 ∧ d.1.2 ≠ e.1.2) ∨ (d.1.1 = e.1.1 ∧ d.1.2 = e.1.2 ∧ d.2 ≠ e.2) := by
 rcases d with ⟨⟨a, b⟩, c⟩; rcases e with ⟨⟨x, y⟩, z⟩
 simp only [ne_eq, Prod.mk.injEq] at *
 omega
theorem take_eq_succO {la lb : List Dt.Dot} {k : Nat} {d : Dt.Dot} (h : la.take k = lb.take k) (ha : la[k]? = some d) (hb : lb[k]? = some d) : la.take (k + 1) = lb.take (k + 1) := by
 obtain ⟨h1, rfl⟩ := List.getElem?_eq_some_iff.1 ha
 obtain ⟨h2, e⟩ := List.getElem?_eq_some_iff.1 hb
 rw [List.take_succ_eq_append_getElem h1, List.take_succ_eq_append_getElem h2, h, e]
set_option maxRecDepth 100000 in
set_option maxHeartbeats 1600000 in
theorem equalD_any (a : Option Addr) (n cap : Nat) (la : List Dt.Dot) (c : Option Addr) (m capc : Nat) (lb : List Dt.Dot) (W : World) (hr : VRow W a cap la) (hl : la.length = n) (hs : VRow W c capc lb) (hm : lb.length = m) :
  Calls Try.prog 34 #[.slice a n cap, .slice c m capc] W fun e w' => e = .returned (.bool (decide (la = lb))) ∧ Below W.heap.size W w' := by
 have hle := hr.le
 have hcap := hr.cap
 rw [hl] at hle
 have HR := Lib.hid hr; have HL := Lib.hid hl; have HS := Lib.hid hs; have HM := Lib.hid hm
 clear hr hl hs hm
 by_cases hnm : n = m
 ·subst hnm
  go_enter Try.func34, Try.ntmps34
  go_wp2
  go_loopw [5, 13] (fun _ i wr => ∃ k : Nat, k ≤ n ∧ i = .int .i64 k ∧ la.take k = lb.take k ∧ Below W.heap.size W wr) (fun _ i _ => n - (intOf i).toNat)
  case atStart => exact ⟨0, Nat.zero_le _, rfl, rfl, Below.refl _ _⟩
  case round =>
   obtain ⟨k, hk, rfl, htk, hbel⟩ := hrel
   have HT := Lib.hid htk; have HBel := Lib.hid hbel; clear htk hbel
   by_cases hlt : k < n
   ·obtain ⟨d, hd⟩ := getD_some (l := la) (i := k) (by rw [HL.out]; exact hlt)
    obtain ⟨e, he⟩ := getD_some (l := lb) (i := k) (by rw [HM.out]; exact hlt)
    obtain ⟨b1, o1, rfl, hb1, hc1⟩ := HR.out.at (by rw [HL.out]; omega)
    obtain ⟨b2, o2, rfl, hb2, hc2⟩ := HS.out.at (by rw [HM.out]; omega)
    obtain ⟨g0, g1, g2⟩ := hc1 k d hd
    obtain ⟨g3, g4, g5⟩ := hc2 k e he
    have q0 := (HBel.out.cell (p := ⟨b1, o1 + k * 3, none⟩) hb1).trans g0
    have q1 := (HBel.out.cell (p := ⟨b1, o1 + k * 3 + 1, none⟩) hb1).trans g1
    have q2 := (HBel.out.cell (p := ⟨b1, o1 + k * 3 + 2, none⟩) hb1).trans g2
    have q3 := (HBel.out.cell (p := ⟨b2, o2 + k * 3, none⟩) hb2).trans g3
    have q4 := (HBel.out.cell (p := ⟨b2, o2 + k * 3 + 1, none⟩) hb2).trans g4
    have q5 := (HBel.out.cell (p := ⟨b2, o2 + k * 3 + 2, none⟩) hb2).trans g5
    have i0 : (0 : Int) ≤ (k : Int) := by omega
    have i1 : (k : Int) < (n : Int) := by omega
    have Hd := Lib.hid hd; have He := Lib.hid he
    clear hc1 hc2 g0 g1 g2 g3 g4 g5 hd he
    by_cases hde : d = e
    ·subst hde
     have Hs := Lib.hid (take_eq_succO HT.out Hd.out He.out)
     obtain ⟨⟨r, i⟩, s⟩ := d
     simp only at q0 q1 q2 q3 q4 q5
     go_wp2
     go_quiet (fail)
     go_wp2
     clear q0 q1 q2 q3 q4 q5
     go_roundw
     case rel => exact ⟨k + 1, by omega, by go_num, Hs.out, below_drewN HBel.out _⟩
     case measure => simp [intOf]; omega
    ·have hfin : decide (la = lb) = false := decide_eq_false fun g => hde (by have h1 := Hd.out; have h2 := He.out; rw [g, h2] at h1; exact (Option.some.inj h1).symm)
     have Hfin := Lib.hid hfin; clear hfin
     have hne := dot_neO hde
     obtain ⟨⟨r, i⟩, s⟩ := d
     obtain ⟨⟨r', i'⟩, s'⟩ := e
     simp only at q0 q1 q2 q3 q4 q5 hne
     clear hde
     rcases hne with h1 | ⟨rfl, h1⟩ | ⟨rfl, rfl, h1⟩
     ·have d1 : ((r : Int) == (r' : Int)) = false := by simp; omega
      clear h1
      go_wp2
      go_quiet (fail)
      go_wp2
      go_ret
      exact ⟨ret_bool Hfin.out.symm, below_drewN HBel.out _⟩
     ·have d1 : ((i : Int) == (i' : Int)) = false := by simp; omega
      clear h1
      go_wp2
      go_quiet (fail)
      go_wp2
      go_ret
      exact ⟨ret_bool Hfin.out.symm, below_drewN HBel.out _⟩
     ·have d1 : ((s : Int) == (s' : Int)) = false := by simp; omega
      clear h1
      go_wp2
      go_quiet (fail)
      go_wp2
      go_ret
      exact ⟨ret_bool Hfin.out.symm, below_drewN HBel.out _⟩
   ·have hfin : decide (la = lb) = true := decide_eq_true (by have := HT.out; rwa [List.take_of_length_le (by rw [HL.out]; omega), List.take_of_length_le (by rw [HM.out]; omega)] at this)
    have Hfin := Lib.hid hfin; clear hfin
    go_wp2
    go_ret
    exact ⟨ret_bool Hfin.out.symm, HBel.out⟩
 ·have hfin : decide (la = lb) = false := decide_eq_false fun g => hnm (by rw [← HL.out, ← HM.out, g])
  have Hfin := Lib.hid hfin; clear hfin
  have d1 : ((n : Int) == (m : Int)) = false := by simp; omega
  go_enter Try.func34, Try.ntmps34
  go_wp2
  go_ret
  exact ⟨ret_bool Hfin.out.symm, Below.refl _ _⟩
end Go.Proofs.Ytbciopieciglmaa
namespace Go.Proofs.Ytbciopieciglmaa
open Go.RowKit Go.Buf Go.LB
set_option linter.unusedSimpArgs false
set_option linter.unusedVariables false
def okI (x : Lm.It) : Prop := x.1 < 18446744073709551616 ∧ Dt.okD x.2.1 ∧ x.2.2.size ≤ 9223372036854775807
def encI (x : Lm.It) : List Value := [.int .u64 (x.1 : Int), .int .u8 (x.2.1.1.1 : Int), .int .u32 (x.2.1.1.2 : Int), .int .u64 (x.2.1.2 : Int), .string x.2.2]
abbrev itV (t r i s : Nat) (x : ByteArray) : Value := .agg #[.int .u64 (t : Int), .int .u8 (r : Int), .int .u32 (i : Int), .int .u64 (s : Int), .string x]
abbrev leafV (k : Nat) (n : Int) (t r i s : Nat) (x : ByteArray) (ia : Option Addr) (il ic : Nat) (da : Option Addr) (dl dc : Nat) : Value := .agg #[.int .u8 (k : Int), .int .i64 n, .int .u64 (t : Int), .int .u8 (r : Int), .int .u32 (i : Int), .int .u64 (s : Int), .string x, .slice ia il ic, .slice da dl dc]
def IRow (w : World) (a : Option Addr) (cap : Nat) (l : List Lm.It) : Prop :=
 l.length ≤ cap ∧ cap ≤ 9223372036854775807 ∧ (∀ x ∈ l, okI x) ∧ (a = none → cap = 0) ∧
 ∀ i x, l[i]? = some x → ∃ p, a = some p ∧ w.cell? (p.add (i * 5)) = some (.int .u64 (x.1 : Int)) ∧ w.cell? (p.add (i * 5 + 1)) = some (.int .u8 (x.2.1.1.1 : Int)) ∧ w.cell? (p.add (i * 5 + 2)) = some (.int .u32 (x.2.1.1.2 : Int)) ∧ w.cell? (p.add (i * 5 + 3)) = some (.int .u64 (x.2.1.2 : Int)) ∧ w.cell? (p.add (i * 5 + 4)) = some (.string x.2.2)
theorem IRow.le {w : World} {a : Option Addr} {cap : Nat} {l : List Lm.It} (h : IRow w a cap l) : l.length ≤ cap := h.1
theorem IRow.cap {w : World} {a : Option Addr} {cap : Nat} {l : List Lm.It} (h : IRow w a cap l) : cap ≤ 9223372036854775807 := h.2.1
theorem IRow.ok {w : World} {a : Option Addr} {cap : Nat} {l : List Lm.It} (h : IRow w a cap l) : ∀ x ∈ l, okI x := h.2.2.1
theorem IRow.below {w w' : World} {a : Option Addr} {cap : Nat} {l : List Lm.It} (h : IRow w a cap l) (hb : Below w.heap.size w w') : IRow w' a cap l := by
 refine ⟨h.1, h.2.1, h.2.2.1, h.2.2.2.1, fun i d hd => ?_⟩
 obtain ⟨p, hp, h1, h2, h3, h4, h5⟩ := h.2.2.2.2 i d hd
 exact ⟨p, hp, (hb.cell (World.block_lt_of_cell? _ _ h1)).trans h1, (hb.cell (World.block_lt_of_cell? _ _ h2)).trans h2, (hb.cell (World.block_lt_of_cell? _ _ h3)).trans h3, (hb.cell (World.block_lt_of_cell? _ _ h4)).trans h4, (hb.cell (World.block_lt_of_cell? _ _ h5)).trans h5⟩
theorem IRow.nil (w : World) : IRow w none 0 [] := ⟨by simp, by omega, by simp, by simp, by simp⟩
theorem IRow.at {w : World} {a : Option Addr} {cap : Nat} {l : List Lm.It} (h : IRow w a cap l) (hl : 0 < l.length) :
  ∃ b off, a = some ⟨b, off, none⟩ ∧ b < w.heap.size ∧ ∀ i x, l[i]? = some x → w.cell? ⟨b, off + i * 5, none⟩ = some (.int .u64 (x.1 : Int)) ∧ w.cell? ⟨b, off + i * 5 + 1, none⟩ = some (.int .u8 (x.2.1.1.1 : Int)) ∧ w.cell? ⟨b, off + i * 5 + 2, none⟩ = some (.int .u32 (x.2.1.1.2 : Int)) ∧ w.cell? ⟨b, off + i * 5 + 3, none⟩ = some (.int .u64 (x.2.1.2 : Int)) ∧ w.cell? ⟨b, off + i * 5 + 4, none⟩ = some (.string x.2.2) := by
 obtain ⟨p, hp, hc, _⟩ := h.2.2.2.2 0 l[0] (by simp [hl])
 have hs := World.cell?_spot hc
 obtain ⟨b, off, spot⟩ := p
 have hspot : spot = none := by simpa [Addr.add] using hs
 subst hspot
 refine ⟨b, off, hp, by simpa [Addr.add] using World.block_lt_of_cell? w _ hc, fun i d hd => ?_⟩
 obtain ⟨q, hq, h1, h2, h3, h4, h5⟩ := h.2.2.2.2 i d hd
 rw [hp] at hq
 obtain rfl := Option.some.inj hq
 rw [Addr.add_mid] at h1 h2 h3 h4 h5
 exact ⟨h1, h2, h3, h4, h5⟩
theorem geti_some {l : List Lm.It} {i : Nat} (hi : i < l.length) : ∃ x, l[i]? = some x := ⟨l[i], List.getElem?_eq_getElem hi⟩
theorem ahead_lt {t u : Nat} {d o : Dt.Dot} (h : t < u) : Lm.ahead t d u o = true := by simp [Lm.ahead, h]
theorem ahead_eq {t : Nat} {d o : Dt.Dot} : Lm.ahead t d t o = Dt.less d o := by simp [Lm.ahead]
theorem ahead_gt {t u : Nat} {d o : Dt.Dot} (h : u < t) : Lm.ahead t d u o = false := by
 have h1 : ¬ t < u := by omega
 have h2 : ¬ t = u := by omega
 simp [Lm.ahead, h1, h2]
theorem less_cmp (x y : Dt.Dot) : decide (Dt.cmp x y < 0) = Dt.less x y := by
 unfold Dt.cmp Dt.less
 by_cases h1 : Dt.lt x y
 ·simp [h1]
 ·by_cases h2 : Dt.lt y x <;> simp [h1, h2]
theorem below_box2 (W : World) (c d : Array Value) (t u : TypeId) : Below W.heap.size W ((W.alloc (.cells c t)).alloc (.cells d u)) := ((Below.refl _ _).alloc (Nat.le_refl _) _).alloc (by simp) _
set_option maxHeartbeats 1000000 in
theorem ahead_any (t r i s u r' i' s' : Nat) (W : World) :
  Calls Try.prog 43 #[.int .u64 (t : Int), dotV ((r, i), s), .int .u64 (u : Int), dotV ((r', i'), s')] W fun e w' => e = .returned (.bool (Lm.ahead t ((r, i), s) u ((r', i'), s'))) ∧ Below W.heap.size W w' := by
 have HBox := Lib.hid (below_box2 W #[.int .u8 (r : Int), .int .u32 (i : Int), .int .u64 (s : Int)] #[.int .u8 (r' : Int), .int .u32 (i' : Int), .int .u64 (s' : Int)] 31 31)
 by_cases h1 : t < u
 ·go_enter Try.func43, Try.ntmps43
  go_wp2_with fail
  go_ret
  exact ⟨ret_bool (ahead_lt h1).symm, HBox.out⟩
 ·by_cases h2 : t = u
  ·subst h2
   have HL := Lib.hid (less_cmp ((r, i), s) ((r', i'), s'))
   go_enter Try.func43, Try.ntmps43
   go_wp2_with fail
   refine (compare_any r i s r' i' s' _).mono ?_
   rintro e w1 ⟨rfl, hb⟩
   have HB := Lib.hid hb.below; clear hb
   obtain ⟨C, HC⟩ : ∃ C, C = Dt.cmp ((r, i), s) ((r', i'), s') := ⟨_, rfl⟩
   rw [← HC]
   have HC2 := Lib.hid HC; clear HC
   go_wp2_with fail
   go_ret
   exact ⟨ret_bool (by rw [ahead_eq, ← HL.out, HC2.out]), HBox.out.trans (HB.out.mono HBox.out.size)⟩
  ·have d1 : ((t : Int) == (u : Int)) = false := by simp; omega
   go_enter Try.func43, Try.ntmps43
   go_wp2_with fail
   go_ret
   exact ⟨ret_bool (ahead_gt (by omega)).symm, HBox.out⟩
set_option maxHeartbeats 1000000 in
theorem refahead_any (t r i s u r' i' s' : Nat) (W : World) :
  Calls Try.prog 16 #[.int .u64 (t : Int), dotV ((r, i), s), .int .u64 (u : Int), dotV ((r', i'), s')] W fun e w' => e = .returned (.bool (Lm.ahead t ((r, i), s) u ((r', i'), s'))) ∧ Below W.heap.size W w' := by
 have HBox := Lib.hid (below_box2 W #[.int .u8 (r : Int), .int .u32 (i : Int), .int .u64 (s : Int)] #[.int .u8 (r' : Int), .int .u32 (i' : Int), .int .u64 (s' : Int)] 31 31)
 by_cases h2 : t = u
 ·subst h2
  go_enter Try.func16, Try.ntmps16
  go_wp2_with fail
  refine (refless_any r i s r' i' s' _).mono ?_
  rintro e w1 ⟨rfl, hb⟩
  have HB := Lib.hid hb; clear hb
  go_wp2_with fail
  go_ret
  exact ⟨ret_bool (by rw [ahead_eq]), HBox.out.trans (HB.out.mono HBox.out.size)⟩
 ·have d1 : ((t : Int) == (u : Int)) = false := by simp; omega
  have d2 : ((t : Int) != (u : Int)) = true := by simp; omega
  go_enter Try.func16, Try.ntmps16
  go_wp2_with fail
  go_ret
  refine ⟨ret_bool ?_, HBox.out⟩
  by_cases h1 : t < u
  ·rw [ahead_lt h1]; simp; omega
  ·rw [ahead_gt (by omega)]; simp; omega
def newK (k : Nat) : Nat := if 1 ≤ k ∧ k ≤ 4 then k else 0
theorem newK_not {k : Nat} (h : ¬ (1 ≤ k ∧ k ≤ 4)) : newK k = 0 := if_neg h
theorem newK_yes {k : Nat} (h : 1 ≤ k ∧ k ≤ 4) : newK k = k := if_pos h
abbrev bareV (k : Nat) : Value := leafV k 0 0 0 0 0 ⟨#[]⟩ none 0 0 none 0 0
theorem set9 {B : Nat} {w w1 : World} (h : Below B w w1) {b : Nat} (hb : B ≤ b) (x0 x1 x2 x3 x4 x5 x6 x7 x8 : Value) : Below B w (((((((((w1.setCell ⟨b, 0, none⟩ x0).setCell ⟨b, 1, none⟩ x1).setCell ⟨b, 2, none⟩ x2).setCell ⟨b, 3, none⟩ x3).setCell ⟨b, 4, none⟩ x4).setCell ⟨b, 5, none⟩ x5).setCell ⟨b, 6, none⟩ x6).setCell ⟨b, 7, none⟩ x7).setCell ⟨b, 8, none⟩ x8) := ((((((((h.setCell hb _).setCell hb _).setCell hb _).setCell hb _).setCell hb _).setCell hb _).setCell hb _).setCell hb _).setCell hb _
theorem _root_.Go.LB.Blk.set9 {w : World} {b : Nat} {t : TypeId} {c0 c1 c2 c3 c4 c5 c6 c7 c8 : Value} (h : Blk w b t [c0, c1, c2, c3, c4, c5, c6, c7, c8]) (x0 x1 x2 x3 x4 x5 x6 x7 x8 : Value) : Blk (((((((((w.setCell ⟨b, 0, none⟩ x0).setCell ⟨b, 1, none⟩ x1).setCell ⟨b, 2, none⟩ x2).setCell ⟨b, 3, none⟩ x3).setCell ⟨b, 4, none⟩ x4).setCell ⟨b, 5, none⟩ x5).setCell ⟨b, 6, none⟩ x6).setCell ⟨b, 7, none⟩ x7).setCell ⟨b, 8, none⟩ x8) b t [x0, x1, x2, x3, x4, x5, x6, x7, x8] :=
 ((((((((h.set 0 x0).set 1 x1).set 2 x2).set 3 x3).set 4 x4).set 5 x5).set 6 x6).set 7 x7).set 8 x8
theorem res_leaf {fn : Func} {k : Tmp} {tmps : Array Value} {w : World} {b : Nat} {c0 c1 c2 c3 c4 c5 c6 c7 c8 : Value} (hr : fn.results = #[.cell k 40]) (ht : tmps.getD k undef = .pointer (some ⟨b, 0, none⟩)) (h : Blk w b 40 [c0, c1, c2, c3, c4, c5, c6, c7, c8]) :
  (results fn tmps).run Try.prog w = .ok (.agg #[c0, c1, c2, c3, c4, c5, c6, c7, c8]) w := by
 have h0 := h.cell 0; have h1 := h.cell 1; have h2 := h.cell 2; have h3 := h.cell 3; have h4 := h.cell 4; have h5 := h.cell 5; have h6 := h.cell 6; have h7 := h.cell 7; have h8 := h.cell 8
 simp at h0 h1 h2 h3 h4 h5 h6 h7 h8
 have ht2 : tmps[k]?.getD undef = .pointer (some ⟨b, 0, none⟩) := by simpa using ht
 simp [results, hr, go_sem, ht2, h0, h1, h2, h3, h4, h5, h6, h7, h8]
theorem res_leaf2 {fn : Func} {k e : Tmp} {tmps : Array Value} {w : World} {b : Nat} {c0 c1 c2 c3 c4 c5 c6 c7 c8 x : Value} (hr : fn.results = #[.cell k 40, .tmp e]) (ht : tmps.getD k undef = .pointer (some ⟨b, 0, none⟩)) (he : tmps.getD e undef = x) (h : Blk w b 40 [c0, c1, c2, c3, c4, c5, c6, c7, c8]) :
  (results fn tmps).run Try.prog w = .ok (.tuple #[.agg #[c0, c1, c2, c3, c4, c5, c6, c7, c8], x]) w := by
 have h0 := h.cell 0; have h1 := h.cell 1; have h2 := h.cell 2; have h3 := h.cell 3; have h4 := h.cell 4; have h5 := h.cell 5; have h6 := h.cell 6; have h7 := h.cell 7; have h8 := h.cell 8
 simp at h0 h1 h2 h3 h4 h5 h6 h7 h8
 have ht2 : tmps[k]?.getD undef = .pointer (some ⟨b, 0, none⟩) := by simpa using ht
 have he2 : tmps[e]?.getD undef = x := by simpa using he
 simp [results, hr, go_sem, ht2, he2, h0, h1, h2, h3, h4, h5, h6, h7, h8]
set_option maxHeartbeats 1000000 in
theorem new_any (k : Nat) (W : World) : Calls Try.prog 35 #[.int .u8 (k : Int)] W fun e w' => e = .returned (bareV (newK k)) ∧ Below W.heap.size W w' := by
 by_cases h1 : 1 ≤ k
 case neg =>
  have HE := Lib.hid (newK_not (k := k) (fun h => h1 h.1))
  go_enter Try.func35, Try.ntmps35
  go_wp2_with fail
  refine bodyPost_ret (v := bareV 0) (res_leaf Try.results35 (by simp) (Blk.new _ _ _)) rfl ⟨by rw [HE.out], (Below.refl _ _).alloc (Nat.le_refl _) _⟩
 by_cases h2 : k ≤ 4
 case neg =>
  have HE := Lib.hid (newK_not (k := k) (fun h => h2 h.2))
  go_enter Try.func35, Try.ntmps35
  go_wp2_with fail
  refine bodyPost_ret (v := bareV 0) (res_leaf Try.results35 (by simp) (Blk.new _ _ _)) rfl ⟨by rw [HE.out], (Below.refl _ _).alloc (Nat.le_refl _) _⟩
 have HE := Lib.hid (newK_yes (k := k) ⟨h1, h2⟩)
 go_enter Try.func35, Try.ntmps35
 go_wp2_with fail
 refine bodyPost_ret (v := bareV k) (res_leaf Try.results35 (by simp) (Blk.new _ _ _)) rfl ⟨by rw [HE.out], (Below.refl _ _).alloc (Nat.le_refl _) _⟩
set_option maxHeartbeats 1000000 in
theorem refnew_any (k : Nat) (W : World) : Calls Try.prog 9 #[.int .u8 (k : Int)] W fun e w' => e = .returned (bareV (newK k)) ∧ Below W.heap.size W w' := by
 by_cases h1 : 1 ≤ k
 case neg =>
  have HE := Lib.hid (newK_not (k := k) (fun h => h1 h.1))
  go_enter Try.func9, Try.ntmps9
  go_wp2_with fail
  refine bodyPost_ret (v := bareV 0) (res_leaf Try.results9 (by simp) (Blk.new _ _ _)) rfl ⟨by rw [HE.out], (Below.refl _ _).alloc (Nat.le_refl _) _⟩
 by_cases h2 : k ≤ 4
 case neg =>
  have HE := Lib.hid (newK_not (k := k) (fun h => h2 h.2))
  go_enter Try.func9, Try.ntmps9
  go_wp2_with fail
  refine bodyPost_ret (v := bareV 0) (res_leaf Try.results9 (by simp) (Blk.new _ _ _)) rfl ⟨by rw [HE.out], (Below.refl _ _).alloc (Nat.le_refl _) _⟩
 have HE := Lib.hid (newK_yes (k := k) ⟨h1, h2⟩)
 go_enter Try.func9, Try.ntmps9
 go_wp2_with fail
 refine bodyPost_ret (v := bareV k) (res_leaf Try.results9 (by simp) (Blk.new _ _ _)) rfl ⟨by rw [HE.out], (Below.refl _ _).alloc (Nat.le_refl _) _⟩
theorem itcells {W w1 : World} {c0 c1 c2 c3 c4 : Value} (hb : Below (W.alloc (.cells #[c0, c1, c2, c3, c4] 51)).heap.size (W.alloc (.cells #[c0, c1, c2, c3, c4] 51)) w1) :
  w1.cell? ⟨W.heap.size, 0, none⟩ = some c0 ∧ w1.cell? ⟨W.heap.size, 1, none⟩ = some c1 ∧ w1.cell? ⟨W.heap.size, 2, none⟩ = some c2 ∧ w1.cell? ⟨W.heap.size, 3, none⟩ = some c3 ∧ w1.cell? ⟨W.heap.size, 4, none⟩ = some c4 :=
 ⟨(hb.cell (p := ⟨W.heap.size, 0, none⟩) (by simp)).trans (by simp), (hb.cell (p := ⟨W.heap.size, 1, none⟩) (by simp)).trans (by simp), (hb.cell (p := ⟨W.heap.size, 2, none⟩) (by simp)).trans (by simp), (hb.cell (p := ⟨W.heap.size, 3, none⟩) (by simp)).trans (by simp), (hb.cell (p := ⟨W.heap.size, 4, none⟩) (by simp)).trans (by simp)⟩
theorem leafcells {W w1 : World} {c0 c1 c2 c3 c4 c5 c6 c7 c8 : Value} (hb : Below (W.alloc (.cells #[c0, c1, c2, c3, c4, c5, c6, c7, c8] 40)).heap.size (W.alloc (.cells #[c0, c1, c2, c3, c4, c5, c6, c7, c8] 40)) w1) :
  w1.cell? ⟨W.heap.size, 0, none⟩ = some c0 ∧ w1.cell? ⟨W.heap.size, 1, none⟩ = some c1 ∧ w1.cell? ⟨W.heap.size, 2, none⟩ = some c2 ∧ w1.cell? ⟨W.heap.size, 3, none⟩ = some c3 ∧ w1.cell? ⟨W.heap.size, 4, none⟩ = some c4 ∧ w1.cell? ⟨W.heap.size, 5, none⟩ = some c5 ∧ w1.cell? ⟨W.heap.size, 6, none⟩ = some c6 ∧ w1.cell? ⟨W.heap.size, 7, none⟩ = some c7 ∧ w1.cell? ⟨W.heap.size, 8, none⟩ = some c8 :=
 ⟨(hb.cell (p := ⟨W.heap.size, 0, none⟩) (by simp)).trans (by simp), (hb.cell (p := ⟨W.heap.size, 1, none⟩) (by simp)).trans (by simp), (hb.cell (p := ⟨W.heap.size, 2, none⟩) (by simp)).trans (by simp), (hb.cell (p := ⟨W.heap.size, 3, none⟩) (by simp)).trans (by simp), (hb.cell (p := ⟨W.heap.size, 4, none⟩) (by simp)).trans (by simp), (hb.cell (p := ⟨W.heap.size, 5, none⟩) (by simp)).trans (by simp), (hb.cell (p := ⟨W.heap.size, 6, none⟩) (by simp)).trans (by simp), (hb.cell (p := ⟨W.heap.size, 7, none⟩) (by simp)).trans (by simp), (hb.cell (p := ⟨W.heap.size, 8, none⟩) (by simp)).trans (by simp)⟩
set_option maxHeartbeats 1000000 in
theorem mayItem_any (t r i s : Nat) (x : ByteArray) (lo hi : Nat) (hx : x.size ≤ 9223372036854775807) (W : World) :
  Calls Try.prog 36 #[itV t r i s x, .int .u64 (lo : Int), .int .u64 (hi : Int)] W fun e w' => e = .returned (.bool (Lm.mayI lo hi (t, ((r, i), s), x))) ∧ Below W.heap.size W w' := by
 have HBox := Lib.hid (below_box W #[.int .u64 (t : Int), .int .u8 (r : Int), .int .u32 (i : Int), .int .u64 (s : Int), .string x] 51)
 by_cases h1 : lo ≤ t
 case neg =>
  go_enter Try.func36, Try.ntmps36
  go_wp2_with fail
  go_ret
  exact ⟨ret_bool (by simp [Lm.mayI, h1]), HBox.out⟩
 by_cases h2 : t ≤ hi
 case neg =>
  go_enter Try.func36, Try.ntmps36
  go_wp2_with fail
  go_ret
  exact ⟨ret_bool (by simp [Lm.mayI, h2]), HBox.out⟩
 have HX := Lib.hid hx
 clear hx
 cases hm : Dt.may ((r, i), s)
 ·have HM := Lib.hid hm; clear hm
  go_enter Try.func36, Try.ntmps36
  go_wp2_with fail
  refine (may_any r i s _).mono ?_
  rintro e w1 ⟨rfl, hb⟩
  have HB := Lib.hid hb; clear hb
  rw [HM.out]
  go_wp2_with fail
  go_ret
  exact ⟨ret_bool (by simp [Lm.mayI, HM.out]), HBox.out.trans (HB.out.mono HBox.out.size)⟩
 ·have HM := Lib.hid hm; clear hm
  go_enter Try.func36, Try.ntmps36
  go_wp2_with fail
  refine (may_any r i s _).mono ?_
  rintro e w1 ⟨rfl, hb⟩
  obtain ⟨hc0, hc1, hc2, hc3, hc4⟩ := itcells hb
  have HB := Lib.hid hb; clear hb
  rw [HM.out]
  obtain ⟨N, hN⟩ : ∃ N, N = x.size := ⟨_, rfl⟩
  have hxN := HX.out
  rw [← hN] at hxN
  go_wp2_with fail
  go_ret
  refine ⟨ret_bool ?_, HBox.out.trans (HB.out.mono HBox.out.size)⟩
  simp [Lm.mayI, HM.out, h1, h2]
  omega
end Go.Proofs.Ytbciopieciglmaa
