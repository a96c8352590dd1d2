import Derived.Test.YthbkieghkfpbhaaGreatZCode8
import Derived.Test.YthbkieghkfpbhaaGreatZOp3
import Derived.Test.YthbkieghkfpbhaaGreatZCmtMath
import Derived.Test.YthbkieghkfpbhaaGreatZBuf
import Derived.Test.YthbkieghkfpbhaaGreatZDot4
import Derived.Maps.OwnOps
import Derived.Maps.RangeWalk
import Derived.Maps.Views
import Derived.Maps.Ext
import Derived.OpenShut
import Derived.DeepKeys5
namespace Go.Proofs.YthbkieghkfpbhaaGreat
open Go.RowKit Go.Buf
set_option linter.unusedSimpArgs false
set_option linter.unusedVariables false
def opE (o : Om.O) : List Nat := Cd.num o.kind ++ Cd.num o.path.length ++ o.path.flatMap txtE ++ Cd.num (Cd.uns o.n) ++ txtE o.text ++ Cd.num o.dots.length ++ o.dots.flatMap dotE
theorem putDot_pt {B : Nat} {X w : World} {v : Value} {l : List Nat} (h : PT B X w v l) (hB : B ≤ X.heap.size) (d : Dt.Dot) (hd : Dt.okD d) (hsm : l.length + 40 ≤ 140737488355328) :
  Calls Tryz.prog 51 #[v, dotV d] w fun e w' => ∃ v', e = .returned v' ∧ PT B X w' v' (l ++ dotE d) := by
 obtain ⟨⟨row, hb⟩, h⟩ := h
 exact (putDot_any B v l row d w hd hb hsm).mono fun e w' hr => PT.ret hb h hB hr
theorem PT.alloc {B : Nat} {X w : World} {v : Value} {l : List Nat} (h : PT B X w v l) (hB : B ≤ X.heap.size) (o : Obj) : PT B X (w.alloc o) v l := by
 obtain ⟨⟨row, hb⟩, h⟩ := h
 exact ⟨⟨row, hb.alloc o⟩, h.alloc (Nat.le_trans hB h.size) o⟩
theorem PT.drew {B : Nat} {X w : World} {v : Value} {l : List Nat} (h : PT B X w v l) : PT B X w.drew v l := by
 obtain ⟨⟨row, hb⟩, h⟩ := h
 exact ⟨⟨row, hb.below (Below.refl _ _).drew⟩, h.drew⟩
theorem clip_pt {B : Nat} {X w : World} {a : Option Addr} {n cap : Nat} {l : List Nat} (hr : Row w a cap l) (hl : l.length = n) (h : Below B X w) (hB : B ≤ X.heap.size) :
  Calls Tryz.prog 28 #[.slice a n cap] w fun e w' => ∃ v', e = .returned v' ∧ PT B X w' v' l := by
 have hle := hr.le
 have hcap := hr.cap
 rw [hl] at hle
 have hrow : Row w a n l := ⟨by omega, by omega, hr.byte, fun e => by have := hr.2.2.2.1 e; omega, hr.2.2.2.2⟩
 have HB := Lib.hid (BB.of_row (B := B) hrow hl (Nat.le_trans hB h.size)); have H := Lib.hid h
 clear hr hl h hrow
 go_enter Tryz.func28, Tryz.ntmps28
 cases a
 all_goals
  go_wp2_with fail
  go_ret
  exact ⟨_, rfl, ⟨none, HB.out⟩, H.out⟩
set_option maxRecDepth 100000 in
set_option maxHeartbeats 6400000 in
theorem put_any (a : Option Addr) (bn cap : Nat) (l : List Nat) (k : Nat) (hk : k < 256) (pa : Option Addr) (pl pc : Nat) (n : Int) (hn1 : -9223372036854775808 ≤ n) (hn2 : n ≤ 9223372036854775807) (t : ByteArray) (da : Option Addr) (dl dc : Nat) (p : List ByteArray) (d : List Dt.Dot) (W : World) (hrow : Row W a cap l) (hl : l.length = bn) (hbn : bn ≤ 100000) (hp : SRow W pa pc p) (hpl : p.length = pl) (hr : VRow W da dc d) (hdl : d.length = dl) (hsm : Om.small ⟨k, p, n, t, d⟩) :
  Calls Tryz.prog 30 #[.slice a bn cap, opV k pa pl pc n t da dl dc] W (RetBB W.heap.size W none (l ++ opE ⟨k, p, n, t, d⟩)) := by
 obtain ⟨s1, s2, s3, s4⟩ := hsm
 simp only at s1 s2 s3 s4
 rw [hpl] at s2
 rw [hdl] at s4
 have hpc := hp.cap
 have hdc := hr.cap
 have hple := hp.le
 have hdle := hr.le
 rw [hpl] at hple
 rw [hdl] at hdle
 obtain ⟨A1, hA1⟩ : ∃ A, A = l ++ Cd.num k := ⟨_, rfl⟩
 obtain ⟨A2, hA2⟩ : ∃ A, A = A1 ++ Cd.num pl := ⟨_, rfl⟩
 obtain ⟨A3, hA3⟩ : ∃ A, A = A2 ++ p.flatMap txtE := ⟨_, rfl⟩
 obtain ⟨A4, hA4⟩ : ∃ A, A = A3 ++ Cd.num (Cd.uns n) := ⟨_, rfl⟩
 obtain ⟨A5, hA5⟩ : ∃ A, A = A4 ++ txtE t := ⟨_, rfl⟩
 obtain ⟨A6, hA6⟩ : ∃ A, A = A5 ++ Cd.num dl := ⟨_, rfl⟩
 have hfin : l ++ opE ⟨k, p, n, t, d⟩ = A6 ++ d.flatMap dotE := by
  rw [hA6, hA5, hA4, hA3, hA2, hA1]; simp only [opE, hpl, hdl, List.append_assoc]
 have htl : ∀ s ∈ p, (txtE s).length ≤ 110 := fun s hs => by have := txtE_length s; have := s1 s hs; omega
 have hdtl : ∀ x ∈ d, (dotE x).length ≤ 30 := fun x _ => dotE_length x
 have e1 : A1.length ≤ 100010 := by rw [hA1, List.length_append]; have := num_lenO k; omega
 have e2 : A2.length ≤ 100020 := by rw [hA2, List.length_append]; have := num_lenO pl; omega
 have e3 : A3.length ≤ 103000 := by
  rw [hA3, List.length_append, ← upE_all txtE (Nat.le_refl p.length)]
  have := upE_length htl p.length; omega
 have e4 : A4.length ≤ 103010 := by rw [hA4, List.length_append]; have := num_lenO (Cd.uns n); omega
 have e5 : A5.length ≤ 103300 := by rw [hA5, List.length_append]; have := txtE_length t; omega
 have e6 : A6.length ≤ 103310 := by rw [hA6, List.length_append]; have := num_lenO dl; omega
 have hb0 := below_box W #[.int .u8 (k : Int), .slice pa pl pc, .int .i64 n, .string t, .slice da dl dc] 32
 have HFin := Lib.hid hfin; have HTl := Lib.hid htl; have HDtl := Lib.hid hdtl; have HE1 := Lib.hid e1; have HE2 := Lib.hid e2; have HE3 := Lib.hid e3; have HE4 := Lib.hid e4; have HE5 := Lib.hid e5; have HE6 := Lib.hid e6
 have HA1 := Lib.hid hA1; have HA2 := Lib.hid hA2; have HA3 := Lib.hid hA3; have HA4 := Lib.hid hA4; have HA5 := Lib.hid hA5; have HA6 := Lib.hid hA6
 have HS1 := Lib.hid s1
 have HP := Lib.hid hp; have HPl := Lib.hid hpl; have HR := Lib.hid hr; have HDl := Lib.hid hdl; have HRow := Lib.hid hrow; have HL := Lib.hid hl; have HBox := Lib.hid hb0
 have HN1 := Lib.hid hn1; have HN2 := Lib.hid hn2
 clear hfin htl hdtl e1 e2 e3 e4 e5 e6 hA1 hA2 hA3 hA4 hA5 hA6 s1 hp hpl hr hdl hrow hl hb0 hn1 hn2
 have hw1 : IntKind.u64.wrap (k : Int) = (k : Int) := by simp [IntKind.wrap, IntKind.bits, IntKind.signed]; omega
 have hw2 : IntKind.u64.wrap (pl : Int) = (pl : Int) := by simp [IntKind.wrap, IntKind.bits, IntKind.signed]; omega
 have hw3 : IntKind.u64.wrap (dl : Int) = (dl : Int) := by simp [IntKind.wrap, IntKind.bits, IntKind.signed]; omega
 go_enter Tryz.func30, Tryz.ntmps30
 go_wp2_with fail
 have T0 := Lib.hid (show Row (W.alloc (.cells #[.int .u8 (k : Int), .slice pa pl pc, .int .i64 n, .string t, .slice da dl dc] 32)).drew a cap l ∧ Below (W.alloc (.cells #[.int .u8 (k : Int), .slice pa pl pc, .int .i64 n, .string t, .slice da dl dc] 32)).heap.size (W.alloc (.cells #[.int .u8 (k : Int), .slice pa pl pc, .int .i64 n, .string t, .slice da dl dc] 32)) (W.alloc (.cells #[.int .u8 (k : Int), .slice pa pl pc, .int .i64 n, .string t, .slice da dl dc] 32)).drew from ⟨(HRow.out.below HBox.out).below (Below.refl _ _).drew, (Below.refl _ _).drew⟩)
 go_region_held3 (fun w' : World => w'.cell? ⟨W.heap.size, 0, none⟩ = some (.int .u8 (k : Int)) ∧ w'.cell? ⟨W.heap.size, 1, none⟩ = some (.slice pa pl pc) ∧ w'.cell? ⟨W.heap.size, 2, none⟩ = some (.int .i64 n) ∧ w'.cell? ⟨W.heap.size, 3, none⟩ = some (.string t) ∧ w'.cell? ⟨W.heap.size, 4, none⟩ = some (.slice da dl dc))
  (first
   | assumption
   | go_keep)
  (first
   | (go_at_call 31; (with_reducible refine (num_pt T1.out (Nat.le_refl _) k (by omega) (by have := HL.out; omega)).mono ?_); rintro e w2 ⟨v2, rfl, hb2⟩; have hS := opcells hb2.below; have T2 := Lib.hid hb2; clear hb2)
   | (go_at_call 28; (with_reducible refine (clip_pt T0.out.1 HL.out T0.out.2 (Nat.le_refl _)).mono ?_); rintro e w1 ⟨v1, rfl, hb1⟩; have hS := opcells hb1.below; have T1 := Lib.hid hb1; clear hb1))
 have hb := T2.out
 rw [← HA1.out] at hb
 obtain ⟨hc0, hc1, hc2, hc3, hc4⟩ := opcells hb.below
 have U1 := Lib.hid hb; clear hb T2
 go_wp2_with fail
 refine (num_pt U1.out (Nat.le_refl _) pl (by omega) (by have := HE1.out; omega)).mono ?_
 rintro e w3 ⟨v3, rfl, T3⟩
 replace T3 := Lib.hid T3
 clear hc0 hc1 hc2 hc3 hc4
 have hb := T3.out
 rw [← HA2.out] at hb
 obtain ⟨hc0, hc1, hc2, hc3, hc4⟩ := opcells hb.below
 have U2 := Lib.hid hb; clear hb T3
 go_wp2_with fail
 go_loopw [0, 6, 24] (fun u _ i wr => ∃ j : Nat, j ≤ pl ∧ i = .int .i64 j ∧ PT (W.alloc (.cells #[.int .u8 (k : Int), .slice pa pl pc, .int .i64 n, .string t, .slice da dl dc] 32)).heap.size (W.alloc (.cells #[.int .u8 (k : Int), .slice pa pl pc, .int .i64 n, .string t, .slice da dl dc] 32)) wr u (A2 ++ upE txtE p j)) (fun _ _ i _ => pl - (intOf i).toNat)
 case atStart => exact ⟨0, Nat.zero_le _, rfl, by rw [upE_zero, List.append_nil]; exact U2.out⟩
 case round =>
  obtain ⟨j, hj, rfl, hpt⟩ := hrel
  clear hc0 hc1 hc2 hc3 hc4
  obtain ⟨hc0, hc1, hc2, hc3, hc4⟩ := opcells hpt.below
  have HPt := Lib.hid hpt; clear hpt
  by_cases hlt : j < pl
  ·obtain ⟨s, hs⟩ := gets_some (l := p) (i := j) (by rw [HPl.out]; exact hlt)
   have hr1 := HP.out.below (HBox.out.trans (HPt.out.below.mono HBox.out.size))
   obtain ⟨b, off, rfl, hb, hc⟩ := hr1.at (by rw [HPl.out]; omega)
   have q := hc j s hs
   have HS := Lib.hid (upE_succ (f := txtE) hs)
   have HZ := Lib.hid (HS1.out s (List.mem_of_getElem? hs))
   clear hr1 hc hs
   have i0 : (0 : Int) ≤ (j : Int) := by omega
   have i1 : (j : Int) < (pl : Int) := by omega
   have HQ := Lib.hid (upE_length HTl.out j)
   go_wp2_with fail
   refine (text_pt HPt.out (Nat.le_refl _) s (by have := HZ.out; omega) (by have := HZ.out; have := HQ.out; have := HE2.out; rw [List.length_append]; omega)).mono ?_
   rintro e w4 ⟨v4, rfl, h4⟩
   rw [List.append_assoc, show Cd.num s.size ++ strL s = txtE s from rfl, ← HS.out] at h4
   have H4 := Lib.hid h4; clear h4
   go_wp2_with fail
   go_roundw
   case rel => exact ⟨j + 1, by omega, by go_num, H4.out⟩
   case measure => simp [intOf]; omega
  ·have hfin := HPt.out
   rw [upE_all txtE (by rw [HPl.out]; omega), ← HA3.out] at hfin
   have U3 := Lib.hid hfin.drew
   clear hfin HPt U2
   go_wp2_with fail
   go_region_held3 (fun w' : World => w'.cell? ⟨W.heap.size, 0, none⟩ = some (.int .u8 (k : Int)) ∧ w'.cell? ⟨W.heap.size, 1, none⟩ = some (.slice pa pl pc) ∧ w'.cell? ⟨W.heap.size, 2, none⟩ = some (.int .i64 n) ∧ w'.cell? ⟨W.heap.size, 3, none⟩ = some (.string t) ∧ w'.cell? ⟨W.heap.size, 4, none⟩ = some (.slice da dl dc))
    (first
     | assumption
     | go_keep
     | exact ⟨hc0, hc1, hc2, hc3, hc4⟩)
    (first
     | (go_at_call 49; (with_reducible refine (text_pt T4.out (Nat.le_refl _) t (by omega) (by have := HE4.out; omega)).mono ?_); rintro e w5 ⟨v5, rfl, hb5⟩; have hS := opcells hb5.below; have T5 := Lib.hid hb5; clear hb5)
     | (go_at_call 50; (with_reducible refine (int_pt U3.out (Nat.le_refl _) n HN1.out HN2.out (by have := HE3.out; omega)).mono ?_); rintro e w4 ⟨v4, rfl, hb4⟩; rw [← HA4.out] at hb4; have hS := opcells hb4.below; have T4 := Lib.hid hb4; clear hb4))
   have hb := T5.out
   rw [show Cd.num t.size ++ strL t = txtE t from rfl, ← HA5.out] at hb
   obtain ⟨hc0, hc1, hc2, hc3, hc4⟩ := opcells hb.below
   have U5 := Lib.hid hb; clear hb T5
   go_wp2_with fail
   refine (num_pt U5.out (Nat.le_refl _) dl (by omega) (by have := HE5.out; omega)).mono ?_
   rintro e w6 ⟨v6, rfl, T6⟩
   replace T6 := Lib.hid T6
   clear hc0 hc1 hc2 hc3 hc4
   have hb := T6.out
   rw [← HA6.out] at hb
   obtain ⟨hc0, hc1, hc2, hc3, hc4⟩ := opcells hb.below
   have U6 := Lib.hid hb; clear hb T6
   go_wp2_with fail
   go_loopw [0, 8, 48] (fun u _ i wr => ∃ j : Nat, j ≤ dl ∧ i = .int .i64 j ∧ PT (W.alloc (.cells #[.int .u8 (k : Int), .slice pa pl pc, .int .i64 n, .string t, .slice da dl dc] 32)).heap.size (W.alloc (.cells #[.int .u8 (k : Int), .slice pa pl pc, .int .i64 n, .string t, .slice da dl dc] 32)) wr u (A6 ++ upE dotE d j)) (fun _ _ i _ => dl - (intOf i).toNat)
   case atStart => exact ⟨0, Nat.zero_le _, rfl, by rw [upE_zero, List.append_nil]; exact U6.out⟩
   case round =>
    obtain ⟨j2, hj2, rfl, hpt⟩ := hrel
    clear hc0 hc1 hc2 hc3 hc4
    obtain ⟨hc0, hc1, hc2, hc3, hc4⟩ := opcells hpt.below
    have HPt := Lib.hid hpt; clear hpt
    by_cases hlt2 : j2 < dl
    ·obtain ⟨x, hx⟩ := getD_some (l := d) (i := j2) (by rw [HDl.out]; exact hlt2)
     have hokx := HR.out.ok x (List.mem_of_getElem? hx)
     have hr1 := HR.out.below (HBox.out.trans (HPt.out.below.mono HBox.out.size))
     obtain ⟨b, off, rfl, hb, hc⟩ := hr1.at (by rw [HDl.out]; omega)
     obtain ⟨q0, q1, q2⟩ := hc j2 x hx
     have HS := Lib.hid (upE_succ (f := dotE) hx); have HO := Lib.hid hokx
     clear hr1 hc hx hokx
     obtain ⟨⟨r, i⟩, s⟩ := x
     simp only at q0 q1 q2
     have i0 : (0 : Int) ≤ (j2 : Int) := by omega
     have i1 : (j2 : Int) < (dl : Int) := by omega
     have HQ := Lib.hid (upE_length HDtl.out j2)
     go_wp2_with fail
     refine (putDot_pt (HPt.out.alloc (Nat.le_refl _) _) (Nat.le_refl _) ((r, i), s) HO.out (by have := HQ.out; have := HE6.out; rw [List.length_append]; omega)).mono ?_
     rintro e w7 ⟨v7, rfl, h7⟩
     rw [List.append_assoc, ← HS.out] at h7
     have H7 := Lib.hid h7; clear h7
     go_wp2_with fail
     go_roundw
     case rel => exact ⟨j2 + 1, by omega, by go_num, H7.out⟩
     case measure => simp [intOf]; omega
    ·have hfin := HPt.out
     rw [upE_all dotE (by rw [HDl.out]; omega), ← HFin.out] at hfin
     have U7 := Lib.hid hfin
     clear hfin HPt U6
     go_wp2_with fail
     go_ret
     obtain ⟨⟨row, hb⟩, hbl⟩ := U7.out
     exact ret_new (B := W.heap.size) (hb.base HBox.out.size) (HBox.out.trans (hbl.mono HBox.out.size)) (Nat.le_refl _)
end Go.Proofs.YthbkieghkfpbhaaGreat
namespace Go.Proofs.YthbkieghkfpbhaaGreat
open Go.RowKit Go.Buf Go.LB
set_option linter.unusedSimpArgs false
set_option linter.unusedVariables false
abbrev cmV (r i s : Nat) (qa : Option Addr) (ql qc : Nat) (va : Option Addr) (vl vc : Nat) (tm k : Nat) (pa : Option Addr) (pl pc : Nat) (n : Int) (t : ByteArray) (da : Option Addr) (dl dc : Nat) : Value := .agg #[.int .u8 (r : Int), .int .u32 (i : Int), .int .u64 (s : Int), .slice qa ql qc, .slice va vl vc, .int .u64 (tm : Int), .int .u8 (k : Int), .slice pa pl pc, .int .i64 n, .string t, .slice da dl dc]
def IsC (W : World) (x : Value) (c : Cm.C) : Prop := ∃ r i s qa ql qc va vl vc tm k pa pl pc n t da dl dc q v p d, x = cmV r i s qa ql qc va vl vc tm k pa pl pc n t da dl dc ∧ c = ⟨((r, i), s), q, v, tm, ⟨k, p, n, t, d⟩⟩ ∧ VRow W qa qc q ∧ q.length = ql ∧ VRow W va vc v ∧ v.length = vl ∧ SRow W pa pc p ∧ p.length = pl ∧ VRow W da dc d ∧ d.length = dl ∧
 Dt.okD ((r, i), s) ∧ tm < 18446744073709551616 ∧ k < 256 ∧ -9223372036854775808 ≤ n ∧ n ≤ 9223372036854775807 ∧ t.size ≤ 9223372036854775807
theorem IsC.below {w w' : World} {x : Value} {c : Cm.C} (h : IsC w x c) (hb : Below w.heap.size w w') : IsC w' x c := by
 obtain ⟨r, i, s, qa, ql, qc, va, vl, vc, tm, k, pa, pl, pc, n, t, da, dl, dc, q, v, p, d, e1, e2, h1, l1, h2, l2, h3, l3, h4, l4, g⟩ := h
 exact ⟨r, i, s, qa, ql, qc, va, vl, vc, tm, k, pa, pl, pc, n, t, da, dl, dc, q, v, p, d, e1, e2, h1.below hb, l1, h2.below hb, l2, h3.below hb, l3, h4.below hb, l4, g⟩
theorem cmcells {W w1 : World} {c0 c1 c2 c3 c4 c5 c6 c7 c8 c9 c10 : Value} (hb : Below (W.alloc (.cells #[c0, c1, c2, c3, c4, c5, c6, c7, c8, c9, c10] 34)).heap.size (W.alloc (.cells #[c0, c1, c2, c3, c4, c5, c6, c7, c8, c9, c10] 34)) w1) :
  w1.cell? ⟨W.heap.size, 0, none⟩ = some c0 ∧ w1.cell? ⟨W.heap.size, 1, none⟩ = some c1 ∧ w1.cell? ⟨W.heap.size, 2, none⟩ = some c2 ∧ w1.cell? ⟨W.heap.size, 3, none⟩ = some c3 ∧ w1.cell? ⟨W.heap.size, 4, none⟩ = some c4 ∧ w1.cell? ⟨W.heap.size, 5, none⟩ = some c5 ∧ w1.cell? ⟨W.heap.size, 6, none⟩ = some c6 ∧ w1.cell? ⟨W.heap.size, 7, none⟩ = some c7 ∧ w1.cell? ⟨W.heap.size, 8, none⟩ = some c8 ∧ w1.cell? ⟨W.heap.size, 9, none⟩ = some c9 ∧ w1.cell? ⟨W.heap.size, 10, none⟩ = some c10 :=
 ⟨(hb.cell (p := ⟨W.heap.size, 0, none⟩) (by simp)).trans (by simp), (hb.cell (p := ⟨W.heap.size, 1, none⟩) (by simp)).trans (by simp), (hb.cell (p := ⟨W.heap.size, 2, none⟩) (by simp)).trans (by simp), (hb.cell (p := ⟨W.heap.size, 3, none⟩) (by simp)).trans (by simp), (hb.cell (p := ⟨W.heap.size, 4, none⟩) (by simp)).trans (by simp), (hb.cell (p := ⟨W.heap.size, 5, none⟩) (by simp)).trans (by simp), (hb.cell (p := ⟨W.heap.size, 6, none⟩) (by simp)).trans (by simp), (hb.cell (p := ⟨W.heap.size, 7, none⟩) (by simp)).trans (by simp), (hb.cell (p := ⟨W.heap.size, 8, none⟩) (by simp)).trans (by simp), (hb.cell (p := ⟨W.heap.size, 9, none⟩) (by simp)).trans (by simp), (hb.cell (p := ⟨W.heap.size, 10, none⟩) (by simp)).trans (by simp)⟩
theorem undrewB {B : Nat} {w w' : World} (h : Below B w.drew w') : Below B w w' := ⟨h.os, h.tape, h.output, h.size, h.block⟩
end Go.Proofs.YthbkieghkfpbhaaGreat
namespace Go.Proofs.YthbkieghkfpbhaaGreat
open Go.RowKit Go.Buf
set_option linter.unusedSimpArgs false
set_option linter.unusedVariables false
theorem PT.fresh {B : Nat} {X w w' : World} {e : Ending} {l' : List Nat} (h : Below B X w) (hB : B ≤ X.heap.size) (hr : RetBB w.heap.size w none l' e w') : ∃ v', e = .returned v' ∧ PT B X w' v' l' := by
 obtain ⟨v, row, rfl, h1, h2⟩ := hr.below
 exact ⟨v, rfl, ⟨row, h1.base (Nat.le_trans hB h.size)⟩, h.trans (h2.mono (Nat.le_trans hB h.size))⟩
end Go.Proofs.YthbkieghkfpbhaaGreat
namespace Go.Proofs.YthbkieghkfpbhaaGreat
open Go.RowKit Go.Buf
set_option linter.unusedSimpArgs false
set_option linter.unusedVariables false
def evE (e : Om.E) : List Nat := dotE e.dot ++ Cd.num e.time ++ opE e.op
theorem small_of_may {o : Om.O} (h : Om.may o = true) : Om.small o := by
 obtain ⟨k, p, n, t, d⟩ := o
 simp only [Om.may, Bool.and_eq_true, Om.mayPath, decide_eq_true_eq, Om.upTo_iff] at h
 obtain ⟨⟨⟨_, h2⟩, h3⟩, h4⟩ := h
 have hpth : ∀ s ∈ p, s.size ≤ 100 := by
  intro s hs
  obtain ⟨j, hj⟩ := List.getElem?_of_mem hs
  have hlt : j < p.length := (List.getElem?_eq_some_iff.1 hj).1
  have := h3 j hlt
  simp only [Om.pathAt, List.getD, hj, Option.getD_some, Om.isName, Bool.and_eq_true, decide_eq_true_eq] at this
  omega
 have hrest : t.size ≤ 200 ∧ d.length ≤ 100 := by
  unfold Om.asked at h4
  repeat' split at h4
  all_goals simp [Om.mayAdd, Om.mayText, Om.mayDrop, Om.mayDrops, -ByteArray.size_eq_zero_iff, -List.length_eq_zero_iff] at h4
  all_goals omega
 exact ⟨hpth, by simp only; omega, hrest⟩
theorem put_pt {X w : World} {v : Value} {l : List Nat} (h : PT X.heap.size X w v l) (hl : l.length ≤ 100000) (k : Nat) (hk : k < 256) (pa : Option Addr) (pl pc : Nat) (n : Int) (hn1 : -9223372036854775808 ≤ n) (hn2 : n ≤ 9223372036854775807) (t : ByteArray) (da : Option Addr) (dl dc : Nat) (p : List ByteArray) (d : List Dt.Dot) (hp : SRow X pa pc p) (hpl : p.length = pl) (hr : VRow X da dc d) (hdl : d.length = dl) (hsm : Om.small ⟨k, p, n, t, d⟩) :
  Calls Tryz.prog 30 #[v, opV k pa pl pc n t da dl dc] w fun e w' => ∃ v', e = .returned v' ∧ PT X.heap.size X w' v' (l ++ opE ⟨k, p, n, t, d⟩) := by
 obtain ⟨⟨row, hb⟩, h⟩ := h
 obtain ⟨a, m, c, rfl, hrow, hm⟩ := hb.rowN
 exact (put_any a m c l k hk pa pl pc n hn1 hn2 t da dl dc p d w hrow hm (by omega) (hp.below h) hpl (hr.below h) hdl hsm).mono fun e w' hr => PT.fresh h (Nat.le_refl _) hr
end Go.Proofs.YthbkieghkfpbhaaGreat
namespace Go.Proofs.YthbkieghkfpbhaaGreat
open Go.RowKit Go.Buf
def pre (l : List Nat) : List Nat := Cd.num l.length ++ l
end Go.Proofs.YthbkieghkfpbhaaGreat
namespace Go.Proofs.YthbkieghkfpbhaaGreat
open Go.RowKit Go.Buf Go.LB
set_option linter.unusedSimpArgs false
set_option linter.unusedVariables false
theorem numR_ok {n : Nat} (h : n < 18446744073709551616) (r : List Nat) : numR (Cd.num n ++ r) 0 = (n, r, 0) := by
 unfold numR step; rw [Cd.rd_num h]; simp
theorem intR_ok {m : Int} (h1 : -9223372036854775808 ≤ m) (h2 : m ≤ 9223372036854775807) (r : List Nat) : intR (Cd.num (Cd.uns m) ++ r) 0 = (m, r, 0) := by
 unfold intR step; rw [Cd.rd_num (Cd.uns_lt h1 h2)]; simp [Cd.sgn_uns]
theorem txtR_ok (s : ByteArray) (r : List Nat) (most : Int) (hm : (s.size : Int) ≤ most) (hs : s.size < 18446744073709551616) : txtR (txtE s ++ r) 0 most = (strL s, r, 0) := by
 unfold txtR step txtE
 have := Cd.rdText_text (strL s) r most (by rw [strL_length]; exact hm) (by rw [strL_length]; exact hs)
 rw [strL_length] at this
 rw [List.append_assoc, this]; simp
 rw [← strL_length s, List.drop_left]
theorem grownR {w w1 w2 : World} {p : Nat} (h : w.grownBy w1 (some p)) (h1 : w1.grownBy w2 (some p)) : w.grownBy w2 (some p) := grown_trans h h1 (New.refl _ _)
theorem grownA {w w1 : World} {p : Nat} (h : w.grownBy w1 (some p)) (o : Obj) : w.grownBy (w1.alloc o) (some p) := grownR h (World.grownBy_alloc w1 o _)
theorem grownCell {w w1 : World} {g : Nat} {row : Option Nat} (h : w.grownBy w1 row) (hg : w.heap.size ≤ g) (o : Nat) (x : Value) : w.grownBy (w1.setCell ⟨g, o, none⟩ x) row := by
 have := grown_setCell w1 g o x
 exact ⟨this.os.trans h.os, this.tape.trans h.tape, this.output.trans h.output, Nat.le_trans h.size this.size, fun k hk hr => (this.block k (Nat.lt_of_lt_of_le hk h.size) (by simp; omega)).trans (h.block k hk hr)⟩
theorem RdrS.setCell {w : World} {p g : Nat} {l : List Nat} {er : Nat} (h : RdrS w p l er) (hg : p < g) (o : Nat) (x : Value) : RdrS (w.setCell ⟨g, o, none⟩ x) p l er := h.grown (grown_setCell w g o x) (fun k hk => by cases hk; exact hg)
theorem boxKept {W w : World} {c : Array Value} {t : TypeId} {p : Nat} (h : (W.alloc (.cells c t)).grownBy w (some p)) (hp : p < W.heap.size) : w.heap[W.heap.size]? = some (.cells c t (0, 0)) := by
 rw [h.block W.heap.size (by simp) (by simp; omega)]; exact heap_alloc_new W _
end Go.Proofs.YthbkieghkfpbhaaGreat
namespace Go.Proofs.YthbkieghkfpbhaaGreat
open Go.RowKit Go.Buf Go.LB
set_option linter.unusedSimpArgs false
set_option linter.unusedVariables false
def encS (s : ByteArray) : List Value := [.string s]
def encT (d : Dt.Dot) : List Value := [.int .u8 (d.1.1 : Int), .int .u32 (d.1.2 : Int), .int .u64 (d.2 : Int)]
theorem infoStr : (Tryz.prog.info? 9).map (fun i => (i.zero, i.size, i.bytes)) = some (some (.string ⟨#[]⟩), 1, 16) := by kernel_rfl
theorem infoDot : (Tryz.prog.info? 27).map (fun i => (i.zero, i.size, i.bytes)) = some (some (.agg #[.int .u8 0, .int .u32 0, .int .u64 0]), 3, 16) := by kernel_rfl
theorem grownOwn {W w1 w2 : World} {row row2 : Option Nat} (h : W.grownBy w1 row) (h2 : w1.grownBy w2 row2) (hr : ∀ k, row2 = some k → W.heap.size ≤ k) : W.grownBy w2 row :=
 ⟨h2.os.trans h.os, h2.tape.trans h.tape, h2.output.trans h.output, Nat.le_trans h.size h2.size, fun k hk hne => (h2.block k (Nat.lt_of_lt_of_le hk h.size) (fun e => by have := hr k e.symm; omega)).trans (h.block k hk hne)⟩
theorem drop_one {α : Type} {l : List α} {k : Nat} {s : α} (h : l[k]? = some s) : l.drop k = s :: l.drop (k + 1) := by
 obtain ⟨hk, rfl⟩ := List.getElem?_eq_some_iff.1 h
 exact List.drop_eq_getElem_cons hk
theorem take_one {α : Type} {l : List α} {k : Nat} {s : α} (h : l[k]? = some s) : l.take (k + 1) = l.take k ++ [s] := by
 obtain ⟨hk, rfl⟩ := List.getElem?_eq_some_iff.1 h
 exact List.take_succ_eq_append_getElem hk
end Go.Proofs.YthbkieghkfpbhaaGreat
namespace Go.Proofs.YthbkieghkfpbhaaGreat
open Go.RowKit Go.Maps
theorem actLaw : Keyed Tryz.prog 24 := .of_law (deep_law_gate (by kernel_rfl) (of_decide_eq_true (by kernel_rfl)) (of_decide_eq_true (by kernel_rfl)) (by kernel_rfl) (by rw [Tryz.underlying24]))
abbrev kl (a : Dt.Ac) : Lit := .string (keyBytes [.int .u8 (a.1 : Int), .int .u32 (a.2 : Int)])
def okAc (a : Dt.Ac) : Prop := a.1 < 256 ∧ a.2 < 4294967296
theorem types_size : ∃ m, Tryz.prog.types.size = m + 1 := ⟨Tryz.prog.types.size - 1, by kernel_rfl⟩
theorem keyType_act : Tryz.prog.keyType 24 = true := by kernel_rfl
theorem cells_act : Tryz.prog.cellsOf 24 = 2 := by kernel_rfl
theorem cells_u8 : Tryz.prog.cellsOf 5 = 1 := by kernel_rfl
theorem cells_u32 : Tryz.prog.cellsOf 22 = 1 := by kernel_rfl
theorem keyOf_act {a : Dt.Ac} (h : okAc a) : keyOf Tryz.prog 24 (acV a) = some (kl a) := by
 obtain ⟨m, hm⟩ := types_size
 have wa : (Lit.int .u8 (a.1 : Int)).wf = true := by have := h.1; go_wf
 have wb : (Lit.int .u32 (a.2 : Int)).wf = true := by have := h.2; go_wf
 unfold keyOf
 simp only [Tryz.underlying24]
 rw [if_pos (by simp [keyType_act, Value.formed, Tryz.underlying24, cells_act]), hm]
 unfold Program.keyLits
 simp only [Tryz.underlying24, Value.cells]
 rw [if_pos (by simp [cells_act])]
 simp [Program.keyLits, cells_u8, cells_u32, wa, wb]
theorem keyLits_int {t : TypeId} {k : IntKind} {m : Nat} {c : Value} {L : List Lit} (ht : Tryz.prog.underlying t = some (.int k)) (h : Tryz.prog.keyLits (m + 1) t [c] = some L) : ∃ n, c = .int k n ∧ (Lit.int k n).wf = true ∧ L = [.int k n] := by
 unfold Program.keyLits at h
 simp only [ht] at h
 cases c with
 | int q n =>
  simp only at h
  by_cases hq : q = k ∧ (Lit.int k n).wf = true
  ·rw [if_pos hq] at h
   obtain ⟨rfl, hw⟩ := hq
   exact ⟨n, rfl, hw, by simpa using h.symm⟩
  ·rw [if_neg hq] at h; cases h
 | _ => simp at h
set_option maxRecDepth 100000 in
theorem keyOf_act_inv {v : Value} {l : Lit} (h : keyOf Tryz.prog 24 v = some l) : ∃ a, okAc a ∧ v = acV a ∧ l = kl a := by
 obtain ⟨xs, L, rfl, hl, rfl⟩ := keyOf_top (by rw [Tryz.underlying24]) h
 obtain ⟨m, hm⟩ := types_size
 obtain ⟨m', rfl⟩ : ∃ m', m = m' + 1 := ⟨m - 1, by have h2 : 2 ≤ Tryz.prog.types.size := of_decide_eq_true (by kernel_rfl); omega⟩
 rw [hm] at hl
 unfold Program.keyLits at hl
 simp only [Tryz.underlying24] at hl
 obtain ⟨xs⟩ := xs
 simp only at hl
 split at hl
 ·rename_i hc
  rw [cells_act] at hc
  match xs, hc with
  | [c0, c1], _ =>
   simp [cells_u8, cells_u32] at hl
   cases h5 : Tryz.prog.keyLits (m' + 2) 5 [c0] with
   | none => rw [h5] at hl; cases hl
   | some L0 =>
    rw [h5] at hl
    cases h6 : Tryz.prog.keyLits (m' + 2) 22 [c1] with
    | none => rw [h6] at hl; cases hl
    | some L1 =>
     rw [h6] at hl
     obtain ⟨x, rfl, wx, rfl⟩ := keyLits_int (m := m' + 1) Tryz.underlying5 h5
     obtain ⟨y, rfl, wy, rfl⟩ := keyLits_int (m := m' + 1) Tryz.underlying22 h6
     have bx := bounds_u8 wx
     have bY := bounds_u32 wy
     obtain ⟨x, rfl⟩ := Int.eq_ofNat_of_zero_le bx.1
     obtain ⟨y, rfl⟩ := Int.eq_ofNat_of_zero_le bY.1
     simp at hl
     subst hl
     exact ⟨(x, y), ⟨by simp only; omega, by simp only; omega⟩, rfl, rfl⟩
 ·cases hl
theorem kl_inj {a c : Dt.Ac} (ha : okAc a) (hc : okAc c) (h : kl a = kl c) : a = c := by
 have h1 := keyOf_act ha
 rw [h] at h1
 have h2 := actLaw.inj h1 (keyOf_act hc)
 simp only [Value.agg.injEq, Array.mk.injEq, List.cons.injEq, Value.int.injEq, true_and, and_true] at h2
 obtain ⟨a1, a2⟩ := a; obtain ⟨c1, c2⟩ := c
 simp only at h2
 simp only [Prod.mk.injEq]; omega
def Nums (w : World) (b n : Nat) (D : DataW Unit) (f : Dt.Ac → Nat) : Prop :=
 w.ownsMap Tryz.prog 24 (plainElem Tryz.prog 25) b n D ∧ ∀ a, okAc a → D.atKey (kl a) (.lit (.int .u64 0)) = .lit (.int .u64 (f a : Nat))
theorem zeroU64 (w : World) : (zeroValue 25).run Tryz.prog w = .ok (.int .u64 0) w := by kernel_rfl
theorem Nums.made (w : World) : Nums (w.alloc (.map #[] 0)) w.heap.size 0 (.map []) (fun _ => 0) := ⟨World.ownsMap_made _ _ _ _, fun _ _ => rfl⟩
theorem Nums.kept {w w' : World} {b n : Nat} {D : DataW Unit} {f : Dt.Ac → Nat} {row : Option Nat} (h : Nums w b n D f) (hg : w.grownBy w' row) (hne : some b ≠ row) : Nums w' b n D f := ⟨h.1.kept hg hne, h.2⟩
theorem Nums.below {w w' : World} {b n : Nat} {D : DataW Unit} {f : Dt.Ac → Nat} (h : Nums w b n D f) (hb : Below w.heap.size w w') : Nums w' b n D f := h.kept (row := none) ⟨hb.os, hb.tape, hb.output, hb.size, fun k hk _ => hb.block k hk⟩ (by simp)
theorem Nums.lt {w : World} {b n : Nat} {D : DataW Unit} {f : Dt.Ac → Nat} (h : Nums w b n D f) : b < w.heap.size := h.1.lt
theorem Nums.lookup {w : World} {b n : Nat} {D : DataW Unit} {f : Dt.Ac → Nat} (h : Nums w b n D f) {a : Dt.Ac} (ha : okAc a) :
  (Instr.lookup 99 (.map (some b)) (acV a) false).run Tryz.prog w = .ok (.int .u64 (f a : Nat)) w := by
 obtain ⟨c, hrun, hat, _⟩ := h.1.lookup_int actLaw Tryz.underlying99 Tryz.underlying25 (zeroU64 w) (keyOf_act ha)
 rw [h.2 a ha] at hat
 simp only [DataW.lit.injEq, Lit.int.injEq, true_and] at hat
 rw [hrun, hat]
theorem Nums.bound {w : World} {b n : Nat} {D : DataW Unit} {f : Dt.Ac → Nat} (h : Nums w b n D f) {a : Dt.Ac} (ha : okAc a) : f a < 18446744073709551616 := by
 obtain ⟨c, hrun, hat, hwf⟩ := h.1.lookup_int actLaw Tryz.underlying99 Tryz.underlying25 (zeroU64 w) (keyOf_act ha)
 rw [h.2 a ha] at hat
 simp only [DataW.lit.injEq, Lit.int.injEq, true_and] at hat
 subst hat
 have := bounds_u64 hwf
 omega
def upd (f : Dt.Ac → Nat) (a : Dt.Ac) (x : Nat) : Dt.Ac → Nat := fun c => if c = a then x else f c
theorem Nums.update {w : World} {b n : Nat} {D : DataW Unit} {f : Dt.Ac → Nat} (h : Nums w b n D f) {a : Dt.Ac} (ha : okAc a) {x : Nat} (hx : x < 18446744073709551616) (hn : n < maxLen) :
  ∃ w', (Instr.mapUpdate 99 (.map (some b)) (acV a) (.int .u64 (x : Nat))).run Tryz.prog w = .ok () w' ∧ Nums w' b (n + 1) (D.put (kl a) (.lit (.int .u64 (x : Nat)))) (upd f a x) ∧ w.grownBy w' (some b) := by
 have hwf : (Lit.int .u64 (x : Int)).wf = true := by go_wf
 obtain ⟨w', h1, h2, h3⟩ := h.1.update actLaw Tryz.underlying99 hn (keyOf_act ha) (plainElem_int Tryz.underlying25 hwf)
 refine ⟨w', h1, ⟨h2, fun c hc => ?_⟩, h3⟩
 have hm : IsMap D := by obtain ⟨es, e, _⟩ := h.1.canon actLaw; exact ⟨es, e⟩
 unfold upd
 by_cases e : c = a
 ·subst e
  rw [if_pos rfl, atKey_put_same hm (actLaw.key (keyOf_act hc))]
 ·rw [if_neg e, atKey_put_other (fun g => e (kl_inj hc ha g)), h.2 c hc]
end Go.Proofs.YthbkieghkfpbhaaGreat
