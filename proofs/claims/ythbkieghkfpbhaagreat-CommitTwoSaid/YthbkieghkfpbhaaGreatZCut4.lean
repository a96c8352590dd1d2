import Derived.Test.YthbkieghkfpbhaaGreatZCut2
import Derived.Test.YthbkieghkfpbhaaGreatZOp14
import Derived.Test.YthbkieghkfpbhaaGreatZCmt5
namespace Go.Proofs.YthbkieghkfpbhaaGreat
open Go.RowKit Go.Buf Go.LB
set_option linter.unusedSimpArgs false
set_option linter.unusedVariables false
set_option maxRecDepth 100000 in
set_option maxHeartbeats 1600000 in
theorem ctakeDot_x (p : Nat) (d : Dt.Dot) (hd : Dt.okD d) (R z : List Nat) (er : Nat) (W : World) (h : RdX W p (dotE d ++ R) z er) :
  Calls Tryz.prog 33 #[.pointer (some ⟨p, 0, none⟩)] W fun e w' => ∃ d' er', e = .returned (dotV d') ∧ Dt.okD d' ∧ (er' = 0 → d' = d ∧ er = 0) ∧ RdX w' p R z er' ∧ W.grownBy w' (some p) := by
 obtain ⟨⟨r, i⟩, s⟩ := d
 obtain ⟨h1, h2, h3⟩ := hd
 simp only at h1 h2 h3
 have hplt := h.lt
 have hh : RdX W p (Cd.num r ++ (Cd.num i ++ (Cd.num s ++ R))) z er := by
  have e : dotE ((r, i), s) ++ R = Cd.num r ++ (Cd.num i ++ (Cd.num s ++ R)) := by simp only [dotE, List.append_assoc]
  rw [← e]; exact h
 have HH := Lib.hid hh; have H3 := Lib.hid h3
 clear h hh h3
 go_enter Tryz.func33, Tryz.ntmps33
 go_wp2_with fail
 refine (Num_x r (by omega) (HH.out.below (below_box3 _ _ _))).mono ?_
 rintro e w1 ⟨r1, e1, rfl, hv1, hr1, hg1⟩
 have hb1 : r1 < 256 := by omega
 have hw1 : IntKind.u8.wrap (r1 : Int) = (r1 : Int) := by simp [IntKind.wrap, IntKind.bits, IntKind.signed]; omega
 have HV1 := Lib.hid hv1; have HR1 := Lib.hid hr1; have HG1 := Lib.hid hg1; have hs1 := hg1.size
 clear hr1 hv1
 go_wp2_with fail
 refine (Num_x i (by omega) HR1.out).mono ?_
 rintro e w2 ⟨i1, e2, rfl, hv2, hr2, hg2⟩
 have hb2 : i1 < 4294967296 := by omega
 have hw2 : IntKind.u32.wrap (i1 : Int) = (i1 : Int) := by simp [IntKind.wrap, IntKind.bits, IntKind.signed]; omega
 have HV2 := Lib.hid hv2; have HR2 := Lib.hid hr2; have HG2 := Lib.hid (grownR HG1.out hg2); have hs2 := hg2.size
 clear hr2 hv2
 go_wp2_with fail
 refine (Num_x s (by have := H3.out; omega) HR2.out).mono ?_
 rintro e w3 ⟨s1, e3, rfl, hv3, hr3, hg3⟩
 have HV3 := Lib.hid hv3; have HR3 := Lib.hid hr3; have HG3 := Lib.hid (grownR HG2.out hg3); have hs3 := hg3.size
 clear hr3 hv3
 have hblk := boxKept HG3.out hplt
 have hc0 : w3.cell? ⟨W.heap.size, 0, none⟩ = some (.int .u8 0) := by rw [cell_of_row w3 W.heap.size 0 _ _ _ hblk]; rfl
 have hc1 : w3.cell? ⟨W.heap.size, 1, none⟩ = some (.int .u32 0) := by rw [cell_of_row w3 W.heap.size 1 _ _ _ hblk]; rfl
 have hc2 : w3.cell? ⟨W.heap.size, 2, none⟩ = some (.int .u64 0) := by rw [cell_of_row w3 W.heap.size 2 _ _ _ hblk]; rfl
 have hf0 := frozen_of_row w3 W.heap.size 0 _ _ hblk
 have hf1 := frozen_of_row w3 W.heap.size 1 _ _ hblk
 have hf2 := frozen_of_row w3 W.heap.size 2 _ _ hblk
 have HGW := Lib.hid (grownR (grown_of_below (row := some p) (below_box3 W _ _)) HG3.out)
 clear hblk
 go_wp2_with fail
 refine bodyPost_ret (v := dotV ((r1, i1), s1)) (by simp [results, Tryz.results33, go_sem, hc0, hc1, hc2]) rfl ⟨((r1, i1), s1), e3, rfl, ⟨hb1, hb2, ?_⟩, ?_, ?_, ?_⟩
 ·have := HV3.out; have := H3.out; simp only; omega
 ·intro h0
  have a3 := HV3.out; have a2 := HV2.out; have a1 := HV1.out
  rcases a3 with ⟨rfl, _, rfl⟩ | ⟨_, h⟩
  ·rcases a2 with ⟨rfl, _, rfl⟩ | ⟨_, h⟩
   ·rcases a1 with ⟨rfl, _, rfl⟩ | ⟨_, h⟩
    ·exact ⟨rfl, rfl⟩
    ·exact absurd rfl h
   ·exact absurd rfl h
  ·exact absurd h0 h
 ·exact ((HR3.out.setCell hplt _ _).setCell hplt _ _).setCell hplt _ _
 ·exact grownCell (grownCell (grownCell HGW.out (Nat.le_refl _) _ _) (Nat.le_refl _) _ _) (Nat.le_refl _) _ _
set_option maxRecDepth 100000 in
set_option maxHeartbeats 1600000 in
theorem clist_x (p : Nat) (b : Nat) (l : List Dt.Dot) (n most : Nat) (hln : l.length = n) (hn : n ≤ most) (hm : most ≤ 1000) (hok : ∀ d ∈ l, Dt.okD d) (R z : List Nat) (er : Nat) (W : World) (hbp : p ≠ b) (hcell : W.cell? ⟨b, 0, none⟩ = some (.pointer (some ⟨p, 0, none⟩))) (h : RdX W p (Cd.num n ++ (l.flatMap dotE ++ R)) z er) :
  Calls Tryz.prog 52 #[.int .u64 most, .pointer (some ⟨b, 0, none⟩)] W fun e w' => ∃ v l' er', e = .returned v ∧ OB 27 3 encT W.heap.size w' v l' ∧ l'.length ≤ most ∧ (∀ d ∈ l', Dt.okD d) ∧ (er' = 0 → l' = l ∧ er = 0) ∧ RdX w' p R z er' ∧ W.grownBy w' (some p) := by
 have H := Lib.hid h; have HLn := Lib.hid hln; have HOk := Lib.hid hok
 have hplt := h.lt
 have hblt := World.block_lt_of_cell? _ _ hcell
 obtain ⟨i0, hi, hz0, hz1, hz2⟩ := info_parts infoDot
 have HI := Lib.hid hi; have HZ0 := Lib.hid hz0; have HZ1 := Lib.hid hz1; have HZ2 := Lib.hid hz2
 clear h hln hok hi hz0 hz1 hz2
 go_enter Tryz.func52, Tryz.ntmps52
 go_wp2_with fail
 refine (Num_x n (by omega) H.out).mono ?_
 rintro e w1 ⟨v, er1, rfl, hv, hr, hg⟩
 have hle := le_of_x hv
 obtain ⟨l2, hl2, hsame, hin, hr2⟩ := many_x l HLn.out hv hr
 have HL2 := Lib.hid hl2; have HSame := Lib.hid hsame; have HR := Lib.hid hr2; have HG := Lib.hid hg; have HIn := Lib.hid hin; have hg1 := hg.size
 have hdec : decide (most < v) = false := by simp; omega
 have hcell1 := hg.cell hcell (by simpa using fun e => hbp e.symm)
 clear hr hg hv hl2 hsame hin hr2
 go_wp2_with fail
 go_loopw [5, 14] (fun u i wr => ∃ (k erk : Nat) (l' : List Dt.Dot), k ≤ v ∧ i = .int .u64 k ∧ l'.length = k ∧ (∀ d ∈ l', Dt.okD d) ∧ OB 27 3 encT W.heap.size wr u l' ∧ (erk = 0 → l' = l2.take k ∧ er1 = 0) ∧ RdX wr p ((l2.drop k).flatMap dotE ++ R) z erk ∧ W.grownBy wr (some p)) (fun _ i _ => v - (intOf i).toNat)
 case atStart => exact ⟨0, er1, [], Nat.zero_le _, rfl, rfl, by simp, OB.nil HG.out.size, fun h => ⟨by simp, h⟩, by simpa using HR.out, HG.out⟩
 case round =>
  obtain ⟨k, erk, l', hk, rfl, hlk, hokk, hob, hsk, hrd, hgw⟩ := hrel
  have HOb := Lib.hid hob; have HRd := Lib.hid hrd; have HGw := Lib.hid hgw; have HOkk := Lib.hid hokk; have HSk := Lib.hid hsk; have HLk := Lib.hid hlk
  have hcell2 := hgw.cell hcell (by simpa using fun e => hbp e.symm)
  clear hob hrd hgw hokk hsk hlk
  by_cases hlt : k < v
  ·obtain ⟨s, hs⟩ : ∃ s, l2[k]? = some s := ⟨l2[k]'(by rw [HL2.out]; exact hlt), List.getElem?_eq_getElem _⟩
   have HS := Lib.hid hs; have HO := Lib.hid (HOk.out s (HIn.out s (List.mem_of_getElem? hs)))
   have hrd : RdX wr p (dotE s ++ ((l2.drop (k + 1)).flatMap dotE ++ R)) z erk := by
    have := HRd.out
    rw [drop_one hs, List.flatMap_cons, List.append_assoc] at this
    exact this
   have HRd2 := Lib.hid hrd
   clear hs hrd
   have hlk : l'.length ≤ 1000 := by rw [HLk.out]; omega
   go_wp2_with fail
   refine (ctakeDot_x p s HO.out _ z erk _ HRd2.out).mono ?_
   rintro e w2 ⟨d1, er2, rfl, hok1, hs1, hr, hg⟩
   have hob2 := HOb.out.grown hg (fun q hq => by cases hq; exact hplt)
   have HOb2 := Lib.hid hob2; have HR2 := Lib.hid hr; have HG2 := Lib.hid hg; have HOk1 := Lib.hid hok1; have HS1 := Lib.hid hs1
   have hwl := hob2.1
   clear hr hg hob2 hok1 hs1
   go_wp2_with (refine wpList_append_ob rfl (.tmp 16) (.tmp 19) 28 rfl i0 (.agg #[.int .u8 0, .int .u32 0, .int .u64 0]) 16 Tryz.underlying28 HI.out HZ0.out HZ1.out HZ2.out rfl (by decide) rfl (HOb2.out.alloc _) ⟨w2.heap.size, 0, none⟩ 1 d1 rfl rfl (fun j u hu => by match j, hu with | 0, hu => (simp [encT] at hu; subst hu; simp [Addr.add]) | 1, hu => (simp [encT] at hu; subst hu; simp [Addr.add]) | 2, hu => (simp [encT] at hu; subst hu; simp [Addr.add]) | j + 3, hu => simp [encT] at hu) (fun u hu => by simp [encT] at hu; rcases hu with rfl | rfl | rfl <;> rfl) (by omega) (by omega) ?_; intro v3 w3 h3 g3)
   have hown : ∀ q, u5.ownBlock = some q → W.heap.size ≤ q := fun q hq => (HOb2.out.own q hq).1
   have H3 := Lib.hid h3; have G3 := Lib.hid (grownOwn (grownA (grownR HGw.out HG2.out) _) g3 hown)
   have R3 := Lib.hid ((HR2.out.below (below_box3 _ _ _)).grown g3 (fun q hq => Nat.lt_of_lt_of_le hplt (hown q hq)))
   clear h3 g3
   go_wp2_with fail
   go_roundw
   case rel => exact ⟨k + 1, er2, l' ++ [d1], by omega, by go_num, snoc_len HLk.out _, ok_snoc HOkk.out HOk1.out, H3.out, same_snoc HS.out HSk.out HS1.out, R3.out, G3.out⟩
   case measure => simp [intOf]; omega
  ·obtain rfl : k = v := by omega
   have HRd2 := Lib.hid (show RdX wr p R z erk by have := HRd.out; rwa [List.drop_of_length_le (by rw [HL2.out]; omega), List.flatMap_nil, List.nil_append] at this)
   clear HRd
   go_wp2_with fail
   go_ret
   refine ⟨_, l', erk, rfl, HOb.out, by rw [HLk.out]; omega, HOkk.out, fun h0 => ?_, HRd2.out, HGw.out⟩
   obtain ⟨e1, e2⟩ := HSk.out h0
   obtain ⟨e3, e4⟩ := HSame.out e2
   exact ⟨by rw [e1, List.take_of_length_le (by rw [HL2.out]; omega), e3], e4⟩
end Go.Proofs.YthbkieghkfpbhaaGreat
namespace Go.Proofs.YthbkieghkfpbhaaGreat
open Go.RowKit Go.Buf Go.LB
set_option linter.unusedSimpArgs false
set_option linter.unusedVariables false
set_option maxRecDepth 100000 in
set_option maxHeartbeats 1600000 in
theorem cputDot_any (B : Nat) (v : Value) (l : List Nat) (row : Option Nat) (d : Dt.Dot) (W : World) (hd : Dt.okD d) (hb : BB B W v l row) (hsm : l.length + 40 ≤ 140737488355328) :
  Calls Tryz.prog 27 #[v, dotV d] W (RetBB B W row (l ++ dotE d)) := by
 obtain ⟨⟨r, i⟩, s⟩ := d
 obtain ⟨hr, hi, hs⟩ := hd
 simp only at hr hi hs
 have l1 := num_lenO r
 have l2 := num_lenO i
 have ht0 : BTo B W row W.heap.size (W.alloc (.cells #[.int .u8 (r : Int), .int .u32 (i : Int), .int .u64 (s : Int)] 27)).drew v l row :=
  ⟨(hb.alloc _).below (Below.refl _ _).drew, ⟨rfl, rfl, rfl, by simp, fun k hk _ => Below.heap_alloc W _ k hk⟩, New.refl _ _, fun k hk => by have := (hb.2.row_le k hk).2; omega, by simp⟩
 have Hsm := Lib.hid hsm; have Hs := Lib.hid hs; have T0 := Lib.hid ht0; have L1 := Lib.hid l1; have L2 := Lib.hid l2
 clear hb hsm hs ht0 l1 l2
 go_enter Tryz.func27, Tryz.ntmps27
 go_wp2
 have hw1 : IntKind.u64.wrap (r : Int) = (r : Int) := by simp [IntKind.wrap, IntKind.bits, IntKind.signed]; omega
 have hw2 : IntKind.u64.wrap (i : Int) = (i : Int) := by simp [IntKind.wrap, IntKind.bits, IntKind.signed]; omega
 go_region_held3 (fun w' : World => w'.cell? ⟨W.heap.size, 0, none⟩ = some (.int .u8 (r : Int)) ∧ w'.cell? ⟨W.heap.size, 1, none⟩ = some (.int .u32 (i : Int)) ∧ w'.cell? ⟨W.heap.size, 2, none⟩ = some (.int .u64 (s : Int)))
  (first
   | assumption
   | go_keep)
  (first
   | (go_at_call 31; (with_reducible refine (num_bto T2.out s Hs.out (by have := Hsm.out; have := L1.out; have := L2.out; simp; omega) (by assumption)).mono ?_); rintro e w3 ⟨v3, row3, rfl, hb3, hS⟩; have T3 := Lib.hid hb3; clear hb3)
   | (go_at_call 31; (with_reducible refine (num_bto T1.out i (by omega) (by have := Hsm.out; have := L1.out; simp; omega) (by assumption)).mono ?_); rintro e w2 ⟨v2, row2, rfl, hb2, hS⟩; have T2 := Lib.hid hb2; clear hb2)
   | (go_at_call 31; (with_reducible refine (num_bto T0.out r (by omega) (by have := Hsm.out; omega) (by assumption)).mono ?_); rintro e w1 ⟨v1, row1, rfl, hb1, hS⟩; have T1 := Lib.hid hb1; clear hb1))
 clear hw1 hw2
 go_wp2
 go_ret
 exact ⟨v3, row3, rfl, by have := T3.out.bb; unfold dotE; rw [← List.append_assoc, ← List.append_assoc]; exact this, T3.out.grown, T3.out.new⟩
theorem cputDot_pt {B : Nat} {X w : World} {v : Value} {l : List Nat} (h : PT B X w v l) (hB : B ≤ X.heap.size) (d : Dt.Dot) (hd : Dt.okD d) (hsm : l.length + 40 ≤ 140737488355328) :
  Calls Tryz.prog 27 #[v, dotV d] w fun e w' => ∃ v', e = .returned v' ∧ PT B X w' v' (l ++ dotE d) := by
 obtain ⟨⟨row, hb⟩, h⟩ := h
 exact (cputDot_any B v l row d w hd hb hsm).mono fun e w' hr => PT.ret hb h hB hr
def listE (l : List Dt.Dot) : List Nat := Cd.num l.length ++ l.flatMap dotE
theorem flatE_length (l : List Dt.Dot) : (l.flatMap dotE).length ≤ 30 * l.length := by
 induction l with
 | nil => simp
 | cons d l ih => have := dotE_length d; simp only [List.flatMap_cons, List.length_append, List.length_cons]; omega
theorem upE_len (l : List Dt.Dot) (k : Nat) (n : Nat) (hl : l.length = n) : (upE dotE l k).length ≤ 30 * n := by
 have h1 : (l.take k).length ≤ n := by rw [List.length_take]; omega
 have := flatE_length (l.take k)
 unfold upE; omega
theorem listE_length (l : List Dt.Dot) : (listE l).length ≤ 10 + 30 * l.length := by
 have h1 := num_lenO l.length
 have h2 := flatE_length l
 unfold listE; rw [List.length_append]; omega
set_option maxRecDepth 100000 in
set_option maxHeartbeats 3200000 in
theorem cputDots_pt {X w : World} {v : Value} {l : List Nat} (h : PT X.heap.size X w v l) (a : Option Addr) (n cap : Nat) (L : List Dt.Dot) (hr : VRow X a cap L) (hl : L.length = n) (hn : n ≤ 1000) (hlen : l.length ≤ 100000) :
  Calls Tryz.prog 29 #[v, .slice a n cap] w fun e w' => ∃ v', e = .returned v' ∧ PT X.heap.size X w' v' (l ++ listE L) := by
 have hle := hr.le
 have hcap := hr.cap
 have HPt := Lib.hid h; have HR := Lib.hid hr; have HL := Lib.hid hl
 have hw3 : IntKind.u64.wrap (n : Int) = (n : Int) := by simp [IntKind.wrap, IntKind.bits, IntKind.signed]; omega
 obtain ⟨A, hA⟩ : ∃ A, A = l ++ Cd.num n := ⟨_, rfl⟩
 have hAl : A.length ≤ 100010 := by rw [hA, List.length_append]; have := num_lenO n; omega
 have hfin : l ++ listE L = A ++ L.flatMap dotE := by rw [hA, listE, hl, List.append_assoc]
 have HLen := Lib.hid hlen; have HA := Lib.hid hA; have HAl := Lib.hid hAl; have HFin := Lib.hid hfin
 clear h hr hl hlen hA hAl hfin hle
 go_enter Tryz.func29, Tryz.ntmps29
 go_wp2_with fail
 refine (num_pt HPt.out (Nat.le_refl _) n (by omega) (by have := HLen.out; omega)).mono ?_
 rintro e w1 ⟨v1, rfl, h1⟩
 rw [← HA.out] at h1
 have H1 := Lib.hid h1; clear h1
 go_wp2_with fail
 go_loopw [0, 6, 14] (fun u _ i wr => ∃ j : Nat, j ≤ n ∧ i = .int .i64 j ∧ PT X.heap.size X wr u (A ++ upE dotE L j)) (fun _ _ i _ => n - (intOf i).toNat)
 case atStart => exact ⟨0, Nat.zero_le _, rfl, by rw [upE_zero, List.append_nil]; exact H1.out⟩
 case round =>
  obtain ⟨j2, hj2, rfl, hpt⟩ := hrel
  have HPt := Lib.hid hpt; clear hpt
  by_cases hlt2 : j2 < n
  ·obtain ⟨x, hx⟩ := getD_some (l := L) (i := j2) (by rw [HL.out]; exact hlt2)
   have hokx := HR.out.ok x (List.mem_of_getElem? hx)
   have hr1 := HR.out.below HPt.out.below
   obtain ⟨b, off, rfl, hb, hc⟩ := hr1.at (by rw [HL.out]; omega)
   obtain ⟨q0, q1, q2⟩ := hc j2 x hx
   have HS := Lib.hid (upE_succ (f := dotE) hx); have HO := Lib.hid hokx
   clear hr1 hc hx hokx
   obtain ⟨⟨r, i⟩, s⟩ := x
   simp only at q0 q1 q2
   have i0 : (0 : Int) ≤ (j2 : Int) := by omega
   have i1 : (j2 : Int) < (n : Int) := by omega
   have HQ := Lib.hid (upE_len L j2 n HL.out)
   go_wp2_with fail
   refine (cputDot_pt (HPt.out.alloc (Nat.le_refl _) _) (Nat.le_refl _) ((r, i), s) HO.out (by have := HQ.out; have := HAl.out; rw [List.length_append]; omega)).mono ?_
   rintro e w7 ⟨v7, rfl, h7⟩
   rw [List.append_assoc, ← HS.out] at h7
   have H7 := Lib.hid h7; clear h7
   go_wp2_with fail
   go_roundw
   case rel => exact ⟨j2 + 1, by omega, by go_num, H7.out⟩
   case measure => simp [intOf]; omega
  ·have hf := HPt.out
   rw [upE_all dotE (by rw [HL.out]; omega), ← HFin.out] at hf
   have U7 := Lib.hid hf
   clear hf HPt H1
   go_wp2_with fail
   go_ret
   exact ⟨_, rfl, U7.out⟩
end Go.Proofs.YthbkieghkfpbhaaGreat
namespace Go.Proofs.YthbkieghkfpbhaaGreat
open Go.RowKit Go.Buf Go.LB
set_option linter.unusedSimpArgs false
set_option linter.unusedVariables false
def cmtE (c : Cm.C) : List Nat := dotE c.dot ++ listE c.par ++ listE c.vv ++ Cd.num c.time ++ opE c.op
set_option maxRecDepth 100000 in
set_option maxHeartbeats 6400000 in
theorem cput_any (r i s : Nat) (qa : Option Addr) (ql qc : Nat) (va : Option Addr) (vl vc : Nat) (tm k : Nat) (pa : Option Addr) (pl pc : Nat) (n : Int) (t : ByteArray) (da : Option Addr) (dl dc : Nat) (lq lv : List Dt.Dot) (lp : List ByteArray) (ld : List Dt.Dot) (W : World) (hq : VRow W qa qc lq) (hql : lq.length = ql) (hv : VRow W va vc lv) (hvl : lv.length = vl) (hp : SRow W pa pc lp) (hpl : lp.length = pl) (hd : VRow W da dc ld) (hdl : ld.length = dl) (hok : Dt.okD ((r, i), s)) (htm : tm < 18446744073709551616) (hk : k < 256) (hn1 : -9223372036854775808 ≤ n) (hn2 : n ≤ 9223372036854775807) (hqn : ql ≤ 64) (hvn : vl ≤ 64) (hsm : Om.small ⟨k, lp, n, t, ld⟩) :
  Calls Tryz.prog 11 #[.slice none 0 0, cmV r i s qa ql qc va vl vc tm k pa pl pc n t da dl dc] W fun e w' => ∃ v row, e = .returned v ∧ BB W.heap.size w' v (cmtE ⟨((r, i), s), lq, lv, tm, ⟨k, lp, n, t, ld⟩⟩) row ∧ Below W.heap.size W w' := by
 have HBox := Lib.hid (below_box W #[.int .u8 (r : Int), .int .u32 (i : Int), .int .u64 (s : Int), .slice qa ql qc, .slice va vl vc, .int .u64 (tm : Int), .int .u8 (k : Int), .slice pa pl pc, .int .i64 n, .string t, .slice da dl dc] 34)
 have HQ := Lib.hid (hq.below HBox.out); have HQl := Lib.hid hql; have HV := Lib.hid (hv.below HBox.out); have HVl := Lib.hid hvl; have HP := Lib.hid (hp.below HBox.out); have HPl := Lib.hid hpl; have HD := Lib.hid (hd.below HBox.out); have HDl := Lib.hid hdl
 obtain ⟨A1, hA1⟩ : ∃ A, A = ([] : List Nat) ++ dotE ((r, i), s) := ⟨_, rfl⟩
 obtain ⟨A2, hA2⟩ : ∃ A, A = A1 ++ listE lq := ⟨_, rfl⟩
 obtain ⟨A3, hA3⟩ : ∃ A, A = A2 ++ listE lv := ⟨_, rfl⟩
 obtain ⟨A4, hA4⟩ : ∃ A, A = A3 ++ Cd.num tm := ⟨_, rfl⟩
 have e1 : A1.length ≤ 30 := by rw [hA1]; exact dotE_length _
 have e2 : A2.length ≤ 3000 := by rw [hA2, List.length_append]; have := listE_length lq; omega
 have e3 : A3.length ≤ 6000 := by rw [hA3, List.length_append]; have := listE_length lv; omega
 have e4 : A4.length ≤ 6010 := by rw [hA4, List.length_append]; have := num_lenO tm; omega
 have hfin : cmtE ⟨((r, i), s), lq, lv, tm, ⟨k, lp, n, t, ld⟩⟩ = A4 ++ opE ⟨k, lp, n, t, ld⟩ := by rw [hA4, hA3, hA2, hA1]; simp [cmtE]
 have HA1 := Lib.hid hA1; have HA2 := Lib.hid hA2; have HA3 := Lib.hid hA3; have HA4 := Lib.hid hA4; have HE1 := Lib.hid e1; have HE2 := Lib.hid e2; have HE3 := Lib.hid e3; have HE4 := Lib.hid e4; have HFin := Lib.hid hfin
 have HOk := Lib.hid hok; have HTm := Lib.hid htm; have HN1 := Lib.hid hn1; have HN2 := Lib.hid hn2; have HSm := Lib.hid hsm; have HQn := Lib.hid hqn; have HVn := Lib.hid hvn
 clear hq hql hv hvl hp hpl hd hdl hA1 hA2 hA3 hA4 e1 e2 e3 e4 hfin hok htm hn1 hn2 hsm hqn hvn
 go_enter Tryz.func11, Tryz.ntmps11
 go_wp2_with fail
 have HNil := Lib.hid (show ([] : List Nat).length = 0 from rfl)
 have T0 := Lib.hid (show Row (W.alloc (.cells #[.int .u8 (r : Int), .int .u32 (i : Int), .int .u64 (s : Int), .slice qa ql qc, .slice va vl vc, .int .u64 (tm : Int), .int .u8 (k : Int), .slice pa pl pc, .int .i64 n, .string t, .slice da dl dc] 34)).drew none 0 [] ∧ Below (W.alloc (.cells #[.int .u8 (r : Int), .int .u32 (i : Int), .int .u64 (s : Int), .slice qa ql qc, .slice va vl vc, .int .u64 (tm : Int), .int .u8 (k : Int), .slice pa pl pc, .int .i64 n, .string t, .slice da dl dc] 34)).heap.size (W.alloc (.cells #[.int .u8 (r : Int), .int .u32 (i : Int), .int .u64 (s : Int), .slice qa ql qc, .slice va vl vc, .int .u64 (tm : Int), .int .u8 (k : Int), .slice pa pl pc, .int .i64 n, .string t, .slice da dl dc] 34)) (W.alloc (.cells #[.int .u8 (r : Int), .int .u32 (i : Int), .int .u64 (s : Int), .slice qa ql qc, .slice va vl vc, .int .u64 (tm : Int), .int .u8 (k : Int), .slice pa pl pc, .int .i64 n, .string t, .slice da dl dc] 34)).drew from ⟨⟨by simp, by omega, by simp, by simp, by simp⟩, (Below.refl _ _).drew⟩)
 go_region_held3 (fun w' : World => w'.cell? ⟨W.heap.size, 0, none⟩ = some (.int .u8 (r : Int)) ∧ w'.cell? ⟨W.heap.size, 1, none⟩ = some (.int .u32 (i : Int)) ∧ w'.cell? ⟨W.heap.size, 2, none⟩ = some (.int .u64 (s : Int)) ∧ w'.cell? ⟨W.heap.size, 3, none⟩ = some (.slice qa ql qc) ∧ w'.cell? ⟨W.heap.size, 4, none⟩ = some (.slice va vl vc) ∧ w'.cell? ⟨W.heap.size, 5, none⟩ = some (.int .u64 (tm : Int)) ∧ w'.cell? ⟨W.heap.size, 6, none⟩ = some (.int .u8 (k : Int)) ∧ w'.cell? ⟨W.heap.size, 7, none⟩ = some (.slice pa pl pc) ∧ w'.cell? ⟨W.heap.size, 8, none⟩ = some (.int .i64 n) ∧ w'.cell? ⟨W.heap.size, 9, none⟩ = some (.string t) ∧ w'.cell? ⟨W.heap.size, 10, none⟩ = some (.slice da dl dc))
  (first
   | assumption
   | go_keep
   | exact ⟨hc0, hc1, hc2, hc3, hc4, hc5, hc6, hc7, hc8, hc9, hc10⟩)
  (first
   | (go_at_call 27; (with_reducible refine (cputDot_pt T1.out (Nat.le_refl _) ((r, i), s) HOk.out (by simp)).mono ?_); rintro e w2 ⟨v2, rfl, hb2⟩; rw [← HA1.out] at hb2; have hS := cmcells hb2.below; have T2 := Lib.hid hb2; clear hb2)
   | (go_at_call 28; (with_reducible refine (clip_pt T0.out.1 HNil.out T0.out.2 (Nat.le_refl _)).mono ?_); rintro e w1 ⟨v1, rfl, hb1⟩; have hS := cmcells hb1.below; have T1 := Lib.hid hb1; clear hb1))
 have hb := T2.out
 obtain ⟨hc0, hc1, hc2, hc3, hc4, hc5, hc6, hc7, hc8, hc9, hc10⟩ := cmcells hb.below
 have U2 := Lib.hid hb.drew; clear hb T2
 go_wp2_with fail
 go_region_held3 (fun w' : World => w'.cell? ⟨W.heap.size, 0, none⟩ = some (.int .u8 (r : Int)) ∧ w'.cell? ⟨W.heap.size, 1, none⟩ = some (.int .u32 (i : Int)) ∧ w'.cell? ⟨W.heap.size, 2, none⟩ = some (.int .u64 (s : Int)) ∧ w'.cell? ⟨W.heap.size, 3, none⟩ = some (.slice qa ql qc) ∧ w'.cell? ⟨W.heap.size, 4, none⟩ = some (.slice va vl vc) ∧ w'.cell? ⟨W.heap.size, 5, none⟩ = some (.int .u64 (tm : Int)) ∧ w'.cell? ⟨W.heap.size, 6, none⟩ = some (.int .u8 (k : Int)) ∧ w'.cell? ⟨W.heap.size, 7, none⟩ = some (.slice pa pl pc) ∧ w'.cell? ⟨W.heap.size, 8, none⟩ = some (.int .i64 n) ∧ w'.cell? ⟨W.heap.size, 9, none⟩ = some (.string t) ∧ w'.cell? ⟨W.heap.size, 10, none⟩ = some (.slice da dl dc))
  (first
   | assumption
   | go_keep
   | exact ⟨hc0, hc1, hc2, hc3, hc4, hc5, hc6, hc7, hc8, hc9, hc10⟩)
  (first
   | (go_at_call 29; (with_reducible refine (cputDots_pt T3.out va vl vc lv HV.out HVl.out (by have := HVn.out; omega) (by have := HE2.out; omega)).mono ?_); rintro e w4 ⟨v4, rfl, hb4⟩; rw [← HA3.out] at hb4; have hS := cmcells hb4.below; have T4 := Lib.hid hb4; clear hb4)
   | (go_at_call 29; (with_reducible refine (cputDots_pt U2.out qa ql qc lq HQ.out HQl.out (by have := HQn.out; omega) (by have := HE1.out; omega)).mono ?_); rintro e w3 ⟨v3, rfl, hb3⟩; rw [← HA2.out] at hb3; have hS := cmcells hb3.below; have T3 := Lib.hid hb3; clear hb3))
 clear hc0 hc1 hc2 hc3 hc4 hc5 hc6 hc7 hc8 hc9 hc10
 have hb := T4.out
 obtain ⟨hc0, hc1, hc2, hc3, hc4, hc5, hc6, hc7, hc8, hc9, hc10⟩ := cmcells hb.below
 have U4 := Lib.hid hb.drew; clear hb T4
 go_wp2_with fail
 go_region_held3 (fun w' : World => w'.cell? ⟨W.heap.size, 0, none⟩ = some (.int .u8 (r : Int)) ∧ w'.cell? ⟨W.heap.size, 1, none⟩ = some (.int .u32 (i : Int)) ∧ w'.cell? ⟨W.heap.size, 2, none⟩ = some (.int .u64 (s : Int)) ∧ w'.cell? ⟨W.heap.size, 3, none⟩ = some (.slice qa ql qc) ∧ w'.cell? ⟨W.heap.size, 4, none⟩ = some (.slice va vl vc) ∧ w'.cell? ⟨W.heap.size, 5, none⟩ = some (.int .u64 (tm : Int)) ∧ w'.cell? ⟨W.heap.size, 6, none⟩ = some (.int .u8 (k : Int)) ∧ w'.cell? ⟨W.heap.size, 7, none⟩ = some (.slice pa pl pc) ∧ w'.cell? ⟨W.heap.size, 8, none⟩ = some (.int .i64 n) ∧ w'.cell? ⟨W.heap.size, 9, none⟩ = some (.string t) ∧ w'.cell? ⟨W.heap.size, 10, none⟩ = some (.slice da dl dc))
  (first
   | assumption
   | go_keep
   | exact ⟨hc0, hc1, hc2, hc3, hc4, hc5, hc6, hc7, hc8, hc9, hc10⟩)
  (first
   | (go_at_call 30; (with_reducible refine (put_pt T5.out (by have := HE4.out; omega) k hk pa pl pc n HN1.out HN2.out t da dl dc lp ld HP.out HPl.out HD.out HDl.out HSm.out).mono ?_); rintro e w6 ⟨v6, rfl, hb6⟩; rw [← HFin.out] at hb6; have hS := cmcells hb6.below; have T6 := Lib.hid hb6; clear hb6)
   | (go_at_call 31; (with_reducible refine (num_pt U4.out (Nat.le_refl _) tm HTm.out (by have := HE3.out; omega)).mono ?_); rintro e w5 ⟨v5, rfl, hb5⟩; rw [← HA4.out] at hb5; have hS := cmcells hb5.below; have T5 := Lib.hid hb5; clear hb5))
 have hb := T6.out
 clear hc0 hc1 hc2 hc3 hc4 hc5 hc6 hc7 hc8 hc9 hc10
 go_wp2_with fail
 go_ret
 obtain ⟨⟨row, hbb⟩, hbl⟩ := hb
 exact ⟨_, row, rfl, hbb.base HBox.out.size, HBox.out.trans (hbl.mono HBox.out.size)⟩
theorem small_of_cmay {c : Cm.C} (h : Cm.may c = true) : Om.small c.op := small_of_may (Cm.may_parts h).2.1
def NoB (e : Ending) : Prop := e = .returned (.tuple #[.slice none 0 0, .int .i64 2])
def YesB (c : Cm.C) (W : World) (e : Ending) (w' : World) : Prop := ∃ v row, e = .returned (.tuple #[v, .int .i64 0]) ∧ BB W.heap.size w' v (cmtE c) row
set_option maxRecDepth 100000 in
set_option maxHeartbeats 3200000 in
theorem cbytes_any (r i s : Nat) (qa : Option Addr) (ql qc : Nat) (va : Option Addr) (vl vc : Nat) (tm k : Nat) (pa : Option Addr) (pl pc : Nat) (n : Int) (t : ByteArray) (da : Option Addr) (dl dc : Nat) (lq lv : List Dt.Dot) (lp : List ByteArray) (ld : List Dt.Dot) (W : World) (hq : VRow W qa qc lq) (hql : lq.length = ql) (hv : VRow W va vc lv) (hvl : lv.length = vl) (hp : SRow W pa pc lp) (hpl : lp.length = pl) (hd : VRow W da dc ld) (hdl : ld.length = dl) (hok : Dt.okD ((r, i), s)) (htm : tm < 18446744073709551616) (hk : k < 256) (hn1 : -9223372036854775808 ≤ n) (hn2 : n ≤ 9223372036854775807) (hpn : pl ≤ 1000000000) (hdn : dl ≤ 1000000000) (hvn : vl ≤ 100000000) :
  Calls Tryz.prog 6 #[cmV r i s qa ql qc va vl vc tm k pa pl pc n t da dl dc] W fun e w' => (Cm.may ⟨((r, i), s), lq, lv, tm, ⟨k, lp, n, t, ld⟩⟩ = false ∧ NoB e ∨ Cm.may ⟨((r, i), s), lq, lv, tm, ⟨k, lp, n, t, ld⟩⟩ = true ∧ YesB ⟨((r, i), s), lq, lv, tm, ⟨k, lp, n, t, ld⟩⟩ W e w') ∧ Below W.heap.size W w' := by
 have HBox := Lib.hid (below_box W #[.int .u8 (r : Int), .int .u32 (i : Int), .int .u64 (s : Int), .slice qa ql qc, .slice va vl vc, .int .u64 (tm : Int), .int .u8 (k : Int), .slice pa pl pc, .int .i64 n, .string t, .slice da dl dc] 34)
 have HQ := Lib.hid hq; have HQl := Lib.hid hql; have HV := Lib.hid hv; have HVl := Lib.hid hvl; have HP := Lib.hid hp; have HPl := Lib.hid hpl; have HD := Lib.hid hd; have HDl := Lib.hid hdl
 have HOk := Lib.hid hok; have HTm := Lib.hid htm; have HN1 := Lib.hid hn1; have HN2 := Lib.hid hn2
 clear hq hql hv hvl hp hpl hd hdl hok htm hn1 hn2
 go_enter Tryz.func6, Tryz.ntmps6
 go_wp2_with fail
 refine (cmay_any r i s qa ql qc va vl vc tm k pa pl pc n t da dl dc lq lv lp ld _ (HQ.out.below HBox.out) HQl.out (HV.out.below HBox.out) HVl.out (HP.out.below HBox.out) HPl.out (HD.out.below HBox.out) HDl.out hk hpn hdn hvn).mono ?_
 rintro e w1 ⟨rfl, hb⟩
 obtain ⟨hc0, hc1, hc2, hc3, hc4, hc5, hc6, hc7, hc8, hc9, hc10⟩ := cmcells hb
 have HB1 := Lib.hid (HBox.out.trans (hb.mono HBox.out.size)); clear hb
 cases hm : Cm.may ⟨((r, i), s), lq, lv, tm, ⟨k, lp, n, t, ld⟩⟩
 ·have HM := Lib.hid hm; clear hm
  go_wp2_with fail
  exact bodyPost_ret (v := .tuple #[.slice none 0 0, .int .i64 2]) (by simp [results, Tryz.results6, go_sem]) rfl ⟨Or.inl ⟨HM.out, rfl⟩, HB1.out⟩
 ·have HM := Lib.hid hm
  have HPa := Lib.hid (Cm.may_parts hm); have HSm := Lib.hid (small_of_cmay hm); clear hm
  go_wp2_with fail
  refine (cput_any r i s qa ql qc va vl vc tm k pa pl pc n t da dl dc lq lv lp ld _ (HQ.out.below HB1.out) HQl.out (HV.out.below HB1.out) HVl.out (HP.out.below HB1.out) HPl.out (HD.out.below HB1.out) HDl.out HOk.out HTm.out hk HN1.out HN2.out (by have := HPa.out.2.2.1; have h := HQl.out; (try simp only at this); omega) (by have := HPa.out.2.2.2.1; have h := HVl.out; (try simp only at this); omega) HSm.out).mono ?_
  rintro e w2 ⟨v2, row, rfl, hbb, hb⟩
  have HBB := Lib.hid (hbb.base HB1.out.size); have HB2 := Lib.hid (HB1.out.trans (hb.mono HB1.out.size)); clear hbb hb
  clear hc0 hc1 hc2 hc3 hc4 hc5 hc6 hc7 hc8 hc9 hc10
  go_wp2_with fail
  exact bodyPost_ret (v := .tuple #[v2, .int .i64 0]) (by simp [results, Tryz.results6, go_sem]) rfl ⟨Or.inr ⟨HM.out, _, row, rfl, HBB.out⟩, HB2.out⟩
end Go.Proofs.YthbkieghkfpbhaaGreat
