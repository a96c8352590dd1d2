import Derived.Test.YthbkieghkfpbhaaGreatZCmt8
import Derived.Test.YthbkieghkfpbhaaGreatZCut7
import Derived.Test.YthbkieghkfpbhaaGreatZOp3
import Derived.Test.YthbkieghkfpbhaaGreatZBuf
namespace Go.Proofs.YthbkieghkfpbhaaGreat
open Go.RowKit Go.Buf Go.LB
set_option linter.unusedSimpArgs false
set_option linter.unusedVariables false
def CSmall (c : Cm.C) : Prop := Om.small c.op ∧ c.par.length ≤ 100 ∧ c.vv.length ≤ 100
def GreatC (c : Cm.C) (e : Ending) : Prop := ∃ b : Bool, e = .returned (.bool b) ∧ (b = false → CSmall c)
set_option maxRecDepth 100000 in
set_option maxHeartbeats 3200000 in
theorem great11_any (r i s : Nat) (qa : Option Addr) (ql qc : Nat) (va : Option Addr) (vl vc : Nat) (tm k : Nat) (pa : Option Addr) (pl pc : Nat) (n : Int) (t : ByteArray) (da : Option Addr) (dl dc : Nat) (lq lv : List Dt.Dot) (lp : List ByteArray) (ld : List Dt.Dot) (W : World) (hq : VRow W qa qc lq) (hql : lq.length = ql) (hv : VRow W va vc lv) (hvl : lv.length = vl) (hp : SRow W pa pc lp) (hpl : lp.length = pl) (hd : VRow W da dc ld) (hdl : ld.length = dl) :
  Calls Tryz.prog 4 #[cmV r i s qa ql qc va vl vc tm k pa pl pc n t da dl dc] W fun e w' => GreatC ⟨((r, i), s), lq, lv, tm, ⟨k, lp, n, t, ld⟩⟩ e ∧ Below W.heap.size W w' := by
 have hle := hp.le
 have hcap := hp.cap
 rw [hpl] at hle
 have HP := Lib.hid hp; have HPl := Lib.hid hpl; have HQl := Lib.hid hql; have HVl := Lib.hid hvl; have HDl := Lib.hid hdl
 have HBox := Lib.hid (below_box W #[.int .u8 (r : Int), .int .u32 (i : Int), .int .u64 (s : Int), .slice qa ql qc, .slice va vl vc, .int .u64 (tm : Int), .int .u8 (k : Int), .slice pa pl pc, .int .i64 n, .string t, .slice da dl dc] 34)
 clear hq hql hv hvl hp hpl hd hdl
 go_enter Tryz.func4, Tryz.ntmps4
 go_wp2_with fail
 go_loopw [4, 9] (fun _ ii wr => ∃ j : Nat, j ≤ pl ∧ ii = .int .i64 j ∧ (∀ s ∈ lp.take j, s.size ≤ 100) ∧ Below (W.alloc (.cells #[.int .u8 (r : Int), .int .u32 (i : Int), .int .u64 (s : Int), .slice qa ql qc, .slice va vl vc, .int .u64 (tm : Int), .int .u8 (k : Int), .slice pa pl pc, .int .i64 n, .string t, .slice da dl dc] 34)).heap.size (W.alloc (.cells #[.int .u8 (r : Int), .int .u32 (i : Int), .int .u64 (s : Int), .slice qa ql qc, .slice va vl vc, .int .u64 (tm : Int), .int .u8 (k : Int), .slice pa pl pc, .int .i64 n, .string t, .slice da dl dc] 34)) wr) (fun _ ii _ => pl - (intOf ii).toNat)
 case atStart => exact ⟨0, Nat.zero_le _, rfl, by simp, Below.refl _ _⟩
 case round =>
  obtain ⟨j, hj, rfl, hu, hbel⟩ := hrel
  obtain ⟨hc0, hc1, hc2, hc3, hc4, hc5, hc6, hc7, hc8, hc9, hc10⟩ := cmcells hbel
  have HU := Lib.hid hu; have HBel := Lib.hid hbel; clear hu hbel
  by_cases hlt : j < pl
  ·obtain ⟨x, hs⟩ := gets_some (l := lp) (i := j) (by rw [HPl.out]; exact hlt)
   have hr1 := HP.out.below HBox.out
   obtain ⟨b, off, rfl, hb, hc⟩ := hr1.at (by rw [HPl.out]; omega)
   clear hr1
   have q := (HBel.out.cell (p := ⟨b, off + j, none⟩) hb).trans (hc j x hs)
   have HS := Lib.hid hs
   clear hc hs
   have i0 : (0 : Int) ≤ (j : Int) := by omega
   have i1 : (j : Int) < (pl : Int) := by omega
   by_cases h100 : x.size ≤ 100
   ·go_wp2_with fail
    go_roundw
    case rel =>
     refine ⟨j + 1, by omega, by go_num, ?_, HBel.out⟩
     obtain ⟨h1, e⟩ := List.getElem?_eq_some_iff.1 HS.out
     rw [List.take_succ_eq_append_getElem h1]
     intro y hy
     rcases List.mem_append.1 hy with hy | hy
     ·exact HU.out y hy
     ·simp at hy; subst hy; rw [e]; exact h100
    case measure => simp [intOf]; omega
   ·go_wp2_with fail
    go_ret
    exact ⟨⟨true, ret_bool (by first | rfl | (simp; omega)), fun h => by cases h⟩, HBox.out.trans (HBel.out.mono HBox.out.size)⟩
  ·have hu := HU.out
   rw [List.take_of_length_le (by rw [HPl.out]; omega)] at hu
   have HU2 := Lib.hid hu; clear hu HU
   by_cases z1 : ql ≤ 100
   case neg =>
    go_wp2_with fail
    go_ret
    exact ⟨⟨true, ret_bool (by first | rfl | (simp; omega)), fun h => by cases h⟩, HBox.out.trans (HBel.out.mono HBox.out.size)⟩
   by_cases z2 : vl ≤ 100
   case neg =>
    go_wp2_with fail
    go_ret
    exact ⟨⟨true, ret_bool (by first | rfl | (simp; omega)), fun h => by cases h⟩, HBox.out.trans (HBel.out.mono HBox.out.size)⟩
   by_cases z3 : dl ≤ 100
   case neg =>
    go_wp2_with fail
    go_ret
    exact ⟨⟨true, ret_bool (by first | rfl | (simp; omega)), fun h => by cases h⟩, HBox.out.trans (HBel.out.mono HBox.out.size)⟩
   by_cases z4 : pl ≤ 20
   case neg =>
    go_wp2_with fail
    go_ret
    exact ⟨⟨true, ret_bool (by first | rfl | (simp; omega)), fun h => by cases h⟩, HBox.out.trans (HBel.out.mono HBox.out.size)⟩
   by_cases z5 : t.size ≤ 200
   case neg =>
    go_wp2_with fail
    go_ret
    exact ⟨⟨true, ret_bool (by first | rfl | (simp; omega)), fun h => by cases h⟩, HBox.out.trans (HBel.out.mono HBox.out.size)⟩
   go_wp2_with fail
   go_ret
   exact ⟨⟨false, ret_bool (by first | rfl | (simp; omega)), fun _ => ⟨⟨HU2.out, by have := HPl.out; simp only; omega, z5, by have := HDl.out; simp only; omega⟩, by have := HQl.out; simp only; omega, by have := HVl.out; simp only; omega⟩⟩, HBox.out.trans (HBel.out.mono HBox.out.size)⟩
end Go.Proofs.YthbkieghkfpbhaaGreat
namespace Go.Proofs.YthbkieghkfpbhaaGreat
open Go.RowKit Go.Buf Go.LB
set_option linter.unusedSimpArgs false
set_option linter.unusedVariables false
def K11.d : Dt.Dot := ((0, 1), 1)
def K11.c : Cm.C := ⟨((0, 1), 1), [], [((0, 1), 1)], 1, ⟨1, [⟨#[97]⟩], 5, ⟨#[]⟩, []⟩⟩
def K11.o : Cm.C := ⟨((0, 1), 1), [((0, 1), 1)], [((0, 1), 1)], 1, ⟨1, [⟨#[97]⟩], 5, ⟨#[]⟩, []⟩⟩
theorem K11.may : Cm.may K11.c = true := by decide +kernel
theorem K11.not : Cm.may K11.o = false := by decide +kernel
theorem copE_length {o : Om.O} (h : Om.small o) : (opE o).length ≤ 100000 := by
 obtain ⟨s1, s2, s3, s4⟩ := h
 unfold opE
 simp only [List.length_append]
 have a1 := num_lenO o.kind; have a2 := num_lenO o.path.length; have a3 := num_lenO (Cd.uns o.n); have a4 := num_lenO o.dots.length
 have a5 := txtE_length o.text
 have a6 := upE_length (f := txtE) (l := o.path) (m := 110) (fun s hs => by have := txtE_length s; have := s1 s hs; omega) o.path.length
 rw [upE_all txtE (Nat.le_refl _)] at a6
 have a7 := upE_length (f := dotE) (l := o.dots) (m := 30) (fun x _ => dotE_length x) o.dots.length
 rw [upE_all dotE (Nat.le_refl _)] at a7
 omega
theorem cmtE_length {c : Cm.C} (h : Cm.may c = true) : (cmtE c).length ≤ 200000 := by
 have h1 := dotE_length c.dot
 have h2 := listE_length c.par
 have h3 := listE_length c.vv
 have h4 := num_lenO c.time
 have h5 := copE_length (small_of_cmay h)
 have h6 := Cm.may_parts h
 have h7 := h6.2.2.1
 have h8 := h6.2.2.2.1
 unfold cmtE
 simp only [List.length_append]
 omega
theorem litD1 (w : World) (d : Dt.Dot) (hd : Dt.okD d) (x y z : Int) (hx : x = d.1.1) (hy : y = d.1.2) (hz : z = d.2) :
  VRow (w.alloc (.cells #[.int .u8 x, .int .u32 y, .int .u64 z] 27)) (some ⟨w.heap.size, 0, none⟩) 1 [d] := by
 subst hx; subst hy; subst hz
 refine ⟨by simp, by omega, (fun q hq => by simp at hq; rw [hq]; exact hd), (fun e => by cases e), fun i q hq => ⟨_, rfl, ?_⟩⟩
 have hi : i < 1 := by have := (List.getElem?_eq_some_iff.1 hq).1; simpa using this
 obtain rfl : i = 0 := by omega
 simp at hq; subst hq
 simp [Addr.add]
set_option maxRecDepth 100000 in
set_option maxHeartbeats 12800000 in
theorem known11_any (W : World) : Calls Tryz.prog 5 #[] W fun e w' => e = .returned (.bool true) ∧ Below W.heap.size W w' := by
 go_enter Tryz.func5, Tryz.ntmps5
 go_wp2_with fail
 obtain ⟨X, hX⟩ : ∃ X, X = ((((W.alloc (.cells #[.int .u8 0, .int .u32 1, .int .u64 1] 27)).alloc (.cells #[.int .u8 0, .int .u32 1, .int .u64 1] 27)).alloc (.cells #[.string ⟨#[97]⟩] 9)).alloc (.cells #[.int .u8 0, .int .u32 1, .int .u64 1, .slice none 0 0, .slice (some ⟨W.heap.size + 1, 0, none⟩) 1 1, .int .u64 1, .int .u8 1, .slice (some ⟨W.heap.size + 1 + 1, 0, none⟩) 1 1, .int .i64 5, .string ⟨#[]⟩, .slice none 0 0] 34)) := ⟨_, rfl⟩
 have hB : Below W.heap.size W X := by rw [hX]; exact Below.alloc (Below.alloc (Below.alloc (Below.alloc (Below.refl _ _) (Nat.le_refl _) _) (by simp) _) (by simp <;> omega) _) (by simp <;> omega) _
 have hD : Blk X (W.heap.size) 27 [.int .u8 0, .int .u32 1, .int .u64 1] := by
  have h := (((Blk.new W #[.int .u8 0, .int .u32 1, .int .u64 1] 27).below (below_box (W.alloc (.cells #[.int .u8 0, .int .u32 1, .int .u64 1] 27)) #[.int .u8 0, .int .u32 1, .int .u64 1] 27)).below (below_box ((W.alloc (.cells #[.int .u8 0, .int .u32 1, .int .u64 1] 27)).alloc (.cells #[.int .u8 0, .int .u32 1, .int .u64 1] 27)) #[.string ⟨#[97]⟩] 9)).below (below_box (((W.alloc (.cells #[.int .u8 0, .int .u32 1, .int .u64 1] 27)).alloc (.cells #[.int .u8 0, .int .u32 1, .int .u64 1] 27)).alloc (.cells #[.string ⟨#[97]⟩] 9)) #[.int .u8 0, .int .u32 1, .int .u64 1, .slice none 0 0, .slice (some ⟨W.heap.size + 1, 0, none⟩) 1 1, .int .u64 1, .int .u8 1, .slice (some ⟨W.heap.size + 1 + 1, 0, none⟩) 1 1, .int .i64 5, .string ⟨#[]⟩, .slice none 0 0] 34)
  rw [hX]; exact h
 have hC : Blk X (W.heap.size + 1 + 1 + 1) 34 [.int .u8 0, .int .u32 1, .int .u64 1, .slice none 0 0, .slice (some ⟨W.heap.size + 1, 0, none⟩) 1 1, .int .u64 1, .int .u8 1, .slice (some ⟨W.heap.size + 1 + 1, 0, none⟩) 1 1, .int .i64 5, .string ⟨#[]⟩, .slice none 0 0] := by
  have h := Blk.new (((W.alloc (.cells #[.int .u8 0, .int .u32 1, .int .u64 1] 27)).alloc (.cells #[.int .u8 0, .int .u32 1, .int .u64 1] 27)).alloc (.cells #[.string ⟨#[97]⟩] 9)) #[.int .u8 0, .int .u32 1, .int .u64 1, .slice none 0 0, .slice (some ⟨W.heap.size + 1, 0, none⟩) 1 1, .int .u64 1, .int .u8 1, .slice (some ⟨W.heap.size + 1 + 1, 0, none⟩) 1 1, .int .i64 5, .string ⟨#[]⟩, .slice none 0 0] 34
  rw [show (((W.alloc (.cells #[.int .u8 0, .int .u32 1, .int .u64 1] 27)).alloc (.cells #[.int .u8 0, .int .u32 1, .int .u64 1] 27)).alloc (.cells #[.string ⟨#[97]⟩] 9)).heap.size = W.heap.size + 1 + 1 + 1 from by simp] at h
  rw [hX]; exact h
 have hV : VRow X (some ⟨W.heap.size + 1, 0, none⟩) 1 [((0, 1), 1)] := by
  have h := ((litD1 (W.alloc (.cells #[.int .u8 0, .int .u32 1, .int .u64 1] 27)) ((0, 1), 1) ⟨by decide, by decide, by decide⟩ 0 1 1 rfl rfl rfl).below (below_box ((W.alloc (.cells #[.int .u8 0, .int .u32 1, .int .u64 1] 27)).alloc (.cells #[.int .u8 0, .int .u32 1, .int .u64 1] 27)) #[.string ⟨#[97]⟩] 9)).below (below_box (((W.alloc (.cells #[.int .u8 0, .int .u32 1, .int .u64 1] 27)).alloc (.cells #[.int .u8 0, .int .u32 1, .int .u64 1] 27)).alloc (.cells #[.string ⟨#[97]⟩] 9)) #[.int .u8 0, .int .u32 1, .int .u64 1, .slice none 0 0, .slice (some ⟨W.heap.size + 1, 0, none⟩) 1 1, .int .u64 1, .int .u8 1, .slice (some ⟨W.heap.size + 1 + 1, 0, none⟩) 1 1, .int .i64 5, .string ⟨#[]⟩, .slice none 0 0] 34)
  rw [show (W.alloc (.cells #[.int .u8 0, .int .u32 1, .int .u64 1] 27)).heap.size = W.heap.size + 1 from by simp] at h
  rw [hX]; exact h
 have hP : SRow X (some ⟨W.heap.size + 1 + 1, 0, none⟩) 1 [⟨#[97]⟩] := by
  have h := (litS1 ((W.alloc (.cells #[.int .u8 0, .int .u32 1, .int .u64 1] 27)).alloc (.cells #[.int .u8 0, .int .u32 1, .int .u64 1] 27)) ⟨#[97]⟩ (by decide)).below (below_box (((W.alloc (.cells #[.int .u8 0, .int .u32 1, .int .u64 1] 27)).alloc (.cells #[.int .u8 0, .int .u32 1, .int .u64 1] 27)).alloc (.cells #[.string ⟨#[97]⟩] 9)) #[.int .u8 0, .int .u32 1, .int .u64 1, .slice none 0 0, .slice (some ⟨W.heap.size + 1, 0, none⟩) 1 1, .int .u64 1, .int .u8 1, .slice (some ⟨W.heap.size + 1 + 1, 0, none⟩) 1 1, .int .i64 5, .string ⟨#[]⟩, .slice none 0 0] 34)
  rw [show ((W.alloc (.cells #[.int .u8 0, .int .u32 1, .int .u64 1] 27)).alloc (.cells #[.int .u8 0, .int .u32 1, .int .u64 1] 27)).heap.size = W.heap.size + 1 + 1 from by simp] at h
  rw [hX]; exact h
 rw [← hX]
 clear hX
 have HB := Lib.hid hB; have HD := Lib.hid hD; have HC := Lib.hid hC; have HV := Lib.hid hV; have HP := Lib.hid hP
 clear hB hD hC hV hP
 refine (cbytes_any 0 1 1 none 0 0 (some ⟨W.heap.size + 1, 0, none⟩) 1 1 1 1 (some ⟨W.heap.size + 1 + 1, 0, none⟩) 1 1 5 ⟨#[]⟩ none 0 0 [] [((0, 1), 1)] [⟨#[97]⟩] [] X (VRow.nil _) rfl HV.out rfl HP.out rfl (VRow.nil _) rfl ⟨by decide, by decide, by decide⟩ (by omega) (by omega) (by omega) (by omega) (by omega) (by omega) (by omega)).mono ?_
 rintro e w1 ⟨hcase, hb⟩
 rcases hcase with ⟨h, _⟩ | ⟨_, hy⟩
 ·exact absurd (K11.may.symm.trans h) (by decide)
 obtain ⟨v1, row1, rfl, hbb⟩ := hy
 obtain ⟨a1, n1, cp1, rfl, hrw, hn1⟩ := hbb.rowN
 have HB1 := Lib.hid (HB.out.trans (hb.mono HB.out.size)); have HD1 := Lib.hid (HD.out.below hb); have HC1 := Lib.hid (HC.out.below hb); have HV1 := Lib.hid (HV.out.below hb); have HP1 := Lib.hid (HP.out.below hb)
 have HRw := Lib.hid hrw; have HN1 := Lib.hid hn1
 have hn1k : n1 ≤ 1000000 := by have hk : (cmtE K11.c).length = n1 := hn1; have := cmtE_length K11.may; omega
 clear hb hbb hrw hn1 HB HD HC HV HP
 go_wp2_with fail
 refine (cread_x 0 1 1 0 1 1 1 1 5 ⟨#[]⟩ 0 [] [((0, 1), 1)] [⟨#[97]⟩] [] rfl rfl rfl rfl ⟨by decide, by decide, by decide⟩ (by simp) (fun x hx => by simp at hx; subst hx; exact ⟨by decide, by decide, by decide⟩) (by simp) (by omega) (by omega) (by omega) (by omega) K11.may a1 n1 cp1 _ [] [] rfl w1 HRw.out HN1.out hn1k (Or.inl rfl)).mono ?_
 rintro e w2 ⟨x1, x2, x3, x4, x5, x6, x7, x8, x9, x10, x11, x12, x13, x14, x15, x16, x17, x18, x19, er, rfl, _, _, hok, hb⟩
 obtain ⟨rfl, hic⟩ := hok rfl rfl
 obtain ⟨r, i, s, qa, ql, qc, va, vl, vc, tm, k, pa, pl, pc, n, t, da, dl, dc, lq, lv, lp, ld, hxe, hce, hq, hql, hv, hvl, hp, hpl, hd, hdl, _⟩ := hic
 rw [hxe]
 simp only [Cm.C.mk.injEq, Prod.mk.injEq, Om.O.mk.injEq] at hce
 obtain ⟨⟨⟨rfl, rfl⟩, rfl⟩, rfl, rfl, rfl, rfl, rfl, rfl, rfl, rfl⟩ := hce
 simp only [List.length_nil, List.length_cons, Nat.zero_add] at hql hvl hpl hdl
 subst hql; subst hvl; subst hpl; subst hdl
 have HB2 := Lib.hid (HB1.out.trans (hb.mono HB1.out.size)); have HD2 := Lib.hid (HD1.out.below hb); have HC2 := Lib.hid (HC1.out.below hb); have HV2 := Lib.hid (HV1.out.below hb); have HP2 := Lib.hid (HP1.out.below hb)
 have HXq := Lib.hid hq; have HXv := Lib.hid hv; have HXp := Lib.hid hp; have HXd := Lib.hid hd
 clear hb hok hxe hq hv hp hd HB1 HD1 HC1 HV1 HP1 HRw HN1
 have c0 := HC2.out.cell 0; have c1 := HC2.out.cell 1; have c2 := HC2.out.cell 2; have c3 := HC2.out.cell 3; have c4 := HC2.out.cell 4; have c5 := HC2.out.cell 5; have c6 := HC2.out.cell 6; have c7 := HC2.out.cell 7; have c8 := HC2.out.cell 8; have c9 := HC2.out.cell 9; have c10 := HC2.out.cell 10
 simp only [List.getElem?_cons_succ, List.getElem?_cons_zero] at c0 c1 c2 c3 c4 c5 c6 c7 c8 c9 c10
 have z0 := HD2.out.cell 0; have z1 := HD2.out.cell 1; have z2 := HD2.out.cell 2
 simp only [List.getElem?_cons_succ, List.getElem?_cons_zero] at z0 z1 z2
 have s3 := HC2.out.lt; have s0 := HD2.out.lt
 go_wp2_with fail
 obtain ⟨Y, hY⟩ : ∃ Y, Y = (((w2.alloc (.cells #[.int .u8 0, .int .u32 1, .int .u64 1, .slice qa 0 qc, .slice va 1 vc, .int .u64 1, .int .u8 1, .slice pa 1 pc, .int .i64 5, .string ⟨#[]⟩, .slice da 0 dc] 34)).alloc (.cells #[.int .u8 0, .int .u32 1, .int .u64 1, .slice (some ⟨w2.heap.size + 1 + 1, 0, none⟩) 1 1, .slice (some ⟨W.heap.size + 1, 0, none⟩) 1 1, .int .u64 1, .int .u8 1, .slice (some ⟨W.heap.size + 1 + 1, 0, none⟩) 1 1, .int .i64 5, .string ⟨#[]⟩, .slice none 0 0] 34)).alloc (.cells #[.int .u8 0, .int .u32 1, .int .u64 1] 27)) := ⟨_, rfl⟩
 have hYb : Below w2.heap.size w2 Y := by rw [hY]; exact Below.alloc (Below.alloc (Below.alloc (Below.refl _ _) (Nat.le_refl _) _) (by simp) _) (by simp <;> omega) _
 have hXB : Blk Y (w2.heap.size) 34 [.int .u8 0, .int .u32 1, .int .u64 1, .slice qa 0 qc, .slice va 1 vc, .int .u64 1, .int .u8 1, .slice pa 1 pc, .int .i64 5, .string ⟨#[]⟩, .slice da 0 dc] := by
  have h := ((Blk.new w2 #[.int .u8 0, .int .u32 1, .int .u64 1, .slice qa 0 qc, .slice va 1 vc, .int .u64 1, .int .u8 1, .slice pa 1 pc, .int .i64 5, .string ⟨#[]⟩, .slice da 0 dc] 34).below (below_box (w2.alloc (.cells #[.int .u8 0, .int .u32 1, .int .u64 1, .slice qa 0 qc, .slice va 1 vc, .int .u64 1, .int .u8 1, .slice pa 1 pc, .int .i64 5, .string ⟨#[]⟩, .slice da 0 dc] 34)) #[.int .u8 0, .int .u32 1, .int .u64 1, .slice (some ⟨w2.heap.size + 1 + 1, 0, none⟩) 1 1, .slice (some ⟨W.heap.size + 1, 0, none⟩) 1 1, .int .u64 1, .int .u8 1, .slice (some ⟨W.heap.size + 1 + 1, 0, none⟩) 1 1, .int .i64 5, .string ⟨#[]⟩, .slice none 0 0] 34)).below (below_box ((w2.alloc (.cells #[.int .u8 0, .int .u32 1, .int .u64 1, .slice qa 0 qc, .slice va 1 vc, .int .u64 1, .int .u8 1, .slice pa 1 pc, .int .i64 5, .string ⟨#[]⟩, .slice da 0 dc] 34)).alloc (.cells #[.int .u8 0, .int .u32 1, .int .u64 1, .slice (some ⟨w2.heap.size + 1 + 1, 0, none⟩) 1 1, .slice (some ⟨W.heap.size + 1, 0, none⟩) 1 1, .int .u64 1, .int .u8 1, .slice (some ⟨W.heap.size + 1 + 1, 0, none⟩) 1 1, .int .i64 5, .string ⟨#[]⟩, .slice none 0 0] 34)) #[.int .u8 0, .int .u32 1, .int .u64 1] 27)
  rw [hY]; exact h
 have hOB : Blk Y (w2.heap.size + 1) 34 [.int .u8 0, .int .u32 1, .int .u64 1, .slice (some ⟨w2.heap.size + 1 + 1, 0, none⟩) 1 1, .slice (some ⟨W.heap.size + 1, 0, none⟩) 1 1, .int .u64 1, .int .u8 1, .slice (some ⟨W.heap.size + 1 + 1, 0, none⟩) 1 1, .int .i64 5, .string ⟨#[]⟩, .slice none 0 0] := by
  have h := (Blk.new (w2.alloc (.cells #[.int .u8 0, .int .u32 1, .int .u64 1, .slice qa 0 qc, .slice va 1 vc, .int .u64 1, .int .u8 1, .slice pa 1 pc, .int .i64 5, .string ⟨#[]⟩, .slice da 0 dc] 34)) #[.int .u8 0, .int .u32 1, .int .u64 1, .slice (some ⟨w2.heap.size + 1 + 1, 0, none⟩) 1 1, .slice (some ⟨W.heap.size + 1, 0, none⟩) 1 1, .int .u64 1, .int .u8 1, .slice (some ⟨W.heap.size + 1 + 1, 0, none⟩) 1 1, .int .i64 5, .string ⟨#[]⟩, .slice none 0 0] 34).below (below_box ((w2.alloc (.cells #[.int .u8 0, .int .u32 1, .int .u64 1, .slice qa 0 qc, .slice va 1 vc, .int .u64 1, .int .u8 1, .slice pa 1 pc, .int .i64 5, .string ⟨#[]⟩, .slice da 0 dc] 34)).alloc (.cells #[.int .u8 0, .int .u32 1, .int .u64 1, .slice (some ⟨w2.heap.size + 1 + 1, 0, none⟩) 1 1, .slice (some ⟨W.heap.size + 1, 0, none⟩) 1 1, .int .u64 1, .int .u8 1, .slice (some ⟨W.heap.size + 1 + 1, 0, none⟩) 1 1, .int .i64 5, .string ⟨#[]⟩, .slice none 0 0] 34)) #[.int .u8 0, .int .u32 1, .int .u64 1] 27)
  rw [show (w2.alloc (.cells #[.int .u8 0, .int .u32 1, .int .u64 1, .slice qa 0 qc, .slice va 1 vc, .int .u64 1, .int .u8 1, .slice pa 1 pc, .int .i64 5, .string ⟨#[]⟩, .slice da 0 dc] 34)).heap.size = w2.heap.size + 1 from by simp] at h
  rw [hY]; exact h
 have hVO : VRow Y (some ⟨w2.heap.size + 1 + 1, 0, none⟩) 1 [((0, 1), 1)] := by
  have h := litD1 ((w2.alloc (.cells #[.int .u8 0, .int .u32 1, .int .u64 1, .slice qa 0 qc, .slice va 1 vc, .int .u64 1, .int .u8 1, .slice pa 1 pc, .int .i64 5, .string ⟨#[]⟩, .slice da 0 dc] 34)).alloc (.cells #[.int .u8 0, .int .u32 1, .int .u64 1, .slice (some ⟨w2.heap.size + 1 + 1, 0, none⟩) 1 1, .slice (some ⟨W.heap.size + 1, 0, none⟩) 1 1, .int .u64 1, .int .u8 1, .slice (some ⟨W.heap.size + 1 + 1, 0, none⟩) 1 1, .int .i64 5, .string ⟨#[]⟩, .slice none 0 0] 34)) ((0, 1), 1) ⟨by decide, by decide, by decide⟩ 0 1 1 rfl rfl rfl
  rw [show ((w2.alloc (.cells #[.int .u8 0, .int .u32 1, .int .u64 1, .slice qa 0 qc, .slice va 1 vc, .int .u64 1, .int .u8 1, .slice pa 1 pc, .int .i64 5, .string ⟨#[]⟩, .slice da 0 dc] 34)).alloc (.cells #[.int .u8 0, .int .u32 1, .int .u64 1, .slice (some ⟨w2.heap.size + 1 + 1, 0, none⟩) 1 1, .slice (some ⟨W.heap.size + 1, 0, none⟩) 1 1, .int .u64 1, .int .u8 1, .slice (some ⟨W.heap.size + 1 + 1, 0, none⟩) 1 1, .int .i64 5, .string ⟨#[]⟩, .slice none 0 0] 34)).heap.size = w2.heap.size + 1 + 1 from by simp] at h
  rw [hY]; exact h
 rw [← hY]
 clear hY z0 z1 z2 s3 s0 c0 c1 c2 c3 c4 c5 c6 c7 c8 c9 c10
 have HB3 := Lib.hid (HB2.out.trans (hYb.mono HB2.out.size)); have HC3 := Lib.hid (HC2.out.below hYb); have HV3 := Lib.hid (HV2.out.below hYb); have HP3 := Lib.hid (HP2.out.below hYb)
 have HXq3 := Lib.hid (HXq.out.below hYb); have HXv3 := Lib.hid (HXv.out.below hYb); have HXp3 := Lib.hid (HXp.out.below hYb); have HXd3 := Lib.hid (HXd.out.below hYb)
 have HXB := Lib.hid hXB; have HOB := Lib.hid hOB; have HVO := Lib.hid hVO
 clear hYb hXB hOB hVO HB2 HC2 HV2 HP2 HD2 HXq HXv HXp HXd
 refine (cbytes_any 0 1 1 (some ⟨w2.heap.size + 1 + 1, 0, none⟩) 1 1 (some ⟨W.heap.size + 1, 0, none⟩) 1 1 1 1 (some ⟨W.heap.size + 1 + 1, 0, none⟩) 1 1 5 ⟨#[]⟩ none 0 0 [((0, 1), 1)] [((0, 1), 1)] [⟨#[97]⟩] [] Y HVO.out rfl HV3.out rfl HP3.out rfl (VRow.nil _) rfl ⟨by decide, by decide, by decide⟩ (by omega) (by omega) (by omega) (by omega) (by omega) (by omega) (by omega)).mono ?_
 rintro e w4 ⟨hcase, hb⟩
 rcases hcase with ⟨_, hno⟩ | ⟨h, _⟩
 case inr => exact absurd (K11.not.symm.trans h) (by decide)
 have hno' : e = .returned (.tuple #[.slice none 0 0, .int .i64 2]) := hno
 subst hno'
 have HB4 := Lib.hid (HB3.out.trans (hb.mono HB3.out.size)); have HC4 := Lib.hid (HC3.out.below hb); have HV4 := Lib.hid (HV3.out.below hb); have HP4 := Lib.hid (HP3.out.below hb); have HXq4 := Lib.hid (HXq3.out.below hb); have HXv4 := Lib.hid (HXv3.out.below hb); have HXp4 := Lib.hid (HXp3.out.below hb); have HXd4 := Lib.hid (HXd3.out.below hb); have HXB4 := Lib.hid (HXB.out.below hb); have HOB4 := Lib.hid (HOB.out.below hb); have HVO4 := Lib.hid (HVO.out.below hb)
 clear hb
 have a0 := HC4.out.cell 0; have a1 := HC4.out.cell 1; have a2 := HC4.out.cell 2; have a3 := HC4.out.cell 3; have a4 := HC4.out.cell 4; have a5 := HC4.out.cell 5; have a6 := HC4.out.cell 6; have a7 := HC4.out.cell 7; have a8 := HC4.out.cell 8; have a9 := HC4.out.cell 9; have a10 := HC4.out.cell 10
 simp only [List.getElem?_cons_succ, List.getElem?_cons_zero] at a0 a1 a2 a3 a4 a5 a6 a7 a8 a9 a10
 have b0 := HXB4.out.cell 0; have b1 := HXB4.out.cell 1; have b2 := HXB4.out.cell 2; have b3 := HXB4.out.cell 3; have b4 := HXB4.out.cell 4; have b5 := HXB4.out.cell 5; have b6 := HXB4.out.cell 6; have b7 := HXB4.out.cell 7; have b8 := HXB4.out.cell 8; have b9 := HXB4.out.cell 9; have b10 := HXB4.out.cell 10
 simp only [List.getElem?_cons_succ, List.getElem?_cons_zero] at b0 b1 b2 b3 b4 b5 b6 b7 b8 b9 b10
 have c0 := HOB4.out.cell 0; have c1 := HOB4.out.cell 1; have c2 := HOB4.out.cell 2; have c3 := HOB4.out.cell 3; have c4 := HOB4.out.cell 4; have c5 := HOB4.out.cell 5; have c6 := HOB4.out.cell 6; have c7 := HOB4.out.cell 7; have c8 := HOB4.out.cell 8; have c9 := HOB4.out.cell 9; have c10 := HOB4.out.cell 10
 simp only [List.getElem?_cons_succ, List.getElem?_cons_zero] at c0 c1 c2 c3 c4 c5 c6 c7 c8 c9 c10
 go_wp2_with fail
 refine (cmay_any 0 1 1 none 0 0 (some ⟨W.heap.size + 1, 0, none⟩) 1 1 1 1 (some ⟨W.heap.size + 1 + 1, 0, none⟩) 1 1 5 ⟨#[]⟩ none 0 0 [] [((0, 1), 1)] [⟨#[97]⟩] [] w4 (VRow.nil _) rfl HV4.out rfl HP4.out rfl (VRow.nil _) rfl (by omega) (by omega) (by omega) (by omega)).mono ?_
 rintro e w5 ⟨rfl, hb⟩
 rw [show Cm.may (⟨((0, 1), 1), [], [((0, 1), 1)], 1, ⟨1, [⟨#[97]⟩], 5, ⟨#[]⟩, []⟩⟩ : Cm.C) = true from K11.may]
 clear a0 a1 a2 a3 a4 a5 a6 a7 a8 a9 a10 b0 b1 b2 b3 b4 b5 b6 b7 b8 b9 b10 c0 c1 c2 c3 c4 c5 c6 c7 c8 c9 c10
 have HB5 := Lib.hid (HB4.out.trans (hb.mono HB4.out.size)); have HC5 := Lib.hid (HC4.out.below hb); have HV5 := Lib.hid (HV4.out.below hb); have HP5 := Lib.hid (HP4.out.below hb); have HXq5 := Lib.hid (HXq4.out.below hb); have HXv5 := Lib.hid (HXv4.out.below hb); have HXp5 := Lib.hid (HXp4.out.below hb); have HXd5 := Lib.hid (HXd4.out.below hb); have HXB5 := Lib.hid (HXB4.out.below hb); have HOB5 := Lib.hid (HOB4.out.below hb); have HVO5 := Lib.hid (HVO4.out.below hb)
 clear hb
 have a0 := HC5.out.cell 0; have a1 := HC5.out.cell 1; have a2 := HC5.out.cell 2; have a3 := HC5.out.cell 3; have a4 := HC5.out.cell 4; have a5 := HC5.out.cell 5; have a6 := HC5.out.cell 6; have a7 := HC5.out.cell 7; have a8 := HC5.out.cell 8; have a9 := HC5.out.cell 9; have a10 := HC5.out.cell 10
 simp only [List.getElem?_cons_succ, List.getElem?_cons_zero] at a0 a1 a2 a3 a4 a5 a6 a7 a8 a9 a10
 have b0 := HXB5.out.cell 0; have b1 := HXB5.out.cell 1; have b2 := HXB5.out.cell 2; have b3 := HXB5.out.cell 3; have b4 := HXB5.out.cell 4; have b5 := HXB5.out.cell 5; have b6 := HXB5.out.cell 6; have b7 := HXB5.out.cell 7; have b8 := HXB5.out.cell 8; have b9 := HXB5.out.cell 9; have b10 := HXB5.out.cell 10
 simp only [List.getElem?_cons_succ, List.getElem?_cons_zero] at b0 b1 b2 b3 b4 b5 b6 b7 b8 b9 b10
 have c0 := HOB5.out.cell 0; have c1 := HOB5.out.cell 1; have c2 := HOB5.out.cell 2; have c3 := HOB5.out.cell 3; have c4 := HOB5.out.cell 4; have c5 := HOB5.out.cell 5; have c6 := HOB5.out.cell 6; have c7 := HOB5.out.cell 7; have c8 := HOB5.out.cell 8; have c9 := HOB5.out.cell 9; have c10 := HOB5.out.cell 10
 simp only [List.getElem?_cons_succ, List.getElem?_cons_zero] at c0 c1 c2 c3 c4 c5 c6 c7 c8 c9 c10
 go_wp2_with fail
 refine (cmay_any 0 1 1 (some ⟨w2.heap.size + 1 + 1, 0, none⟩) 1 1 (some ⟨W.heap.size + 1, 0, none⟩) 1 1 1 1 (some ⟨W.heap.size + 1 + 1, 0, none⟩) 1 1 5 ⟨#[]⟩ none 0 0 [((0, 1), 1)] [((0, 1), 1)] [⟨#[97]⟩] [] w5 HVO5.out rfl HV5.out rfl HP5.out rfl (VRow.nil _) rfl (by omega) (by omega) (by omega) (by omega)).mono ?_
 rintro e w6 ⟨rfl, hb⟩
 rw [show Cm.may (⟨((0, 1), 1), [((0, 1), 1)], [((0, 1), 1)], 1, ⟨1, [⟨#[97]⟩], 5, ⟨#[]⟩, []⟩⟩ : Cm.C) = false from K11.not]
 clear a0 a1 a2 a3 a4 a5 a6 a7 a8 a9 a10 b0 b1 b2 b3 b4 b5 b6 b7 b8 b9 b10 c0 c1 c2 c3 c4 c5 c6 c7 c8 c9 c10
 have HB6 := Lib.hid (HB5.out.trans (hb.mono HB5.out.size)); have HC6 := Lib.hid (HC5.out.below hb); have HV6 := Lib.hid (HV5.out.below hb); have HP6 := Lib.hid (HP5.out.below hb); have HXq6 := Lib.hid (HXq5.out.below hb); have HXv6 := Lib.hid (HXv5.out.below hb); have HXp6 := Lib.hid (HXp5.out.below hb); have HXd6 := Lib.hid (HXd5.out.below hb); have HXB6 := Lib.hid (HXB5.out.below hb); have HOB6 := Lib.hid (HOB5.out.below hb); have HVO6 := Lib.hid (HVO5.out.below hb)
 clear hb
 have a0 := HC6.out.cell 0; have a1 := HC6.out.cell 1; have a2 := HC6.out.cell 2; have a3 := HC6.out.cell 3; have a4 := HC6.out.cell 4; have a5 := HC6.out.cell 5; have a6 := HC6.out.cell 6; have a7 := HC6.out.cell 7; have a8 := HC6.out.cell 8; have a9 := HC6.out.cell 9; have a10 := HC6.out.cell 10
 simp only [List.getElem?_cons_succ, List.getElem?_cons_zero] at a0 a1 a2 a3 a4 a5 a6 a7 a8 a9 a10
 have b0 := HXB6.out.cell 0; have b1 := HXB6.out.cell 1; have b2 := HXB6.out.cell 2; have b3 := HXB6.out.cell 3; have b4 := HXB6.out.cell 4; have b5 := HXB6.out.cell 5; have b6 := HXB6.out.cell 6; have b7 := HXB6.out.cell 7; have b8 := HXB6.out.cell 8; have b9 := HXB6.out.cell 9; have b10 := HXB6.out.cell 10
 simp only [List.getElem?_cons_succ, List.getElem?_cons_zero] at b0 b1 b2 b3 b4 b5 b6 b7 b8 b9 b10
 have c0 := HOB6.out.cell 0; have c1 := HOB6.out.cell 1; have c2 := HOB6.out.cell 2; have c3 := HOB6.out.cell 3; have c4 := HOB6.out.cell 4; have c5 := HOB6.out.cell 5; have c6 := HOB6.out.cell 6; have c7 := HOB6.out.cell 7; have c8 := HOB6.out.cell 8; have c9 := HOB6.out.cell 9; have c10 := HOB6.out.cell 10
 simp only [List.getElem?_cons_succ, List.getElem?_cons_zero] at c0 c1 c2 c3 c4 c5 c6 c7 c8 c9 c10
 go_wp2_with fail
 refine (csame_ok 0 1 1 none 0 0 (some ⟨W.heap.size + 1, 0, none⟩) 1 1 1 1 (some ⟨W.heap.size + 1 + 1, 0, none⟩) 1 1 5 ⟨#[]⟩ none 0 0 [] [((0, 1), 1)] [⟨#[97]⟩] [] w6 (VRow.nil _) rfl HV6.out rfl HP6.out rfl (VRow.nil _) rfl qa va pa da qc vc pc dc HXq6.out HXv6.out HXp6.out HXd6.out (by omega)).mono ?_
 rintro e w7 ⟨rfl, hb⟩
 have HB7 := Lib.hid (HB6.out.trans (hb.mono HB6.out.size)); clear hb
 clear a0 a1 a2 a3 a4 a5 a6 a7 a8 a9 a10 b0 b1 b2 b3 b4 b5 b6 b7 b8 b9 b10 c0 c1 c2 c3 c4 c5 c6 c7 c8 c9 c10
 go_wp2_with fail
 go_ret
 exact ⟨rfl, HB7.out⟩
end Go.Proofs.YthbkieghkfpbhaaGreat
