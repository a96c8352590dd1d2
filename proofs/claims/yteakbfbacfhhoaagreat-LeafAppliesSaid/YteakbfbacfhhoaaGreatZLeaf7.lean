import Derived.Test.YteakbfbacfhhoaaGreatZLeaf2
import Derived.Test.YteakbfbacfhhoaaGreatZLeaf3
import Derived.Test.YteakbfbacfhhoaaGreatZLeaf4
import Derived.Test.YteakbfbacfhhoaaGreatZLeaf6
namespace Go.Proofs.YteakbfbacfhhoaaGreat
open Go.RowKit Go.Buf Go.LB
set_option linter.unusedSimpArgs false
set_option linter.unusedVariables false
abbrev itVd (x : Lm.It) : Value := .agg #[.int .u64 (x.1 : Int), .int .u8 (x.2.1.1.1 : Int), .int .u32 (x.2.1.1.2 : Int), .int .u64 (x.2.1.2 : Int), .string x.2.2]
def Enters (f : Nat) : Prop := ∀ (xs : Array Value) (w : World), (callFunc f xs).run Tryz.prog w = .ok (.enter f xs) w
theorem enters_of {f : Nat} {fn : Func} (hf : Tryz.prog.funcs[f]? = some fn) (hn : (fn.name == "runtime.NumGoroutine") = false) (hb : fn.body.isNone = false) : Enters f := fun xs w => by
 have hn2 : ¬ fn.name = "runtime.NumGoroutine" := by simpa using hn
 have hb2 : ¬ fn.body = none := fun g => by rw [g] at hb; simp at hb
 simp [callFunc, go_sem, hf, hn2, hb2]
def FIdx {α : Type} (l : List α) (p : α → Bool) (z : Int) : Prop := (z = -1 ∧ ∀ (j : Nat) (d : α), l[j]? = some d → p d = false) ∨ ∃ k : Nat, z = k ∧ (∃ d : α, l[k]? = some d ∧ p d = true) ∧ ∀ (j : Nat) (d : α), j < k → l[j]? = some d → p d = false
theorem FIdx.any {α : Type} {l : List α} {p : α → Bool} {z : Int} (h : FIdx l p z) : decide (0 ≤ z) = l.any p := by
 rcases h with ⟨rfl, h⟩ | ⟨k, rfl, ⟨d, hd, hp⟩, _⟩
 ·have : l.any p = false := by
   rw [List.any_eq_false]
   intro x hx
   obtain ⟨j, hj⟩ := List.getElem?_of_mem hx
   simpa using h j x hj
  rw [this]; rfl
 ·have : l.any p = true := List.any_eq_true.2 ⟨d, List.mem_of_getElem? hd, hp⟩
  rw [this]; simp
set_option maxRecDepth 100000 in
set_option maxHeartbeats 3200000 in
theorem indexD_any (a : Option Addr) (n cap : Nat) (f : Nat) (cp : Array Value) (p : Dt.Dot → Bool) (l : List Dt.Dot) (W : World) (hr : VRow W a cap l) (hl : l.length = n) (hE : Enters f)
  (hF : ∀ (k : Nat) (d : Dt.Dot) (w : World), l[k]? = some d → Below W.heap.size W w → Calls Tryz.prog f (#[dotV d] ++ cp) w fun e w' => e = .returned (.bool (p d)) ∧ Below w.heap.size w w') :
  Calls Tryz.prog 57 #[.slice a n cap, .func (.func f) #[] cp] W fun e w' => (∃ z, FIdx l p z ∧ e = .returned (.int .i64 z)) ∧ Below W.heap.size W w' := by
 have hle := hr.le
 have hcap := hr.cap
 rw [hl] at hle
 have HR := Lib.hid hr; have HL := Lib.hid hl; have HF := Lib.hid hF; have HE := Lib.hid hE
 clear hr hl hF hE
 go_enter Tryz.func57, Tryz.ntmps57
 go_wp2_with fail
 go_loopw [5, 8] (fun _ i wr => ∃ k : Nat, k ≤ n ∧ i = .int .i64 k ∧ (∀ j d, j < k → l[j]? = some d → p d = false) ∧ Below W.heap.size W wr) (fun _ i _ => n - (intOf i).toNat)
 case atStart => exact ⟨0, Nat.zero_le _, rfl, fun j d hj => by omega, Below.refl _ _⟩
 case round =>
  obtain ⟨k, hk, rfl, hno, hbel⟩ := hrel
  have HNo := Lib.hid hno; have HW := Lib.hid hbel; clear hno hbel
  by_cases hlt : k < n
  ·obtain ⟨d, hd⟩ := getD_some (l := l) (i := k) (by rw [HL.out]; exact hlt)
   obtain ⟨blk, off, rfl, hblk, hcells⟩ := HR.out.at (by rw [HL.out]; omega)
   obtain ⟨g0, g1, g2⟩ := hcells k d hd
   have q0 := (HW.out.cell (p := ⟨blk, off + k * 3, none⟩) hblk).trans g0
   have q1 := (HW.out.cell (p := ⟨blk, off + k * 3 + 1, none⟩) hblk).trans g1
   have q2 := (HW.out.cell (p := ⟨blk, off + k * 3 + 2, none⟩) hblk).trans g2
   have i0 : (0 : Int) ≤ (k : Int) := by omega
   have i1 : (k : Int) < (n : Int) := by omega
   have HD := Lib.hid hd
   clear hcells g0 g1 g2 hd
   obtain ⟨⟨r, i⟩, s⟩ := d
   simp only at q0 q1 q2
   go_wp2_with fail
   clear q0 q1 q2
   rw [HE.out, Oper.upon_enter]
   refine (HF.out k _ _ HD.out HW.out).mono ?_
   rintro e w1 ⟨rfl, hb⟩
   have HB := Lib.hid (HW.out.trans (hb.mono HW.out.size)); clear hb
   cases hp : p ((r, i), s)
   ·have hno2 : ∀ j d, j < k + 1 → l[j]? = some d → p d = false := fun j d hj h => by
     rcases Nat.lt_succ_iff_lt_or_eq.1 hj with g | rfl
     ·exact HNo.out j d g h
     ·rw [HD.out] at h; obtain rfl := Option.some.inj h; exact hp
    have HN2 := Lib.hid hno2; clear hno2 hp
    go_wp2_with fail
    go_roundw
    case rel => exact ⟨k + 1, by omega, by go_num, HN2.out, HB.out⟩
    case measure => simp [intOf]; omega
   ·have hfin : FIdx l p (k : Int) := Or.inr ⟨k, rfl, ⟨_, HD.out, hp⟩, HNo.out⟩
    have Hfin := Lib.hid hfin; clear hfin hp
    go_wp2_with fail
    go_ret
    exact ⟨⟨_, Hfin.out, rfl⟩, HB.out⟩
  ·have hfin : FIdx l p (-1) := Or.inl ⟨rfl, fun j d h => HNo.out j d (by have := (List.getElem?_eq_some_iff.1 h).1; rw [HL.out] at this; omega) h⟩
   have Hfin := Lib.hid hfin; clear hfin
   go_wp2_with fail
   go_ret
   exact ⟨⟨_, Hfin.out, rfl⟩, HW.out⟩
set_option maxHeartbeats 1000000 in
theorem containsD_any (a : Option Addr) (n cap : Nat) (f : Nat) (cp : Array Value) (p : Dt.Dot → Bool) (l : List Dt.Dot) (W : World) (hr : VRow W a cap l) (hl : l.length = n) (hE : Enters f)
  (hF : ∀ (k : Nat) (d : Dt.Dot) (w : World), l[k]? = some d → Below W.heap.size W w → Calls Tryz.prog f (#[dotV d] ++ cp) w fun e w' => e = .returned (.bool (p d)) ∧ Below w.heap.size w w') :
  Calls Tryz.prog 40 #[.slice a n cap, .func (.func f) #[] cp] W fun e w' => e = .returned (.bool (l.any p)) ∧ Below W.heap.size W w' := by
 have HR := Lib.hid hr; have HL := Lib.hid hl; have HF := Lib.hid hF; have HE := Lib.hid hE
 clear hr hl hF hE
 go_enter Tryz.func40, Tryz.ntmps40
 go_wp2_with fail
 refine (indexD_any a n cap f cp p l _ HR.out HL.out HE.out HF.out).mono ?_
 rintro e w1 ⟨⟨z, hz, rfl⟩, hb⟩
 have HB := Lib.hid hb; have HZ := Lib.hid hz; clear hb hz
 go_wp2_with fail
 go_ret
 exact ⟨ret_bool HZ.out.any, HB.out⟩
set_option maxRecDepth 100000 in
set_option maxHeartbeats 3200000 in
theorem indexI_any (a : Option Addr) (n cap : Nat) (f : Nat) (cp : Array Value) (p : Lm.It → Bool) (l : List Lm.It) (W : World) (hr : IRow W a cap l) (hl : l.length = n) (hE : Enters f)
  (hF : ∀ (k : Nat) (d : Lm.It) (w : World), l[k]? = some d → Below W.heap.size W w → Calls Tryz.prog f (#[itVd d] ++ cp) w fun e w' => e = .returned (.bool (p d)) ∧ Below w.heap.size w w') :
  Calls Tryz.prog 88 #[.slice a n cap, .func (.func f) #[] cp] W fun e w' => (∃ z, FIdx l p z ∧ e = .returned (.int .i64 z)) ∧ Below W.heap.size W w' := by
 have hle := hr.le
 have hcap := hr.cap
 rw [hl] at hle
 have HR := Lib.hid hr; have HL := Lib.hid hl; have HF := Lib.hid hF; have HE := Lib.hid hE
 clear hr hl hF hE
 go_enter Tryz.func88, Tryz.ntmps88
 go_wp2_with fail
 go_loopw [5, 8] (fun _ i wr => ∃ k : Nat, k ≤ n ∧ i = .int .i64 k ∧ (∀ j d, j < k → l[j]? = some d → p d = false) ∧ Below W.heap.size W wr) (fun _ i _ => n - (intOf i).toNat)
 case atStart => exact ⟨0, Nat.zero_le _, rfl, fun j d hj => by omega, Below.refl _ _⟩
 case round =>
  obtain ⟨k, hk, rfl, hno, hbel⟩ := hrel
  have HNo := Lib.hid hno; have HW := Lib.hid hbel; clear hno hbel
  by_cases hlt : k < n
  ·obtain ⟨d, hd⟩ := geti_some (l := l) (i := k) (by rw [HL.out]; exact hlt)
   obtain ⟨blk, off, rfl, hblk, hcells⟩ := HR.out.at (by rw [HL.out]; omega)
   obtain ⟨g0, g1, g2, g3, g4⟩ := hcells k d hd
   have q0 := (HW.out.cell (p := ⟨blk, off + k * 5, none⟩) hblk).trans g0
   have q1 := (HW.out.cell (p := ⟨blk, off + k * 5 + 1, none⟩) hblk).trans g1
   have q2 := (HW.out.cell (p := ⟨blk, off + k * 5 + 2, none⟩) hblk).trans g2
   have q3 := (HW.out.cell (p := ⟨blk, off + k * 5 + 3, none⟩) hblk).trans g3
   have q4 := (HW.out.cell (p := ⟨blk, off + k * 5 + 4, none⟩) hblk).trans g4
   have i0 : (0 : Int) ≤ (k : Int) := by omega
   have i1 : (k : Int) < (n : Int) := by omega
   have HD := Lib.hid hd
   clear hcells g0 g1 g2 g3 g4 hd
   obtain ⟨t, ⟨⟨r, i⟩, s⟩, x⟩ := d
   simp only at q0 q1 q2 q3 q4
   go_wp2_with fail
   clear q0 q1 q2 q3 q4
   rw [HE.out, Oper.upon_enter]
   refine (HF.out k _ _ HD.out HW.out).mono ?_
   rintro e w1 ⟨rfl, hb⟩
   have HB := Lib.hid (HW.out.trans (hb.mono HW.out.size)); clear hb
   cases hp : p (t, ((r, i), s), x)
   ·have hno2 : ∀ j d, j < k + 1 → l[j]? = some d → p d = false := fun j d hj h => by
     rcases Nat.lt_succ_iff_lt_or_eq.1 hj with g | rfl
     ·exact HNo.out j d g h
     ·rw [HD.out] at h; obtain rfl := Option.some.inj h; exact hp
    have HN2 := Lib.hid hno2; clear hno2 hp
    go_wp2_with fail
    go_roundw
    case rel => exact ⟨k + 1, by omega, by go_num, HN2.out, HB.out⟩
    case measure => simp [intOf]; omega
   ·have hfin : FIdx l p (k : Int) := Or.inr ⟨k, rfl, ⟨_, HD.out, hp⟩, HNo.out⟩
    have Hfin := Lib.hid hfin; clear hfin hp
    go_wp2_with fail
    go_ret
    exact ⟨⟨_, Hfin.out, rfl⟩, HB.out⟩
  ·have hfin : FIdx l p (-1) := Or.inl ⟨rfl, fun j d h => HNo.out j d (by have := (List.getElem?_eq_some_iff.1 h).1; rw [HL.out] at this; omega) h⟩
   have Hfin := Lib.hid hfin; clear hfin
   go_wp2_with fail
   go_ret
   exact ⟨⟨_, Hfin.out, rfl⟩, HW.out⟩
set_option maxHeartbeats 1000000 in
theorem containsI_any (a : Option Addr) (n cap : Nat) (f : Nat) (cp : Array Value) (p : Lm.It → Bool) (l : List Lm.It) (W : World) (hr : IRow W a cap l) (hl : l.length = n) (hE : Enters f)
  (hF : ∀ (k : Nat) (d : Lm.It) (w : World), l[k]? = some d → Below W.heap.size W w → Calls Tryz.prog f (#[itVd d] ++ cp) w fun e w' => e = .returned (.bool (p d)) ∧ Below w.heap.size w w') :
  Calls Tryz.prog 72 #[.slice a n cap, .func (.func f) #[] cp] W fun e w' => e = .returned (.bool (l.any p)) ∧ Below W.heap.size W w' := by
 have HR := Lib.hid hr; have HL := Lib.hid hl; have HF := Lib.hid hF; have HE := Lib.hid hE
 clear hr hl hF hE
 go_enter Tryz.func72, Tryz.ntmps72
 go_wp2_with fail
 refine (indexI_any a n cap f cp p l _ HR.out HL.out HE.out HF.out).mono ?_
 rintro e w1 ⟨⟨z, hz, rfl⟩, hb⟩
 have HB := Lib.hid hb; have HZ := Lib.hid hz; clear hb hz
 go_wp2_with fail
 go_ret
 exact ⟨ret_bool HZ.out.any, HB.out⟩
theorem enters_maySet : Enters 41 := enters_of Tryz.func41 (by kernel_rfl) (by kernel_rfl)
set_option maxHeartbeats 1000000 in
theorem maySetF_any (r i s b : Nat) (ia : Option Addr) (il ic : Nat) (li : List Lm.It) (w : World) (hc : w.cell? ⟨b, 7, none⟩ = some (.slice ia il ic)) (hi : IRow w ia ic li) (hil : li.length = il) (hn : il ≤ 1000000000) (hp : (Lm.dots li).Pairwise Dt.lt) :
  Calls Tryz.prog 41 #[dotV ((r, i), s), .pointer (some ⟨b, 0, none⟩)] w fun e w' => e = .returned (.bool (Lm.hasI li ((r, i), s))) ∧ Below w.heap.size w w' := by
 have HBox := Lib.hid (below_box w #[.int .u8 (r : Int), .int .u32 (i : Int), .int .u64 (s : Int)] 27)
 have hb := World.block_lt_of_cell? w _ hc
 have hc5 := (HBox.out.cell (p := ⟨b, 7, none⟩) hb).trans hc
 have HI := Lib.hid hi; have HIl := Lib.hid hil; have HP := Lib.hid hp
 clear hi hil hp hc hb
 go_enter Tryz.func41, Tryz.ntmps41
 go_wp2_with fail
 refine (hasItem_any ia il ic r i s li _ (HI.out.below HBox.out) HIl.out hn HP.out).mono ?_
 rintro e w1 ⟨rfl, hb⟩
 have HB := Lib.hid (HBox.out.trans (hb.mono HBox.out.size)); clear hb
 go_wp2_with fail
 go_ret
 exact ⟨rfl, HB.out⟩
set_option maxHeartbeats 2000000 in
theorem maySet_any (kk : Nat) (n : Int) (t r i s : Nat) (x : ByteArray) (ia : Option Addr) (il ic : Nat) (da : Option Addr) (dl dc : Nat) (li : List Lm.It) (ld : List Dt.Dot) (W : World) (hi : IRow W ia ic li) (hil : li.length = il) (hd : VRow W da dc ld) (hdl : ld.length = dl) (hn : il ≤ 1000000000) :
  Calls Tryz.prog 18 #[leafV kk n t r i s x ia il ic da dl dc] W fun e w' => e = .returned (.bool (Lm.maySet ⟨kk, n, t, ((r, i), s), x, li, ld⟩)) ∧ Below W.heap.size W w' := by
 have HBox := Lib.hid (below_box W #[.int .u8 (kk : Int), .int .i64 n, .int .u64 (t : Int), .int .u8 (r : Int), .int .u32 (i : Int), .int .u64 (s : Int), .string x, .slice ia il ic, .slice da dl dc] 31)
 have HI := Lib.hid hi; have HIl := Lib.hid hil; have HD := Lib.hid hd; have HDl := Lib.hid hdl
 clear hi hil hd hdl
 cases hm : Lm.mayItems 0 0 li
 ·have HM := Lib.hid hm; clear hm
  go_enter Tryz.func18, Tryz.ntmps18
  go_wp2_with fail
  refine (mayItems_any ia il ic 0 0 li _ (HI.out.below HBox.out) HIl.out).mono ?_
  rintro e w1 ⟨rfl, hb⟩
  rw [HM.out]
  have HB := Lib.hid (HBox.out.trans (hb.mono HBox.out.size)); clear hb
  go_wp2_with fail
  go_ret
  exact ⟨ret_bool (by simp [Lm.maySet, HM.out]), HB.out⟩
 have HM := Lib.hid hm; clear hm
 cases hm : Lm.mayTombs ld
 ·have HT := Lib.hid hm; clear hm
  go_enter Tryz.func18, Tryz.ntmps18
  go_wp2_with fail
  refine (mayItems_any ia il ic 0 0 li _ (HI.out.below HBox.out) HIl.out).mono ?_
  rintro e w1 ⟨rfl, hb⟩
  obtain ⟨c0, c1, c2, c3, c4, c5, c6, c7, c8⟩ := leafcells hb
  rw [HM.out]
  have HB := Lib.hid (HBox.out.trans (hb.mono HBox.out.size)); clear hb
  go_wp2_with fail
  refine (mayTombs_any da dl dc ld _ (HD.out.below HB.out) HDl.out).mono ?_
  rintro e w2 ⟨rfl, hb⟩
  rw [HT.out]
  have HB2 := Lib.hid (HB.out.trans (hb.mono HB.out.size)); clear hb c0 c1 c2 c3 c4 c5 c6 c7 c8
  go_wp2_with fail
  go_ret
  exact ⟨ret_bool (by simp [Lm.maySet, HT.out]), HB2.out⟩
 have HT := Lib.hid hm; clear hm
 have hp : (Lm.dots li).Pairwise Dt.lt := by
  obtain ⟨h1, h2⟩ := Lm.mayItems_iff.1 HM.out
  exact Lm.dots_of_asc h2 fun y hy => by have := (Lm.mayI_iff.1 (h1 y hy)); omega
 have HP := Lib.hid hp; clear hp
 go_enter Tryz.func18, Tryz.ntmps18
 go_wp2_with fail
 refine (mayItems_any ia il ic 0 0 li _ (HI.out.below HBox.out) HIl.out).mono ?_
 rintro e w1 ⟨rfl, hb⟩
 obtain ⟨c0, c1, c2, c3, c4, c5, c6, c7, c8⟩ := leafcells hb
 rw [HM.out]
 have hs1 := hb.size
 have HB := Lib.hid (HBox.out.trans (hb.mono HBox.out.size)); clear hb
 go_wp2_with fail
 refine (mayTombs_any da dl dc ld _ (HD.out.below HB.out) HDl.out).mono ?_
 rintro e w2 ⟨rfl, hb⟩
 have hlt : W.heap.size < w1.heap.size := by simp at hs1; omega
 have e5 := (hb.cell (p := ⟨W.heap.size, 7, none⟩) hlt).trans c7
 have e8 := (hb.cell (p := ⟨W.heap.size, 8, none⟩) hlt).trans c8
 rw [HT.out]
 have HB2 := Lib.hid (HB.out.trans (hb.mono HB.out.size)); clear c0 c1 c2 c3 c4 c5 c6 c7 c8
 have hlt2 : W.heap.size < w2.heap.size := Nat.lt_of_lt_of_le hlt hb.size
 clear hb
 go_wp2_with fail
 refine (containsD_any da dl dc 41 #[.pointer (some ⟨W.heap.size, 0, none⟩)] (fun d => Lm.hasI li d) ld _ (HD.out.below HB2.out) HDl.out enters_maySet (fun k d w hd hb => ?_)).mono ?_
 ·exact maySetF_any d.1.1 d.1.2 d.2 W.heap.size ia il ic li w ((hb.cell (p := ⟨W.heap.size, 7, none⟩) hlt2).trans e5) (HI.out.below (HB2.out.trans (hb.mono HB2.out.size))) HIl.out hn HP.out
 rintro e w3 ⟨rfl, hb⟩
 have HB3 := Lib.hid (HB2.out.trans (hb.mono HB2.out.size)); clear hb e5 e8
 go_wp2_with fail
 go_ret
 exact ⟨ret_bool (by simp [Lm.maySet, HM.out, HT.out]), HB3.out⟩
set_option maxHeartbeats 2000000 in
theorem mayLog_any (kk : Nat) (n : Int) (t r i s : Nat) (x : ByteArray) (ia : Option Addr) (il ic : Nat) (da : Option Addr) (dl dc : Nat) (li : List Lm.It) (ld : List Dt.Dot) (W : World) (hi : IRow W ia ic li) (hil : li.length = il) (hd : VRow W da dc ld) (hdl : ld.length = dl) (hn : il ≤ 1000000000) :
  Calls Tryz.prog 19 #[leafV kk n t r i s x ia il ic da dl dc] W fun e w' => e = .returned (.bool (Lm.mayLog ⟨kk, n, t, ((r, i), s), x, li, ld⟩)) ∧ Below W.heap.size W w' := by
 have HBox := Lib.hid (below_box W #[.int .u8 (kk : Int), .int .i64 n, .int .u64 (t : Int), .int .u8 (r : Int), .int .u32 (i : Int), .int .u64 (s : Int), .string x, .slice ia il ic, .slice da dl dc] 31)
 have HI := Lib.hid hi; have HIl := Lib.hid hil; have HD := Lib.hid hd; have HDl := Lib.hid hdl
 clear hi hil hd hdl
 cases hm : Lm.mayItems 1 1099511627776 li
 ·have HM := Lib.hid hm; clear hm
  go_enter Tryz.func19, Tryz.ntmps19
  go_wp2_with fail
  refine (mayItems_any ia il ic 1 1099511627776 li _ (HI.out.below HBox.out) HIl.out).mono ?_
  rintro e w1 ⟨rfl, hb⟩
  rw [HM.out]
  have HB := Lib.hid (HBox.out.trans (hb.mono HBox.out.size)); clear hb
  go_wp2_with fail
  go_ret
  exact ⟨ret_bool (by simp [Lm.mayLog, HM.out]), HB.out⟩
 have HM := Lib.hid hm; clear hm
 go_enter Tryz.func19, Tryz.ntmps19
 go_wp2_with fail
 refine (mayItems_any ia il ic 1 1099511627776 li _ (HI.out.below HBox.out) HIl.out).mono ?_
 rintro e w1 ⟨rfl, hb⟩
 obtain ⟨c0, c1, c2, c3, c4, c5, c6, c7, c8⟩ := leafcells hb
 rw [HM.out]
 have HB := Lib.hid (HBox.out.trans (hb.mono HBox.out.size)); clear hb
 go_wp2_with fail
 refine (noneTwice_any ia il ic li _ (HI.out.below HB.out) HIl.out hn).mono ?_
 rintro e w2 ⟨rfl, hb⟩
 have HB2 := Lib.hid (HB.out.trans (hb.mono HB.out.size)); clear hb c0 c1 c2 c3 c4 c5 c6 c7 c8
 go_wp2_with fail
 go_ret
 exact ⟨ret_bool (by simp [Lm.mayLog, HM.out]), HB2.out⟩
end Go.Proofs.YteakbfbacfhhoaaGreat
namespace Go.Proofs.YteakbfbacfhhoaaGreat
open Go.RowKit Go.Buf Go.LB
set_option linter.unusedSimpArgs false
set_option linter.unusedVariables false
theorem undrew {B : Nat} {w w' : World} (h : Below B w.drew w') : Below B w w' := ⟨h.os, h.tape, h.output, h.size, h.block⟩
theorem new2_any (W : World) : Calls Tryz.prog 11 #[.int .u8 2] W fun e w' => e = .returned (.agg #[.int .u8 2, .int .i64 0, .int .u64 0, .int .u8 0, .int .u32 0, .int .u64 0, .string ⟨#[]⟩, .slice none 0 0, .slice none 0 0]) ∧ Below W.heap.size W w' := new_any 2 W
set_option maxRecDepth 100000 in
set_option maxHeartbeats 4000000 in
theorem mayReg_true (kk : Nat) (n : Int) (t r i s : Nat) (x : ByteArray) (ia : Option Addr) (il ic : Nat) (da : Option Addr) (dl dc : Nat) (li : List Lm.It) (ld : List Dt.Dot) (W : World) (hi : IRow W ia ic li) (hil : li.length = il) (hd : VRow W da dc ld) (hdl : ld.length = dl) (hx : x.size ≤ 9223372036854775807) (hs : Lm.same ⟨kk, n, t, ((r, i), s), x, li, ld⟩ ⟨2, 0, 0, ((0, 0), 0), ⟨#[]⟩, [], []⟩ = true) :
  Calls Tryz.prog 17 #[leafV kk n t r i s x ia il ic da dl dc] W fun e w' => e = .returned (.bool (Lm.mayReg ⟨kk, n, t, ((r, i), s), x, li, ld⟩)) ∧ Below W.heap.size W w' := by
 have HBox := Lib.hid (below_box W #[.int .u8 (kk : Int), .int .i64 n, .int .u64 (t : Int), .int .u8 (r : Int), .int .u32 (i : Int), .int .u64 (s : Int), .string x, .slice ia il ic, .slice da dl dc] 31)
 have HI := Lib.hid hi; have HIl := Lib.hid hil; have HD := Lib.hid hd; have HDl := Lib.hid hdl
 clear hi hil hd hdl
 have HS := Lib.hid hs; have HX := Lib.hid hx; clear hs hx
 go_enter Tryz.func17, Tryz.ntmps17
 go_wp2_with fail
 refine Reg.region_list (by kernel_rfl) [fun v _ => v = .agg #[.int .u8 (kk : Int), .int .i64 n, .int .u64 (t : Int), .int .u8 (r : Int), .int .u32 (i : Int), .int .u64 (s : Int), .string x, .slice ia il ic, .slice da dl dc], fun v _ => v = .agg #[.int .u8 2, .int .i64 0, .int .u64 0, .int .u8 0, .int .u32 0, .int .u64 0, .string ⟨#[]⟩, .slice none 0 0, .slice none 0 0], fun v _ => v = .bool true, fun v _ => v = .bool true, fun v _ => v = undef, fun v _ => v = undef, fun v _ => v = undef, fun v _ => v = undef, fun v _ => v = undef, fun v _ => v = undef, fun v _ => v = undef, fun v _ => v = undef, fun v _ => v = .bool true, fun v _ => v = .bool true] (by kernel_rfl) ?_ ?_ ?_
 ·refine ⟨k4, k4, k4, k4, k4, k4, k4, k4, k4, k4, k4, k4, k4, k4, trivial⟩
 ·refine ⟨?_, ?_, ?_, ?_, ?_, ?_, ?_, ?_, ?_, ?_, ?_, ?_, ?_, ?_, trivial⟩
  ·intro ev w hc hf hg hfix hdep hbel
   have e1 : ev (.tmp 1) = _ := hfix 1 (by decide)
   have hbd := undrew hbel
   obtain ⟨hc0, hc1, hc2, hc3, hc4, hc5, hc6, hc7, hc8⟩ := leafcells hbd
   exact okb trivial rfl (by go_simp)
  ·intro ev w hc hf hg hfix hdep hbel
   refine Or.inl ⟨trivial, Or.inr ⟨11, #[.int .u8 2], w, by go_simp, ?_⟩⟩
   refine (new2_any w).mono ?_
   rintro e w1 ⟨rfl, hb1⟩
   exact ⟨_, rfl, rfl, hb1⟩
  ·intro ev w hc hf hg hfix hdep hbel
   have e3 : ev (.tmp 3) = _ := hdep 0 (by decide)
   have e4 : ev (.tmp 4) = _ := hdep 1 (by decide)
   refine Or.inl ⟨trivial, Or.inr ⟨9, #[.agg #[.int .u8 (kk : Int), .int .i64 n, .int .u64 (t : Int), .int .u8 (r : Int), .int .u32 (i : Int), .int .u64 (s : Int), .string x, .slice ia il ic, .slice da dl dc], .agg #[.int .u8 2, .int .i64 0, .int .u64 0, .int .u8 0, .int .u32 0, .int .u64 0, .string ⟨#[]⟩, .slice none 0 0, .slice none 0 0]], w, by go_simp, ?_⟩⟩
   refine (same_any kk n t r i s x ia il ic da dl dc li ld 2 0 0 0 0 0 ⟨#[]⟩ none 0 0 none 0 0 [] [] w (HI.out.below (HBox.out.trans ((undrew hbel).mono HBox.out.size))) HIl.out (HD.out.below (HBox.out.trans ((undrew hbel).mono HBox.out.size))) HDl.out (IRow.nil _) rfl (VRow.nil _) rfl).mono ?_
   rintro e w1 ⟨rfl, hb1⟩
   rw [HS.out]
   exact ⟨_, rfl, rfl, hb1⟩
  ·intro ev w hc hf hg hfix hdep hbel
   have e5 : ev (.tmp 5) = _ := hdep 2 (by decide)
   exact okb trivial rfl (by go_simp)
  ·intro ev w hc hf hg hfix hdep hbel
   have fg : ev (.tmp 6) = _ := hdep 3 (by decide)
   exact Or.inr ⟨Or.inl fg, rfl⟩
  ·intro ev w hc hf hg hfix hdep hbel
   have fg : ev (.tmp 6) = _ := hdep 3 (by decide)
   exact Or.inr ⟨Or.inl fg, rfl⟩
  ·intro ev w hc hf hg hfix hdep hbel
   have fg : ev (.tmp 6) = _ := hdep 3 (by decide)
   exact Or.inr ⟨Or.inl fg, rfl⟩
  ·intro ev w hc hf hg hfix hdep hbel
   have fg : ev (.tmp 6) = _ := hdep 3 (by decide)
   exact Or.inr ⟨Or.inl fg, rfl⟩
  ·intro ev w hc hf hg hfix hdep hbel
   have fg : ev (.tmp 6) = _ := hdep 3 (by decide)
   exact Or.inr ⟨Or.inl fg, rfl⟩
  ·intro ev w hc hf hg hfix hdep hbel
   have fg : ev (.tmp 6) = _ := hdep 3 (by decide)
   exact Or.inr ⟨Or.inl fg, rfl⟩
  ·intro ev w hc hf hg hfix hdep hbel
   have fg : ev (.tmp 6) = _ := hdep 3 (by decide)
   exact Or.inr ⟨Or.inl fg, rfl⟩
  ·intro ev w hc hf hg hfix hdep hbel
   have fg : ev (.tmp 6) = _ := hdep 3 (by decide)
   exact Or.inr ⟨Or.inl fg, rfl⟩
  ·intro ev w hc hf hg hfix hdep hbel
   have e6 : ev (.tmp 6) = _ := hdep 3 (by decide)
   have e14 : ev (.tmp 14) = _ := hdep 11 (by decide)
   exact okb trivial rfl (by go_simp)
  ·intro ev w hc hf hg hfix hdep hbel
   have e15 : ev (.tmp 15) = _ := hdep 12 (by decide)
   exact okb trivial rfl (by go_simp)
 ·intro v w2 hv hb2
  have r0 : v 0 = _ := hv 0 (by decide)
  have r1 : v 1 = _ := hv 1 (by decide)
  have r2 : v 2 = _ := hv 2 (by decide)
  have r3 : v 3 = _ := hv 3 (by decide)
  have r4 : v 4 = _ := hv 4 (by decide)
  have r5 : v 5 = _ := hv 5 (by decide)
  have r6 : v 6 = _ := hv 6 (by decide)
  have r7 : v 7 = _ := hv 7 (by decide)
  have r8 : v 8 = _ := hv 8 (by decide)
  have r9 : v 9 = _ := hv 9 (by decide)
  have r10 : v 10 = _ := hv 10 (by decide)
  have r11 : v 11 = _ := hv 11 (by decide)
  have r12 : v 12 = _ := hv 12 (by decide)
  have r13 : v 13 = _ := hv 13 (by decide)
  simp only [Reg.putAll, Act.put, List.setIfInBounds_toArray, List.set_cons_zero, List.set_cons_succ, r0, r1, r2, r3, r4, r5, r6, r7, r8, r9, r10, r11, r12, r13]
  clear r0 r1 r2 r3 r4 r5 r6 r7 r8 r9 r10 r11 r12 r13 hv
  have HB := Lib.hid (HBox.out.trans (hb2.mono HBox.out.size)); clear hb2
  go_wp2_with fail
  go_ret
  have hs2 := HS.out
  exact ⟨ret_bool (by simp [Lm.mayReg, Lm.new, Lm.zeroL, hs2]), HB.out⟩
set_option maxRecDepth 100000 in
set_option maxHeartbeats 4000000 in
theorem mayReg_false (kk : Nat) (n : Int) (t r i s : Nat) (x : ByteArray) (ia : Option Addr) (il ic : Nat) (da : Option Addr) (dl dc : Nat) (li : List Lm.It) (ld : List Dt.Dot) (W : World) (hi : IRow W ia ic li) (hil : li.length = il) (hd : VRow W da dc ld) (hdl : ld.length = dl) (hx : x.size ≤ 9223372036854775807) (hs : Lm.same ⟨kk, n, t, ((r, i), s), x, li, ld⟩ ⟨2, 0, 0, ((0, 0), 0), ⟨#[]⟩, [], []⟩ = false) :
  Calls Tryz.prog 17 #[leafV kk n t r i s x ia il ic da dl dc] W fun e w' => e = .returned (.bool (Lm.mayReg ⟨kk, n, t, ((r, i), s), x, li, ld⟩)) ∧ Below W.heap.size W w' := by
 have HBox := Lib.hid (below_box W #[.int .u8 (kk : Int), .int .i64 n, .int .u64 (t : Int), .int .u8 (r : Int), .int .u32 (i : Int), .int .u64 (s : Int), .string x, .slice ia il ic, .slice da dl dc] 31)
 have HI := Lib.hid hi; have HIl := Lib.hid hil; have HD := Lib.hid hd; have HDl := Lib.hid hdl
 clear hi hil hd hdl
 have HS := Lib.hid hs; have HX := Lib.hid hx; clear hs hx
 go_enter Tryz.func17, Tryz.ntmps17
 go_wp2_with fail
 refine Reg.region_list (by kernel_rfl) [fun v _ => v = .agg #[.int .u8 (kk : Int), .int .i64 n, .int .u64 (t : Int), .int .u8 (r : Int), .int .u32 (i : Int), .int .u64 (s : Int), .string x, .slice ia il ic, .slice da dl dc], fun v _ => v = .agg #[.int .u8 2, .int .i64 0, .int .u64 0, .int .u8 0, .int .u32 0, .int .u64 0, .string ⟨#[]⟩, .slice none 0 0, .slice none 0 0], fun v _ => v = .bool false, fun v _ => v = .bool false, fun v _ => v = .pointer (some ⟨W.heap.size, 2, none⟩), fun v _ => v = .int .u64 (t : Int), fun v _ => v = .pointer (some ⟨W.heap.size, 3, none⟩), fun v _ => v = .agg #[.int .u8 (r : Int), .int .u32 (i : Int), .int .u64 (s : Int)], fun v _ => v = .pointer (some ⟨W.heap.size, 6, none⟩), fun v _ => v = .string x, fun v _ => v = .agg #[.int .u64 (t : Int), .int .u8 (r : Int), .int .u32 (i : Int), .int .u64 (s : Int), .string x], fun v _ => v = .bool (Lm.mayI 1 1099511627776 (t, ((r, i), s), x)), fun v _ => v = .bool (Lm.mayI 1 1099511627776 (t, ((r, i), s), x)), fun v _ => v = .bool (Lm.mayI 1 1099511627776 (t, ((r, i), s), x))] (by kernel_rfl) ?_ ?_ ?_
 ·refine ⟨k4, k4, k4, k4, k4, k4, k4, k4, k4, k4, k4, k4, k4, k4, trivial⟩
 ·refine ⟨?_, ?_, ?_, ?_, ?_, ?_, ?_, ?_, ?_, ?_, ?_, ?_, ?_, ?_, trivial⟩
  ·intro ev w hc hf hg hfix hdep hbel
   have e1 : ev (.tmp 1) = _ := hfix 1 (by decide)
   have hbd := undrew hbel
   obtain ⟨hc0, hc1, hc2, hc3, hc4, hc5, hc6, hc7, hc8⟩ := leafcells hbd
   exact okb trivial rfl (by go_simp)
  ·intro ev w hc hf hg hfix hdep hbel
   refine Or.inl ⟨trivial, Or.inr ⟨11, #[.int .u8 2], w, by go_simp, ?_⟩⟩
   refine (new2_any w).mono ?_
   rintro e w1 ⟨rfl, hb1⟩
   exact ⟨_, rfl, rfl, hb1⟩
  ·intro ev w hc hf hg hfix hdep hbel
   have e3 : ev (.tmp 3) = _ := hdep 0 (by decide)
   have e4 : ev (.tmp 4) = _ := hdep 1 (by decide)
   refine Or.inl ⟨trivial, Or.inr ⟨9, #[.agg #[.int .u8 (kk : Int), .int .i64 n, .int .u64 (t : Int), .int .u8 (r : Int), .int .u32 (i : Int), .int .u64 (s : Int), .string x, .slice ia il ic, .slice da dl dc], .agg #[.int .u8 2, .int .i64 0, .int .u64 0, .int .u8 0, .int .u32 0, .int .u64 0, .string ⟨#[]⟩, .slice none 0 0, .slice none 0 0]], w, by go_simp, ?_⟩⟩
   refine (same_any kk n t r i s x ia il ic da dl dc li ld 2 0 0 0 0 0 ⟨#[]⟩ none 0 0 none 0 0 [] [] w (HI.out.below (HBox.out.trans ((undrew hbel).mono HBox.out.size))) HIl.out (HD.out.below (HBox.out.trans ((undrew hbel).mono HBox.out.size))) HDl.out (IRow.nil _) rfl (VRow.nil _) rfl).mono ?_
   rintro e w1 ⟨rfl, hb1⟩
   rw [HS.out]
   exact ⟨_, rfl, rfl, hb1⟩
  ·intro ev w hc hf hg hfix hdep hbel
   have e5 : ev (.tmp 5) = _ := hdep 2 (by decide)
   exact okb trivial rfl (by go_simp)
  ·intro ev w hc hf hg hfix hdep hbel
   have fg : ev (.tmp 6) = _ := hdep 3 (by decide)
   have e1 : ev (.tmp 1) = _ := hfix 1 (by decide)
   exact okb fg rfl (by go_simp)
  ·intro ev w hc hf hg hfix hdep hbel
   have fg : ev (.tmp 6) = _ := hdep 3 (by decide)
   have e7 : ev (.tmp 7) = _ := hdep 4 (by decide)
   have hbd := undrew hbel
   obtain ⟨hc0, hc1, hc2, hc3, hc4, hc5, hc6, hc7, hc8⟩ := leafcells hbd
   exact okb fg rfl (by go_simp)
  ·intro ev w hc hf hg hfix hdep hbel
   have fg : ev (.tmp 6) = _ := hdep 3 (by decide)
   have e1 : ev (.tmp 1) = _ := hfix 1 (by decide)
   exact okb fg rfl (by go_simp)
  ·intro ev w hc hf hg hfix hdep hbel
   have fg : ev (.tmp 6) = _ := hdep 3 (by decide)
   have e9 : ev (.tmp 9) = _ := hdep 6 (by decide)
   have hbd := undrew hbel
   obtain ⟨hc0, hc1, hc2, hc3, hc4, hc5, hc6, hc7, hc8⟩ := leafcells hbd
   exact okb fg rfl (by go_simp)
  ·intro ev w hc hf hg hfix hdep hbel
   have fg : ev (.tmp 6) = _ := hdep 3 (by decide)
   have e1 : ev (.tmp 1) = _ := hfix 1 (by decide)
   exact okb fg rfl (by go_simp)
  ·intro ev w hc hf hg hfix hdep hbel
   have fg : ev (.tmp 6) = _ := hdep 3 (by decide)
   have e11 : ev (.tmp 11) = _ := hdep 8 (by decide)
   have hbd := undrew hbel
   obtain ⟨hc0, hc1, hc2, hc3, hc4, hc5, hc6, hc7, hc8⟩ := leafcells hbd
   exact okb fg rfl (by go_simp)
  ·intro ev w hc hf hg hfix hdep hbel
   have fg : ev (.tmp 6) = _ := hdep 3 (by decide)
   have e8 : ev (.tmp 8) = _ := hdep 5 (by decide)
   have e10 : ev (.tmp 10) = _ := hdep 7 (by decide)
   have e12 : ev (.tmp 12) = _ := hdep 9 (by decide)
   exact okb fg rfl (by go_simp)
  ·intro ev w hc hf hg hfix hdep hbel
   have fg : ev (.tmp 6) = _ := hdep 3 (by decide)
   have e13 : ev (.tmp 13) = _ := hdep 10 (by decide)
   refine Or.inl ⟨fg, Or.inr ⟨37, #[.agg #[.int .u64 (t : Int), .int .u8 (r : Int), .int .u32 (i : Int), .int .u64 (s : Int), .string x], .int .u64 1, .int .u64 1099511627776], w, by go_simp, ?_⟩⟩
   refine (mayItem_any t r i s x 1 1099511627776 HX.out w).mono ?_
   rintro e w1 ⟨rfl, hb1⟩
   exact ⟨_, rfl, rfl, hb1⟩
  ·intro ev w hc hf hg hfix hdep hbel
   have e6 : ev (.tmp 6) = _ := hdep 3 (by decide)
   have e14 : ev (.tmp 14) = _ := hdep 11 (by decide)
   exact okb trivial rfl (by go_simp)
  ·intro ev w hc hf hg hfix hdep hbel
   have e15 : ev (.tmp 15) = _ := hdep 12 (by decide)
   exact okb trivial rfl (by go_simp)
 ·intro v w2 hv hb2
  have r0 : v 0 = _ := hv 0 (by decide)
  have r1 : v 1 = _ := hv 1 (by decide)
  have r2 : v 2 = _ := hv 2 (by decide)
  have r3 : v 3 = _ := hv 3 (by decide)
  have r4 : v 4 = _ := hv 4 (by decide)
  have r5 : v 5 = _ := hv 5 (by decide)
  have r6 : v 6 = _ := hv 6 (by decide)
  have r7 : v 7 = _ := hv 7 (by decide)
  have r8 : v 8 = _ := hv 8 (by decide)
  have r9 : v 9 = _ := hv 9 (by decide)
  have r10 : v 10 = _ := hv 10 (by decide)
  have r11 : v 11 = _ := hv 11 (by decide)
  have r12 : v 12 = _ := hv 12 (by decide)
  have r13 : v 13 = _ := hv 13 (by decide)
  simp only [Reg.putAll, Act.put, List.setIfInBounds_toArray, List.set_cons_zero, List.set_cons_succ, r0, r1, r2, r3, r4, r5, r6, r7, r8, r9, r10, r11, r12, r13]
  clear r0 r1 r2 r3 r4 r5 r6 r7 r8 r9 r10 r11 r12 r13 hv
  have HB := Lib.hid (HBox.out.trans (hb2.mono HBox.out.size)); clear hb2
  go_wp2_with fail
  go_ret
  have hs2 := HS.out
  exact ⟨ret_bool (by simp [Lm.mayReg, Lm.new, Lm.zeroL, hs2]), HB.out⟩
theorem mayReg_any (kk : Nat) (n : Int) (t r i s : Nat) (x : ByteArray) (ia : Option Addr) (il ic : Nat) (da : Option Addr) (dl dc : Nat) (li : List Lm.It) (ld : List Dt.Dot) (W : World) (hi : IRow W ia ic li) (hil : li.length = il) (hd : VRow W da dc ld) (hdl : ld.length = dl) (hx : x.size ≤ 9223372036854775807) :
  Calls Tryz.prog 17 #[leafV kk n t r i s x ia il ic da dl dc] W fun e w' => e = .returned (.bool (Lm.mayReg ⟨kk, n, t, ((r, i), s), x, li, ld⟩)) ∧ Below W.heap.size W w' := by
 cases hs : Lm.same ⟨kk, n, t, ((r, i), s), x, li, ld⟩ ⟨2, 0, 0, ((0, 0), 0), ⟨#[]⟩, [], []⟩
 ·exact mayReg_false kk n t r i s x ia il ic da dl dc li ld W hi hil hd hdl hx hs
 ·exact mayReg_true kk n t r i s x ia il ic da dl dc li ld W hi hil hd hdl hx hs
set_option maxHeartbeats 4000000 in
theorem leafmay_1 (kk : Nat) (n : Int) (t r i s : Nat) (x : ByteArray) (ia : Option Addr) (il ic : Nat) (da : Option Addr) (dl dc : Nat) (li : List Lm.It) (ld : List Dt.Dot) (W : World) (hi : IRow W ia ic li) (hil : li.length = il) (hd : VRow W da dc ld) (hdl : ld.length = dl) (hx : x.size ≤ 9223372036854775807) (hn : il ≤ 1000000000) (hk : kk = 1) :
  Calls Tryz.prog 7 #[leafV kk n t r i s x ia il ic da dl dc] W fun e w' => e = .returned (.bool (Lm.may ⟨kk, n, t, ((r, i), s), x, li, ld⟩)) ∧ Below W.heap.size W w' := by
 have HBox := Lib.hid (below_box W #[.int .u8 (kk : Int), .int .i64 n, .int .u64 (t : Int), .int .u8 (r : Int), .int .u32 (i : Int), .int .u64 (s : Int), .string x, .slice ia il ic, .slice da dl dc] 31)
 have HI := Lib.hid hi; have HIl := Lib.hid hil; have HD := Lib.hid hd; have HDl := Lib.hid hdl
 clear hi hil hd hdl
 have HX := Lib.hid hx; clear hx
 have d1 : ((kk : Int) == 1) = true := by simp; omega
 have hM : Lm.may ⟨kk, n, t, ((r, i), s), x, li, ld⟩ = Lm.same ⟨kk, n, t, ((r, i), s), x, li, ld⟩ ⟨kk, n, 0, ((0, 0), 0), ⟨#[]⟩, [], []⟩ := by simp [Lm.may, Lm.zeroL, hk]
 have HM := Lib.hid hM; have HK := Lib.hid hk; clear hM hk
 go_enter Tryz.func7, Tryz.ntmps7
 go_wp2_with fail
 refine (same_any kk n t r i s x ia il ic da dl dc li ld kk n 0 0 0 0 ⟨#[]⟩ none 0 0 none 0 0 [] [] _ (HI.out.below (HBox.out)) HIl.out (HD.out.below (HBox.out)) HDl.out (IRow.nil _) rfl (VRow.nil _) rfl).mono ?_
 rintro e w1 ⟨rfl, hb⟩
 have HB := Lib.hid (HBox.out.trans (hb.mono HBox.out.size)); clear hb
 go_wp2_with fail
 go_ret
 exact ⟨ret_bool HM.out.symm, HB.out⟩
set_option maxHeartbeats 4000000 in
theorem leafmay_2 (kk : Nat) (n : Int) (t r i s : Nat) (x : ByteArray) (ia : Option Addr) (il ic : Nat) (da : Option Addr) (dl dc : Nat) (li : List Lm.It) (ld : List Dt.Dot) (W : World) (hi : IRow W ia ic li) (hil : li.length = il) (hd : VRow W da dc ld) (hdl : ld.length = dl) (hx : x.size ≤ 9223372036854775807) (hn : il ≤ 1000000000) (hk : kk = 2) :
  Calls Tryz.prog 7 #[leafV kk n t r i s x ia il ic da dl dc] W fun e w' => e = .returned (.bool (Lm.may ⟨kk, n, t, ((r, i), s), x, li, ld⟩)) ∧ Below W.heap.size W w' := by
 have HBox := Lib.hid (below_box W #[.int .u8 (kk : Int), .int .i64 n, .int .u64 (t : Int), .int .u8 (r : Int), .int .u32 (i : Int), .int .u64 (s : Int), .string x, .slice ia il ic, .slice da dl dc] 31)
 have HI := Lib.hid hi; have HIl := Lib.hid hil; have HD := Lib.hid hd; have HDl := Lib.hid hdl
 clear hi hil hd hdl
 have HX := Lib.hid hx; clear hx
 have d1 : ((kk : Int) == 1) = false := by simp; omega
 have d2 : ((kk : Int) == 2) = true := by simp; omega
 have hM : Lm.may ⟨kk, n, t, ((r, i), s), x, li, ld⟩ = (Lm.same ⟨kk, n, t, ((r, i), s), x, li, ld⟩ ⟨kk, 0, t, ((r, i), s), x, [], []⟩ && Lm.mayReg ⟨kk, n, t, ((r, i), s), x, li, ld⟩) := by simp [Lm.may, Lm.zeroL, hk]
 have HM := Lib.hid hM; have HK := Lib.hid hk; clear hM hk
 cases hs : Lm.same ⟨kk, n, t, ((r, i), s), x, li, ld⟩ ⟨kk, 0, t, ((r, i), s), x, [], []⟩
 ·have HS := Lib.hid hs; clear hs
  go_enter Tryz.func7, Tryz.ntmps7
  go_wp2_with fail
  refine (same_any kk n t r i s x ia il ic da dl dc li ld kk 0 t r i s x none 0 0 none 0 0 [] [] _ (HI.out.below (HBox.out)) HIl.out (HD.out.below (HBox.out)) HDl.out (IRow.nil _) rfl (VRow.nil _) rfl).mono ?_
  rintro e w1 ⟨rfl, hb⟩
  rw [HS.out]
  have HB := Lib.hid (HBox.out.trans (hb.mono HBox.out.size)); clear hb
  go_wp2_with fail
  go_ret
  exact ⟨ret_bool (by rw [HM.out, HS.out]; rfl), HB.out⟩
 ·have HS := Lib.hid hs; clear hs
  go_enter Tryz.func7, Tryz.ntmps7
  go_wp2_with fail
  refine (same_any kk n t r i s x ia il ic da dl dc li ld kk 0 t r i s x none 0 0 none 0 0 [] [] _ (HI.out.below (HBox.out)) HIl.out (HD.out.below (HBox.out)) HDl.out (IRow.nil _) rfl (VRow.nil _) rfl).mono ?_
  rintro e w1 ⟨rfl, hb⟩
  obtain ⟨c0, c1, c2, c3, c4, c5, c6, c7, c8⟩ := leafcells hb
  rw [HS.out]
  have HB := Lib.hid (HBox.out.trans (hb.mono HBox.out.size)); clear hb
  go_wp2_with fail
  refine (mayReg_any kk n t r i s x ia il ic da dl dc li ld _ (HI.out.below HB.out) HIl.out (HD.out.below HB.out) HDl.out HX.out).mono ?_
  rintro e w2 ⟨rfl, hb⟩
  have HB2 := Lib.hid (HB.out.trans (hb.mono HB.out.size)); clear hb c0 c1 c2 c3 c4 c5 c6 c7 c8
  go_wp2_with fail
  go_ret
  exact ⟨ret_bool (by rw [HM.out, HS.out]; rfl), HB2.out⟩
set_option maxHeartbeats 4000000 in
theorem leafmay_3 (kk : Nat) (n : Int) (t r i s : Nat) (x : ByteArray) (ia : Option Addr) (il ic : Nat) (da : Option Addr) (dl dc : Nat) (li : List Lm.It) (ld : List Dt.Dot) (W : World) (hi : IRow W ia ic li) (hil : li.length = il) (hd : VRow W da dc ld) (hdl : ld.length = dl) (hx : x.size ≤ 9223372036854775807) (hn : il ≤ 1000000000) (hk : kk = 3) :
  Calls Tryz.prog 7 #[leafV kk n t r i s x ia il ic da dl dc] W fun e w' => e = .returned (.bool (Lm.may ⟨kk, n, t, ((r, i), s), x, li, ld⟩)) ∧ Below W.heap.size W w' := by
 have HBox := Lib.hid (below_box W #[.int .u8 (kk : Int), .int .i64 n, .int .u64 (t : Int), .int .u8 (r : Int), .int .u32 (i : Int), .int .u64 (s : Int), .string x, .slice ia il ic, .slice da dl dc] 31)
 have HI := Lib.hid hi; have HIl := Lib.hid hil; have HD := Lib.hid hd; have HDl := Lib.hid hdl
 clear hi hil hd hdl
 have HX := Lib.hid hx; clear hx
 have d1 : ((kk : Int) == 1) = false := by simp; omega
 have d2 : ((kk : Int) == 2) = false := by simp; omega
 have d3 : ((kk : Int) == 3) = true := by simp; omega
 have hM : Lm.may ⟨kk, n, t, ((r, i), s), x, li, ld⟩ = (Lm.same ⟨kk, n, t, ((r, i), s), x, li, ld⟩ ⟨kk, 0, 0, ((0, 0), 0), ⟨#[]⟩, li, ld⟩ && Lm.maySet ⟨kk, n, t, ((r, i), s), x, li, ld⟩) := by simp [Lm.may, Lm.zeroL, hk]
 have HM := Lib.hid hM; have HK := Lib.hid hk; clear hM hk
 cases hs : Lm.same ⟨kk, n, t, ((r, i), s), x, li, ld⟩ ⟨kk, 0, 0, ((0, 0), 0), ⟨#[]⟩, li, ld⟩
 ·have HS := Lib.hid hs; clear hs
  go_enter Tryz.func7, Tryz.ntmps7
  go_wp2_with fail
  refine (same_any kk n t r i s x ia il ic da dl dc li ld kk 0 0 0 0 0 ⟨#[]⟩ ia il ic da dl dc li ld _ (HI.out.below (HBox.out)) HIl.out (HD.out.below (HBox.out)) HDl.out (HI.out.below HBox.out) HIl.out (HD.out.below HBox.out) HDl.out).mono ?_
  rintro e w1 ⟨rfl, hb⟩
  rw [HS.out]
  have HB := Lib.hid (HBox.out.trans (hb.mono HBox.out.size)); clear hb
  go_wp2_with fail
  go_ret
  exact ⟨ret_bool (by rw [HM.out, HS.out]; rfl), HB.out⟩
 ·have HS := Lib.hid hs; clear hs
  go_enter Tryz.func7, Tryz.ntmps7
  go_wp2_with fail
  refine (same_any kk n t r i s x ia il ic da dl dc li ld kk 0 0 0 0 0 ⟨#[]⟩ ia il ic da dl dc li ld _ (HI.out.below (HBox.out)) HIl.out (HD.out.below (HBox.out)) HDl.out (HI.out.below HBox.out) HIl.out (HD.out.below HBox.out) HDl.out).mono ?_
  rintro e w1 ⟨rfl, hb⟩
  obtain ⟨c0, c1, c2, c3, c4, c5, c6, c7, c8⟩ := leafcells hb
  rw [HS.out]
  have HB := Lib.hid (HBox.out.trans (hb.mono HBox.out.size)); clear hb
  go_wp2_with fail
  refine (maySet_any kk n t r i s x ia il ic da dl dc li ld _ (HI.out.below HB.out) HIl.out (HD.out.below HB.out) HDl.out hn).mono ?_
  rintro e w2 ⟨rfl, hb⟩
  have HB2 := Lib.hid (HB.out.trans (hb.mono HB.out.size)); clear hb c0 c1 c2 c3 c4 c5 c6 c7 c8
  go_wp2_with fail
  go_ret
  exact ⟨ret_bool (by rw [HM.out, HS.out]; rfl), HB2.out⟩
set_option maxHeartbeats 4000000 in
theorem leafmay_4 (kk : Nat) (n : Int) (t r i s : Nat) (x : ByteArray) (ia : Option Addr) (il ic : Nat) (da : Option Addr) (dl dc : Nat) (li : List Lm.It) (ld : List Dt.Dot) (W : World) (hi : IRow W ia ic li) (hil : li.length = il) (hd : VRow W da dc ld) (hdl : ld.length = dl) (hx : x.size ≤ 9223372036854775807) (hn : il ≤ 1000000000) (hk : kk = 4) :
  Calls Tryz.prog 7 #[leafV kk n t r i s x ia il ic da dl dc] W fun e w' => e = .returned (.bool (Lm.may ⟨kk, n, t, ((r, i), s), x, li, ld⟩)) ∧ Below W.heap.size W w' := by
 have HBox := Lib.hid (below_box W #[.int .u8 (kk : Int), .int .i64 n, .int .u64 (t : Int), .int .u8 (r : Int), .int .u32 (i : Int), .int .u64 (s : Int), .string x, .slice ia il ic, .slice da dl dc] 31)
 have HI := Lib.hid hi; have HIl := Lib.hid hil; have HD := Lib.hid hd; have HDl := Lib.hid hdl
 clear hi hil hd hdl
 have HX := Lib.hid hx; clear hx
 have d1 : ((kk : Int) == 1) = false := by simp; omega
 have d2 : ((kk : Int) == 2) = false := by simp; omega
 have d3 : ((kk : Int) == 3) = false := by simp; omega
 have d4 : ((kk : Int) == 4) = true := by simp; omega
 have hM : Lm.may ⟨kk, n, t, ((r, i), s), x, li, ld⟩ = (Lm.same ⟨kk, n, t, ((r, i), s), x, li, ld⟩ ⟨kk, 0, 0, ((0, 0), 0), ⟨#[]⟩, li, []⟩ && Lm.mayLog ⟨kk, n, t, ((r, i), s), x, li, ld⟩) := by simp [Lm.may, Lm.zeroL, hk]
 have HM := Lib.hid hM; have HK := Lib.hid hk; clear hM hk
 cases hs : Lm.same ⟨kk, n, t, ((r, i), s), x, li, ld⟩ ⟨kk, 0, 0, ((0, 0), 0), ⟨#[]⟩, li, []⟩
 ·have HS := Lib.hid hs; clear hs
  go_enter Tryz.func7, Tryz.ntmps7
  go_wp2_with fail
  refine (same_any kk n t r i s x ia il ic da dl dc li ld kk 0 0 0 0 0 ⟨#[]⟩ ia il ic none 0 0 li [] _ (HI.out.below (HBox.out)) HIl.out (HD.out.below (HBox.out)) HDl.out (HI.out.below HBox.out) HIl.out (VRow.nil _) rfl).mono ?_
  rintro e w1 ⟨rfl, hb⟩
  rw [HS.out]
  have HB := Lib.hid (HBox.out.trans (hb.mono HBox.out.size)); clear hb
  go_wp2_with fail
  go_ret
  exact ⟨ret_bool (by rw [HM.out, HS.out]; rfl), HB.out⟩
 ·have HS := Lib.hid hs; clear hs
  go_enter Tryz.func7, Tryz.ntmps7
  go_wp2_with fail
  refine (same_any kk n t r i s x ia il ic da dl dc li ld kk 0 0 0 0 0 ⟨#[]⟩ ia il ic none 0 0 li [] _ (HI.out.below (HBox.out)) HIl.out (HD.out.below (HBox.out)) HDl.out (HI.out.below HBox.out) HIl.out (VRow.nil _) rfl).mono ?_
  rintro e w1 ⟨rfl, hb⟩
  obtain ⟨c0, c1, c2, c3, c4, c5, c6, c7, c8⟩ := leafcells hb
  rw [HS.out]
  have HB := Lib.hid (HBox.out.trans (hb.mono HBox.out.size)); clear hb
  go_wp2_with fail
  refine (mayLog_any kk n t r i s x ia il ic da dl dc li ld _ (HI.out.below HB.out) HIl.out (HD.out.below HB.out) HDl.out hn).mono ?_
  rintro e w2 ⟨rfl, hb⟩
  have HB2 := Lib.hid (HB.out.trans (hb.mono HB.out.size)); clear hb c0 c1 c2 c3 c4 c5 c6 c7 c8
  go_wp2_with fail
  go_ret
  exact ⟨ret_bool (by rw [HM.out, HS.out]; rfl), HB2.out⟩
set_option maxHeartbeats 4000000 in
theorem leafmay_0 (kk : Nat) (n : Int) (t r i s : Nat) (x : ByteArray) (ia : Option Addr) (il ic : Nat) (da : Option Addr) (dl dc : Nat) (li : List Lm.It) (ld : List Dt.Dot) (W : World) (h1 : kk ≠ 1) (h2 : kk ≠ 2) (h3 : kk ≠ 3) (h4 : kk ≠ 4) :
  Calls Tryz.prog 7 #[leafV kk n t r i s x ia il ic da dl dc] W fun e w' => e = .returned (.bool (Lm.may ⟨kk, n, t, ((r, i), s), x, li, ld⟩)) ∧ Below W.heap.size W w' := by
 have HBox := Lib.hid (below_box W #[.int .u8 (kk : Int), .int .i64 n, .int .u64 (t : Int), .int .u8 (r : Int), .int .u32 (i : Int), .int .u64 (s : Int), .string x, .slice ia il ic, .slice da dl dc] 31)
 have d1 : ((kk : Int) == 1) = false := by simp; omega
 have d2 : ((kk : Int) == 2) = false := by simp; omega
 have d3 : ((kk : Int) == 3) = false := by simp; omega
 have d4 : ((kk : Int) == 4) = false := by simp; omega
 have hM : Lm.may ⟨kk, n, t, ((r, i), s), x, li, ld⟩ = false := by simp [Lm.may, h1, h2, h3, h4]
 have HM := Lib.hid hM; clear hM h1 h2 h3 h4
 go_enter Tryz.func7, Tryz.ntmps7
 go_wp2_with fail
 go_ret
 exact ⟨ret_bool HM.out.symm, HBox.out⟩
theorem leafmay_any (kk : Nat) (n : Int) (t r i s : Nat) (x : ByteArray) (ia : Option Addr) (il ic : Nat) (da : Option Addr) (dl dc : Nat) (li : List Lm.It) (ld : List Dt.Dot) (W : World) (hi : IRow W ia ic li) (hil : li.length = il) (hd : VRow W da dc ld) (hdl : ld.length = dl) (hx : x.size ≤ 9223372036854775807) (hn : il ≤ 1000000000) :
  Calls Tryz.prog 7 #[leafV kk n t r i s x ia il ic da dl dc] W fun e w' => e = .returned (.bool (Lm.may ⟨kk, n, t, ((r, i), s), x, li, ld⟩)) ∧ Below W.heap.size W w' := by
 by_cases h1 : kk = 1
 ·exact leafmay_1 kk n t r i s x ia il ic da dl dc li ld W hi hil hd hdl hx hn h1
 by_cases h2 : kk = 2
 ·exact leafmay_2 kk n t r i s x ia il ic da dl dc li ld W hi hil hd hdl hx hn h2
 by_cases h3 : kk = 3
 ·exact leafmay_3 kk n t r i s x ia il ic da dl dc li ld W hi hil hd hdl hx hn h3
 by_cases h4 : kk = 4
 ·exact leafmay_4 kk n t r i s x ia il ic da dl dc li ld W hi hil hd hdl hx hn h4
 exact leafmay_0 kk n t r i s x ia il ic da dl dc li ld W h1 h2 h3 h4
end Go.Proofs.YteakbfbacfhhoaaGreat
