import Derived.Test.YteakbfbacfhhoaaGreatZOp1
import Derived.Laws.EntriesVeiled
namespace Go.Proofs.YteakbfbacfhhoaaGreat
open Go.RowKit Go.Buf
set_option linter.unusedSimpArgs false
abbrev opV (k : Nat) (pa : Option Addr) (pl pc : Nat) (n : Int) (t : ByteArray) (da : Option Addr) (dl dc : Nat) : Value := .agg #[.int .u8 (k : Int), .slice pa pl pc, .int .i64 n, .string t, .slice da dl dc]
theorem opcells {W w1 : World} {c0 c1 c2 c3 c4 : Value} (hb : Below (W.alloc (.cells #[c0, c1, c2, c3, c4] 34)).heap.size (W.alloc (.cells #[c0, c1, c2, c3, c4] 34)) w1) :
  w1.cell? ⟨W.heap.size, 0, none⟩ = some c0 ∧ w1.cell? ⟨W.heap.size, 1, none⟩ = some c1 ∧ w1.cell? ⟨W.heap.size, 2, none⟩ = some c2 ∧ w1.cell? ⟨W.heap.size, 3, none⟩ = some c3 ∧ w1.cell? ⟨W.heap.size, 4, none⟩ = some c4 :=
 ⟨(hb.cell (p := ⟨W.heap.size, 0, none⟩) (by simp)).trans (by simp), (hb.cell (p := ⟨W.heap.size, 1, none⟩) (by simp)).trans (by simp), (hb.cell (p := ⟨W.heap.size, 2, none⟩) (by simp)).trans (by simp), (hb.cell (p := ⟨W.heap.size, 3, none⟩) (by simp)).trans (by simp), (hb.cell (p := ⟨W.heap.size, 4, none⟩) (by simp)).trans (by simp)⟩
theorem below_box (W : World) (c : Array Value) (t : TypeId) : Below W.heap.size W (W.alloc (.cells c t)) := (Below.refl _ _).alloc (Nat.le_refl _) _
theorem str_nil (t : ByteArray) : t.toList = [] ↔ t.size = 0 := by
 rw [ByteArray.toList_eq]
 constructor
 ·intro h; have := congrArg List.length h; simpa using this
 ·intro h; have : t.data.size = 0 := h; simp; exact Array.eq_empty_of_size_eq_zero this
set_option maxHeartbeats 800000 in
theorem mayNever_any (v : Value) (w : World) (c : Array Value) (hv : v = .agg c) (hc : c.size = 5) : Calls Tryz.prog 80 #[v] w fun e w' => e = .returned (.bool false) ∧ Below w.heap.size w w' := by
 subst hv
 obtain ⟨c0, c1, c2, c3, c4, rfl⟩ : ∃ c0 c1 c2 c3 c4, c = #[c0, c1, c2, c3, c4] := by
  obtain ⟨l⟩ := c
  match l, hc with
  | [c0, c1, c2, c3, c4], _ => exact ⟨_, _, _, _, _, rfl⟩
 clear hc
 go_enter Tryz.func80, Tryz.ntmps80
 go_wp2_with fail
 go_ret
 exact ⟨rfl, below_box _ _ _⟩
set_option maxHeartbeats 800000 in
theorem mayAdd_any (k : Nat) (pa : Option Addr) (pl pc : Nat) (n : Int) (t : ByteArray) (da : Option Addr) (dl dc : Nat) (p : List ByteArray) (d : List Dt.Dot) (w : World) (hdl : d.length = dl) :
  Calls Tryz.prog 81 #[opV k pa pl pc n t da dl dc] w fun e w' => e = .returned (.bool (Om.mayAdd ⟨k, p, n, t, d⟩)) ∧ Below w.heap.size w w' := by
 have HD := Lib.hid hdl; clear hdl
 go_enter Tryz.func81, Tryz.ntmps81
 go_wp2_with fail
 all_goals
  go_ret
  refine ⟨ret_bool ?_, below_box _ _ _⟩
  have hD := HD.out
  try simp only [str_nil] at *
  rw [Bool.eq_iff_iff]
  simp [Om.mayAdd, Om.mayText, -ByteArray.size_eq_zero_iff, -List.length_eq_zero_iff]
  try omega
set_option maxHeartbeats 800000 in
theorem mayText_any (k : Nat) (pa : Option Addr) (pl pc : Nat) (n : Int) (t : ByteArray) (da : Option Addr) (dl dc : Nat) (p : List ByteArray) (d : List Dt.Dot) (w : World) (hdl : d.length = dl) :
  Calls Tryz.prog 82 #[opV k pa pl pc n t da dl dc] w fun e w' => e = .returned (.bool (Om.mayText ⟨k, p, n, t, d⟩)) ∧ Below w.heap.size w w' := by
 have HD := Lib.hid hdl; clear hdl
 go_enter Tryz.func82, Tryz.ntmps82
 go_wp2_with fail
 all_goals
  go_ret
  refine ⟨ret_bool ?_, below_box _ _ _⟩
  have hD := HD.out
  try simp only [str_nil] at *
  rw [Bool.eq_iff_iff]
  simp [Om.mayAdd, Om.mayText, -ByteArray.size_eq_zero_iff, -List.length_eq_zero_iff]
  try omega
set_option maxHeartbeats 800000 in
theorem mayDrop_any (k : Nat) (pa : Option Addr) (pl pc : Nat) (n : Int) (t : ByteArray) (da : Option Addr) (dl dc : Nat) (p : List ByteArray) (d : List Dt.Dot) (w : World) (hr : VRow w da dc d) (hdl : d.length = dl) :
  Calls Tryz.prog 83 #[opV k pa pl pc n t da dl dc] w fun e w' => e = .returned (.bool (Om.mayDrop ⟨k, p, n, t, d⟩)) ∧ Below w.heap.size w w' := by
 have HD := Lib.hid hdl; have HR := Lib.hid hr; clear hdl hr
 by_cases h1 : n = 0
 ·by_cases h2 : t.size ≤ 40
  ·go_enter Tryz.func83, Tryz.ntmps83
   go_wp2_with fail
   refine (mayDrops_any da dl dc d _ (HR.out.below (below_box _ _ _)) HD.out).mono ?_
   rintro e w1 ⟨rfl, hb⟩
   go_wp2_with fail
   go_ret
   exact ⟨ret_bool (by simp [Om.mayDrop, h1, h2]), (below_box _ _ _).trans (hb.mono (by simp))⟩
  ·go_enter Tryz.func83, Tryz.ntmps83
   go_wp2_with fail
   go_ret
   exact ⟨ret_bool (by simp [Om.mayDrop, h2]), below_box _ _ _⟩
 ·have d1 : (n == 0) = false := by simpa using h1
  go_enter Tryz.func83, Tryz.ntmps83
  go_wp2_with fail
  go_ret
  exact ⟨ret_bool (by simp [Om.mayDrop, h1]), below_box _ _ _⟩
def askF (k : Nat) : Nat := if k = 1 then 81 else if k = 2 then 82 else if k = 3 then 82 else if k = 4 then 83 else if k = 5 then 82 else 80
theorem asked_any (k : Nat) (pa : Option Addr) (pl pc : Nat) (n : Int) (t : ByteArray) (da : Option Addr) (dl dc : Nat) (p : List ByteArray) (d : List Dt.Dot) (w : World) (hr : VRow w da dc d) (hdl : d.length = dl) :
  Calls Tryz.prog (askF k) #[opV k pa pl pc n t da dl dc] w fun e w' => e = .returned (.bool (Om.asked ⟨k, p, n, t, d⟩)) ∧ Below w.heap.size w w' := by
 unfold askF Om.asked
 by_cases h1 : k = 1
 ·simp only [h1, if_pos]; exact mayAdd_any _ _ _ _ _ _ _ _ _ _ _ _ hdl
 by_cases h2 : k = 2
 ·simp only [h1, h2, if_pos, if_false]; exact mayText_any _ _ _ _ _ _ _ _ _ _ _ _ hdl
 by_cases h3 : k = 3
 ·simp only [h1, h2, h3, if_pos, if_false]; exact mayText_any _ _ _ _ _ _ _ _ _ _ _ _ hdl
 by_cases h4 : k = 4
 ·simp only [h1, h2, h3, h4, if_pos, if_false]; exact mayDrop_any _ _ _ _ _ _ _ _ _ _ _ _ hr hdl
 by_cases h5 : k = 5
 ·simp only [h1, h2, h3, h4, h5, if_pos, if_false]; exact mayText_any _ _ _ _ _ _ _ _ _ _ _ _ hdl
 ·simp only [h1, h2, h3, h4, h5, if_false]; exact mayNever_any _ _ _ rfl rfl
def traitV (k : Nat) : Value := .agg #[.int .u8 (Om.type k : Nat), .func (.func (askF k)) #[] #[]]
abbrev kindsC : Array Value := #[.int .u8 0, .func (.func 80) #[] #[], .int .u8 1, .func (.func 81) #[] #[], .int .u8 2, .func (.func 82) #[] #[], .int .u8 3, .func (.func 82) #[] #[], .int .u8 3, .func (.func 83) #[] #[], .int .u8 4, .func (.func 82) #[] #[]]
set_option maxHeartbeats 800000 in
theorem kinds_any (w : World) : Calls Tryz.prog 65 #[] w fun e w' => e = .returned (.agg kindsC) ∧ Below w.heap.size w w' := by
 go_enter Tryz.func65, Tryz.ntmps65
 go_wp2_with fail
 exact bodyPost_ret (v := .agg kindsC) (by simp [results, Tryz.results65, go_sem]) rfl ⟨rfl, below_box _ _ _⟩
theorem set2 {B : Nat} {w w1 : World} (h : Below B w w1) {b : Nat} (hb : B ≤ b) (x y : Value) : Below B w ((w1.setCell ⟨b, 0, none⟩ x).setCell ⟨b, 1, none⟩ y) := (h.setCell hb _).setCell hb _
set_option maxHeartbeats 3200000 in
theorem traitsOf_any (k : Nat) (h256 : k < 256) (w : World) : Calls Tryz.prog 50 #[.int .u8 (k : Int)] w fun e w' => e = .returned (traitV k) ∧ Below w.heap.size w w' := by
 by_cases hk : k < 6
 ·have hk' : k = 0 ∨ k = 1 ∨ k = 2 ∨ k = 3 ∨ k = 4 ∨ k = 5 := by omega
  rcases hk' with rfl | rfl | rfl | rfl | rfl | rfl
  all_goals
   go_enter Tryz.func50, Tryz.ntmps50
   go_wp2_with fail
   refine (kinds_any _).mono ?_
   rintro e w1 ⟨rfl, hb⟩
   obtain ⟨hc, hf⟩ := bcell hb
   have hz : w.heap.size < w1.heap.size := by have := hb.size; simp at this; omega
   have hb0 : Below w.heap.size w w1 := (below_box _ _ _).trans (hb.mono (by simp))
   have Hb0 := Lib.hid hb0; clear hb0
   go_wp2_with fail
   refine bodyPost_ret (by simp [results, Tryz.results50, go_sem, hc, hz]; rfl) rfl ⟨rfl, ?_⟩
   exact (set2 Hb0.out (Nat.le_refl _) _ _).alloc (by simp; exact Hb0.out.size) _
 ·have ht : traitV k = .agg #[.int .u8 0, .func (.func 80) #[] #[]] := by
   unfold traitV askF Om.type
   simp only [show ¬ k = 1 by omega, show ¬ k = 2 by omega, show ¬ k = 3 by omega, show ¬ k = 4 by omega, show ¬ k = 5 by omega, if_false]; rfl
  have HT := Lib.hid ht; clear ht
  have hk6 : (6 : Int) ≤ (k : Int) := by omega
  have hw64 : wrap64 (k : Int) = (k : Int) := by simp only [wrap64]; omega
  go_enter Tryz.func50, Tryz.ntmps50
  go_wp2_with fail
  refine (kinds_any _).mono ?_
  rintro e w1 ⟨rfl, hb⟩
  obtain ⟨hc, hf⟩ := bcell hb
  have hz : w.heap.size < w1.heap.size := by have := hb.size; simp at this; omega
  have hb0 : Below w.heap.size w w1 := (below_box _ _ _).trans (hb.mono (by simp))
  have Hb0 := Lib.hid hb0; clear hb0
  go_wp2_with fail
  refine bodyPost_ret (by simp [results, Tryz.results50, go_sem, hc, hz]; rfl) rfl ⟨by rw [HT.out], ?_⟩
  exact (set2 Hb0.out (Nat.le_refl _) _ _).alloc (by simp; exact Hb0.out.size) _
theorem field_leaf (u f : Value) (w : World) : Sem.run Tryz.prog (Instr.field 80 (.agg #[u, f]) 0) w = .ok u w := by kernel_rfl
theorem field_may (u f : Value) (w : World) : Sem.run Tryz.prog (Instr.field 80 (.agg #[u, f]) 1) w = .ok f w := by kernel_rfl
set_option maxRecDepth 100000 in
set_option maxHeartbeats 800000 in
theorem type_any (k : Nat) (h256 : k < 256) (w : World) : Calls Tryz.prog 28 #[.int .u8 (k : Int)] w fun e w' => e = .returned (.int .u8 (Om.type k : Nat)) ∧ Below w.heap.size w w' := by
 have hfl := field_leaf
 go_enter Tryz.func28, Tryz.ntmps28
 go_wp2_with fail
 refine (traitsOf_any k h256 _).mono ?_
 rintro e w1 ⟨rfl, hb⟩
 have HB := Lib.hid hb; clear hb
 generalize hT : traitV k = T
 unfold traitV at hT
 generalize hA : askF k = A at hT
 generalize hY : Om.type k = Y at hT
 have HY := Lib.hid hY
 subst hT
 clear hA hY
 go_wp2_with fail
 go_ret
 refine ⟨by rw [HY.out]; rfl, HB.out⟩
end Go.Proofs.YteakbfbacfhhoaaGreat
namespace Go.Proofs.YteakbfbacfhhoaaGreat
open Go.RowKit Go.Buf
set_option linter.unusedSimpArgs false
theorem call_ask (k : Nat) (c : Array Value) (w : World) : Sem.run Tryz.prog (callFunc (askF k) c) w = .ok (.enter (askF k) c) w := by
 unfold askF
 repeat' split
 all_goals go_simp
set_option maxRecDepth 100000 in
set_option maxHeartbeats 3200000 in
theorem opmay_any (k : Nat) (hk : k < 256) (pa : Option Addr) (pl pc : Nat) (n : Int) (t : ByteArray) (da : Option Addr) (dl dc : Nat) (p : List ByteArray) (d : List Dt.Dot) (W : World) (hp : SRow W pa pc p) (hpl : p.length = pl) (hr : VRow W da dc d) (hdl : d.length = dl) :
  Calls Tryz.prog 49 #[opV k pa pl pc n t da dl dc] W fun e w' => e = .returned (.bool (Om.may ⟨k, p, n, t, d⟩)) ∧ Below W.heap.size W w' := by
 have HP := Lib.hid hp; have HPl := Lib.hid hpl; have HR := Lib.hid hr; have HDl := Lib.hid hdl
 clear hp hpl hr hdl
 cases hm : Om.mayPath p
 ·have HMp := Lib.hid hm; clear hm
  go_enter Tryz.func49, Tryz.ntmps49
  go_wp2_with fail
  have HB := Lib.hid ((Below.refl _ _).drew : Below (W.alloc (.cells #[.int .u8 (k : Int), .slice pa pl pc, .int .i64 n, .string t, .slice da dl dc] 34)).heap.size (W.alloc (.cells #[.int .u8 (k : Int), .slice pa pl pc, .int .i64 n, .string t, .slice da dl dc] 34)) (W.alloc (.cells #[.int .u8 (k : Int), .slice pa pl pc, .int .i64 n, .string t, .slice da dl dc] 34)).drew)
  refine Reg.region_list (by kernel_rfl) [fun v _ => v = .pointer (some ⟨W.heap.size, 1, none⟩), fun v _ => v = .slice pa pl pc, fun v _ => v = .bool false, fun v _ => v = .bool false, fun v _ => v = undef, fun v _ => v = undef, fun v _ => v = undef, fun v _ => v = undef, fun v _ => v = undef, fun v _ => v = undef, fun v _ => v = .bool false, fun v _ => v = .bool false] (by kernel_rfl) ?_ ?_ ?_
  ·refine ⟨k4, k4, k4, k4, k4, k4, k4, k4, k4, k4, k4, k4, trivial⟩
  ·refine ⟨?_, ?_, ?_, ?_, ?_, ?_, ?_, ?_, ?_, ?_, ?_, ?_, trivial⟩
   ·intro ev w hc hf hg hfix hdep hbel
    have e1 : ev (.tmp 1) = _ := hfix 1 (by decide)
    exact okb trivial rfl (by go_simp)
   ·intro ev w hc hf hg hfix hdep hbel
    have e3 : ev (.tmp 3) = _ := hdep 0 (by decide)
    have hc := opcells (HB.out.trans (hbel.mono HB.out.size))
    obtain ⟨hc0, hc1, hc2, hc3, hc4⟩ := hc
    exact okb trivial rfl (by go_simp)
   ·intro ev w hc hf hg hfix hdep hbel
    have e4 : ev (.tmp 4) = _ := hdep 1 (by decide)
    refine Or.inl ⟨trivial, Or.inr ⟨64, #[.slice pa pl pc], w, by go_simp, ?_⟩⟩
    refine (mayPath_any pa pl pc p w ((HP.out.below (below_box _ _ _)).below (HB.out.trans (hbel.mono HB.out.size))) HPl.out).mono ?_
    rintro e w1 ⟨rfl, rfl⟩
    exact ⟨_, rfl, by rw [HMp.out], Below.refl _ _⟩
   ·intro ev w hc hf hg hfix hdep hbel
    have e5 : ev (.tmp 5) = _ := hdep 2 (by decide)
    exact okb trivial rfl (by go_simp)
   ·intro ev w hc hf hg hfix hdep hbel
    have fg : ev (.tmp 6) = _ := hdep 3 (by decide)
    exact Or.inr ⟨Or.inl fg, rfl⟩
   ·intro ev w hc hf hg hfix hdep hbel
    have fg : ev (.tmp 6) = _ := hdep 3 (by decide)
    exact Or.inr ⟨Or.inl fg, rfl⟩
   ·intro ev w hc hf hg hfix hdep hbel
    have fg : ev (.tmp 6) = _ := hdep 3 (by decide)
    exact Or.inr ⟨Or.inl fg, rfl⟩
   ·intro ev w hc hf hg hfix hdep hbel
    have fg : ev (.tmp 6) = _ := hdep 3 (by decide)
    exact Or.inr ⟨Or.inl fg, rfl⟩
   ·intro ev w hc hf hg hfix hdep hbel
    have fg : ev (.tmp 6) = _ := hdep 3 (by decide)
    exact Or.inr ⟨Or.inl fg, rfl⟩
   ·intro ev w hc hf hg hfix hdep hbel
    have fg : ev (.tmp 6) = _ := hdep 3 (by decide)
    exact Or.inr ⟨Or.inl fg, rfl⟩
   ·intro ev w hc hf hg hfix hdep hbel
    have e6 : ev (.tmp 6) = _ := hdep 3 (by decide)
    have e12 : ev (.tmp 12) = _ := hdep 9 (by decide)
    exact okb trivial rfl (by go_simp)
   ·intro ev w hc hf hg hfix hdep hbel
    have e13 : ev (.tmp 13) = _ := hdep 10 (by decide)
    exact okb trivial rfl (by go_simp)
  ·intro v w2 hv hb2
   have r0 : v 0 = _ := hv 0 (by decide)
   have r1 : v 1 = _ := hv 1 (by decide)
   have r2 : v 2 = _ := hv 2 (by decide)
   have r3 : v 3 = _ := hv 3 (by decide)
   have r4 : v 4 = _ := hv 4 (by decide)
   have r5 : v 5 = _ := hv 5 (by decide)
   have r6 : v 6 = _ := hv 6 (by decide)
   have r7 : v 7 = _ := hv 7 (by decide)
   have r8 : v 8 = _ := hv 8 (by decide)
   have r9 : v 9 = _ := hv 9 (by decide)
   have r10 : v 10 = _ := hv 10 (by decide)
   have r11 : v 11 = _ := hv 11 (by decide)
   simp only [Reg.putAll, Act.put, List.setIfInBounds_toArray, List.set_cons_zero, List.set_cons_succ, r0, r1, r2, r3, r4, r5, r6, r7, r8, r9, r10, r11]
   clear r0 r1 r2 r3 r4 r5 r6 r7 r8 r9 r10 r11 hv
   have HBw := Lib.hid ((below_box W #[.int .u8 (k : Int), .slice pa pl pc, .int .i64 n, .string t, .slice da dl dc] 34).trans (hb2.mono (by simp))); clear hb2
   go_wp2_with fail
   go_ret
   exact ⟨ret_bool (by simp [Om.may, HMp.out]), HBw.out⟩
 ·have HMp := Lib.hid hm; clear hm
  go_enter Tryz.func49, Tryz.ntmps49
  go_wp2_with fail
  have HB := Lib.hid ((Below.refl _ _).drew : Below (W.alloc (.cells #[.int .u8 (k : Int), .slice pa pl pc, .int .i64 n, .string t, .slice da dl dc] 34)).heap.size (W.alloc (.cells #[.int .u8 (k : Int), .slice pa pl pc, .int .i64 n, .string t, .slice da dl dc] 34)) (W.alloc (.cells #[.int .u8 (k : Int), .slice pa pl pc, .int .i64 n, .string t, .slice da dl dc] 34)).drew)
  refine Reg.region_list (by kernel_rfl) [fun v _ => v = .pointer (some ⟨W.heap.size, 1, none⟩), fun v _ => v = .slice pa pl pc, fun v _ => v = .bool true, fun v _ => v = .bool true, fun v _ => v = .pointer (some ⟨W.heap.size, 0, none⟩), fun v _ => v = .int .u8 (k : Int), fun v _ => v = .agg #[.int .u8 (Om.type k : Nat), .func (.func (askF k)) #[] #[]], fun v _ => v = .func (.func (askF k)) #[] #[], fun v _ => v = .agg #[.int .u8 (k : Int), .slice pa pl pc, .int .i64 n, .string t, .slice da dl dc], fun v _ => v = .bool (Om.asked ⟨k, p, n, t, d⟩), fun v _ => v = .bool (Om.asked ⟨k, p, n, t, d⟩), fun v _ => v = .bool (Om.asked ⟨k, p, n, t, d⟩)] (by kernel_rfl) ?_ ?_ ?_
  ·refine ⟨k4, k4, k4, k4, k4, k4, k4, k4, k4, k4, k4, k4, trivial⟩
  ·refine ⟨?_, ?_, ?_, ?_, ?_, ?_, ?_, ?_, ?_, ?_, ?_, ?_, trivial⟩
   ·intro ev w hc hf hg hfix hdep hbel
    have e1 : ev (.tmp 1) = _ := hfix 1 (by decide)
    exact okb trivial rfl (by go_simp)
   ·intro ev w hc hf hg hfix hdep hbel
    have e3 : ev (.tmp 3) = _ := hdep 0 (by decide)
    have hc := opcells (HB.out.trans (hbel.mono HB.out.size))
    obtain ⟨hc0, hc1, hc2, hc3, hc4⟩ := hc
    exact okb trivial rfl (by go_simp)
   ·intro ev w hc hf hg hfix hdep hbel
    have e4 : ev (.tmp 4) = _ := hdep 1 (by decide)
    refine Or.inl ⟨trivial, Or.inr ⟨64, #[.slice pa pl pc], w, by go_simp, ?_⟩⟩
    refine (mayPath_any pa pl pc p w ((HP.out.below (below_box _ _ _)).below (HB.out.trans (hbel.mono HB.out.size))) HPl.out).mono ?_
    rintro e w1 ⟨rfl, rfl⟩
    exact ⟨_, rfl, by rw [HMp.out], Below.refl _ _⟩
   ·intro ev w hc hf hg hfix hdep hbel
    have e5 : ev (.tmp 5) = _ := hdep 2 (by decide)
    exact okb trivial rfl (by go_simp)
   ·intro ev w hc hf hg hfix hdep hbel
    have fg : ev (.tmp 6) = _ := hdep 3 (by decide)
    have e1 : ev (.tmp 1) = _ := hfix 1 (by decide)
    exact okb fg rfl (by go_simp)
   ·intro ev w hc hf hg hfix hdep hbel
    have fg : ev (.tmp 6) = _ := hdep 3 (by decide)
    have e7 : ev (.tmp 7) = _ := hdep 4 (by decide)
    have hc := opcells (HB.out.trans (hbel.mono HB.out.size))
    obtain ⟨hc0, hc1, hc2, hc3, hc4⟩ := hc
    exact okb fg rfl (by go_simp)
   ·intro ev w hc hf hg hfix hdep hbel
    have fg : ev (.tmp 6) = _ := hdep 3 (by decide)
    have e8 : ev (.tmp 8) = _ := hdep 5 (by decide)
    refine Or.inl ⟨fg, Or.inr ⟨50, #[.int .u8 (k : Int)], w, by go_simp, ?_⟩⟩
    refine (traitsOf_any k hk w).mono ?_
    rintro e w1 ⟨rfl, hb1⟩
    exact ⟨_, rfl, rfl, hb1⟩
   ·intro ev w hc hf hg hfix hdep hbel
    have fg : ev (.tmp 6) = _ := hdep 3 (by decide)
    have e9 : ev (.tmp 9) = _ := hdep 6 (by decide)
    have hfm := field_may
    exact okb fg rfl (by go_simp)
   ·intro ev w hc hf hg hfix hdep hbel
    have fg : ev (.tmp 6) = _ := hdep 3 (by decide)
    have e1 : ev (.tmp 1) = _ := hfix 1 (by decide)
    have hc := opcells (HB.out.trans (hbel.mono HB.out.size))
    obtain ⟨hc0, hc1, hc2, hc3, hc4⟩ := hc
    exact okb fg rfl (by go_simp)
   ·intro ev w hc hf hg hfix hdep hbel
    have fg : ev (.tmp 6) = _ := hdep 3 (by decide)
    have e10 : ev (.tmp 10) = _ := hdep 7 (by decide)
    have e11 : ev (.tmp 11) = _ := hdep 8 (by decide)
    have hca := call_ask k
    refine Or.inl ⟨fg, Or.inr ⟨askF k, #[.agg #[.int .u8 (k : Int), .slice pa pl pc, .int .i64 n, .string t, .slice da dl dc]], w, by go_simp, ?_⟩⟩
    refine (asked_any k pa pl pc n t da dl dc p d w ((HR.out.below (below_box _ _ _)).below (HB.out.trans (hbel.mono HB.out.size))) HDl.out).mono ?_
    rintro e w1 ⟨rfl, hb1⟩
    exact ⟨_, rfl, rfl, hb1⟩
   ·intro ev w hc hf hg hfix hdep hbel
    have e6 : ev (.tmp 6) = _ := hdep 3 (by decide)
    have e12 : ev (.tmp 12) = _ := hdep 9 (by decide)
    exact okb trivial rfl (by go_simp)
   ·intro ev w hc hf hg hfix hdep hbel
    have e13 : ev (.tmp 13) = _ := hdep 10 (by decide)
    exact okb trivial rfl (by go_simp)
  ·intro v w2 hv hb2
   have r0 : v 0 = _ := hv 0 (by decide)
   have r1 : v 1 = _ := hv 1 (by decide)
   have r2 : v 2 = _ := hv 2 (by decide)
   have r3 : v 3 = _ := hv 3 (by decide)
   have r4 : v 4 = _ := hv 4 (by decide)
   have r5 : v 5 = _ := hv 5 (by decide)
   have r6 : v 6 = _ := hv 6 (by decide)
   have r7 : v 7 = _ := hv 7 (by decide)
   have r8 : v 8 = _ := hv 8 (by decide)
   have r9 : v 9 = _ := hv 9 (by decide)
   have r10 : v 10 = _ := hv 10 (by decide)
   have r11 : v 11 = _ := hv 11 (by decide)
   simp only [Reg.putAll, Act.put, List.setIfInBounds_toArray, List.set_cons_zero, List.set_cons_succ, r0, r1, r2, r3, r4, r5, r6, r7, r8, r9, r10, r11]
   clear r0 r1 r2 r3 r4 r5 r6 r7 r8 r9 r10 r11 hv
   have HBw := Lib.hid ((below_box W #[.int .u8 (k : Int), .slice pa pl pc, .int .i64 n, .string t, .slice da dl dc] 34).trans (hb2.mono (by simp))); clear hb2
   go_wp2_with fail
   go_ret
   exact ⟨ret_bool (by simp [Om.may, HMp.out]), HBw.out⟩
end Go.Proofs.YteakbfbacfhhoaaGreat
namespace Go.Proofs.YteakbfbacfhhoaaGreat
open Go.RowKit Go.Buf
set_option linter.unusedSimpArgs false
theorem may_of_loop {k : Nat} {p : List ByteArray} {n : Int} {t : ByteArray} {d : List Dt.Dot} (h1 : Om.type k ≠ 0) (h2 : Om.mayPath p = true) (h3 : t.size ≤ 40) (h4 : d.length ≤ 64) (hk : k ≠ 1) (hn : n = 0) (hd : k = 4 ∨ d.length = 0) :
  Om.may ⟨k, p, n, t, d⟩ = Om.upTo (Om.dropAt d) d.length := by
 unfold Om.may Om.asked
 simp only [h2, Bool.true_and, hk, if_false]
 have ht : Om.mayText ⟨k, p, n, t, d⟩ = decide (d.length = 0) := by simp [Om.mayText, hn, h3]
 have hdr : Om.mayDrop ⟨k, p, n, t, d⟩ = Om.upTo (Om.dropAt d) d.length := by simp [Om.mayDrop, Om.mayDrops, hn, h3, h4]
 rw [ht, hdr]
 rcases hd with rfl | h0
 ·simp
 ·have hu : Om.upTo (Om.dropAt d) d.length = true := by rw [h0]; exact Om.upTo_zero _
  rw [hu, h0]
  unfold Om.type at h1
  by_cases e2 : k = 2
  ·simp [e2]
  by_cases e3 : k = 3
  ·simp [e3]
  by_cases e4 : k = 4
  ·simp [e4]
  by_cases e5 : k = 5
  ·simp [e5]
  ·simp [hk, e2, e3, e4, e5] at h1
theorem may_type {k : Nat} {p : List ByteArray} {n : Int} {t : ByteArray} {d : List Dt.Dot} (h : Om.type k = 0) : Om.may ⟨k, p, n, t, d⟩ = false := by
 have h1 : k ≠ 1 := by rintro rfl; simp [Om.type] at h
 have h2 : k ≠ 2 := by rintro rfl; simp [Om.type] at h
 have h3 : k ≠ 3 := by rintro rfl; simp [Om.type] at h
 have h4 : k ≠ 4 := by rintro rfl; simp [Om.type] at h
 have h5 : k ≠ 5 := by rintro rfl; simp [Om.type] at h
 simp [Om.may, Om.asked, h1, h2, h3, h4, h5]
theorem may_path {k : Nat} {p : List ByteArray} {n : Int} {t : ByteArray} {d : List Dt.Dot} (h : Om.mayPath p = false) : Om.may ⟨k, p, n, t, d⟩ = false := by simp [Om.may, h]
theorem may_text {k : Nat} {p : List ByteArray} {n : Int} {t : ByteArray} {d : List Dt.Dot} (h : 40 < t.size) : Om.may ⟨k, p, n, t, d⟩ = false := by
 have h1 : ¬ t.size ≤ 40 := by omega
 have h2 : ¬ t.size = 0 := by omega
 unfold Om.may Om.asked
 repeat' split
 all_goals simp [Om.mayAdd, Om.mayText, Om.mayDrop, h1, h2, -ByteArray.size_eq_zero_iff]
theorem may_dots {k : Nat} {p : List ByteArray} {n : Int} {t : ByteArray} {d : List Dt.Dot} (h : 64 < d.length) : Om.may ⟨k, p, n, t, d⟩ = false := by
 have h1 : ¬ d.length ≤ 64 := by omega
 have h2 : ¬ d.length = 0 := by omega
 unfold Om.may Om.asked
 repeat' split
 all_goals simp [Om.mayAdd, Om.mayText, Om.mayDrop, Om.mayDrops, h1, h2, -List.length_eq_zero_iff]
theorem may_n {k : Nat} {p : List ByteArray} {n : Int} {t : ByteArray} {d : List Dt.Dot} (hk : k ≠ 1) (h : n ≠ 0) : Om.may ⟨k, p, n, t, d⟩ = false := by
 unfold Om.may Om.asked
 simp only [hk, if_false]
 repeat' split
 all_goals simp [Om.mayText, Om.mayDrop, h]
theorem may_some {k : Nat} {p : List ByteArray} {n : Int} {t : ByteArray} {d : List Dt.Dot} (hk : k ≠ 1) (hk4 : k ≠ 4) (h : 0 < d.length) : Om.may ⟨k, p, n, t, d⟩ = false := by
 have h2 : ¬ d.length = 0 := by omega
 unfold Om.may Om.asked
 simp only [hk, hk4, if_false]
 repeat' split
 all_goals simp [Om.mayText, h2, -List.length_eq_zero_iff]
set_option maxRecDepth 100000 in
set_option maxHeartbeats 3200000 in
theorem refmay_type (k : Nat) (pa : Option Addr) (pl pc : Nat) (n : Int) (t : ByteArray) (da : Option Addr) (dl dc : Nat) (p : List ByteArray) (d : List Dt.Dot) (W : World) (hp : SRow W pa pc p) (hpl : p.length = pl) (hr : VRow W da dc d) (hdl : d.length = dl) (hT : Om.type k = 0) :
  Calls Tryz.prog 56 #[opV k pa pl pc n t da dl dc] W fun e w' => e = .returned (.bool (Om.may ⟨k, p, n, t, d⟩)) ∧ Below W.heap.size W w' := by
 have HP := Lib.hid hp; have HPl := Lib.hid hpl; have HR := Lib.hid hr; have HDl := Lib.hid hdl
 have HBox := Lib.hid (below_box W #[.int .u8 (k : Int), .slice pa pl pc, .int .i64 n, .string t, .slice da dl dc] 34)
 clear hp hpl hr hdl
 have HM := Lib.hid (may_type (p := p) (n := n) (t := t) (d := d) hT); have HT := Lib.hid hT; clear hT
 go_enter Tryz.func56, Tryz.ntmps56
 go_wp2_with fail
 refine (reftype_any k _).mono ?_
 rintro e w1 ⟨rfl, rfl⟩
 rw [HT.out]
 go_wp2_with fail
 go_ret
 exact ⟨ret_bool HM.out.symm, HBox.out⟩
set_option maxRecDepth 100000 in
set_option maxHeartbeats 3200000 in
theorem refmay_path (k : Nat) (pa : Option Addr) (pl pc : Nat) (n : Int) (t : ByteArray) (da : Option Addr) (dl dc : Nat) (p : List ByteArray) (d : List Dt.Dot) (W : World) (hp : SRow W pa pc p) (hpl : p.length = pl) (hr : VRow W da dc d) (hdl : d.length = dl) (T : Nat) (hT0 : T ≠ 0) (hT : Om.type k = T) (hm : Om.mayPath p = false) :
  Calls Tryz.prog 56 #[opV k pa pl pc n t da dl dc] W fun e w' => e = .returned (.bool (Om.may ⟨k, p, n, t, d⟩)) ∧ Below W.heap.size W w' := by
 have HP := Lib.hid hp; have HPl := Lib.hid hpl; have HR := Lib.hid hr; have HDl := Lib.hid hdl
 have HBox := Lib.hid (below_box W #[.int .u8 (k : Int), .slice pa pl pc, .int .i64 n, .string t, .slice da dl dc] 34)
 clear hp hpl hr hdl
 have hT1 : ((T : Int) == 0) = false := by simp; omega
 have HM := Lib.hid (may_path (k := k) (n := n) (t := t) (d := d) hm); have HMp := Lib.hid hm; have HT := Lib.hid hT; clear hT hm
 go_enter Tryz.func56, Tryz.ntmps56
 go_wp2_with fail
 refine (reftype_any k _).mono ?_
 rintro e w1 ⟨rfl, rfl⟩
 rw [HT.out]
 go_wp2_with fail
 refine (refmayPath_any pa pl pc p _ (HP.out.below HBox.out) HPl.out).mono ?_
 rintro e w1 ⟨rfl, rfl⟩
 rw [HMp.out]
 go_wp2_with fail
 go_ret
 exact ⟨ret_bool HM.out.symm, HBox.out⟩
set_option maxRecDepth 100000 in
set_option maxHeartbeats 3200000 in
theorem refmay_text (k : Nat) (pa : Option Addr) (pl pc : Nat) (n : Int) (t : ByteArray) (da : Option Addr) (dl dc : Nat) (p : List ByteArray) (d : List Dt.Dot) (W : World) (hp : SRow W pa pc p) (hpl : p.length = pl) (hr : VRow W da dc d) (hdl : d.length = dl) (T : Nat) (hT0 : T ≠ 0) (hT : Om.type k = T) (hm : Om.mayPath p = true) (ht : 40 < t.size) :
  Calls Tryz.prog 56 #[opV k pa pl pc n t da dl dc] W fun e w' => e = .returned (.bool (Om.may ⟨k, p, n, t, d⟩)) ∧ Below W.heap.size W w' := by
 have HP := Lib.hid hp; have HPl := Lib.hid hpl; have HR := Lib.hid hr; have HDl := Lib.hid hdl
 have HBox := Lib.hid (below_box W #[.int .u8 (k : Int), .slice pa pl pc, .int .i64 n, .string t, .slice da dl dc] 34)
 clear hp hpl hr hdl
 have HM := Lib.hid (may_text (k := k) (p := p) (n := n) (t := t) (d := d) ht)
 have hT1 : ((T : Int) == 0) = false := by simp; omega
 have HMp := Lib.hid hm; have HT := Lib.hid hT; clear hT hm hT0
 go_enter Tryz.func56, Tryz.ntmps56
 go_wp2_with fail
 refine (reftype_any k _).mono ?_
 rintro e w1 ⟨rfl, rfl⟩
 rw [HT.out]
 go_wp2_with fail
 refine (refmayPath_any pa pl pc p _ (HP.out.below HBox.out) HPl.out).mono ?_
 rintro e w1 ⟨rfl, rfl⟩
 rw [HMp.out]
 go_wp2_with fail
 go_ret
 exact ⟨ret_bool HM.out.symm, HBox.out⟩
set_option maxRecDepth 100000 in
set_option maxHeartbeats 3200000 in
theorem refmay_dots (k : Nat) (pa : Option Addr) (pl pc : Nat) (n : Int) (t : ByteArray) (da : Option Addr) (dl dc : Nat) (p : List ByteArray) (d : List Dt.Dot) (W : World) (hp : SRow W pa pc p) (hpl : p.length = pl) (hr : VRow W da dc d) (hdl : d.length = dl) (T : Nat) (hT0 : T ≠ 0) (hT : Om.type k = T) (hm : Om.mayPath p = true) (ht : t.size ≤ 40) (hd : 64 < dl) :
  Calls Tryz.prog 56 #[opV k pa pl pc n t da dl dc] W fun e w' => e = .returned (.bool (Om.may ⟨k, p, n, t, d⟩)) ∧ Below W.heap.size W w' := by
 have HP := Lib.hid hp; have HPl := Lib.hid hpl; have HR := Lib.hid hr; have HDl := Lib.hid hdl
 have HBox := Lib.hid (below_box W #[.int .u8 (k : Int), .slice pa pl pc, .int .i64 n, .string t, .slice da dl dc] 34)
 clear hp hpl hr hdl
 have HM := Lib.hid (may_dots (k := k) (p := p) (n := n) (t := t) (d := d) (by rw [HDl.out]; exact hd))
 have hT1 : ((T : Int) == 0) = false := by simp; omega
 have HMp := Lib.hid hm; have HT := Lib.hid hT; clear hT hm hT0
 go_enter Tryz.func56, Tryz.ntmps56
 go_wp2_with fail
 refine (reftype_any k _).mono ?_
 rintro e w1 ⟨rfl, rfl⟩
 rw [HT.out]
 go_wp2_with fail
 refine (refmayPath_any pa pl pc p _ (HP.out.below HBox.out) HPl.out).mono ?_
 rintro e w1 ⟨rfl, rfl⟩
 rw [HMp.out]
 go_wp2_with fail
 go_ret
 exact ⟨ret_bool HM.out.symm, HBox.out⟩
set_option maxRecDepth 100000 in
set_option maxHeartbeats 3200000 in
theorem refmay_add (k : Nat) (pa : Option Addr) (pl pc : Nat) (n : Int) (t : ByteArray) (da : Option Addr) (dl dc : Nat) (p : List ByteArray) (d : List Dt.Dot) (W : World) (hp : SRow W pa pc p) (hpl : p.length = pl) (hr : VRow W da dc d) (hdl : d.length = dl) (T : Nat) (hT0 : T ≠ 0) (hT : Om.type k = T) (hm : Om.mayPath p = true) (ht : t.size ≤ 40) (hd : dl ≤ 64) (hk : k = 1) :
  Calls Tryz.prog 56 #[opV k pa pl pc n t da dl dc] W fun e w' => e = .returned (.bool (Om.may ⟨k, p, n, t, d⟩)) ∧ Below W.heap.size W w' := by
 have HP := Lib.hid hp; have HPl := Lib.hid hpl; have HR := Lib.hid hr; have HDl := Lib.hid hdl
 have HBox := Lib.hid (below_box W #[.int .u8 (k : Int), .slice pa pl pc, .int .i64 n, .string t, .slice da dl dc] 34)
 clear hp hpl hr hdl
 have hT1 : ((T : Int) == 0) = false := by simp; omega
 have HMp := Lib.hid hm; have HT := Lib.hid hT; clear hT hm hT0
 subst hk
 go_enter Tryz.func56, Tryz.ntmps56
 go_wp2_with fail
 refine (reftype_any 1 _).mono ?_
 rintro e w1 ⟨rfl, rfl⟩
 rw [HT.out]
 go_wp2_with fail
 refine (refmayPath_any pa pl pc p _ (HP.out.below HBox.out) HPl.out).mono ?_
 rintro e w1 ⟨rfl, rfl⟩
 rw [HMp.out]
 go_wp2_with fail
 all_goals
  go_ret
  refine ⟨ret_bool ?_, HBox.out⟩
  have hD := HDl.out
  try simp only [str_nil] at *
  rw [Bool.eq_iff_iff]
  simp [Om.may, HMp.out, Om.asked, Om.mayAdd, -ByteArray.size_eq_zero_iff, -List.length_eq_zero_iff]
  try omega
set_option maxRecDepth 100000 in
set_option maxHeartbeats 3200000 in
theorem refmay_n (k : Nat) (pa : Option Addr) (pl pc : Nat) (n : Int) (t : ByteArray) (da : Option Addr) (dl dc : Nat) (p : List ByteArray) (d : List Dt.Dot) (W : World) (hp : SRow W pa pc p) (hpl : p.length = pl) (hr : VRow W da dc d) (hdl : d.length = dl) (T : Nat) (hT0 : T ≠ 0) (hT : Om.type k = T) (hm : Om.mayPath p = true) (ht : t.size ≤ 40) (hd : dl ≤ 64) (hk : k ≠ 1) (hn : n ≠ 0) :
  Calls Tryz.prog 56 #[opV k pa pl pc n t da dl dc] W fun e w' => e = .returned (.bool (Om.may ⟨k, p, n, t, d⟩)) ∧ Below W.heap.size W w' := by
 have HP := Lib.hid hp; have HPl := Lib.hid hpl; have HR := Lib.hid hr; have HDl := Lib.hid hdl
 have HBox := Lib.hid (below_box W #[.int .u8 (k : Int), .slice pa pl pc, .int .i64 n, .string t, .slice da dl dc] 34)
 clear hp hpl hr hdl
 have HM := Lib.hid (may_n (p := p) (t := t) (d := d) hk hn)
 have hk1 : ((k : Int) == 1) = false := by simp; omega
 have hn1 : (n == 0) = false := by simpa using hn
 have hn2 : (n != 0) = true := by simpa using hn
 have hT1 : ((T : Int) == 0) = false := by simp; omega
 have HMp := Lib.hid hm; have HT := Lib.hid hT; clear hT hm hT0
 go_enter Tryz.func56, Tryz.ntmps56
 go_wp2_with fail
 refine (reftype_any k _).mono ?_
 rintro e w1 ⟨rfl, rfl⟩
 rw [HT.out]
 go_wp2_with fail
 refine (refmayPath_any pa pl pc p _ (HP.out.below HBox.out) HPl.out).mono ?_
 rintro e w1 ⟨rfl, rfl⟩
 rw [HMp.out]
 go_wp2_with fail
 go_ret
 exact ⟨ret_bool HM.out.symm, HBox.out⟩
set_option maxRecDepth 100000 in
set_option maxHeartbeats 3200000 in
theorem refmay_some (k : Nat) (pa : Option Addr) (pl pc : Nat) (n : Int) (t : ByteArray) (da : Option Addr) (dl dc : Nat) (p : List ByteArray) (d : List Dt.Dot) (W : World) (hp : SRow W pa pc p) (hpl : p.length = pl) (hr : VRow W da dc d) (hdl : d.length = dl) (T : Nat) (hT0 : T ≠ 0) (hT : Om.type k = T) (hm : Om.mayPath p = true) (ht : t.size ≤ 40) (hd : dl ≤ 64) (hk : k ≠ 1) (hk4 : k ≠ 4) (hn : n = 0) (hz : 0 < dl) :
  Calls Tryz.prog 56 #[opV k pa pl pc n t da dl dc] W fun e w' => e = .returned (.bool (Om.may ⟨k, p, n, t, d⟩)) ∧ Below W.heap.size W w' := by
 have HP := Lib.hid hp; have HPl := Lib.hid hpl; have HR := Lib.hid hr; have HDl := Lib.hid hdl
 have HBox := Lib.hid (below_box W #[.int .u8 (k : Int), .slice pa pl pc, .int .i64 n, .string t, .slice da dl dc] 34)
 clear hp hpl hr hdl
 subst hn
 have HM := Lib.hid (may_some (p := p) (n := 0) (t := t) (d := d) hk hk4 (by rw [HDl.out]; exact hz))
 have hk1 : ((k : Int) == 1) = false := by simp; omega
 have hk2 : ((k : Int) == 4) = false := by simp; omega
 have hT1 : ((T : Int) == 0) = false := by simp; omega
 have HMp := Lib.hid hm; have HT := Lib.hid hT; clear hT hm hT0
 go_enter Tryz.func56, Tryz.ntmps56
 go_wp2_with fail
 refine (reftype_any k _).mono ?_
 rintro e w1 ⟨rfl, rfl⟩
 rw [HT.out]
 go_wp2_with fail
 refine (refmayPath_any pa pl pc p _ (HP.out.below HBox.out) HPl.out).mono ?_
 rintro e w1 ⟨rfl, rfl⟩
 rw [HMp.out]
 go_wp2_with fail
 go_ret
 exact ⟨ret_bool HM.out.symm, HBox.out⟩
set_option maxRecDepth 100000 in
set_option maxHeartbeats 3200000 in
theorem refmay_none (k : Nat) (pa : Option Addr) (pl pc : Nat) (n : Int) (t : ByteArray) (da : Option Addr) (dl dc : Nat) (p : List ByteArray) (d : List Dt.Dot) (W : World) (hp : SRow W pa pc p) (hpl : p.length = pl) (hr : VRow W da dc d) (hdl : d.length = dl) (T : Nat) (hT0 : T ≠ 0) (hT : Om.type k = T) (hm : Om.mayPath p = true) (ht : t.size ≤ 40) (hd : dl ≤ 64) (hk : k ≠ 1) (hk4 : k ≠ 4) (hn : n = 0) (hz : dl = 0) :
  Calls Tryz.prog 56 #[opV k pa pl pc n t da dl dc] W fun e w' => e = .returned (.bool (Om.may ⟨k, p, n, t, d⟩)) ∧ Below W.heap.size W w' := by
 have HP := Lib.hid hp; have HPl := Lib.hid hpl; have HR := Lib.hid hr; have HDl := Lib.hid hdl
 have HBox := Lib.hid (below_box W #[.int .u8 (k : Int), .slice pa pl pc, .int .i64 n, .string t, .slice da dl dc] 34)
 clear hp hpl hr hdl
 subst hn
 have HM := Lib.hid (may_of_loop (k := k) (p := p) (n := 0) (t := t) (d := d) (by omega) hm ht (by rw [HDl.out]; exact hd) hk rfl (by rw [HDl.out]; omega))
 have hk1 : ((k : Int) == 1) = false := by simp; omega
 have hk2 : ((k : Int) == 4) = false := by simp; omega
 have hT1 : ((T : Int) == 0) = false := by simp; omega
 have HMp := Lib.hid hm; have HT := Lib.hid hT; clear hT hm hT0
 subst hz
 go_enter Tryz.func56, Tryz.ntmps56
 go_wp2_with fail
 refine (reftype_any k _).mono ?_
 rintro e w1 ⟨rfl, rfl⟩
 rw [HT.out]
 go_wp2_with fail
 refine (refmayPath_any pa pl pc p _ (HP.out.below HBox.out) HPl.out).mono ?_
 rintro e w1 ⟨rfl, rfl⟩
 rw [HMp.out]
 go_wp2_with fail
 go_loopw [3] (fun i wr => ∃ j : Nat, j ≤ 0 ∧ i = .int .i64 j ∧ Om.upTo (Om.dropAt d) j = true ∧ Below (W.alloc (.cells #[.int .u8 (k : Int), .slice pa pl pc, .int .i64 0, .string t, .slice da 0 dc] 34)).heap.size (W.alloc (.cells #[.int .u8 (k : Int), .slice pa pl pc, .int .i64 0, .string t, .slice da 0 dc] 34)) wr) (fun i _ => 0 - (intOf i).toNat)
 case atStart => exact ⟨0, Nat.zero_le _, rfl, Om.upTo_zero _, Below.refl _ _⟩
 case round =>
  obtain ⟨k0, hk0, rfl, hu, hbel⟩ := hrel
  have HU := Lib.hid hu; have HBel := Lib.hid hbel; clear hu
  obtain ⟨hc0, hc1, hc2, hc3, hc4⟩ := opcells hbel
  clear hbel
  obtain rfl : k0 = 0 := by omega
  go_wp2_with fail
  go_ret
  exact ⟨ret_bool (by rw [HM.out, HDl.out]; exact HU.out.symm), HBox.out.trans (HBel.out.mono HBox.out.size)⟩
end Go.Proofs.YteakbfbacfhhoaaGreat
namespace Go.Proofs.YteakbfbacfhhoaaGreat
open Go.RowKit Go.Buf
set_option linter.unusedSimpArgs false
set_option maxRecDepth 100000 in
set_option maxHeartbeats 3200000 in
theorem refmay_drop (k : Nat) (pa : Option Addr) (pl pc : Nat) (n : Int) (t : ByteArray) (da : Option Addr) (dl dc : Nat) (p : List ByteArray) (d : List Dt.Dot) (W : World) (hp : SRow W pa pc p) (hpl : p.length = pl) (hr : VRow W da dc d) (hdl : d.length = dl) (T : Nat) (hT0 : T ≠ 0) (hT : Om.type 4 = T) (hm : Om.mayPath p = true) (ht : t.size ≤ 40) (hd : dl ≤ 64) (hk : k = 4) (hn : n = 0) :
  Calls Tryz.prog 56 #[opV k pa pl pc n t da dl dc] W fun e w' => e = .returned (.bool (Om.may ⟨k, p, n, t, d⟩)) ∧ Below W.heap.size W w' := by
 have HP := Lib.hid hp; have HPl := Lib.hid hpl; have HR := Lib.hid hr; have HDl := Lib.hid hdl
 have HBox := Lib.hid (below_box W #[.int .u8 (k : Int), .slice pa pl pc, .int .i64 n, .string t, .slice da dl dc] 34)
 clear hp hpl hr hdl
 subst hk
 subst hn
 have HM := Lib.hid (may_of_loop (k := 4) (p := p) (n := 0) (t := t) (d := d) (by omega) hm ht (by rw [HDl.out]; exact hd) (by omega) rfl (by rw [HDl.out]; omega))
 have hT1 : ((T : Int) == 0) = false := by simp; omega
 have HMp := Lib.hid hm; have HT := Lib.hid hT; clear hT hm hT0
 have hle := HR.out.le
 have hcap := HR.out.cap
 rw [HDl.out] at hle
 go_enter Tryz.func56, Tryz.ntmps56
 go_wp2_with fail
 refine (reftype_any 4 _).mono ?_
 rintro e w1 ⟨rfl, rfl⟩
 rw [HT.out]
 go_wp2_with fail
 refine (refmayPath_any pa pl pc p _ (HP.out.below HBox.out) HPl.out).mono ?_
 rintro e w1 ⟨rfl, rfl⟩
 rw [HMp.out]
 go_wp2_with fail
 go_loopw [3] (fun i wr => ∃ j : Nat, j ≤ dl ∧ i = .int .i64 j ∧ Om.upTo (Om.dropAt d) j = true ∧ Below (W.alloc (.cells #[.int .u8 4, .slice pa pl pc, .int .i64 0, .string t, .slice da dl dc] 34)).heap.size (W.alloc (.cells #[.int .u8 4, .slice pa pl pc, .int .i64 0, .string t, .slice da dl dc] 34)) wr) (fun i _ => dl - (intOf i).toNat)
 case atStart => exact ⟨0, Nat.zero_le _, rfl, Om.upTo_zero _, Below.refl _ _⟩
 case round =>
  obtain ⟨k0, hk0, rfl, hu, hbel⟩ := hrel
  have HU := Lib.hid hu; have HBel := Lib.hid hbel; clear hu
  obtain ⟨hc0, hc1, hc2, hc3, hc4⟩ := opcells hbel
  clear hbel
  by_cases hlt : k0 < dl
  ·obtain ⟨x, hx⟩ := getD_some (l := d) (i := k0) (by rw [HDl.out]; exact hlt)
   have HR2 := HR.out.below HBox.out
   obtain ⟨blk, off, rfl, hblk, hcells⟩ := HR2.at (by rw [HDl.out]; omega)
   clear HR2
   obtain ⟨g0, g1, g2⟩ := hcells k0 x hx
   have q0 := (HBel.out.cell (p := ⟨blk, off + k0 * 3, none⟩) hblk).trans g0
   have q1 := (HBel.out.cell (p := ⟨blk, off + k0 * 3 + 1, none⟩) hblk).trans g1
   have q2 := (HBel.out.cell (p := ⟨blk, off + k0 * 3 + 2, none⟩) hblk).trans g2
   have HD := Lib.hid hx; have HCs := Lib.hid hcells; have hbw : blk < wr.heap.size := Nat.lt_of_lt_of_le hblk HBel.out.size
   obtain ⟨⟨r, i⟩, s⟩ := x
   simp only at q0 q1 q2
   have HC : Hid (∀ w2, Below wr.drew.heap.size wr.drew w2 → _) := Lib.hid (fun w2 h => opcells (HBel.out.trans (((Below.refl wr.heap.size wr).drew.trans h).mono HBel.out.size)))
   have i0 : (0 : Int) ≤ (k0 : Int) := by omega
   have i1 : (k0 : Int) < (dl : Int) := by omega
   clear hcells g0 g1 g2 hx
   cases hmy : Dt.may ((r, i), s)
   ·have HMy := Lib.hid hmy; clear hmy
    have HX := Lib.hid (dropAt_no HD.out HMy.out)
    have hCD : ∀ w2, Below wr.drew.heap.size wr.drew w2 → w2.cell? ⟨blk, off + k0 * 3, none⟩ = some (.int .u8 (r : Int)) ∧ w2.cell? ⟨blk, off + k0 * 3 + 1, none⟩ = some (.int .u32 (i : Int)) ∧ w2.cell? ⟨blk, off + k0 * 3 + 2, none⟩ = some (.int .u64 (s : Int)) := fun w2 h =>
     ⟨((Below.refl wr.heap.size wr).drew.trans h).cell (p := ⟨blk, off + k0 * 3, none⟩) (by simp only; omega) |>.trans q0, ((Below.refl wr.heap.size wr).drew.trans h).cell (p := ⟨blk, off + k0 * 3 + 1, none⟩) (by simp only; omega) |>.trans q1, ((Below.refl wr.heap.size wr).drew.trans h).cell (p := ⟨blk, off + k0 * 3 + 2, none⟩) (by simp only; omega) |>.trans q2⟩
    have HCD := Lib.hid hCD; clear hCD
    go_wp2_with fail
    refine Reg.region_list (by kernel_rfl) [fun v _ => v = .pointer (some ⟨W.heap.size, 4, none⟩), fun v _ => v = .slice (some ⟨blk, off, none⟩) dl dc, fun v _ => v = .int .i64 ((k0 : Nat) : Int), fun v _ => v = .pointer (some ⟨blk, off + k0 * 3, none⟩), fun v _ => v = dotV ((r, i), s), fun v _ => v = .bool false, fun v _ => v = .bool true, fun v _ => v = .bool true, fun v _ => v = undef, fun v _ => v = undef, fun v _ => v = undef, fun v _ => v = undef, fun v _ => v = undef, fun v _ => v = undef, fun v _ => v = undef, fun v _ => v = undef, fun v _ => v = undef, fun v _ => v = undef, fun v _ => v = undef, fun v _ => v = undef, fun v _ => v = undef, fun v _ => v = undef, fun v _ => v = undef, fun v _ => v = undef, fun v _ => v = undef, fun v _ => v = .bool true] (by kernel_rfl) ?_ ?_ ?_
    ·refine ⟨k4, k4, k4, k4, k4, k4, k4, k4, k4, k4, k4, k4, k4, k4, k4, k4, k4, k4, k4, k4, k4, k4, k4, k4, k4, k4, trivial⟩
    ·refine ⟨?_, ?_, ?_, ?_, ?_, ?_, ?_, ?_, ?_, ?_, ?_, ?_, ?_, ?_, ?_, ?_, ?_, ?_, ?_, ?_, ?_, ?_, ?_, ?_, ?_, ?_, trivial⟩
     ·intro ev w hc hf hg hfix hdep hbel
      have e1 : ev (.tmp 1) = _ := hfix 1 (by decide)
      exact okb trivial rfl (by go_simp)
     ·intro ev w hc hf hg hfix hdep hbel
      have e69 : ev (.tmp 69) = _ := hdep 0 (by decide)
      obtain ⟨hc0, hc1, hc2, hc3, hc4⟩ := HC.out w hbel
      obtain ⟨hd0, hd1, hd2⟩ := HCD.out w hbel
      exact okb trivial rfl (by go_simp)
     ·intro ev w hc hf hg hfix hdep hbel
      have e3 : ev (.tmp 3) = _ := hfix 3 (by decide)
      exact okb trivial rfl (by go_simp)
     ·intro ev w hc hf hg hfix hdep hbel
      have e70 : ev (.tmp 70) = _ := hdep 1 (by decide)
      have e71 : ev (.tmp 71) = _ := hdep 2 (by decide)
      exact okb trivial rfl (by go_simp)
     ·intro ev w hc hf hg hfix hdep hbel
      have e72 : ev (.tmp 72) = _ := hdep 3 (by decide)
      obtain ⟨hc0, hc1, hc2, hc3, hc4⟩ := HC.out w hbel
      obtain ⟨hd0, hd1, hd2⟩ := HCD.out w hbel
      exact okb trivial rfl (by go_simp)
     ·intro ev w hc hf hg hfix hdep hbel
      have e73 : ev (.tmp 73) = _ := hdep 4 (by decide)
      refine Or.inl ⟨trivial, Or.inr ⟨20, #[dotV ((r, i), s)], w, by go_simp, ?_⟩⟩
      refine (refmay_any r i s w).mono ?_
      rintro e w1 ⟨rfl, hb1⟩
      exact ⟨_, rfl, by rw [HMy.out], hb1⟩
     ·intro ev w hc hf hg hfix hdep hbel
      have e74 : ev (.tmp 74) = _ := hdep 5 (by decide)
      exact okb trivial rfl (by go_simp)
     ·intro ev w hc hf hg hfix hdep hbel
      have e75 : ev (.tmp 75) = _ := hdep 6 (by decide)
      exact okb trivial rfl (by go_simp)
     ·intro ev w hc hf hg hfix hdep hbel
      have fg : ev (.tmp 76) = _ := hdep 7 (by decide)
      exact Or.inr ⟨Or.inl fg, rfl⟩
     ·intro ev w hc hf hg hfix hdep hbel
      have fg : ev (.tmp 76) = _ := hdep 7 (by decide)
      exact Or.inr ⟨Or.inl fg, rfl⟩
     ·intro ev w hc hf hg hfix hdep hbel
      have fg : ev (.tmp 76) = _ := hdep 7 (by decide)
      exact Or.inr ⟨Or.inl fg, rfl⟩
     ·intro ev w hc hf hg hfix hdep hbel
      have fg : ev (.tmp 79) = _ := hdep 10 (by decide)
      exact Or.inr ⟨Or.inr fg, rfl⟩
     ·intro ev w hc hf hg hfix hdep hbel
      have fg : ev (.tmp 79) = _ := hdep 10 (by decide)
      exact Or.inr ⟨Or.inr fg, rfl⟩
     ·intro ev w hc hf hg hfix hdep hbel
      have fg : ev (.tmp 79) = _ := hdep 10 (by decide)
      exact Or.inr ⟨Or.inr fg, rfl⟩
     ·intro ev w hc hf hg hfix hdep hbel
      have fg : ev (.tmp 79) = _ := hdep 10 (by decide)
      exact Or.inr ⟨Or.inr fg, rfl⟩
     ·intro ev w hc hf hg hfix hdep hbel
      have fg : ev (.tmp 79) = _ := hdep 10 (by decide)
      exact Or.inr ⟨Or.inr fg, rfl⟩
     ·intro ev w hc hf hg hfix hdep hbel
      have fg : ev (.tmp 79) = _ := hdep 10 (by decide)
      exact Or.inr ⟨Or.inr fg, rfl⟩
     ·intro ev w hc hf hg hfix hdep hbel
      have fg : ev (.tmp 79) = _ := hdep 10 (by decide)
      exact Or.inr ⟨Or.inr fg, rfl⟩
     ·intro ev w hc hf hg hfix hdep hbel
      have fg : ev (.tmp 79) = _ := hdep 10 (by decide)
      exact Or.inr ⟨Or.inr fg, rfl⟩
     ·intro ev w hc hf hg hfix hdep hbel
      have fg : ev (.tmp 79) = _ := hdep 10 (by decide)
      exact Or.inr ⟨Or.inr fg, rfl⟩
     ·intro ev w hc hf hg hfix hdep hbel
      have fg : ev (.tmp 79) = _ := hdep 10 (by decide)
      exact Or.inr ⟨Or.inr fg, rfl⟩
     ·intro ev w hc hf hg hfix hdep hbel
      have fg : ev (.tmp 79) = _ := hdep 10 (by decide)
      exact Or.inr ⟨Or.inr fg, rfl⟩
     ·intro ev w hc hf hg hfix hdep hbel
      have fg : ev (.tmp 79) = _ := hdep 10 (by decide)
      exact Or.inr ⟨Or.inr fg, rfl⟩
     ·intro ev w hc hf hg hfix hdep hbel
      have fg : ev (.tmp 79) = _ := hdep 10 (by decide)
      exact Or.inr ⟨Or.inr fg, rfl⟩
     ·intro ev w hc hf hg hfix hdep hbel
      have fg : ev (.tmp 76) = _ := hdep 7 (by decide)
      exact Or.inr ⟨Or.inl fg, rfl⟩
     ·intro ev w hc hf hg hfix hdep hbel
      have e76 : ev (.tmp 76) = _ := hdep 7 (by decide)
      have e93 : ev (.tmp 93) = _ := hdep 24 (by decide)
      exact okb trivial rfl (by go_simp)
    ·intro v w2 hv hb2
     have r0 : v 0 = _ := hv 0 (by decide)
     have r1 : v 1 = _ := hv 1 (by decide)
     have r2 : v 2 = _ := hv 2 (by decide)
     have r3 : v 3 = _ := hv 3 (by decide)
     have r4 : v 4 = _ := hv 4 (by decide)
     have r5 : v 5 = _ := hv 5 (by decide)
     have r6 : v 6 = _ := hv 6 (by decide)
     have r7 : v 7 = _ := hv 7 (by decide)
     have r8 : v 8 = _ := hv 8 (by decide)
     have r9 : v 9 = _ := hv 9 (by decide)
     have r10 : v 10 = _ := hv 10 (by decide)
     have r11 : v 11 = _ := hv 11 (by decide)
     have r12 : v 12 = _ := hv 12 (by decide)
     have r13 : v 13 = _ := hv 13 (by decide)
     have r14 : v 14 = _ := hv 14 (by decide)
     have r15 : v 15 = _ := hv 15 (by decide)
     have r16 : v 16 = _ := hv 16 (by decide)
     have r17 : v 17 = _ := hv 17 (by decide)
     have r18 : v 18 = _ := hv 18 (by decide)
     have r19 : v 19 = _ := hv 19 (by decide)
     have r20 : v 20 = _ := hv 20 (by decide)
     have r21 : v 21 = _ := hv 21 (by decide)
     have r22 : v 22 = _ := hv 22 (by decide)
     have r23 : v 23 = _ := hv 23 (by decide)
     have r24 : v 24 = _ := hv 24 (by decide)
     have r25 : v 25 = _ := hv 25 (by decide)
     simp only [Reg.putAll, Act.put, List.setIfInBounds_toArray, List.set_cons_zero, List.set_cons_succ, r0, r1, r2, r3, r4, r5, r6, r7, r8, r9, r10, r11, r12, r13, r14, r15, r16, r17, r18, r19, r20, r21, r22, r23, r24, r25]
     clear r0 r1 r2 r3 r4 r5 r6 r7 r8 r9 r10 r11 r12 r13 r14 r15 r16 r17 r18 r19 r20 r21 r22 r23 r24 r25 hv
     have HBw := Lib.hid (HBel.out.trans (hb2.mono HBel.out.size)); clear hb2
     go_wp2_with fail
     go_ret
     exact ⟨ret_bool (by rw [HM.out, Om.upTo_not (by rw [HDl.out]; exact hlt) HX.out]), HBox.out.trans (HBw.out.mono HBox.out.size)⟩
   ·have HMy := Lib.hid hmy; clear hmy
    by_cases hk0 : k0 = 0
    ·subst hk0
     simp only [Nat.zero_mul, Nat.add_zero] at q0 q1 q2
     have HX := Lib.hid ((dropAt_zero HD.out).trans HMy.out)
     have hCD : ∀ w2, Below wr.drew.heap.size wr.drew w2 → w2.cell? ⟨blk, off, none⟩ = some (.int .u8 (r : Int)) ∧ w2.cell? ⟨blk, off + 1, none⟩ = some (.int .u32 (i : Int)) ∧ w2.cell? ⟨blk, off + 2, none⟩ = some (.int .u64 (s : Int)) := fun w2 h =>
      ⟨((Below.refl wr.heap.size wr).drew.trans h).cell (p := ⟨blk, off, none⟩) (by simp only; omega) |>.trans q0, ((Below.refl wr.heap.size wr).drew.trans h).cell (p := ⟨blk, off + 1, none⟩) (by simp only; omega) |>.trans q1, ((Below.refl wr.heap.size wr).drew.trans h).cell (p := ⟨blk, off + 2, none⟩) (by simp only; omega) |>.trans q2⟩
     have HCD := Lib.hid hCD; clear hCD
     go_wp2_with fail
     refine Reg.region_list (by kernel_rfl) [fun v _ => v = .pointer (some ⟨W.heap.size, 4, none⟩), fun v _ => v = .slice (some ⟨blk, off, none⟩) dl dc, fun v _ => v = .int .i64 ((0 : Nat) : Int), fun v _ => v = .pointer (some ⟨blk, off, none⟩), fun v _ => v = dotV ((r, i), s), fun v _ => v = .bool true, fun v _ => v = .bool false, fun v _ => v = .bool false, fun v _ => v = .int .i64 ((0 : Nat) : Int), fun v _ => v = .bool false, fun v _ => v = .bool false, fun v _ => v = undef, fun v _ => v = undef, fun v _ => v = undef, fun v _ => v = undef, fun v _ => v = undef, fun v _ => v = undef, fun v _ => v = undef, fun v _ => v = undef, fun v _ => v = undef, fun v _ => v = undef, fun v _ => v = undef, fun v _ => v = undef, fun v _ => v = undef, fun v _ => v = .bool false, fun v _ => v = .bool false] (by kernel_rfl) ?_ ?_ ?_
     ·refine ⟨k4, k4, k4, k4, k4, k4, k4, k4, k4, k4, k4, k4, k4, k4, k4, k4, k4, k4, k4, k4, k4, k4, k4, k4, k4, k4, trivial⟩
     ·refine ⟨?_, ?_, ?_, ?_, ?_, ?_, ?_, ?_, ?_, ?_, ?_, ?_, ?_, ?_, ?_, ?_, ?_, ?_, ?_, ?_, ?_, ?_, ?_, ?_, ?_, ?_, trivial⟩
      ·intro ev w hc hf hg hfix hdep hbel
       have e1 : ev (.tmp 1) = _ := hfix 1 (by decide)
       exact okb trivial rfl (by go_simp)
      ·intro ev w hc hf hg hfix hdep hbel
       have e69 : ev (.tmp 69) = _ := hdep 0 (by decide)
       obtain ⟨hc0, hc1, hc2, hc3, hc4⟩ := HC.out w hbel
       obtain ⟨hd0, hd1, hd2⟩ := HCD.out w hbel
       exact okb trivial rfl (by go_simp)
      ·intro ev w hc hf hg hfix hdep hbel
       have e3 : ev (.tmp 3) = _ := hfix 3 (by decide)
       exact okb trivial rfl (by go_simp)
      ·intro ev w hc hf hg hfix hdep hbel
       have e70 : ev (.tmp 70) = _ := hdep 1 (by decide)
       have e71 : ev (.tmp 71) = _ := hdep 2 (by decide)
       exact okb trivial rfl (by go_simp)
      ·intro ev w hc hf hg hfix hdep hbel
       have e72 : ev (.tmp 72) = _ := hdep 3 (by decide)
       obtain ⟨hc0, hc1, hc2, hc3, hc4⟩ := HC.out w hbel
       obtain ⟨hd0, hd1, hd2⟩ := HCD.out w hbel
       exact okb trivial rfl (by go_simp)
      ·intro ev w hc hf hg hfix hdep hbel
       have e73 : ev (.tmp 73) = _ := hdep 4 (by decide)
       refine Or.inl ⟨trivial, Or.inr ⟨20, #[dotV ((r, i), s)], w, by go_simp, ?_⟩⟩
       refine (refmay_any r i s w).mono ?_
       rintro e w1 ⟨rfl, hb1⟩
       exact ⟨_, rfl, by rw [HMy.out], hb1⟩
      ·intro ev w hc hf hg hfix hdep hbel
       have e74 : ev (.tmp 74) = _ := hdep 5 (by decide)
       exact okb trivial rfl (by go_simp)
      ·intro ev w hc hf hg hfix hdep hbel
       have e75 : ev (.tmp 75) = _ := hdep 6 (by decide)
       exact okb trivial rfl (by go_simp)
      ·intro ev w hc hf hg hfix hdep hbel
       have fg : ev (.tmp 76) = _ := hdep 7 (by decide)
       have e3 : ev (.tmp 3) = _ := hfix 3 (by decide)
       exact okb fg rfl (by go_simp)
      ·intro ev w hc hf hg hfix hdep hbel
       have fg : ev (.tmp 76) = _ := hdep 7 (by decide)
       have e77 : ev (.tmp 77) = _ := hdep 8 (by decide)
       exact okb fg rfl (by go_simp)
      ·intro ev w hc hf hg hfix hdep hbel
       have fg : ev (.tmp 76) = _ := hdep 7 (by decide)
       have e78 : ev (.tmp 78) = _ := hdep 9 (by decide)
       exact okb fg rfl (by go_simp)
      ·intro ev w hc hf hg hfix hdep hbel
       have fg : ev (.tmp 79) = _ := hdep 10 (by decide)
       exact Or.inr ⟨Or.inl fg, rfl⟩
      ·intro ev w hc hf hg hfix hdep hbel
       have fg : ev (.tmp 79) = _ := hdep 10 (by decide)
       exact Or.inr ⟨Or.inl fg, rfl⟩
      ·intro ev w hc hf hg hfix hdep hbel
       have fg : ev (.tmp 79) = _ := hdep 10 (by decide)
       exact Or.inr ⟨Or.inl fg, rfl⟩
      ·intro ev w hc hf hg hfix hdep hbel
       have fg : ev (.tmp 79) = _ := hdep 10 (by decide)
       exact Or.inr ⟨Or.inl fg, rfl⟩
      ·intro ev w hc hf hg hfix hdep hbel
       have fg : ev (.tmp 79) = _ := hdep 10 (by decide)
       exact Or.inr ⟨Or.inl fg, rfl⟩
      ·intro ev w hc hf hg hfix hdep hbel
       have fg : ev (.tmp 79) = _ := hdep 10 (by decide)
       exact Or.inr ⟨Or.inl fg, rfl⟩
      ·intro ev w hc hf hg hfix hdep hbel
       have fg : ev (.tmp 79) = _ := hdep 10 (by decide)
       exact Or.inr ⟨Or.inl fg, rfl⟩
      ·intro ev w hc hf hg hfix hdep hbel
       have fg : ev (.tmp 79) = _ := hdep 10 (by decide)
       exact Or.inr ⟨Or.inl fg, rfl⟩
      ·intro ev w hc hf hg hfix hdep hbel
       have fg : ev (.tmp 79) = _ := hdep 10 (by decide)
       exact Or.inr ⟨Or.inl fg, rfl⟩
      ·intro ev w hc hf hg hfix hdep hbel
       have fg : ev (.tmp 79) = _ := hdep 10 (by decide)
       exact Or.inr ⟨Or.inl fg, rfl⟩
      ·intro ev w hc hf hg hfix hdep hbel
       have fg : ev (.tmp 79) = _ := hdep 10 (by decide)
       exact Or.inr ⟨Or.inl fg, rfl⟩
      ·intro ev w hc hf hg hfix hdep hbel
       have fg : ev (.tmp 79) = _ := hdep 10 (by decide)
       exact Or.inr ⟨Or.inl fg, rfl⟩
      ·intro ev w hc hf hg hfix hdep hbel
       have fg : ev (.tmp 79) = _ := hdep 10 (by decide)
       exact Or.inr ⟨Or.inl fg, rfl⟩
      ·intro ev w hc hf hg hfix hdep hbel
       have fg : ev (.tmp 76) = _ := hdep 7 (by decide)
       have e79 : ev (.tmp 79) = _ := hdep 10 (by decide)
       have e92 : ev (.tmp 92) = _ := hdep 23 (by decide)
       exact okb fg rfl (by go_simp)
      ·intro ev w hc hf hg hfix hdep hbel
       have e76 : ev (.tmp 76) = _ := hdep 7 (by decide)
       have e93 : ev (.tmp 93) = _ := hdep 24 (by decide)
       exact okb trivial rfl (by go_simp)
     ·intro v w2 hv hb2
      have r0 : v 0 = _ := hv 0 (by decide)
      have r1 : v 1 = _ := hv 1 (by decide)
      have r2 : v 2 = _ := hv 2 (by decide)
      have r3 : v 3 = _ := hv 3 (by decide)
      have r4 : v 4 = _ := hv 4 (by decide)
      have r5 : v 5 = _ := hv 5 (by decide)
      have r6 : v 6 = _ := hv 6 (by decide)
      have r7 : v 7 = _ := hv 7 (by decide)
      have r8 : v 8 = _ := hv 8 (by decide)
      have r9 : v 9 = _ := hv 9 (by decide)
      have r10 : v 10 = _ := hv 10 (by decide)
      have r11 : v 11 = _ := hv 11 (by decide)
      have r12 : v 12 = _ := hv 12 (by decide)
      have r13 : v 13 = _ := hv 13 (by decide)
      have r14 : v 14 = _ := hv 14 (by decide)
      have r15 : v 15 = _ := hv 15 (by decide)
      have r16 : v 16 = _ := hv 16 (by decide)
      have r17 : v 17 = _ := hv 17 (by decide)
      have r18 : v 18 = _ := hv 18 (by decide)
      have r19 : v 19 = _ := hv 19 (by decide)
      have r20 : v 20 = _ := hv 20 (by decide)
      have r21 : v 21 = _ := hv 21 (by decide)
      have r22 : v 22 = _ := hv 22 (by decide)
      have r23 : v 23 = _ := hv 23 (by decide)
      have r24 : v 24 = _ := hv 24 (by decide)
      have r25 : v 25 = _ := hv 25 (by decide)
      simp only [Reg.putAll, Act.put, List.setIfInBounds_toArray, List.set_cons_zero, List.set_cons_succ, r0, r1, r2, r3, r4, r5, r6, r7, r8, r9, r10, r11, r12, r13, r14, r15, r16, r17, r18, r19, r20, r21, r22, r23, r24, r25]
      clear r0 r1 r2 r3 r4 r5 r6 r7 r8 r9 r10 r11 r12 r13 r14 r15 r16 r17 r18 r19 r20 r21 r22 r23 r24 r25 hv
      have HBw := Lib.hid (HBel.out.trans (hb2.mono HBel.out.size)); clear hb2
      go_wp2_with fail
      go_roundw
      case rel => exact ⟨0 + 1, by omega, by go_num, Om.upTo_succ HU.out HX.out, HBw.out⟩
      case measure => simp [intOf]; omega
    ·obtain ⟨j, rfl⟩ : ∃ j, k0 = j + 1 := ⟨k0 - 1, by omega⟩
     obtain ⟨e, he⟩ := getD_some (l := d) (i := j) (by rw [HDl.out]; omega)
     obtain ⟨g0, g1, g2⟩ := HCs.out j e he
     have p0 := (HBel.out.cell (p := ⟨blk, off + j * 3, none⟩) hblk).trans g0
     have p1 := (HBel.out.cell (p := ⟨blk, off + j * 3 + 1, none⟩) hblk).trans g1
     have p2 := (HBel.out.cell (p := ⟨blk, off + j * 3 + 2, none⟩) hblk).trans g2
     have j0 : (0 : Int) ≤ (j : Int) := by omega
     have j3 : (0 : Int) ≤ (j : Int) + 1 := by omega
     have j4 : (j : Int) + 1 < (dl : Int) := by omega
     have j1 : (j : Int) < (dl : Int) := by omega
     have j2 : IntKind.i64.wrap (j : Int) = (j : Int) := by simp [IntKind.wrap, IntKind.bits, IntKind.signed]; omega
     have hls := dropAt_succ (l := d) (k := j + 1) (d := ((r, i), s)) (e := e) (by omega) HD.out he
     rw [HMy.out, Bool.true_and] at hls
     obtain ⟨⟨r', i'⟩, s'⟩ := e
     simp only at p0 p1 p2
     clear g0 g1 g2 he
     cases hl : Dt.less ((r', i'), s') ((r, i), s)
     ·have HLs := Lib.hid hl; have HX := Lib.hid (hls.trans hl); clear hl hls
      have hCD : ∀ w2, Below wr.drew.heap.size wr.drew w2 → w2.cell? ⟨blk, off + (j + 1) * 3, none⟩ = some (.int .u8 (r : Int)) ∧ w2.cell? ⟨blk, off + (j + 1) * 3 + 1, none⟩ = some (.int .u32 (i : Int)) ∧ w2.cell? ⟨blk, off + (j + 1) * 3 + 2, none⟩ = some (.int .u64 (s : Int)) ∧ w2.cell? ⟨blk, off + j * 3, none⟩ = some (.int .u8 (r' : Int)) ∧ w2.cell? ⟨blk, off + j * 3 + 1, none⟩ = some (.int .u32 (i' : Int)) ∧ w2.cell? ⟨blk, off + j * 3 + 2, none⟩ = some (.int .u64 (s' : Int)) := fun w2 h =>
       ⟨((Below.refl wr.heap.size wr).drew.trans h).cell (p := ⟨blk, off + (j + 1) * 3, none⟩) (by simp only; omega) |>.trans q0, ((Below.refl wr.heap.size wr).drew.trans h).cell (p := ⟨blk, off + (j + 1) * 3 + 1, none⟩) (by simp only; omega) |>.trans q1, ((Below.refl wr.heap.size wr).drew.trans h).cell (p := ⟨blk, off + (j + 1) * 3 + 2, none⟩) (by simp only; omega) |>.trans q2, ((Below.refl wr.heap.size wr).drew.trans h).cell (p := ⟨blk, off + j * 3, none⟩) (by simp only; omega) |>.trans p0, ((Below.refl wr.heap.size wr).drew.trans h).cell (p := ⟨blk, off + j * 3 + 1, none⟩) (by simp only; omega) |>.trans p1, ((Below.refl wr.heap.size wr).drew.trans h).cell (p := ⟨blk, off + j * 3 + 2, none⟩) (by simp only; omega) |>.trans p2⟩
      have HCD := Lib.hid hCD; clear hCD
      go_wp2_with fail
      refine Reg.region_list (by kernel_rfl) [fun v _ => v = .pointer (some ⟨W.heap.size, 4, none⟩), fun v _ => v = .slice (some ⟨blk, off, none⟩) dl dc, fun v _ => v = .int .i64 ((j + 1 : Nat) : Int), fun v _ => v = .pointer (some ⟨blk, off + (j + 1) * 3, none⟩), fun v _ => v = dotV ((r, i), s), fun v _ => v = .bool true, fun v _ => v = .bool false, fun v _ => v = .bool false, fun v _ => v = .int .i64 ((j + 1 : Nat) : Int), fun v _ => v = .bool true, fun v _ => v = .bool true, fun v _ => v = .pointer (some ⟨W.heap.size, 4, none⟩), fun v _ => v = .slice (some ⟨blk, off, none⟩) dl dc, fun v _ => v = .int .i64 ((j + 1 : Nat) : Int), fun v _ => v = .int .i64 (j : Int), fun v _ => v = .pointer (some ⟨blk, off + j * 3, none⟩), fun v _ => v = dotV ((r', i'), s'), fun v _ => v = .pointer (some ⟨W.heap.size, 4, none⟩), fun v _ => v = .slice (some ⟨blk, off, none⟩) dl dc, fun v _ => v = .int .i64 ((j + 1 : Nat) : Int), fun v _ => v = .pointer (some ⟨blk, off + (j + 1) * 3, none⟩), fun v _ => v = dotV ((r, i), s), fun v _ => v = .bool false, fun v _ => v = .bool true, fun v _ => v = .bool true, fun v _ => v = .bool true] (by kernel_rfl) ?_ ?_ ?_
      ·refine ⟨k4, k4, k4, k4, k4, k4, k4, k4, k4, k4, k4, k4, k4, k4, k4, k4, k4, k4, k4, k4, k4, k4, k4, k4, k4, k4, trivial⟩
      ·refine ⟨?_, ?_, ?_, ?_, ?_, ?_, ?_, ?_, ?_, ?_, ?_, ?_, ?_, ?_, ?_, ?_, ?_, ?_, ?_, ?_, ?_, ?_, ?_, ?_, ?_, ?_, trivial⟩
       ·intro ev w hc hf hg hfix hdep hbel
        have e1 : ev (.tmp 1) = _ := hfix 1 (by decide)
        exact okb trivial rfl (by go_simp)
       ·intro ev w hc hf hg hfix hdep hbel
        have e69 : ev (.tmp 69) = _ := hdep 0 (by decide)
        obtain ⟨hc0, hc1, hc2, hc3, hc4⟩ := HC.out w hbel
        obtain ⟨hd0, hd1, hd2, hd3, hd4, hd5⟩ := HCD.out w hbel
        exact okb trivial rfl (by go_simp)
       ·intro ev w hc hf hg hfix hdep hbel
        have e3 : ev (.tmp 3) = _ := hfix 3 (by decide)
        exact okb trivial rfl (by go_simp)
       ·intro ev w hc hf hg hfix hdep hbel
        have e70 : ev (.tmp 70) = _ := hdep 1 (by decide)
        have e71 : ev (.tmp 71) = _ := hdep 2 (by decide)
        exact okb trivial rfl (by go_simp)
       ·intro ev w hc hf hg hfix hdep hbel
        have e72 : ev (.tmp 72) = _ := hdep 3 (by decide)
        obtain ⟨hc0, hc1, hc2, hc3, hc4⟩ := HC.out w hbel
        obtain ⟨hd0, hd1, hd2, hd3, hd4, hd5⟩ := HCD.out w hbel
        exact okb trivial rfl (by go_simp)
       ·intro ev w hc hf hg hfix hdep hbel
        have e73 : ev (.tmp 73) = _ := hdep 4 (by decide)
        refine Or.inl ⟨trivial, Or.inr ⟨20, #[dotV ((r, i), s)], w, by go_simp, ?_⟩⟩
        refine (refmay_any r i s w).mono ?_
        rintro e w1 ⟨rfl, hb1⟩
        exact ⟨_, rfl, by rw [HMy.out], hb1⟩
       ·intro ev w hc hf hg hfix hdep hbel
        have e74 : ev (.tmp 74) = _ := hdep 5 (by decide)
        exact okb trivial rfl (by go_simp)
       ·intro ev w hc hf hg hfix hdep hbel
        have e75 : ev (.tmp 75) = _ := hdep 6 (by decide)
        exact okb trivial rfl (by go_simp)
       ·intro ev w hc hf hg hfix hdep hbel
        have fg : ev (.tmp 76) = _ := hdep 7 (by decide)
        have e3 : ev (.tmp 3) = _ := hfix 3 (by decide)
        exact okb fg rfl (by go_simp)
       ·intro ev w hc hf hg hfix hdep hbel
        have fg : ev (.tmp 76) = _ := hdep 7 (by decide)
        have e77 : ev (.tmp 77) = _ := hdep 8 (by decide)
        exact okb fg rfl (by go_simp)
       ·intro ev w hc hf hg hfix hdep hbel
        have fg : ev (.tmp 76) = _ := hdep 7 (by decide)
        have e78 : ev (.tmp 78) = _ := hdep 9 (by decide)
        exact okb fg rfl (by go_simp)
       ·intro ev w hc hf hg hfix hdep hbel
        have fg : ev (.tmp 79) = _ := hdep 10 (by decide)
        have e1 : ev (.tmp 1) = _ := hfix 1 (by decide)
        exact okb fg rfl (by go_simp)
       ·intro ev w hc hf hg hfix hdep hbel
        have fg : ev (.tmp 79) = _ := hdep 10 (by decide)
        have e80 : ev (.tmp 80) = _ := hdep 11 (by decide)
        obtain ⟨hc0, hc1, hc2, hc3, hc4⟩ := HC.out w hbel
        obtain ⟨hd0, hd1, hd2, hd3, hd4, hd5⟩ := HCD.out w hbel
        exact okb fg rfl (by go_simp)
       ·intro ev w hc hf hg hfix hdep hbel
        have fg : ev (.tmp 79) = _ := hdep 10 (by decide)
        have e3 : ev (.tmp 3) = _ := hfix 3 (by decide)
        exact okb fg rfl (by go_simp)
       ·intro ev w hc hf hg hfix hdep hbel
        have fg : ev (.tmp 79) = _ := hdep 10 (by decide)
        have e82 : ev (.tmp 82) = _ := hdep 13 (by decide)
        exact okb fg rfl (by go_simp)
       ·intro ev w hc hf hg hfix hdep hbel
        have fg : ev (.tmp 79) = _ := hdep 10 (by decide)
        have e81 : ev (.tmp 81) = _ := hdep 12 (by decide)
        have e83 : ev (.tmp 83) = _ := hdep 14 (by decide)
        exact okb fg rfl (by go_simp)
       ·intro ev w hc hf hg hfix hdep hbel
        have fg : ev (.tmp 79) = _ := hdep 10 (by decide)
        have e84 : ev (.tmp 84) = _ := hdep 15 (by decide)
        obtain ⟨hc0, hc1, hc2, hc3, hc4⟩ := HC.out w hbel
        obtain ⟨hd0, hd1, hd2, hd3, hd4, hd5⟩ := HCD.out w hbel
        exact okb fg rfl (by go_simp)
       ·intro ev w hc hf hg hfix hdep hbel
        have fg : ev (.tmp 79) = _ := hdep 10 (by decide)
        have e1 : ev (.tmp 1) = _ := hfix 1 (by decide)
        exact okb fg rfl (by go_simp)
       ·intro ev w hc hf hg hfix hdep hbel
        have fg : ev (.tmp 79) = _ := hdep 10 (by decide)
        have e86 : ev (.tmp 86) = _ := hdep 17 (by decide)
        obtain ⟨hc0, hc1, hc2, hc3, hc4⟩ := HC.out w hbel
        obtain ⟨hd0, hd1, hd2, hd3, hd4, hd5⟩ := HCD.out w hbel
        exact okb fg rfl (by go_simp)
       ·intro ev w hc hf hg hfix hdep hbel
        have fg : ev (.tmp 79) = _ := hdep 10 (by decide)
        have e3 : ev (.tmp 3) = _ := hfix 3 (by decide)
        exact okb fg rfl (by go_simp)
       ·intro ev w hc hf hg hfix hdep hbel
        have fg : ev (.tmp 79) = _ := hdep 10 (by decide)
        have e87 : ev (.tmp 87) = _ := hdep 18 (by decide)
        have e88 : ev (.tmp 88) = _ := hdep 19 (by decide)
        exact okb fg rfl (by go_simp)
       ·intro ev w hc hf hg hfix hdep hbel
        have fg : ev (.tmp 79) = _ := hdep 10 (by decide)
        have e89 : ev (.tmp 89) = _ := hdep 20 (by decide)
        obtain ⟨hc0, hc1, hc2, hc3, hc4⟩ := HC.out w hbel
        obtain ⟨hd0, hd1, hd2, hd3, hd4, hd5⟩ := HCD.out w hbel
        exact okb fg rfl (by go_simp)
       ·intro ev w hc hf hg hfix hdep hbel
        have fg : ev (.tmp 79) = _ := hdep 10 (by decide)
        have e85 : ev (.tmp 85) = _ := hdep 16 (by decide)
        have e90 : ev (.tmp 90) = _ := hdep 21 (by decide)
        refine Or.inl ⟨fg, Or.inr ⟨23, #[dotV ((r', i'), s'), dotV ((r, i), s)], w, by go_simp, ?_⟩⟩
        refine (refless_any r' i' s' r i s w).mono ?_
        rintro e w1 ⟨rfl, hb1⟩
        exact ⟨_, rfl, by rw [HLs.out], hb1⟩
       ·intro ev w hc hf hg hfix hdep hbel
        have fg : ev (.tmp 79) = _ := hdep 10 (by decide)
        have e91 : ev (.tmp 91) = _ := hdep 22 (by decide)
        exact okb fg rfl (by go_simp)
       ·intro ev w hc hf hg hfix hdep hbel
        have fg : ev (.tmp 76) = _ := hdep 7 (by decide)
        have e79 : ev (.tmp 79) = _ := hdep 10 (by decide)
        have e92 : ev (.tmp 92) = _ := hdep 23 (by decide)
        exact okb fg rfl (by go_simp)
       ·intro ev w hc hf hg hfix hdep hbel
        have e76 : ev (.tmp 76) = _ := hdep 7 (by decide)
        have e93 : ev (.tmp 93) = _ := hdep 24 (by decide)
        exact okb trivial rfl (by go_simp)
      ·intro v w2 hv hb2
       have r0 : v 0 = _ := hv 0 (by decide)
       have r1 : v 1 = _ := hv 1 (by decide)
       have r2 : v 2 = _ := hv 2 (by decide)
       have r3 : v 3 = _ := hv 3 (by decide)
       have r4 : v 4 = _ := hv 4 (by decide)
       have r5 : v 5 = _ := hv 5 (by decide)
       have r6 : v 6 = _ := hv 6 (by decide)
       have r7 : v 7 = _ := hv 7 (by decide)
       have r8 : v 8 = _ := hv 8 (by decide)
       have r9 : v 9 = _ := hv 9 (by decide)
       have r10 : v 10 = _ := hv 10 (by decide)
       have r11 : v 11 = _ := hv 11 (by decide)
       have r12 : v 12 = _ := hv 12 (by decide)
       have r13 : v 13 = _ := hv 13 (by decide)
       have r14 : v 14 = _ := hv 14 (by decide)
       have r15 : v 15 = _ := hv 15 (by decide)
       have r16 : v 16 = _ := hv 16 (by decide)
       have r17 : v 17 = _ := hv 17 (by decide)
       have r18 : v 18 = _ := hv 18 (by decide)
       have r19 : v 19 = _ := hv 19 (by decide)
       have r20 : v 20 = _ := hv 20 (by decide)
       have r21 : v 21 = _ := hv 21 (by decide)
       have r22 : v 22 = _ := hv 22 (by decide)
       have r23 : v 23 = _ := hv 23 (by decide)
       have r24 : v 24 = _ := hv 24 (by decide)
       have r25 : v 25 = _ := hv 25 (by decide)
       simp only [Reg.putAll, Act.put, List.setIfInBounds_toArray, List.set_cons_zero, List.set_cons_succ, r0, r1, r2, r3, r4, r5, r6, r7, r8, r9, r10, r11, r12, r13, r14, r15, r16, r17, r18, r19, r20, r21, r22, r23, r24, r25]
       clear r0 r1 r2 r3 r4 r5 r6 r7 r8 r9 r10 r11 r12 r13 r14 r15 r16 r17 r18 r19 r20 r21 r22 r23 r24 r25 hv
       have HBw := Lib.hid (HBel.out.trans (hb2.mono HBel.out.size)); clear hb2
       go_wp2_with fail
       go_ret
       exact ⟨ret_bool (by rw [HM.out, Om.upTo_not (by rw [HDl.out]; exact hlt) HX.out]), HBox.out.trans (HBw.out.mono HBox.out.size)⟩
     ·have HLs := Lib.hid hl; have HX := Lib.hid (hls.trans hl); clear hl hls
      have hCD : ∀ w2, Below wr.drew.heap.size wr.drew w2 → w2.cell? ⟨blk, off + (j + 1) * 3, none⟩ = some (.int .u8 (r : Int)) ∧ w2.cell? ⟨blk, off + (j + 1) * 3 + 1, none⟩ = some (.int .u32 (i : Int)) ∧ w2.cell? ⟨blk, off + (j + 1) * 3 + 2, none⟩ = some (.int .u64 (s : Int)) ∧ w2.cell? ⟨blk, off + j * 3, none⟩ = some (.int .u8 (r' : Int)) ∧ w2.cell? ⟨blk, off + j * 3 + 1, none⟩ = some (.int .u32 (i' : Int)) ∧ w2.cell? ⟨blk, off + j * 3 + 2, none⟩ = some (.int .u64 (s' : Int)) := fun w2 h =>
       ⟨((Below.refl wr.heap.size wr).drew.trans h).cell (p := ⟨blk, off + (j + 1) * 3, none⟩) (by simp only; omega) |>.trans q0, ((Below.refl wr.heap.size wr).drew.trans h).cell (p := ⟨blk, off + (j + 1) * 3 + 1, none⟩) (by simp only; omega) |>.trans q1, ((Below.refl wr.heap.size wr).drew.trans h).cell (p := ⟨blk, off + (j + 1) * 3 + 2, none⟩) (by simp only; omega) |>.trans q2, ((Below.refl wr.heap.size wr).drew.trans h).cell (p := ⟨blk, off + j * 3, none⟩) (by simp only; omega) |>.trans p0, ((Below.refl wr.heap.size wr).drew.trans h).cell (p := ⟨blk, off + j * 3 + 1, none⟩) (by simp only; omega) |>.trans p1, ((Below.refl wr.heap.size wr).drew.trans h).cell (p := ⟨blk, off + j * 3 + 2, none⟩) (by simp only; omega) |>.trans p2⟩
      have HCD := Lib.hid hCD; clear hCD
      go_wp2_with fail
      refine Reg.region_list (by kernel_rfl) [fun v _ => v = .pointer (some ⟨W.heap.size, 4, none⟩), fun v _ => v = .slice (some ⟨blk, off, none⟩) dl dc, fun v _ => v = .int .i64 ((j + 1 : Nat) : Int), fun v _ => v = .pointer (some ⟨blk, off + (j + 1) * 3, none⟩), fun v _ => v = dotV ((r, i), s), fun v _ => v = .bool true, fun v _ => v = .bool false, fun v _ => v = .bool false, fun v _ => v = .int .i64 ((j + 1 : Nat) : Int), fun v _ => v = .bool true, fun v _ => v = .bool true, fun v _ => v = .pointer (some ⟨W.heap.size, 4, none⟩), fun v _ => v = .slice (some ⟨blk, off, none⟩) dl dc, fun v _ => v = .int .i64 ((j + 1 : Nat) : Int), fun v _ => v = .int .i64 (j : Int), fun v _ => v = .pointer (some ⟨blk, off + j * 3, none⟩), fun v _ => v = dotV ((r', i'), s'), fun v _ => v = .pointer (some ⟨W.heap.size, 4, none⟩), fun v _ => v = .slice (some ⟨blk, off, none⟩) dl dc, fun v _ => v = .int .i64 ((j + 1 : Nat) : Int), fun v _ => v = .pointer (some ⟨blk, off + (j + 1) * 3, none⟩), fun v _ => v = dotV ((r, i), s), fun v _ => v = .bool true, fun v _ => v = .bool false, fun v _ => v = .bool false, fun v _ => v = .bool false] (by kernel_rfl) ?_ ?_ ?_
      ·refine ⟨k4, k4, k4, k4, k4, k4, k4, k4, k4, k4, k4, k4, k4, k4, k4, k4, k4, k4, k4, k4, k4, k4, k4, k4, k4, k4, trivial⟩
      ·refine ⟨?_, ?_, ?_, ?_, ?_, ?_, ?_, ?_, ?_, ?_, ?_, ?_, ?_, ?_, ?_, ?_, ?_, ?_, ?_, ?_, ?_, ?_, ?_, ?_, ?_, ?_, trivial⟩
       ·intro ev w hc hf hg hfix hdep hbel
        have e1 : ev (.tmp 1) = _ := hfix 1 (by decide)
        exact okb trivial rfl (by go_simp)
       ·intro ev w hc hf hg hfix hdep hbel
        have e69 : ev (.tmp 69) = _ := hdep 0 (by decide)
        obtain ⟨hc0, hc1, hc2, hc3, hc4⟩ := HC.out w hbel
        obtain ⟨hd0, hd1, hd2, hd3, hd4, hd5⟩ := HCD.out w hbel
        exact okb trivial rfl (by go_simp)
       ·intro ev w hc hf hg hfix hdep hbel
        have e3 : ev (.tmp 3) = _ := hfix 3 (by decide)
        exact okb trivial rfl (by go_simp)
       ·intro ev w hc hf hg hfix hdep hbel
        have e70 : ev (.tmp 70) = _ := hdep 1 (by decide)
        have e71 : ev (.tmp 71) = _ := hdep 2 (by decide)
        exact okb trivial rfl (by go_simp)
       ·intro ev w hc hf hg hfix hdep hbel
        have e72 : ev (.tmp 72) = _ := hdep 3 (by decide)
        obtain ⟨hc0, hc1, hc2, hc3, hc4⟩ := HC.out w hbel
        obtain ⟨hd0, hd1, hd2, hd3, hd4, hd5⟩ := HCD.out w hbel
        exact okb trivial rfl (by go_simp)
       ·intro ev w hc hf hg hfix hdep hbel
        have e73 : ev (.tmp 73) = _ := hdep 4 (by decide)
        refine Or.inl ⟨trivial, Or.inr ⟨20, #[dotV ((r, i), s)], w, by go_simp, ?_⟩⟩
        refine (refmay_any r i s w).mono ?_
        rintro e w1 ⟨rfl, hb1⟩
        exact ⟨_, rfl, by rw [HMy.out], hb1⟩
       ·intro ev w hc hf hg hfix hdep hbel
        have e74 : ev (.tmp 74) = _ := hdep 5 (by decide)
        exact okb trivial rfl (by go_simp)
       ·intro ev w hc hf hg hfix hdep hbel
        have e75 : ev (.tmp 75) = _ := hdep 6 (by decide)
        exact okb trivial rfl (by go_simp)
       ·intro ev w hc hf hg hfix hdep hbel
        have fg : ev (.tmp 76) = _ := hdep 7 (by decide)
        have e3 : ev (.tmp 3) = _ := hfix 3 (by decide)
        exact okb fg rfl (by go_simp)
       ·intro ev w hc hf hg hfix hdep hbel
        have fg : ev (.tmp 76) = _ := hdep 7 (by decide)
        have e77 : ev (.tmp 77) = _ := hdep 8 (by decide)
        exact okb fg rfl (by go_simp)
       ·intro ev w hc hf hg hfix hdep hbel
        have fg : ev (.tmp 76) = _ := hdep 7 (by decide)
        have e78 : ev (.tmp 78) = _ := hdep 9 (by decide)
        exact okb fg rfl (by go_simp)
       ·intro ev w hc hf hg hfix hdep hbel
        have fg : ev (.tmp 79) = _ := hdep 10 (by decide)
        have e1 : ev (.tmp 1) = _ := hfix 1 (by decide)
        exact okb fg rfl (by go_simp)
       ·intro ev w hc hf hg hfix hdep hbel
        have fg : ev (.tmp 79) = _ := hdep 10 (by decide)
        have e80 : ev (.tmp 80) = _ := hdep 11 (by decide)
        obtain ⟨hc0, hc1, hc2, hc3, hc4⟩ := HC.out w hbel
        obtain ⟨hd0, hd1, hd2, hd3, hd4, hd5⟩ := HCD.out w hbel
        exact okb fg rfl (by go_simp)
       ·intro ev w hc hf hg hfix hdep hbel
        have fg : ev (.tmp 79) = _ := hdep 10 (by decide)
        have e3 : ev (.tmp 3) = _ := hfix 3 (by decide)
        exact okb fg rfl (by go_simp)
       ·intro ev w hc hf hg hfix hdep hbel
        have fg : ev (.tmp 79) = _ := hdep 10 (by decide)
        have e82 : ev (.tmp 82) = _ := hdep 13 (by decide)
        exact okb fg rfl (by go_simp)
       ·intro ev w hc hf hg hfix hdep hbel
        have fg : ev (.tmp 79) = _ := hdep 10 (by decide)
        have e81 : ev (.tmp 81) = _ := hdep 12 (by decide)
        have e83 : ev (.tmp 83) = _ := hdep 14 (by decide)
        exact okb fg rfl (by go_simp)
       ·intro ev w hc hf hg hfix hdep hbel
        have fg : ev (.tmp 79) = _ := hdep 10 (by decide)
        have e84 : ev (.tmp 84) = _ := hdep 15 (by decide)
        obtain ⟨hc0, hc1, hc2, hc3, hc4⟩ := HC.out w hbel
        obtain ⟨hd0, hd1, hd2, hd3, hd4, hd5⟩ := HCD.out w hbel
        exact okb fg rfl (by go_simp)
       ·intro ev w hc hf hg hfix hdep hbel
        have fg : ev (.tmp 79) = _ := hdep 10 (by decide)
        have e1 : ev (.tmp 1) = _ := hfix 1 (by decide)
        exact okb fg rfl (by go_simp)
       ·intro ev w hc hf hg hfix hdep hbel
        have fg : ev (.tmp 79) = _ := hdep 10 (by decide)
        have e86 : ev (.tmp 86) = _ := hdep 17 (by decide)
        obtain ⟨hc0, hc1, hc2, hc3, hc4⟩ := HC.out w hbel
        obtain ⟨hd0, hd1, hd2, hd3, hd4, hd5⟩ := HCD.out w hbel
        exact okb fg rfl (by go_simp)
       ·intro ev w hc hf hg hfix hdep hbel
        have fg : ev (.tmp 79) = _ := hdep 10 (by decide)
        have e3 : ev (.tmp 3) = _ := hfix 3 (by decide)
        exact okb fg rfl (by go_simp)
       ·intro ev w hc hf hg hfix hdep hbel
        have fg : ev (.tmp 79) = _ := hdep 10 (by decide)
        have e87 : ev (.tmp 87) = _ := hdep 18 (by decide)
        have e88 : ev (.tmp 88) = _ := hdep 19 (by decide)
        exact okb fg rfl (by go_simp)
       ·intro ev w hc hf hg hfix hdep hbel
        have fg : ev (.tmp 79) = _ := hdep 10 (by decide)
        have e89 : ev (.tmp 89) = _ := hdep 20 (by decide)
        obtain ⟨hc0, hc1, hc2, hc3, hc4⟩ := HC.out w hbel
        obtain ⟨hd0, hd1, hd2, hd3, hd4, hd5⟩ := HCD.out w hbel
        exact okb fg rfl (by go_simp)
       ·intro ev w hc hf hg hfix hdep hbel
        have fg : ev (.tmp 79) = _ := hdep 10 (by decide)
        have e85 : ev (.tmp 85) = _ := hdep 16 (by decide)
        have e90 : ev (.tmp 90) = _ := hdep 21 (by decide)
        refine Or.inl ⟨fg, Or.inr ⟨23, #[dotV ((r', i'), s'), dotV ((r, i), s)], w, by go_simp, ?_⟩⟩
        refine (refless_any r' i' s' r i s w).mono ?_
        rintro e w1 ⟨rfl, hb1⟩
        exact ⟨_, rfl, by rw [HLs.out], hb1⟩
       ·intro ev w hc hf hg hfix hdep hbel
        have fg : ev (.tmp 79) = _ := hdep 10 (by decide)
        have e91 : ev (.tmp 91) = _ := hdep 22 (by decide)
        exact okb fg rfl (by go_simp)
       ·intro ev w hc hf hg hfix hdep hbel
        have fg : ev (.tmp 76) = _ := hdep 7 (by decide)
        have e79 : ev (.tmp 79) = _ := hdep 10 (by decide)
        have e92 : ev (.tmp 92) = _ := hdep 23 (by decide)
        exact okb fg rfl (by go_simp)
       ·intro ev w hc hf hg hfix hdep hbel
        have e76 : ev (.tmp 76) = _ := hdep 7 (by decide)
        have e93 : ev (.tmp 93) = _ := hdep 24 (by decide)
        exact okb trivial rfl (by go_simp)
      ·intro v w2 hv hb2
       have r0 : v 0 = _ := hv 0 (by decide)
       have r1 : v 1 = _ := hv 1 (by decide)
       have r2 : v 2 = _ := hv 2 (by decide)
       have r3 : v 3 = _ := hv 3 (by decide)
       have r4 : v 4 = _ := hv 4 (by decide)
       have r5 : v 5 = _ := hv 5 (by decide)
       have r6 : v 6 = _ := hv 6 (by decide)
       have r7 : v 7 = _ := hv 7 (by decide)
       have r8 : v 8 = _ := hv 8 (by decide)
       have r9 : v 9 = _ := hv 9 (by decide)
       have r10 : v 10 = _ := hv 10 (by decide)
       have r11 : v 11 = _ := hv 11 (by decide)
       have r12 : v 12 = _ := hv 12 (by decide)
       have r13 : v 13 = _ := hv 13 (by decide)
       have r14 : v 14 = _ := hv 14 (by decide)
       have r15 : v 15 = _ := hv 15 (by decide)
       have r16 : v 16 = _ := hv 16 (by decide)
       have r17 : v 17 = _ := hv 17 (by decide)
       have r18 : v 18 = _ := hv 18 (by decide)
       have r19 : v 19 = _ := hv 19 (by decide)
       have r20 : v 20 = _ := hv 20 (by decide)
       have r21 : v 21 = _ := hv 21 (by decide)
       have r22 : v 22 = _ := hv 22 (by decide)
       have r23 : v 23 = _ := hv 23 (by decide)
       have r24 : v 24 = _ := hv 24 (by decide)
       have r25 : v 25 = _ := hv 25 (by decide)
       simp only [Reg.putAll, Act.put, List.setIfInBounds_toArray, List.set_cons_zero, List.set_cons_succ, r0, r1, r2, r3, r4, r5, r6, r7, r8, r9, r10, r11, r12, r13, r14, r15, r16, r17, r18, r19, r20, r21, r22, r23, r24, r25]
       clear r0 r1 r2 r3 r4 r5 r6 r7 r8 r9 r10 r11 r12 r13 r14 r15 r16 r17 r18 r19 r20 r21 r22 r23 r24 r25 hv
       have HBw := Lib.hid (HBel.out.trans (hb2.mono HBel.out.size)); clear hb2
       go_wp2_with fail
       go_roundw
       case rel => exact ⟨(j + 1) + 1, by omega, by go_num, Om.upTo_succ HU.out HX.out, HBw.out⟩
       case measure => simp [intOf]; omega
  ·obtain rfl : k0 = dl := by omega
   go_wp2_with fail
   go_ret
   exact ⟨ret_bool (by rw [HM.out, HDl.out]; exact HU.out.symm), HBox.out.trans (HBel.out.mono HBox.out.size)⟩
end Go.Proofs.YteakbfbacfhhoaaGreat
namespace Go.Proofs.YteakbfbacfhhoaaGreat
open Go.RowKit Go.Buf
set_option linter.unusedSimpArgs false
set_option linter.unusedVariables false
theorem refopmay_any (k : Nat) (pa : Option Addr) (pl pc : Nat) (n : Int) (t : ByteArray) (da : Option Addr) (dl dc : Nat) (p : List ByteArray) (d : List Dt.Dot) (W : World) (hp : SRow W pa pc p) (hpl : p.length = pl) (hr : VRow W da dc d) (hdl : d.length = dl) :
  Calls Tryz.prog 56 #[opV k pa pl pc n t da dl dc] W fun e w' => e = .returned (.bool (Om.may ⟨k, p, n, t, d⟩)) ∧ Below W.heap.size W w' := by
 by_cases hT : Om.type k = 0
 ·exact refmay_type k pa pl pc n t da dl dc p d W hp hpl hr hdl hT
 cases hm : Om.mayPath p
 ·exact refmay_path k pa pl pc n t da dl dc p d W hp hpl hr hdl _ hT rfl hm
 by_cases ht : t.size ≤ 40
 case neg => exact refmay_text k pa pl pc n t da dl dc p d W hp hpl hr hdl _ hT rfl hm (by omega)
 by_cases hd : dl ≤ 64
 case neg => exact refmay_dots k pa pl pc n t da dl dc p d W hp hpl hr hdl _ hT rfl hm ht (by omega)
 by_cases hk : k = 1
 ·exact refmay_add k pa pl pc n t da dl dc p d W hp hpl hr hdl _ hT rfl hm ht hd hk
 by_cases hn : n = 0
 case neg => exact refmay_n k pa pl pc n t da dl dc p d W hp hpl hr hdl _ hT rfl hm ht hd hk hn
 by_cases hk4 : k = 4
 ·subst hn; subst hk4; exact refmay_drop 4 pa pl pc 0 t da dl dc p d W hp hpl hr hdl _ hT rfl hm ht hd rfl rfl
 by_cases hz : dl = 0
 ·exact refmay_none k pa pl pc n t da dl dc p d W hp hpl hr hdl _ hT rfl hm ht hd hk hk4 hn hz
 ·exact refmay_some k pa pl pc n t da dl dc p d W hp hpl hr hdl _ hT rfl hm ht hd hk hk4 hn (by omega)
abbrev evV (r i s tm : Nat) (k : Nat) (pa : Option Addr) (pl pc : Nat) (n : Int) (t : ByteArray) (da : Option Addr) (dl dc : Nat) : Value := .agg #[.int .u8 (r : Int), .int .u32 (i : Int), .int .u64 (s : Int), .int .u64 (tm : Int), .int .u8 (k : Int), .slice pa pl pc, .int .i64 n, .string t, .slice da dl dc]
theorem evcells {W w1 : World} {c0 c1 c2 c3 c4 c5 c6 c7 c8 : Value} (hb : Below (W.alloc (.cells #[c0, c1, c2, c3, c4, c5, c6, c7, c8] 36)).heap.size (W.alloc (.cells #[c0, c1, c2, c3, c4, c5, c6, c7, c8] 36)) w1) :
  w1.cell? ⟨W.heap.size, 0, none⟩ = some c0 ∧ w1.cell? ⟨W.heap.size, 1, none⟩ = some c1 ∧ w1.cell? ⟨W.heap.size, 2, none⟩ = some c2 ∧ w1.cell? ⟨W.heap.size, 3, none⟩ = some c3 ∧ w1.cell? ⟨W.heap.size, 4, none⟩ = some c4 ∧ w1.cell? ⟨W.heap.size, 5, none⟩ = some c5 ∧ w1.cell? ⟨W.heap.size, 6, none⟩ = some c6 ∧ w1.cell? ⟨W.heap.size, 7, none⟩ = some c7 ∧ w1.cell? ⟨W.heap.size, 8, none⟩ = some c8 :=
 ⟨(hb.cell (p := ⟨W.heap.size, 0, none⟩) (by simp)).trans (by simp), (hb.cell (p := ⟨W.heap.size, 1, none⟩) (by simp)).trans (by simp), (hb.cell (p := ⟨W.heap.size, 2, none⟩) (by simp)).trans (by simp), (hb.cell (p := ⟨W.heap.size, 3, none⟩) (by simp)).trans (by simp), (hb.cell (p := ⟨W.heap.size, 4, none⟩) (by simp)).trans (by simp), (hb.cell (p := ⟨W.heap.size, 5, none⟩) (by simp)).trans (by simp), (hb.cell (p := ⟨W.heap.size, 6, none⟩) (by simp)).trans (by simp), (hb.cell (p := ⟨W.heap.size, 7, none⟩) (by simp)).trans (by simp), (hb.cell (p := ⟨W.heap.size, 8, none⟩) (by simp)).trans (by simp)⟩
set_option maxRecDepth 100000 in
set_option maxHeartbeats 1600000 in
theorem mayEvent_any (r i s tm k : Nat) (hk : k < 256) (pa : Option Addr) (pl pc : Nat) (n : Int) (t : ByteArray) (da : Option Addr) (dl dc : Nat) (p : List ByteArray) (d : List Dt.Dot) (W : World) (hp : SRow W pa pc p) (hpl : p.length = pl) (hr : VRow W da dc d) (hdl : d.length = dl) :
  Calls Tryz.prog 27 #[evV r i s tm k pa pl pc n t da dl dc] W fun e w' => e = .returned (.bool (Om.mayEvent ⟨((r, i), s), tm, ⟨k, p, n, t, d⟩⟩)) ∧ Below W.heap.size W w' := by
 have HP := Lib.hid hp; have HPl := Lib.hid hpl; have HR := Lib.hid hr; have HDl := Lib.hid hdl
 have HBox := Lib.hid (below_box W #[.int .u8 (r : Int), .int .u32 (i : Int), .int .u64 (s : Int), .int .u64 (tm : Int), .int .u8 (k : Int), .slice pa pl pc, .int .i64 n, .string t, .slice da dl dc] 36)
 clear hp hpl hr hdl
 cases hm : Dt.may ((r, i), s)
 ·have HM := Lib.hid hm; clear hm
  go_enter Tryz.func27, Tryz.ntmps27
  go_wp2_with fail
  refine (may_any r i s _).mono ?_
  rintro e w1 ⟨rfl, hb⟩
  have HB := Lib.hid hb; clear hb
  rw [HM.out]
  go_wp2_with fail
  go_ret
  exact ⟨ret_bool (by simp [Om.mayEvent, HM.out]), HBox.out.trans (HB.out.mono HBox.out.size)⟩
 have HM := Lib.hid hm; clear hm
 by_cases h1 : 1 ≤ tm
 case neg =>
  go_enter Tryz.func27, Tryz.ntmps27
  go_wp2_with fail
  refine (may_any r i s _).mono ?_
  rintro e w1 ⟨rfl, hb⟩
  obtain ⟨hc0, hc1, hc2, hc3, hc4, hc5, hc6, hc7, hc8⟩ := evcells hb
  have HB := Lib.hid hb; clear hb
  rw [HM.out]
  go_wp2_with fail
  go_ret
  exact ⟨ret_bool (by simp [Om.mayEvent, h1]), HBox.out.trans (HB.out.mono HBox.out.size)⟩
 by_cases h2 : tm ≤ 1099511627776
 case neg =>
  go_enter Tryz.func27, Tryz.ntmps27
  go_wp2_with fail
  refine (may_any r i s _).mono ?_
  rintro e w1 ⟨rfl, hb⟩
  obtain ⟨hc0, hc1, hc2, hc3, hc4, hc5, hc6, hc7, hc8⟩ := evcells hb
  have HB := Lib.hid hb; clear hb
  rw [HM.out]
  go_wp2_with fail
  go_ret
  exact ⟨ret_bool (by simp [Om.mayEvent, h2]), HBox.out.trans (HB.out.mono HBox.out.size)⟩
 go_enter Tryz.func27, Tryz.ntmps27
 go_wp2_with fail
 refine (may_any r i s _).mono ?_
 rintro e w1 ⟨rfl, hb⟩
 obtain ⟨hc0, hc1, hc2, hc3, hc4, hc5, hc6, hc7, hc8⟩ := evcells hb
 have HB := Lib.hid (HBox.out.trans (hb.mono HBox.out.size)); clear hb
 rw [HM.out]
 go_wp2_with fail
 refine (opmay_any k hk pa pl pc n t da dl dc p d _ (HP.out.below HB.out) HPl.out (HR.out.below HB.out) HDl.out).mono ?_
 rintro e w2 ⟨rfl, hb⟩
 have HB2 := Lib.hid (HB.out.trans (hb.mono HB.out.size)); clear hb
 go_wp2_with fail
 go_ret
 exact ⟨ret_bool (by simp [Om.mayEvent, HM.out, h1, h2]), HB2.out⟩
set_option maxRecDepth 100000 in
set_option maxHeartbeats 1600000 in
theorem refmayEvent_any (r i s tm k : Nat) (hk : k < 256) (pa : Option Addr) (pl pc : Nat) (n : Int) (t : ByteArray) (da : Option Addr) (dl dc : Nat) (p : List ByteArray) (d : List Dt.Dot) (W : World) (hp : SRow W pa pc p) (hpl : p.length = pl) (hr : VRow W da dc d) (hdl : d.length = dl) :
  Calls Tryz.prog 32 #[evV r i s tm k pa pl pc n t da dl dc] W fun e w' => e = .returned (.bool (Om.mayEvent ⟨((r, i), s), tm, ⟨k, p, n, t, d⟩⟩)) ∧ Below W.heap.size W w' := by
 have HP := Lib.hid hp; have HPl := Lib.hid hpl; have HR := Lib.hid hr; have HDl := Lib.hid hdl
 have HBox := Lib.hid (below_box W #[.int .u8 (r : Int), .int .u32 (i : Int), .int .u64 (s : Int), .int .u64 (tm : Int), .int .u8 (k : Int), .slice pa pl pc, .int .i64 n, .string t, .slice da dl dc] 36)
 clear hp hpl hr hdl
 cases hm : Dt.may ((r, i), s)
 ·have HM := Lib.hid hm; clear hm
  go_enter Tryz.func32, Tryz.ntmps32
  go_wp2_with fail
  refine (refmay_any r i s _).mono ?_
  rintro e w1 ⟨rfl, hb⟩
  have HB := Lib.hid hb; clear hb
  rw [HM.out]
  go_wp2_with fail
  go_ret
  exact ⟨ret_bool (by simp [Om.mayEvent, HM.out]), HBox.out.trans (HB.out.mono HBox.out.size)⟩
 have HM := Lib.hid hm; clear hm
 by_cases h1 : 1 ≤ tm
 case neg =>
  go_enter Tryz.func32, Tryz.ntmps32
  go_wp2_with fail
  refine (refmay_any r i s _).mono ?_
  rintro e w1 ⟨rfl, hb⟩
  obtain ⟨hc0, hc1, hc2, hc3, hc4, hc5, hc6, hc7, hc8⟩ := evcells hb
  have HB := Lib.hid hb; clear hb
  rw [HM.out]
  go_wp2_with fail
  go_ret
  exact ⟨ret_bool (by simp [Om.mayEvent, h1]), HBox.out.trans (HB.out.mono HBox.out.size)⟩
 by_cases h2 : tm ≤ 1099511627776
 case neg =>
  go_enter Tryz.func32, Tryz.ntmps32
  go_wp2_with fail
  refine (refmay_any r i s _).mono ?_
  rintro e w1 ⟨rfl, hb⟩
  obtain ⟨hc0, hc1, hc2, hc3, hc4, hc5, hc6, hc7, hc8⟩ := evcells hb
  have HB := Lib.hid hb; clear hb
  rw [HM.out]
  go_wp2_with fail
  go_ret
  exact ⟨ret_bool (by simp [Om.mayEvent, h2]), HBox.out.trans (HB.out.mono HBox.out.size)⟩
 go_enter Tryz.func32, Tryz.ntmps32
 go_wp2_with fail
 refine (refmay_any r i s _).mono ?_
 rintro e w1 ⟨rfl, hb⟩
 obtain ⟨hc0, hc1, hc2, hc3, hc4, hc5, hc6, hc7, hc8⟩ := evcells hb
 have HB := Lib.hid (HBox.out.trans (hb.mono HBox.out.size)); clear hb
 rw [HM.out]
 go_wp2_with fail
 refine (refopmay_any k pa pl pc n t da dl dc p d _ (HP.out.below HB.out) HPl.out (HR.out.below HB.out) HDl.out).mono ?_
 rintro e w2 ⟨rfl, hb⟩
 have HB2 := Lib.hid (HB.out.trans (hb.mono HB.out.size)); clear hb
 go_wp2_with fail
 go_ret
 exact ⟨ret_bool (by simp [Om.mayEvent, HM.out, h1, h2]), HB2.out⟩
end Go.Proofs.YteakbfbacfhhoaaGreat
namespace Go.Proofs.YteakbfbacfhhoaaGreat
open Go.RowKit Go.Buf Go.Maps
set_option linter.unusedSimpArgs false
set_option linter.unusedVariables false
theorem str_ne {d e : ByteArray} (h : d ≠ e) : (d.toList == e.toList) = false := by
 rw [ByteArray.toList_eq, ByteArray.toList_eq]
 simp only [beq_eq_false_iff_ne, ne_eq]
 intro g
 exact h (ByteArray.ext (Array.toList_inj.1 g))
theorem dot_neO {d e : Dt.Dot} (h : d ≠ e) : d.1.1 ≠ e.1.1 ∨ (d.1.1 = e.1.1 ∧ d.1.2 ≠ e.1.2) ∨ (d.1.1 = e.1.1 ∧ d.1.2 = e.1.2 ∧ d.2 ≠ e.2) := by
 rcases d with ⟨⟨a, b⟩, c⟩; rcases e with ⟨⟨x, y⟩, z⟩
 simp only [ne_eq, Prod.mk.injEq] at *
 omega
theorem take_eq_succO {la lb : List Dt.Dot} {k : Nat} {d : Dt.Dot} (h : la.take k = lb.take k) (ha : la[k]? = some d) (hb : lb[k]? = some d) : la.take (k + 1) = lb.take (k + 1) := by
 obtain ⟨h1, rfl⟩ := List.getElem?_eq_some_iff.1 ha
 obtain ⟨h2, e⟩ := List.getElem?_eq_some_iff.1 hb
 rw [List.take_succ_eq_append_getElem h1, List.take_succ_eq_append_getElem h2, h, e]
set_option maxRecDepth 100000 in
set_option maxHeartbeats 1600000 in
theorem equalD_any (a : Option Addr) (n cap : Nat) (la : List Dt.Dot) (c : Option Addr) (m capc : Nat) (lb : List Dt.Dot) (W : World) (hr : VRow W a cap la) (hl : la.length = n) (hs : VRow W c capc lb) (hm : lb.length = m) :
  Calls Tryz.prog 25 #[.slice a n cap, .slice c m capc] W fun e w' => e = .returned (.bool (decide (la = lb))) ∧ Below W.heap.size W w' := by
 have hle := hr.le
 have hcap := hr.cap
 rw [hl] at hle
 have HR := Lib.hid hr; have HL := Lib.hid hl; have HS := Lib.hid hs; have HM := Lib.hid hm
 clear hr hl hs hm
 by_cases hnm : n = m
 ·subst hnm
  go_enter Tryz.func25, Tryz.ntmps25
  go_wp2
  go_loopw [5, 13] (fun _ i wr => ∃ k : Nat, k ≤ n ∧ i = .int .i64 k ∧ la.take k = lb.take k ∧ Below W.heap.size W wr) (fun _ i _ => n - (intOf i).toNat)
  case atStart => exact ⟨0, Nat.zero_le _, rfl, rfl, Below.refl _ _⟩
  case round =>
   obtain ⟨k, hk, rfl, htk, hbel⟩ := hrel
   have HT := Lib.hid htk; have HBel := Lib.hid hbel; clear htk hbel
   by_cases hlt : k < n
   ·obtain ⟨d, hd⟩ := getD_some (l := la) (i := k) (by rw [HL.out]; exact hlt)
    obtain ⟨e, he⟩ := getD_some (l := lb) (i := k) (by rw [HM.out]; exact hlt)
    obtain ⟨b1, o1, rfl, hb1, hc1⟩ := HR.out.at (by rw [HL.out]; omega)
    obtain ⟨b2, o2, rfl, hb2, hc2⟩ := HS.out.at (by rw [HM.out]; omega)
    obtain ⟨g0, g1, g2⟩ := hc1 k d hd
    obtain ⟨g3, g4, g5⟩ := hc2 k e he
    have q0 := (HBel.out.cell (p := ⟨b1, o1 + k * 3, none⟩) hb1).trans g0
    have q1 := (HBel.out.cell (p := ⟨b1, o1 + k * 3 + 1, none⟩) hb1).trans g1
    have q2 := (HBel.out.cell (p := ⟨b1, o1 + k * 3 + 2, none⟩) hb1).trans g2
    have q3 := (HBel.out.cell (p := ⟨b2, o2 + k * 3, none⟩) hb2).trans g3
    have q4 := (HBel.out.cell (p := ⟨b2, o2 + k * 3 + 1, none⟩) hb2).trans g4
    have q5 := (HBel.out.cell (p := ⟨b2, o2 + k * 3 + 2, none⟩) hb2).trans g5
    have i0 : (0 : Int) ≤ (k : Int) := by omega
    have i1 : (k : Int) < (n : Int) := by omega
    have Hd := Lib.hid hd; have He := Lib.hid he
    clear hc1 hc2 g0 g1 g2 g3 g4 g5 hd he
    by_cases hde : d = e
    ·subst hde
     have Hs := Lib.hid (take_eq_succO HT.out Hd.out He.out)
     obtain ⟨⟨r, i⟩, s⟩ := d
     simp only at q0 q1 q2 q3 q4 q5
     go_wp2
     go_quiet (fail)
     go_wp2
     clear q0 q1 q2 q3 q4 q5
     go_roundw
     case rel => exact ⟨k + 1, by omega, by go_num, Hs.out, below_drewN HBel.out _⟩
     case measure => simp [intOf]; omega
    ·have hfin : decide (la = lb) = false := decide_eq_false fun g => hde (by have h1 := Hd.out; have h2 := He.out; rw [g, h2] at h1; exact (Option.some.inj h1).symm)
     have Hfin := Lib.hid hfin; clear hfin
     have hne := dot_neO hde
     obtain ⟨⟨r, i⟩, s⟩ := d
     obtain ⟨⟨r', i'⟩, s'⟩ := e
     simp only at q0 q1 q2 q3 q4 q5 hne
     clear hde
     rcases hne with h1 | ⟨rfl, h1⟩ | ⟨rfl, rfl, h1⟩
     ·have d1 : ((r : Int) == (r' : Int)) = false := by simp; omega
      clear h1
      go_wp2
      go_quiet (fail)
      go_wp2
      go_ret
      exact ⟨ret_bool Hfin.out.symm, below_drewN HBel.out _⟩
     ·have d1 : ((i : Int) == (i' : Int)) = false := by simp; omega
      clear h1
      go_wp2
      go_quiet (fail)
      go_wp2
      go_ret
      exact ⟨ret_bool Hfin.out.symm, below_drewN HBel.out _⟩
     ·have d1 : ((s : Int) == (s' : Int)) = false := by simp; omega
      clear h1
      go_wp2
      go_quiet (fail)
      go_wp2
      go_ret
      exact ⟨ret_bool Hfin.out.symm, below_drewN HBel.out _⟩
   ·have hfin : decide (la = lb) = true := decide_eq_true (by have := HT.out; rwa [List.take_of_length_le (by rw [HL.out]; omega), List.take_of_length_le (by rw [HM.out]; omega)] at this)
    have Hfin := Lib.hid hfin; clear hfin
    go_wp2
    go_ret
    exact ⟨ret_bool Hfin.out.symm, HBel.out⟩
 ·have hfin : decide (la = lb) = false := decide_eq_false fun g => hnm (by rw [← HL.out, ← HM.out, g])
  have Hfin := Lib.hid hfin; clear hfin
  have d1 : ((n : Int) == (m : Int)) = false := by simp; omega
  go_enter Tryz.func25, Tryz.ntmps25
  go_wp2
  go_ret
  exact ⟨ret_bool Hfin.out.symm, Below.refl _ _⟩
end Go.Proofs.YteakbfbacfhhoaaGreat
namespace Go.Proofs.YteakbfbacfhhoaaGreat
open Go.RowKit Go.Buf Go.Maps
set_option linter.unusedSimpArgs false
set_option linter.unusedVariables false
theorem litS1 (w : World) (s : ByteArray) (hs : s.size ≤ 100) : SRow (w.alloc (.cells #[.string s] 9)) (some ⟨w.heap.size, 0, none⟩) 1 [s] := by
 refine ⟨by simp, by omega, by simp; omega, (fun e => by cases e), fun i e he => ⟨_, rfl, ?_⟩⟩
 have hi : i < 1 := by have := (List.getElem?_eq_some_iff.1 he).1; simpa using this
 obtain rfl : i = 0 := by omega
 simp at he; subst he
 simp [Addr.add]
def Om.small (o : Om.O) : Prop := (∀ s ∈ o.path, s.size ≤ 100) ∧ o.path.length ≤ 20 ∧ o.text.size ≤ 200 ∧ o.dots.length ≤ 100
def GreatR (o : Om.O) (e : Ending) : Prop := ∃ b : Bool, e = .returned (.bool b) ∧ (b = false → Om.small o)
end Go.Proofs.YteakbfbacfhhoaaGreat
