import Derived.Test.YtiiidmphmojlgaaGreatZOp2
import Derived.Laws.EntriesVeiled
import Derived.Test.YtiiidmphmojlgaaGreatZDot4
import Derived.Test.YtiiidmphmojlgaaGreatZCmtMath
import Derived.Test.YtiiidmphmojlgaaGreatZBuf
namespace Go.Proofs.YtiiidmphmojlgaaGreat
open Go.RowKit Go.Buf
set_option linter.unusedSimpArgs false
abbrev opV (k : Nat) (pa : Option Addr) (pl pc : Nat) (n : Int) (t : ByteArray) (da : Option Addr) (dl dc : Nat) : Value := .agg #[.int .u8 (k : Int), .slice pa pl pc, .int .i64 n, .string t, .slice da dl dc]
theorem opcells {W w1 : World} {c0 c1 c2 c3 c4 : Value} (hb : Below (W.alloc (.cells #[c0, c1, c2, c3, c4] 32)).heap.size (W.alloc (.cells #[c0, c1, c2, c3, c4] 32)) w1) :
  w1.cell? ⟨W.heap.size, 0, none⟩ = some c0 ∧ w1.cell? ⟨W.heap.size, 1, none⟩ = some c1 ∧ w1.cell? ⟨W.heap.size, 2, none⟩ = some c2 ∧ w1.cell? ⟨W.heap.size, 3, none⟩ = some c3 ∧ w1.cell? ⟨W.heap.size, 4, none⟩ = some c4 :=
 ⟨(hb.cell (p := ⟨W.heap.size, 0, none⟩) (by simp)).trans (by simp), (hb.cell (p := ⟨W.heap.size, 1, none⟩) (by simp)).trans (by simp), (hb.cell (p := ⟨W.heap.size, 2, none⟩) (by simp)).trans (by simp), (hb.cell (p := ⟨W.heap.size, 3, none⟩) (by simp)).trans (by simp), (hb.cell (p := ⟨W.heap.size, 4, none⟩) (by simp)).trans (by simp)⟩
theorem below_box (W : World) (c : Array Value) (t : TypeId) : Below W.heap.size W (W.alloc (.cells c t)) := (Below.refl _ _).alloc (Nat.le_refl _) _
theorem str_nil (t : ByteArray) : t.toList = [] ↔ t.size = 0 := by
 rw [ByteArray.toList_eq]
 constructor
 ·intro h; have := congrArg List.length h; simpa using this
 ·intro h; have : t.data.size = 0 := h; simp; exact Array.eq_empty_of_size_eq_zero this
set_option maxHeartbeats 800000 in
theorem mayNever_any (v : Value) (w : World) (c : Array Value) (hv : v = .agg c) (hc : c.size = 5) : Calls Tryz.prog 137 #[v] w fun e w' => e = .returned (.bool false) ∧ Below w.heap.size w w' := by
 subst hv
 obtain ⟨c0, c1, c2, c3, c4, rfl⟩ : ∃ c0 c1 c2 c3 c4, c = #[c0, c1, c2, c3, c4] := by
  obtain ⟨l⟩ := c
  match l, hc with
  | [c0, c1, c2, c3, c4], _ => exact ⟨_, _, _, _, _, rfl⟩
 clear hc
 go_enter Tryz.func137, Tryz.ntmps137
 go_wp2_with fail
 go_ret
 exact ⟨rfl, below_box _ _ _⟩
set_option maxHeartbeats 800000 in
theorem mayAdd_any (k : Nat) (pa : Option Addr) (pl pc : Nat) (n : Int) (t : ByteArray) (da : Option Addr) (dl dc : Nat) (p : List ByteArray) (d : List Dt.Dot) (w : World) (hdl : d.length = dl) :
  Calls Tryz.prog 138 #[opV k pa pl pc n t da dl dc] w fun e w' => e = .returned (.bool (Om.mayAdd ⟨k, p, n, t, d⟩)) ∧ Below w.heap.size w w' := by
 have HD := Lib.hid hdl; clear hdl
 go_enter Tryz.func138, Tryz.ntmps138
 go_wp2_with fail
 all_goals
  go_ret
  refine ⟨ret_bool ?_, below_box _ _ _⟩
  have hD := HD.out
  try simp only [str_nil] at *
  rw [Bool.eq_iff_iff]
  simp [Om.mayAdd, Om.mayText, -ByteArray.size_eq_zero_iff, -List.length_eq_zero_iff]
  try omega
set_option maxHeartbeats 800000 in
theorem mayText_any (k : Nat) (pa : Option Addr) (pl pc : Nat) (n : Int) (t : ByteArray) (da : Option Addr) (dl dc : Nat) (p : List ByteArray) (d : List Dt.Dot) (w : World) (hdl : d.length = dl) :
  Calls Tryz.prog 139 #[opV k pa pl pc n t da dl dc] w fun e w' => e = .returned (.bool (Om.mayText ⟨k, p, n, t, d⟩)) ∧ Below w.heap.size w w' := by
 have HD := Lib.hid hdl; clear hdl
 go_enter Tryz.func139, Tryz.ntmps139
 go_wp2_with fail
 all_goals
  go_ret
  refine ⟨ret_bool ?_, below_box _ _ _⟩
  have hD := HD.out
  try simp only [str_nil] at *
  rw [Bool.eq_iff_iff]
  simp [Om.mayAdd, Om.mayText, -ByteArray.size_eq_zero_iff, -List.length_eq_zero_iff]
  try omega
set_option maxHeartbeats 800000 in
theorem mayDrop_any (k : Nat) (pa : Option Addr) (pl pc : Nat) (n : Int) (t : ByteArray) (da : Option Addr) (dl dc : Nat) (p : List ByteArray) (d : List Dt.Dot) (w : World) (hr : VRow w da dc d) (hdl : d.length = dl) :
  Calls Tryz.prog 140 #[opV k pa pl pc n t da dl dc] w fun e w' => e = .returned (.bool (Om.mayDrop ⟨k, p, n, t, d⟩)) ∧ Below w.heap.size w w' := by
 have HD := Lib.hid hdl; have HR := Lib.hid hr; clear hdl hr
 by_cases h1 : n = 0
 ·by_cases h2 : t.size ≤ 40
  ·go_enter Tryz.func140, Tryz.ntmps140
   go_wp2_with fail
   refine (mayDrops_any da dl dc d _ (HR.out.below (below_box _ _ _)) HD.out).mono ?_
   rintro e w1 ⟨rfl, hb⟩
   go_wp2_with fail
   go_ret
   exact ⟨ret_bool (by simp [Om.mayDrop, h1, h2]), (below_box _ _ _).trans (hb.mono (by simp))⟩
  ·go_enter Tryz.func140, Tryz.ntmps140
   go_wp2_with fail
   go_ret
   exact ⟨ret_bool (by simp [Om.mayDrop, h2]), below_box _ _ _⟩
 ·have d1 : (n == 0) = false := by simpa using h1
  go_enter Tryz.func140, Tryz.ntmps140
  go_wp2_with fail
  go_ret
  exact ⟨ret_bool (by simp [Om.mayDrop, h1]), below_box _ _ _⟩
def askF (k : Nat) : Nat := if k = 1 then 138 else if k = 2 then 139 else if k = 3 then 139 else if k = 4 then 140 else if k = 5 then 139 else 137
theorem asked_any (k : Nat) (pa : Option Addr) (pl pc : Nat) (n : Int) (t : ByteArray) (da : Option Addr) (dl dc : Nat) (p : List ByteArray) (d : List Dt.Dot) (w : World) (hr : VRow w da dc d) (hdl : d.length = dl) :
  Calls Tryz.prog (askF k) #[opV k pa pl pc n t da dl dc] w fun e w' => e = .returned (.bool (Om.asked ⟨k, p, n, t, d⟩)) ∧ Below w.heap.size w w' := by
 unfold askF Om.asked
 by_cases h1 : k = 1
 ·simp only [h1, if_pos]; exact mayAdd_any _ _ _ _ _ _ _ _ _ _ _ _ hdl
 by_cases h2 : k = 2
 ·simp only [h1, h2, if_pos, if_false]; exact mayText_any _ _ _ _ _ _ _ _ _ _ _ _ hdl
 by_cases h3 : k = 3
 ·simp only [h1, h2, h3, if_pos, if_false]; exact mayText_any _ _ _ _ _ _ _ _ _ _ _ _ hdl
 by_cases h4 : k = 4
 ·simp only [h1, h2, h3, h4, if_pos, if_false]; exact mayDrop_any _ _ _ _ _ _ _ _ _ _ _ _ hr hdl
 by_cases h5 : k = 5
 ·simp only [h1, h2, h3, h4, h5, if_pos, if_false]; exact mayText_any _ _ _ _ _ _ _ _ _ _ _ _ hdl
 ·simp only [h1, h2, h3, h4, h5, if_false]; exact mayNever_any _ _ _ rfl rfl
def traitV (k : Nat) : Value := .agg #[.int .u8 (Om.type k : Nat), .func (.func (askF k)) #[] #[]]
abbrev kindsC : Array Value := #[.int .u8 0, .func (.func 137) #[] #[], .int .u8 1, .func (.func 138) #[] #[], .int .u8 2, .func (.func 139) #[] #[], .int .u8 3, .func (.func 139) #[] #[], .int .u8 3, .func (.func 140) #[] #[], .int .u8 4, .func (.func 139) #[] #[]]
set_option maxHeartbeats 800000 in
theorem kinds_any (w : World) : Calls Tryz.prog 133 #[] w fun e w' => e = .returned (.agg kindsC) ∧ Below w.heap.size w w' := by
 go_enter Tryz.func133, Tryz.ntmps133
 go_wp2_with fail
 exact bodyPost_ret (v := .agg kindsC) (by simp [results, Tryz.results133, go_sem]) rfl ⟨rfl, below_box _ _ _⟩
theorem set2 {B : Nat} {w w1 : World} (h : Below B w w1) {b : Nat} (hb : B ≤ b) (x y : Value) : Below B w ((w1.setCell ⟨b, 0, none⟩ x).setCell ⟨b, 1, none⟩ y) := (h.setCell hb _).setCell hb _
set_option maxHeartbeats 3200000 in
theorem traitsOf_any (k : Nat) (h256 : k < 256) (w : World) : Calls Tryz.prog 123 #[.int .u8 (k : Int)] w fun e w' => e = .returned (traitV k) ∧ Below w.heap.size w w' := by
 by_cases hk : k < 6
 ·have hk' : k = 0 ∨ k = 1 ∨ k = 2 ∨ k = 3 ∨ k = 4 ∨ k = 5 := by omega
  rcases hk' with rfl | rfl | rfl | rfl | rfl | rfl
  all_goals
   go_enter Tryz.func123, Tryz.ntmps123
   go_wp2_with fail
   refine (kinds_any _).mono ?_
   rintro e w1 ⟨rfl, hb⟩
   obtain ⟨hc, hf⟩ := bcell hb
   have hz : w.heap.size < w1.heap.size := by have := hb.size; simp at this; omega
   have hb0 : Below w.heap.size w w1 := (below_box _ _ _).trans (hb.mono (by simp))
   have Hb0 := Lib.hid hb0; clear hb0
   go_wp2_with fail
   refine bodyPost_ret (by simp [results, Tryz.results123, go_sem, hc, hz]; rfl) rfl ⟨rfl, ?_⟩
   exact (set2 Hb0.out (Nat.le_refl _) _ _).alloc (by simp; exact Hb0.out.size) _
 ·have ht : traitV k = .agg #[.int .u8 0, .func (.func 137) #[] #[]] := by
   unfold traitV askF Om.type
   simp only [show ¬ k = 1 by omega, show ¬ k = 2 by omega, show ¬ k = 3 by omega, show ¬ k = 4 by omega, show ¬ k = 5 by omega, if_false]; rfl
  have HT := Lib.hid ht; clear ht
  have hk6 : (6 : Int) ≤ (k : Int) := by omega
  have hw64 : wrap64 (k : Int) = (k : Int) := by simp only [wrap64]; omega
  go_enter Tryz.func123, Tryz.ntmps123
  go_wp2_with fail
  refine (kinds_any _).mono ?_
  rintro e w1 ⟨rfl, hb⟩
  obtain ⟨hc, hf⟩ := bcell hb
  have hz : w.heap.size < w1.heap.size := by have := hb.size; simp at this; omega
  have hb0 : Below w.heap.size w w1 := (below_box _ _ _).trans (hb.mono (by simp))
  have Hb0 := Lib.hid hb0; clear hb0
  go_wp2_with fail
  refine bodyPost_ret (by simp [results, Tryz.results123, go_sem, hc, hz]; rfl) rfl ⟨by rw [HT.out], ?_⟩
  exact (set2 Hb0.out (Nat.le_refl _) _ _).alloc (by simp; exact Hb0.out.size) _
theorem field_may (u f : Value) (w : World) : Sem.run Tryz.prog (Instr.field 160 (.agg #[u, f]) 1) w = .ok f w := by kernel_rfl
end Go.Proofs.YtiiidmphmojlgaaGreat
namespace Go.Proofs.YtiiidmphmojlgaaGreat
open Go.RowKit Go.Buf
set_option linter.unusedSimpArgs false
theorem call_ask (k : Nat) (c : Array Value) (w : World) : Sem.run Tryz.prog (callFunc (askF k) c) w = .ok (.enter (askF k) c) w := by
 unfold askF
 repeat' split
 all_goals go_simp
set_option maxRecDepth 100000 in
set_option maxHeartbeats 3200000 in
theorem opmay_any (k : Nat) (hk : k < 256) (pa : Option Addr) (pl pc : Nat) (n : Int) (t : ByteArray) (da : Option Addr) (dl dc : Nat) (p : List ByteArray) (d : List Dt.Dot) (W : World) (hp : SRow W pa pc p) (hpl : p.length = pl) (hr : VRow W da dc d) (hdl : d.length = dl) :
  Calls Tryz.prog 100 #[opV k pa pl pc n t da dl dc] W fun e w' => e = .returned (.bool (Om.may ⟨k, p, n, t, d⟩)) ∧ Below W.heap.size W w' := by
 have HP := Lib.hid hp; have HPl := Lib.hid hpl; have HR := Lib.hid hr; have HDl := Lib.hid hdl
 clear hp hpl hr hdl
 cases hm : Om.mayPath p
 ·have HMp := Lib.hid hm; clear hm
  go_enter Tryz.func100, Tryz.ntmps100
  go_wp2_with fail
  have HB := Lib.hid ((Below.refl _ _).drew : Below (W.alloc (.cells #[.int .u8 (k : Int), .slice pa pl pc, .int .i64 n, .string t, .slice da dl dc] 32)).heap.size (W.alloc (.cells #[.int .u8 (k : Int), .slice pa pl pc, .int .i64 n, .string t, .slice da dl dc] 32)) (W.alloc (.cells #[.int .u8 (k : Int), .slice pa pl pc, .int .i64 n, .string t, .slice da dl dc] 32)).drew)
  refine Reg.region_list (by kernel_rfl) [fun v _ => v = .pointer (some ⟨W.heap.size, 1, none⟩), fun v _ => v = .slice pa pl pc, fun v _ => v = .bool false, fun v _ => v = .bool false, fun v _ => v = undef, fun v _ => v = undef, fun v _ => v = undef, fun v _ => v = undef, fun v _ => v = undef, fun v _ => v = undef, fun v _ => v = .bool false, fun v _ => v = .bool false] (by kernel_rfl) ?_ ?_ ?_
  ·refine ⟨k4, k4, k4, k4, k4, k4, k4, k4, k4, k4, k4, k4, trivial⟩
  ·refine ⟨?_, ?_, ?_, ?_, ?_, ?_, ?_, ?_, ?_, ?_, ?_, ?_, trivial⟩
   ·intro ev w hc hf hg hfix hdep hbel
    have e1 : ev (.tmp 1) = _ := hfix 1 (by decide)
    exact okb trivial rfl (by go_simp)
   ·intro ev w hc hf hg hfix hdep hbel
    have e3 : ev (.tmp 3) = _ := hdep 0 (by decide)
    have hc := opcells (HB.out.trans (hbel.mono HB.out.size))
    obtain ⟨hc0, hc1, hc2, hc3, hc4⟩ := hc
    exact okb trivial rfl (by go_simp)
   ·intro ev w hc hf hg hfix hdep hbel
    have e4 : ev (.tmp 4) = _ := hdep 1 (by decide)
    refine Or.inl ⟨trivial, Or.inr ⟨122, #[.slice pa pl pc], w, by go_simp, ?_⟩⟩
    refine (mayPath_any pa pl pc p w ((HP.out.below (below_box _ _ _)).below (HB.out.trans (hbel.mono HB.out.size))) HPl.out).mono ?_
    rintro e w1 ⟨rfl, rfl⟩
    exact ⟨_, rfl, by rw [HMp.out], Below.refl _ _⟩
   ·intro ev w hc hf hg hfix hdep hbel
    have e5 : ev (.tmp 5) = _ := hdep 2 (by decide)
    exact okb trivial rfl (by go_simp)
   ·intro ev w hc hf hg hfix hdep hbel
    have fg : ev (.tmp 6) = _ := hdep 3 (by decide)
    exact Or.inr ⟨Or.inl fg, rfl⟩
   ·intro ev w hc hf hg hfix hdep hbel
    have fg : ev (.tmp 6) = _ := hdep 3 (by decide)
    exact Or.inr ⟨Or.inl fg, rfl⟩
   ·intro ev w hc hf hg hfix hdep hbel
    have fg : ev (.tmp 6) = _ := hdep 3 (by decide)
    exact Or.inr ⟨Or.inl fg, rfl⟩
   ·intro ev w hc hf hg hfix hdep hbel
    have fg : ev (.tmp 6) = _ := hdep 3 (by decide)
    exact Or.inr ⟨Or.inl fg, rfl⟩
   ·intro ev w hc hf hg hfix hdep hbel
    have fg : ev (.tmp 6) = _ := hdep 3 (by decide)
    exact Or.inr ⟨Or.inl fg, rfl⟩
   ·intro ev w hc hf hg hfix hdep hbel
    have fg : ev (.tmp 6) = _ := hdep 3 (by decide)
    exact Or.inr ⟨Or.inl fg, rfl⟩
   ·intro ev w hc hf hg hfix hdep hbel
    have e6 : ev (.tmp 6) = _ := hdep 3 (by decide)
    have e12 : ev (.tmp 12) = _ := hdep 9 (by decide)
    exact okb trivial rfl (by go_simp)
   ·intro ev w hc hf hg hfix hdep hbel
    have e13 : ev (.tmp 13) = _ := hdep 10 (by decide)
    exact okb trivial rfl (by go_simp)
  ·intro v w2 hv hb2
   have r0 : v 0 = _ := hv 0 (by decide)
   have r1 : v 1 = _ := hv 1 (by decide)
   have r2 : v 2 = _ := hv 2 (by decide)
   have r3 : v 3 = _ := hv 3 (by decide)
   have r4 : v 4 = _ := hv 4 (by decide)
   have r5 : v 5 = _ := hv 5 (by decide)
   have r6 : v 6 = _ := hv 6 (by decide)
   have r7 : v 7 = _ := hv 7 (by decide)
   have r8 : v 8 = _ := hv 8 (by decide)
   have r9 : v 9 = _ := hv 9 (by decide)
   have r10 : v 10 = _ := hv 10 (by decide)
   have r11 : v 11 = _ := hv 11 (by decide)
   simp only [Reg.putAll, Act.put, List.setIfInBounds_toArray, List.set_cons_zero, List.set_cons_succ, r0, r1, r2, r3, r4, r5, r6, r7, r8, r9, r10, r11]
   clear r0 r1 r2 r3 r4 r5 r6 r7 r8 r9 r10 r11 hv
   have HBw := Lib.hid ((below_box W #[.int .u8 (k : Int), .slice pa pl pc, .int .i64 n, .string t, .slice da dl dc] 32).trans (hb2.mono (by simp))); clear hb2
   go_wp2_with fail
   go_ret
   exact ⟨ret_bool (by simp [Om.may, HMp.out]), HBw.out⟩
 ·have HMp := Lib.hid hm; clear hm
  go_enter Tryz.func100, Tryz.ntmps100
  go_wp2_with fail
  have HB := Lib.hid ((Below.refl _ _).drew : Below (W.alloc (.cells #[.int .u8 (k : Int), .slice pa pl pc, .int .i64 n, .string t, .slice da dl dc] 32)).heap.size (W.alloc (.cells #[.int .u8 (k : Int), .slice pa pl pc, .int .i64 n, .string t, .slice da dl dc] 32)) (W.alloc (.cells #[.int .u8 (k : Int), .slice pa pl pc, .int .i64 n, .string t, .slice da dl dc] 32)).drew)
  refine Reg.region_list (by kernel_rfl) [fun v _ => v = .pointer (some ⟨W.heap.size, 1, none⟩), fun v _ => v = .slice pa pl pc, fun v _ => v = .bool true, fun v _ => v = .bool true, fun v _ => v = .pointer (some ⟨W.heap.size, 0, none⟩), fun v _ => v = .int .u8 (k : Int), fun v _ => v = .agg #[.int .u8 (Om.type k : Nat), .func (.func (askF k)) #[] #[]], fun v _ => v = .func (.func (askF k)) #[] #[], fun v _ => v = .agg #[.int .u8 (k : Int), .slice pa pl pc, .int .i64 n, .string t, .slice da dl dc], fun v _ => v = .bool (Om.asked ⟨k, p, n, t, d⟩), fun v _ => v = .bool (Om.asked ⟨k, p, n, t, d⟩), fun v _ => v = .bool (Om.asked ⟨k, p, n, t, d⟩)] (by kernel_rfl) ?_ ?_ ?_
  ·refine ⟨k4, k4, k4, k4, k4, k4, k4, k4, k4, k4, k4, k4, trivial⟩
  ·refine ⟨?_, ?_, ?_, ?_, ?_, ?_, ?_, ?_, ?_, ?_, ?_, ?_, trivial⟩
   ·intro ev w hc hf hg hfix hdep hbel
    have e1 : ev (.tmp 1) = _ := hfix 1 (by decide)
    exact okb trivial rfl (by go_simp)
   ·intro ev w hc hf hg hfix hdep hbel
    have e3 : ev (.tmp 3) = _ := hdep 0 (by decide)
    have hc := opcells (HB.out.trans (hbel.mono HB.out.size))
    obtain ⟨hc0, hc1, hc2, hc3, hc4⟩ := hc
    exact okb trivial rfl (by go_simp)
   ·intro ev w hc hf hg hfix hdep hbel
    have e4 : ev (.tmp 4) = _ := hdep 1 (by decide)
    refine Or.inl ⟨trivial, Or.inr ⟨122, #[.slice pa pl pc], w, by go_simp, ?_⟩⟩
    refine (mayPath_any pa pl pc p w ((HP.out.below (below_box _ _ _)).below (HB.out.trans (hbel.mono HB.out.size))) HPl.out).mono ?_
    rintro e w1 ⟨rfl, rfl⟩
    exact ⟨_, rfl, by rw [HMp.out], Below.refl _ _⟩
   ·intro ev w hc hf hg hfix hdep hbel
    have e5 : ev (.tmp 5) = _ := hdep 2 (by decide)
    exact okb trivial rfl (by go_simp)
   ·intro ev w hc hf hg hfix hdep hbel
    have fg : ev (.tmp 6) = _ := hdep 3 (by decide)
    have e1 : ev (.tmp 1) = _ := hfix 1 (by decide)
    exact okb fg rfl (by go_simp)
   ·intro ev w hc hf hg hfix hdep hbel
    have fg : ev (.tmp 6) = _ := hdep 3 (by decide)
    have e7 : ev (.tmp 7) = _ := hdep 4 (by decide)
    have hc := opcells (HB.out.trans (hbel.mono HB.out.size))
    obtain ⟨hc0, hc1, hc2, hc3, hc4⟩ := hc
    exact okb fg rfl (by go_simp)
   ·intro ev w hc hf hg hfix hdep hbel
    have fg : ev (.tmp 6) = _ := hdep 3 (by decide)
    have e8 : ev (.tmp 8) = _ := hdep 5 (by decide)
    refine Or.inl ⟨fg, Or.inr ⟨123, #[.int .u8 (k : Int)], w, by go_simp, ?_⟩⟩
    refine (traitsOf_any k hk w).mono ?_
    rintro e w1 ⟨rfl, hb1⟩
    exact ⟨_, rfl, rfl, hb1⟩
   ·intro ev w hc hf hg hfix hdep hbel
    have fg : ev (.tmp 6) = _ := hdep 3 (by decide)
    have e9 : ev (.tmp 9) = _ := hdep 6 (by decide)
    have hfm := field_may
    exact okb fg rfl (by go_simp)
   ·intro ev w hc hf hg hfix hdep hbel
    have fg : ev (.tmp 6) = _ := hdep 3 (by decide)
    have e1 : ev (.tmp 1) = _ := hfix 1 (by decide)
    have hc := opcells (HB.out.trans (hbel.mono HB.out.size))
    obtain ⟨hc0, hc1, hc2, hc3, hc4⟩ := hc
    exact okb fg rfl (by go_simp)
   ·intro ev w hc hf hg hfix hdep hbel
    have fg : ev (.tmp 6) = _ := hdep 3 (by decide)
    have e10 : ev (.tmp 10) = _ := hdep 7 (by decide)
    have e11 : ev (.tmp 11) = _ := hdep 8 (by decide)
    have hca := call_ask k
    refine Or.inl ⟨fg, Or.inr ⟨askF k, #[.agg #[.int .u8 (k : Int), .slice pa pl pc, .int .i64 n, .string t, .slice da dl dc]], w, by go_simp, ?_⟩⟩
    refine (asked_any k pa pl pc n t da dl dc p d w ((HR.out.below (below_box _ _ _)).below (HB.out.trans (hbel.mono HB.out.size))) HDl.out).mono ?_
    rintro e w1 ⟨rfl, hb1⟩
    exact ⟨_, rfl, rfl, hb1⟩
   ·intro ev w hc hf hg hfix hdep hbel
    have e6 : ev (.tmp 6) = _ := hdep 3 (by decide)
    have e12 : ev (.tmp 12) = _ := hdep 9 (by decide)
    exact okb trivial rfl (by go_simp)
   ·intro ev w hc hf hg hfix hdep hbel
    have e13 : ev (.tmp 13) = _ := hdep 10 (by decide)
    exact okb trivial rfl (by go_simp)
  ·intro v w2 hv hb2
   have r0 : v 0 = _ := hv 0 (by decide)
   have r1 : v 1 = _ := hv 1 (by decide)
   have r2 : v 2 = _ := hv 2 (by decide)
   have r3 : v 3 = _ := hv 3 (by decide)
   have r4 : v 4 = _ := hv 4 (by decide)
   have r5 : v 5 = _ := hv 5 (by decide)
   have r6 : v 6 = _ := hv 6 (by decide)
   have r7 : v 7 = _ := hv 7 (by decide)
   have r8 : v 8 = _ := hv 8 (by decide)
   have r9 : v 9 = _ := hv 9 (by decide)
   have r10 : v 10 = _ := hv 10 (by decide)
   have r11 : v 11 = _ := hv 11 (by decide)
   simp only [Reg.putAll, Act.put, List.setIfInBounds_toArray, List.set_cons_zero, List.set_cons_succ, r0, r1, r2, r3, r4, r5, r6, r7, r8, r9, r10, r11]
   clear r0 r1 r2 r3 r4 r5 r6 r7 r8 r9 r10 r11 hv
   have HBw := Lib.hid ((below_box W #[.int .u8 (k : Int), .slice pa pl pc, .int .i64 n, .string t, .slice da dl dc] 32).trans (hb2.mono (by simp))); clear hb2
   go_wp2_with fail
   go_ret
   exact ⟨ret_bool (by simp [Om.may, HMp.out]), HBw.out⟩
end Go.Proofs.YtiiidmphmojlgaaGreat
namespace Go.Proofs.YtiiidmphmojlgaaGreat
open Go.RowKit Go.Buf
set_option linter.unusedSimpArgs false
end Go.Proofs.YtiiidmphmojlgaaGreat
namespace Go.Proofs.YtiiidmphmojlgaaGreat
open Go.RowKit Go.Buf
set_option linter.unusedSimpArgs false
set_option linter.unusedVariables false
abbrev evV (r i s tm : Nat) (k : Nat) (pa : Option Addr) (pl pc : Nat) (n : Int) (t : ByteArray) (da : Option Addr) (dl dc : Nat) : Value := .agg #[.int .u8 (r : Int), .int .u32 (i : Int), .int .u64 (s : Int), .int .u64 (tm : Int), .int .u8 (k : Int), .slice pa pl pc, .int .i64 n, .string t, .slice da dl dc]
theorem evcells {W w1 : World} {c0 c1 c2 c3 c4 c5 c6 c7 c8 : Value} (hb : Below (W.alloc (.cells #[c0, c1, c2, c3, c4, c5, c6, c7, c8] 84)).heap.size (W.alloc (.cells #[c0, c1, c2, c3, c4, c5, c6, c7, c8] 84)) w1) :
  w1.cell? ⟨W.heap.size, 0, none⟩ = some c0 ∧ w1.cell? ⟨W.heap.size, 1, none⟩ = some c1 ∧ w1.cell? ⟨W.heap.size, 2, none⟩ = some c2 ∧ w1.cell? ⟨W.heap.size, 3, none⟩ = some c3 ∧ w1.cell? ⟨W.heap.size, 4, none⟩ = some c4 ∧ w1.cell? ⟨W.heap.size, 5, none⟩ = some c5 ∧ w1.cell? ⟨W.heap.size, 6, none⟩ = some c6 ∧ w1.cell? ⟨W.heap.size, 7, none⟩ = some c7 ∧ w1.cell? ⟨W.heap.size, 8, none⟩ = some c8 :=
 ⟨(hb.cell (p := ⟨W.heap.size, 0, none⟩) (by simp)).trans (by simp), (hb.cell (p := ⟨W.heap.size, 1, none⟩) (by simp)).trans (by simp), (hb.cell (p := ⟨W.heap.size, 2, none⟩) (by simp)).trans (by simp), (hb.cell (p := ⟨W.heap.size, 3, none⟩) (by simp)).trans (by simp), (hb.cell (p := ⟨W.heap.size, 4, none⟩) (by simp)).trans (by simp), (hb.cell (p := ⟨W.heap.size, 5, none⟩) (by simp)).trans (by simp), (hb.cell (p := ⟨W.heap.size, 6, none⟩) (by simp)).trans (by simp), (hb.cell (p := ⟨W.heap.size, 7, none⟩) (by simp)).trans (by simp), (hb.cell (p := ⟨W.heap.size, 8, none⟩) (by simp)).trans (by simp)⟩
set_option maxRecDepth 100000 in
set_option maxHeartbeats 1600000 in
theorem mayEvent_any (r i s tm k : Nat) (hk : k < 256) (pa : Option Addr) (pl pc : Nat) (n : Int) (t : ByteArray) (da : Option Addr) (dl dc : Nat) (p : List ByteArray) (d : List Dt.Dot) (W : World) (hp : SRow W pa pc p) (hpl : p.length = pl) (hr : VRow W da dc d) (hdl : d.length = dl) :
  Calls Tryz.prog 57 #[evV r i s tm k pa pl pc n t da dl dc] W fun e w' => e = .returned (.bool (Om.mayEvent ⟨((r, i), s), tm, ⟨k, p, n, t, d⟩⟩)) ∧ Below W.heap.size W w' := by
 have HP := Lib.hid hp; have HPl := Lib.hid hpl; have HR := Lib.hid hr; have HDl := Lib.hid hdl
 have HBox := Lib.hid (below_box W #[.int .u8 (r : Int), .int .u32 (i : Int), .int .u64 (s : Int), .int .u64 (tm : Int), .int .u8 (k : Int), .slice pa pl pc, .int .i64 n, .string t, .slice da dl dc] 84)
 clear hp hpl hr hdl
 cases hm : Dt.may ((r, i), s)
 ·have HM := Lib.hid hm; clear hm
  go_enter Tryz.func57, Tryz.ntmps57
  go_wp2_with fail
  refine (may_any r i s _).mono ?_
  rintro e w1 ⟨rfl, hb⟩
  have HB := Lib.hid hb; clear hb
  rw [HM.out]
  go_wp2_with fail
  go_ret
  exact ⟨ret_bool (by simp [Om.mayEvent, HM.out]), HBox.out.trans (HB.out.mono HBox.out.size)⟩
 have HM := Lib.hid hm; clear hm
 by_cases h1 : 1 ≤ tm
 case neg =>
  go_enter Tryz.func57, Tryz.ntmps57
  go_wp2_with fail
  refine (may_any r i s _).mono ?_
  rintro e w1 ⟨rfl, hb⟩
  obtain ⟨hc0, hc1, hc2, hc3, hc4, hc5, hc6, hc7, hc8⟩ := evcells hb
  have HB := Lib.hid hb; clear hb
  rw [HM.out]
  go_wp2_with fail
  go_ret
  exact ⟨ret_bool (by simp [Om.mayEvent, h1]), HBox.out.trans (HB.out.mono HBox.out.size)⟩
 by_cases h2 : tm ≤ 1099511627776
 case neg =>
  go_enter Tryz.func57, Tryz.ntmps57
  go_wp2_with fail
  refine (may_any r i s _).mono ?_
  rintro e w1 ⟨rfl, hb⟩
  obtain ⟨hc0, hc1, hc2, hc3, hc4, hc5, hc6, hc7, hc8⟩ := evcells hb
  have HB := Lib.hid hb; clear hb
  rw [HM.out]
  go_wp2_with fail
  go_ret
  exact ⟨ret_bool (by simp [Om.mayEvent, h2]), HBox.out.trans (HB.out.mono HBox.out.size)⟩
 go_enter Tryz.func57, Tryz.ntmps57
 go_wp2_with fail
 refine (may_any r i s _).mono ?_
 rintro e w1 ⟨rfl, hb⟩
 obtain ⟨hc0, hc1, hc2, hc3, hc4, hc5, hc6, hc7, hc8⟩ := evcells hb
 have HB := Lib.hid (HBox.out.trans (hb.mono HBox.out.size)); clear hb
 rw [HM.out]
 go_wp2_with fail
 refine (opmay_any k hk pa pl pc n t da dl dc p d _ (HP.out.below HB.out) HPl.out (HR.out.below HB.out) HDl.out).mono ?_
 rintro e w2 ⟨rfl, hb⟩
 have HB2 := Lib.hid (HB.out.trans (hb.mono HB.out.size)); clear hb
 go_wp2_with fail
 go_ret
 exact ⟨ret_bool (by simp [Om.mayEvent, HM.out, h1, h2]), HB2.out⟩
end Go.Proofs.YtiiidmphmojlgaaGreat
namespace Go.Proofs.YtiiidmphmojlgaaGreat
open Go.RowKit Go.Buf Go.Maps
set_option linter.unusedSimpArgs false
set_option linter.unusedVariables false
def Om.small (o : Om.O) : Prop := (∀ s ∈ o.path, s.size ≤ 100) ∧ o.path.length ≤ 20 ∧ o.text.size ≤ 200 ∧ o.dots.length ≤ 100
def GreatR (o : Om.O) (e : Ending) : Prop := ∃ b : Bool, e = .returned (.bool b) ∧ (b = false → Om.small o)
end Go.Proofs.YtiiidmphmojlgaaGreat
namespace Go.Proofs.YtiiidmphmojlgaaGreat
open Go.RowKit Go.Buf
set_option linter.unusedSimpArgs false
set_option linter.unusedVariables false
def opE (o : Om.O) : List Nat := Cd.num o.kind ++ Cd.num o.path.length ++ o.path.flatMap txtE ++ Cd.num (Cd.uns o.n) ++ txtE o.text ++ Cd.num o.dots.length ++ o.dots.flatMap dotE
theorem PT.alloc {B : Nat} {X w : World} {v : Value} {l : List Nat} (h : PT B X w v l) (hB : B ≤ X.heap.size) (o : Obj) : PT B X (w.alloc o) v l := by
 obtain ⟨⟨row, hb⟩, h⟩ := h
 exact ⟨⟨row, hb.alloc o⟩, h.alloc (Nat.le_trans hB h.size) o⟩
theorem PT.drew {B : Nat} {X w : World} {v : Value} {l : List Nat} (h : PT B X w v l) : PT B X w.drew v l := by
 obtain ⟨⟨row, hb⟩, h⟩ := h
 exact ⟨⟨row, hb.below (Below.refl _ _).drew⟩, h.drew⟩
end Go.Proofs.YtiiidmphmojlgaaGreat
namespace Go.Proofs.YtiiidmphmojlgaaGreat
open Go.RowKit Go.Buf Go.LB
set_option linter.unusedSimpArgs false
set_option linter.unusedVariables false
abbrev cmV (r i s : Nat) (qa : Option Addr) (ql qc : Nat) (va : Option Addr) (vl vc : Nat) (tm k : Nat) (pa : Option Addr) (pl pc : Nat) (n : Int) (t : ByteArray) (da : Option Addr) (dl dc : Nat) : Value := .agg #[.int .u8 (r : Int), .int .u32 (i : Int), .int .u64 (s : Int), .slice qa ql qc, .slice va vl vc, .int .u64 (tm : Int), .int .u8 (k : Int), .slice pa pl pc, .int .i64 n, .string t, .slice da dl dc]
def IsC (W : World) (x : Value) (c : Cm.C) : Prop := ∃ r i s qa ql qc va vl vc tm k pa pl pc n t da dl dc q v p d, x = cmV r i s qa ql qc va vl vc tm k pa pl pc n t da dl dc ∧ c = ⟨((r, i), s), q, v, tm, ⟨k, p, n, t, d⟩⟩ ∧ VRow W qa qc q ∧ q.length = ql ∧ VRow W va vc v ∧ v.length = vl ∧ SRow W pa pc p ∧ p.length = pl ∧ VRow W da dc d ∧ d.length = dl ∧
 Dt.okD ((r, i), s) ∧ tm < 18446744073709551616 ∧ k < 256 ∧ -9223372036854775808 ≤ n ∧ n ≤ 9223372036854775807 ∧ t.size ≤ 9223372036854775807
theorem IsC.below {w w' : World} {x : Value} {c : Cm.C} (h : IsC w x c) (hb : Below w.heap.size w w') : IsC w' x c := by
 obtain ⟨r, i, s, qa, ql, qc, va, vl, vc, tm, k, pa, pl, pc, n, t, da, dl, dc, q, v, p, d, e1, e2, h1, l1, h2, l2, h3, l3, h4, l4, g⟩ := h
 exact ⟨r, i, s, qa, ql, qc, va, vl, vc, tm, k, pa, pl, pc, n, t, da, dl, dc, q, v, p, d, e1, e2, h1.below hb, l1, h2.below hb, l2, h3.below hb, l3, h4.below hb, l4, g⟩
theorem cmcells {W w1 : World} {c0 c1 c2 c3 c4 c5 c6 c7 c8 c9 c10 : Value} (hb : Below (W.alloc (.cells #[c0, c1, c2, c3, c4, c5, c6, c7, c8, c9, c10] 34)).heap.size (W.alloc (.cells #[c0, c1, c2, c3, c4, c5, c6, c7, c8, c9, c10] 34)) w1) :
  w1.cell? ⟨W.heap.size, 0, none⟩ = some c0 ∧ w1.cell? ⟨W.heap.size, 1, none⟩ = some c1 ∧ w1.cell? ⟨W.heap.size, 2, none⟩ = some c2 ∧ w1.cell? ⟨W.heap.size, 3, none⟩ = some c3 ∧ w1.cell? ⟨W.heap.size, 4, none⟩ = some c4 ∧ w1.cell? ⟨W.heap.size, 5, none⟩ = some c5 ∧ w1.cell? ⟨W.heap.size, 6, none⟩ = some c6 ∧ w1.cell? ⟨W.heap.size, 7, none⟩ = some c7 ∧ w1.cell? ⟨W.heap.size, 8, none⟩ = some c8 ∧ w1.cell? ⟨W.heap.size, 9, none⟩ = some c9 ∧ w1.cell? ⟨W.heap.size, 10, none⟩ = some c10 :=
 ⟨(hb.cell (p := ⟨W.heap.size, 0, none⟩) (by simp)).trans (by simp), (hb.cell (p := ⟨W.heap.size, 1, none⟩) (by simp)).trans (by simp), (hb.cell (p := ⟨W.heap.size, 2, none⟩) (by simp)).trans (by simp), (hb.cell (p := ⟨W.heap.size, 3, none⟩) (by simp)).trans (by simp), (hb.cell (p := ⟨W.heap.size, 4, none⟩) (by simp)).trans (by simp), (hb.cell (p := ⟨W.heap.size, 5, none⟩) (by simp)).trans (by simp), (hb.cell (p := ⟨W.heap.size, 6, none⟩) (by simp)).trans (by simp), (hb.cell (p := ⟨W.heap.size, 7, none⟩) (by simp)).trans (by simp), (hb.cell (p := ⟨W.heap.size, 8, none⟩) (by simp)).trans (by simp), (hb.cell (p := ⟨W.heap.size, 9, none⟩) (by simp)).trans (by simp), (hb.cell (p := ⟨W.heap.size, 10, none⟩) (by simp)).trans (by simp)⟩
theorem undrewB {B : Nat} {w w' : World} (h : Below B w.drew w') : Below B w w' := ⟨h.os, h.tape, h.output, h.size, h.block⟩
end Go.Proofs.YtiiidmphmojlgaaGreat
namespace Go.Proofs.YtiiidmphmojlgaaGreat
open Go.RowKit Go.Buf
set_option linter.unusedSimpArgs false
set_option linter.unusedVariables false
end Go.Proofs.YtiiidmphmojlgaaGreat
namespace Go.Proofs.YtiiidmphmojlgaaGreat
open Go.RowKit Go.Buf
set_option linter.unusedSimpArgs false
set_option linter.unusedVariables false
def evE (e : Om.E) : List Nat := dotE e.dot ++ Cd.num e.time ++ opE e.op
end Go.Proofs.YtiiidmphmojlgaaGreat
namespace Go.Proofs.YtiiidmphmojlgaaGreat
open Go.RowKit Go.Buf
def pre (l : List Nat) : List Nat := Cd.num l.length ++ l
end Go.Proofs.YtiiidmphmojlgaaGreat
namespace Go.Proofs.YtiiidmphmojlgaaGreat
open Go.RowKit Go.Buf Go.LB
set_option linter.unusedSimpArgs false
set_option linter.unusedVariables false
end Go.Proofs.YtiiidmphmojlgaaGreat
