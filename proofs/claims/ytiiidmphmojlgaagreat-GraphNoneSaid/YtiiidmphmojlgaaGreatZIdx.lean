import Derived.Test.YtiiidmphmojlgaaGreatZOp2
import Derived.Test.YtiiidmphmojlgaaGreatZOp3
import Derived.Test.YtiiidmphmojlgaaGreatZBuf
import Derived.Test.YtiiidmphmojlgaaGreatZCmt3
import Derived.Test.YtiiidmphmojlgaaGreatZDot15
/- slices.IndexFunc, ContainsFunc at dots, with any function that tells a predicate. -/
namespace Go.Proofs.YtiiidmphmojlgaaGreat
open Go.RowKit Go.Buf Go.LB
set_option linter.unusedSimpArgs false
set_option linter.unusedVariables false
def Enters (f : Nat) : Prop := ∀ (xs : Array Value) (w : World), (callFunc f xs).run Tryz.prog w = .ok (.enter f xs) w
theorem enters_of {f : Nat} {fn : Func} (hf : Tryz.prog.funcs[f]? = some fn) (hn : (fn.name == "runtime.NumGoroutine") = false) (hb : fn.body.isNone = false) : Enters f := fun xs w => by
 have hn2 : ¬ fn.name = "runtime.NumGoroutine" := by simpa using hn
 have hb2 : ¬ fn.body = none := fun g => by rw [g] at hb; simp at hb
 simp [callFunc, go_sem, hf, hn2, hb2]
def FIdx {α : Type} (l : List α) (p : α → Bool) (z : Int) : Prop := (z = -1 ∧ ∀ (j : Nat) (d : α), l[j]? = some d → p d = false) ∨ ∃ k : Nat, z = k ∧ (∃ d : α, l[k]? = some d ∧ p d = true) ∧ ∀ (j : Nat) (d : α), j < k → l[j]? = some d → p d = false
theorem FIdx.any {α : Type} {l : List α} {p : α → Bool} {z : Int} (h : FIdx l p z) : decide (0 ≤ z) = l.any p := by
 rcases h with ⟨rfl, h⟩ | ⟨k, rfl, ⟨d, hd, hp⟩, _⟩
 ·have : l.any p = false := by
   rw [List.any_eq_false]
   intro x hx
   obtain ⟨j, hj⟩ := List.getElem?_of_mem hx
   simpa using h j x hj
  rw [this]; rfl
 ·have : l.any p = true := List.any_eq_true.2 ⟨d, List.mem_of_getElem? hd, hp⟩
  rw [this]; simp
set_option maxRecDepth 100000 in
set_option maxHeartbeats 3200000 in
theorem indexD_any (a : Option Addr) (n cap : Nat) (f : Nat) (cp : Array Value) (p : Dt.Dot → Bool) (l : List Dt.Dot) (W : World) (hr : VRow W a cap l) (hl : l.length = n) (hE : Enters f)
  (hF : ∀ (k : Nat) (d : Dt.Dot) (w : World), l[k]? = some d → Below W.heap.size W w → Calls Tryz.prog f (#[dotV d] ++ cp) w fun e w' => e = .returned (.bool (p d)) ∧ Below w.heap.size w w') :
  Calls Tryz.prog 49 #[.slice a n cap, .func (.func f) #[] cp] W fun e w' => (∃ z, FIdx l p z ∧ e = .returned (.int .i64 z)) ∧ Below W.heap.size W w' := by
 have hle := hr.le
 have hcap := hr.cap
 rw [hl] at hle
 have HR := Lib.hid hr; have HL := Lib.hid hl; have HF := Lib.hid hF; have HE := Lib.hid hE
 clear hr hl hF hE
 go_enter Tryz.func49, Tryz.ntmps49
 go_wp2_with fail
 go_loopw [5, 8] (fun _ i wr => ∃ k : Nat, k ≤ n ∧ i = .int .i64 k ∧ (∀ j d, j < k → l[j]? = some d → p d = false) ∧ Below W.heap.size W wr) (fun _ i _ => n - (intOf i).toNat)
 case atStart => exact ⟨0, Nat.zero_le _, rfl, fun j d hj => by omega, Below.refl _ _⟩
 case round =>
  obtain ⟨k, hk, rfl, hno, hbel⟩ := hrel
  have HNo := Lib.hid hno; have HW := Lib.hid hbel; clear hno hbel
  by_cases hlt : k < n
  ·obtain ⟨d, hd⟩ := getD_some (l := l) (i := k) (by rw [HL.out]; exact hlt)
   obtain ⟨blk, off, rfl, hblk, hcells⟩ := HR.out.at (by rw [HL.out]; omega)
   obtain ⟨g0, g1, g2⟩ := hcells k d hd
   have q0 := (HW.out.cell (p := ⟨blk, off + k * 3, none⟩) hblk).trans g0
   have q1 := (HW.out.cell (p := ⟨blk, off + k * 3 + 1, none⟩) hblk).trans g1
   have q2 := (HW.out.cell (p := ⟨blk, off + k * 3 + 2, none⟩) hblk).trans g2
   have i0 : (0 : Int) ≤ (k : Int) := by omega
   have i1 : (k : Int) < (n : Int) := by omega
   have HD := Lib.hid hd
   clear hcells g0 g1 g2 hd
   obtain ⟨⟨r, i⟩, s⟩ := d
   simp only at q0 q1 q2
   go_wp2_with fail
   clear q0 q1 q2
   rw [HE.out, Oper.upon_enter]
   refine (HF.out k _ _ HD.out HW.out).mono ?_
   rintro e w1 ⟨rfl, hb⟩
   have HB := Lib.hid (HW.out.trans (hb.mono HW.out.size)); clear hb
   cases hp : p ((r, i), s)
   ·have hno2 : ∀ j d, j < k + 1 → l[j]? = some d → p d = false := fun j d hj h => by
     rcases Nat.lt_succ_iff_lt_or_eq.1 hj with g | rfl
     ·exact HNo.out j d g h
     ·rw [HD.out] at h; obtain rfl := Option.some.inj h; exact hp
    have HN2 := Lib.hid hno2; clear hno2 hp
    go_wp2_with fail
    go_roundw
    case rel => exact ⟨k + 1, by omega, by go_num, HN2.out, HB.out⟩
    case measure => simp [intOf]; omega
   ·have hfin : FIdx l p (k : Int) := Or.inr ⟨k, rfl, ⟨_, HD.out, hp⟩, HNo.out⟩
    have Hfin := Lib.hid hfin; clear hfin hp
    go_wp2_with fail
    go_ret
    exact ⟨⟨_, Hfin.out, rfl⟩, HB.out⟩
  ·have hfin : FIdx l p (-1) := Or.inl ⟨rfl, fun j d h => HNo.out j d (by have := (List.getElem?_eq_some_iff.1 h).1; rw [HL.out] at this; omega) h⟩
   have Hfin := Lib.hid hfin; clear hfin
   go_wp2_with fail
   go_ret
   exact ⟨⟨_, Hfin.out, rfl⟩, HW.out⟩
set_option maxHeartbeats 1000000 in
theorem containsD_any (a : Option Addr) (n cap : Nat) (f : Nat) (cp : Array Value) (p : Dt.Dot → Bool) (l : List Dt.Dot) (W : World) (hr : VRow W a cap l) (hl : l.length = n) (hE : Enters f)
  (hF : ∀ (k : Nat) (d : Dt.Dot) (w : World), l[k]? = some d → Below W.heap.size W w → Calls Tryz.prog f (#[dotV d] ++ cp) w fun e w' => e = .returned (.bool (p d)) ∧ Below w.heap.size w w') :
  Calls Tryz.prog 63 #[.slice a n cap, .func (.func f) #[] cp] W fun e w' => e = .returned (.bool (l.any p)) ∧ Below W.heap.size W w' := by
 have HR := Lib.hid hr; have HL := Lib.hid hl; have HF := Lib.hid hF; have HE := Lib.hid hE
 clear hr hl hF hE
 go_enter Tryz.func63, Tryz.ntmps63
 go_wp2_with fail
 refine (indexD_any a n cap f cp p l _ HR.out HL.out HE.out HF.out).mono ?_
 rintro e w1 ⟨⟨z, hz, rfl⟩, hb⟩
 have HB := Lib.hid hb; have HZ := Lib.hid hz; clear hb hz
 go_wp2_with fail
 go_ret
 exact ⟨ret_bool HZ.out.any, HB.out⟩
end Go.Proofs.YtiiidmphmojlgaaGreat
namespace Go.Proofs.YtiiidmphmojlgaaGreat
open Go.RowKit Go.Buf Go.LB
set_option linter.unusedSimpArgs false
set_option linter.unusedVariables false
theorem riseAt_succ {l : List Dt.Dot} {k : Nat} {d e : Dt.Dot} (h : l[k + 1]? = some d) (h' : l[k]? = some e) : Cm.riseAt l (k + 1) = Dt.less e d := by
 simp [Cm.riseAt, List.getD, h, h']
set_option maxRecDepth 100000 in
set_option maxHeartbeats 6400000 in
theorem isRising_any (a : Option Addr) (n cap : Nat) (l : List Dt.Dot) (W : World) (hr : VRow W a cap l) (hl : l.length = n) :
  Calls Tryz.prog 101 #[.slice a n cap] W fun e w' => e = .returned (.bool (Cm.rising l)) ∧ Below W.heap.size W w' := by
 have hle := hr.le
 have hcap := hr.cap
 rw [hl] at hle
 have HR := Lib.hid hr; have HL := Lib.hid hl
 clear hr hl
 go_enter Tryz.func101, Tryz.ntmps101
 go_wp2_with fail
 go_loopw [3] (fun i wr => ∃ k : Nat, k ≤ n ∧ i = .int .i64 ((k + 1 : Nat) : Int) ∧ Om.upTo (Cm.riseAt l) (k + 1) = true ∧ Below W.heap.size W wr) (fun i _ => n + 1 - (intOf i).toNat)
 case atStart => exact ⟨0, Nat.zero_le _, rfl, Om.upTo_succ (Om.upTo_zero _) rfl, Below.refl _ _⟩
 case round =>
  obtain ⟨j, hj, rfl, hu, hbel⟩ := hrel
  have HU := Lib.hid hu; have HBel := Lib.hid hbel; clear hu hbel
  by_cases hlt : j + 1 < n
  ·obtain ⟨d, hd⟩ := getD_some (l := l) (i := j + 1) (by rw [HL.out]; exact hlt)
   obtain ⟨d', hd'⟩ := getD_some (l := l) (i := j) (by rw [HL.out]; omega)
   obtain ⟨blk, off, rfl, hblk, hcells⟩ := HR.out.at (by rw [HL.out]; omega)
   obtain ⟨⟨r, i⟩, s⟩ := d
   obtain ⟨⟨r', i'⟩, s'⟩ := d'
   have hC : ∀ w2, Below wr.drew.heap.size wr.drew w2 → w2.cell? ⟨blk, off + j * 3, none⟩ = some (.int .u8 (r' : Int)) ∧ w2.cell? ⟨blk, off + j * 3 + 1, none⟩ = some (.int .u32 (i' : Int)) ∧ w2.cell? ⟨blk, off + j * 3 + 2, none⟩ = some (.int .u64 (s' : Int)) ∧ w2.cell? ⟨blk, off + (j + 1) * 3, none⟩ = some (.int .u8 (r : Int)) ∧ w2.cell? ⟨blk, off + (j + 1) * 3 + 1, none⟩ = some (.int .u32 (i : Int)) ∧ w2.cell? ⟨blk, off + (j + 1) * 3 + 2, none⟩ = some (.int .u64 (s : Int)) := fun w2 h => by
    have hb := HBel.out.trans ((undrewB h).mono HBel.out.size)
    obtain ⟨g0, g1, g2⟩ := hcells j _ hd'
    obtain ⟨k0, k1, k2⟩ := hcells (j + 1) _ hd
    exact ⟨(hb.cell (p := ⟨blk, off + j * 3, none⟩) hblk).trans g0, (hb.cell (p := ⟨blk, off + j * 3 + 1, none⟩) hblk).trans g1, (hb.cell (p := ⟨blk, off + j * 3 + 2, none⟩) hblk).trans g2, (hb.cell (p := ⟨blk, off + (j + 1) * 3, none⟩) hblk).trans k0, (hb.cell (p := ⟨blk, off + (j + 1) * 3 + 1, none⟩) hblk).trans k1, (hb.cell (p := ⟨blk, off + (j + 1) * 3 + 2, none⟩) hblk).trans k2⟩
   have HC := Lib.hid hC; clear hC
   have i0 : (0 : Int) ≤ (j : Int) := by omega
   have i1 : (j : Int) < (n : Int) := by omega
   have i2 : ((j : Int) + 1) < (n : Int) := by omega
   have i3 : ¬ ((j : Int) + 1 < 0) := by omega
   have iw : IntKind.i64.wrap (j : Int) = (j : Int) := by simp [IntKind.wrap, IntKind.bits, IntKind.signed]; omega
   have HX := Lib.hid (riseAt_succ hd hd')
   clear hcells hd hd'
   cases hs : Dt.less ((r', i'), s') ((r, i), s)
   ·have hge : decide (0 ≤ Dt.cmp ((r', i'), s') ((r, i), s)) = true := by rw [cmp_less, hs]; rfl
    have hge2 : 0 ≤ Dt.cmp ((r', i'), s') ((r, i), s) := of_decide_eq_true hge
    have HS := Lib.hid hs; clear hge hs
    go_wp2_with fail
    refine Reg.region_list (by kernel_rfl) [fun v _ => v = .slice (some ⟨blk, off, none⟩) n cap, fun v _ => v = .int .i64 ((j + 1 : Nat) : Int), fun v _ => v = .int .i64 (j : Int), fun v _ => v = .pointer (some ⟨blk, off + j * 3, none⟩), fun v _ => v = dotV ((r', i'), s'), fun v _ => v = .slice (some ⟨blk, off, none⟩) n cap, fun v _ => v = .int .i64 ((j + 1 : Nat) : Int), fun v _ => v = .pointer (some ⟨blk, off + (j + 1) * 3, none⟩), fun v _ => v = dotV ((r, i), s), fun v _ => v = .int .i64 (Dt.cmp ((r', i'), s') ((r, i), s)), fun v _ => v = .bool true] (by kernel_rfl) ?_ ?_ ?_
    ·refine ⟨k4, k4, k4, k4, k4, k4, k4, k4, k4, k4, k4, trivial⟩
    ·refine ⟨?_, ?_, ?_, ?_, ?_, ?_, ?_, ?_, ?_, ?_, ?_, trivial⟩
     ·intro ev w hc hf hg hfix hdep hbel
      have e0 : ev (.tmp 0) = _ := hfix 0 (by decide)
      exact okb trivial rfl (by go_simp)
     ·intro ev w hc hf hg hfix hdep hbel
      have e3 : ev (.tmp 3) = _ := hfix 3 (by decide)
      exact okb trivial rfl (by go_simp)
     ·intro ev w hc hf hg hfix hdep hbel
      have e11 : ev (.tmp 11) = _ := hdep 1 (by decide)
      exact okb trivial rfl (by go_simp)
     ·intro ev w hc hf hg hfix hdep hbel
      have e10 : ev (.tmp 10) = _ := hdep 0 (by decide)
      have e12 : ev (.tmp 12) = _ := hdep 2 (by decide)
      exact okb trivial rfl (by go_simp)
     ·intro ev w hc hf hg hfix hdep hbel
      have e13 : ev (.tmp 13) = _ := hdep 3 (by decide)
      obtain ⟨p0, p1, p2, q0, q1, q2⟩ := HC.out w hbel
      exact okb trivial rfl (by go_simp)
     ·intro ev w hc hf hg hfix hdep hbel
      have e0 : ev (.tmp 0) = _ := hfix 0 (by decide)
      exact okb trivial rfl (by go_simp)
     ·intro ev w hc hf hg hfix hdep hbel
      have e3 : ev (.tmp 3) = _ := hfix 3 (by decide)
      exact okb trivial rfl (by go_simp)
     ·intro ev w hc hf hg hfix hdep hbel
      have e15 : ev (.tmp 15) = _ := hdep 5 (by decide)
      have e16 : ev (.tmp 16) = _ := hdep 6 (by decide)
      exact okb trivial rfl (by go_simp)
     ·intro ev w hc hf hg hfix hdep hbel
      have e17 : ev (.tmp 17) = _ := hdep 7 (by decide)
      obtain ⟨p0, p1, p2, q0, q1, q2⟩ := HC.out w hbel
      exact okb trivial rfl (by go_simp)
     ·intro ev w hc hf hg hfix hdep hbel
      have e14 : ev (.tmp 14) = _ := hdep 4 (by decide)
      have e18 : ev (.tmp 18) = _ := hdep 8 (by decide)
      refine Or.inl ⟨trivial, Or.inr ⟨25, #[dotV ((r', i'), s'), dotV ((r, i), s)], w, by go_simp, ?_⟩⟩
      refine (compare_any r' i' s' r i s w).mono ?_
      rintro e w1 ⟨rfl, hb1⟩
      exact ⟨_, rfl, rfl, hb1.below⟩
     ·intro ev w hc hf hg hfix hdep hbel
      have e19 : ev (.tmp 19) = _ := hdep 9 (by decide)
      exact okb trivial rfl (by go_simp)
    ·intro v w2 hv hb2
     have r0 : v 0 = _ := hv 0 (by decide)
     have r1 : v 1 = _ := hv 1 (by decide)
     have r2 : v 2 = _ := hv 2 (by decide)
     have r3 : v 3 = _ := hv 3 (by decide)
     have r4 : v 4 = _ := hv 4 (by decide)
     have r5 : v 5 = _ := hv 5 (by decide)
     have r6 : v 6 = _ := hv 6 (by decide)
     have r7 : v 7 = _ := hv 7 (by decide)
     have r8 : v 8 = _ := hv 8 (by decide)
     have r9 : v 9 = _ := hv 9 (by decide)
     have r10 : v 10 = _ := hv 10 (by decide)
     simp only [Reg.putAll, Act.put, List.setIfInBounds_toArray, List.set_cons_zero, List.set_cons_succ, r0, r1, r2, r3, r4, r5, r6, r7, r8, r9, r10]
     clear r0 r1 r2 r3 r4 r5 r6 r7 r8 r9 r10 hv
     have HBw := Lib.hid (HBel.out.trans (hb2.mono HBel.out.size)); clear hb2
     go_wp2_with fail
     go_ret
     exact ⟨ret_bool (by simp [Cm.rising, HL.out, Om.upTo_not hlt (HX.out.trans HS.out)]), HBw.out⟩
   ·have hge : decide (0 ≤ Dt.cmp ((r', i'), s') ((r, i), s)) = false := by rw [cmp_less, hs]; rfl
    have hge2 : Dt.cmp ((r', i'), s') ((r, i), s) < 0 := by have := of_decide_eq_false hge; omega
    have HS := Lib.hid hs; clear hge hs
    go_wp2_with fail
    refine Reg.region_list (by kernel_rfl) [fun v _ => v = .slice (some ⟨blk, off, none⟩) n cap, fun v _ => v = .int .i64 ((j + 1 : Nat) : Int), fun v _ => v = .int .i64 (j : Int), fun v _ => v = .pointer (some ⟨blk, off + j * 3, none⟩), fun v _ => v = dotV ((r', i'), s'), fun v _ => v = .slice (some ⟨blk, off, none⟩) n cap, fun v _ => v = .int .i64 ((j + 1 : Nat) : Int), fun v _ => v = .pointer (some ⟨blk, off + (j + 1) * 3, none⟩), fun v _ => v = dotV ((r, i), s), fun v _ => v = .int .i64 (Dt.cmp ((r', i'), s') ((r, i), s)), fun v _ => v = .bool false] (by kernel_rfl) ?_ ?_ ?_
    ·refine ⟨k4, k4, k4, k4, k4, k4, k4, k4, k4, k4, k4, trivial⟩
    ·refine ⟨?_, ?_, ?_, ?_, ?_, ?_, ?_, ?_, ?_, ?_, ?_, trivial⟩
     ·intro ev w hc hf hg hfix hdep hbel
      have e0 : ev (.tmp 0) = _ := hfix 0 (by decide)
      exact okb trivial rfl (by go_simp)
     ·intro ev w hc hf hg hfix hdep hbel
      have e3 : ev (.tmp 3) = _ := hfix 3 (by decide)
      exact okb trivial rfl (by go_simp)
     ·intro ev w hc hf hg hfix hdep hbel
      have e11 : ev (.tmp 11) = _ := hdep 1 (by decide)
      exact okb trivial rfl (by go_simp)
     ·intro ev w hc hf hg hfix hdep hbel
      have e10 : ev (.tmp 10) = _ := hdep 0 (by decide)
      have e12 : ev (.tmp 12) = _ := hdep 2 (by decide)
      exact okb trivial rfl (by go_simp)
     ·intro ev w hc hf hg hfix hdep hbel
      have e13 : ev (.tmp 13) = _ := hdep 3 (by decide)
      obtain ⟨p0, p1, p2, q0, q1, q2⟩ := HC.out w hbel
      exact okb trivial rfl (by go_simp)
     ·intro ev w hc hf hg hfix hdep hbel
      have e0 : ev (.tmp 0) = _ := hfix 0 (by decide)
      exact okb trivial rfl (by go_simp)
     ·intro ev w hc hf hg hfix hdep hbel
      have e3 : ev (.tmp 3) = _ := hfix 3 (by decide)
      exact okb trivial rfl (by go_simp)
     ·intro ev w hc hf hg hfix hdep hbel
      have e15 : ev (.tmp 15) = _ := hdep 5 (by decide)
      have e16 : ev (.tmp 16) = _ := hdep 6 (by decide)
      exact okb trivial rfl (by go_simp)
     ·intro ev w hc hf hg hfix hdep hbel
      have e17 : ev (.tmp 17) = _ := hdep 7 (by decide)
      obtain ⟨p0, p1, p2, q0, q1, q2⟩ := HC.out w hbel
      exact okb trivial rfl (by go_simp)
     ·intro ev w hc hf hg hfix hdep hbel
      have e14 : ev (.tmp 14) = _ := hdep 4 (by decide)
      have e18 : ev (.tmp 18) = _ := hdep 8 (by decide)
      refine Or.inl ⟨trivial, Or.inr ⟨25, #[dotV ((r', i'), s'), dotV ((r, i), s)], w, by go_simp, ?_⟩⟩
      refine (compare_any r' i' s' r i s w).mono ?_
      rintro e w1 ⟨rfl, hb1⟩
      exact ⟨_, rfl, rfl, hb1.below⟩
     ·intro ev w hc hf hg hfix hdep hbel
      have e19 : ev (.tmp 19) = _ := hdep 9 (by decide)
      exact okb trivial rfl (by go_simp)
    ·intro v w2 hv hb2
     have r0 : v 0 = _ := hv 0 (by decide)
     have r1 : v 1 = _ := hv 1 (by decide)
     have r2 : v 2 = _ := hv 2 (by decide)
     have r3 : v 3 = _ := hv 3 (by decide)
     have r4 : v 4 = _ := hv 4 (by decide)
     have r5 : v 5 = _ := hv 5 (by decide)
     have r6 : v 6 = _ := hv 6 (by decide)
     have r7 : v 7 = _ := hv 7 (by decide)
     have r8 : v 8 = _ := hv 8 (by decide)
     have r9 : v 9 = _ := hv 9 (by decide)
     have r10 : v 10 = _ := hv 10 (by decide)
     simp only [Reg.putAll, Act.put, List.setIfInBounds_toArray, List.set_cons_zero, List.set_cons_succ, r0, r1, r2, r3, r4, r5, r6, r7, r8, r9, r10]
     clear r0 r1 r2 r3 r4 r5 r6 r7 r8 r9 r10 hv
     have HBw := Lib.hid (HBel.out.trans (hb2.mono HBel.out.size)); clear hb2
     go_wp2_with fail
     go_roundw
     case rel => exact ⟨j + 1, by omega, by go_num, Om.upTo_succ HU.out (HX.out.trans HS.out), HBw.out⟩
     case measure => simp [intOf]; omega
  ·have HT := Lib.hid (show Cm.rising l = true by
    have h := HU.out
    rw [Om.upTo_iff] at h
    rw [Cm.rising, Om.upTo_iff]
    intro i hi
    exact h i (by rw [HL.out] at hi; omega))
   go_wp2_with fail
   go_ret
   exact ⟨ret_bool HT.out.symm, HBel.out⟩
set_option maxRecDepth 100000 in
set_option maxHeartbeats 1600000 in
theorem behind1_any (r' i' s' r i s : Nat) (va : Option Addr) (vl vc g : Nat) (v : List Dt.Dot) (w : World) (hv : VRow w va vc v) (hvl : v.length = vl) (c0 : w.cell? ⟨g, 0, none⟩ = some (.int .u8 (r : Int))) (c1 : w.cell? ⟨g, 1, none⟩ = some (.int .u32 (i : Int))) (c2 : w.cell? ⟨g, 2, none⟩ = some (.int .u64 (s : Int))) (c4 : w.cell? ⟨g, 4, none⟩ = some (.slice va vl vc)) :
  Calls Tryz.prog 102 #[dotV ((r', i'), s'), .pointer (some ⟨g, 0, none⟩)] w fun e w' => e = .returned (.bool (Cm.notIn ((r, i), s) v ((r', i'), s'))) ∧ Below w.heap.size w w' := by
 have HBox := Lib.hid (below_box w #[.int .u8 (r' : Int), .int .u32 (i' : Int), .int .u64 (s' : Int)] 27)
 have HV := Lib.hid (hv.below HBox.out); have HVl := Lib.hid hvl
 have d0 := (HBox.out.cell (p := ⟨g, 0, none⟩) (World.block_lt_of_cell? _ _ c0)).trans c0
 have d1 := (HBox.out.cell (p := ⟨g, 1, none⟩) (World.block_lt_of_cell? _ _ c1)).trans c1
 have d2 := (HBox.out.cell (p := ⟨g, 2, none⟩) (World.block_lt_of_cell? _ _ c2)).trans c2
 have d4 := (HBox.out.cell (p := ⟨g, 4, none⟩) (World.block_lt_of_cell? _ _ c4)).trans c4
 clear c0 c1 c2 c4 hv hvl
 by_cases he : ((r', i'), s') = ((r, i), s)
 ·simp only [Prod.mk.injEq] at he
  obtain ⟨⟨rfl, rfl⟩, rfl⟩ := he
  go_enter Tryz.func102, Tryz.ntmps102
  go_wp2_with fail
  go_ret
  exact ⟨ret_bool (by simp [Cm.notIn]), HBox.out⟩
 ·have hne := dot_neO he
  have HE := Lib.hid he
  clear he
  rcases hne with h1 | ⟨rfl, h1⟩ | ⟨rfl, rfl, h1⟩
  all_goals
   first
    | have d3 : ((r' : Int) == (r : Int)) = false := by simp; (try simp only at h1); omega
    | have d3 : ((i' : Int) == (i : Int)) = false := by simp; (try simp only at h1); omega
    | have d3 : ((s' : Int) == (s : Int)) = false := by simp; (try simp only at h1); omega
   clear h1
   go_enter Tryz.func102, Tryz.ntmps102
   go_wp2_with fail
   refine (has_any va vl vc _ _ _ v _ HV.out HVl.out).mono ?_
   rintro e w1 ⟨rfl, hb⟩
   have HB := Lib.hid (HBox.out.trans (hb.mono HBox.out.size)); clear hb
   go_wp2_with fail
   go_ret
   exact ⟨ret_bool (by have h := HE.out; simp only [Cm.notIn, h, decide_false, Bool.false_or]), HB.out⟩
set_option maxRecDepth 100000 in
set_option maxHeartbeats 1600000 in
theorem isBehind_any (r i s : Nat) (qa : Option Addr) (ql qc : Nat) (va : Option Addr) (vl vc : Nat) (tm k : Nat) (pa : Option Addr) (pl pc : Nat) (n : Int) (t : ByteArray) (da : Option Addr) (dl dc : Nat) (lq lv : List Dt.Dot) (lp : List ByteArray) (ld : List Dt.Dot) (W : World) (hq : VRow W qa qc lq) (hql : lq.length = ql) (hv : VRow W va vc lv) (hvl : lv.length = vl) (hp : SRow W pa pc lp) (hpl : lp.length = pl) (hd : VRow W da dc ld) (hdl : ld.length = dl) (la : Option Addr) (ll lc : Nat) (l : List Dt.Dot) (hr : VRow W la lc l) (hl : l.length = ll) :
  Calls Tryz.prog 60 #[cmV r i s qa ql qc va vl vc tm k pa pl pc n t da dl dc, .slice la ll lc] W fun e w' => e = .returned (.bool (Cm.behind ((r, i), s) lv l)) ∧ Below W.heap.size W w' := by
 have HV := Lib.hid hv; have HVl := Lib.hid hvl; have HR := Lib.hid hr; have HL := Lib.hid hl
 have HBox := Lib.hid (below_box W #[.int .u8 (r : Int), .int .u32 (i : Int), .int .u64 (s : Int), .slice qa ql qc, .slice va vl vc, .int .u64 (tm : Int), .int .u8 (k : Int), .slice pa pl pc, .int .i64 n, .string t, .slice da dl dc] 34)
 clear hq hql hv hvl hp hpl hd hdl hr hl
 go_enter Tryz.func60, Tryz.ntmps60
 go_wp2_with fail
 refine (containsD_any la ll lc 102 #[.pointer (some ⟨W.heap.size, 0, none⟩)] (Cm.notIn ((r, i), s) lv) l _ (HR.out.below HBox.out) HL.out (enters_of Tryz.func102 (by kernel_rfl) (by kernel_rfl)) (fun k x w hx hb => by
  obtain ⟨⟨r', i'⟩, s'⟩ := x
  obtain ⟨hc0, hc1, hc2, hc3, hc4, _⟩ := cmcells hb
  exact behind1_any r' i' s' r i s va vl vc _ lv w (HV.out.below (HBox.out.trans (hb.mono HBox.out.size))) HVl.out hc0 hc1 hc2 hc4)).mono ?_
 rintro e w1 ⟨rfl, hb⟩
 have HB := Lib.hid (HBox.out.trans (hb.mono HBox.out.size)); clear hb
 go_wp2_with fail
 go_ret
 exact ⟨ret_bool (by simp [Cm.behind]), HB.out⟩
set_option maxRecDepth 100000 in
set_option maxHeartbeats 1600000 in
theorem mayParents_any (r i s : Nat) (qa : Option Addr) (ql qc : Nat) (va : Option Addr) (vl vc : Nat) (tm k : Nat) (pa : Option Addr) (pl pc : Nat) (n : Int) (t : ByteArray) (da : Option Addr) (dl dc : Nat) (lq lv : List Dt.Dot) (lp : List ByteArray) (ld : List Dt.Dot) (W : World) (hq : VRow W qa qc lq) (hql : lq.length = ql) (hv : VRow W va vc lv) (hvl : lv.length = vl) (hp : SRow W pa pc lp) (hpl : lp.length = pl) (hd : VRow W da dc ld) (hdl : ld.length = dl) :
  Calls Tryz.prog 59 #[cmV r i s qa ql qc va vl vc tm k pa pl pc n t da dl dc] W fun e w' => e = .returned (.bool (Cm.mayParents ⟨((r, i), s), lq, lv, tm, ⟨k, lp, n, t, ld⟩⟩)) ∧ Below W.heap.size W w' := by
 have hle := hq.le
 have hcap := hq.cap
 rw [hql] at hle
 have HQ := Lib.hid hq; have HQl := Lib.hid hql; have HV := Lib.hid hv; have HVl := Lib.hid hvl; have HP := Lib.hid hp; have HPl := Lib.hid hpl; have HD := Lib.hid hd; have HDl := Lib.hid hdl
 have HBox := Lib.hid (below_box W #[.int .u8 (r : Int), .int .u32 (i : Int), .int .u64 (s : Int), .slice qa ql qc, .slice va vl vc, .int .u64 (tm : Int), .int .u8 (k : Int), .slice pa pl pc, .int .i64 n, .string t, .slice da dl dc] 34)
 clear hq hql hv hvl hp hpl hd hdl
 by_cases h64 : ql ≤ 64
 ·have H64 := Lib.hid h64
  go_enter Tryz.func59, Tryz.ntmps59
  go_wp2_with fail
  refine (isRising_any qa ql qc lq _ (HQ.out.below HBox.out) HQl.out).mono ?_
  rintro e w1 ⟨rfl, hb⟩
  obtain ⟨hc0, hc1, hc2, hc3, hc4, hc5, hc6, hc7, hc8, hc9, hc10⟩ := cmcells hb
  have HB1 := Lib.hid (HBox.out.trans (hb.mono HBox.out.size)); clear hb
  cases hr : Cm.rising lq
  ·have HRi := Lib.hid hr; clear hr
   go_wp2_with fail
   go_ret
   exact ⟨ret_bool (by simp [Cm.mayParents, HRi.out]), HB1.out⟩
  ·have HRi := Lib.hid hr; clear hr
   go_wp2_with fail
   refine (isBehind_any r i s qa ql qc va vl vc tm k pa pl pc n t da dl dc lq lv lp ld _ (HQ.out.below HB1.out) HQl.out (HV.out.below HB1.out) HVl.out (HP.out.below HB1.out) HPl.out (HD.out.below HB1.out) HDl.out qa ql qc lq (HQ.out.below HB1.out) HQl.out).mono ?_
   rintro e w2 ⟨rfl, hb⟩
   have HB2 := Lib.hid (HB1.out.trans (hb.mono HB1.out.size)); clear hb
   go_wp2_with fail
   go_ret
   exact ⟨ret_bool (by simp [Cm.mayParents, HRi.out, HQl.out, H64.out]), HB2.out⟩
 ·have H64 := Lib.hid h64
  go_enter Tryz.func59, Tryz.ntmps59
  go_wp2_with fail
  go_ret
  exact ⟨ret_bool (by simp [Cm.mayParents, HQl.out, H64.out]), HBox.out⟩
end Go.Proofs.YtiiidmphmojlgaaGreat
