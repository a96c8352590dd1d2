import Derived.Test.YtiiidmphmojlgaaGreatZIdx
/- slices.IndexFunc, DeleteFunc of dots with a method value. -/
namespace Go.Proofs.YtiiidmphmojlgaaGreat
open Go.RowKit Go.Buf Go.LB
set_option linter.unusedSimpArgs false
set_option linter.unusedVariables false
set_option maxRecDepth 100000 in
set_option maxHeartbeats 3200000 in
theorem indexB_any (a : Option Addr) (n cap : Nat) (f : Nat) (rc : Value) (p : Dt.Dot → Bool) (l : List Dt.Dot) (W : World) (hr : VRow W a cap l) (hl : l.length = n) (hE : Enters f)
  (hF : ∀ (k : Nat) (d : Dt.Dot) (w : World), l[k]? = some d → Below W.heap.size W w → Calls Tryz.prog f #[rc, dotV d] w fun e w' => e = .returned (.bool (p d)) ∧ Below w.heap.size w w') :
  Calls Tryz.prog 49 #[.slice a n cap, .func (.func f) #[rc] #[]] W fun e w' => (∃ z, FIdx l p z ∧ e = .returned (.int .i64 z)) ∧ Below W.heap.size W w' := by
 have hle := hr.le
 have hcap := hr.cap
 rw [hl] at hle
 have HR := Lib.hid hr; have HL := Lib.hid hl; have HF := Lib.hid hF; have HE := Lib.hid hE
 clear hr hl hF hE
 go_enter Tryz.func49, Tryz.ntmps49
 go_wp2_with fail
 go_loopw [5, 8] (fun _ i wr => ∃ k : Nat, k ≤ n ∧ i = .int .i64 k ∧ (∀ j d, j < k → l[j]? = some d → p d = false) ∧ Below W.heap.size W wr) (fun _ i _ => n - (intOf i).toNat)
 case atStart => exact ⟨0, Nat.zero_le _, rfl, fun j d hj => by omega, Below.refl _ _⟩
 case round =>
  obtain ⟨k, hk, rfl, hno, hbel⟩ := hrel
  have HNo := Lib.hid hno; have HW := Lib.hid hbel; clear hno hbel
  by_cases hlt : k < n
  ·obtain ⟨d, hd⟩ := getD_some (l := l) (i := k) (by rw [HL.out]; exact hlt)
   obtain ⟨blk, off, rfl, hblk, hcells⟩ := HR.out.at (by rw [HL.out]; omega)
   obtain ⟨g0, g1, g2⟩ := hcells k d hd
   have q0 := (HW.out.cell (p := ⟨blk, off + k * 3, none⟩) hblk).trans g0
   have q1 := (HW.out.cell (p := ⟨blk, off + k * 3 + 1, none⟩) hblk).trans g1
   have q2 := (HW.out.cell (p := ⟨blk, off + k * 3 + 2, none⟩) hblk).trans g2
   have i0 : (0 : Int) ≤ (k : Int) := by omega
   have i1 : (k : Int) < (n : Int) := by omega
   have HD := Lib.hid hd
   clear hcells g0 g1 g2 hd
   obtain ⟨⟨r, i⟩, s⟩ := d
   simp only at q0 q1 q2
   go_wp2_with fail
   clear q0 q1 q2
   rw [HE.out, Oper.upon_enter]
   refine (HF.out k _ _ HD.out HW.out).mono ?_
   rintro e w1 ⟨rfl, hb⟩
   have HB := Lib.hid (HW.out.trans (hb.mono HW.out.size)); clear hb
   cases hp : p ((r, i), s)
   ·have hno2 : ∀ j d, j < k + 1 → l[j]? = some d → p d = false := fun j d hj h => by
     rcases Nat.lt_succ_iff_lt_or_eq.1 hj with g | rfl
     ·exact HNo.out j d g h
     ·rw [HD.out] at h; obtain rfl := Option.some.inj h; exact hp
    have HN2 := Lib.hid hno2; clear hno2 hp
    go_wp2_with fail
    go_roundw
    case rel => exact ⟨k + 1, by omega, by go_num, HN2.out, HB.out⟩
    case measure => simp [intOf]; omega
   ·have hfin : FIdx l p (k : Int) := Or.inr ⟨k, rfl, ⟨_, HD.out, hp⟩, HNo.out⟩
    have Hfin := Lib.hid hfin; clear hfin hp
    go_wp2_with fail
    go_ret
    exact ⟨⟨_, Hfin.out, rfl⟩, HB.out⟩
  ·have hfin : FIdx l p (-1) := Or.inl ⟨rfl, fun j d h => HNo.out j d (by have := (List.getElem?_eq_some_iff.1 h).1; rw [HL.out] at this; omega) h⟩
   have Hfin := Lib.hid hfin; clear hfin
   go_wp2_with fail
   go_ret
   exact ⟨⟨_, Hfin.out, rfl⟩, HW.out⟩
set_option maxRecDepth 100000 in
set_option maxHeartbeats 3200000 in
theorem deleteB_none (a : Option Addr) (n cap : Nat) (f : Nat) (rc : Value) (l : List Dt.Dot) (W : World) (hr : VRow W a cap l) (hl : l.length = n) (hE : Enters f)
  (hF : ∀ (k : Nat) (d : Dt.Dot) (w : World), l[k]? = some d → Below W.heap.size W w → Calls Tryz.prog f #[rc, dotV d] w fun e w' => e = .returned (.bool false) ∧ Below w.heap.size w w') :
  Calls Tryz.prog 29 #[.slice a n cap, .func (.func f) #[rc] #[]] W fun e w' => e = .returned (.slice a n cap) ∧ Below W.heap.size W w' := by
 have HR := Lib.hid hr; have HL := Lib.hid hl; have HF := Lib.hid hF; have HE := Lib.hid hE
 clear hr hl hF hE
 go_enter Tryz.func29, Tryz.ntmps29
 go_wp2_with fail
 refine (indexB_any a n cap f rc (fun _ => false) l _ HR.out HL.out HE.out HF.out).mono ?_
 rintro e w1 ⟨⟨z, hz, rfl⟩, hb⟩
 have hz' : z = -1 := by
  rcases hz with ⟨h, _⟩ | ⟨k, _, ⟨d, _, h⟩, _⟩
  ·exact h
  ·cases h
 subst hz'
 have HB := Lib.hid hb
 clear hb hz
 go_wp2_with fail
 go_ret
 exact ⟨rfl, HB.out⟩
end Go.Proofs.YtiiidmphmojlgaaGreat
