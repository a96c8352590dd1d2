import Derived.Test.YteakbfbacfhhoaaGreatZOpMath
import Derived.Test.YteakbfbacfhhoaaGreatZDot2
import Derived.Test.YteakbfbacfhhoaaGreatZCode3
import Derived.Test.YteakbfbacfhhoaaGreatZCode13
namespace Go.Proofs.YteakbfbacfhhoaaGreat
open Go.RowKit Go.Buf
def SRow (w : World) (a : Option Addr) (cap : Nat) (l : List ByteArray) : Prop :=
 l.length ≤ cap ∧ cap ≤ 9223372036854775807 ∧ (∀ s ∈ l, s.size ≤ 9223372036854775807) ∧ (a = none → cap = 0) ∧
 ∀ i s, l[i]? = some s → ∃ p, a = some p ∧ w.cell? (p.add i) = some (.string s)
theorem SRow.le {w : World} {a : Option Addr} {cap : Nat} {l : List ByteArray} (h : SRow w a cap l) : l.length ≤ cap := h.1
theorem SRow.cap {w : World} {a : Option Addr} {cap : Nat} {l : List ByteArray} (h : SRow w a cap l) : cap ≤ 9223372036854775807 := h.2.1
theorem SRow.ok {w : World} {a : Option Addr} {cap : Nat} {l : List ByteArray} (h : SRow w a cap l) : ∀ s ∈ l, s.size ≤ 9223372036854775807 := h.2.2.1
theorem SRow.below {w w' : World} {a : Option Addr} {cap : Nat} {l : List ByteArray} (h : SRow w a cap l) (hb : Below w.heap.size w w') : SRow w' a cap l := by
 refine ⟨h.1, h.2.1, h.2.2.1, h.2.2.2.1, fun i d hd => ?_⟩
 obtain ⟨p, hp, h1⟩ := h.2.2.2.2 i d hd
 exact ⟨p, hp, (hb.cell (World.block_lt_of_cell? _ _ h1)).trans h1⟩
theorem SRow.nil (w : World) : SRow w none 0 [] := ⟨by simp, by omega, by simp, by simp, by simp⟩
theorem SRow.at {w : World} {a : Option Addr} {cap : Nat} {l : List ByteArray} (h : SRow w a cap l) (hl : 0 < l.length) :
  ∃ b off, a = some ⟨b, off, none⟩ ∧ b < w.heap.size ∧ ∀ i s, l[i]? = some s → w.cell? ⟨b, off + i, none⟩ = some (.string s) := by
 obtain ⟨p, hp, hc⟩ := h.2.2.2.2 0 l[0] (by simp [hl])
 have hs := World.cell?_spot hc
 obtain ⟨b, off, spot⟩ := p
 have hspot : spot = none := by simpa [Addr.add] using hs
 subst hspot
 refine ⟨b, off, hp, by simpa [Addr.add] using World.block_lt_of_cell? w _ hc, fun i d hd => ?_⟩
 obtain ⟨q, hq, h1⟩ := h.2.2.2.2 i d hd
 rw [hp] at hq
 obtain rfl := Option.some.inj hq
 rw [Addr.add_mid] at h1
 exact h1
theorem gets_some {l : List ByteArray} {i : Nat} (hi : i < l.length) : ∃ s, l[i]? = some s := ⟨l[i], List.getElem?_eq_getElem hi⟩
set_option maxHeartbeats 800000 in
theorem nameByte_any (c : Nat) (w : World) : Calls Tryz.prog 93 #[.int .u8 (c : Int)] w fun e w' => e = .returned (.bool (Om.nb c)) ∧ w = w' := by
 by_cases h1 : 97 ≤ c <;> by_cases h2 : c ≤ 122 <;> by_cases h3 : 65 ≤ c <;> by_cases h4 : c ≤ 90 <;> by_cases h5 : 48 ≤ c <;> by_cases h6 : c ≤ 57 <;> first | (exfalso; omega) | skip
 all_goals
  go_enter Tryz.func93, Tryz.ntmps93
  go_wp2
  go_ret
  exact ⟨ret_bool (by simp [Om.nb, *] <;> omega), rfl⟩
theorem nameAt_get (s : ByteArray) (k : Nat) (h : k < s.size) : Om.nb s[k].toNat = Om.nameAt s k := by
 unfold Om.nameAt
 rw [Array.getD, dif_pos (show k < s.data.size from h)]; rfl
set_option maxRecDepth 100000 in
set_option maxHeartbeats 800000 in
theorem isName_any (s : ByteArray) (hs : s.size ≤ 9223372036854775807) (w : World) : Calls Tryz.prog 79 #[.string s] w fun e w' => e = .returned (.bool (Om.isName s)) ∧ w = w' := by
 by_cases h1 : 1 ≤ s.size
 ·by_cases h2 : s.size ≤ 12
  ·go_enter Tryz.func79, Tryz.ntmps79
   go_wp2_with fail
   go_loopw [14] (fun i wr => ∃ k : Nat, k ≤ s.size ∧ i = .int .i64 k ∧ Om.upTo (Om.nameAt s) k = true ∧ w = wr) (fun i _ => s.size - (intOf i).toNat)
   case atStart => exact ⟨0, Nat.zero_le _, rfl, Om.upTo_zero _, rfl⟩
   case round =>
    obtain ⟨k, hk, rfl, hu, rfl⟩ := hrel
    have HU := Lib.hid hu; clear hu
    by_cases hlt : k < s.size
    ·have HA := Lib.hid (nameAt_get s k hlt)
     go_wp2_with fail
     refine (nameByte_any _ _).mono ?_
     rintro e w1 ⟨rfl, rfl⟩
     rw [HA.out]
     cases hx : Om.nameAt s k
     ·have HX := Lib.hid hx; clear hx
      go_wp2_with fail
      go_ret
      exact ⟨ret_bool (by simp [Om.isName, Om.upTo_not hlt HX.out]), rfl⟩
     ·have HX := Lib.hid hx; clear hx
      go_wp2_with fail
      go_roundw
      case rel => exact ⟨k + 1, by omega, by go_num, Om.upTo_succ HU.out HX.out, trivial⟩
      case measure => simp [intOf]; omega
    ·obtain rfl : k = s.size := by omega
     go_wp2_with fail
     go_ret
     exact ⟨ret_bool (by simp [Om.isName, HU.out, h1, h2]), rfl⟩
  ·go_enter Tryz.func79, Tryz.ntmps79
   go_wp2_with fail
   go_ret
   exact ⟨ret_bool (by simp [Om.isName, h2]), rfl⟩
 ·go_enter Tryz.func79, Tryz.ntmps79
  go_wp2_with fail
  go_ret
  exact ⟨ret_bool (by simp [Om.isName, h1]), rfl⟩
set_option maxRecDepth 100000 in
set_option maxHeartbeats 3200000 in
theorem refisName_any (s : ByteArray) (hs : s.size ≤ 9223372036854775807) (w : World) : Calls Tryz.prog 91 #[.string s] w fun e w' => e = .returned (.bool (Om.isName s)) ∧ w = w' := by
  by_cases h1 : 1 ≤ s.size
  · by_cases h2 : s.size ≤ 12
    · go_enter Tryz.func91, Tryz.ntmps91
      go_wp2_with fail
      go_loopw [3, 4] (fun i _ wr => ∃ k : Nat, k ≤ s.size ∧ i = .int .i64 k ∧ Om.upTo (Om.nameAt s) k = true ∧ w = wr) (fun i _ _ => s.size - (intOf i).toNat)
      case atStart => exact ⟨0, Nat.zero_le _, rfl, Om.upTo_zero _, rfl⟩
      case round =>
        obtain ⟨k, hk, rfl, hu, rfl⟩ := hrel
        have HU := Lib.hid hu; clear hu
        by_cases hlt : k < s.size
        · have hA := nameAt_get s k hlt
          obtain ⟨c, hc⟩ : ∃ c, c = s[k].toNat := ⟨_, rfl⟩
          have hcc : (s[k].toNat : Int) = (c : Int) := by rw [hc]
          rw [← hc] at hA
          have HA := Lib.hid hA
          clear hA hc
          go_wp2
          all_goals first
            | (refine ⟨⟨k + 1, by omega, by go_num, Om.upTo_succ HU.out ?_, trivial⟩, by simp [intOf]; omega⟩
               rw [← HA.out]
               simp only [Om.nb, Bool.or_eq_true, Bool.and_eq_true, decide_eq_true_eq, Bool.not_eq_eq_eq_not, Bool.not_false] at *
               omega)
            | (go_ret
               refine ⟨ret_bool ?_, rfl⟩
               have hx : Om.nameAt s k = false := by
                 rw [← HA.out]
                 simp only [Om.nb, Bool.or_eq_false_iff, Bool.and_eq_false_iff, Bool.not_eq_eq_eq_not, Bool.not_true, decide_eq_false_iff_not] at *
                 omega
               simp [Om.isName, Om.upTo_not hlt hx])
        · obtain rfl : k = s.size := by omega
          go_wp2_with fail
          go_ret
          exact ⟨ret_bool (by simp [Om.isName, HU.out, h1, h2]), rfl⟩
    · go_enter Tryz.func91, Tryz.ntmps91
      go_wp2_with fail
      go_ret
      exact ⟨ret_bool (by simp [Om.isName, h2]), rfl⟩
  · go_enter Tryz.func91, Tryz.ntmps91
    go_wp2_with fail
    go_ret
    exact ⟨ret_bool (by simp [Om.isName, h1]), rfl⟩
theorem pathAt_get {l : List ByteArray} {k : Nat} {s : ByteArray} (h : l[k]? = some s) : Om.isName s = Om.pathAt l k := by simp [Om.pathAt, List.getD, h]
set_option maxHeartbeats 800000 in
theorem mayPathF_any (s : ByteArray) (hs : s.size ≤ 9223372036854775807) (w : World) : Calls Tryz.prog 78 #[.string s] w fun e w' => e = .returned (.bool (!Om.isName s)) ∧ w = w' := by
 go_enter Tryz.func78, Tryz.ntmps78
 go_wp2_with fail
 refine (isName_any s hs _).mono ?_
 rintro e w1 ⟨rfl, rfl⟩
 go_wp2_with fail
 go_ret
 exact ⟨rfl, rfl⟩
def noName (l : List ByteArray) : Int := if Om.upTo (Om.pathAt l) l.length then -1 else l.findIdx (fun s => !Om.isName s)
set_option maxRecDepth 100000 in
set_option maxHeartbeats 800000 in
theorem indexFunc_any (a : Option Addr) (n cap : Nat) (l : List ByteArray) (w : World) (hr : SRow w a cap l) (hl : l.length = n) :
  Calls Tryz.prog 92 #[.slice a n cap, .func (.func 78) #[] #[]] w fun e w' => ∃ z : Int, e = .returned (.int .i64 z) ∧ (decide (0 ≤ z) = !Om.upTo (Om.pathAt l) l.length) ∧ -1 ≤ z ∧ z ≤ n ∧ w = w' := by
 have hle := hr.le
 have hcap := hr.cap
 rw [hl] at hle
 have HR := Lib.hid hr; have HL := Lib.hid hl
 clear hr hl
 go_enter Tryz.func92, Tryz.ntmps92
 go_wp2_with fail
 go_loopw [5, 8] (fun _ i wr => ∃ k : Nat, k ≤ n ∧ i = .int .i64 k ∧ Om.upTo (Om.pathAt l) k = true ∧ w = wr) (fun _ i _ => n - (intOf i).toNat)
 case atStart => exact ⟨0, Nat.zero_le _, rfl, Om.upTo_zero _, rfl⟩
 case round =>
  obtain ⟨k, hk, rfl, hu, rfl⟩ := hrel
  have HU := Lib.hid hu; clear hu
  by_cases hlt : k < n
  ·obtain ⟨s, hs⟩ := gets_some (l := l) (i := k) (by rw [HL.out]; exact hlt)
   obtain ⟨b, off, rfl, hb, hc⟩ := HR.out.at (by rw [HL.out]; omega)
   have q := hc k s hs
   have HS := Lib.hid (HR.out.ok s (List.mem_of_getElem? hs))
   have HA := Lib.hid (pathAt_get hs)
   clear hc hs
   have i0 : (0 : Int) ≤ (k : Int) := by omega
   have i1 : (k : Int) < (n : Int) := by omega
   go_wp2_with fail
   refine (mayPathF_any s HS.out _).mono ?_
   rintro e w1 ⟨rfl, rfl⟩
   rw [HA.out]
   cases hx : Om.pathAt l k
   ·have HX := Lib.hid hx; clear hx
    go_wp2_with fail
    go_ret
    exact ⟨k, rfl, by rw [HL.out, Om.upTo_not hlt HX.out]; simp, by omega, by omega, rfl⟩
   ·have HX := Lib.hid hx; clear hx
    go_wp2_with fail
    go_roundw
    case rel => exact ⟨k + 1, by omega, by go_num, Om.upTo_succ HU.out HX.out, trivial⟩
    case measure => simp [intOf]; omega
  ·obtain rfl : k = n := by omega
   go_wp2_with fail
   go_ret
   exact ⟨-1, rfl, by rw [HL.out, HU.out]; rfl, by omega, by omega, rfl⟩
set_option maxHeartbeats 800000 in
theorem containsFunc_any (a : Option Addr) (n cap : Nat) (l : List ByteArray) (w : World) (hr : SRow w a cap l) (hl : l.length = n) :
  Calls Tryz.prog 77 #[.slice a n cap, .func (.func 78) #[] #[]] w fun e w' => e = .returned (.bool (!Om.upTo (Om.pathAt l) l.length)) ∧ w = w' := by
 have HR := Lib.hid hr; have HL := Lib.hid hl
 clear hr hl
 go_enter Tryz.func77, Tryz.ntmps77
 go_wp2_with fail
 refine (indexFunc_any a n cap l _ HR.out HL.out).mono ?_
 rintro e w1 ⟨z, rfl, hz, h1, h2, rfl⟩
 have HZ := Lib.hid hz; clear hz
 by_cases h0 : 0 ≤ z
 ·go_wp2_with fail
  go_ret
  exact ⟨ret_bool (by first | (rw [← HZ.out]; done) | (rw [← HZ.out]; simp [h0])), rfl⟩
 ·go_wp2_with fail
  go_ret
  exact ⟨ret_bool (by first | (rw [← HZ.out]; done) | (rw [← HZ.out]; simp [h0])), rfl⟩
set_option maxHeartbeats 800000 in
theorem mayPath_any (a : Option Addr) (n cap : Nat) (l : List ByteArray) (w : World) (hr : SRow w a cap l) (hl : l.length = n) :
  Calls Tryz.prog 64 #[.slice a n cap] w fun e w' => e = .returned (.bool (Om.mayPath l)) ∧ w = w' := by
 have HR := Lib.hid hr; have HL := Lib.hid hl
 clear hr hl
 by_cases h1 : 1 ≤ n
 ·by_cases h2 : n ≤ 3
  ·go_enter Tryz.func64, Tryz.ntmps64
   go_wp2_with fail
   refine (containsFunc_any a n cap l _ HR.out HL.out).mono ?_
   rintro e w1 ⟨rfl, rfl⟩
   go_wp2_with fail
   go_ret
   exact ⟨ret_bool (by simp [Om.mayPath, HL.out, h1, h2]), rfl⟩
  ·go_enter Tryz.func64, Tryz.ntmps64
   go_wp2_with fail
   go_ret
   exact ⟨ret_bool (by simp [Om.mayPath, HL.out, h2]), rfl⟩
 ·go_enter Tryz.func64, Tryz.ntmps64
  go_wp2_with fail
  go_ret
  exact ⟨ret_bool (by simp [Om.mayPath, HL.out, h1]), rfl⟩
set_option maxRecDepth 100000 in
set_option maxHeartbeats 800000 in
theorem refmayPath_any (a : Option Addr) (n cap : Nat) (l : List ByteArray) (w : World) (hr : SRow w a cap l) (hl : l.length = n) :
  Calls Tryz.prog 74 #[.slice a n cap] w fun e w' => e = .returned (.bool (Om.mayPath l)) ∧ w = w' := by
 have hle := hr.le
 have hcap := hr.cap
 rw [hl] at hle
 have HR := Lib.hid hr; have HL := Lib.hid hl
 clear hr hl
 go_enter Tryz.func74, Tryz.ntmps74
 go_wp2_with fail
 go_loopw [3] (fun i wr => ∃ k : Nat, k ≤ n ∧ i = .int .i64 k ∧ Om.upTo (Om.pathAt l) k = true ∧ w = wr) (fun i _ => n - (intOf i).toNat)
 case atStart => exact ⟨0, Nat.zero_le _, rfl, Om.upTo_zero _, rfl⟩
 case round =>
  obtain ⟨k, hk, rfl, hu, rfl⟩ := hrel
  have HU := Lib.hid hu; clear hu
  by_cases hlt : k < n
  ·obtain ⟨s, hs⟩ := gets_some (l := l) (i := k) (by rw [HL.out]; exact hlt)
   obtain ⟨b, off, rfl, hb, hc⟩ := HR.out.at (by rw [HL.out]; omega)
   have q := hc k s hs
   have HS := Lib.hid (HR.out.ok s (List.mem_of_getElem? hs))
   have HA := Lib.hid (pathAt_get hs)
   clear hc hs
   have i0 : (0 : Int) ≤ (k : Int) := by omega
   have i1 : (k : Int) < (n : Int) := by omega
   go_wp2_with fail
   refine (refisName_any s HS.out _).mono ?_
   rintro e w1 ⟨rfl, rfl⟩
   rw [HA.out]
   cases hx : Om.pathAt l k
   ·have HX := Lib.hid hx; clear hx
    go_wp2_with fail
    go_ret
    exact ⟨ret_bool (by simp [Om.mayPath, HL.out, Om.upTo_not hlt HX.out]), rfl⟩
   ·have HX := Lib.hid hx; clear hx
    go_wp2_with fail
    go_roundw
    case rel => exact ⟨k + 1, by omega, by go_num, Om.upTo_succ HU.out HX.out, trivial⟩
    case measure => simp [intOf]; omega
  ·obtain rfl : k = n := by omega
   go_wp2_with fail
   all_goals
    go_ret
    exact ⟨ret_bool (by rw [Bool.eq_iff_iff]; simp [Om.mayPath, HL.out, HU.out]; try omega), rfl⟩
set_option maxHeartbeats 800000 in
theorem reftype_any (k : Nat) (w : World) : Calls Tryz.prog 33 #[.int .u8 (k : Int)] w fun e w' => e = .returned (.int .u8 (Om.type k : Nat)) ∧ w = w' := by
 by_cases h1 : k = 1
 ·subst h1
  go_enter Tryz.func33, Tryz.ntmps33
  go_wp2_with fail
  go_ret
  exact ⟨rfl, rfl⟩
 by_cases h2 : k = 2
 ·subst h2
  go_enter Tryz.func33, Tryz.ntmps33
  go_wp2_with fail
  go_ret
  exact ⟨rfl, rfl⟩
 by_cases h3 : k = 3
 ·subst h3
  go_enter Tryz.func33, Tryz.ntmps33
  go_wp2_with fail
  go_ret
  exact ⟨rfl, rfl⟩
 by_cases h4 : k = 4
 ·subst h4
  go_enter Tryz.func33, Tryz.ntmps33
  go_wp2_with fail
  go_ret
  exact ⟨rfl, rfl⟩
 by_cases h5 : k = 5
 ·subst h5
  go_enter Tryz.func33, Tryz.ntmps33
  go_wp2_with fail
  go_ret
  exact ⟨rfl, rfl⟩
 have d1 : ((k : Int) == 1) = false := by simp; omega
 have d2 : ((k : Int) == 2) = false := by simp; omega
 have d3 : ((k : Int) == 3) = false := by simp; omega
 have d4 : ((k : Int) == 4) = false := by simp; omega
 have d5 : ((k : Int) == 5) = false := by simp; omega
 have HT : Hid (Om.type k = 0) := Lib.hid (by simp [Om.type, *])
 clear h1 h2 h3 h4 h5
 go_enter Tryz.func33, Tryz.ntmps33
 go_wp2_with fail
 go_ret
 exact ⟨by rw [HT.out]; rfl, rfl⟩
end Go.Proofs.YteakbfbacfhhoaaGreat
namespace Go.Proofs.YteakbfbacfhhoaaGreat
open Go.RowKit Go.Buf
theorem cmp_less (x y : Dt.Dot) : decide (0 ≤ Dt.cmp x y) = !Dt.less x y := by
 unfold Dt.cmp Dt.less
 by_cases h1 : Dt.lt x y
 ·simp [h1]
 ·by_cases h2 : Dt.lt y x <;> simp [h1, h2]
theorem dropAt_zero {l : List Dt.Dot} {d : Dt.Dot} (h : l[0]? = some d) : Om.dropAt l 0 = Dt.may d := by simp [Om.dropAt, List.getD, h]
theorem dropAt_succ {l : List Dt.Dot} {k : Nat} {d e : Dt.Dot} (hk : 0 < k) (h : l[k]? = some d) (h' : l[k - 1]? = some e) : Om.dropAt l k = (Dt.may d && Dt.less e d) := by
 have : ¬ k = 0 := by omega
 simp [Om.dropAt, List.getD, h, h', this]
theorem dropAt_no {l : List Dt.Dot} {k : Nat} {d : Dt.Dot} (h : l[k]? = some d) (hm : Dt.may d = false) : Om.dropAt l k = false := by simp [Om.dropAt, List.getD, h, hm]
set_option maxRecDepth 100000 in
set_option maxHeartbeats 6400000 in
theorem mayDrops_any (a : Option Addr) (n cap : Nat) (l : List Dt.Dot) (W : World) (hr : VRow W a cap l) (hl : l.length = n) :
  Calls Tryz.prog 94 #[.slice a n cap] W fun e w' => e = .returned (.bool (Om.mayDrops l)) ∧ Below W.heap.size W w' := by
 have hle := hr.le
 have hcap := hr.cap
 rw [hl] at hle
 have HR := Lib.hid hr; have HL := Lib.hid hl
 clear hr hl
 by_cases h64 : n ≤ 64
 case neg =>
  go_enter Tryz.func94, Tryz.ntmps94
  go_wp2_with fail
  go_ret
  exact ⟨ret_bool (by simp [Om.mayDrops, HL.out, h64]), Below.refl _ _⟩
 go_enter Tryz.func94, Tryz.ntmps94
 go_wp2_with fail
 go_loopw [3, 4, 10] (fun _ _ i wr => ∃ k : Nat, k ≤ n ∧ i = .int .i64 k ∧ Om.upTo (Om.dropAt l) k = true ∧ Below W.heap.size W wr) (fun _ _ i _ => n - (intOf i).toNat)
 case atStart => exact ⟨0, Nat.zero_le _, rfl, Om.upTo_zero _, Below.refl _ _⟩
 case round =>
  obtain ⟨k, hk, rfl, hu, hbel⟩ := hrel
  have HU := Lib.hid hu; have HBel := Lib.hid hbel; clear hu hbel
  by_cases hlt : k < n
  ·obtain ⟨d, hd⟩ := getD_some (l := l) (i := k) (by rw [HL.out]; exact hlt)
   obtain ⟨blk, off, rfl, hblk, hcells⟩ := HR.out.at (by rw [HL.out]; omega)
   obtain ⟨g0, g1, g2⟩ := hcells k d hd
   have q0 := (HBel.out.cell (p := ⟨blk, off + k * 3, none⟩) hblk).trans g0
   have q1 := (HBel.out.cell (p := ⟨blk, off + k * 3 + 1, none⟩) hblk).trans g1
   have q2 := (HBel.out.cell (p := ⟨blk, off + k * 3 + 2, none⟩) hblk).trans g2
   have HD := Lib.hid hd; have HCs := Lib.hid hcells; have hsz := HBel.out.size
   obtain ⟨⟨r, i⟩, s⟩ := d
   simp only at q0 q1 q2
   have i0 : (0 : Int) ≤ (k : Int) := by omega
   have i1 : (k : Int) < (n : Int) := by omega
   clear hcells g0 g1 g2 hd
   cases hm : Dt.may ((r, i), s)
   ·have HMy := Lib.hid hm; clear hm
    have HX := Lib.hid (dropAt_no HD.out HMy.out)
    have hC : ∀ w2, Below (wr.alloc (.cells #[.int .u8 (r : Int), .int .u32 (i : Int), .int .u64 (s : Int)] 27)).drew.heap.size (wr.alloc (.cells #[.int .u8 (r : Int), .int .u32 (i : Int), .int .u64 (s : Int)] 27)).drew w2 → w2.cell? ⟨wr.heap.size, 0, none⟩ = some (.int .u8 (r : Int)) ∧ w2.cell? ⟨wr.heap.size, 1, none⟩ = some (.int .u32 (i : Int)) ∧ w2.cell? ⟨wr.heap.size, 2, none⟩ = some (.int .u64 (s : Int)) := fun w2 h =>
     ⟨(h.cell (p := ⟨wr.heap.size, 0, none⟩) (by simp)).trans (by simp), (h.cell (p := ⟨wr.heap.size, 1, none⟩) (by simp)).trans (by simp), (h.cell (p := ⟨wr.heap.size, 2, none⟩) (by simp)).trans (by simp)⟩
    have HC := Lib.hid hC; clear hC
    go_wp2_with fail
    refine Reg.region_list (by kernel_rfl) [fun v _ => v = .agg #[.int .u8 (r : Int), .int .u32 (i : Int), .int .u64 (s : Int)], fun v _ => v = .bool false, fun v _ => v = .bool true, fun v _ => v = .bool true, fun v _ => v = undef, fun v _ => v = undef, fun v _ => v = undef, fun v _ => v = undef, fun v _ => v = undef, fun v _ => v = undef, fun v _ => v = undef, fun v _ => v = undef, fun v _ => v = undef, fun v _ => v = undef, fun v _ => v = undef, fun v _ => v = undef, fun v _ => v = .bool true] (by kernel_rfl) ?_ ?_ ?_
    ·refine ⟨k4, k4, k4, k4, k4, k4, k4, k4, k4, k4, k4, k4, k4, k4, k4, k4, k4, trivial⟩
    ·refine ⟨?_, ?_, ?_, ?_, ?_, ?_, ?_, ?_, ?_, ?_, ?_, ?_, ?_, ?_, ?_, ?_, ?_, trivial⟩
     ·intro ev w hc hf hg hfix hdep hbel
      have e4 : ev (.tmp 4) = _ := hfix 4 (by decide)
      obtain ⟨hc0, hc1, hc2⟩ := HC.out w hbel
      exact okb trivial rfl (by go_simp)
     ·intro ev w hc hf hg hfix hdep hbel
      have e15 : ev (.tmp 15) = _ := hdep 0 (by decide)
      refine Or.inl ⟨trivial, Or.inr ⟨48, #[.agg #[.int .u8 (r : Int), .int .u32 (i : Int), .int .u64 (s : Int)]], w, by go_simp, ?_⟩⟩
      refine (may_any r i s w).mono ?_
      rintro e w1 ⟨rfl, hb1⟩
      exact ⟨_, rfl, by rw [HMy.out], hb1⟩
     ·intro ev w hc hf hg hfix hdep hbel
      have e16 : ev (.tmp 16) = _ := hdep 1 (by decide)
      exact okb trivial rfl (by go_simp)
     ·intro ev w hc hf hg hfix hdep hbel
      have e17 : ev (.tmp 17) = _ := hdep 2 (by decide)
      exact okb trivial rfl (by go_simp)
     ·intro ev w hc hf hg hfix hdep hbel
      have fg : ev (.tmp 18) = _ := hdep 3 (by decide)
      exact Or.inr ⟨Or.inl fg, rfl⟩
     ·intro ev w hc hf hg hfix hdep hbel
      have fg : ev (.tmp 18) = _ := hdep 3 (by decide)
      exact Or.inr ⟨Or.inl fg, rfl⟩
     ·intro ev w hc hf hg hfix hdep hbel
      have fg : ev (.tmp 18) = _ := hdep 3 (by decide)
      exact Or.inr ⟨Or.inl fg, rfl⟩
     ·intro ev w hc hf hg hfix hdep hbel
      have fg : ev (.tmp 21) = _ := hdep 6 (by decide)
      exact Or.inr ⟨Or.inr fg, rfl⟩
     ·intro ev w hc hf hg hfix hdep hbel
      have fg : ev (.tmp 21) = _ := hdep 6 (by decide)
      exact Or.inr ⟨Or.inr fg, rfl⟩
     ·intro ev w hc hf hg hfix hdep hbel
      have fg : ev (.tmp 21) = _ := hdep 6 (by decide)
      exact Or.inr ⟨Or.inr fg, rfl⟩
     ·intro ev w hc hf hg hfix hdep hbel
      have fg : ev (.tmp 21) = _ := hdep 6 (by decide)
      exact Or.inr ⟨Or.inr fg, rfl⟩
     ·intro ev w hc hf hg hfix hdep hbel
      have fg : ev (.tmp 21) = _ := hdep 6 (by decide)
      exact Or.inr ⟨Or.inr fg, rfl⟩
     ·intro ev w hc hf hg hfix hdep hbel
      have fg : ev (.tmp 21) = _ := hdep 6 (by decide)
      exact Or.inr ⟨Or.inr fg, rfl⟩
     ·intro ev w hc hf hg hfix hdep hbel
      have fg : ev (.tmp 21) = _ := hdep 6 (by decide)
      exact Or.inr ⟨Or.inr fg, rfl⟩
     ·intro ev w hc hf hg hfix hdep hbel
      have fg : ev (.tmp 21) = _ := hdep 6 (by decide)
      exact Or.inr ⟨Or.inr fg, rfl⟩
     ·intro ev w hc hf hg hfix hdep hbel
      have fg : ev (.tmp 18) = _ := hdep 3 (by decide)
      exact Or.inr ⟨Or.inl fg, rfl⟩
     ·intro ev w hc hf hg hfix hdep hbel
      have e18 : ev (.tmp 18) = _ := hdep 3 (by decide)
      have e30 : ev (.tmp 30) = _ := hdep 15 (by decide)
      exact okb trivial rfl (by go_simp)
    ·intro v w2 hv hb2
     have r0 : v 0 = _ := hv 0 (by decide)
     have r1 : v 1 = _ := hv 1 (by decide)
     have r2 : v 2 = _ := hv 2 (by decide)
     have r3 : v 3 = _ := hv 3 (by decide)
     have r4 : v 4 = _ := hv 4 (by decide)
     have r5 : v 5 = _ := hv 5 (by decide)
     have r6 : v 6 = _ := hv 6 (by decide)
     have r7 : v 7 = _ := hv 7 (by decide)
     have r8 : v 8 = _ := hv 8 (by decide)
     have r9 : v 9 = _ := hv 9 (by decide)
     have r10 : v 10 = _ := hv 10 (by decide)
     have r11 : v 11 = _ := hv 11 (by decide)
     have r12 : v 12 = _ := hv 12 (by decide)
     have r13 : v 13 = _ := hv 13 (by decide)
     have r14 : v 14 = _ := hv 14 (by decide)
     have r15 : v 15 = _ := hv 15 (by decide)
     have r16 : v 16 = _ := hv 16 (by decide)
     simp only [Reg.putAll, Act.put, List.setIfInBounds_toArray, List.set_cons_zero, List.set_cons_succ, r0, r1, r2, r3, r4, r5, r6, r7, r8, r9, r10, r11, r12, r13, r14, r15, r16]
     clear r0 r1 r2 r3 r4 r5 r6 r7 r8 r9 r10 r11 r12 r13 r14 r15 r16 hv
     have HBw := Lib.hid (HBel.out.trans (((Below.alloc (Below.refl _ _) (Nat.le_refl _) _).trans (hb2.mono (by simp))).mono HBel.out.size)); clear hb2
     go_wp2_with fail
     go_ret
     exact ⟨ret_bool (by simp [Om.mayDrops, HL.out, Om.upTo_not hlt HX.out]), HBw.out⟩
   ·have HMy := Lib.hid hm; clear hm
    by_cases hk0 : k = 0
    ·subst hk0
     simp only [Nat.zero_mul, Nat.add_zero] at q0 q1 q2
     have HX := Lib.hid ((dropAt_zero HD.out).trans HMy.out)
     have hC : ∀ w2, Below (wr.alloc (.cells #[.int .u8 (r : Int), .int .u32 (i : Int), .int .u64 (s : Int)] 27)).drew.heap.size (wr.alloc (.cells #[.int .u8 (r : Int), .int .u32 (i : Int), .int .u64 (s : Int)] 27)).drew w2 → w2.cell? ⟨wr.heap.size, 0, none⟩ = some (.int .u8 (r : Int)) ∧ w2.cell? ⟨wr.heap.size, 1, none⟩ = some (.int .u32 (i : Int)) ∧ w2.cell? ⟨wr.heap.size, 2, none⟩ = some (.int .u64 (s : Int)) := fun w2 h =>
      ⟨(h.cell (p := ⟨wr.heap.size, 0, none⟩) (by simp)).trans (by simp), (h.cell (p := ⟨wr.heap.size, 1, none⟩) (by simp)).trans (by simp), (h.cell (p := ⟨wr.heap.size, 2, none⟩) (by simp)).trans (by simp)⟩
     have HC := Lib.hid hC; clear hC
     go_wp2_with fail
     refine Reg.region_list (by kernel_rfl) [fun v _ => v = .agg #[.int .u8 (r : Int), .int .u32 (i : Int), .int .u64 (s : Int)], fun v _ => v = .bool true, fun v _ => v = .bool false, fun v _ => v = .bool false, fun v _ => v = .int .i64 ((0 : Nat) : Int), fun v _ => v = .bool false, fun v _ => v = .bool false, fun v _ => v = undef, fun v _ => v = undef, fun v _ => v = undef, fun v _ => v = undef, fun v _ => v = undef, fun v _ => v = undef, fun v _ => v = undef, fun v _ => v = undef, fun v _ => v = .bool false, fun v _ => v = .bool false] (by kernel_rfl) ?_ ?_ ?_
     ·refine ⟨k4, k4, k4, k4, k4, k4, k4, k4, k4, k4, k4, k4, k4, k4, k4, k4, k4, trivial⟩
     ·refine ⟨?_, ?_, ?_, ?_, ?_, ?_, ?_, ?_, ?_, ?_, ?_, ?_, ?_, ?_, ?_, ?_, ?_, trivial⟩
      ·intro ev w hc hf hg hfix hdep hbel
       have e4 : ev (.tmp 4) = _ := hfix 4 (by decide)
       obtain ⟨hc0, hc1, hc2⟩ := HC.out w hbel
       exact okb trivial rfl (by go_simp)
      ·intro ev w hc hf hg hfix hdep hbel
       have e15 : ev (.tmp 15) = _ := hdep 0 (by decide)
       refine Or.inl ⟨trivial, Or.inr ⟨48, #[.agg #[.int .u8 (r : Int), .int .u32 (i : Int), .int .u64 (s : Int)]], w, by go_simp, ?_⟩⟩
       refine (may_any r i s w).mono ?_
       rintro e w1 ⟨rfl, hb1⟩
       exact ⟨_, rfl, by rw [HMy.out], hb1⟩
      ·intro ev w hc hf hg hfix hdep hbel
       have e16 : ev (.tmp 16) = _ := hdep 1 (by decide)
       exact okb trivial rfl (by go_simp)
      ·intro ev w hc hf hg hfix hdep hbel
       have e17 : ev (.tmp 17) = _ := hdep 2 (by decide)
       exact okb trivial rfl (by go_simp)
      ·intro ev w hc hf hg hfix hdep hbel
       have fg : ev (.tmp 18) = _ := hdep 3 (by decide)
       have e3 : ev (.tmp 3) = _ := hfix 3 (by decide)
       exact okb fg rfl (by go_simp)
      ·intro ev w hc hf hg hfix hdep hbel
       have fg : ev (.tmp 18) = _ := hdep 3 (by decide)
       have e19 : ev (.tmp 19) = _ := hdep 4 (by decide)
       exact okb fg rfl (by go_simp)
      ·intro ev w hc hf hg hfix hdep hbel
       have fg : ev (.tmp 18) = _ := hdep 3 (by decide)
       have e20 : ev (.tmp 20) = _ := hdep 5 (by decide)
       exact okb fg rfl (by go_simp)
      ·intro ev w hc hf hg hfix hdep hbel
       have fg : ev (.tmp 21) = _ := hdep 6 (by decide)
       exact Or.inr ⟨Or.inl fg, rfl⟩
      ·intro ev w hc hf hg hfix hdep hbel
       have fg : ev (.tmp 21) = _ := hdep 6 (by decide)
       exact Or.inr ⟨Or.inl fg, rfl⟩
      ·intro ev w hc hf hg hfix hdep hbel
       have fg : ev (.tmp 21) = _ := hdep 6 (by decide)
       exact Or.inr ⟨Or.inl fg, rfl⟩
      ·intro ev w hc hf hg hfix hdep hbel
       have fg : ev (.tmp 21) = _ := hdep 6 (by decide)
       exact Or.inr ⟨Or.inl fg, rfl⟩
      ·intro ev w hc hf hg hfix hdep hbel
       have fg : ev (.tmp 21) = _ := hdep 6 (by decide)
       exact Or.inr ⟨Or.inl fg, rfl⟩
      ·intro ev w hc hf hg hfix hdep hbel
       have fg : ev (.tmp 21) = _ := hdep 6 (by decide)
       exact Or.inr ⟨Or.inl fg, rfl⟩
      ·intro ev w hc hf hg hfix hdep hbel
       have fg : ev (.tmp 21) = _ := hdep 6 (by decide)
       exact Or.inr ⟨Or.inl fg, rfl⟩
      ·intro ev w hc hf hg hfix hdep hbel
       have fg : ev (.tmp 21) = _ := hdep 6 (by decide)
       exact Or.inr ⟨Or.inl fg, rfl⟩
      ·intro ev w hc hf hg hfix hdep hbel
       have fg : ev (.tmp 18) = _ := hdep 3 (by decide)
       have e21 : ev (.tmp 21) = _ := hdep 6 (by decide)
       have e29 : ev (.tmp 29) = _ := hdep 14 (by decide)
       exact okb fg rfl (by go_simp)
      ·intro ev w hc hf hg hfix hdep hbel
       have e18 : ev (.tmp 18) = _ := hdep 3 (by decide)
       have e30 : ev (.tmp 30) = _ := hdep 15 (by decide)
       exact okb trivial rfl (by go_simp)
     ·intro v w2 hv hb2
      have r0 : v 0 = _ := hv 0 (by decide)
      have r1 : v 1 = _ := hv 1 (by decide)
      have r2 : v 2 = _ := hv 2 (by decide)
      have r3 : v 3 = _ := hv 3 (by decide)
      have r4 : v 4 = _ := hv 4 (by decide)
      have r5 : v 5 = _ := hv 5 (by decide)
      have r6 : v 6 = _ := hv 6 (by decide)
      have r7 : v 7 = _ := hv 7 (by decide)
      have r8 : v 8 = _ := hv 8 (by decide)
      have r9 : v 9 = _ := hv 9 (by decide)
      have r10 : v 10 = _ := hv 10 (by decide)
      have r11 : v 11 = _ := hv 11 (by decide)
      have r12 : v 12 = _ := hv 12 (by decide)
      have r13 : v 13 = _ := hv 13 (by decide)
      have r14 : v 14 = _ := hv 14 (by decide)
      have r15 : v 15 = _ := hv 15 (by decide)
      have r16 : v 16 = _ := hv 16 (by decide)
      simp only [Reg.putAll, Act.put, List.setIfInBounds_toArray, List.set_cons_zero, List.set_cons_succ, r0, r1, r2, r3, r4, r5, r6, r7, r8, r9, r10, r11, r12, r13, r14, r15, r16]
      clear r0 r1 r2 r3 r4 r5 r6 r7 r8 r9 r10 r11 r12 r13 r14 r15 r16 hv
      have HBw := Lib.hid (HBel.out.trans (((Below.alloc (Below.refl _ _) (Nat.le_refl _) _).trans (hb2.mono (by simp))).mono HBel.out.size)); clear hb2
      go_wp2_with fail
      go_roundw
      case rel => exact ⟨0 + 1, by omega, by go_num, Om.upTo_succ HU.out HX.out, HBw.out⟩
      case measure => simp [intOf]; omega
    ·obtain ⟨j, rfl⟩ : ∃ j, k = j + 1 := ⟨k - 1, by omega⟩
     obtain ⟨e, he⟩ := getD_some (l := l) (i := j) (by rw [HL.out]; omega)
     obtain ⟨g0, g1, g2⟩ := HCs.out j e he
     have p0 := (HBel.out.cell (p := ⟨blk, off + j * 3, none⟩) hblk).trans g0
     have p1 := (HBel.out.cell (p := ⟨blk, off + j * 3 + 1, none⟩) hblk).trans g1
     have p2 := (HBel.out.cell (p := ⟨blk, off + j * 3 + 2, none⟩) hblk).trans g2
     have hbw := World.block_lt_of_cell? _ _ p0
     have j0 : (0 : Int) ≤ (j : Int) := by omega
     have j1 : (j : Int) < (n : Int) := by omega
     have j2 : IntKind.i64.wrap (j : Int) = (j : Int) := by simp [IntKind.wrap, IntKind.bits, IntKind.signed]; omega
     have j3 : ¬ n ≤ j := by omega
     simp only at hbw
     have hd := dropAt_succ (l := l) (k := j + 1) (d := ((r, i), s)) (e := e) (by omega) HD.out he
     have HE := Lib.hid he; clear g0 g1 g2 he hk0
     rw [HMy.out, Bool.true_and] at hd
     obtain ⟨⟨r', i'⟩, s'⟩ := e
     simp only at p0 p1 p2
     have hC : ∀ w2, Below (wr.alloc (.cells #[.int .u8 (r : Int), .int .u32 (i : Int), .int .u64 (s : Int)] 27)).drew.heap.size (wr.alloc (.cells #[.int .u8 (r : Int), .int .u32 (i : Int), .int .u64 (s : Int)] 27)).drew w2 → w2.cell? ⟨wr.heap.size, 0, none⟩ = some (.int .u8 (r : Int)) ∧ w2.cell? ⟨wr.heap.size, 1, none⟩ = some (.int .u32 (i : Int)) ∧ w2.cell? ⟨wr.heap.size, 2, none⟩ = some (.int .u64 (s : Int)) ∧ w2.cell? ⟨blk, off + j * 3, none⟩ = some (.int .u8 (r' : Int)) ∧ w2.cell? ⟨blk, off + j * 3 + 1, none⟩ = some (.int .u32 (i' : Int)) ∧ w2.cell? ⟨blk, off + j * 3 + 2, none⟩ = some (.int .u64 (s' : Int)) := fun w2 h =>
      ⟨(h.cell (p := ⟨wr.heap.size, 0, none⟩) (by simp)).trans (by simp), (h.cell (p := ⟨wr.heap.size, 1, none⟩) (by simp)).trans (by simp), (h.cell (p := ⟨wr.heap.size, 2, none⟩) (by simp)).trans (by simp), ((Below.alloc (Below.refl wr.heap.size wr) (Nat.le_refl _) _).drew.trans (h.mono (by simp))).cell (p := ⟨blk, off + j * 3, none⟩) (by simp only; omega) |>.trans p0, ((Below.alloc (Below.refl wr.heap.size wr) (Nat.le_refl _) _).drew.trans (h.mono (by simp))).cell (p := ⟨blk, off + j * 3 + 1, none⟩) (by simp only; omega) |>.trans p1, ((Below.alloc (Below.refl wr.heap.size wr) (Nat.le_refl _) _).drew.trans (h.mono (by simp))).cell (p := ⟨blk, off + j * 3 + 2, none⟩) (by simp only; omega) |>.trans p2⟩
     have HC := Lib.hid hC; clear hC
     clear p0 p1 p2
     have hcl := cmp_less ((r', i'), s') ((r, i), s)
     cases hls : Dt.less ((r', i'), s') ((r, i), s)
     ·rw [hls] at hd hcl
      have HX := Lib.hid hd
      have hcz : 0 ≤ Dt.cmp ((r', i'), s') ((r, i), s) := by simpa using hcl
      clear hd hcl hls
      go_wp2_with fail
      refine Reg.region_list (by kernel_rfl) [fun v _ => v = .agg #[.int .u8 (r : Int), .int .u32 (i : Int), .int .u64 (s : Int)], fun v _ => v = .bool true, fun v _ => v = .bool false, fun v _ => v = .bool false, fun v _ => v = .int .i64 ((j + 1 : Nat) : Int), fun v _ => v = .bool true, fun v _ => v = .bool true, fun v _ => v = .slice (some ⟨blk, off, none⟩) n cap, fun v _ => v = .int .i64 ((j + 1 : Nat) : Int), fun v _ => v = .int .i64 (j : Int), fun v _ => v = .pointer (some ⟨blk, off + j * 3, none⟩), fun v _ => v = dotV ((r', i'), s'), fun v _ => v = .agg #[.int .u8 (r : Int), .int .u32 (i : Int), .int .u64 (s : Int)], fun v _ => v = .int .i64 (Dt.cmp ((r', i'), s') ((r, i), s)), fun v _ => v = .bool true, fun v _ => v = .bool true, fun v _ => v = .bool true] (by kernel_rfl) ?_ ?_ ?_
      ·refine ⟨k4, k4, k4, k4, k4, k4, k4, k4, k4, k4, k4, k4, k4, k4, k4, k4, k4, trivial⟩
      ·refine ⟨?_, ?_, ?_, ?_, ?_, ?_, ?_, ?_, ?_, ?_, ?_, ?_, ?_, ?_, ?_, ?_, ?_, trivial⟩
       ·intro ev w hc hf hg hfix hdep hbel
        have e4 : ev (.tmp 4) = _ := hfix 4 (by decide)
        obtain ⟨hc0, hc1, hc2, hc3, hc4, hc5⟩ := HC.out w hbel
        exact okb trivial rfl (by go_simp)
       ·intro ev w hc hf hg hfix hdep hbel
        have e15 : ev (.tmp 15) = _ := hdep 0 (by decide)
        refine Or.inl ⟨trivial, Or.inr ⟨48, #[.agg #[.int .u8 (r : Int), .int .u32 (i : Int), .int .u64 (s : Int)]], w, by go_simp, ?_⟩⟩
        refine (may_any r i s w).mono ?_
        rintro e w1 ⟨rfl, hb1⟩
        exact ⟨_, rfl, by rw [HMy.out], hb1⟩
       ·intro ev w hc hf hg hfix hdep hbel
        have e16 : ev (.tmp 16) = _ := hdep 1 (by decide)
        exact okb trivial rfl (by go_simp)
       ·intro ev w hc hf hg hfix hdep hbel
        have e17 : ev (.tmp 17) = _ := hdep 2 (by decide)
        exact okb trivial rfl (by go_simp)
       ·intro ev w hc hf hg hfix hdep hbel
        have fg : ev (.tmp 18) = _ := hdep 3 (by decide)
        have e3 : ev (.tmp 3) = _ := hfix 3 (by decide)
        exact okb fg rfl (by go_simp)
       ·intro ev w hc hf hg hfix hdep hbel
        have fg : ev (.tmp 18) = _ := hdep 3 (by decide)
        have e19 : ev (.tmp 19) = _ := hdep 4 (by decide)
        exact okb fg rfl (by go_simp)
       ·intro ev w hc hf hg hfix hdep hbel
        have fg : ev (.tmp 18) = _ := hdep 3 (by decide)
        have e20 : ev (.tmp 20) = _ := hdep 5 (by decide)
        exact okb fg rfl (by go_simp)
       ·intro ev w hc hf hg hfix hdep hbel
        have fg : ev (.tmp 21) = _ := hdep 6 (by decide)
        have e0 : ev (.tmp 0) = _ := hfix 0 (by decide)
        exact okb fg rfl (by go_simp)
       ·intro ev w hc hf hg hfix hdep hbel
        have fg : ev (.tmp 21) = _ := hdep 6 (by decide)
        have e3 : ev (.tmp 3) = _ := hfix 3 (by decide)
        exact okb fg rfl (by go_simp)
       ·intro ev w hc hf hg hfix hdep hbel
        have fg : ev (.tmp 21) = _ := hdep 6 (by decide)
        have e23 : ev (.tmp 23) = _ := hdep 8 (by decide)
        exact okb fg rfl (by go_simp)
       ·intro ev w hc hf hg hfix hdep hbel
        have fg : ev (.tmp 21) = _ := hdep 6 (by decide)
        have e22 : ev (.tmp 22) = _ := hdep 7 (by decide)
        have e24 : ev (.tmp 24) = _ := hdep 9 (by decide)
        exact okb fg rfl (by go_simp)
       ·intro ev w hc hf hg hfix hdep hbel
        have fg : ev (.tmp 21) = _ := hdep 6 (by decide)
        have e25 : ev (.tmp 25) = _ := hdep 10 (by decide)
        obtain ⟨hc0, hc1, hc2, hc3, hc4, hc5⟩ := HC.out w hbel
        exact okb fg rfl (by go_simp)
       ·intro ev w hc hf hg hfix hdep hbel
        have fg : ev (.tmp 21) = _ := hdep 6 (by decide)
        have e4 : ev (.tmp 4) = _ := hfix 4 (by decide)
        obtain ⟨hc0, hc1, hc2, hc3, hc4, hc5⟩ := HC.out w hbel
        exact okb fg rfl (by go_simp)
       ·intro ev w hc hf hg hfix hdep hbel
        have fg : ev (.tmp 21) = _ := hdep 6 (by decide)
        have e26 : ev (.tmp 26) = _ := hdep 11 (by decide)
        have e27 : ev (.tmp 27) = _ := hdep 12 (by decide)
        refine Or.inl ⟨fg, Or.inr ⟨26, #[dotV ((r', i'), s'), .agg #[.int .u8 (r : Int), .int .u32 (i : Int), .int .u64 (s : Int)]], w, by go_simp, ?_⟩⟩
        refine (compare_any r' i' s' r i s w).mono ?_
        rintro e w1 ⟨rfl, hb1⟩
        exact ⟨_, rfl, rfl, hb1.below⟩
       ·intro ev w hc hf hg hfix hdep hbel
        have fg : ev (.tmp 21) = _ := hdep 6 (by decide)
        have e28 : ev (.tmp 28) = _ := hdep 13 (by decide)
        exact okb fg rfl (by go_simp)
       ·intro ev w hc hf hg hfix hdep hbel
        have fg : ev (.tmp 18) = _ := hdep 3 (by decide)
        have e21 : ev (.tmp 21) = _ := hdep 6 (by decide)
        have e29 : ev (.tmp 29) = _ := hdep 14 (by decide)
        exact okb fg rfl (by go_simp)
       ·intro ev w hc hf hg hfix hdep hbel
        have e18 : ev (.tmp 18) = _ := hdep 3 (by decide)
        have e30 : ev (.tmp 30) = _ := hdep 15 (by decide)
        exact okb trivial rfl (by go_simp)
      ·intro v w2 hv hb2
       have r0 : v 0 = _ := hv 0 (by decide)
       have r1 : v 1 = _ := hv 1 (by decide)
       have r2 : v 2 = _ := hv 2 (by decide)
       have r3 : v 3 = _ := hv 3 (by decide)
       have r4 : v 4 = _ := hv 4 (by decide)
       have r5 : v 5 = _ := hv 5 (by decide)
       have r6 : v 6 = _ := hv 6 (by decide)
       have r7 : v 7 = _ := hv 7 (by decide)
       have r8 : v 8 = _ := hv 8 (by decide)
       have r9 : v 9 = _ := hv 9 (by decide)
       have r10 : v 10 = _ := hv 10 (by decide)
       have r11 : v 11 = _ := hv 11 (by decide)
       have r12 : v 12 = _ := hv 12 (by decide)
       have r13 : v 13 = _ := hv 13 (by decide)
       have r14 : v 14 = _ := hv 14 (by decide)
       have r15 : v 15 = _ := hv 15 (by decide)
       have r16 : v 16 = _ := hv 16 (by decide)
       simp only [Reg.putAll, Act.put, List.setIfInBounds_toArray, List.set_cons_zero, List.set_cons_succ, r0, r1, r2, r3, r4, r5, r6, r7, r8, r9, r10, r11, r12, r13, r14, r15, r16]
       clear r0 r1 r2 r3 r4 r5 r6 r7 r8 r9 r10 r11 r12 r13 r14 r15 r16 hv
       have HBw := Lib.hid (HBel.out.trans (((Below.alloc (Below.refl _ _) (Nat.le_refl _) _).trans (hb2.mono (by simp))).mono HBel.out.size)); clear hb2
       go_wp2_with fail
       go_ret
       exact ⟨ret_bool (by simp [Om.mayDrops, HL.out, Om.upTo_not hlt HX.out]), HBw.out⟩
     ·rw [hls] at hd hcl
      have HX := Lib.hid hd
      have hcz : Dt.cmp ((r', i'), s') ((r, i), s) < 0 := by simpa using hcl
      clear hd hcl hls
      go_wp2_with fail
      refine Reg.region_list (by kernel_rfl) [fun v _ => v = .agg #[.int .u8 (r : Int), .int .u32 (i : Int), .int .u64 (s : Int)], fun v _ => v = .bool true, fun v _ => v = .bool false, fun v _ => v = .bool false, fun v _ => v = .int .i64 ((j + 1 : Nat) : Int), fun v _ => v = .bool true, fun v _ => v = .bool true, fun v _ => v = .slice (some ⟨blk, off, none⟩) n cap, fun v _ => v = .int .i64 ((j + 1 : Nat) : Int), fun v _ => v = .int .i64 (j : Int), fun v _ => v = .pointer (some ⟨blk, off + j * 3, none⟩), fun v _ => v = dotV ((r', i'), s'), fun v _ => v = .agg #[.int .u8 (r : Int), .int .u32 (i : Int), .int .u64 (s : Int)], fun v _ => v = .int .i64 (Dt.cmp ((r', i'), s') ((r, i), s)), fun v _ => v = .bool false, fun v _ => v = .bool false, fun v _ => v = .bool false] (by kernel_rfl) ?_ ?_ ?_
      ·refine ⟨k4, k4, k4, k4, k4, k4, k4, k4, k4, k4, k4, k4, k4, k4, k4, k4, k4, trivial⟩
      ·refine ⟨?_, ?_, ?_, ?_, ?_, ?_, ?_, ?_, ?_, ?_, ?_, ?_, ?_, ?_, ?_, ?_, ?_, trivial⟩
       ·intro ev w hc hf hg hfix hdep hbel
        have e4 : ev (.tmp 4) = _ := hfix 4 (by decide)
        obtain ⟨hc0, hc1, hc2, hc3, hc4, hc5⟩ := HC.out w hbel
        exact okb trivial rfl (by go_simp)
       ·intro ev w hc hf hg hfix hdep hbel
        have e15 : ev (.tmp 15) = _ := hdep 0 (by decide)
        refine Or.inl ⟨trivial, Or.inr ⟨48, #[.agg #[.int .u8 (r : Int), .int .u32 (i : Int), .int .u64 (s : Int)]], w, by go_simp, ?_⟩⟩
        refine (may_any r i s w).mono ?_
        rintro e w1 ⟨rfl, hb1⟩
        exact ⟨_, rfl, by rw [HMy.out], hb1⟩
       ·intro ev w hc hf hg hfix hdep hbel
        have e16 : ev (.tmp 16) = _ := hdep 1 (by decide)
        exact okb trivial rfl (by go_simp)
       ·intro ev w hc hf hg hfix hdep hbel
        have e17 : ev (.tmp 17) = _ := hdep 2 (by decide)
        exact okb trivial rfl (by go_simp)
       ·intro ev w hc hf hg hfix hdep hbel
        have fg : ev (.tmp 18) = _ := hdep 3 (by decide)
        have e3 : ev (.tmp 3) = _ := hfix 3 (by decide)
        exact okb fg rfl (by go_simp)
       ·intro ev w hc hf hg hfix hdep hbel
        have fg : ev (.tmp 18) = _ := hdep 3 (by decide)
        have e19 : ev (.tmp 19) = _ := hdep 4 (by decide)
        exact okb fg rfl (by go_simp)
       ·intro ev w hc hf hg hfix hdep hbel
        have fg : ev (.tmp 18) = _ := hdep 3 (by decide)
        have e20 : ev (.tmp 20) = _ := hdep 5 (by decide)
        exact okb fg rfl (by go_simp)
       ·intro ev w hc hf hg hfix hdep hbel
        have fg : ev (.tmp 21) = _ := hdep 6 (by decide)
        have e0 : ev (.tmp 0) = _ := hfix 0 (by decide)
        exact okb fg rfl (by go_simp)
       ·intro ev w hc hf hg hfix hdep hbel
        have fg : ev (.tmp 21) = _ := hdep 6 (by decide)
        have e3 : ev (.tmp 3) = _ := hfix 3 (by decide)
        exact okb fg rfl (by go_simp)
       ·intro ev w hc hf hg hfix hdep hbel
        have fg : ev (.tmp 21) = _ := hdep 6 (by decide)
        have e23 : ev (.tmp 23) = _ := hdep 8 (by decide)
        exact okb fg rfl (by go_simp)
       ·intro ev w hc hf hg hfix hdep hbel
        have fg : ev (.tmp 21) = _ := hdep 6 (by decide)
        have e22 : ev (.tmp 22) = _ := hdep 7 (by decide)
        have e24 : ev (.tmp 24) = _ := hdep 9 (by decide)
        exact okb fg rfl (by go_simp)
       ·intro ev w hc hf hg hfix hdep hbel
        have fg : ev (.tmp 21) = _ := hdep 6 (by decide)
        have e25 : ev (.tmp 25) = _ := hdep 10 (by decide)
        obtain ⟨hc0, hc1, hc2, hc3, hc4, hc5⟩ := HC.out w hbel
        exact okb fg rfl (by go_simp)
       ·intro ev w hc hf hg hfix hdep hbel
        have fg : ev (.tmp 21) = _ := hdep 6 (by decide)
        have e4 : ev (.tmp 4) = _ := hfix 4 (by decide)
        obtain ⟨hc0, hc1, hc2, hc3, hc4, hc5⟩ := HC.out w hbel
        exact okb fg rfl (by go_simp)
       ·intro ev w hc hf hg hfix hdep hbel
        have fg : ev (.tmp 21) = _ := hdep 6 (by decide)
        have e26 : ev (.tmp 26) = _ := hdep 11 (by decide)
        have e27 : ev (.tmp 27) = _ := hdep 12 (by decide)
        refine Or.inl ⟨fg, Or.inr ⟨26, #[dotV ((r', i'), s'), .agg #[.int .u8 (r : Int), .int .u32 (i : Int), .int .u64 (s : Int)]], w, by go_simp, ?_⟩⟩
        refine (compare_any r' i' s' r i s w).mono ?_
        rintro e w1 ⟨rfl, hb1⟩
        exact ⟨_, rfl, rfl, hb1.below⟩
       ·intro ev w hc hf hg hfix hdep hbel
        have fg : ev (.tmp 21) = _ := hdep 6 (by decide)
        have e28 : ev (.tmp 28) = _ := hdep 13 (by decide)
        exact okb fg rfl (by go_simp)
       ·intro ev w hc hf hg hfix hdep hbel
        have fg : ev (.tmp 18) = _ := hdep 3 (by decide)
        have e21 : ev (.tmp 21) = _ := hdep 6 (by decide)
        have e29 : ev (.tmp 29) = _ := hdep 14 (by decide)
        exact okb fg rfl (by go_simp)
       ·intro ev w hc hf hg hfix hdep hbel
        have e18 : ev (.tmp 18) = _ := hdep 3 (by decide)
        have e30 : ev (.tmp 30) = _ := hdep 15 (by decide)
        exact okb trivial rfl (by go_simp)
      ·intro v w2 hv hb2
       have r0 : v 0 = _ := hv 0 (by decide)
       have r1 : v 1 = _ := hv 1 (by decide)
       have r2 : v 2 = _ := hv 2 (by decide)
       have r3 : v 3 = _ := hv 3 (by decide)
       have r4 : v 4 = _ := hv 4 (by decide)
       have r5 : v 5 = _ := hv 5 (by decide)
       have r6 : v 6 = _ := hv 6 (by decide)
       have r7 : v 7 = _ := hv 7 (by decide)
       have r8 : v 8 = _ := hv 8 (by decide)
       have r9 : v 9 = _ := hv 9 (by decide)
       have r10 : v 10 = _ := hv 10 (by decide)
       have r11 : v 11 = _ := hv 11 (by decide)
       have r12 : v 12 = _ := hv 12 (by decide)
       have r13 : v 13 = _ := hv 13 (by decide)
       have r14 : v 14 = _ := hv 14 (by decide)
       have r15 : v 15 = _ := hv 15 (by decide)
       have r16 : v 16 = _ := hv 16 (by decide)
       simp only [Reg.putAll, Act.put, List.setIfInBounds_toArray, List.set_cons_zero, List.set_cons_succ, r0, r1, r2, r3, r4, r5, r6, r7, r8, r9, r10, r11, r12, r13, r14, r15, r16]
       clear r0 r1 r2 r3 r4 r5 r6 r7 r8 r9 r10 r11 r12 r13 r14 r15 r16 hv
       have HBw := Lib.hid (HBel.out.trans (((Below.alloc (Below.refl _ _) (Nat.le_refl _) _).trans (hb2.mono (by simp))).mono HBel.out.size)); clear hb2
       go_wp2_with fail
       go_roundw
       case rel => exact ⟨(j + 1) + 1, by omega, by go_num, Om.upTo_succ HU.out HX.out, HBw.out⟩
       case measure => simp [intOf]; omega
  ·obtain rfl : k = n := by omega
   go_wp2_with fail
   go_ret
   exact ⟨ret_bool (by simp [Om.mayDrops, HL.out, HU.out, h64]), HBel.out⟩
end Go.Proofs.YteakbfbacfhhoaaGreat
