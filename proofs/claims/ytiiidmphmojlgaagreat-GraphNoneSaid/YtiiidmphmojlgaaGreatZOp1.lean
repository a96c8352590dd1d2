import Derived.Test.YtiiidmphmojlgaaGreatZOpMath
import Derived.Test.YtiiidmphmojlgaaGreatZDot4
namespace Go.Proofs.YtiiidmphmojlgaaGreat
open Go.RowKit Go.Buf
def SRow (w : World) (a : Option Addr) (cap : Nat) (l : List ByteArray) : Prop :=
 l.length ≤ cap ∧ cap ≤ 9223372036854775807 ∧ (∀ s ∈ l, s.size ≤ 9223372036854775807) ∧ (a = none → cap = 0) ∧
 ∀ i s, l[i]? = some s → ∃ p, a = some p ∧ w.cell? (p.add i) = some (.string s)
theorem SRow.le {w : World} {a : Option Addr} {cap : Nat} {l : List ByteArray} (h : SRow w a cap l) : l.length ≤ cap := h.1
theorem SRow.cap {w : World} {a : Option Addr} {cap : Nat} {l : List ByteArray} (h : SRow w a cap l) : cap ≤ 9223372036854775807 := h.2.1
theorem SRow.ok {w : World} {a : Option Addr} {cap : Nat} {l : List ByteArray} (h : SRow w a cap l) : ∀ s ∈ l, s.size ≤ 9223372036854775807 := h.2.2.1
theorem SRow.below {w w' : World} {a : Option Addr} {cap : Nat} {l : List ByteArray} (h : SRow w a cap l) (hb : Below w.heap.size w w') : SRow w' a cap l := by
 refine ⟨h.1, h.2.1, h.2.2.1, h.2.2.2.1, fun i d hd => ?_⟩
 obtain ⟨p, hp, h1⟩ := h.2.2.2.2 i d hd
 exact ⟨p, hp, (hb.cell (World.block_lt_of_cell? _ _ h1)).trans h1⟩
theorem SRow.nil (w : World) : SRow w none 0 [] := ⟨by simp, by omega, by simp, by simp, by simp⟩
theorem SRow.at {w : World} {a : Option Addr} {cap : Nat} {l : List ByteArray} (h : SRow w a cap l) (hl : 0 < l.length) :
  ∃ b off, a = some ⟨b, off, none⟩ ∧ b < w.heap.size ∧ ∀ i s, l[i]? = some s → w.cell? ⟨b, off + i, none⟩ = some (.string s) := by
 obtain ⟨p, hp, hc⟩ := h.2.2.2.2 0 l[0] (by simp [hl])
 have hs := World.cell?_spot hc
 obtain ⟨b, off, spot⟩ := p
 have hspot : spot = none := by simpa [Addr.add] using hs
 subst hspot
 refine ⟨b, off, hp, by simpa [Addr.add] using World.block_lt_of_cell? w _ hc, fun i d hd => ?_⟩
 obtain ⟨q, hq, h1⟩ := h.2.2.2.2 i d hd
 rw [hp] at hq
 obtain rfl := Option.some.inj hq
 rw [Addr.add_mid] at h1
 exact h1
theorem gets_some {l : List ByteArray} {i : Nat} (hi : i < l.length) : ∃ s, l[i]? = some s := ⟨l[i], List.getElem?_eq_getElem hi⟩
set_option maxHeartbeats 800000 in
theorem nameByte_any (c : Nat) (w : World) : Calls Tryz.prog 136 #[.int .u8 (c : Int)] w fun e w' => e = .returned (.bool (Om.nb c)) ∧ w = w' := by
 by_cases h1 : 97 ≤ c <;> by_cases h2 : c ≤ 122 <;> by_cases h3 : 65 ≤ c <;> by_cases h4 : c ≤ 90 <;> by_cases h5 : 48 ≤ c <;> by_cases h6 : c ≤ 57 <;> first | (exfalso; omega) | skip
 all_goals
  go_enter Tryz.func136, Tryz.ntmps136
  go_wp2
  go_ret
  exact ⟨ret_bool (by simp [Om.nb, *] <;> omega), rfl⟩
theorem nameAt_get (s : ByteArray) (k : Nat) (h : k < s.size) : Om.nb s[k].toNat = Om.nameAt s k := by
 unfold Om.nameAt
 rw [Array.getD, dif_pos (show k < s.data.size from h)]; rfl
set_option maxRecDepth 100000 in
set_option maxHeartbeats 800000 in
theorem isName_any (s : ByteArray) (hs : s.size ≤ 9223372036854775807) (w : World) : Calls Tryz.prog 132 #[.string s] w fun e w' => e = .returned (.bool (Om.isName s)) ∧ w = w' := by
 by_cases h1 : 1 ≤ s.size
 ·by_cases h2 : s.size ≤ 12
  ·go_enter Tryz.func132, Tryz.ntmps132
   go_wp2_with fail
   go_loopw [14] (fun i wr => ∃ k : Nat, k ≤ s.size ∧ i = .int .i64 k ∧ Om.upTo (Om.nameAt s) k = true ∧ w = wr) (fun i _ => s.size - (intOf i).toNat)
   case atStart => exact ⟨0, Nat.zero_le _, rfl, Om.upTo_zero _, rfl⟩
   case round =>
    obtain ⟨k, hk, rfl, hu, rfl⟩ := hrel
    have HU := Lib.hid hu; clear hu
    by_cases hlt : k < s.size
    ·have HA := Lib.hid (nameAt_get s k hlt)
     go_wp2_with fail
     refine (nameByte_any _ _).mono ?_
     rintro e w1 ⟨rfl, rfl⟩
     rw [HA.out]
     cases hx : Om.nameAt s k
     ·have HX := Lib.hid hx; clear hx
      go_wp2_with fail
      go_ret
      exact ⟨ret_bool (by simp [Om.isName, Om.upTo_not hlt HX.out]), rfl⟩
     ·have HX := Lib.hid hx; clear hx
      go_wp2_with fail
      go_roundw
      case rel => exact ⟨k + 1, by omega, by go_num, Om.upTo_succ HU.out HX.out, trivial⟩
      case measure => simp [intOf]; omega
    ·obtain rfl : k = s.size := by omega
     go_wp2_with fail
     go_ret
     exact ⟨ret_bool (by simp [Om.isName, HU.out, h1, h2]), rfl⟩
  ·go_enter Tryz.func132, Tryz.ntmps132
   go_wp2_with fail
   go_ret
   exact ⟨ret_bool (by simp [Om.isName, h2]), rfl⟩
 ·go_enter Tryz.func132, Tryz.ntmps132
  go_wp2_with fail
  go_ret
  exact ⟨ret_bool (by simp [Om.isName, h1]), rfl⟩
theorem pathAt_get {l : List ByteArray} {k : Nat} {s : ByteArray} (h : l[k]? = some s) : Om.isName s = Om.pathAt l k := by simp [Om.pathAt, List.getD, h]
set_option maxHeartbeats 800000 in
theorem mayPathF_any (s : ByteArray) (hs : s.size ≤ 9223372036854775807) (w : World) : Calls Tryz.prog 131 #[.string s] w fun e w' => e = .returned (.bool (!Om.isName s)) ∧ w = w' := by
 go_enter Tryz.func131, Tryz.ntmps131
 go_wp2_with fail
 refine (isName_any s hs _).mono ?_
 rintro e w1 ⟨rfl, rfl⟩
 go_wp2_with fail
 go_ret
 exact ⟨rfl, rfl⟩
def noName (l : List ByteArray) : Int := if Om.upTo (Om.pathAt l) l.length then -1 else l.findIdx (fun s => !Om.isName s)
set_option maxRecDepth 100000 in
set_option maxHeartbeats 800000 in
theorem indexFunc_any (a : Option Addr) (n cap : Nat) (l : List ByteArray) (w : World) (hr : SRow w a cap l) (hl : l.length = n) :
  Calls Tryz.prog 135 #[.slice a n cap, .func (.func 131) #[] #[]] w fun e w' => ∃ z : Int, e = .returned (.int .i64 z) ∧ (decide (0 ≤ z) = !Om.upTo (Om.pathAt l) l.length) ∧ -1 ≤ z ∧ z ≤ n ∧ w = w' := by
 have hle := hr.le
 have hcap := hr.cap
 rw [hl] at hle
 have HR := Lib.hid hr; have HL := Lib.hid hl
 clear hr hl
 go_enter Tryz.func135, Tryz.ntmps135
 go_wp2_with fail
 go_loopw [5, 8] (fun _ i wr => ∃ k : Nat, k ≤ n ∧ i = .int .i64 k ∧ Om.upTo (Om.pathAt l) k = true ∧ w = wr) (fun _ i _ => n - (intOf i).toNat)
 case atStart => exact ⟨0, Nat.zero_le _, rfl, Om.upTo_zero _, rfl⟩
 case round =>
  obtain ⟨k, hk, rfl, hu, rfl⟩ := hrel
  have HU := Lib.hid hu; clear hu
  by_cases hlt : k < n
  ·obtain ⟨s, hs⟩ := gets_some (l := l) (i := k) (by rw [HL.out]; exact hlt)
   obtain ⟨b, off, rfl, hb, hc⟩ := HR.out.at (by rw [HL.out]; omega)
   have q := hc k s hs
   have HS := Lib.hid (HR.out.ok s (List.mem_of_getElem? hs))
   have HA := Lib.hid (pathAt_get hs)
   clear hc hs
   have i0 : (0 : Int) ≤ (k : Int) := by omega
   have i1 : (k : Int) < (n : Int) := by omega
   go_wp2_with fail
   refine (mayPathF_any s HS.out _).mono ?_
   rintro e w1 ⟨rfl, rfl⟩
   rw [HA.out]
   cases hx : Om.pathAt l k
   ·have HX := Lib.hid hx; clear hx
    go_wp2_with fail
    go_ret
    exact ⟨k, rfl, by rw [HL.out, Om.upTo_not hlt HX.out]; simp, by omega, by omega, rfl⟩
   ·have HX := Lib.hid hx; clear hx
    go_wp2_with fail
    go_roundw
    case rel => exact ⟨k + 1, by omega, by go_num, Om.upTo_succ HU.out HX.out, trivial⟩
    case measure => simp [intOf]; omega
  ·obtain rfl : k = n := by omega
   go_wp2_with fail
   go_ret
   exact ⟨-1, rfl, by rw [HL.out, HU.out]; rfl, by omega, by omega, rfl⟩
set_option maxHeartbeats 800000 in
theorem containsFunc_any (a : Option Addr) (n cap : Nat) (l : List ByteArray) (w : World) (hr : SRow w a cap l) (hl : l.length = n) :
  Calls Tryz.prog 130 #[.slice a n cap, .func (.func 131) #[] #[]] w fun e w' => e = .returned (.bool (!Om.upTo (Om.pathAt l) l.length)) ∧ w = w' := by
 have HR := Lib.hid hr; have HL := Lib.hid hl
 clear hr hl
 go_enter Tryz.func130, Tryz.ntmps130
 go_wp2_with fail
 refine (indexFunc_any a n cap l _ HR.out HL.out).mono ?_
 rintro e w1 ⟨z, rfl, hz, h1, h2, rfl⟩
 have HZ := Lib.hid hz; clear hz
 by_cases h0 : 0 ≤ z
 ·go_wp2_with fail
  go_ret
  exact ⟨ret_bool (by first | (rw [← HZ.out]; done) | (rw [← HZ.out]; simp [h0])), rfl⟩
 ·go_wp2_with fail
  go_ret
  exact ⟨ret_bool (by first | (rw [← HZ.out]; done) | (rw [← HZ.out]; simp [h0])), rfl⟩
set_option maxHeartbeats 800000 in
theorem mayPath_any (a : Option Addr) (n cap : Nat) (l : List ByteArray) (w : World) (hr : SRow w a cap l) (hl : l.length = n) :
  Calls Tryz.prog 122 #[.slice a n cap] w fun e w' => e = .returned (.bool (Om.mayPath l)) ∧ w = w' := by
 have HR := Lib.hid hr; have HL := Lib.hid hl
 clear hr hl
 by_cases h1 : 1 ≤ n
 ·by_cases h2 : n ≤ 3
  ·go_enter Tryz.func122, Tryz.ntmps122
   go_wp2_with fail
   refine (containsFunc_any a n cap l _ HR.out HL.out).mono ?_
   rintro e w1 ⟨rfl, rfl⟩
   go_wp2_with fail
   go_ret
   exact ⟨ret_bool (by simp [Om.mayPath, HL.out, h1, h2]), rfl⟩
  ·go_enter Tryz.func122, Tryz.ntmps122
   go_wp2_with fail
   go_ret
   exact ⟨ret_bool (by simp [Om.mayPath, HL.out, h2]), rfl⟩
 ·go_enter Tryz.func122, Tryz.ntmps122
  go_wp2_with fail
  go_ret
  exact ⟨ret_bool (by simp [Om.mayPath, HL.out, h1]), rfl⟩
end Go.Proofs.YtiiidmphmojlgaaGreat
