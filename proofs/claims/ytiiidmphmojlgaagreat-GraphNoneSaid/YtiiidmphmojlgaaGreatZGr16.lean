import Derived.Test.YtiiidmphmojlgaaGreatZGr13
import Derived.Test.YtiiidmphmojlgaaGreatZKey2
import Derived.Test.YtiiidmphmojlgaaGreatZKey3
import Derived.Test.YtiiidmphmojlgaaGreatZLeaf2
namespace Go.Proofs.YtiiidmphmojlgaaGreat
open Go.RowKit Go.Buf Go.LB Go.Lib
set_option linter.unusedSimpArgs false
set_option linter.unusedVariables false
theorem rowD16 {B : Nat} {w : World} {a : Option Addr} {n c : Nat} {l : List Dt.Dot} {row : Option Nat} (h : OwnD B w (.slice a n c) l row) (hok : ∀ x ∈ l, Dt.okD x) : VRow w a c l := by
 obtain ⟨a', c', h0, hr⟩ := ownD_row h hok
 cases h0; exact hr
theorem keys_enter : ∀ (xs : Array Value) (w : World), (callFunc 48 xs).run Tryz.prog w = .ok (.enter 48 xs) w :=
 enters_of Tryz.func48 (by kernel_rfl) (by kernel_rfl)
theorem behind_enter : Enters 30 := enters_of Tryz.func30 (by kernel_rfl) (by kernel_rfl)
set_option maxRecDepth 100000 in
set_option maxHeartbeats 6400000 in
theorem heads_none (p : Option Addr) (W : World) (hG : GAt W p none) :
  Calls Tryz.prog 8 #[.pointer p] W fun e w' => (∃ a c, e = .returned (.slice a 0 c)) ∧ Below W.heap.size W w' := by
 have HG := Lib.hid hG
 clear hG
 go_enter Tryz.func8, Tryz.ntmps8
 go_wp2_with fail
 refine (parts_any p none _ HG.out).mono ?_
 rintro e w1 ⟨rfl, hb⟩
 have HB := Lib.hid (hb.alloc hb.size b0C); clear hb
 go_wp2_with fail
 refine (cloneD_none _).mono ?_
 rintro e w2 ⟨rfl, hb⟩
 have HB2 := Lib.hid (HB.out.trans (hb.mono HB.out.size)); clear hb
 go_wp2_with fail
 refine (keys_any none _).mono ?_
 rintro e w3 ⟨rfl, rfl⟩
 have HB3 := Lib.hid (HB2.out.alloc HB2.out.size (.cells #[.map none] 40))
 have HS := Lib.hid (keys_stops_nil Fence.wide 2 trivial rfl w2.heap.size (w2.alloc (.cells #[.map none] 40)) (by simp) (by simp [(Blk.new w2 #[.map none] 40).cell 0]))
 go_wp2_with fail
 refine (appendSeq_any _ _ _ _ 0 (by omega) _ keys_enter HS.out).mono ?_
 rintro e w4 ⟨⟨v, row, xs, rfl, rfl, hO⟩, hb⟩
 obtain ⟨a, c, rfl, hv⟩ := ownD_row hO (by simp)
 have HB4 := Lib.hid (HB3.out.trans (hb.mono HB3.out.size)); have HV := Lib.hid hv
 clear hb hO hv
 go_wp2_with fail
 refine (deleteB_none a 0 c _ _ [] _ HV.out rfl behind_enter (fun k d w h => by simp at h)).mono ?_
 rintro e w5 ⟨rfl, hb⟩
 have HB5 := Lib.hid (HB4.out.trans (hb.mono HB4.out.size))
 clear hb
 go_wp2_with fail
 refine (sortD_none a c _ _).mono ?_
 rintro e w6 ⟨rfl, rfl⟩
 go_wp2_with fail
 go_ret
 exact ⟨⟨_, _, rfl⟩, HB5.out⟩
set_option maxRecDepth 100000 in
set_option maxHeartbeats 6400000 in
theorem heads_one (p : Option Addr) (b : Nat) (c : Cm.C) (W : World) (hG : GAt W p (some b)) (hM : CMap W (some b) [c]) :
  Calls Tryz.prog 8 #[.pointer p] W fun e w' => (∃ a k, e = .returned (.slice a 1 k) ∧ VRow w' a k [c.dot]) ∧ Below W.heap.size W w' := by
 have HG := Lib.hid hG; have HM := Lib.hid hM
 have hok : Dt.okD c.dot := by obtain ⟨e, clock, _, _, _, h, _⟩ := hM.one; exact h
 have HOk := Lib.hid (show ∀ x ∈ [c.dot], Dt.okD x by intro x hx; simp at hx; subst hx; exact hok)
 clear hG hM hok
 go_enter Tryz.func8, Tryz.ntmps8
 go_wp2_with fail
 refine (parts_any p (some b) _ HG.out).mono ?_
 rintro e w1 ⟨rfl, hb⟩
 have HB := Lib.hid (hb.alloc hb.size b0C); clear hb
 go_wp2_with fail
 refine (cloneD_none _).mono ?_
 rintro e w2 ⟨rfl, hb⟩
 have HB2 := Lib.hid (HB.out.trans (hb.mono HB.out.size)); clear hb
 go_wp2_with fail
 refine (keys_any (some b) _).mono ?_
 rintro e w3 ⟨rfl, rfl⟩
 have HB3 := Lib.hid (HB2.out.alloc HB2.out.size (.cells #[.map (some b)] 40))
 have HM3 := Lib.hid (HM.out.below HB3.out)
 obtain ⟨en, clock, hb0, hek, _, _, heb⟩ := HM3.out.one
 have HS := Lib.hid (keys_stops_one Fence.wide 2 trivial rfl (by omega) w2.heap.size b clock en c.dot (w2.alloc (.cells #[.map (some b)] 40)) (by simp) (by simp [(Blk.new w2 #[.map (some b)] 40).cell 0]) hb0 hek heb)
 clear hb0 hek heb
 go_wp2_with fail
 refine (appendSeq_any _ _ _ _ 1 (by omega) _ keys_enter HS.out).mono ?_
 rintro e w4 ⟨⟨v, row, xs, rfl, rfl, hO⟩, hb⟩
 obtain ⟨a, k, hv0, hv⟩ := ownD_row hO HOk.out
 subst hv0
 have HB4 := Lib.hid (HB3.out.trans (hb.mono HB3.out.size)); have HV := Lib.hid hv; have HO := Lib.hid hO; have HM4 := Lib.hid (HM3.out.below hb)
 clear hb hO hv
 simp only [List.length_cons, List.length_nil, Nat.zero_add]
 go_wp2_with fail
 refine (deleteB_none a 1 k _ _ [c.dot] _ HV.out rfl behind_enter (fun j d w h hbw => by
  obtain ⟨rfl, rfl⟩ : j = 0 ∧ d = c.dot := by
   have := (List.getElem?_eq_some_iff.1 h).1; simp at this; subst this; simp at h; exact ⟨rfl, h.symm⟩
  exact behind_own b c w (HM4.out.below hbw))).mono ?_
 rintro e w5 ⟨rfl, hb⟩
 have HB5 := Lib.hid (HB4.out.trans (hb.mono HB4.out.size)); have HO5 := Lib.hid (LB.Own.below HO.out hb)
 clear hb
 go_wp2_with fail
 refine (sortD_any _ _ _ _ _ HO5.out (by simp)).mono ?_
 rintro e w6 ⟨rfl, ⟨s, hp, _, hO6⟩, hc⟩
 obtain rfl := List.perm_singleton.1 hp
 have hr6 := rowD16 hO6 HOk.out
 have HR6 := Lib.hid hr6
 have HB6 := Lib.hid (Chg.belowTrans HB5.out hc (fun q _ e => by have h1 := (LB.Own.lt HO5.out q e.symm).1; have h2 := HB3.out.size; omega) HB5.out.size)
 clear hr6 hO6 hc hp
 go_wp2_with fail
 go_ret
 exact ⟨⟨_, _, rfl, HR6.out⟩, HB6.out⟩
end Go.Proofs.YtiiidmphmojlgaaGreat
