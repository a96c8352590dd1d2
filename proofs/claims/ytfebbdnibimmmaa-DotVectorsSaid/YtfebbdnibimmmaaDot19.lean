import Derived.Test.YtfebbdnibimmmaaDot18
namespace Go.Proofs.Ytfebbdnibimmmaa
open Go.RowKit Go.Maps
set_option maxRecDepth 100000 in
set_option maxHeartbeats 12800000 in
theorem order_small (a : Option Addr) (n ca : Nat) (la : List Dt.Dot) (b : Option Addr) (m cb : Nat) (lb : List Dt.Dot) (c : Option Addr) (k cc : Nat) (lc : List Dt.Dot) (W : World) (hra : VRow W a ca la) (hla : la.length = n) (hrb : VRow W b cb lb) (hlb : lb.length = m) (hrc : VRow W c cc lc) (hlc : lc.length = k) (hn : n ≤ 60) (hm : m ≤ 60) (hk : k ≤ 60) :
    Calls Try.prog 4 #[.slice a n ca, .slice b m cb, .slice c k cc] W fun e w' => e = .returned (.bool true) ∧ Below W.heap.size W w' := by
  have HA := Lib.hid hra; have HLa := Lib.hid hla; have HBv := Lib.hid hrb; have HLb := Lib.hid hlb; have HC := Lib.hid hrc; have HLc := Lib.hid hlc
  clear hra hla hrb hlb hrc hlc
  have H1 := Lib.hid (Dt.within_join_left la lb); have H2 := Lib.hid (Dt.within_join_right la lb); have H3 := Lib.hid (Dt.within_meet_left la lb); have H4 := Lib.hid (Dt.within_meet_right la lb)
  have H5 := Lib.hid (show decide (Dt.join la lb = Dt.join lb la) = true from decide_eq_true (Dt.join_comm la lb)); have H6 := Lib.hid (show decide (Dt.meet la lb = Dt.meet lb la) = true from decide_eq_true (Dt.meet_comm la lb))
  have HSame := Lib.hid (Dt.same_iff la lb); have HCJ := Lib.hid (show decide (Dt.canon (Dt.join la lb) = Dt.join la lb) = true from decide_eq_true (Dt.canon_join la lb))
  have HLJ9 := Lib.hid (show (Dt.join la lb).length ≤ 64 from Dt.vec_length _); have HLM9 := Lib.hid (show (Dt.meet la lb).length ≤ 64 from Dt.vec_length _)
  have HJC := Lib.hid (Dt.join_least la lb lc); have HMC := Lib.hid (Dt.meet_greatest la lb lc)
  go_enter Try.func4, Try.ntmps4
  go_wp2_with fail
  refine (join_any a n ca la b m cb lb W HA.out HLa.out (by omega) HBv.out HLb.out (by omega)).mono ?_
  rintro e w1 ⟨aj, cj, rfl, hrj, hb1⟩
  have HJ1 := Lib.hid hrj; have H01 := Lib.hid hb1; clear hrj hb1
  go_wp2_with fail
  refine (meet_any a n ca la b m cb lb w1 (HA.out.below H01.out) HLa.out (by omega) (HBv.out.below H01.out) HLb.out (by omega)).mono ?_
  rintro e w2 ⟨am, cm, rfl, hrm, hb2⟩
  have H02 := Lib.hid (H01.out.trans (hb2.mono H01.out.size)); have HM := Lib.hid hrm; have HJ := Lib.hid (HJ1.out.below hb2)
  have HA := Lib.hid (HA.out.below H02.out); have HBv := Lib.hid (HBv.out.below H02.out); have HC := Lib.hid (HC.out.below H02.out)
  clear hrm hb2 HJ1 H01
  have HB := Lib.hid (Below.refl w2.heap.size w2)
  go_wp2_with fail
  refine (within_any a n ca la aj (Dt.join la lb).length cj (Dt.join la lb) _ (HA.out.below HB.out) HLa.out (HJ.out.below HB.out) rfl (by have := HLJ9.out; have := HLM9.out; omega)).mono ?_
  rintro e w5 ⟨rfl, hb⟩
  rw [H1.out]
  have HB := Lib.hid (HB.out.trans (hb.mono HB.out.size)); clear hb
  go_wp2_with fail
  refine (within_any b m cb lb aj (Dt.join la lb).length cj (Dt.join la lb) _ (HBv.out.below HB.out) HLb.out (HJ.out.below HB.out) rfl (by have := HLJ9.out; have := HLM9.out; omega)).mono ?_
  rintro e w5 ⟨rfl, hb⟩
  rw [H2.out]
  have HB := Lib.hid (HB.out.trans (hb.mono HB.out.size)); clear hb
  go_wp2_with fail
  refine (within_any am (Dt.meet la lb).length cm (Dt.meet la lb) a n ca la _ (HM.out.below HB.out) rfl (HA.out.below HB.out) HLa.out (by have := HLJ9.out; have := HLM9.out; omega)).mono ?_
  rintro e w5 ⟨rfl, hb⟩
  rw [H3.out]
  have HB := Lib.hid (HB.out.trans (hb.mono HB.out.size)); clear hb
  go_wp2_with fail
  refine (within_any am (Dt.meet la lb).length cm (Dt.meet la lb) b m cb lb _ (HM.out.below HB.out) rfl (HBv.out.below HB.out) HLb.out (by have := HLJ9.out; have := HLM9.out; omega)).mono ?_
  rintro e w5 ⟨rfl, hb⟩
  rw [H4.out]
  have HB := Lib.hid (HB.out.trans (hb.mono HB.out.size)); clear hb
  go_wp2_with fail
  refine (join_any b m cb lb a n ca la _ (HBv.out.below HB.out) HLb.out (by omega) (HA.out.below HB.out) HLa.out (by omega)).mono ?_
  rintro e w5 ⟨a5, c5, rfl, hr5, hb⟩
  have HR5 := Lib.hid hr5
  have HB := Lib.hid (HB.out.trans (hb.mono HB.out.size)); clear hb hr5
  go_wp2_with fail
  refine (refsame_any aj (Dt.join la lb).length cj (Dt.join la lb) a5 _ c5 (Dt.join lb la) _ (HJ.out.below HB.out) rfl HR5.out rfl).mono ?_
  rintro e w6 ⟨rfl, hb⟩
  rw [H5.out]
  have HB := Lib.hid (HB.out.trans (hb.mono HB.out.size)); clear hb HR5
  go_wp2_with fail
  refine (meet_any b m cb lb a n ca la _ (HBv.out.below HB.out) HLb.out (by omega) (HA.out.below HB.out) HLa.out (by omega)).mono ?_
  rintro e w5 ⟨a5, c5, rfl, hr5, hb⟩
  have HR5 := Lib.hid hr5
  have HB := Lib.hid (HB.out.trans (hb.mono HB.out.size)); clear hb hr5
  go_wp2_with fail
  refine (refsame_any am (Dt.meet la lb).length cm (Dt.meet la lb) a5 _ c5 (Dt.meet lb la) _ (HM.out.below HB.out) rfl HR5.out rfl).mono ?_
  rintro e w6 ⟨rfl, hb⟩
  rw [H6.out]
  have HB := Lib.hid (HB.out.trans (hb.mono HB.out.size)); clear hb HR5
  go_wp2_with fail
  cases hx : Dt.within la lc
  · have HX := Lib.hid hx; clear hx
    refine (within_any a n ca la c k cc lc _ (HA.out.below HB.out) HLa.out (HC.out.below HB.out) HLc.out (by have := HLJ9.out; have := HLM9.out; omega)).mono ?_
    rintro e w5 ⟨rfl, hb⟩
    rw [HX.out]
    have HB := Lib.hid (HB.out.trans (hb.mono HB.out.size)); clear hb
    go_wp2_with fail
    cases hp : Dt.within lc la
    · have HP := Lib.hid hp; clear hp
      refine (within_any c k cc lc a n ca la _ (HC.out.below HB.out) HLc.out (HA.out.below HB.out) HLa.out (by have := HLJ9.out; have := HLM9.out; omega)).mono ?_
      rintro e w5 ⟨rfl, hb⟩
      rw [HP.out]
      have HB := Lib.hid (HB.out.trans (hb.mono HB.out.size)); clear hb
      go_wp2_with fail
      refine (canon_any a n ca la _ (HA.out.below HB.out) HLa.out (by omega)).mono ?_
      rintro e w5 ⟨a5, c5, rfl, hr5, hb⟩
      have HR5 := Lib.hid hr5
      have HB := Lib.hid (HB.out.trans (hb.mono HB.out.size)); clear hb hr5
      go_wp2_with fail
      refine (canon_any b m cb lb _ (HBv.out.below HB.out) HLb.out (by omega)).mono ?_
      rintro e w6 ⟨a6, c6, rfl, hr6, hb⟩
      have HR6 := Lib.hid hr6; have HR5 := Lib.hid (HR5.out.below hb)
      have HB := Lib.hid (HB.out.trans (hb.mono HB.out.size)); clear hb hr6
      go_wp2_with fail
      refine (refsame_any a5 _ c5 (Dt.canon la) a6 _ c6 (Dt.canon lb) _ HR5.out rfl HR6.out rfl).mono ?_
      rintro e w7 ⟨rfl, hb⟩
      rw [HSame.out]
      have HB := Lib.hid (HB.out.trans (hb.mono HB.out.size)); clear hb HR5 HR6
      cases hu : Dt.within la lb
      · have HU := Lib.hid hu; clear hu
        simp only [Bool.false_and]
        go_wp2_with fail
        refine (within_any a n ca la b m cb lb _ (HA.out.below HB.out) HLa.out (HBv.out.below HB.out) HLb.out (by have := HLJ9.out; have := HLM9.out; omega)).mono ?_
        rintro e w5 ⟨rfl, hb⟩
        rw [HU.out]
        have HB := Lib.hid (HB.out.trans (hb.mono HB.out.size)); clear hb
        go_wp2_with fail
        refine (canon_any aj (Dt.join la lb).length cj (Dt.join la lb) _ (HJ.out.below HB.out) rfl (by have := HLJ9.out; omega)).mono ?_
        rintro e w5 ⟨a5, c5, rfl, hr5, hb⟩
        have HR5 := Lib.hid hr5
        have HB := Lib.hid (HB.out.trans (hb.mono HB.out.size)); clear hb hr5
        go_wp2_with fail
        refine (refsame_any a5 _ c5 (Dt.canon (Dt.join la lb)) aj _ cj (Dt.join la lb) _ HR5.out rfl (HJ.out.below HB.out) rfl).mono ?_
        rintro e w6 ⟨rfl, hb⟩
        rw [HCJ.out]
        have HB := Lib.hid (HB.out.trans (hb.mono HB.out.size)); clear hb HR5
        go_wp2_with fail
        refine (known_any _).mono ?_
        rintro e w7 ⟨rfl, hb⟩
        have HB := Lib.hid (HB.out.trans (hb.mono HB.out.size)); clear hb
        go_wp2_with fail
        go_ret
        exact ⟨rfl, H02.out.trans (HB.out.mono H02.out.size)⟩
      · have HU := Lib.hid hu; clear hu
        cases hv : Dt.within lb la
        · have HV := Lib.hid hv; clear hv
          simp only [Bool.and_false]
          go_wp2_with fail
          refine (within_any a n ca la b m cb lb _ (HA.out.below HB.out) HLa.out (HBv.out.below HB.out) HLb.out (by have := HLJ9.out; have := HLM9.out; omega)).mono ?_
          rintro e w5 ⟨rfl, hb⟩
          rw [HU.out]
          have HB := Lib.hid (HB.out.trans (hb.mono HB.out.size)); clear hb
          go_wp2_with fail
          refine (within_any b m cb lb a n ca la _ (HBv.out.below HB.out) HLb.out (HA.out.below HB.out) HLa.out (by have := HLJ9.out; have := HLM9.out; omega)).mono ?_
          rintro e w5 ⟨rfl, hb⟩
          rw [HV.out]
          have HB := Lib.hid (HB.out.trans (hb.mono HB.out.size)); clear hb
          go_wp2_with fail
          refine (canon_any aj (Dt.join la lb).length cj (Dt.join la lb) _ (HJ.out.below HB.out) rfl (by have := HLJ9.out; omega)).mono ?_
          rintro e w5 ⟨a5, c5, rfl, hr5, hb⟩
          have HR5 := Lib.hid hr5
          have HB := Lib.hid (HB.out.trans (hb.mono HB.out.size)); clear hb hr5
          go_wp2_with fail
          refine (refsame_any a5 _ c5 (Dt.canon (Dt.join la lb)) aj _ cj (Dt.join la lb) _ HR5.out rfl (HJ.out.below HB.out) rfl).mono ?_
          rintro e w6 ⟨rfl, hb⟩
          rw [HCJ.out]
          have HB := Lib.hid (HB.out.trans (hb.mono HB.out.size)); clear hb HR5
          go_wp2_with fail
          refine (known_any _).mono ?_
          rintro e w7 ⟨rfl, hb⟩
          have HB := Lib.hid (HB.out.trans (hb.mono HB.out.size)); clear hb
          go_wp2_with fail
          go_ret
          exact ⟨rfl, H02.out.trans (HB.out.mono H02.out.size)⟩
        · have HV := Lib.hid hv; clear hv
          simp only [Bool.and_true]
          go_wp2_with fail
          refine (within_any a n ca la b m cb lb _ (HA.out.below HB.out) HLa.out (HBv.out.below HB.out) HLb.out (by have := HLJ9.out; have := HLM9.out; omega)).mono ?_
          rintro e w5 ⟨rfl, hb⟩
          rw [HU.out]
          have HB := Lib.hid (HB.out.trans (hb.mono HB.out.size)); clear hb
          go_wp2_with fail
          refine (within_any b m cb lb a n ca la _ (HBv.out.below HB.out) HLb.out (HA.out.below HB.out) HLa.out (by have := HLJ9.out; have := HLM9.out; omega)).mono ?_
          rintro e w5 ⟨rfl, hb⟩
          rw [HV.out]
          have HB := Lib.hid (HB.out.trans (hb.mono HB.out.size)); clear hb
          go_wp2_with fail
          refine (canon_any aj (Dt.join la lb).length cj (Dt.join la lb) _ (HJ.out.below HB.out) rfl (by have := HLJ9.out; omega)).mono ?_
          rintro e w5 ⟨a5, c5, rfl, hr5, hb⟩
          have HR5 := Lib.hid hr5
          have HB := Lib.hid (HB.out.trans (hb.mono HB.out.size)); clear hb hr5
          go_wp2_with fail
          refine (refsame_any a5 _ c5 (Dt.canon (Dt.join la lb)) aj _ cj (Dt.join la lb) _ HR5.out rfl (HJ.out.below HB.out) rfl).mono ?_
          rintro e w6 ⟨rfl, hb⟩
          rw [HCJ.out]
          have HB := Lib.hid (HB.out.trans (hb.mono HB.out.size)); clear hb HR5
          go_wp2_with fail
          refine (known_any _).mono ?_
          rintro e w7 ⟨rfl, hb⟩
          have HB := Lib.hid (HB.out.trans (hb.mono HB.out.size)); clear hb
          go_wp2_with fail
          go_ret
          exact ⟨rfl, H02.out.trans (HB.out.mono H02.out.size)⟩
    · have HP := Lib.hid hp; clear hp
      cases hq : Dt.within lc lb
      · have HQ := Lib.hid hq; clear hq
        have HMC := Lib.hid (show Dt.within lc (Dt.meet la lb) = false by rw [HMC.out, HP.out, HQ.out]; rfl)
        refine (within_any c k cc lc a n ca la _ (HC.out.below HB.out) HLc.out (HA.out.below HB.out) HLa.out (by have := HLJ9.out; have := HLM9.out; omega)).mono ?_
        rintro e w5 ⟨rfl, hb⟩
        rw [HP.out]
        have HB := Lib.hid (HB.out.trans (hb.mono HB.out.size)); clear hb
        go_wp2_with fail
        refine (within_any c k cc lc b m cb lb _ (HC.out.below HB.out) HLc.out (HBv.out.below HB.out) HLb.out (by have := HLJ9.out; have := HLM9.out; omega)).mono ?_
        rintro e w5 ⟨rfl, hb⟩
        rw [HQ.out]
        have HB := Lib.hid (HB.out.trans (hb.mono HB.out.size)); clear hb
        go_wp2_with fail
        refine (within_any c k cc lc am (Dt.meet la lb).length cm (Dt.meet la lb) _ (HC.out.below HB.out) HLc.out (HM.out.below HB.out) rfl (by have := HLJ9.out; have := HLM9.out; omega)).mono ?_
        rintro e w5 ⟨rfl, hb⟩
        rw [HMC.out]
        have HB := Lib.hid (HB.out.trans (hb.mono HB.out.size)); clear hb
        go_wp2_with fail
        refine (canon_any a n ca la _ (HA.out.below HB.out) HLa.out (by omega)).mono ?_
        rintro e w5 ⟨a5, c5, rfl, hr5, hb⟩
        have HR5 := Lib.hid hr5
        have HB := Lib.hid (HB.out.trans (hb.mono HB.out.size)); clear hb hr5
        go_wp2_with fail
        refine (canon_any b m cb lb _ (HBv.out.below HB.out) HLb.out (by omega)).mono ?_
        rintro e w6 ⟨a6, c6, rfl, hr6, hb⟩
        have HR6 := Lib.hid hr6; have HR5 := Lib.hid (HR5.out.below hb)
        have HB := Lib.hid (HB.out.trans (hb.mono HB.out.size)); clear hb hr6
        go_wp2_with fail
        refine (refsame_any a5 _ c5 (Dt.canon la) a6 _ c6 (Dt.canon lb) _ HR5.out rfl HR6.out rfl).mono ?_
        rintro e w7 ⟨rfl, hb⟩
        rw [HSame.out]
        have HB := Lib.hid (HB.out.trans (hb.mono HB.out.size)); clear hb HR5 HR6
        cases hu : Dt.within la lb
        · have HU := Lib.hid hu; clear hu
          simp only [Bool.false_and]
          go_wp2_with fail
          refine (within_any a n ca la b m cb lb _ (HA.out.below HB.out) HLa.out (HBv.out.below HB.out) HLb.out (by have := HLJ9.out; have := HLM9.out; omega)).mono ?_
          rintro e w5 ⟨rfl, hb⟩
          rw [HU.out]
          have HB := Lib.hid (HB.out.trans (hb.mono HB.out.size)); clear hb
          go_wp2_with fail
          refine (canon_any aj (Dt.join la lb).length cj (Dt.join la lb) _ (HJ.out.below HB.out) rfl (by have := HLJ9.out; omega)).mono ?_
          rintro e w5 ⟨a5, c5, rfl, hr5, hb⟩
          have HR5 := Lib.hid hr5
          have HB := Lib.hid (HB.out.trans (hb.mono HB.out.size)); clear hb hr5
          go_wp2_with fail
          refine (refsame_any a5 _ c5 (Dt.canon (Dt.join la lb)) aj _ cj (Dt.join la lb) _ HR5.out rfl (HJ.out.below HB.out) rfl).mono ?_
          rintro e w6 ⟨rfl, hb⟩
          rw [HCJ.out]
          have HB := Lib.hid (HB.out.trans (hb.mono HB.out.size)); clear hb HR5
          go_wp2_with fail
          refine (known_any _).mono ?_
          rintro e w7 ⟨rfl, hb⟩
          have HB := Lib.hid (HB.out.trans (hb.mono HB.out.size)); clear hb
          go_wp2_with fail
          go_ret
          exact ⟨rfl, H02.out.trans (HB.out.mono H02.out.size)⟩
        · have HU := Lib.hid hu; clear hu
          cases hv : Dt.within lb la
          · have HV := Lib.hid hv; clear hv
            simp only [Bool.and_false]
            go_wp2_with fail
            refine (within_any a n ca la b m cb lb _ (HA.out.below HB.out) HLa.out (HBv.out.below HB.out) HLb.out (by have := HLJ9.out; have := HLM9.out; omega)).mono ?_
            rintro e w5 ⟨rfl, hb⟩
            rw [HU.out]
            have HB := Lib.hid (HB.out.trans (hb.mono HB.out.size)); clear hb
            go_wp2_with fail
            refine (within_any b m cb lb a n ca la _ (HBv.out.below HB.out) HLb.out (HA.out.below HB.out) HLa.out (by have := HLJ9.out; have := HLM9.out; omega)).mono ?_
            rintro e w5 ⟨rfl, hb⟩
            rw [HV.out]
            have HB := Lib.hid (HB.out.trans (hb.mono HB.out.size)); clear hb
            go_wp2_with fail
            refine (canon_any aj (Dt.join la lb).length cj (Dt.join la lb) _ (HJ.out.below HB.out) rfl (by have := HLJ9.out; omega)).mono ?_
            rintro e w5 ⟨a5, c5, rfl, hr5, hb⟩
            have HR5 := Lib.hid hr5
            have HB := Lib.hid (HB.out.trans (hb.mono HB.out.size)); clear hb hr5
            go_wp2_with fail
            refine (refsame_any a5 _ c5 (Dt.canon (Dt.join la lb)) aj _ cj (Dt.join la lb) _ HR5.out rfl (HJ.out.below HB.out) rfl).mono ?_
            rintro e w6 ⟨rfl, hb⟩
            rw [HCJ.out]
            have HB := Lib.hid (HB.out.trans (hb.mono HB.out.size)); clear hb HR5
            go_wp2_with fail
            refine (known_any _).mono ?_
            rintro e w7 ⟨rfl, hb⟩
            have HB := Lib.hid (HB.out.trans (hb.mono HB.out.size)); clear hb
            go_wp2_with fail
            go_ret
            exact ⟨rfl, H02.out.trans (HB.out.mono H02.out.size)⟩
          · have HV := Lib.hid hv; clear hv
            simp only [Bool.and_true]
            go_wp2_with fail
            refine (within_any a n ca la b m cb lb _ (HA.out.below HB.out) HLa.out (HBv.out.below HB.out) HLb.out (by have := HLJ9.out; have := HLM9.out; omega)).mono ?_
            rintro e w5 ⟨rfl, hb⟩
            rw [HU.out]
            have HB := Lib.hid (HB.out.trans (hb.mono HB.out.size)); clear hb
            go_wp2_with fail
            refine (within_any b m cb lb a n ca la _ (HBv.out.below HB.out) HLb.out (HA.out.below HB.out) HLa.out (by have := HLJ9.out; have := HLM9.out; omega)).mono ?_
            rintro e w5 ⟨rfl, hb⟩
            rw [HV.out]
            have HB := Lib.hid (HB.out.trans (hb.mono HB.out.size)); clear hb
            go_wp2_with fail
            refine (canon_any aj (Dt.join la lb).length cj (Dt.join la lb) _ (HJ.out.below HB.out) rfl (by have := HLJ9.out; omega)).mono ?_
            rintro e w5 ⟨a5, c5, rfl, hr5, hb⟩
            have HR5 := Lib.hid hr5
            have HB := Lib.hid (HB.out.trans (hb.mono HB.out.size)); clear hb hr5
            go_wp2_with fail
            refine (refsame_any a5 _ c5 (Dt.canon (Dt.join la lb)) aj _ cj (Dt.join la lb) _ HR5.out rfl (HJ.out.below HB.out) rfl).mono ?_
            rintro e w6 ⟨rfl, hb⟩
            rw [HCJ.out]
            have HB := Lib.hid (HB.out.trans (hb.mono HB.out.size)); clear hb HR5
            go_wp2_with fail
            refine (known_any _).mono ?_
            rintro e w7 ⟨rfl, hb⟩
            have HB := Lib.hid (HB.out.trans (hb.mono HB.out.size)); clear hb
            go_wp2_with fail
            go_ret
            exact ⟨rfl, H02.out.trans (HB.out.mono H02.out.size)⟩
      · have HQ := Lib.hid hq; clear hq
        have HMC := Lib.hid (show Dt.within lc (Dt.meet la lb) = true by rw [HMC.out, HP.out, HQ.out]; rfl)
        refine (within_any c k cc lc a n ca la _ (HC.out.below HB.out) HLc.out (HA.out.below HB.out) HLa.out (by have := HLJ9.out; have := HLM9.out; omega)).mono ?_
        rintro e w5 ⟨rfl, hb⟩
        rw [HP.out]
        have HB := Lib.hid (HB.out.trans (hb.mono HB.out.size)); clear hb
        go_wp2_with fail
        refine (within_any c k cc lc b m cb lb _ (HC.out.below HB.out) HLc.out (HBv.out.below HB.out) HLb.out (by have := HLJ9.out; have := HLM9.out; omega)).mono ?_
        rintro e w5 ⟨rfl, hb⟩
        rw [HQ.out]
        have HB := Lib.hid (HB.out.trans (hb.mono HB.out.size)); clear hb
        go_wp2_with fail
        refine (within_any c k cc lc am (Dt.meet la lb).length cm (Dt.meet la lb) _ (HC.out.below HB.out) HLc.out (HM.out.below HB.out) rfl (by have := HLJ9.out; have := HLM9.out; omega)).mono ?_
        rintro e w5 ⟨rfl, hb⟩
        rw [HMC.out]
        have HB := Lib.hid (HB.out.trans (hb.mono HB.out.size)); clear hb
        go_wp2_with fail
        refine (canon_any a n ca la _ (HA.out.below HB.out) HLa.out (by omega)).mono ?_
        rintro e w5 ⟨a5, c5, rfl, hr5, hb⟩
        have HR5 := Lib.hid hr5
        have HB := Lib.hid (HB.out.trans (hb.mono HB.out.size)); clear hb hr5
        go_wp2_with fail
        refine (canon_any b m cb lb _ (HBv.out.below HB.out) HLb.out (by omega)).mono ?_
        rintro e w6 ⟨a6, c6, rfl, hr6, hb⟩
        have HR6 := Lib.hid hr6; have HR5 := Lib.hid (HR5.out.below hb)
        have HB := Lib.hid (HB.out.trans (hb.mono HB.out.size)); clear hb hr6
        go_wp2_with fail
        refine (refsame_any a5 _ c5 (Dt.canon la) a6 _ c6 (Dt.canon lb) _ HR5.out rfl HR6.out rfl).mono ?_
        rintro e w7 ⟨rfl, hb⟩
        rw [HSame.out]
        have HB := Lib.hid (HB.out.trans (hb.mono HB.out.size)); clear hb HR5 HR6
        cases hu : Dt.within la lb
        · have HU := Lib.hid hu; clear hu
          simp only [Bool.false_and]
          go_wp2_with fail
          refine (within_any a n ca la b m cb lb _ (HA.out.below HB.out) HLa.out (HBv.out.below HB.out) HLb.out (by have := HLJ9.out; have := HLM9.out; omega)).mono ?_
          rintro e w5 ⟨rfl, hb⟩
          rw [HU.out]
          have HB := Lib.hid (HB.out.trans (hb.mono HB.out.size)); clear hb
          go_wp2_with fail
          refine (canon_any aj (Dt.join la lb).length cj (Dt.join la lb) _ (HJ.out.below HB.out) rfl (by have := HLJ9.out; omega)).mono ?_
          rintro e w5 ⟨a5, c5, rfl, hr5, hb⟩
          have HR5 := Lib.hid hr5
          have HB := Lib.hid (HB.out.trans (hb.mono HB.out.size)); clear hb hr5
          go_wp2_with fail
          refine (refsame_any a5 _ c5 (Dt.canon (Dt.join la lb)) aj _ cj (Dt.join la lb) _ HR5.out rfl (HJ.out.below HB.out) rfl).mono ?_
          rintro e w6 ⟨rfl, hb⟩
          rw [HCJ.out]
          have HB := Lib.hid (HB.out.trans (hb.mono HB.out.size)); clear hb HR5
          go_wp2_with fail
          refine (known_any _).mono ?_
          rintro e w7 ⟨rfl, hb⟩
          have HB := Lib.hid (HB.out.trans (hb.mono HB.out.size)); clear hb
          go_wp2_with fail
          go_ret
          exact ⟨rfl, H02.out.trans (HB.out.mono H02.out.size)⟩
        · have HU := Lib.hid hu; clear hu
          cases hv : Dt.within lb la
          · have HV := Lib.hid hv; clear hv
            simp only [Bool.and_false]
            go_wp2_with fail
            refine (within_any a n ca la b m cb lb _ (HA.out.below HB.out) HLa.out (HBv.out.below HB.out) HLb.out (by have := HLJ9.out; have := HLM9.out; omega)).mono ?_
            rintro e w5 ⟨rfl, hb⟩
            rw [HU.out]
            have HB := Lib.hid (HB.out.trans (hb.mono HB.out.size)); clear hb
            go_wp2_with fail
            refine (within_any b m cb lb a n ca la _ (HBv.out.below HB.out) HLb.out (HA.out.below HB.out) HLa.out (by have := HLJ9.out; have := HLM9.out; omega)).mono ?_
            rintro e w5 ⟨rfl, hb⟩
            rw [HV.out]
            have HB := Lib.hid (HB.out.trans (hb.mono HB.out.size)); clear hb
            go_wp2_with fail
            refine (canon_any aj (Dt.join la lb).length cj (Dt.join la lb) _ (HJ.out.below HB.out) rfl (by have := HLJ9.out; omega)).mono ?_
            rintro e w5 ⟨a5, c5, rfl, hr5, hb⟩
            have HR5 := Lib.hid hr5
            have HB := Lib.hid (HB.out.trans (hb.mono HB.out.size)); clear hb hr5
            go_wp2_with fail
            refine (refsame_any a5 _ c5 (Dt.canon (Dt.join la lb)) aj _ cj (Dt.join la lb) _ HR5.out rfl (HJ.out.below HB.out) rfl).mono ?_
            rintro e w6 ⟨rfl, hb⟩
            rw [HCJ.out]
            have HB := Lib.hid (HB.out.trans (hb.mono HB.out.size)); clear hb HR5
            go_wp2_with fail
            refine (known_any _).mono ?_
            rintro e w7 ⟨rfl, hb⟩
            have HB := Lib.hid (HB.out.trans (hb.mono HB.out.size)); clear hb
            go_wp2_with fail
            go_ret
            exact ⟨rfl, H02.out.trans (HB.out.mono H02.out.size)⟩
          · have HV := Lib.hid hv; clear hv
            simp only [Bool.and_true]
            go_wp2_with fail
            refine (within_any a n ca la b m cb lb _ (HA.out.below HB.out) HLa.out (HBv.out.below HB.out) HLb.out (by have := HLJ9.out; have := HLM9.out; omega)).mono ?_
            rintro e w5 ⟨rfl, hb⟩
            rw [HU.out]
            have HB := Lib.hid (HB.out.trans (hb.mono HB.out.size)); clear hb
            go_wp2_with fail
            refine (within_any b m cb lb a n ca la _ (HBv.out.below HB.out) HLb.out (HA.out.below HB.out) HLa.out (by have := HLJ9.out; have := HLM9.out; omega)).mono ?_
            rintro e w5 ⟨rfl, hb⟩
            rw [HV.out]
            have HB := Lib.hid (HB.out.trans (hb.mono HB.out.size)); clear hb
            go_wp2_with fail
            refine (canon_any aj (Dt.join la lb).length cj (Dt.join la lb) _ (HJ.out.below HB.out) rfl (by have := HLJ9.out; omega)).mono ?_
            rintro e w5 ⟨a5, c5, rfl, hr5, hb⟩
            have HR5 := Lib.hid hr5
            have HB := Lib.hid (HB.out.trans (hb.mono HB.out.size)); clear hb hr5
            go_wp2_with fail
            refine (refsame_any a5 _ c5 (Dt.canon (Dt.join la lb)) aj _ cj (Dt.join la lb) _ HR5.out rfl (HJ.out.below HB.out) rfl).mono ?_
            rintro e w6 ⟨rfl, hb⟩
            rw [HCJ.out]
            have HB := Lib.hid (HB.out.trans (hb.mono HB.out.size)); clear hb HR5
            go_wp2_with fail
            refine (known_any _).mono ?_
            rintro e w7 ⟨rfl, hb⟩
            have HB := Lib.hid (HB.out.trans (hb.mono HB.out.size)); clear hb
            go_wp2_with fail
            go_ret
            exact ⟨rfl, H02.out.trans (HB.out.mono H02.out.size)⟩
  · have HX := Lib.hid hx; clear hx
    cases hy : Dt.within lb lc
    · have HY := Lib.hid hy; clear hy
      have HJC := Lib.hid (show Dt.within (Dt.join la lb) lc = false by rw [HJC.out, HX.out, HY.out]; rfl)
      refine (within_any a n ca la c k cc lc _ (HA.out.below HB.out) HLa.out (HC.out.below HB.out) HLc.out (by have := HLJ9.out; have := HLM9.out; omega)).mono ?_
      rintro e w5 ⟨rfl, hb⟩
      rw [HX.out]
      have HB := Lib.hid (HB.out.trans (hb.mono HB.out.size)); clear hb
      go_wp2_with fail
      refine (within_any b m cb lb c k cc lc _ (HBv.out.below HB.out) HLb.out (HC.out.below HB.out) HLc.out (by have := HLJ9.out; have := HLM9.out; omega)).mono ?_
      rintro e w5 ⟨rfl, hb⟩
      rw [HY.out]
      have HB := Lib.hid (HB.out.trans (hb.mono HB.out.size)); clear hb
      go_wp2_with fail
      refine (within_any aj (Dt.join la lb).length cj (Dt.join la lb) c k cc lc _ (HJ.out.below HB.out) rfl (HC.out.below HB.out) HLc.out (by have := HLJ9.out; have := HLM9.out; omega)).mono ?_
      rintro e w5 ⟨rfl, hb⟩
      rw [HJC.out]
      have HB := Lib.hid (HB.out.trans (hb.mono HB.out.size)); clear hb
      go_wp2_with fail
      cases hp : Dt.within lc la
      · have HP := Lib.hid hp; clear hp
        refine (within_any c k cc lc a n ca la _ (HC.out.below HB.out) HLc.out (HA.out.below HB.out) HLa.out (by have := HLJ9.out; have := HLM9.out; omega)).mono ?_
        rintro e w5 ⟨rfl, hb⟩
        rw [HP.out]
        have HB := Lib.hid (HB.out.trans (hb.mono HB.out.size)); clear hb
        go_wp2_with fail
        refine (canon_any a n ca la _ (HA.out.below HB.out) HLa.out (by omega)).mono ?_
        rintro e w5 ⟨a5, c5, rfl, hr5, hb⟩
        have HR5 := Lib.hid hr5
        have HB := Lib.hid (HB.out.trans (hb.mono HB.out.size)); clear hb hr5
        go_wp2_with fail
        refine (canon_any b m cb lb _ (HBv.out.below HB.out) HLb.out (by omega)).mono ?_
        rintro e w6 ⟨a6, c6, rfl, hr6, hb⟩
        have HR6 := Lib.hid hr6; have HR5 := Lib.hid (HR5.out.below hb)
        have HB := Lib.hid (HB.out.trans (hb.mono HB.out.size)); clear hb hr6
        go_wp2_with fail
        refine (refsame_any a5 _ c5 (Dt.canon la) a6 _ c6 (Dt.canon lb) _ HR5.out rfl HR6.out rfl).mono ?_
        rintro e w7 ⟨rfl, hb⟩
        rw [HSame.out]
        have HB := Lib.hid (HB.out.trans (hb.mono HB.out.size)); clear hb HR5 HR6
        cases hu : Dt.within la lb
        · have HU := Lib.hid hu; clear hu
          simp only [Bool.false_and]
          go_wp2_with fail
          refine (within_any a n ca la b m cb lb _ (HA.out.below HB.out) HLa.out (HBv.out.below HB.out) HLb.out (by have := HLJ9.out; have := HLM9.out; omega)).mono ?_
          rintro e w5 ⟨rfl, hb⟩
          rw [HU.out]
          have HB := Lib.hid (HB.out.trans (hb.mono HB.out.size)); clear hb
          go_wp2_with fail
          refine (canon_any aj (Dt.join la lb).length cj (Dt.join la lb) _ (HJ.out.below HB.out) rfl (by have := HLJ9.out; omega)).mono ?_
          rintro e w5 ⟨a5, c5, rfl, hr5, hb⟩
          have HR5 := Lib.hid hr5
          have HB := Lib.hid (HB.out.trans (hb.mono HB.out.size)); clear hb hr5
          go_wp2_with fail
          refine (refsame_any a5 _ c5 (Dt.canon (Dt.join la lb)) aj _ cj (Dt.join la lb) _ HR5.out rfl (HJ.out.below HB.out) rfl).mono ?_
          rintro e w6 ⟨rfl, hb⟩
          rw [HCJ.out]
          have HB := Lib.hid (HB.out.trans (hb.mono HB.out.size)); clear hb HR5
          go_wp2_with fail
          refine (known_any _).mono ?_
          rintro e w7 ⟨rfl, hb⟩
          have HB := Lib.hid (HB.out.trans (hb.mono HB.out.size)); clear hb
          go_wp2_with fail
          go_ret
          exact ⟨rfl, H02.out.trans (HB.out.mono H02.out.size)⟩
        · have HU := Lib.hid hu; clear hu
          cases hv : Dt.within lb la
          · have HV := Lib.hid hv; clear hv
            simp only [Bool.and_false]
            go_wp2_with fail
            refine (within_any a n ca la b m cb lb _ (HA.out.below HB.out) HLa.out (HBv.out.below HB.out) HLb.out (by have := HLJ9.out; have := HLM9.out; omega)).mono ?_
            rintro e w5 ⟨rfl, hb⟩
            rw [HU.out]
            have HB := Lib.hid (HB.out.trans (hb.mono HB.out.size)); clear hb
            go_wp2_with fail
            refine (within_any b m cb lb a n ca la _ (HBv.out.below HB.out) HLb.out (HA.out.below HB.out) HLa.out (by have := HLJ9.out; have := HLM9.out; omega)).mono ?_
            rintro e w5 ⟨rfl, hb⟩
            rw [HV.out]
            have HB := Lib.hid (HB.out.trans (hb.mono HB.out.size)); clear hb
            go_wp2_with fail
            refine (canon_any aj (Dt.join la lb).length cj (Dt.join la lb) _ (HJ.out.below HB.out) rfl (by have := HLJ9.out; omega)).mono ?_
            rintro e w5 ⟨a5, c5, rfl, hr5, hb⟩
            have HR5 := Lib.hid hr5
            have HB := Lib.hid (HB.out.trans (hb.mono HB.out.size)); clear hb hr5
            go_wp2_with fail
            refine (refsame_any a5 _ c5 (Dt.canon (Dt.join la lb)) aj _ cj (Dt.join la lb) _ HR5.out rfl (HJ.out.below HB.out) rfl).mono ?_
            rintro e w6 ⟨rfl, hb⟩
            rw [HCJ.out]
            have HB := Lib.hid (HB.out.trans (hb.mono HB.out.size)); clear hb HR5
            go_wp2_with fail
            refine (known_any _).mono ?_
            rintro e w7 ⟨rfl, hb⟩
            have HB := Lib.hid (HB.out.trans (hb.mono HB.out.size)); clear hb
            go_wp2_with fail
            go_ret
            exact ⟨rfl, H02.out.trans (HB.out.mono H02.out.size)⟩
          · have HV := Lib.hid hv; clear hv
            simp only [Bool.and_true]
            go_wp2_with fail
            refine (within_any a n ca la b m cb lb _ (HA.out.below HB.out) HLa.out (HBv.out.below HB.out) HLb.out (by have := HLJ9.out; have := HLM9.out; omega)).mono ?_
            rintro e w5 ⟨rfl, hb⟩
            rw [HU.out]
            have HB := Lib.hid (HB.out.trans (hb.mono HB.out.size)); clear hb
            go_wp2_with fail
            refine (within_any b m cb lb a n ca la _ (HBv.out.below HB.out) HLb.out (HA.out.below HB.out) HLa.out (by have := HLJ9.out; have := HLM9.out; omega)).mono ?_
            rintro e w5 ⟨rfl, hb⟩
            rw [HV.out]
            have HB := Lib.hid (HB.out.trans (hb.mono HB.out.size)); clear hb
            go_wp2_with fail
            refine (canon_any aj (Dt.join la lb).length cj (Dt.join la lb) _ (HJ.out.below HB.out) rfl (by have := HLJ9.out; omega)).mono ?_
            rintro e w5 ⟨a5, c5, rfl, hr5, hb⟩
            have HR5 := Lib.hid hr5
            have HB := Lib.hid (HB.out.trans (hb.mono HB.out.size)); clear hb hr5
            go_wp2_with fail
            refine (refsame_any a5 _ c5 (Dt.canon (Dt.join la lb)) aj _ cj (Dt.join la lb) _ HR5.out rfl (HJ.out.below HB.out) rfl).mono ?_
            rintro e w6 ⟨rfl, hb⟩
            rw [HCJ.out]
            have HB := Lib.hid (HB.out.trans (hb.mono HB.out.size)); clear hb HR5
            go_wp2_with fail
            refine (known_any _).mono ?_
            rintro e w7 ⟨rfl, hb⟩
            have HB := Lib.hid (HB.out.trans (hb.mono HB.out.size)); clear hb
            go_wp2_with fail
            go_ret
            exact ⟨rfl, H02.out.trans (HB.out.mono H02.out.size)⟩
      · have HP := Lib.hid hp; clear hp
        cases hq : Dt.within lc lb
        · have HQ := Lib.hid hq; clear hq
          have HMC := Lib.hid (show Dt.within lc (Dt.meet la lb) = false by rw [HMC.out, HP.out, HQ.out]; rfl)
          refine (within_any c k cc lc a n ca la _ (HC.out.below HB.out) HLc.out (HA.out.below HB.out) HLa.out (by have := HLJ9.out; have := HLM9.out; omega)).mono ?_
          rintro e w5 ⟨rfl, hb⟩
          rw [HP.out]
          have HB := Lib.hid (HB.out.trans (hb.mono HB.out.size)); clear hb
          go_wp2_with fail
          refine (within_any c k cc lc b m cb lb _ (HC.out.below HB.out) HLc.out (HBv.out.below HB.out) HLb.out (by have := HLJ9.out; have := HLM9.out; omega)).mono ?_
          rintro e w5 ⟨rfl, hb⟩
          rw [HQ.out]
          have HB := Lib.hid (HB.out.trans (hb.mono HB.out.size)); clear hb
          go_wp2_with fail
          refine (within_any c k cc lc am (Dt.meet la lb).length cm (Dt.meet la lb) _ (HC.out.below HB.out) HLc.out (HM.out.below HB.out) rfl (by have := HLJ9.out; have := HLM9.out; omega)).mono ?_
          rintro e w5 ⟨rfl, hb⟩
          rw [HMC.out]
          have HB := Lib.hid (HB.out.trans (hb.mono HB.out.size)); clear hb
          go_wp2_with fail
          refine (canon_any a n ca la _ (HA.out.below HB.out) HLa.out (by omega)).mono ?_
          rintro e w5 ⟨a5, c5, rfl, hr5, hb⟩
          have HR5 := Lib.hid hr5
          have HB := Lib.hid (HB.out.trans (hb.mono HB.out.size)); clear hb hr5
          go_wp2_with fail
          refine (canon_any b m cb lb _ (HBv.out.below HB.out) HLb.out (by omega)).mono ?_
          rintro e w6 ⟨a6, c6, rfl, hr6, hb⟩
          have HR6 := Lib.hid hr6; have HR5 := Lib.hid (HR5.out.below hb)
          have HB := Lib.hid (HB.out.trans (hb.mono HB.out.size)); clear hb hr6
          go_wp2_with fail
          refine (refsame_any a5 _ c5 (Dt.canon la) a6 _ c6 (Dt.canon lb) _ HR5.out rfl HR6.out rfl).mono ?_
          rintro e w7 ⟨rfl, hb⟩
          rw [HSame.out]
          have HB := Lib.hid (HB.out.trans (hb.mono HB.out.size)); clear hb HR5 HR6
          cases hu : Dt.within la lb
          · have HU := Lib.hid hu; clear hu
            simp only [Bool.false_and]
            go_wp2_with fail
            refine (within_any a n ca la b m cb lb _ (HA.out.below HB.out) HLa.out (HBv.out.below HB.out) HLb.out (by have := HLJ9.out; have := HLM9.out; omega)).mono ?_
            rintro e w5 ⟨rfl, hb⟩
            rw [HU.out]
            have HB := Lib.hid (HB.out.trans (hb.mono HB.out.size)); clear hb
            go_wp2_with fail
            refine (canon_any aj (Dt.join la lb).length cj (Dt.join la lb) _ (HJ.out.below HB.out) rfl (by have := HLJ9.out; omega)).mono ?_
            rintro e w5 ⟨a5, c5, rfl, hr5, hb⟩
            have HR5 := Lib.hid hr5
            have HB := Lib.hid (HB.out.trans (hb.mono HB.out.size)); clear hb hr5
            go_wp2_with fail
            refine (refsame_any a5 _ c5 (Dt.canon (Dt.join la lb)) aj _ cj (Dt.join la lb) _ HR5.out rfl (HJ.out.below HB.out) rfl).mono ?_
            rintro e w6 ⟨rfl, hb⟩
            rw [HCJ.out]
            have HB := Lib.hid (HB.out.trans (hb.mono HB.out.size)); clear hb HR5
            go_wp2_with fail
            refine (known_any _).mono ?_
            rintro e w7 ⟨rfl, hb⟩
            have HB := Lib.hid (HB.out.trans (hb.mono HB.out.size)); clear hb
            go_wp2_with fail
            go_ret
            exact ⟨rfl, H02.out.trans (HB.out.mono H02.out.size)⟩
          · have HU := Lib.hid hu; clear hu
            cases hv : Dt.within lb la
            · have HV := Lib.hid hv; clear hv
              simp only [Bool.and_false]
              go_wp2_with fail
              refine (within_any a n ca la b m cb lb _ (HA.out.below HB.out) HLa.out (HBv.out.below HB.out) HLb.out (by have := HLJ9.out; have := HLM9.out; omega)).mono ?_
              rintro e w5 ⟨rfl, hb⟩
              rw [HU.out]
              have HB := Lib.hid (HB.out.trans (hb.mono HB.out.size)); clear hb
              go_wp2_with fail
              refine (within_any b m cb lb a n ca la _ (HBv.out.below HB.out) HLb.out (HA.out.below HB.out) HLa.out (by have := HLJ9.out; have := HLM9.out; omega)).mono ?_
              rintro e w5 ⟨rfl, hb⟩
              rw [HV.out]
              have HB := Lib.hid (HB.out.trans (hb.mono HB.out.size)); clear hb
              go_wp2_with fail
              refine (canon_any aj (Dt.join la lb).length cj (Dt.join la lb) _ (HJ.out.below HB.out) rfl (by have := HLJ9.out; omega)).mono ?_
              rintro e w5 ⟨a5, c5, rfl, hr5, hb⟩
              have HR5 := Lib.hid hr5
              have HB := Lib.hid (HB.out.trans (hb.mono HB.out.size)); clear hb hr5
              go_wp2_with fail
              refine (refsame_any a5 _ c5 (Dt.canon (Dt.join la lb)) aj _ cj (Dt.join la lb) _ HR5.out rfl (HJ.out.below HB.out) rfl).mono ?_
              rintro e w6 ⟨rfl, hb⟩
              rw [HCJ.out]
              have HB := Lib.hid (HB.out.trans (hb.mono HB.out.size)); clear hb HR5
              go_wp2_with fail
              refine (known_any _).mono ?_
              rintro e w7 ⟨rfl, hb⟩
              have HB := Lib.hid (HB.out.trans (hb.mono HB.out.size)); clear hb
              go_wp2_with fail
              go_ret
              exact ⟨rfl, H02.out.trans (HB.out.mono H02.out.size)⟩
            · have HV := Lib.hid hv; clear hv
              simp only [Bool.and_true]
              go_wp2_with fail
              refine (within_any a n ca la b m cb lb _ (HA.out.below HB.out) HLa.out (HBv.out.below HB.out) HLb.out (by have := HLJ9.out; have := HLM9.out; omega)).mono ?_
              rintro e w5 ⟨rfl, hb⟩
              rw [HU.out]
              have HB := Lib.hid (HB.out.trans (hb.mono HB.out.size)); clear hb
              go_wp2_with fail
              refine (within_any b m cb lb a n ca la _ (HBv.out.below HB.out) HLb.out (HA.out.below HB.out) HLa.out (by have := HLJ9.out; have := HLM9.out; omega)).mono ?_
              rintro e w5 ⟨rfl, hb⟩
              rw [HV.out]
              have HB := Lib.hid (HB.out.trans (hb.mono HB.out.size)); clear hb
              go_wp2_with fail
              refine (canon_any aj (Dt.join la lb).length cj (Dt.join la lb) _ (HJ.out.below HB.out) rfl (by have := HLJ9.out; omega)).mono ?_
              rintro e w5 ⟨a5, c5, rfl, hr5, hb⟩
              have HR5 := Lib.hid hr5
              have HB := Lib.hid (HB.out.trans (hb.mono HB.out.size)); clear hb hr5
              go_wp2_with fail
              refine (refsame_any a5 _ c5 (Dt.canon (Dt.join la lb)) aj _ cj (Dt.join la lb) _ HR5.out rfl (HJ.out.below HB.out) rfl).mono ?_
              rintro e w6 ⟨rfl, hb⟩
              rw [HCJ.out]
              have HB := Lib.hid (HB.out.trans (hb.mono HB.out.size)); clear hb HR5
              go_wp2_with fail
              refine (known_any _).mono ?_
              rintro e w7 ⟨rfl, hb⟩
              have HB := Lib.hid (HB.out.trans (hb.mono HB.out.size)); clear hb
              go_wp2_with fail
              go_ret
              exact ⟨rfl, H02.out.trans (HB.out.mono H02.out.size)⟩
        · have HQ := Lib.hid hq; clear hq
          have HMC := Lib.hid (show Dt.within lc (Dt.meet la lb) = true by rw [HMC.out, HP.out, HQ.out]; rfl)
          refine (within_any c k cc lc a n ca la _ (HC.out.below HB.out) HLc.out (HA.out.below HB.out) HLa.out (by have := HLJ9.out; have := HLM9.out; omega)).mono ?_
          rintro e w5 ⟨rfl, hb⟩
          rw [HP.out]
          have HB := Lib.hid (HB.out.trans (hb.mono HB.out.size)); clear hb
          go_wp2_with fail
          refine (within_any c k cc lc b m cb lb _ (HC.out.below HB.out) HLc.out (HBv.out.below HB.out) HLb.out (by have := HLJ9.out; have := HLM9.out; omega)).mono ?_
          rintro e w5 ⟨rfl, hb⟩
          rw [HQ.out]
          have HB := Lib.hid (HB.out.trans (hb.mono HB.out.size)); clear hb
          go_wp2_with fail
          refine (within_any c k cc lc am (Dt.meet la lb).length cm (Dt.meet la lb) _ (HC.out.below HB.out) HLc.out (HM.out.below HB.out) rfl (by have := HLJ9.out; have := HLM9.out; omega)).mono ?_
          rintro e w5 ⟨rfl, hb⟩
          rw [HMC.out]
          have HB := Lib.hid (HB.out.trans (hb.mono HB.out.size)); clear hb
          go_wp2_with fail
          refine (canon_any a n ca la _ (HA.out.below HB.out) HLa.out (by omega)).mono ?_
          rintro e w5 ⟨a5, c5, rfl, hr5, hb⟩
          have HR5 := Lib.hid hr5
          have HB := Lib.hid (HB.out.trans (hb.mono HB.out.size)); clear hb hr5
          go_wp2_with fail
          refine (canon_any b m cb lb _ (HBv.out.below HB.out) HLb.out (by omega)).mono ?_
          rintro e w6 ⟨a6, c6, rfl, hr6, hb⟩
          have HR6 := Lib.hid hr6; have HR5 := Lib.hid (HR5.out.below hb)
          have HB := Lib.hid (HB.out.trans (hb.mono HB.out.size)); clear hb hr6
          go_wp2_with fail
          refine (refsame_any a5 _ c5 (Dt.canon la) a6 _ c6 (Dt.canon lb) _ HR5.out rfl HR6.out rfl).mono ?_
          rintro e w7 ⟨rfl, hb⟩
          rw [HSame.out]
          have HB := Lib.hid (HB.out.trans (hb.mono HB.out.size)); clear hb HR5 HR6
          cases hu : Dt.within la lb
          · have HU := Lib.hid hu; clear hu
            simp only [Bool.false_and]
            go_wp2_with fail
            refine (within_any a n ca la b m cb lb _ (HA.out.below HB.out) HLa.out (HBv.out.below HB.out) HLb.out (by have := HLJ9.out; have := HLM9.out; omega)).mono ?_
            rintro e w5 ⟨rfl, hb⟩
            rw [HU.out]
            have HB := Lib.hid (HB.out.trans (hb.mono HB.out.size)); clear hb
            go_wp2_with fail
            refine (canon_any aj (Dt.join la lb).length cj (Dt.join la lb) _ (HJ.out.below HB.out) rfl (by have := HLJ9.out; omega)).mono ?_
            rintro e w5 ⟨a5, c5, rfl, hr5, hb⟩
            have HR5 := Lib.hid hr5
            have HB := Lib.hid (HB.out.trans (hb.mono HB.out.size)); clear hb hr5
            go_wp2_with fail
            refine (refsame_any a5 _ c5 (Dt.canon (Dt.join la lb)) aj _ cj (Dt.join la lb) _ HR5.out rfl (HJ.out.below HB.out) rfl).mono ?_
            rintro e w6 ⟨rfl, hb⟩
            rw [HCJ.out]
            have HB := Lib.hid (HB.out.trans (hb.mono HB.out.size)); clear hb HR5
            go_wp2_with fail
            refine (known_any _).mono ?_
            rintro e w7 ⟨rfl, hb⟩
            have HB := Lib.hid (HB.out.trans (hb.mono HB.out.size)); clear hb
            go_wp2_with fail
            go_ret
            exact ⟨rfl, H02.out.trans (HB.out.mono H02.out.size)⟩
          · have HU := Lib.hid hu; clear hu
            cases hv : Dt.within lb la
            · have HV := Lib.hid hv; clear hv
              simp only [Bool.and_false]
              go_wp2_with fail
              refine (within_any a n ca la b m cb lb _ (HA.out.below HB.out) HLa.out (HBv.out.below HB.out) HLb.out (by have := HLJ9.out; have := HLM9.out; omega)).mono ?_
              rintro e w5 ⟨rfl, hb⟩
              rw [HU.out]
              have HB := Lib.hid (HB.out.trans (hb.mono HB.out.size)); clear hb
              go_wp2_with fail
              refine (within_any b m cb lb a n ca la _ (HBv.out.below HB.out) HLb.out (HA.out.below HB.out) HLa.out (by have := HLJ9.out; have := HLM9.out; omega)).mono ?_
              rintro e w5 ⟨rfl, hb⟩
              rw [HV.out]
              have HB := Lib.hid (HB.out.trans (hb.mono HB.out.size)); clear hb
              go_wp2_with fail
              refine (canon_any aj (Dt.join la lb).length cj (Dt.join la lb) _ (HJ.out.below HB.out) rfl (by have := HLJ9.out; omega)).mono ?_
              rintro e w5 ⟨a5, c5, rfl, hr5, hb⟩
              have HR5 := Lib.hid hr5
              have HB := Lib.hid (HB.out.trans (hb.mono HB.out.size)); clear hb hr5
              go_wp2_with fail
              refine (refsame_any a5 _ c5 (Dt.canon (Dt.join la lb)) aj _ cj (Dt.join la lb) _ HR5.out rfl (HJ.out.below HB.out) rfl).mono ?_
              rintro e w6 ⟨rfl, hb⟩
              rw [HCJ.out]
              have HB := Lib.hid (HB.out.trans (hb.mono HB.out.size)); clear hb HR5
              go_wp2_with fail
              refine (known_any _).mono ?_
              rintro e w7 ⟨rfl, hb⟩
              have HB := Lib.hid (HB.out.trans (hb.mono HB.out.size)); clear hb
              go_wp2_with fail
              go_ret
              exact ⟨rfl, H02.out.trans (HB.out.mono H02.out.size)⟩
            · have HV := Lib.hid hv; clear hv
              simp only [Bool.and_true]
              go_wp2_with fail
              refine (within_any a n ca la b m cb lb _ (HA.out.below HB.out) HLa.out (HBv.out.below HB.out) HLb.out (by have := HLJ9.out; have := HLM9.out; omega)).mono ?_
              rintro e w5 ⟨rfl, hb⟩
              rw [HU.out]
              have HB := Lib.hid (HB.out.trans (hb.mono HB.out.size)); clear hb
              go_wp2_with fail
              refine (within_any b m cb lb a n ca la _ (HBv.out.below HB.out) HLb.out (HA.out.below HB.out) HLa.out (by have := HLJ9.out; have := HLM9.out; omega)).mono ?_
              rintro e w5 ⟨rfl, hb⟩
              rw [HV.out]
              have HB := Lib.hid (HB.out.trans (hb.mono HB.out.size)); clear hb
              go_wp2_with fail
              refine (canon_any aj (Dt.join la lb).length cj (Dt.join la lb) _ (HJ.out.below HB.out) rfl (by have := HLJ9.out; omega)).mono ?_
              rintro e w5 ⟨a5, c5, rfl, hr5, hb⟩
              have HR5 := Lib.hid hr5
              have HB := Lib.hid (HB.out.trans (hb.mono HB.out.size)); clear hb hr5
              go_wp2_with fail
              refine (refsame_any a5 _ c5 (Dt.canon (Dt.join la lb)) aj _ cj (Dt.join la lb) _ HR5.out rfl (HJ.out.below HB.out) rfl).mono ?_
              rintro e w6 ⟨rfl, hb⟩
              rw [HCJ.out]
              have HB := Lib.hid (HB.out.trans (hb.mono HB.out.size)); clear hb HR5
              go_wp2_with fail
              refine (known_any _).mono ?_
              rintro e w7 ⟨rfl, hb⟩
              have HB := Lib.hid (HB.out.trans (hb.mono HB.out.size)); clear hb
              go_wp2_with fail
              go_ret
              exact ⟨rfl, H02.out.trans (HB.out.mono H02.out.size)⟩
    · have HY := Lib.hid hy; clear hy
      have HJC := Lib.hid (show Dt.within (Dt.join la lb) lc = true by rw [HJC.out, HX.out, HY.out]; rfl)
      refine (within_any a n ca la c k cc lc _ (HA.out.below HB.out) HLa.out (HC.out.below HB.out) HLc.out (by have := HLJ9.out; have := HLM9.out; omega)).mono ?_
      rintro e w5 ⟨rfl, hb⟩
      rw [HX.out]
      have HB := Lib.hid (HB.out.trans (hb.mono HB.out.size)); clear hb
      go_wp2_with fail
      refine (within_any b m cb lb c k cc lc _ (HBv.out.below HB.out) HLb.out (HC.out.below HB.out) HLc.out (by have := HLJ9.out; have := HLM9.out; omega)).mono ?_
      rintro e w5 ⟨rfl, hb⟩
      rw [HY.out]
      have HB := Lib.hid (HB.out.trans (hb.mono HB.out.size)); clear hb
      go_wp2_with fail
      refine (within_any aj (Dt.join la lb).length cj (Dt.join la lb) c k cc lc _ (HJ.out.below HB.out) rfl (HC.out.below HB.out) HLc.out (by have := HLJ9.out; have := HLM9.out; omega)).mono ?_
      rintro e w5 ⟨rfl, hb⟩
      rw [HJC.out]
      have HB := Lib.hid (HB.out.trans (hb.mono HB.out.size)); clear hb
      go_wp2_with fail
      cases hp : Dt.within lc la
      · have HP := Lib.hid hp; clear hp
        refine (within_any c k cc lc a n ca la _ (HC.out.below HB.out) HLc.out (HA.out.below HB.out) HLa.out (by have := HLJ9.out; have := HLM9.out; omega)).mono ?_
        rintro e w5 ⟨rfl, hb⟩
        rw [HP.out]
        have HB := Lib.hid (HB.out.trans (hb.mono HB.out.size)); clear hb
        go_wp2_with fail
        refine (canon_any a n ca la _ (HA.out.below HB.out) HLa.out (by omega)).mono ?_
        rintro e w5 ⟨a5, c5, rfl, hr5, hb⟩
        have HR5 := Lib.hid hr5
        have HB := Lib.hid (HB.out.trans (hb.mono HB.out.size)); clear hb hr5
        go_wp2_with fail
        refine (canon_any b m cb lb _ (HBv.out.below HB.out) HLb.out (by omega)).mono ?_
        rintro e w6 ⟨a6, c6, rfl, hr6, hb⟩
        have HR6 := Lib.hid hr6; have HR5 := Lib.hid (HR5.out.below hb)
        have HB := Lib.hid (HB.out.trans (hb.mono HB.out.size)); clear hb hr6
        go_wp2_with fail
        refine (refsame_any a5 _ c5 (Dt.canon la) a6 _ c6 (Dt.canon lb) _ HR5.out rfl HR6.out rfl).mono ?_
        rintro e w7 ⟨rfl, hb⟩
        rw [HSame.out]
        have HB := Lib.hid (HB.out.trans (hb.mono HB.out.size)); clear hb HR5 HR6
        cases hu : Dt.within la lb
        · have HU := Lib.hid hu; clear hu
          simp only [Bool.false_and]
          go_wp2_with fail
          refine (within_any a n ca la b m cb lb _ (HA.out.below HB.out) HLa.out (HBv.out.below HB.out) HLb.out (by have := HLJ9.out; have := HLM9.out; omega)).mono ?_
          rintro e w5 ⟨rfl, hb⟩
          rw [HU.out]
          have HB := Lib.hid (HB.out.trans (hb.mono HB.out.size)); clear hb
          go_wp2_with fail
          refine (canon_any aj (Dt.join la lb).length cj (Dt.join la lb) _ (HJ.out.below HB.out) rfl (by have := HLJ9.out; omega)).mono ?_
          rintro e w5 ⟨a5, c5, rfl, hr5, hb⟩
          have HR5 := Lib.hid hr5
          have HB := Lib.hid (HB.out.trans (hb.mono HB.out.size)); clear hb hr5
          go_wp2_with fail
          refine (refsame_any a5 _ c5 (Dt.canon (Dt.join la lb)) aj _ cj (Dt.join la lb) _ HR5.out rfl (HJ.out.below HB.out) rfl).mono ?_
          rintro e w6 ⟨rfl, hb⟩
          rw [HCJ.out]
          have HB := Lib.hid (HB.out.trans (hb.mono HB.out.size)); clear hb HR5
          go_wp2_with fail
          refine (known_any _).mono ?_
          rintro e w7 ⟨rfl, hb⟩
          have HB := Lib.hid (HB.out.trans (hb.mono HB.out.size)); clear hb
          go_wp2_with fail
          go_ret
          exact ⟨rfl, H02.out.trans (HB.out.mono H02.out.size)⟩
        · have HU := Lib.hid hu; clear hu
          cases hv : Dt.within lb la
          · have HV := Lib.hid hv; clear hv
            simp only [Bool.and_false]
            go_wp2_with fail
            refine (within_any a n ca la b m cb lb _ (HA.out.below HB.out) HLa.out (HBv.out.below HB.out) HLb.out (by have := HLJ9.out; have := HLM9.out; omega)).mono ?_
            rintro e w5 ⟨rfl, hb⟩
            rw [HU.out]
            have HB := Lib.hid (HB.out.trans (hb.mono HB.out.size)); clear hb
            go_wp2_with fail
            refine (within_any b m cb lb a n ca la _ (HBv.out.below HB.out) HLb.out (HA.out.below HB.out) HLa.out (by have := HLJ9.out; have := HLM9.out; omega)).mono ?_
            rintro e w5 ⟨rfl, hb⟩
            rw [HV.out]
            have HB := Lib.hid (HB.out.trans (hb.mono HB.out.size)); clear hb
            go_wp2_with fail
            refine (canon_any aj (Dt.join la lb).length cj (Dt.join la lb) _ (HJ.out.below HB.out) rfl (by have := HLJ9.out; omega)).mono ?_
            rintro e w5 ⟨a5, c5, rfl, hr5, hb⟩
            have HR5 := Lib.hid hr5
            have HB := Lib.hid (HB.out.trans (hb.mono HB.out.size)); clear hb hr5
            go_wp2_with fail
            refine (refsame_any a5 _ c5 (Dt.canon (Dt.join la lb)) aj _ cj (Dt.join la lb) _ HR5.out rfl (HJ.out.below HB.out) rfl).mono ?_
            rintro e w6 ⟨rfl, hb⟩
            rw [HCJ.out]
            have HB := Lib.hid (HB.out.trans (hb.mono HB.out.size)); clear hb HR5
            go_wp2_with fail
            refine (known_any _).mono ?_
            rintro e w7 ⟨rfl, hb⟩
            have HB := Lib.hid (HB.out.trans (hb.mono HB.out.size)); clear hb
            go_wp2_with fail
            go_ret
            exact ⟨rfl, H02.out.trans (HB.out.mono H02.out.size)⟩
          · have HV := Lib.hid hv; clear hv
            simp only [Bool.and_true]
            go_wp2_with fail
            refine (within_any a n ca la b m cb lb _ (HA.out.below HB.out) HLa.out (HBv.out.below HB.out) HLb.out (by have := HLJ9.out; have := HLM9.out; omega)).mono ?_
            rintro e w5 ⟨rfl, hb⟩
            rw [HU.out]
            have HB := Lib.hid (HB.out.trans (hb.mono HB.out.size)); clear hb
            go_wp2_with fail
            refine (within_any b m cb lb a n ca la _ (HBv.out.below HB.out) HLb.out (HA.out.below HB.out) HLa.out (by have := HLJ9.out; have := HLM9.out; omega)).mono ?_
            rintro e w5 ⟨rfl, hb⟩
            rw [HV.out]
            have HB := Lib.hid (HB.out.trans (hb.mono HB.out.size)); clear hb
            go_wp2_with fail
            refine (canon_any aj (Dt.join la lb).length cj (Dt.join la lb) _ (HJ.out.below HB.out) rfl (by have := HLJ9.out; omega)).mono ?_
            rintro e w5 ⟨a5, c5, rfl, hr5, hb⟩
            have HR5 := Lib.hid hr5
            have HB := Lib.hid (HB.out.trans (hb.mono HB.out.size)); clear hb hr5
            go_wp2_with fail
            refine (refsame_any a5 _ c5 (Dt.canon (Dt.join la lb)) aj _ cj (Dt.join la lb) _ HR5.out rfl (HJ.out.below HB.out) rfl).mono ?_
            rintro e w6 ⟨rfl, hb⟩
            rw [HCJ.out]
            have HB := Lib.hid (HB.out.trans (hb.mono HB.out.size)); clear hb HR5
            go_wp2_with fail
            refine (known_any _).mono ?_
            rintro e w7 ⟨rfl, hb⟩
            have HB := Lib.hid (HB.out.trans (hb.mono HB.out.size)); clear hb
            go_wp2_with fail
            go_ret
            exact ⟨rfl, H02.out.trans (HB.out.mono H02.out.size)⟩
      · have HP := Lib.hid hp; clear hp
        cases hq : Dt.within lc lb
        · have HQ := Lib.hid hq; clear hq
          have HMC := Lib.hid (show Dt.within lc (Dt.meet la lb) = false by rw [HMC.out, HP.out, HQ.out]; rfl)
          refine (within_any c k cc lc a n ca la _ (HC.out.below HB.out) HLc.out (HA.out.below HB.out) HLa.out (by have := HLJ9.out; have := HLM9.out; omega)).mono ?_
          rintro e w5 ⟨rfl, hb⟩
          rw [HP.out]
          have HB := Lib.hid (HB.out.trans (hb.mono HB.out.size)); clear hb
          go_wp2_with fail
          refine (within_any c k cc lc b m cb lb _ (HC.out.below HB.out) HLc.out (HBv.out.below HB.out) HLb.out (by have := HLJ9.out; have := HLM9.out; omega)).mono ?_
          rintro e w5 ⟨rfl, hb⟩
          rw [HQ.out]
          have HB := Lib.hid (HB.out.trans (hb.mono HB.out.size)); clear hb
          go_wp2_with fail
          refine (within_any c k cc lc am (Dt.meet la lb).length cm (Dt.meet la lb) _ (HC.out.below HB.out) HLc.out (HM.out.below HB.out) rfl (by have := HLJ9.out; have := HLM9.out; omega)).mono ?_
          rintro e w5 ⟨rfl, hb⟩
          rw [HMC.out]
          have HB := Lib.hid (HB.out.trans (hb.mono HB.out.size)); clear hb
          go_wp2_with fail
          refine (canon_any a n ca la _ (HA.out.below HB.out) HLa.out (by omega)).mono ?_
          rintro e w5 ⟨a5, c5, rfl, hr5, hb⟩
          have HR5 := Lib.hid hr5
          have HB := Lib.hid (HB.out.trans (hb.mono HB.out.size)); clear hb hr5
          go_wp2_with fail
          refine (canon_any b m cb lb _ (HBv.out.below HB.out) HLb.out (by omega)).mono ?_
          rintro e w6 ⟨a6, c6, rfl, hr6, hb⟩
          have HR6 := Lib.hid hr6; have HR5 := Lib.hid (HR5.out.below hb)
          have HB := Lib.hid (HB.out.trans (hb.mono HB.out.size)); clear hb hr6
          go_wp2_with fail
          refine (refsame_any a5 _ c5 (Dt.canon la) a6 _ c6 (Dt.canon lb) _ HR5.out rfl HR6.out rfl).mono ?_
          rintro e w7 ⟨rfl, hb⟩
          rw [HSame.out]
          have HB := Lib.hid (HB.out.trans (hb.mono HB.out.size)); clear hb HR5 HR6
          cases hu : Dt.within la lb
          · have HU := Lib.hid hu; clear hu
            simp only [Bool.false_and]
            go_wp2_with fail
            refine (within_any a n ca la b m cb lb _ (HA.out.below HB.out) HLa.out (HBv.out.below HB.out) HLb.out (by have := HLJ9.out; have := HLM9.out; omega)).mono ?_
            rintro e w5 ⟨rfl, hb⟩
            rw [HU.out]
            have HB := Lib.hid (HB.out.trans (hb.mono HB.out.size)); clear hb
            go_wp2_with fail
            refine (canon_any aj (Dt.join la lb).length cj (Dt.join la lb) _ (HJ.out.below HB.out) rfl (by have := HLJ9.out; omega)).mono ?_
            rintro e w5 ⟨a5, c5, rfl, hr5, hb⟩
            have HR5 := Lib.hid hr5
            have HB := Lib.hid (HB.out.trans (hb.mono HB.out.size)); clear hb hr5
            go_wp2_with fail
            refine (refsame_any a5 _ c5 (Dt.canon (Dt.join la lb)) aj _ cj (Dt.join la lb) _ HR5.out rfl (HJ.out.below HB.out) rfl).mono ?_
            rintro e w6 ⟨rfl, hb⟩
            rw [HCJ.out]
            have HB := Lib.hid (HB.out.trans (hb.mono HB.out.size)); clear hb HR5
            go_wp2_with fail
            refine (known_any _).mono ?_
            rintro e w7 ⟨rfl, hb⟩
            have HB := Lib.hid (HB.out.trans (hb.mono HB.out.size)); clear hb
            go_wp2_with fail
            go_ret
            exact ⟨rfl, H02.out.trans (HB.out.mono H02.out.size)⟩
          · have HU := Lib.hid hu; clear hu
            cases hv : Dt.within lb la
            · have HV := Lib.hid hv; clear hv
              simp only [Bool.and_false]
              go_wp2_with fail
              refine (within_any a n ca la b m cb lb _ (HA.out.below HB.out) HLa.out (HBv.out.below HB.out) HLb.out (by have := HLJ9.out; have := HLM9.out; omega)).mono ?_
              rintro e w5 ⟨rfl, hb⟩
              rw [HU.out]
              have HB := Lib.hid (HB.out.trans (hb.mono HB.out.size)); clear hb
              go_wp2_with fail
              refine (within_any b m cb lb a n ca la _ (HBv.out.below HB.out) HLb.out (HA.out.below HB.out) HLa.out (by have := HLJ9.out; have := HLM9.out; omega)).mono ?_
              rintro e w5 ⟨rfl, hb⟩
              rw [HV.out]
              have HB := Lib.hid (HB.out.trans (hb.mono HB.out.size)); clear hb
              go_wp2_with fail
              refine (canon_any aj (Dt.join la lb).length cj (Dt.join la lb) _ (HJ.out.below HB.out) rfl (by have := HLJ9.out; omega)).mono ?_
              rintro e w5 ⟨a5, c5, rfl, hr5, hb⟩
              have HR5 := Lib.hid hr5
              have HB := Lib.hid (HB.out.trans (hb.mono HB.out.size)); clear hb hr5
              go_wp2_with fail
              refine (refsame_any a5 _ c5 (Dt.canon (Dt.join la lb)) aj _ cj (Dt.join la lb) _ HR5.out rfl (HJ.out.below HB.out) rfl).mono ?_
              rintro e w6 ⟨rfl, hb⟩
              rw [HCJ.out]
              have HB := Lib.hid (HB.out.trans (hb.mono HB.out.size)); clear hb HR5
              go_wp2_with fail
              refine (known_any _).mono ?_
              rintro e w7 ⟨rfl, hb⟩
              have HB := Lib.hid (HB.out.trans (hb.mono HB.out.size)); clear hb
              go_wp2_with fail
              go_ret
              exact ⟨rfl, H02.out.trans (HB.out.mono H02.out.size)⟩
            · have HV := Lib.hid hv; clear hv
              simp only [Bool.and_true]
              go_wp2_with fail
              refine (within_any a n ca la b m cb lb _ (HA.out.below HB.out) HLa.out (HBv.out.below HB.out) HLb.out (by have := HLJ9.out; have := HLM9.out; omega)).mono ?_
              rintro e w5 ⟨rfl, hb⟩
              rw [HU.out]
              have HB := Lib.hid (HB.out.trans (hb.mono HB.out.size)); clear hb
              go_wp2_with fail
              refine (within_any b m cb lb a n ca la _ (HBv.out.below HB.out) HLb.out (HA.out.below HB.out) HLa.out (by have := HLJ9.out; have := HLM9.out; omega)).mono ?_
              rintro e w5 ⟨rfl, hb⟩
              rw [HV.out]
              have HB := Lib.hid (HB.out.trans (hb.mono HB.out.size)); clear hb
              go_wp2_with fail
              refine (canon_any aj (Dt.join la lb).length cj (Dt.join la lb) _ (HJ.out.below HB.out) rfl (by have := HLJ9.out; omega)).mono ?_
              rintro e w5 ⟨a5, c5, rfl, hr5, hb⟩
              have HR5 := Lib.hid hr5
              have HB := Lib.hid (HB.out.trans (hb.mono HB.out.size)); clear hb hr5
              go_wp2_with fail
              refine (refsame_any a5 _ c5 (Dt.canon (Dt.join la lb)) aj _ cj (Dt.join la lb) _ HR5.out rfl (HJ.out.below HB.out) rfl).mono ?_
              rintro e w6 ⟨rfl, hb⟩
              rw [HCJ.out]
              have HB := Lib.hid (HB.out.trans (hb.mono HB.out.size)); clear hb HR5
              go_wp2_with fail
              refine (known_any _).mono ?_
              rintro e w7 ⟨rfl, hb⟩
              have HB := Lib.hid (HB.out.trans (hb.mono HB.out.size)); clear hb
              go_wp2_with fail
              go_ret
              exact ⟨rfl, H02.out.trans (HB.out.mono H02.out.size)⟩
        · have HQ := Lib.hid hq; clear hq
          have HMC := Lib.hid (show Dt.within lc (Dt.meet la lb) = true by rw [HMC.out, HP.out, HQ.out]; rfl)
          refine (within_any c k cc lc a n ca la _ (HC.out.below HB.out) HLc.out (HA.out.below HB.out) HLa.out (by have := HLJ9.out; have := HLM9.out; omega)).mono ?_
          rintro e w5 ⟨rfl, hb⟩
          rw [HP.out]
          have HB := Lib.hid (HB.out.trans (hb.mono HB.out.size)); clear hb
          go_wp2_with fail
          refine (within_any c k cc lc b m cb lb _ (HC.out.below HB.out) HLc.out (HBv.out.below HB.out) HLb.out (by have := HLJ9.out; have := HLM9.out; omega)).mono ?_
          rintro e w5 ⟨rfl, hb⟩
          rw [HQ.out]
          have HB := Lib.hid (HB.out.trans (hb.mono HB.out.size)); clear hb
          go_wp2_with fail
          refine (within_any c k cc lc am (Dt.meet la lb).length cm (Dt.meet la lb) _ (HC.out.below HB.out) HLc.out (HM.out.below HB.out) rfl (by have := HLJ9.out; have := HLM9.out; omega)).mono ?_
          rintro e w5 ⟨rfl, hb⟩
          rw [HMC.out]
          have HB := Lib.hid (HB.out.trans (hb.mono HB.out.size)); clear hb
          go_wp2_with fail
          refine (canon_any a n ca la _ (HA.out.below HB.out) HLa.out (by omega)).mono ?_
          rintro e w5 ⟨a5, c5, rfl, hr5, hb⟩
          have HR5 := Lib.hid hr5
          have HB := Lib.hid (HB.out.trans (hb.mono HB.out.size)); clear hb hr5
          go_wp2_with fail
          refine (canon_any b m cb lb _ (HBv.out.below HB.out) HLb.out (by omega)).mono ?_
          rintro e w6 ⟨a6, c6, rfl, hr6, hb⟩
          have HR6 := Lib.hid hr6; have HR5 := Lib.hid (HR5.out.below hb)
          have HB := Lib.hid (HB.out.trans (hb.mono HB.out.size)); clear hb hr6
          go_wp2_with fail
          refine (refsame_any a5 _ c5 (Dt.canon la) a6 _ c6 (Dt.canon lb) _ HR5.out rfl HR6.out rfl).mono ?_
          rintro e w7 ⟨rfl, hb⟩
          rw [HSame.out]
          have HB := Lib.hid (HB.out.trans (hb.mono HB.out.size)); clear hb HR5 HR6
          cases hu : Dt.within la lb
          · have HU := Lib.hid hu; clear hu
            simp only [Bool.false_and]
            go_wp2_with fail
            refine (within_any a n ca la b m cb lb _ (HA.out.below HB.out) HLa.out (HBv.out.below HB.out) HLb.out (by have := HLJ9.out; have := HLM9.out; omega)).mono ?_
            rintro e w5 ⟨rfl, hb⟩
            rw [HU.out]
            have HB := Lib.hid (HB.out.trans (hb.mono HB.out.size)); clear hb
            go_wp2_with fail
            refine (canon_any aj (Dt.join la lb).length cj (Dt.join la lb) _ (HJ.out.below HB.out) rfl (by have := HLJ9.out; omega)).mono ?_
            rintro e w5 ⟨a5, c5, rfl, hr5, hb⟩
            have HR5 := Lib.hid hr5
            have HB := Lib.hid (HB.out.trans (hb.mono HB.out.size)); clear hb hr5
            go_wp2_with fail
            refine (refsame_any a5 _ c5 (Dt.canon (Dt.join la lb)) aj _ cj (Dt.join la lb) _ HR5.out rfl (HJ.out.below HB.out) rfl).mono ?_
            rintro e w6 ⟨rfl, hb⟩
            rw [HCJ.out]
            have HB := Lib.hid (HB.out.trans (hb.mono HB.out.size)); clear hb HR5
            go_wp2_with fail
            refine (known_any _).mono ?_
            rintro e w7 ⟨rfl, hb⟩
            have HB := Lib.hid (HB.out.trans (hb.mono HB.out.size)); clear hb
            go_wp2_with fail
            go_ret
            exact ⟨rfl, H02.out.trans (HB.out.mono H02.out.size)⟩
          · have HU := Lib.hid hu; clear hu
            cases hv : Dt.within lb la
            · have HV := Lib.hid hv; clear hv
              simp only [Bool.and_false]
              go_wp2_with fail
              refine (within_any a n ca la b m cb lb _ (HA.out.below HB.out) HLa.out (HBv.out.below HB.out) HLb.out (by have := HLJ9.out; have := HLM9.out; omega)).mono ?_
              rintro e w5 ⟨rfl, hb⟩
              rw [HU.out]
              have HB := Lib.hid (HB.out.trans (hb.mono HB.out.size)); clear hb
              go_wp2_with fail
              refine (within_any b m cb lb a n ca la _ (HBv.out.below HB.out) HLb.out (HA.out.below HB.out) HLa.out (by have := HLJ9.out; have := HLM9.out; omega)).mono ?_
              rintro e w5 ⟨rfl, hb⟩
              rw [HV.out]
              have HB := Lib.hid (HB.out.trans (hb.mono HB.out.size)); clear hb
              go_wp2_with fail
              refine (canon_any aj (Dt.join la lb).length cj (Dt.join la lb) _ (HJ.out.below HB.out) rfl (by have := HLJ9.out; omega)).mono ?_
              rintro e w5 ⟨a5, c5, rfl, hr5, hb⟩
              have HR5 := Lib.hid hr5
              have HB := Lib.hid (HB.out.trans (hb.mono HB.out.size)); clear hb hr5
              go_wp2_with fail
              refine (refsame_any a5 _ c5 (Dt.canon (Dt.join la lb)) aj _ cj (Dt.join la lb) _ HR5.out rfl (HJ.out.below HB.out) rfl).mono ?_
              rintro e w6 ⟨rfl, hb⟩
              rw [HCJ.out]
              have HB := Lib.hid (HB.out.trans (hb.mono HB.out.size)); clear hb HR5
              go_wp2_with fail
              refine (known_any _).mono ?_
              rintro e w7 ⟨rfl, hb⟩
              have HB := Lib.hid (HB.out.trans (hb.mono HB.out.size)); clear hb
              go_wp2_with fail
              go_ret
              exact ⟨rfl, H02.out.trans (HB.out.mono H02.out.size)⟩
            · have HV := Lib.hid hv; clear hv
              simp only [Bool.and_true]
              go_wp2_with fail
              refine (within_any a n ca la b m cb lb _ (HA.out.below HB.out) HLa.out (HBv.out.below HB.out) HLb.out (by have := HLJ9.out; have := HLM9.out; omega)).mono ?_
              rintro e w5 ⟨rfl, hb⟩
              rw [HU.out]
              have HB := Lib.hid (HB.out.trans (hb.mono HB.out.size)); clear hb
              go_wp2_with fail
              refine (within_any b m cb lb a n ca la _ (HBv.out.below HB.out) HLb.out (HA.out.below HB.out) HLa.out (by have := HLJ9.out; have := HLM9.out; omega)).mono ?_
              rintro e w5 ⟨rfl, hb⟩
              rw [HV.out]
              have HB := Lib.hid (HB.out.trans (hb.mono HB.out.size)); clear hb
              go_wp2_with fail
              refine (canon_any aj (Dt.join la lb).length cj (Dt.join la lb) _ (HJ.out.below HB.out) rfl (by have := HLJ9.out; omega)).mono ?_
              rintro e w5 ⟨a5, c5, rfl, hr5, hb⟩
              have HR5 := Lib.hid hr5
              have HB := Lib.hid (HB.out.trans (hb.mono HB.out.size)); clear hb hr5
              go_wp2_with fail
              refine (refsame_any a5 _ c5 (Dt.canon (Dt.join la lb)) aj _ cj (Dt.join la lb) _ HR5.out rfl (HJ.out.below HB.out) rfl).mono ?_
              rintro e w6 ⟨rfl, hb⟩
              rw [HCJ.out]
              have HB := Lib.hid (HB.out.trans (hb.mono HB.out.size)); clear hb HR5
              go_wp2_with fail
              refine (known_any _).mono ?_
              rintro e w7 ⟨rfl, hb⟩
              have HB := Lib.hid (HB.out.trans (hb.mono HB.out.size)); clear hb
              go_wp2_with fail
              go_ret
              exact ⟨rfl, H02.out.trans (HB.out.mono H02.out.size)⟩
end Go.Proofs.Ytfebbdnibimmmaa
