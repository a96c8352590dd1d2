import Derived.Test.YtpkfjgoimaomfaaOp7
namespace Go.Proofs.Ytpkfjgoimaomfaa
open Go.RowKit Go.Buf Go.Maps
set_option linter.unusedSimpArgs false
set_option linter.unusedVariables false
theorem str_ne {d e : ByteArray} (h : d ≠ e) : (d.toList == e.toList) = false := by
  rw [ByteArray.toList_eq, ByteArray.toList_eq]
  simp only [beq_eq_false_iff_ne, ne_eq]
  intro g
  exact h (ByteArray.ext (Array.toList_inj.1 g))
theorem take_eq_succS {la lb : List ByteArray} {k : Nat} {d : ByteArray} (h : la.take k = lb.take k) (ha : la[k]? = some d) (hb : lb[k]? = some d) : la.take (k + 1) = lb.take (k + 1) := by
  obtain ⟨h1, rfl⟩ := List.getElem?_eq_some_iff.1 ha
  obtain ⟨h2, e⟩ := List.getElem?_eq_some_iff.1 hb
  rw [List.take_succ_eq_append_getElem h1, List.take_succ_eq_append_getElem h2, h, e]
theorem dot_neO {d e : Dt.Dot} (h : d ≠ e) : d.1.1 ≠ e.1.1 ∨ (d.1.1 = e.1.1 ∧ d.1.2 ≠ e.1.2) ∨ (d.1.1 = e.1.1 ∧ d.1.2 = e.1.2 ∧ d.2 ≠ e.2) := by
  rcases d with ⟨⟨a, b⟩, c⟩; rcases e with ⟨⟨x, y⟩, z⟩
  simp only [ne_eq, Prod.mk.injEq] at *
  omega
theorem take_eq_succO {la lb : List Dt.Dot} {k : Nat} {d : Dt.Dot} (h : la.take k = lb.take k) (ha : la[k]? = some d) (hb : lb[k]? = some d) : la.take (k + 1) = lb.take (k + 1) := by
  obtain ⟨h1, rfl⟩ := List.getElem?_eq_some_iff.1 ha
  obtain ⟨h2, e⟩ := List.getElem?_eq_some_iff.1 hb
  rw [List.take_succ_eq_append_getElem h1, List.take_succ_eq_append_getElem h2, h, e]
set_option maxRecDepth 100000 in
set_option maxHeartbeats 1600000 in
theorem equalD_any (a : Option Addr) (n cap : Nat) (la : List Dt.Dot) (c : Option Addr) (m capc : Nat) (lb : List Dt.Dot) (W : World) (hr : VRow W a cap la) (hl : la.length = n) (hs : VRow W c capc lb) (hm : lb.length = m) :
    Calls Try.prog 33 #[.slice a n cap, .slice c m capc] W fun e w' => e = .returned (.bool (decide (la = lb))) ∧ Below W.heap.size W w' := by
  have hle := hr.le
  have hcap := hr.cap
  rw [hl] at hle
  have HR := Lib.hid hr; have HL := Lib.hid hl; have HS := Lib.hid hs; have HM := Lib.hid hm
  clear hr hl hs hm
  by_cases hnm : n = m
  · subst hnm
    go_enter Try.func33, Try.ntmps33
    go_wp2
    go_loopw [5, 13] (fun _ i wr => ∃ k : Nat, k ≤ n ∧ i = .int .i64 k ∧ la.take k = lb.take k ∧ Below W.heap.size W wr) (fun _ i _ => n - (intOf i).toNat)
    case atStart => exact ⟨0, Nat.zero_le _, rfl, rfl, Below.refl _ _⟩
    case round =>
      obtain ⟨k, hk, rfl, htk, hbel⟩ := hrel
      have HT := Lib.hid htk; have HBel := Lib.hid hbel; clear htk hbel
      by_cases hlt : k < n
      · obtain ⟨d, hd⟩ := getD_some (l := la) (i := k) (by rw [HL.out]; exact hlt)
        obtain ⟨e, he⟩ := getD_some (l := lb) (i := k) (by rw [HM.out]; exact hlt)
        obtain ⟨b1, o1, rfl, hb1, hc1⟩ := HR.out.at (by rw [HL.out]; omega)
        obtain ⟨b2, o2, rfl, hb2, hc2⟩ := HS.out.at (by rw [HM.out]; omega)
        obtain ⟨g0, g1, g2⟩ := hc1 k d hd
        obtain ⟨g3, g4, g5⟩ := hc2 k e he
        have q0 := (HBel.out.cell (p := ⟨b1, o1 + k * 3, none⟩) hb1).trans g0
        have q1 := (HBel.out.cell (p := ⟨b1, o1 + k * 3 + 1, none⟩) hb1).trans g1
        have q2 := (HBel.out.cell (p := ⟨b1, o1 + k * 3 + 2, none⟩) hb1).trans g2
        have q3 := (HBel.out.cell (p := ⟨b2, o2 + k * 3, none⟩) hb2).trans g3
        have q4 := (HBel.out.cell (p := ⟨b2, o2 + k * 3 + 1, none⟩) hb2).trans g4
        have q5 := (HBel.out.cell (p := ⟨b2, o2 + k * 3 + 2, none⟩) hb2).trans g5
        have i0 : (0 : Int) ≤ (k : Int) := by omega
        have i1 : (k : Int) < (n : Int) := by omega
        have Hd := Lib.hid hd; have He := Lib.hid he
        clear hc1 hc2 g0 g1 g2 g3 g4 g5 hd he
        by_cases hde : d = e
        · subst hde
          have Hs := Lib.hid (take_eq_succO HT.out Hd.out He.out)
          obtain ⟨⟨r, i⟩, s⟩ := d
          simp only at q0 q1 q2 q3 q4 q5
          go_wp2
          go_quiet (fail)
          go_wp2
          clear q0 q1 q2 q3 q4 q5
          go_roundw
          case rel => exact ⟨k + 1, by omega, by go_num, Hs.out, below_drewN HBel.out _⟩
          case measure => simp [intOf]; omega
        · have hfin : decide (la = lb) = false := decide_eq_false fun g => hde (by have h1 := Hd.out; have h2 := He.out; rw [g, h2] at h1; exact (Option.some.inj h1).symm)
          have Hfin := Lib.hid hfin; clear hfin
          have hne := dot_neO hde
          obtain ⟨⟨r, i⟩, s⟩ := d
          obtain ⟨⟨r', i'⟩, s'⟩ := e
          simp only at q0 q1 q2 q3 q4 q5 hne
          clear hde
          rcases hne with h1 | ⟨rfl, h1⟩ | ⟨rfl, rfl, h1⟩
          · have d1 : ((r : Int) == (r' : Int)) = false := by simp; omega
            clear h1
            go_wp2
            go_quiet (fail)
            go_wp2
            go_ret
            exact ⟨ret_bool Hfin.out.symm, below_drewN HBel.out _⟩
          · have d1 : ((i : Int) == (i' : Int)) = false := by simp; omega
            clear h1
            go_wp2
            go_quiet (fail)
            go_wp2
            go_ret
            exact ⟨ret_bool Hfin.out.symm, below_drewN HBel.out _⟩
          · have d1 : ((s : Int) == (s' : Int)) = false := by simp; omega
            clear h1
            go_wp2
            go_quiet (fail)
            go_wp2
            go_ret
            exact ⟨ret_bool Hfin.out.symm, below_drewN HBel.out _⟩
      · have hfin : decide (la = lb) = true := decide_eq_true (by have := HT.out; rwa [List.take_of_length_le (by rw [HL.out]; omega), List.take_of_length_le (by rw [HM.out]; omega)] at this)
        have Hfin := Lib.hid hfin; clear hfin
        go_wp2
        go_ret
        exact ⟨ret_bool Hfin.out.symm, HBel.out⟩
  · have hfin : decide (la = lb) = false := decide_eq_false fun g => hnm (by rw [← HL.out, ← HM.out, g])
    have Hfin := Lib.hid hfin; clear hfin
    have d1 : ((n : Int) == (m : Int)) = false := by simp; omega
    go_enter Try.func33, Try.ntmps33
    go_wp2
    go_ret
    exact ⟨ret_bool Hfin.out.symm, Below.refl _ _⟩
set_option maxRecDepth 100000 in
set_option maxHeartbeats 1600000 in
theorem equalS_any (a : Option Addr) (n cap : Nat) (la : List ByteArray) (c : Option Addr) (m capc : Nat) (lb : List ByteArray) (W : World) (hr : SRow W a cap la) (hl : la.length = n) (hs : SRow W c capc lb) (hm : lb.length = m) :
    Calls Try.prog 32 #[.slice a n cap, .slice c m capc] W fun e w' => e = .returned (.bool (decide (la = lb))) ∧ Below W.heap.size W w' := by
  have hle := hr.le
  have hcap := hr.cap
  rw [hl] at hle
  have HR := Lib.hid hr; have HL := Lib.hid hl; have HS := Lib.hid hs; have HM := Lib.hid hm
  clear hr hl hs hm
  by_cases hnm : n = m
  · subst hnm
    go_enter Try.func32, Try.ntmps32
    go_wp2
    go_loopw [5, 13] (fun _ i wr => ∃ k : Nat, k ≤ n ∧ i = .int .i64 k ∧ la.take k = lb.take k ∧ Below W.heap.size W wr) (fun _ i _ => n - (intOf i).toNat)
    case atStart => exact ⟨0, Nat.zero_le _, rfl, rfl, Below.refl _ _⟩
    case round =>
      obtain ⟨k, hk, rfl, htk, hbel⟩ := hrel
      have HT := Lib.hid htk; have HBel := Lib.hid hbel; clear htk hbel
      by_cases hlt : k < n
      · obtain ⟨d, hd⟩ := gets_some (l := la) (i := k) (by rw [HL.out]; exact hlt)
        obtain ⟨e, he⟩ := gets_some (l := lb) (i := k) (by rw [HM.out]; exact hlt)
        obtain ⟨b1, o1, rfl, hb1, hc1⟩ := HR.out.at (by rw [HL.out]; omega)
        obtain ⟨b2, o2, rfl, hb2, hc2⟩ := HS.out.at (by rw [HM.out]; omega)
        have g0 := hc1 k d hd
        have g3 := hc2 k e he
        have q0 := (HBel.out.cell (p := ⟨b1, o1 + k, none⟩) hb1).trans g0
        have q3 := (HBel.out.cell (p := ⟨b2, o2 + k, none⟩) hb2).trans g3
        have i0 : (0 : Int) ≤ (k : Int) := by omega
        have i1 : (k : Int) < (n : Int) := by omega
        have Hd := Lib.hid hd; have He := Lib.hid he
        clear hc1 hc2 g0 g3 hd he
        by_cases hde : d = e
        · subst hde
          have Hs := Lib.hid (take_eq_succS HT.out Hd.out He.out)
          go_wp2
          go_quiet (fail)
          go_wp2
          clear q0 q3
          go_roundw
          case rel => exact ⟨k + 1, by omega, by go_num, Hs.out, below_drewN HBel.out _⟩
          case measure => simp [intOf]; omega
        · have hfin : decide (la = lb) = false := decide_eq_false fun g => hde (by have h1 := Hd.out; have h2 := He.out; rw [g, h2] at h1; exact (Option.some.inj h1).symm)
          have Hfin := Lib.hid hfin; clear hfin
          have d1 := str_ne hde
          go_wp2
          go_quiet (fail)
          go_wp2
          go_ret
          exact ⟨ret_bool Hfin.out.symm, below_drewN HBel.out _⟩
      · have hfin : decide (la = lb) = true := decide_eq_true (by have := HT.out; rwa [List.take_of_length_le (by rw [HL.out]; omega), List.take_of_length_le (by rw [HM.out]; omega)] at this)
        have Hfin := Lib.hid hfin; clear hfin
        go_wp2
        go_ret
        exact ⟨ret_bool Hfin.out.symm, HBel.out⟩
  · have hfin : decide (la = lb) = false := decide_eq_false fun g => hnm (by rw [← HL.out, ← HM.out, g])
    have Hfin := Lib.hid hfin; clear hfin
    have d1 : ((n : Int) == (m : Int)) = false := by simp; omega
    go_enter Try.func32, Try.ntmps32
    go_wp2
    go_ret
    exact ⟨ret_bool Hfin.out.symm, Below.refl _ _⟩
end Go.Proofs.Ytpkfjgoimaomfaa
