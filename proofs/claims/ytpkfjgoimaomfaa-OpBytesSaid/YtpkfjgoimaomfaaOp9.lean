import Derived.Test.YtpkfjgoimaomfaaOp8
namespace Go.Proofs.Ytpkfjgoimaomfaa
open Go.RowKit Go.Buf Go.Maps
set_option linter.unusedSimpArgs false
set_option linter.unusedVariables false
theorem same_no {o o' : Om.O} (h : ¬ (o.kind = o'.kind ∧ o.n = o'.n ∧ o.text = o'.text ∧ o.path = o'.path ∧ o.dots = o'.dots)) : decide (o = o') = false := decide_eq_false fun e => h (by subst e; simp)
/-- both boxes' cells -/
theorem opcells2 {W w1 : World} {c0 c1 c2 c3 c4 d0 d1 d2 d3 d4 : Value} (hb : Below ((W.alloc (.cells #[c0, c1, c2, c3, c4] 31)).alloc (.cells #[d0, d1, d2, d3, d4] 31)).heap.size ((W.alloc (.cells #[c0, c1, c2, c3, c4] 31)).alloc (.cells #[d0, d1, d2, d3, d4] 31)) w1) :
    (w1.cell? ⟨W.heap.size, 0, none⟩ = some c0 ∧ w1.cell? ⟨W.heap.size, 1, none⟩ = some c1 ∧ w1.cell? ⟨W.heap.size, 2, none⟩ = some c2 ∧ w1.cell? ⟨W.heap.size, 3, none⟩ = some c3 ∧ w1.cell? ⟨W.heap.size, 4, none⟩ = some c4) ∧
    (w1.cell? ⟨W.heap.size + 1, 0, none⟩ = some d0 ∧ w1.cell? ⟨W.heap.size + 1, 1, none⟩ = some d1 ∧ w1.cell? ⟨W.heap.size + 1, 2, none⟩ = some d2 ∧ w1.cell? ⟨W.heap.size + 1, 3, none⟩ = some d3 ∧ w1.cell? ⟨W.heap.size + 1, 4, none⟩ = some d4) := by
  refine ⟨opcells ((below_box _ _ _).trans (hb.mono (by simp))), ?_⟩
  have h := opcells hb
  simpa using h
set_option maxRecDepth 100000 in
set_option maxHeartbeats 1600000 in
theorem opsame_any (k : Nat) (pa : Option Addr) (pl pc : Nat) (n : Int) (t : ByteArray) (da : Option Addr) (dl dc : Nat) (p : List ByteArray) (d : List Dt.Dot) (k' : Nat) (pa' : Option Addr) (pl' pc' : Nat) (n' : Int) (t' : ByteArray) (da' : Option Addr) (dl' dc' : Nat) (p' : List ByteArray) (d' : List Dt.Dot) (W : World) (hp : SRow W pa pc p) (hpl : p.length = pl) (hr : VRow W da dc d) (hdl : d.length = dl) (hp' : SRow W pa' pc' p') (hpl' : p'.length = pl') (hr' : VRow W da' dc' d') (hdl' : d'.length = dl') :
    Calls Try.prog 17 #[opV k pa pl pc n t da dl dc, opV k' pa' pl' pc' n' t' da' dl' dc'] W fun e w' => e = .returned (.bool (decide ((⟨k, p, n, t, d⟩ : Om.O) = ⟨k', p', n', t', d'⟩))) ∧ Below W.heap.size W w' := by
  have HP := Lib.hid hp; have HPl := Lib.hid hpl; have HR := Lib.hid hr; have HDl := Lib.hid hdl
  have HP' := Lib.hid hp'; have HPl' := Lib.hid hpl'; have HR' := Lib.hid hr'; have HDl' := Lib.hid hdl'
  have HBox := Lib.hid ((below_box W #[.int .u8 (k : Int), .slice pa pl pc, .int .i64 n, .string t, .slice da dl dc] 31).trans ((below_box (W.alloc (.cells #[.int .u8 (k : Int), .slice pa pl pc, .int .i64 n, .string t, .slice da dl dc] 31)) #[.int .u8 (k' : Int), .slice pa' pl' pc', .int .i64 n', .string t', .slice da' dl' dc'] 31).mono (below_box W #[.int .u8 (k : Int), .slice pa pl pc, .int .i64 n, .string t, .slice da dl dc] 31).size))
  clear hp hpl hr hdl hp' hpl' hr' hdl'
  by_cases hk : k = k'
  case neg =>
    have HM := Lib.hid (same_no (o := ⟨k, p, n, t, d⟩) (o' := ⟨k', p', n', t', d'⟩) (by simp; omega))
    have d1 : ((k : Int) == (k' : Int)) = false := by simp; omega
    clear hk
    go_enter Try.func17, Try.ntmps17
    go_wp2_with fail
    go_ret
    exact ⟨ret_bool HM.out.symm, HBox.out⟩
  subst hk
  by_cases hn : n = n'
  case neg =>
    have HM := Lib.hid (same_no (o := ⟨k, p, n, t, d⟩) (o' := ⟨k, p', n', t', d'⟩) (by simp; omega))
    have d1 : (n == n') = false := by simpa using hn
    clear hn
    go_enter Try.func17, Try.ntmps17
    go_wp2_with fail
    go_ret
    exact ⟨ret_bool HM.out.symm, HBox.out⟩
  subst hn
  by_cases ht : t = t'
  case neg =>
    have HM := Lib.hid (same_no (o := ⟨k, p, n, t, d⟩) (o' := ⟨k, p', n, t', d'⟩) (by simp; intro h; exact absurd h ht))
    have d1 := str_ne ht
    clear ht
    go_enter Try.func17, Try.ntmps17
    go_wp2_with fail
    go_ret
    exact ⟨ret_bool HM.out.symm, HBox.out⟩
  subst ht
  by_cases hp : p = p'
  case neg =>
    have HM := Lib.hid (same_no (o := ⟨k, p, n, t, d⟩) (o' := ⟨k, p', n, t, d'⟩) (by simp; intro h; exact absurd h hp))
    have HQ := Lib.hid (decide_eq_false hp)
    clear hp
    go_enter Try.func17, Try.ntmps17
    go_wp2_with fail
    refine (equalS_any pa pl pc p pa' pl' pc' p' _ (HP.out.below HBox.out) HPl.out (HP'.out.below HBox.out) HPl'.out).mono ?_
    rintro e w1 ⟨rfl, hb⟩
    obtain ⟨⟨hc0, hc1, hc2, hc3, hc4⟩, hd0, hd1, hd2, hd3, hd4⟩ := opcells2 hb
    have HB := Lib.hid (HBox.out.trans (hb.mono HBox.out.size)); clear hb
    rw [HQ.out]
    go_wp2_with fail
    go_ret
    exact ⟨ret_bool HM.out.symm, HB.out⟩
  have HQ := Lib.hid (decide_eq_true hp)
  have HPP := Lib.hid hp; clear hp
  go_enter Try.func17, Try.ntmps17
  go_wp2_with fail
  refine (equalS_any pa pl pc p pa' pl' pc' p' _ (HP.out.below HBox.out) HPl.out (HP'.out.below HBox.out) HPl'.out).mono ?_
  rintro e w1 ⟨rfl, hb⟩
  obtain ⟨⟨hc0, hc1, hc2, hc3, hc4⟩, hd0, hd1, hd2, hd3, hd4⟩ := opcells2 hb
  have HB := Lib.hid (HBox.out.trans (hb.mono HBox.out.size)); clear hb
  rw [HQ.out]
  go_wp2_with fail
  refine (equalD_any da dl dc d da' dl' dc' d' _ (HR.out.below HB.out) HDl.out (HR'.out.below HB.out) HDl'.out).mono ?_
  rintro e w2 ⟨rfl, hb⟩
  have HB2 := Lib.hid (HB.out.trans (hb.mono HB.out.size)); clear hb
  go_wp2_with fail
  go_ret
  exact ⟨ret_bool (by simp [HPP.out]), HB2.out⟩
end Go.Proofs.Ytpkfjgoimaomfaa
