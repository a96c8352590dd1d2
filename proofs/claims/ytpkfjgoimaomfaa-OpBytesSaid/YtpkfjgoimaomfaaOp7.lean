import Derived.Test.YtpkfjgoimaomfaaOp6
namespace Go.Proofs.Ytpkfjgoimaomfaa
open Go.RowKit Go.Buf
set_option linter.unusedSimpArgs false
set_option linter.unusedVariables false
theorem refopmay_any (k : Nat) (pa : Option Addr) (pl pc : Nat) (n : Int) (t : ByteArray) (da : Option Addr) (dl dc : Nat) (p : List ByteArray) (d : List Dt.Dot) (W : World) (hp : SRow W pa pc p) (hpl : p.length = pl) (hr : VRow W da dc d) (hdl : d.length = dl) :
    Calls Try.prog 12 #[opV k pa pl pc n t da dl dc] W fun e w' => e = .returned (.bool (Om.may ⟨k, p, n, t, d⟩)) ∧ Below W.heap.size W w' := by
  by_cases hT : Om.type k = 0
  · exact refmay_type k pa pl pc n t da dl dc p d W hp hpl hr hdl hT
  cases hm : Om.mayPath p
  · exact refmay_path k pa pl pc n t da dl dc p d W hp hpl hr hdl _ hT rfl hm
  by_cases ht : t.size ≤ 40
  case neg => exact refmay_text k pa pl pc n t da dl dc p d W hp hpl hr hdl _ hT rfl hm (by omega)
  by_cases hd : dl ≤ 64
  case neg => exact refmay_dots k pa pl pc n t da dl dc p d W hp hpl hr hdl _ hT rfl hm ht (by omega)
  by_cases hk : k = 1
  · exact refmay_add k pa pl pc n t da dl dc p d W hp hpl hr hdl _ hT rfl hm ht hd hk
  by_cases hn : n = 0
  case neg => exact refmay_n k pa pl pc n t da dl dc p d W hp hpl hr hdl _ hT rfl hm ht hd hk hn
  by_cases hk4 : k = 4
  · subst hn; subst hk4; exact refmay_drop 4 pa pl pc 0 t da dl dc p d W hp hpl hr hdl _ hT rfl hm ht hd rfl rfl
  by_cases hz : dl = 0
  · exact refmay_none k pa pl pc n t da dl dc p d W hp hpl hr hdl _ hT rfl hm ht hd hk hk4 hn hz
  · exact refmay_some k pa pl pc n t da dl dc p d W hp hpl hr hdl _ hT rfl hm ht hd hk hk4 hn (by omega)
/-- an event's value -/
abbrev evV (r i s tm : Nat) (k : Nat) (pa : Option Addr) (pl pc : Nat) (n : Int) (t : ByteArray) (da : Option Addr) (dl dc : Nat) : Value := .agg #[.int .u8 (r : Int), .int .u32 (i : Int), .int .u64 (s : Int), .int .u64 (tm : Int), .int .u8 (k : Int), .slice pa pl pc, .int .i64 n, .string t, .slice da dl dc]
theorem evcells {W w1 : World} {c0 c1 c2 c3 c4 c5 c6 c7 c8 : Value} (hb : Below (W.alloc (.cells #[c0, c1, c2, c3, c4, c5, c6, c7, c8] 33)).heap.size (W.alloc (.cells #[c0, c1, c2, c3, c4, c5, c6, c7, c8] 33)) w1) :
    w1.cell? ⟨W.heap.size, 0, none⟩ = some c0 ∧ w1.cell? ⟨W.heap.size, 1, none⟩ = some c1 ∧ w1.cell? ⟨W.heap.size, 2, none⟩ = some c2 ∧ w1.cell? ⟨W.heap.size, 3, none⟩ = some c3 ∧ w1.cell? ⟨W.heap.size, 4, none⟩ = some c4 ∧ w1.cell? ⟨W.heap.size, 5, none⟩ = some c5 ∧ w1.cell? ⟨W.heap.size, 6, none⟩ = some c6 ∧ w1.cell? ⟨W.heap.size, 7, none⟩ = some c7 ∧ w1.cell? ⟨W.heap.size, 8, none⟩ = some c8 :=
  ⟨(hb.cell (p := ⟨W.heap.size, 0, none⟩) (by simp)).trans (by simp), (hb.cell (p := ⟨W.heap.size, 1, none⟩) (by simp)).trans (by simp), (hb.cell (p := ⟨W.heap.size, 2, none⟩) (by simp)).trans (by simp), (hb.cell (p := ⟨W.heap.size, 3, none⟩) (by simp)).trans (by simp), (hb.cell (p := ⟨W.heap.size, 4, none⟩) (by simp)).trans (by simp), (hb.cell (p := ⟨W.heap.size, 5, none⟩) (by simp)).trans (by simp), (hb.cell (p := ⟨W.heap.size, 6, none⟩) (by simp)).trans (by simp), (hb.cell (p := ⟨W.heap.size, 7, none⟩) (by simp)).trans (by simp), (hb.cell (p := ⟨W.heap.size, 8, none⟩) (by simp)).trans (by simp)⟩
set_option maxRecDepth 100000 in
set_option maxHeartbeats 1600000 in
theorem mayEvent_any (r i s tm k : Nat) (hk : k < 256) (pa : Option Addr) (pl pc : Nat) (n : Int) (t : ByteArray) (da : Option Addr) (dl dc : Nat) (p : List ByteArray) (d : List Dt.Dot) (W : World) (hp : SRow W pa pc p) (hpl : p.length = pl) (hr : VRow W da dc d) (hdl : d.length = dl) :
    Calls Try.prog 13 #[evV r i s tm k pa pl pc n t da dl dc] W fun e w' => e = .returned (.bool (Om.mayEvent ⟨((r, i), s), tm, ⟨k, p, n, t, d⟩⟩)) ∧ Below W.heap.size W w' := by
  have HP := Lib.hid hp; have HPl := Lib.hid hpl; have HR := Lib.hid hr; have HDl := Lib.hid hdl
  have HBox := Lib.hid (below_box W #[.int .u8 (r : Int), .int .u32 (i : Int), .int .u64 (s : Int), .int .u64 (tm : Int), .int .u8 (k : Int), .slice pa pl pc, .int .i64 n, .string t, .slice da dl dc] 33)
  clear hp hpl hr hdl
  cases hm : Dt.may ((r, i), s)
  · have HM := Lib.hid hm; clear hm
    go_enter Try.func13, Try.ntmps13
    go_wp2_with fail
    refine (may_any r i s _).mono ?_
    rintro e w1 ⟨rfl, hb⟩
    have HB := Lib.hid hb; clear hb
    rw [HM.out]
    go_wp2_with fail
    go_ret
    exact ⟨ret_bool (by simp [Om.mayEvent, HM.out]), HBox.out.trans (HB.out.mono HBox.out.size)⟩
  have HM := Lib.hid hm; clear hm
  by_cases h1 : 1 ≤ tm
  case neg =>
    go_enter Try.func13, Try.ntmps13
    go_wp2_with fail
    refine (may_any r i s _).mono ?_
    rintro e w1 ⟨rfl, hb⟩
    obtain ⟨hc0, hc1, hc2, hc3, hc4, hc5, hc6, hc7, hc8⟩ := evcells hb
    have HB := Lib.hid hb; clear hb
    rw [HM.out]
    go_wp2_with fail
    go_ret
    exact ⟨ret_bool (by simp [Om.mayEvent, h1]), HBox.out.trans (HB.out.mono HBox.out.size)⟩
  by_cases h2 : tm ≤ 1099511627776
  case neg =>
    go_enter Try.func13, Try.ntmps13
    go_wp2_with fail
    refine (may_any r i s _).mono ?_
    rintro e w1 ⟨rfl, hb⟩
    obtain ⟨hc0, hc1, hc2, hc3, hc4, hc5, hc6, hc7, hc8⟩ := evcells hb
    have HB := Lib.hid hb; clear hb
    rw [HM.out]
    go_wp2_with fail
    go_ret
    exact ⟨ret_bool (by simp [Om.mayEvent, h2]), HBox.out.trans (HB.out.mono HBox.out.size)⟩
  go_enter Try.func13, Try.ntmps13
  go_wp2_with fail
  refine (may_any r i s _).mono ?_
  rintro e w1 ⟨rfl, hb⟩
  obtain ⟨hc0, hc1, hc2, hc3, hc4, hc5, hc6, hc7, hc8⟩ := evcells hb
  have HB := Lib.hid (HBox.out.trans (hb.mono HBox.out.size)); clear hb
  rw [HM.out]
  go_wp2_with fail
  refine (opmay_any k hk pa pl pc n t da dl dc p d _ (HP.out.below HB.out) HPl.out (HR.out.below HB.out) HDl.out).mono ?_
  rintro e w2 ⟨rfl, hb⟩
  have HB2 := Lib.hid (HB.out.trans (hb.mono HB.out.size)); clear hb
  go_wp2_with fail
  go_ret
  exact ⟨ret_bool (by simp [Om.mayEvent, HM.out, h1, h2]), HB2.out⟩
set_option maxRecDepth 100000 in
set_option maxHeartbeats 1600000 in
theorem refmayEvent_any (r i s tm k : Nat) (hk : k < 256) (pa : Option Addr) (pl pc : Nat) (n : Int) (t : ByteArray) (da : Option Addr) (dl dc : Nat) (p : List ByteArray) (d : List Dt.Dot) (W : World) (hp : SRow W pa pc p) (hpl : p.length = pl) (hr : VRow W da dc d) (hdl : d.length = dl) :
    Calls Try.prog 14 #[evV r i s tm k pa pl pc n t da dl dc] W fun e w' => e = .returned (.bool (Om.mayEvent ⟨((r, i), s), tm, ⟨k, p, n, t, d⟩⟩)) ∧ Below W.heap.size W w' := by
  have HP := Lib.hid hp; have HPl := Lib.hid hpl; have HR := Lib.hid hr; have HDl := Lib.hid hdl
  have HBox := Lib.hid (below_box W #[.int .u8 (r : Int), .int .u32 (i : Int), .int .u64 (s : Int), .int .u64 (tm : Int), .int .u8 (k : Int), .slice pa pl pc, .int .i64 n, .string t, .slice da dl dc] 33)
  clear hp hpl hr hdl
  cases hm : Dt.may ((r, i), s)
  · have HM := Lib.hid hm; clear hm
    go_enter Try.func14, Try.ntmps14
    go_wp2_with fail
    refine (refmay_any r i s _).mono ?_
    rintro e w1 ⟨rfl, hb⟩
    have HB := Lib.hid hb; clear hb
    rw [HM.out]
    go_wp2_with fail
    go_ret
    exact ⟨ret_bool (by simp [Om.mayEvent, HM.out]), HBox.out.trans (HB.out.mono HBox.out.size)⟩
  have HM := Lib.hid hm; clear hm
  by_cases h1 : 1 ≤ tm
  case neg =>
    go_enter Try.func14, Try.ntmps14
    go_wp2_with fail
    refine (refmay_any r i s _).mono ?_
    rintro e w1 ⟨rfl, hb⟩
    obtain ⟨hc0, hc1, hc2, hc3, hc4, hc5, hc6, hc7, hc8⟩ := evcells hb
    have HB := Lib.hid hb; clear hb
    rw [HM.out]
    go_wp2_with fail
    go_ret
    exact ⟨ret_bool (by simp [Om.mayEvent, h1]), HBox.out.trans (HB.out.mono HBox.out.size)⟩
  by_cases h2 : tm ≤ 1099511627776
  case neg =>
    go_enter Try.func14, Try.ntmps14
    go_wp2_with fail
    refine (refmay_any r i s _).mono ?_
    rintro e w1 ⟨rfl, hb⟩
    obtain ⟨hc0, hc1, hc2, hc3, hc4, hc5, hc6, hc7, hc8⟩ := evcells hb
    have HB := Lib.hid hb; clear hb
    rw [HM.out]
    go_wp2_with fail
    go_ret
    exact ⟨ret_bool (by simp [Om.mayEvent, h2]), HBox.out.trans (HB.out.mono HBox.out.size)⟩
  go_enter Try.func14, Try.ntmps14
  go_wp2_with fail
  refine (refmay_any r i s _).mono ?_
  rintro e w1 ⟨rfl, hb⟩
  obtain ⟨hc0, hc1, hc2, hc3, hc4, hc5, hc6, hc7, hc8⟩ := evcells hb
  have HB := Lib.hid (HBox.out.trans (hb.mono HBox.out.size)); clear hb
  rw [HM.out]
  go_wp2_with fail
  refine (refopmay_any k pa pl pc n t da dl dc p d _ (HP.out.below HB.out) HPl.out (HR.out.below HB.out) HDl.out).mono ?_
  rintro e w2 ⟨rfl, hb⟩
  have HB2 := Lib.hid (HB.out.trans (hb.mono HB.out.size)); clear hb
  go_wp2_with fail
  go_ret
  exact ⟨ret_bool (by simp [Om.mayEvent, HM.out, h1, h2]), HB2.out⟩
end Go.Proofs.Ytpkfjgoimaomfaa
