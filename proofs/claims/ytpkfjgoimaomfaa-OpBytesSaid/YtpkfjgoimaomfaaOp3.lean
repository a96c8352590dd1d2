import Derived.Test.YtpkfjgoimaomfaaOp2
import Derived.Laws.EntriesVeiled
namespace Go.Proofs.Ytpkfjgoimaomfaa
open Go.RowKit Go.Buf
set_option linter.unusedSimpArgs false
/-- an operation's value -/
abbrev opV (k : Nat) (pa : Option Addr) (pl pc : Nat) (n : Int) (t : ByteArray) (da : Option Addr) (dl dc : Nat) : Value := .agg #[.int .u8 (k : Int), .slice pa pl pc, .int .i64 n, .string t, .slice da dl dc]
theorem opcells {W w1 : World} {c0 c1 c2 c3 c4 : Value} (hb : Below (W.alloc (.cells #[c0, c1, c2, c3, c4] 31)).heap.size (W.alloc (.cells #[c0, c1, c2, c3, c4] 31)) w1) :
    w1.cell? ⟨W.heap.size, 0, none⟩ = some c0 ∧ w1.cell? ⟨W.heap.size, 1, none⟩ = some c1 ∧ w1.cell? ⟨W.heap.size, 2, none⟩ = some c2 ∧ w1.cell? ⟨W.heap.size, 3, none⟩ = some c3 ∧ w1.cell? ⟨W.heap.size, 4, none⟩ = some c4 :=
  ⟨(hb.cell (p := ⟨W.heap.size, 0, none⟩) (by simp)).trans (by simp), (hb.cell (p := ⟨W.heap.size, 1, none⟩) (by simp)).trans (by simp), (hb.cell (p := ⟨W.heap.size, 2, none⟩) (by simp)).trans (by simp), (hb.cell (p := ⟨W.heap.size, 3, none⟩) (by simp)).trans (by simp), (hb.cell (p := ⟨W.heap.size, 4, none⟩) (by simp)).trans (by simp)⟩
theorem below_box (W : World) (c : Array Value) (t : TypeId) : Below W.heap.size W (W.alloc (.cells c t)) := (Below.refl _ _).alloc (Nat.le_refl _) _
theorem str_nil (t : ByteArray) : t.toList = [] ↔ t.size = 0 := by
  rw [ByteArray.toList_eq]
  constructor
  · intro h; have := congrArg List.length h; simpa using this
  · intro h; have : t.data.size = 0 := h; simp; exact Array.eq_empty_of_size_eq_zero this
set_option maxHeartbeats 800000 in
theorem mayNever_any (v : Value) (w : World) (c : Array Value) (hv : v = .agg c) (hc : c.size = 5) : Calls Try.prog 64 #[v] w fun e w' => e = .returned (.bool false) ∧ Below w.heap.size w w' := by
  subst hv
  obtain ⟨c0, c1, c2, c3, c4, rfl⟩ : ∃ c0 c1 c2 c3 c4, c = #[c0, c1, c2, c3, c4] := by
    obtain ⟨l⟩ := c
    match l, hc with
    | [c0, c1, c2, c3, c4], _ => exact ⟨_, _, _, _, _, rfl⟩
  clear hc
  go_enter Try.func64, Try.ntmps64
  go_wp2_with fail
  go_ret
  exact ⟨rfl, below_box _ _ _⟩
set_option maxHeartbeats 800000 in
theorem mayAdd_any (k : Nat) (pa : Option Addr) (pl pc : Nat) (n : Int) (t : ByteArray) (da : Option Addr) (dl dc : Nat) (p : List ByteArray) (d : List Dt.Dot) (w : World) (hdl : d.length = dl) :
    Calls Try.prog 65 #[opV k pa pl pc n t da dl dc] w fun e w' => e = .returned (.bool (Om.mayAdd ⟨k, p, n, t, d⟩)) ∧ Below w.heap.size w w' := by
  have HD := Lib.hid hdl; clear hdl
  go_enter Try.func65, Try.ntmps65
  go_wp2_with fail
  all_goals
    go_ret
    refine ⟨ret_bool ?_, below_box _ _ _⟩
    have hD := HD.out
    try simp only [str_nil] at *
    rw [Bool.eq_iff_iff]
    simp [Om.mayAdd, Om.mayText, -ByteArray.size_eq_zero_iff, -List.length_eq_zero_iff]
    try omega
set_option maxHeartbeats 800000 in
theorem mayText_any (k : Nat) (pa : Option Addr) (pl pc : Nat) (n : Int) (t : ByteArray) (da : Option Addr) (dl dc : Nat) (p : List ByteArray) (d : List Dt.Dot) (w : World) (hdl : d.length = dl) :
    Calls Try.prog 66 #[opV k pa pl pc n t da dl dc] w fun e w' => e = .returned (.bool (Om.mayText ⟨k, p, n, t, d⟩)) ∧ Below w.heap.size w w' := by
  have HD := Lib.hid hdl; clear hdl
  go_enter Try.func66, Try.ntmps66
  go_wp2_with fail
  all_goals
    go_ret
    refine ⟨ret_bool ?_, below_box _ _ _⟩
    have hD := HD.out
    try simp only [str_nil] at *
    rw [Bool.eq_iff_iff]
    simp [Om.mayAdd, Om.mayText, -ByteArray.size_eq_zero_iff, -List.length_eq_zero_iff]
    try omega
set_option maxHeartbeats 800000 in
theorem mayDrop_any (k : Nat) (pa : Option Addr) (pl pc : Nat) (n : Int) (t : ByteArray) (da : Option Addr) (dl dc : Nat) (p : List ByteArray) (d : List Dt.Dot) (w : World) (hr : VRow w da dc d) (hdl : d.length = dl) :
    Calls Try.prog 67 #[opV k pa pl pc n t da dl dc] w fun e w' => e = .returned (.bool (Om.mayDrop ⟨k, p, n, t, d⟩)) ∧ Below w.heap.size w w' := by
  have HD := Lib.hid hdl; have HR := Lib.hid hr; clear hdl hr
  by_cases h1 : n = 0
  · by_cases h2 : t.size ≤ 40
    · go_enter Try.func67, Try.ntmps67
      go_wp2_with fail
      refine (mayDrops_any da dl dc d _ (HR.out.below (below_box _ _ _)) HD.out).mono ?_
      rintro e w1 ⟨rfl, hb⟩
      go_wp2_with fail
      go_ret
      exact ⟨ret_bool (by simp [Om.mayDrop, h1, h2]), (below_box _ _ _).trans (hb.mono (by simp))⟩
    · go_enter Try.func67, Try.ntmps67
      go_wp2_with fail
      go_ret
      exact ⟨ret_bool (by simp [Om.mayDrop, h2]), below_box _ _ _⟩
  · have d1 : (n == 0) = false := by simpa using h1
    go_enter Try.func67, Try.ntmps67
    go_wp2_with fail
    go_ret
    exact ⟨ret_bool (by simp [Om.mayDrop, h1]), below_box _ _ _⟩
def askF (k : Nat) : Nat := if k = 1 then 65 else if k = 2 then 66 else if k = 3 then 66 else if k = 4 then 67 else if k = 5 then 66 else 64
theorem asked_any (k : Nat) (pa : Option Addr) (pl pc : Nat) (n : Int) (t : ByteArray) (da : Option Addr) (dl dc : Nat) (p : List ByteArray) (d : List Dt.Dot) (w : World) (hr : VRow w da dc d) (hdl : d.length = dl) :
    Calls Try.prog (askF k) #[opV k pa pl pc n t da dl dc] w fun e w' => e = .returned (.bool (Om.asked ⟨k, p, n, t, d⟩)) ∧ Below w.heap.size w w' := by
  unfold askF Om.asked
  by_cases h1 : k = 1
  · simp only [h1, if_pos]; exact mayAdd_any _ _ _ _ _ _ _ _ _ _ _ _ hdl
  by_cases h2 : k = 2
  · simp only [h1, h2, if_pos, if_false]; exact mayText_any _ _ _ _ _ _ _ _ _ _ _ _ hdl
  by_cases h3 : k = 3
  · simp only [h1, h2, h3, if_pos, if_false]; exact mayText_any _ _ _ _ _ _ _ _ _ _ _ _ hdl
  by_cases h4 : k = 4
  · simp only [h1, h2, h3, h4, if_pos, if_false]; exact mayDrop_any _ _ _ _ _ _ _ _ _ _ _ _ hr hdl
  by_cases h5 : k = 5
  · simp only [h1, h2, h3, h4, h5, if_pos, if_false]; exact mayText_any _ _ _ _ _ _ _ _ _ _ _ _ hdl
  · simp only [h1, h2, h3, h4, h5, if_false]; exact mayNever_any _ _ _ rfl rfl
def traitV (k : Nat) : Value := .agg #[.int .u8 (Om.type k : Nat), .func (.func (askF k)) #[] #[]]
abbrev kindsC : Array Value := #[.int .u8 0, .func (.func 64) #[] #[], .int .u8 1, .func (.func 65) #[] #[], .int .u8 2, .func (.func 66) #[] #[], .int .u8 3, .func (.func 66) #[] #[], .int .u8 3, .func (.func 67) #[] #[], .int .u8 4, .func (.func 66) #[] #[]]
set_option maxHeartbeats 800000 in
theorem kinds_any (w : World) : Calls Try.prog 51 #[] w fun e w' => e = .returned (.agg kindsC) ∧ Below w.heap.size w w' := by
  go_enter Try.func51, Try.ntmps51
  go_wp2_with fail
  exact bodyPost_ret (v := .agg kindsC) (by simp [results, Try.results51, go_sem]) rfl ⟨rfl, below_box _ _ _⟩
theorem set2 {B : Nat} {w w1 : World} (h : Below B w w1) {b : Nat} (hb : B ≤ b) (x y : Value) : Below B w ((w1.setCell ⟨b, 0, none⟩ x).setCell ⟨b, 1, none⟩ y) := (h.setCell hb _).setCell hb _
set_option maxHeartbeats 3200000 in
theorem traitsOf_any (k : Nat) (h256 : k < 256) (w : World) : Calls Try.prog 28 #[.int .u8 (k : Int)] w fun e w' => e = .returned (traitV k) ∧ Below w.heap.size w w' := by
  by_cases hk : k < 6
  · have hk' : k = 0 ∨ k = 1 ∨ k = 2 ∨ k = 3 ∨ k = 4 ∨ k = 5 := by omega
    rcases hk' with rfl | rfl | rfl | rfl | rfl | rfl
    all_goals
      go_enter Try.func28, Try.ntmps28
      go_wp2_with fail
      refine (kinds_any _).mono ?_
      rintro e w1 ⟨rfl, hb⟩
      obtain ⟨hc, hf⟩ := bcell hb
      have hz : w.heap.size < w1.heap.size := by have := hb.size; simp at this; omega
      have hb0 : Below w.heap.size w w1 := (below_box _ _ _).trans (hb.mono (by simp))
      have Hb0 := Lib.hid hb0; clear hb0
      go_wp2_with fail
      refine bodyPost_ret (by simp [results, Try.results28, go_sem, hc, hz]; rfl) rfl ⟨rfl, ?_⟩
      exact (set2 Hb0.out (Nat.le_refl _) _ _).alloc (by simp; exact Hb0.out.size) _
  · have ht : traitV k = .agg #[.int .u8 0, .func (.func 64) #[] #[]] := by
      unfold traitV askF Om.type
      simp only [show ¬ k = 1 by omega, show ¬ k = 2 by omega, show ¬ k = 3 by omega, show ¬ k = 4 by omega, show ¬ k = 5 by omega, if_false]; rfl
    have HT := Lib.hid ht; clear ht
    have hk6 : (6 : Int) ≤ (k : Int) := by omega
    have hw64 : wrap64 (k : Int) = (k : Int) := by simp only [wrap64]; omega
    go_enter Try.func28, Try.ntmps28
    go_wp2_with fail
    refine (kinds_any _).mono ?_
    rintro e w1 ⟨rfl, hb⟩
    obtain ⟨hc, hf⟩ := bcell hb
    have hz : w.heap.size < w1.heap.size := by have := hb.size; simp at this; omega
    have hb0 : Below w.heap.size w w1 := (below_box _ _ _).trans (hb.mono (by simp))
    have Hb0 := Lib.hid hb0; clear hb0
    go_wp2_with fail
    refine bodyPost_ret (by simp [results, Try.results28, go_sem, hc, hz]; rfl) rfl ⟨by rw [HT.out], ?_⟩
    exact (set2 Hb0.out (Nat.le_refl _) _ _).alloc (by simp; exact Hb0.out.size) _
theorem field_leaf (u f : Value) (w : World) : Sem.run Try.prog (Instr.field 54 (.agg #[u, f]) 0) w = .ok u w := by kernel_rfl
theorem field_may (u f : Value) (w : World) : Sem.run Try.prog (Instr.field 54 (.agg #[u, f]) 1) w = .ok f w := by kernel_rfl
set_option maxRecDepth 100000 in
set_option maxHeartbeats 800000 in
theorem type_any (k : Nat) (h256 : k < 256) (w : World) : Calls Try.prog 15 #[.int .u8 (k : Int)] w fun e w' => e = .returned (.int .u8 (Om.type k : Nat)) ∧ Below w.heap.size w w' := by
  have hfl := field_leaf
  go_enter Try.func15, Try.ntmps15
  go_wp2_with fail
  refine (traitsOf_any k h256 _).mono ?_
  rintro e w1 ⟨rfl, hb⟩
  have HB := Lib.hid hb; clear hb
  generalize hT : traitV k = T
  unfold traitV at hT
  generalize hA : askF k = A at hT
  generalize hY : Om.type k = Y at hT
  have HY := Lib.hid hY
  subst hT
  clear hA hY
  go_wp2_with fail
  go_ret
  refine ⟨by rw [HY.out]; rfl, HB.out⟩
end Go.Proofs.Ytpkfjgoimaomfaa
