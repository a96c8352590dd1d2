import Derived.Test.YtpkfjgoimaomfaaOp3
namespace Go.Proofs.Ytpkfjgoimaomfaa
open Go.RowKit Go.Buf
set_option linter.unusedSimpArgs false
theorem call_ask (k : Nat) (c : Array Value) (w : World) : Sem.run Try.prog (callFunc (askF k) c) w = .ok (.enter (askF k) c) w := by
  unfold askF
  repeat' split
  all_goals go_simp
set_option maxRecDepth 100000 in
set_option maxHeartbeats 3200000 in
theorem opmay_any (k : Nat) (hk : k < 256) (pa : Option Addr) (pl pc : Nat) (n : Int) (t : ByteArray) (da : Option Addr) (dl dc : Nat) (p : List ByteArray) (d : List Dt.Dot) (W : World) (hp : SRow W pa pc p) (hpl : p.length = pl) (hr : VRow W da dc d) (hdl : d.length = dl) :
    Calls Try.prog 11 #[opV k pa pl pc n t da dl dc] W fun e w' => e = .returned (.bool (Om.may ⟨k, p, n, t, d⟩)) ∧ Below W.heap.size W w' := by
  have HP := Lib.hid hp; have HPl := Lib.hid hpl; have HR := Lib.hid hr; have HDl := Lib.hid hdl
  clear hp hpl hr hdl
  cases hm : Om.mayPath p
  · have HMp := Lib.hid hm; clear hm
    go_enter Try.func11, Try.ntmps11
    go_wp2_with fail
    have HB := Lib.hid ((Below.refl _ _).drew : Below (W.alloc (.cells #[.int .u8 (k : Int), .slice pa pl pc, .int .i64 n, .string t, .slice da dl dc] 31)).heap.size (W.alloc (.cells #[.int .u8 (k : Int), .slice pa pl pc, .int .i64 n, .string t, .slice da dl dc] 31)) (W.alloc (.cells #[.int .u8 (k : Int), .slice pa pl pc, .int .i64 n, .string t, .slice da dl dc] 31)).drew)
    refine Reg.region_list (by kernel_rfl) [fun v _ => v = .pointer (some ⟨W.heap.size, 1, none⟩), fun v _ => v = .slice pa pl pc, fun v _ => v = .bool false, fun v _ => v = .bool false, fun v _ => v = undef, fun v _ => v = undef, fun v _ => v = undef, fun v _ => v = undef, fun v _ => v = undef, fun v _ => v = undef, fun v _ => v = .bool false, fun v _ => v = .bool false] (by kernel_rfl) ?_ ?_ ?_
    · refine ⟨(fun _ _ _ _ h => h), (fun _ _ _ _ h => h), (fun _ _ _ _ h => h), (fun _ _ _ _ h => h), (fun _ _ _ _ h => h), (fun _ _ _ _ h => h), (fun _ _ _ _ h => h), (fun _ _ _ _ h => h), (fun _ _ _ _ h => h), (fun _ _ _ _ h => h), (fun _ _ _ _ h => h), (fun _ _ _ _ h => h), trivial⟩
    · refine ⟨?_, ?_, ?_, ?_, ?_, ?_, ?_, ?_, ?_, ?_, ?_, ?_, trivial⟩
      · intro ev w hc hf hg hfix hdep hbel
        have e1 : ev (.tmp 1) = .pointer (some ⟨W.heap.size, 0, none⟩) := hfix 1 (by decide)
        exact Or.inl ⟨trivial, Or.inl ⟨.pointer (some ⟨W.heap.size, 1, none⟩), w, by go_simp, rfl, Below.refl _ _⟩⟩
      · intro ev w hc hf hg hfix hdep hbel
        have e3 : ev (.tmp 3) = .pointer (some ⟨W.heap.size, 1, none⟩) := hdep 0 (by decide)
        have hc := opcells (HB.out.trans (hbel.mono HB.out.size))
        obtain ⟨hc0, hc1, hc2, hc3, hc4⟩ := hc
        exact Or.inl ⟨trivial, Or.inl ⟨.slice pa pl pc, w, by go_simp, rfl, Below.refl _ _⟩⟩
      · intro ev w hc hf hg hfix hdep hbel
        have e4 : ev (.tmp 4) = .slice pa pl pc := hdep 1 (by decide)
        refine Or.inl ⟨trivial, Or.inr ⟨9, #[.slice pa pl pc], w, by go_simp, ?_⟩⟩
        refine (mayPath_any pa pl pc p w ((HP.out.below (below_box _ _ _)).below (HB.out.trans (hbel.mono HB.out.size))) HPl.out).mono ?_
        rintro e w1 ⟨rfl, rfl⟩
        exact ⟨_, rfl, by rw [HMp.out], Below.refl _ _⟩
      · intro ev w hc hf hg hfix hdep hbel
        have e5 : ev (.tmp 5) = .bool false := hdep 2 (by decide)
        exact Or.inl ⟨trivial, Or.inl ⟨.bool false, w, by go_simp, rfl, Below.refl _ _⟩⟩
      · intro ev w hc hf hg hfix hdep hbel
        have fg : ev (.tmp 6) = .bool false := hdep 3 (by decide)
        have e1 : ev (.tmp 1) = .pointer (some ⟨W.heap.size, 0, none⟩) := hfix 1 (by decide)
        exact Or.inr ⟨Or.inl fg, rfl⟩
      · intro ev w hc hf hg hfix hdep hbel
        have fg : ev (.tmp 6) = .bool false := hdep 3 (by decide)
        have e7 : ev (.tmp 7) = undef := hdep 4 (by decide)
        exact Or.inr ⟨Or.inl fg, rfl⟩
      · intro ev w hc hf hg hfix hdep hbel
        have fg : ev (.tmp 6) = .bool false := hdep 3 (by decide)
        have e8 : ev (.tmp 8) = undef := hdep 5 (by decide)
        exact Or.inr ⟨Or.inl fg, rfl⟩
      · intro ev w hc hf hg hfix hdep hbel
        have fg : ev (.tmp 6) = .bool false := hdep 3 (by decide)
        have e9 : ev (.tmp 9) = undef := hdep 6 (by decide)
        exact Or.inr ⟨Or.inl fg, rfl⟩
      · intro ev w hc hf hg hfix hdep hbel
        have fg : ev (.tmp 6) = .bool false := hdep 3 (by decide)
        have e1 : ev (.tmp 1) = .pointer (some ⟨W.heap.size, 0, none⟩) := hfix 1 (by decide)
        exact Or.inr ⟨Or.inl fg, rfl⟩
      · intro ev w hc hf hg hfix hdep hbel
        have fg : ev (.tmp 6) = .bool false := hdep 3 (by decide)
        have e10 : ev (.tmp 10) = undef := hdep 7 (by decide)
        have e11 : ev (.tmp 11) = undef := hdep 8 (by decide)
        exact Or.inr ⟨Or.inl fg, rfl⟩
      · intro ev w hc hf hg hfix hdep hbel
        have e6 : ev (.tmp 6) = .bool false := hdep 3 (by decide)
        have e12 : ev (.tmp 12) = undef := hdep 9 (by decide)
        exact Or.inl ⟨trivial, Or.inl ⟨.bool false, w, by go_simp, rfl, Below.refl _ _⟩⟩
      · intro ev w hc hf hg hfix hdep hbel
        have e13 : ev (.tmp 13) = .bool false := hdep 10 (by decide)
        exact Or.inl ⟨trivial, Or.inl ⟨.bool false, w, by go_simp, rfl, Below.refl _ _⟩⟩
    · intro v w2 hv hb2
      have r0 : v 0 = .pointer (some ⟨W.heap.size, 1, none⟩) := hv 0 (by decide)
      have r1 : v 1 = .slice pa pl pc := hv 1 (by decide)
      have r2 : v 2 = .bool false := hv 2 (by decide)
      have r3 : v 3 = .bool false := hv 3 (by decide)
      have r4 : v 4 = undef := hv 4 (by decide)
      have r5 : v 5 = undef := hv 5 (by decide)
      have r6 : v 6 = undef := hv 6 (by decide)
      have r7 : v 7 = undef := hv 7 (by decide)
      have r8 : v 8 = undef := hv 8 (by decide)
      have r9 : v 9 = undef := hv 9 (by decide)
      have r10 : v 10 = .bool false := hv 10 (by decide)
      have r11 : v 11 = .bool false := hv 11 (by decide)
      simp only [Reg.putAll, Act.put, List.setIfInBounds_toArray, List.set_cons_zero, List.set_cons_succ, r0, r1, r2, r3, r4, r5, r6, r7, r8, r9, r10, r11]
      clear r0 r1 r2 r3 r4 r5 r6 r7 r8 r9 r10 r11 hv
      have HBw := Lib.hid ((below_box W #[.int .u8 (k : Int), .slice pa pl pc, .int .i64 n, .string t, .slice da dl dc] 31).trans (hb2.mono (by simp))); clear hb2
      go_wp2_with fail
      go_ret
      exact ⟨ret_bool (by simp [Om.may, HMp.out]), HBw.out⟩
  · have HMp := Lib.hid hm; clear hm
    go_enter Try.func11, Try.ntmps11
    go_wp2_with fail
    have HB := Lib.hid ((Below.refl _ _).drew : Below (W.alloc (.cells #[.int .u8 (k : Int), .slice pa pl pc, .int .i64 n, .string t, .slice da dl dc] 31)).heap.size (W.alloc (.cells #[.int .u8 (k : Int), .slice pa pl pc, .int .i64 n, .string t, .slice da dl dc] 31)) (W.alloc (.cells #[.int .u8 (k : Int), .slice pa pl pc, .int .i64 n, .string t, .slice da dl dc] 31)).drew)
    refine Reg.region_list (by kernel_rfl) [fun v _ => v = .pointer (some ⟨W.heap.size, 1, none⟩), fun v _ => v = .slice pa pl pc, fun v _ => v = .bool true, fun v _ => v = .bool true, fun v _ => v = .pointer (some ⟨W.heap.size, 0, none⟩), fun v _ => v = .int .u8 (k : Int), fun v _ => v = .agg #[.int .u8 (Om.type k : Nat), .func (.func (askF k)) #[] #[]], fun v _ => v = .func (.func (askF k)) #[] #[], fun v _ => v = .agg #[.int .u8 (k : Int), .slice pa pl pc, .int .i64 n, .string t, .slice da dl dc], fun v _ => v = .bool (Om.asked ⟨k, p, n, t, d⟩), fun v _ => v = .bool (Om.asked ⟨k, p, n, t, d⟩), fun v _ => v = .bool (Om.asked ⟨k, p, n, t, d⟩)] (by kernel_rfl) ?_ ?_ ?_
    · refine ⟨(fun _ _ _ _ h => h), (fun _ _ _ _ h => h), (fun _ _ _ _ h => h), (fun _ _ _ _ h => h), (fun _ _ _ _ h => h), (fun _ _ _ _ h => h), (fun _ _ _ _ h => h), (fun _ _ _ _ h => h), (fun _ _ _ _ h => h), (fun _ _ _ _ h => h), (fun _ _ _ _ h => h), (fun _ _ _ _ h => h), trivial⟩
    · refine ⟨?_, ?_, ?_, ?_, ?_, ?_, ?_, ?_, ?_, ?_, ?_, ?_, trivial⟩
      · intro ev w hc hf hg hfix hdep hbel
        have e1 : ev (.tmp 1) = .pointer (some ⟨W.heap.size, 0, none⟩) := hfix 1 (by decide)
        exact Or.inl ⟨trivial, Or.inl ⟨.pointer (some ⟨W.heap.size, 1, none⟩), w, by go_simp, rfl, Below.refl _ _⟩⟩
      · intro ev w hc hf hg hfix hdep hbel
        have e3 : ev (.tmp 3) = .pointer (some ⟨W.heap.size, 1, none⟩) := hdep 0 (by decide)
        have hc := opcells (HB.out.trans (hbel.mono HB.out.size))
        obtain ⟨hc0, hc1, hc2, hc3, hc4⟩ := hc
        exact Or.inl ⟨trivial, Or.inl ⟨.slice pa pl pc, w, by go_simp, rfl, Below.refl _ _⟩⟩
      · intro ev w hc hf hg hfix hdep hbel
        have e4 : ev (.tmp 4) = .slice pa pl pc := hdep 1 (by decide)
        refine Or.inl ⟨trivial, Or.inr ⟨9, #[.slice pa pl pc], w, by go_simp, ?_⟩⟩
        refine (mayPath_any pa pl pc p w ((HP.out.below (below_box _ _ _)).below (HB.out.trans (hbel.mono HB.out.size))) HPl.out).mono ?_
        rintro e w1 ⟨rfl, rfl⟩
        exact ⟨_, rfl, by rw [HMp.out], Below.refl _ _⟩
      · intro ev w hc hf hg hfix hdep hbel
        have e5 : ev (.tmp 5) = .bool true := hdep 2 (by decide)
        exact Or.inl ⟨trivial, Or.inl ⟨.bool true, w, by go_simp, rfl, Below.refl _ _⟩⟩
      · intro ev w hc hf hg hfix hdep hbel
        have fg : ev (.tmp 6) = .bool true := hdep 3 (by decide)
        have e1 : ev (.tmp 1) = .pointer (some ⟨W.heap.size, 0, none⟩) := hfix 1 (by decide)
        exact Or.inl ⟨fg, Or.inl ⟨.pointer (some ⟨W.heap.size, 0, none⟩), w, by go_simp, rfl, Below.refl _ _⟩⟩
      · intro ev w hc hf hg hfix hdep hbel
        have fg : ev (.tmp 6) = .bool true := hdep 3 (by decide)
        have e7 : ev (.tmp 7) = .pointer (some ⟨W.heap.size, 0, none⟩) := hdep 4 (by decide)
        have hc := opcells (HB.out.trans (hbel.mono HB.out.size))
        obtain ⟨hc0, hc1, hc2, hc3, hc4⟩ := hc
        exact Or.inl ⟨fg, Or.inl ⟨.int .u8 (k : Int), w, by go_simp, rfl, Below.refl _ _⟩⟩
      · intro ev w hc hf hg hfix hdep hbel
        have fg : ev (.tmp 6) = .bool true := hdep 3 (by decide)
        have e8 : ev (.tmp 8) = .int .u8 (k : Int) := hdep 5 (by decide)
        refine Or.inl ⟨fg, Or.inr ⟨28, #[.int .u8 (k : Int)], w, by go_simp, ?_⟩⟩
        refine (traitsOf_any k hk w).mono ?_
        rintro e w1 ⟨rfl, hb1⟩
        exact ⟨_, rfl, rfl, hb1⟩
      · intro ev w hc hf hg hfix hdep hbel
        have fg : ev (.tmp 6) = .bool true := hdep 3 (by decide)
        have e9 : ev (.tmp 9) = .agg #[.int .u8 (Om.type k : Nat), .func (.func (askF k)) #[] #[]] := hdep 6 (by decide)
        have hfm := field_may
        exact Or.inl ⟨fg, Or.inl ⟨.func (.func (askF k)) #[] #[], w, by go_simp, rfl, Below.refl _ _⟩⟩
      · intro ev w hc hf hg hfix hdep hbel
        have fg : ev (.tmp 6) = .bool true := hdep 3 (by decide)
        have e1 : ev (.tmp 1) = .pointer (some ⟨W.heap.size, 0, none⟩) := hfix 1 (by decide)
        have hc := opcells (HB.out.trans (hbel.mono HB.out.size))
        obtain ⟨hc0, hc1, hc2, hc3, hc4⟩ := hc
        exact Or.inl ⟨fg, Or.inl ⟨.agg #[.int .u8 (k : Int), .slice pa pl pc, .int .i64 n, .string t, .slice da dl dc], w, by go_simp, rfl, Below.refl _ _⟩⟩
      · intro ev w hc hf hg hfix hdep hbel
        have fg : ev (.tmp 6) = .bool true := hdep 3 (by decide)
        have e10 : ev (.tmp 10) = .func (.func (askF k)) #[] #[] := hdep 7 (by decide)
        have e11 : ev (.tmp 11) = .agg #[.int .u8 (k : Int), .slice pa pl pc, .int .i64 n, .string t, .slice da dl dc] := hdep 8 (by decide)
        have hca := call_ask k
        refine Or.inl ⟨fg, Or.inr ⟨askF k, #[.agg #[.int .u8 (k : Int), .slice pa pl pc, .int .i64 n, .string t, .slice da dl dc]], w, by go_simp, ?_⟩⟩
        refine (asked_any k pa pl pc n t da dl dc p d w ((HR.out.below (below_box _ _ _)).below (HB.out.trans (hbel.mono HB.out.size))) HDl.out).mono ?_
        rintro e w1 ⟨rfl, hb1⟩
        exact ⟨_, rfl, rfl, hb1⟩
      · intro ev w hc hf hg hfix hdep hbel
        have e6 : ev (.tmp 6) = .bool true := hdep 3 (by decide)
        have e12 : ev (.tmp 12) = .bool (Om.asked ⟨k, p, n, t, d⟩) := hdep 9 (by decide)
        exact Or.inl ⟨trivial, Or.inl ⟨.bool (Om.asked ⟨k, p, n, t, d⟩), w, by go_simp, rfl, Below.refl _ _⟩⟩
      · intro ev w hc hf hg hfix hdep hbel
        have e13 : ev (.tmp 13) = .bool (Om.asked ⟨k, p, n, t, d⟩) := hdep 10 (by decide)
        exact Or.inl ⟨trivial, Or.inl ⟨.bool (Om.asked ⟨k, p, n, t, d⟩), w, by go_simp, rfl, Below.refl _ _⟩⟩
    · intro v w2 hv hb2
      have r0 : v 0 = .pointer (some ⟨W.heap.size, 1, none⟩) := hv 0 (by decide)
      have r1 : v 1 = .slice pa pl pc := hv 1 (by decide)
      have r2 : v 2 = .bool true := hv 2 (by decide)
      have r3 : v 3 = .bool true := hv 3 (by decide)
      have r4 : v 4 = .pointer (some ⟨W.heap.size, 0, none⟩) := hv 4 (by decide)
      have r5 : v 5 = .int .u8 (k : Int) := hv 5 (by decide)
      have r6 : v 6 = .agg #[.int .u8 (Om.type k : Nat), .func (.func (askF k)) #[] #[]] := hv 6 (by decide)
      have r7 : v 7 = .func (.func (askF k)) #[] #[] := hv 7 (by decide)
      have r8 : v 8 = .agg #[.int .u8 (k : Int), .slice pa pl pc, .int .i64 n, .string t, .slice da dl dc] := hv 8 (by decide)
      have r9 : v 9 = .bool (Om.asked ⟨k, p, n, t, d⟩) := hv 9 (by decide)
      have r10 : v 10 = .bool (Om.asked ⟨k, p, n, t, d⟩) := hv 10 (by decide)
      have r11 : v 11 = .bool (Om.asked ⟨k, p, n, t, d⟩) := hv 11 (by decide)
      simp only [Reg.putAll, Act.put, List.setIfInBounds_toArray, List.set_cons_zero, List.set_cons_succ, r0, r1, r2, r3, r4, r5, r6, r7, r8, r9, r10, r11]
      clear r0 r1 r2 r3 r4 r5 r6 r7 r8 r9 r10 r11 hv
      have HBw := Lib.hid ((below_box W #[.int .u8 (k : Int), .slice pa pl pc, .int .i64 n, .string t, .slice da dl dc] 31).trans (hb2.mono (by simp))); clear hb2
      go_wp2_with fail
      go_ret
      exact ⟨ret_bool (by simp [Om.may, HMp.out]), HBw.out⟩
end Go.Proofs.Ytpkfjgoimaomfaa
