import Derived.Test.YtpkfjgoimaomfaaOp10
import Derived.Test.YtpkfjgoimaomfaaOp11
namespace Go.Proofs.Ytpkfjgoimaomfaa
open Go.RowKit Go.Buf Go.Maps
set_option linter.unusedSimpArgs false
set_option linter.unusedVariables false
theorem evcells2 {W w1 : World} {c0 c1 c2 c3 c4 c5 c6 c7 c8 d0 d1 d2 d3 d4 : Value} (hb : Below ((W.alloc (.cells #[c0, c1, c2, c3, c4, c5, c6, c7, c8] 33)).alloc (.cells #[d0, d1, d2, d3, d4] 31)).heap.size ((W.alloc (.cells #[c0, c1, c2, c3, c4, c5, c6, c7, c8] 33)).alloc (.cells #[d0, d1, d2, d3, d4] 31)) w1) :
    (w1.cell? ⟨W.heap.size, 0, none⟩ = some c0 ∧ w1.cell? ⟨W.heap.size, 1, none⟩ = some c1 ∧ w1.cell? ⟨W.heap.size, 2, none⟩ = some c2 ∧ w1.cell? ⟨W.heap.size, 3, none⟩ = some c3 ∧ w1.cell? ⟨W.heap.size, 4, none⟩ = some c4 ∧ w1.cell? ⟨W.heap.size, 5, none⟩ = some c5 ∧ w1.cell? ⟨W.heap.size, 6, none⟩ = some c6 ∧ w1.cell? ⟨W.heap.size, 7, none⟩ = some c7 ∧ w1.cell? ⟨W.heap.size, 8, none⟩ = some c8) ∧
    (w1.cell? ⟨W.heap.size + 1, 0, none⟩ = some d0 ∧ w1.cell? ⟨W.heap.size + 1, 1, none⟩ = some d1 ∧ w1.cell? ⟨W.heap.size + 1, 2, none⟩ = some d2 ∧ w1.cell? ⟨W.heap.size + 1, 3, none⟩ = some d3 ∧ w1.cell? ⟨W.heap.size + 1, 4, none⟩ = some d4) := by
  refine ⟨evcells ((below_box _ _ _).trans (hb.mono (by simp))), ?_⟩
  have h := opcells hb
  simpa using h
set_option maxRecDepth 100000 in
set_option maxHeartbeats 6400000 in
theorem lawMay_any (r i s tm k : Nat) (hk : k < 256) (pa : Option Addr) (pl pc : Nat) (n : Int) (t : ByteArray) (da : Option Addr) (dl dc : Nat) (p : List ByteArray) (d : List Dt.Dot) (k' : Nat) (hk' : k' < 256) (pa' : Option Addr) (pl' pc' : Nat) (n' : Int) (t' : ByteArray) (da' : Option Addr) (dl' dc' : Nat) (p' : List ByteArray) (d' : List Dt.Dot) (nm : ByteArray) (hnm : nm.size ≤ 9223372036854775807) (W : World) (hp : SRow W pa pc p) (hpl : p.length = pl) (hr : VRow W da dc d) (hdl : d.length = dl) (hp' : SRow W pa' pc' p') (hpl' : p'.length = pl') (hr' : VRow W da' dc' d') (hdl' : d'.length = dl') :
    Calls Try.prog 3 #[evV r i s tm k pa pl pc n t da dl dc, opV k' pa' pl' pc' n' t' da' dl' dc', .string nm] W fun e w' => e = .returned (.bool true) ∧ Below W.heap.size W w' := by
  have HP := Lib.hid hp; have HPl := Lib.hid hpl; have HR := Lib.hid hr; have HDl := Lib.hid hdl; have HK := Lib.hid hk; have HN := Lib.hid hnm
  have HP' := Lib.hid hp'; have HPl' := Lib.hid hpl'; have HR' := Lib.hid hr'; have HDl' := Lib.hid hdl'; have HK' := Lib.hid hk'
  have HBox := Lib.hid ((below_box W #[.int .u8 (r : Int), .int .u32 (i : Int), .int .u64 (s : Int), .int .u64 (tm : Int), .int .u8 (k : Int), .slice pa pl pc, .int .i64 n, .string t, .slice da dl dc] 33).trans ((below_box (W.alloc (.cells #[.int .u8 (r : Int), .int .u32 (i : Int), .int .u64 (s : Int), .int .u64 (tm : Int), .int .u8 (k : Int), .slice pa pl pc, .int .i64 n, .string t, .slice da dl dc] 33)) #[.int .u8 (k' : Int), .slice pa' pl' pc', .int .i64 n', .string t', .slice da' dl' dc'] 31).mono (below_box W #[.int .u8 (r : Int), .int .u32 (i : Int), .int .u64 (s : Int), .int .u64 (tm : Int), .int .u8 (k : Int), .slice pa pl pc, .int .i64 n, .string t, .slice da dl dc] 33).size))
  clear hp hpl hr hdl hp' hpl' hr' hdl' hk hk'
  go_enter Try.func3, Try.ntmps3
  go_wp2_with fail
  refine (great_any k pa pl pc n t da dl dc p d _ (HP.out.below HBox.out) HPl.out (HR.out.below HBox.out) HDl.out).mono ?_
  rintro e w1 ⟨⟨g1, rfl, hg1⟩, hb⟩
  clear hg1
  obtain ⟨⟨hc0, hc1, hc2, hc3, hc4, hc5, hc6, hc7, hc8⟩, hd0, hd1, hd2, hd3, hd4⟩ := evcells2 hb
  have HX1 := Lib.hid hb; clear hb
  cases g1
  · go_wp2_with fail
    refine (great_any k' pa' pl' pc' n' t' da' dl' dc' p' d' _ (HP'.out.below (HBox.out.trans (HX1.out.mono HBox.out.size))) HPl'.out (HR'.out.below (HBox.out.trans (HX1.out.mono HBox.out.size))) HDl'.out).mono ?_
    rintro e w2 ⟨⟨g2, rfl, hg2⟩, hb⟩
    clear hg2
    have HX2 := Lib.hid (HX1.out.trans (hb.mono HX1.out.size)); clear hb HX1 hc0 hc1 hc2 hc3 hc4 hc5 hc6 hc7 hc8 hd0 hd1 hd2 hd3 hd4
    cases g2
    · by_cases h100 : nm.size ≤ 100
      · go_wp2_with fail
        have HX := Lib.hid HX2.out.drew
        have HB := Lib.hid (HBox.out.trans (HX.out.mono HBox.out.size))
        refine Reg.region_list (by kernel_rfl) [fun v _ => v = .string nm, fun v _ => v = .bool (Om.isName nm), fun v _ => v = .string nm, fun v _ => v = .bool (Om.isName nm), fun v _ => v = .bool true, fun v _ => v = .bool true, fun v _ => v = .pointer (some ⟨W.heap.size, 4, none⟩), fun v _ => v = .pointer (some ⟨W.heap.size, 5, none⟩), fun v _ => v = .slice pa pl pc, fun v _ => v = .bool (Om.mayPath p), fun v _ => v = .pointer (some ⟨W.heap.size, 4, none⟩), fun v _ => v = .pointer (some ⟨W.heap.size, 5, none⟩), fun v _ => v = .slice pa pl pc, fun v _ => v = .bool (Om.mayPath p), fun v _ => v = .bool true, fun v _ => v = .bool true, fun v _ => v = .bool true, fun v _ => v = .pointer (some ⟨W.heap.size, 4, none⟩), fun v _ => v = .agg #[.int .u8 (k : Int), .slice pa pl pc, .int .i64 n, .string t, .slice da dl dc], fun v _ => v = .bool (Om.may ⟨k, p, n, t, d⟩), fun v _ => v = .pointer (some ⟨W.heap.size, 4, none⟩), fun v _ => v = .agg #[.int .u8 (k : Int), .slice pa pl pc, .int .i64 n, .string t, .slice da dl dc], fun v _ => v = .bool (Om.may ⟨k, p, n, t, d⟩), fun v _ => v = .bool true, fun v _ => v = .bool true, fun v _ => v = .bool true, fun v _ => v = .agg #[.int .u8 (r : Int), .int .u32 (i : Int), .int .u64 (s : Int), .int .u64 (tm : Int), .int .u8 (k : Int), .slice pa pl pc, .int .i64 n, .string t, .slice da dl dc], fun v _ => v = .bool (Om.mayEvent ⟨((r, i), s), tm, ⟨k, p, n, t, d⟩⟩), fun v _ => v = .agg #[.int .u8 (r : Int), .int .u32 (i : Int), .int .u64 (s : Int), .int .u64 (tm : Int), .int .u8 (k : Int), .slice pa pl pc, .int .i64 n, .string t, .slice da dl dc], fun v _ => v = .bool (Om.mayEvent ⟨((r, i), s), tm, ⟨k, p, n, t, d⟩⟩), fun v _ => v = .bool true, fun v _ => v = .bool true, fun v _ => v = .bool true, fun v _ => v = .pointer (some ⟨W.heap.size + 1, 0, none⟩), fun v _ => v = .int .u8 (k' : Int), fun v _ => v = .int .u8 (Om.type k' : Nat), fun v _ => v = .pointer (some ⟨W.heap.size + 1, 0, none⟩), fun v _ => v = .int .u8 (k' : Int), fun v _ => v = .int .u8 (Om.type k' : Nat), fun v _ => v = .bool true, fun v _ => v = .bool true, fun v _ => v = .bool true, fun v _ => v = .pointer (some ⟨W.heap.size, 4, none⟩), fun v _ => v = .agg #[.int .u8 (k : Int), .slice pa pl pc, .int .i64 n, .string t, .slice da dl dc], fun v _ => v = .agg #[.int .u8 (k' : Int), .slice pa' pl' pc', .int .i64 n', .string t', .slice da' dl' dc'], fun v _ => v = .bool (decide ((⟨k, p, n, t, d⟩ : Om.O) = ⟨k', p', n', t', d'⟩)), fun v _ => v = .pointer (some ⟨W.heap.size, 4, none⟩), fun v _ => v = .agg #[.int .u8 (k : Int), .slice pa pl pc, .int .i64 n, .string t, .slice da dl dc], fun v _ => v = .agg #[.int .u8 (k' : Int), .slice pa' pl' pc', .int .i64 n', .string t', .slice da' dl' dc'], fun v _ => v = .bool (decide ((⟨k, p, n, t, d⟩ : Om.O) = ⟨k', p', n', t', d'⟩)), fun v _ => v = .bool true, fun v _ => v = .bool true, fun v _ => v = .bool true, fun v _ => v = .agg #[.int .u8 (k' : Int), .slice pa' pl' pc', .int .i64 n', .string t', .slice da' dl' dc'], fun v _ => v = .agg #[.int .u8 (k' : Int), .slice pa' pl' pc', .int .i64 n', .string t', .slice da' dl' dc'], fun v _ => v = .bool true, fun v _ => v = .bool true, fun v _ => v = .bool true, fun v _ => v = .bool true, fun v _ => v = .bool true, fun v _ => v = .bool true] (by kernel_rfl) ?_ ?_ ?_
        · refine ⟨(fun _ _ _ _ h => h), (fun _ _ _ _ h => h), (fun _ _ _ _ h => h), (fun _ _ _ _ h => h), (fun _ _ _ _ h => h), (fun _ _ _ _ h => h), (fun _ _ _ _ h => h), (fun _ _ _ _ h => h), (fun _ _ _ _ h => h), (fun _ _ _ _ h => h), (fun _ _ _ _ h => h), (fun _ _ _ _ h => h), (fun _ _ _ _ h => h), (fun _ _ _ _ h => h), (fun _ _ _ _ h => h), (fun _ _ _ _ h => h), (fun _ _ _ _ h => h), (fun _ _ _ _ h => h), (fun _ _ _ _ h => h), (fun _ _ _ _ h => h), (fun _ _ _ _ h => h), (fun _ _ _ _ h => h), (fun _ _ _ _ h => h), (fun _ _ _ _ h => h), (fun _ _ _ _ h => h), (fun _ _ _ _ h => h), (fun _ _ _ _ h => h), (fun _ _ _ _ h => h), (fun _ _ _ _ h => h), (fun _ _ _ _ h => h), (fun _ _ _ _ h => h), (fun _ _ _ _ h => h), (fun _ _ _ _ h => h), (fun _ _ _ _ h => h), (fun _ _ _ _ h => h), (fun _ _ _ _ h => h), (fun _ _ _ _ h => h), (fun _ _ _ _ h => h), (fun _ _ _ _ h => h), (fun _ _ _ _ h => h), (fun _ _ _ _ h => h), (fun _ _ _ _ h => h), (fun _ _ _ _ h => h), (fun _ _ _ _ h => h), (fun _ _ _ _ h => h), (fun _ _ _ _ h => h), (fun _ _ _ _ h => h), (fun _ _ _ _ h => h), (fun _ _ _ _ h => h), (fun _ _ _ _ h => h), (fun _ _ _ _ h => h), (fun _ _ _ _ h => h), (fun _ _ _ _ h => h), (fun _ _ _ _ h => h), (fun _ _ _ _ h => h), (fun _ _ _ _ h => h), (fun _ _ _ _ h => h), (fun _ _ _ _ h => h), (fun _ _ _ _ h => h), (fun _ _ _ _ h => h), (fun _ _ _ _ h => h), trivial⟩
        · refine ⟨?_, ?_, ?_, ?_, ?_, ?_, ?_, ?_, ?_, ?_, ?_, ?_, ?_, ?_, ?_, ?_, ?_, ?_, ?_, ?_, ?_, ?_, ?_, ?_, ?_, ?_, ?_, ?_, ?_, ?_, ?_, ?_, ?_, ?_, ?_, ?_, ?_, ?_, ?_, ?_, ?_, ?_, ?_, ?_, ?_, ?_, ?_, ?_, ?_, ?_, ?_, ?_, ?_, ?_, ?_, ?_, ?_, ?_, ?_, ?_, ?_, trivial⟩
          · intro ev w hc hf hg hfix hdep hbel
            have e2 : ev (.tmp 2) = .string nm := hfix 2 (by decide)
            exact Or.inl ⟨trivial, Or.inl ⟨.string nm, w, by go_simp, rfl, Below.refl _ _⟩⟩
          · intro ev w hc hf hg hfix hdep hbel
            have e20 : ev (.tmp 20) = .string nm := hdep 0 (by decide)
            refine Or.inl ⟨trivial, Or.inr ⟨7, #[.string nm], w, by go_simp, ?_⟩⟩
            refine (isName_any nm HN.out w).mono ?_
            rintro e w1 ⟨rfl, rfl⟩
            exact ⟨_, rfl, rfl, Below.refl _ _⟩
          · intro ev w hc hf hg hfix hdep hbel
            have e2 : ev (.tmp 2) = .string nm := hfix 2 (by decide)
            exact Or.inl ⟨trivial, Or.inl ⟨.string nm, w, by go_simp, rfl, Below.refl _ _⟩⟩
          · intro ev w hc hf hg hfix hdep hbel
            have e22 : ev (.tmp 22) = .string nm := hdep 2 (by decide)
            refine Or.inl ⟨trivial, Or.inr ⟨8, #[.string nm], w, by go_simp, ?_⟩⟩
            refine (refisName_any nm HN.out w).mono ?_
            rintro e w1 ⟨rfl, rfl⟩
            exact ⟨_, rfl, rfl, Below.refl _ _⟩
          · intro ev w hc hf hg hfix hdep hbel
            have e21 : ev (.tmp 21) = .bool (Om.isName nm) := hdep 1 (by decide)
            have e23 : ev (.tmp 23) = .bool (Om.isName nm) := hdep 3 (by decide)
            exact Or.inl ⟨trivial, Or.inl ⟨.bool true, w, by go_simp, rfl, Below.refl _ _⟩⟩
          · intro ev w hc hf hg hfix hdep hbel
            have e24 : ev (.tmp 24) = .bool true := hdep 4 (by decide)
            exact Or.inl ⟨trivial, Or.inl ⟨.bool true, w, by go_simp, rfl, Below.refl _ _⟩⟩
          · intro ev w hc hf hg hfix hdep hbel
            have fg : ev (.tmp 25) = .bool true := hdep 5 (by decide)
            have e3 : ev (.tmp 3) = .pointer (some ⟨W.heap.size, 0, none⟩) := hfix 3 (by decide)
            exact Or.inl ⟨fg, Or.inl ⟨.pointer (some ⟨W.heap.size, 4, none⟩), w, by go_simp, rfl, Below.refl _ _⟩⟩
          · intro ev w hc hf hg hfix hdep hbel
            have fg : ev (.tmp 25) = .bool true := hdep 5 (by decide)
            have e26 : ev (.tmp 26) = .pointer (some ⟨W.heap.size, 4, none⟩) := hdep 6 (by decide)
            exact Or.inl ⟨fg, Or.inl ⟨.pointer (some ⟨W.heap.size, 5, none⟩), w, by go_simp, rfl, Below.refl _ _⟩⟩
          · intro ev w hc hf hg hfix hdep hbel
            have fg : ev (.tmp 25) = .bool true := hdep 5 (by decide)
            have e27 : ev (.tmp 27) = .pointer (some ⟨W.heap.size, 5, none⟩) := hdep 7 (by decide)
            obtain ⟨⟨hc0, hc1, hc2, hc3, hc4, hc5, hc6, hc7, hc8⟩, hd0, hd1, hd2, hd3, hd4⟩ := evcells2 (HX.out.trans (hbel.mono HX.out.size))
            exact Or.inl ⟨fg, Or.inl ⟨.slice pa pl pc, w, by go_simp, rfl, Below.refl _ _⟩⟩
          · intro ev w hc hf hg hfix hdep hbel
            have fg : ev (.tmp 25) = .bool true := hdep 5 (by decide)
            have e28 : ev (.tmp 28) = .slice pa pl pc := hdep 8 (by decide)
            refine Or.inl ⟨fg, Or.inr ⟨9, #[.slice pa pl pc], w, by go_simp, ?_⟩⟩
            refine (mayPath_any pa pl pc p w (HP.out.below (HB.out.trans (hbel.mono HB.out.size))) HPl.out).mono ?_
            rintro e w1 ⟨rfl, rfl⟩
            exact ⟨_, rfl, rfl, Below.refl _ _⟩
          · intro ev w hc hf hg hfix hdep hbel
            have fg : ev (.tmp 25) = .bool true := hdep 5 (by decide)
            have e3 : ev (.tmp 3) = .pointer (some ⟨W.heap.size, 0, none⟩) := hfix 3 (by decide)
            exact Or.inl ⟨fg, Or.inl ⟨.pointer (some ⟨W.heap.size, 4, none⟩), w, by go_simp, rfl, Below.refl _ _⟩⟩
          · intro ev w hc hf hg hfix hdep hbel
            have fg : ev (.tmp 25) = .bool true := hdep 5 (by decide)
            have e30 : ev (.tmp 30) = .pointer (some ⟨W.heap.size, 4, none⟩) := hdep 10 (by decide)
            exact Or.inl ⟨fg, Or.inl ⟨.pointer (some ⟨W.heap.size, 5, none⟩), w, by go_simp, rfl, Below.refl _ _⟩⟩
          · intro ev w hc hf hg hfix hdep hbel
            have fg : ev (.tmp 25) = .bool true := hdep 5 (by decide)
            have e31 : ev (.tmp 31) = .pointer (some ⟨W.heap.size, 5, none⟩) := hdep 11 (by decide)
            obtain ⟨⟨hc0, hc1, hc2, hc3, hc4, hc5, hc6, hc7, hc8⟩, hd0, hd1, hd2, hd3, hd4⟩ := evcells2 (HX.out.trans (hbel.mono HX.out.size))
            exact Or.inl ⟨fg, Or.inl ⟨.slice pa pl pc, w, by go_simp, rfl, Below.refl _ _⟩⟩
          · intro ev w hc hf hg hfix hdep hbel
            have fg : ev (.tmp 25) = .bool true := hdep 5 (by decide)
            have e32 : ev (.tmp 32) = .slice pa pl pc := hdep 12 (by decide)
            refine Or.inl ⟨fg, Or.inr ⟨10, #[.slice pa pl pc], w, by go_simp, ?_⟩⟩
            refine (refmayPath_any pa pl pc p w (HP.out.below (HB.out.trans (hbel.mono HB.out.size))) HPl.out).mono ?_
            rintro e w1 ⟨rfl, rfl⟩
            exact ⟨_, rfl, rfl, Below.refl _ _⟩
          · intro ev w hc hf hg hfix hdep hbel
            have fg : ev (.tmp 25) = .bool true := hdep 5 (by decide)
            have e29 : ev (.tmp 29) = .bool (Om.mayPath p) := hdep 9 (by decide)
            have e33 : ev (.tmp 33) = .bool (Om.mayPath p) := hdep 13 (by decide)
            exact Or.inl ⟨fg, Or.inl ⟨.bool true, w, by go_simp, rfl, Below.refl _ _⟩⟩
          · intro ev w hc hf hg hfix hdep hbel
            have e25 : ev (.tmp 25) = .bool true := hdep 5 (by decide)
            have e34 : ev (.tmp 34) = .bool true := hdep 14 (by decide)
            exact Or.inl ⟨trivial, Or.inl ⟨.bool true, w, by go_simp, rfl, Below.refl _ _⟩⟩
          · intro ev w hc hf hg hfix hdep hbel
            have e35 : ev (.tmp 35) = .bool true := hdep 15 (by decide)
            exact Or.inl ⟨trivial, Or.inl ⟨.bool true, w, by go_simp, rfl, Below.refl _ _⟩⟩
          · intro ev w hc hf hg hfix hdep hbel
            have fg : ev (.tmp 36) = .bool true := hdep 16 (by decide)
            have e3 : ev (.tmp 3) = .pointer (some ⟨W.heap.size, 0, none⟩) := hfix 3 (by decide)
            exact Or.inl ⟨fg, Or.inl ⟨.pointer (some ⟨W.heap.size, 4, none⟩), w, by go_simp, rfl, Below.refl _ _⟩⟩
          · intro ev w hc hf hg hfix hdep hbel
            have fg : ev (.tmp 36) = .bool true := hdep 16 (by decide)
            have e37 : ev (.tmp 37) = .pointer (some ⟨W.heap.size, 4, none⟩) := hdep 17 (by decide)
            obtain ⟨⟨hc0, hc1, hc2, hc3, hc4, hc5, hc6, hc7, hc8⟩, hd0, hd1, hd2, hd3, hd4⟩ := evcells2 (HX.out.trans (hbel.mono HX.out.size))
            exact Or.inl ⟨fg, Or.inl ⟨.agg #[.int .u8 (k : Int), .slice pa pl pc, .int .i64 n, .string t, .slice da dl dc], w, by go_simp, rfl, Below.refl _ _⟩⟩
          · intro ev w hc hf hg hfix hdep hbel
            have fg : ev (.tmp 36) = .bool true := hdep 16 (by decide)
            have e38 : ev (.tmp 38) = .agg #[.int .u8 (k : Int), .slice pa pl pc, .int .i64 n, .string t, .slice da dl dc] := hdep 18 (by decide)
            refine Or.inl ⟨fg, Or.inr ⟨11, #[.agg #[.int .u8 (k : Int), .slice pa pl pc, .int .i64 n, .string t, .slice da dl dc]], w, by go_simp, ?_⟩⟩
            refine (opmay_any k HK.out pa pl pc n t da dl dc p d w (HP.out.below (HB.out.trans (hbel.mono HB.out.size))) HPl.out (HR.out.below (HB.out.trans (hbel.mono HB.out.size))) HDl.out).mono ?_
            rintro e w1 ⟨rfl, hb1⟩
            exact ⟨_, rfl, rfl, hb1⟩
          · intro ev w hc hf hg hfix hdep hbel
            have fg : ev (.tmp 36) = .bool true := hdep 16 (by decide)
            have e3 : ev (.tmp 3) = .pointer (some ⟨W.heap.size, 0, none⟩) := hfix 3 (by decide)
            exact Or.inl ⟨fg, Or.inl ⟨.pointer (some ⟨W.heap.size, 4, none⟩), w, by go_simp, rfl, Below.refl _ _⟩⟩
          · intro ev w hc hf hg hfix hdep hbel
            have fg : ev (.tmp 36) = .bool true := hdep 16 (by decide)
            have e40 : ev (.tmp 40) = .pointer (some ⟨W.heap.size, 4, none⟩) := hdep 20 (by decide)
            obtain ⟨⟨hc0, hc1, hc2, hc3, hc4, hc5, hc6, hc7, hc8⟩, hd0, hd1, hd2, hd3, hd4⟩ := evcells2 (HX.out.trans (hbel.mono HX.out.size))
            exact Or.inl ⟨fg, Or.inl ⟨.agg #[.int .u8 (k : Int), .slice pa pl pc, .int .i64 n, .string t, .slice da dl dc], w, by go_simp, rfl, Below.refl _ _⟩⟩
          · intro ev w hc hf hg hfix hdep hbel
            have fg : ev (.tmp 36) = .bool true := hdep 16 (by decide)
            have e41 : ev (.tmp 41) = .agg #[.int .u8 (k : Int), .slice pa pl pc, .int .i64 n, .string t, .slice da dl dc] := hdep 21 (by decide)
            refine Or.inl ⟨fg, Or.inr ⟨12, #[.agg #[.int .u8 (k : Int), .slice pa pl pc, .int .i64 n, .string t, .slice da dl dc]], w, by go_simp, ?_⟩⟩
            refine (refopmay_any k pa pl pc n t da dl dc p d w (HP.out.below (HB.out.trans (hbel.mono HB.out.size))) HPl.out (HR.out.below (HB.out.trans (hbel.mono HB.out.size))) HDl.out).mono ?_
            rintro e w1 ⟨rfl, hb1⟩
            exact ⟨_, rfl, rfl, hb1⟩
          · intro ev w hc hf hg hfix hdep hbel
            have fg : ev (.tmp 36) = .bool true := hdep 16 (by decide)
            have e39 : ev (.tmp 39) = .bool (Om.may ⟨k, p, n, t, d⟩) := hdep 19 (by decide)
            have e42 : ev (.tmp 42) = .bool (Om.may ⟨k, p, n, t, d⟩) := hdep 22 (by decide)
            exact Or.inl ⟨fg, Or.inl ⟨.bool true, w, by go_simp, rfl, Below.refl _ _⟩⟩
          · intro ev w hc hf hg hfix hdep hbel
            have e36 : ev (.tmp 36) = .bool true := hdep 16 (by decide)
            have e43 : ev (.tmp 43) = .bool true := hdep 23 (by decide)
            exact Or.inl ⟨trivial, Or.inl ⟨.bool true, w, by go_simp, rfl, Below.refl _ _⟩⟩
          · intro ev w hc hf hg hfix hdep hbel
            have e44 : ev (.tmp 44) = .bool true := hdep 24 (by decide)
            exact Or.inl ⟨trivial, Or.inl ⟨.bool true, w, by go_simp, rfl, Below.refl _ _⟩⟩
          · intro ev w hc hf hg hfix hdep hbel
            have fg : ev (.tmp 45) = .bool true := hdep 25 (by decide)
            have e3 : ev (.tmp 3) = .pointer (some ⟨W.heap.size, 0, none⟩) := hfix 3 (by decide)
            obtain ⟨⟨hc0, hc1, hc2, hc3, hc4, hc5, hc6, hc7, hc8⟩, hd0, hd1, hd2, hd3, hd4⟩ := evcells2 (HX.out.trans (hbel.mono HX.out.size))
            exact Or.inl ⟨fg, Or.inl ⟨.agg #[.int .u8 (r : Int), .int .u32 (i : Int), .int .u64 (s : Int), .int .u64 (tm : Int), .int .u8 (k : Int), .slice pa pl pc, .int .i64 n, .string t, .slice da dl dc], w, by go_simp, rfl, Below.refl _ _⟩⟩
          · intro ev w hc hf hg hfix hdep hbel
            have fg : ev (.tmp 45) = .bool true := hdep 25 (by decide)
            have e46 : ev (.tmp 46) = .agg #[.int .u8 (r : Int), .int .u32 (i : Int), .int .u64 (s : Int), .int .u64 (tm : Int), .int .u8 (k : Int), .slice pa pl pc, .int .i64 n, .string t, .slice da dl dc] := hdep 26 (by decide)
            refine Or.inl ⟨fg, Or.inr ⟨13, #[.agg #[.int .u8 (r : Int), .int .u32 (i : Int), .int .u64 (s : Int), .int .u64 (tm : Int), .int .u8 (k : Int), .slice pa pl pc, .int .i64 n, .string t, .slice da dl dc]], w, by go_simp, ?_⟩⟩
            refine (mayEvent_any r i s tm k HK.out pa pl pc n t da dl dc p d w (HP.out.below (HB.out.trans (hbel.mono HB.out.size))) HPl.out (HR.out.below (HB.out.trans (hbel.mono HB.out.size))) HDl.out).mono ?_
            rintro e w1 ⟨rfl, hb1⟩
            exact ⟨_, rfl, rfl, hb1⟩
          · intro ev w hc hf hg hfix hdep hbel
            have fg : ev (.tmp 45) = .bool true := hdep 25 (by decide)
            have e3 : ev (.tmp 3) = .pointer (some ⟨W.heap.size, 0, none⟩) := hfix 3 (by decide)
            obtain ⟨⟨hc0, hc1, hc2, hc3, hc4, hc5, hc6, hc7, hc8⟩, hd0, hd1, hd2, hd3, hd4⟩ := evcells2 (HX.out.trans (hbel.mono HX.out.size))
            exact Or.inl ⟨fg, Or.inl ⟨.agg #[.int .u8 (r : Int), .int .u32 (i : Int), .int .u64 (s : Int), .int .u64 (tm : Int), .int .u8 (k : Int), .slice pa pl pc, .int .i64 n, .string t, .slice da dl dc], w, by go_simp, rfl, Below.refl _ _⟩⟩
          · intro ev w hc hf hg hfix hdep hbel
            have fg : ev (.tmp 45) = .bool true := hdep 25 (by decide)
            have e48 : ev (.tmp 48) = .agg #[.int .u8 (r : Int), .int .u32 (i : Int), .int .u64 (s : Int), .int .u64 (tm : Int), .int .u8 (k : Int), .slice pa pl pc, .int .i64 n, .string t, .slice da dl dc] := hdep 28 (by decide)
            refine Or.inl ⟨fg, Or.inr ⟨14, #[.agg #[.int .u8 (r : Int), .int .u32 (i : Int), .int .u64 (s : Int), .int .u64 (tm : Int), .int .u8 (k : Int), .slice pa pl pc, .int .i64 n, .string t, .slice da dl dc]], w, by go_simp, ?_⟩⟩
            refine (refmayEvent_any r i s tm k HK.out pa pl pc n t da dl dc p d w (HP.out.below (HB.out.trans (hbel.mono HB.out.size))) HPl.out (HR.out.below (HB.out.trans (hbel.mono HB.out.size))) HDl.out).mono ?_
            rintro e w1 ⟨rfl, hb1⟩
            exact ⟨_, rfl, rfl, hb1⟩
          · intro ev w hc hf hg hfix hdep hbel
            have fg : ev (.tmp 45) = .bool true := hdep 25 (by decide)
            have e47 : ev (.tmp 47) = .bool (Om.mayEvent ⟨((r, i), s), tm, ⟨k, p, n, t, d⟩⟩) := hdep 27 (by decide)
            have e49 : ev (.tmp 49) = .bool (Om.mayEvent ⟨((r, i), s), tm, ⟨k, p, n, t, d⟩⟩) := hdep 29 (by decide)
            exact Or.inl ⟨fg, Or.inl ⟨.bool true, w, by go_simp, rfl, Below.refl _ _⟩⟩
          · intro ev w hc hf hg hfix hdep hbel
            have e45 : ev (.tmp 45) = .bool true := hdep 25 (by decide)
            have e50 : ev (.tmp 50) = .bool true := hdep 30 (by decide)
            exact Or.inl ⟨trivial, Or.inl ⟨.bool true, w, by go_simp, rfl, Below.refl _ _⟩⟩
          · intro ev w hc hf hg hfix hdep hbel
            have e51 : ev (.tmp 51) = .bool true := hdep 31 (by decide)
            exact Or.inl ⟨trivial, Or.inl ⟨.bool true, w, by go_simp, rfl, Below.refl _ _⟩⟩
          · intro ev w hc hf hg hfix hdep hbel
            have fg : ev (.tmp 52) = .bool true := hdep 32 (by decide)
            have e4 : ev (.tmp 4) = .pointer (some ⟨W.heap.size + 1, 0, none⟩) := hfix 4 (by decide)
            exact Or.inl ⟨fg, Or.inl ⟨.pointer (some ⟨W.heap.size + 1, 0, none⟩), w, by go_simp, rfl, Below.refl _ _⟩⟩
          · intro ev w hc hf hg hfix hdep hbel
            have fg : ev (.tmp 52) = .bool true := hdep 32 (by decide)
            have e53 : ev (.tmp 53) = .pointer (some ⟨W.heap.size + 1, 0, none⟩) := hdep 33 (by decide)
            obtain ⟨⟨hc0, hc1, hc2, hc3, hc4, hc5, hc6, hc7, hc8⟩, hd0, hd1, hd2, hd3, hd4⟩ := evcells2 (HX.out.trans (hbel.mono HX.out.size))
            exact Or.inl ⟨fg, Or.inl ⟨.int .u8 (k' : Int), w, by go_simp, rfl, Below.refl _ _⟩⟩
          · intro ev w hc hf hg hfix hdep hbel
            have fg : ev (.tmp 52) = .bool true := hdep 32 (by decide)
            have e54 : ev (.tmp 54) = .int .u8 (k' : Int) := hdep 34 (by decide)
            refine Or.inl ⟨fg, Or.inr ⟨15, #[.int .u8 (k' : Int)], w, by go_simp, ?_⟩⟩
            refine (type_any k' HK'.out w).mono ?_
            rintro e w1 ⟨rfl, hb1⟩
            exact ⟨_, rfl, rfl, hb1⟩
          · intro ev w hc hf hg hfix hdep hbel
            have fg : ev (.tmp 52) = .bool true := hdep 32 (by decide)
            have e4 : ev (.tmp 4) = .pointer (some ⟨W.heap.size + 1, 0, none⟩) := hfix 4 (by decide)
            exact Or.inl ⟨fg, Or.inl ⟨.pointer (some ⟨W.heap.size + 1, 0, none⟩), w, by go_simp, rfl, Below.refl _ _⟩⟩
          · intro ev w hc hf hg hfix hdep hbel
            have fg : ev (.tmp 52) = .bool true := hdep 32 (by decide)
            have e56 : ev (.tmp 56) = .pointer (some ⟨W.heap.size + 1, 0, none⟩) := hdep 36 (by decide)
            obtain ⟨⟨hc0, hc1, hc2, hc3, hc4, hc5, hc6, hc7, hc8⟩, hd0, hd1, hd2, hd3, hd4⟩ := evcells2 (HX.out.trans (hbel.mono HX.out.size))
            exact Or.inl ⟨fg, Or.inl ⟨.int .u8 (k' : Int), w, by go_simp, rfl, Below.refl _ _⟩⟩
          · intro ev w hc hf hg hfix hdep hbel
            have fg : ev (.tmp 52) = .bool true := hdep 32 (by decide)
            have e57 : ev (.tmp 57) = .int .u8 (k' : Int) := hdep 37 (by decide)
            refine Or.inl ⟨fg, Or.inr ⟨16, #[.int .u8 (k' : Int)], w, by go_simp, ?_⟩⟩
            refine (reftype_any k' w).mono ?_
            rintro e w1 ⟨rfl, rfl⟩
            exact ⟨_, rfl, rfl, Below.refl _ _⟩
          · intro ev w hc hf hg hfix hdep hbel
            have fg : ev (.tmp 52) = .bool true := hdep 32 (by decide)
            have e55 : ev (.tmp 55) = .int .u8 (Om.type k' : Nat) := hdep 35 (by decide)
            have e58 : ev (.tmp 58) = .int .u8 (Om.type k' : Nat) := hdep 38 (by decide)
            exact Or.inl ⟨fg, Or.inl ⟨.bool true, w, by go_simp, rfl, Below.refl _ _⟩⟩
          · intro ev w hc hf hg hfix hdep hbel
            have e52 : ev (.tmp 52) = .bool true := hdep 32 (by decide)
            have e59 : ev (.tmp 59) = .bool true := hdep 39 (by decide)
            exact Or.inl ⟨trivial, Or.inl ⟨.bool true, w, by go_simp, rfl, Below.refl _ _⟩⟩
          · intro ev w hc hf hg hfix hdep hbel
            have e60 : ev (.tmp 60) = .bool true := hdep 40 (by decide)
            exact Or.inl ⟨trivial, Or.inl ⟨.bool true, w, by go_simp, rfl, Below.refl _ _⟩⟩
          · intro ev w hc hf hg hfix hdep hbel
            have fg : ev (.tmp 61) = .bool true := hdep 41 (by decide)
            have e3 : ev (.tmp 3) = .pointer (some ⟨W.heap.size, 0, none⟩) := hfix 3 (by decide)
            exact Or.inl ⟨fg, Or.inl ⟨.pointer (some ⟨W.heap.size, 4, none⟩), w, by go_simp, rfl, Below.refl _ _⟩⟩
          · intro ev w hc hf hg hfix hdep hbel
            have fg : ev (.tmp 61) = .bool true := hdep 41 (by decide)
            have e62 : ev (.tmp 62) = .pointer (some ⟨W.heap.size, 4, none⟩) := hdep 42 (by decide)
            obtain ⟨⟨hc0, hc1, hc2, hc3, hc4, hc5, hc6, hc7, hc8⟩, hd0, hd1, hd2, hd3, hd4⟩ := evcells2 (HX.out.trans (hbel.mono HX.out.size))
            exact Or.inl ⟨fg, Or.inl ⟨.agg #[.int .u8 (k : Int), .slice pa pl pc, .int .i64 n, .string t, .slice da dl dc], w, by go_simp, rfl, Below.refl _ _⟩⟩
          · intro ev w hc hf hg hfix hdep hbel
            have fg : ev (.tmp 61) = .bool true := hdep 41 (by decide)
            have e4 : ev (.tmp 4) = .pointer (some ⟨W.heap.size + 1, 0, none⟩) := hfix 4 (by decide)
            obtain ⟨⟨hc0, hc1, hc2, hc3, hc4, hc5, hc6, hc7, hc8⟩, hd0, hd1, hd2, hd3, hd4⟩ := evcells2 (HX.out.trans (hbel.mono HX.out.size))
            exact Or.inl ⟨fg, Or.inl ⟨.agg #[.int .u8 (k' : Int), .slice pa' pl' pc', .int .i64 n', .string t', .slice da' dl' dc'], w, by go_simp, rfl, Below.refl _ _⟩⟩
          · intro ev w hc hf hg hfix hdep hbel
            have fg : ev (.tmp 61) = .bool true := hdep 41 (by decide)
            have e63 : ev (.tmp 63) = .agg #[.int .u8 (k : Int), .slice pa pl pc, .int .i64 n, .string t, .slice da dl dc] := hdep 43 (by decide)
            have e64 : ev (.tmp 64) = .agg #[.int .u8 (k' : Int), .slice pa' pl' pc', .int .i64 n', .string t', .slice da' dl' dc'] := hdep 44 (by decide)
            refine Or.inl ⟨fg, Or.inr ⟨17, #[.agg #[.int .u8 (k : Int), .slice pa pl pc, .int .i64 n, .string t, .slice da dl dc], .agg #[.int .u8 (k' : Int), .slice pa' pl' pc', .int .i64 n', .string t', .slice da' dl' dc']], w, by go_simp, ?_⟩⟩
            refine (opsame_any k pa pl pc n t da dl dc p d k' pa' pl' pc' n' t' da' dl' dc' p' d' w (HP.out.below (HB.out.trans (hbel.mono HB.out.size))) HPl.out (HR.out.below (HB.out.trans (hbel.mono HB.out.size))) HDl.out (HP'.out.below (HB.out.trans (hbel.mono HB.out.size))) HPl'.out (HR'.out.below (HB.out.trans (hbel.mono HB.out.size))) HDl'.out).mono ?_
            rintro e w1 ⟨rfl, hb1⟩
            exact ⟨_, rfl, rfl, hb1⟩
          · intro ev w hc hf hg hfix hdep hbel
            have fg : ev (.tmp 61) = .bool true := hdep 41 (by decide)
            have e3 : ev (.tmp 3) = .pointer (some ⟨W.heap.size, 0, none⟩) := hfix 3 (by decide)
            exact Or.inl ⟨fg, Or.inl ⟨.pointer (some ⟨W.heap.size, 4, none⟩), w, by go_simp, rfl, Below.refl _ _⟩⟩
          · intro ev w hc hf hg hfix hdep hbel
            have fg : ev (.tmp 61) = .bool true := hdep 41 (by decide)
            have e66 : ev (.tmp 66) = .pointer (some ⟨W.heap.size, 4, none⟩) := hdep 46 (by decide)
            obtain ⟨⟨hc0, hc1, hc2, hc3, hc4, hc5, hc6, hc7, hc8⟩, hd0, hd1, hd2, hd3, hd4⟩ := evcells2 (HX.out.trans (hbel.mono HX.out.size))
            exact Or.inl ⟨fg, Or.inl ⟨.agg #[.int .u8 (k : Int), .slice pa pl pc, .int .i64 n, .string t, .slice da dl dc], w, by go_simp, rfl, Below.refl _ _⟩⟩
          · intro ev w hc hf hg hfix hdep hbel
            have fg : ev (.tmp 61) = .bool true := hdep 41 (by decide)
            have e4 : ev (.tmp 4) = .pointer (some ⟨W.heap.size + 1, 0, none⟩) := hfix 4 (by decide)
            obtain ⟨⟨hc0, hc1, hc2, hc3, hc4, hc5, hc6, hc7, hc8⟩, hd0, hd1, hd2, hd3, hd4⟩ := evcells2 (HX.out.trans (hbel.mono HX.out.size))
            exact Or.inl ⟨fg, Or.inl ⟨.agg #[.int .u8 (k' : Int), .slice pa' pl' pc', .int .i64 n', .string t', .slice da' dl' dc'], w, by go_simp, rfl, Below.refl _ _⟩⟩
          · intro ev w hc hf hg hfix hdep hbel
            have fg : ev (.tmp 61) = .bool true := hdep 41 (by decide)
            have e67 : ev (.tmp 67) = .agg #[.int .u8 (k : Int), .slice pa pl pc, .int .i64 n, .string t, .slice da dl dc] := hdep 47 (by decide)
            have e68 : ev (.tmp 68) = .agg #[.int .u8 (k' : Int), .slice pa' pl' pc', .int .i64 n', .string t', .slice da' dl' dc'] := hdep 48 (by decide)
            refine Or.inl ⟨fg, Or.inr ⟨18, #[.agg #[.int .u8 (k : Int), .slice pa pl pc, .int .i64 n, .string t, .slice da dl dc], .agg #[.int .u8 (k' : Int), .slice pa' pl' pc', .int .i64 n', .string t', .slice da' dl' dc']], w, by go_simp, ?_⟩⟩
            refine (refopsame_any k pa pl pc n t da dl dc p d k' pa' pl' pc' n' t' da' dl' dc' p' d' w (HP.out.below (HB.out.trans (hbel.mono HB.out.size))) HPl.out (HR.out.below (HB.out.trans (hbel.mono HB.out.size))) HDl.out (HP'.out.below (HB.out.trans (hbel.mono HB.out.size))) HPl'.out (HR'.out.below (HB.out.trans (hbel.mono HB.out.size))) HDl'.out).mono ?_
            rintro e w1 ⟨rfl, hb1⟩
            exact ⟨_, rfl, rfl, hb1⟩
          · intro ev w hc hf hg hfix hdep hbel
            have fg : ev (.tmp 61) = .bool true := hdep 41 (by decide)
            have e65 : ev (.tmp 65) = .bool (decide ((⟨k, p, n, t, d⟩ : Om.O) = ⟨k', p', n', t', d'⟩)) := hdep 45 (by decide)
            have e69 : ev (.tmp 69) = .bool (decide ((⟨k, p, n, t, d⟩ : Om.O) = ⟨k', p', n', t', d'⟩)) := hdep 49 (by decide)
            exact Or.inl ⟨fg, Or.inl ⟨.bool true, w, by go_simp, rfl, Below.refl _ _⟩⟩
          · intro ev w hc hf hg hfix hdep hbel
            have e61 : ev (.tmp 61) = .bool true := hdep 41 (by decide)
            have e70 : ev (.tmp 70) = .bool true := hdep 50 (by decide)
            exact Or.inl ⟨trivial, Or.inl ⟨.bool true, w, by go_simp, rfl, Below.refl _ _⟩⟩
          · intro ev w hc hf hg hfix hdep hbel
            have e71 : ev (.tmp 71) = .bool true := hdep 51 (by decide)
            exact Or.inl ⟨trivial, Or.inl ⟨.bool true, w, by go_simp, rfl, Below.refl _ _⟩⟩
          · intro ev w hc hf hg hfix hdep hbel
            have fg : ev (.tmp 72) = .bool true := hdep 52 (by decide)
            have e4 : ev (.tmp 4) = .pointer (some ⟨W.heap.size + 1, 0, none⟩) := hfix 4 (by decide)
            obtain ⟨⟨hc0, hc1, hc2, hc3, hc4, hc5, hc6, hc7, hc8⟩, hd0, hd1, hd2, hd3, hd4⟩ := evcells2 (HX.out.trans (hbel.mono HX.out.size))
            exact Or.inl ⟨fg, Or.inl ⟨.agg #[.int .u8 (k' : Int), .slice pa' pl' pc', .int .i64 n', .string t', .slice da' dl' dc'], w, by go_simp, rfl, Below.refl _ _⟩⟩
          · intro ev w hc hf hg hfix hdep hbel
            have fg : ev (.tmp 72) = .bool true := hdep 52 (by decide)
            have e4 : ev (.tmp 4) = .pointer (some ⟨W.heap.size + 1, 0, none⟩) := hfix 4 (by decide)
            obtain ⟨⟨hc0, hc1, hc2, hc3, hc4, hc5, hc6, hc7, hc8⟩, hd0, hd1, hd2, hd3, hd4⟩ := evcells2 (HX.out.trans (hbel.mono HX.out.size))
            exact Or.inl ⟨fg, Or.inl ⟨.agg #[.int .u8 (k' : Int), .slice pa' pl' pc', .int .i64 n', .string t', .slice da' dl' dc'], w, by go_simp, rfl, Below.refl _ _⟩⟩
          · intro ev w hc hf hg hfix hdep hbel
            have fg : ev (.tmp 72) = .bool true := hdep 52 (by decide)
            have e73 : ev (.tmp 73) = .agg #[.int .u8 (k' : Int), .slice pa' pl' pc', .int .i64 n', .string t', .slice da' dl' dc'] := hdep 53 (by decide)
            have e74 : ev (.tmp 74) = .agg #[.int .u8 (k' : Int), .slice pa' pl' pc', .int .i64 n', .string t', .slice da' dl' dc'] := hdep 54 (by decide)
            refine Or.inl ⟨fg, Or.inr ⟨17, #[.agg #[.int .u8 (k' : Int), .slice pa' pl' pc', .int .i64 n', .string t', .slice da' dl' dc'], .agg #[.int .u8 (k' : Int), .slice pa' pl' pc', .int .i64 n', .string t', .slice da' dl' dc']], w, by go_simp, ?_⟩⟩
            refine (opsame_any k' pa' pl' pc' n' t' da' dl' dc' p' d' k' pa' pl' pc' n' t' da' dl' dc' p' d' w (HP'.out.below (HB.out.trans (hbel.mono HB.out.size))) HPl'.out (HR'.out.below (HB.out.trans (hbel.mono HB.out.size))) HDl'.out (HP'.out.below (HB.out.trans (hbel.mono HB.out.size))) HPl'.out (HR'.out.below (HB.out.trans (hbel.mono HB.out.size))) HDl'.out).mono ?_
            rintro e w1 ⟨rfl, hb1⟩
            exact ⟨_, rfl, by simp, hb1⟩
          · intro ev w hc hf hg hfix hdep hbel
            have e72 : ev (.tmp 72) = .bool true := hdep 52 (by decide)
            have e75 : ev (.tmp 75) = .bool true := hdep 55 (by decide)
            exact Or.inl ⟨trivial, Or.inl ⟨.bool true, w, by go_simp, rfl, Below.refl _ _⟩⟩
          · intro ev w hc hf hg hfix hdep hbel
            have e76 : ev (.tmp 76) = .bool true := hdep 56 (by decide)
            exact Or.inl ⟨trivial, Or.inl ⟨.bool true, w, by go_simp, rfl, Below.refl _ _⟩⟩
          · intro ev w hc hf hg hfix hdep hbel
            have fg : ev (.tmp 77) = .bool true := hdep 57 (by decide)
            refine Or.inl ⟨fg, Or.inr ⟨6, #[], w, by go_simp, ?_⟩⟩
            refine (known04_any w).mono ?_
            rintro e w1 ⟨rfl, hb1⟩
            exact ⟨_, rfl, rfl, hb1⟩
          · intro ev w hc hf hg hfix hdep hbel
            have e77 : ev (.tmp 77) = .bool true := hdep 57 (by decide)
            have e78 : ev (.tmp 78) = .bool true := hdep 58 (by decide)
            exact Or.inl ⟨trivial, Or.inl ⟨.bool true, w, by go_simp, rfl, Below.refl _ _⟩⟩
          · intro ev w hc hf hg hfix hdep hbel
            have e79 : ev (.tmp 79) = .bool true := hdep 59 (by decide)
            exact Or.inl ⟨trivial, Or.inl ⟨.bool true, w, by go_simp, rfl, Below.refl _ _⟩⟩
        · intro v w2 hv hb2
          have r0 : v 0 = .string nm := hv 0 (by decide)
          have r1 : v 1 = .bool (Om.isName nm) := hv 1 (by decide)
          have r2 : v 2 = .string nm := hv 2 (by decide)
          have r3 : v 3 = .bool (Om.isName nm) := hv 3 (by decide)
          have r4 : v 4 = .bool true := hv 4 (by decide)
          have r5 : v 5 = .bool true := hv 5 (by decide)
          have r6 : v 6 = .pointer (some ⟨W.heap.size, 4, none⟩) := hv 6 (by decide)
          have r7 : v 7 = .pointer (some ⟨W.heap.size, 5, none⟩) := hv 7 (by decide)
          have r8 : v 8 = .slice pa pl pc := hv 8 (by decide)
          have r9 : v 9 = .bool (Om.mayPath p) := hv 9 (by decide)
          have r10 : v 10 = .pointer (some ⟨W.heap.size, 4, none⟩) := hv 10 (by decide)
          have r11 : v 11 = .pointer (some ⟨W.heap.size, 5, none⟩) := hv 11 (by decide)
          have r12 : v 12 = .slice pa pl pc := hv 12 (by decide)
          have r13 : v 13 = .bool (Om.mayPath p) := hv 13 (by decide)
          have r14 : v 14 = .bool true := hv 14 (by decide)
          have r15 : v 15 = .bool true := hv 15 (by decide)
          have r16 : v 16 = .bool true := hv 16 (by decide)
          have r17 : v 17 = .pointer (some ⟨W.heap.size, 4, none⟩) := hv 17 (by decide)
          have r18 : v 18 = .agg #[.int .u8 (k : Int), .slice pa pl pc, .int .i64 n, .string t, .slice da dl dc] := hv 18 (by decide)
          have r19 : v 19 = .bool (Om.may ⟨k, p, n, t, d⟩) := hv 19 (by decide)
          have r20 : v 20 = .pointer (some ⟨W.heap.size, 4, none⟩) := hv 20 (by decide)
          have r21 : v 21 = .agg #[.int .u8 (k : Int), .slice pa pl pc, .int .i64 n, .string t, .slice da dl dc] := hv 21 (by decide)
          have r22 : v 22 = .bool (Om.may ⟨k, p, n, t, d⟩) := hv 22 (by decide)
          have r23 : v 23 = .bool true := hv 23 (by decide)
          have r24 : v 24 = .bool true := hv 24 (by decide)
          have r25 : v 25 = .bool true := hv 25 (by decide)
          have r26 : v 26 = .agg #[.int .u8 (r : Int), .int .u32 (i : Int), .int .u64 (s : Int), .int .u64 (tm : Int), .int .u8 (k : Int), .slice pa pl pc, .int .i64 n, .string t, .slice da dl dc] := hv 26 (by decide)
          have r27 : v 27 = .bool (Om.mayEvent ⟨((r, i), s), tm, ⟨k, p, n, t, d⟩⟩) := hv 27 (by decide)
          have r28 : v 28 = .agg #[.int .u8 (r : Int), .int .u32 (i : Int), .int .u64 (s : Int), .int .u64 (tm : Int), .int .u8 (k : Int), .slice pa pl pc, .int .i64 n, .string t, .slice da dl dc] := hv 28 (by decide)
          have r29 : v 29 = .bool (Om.mayEvent ⟨((r, i), s), tm, ⟨k, p, n, t, d⟩⟩) := hv 29 (by decide)
          have r30 : v 30 = .bool true := hv 30 (by decide)
          have r31 : v 31 = .bool true := hv 31 (by decide)
          have r32 : v 32 = .bool true := hv 32 (by decide)
          have r33 : v 33 = .pointer (some ⟨W.heap.size + 1, 0, none⟩) := hv 33 (by decide)
          have r34 : v 34 = .int .u8 (k' : Int) := hv 34 (by decide)
          have r35 : v 35 = .int .u8 (Om.type k' : Nat) := hv 35 (by decide)
          have r36 : v 36 = .pointer (some ⟨W.heap.size + 1, 0, none⟩) := hv 36 (by decide)
          have r37 : v 37 = .int .u8 (k' : Int) := hv 37 (by decide)
          have r38 : v 38 = .int .u8 (Om.type k' : Nat) := hv 38 (by decide)
          have r39 : v 39 = .bool true := hv 39 (by decide)
          have r40 : v 40 = .bool true := hv 40 (by decide)
          have r41 : v 41 = .bool true := hv 41 (by decide)
          have r42 : v 42 = .pointer (some ⟨W.heap.size, 4, none⟩) := hv 42 (by decide)
          have r43 : v 43 = .agg #[.int .u8 (k : Int), .slice pa pl pc, .int .i64 n, .string t, .slice da dl dc] := hv 43 (by decide)
          have r44 : v 44 = .agg #[.int .u8 (k' : Int), .slice pa' pl' pc', .int .i64 n', .string t', .slice da' dl' dc'] := hv 44 (by decide)
          have r45 : v 45 = .bool (decide ((⟨k, p, n, t, d⟩ : Om.O) = ⟨k', p', n', t', d'⟩)) := hv 45 (by decide)
          have r46 : v 46 = .pointer (some ⟨W.heap.size, 4, none⟩) := hv 46 (by decide)
          have r47 : v 47 = .agg #[.int .u8 (k : Int), .slice pa pl pc, .int .i64 n, .string t, .slice da dl dc] := hv 47 (by decide)
          have r48 : v 48 = .agg #[.int .u8 (k' : Int), .slice pa' pl' pc', .int .i64 n', .string t', .slice da' dl' dc'] := hv 48 (by decide)
          have r49 : v 49 = .bool (decide ((⟨k, p, n, t, d⟩ : Om.O) = ⟨k', p', n', t', d'⟩)) := hv 49 (by decide)
          have r50 : v 50 = .bool true := hv 50 (by decide)
          have r51 : v 51 = .bool true := hv 51 (by decide)
          have r52 : v 52 = .bool true := hv 52 (by decide)
          have r53 : v 53 = .agg #[.int .u8 (k' : Int), .slice pa' pl' pc', .int .i64 n', .string t', .slice da' dl' dc'] := hv 53 (by decide)
          have r54 : v 54 = .agg #[.int .u8 (k' : Int), .slice pa' pl' pc', .int .i64 n', .string t', .slice da' dl' dc'] := hv 54 (by decide)
          have r55 : v 55 = .bool true := hv 55 (by decide)
          have r56 : v 56 = .bool true := hv 56 (by decide)
          have r57 : v 57 = .bool true := hv 57 (by decide)
          have r58 : v 58 = .bool true := hv 58 (by decide)
          have r59 : v 59 = .bool true := hv 59 (by decide)
          have r60 : v 60 = .bool true := hv 60 (by decide)
          simp only [Reg.putAll, Act.put, List.setIfInBounds_toArray, List.set_cons_zero, List.set_cons_succ, r0, r1, r2, r3, r4, r5, r6, r7, r8, r9, r10, r11, r12, r13, r14, r15, r16, r17, r18, r19, r20, r21, r22, r23, r24, r25, r26, r27, r28, r29, r30, r31, r32, r33, r34, r35, r36, r37, r38, r39, r40, r41, r42, r43, r44, r45, r46, r47, r48, r49, r50, r51, r52, r53, r54, r55, r56, r57, r58, r59, r60]
          clear r0 r1 r2 r3 r4 r5 r6 r7 r8 r9 r10 r11 r12 r13 r14 r15 r16 r17 r18 r19 r20 r21 r22 r23 r24 r25 r26 r27 r28 r29 r30 r31 r32 r33 r34 r35 r36 r37 r38 r39 r40 r41 r42 r43 r44 r45 r46 r47 r48 r49 r50 r51 r52 r53 r54 r55 r56 r57 r58 r59 r60 hv
          have HF := Lib.hid (HBox.out.trans ((HX2.out.trans (hb2.mono HX2.out.size)).mono HBox.out.size)); clear hb2
          go_wp2_with fail
          go_ret
          exact ⟨rfl, HF.out⟩
      · go_wp2_with fail
        refine (known04_any _).mono ?_
        rintro e w3 ⟨rfl, hb⟩
        have HF := Lib.hid (HBox.out.trans ((HX2.out.trans (hb.mono HX2.out.size)).mono HBox.out.size)); clear hb
        go_wp2_with fail
        go_ret
        exact ⟨rfl, HF.out⟩
    · go_wp2_with fail
      refine (known04_any _).mono ?_
      rintro e w3 ⟨rfl, hb⟩
      have HF := Lib.hid (HBox.out.trans ((HX2.out.trans (hb.mono HX2.out.size)).mono HBox.out.size)); clear hb
      go_wp2_with fail
      go_ret
      exact ⟨rfl, HF.out⟩
  · go_wp2_with fail
    refine (known04_any _).mono ?_
    rintro e w3 ⟨rfl, hb⟩
    have HF := Lib.hid (HBox.out.trans ((HX1.out.trans (hb.mono HX1.out.size)).mono HBox.out.size)); clear hb
    go_wp2_with fail
    go_ret
    exact ⟨rfl, HF.out⟩
end Go.Proofs.Ytpkfjgoimaomfaa
