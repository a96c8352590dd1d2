import Derived.Test.YtplafpchgfjomaaZSt4
namespace Go.Proofs.Ytplafpchgfjomaa
open Go.RowKit Go.Buf Go.LB
set_option linter.unusedSimpArgs false
set_option linter.unusedVariables false
def relIm (B : Nat) (w : World) (v : Value) (y : List Lm.It) : Prop := relIs B w v y ∧ y.length ≤ 1000000
def relDm (B : Nat) (w : World) (v : Value) (y : List Dt.Dot) : Prop := relDs B w v y ∧ y.length ≤ 1000000
theorem or2 {A B X : Prop} (a : A ∨ X) (b : B ∨ X) : (A ∧ B) ∨ X := or3 a b (Or.inl trivial) (fun h1 h2 _ => ⟨h1, h2⟩)
theorem grown_set9 (w : World) (g : Nat) (x0 x1 x2 x3 x4 x5 x6 x7 x8 : Value) : w.grownBy (((((((((w.setCell ⟨g, 0, none⟩ x0).setCell ⟨g, 1, none⟩ x1).setCell ⟨g, 2, none⟩ x2).setCell ⟨g, 3, none⟩ x3).setCell ⟨g, 4, none⟩ x4).setCell ⟨g, 5, none⟩ x5).setCell ⟨g, 6, none⟩ x6).setCell ⟨g, 7, none⟩ x7).setCell ⟨g, 8, none⟩ x8) (some g) :=
 grownR (grownR (grownR (grownR (grown_set5 w g x0 x1 x2 x3 x4) (grown_setCell _ g 5 x5)) (grown_setCell _ g 6 x6)) (grown_setCell _ g 7 x7)) (grown_setCell _ g 8 x8)
theorem int_and {v n : Int} {er er' : Nat} (h : (v = n ∧ er' = 0 ∧ er = 0) ∨ (v = 0 ∧ er' ≠ 0)) : er' = 0 → v = n ∧ er = 0 := fun h0 => by omega
theorem int_in {v n : Int} {er er' : Nat} (h : (v = n ∧ er' = 0 ∧ er = 0) ∨ (v = 0 ∧ er' ≠ 0)) (hn : -9223372036854775808 ≤ n ∧ n ≤ 9223372036854775807) : -9223372036854775808 ≤ v ∧ v ≤ 9223372036854775807 := by omega
set_option maxRecDepth 100000 in
set_option maxHeartbeats 25600000 in
theorem sleaf_x (q : Nat) (x : Lm.L) (hx : takesL x) (R z : List Nat) (er : Nat) (W : World) (h : RdX W q (lfE x ++ R) z er) :
  Calls Try.prog 31 #[tkV q] W fun e w' => ∃ (k1 : Nat) (n1 : Int) (t1 r1 i1 s1 : Nat) (u1 : ByteArray) (ia : Option Addr) (il ic : Nat) (da : Option Addr) (dl dc : Nat) (li : List Lm.It) (ld : List Dt.Dot) (er' : Nat), e = .returned (leafV k1 n1 t1 r1 i1 s1 u1 ia il ic da dl dc) ∧ li.length = il ∧ ld.length = dl ∧ okL ⟨k1, n1, t1, ((r1, i1), s1), u1, li, ld⟩ ∧ Own1 W.heap.size w' (fun w => IRow w ia ic li ∧ VRow w da dc ld) ∧ (er' = 0 → (⟨k1, n1, t1, ((r1, i1), s1), u1, li, ld⟩ : Lm.L) = x ∧ er = 0) ∧ RdX w' q R z er' ∧ W.grownBy w' (some q) := by
 obtain ⟨k, n, t, d, u, lx, ly⟩ := x
 obtain ⟨⟨⟨h1, h2, h3, h4, h5, h6, h7⟩, h8, h9⟩, h10, h11⟩ := hx
 simp only at h1 h2 h3 h4 h5 h6 h7 h8 h9 h10 h11
 have hqlt := h.lt
 have hh : RdX W q (Cd.num k ++ (Cd.num (Cd.uns n) ++ (Cd.num t ++ (dotE d ++ (txtE u ++ ((Cd.num lx.length ++ lx.flatMap itE) ++ ((Cd.num ly.length ++ ly.flatMap dotE) ++ R))))))) z er := by
  have e : lfE ⟨k, n, t, d, u, lx, ly⟩ ++ R = Cd.num k ++ (Cd.num (Cd.uns n) ++ (Cd.num t ++ (dotE d ++ (txtE u ++ ((Cd.num lx.length ++ lx.flatMap itE) ++ ((Cd.num ly.length ++ ly.flatMap dotE) ++ R)))))) := by simp only [lfE, List.append_assoc]
  rw [← e]; exact h
 obtain ⟨EJ, hE0, hE1, hE2, hE3, hE4, hE5, hE6, hE7⟩ : ∃ EJ : Nat → List Nat, EJ 0 = Cd.num k ++ (Cd.num (Cd.uns n) ++ (Cd.num t ++ (dotE d ++ (txtE u ++ ((Cd.num lx.length ++ lx.flatMap itE) ++ ((Cd.num ly.length ++ ly.flatMap dotE) ++ R)))))) ∧ EJ 1 = Cd.num (Cd.uns n) ++ (Cd.num t ++ (dotE d ++ (txtE u ++ ((Cd.num lx.length ++ lx.flatMap itE) ++ ((Cd.num ly.length ++ ly.flatMap dotE) ++ R))))) ∧ EJ 2 = Cd.num t ++ (dotE d ++ (txtE u ++ ((Cd.num lx.length ++ lx.flatMap itE) ++ ((Cd.num ly.length ++ ly.flatMap dotE) ++ R)))) ∧ EJ 3 = dotE d ++ (txtE u ++ ((Cd.num lx.length ++ lx.flatMap itE) ++ ((Cd.num ly.length ++ ly.flatMap dotE) ++ R))) ∧ EJ 4 = txtE u ++ ((Cd.num lx.length ++ lx.flatMap itE) ++ ((Cd.num ly.length ++ ly.flatMap dotE) ++ R)) ∧ EJ 5 = (Cd.num lx.length ++ lx.flatMap itE) ++ ((Cd.num ly.length ++ ly.flatMap dotE) ++ R) ∧ EJ 6 = (Cd.num ly.length ++ ly.flatMap dotE) ++ R ∧ EJ 7 = R := ⟨fun x => match x with | 0 => _ | 1 => _ | 2 => _ | 3 => _ | 4 => _ | 5 => _ | 6 => _ | _ => R, rfl, rfl, rfl, rfl, rfl, rfl, rfl, rfl⟩
 have HE0 := Lib.hid hE0; have HE1 := Lib.hid hE1; have HE2 := Lib.hid hE2; have HE3 := Lib.hid hE3; have HE4 := Lib.hid hE4; have HE5 := Lib.hid hE5; have HE6 := Lib.hid hE6; have HE7 := Lib.hid hE7
 clear hE0 hE1 hE2 hE3 hE4 hE5 hE6 hE7
 have HH := Lib.hid hh; have HK := Lib.hid h1; have HN := Lib.hid h2; have HT := Lib.hid h3; have HD := Lib.hid h4; have H40 := Lib.hid h10; have HLx := Lib.hid h6; have HLy := Lib.hid h7; have HOx := Lib.hid (show ∀ d ∈ lx, okI d ∧ d.2.2.size ≤ 40 from fun d hd => ⟨h8 d hd, h11 d hd⟩); have HOy := Lib.hid h9; have HQ := Lib.hid hqlt
 clear h hh h1 h2 h3 h4 h5 h6 h7 h8 h9 h10 h11
 go_enter Try.func31, Try.ntmps31
 go_wp2_with fail
 obtain ⟨bx, hbx⟩ : ∃ b, b = W.heap.size := ⟨_, rfl⟩
 obtain ⟨rb, hrb⟩ : ∃ b, b = W.heap.size + 1 := ⟨_, rfl⟩
 obtain ⟨XX, hXX⟩ : ∃ w, w = (W.alloc (.cells #[.pointer (some ⟨q, 0, none⟩)] 66)).alloc (.cells #[.int .u8 0, .int .i64 0, .int .u64 0, .int .u8 0, .int .u32 0, .int .u64 0, .string ⟨#[]⟩, .slice none 0 0, .slice none 0 0] 44) := ⟨_, rfl⟩
 have hb1 : Blk XX bx 66 [.pointer (some ⟨q, 0, none⟩)] := by
  rw [hXX, hbx]; exact (Blk.new W #[.pointer (some ⟨q, 0, none⟩)] 66).below (below_box3 _ _ _)
 have hb2 : Blk XX rb 44 [.int .u8 0, .int .i64 0, .int .u64 0, .int .u8 0, .int .u32 0, .int .u64 0, .string ⟨#[]⟩, .slice none 0 0, .slice none 0 0] := by
  have := Blk.new (W.alloc (.cells #[.pointer (some ⟨q, 0, none⟩)] 66)) #[.int .u8 0, .int .i64 0, .int .u64 0, .int .u8 0, .int .u32 0, .int .u64 0, .string ⟨#[]⟩, .slice none 0 0, .slice none 0 0] 44
  rw [hXX, hrb]; simpa using this
 have hXG : W.grownBy XX (some q) := by rw [hXX]; exact grownA (grownA (grown_refl _ _) _) _
 have hXB : Below W.heap.size W XX := by rw [hXX]; exact (below_box3 _ _ _).trans ((below_box3 _ _ _).mono (by simp))
 have hXH : XX.heap.size = W.heap.size + 2 := by rw [hXX]; simp
 rw [← hXX, ← hrb, ← hbx]
 have HBX := Lib.hid (show ∀ w, Chg (fun k => k = q) XX w → w.cell? ⟨bx, 0, none⟩ = some (.pointer (some ⟨q, 0, none⟩)) from fun w h => (hb1.chg h (by omega)).cell 0)
 have HRB := Lib.hid (show ∀ w, Chg (fun k => k = q) XX w → Blk w rb 44 [.int .u8 0, .int .i64 0, .int .u64 0, .int .u8 0, .int .u32 0, .int .u64 0, .string ⟨#[]⟩, .slice none 0 0, .slice none 0 0] from fun w h => hb2.chg h (by omega))
 have HQR := Lib.hid (show q < rb by omega); have HQX := Lib.hid (show q < XX.heap.size by omega); have HRX := Lib.hid (show rb < XX.heap.size by omega); have HXG := Lib.hid hXG; have HQB := Lib.hid (show q ≠ bx ∧ q ≠ rb ∧ bx ≠ rb by omega); have HBXl := Lib.hid (show bx < XX.heap.size by omega); have HWX := Lib.hid (show W.heap.size ≤ XX.heap.size by omega); have HWR := Lib.hid (show W.heap.size ≤ rb by omega)
 have HJ0 := Lib.hid (show JX q EJ z er XX.heap.size 0 XX.drew from ⟨er, by rw [HE0.out]; exact (HH.out.below hXB).below (Below.refl _ _).drew, fun h => h, Nat.le_refl _⟩)
 clear hXX hb1 hb2 hXG hXB hXH hbx hrb
 clear hqlt
 refine RegH.region_list (by kernel_rfl) (fun k w => JX q EJ z er XX.heap.size k w) [1, 5, 8, 10, 13, 17, 21] [1, 5, 8, 10, 13, 17, 21, 23] [23] [] [RegH.plain (fun v _ => v = .agg #[.pointer (some ⟨q, 0, none⟩)]), RegH.change (fun v w => Tk q (relM 255) k v w) (fun k => k = q) (fun u w w' => RX q EJ z er XX.heap.size 1 w w'), RegH.plain (fun v w => Tk q relB k v w), RegH.plain (fun v _ => v = .pointer (some ⟨bx, 0, none⟩)), RegH.plain (fun v _ => v = .pointer (some ⟨q, 0, none⟩)), RegH.change (fun v w => Tk q relZ n v w) (fun k => k = q) (fun u w w' => RX q EJ z er XX.heap.size 2 w w'), RegH.plain (fun v _ => v = .pointer (some ⟨bx, 0, none⟩)), RegH.plain (fun v _ => v = .pointer (some ⟨q, 0, none⟩)), RegH.change (fun v w => Tk q relU t v w) (fun k => k = q) (fun u w w' => RX q EJ z er XX.heap.size 3 w w'), RegH.plain (fun v _ => v = .agg #[.pointer (some ⟨q, 0, none⟩)]), RegH.change (fun v w => Tk q relD d v w) (fun k => k = q) (fun u w w' => RX q EJ z er XX.heap.size 4 w w'), RegH.plain (fun v _ => v = .pointer (some ⟨bx, 0, none⟩)), RegH.plain (fun v _ => v = .pointer (some ⟨q, 0, none⟩)), RegH.change (fun v w => Tk q (relS 40) u v w) (fun k => k = q) (fun u w w' => RX q EJ z er XX.heap.size 5 w w'), RegH.plain (fun v _ => v = .agg #[.pointer (some ⟨q, 0, none⟩)]), RegH.plain (fun v _ => v = .agg #[.pointer (some ⟨q, 0, none⟩)]), RegH.plain (fun v _ => v = .func (.func 42) #[tkV q] #[]), RegH.change (fun v w => Tk q (relIm XX.heap.size) lx v w) (fun k => k = q) (fun u w w' => RX q EJ z er XX.heap.size 6 w w'), RegH.plain (fun v _ => v = .agg #[.pointer (some ⟨q, 0, none⟩)]), RegH.plain (fun v _ => v = .agg #[.pointer (some ⟨q, 0, none⟩)]), RegH.plain (fun v _ => v = .func (.func 40) #[tkV q] #[]), RegH.change (fun v w => Tk q (relDm XX.heap.size) ly v w) (fun k => k = q) (fun u w w' => RX q EJ z er XX.heap.size 7 w w'), RegH.plain (fun v w => ∃ (k1 : Nat) (n1 : Int) (t1 r1 i1 s1 : Nat) (u1 : ByteArray) (ia : Option Addr) (il ic : Nat) (da : Option Addr) (dl dc : Nat) (li : List Lm.It) (ld : List Dt.Dot), v = leafV k1 n1 t1 r1 i1 s1 u1 ia il ic da dl dc ∧ li.length = il ∧ ld.length = dl ∧ okL ⟨k1, n1, t1, ((r1, i1), s1), u1, li, ld⟩ ∧ Own1 XX.heap.size w (fun w => IRow w ia ic li ∧ VRow w da dc ld) ∧ ((⟨k1, n1, t1, ((r1, i1), s1), u1, li, ld⟩ : Lm.L) = ⟨k, n, t, d, u, lx, ly⟩ ∨ Bad q w)), RegH.change (fun v w => ∃ (k1 : Nat) (n1 : Int) (t1 r1 i1 s1 : Nat) (u1 : ByteArray) (ia : Option Addr) (il ic : Nat) (da : Option Addr) (dl dc : Nat) (li : List Lm.It) (ld : List Dt.Dot), Blk w rb 44 [.int .u8 (k1 : Int), .int .i64 n1, .int .u64 (t1 : Int), .int .u8 (r1 : Int), .int .u32 (i1 : Int), .int .u64 (s1 : Int), .string u1, .slice ia il ic, .slice da dl dc] ∧ li.length = il ∧ ld.length = dl ∧ okL ⟨k1, n1, t1, ((r1, i1), s1), u1, li, ld⟩ ∧ Own1 XX.heap.size w (fun w => IRow w ia ic li ∧ VRow w da dc ld) ∧ ((⟨k1, n1, t1, ((r1, i1), s1), u1, li, ld⟩ : Lm.L) = ⟨k, n, t, d, u, lx, ly⟩ ∨ Bad q w)) (fun k => k = rb) (fun u w w' => w.grownBy w' (some rb))] (by kernel_rfl) (by kernel_rfl) (by kernel_rfl) (fun i hi => by simp at hi) (by kernel_rfl) (by kernel_rfl) rfl (HJ0.out) (fun _ _ _ hb h => h.below hb) ?_ ?_ ?_ ?_ ?_ ?_
 ·exact ⟨Or.inr ⟨fun _ h => h, fun _ _ _ h => h⟩, Or.inl (by decide), Or.inr ⟨fun _ h => h, fun _ _ _ h => h⟩, Or.inr ⟨fun _ h => h, fun _ _ _ h => h⟩, Or.inr ⟨fun _ h => h, fun _ _ _ h => h⟩, Or.inl (by decide), Or.inr ⟨fun _ h => h, fun _ _ _ h => h⟩, Or.inr ⟨fun _ h => h, fun _ _ _ h => h⟩, Or.inl (by decide), Or.inr ⟨fun _ h => h, fun _ _ _ h => h⟩, Or.inl (by decide), Or.inr ⟨fun _ h => h, fun _ _ _ h => h⟩, Or.inr ⟨fun _ h => h, fun _ _ _ h => h⟩, Or.inl (by decide), Or.inr ⟨fun _ h => h, fun _ _ _ h => h⟩, Or.inr ⟨fun _ h => h, fun _ _ _ h => h⟩, Or.inr ⟨fun _ h => h, fun _ _ _ h => h⟩, Or.inl (by decide), Or.inr ⟨fun _ h => h, fun _ _ _ h => h⟩, Or.inr ⟨fun _ h => h, fun _ _ _ h => h⟩, Or.inr ⟨fun _ h => h, fun _ _ _ h => h⟩, Or.inl (by decide), Or.inr ⟨fun _ h => h, fun _ _ _ h => h⟩, Or.inl (by decide), trivial⟩
 ·exact ⟨⟨fun _ _ _ h => h, Or.inl ⟨by decide, fun _ wx wy n h => (fun _ _ _ hb h => h.below hb) n wx wy (RegH.to_below h (fun _ h => h))⟩⟩, ⟨(fun u wa wb h => (Chg.of_grown h.1).mono (fun k _ e => by simpa using e)), Or.inr ⟨0, rfl, (fun u wa wb h _ => h.2.2)⟩⟩, ⟨fun _ _ _ h => h, Or.inl ⟨by decide, fun _ wx wy n h => (fun _ _ _ hb h => h.below hb) n wx wy (RegH.to_below h (fun _ h => h))⟩⟩, ⟨fun _ _ _ h => h, Or.inl ⟨by decide, fun _ wx wy n h => (fun _ _ _ hb h => h.below hb) n wx wy (RegH.to_below h (fun _ h => h))⟩⟩, ⟨fun _ _ _ h => h, Or.inl ⟨by decide, fun _ wx wy n h => (fun _ _ _ hb h => h.below hb) n wx wy (RegH.to_below h (fun _ h => h))⟩⟩, ⟨(fun u wa wb h => (Chg.of_grown h.1).mono (fun k _ e => by simpa using e)), Or.inr ⟨1, rfl, (fun u wa wb h _ => h.2.2)⟩⟩, ⟨fun _ _ _ h => h, Or.inl ⟨by decide, fun _ wx wy n h => (fun _ _ _ hb h => h.below hb) n wx wy (RegH.to_below h (fun _ h => h))⟩⟩, ⟨fun _ _ _ h => h, Or.inl ⟨by decide, fun _ wx wy n h => (fun _ _ _ hb h => h.below hb) n wx wy (RegH.to_below h (fun _ h => h))⟩⟩, ⟨(fun u wa wb h => (Chg.of_grown h.1).mono (fun k _ e => by simpa using e)), Or.inr ⟨2, rfl, (fun u wa wb h _ => h.2.2)⟩⟩, ⟨fun _ _ _ h => h, Or.inl ⟨by decide, fun _ wx wy n h => (fun _ _ _ hb h => h.below hb) n wx wy (RegH.to_below h (fun _ h => h))⟩⟩, ⟨(fun u wa wb h => (Chg.of_grown h.1).mono (fun k _ e => by simpa using e)), Or.inr ⟨3, rfl, (fun u wa wb h _ => h.2.2)⟩⟩, ⟨fun _ _ _ h => h, Or.inl ⟨by decide, fun _ wx wy n h => (fun _ _ _ hb h => h.below hb) n wx wy (RegH.to_below h (fun _ h => h))⟩⟩, ⟨fun _ _ _ h => h, Or.inl ⟨by decide, fun _ wx wy n h => (fun _ _ _ hb h => h.below hb) n wx wy (RegH.to_below h (fun _ h => h))⟩⟩, ⟨(fun u wa wb h => (Chg.of_grown h.1).mono (fun k _ e => by simpa using e)), Or.inr ⟨4, rfl, (fun u wa wb h _ => h.2.2)⟩⟩, ⟨fun _ _ _ h => h, Or.inl ⟨by decide, fun _ wx wy n h => (fun _ _ _ hb h => h.below hb) n wx wy (RegH.to_below h (fun _ h => h))⟩⟩, ⟨fun _ _ _ h => h, Or.inl ⟨by decide, fun _ wx wy n h => (fun _ _ _ hb h => h.below hb) n wx wy (RegH.to_below h (fun _ h => h))⟩⟩, ⟨fun _ _ _ h => h, Or.inl ⟨by decide, fun _ wx wy n h => (fun _ _ _ hb h => h.below hb) n wx wy (RegH.to_below h (fun _ h => h))⟩⟩, ⟨(fun u wa wb h => (Chg.of_grown h.1).mono (fun k _ e => by simpa using e)), Or.inr ⟨5, rfl, (fun u wa wb h _ => h.2.2)⟩⟩, ⟨fun _ _ _ h => h, Or.inl ⟨by decide, fun _ wx wy n h => (fun _ _ _ hb h => h.below hb) n wx wy (RegH.to_below h (fun _ h => h))⟩⟩, ⟨fun _ _ _ h => h, Or.inl ⟨by decide, fun _ wx wy n h => (fun _ _ _ hb h => h.below hb) n wx wy (RegH.to_below h (fun _ h => h))⟩⟩, ⟨fun _ _ _ h => h, Or.inl ⟨by decide, fun _ wx wy n h => (fun _ _ _ hb h => h.below hb) n wx wy (RegH.to_below h (fun _ h => h))⟩⟩, ⟨(fun u wa wb h => (Chg.of_grown h.1).mono (fun k _ e => by simpa using e)), Or.inr ⟨6, rfl, (fun u wa wb h _ => h.2.2)⟩⟩, ⟨fun _ _ _ h => h, Or.inl ⟨by decide, fun _ wx wy n h => (fun _ _ _ hb h => h.below hb) n wx wy (RegH.to_below h (fun _ h => h))⟩⟩, ⟨(fun u wa wb h => (Chg.of_grown h).mono (fun k _ e => by simpa using e)), Or.inl ⟨by decide, (fun u wa wb n h hj => hj.grown h HQR.out)⟩⟩, trivial⟩
 ·refine ⟨k4, (fun v wa wb hb h => by exact Tk.step h (fun _ h => h) (fun h => h.below hb)), (fun v wa wb hb h => by exact Tk.step h (fun _ h => h) (fun h => h.below hb)), k4, k4, (fun v wa wb hb h => by exact Tk.step h (fun _ h => h) (fun h => h.below hb)), k4, k4, (fun v wa wb hb h => by exact Tk.step h (fun _ h => h) (fun h => h.below hb)), k4, (fun v wa wb hb h => by exact Tk.step h (fun _ h => h) (fun h => h.below hb)), k4, k4, (fun v wa wb hb h => by exact Tk.step h (fun _ h => h) (fun h => h.below hb)), k4, k4, k4, (fun v wa wb hb h => by exact Tk.step h (fun _ h => ⟨h.1.below hb, h.2⟩) (fun h => h.below hb)), k4, k4, k4, (fun v wa wb hb h => by exact Tk.step h (fun _ h => ⟨h.1.below hb, h.2⟩) (fun h => h.below hb)), (fun v wa wb hb h => by obtain ⟨k1, n1, t1, r1, i1, s1, u1, ia, il, ic, da, dl, dc, li, ld, h0, h1, h2, h3, h4, h5⟩ := h; exact ⟨k1, n1, t1, r1, i1, s1, u1, ia, il, ic, da, dl, dc, li, ld, h0, h1, h2, h3, h4.below hb, h5.imp id (fun h => h.below hb)⟩), (fun v wa wb hb h => by obtain ⟨k1, n1, t1, r1, i1, s1, u1, ia, il, ic, da, dl, dc, li, ld, h0, h1, h2, h3, h4, h5⟩ := h; exact ⟨k1, n1, t1, r1, i1, s1, u1, ia, il, ic, da, dl, dc, li, ld, h0.below hb, h1, h2, h3, h4.below hb, h5.imp id (fun h => h.below hb)⟩), trivial⟩
 ·refine ⟨⟨Or.inr (Or.inr (Or.inr (fun _ _ _ _ _ _ h => h))), Or.inl rfl, Or.inr (Or.inl (by kernel_rfl)), Or.inr (Or.inr (Or.inr (fun _ _ _ _ _ _ h => h))), Or.inr (Or.inr (Or.inr (fun _ _ _ _ _ _ h => h))), Or.inr (Or.inl (by kernel_rfl)), Or.inr (Or.inr (Or.inr (fun _ _ _ _ _ _ h => h))), Or.inr (Or.inr (Or.inr (fun _ _ _ _ _ _ h => h))), Or.inr (Or.inl (by kernel_rfl)), Or.inr (Or.inr (Or.inr (fun _ _ _ _ _ _ h => h))), Or.inr (Or.inl (by kernel_rfl)), Or.inr (Or.inr (Or.inr (fun _ _ _ _ _ _ h => h))), Or.inr (Or.inr (Or.inr (fun _ _ _ _ _ _ h => h))), Or.inr (Or.inl (by kernel_rfl)), Or.inr (Or.inr (Or.inr (fun _ _ _ _ _ _ h => h))), Or.inr (Or.inr (Or.inr (fun _ _ _ _ _ _ h => h))), Or.inr (Or.inr (Or.inr (fun _ _ _ _ _ _ h => h))), Or.inr (Or.inl (by kernel_rfl)), Or.inr (Or.inr (Or.inr (fun _ _ _ _ _ _ h => h))), Or.inr (Or.inr (Or.inr (fun _ _ _ _ _ _ h => h))), Or.inr (Or.inr (Or.inr (fun _ _ _ _ _ _ h => h))), Or.inr (Or.inl (by kernel_rfl)), Or.inr (Or.inl (by kernel_rfl)), Or.inr (Or.inl (by kernel_rfl)), trivial⟩, ⟨Or.inr (Or.inr (Or.inr (fun _ _ _ _ _ _ h => h))), Or.inr (Or.inr (Or.inr (fun u v wa wb hap hr h => by exact Tk.step h (fun _ h => h) hr.2.1))), Or.inr (Or.inr (Or.inr (fun u v wa wb hap hr h => by exact Tk.step h (fun _ h => h) hr.2.1))), Or.inr (Or.inr (Or.inr (fun _ _ _ _ _ _ h => h))), Or.inr (Or.inr (Or.inr (fun _ _ _ _ _ _ h => h))), Or.inl rfl, Or.inr (Or.inr (Or.inr (fun _ _ _ _ _ _ h => h))), Or.inr (Or.inr (Or.inr (fun _ _ _ _ _ _ h => h))), Or.inr (Or.inl (by kernel_rfl)), Or.inr (Or.inr (Or.inr (fun _ _ _ _ _ _ h => h))), Or.inr (Or.inl (by kernel_rfl)), Or.inr (Or.inr (Or.inr (fun _ _ _ _ _ _ h => h))), Or.inr (Or.inr (Or.inr (fun _ _ _ _ _ _ h => h))), Or.inr (Or.inl (by kernel_rfl)), Or.inr (Or.inr (Or.inr (fun _ _ _ _ _ _ h => h))), Or.inr (Or.inr (Or.inr (fun _ _ _ _ _ _ h => h))), Or.inr (Or.inr (Or.inr (fun _ _ _ _ _ _ h => h))), Or.inr (Or.inl (by kernel_rfl)), Or.inr (Or.inr (Or.inr (fun _ _ _ _ _ _ h => h))), Or.inr (Or.inr (Or.inr (fun _ _ _ _ _ _ h => h))), Or.inr (Or.inr (Or.inr (fun _ _ _ _ _ _ h => h))), Or.inr (Or.inl (by kernel_rfl)), Or.inr (Or.inl (by kernel_rfl)), Or.inr (Or.inl (by kernel_rfl)), trivial⟩, ⟨Or.inr (Or.inr (Or.inr (fun _ _ _ _ _ _ h => h))), Or.inr (Or.inr (Or.inr (fun u v wa wb hap hr h => by exact Tk.step h (fun _ h => h) hr.2.1))), Or.inr (Or.inr (Or.inr (fun u v wa wb hap hr h => by exact Tk.step h (fun _ h => h) hr.2.1))), Or.inr (Or.inr (Or.inr (fun _ _ _ _ _ _ h => h))), Or.inr (Or.inr (Or.inr (fun _ _ _ _ _ _ h => h))), Or.inr (Or.inr (Or.inr (fun u v wa wb hap hr h => by exact Tk.step h (fun _ h => h) hr.2.1))), Or.inr (Or.inr (Or.inr (fun _ _ _ _ _ _ h => h))), Or.inr (Or.inr (Or.inr (fun _ _ _ _ _ _ h => h))), Or.inl rfl, Or.inr (Or.inr (Or.inr (fun _ _ _ _ _ _ h => h))), Or.inr (Or.inl (by kernel_rfl)), Or.inr (Or.inr (Or.inr (fun _ _ _ _ _ _ h => h))), Or.inr (Or.inr (Or.inr (fun _ _ _ _ _ _ h => h))), Or.inr (Or.inl (by kernel_rfl)), Or.inr (Or.inr (Or.inr (fun _ _ _ _ _ _ h => h))), Or.inr (Or.inr (Or.inr (fun _ _ _ _ _ _ h => h))), Or.inr (Or.inr (Or.inr (fun _ _ _ _ _ _ h => h))), Or.inr (Or.inl (by kernel_rfl)), Or.inr (Or.inr (Or.inr (fun _ _ _ _ _ _ h => h))), Or.inr (Or.inr (Or.inr (fun _ _ _ _ _ _ h => h))), Or.inr (Or.inr (Or.inr (fun _ _ _ _ _ _ h => h))), Or.inr (Or.inl (by kernel_rfl)), Or.inr (Or.inl (by kernel_rfl)), Or.inr (Or.inl (by kernel_rfl)), trivial⟩, ⟨Or.inr (Or.inr (Or.inr (fun _ _ _ _ _ _ h => h))), Or.inr (Or.inr (Or.inr (fun u v wa wb hap hr h => by exact Tk.step h (fun _ h => h) hr.2.1))), Or.inr (Or.inr (Or.inr (fun u v wa wb hap hr h => by exact Tk.step h (fun _ h => h) hr.2.1))), Or.inr (Or.inr (Or.inr (fun _ _ _ _ _ _ h => h))), Or.inr (Or.inr (Or.inr (fun _ _ _ _ _ _ h => h))), Or.inr (Or.inr (Or.inr (fun u v wa wb hap hr h => by exact Tk.step h (fun _ h => h) hr.2.1))), Or.inr (Or.inr (Or.inr (fun _ _ _ _ _ _ h => h))), Or.inr (Or.inr (Or.inr (fun _ _ _ _ _ _ h => h))), Or.inr (Or.inr (Or.inr (fun u v wa wb hap hr h => by exact Tk.step h (fun _ h => h) hr.2.1))), Or.inr (Or.inr (Or.inr (fun _ _ _ _ _ _ h => h))), Or.inl rfl, Or.inr (Or.inr (Or.inr (fun _ _ _ _ _ _ h => h))), Or.inr (Or.inr (Or.inr (fun _ _ _ _ _ _ h => h))), Or.inr (Or.inl (by kernel_rfl)), Or.inr (Or.inr (Or.inr (fun _ _ _ _ _ _ h => h))), Or.inr (Or.inr (Or.inr (fun _ _ _ _ _ _ h => h))), Or.inr (Or.inr (Or.inr (fun _ _ _ _ _ _ h => h))), Or.inr (Or.inl (by kernel_rfl)), Or.inr (Or.inr (Or.inr (fun _ _ _ _ _ _ h => h))), Or.inr (Or.inr (Or.inr (fun _ _ _ _ _ _ h => h))), Or.inr (Or.inr (Or.inr (fun _ _ _ _ _ _ h => h))), Or.inr (Or.inl (by kernel_rfl)), Or.inr (Or.inl (by kernel_rfl)), Or.inr (Or.inl (by kernel_rfl)), trivial⟩, ⟨Or.inr (Or.inr (Or.inr (fun _ _ _ _ _ _ h => h))), Or.inr (Or.inr (Or.inr (fun u v wa wb hap hr h => by exact Tk.step h (fun _ h => h) hr.2.1))), Or.inr (Or.inr (Or.inr (fun u v wa wb hap hr h => by exact Tk.step h (fun _ h => h) hr.2.1))), Or.inr (Or.inr (Or.inr (fun _ _ _ _ _ _ h => h))), Or.inr (Or.inr (Or.inr (fun _ _ _ _ _ _ h => h))), Or.inr (Or.inr (Or.inr (fun u v wa wb hap hr h => by exact Tk.step h (fun _ h => h) hr.2.1))), Or.inr (Or.inr (Or.inr (fun _ _ _ _ _ _ h => h))), Or.inr (Or.inr (Or.inr (fun _ _ _ _ _ _ h => h))), Or.inr (Or.inr (Or.inr (fun u v wa wb hap hr h => by exact Tk.step h (fun _ h => h) hr.2.1))), Or.inr (Or.inr (Or.inr (fun _ _ _ _ _ _ h => h))), Or.inr (Or.inr (Or.inr (fun u v wa wb hap hr h => by exact Tk.step h (fun _ h => h) hr.2.1))), Or.inr (Or.inr (Or.inr (fun _ _ _ _ _ _ h => h))), Or.inr (Or.inr (Or.inr (fun _ _ _ _ _ _ h => h))), Or.inl rfl, Or.inr (Or.inr (Or.inr (fun _ _ _ _ _ _ h => h))), Or.inr (Or.inr (Or.inr (fun _ _ _ _ _ _ h => h))), Or.inr (Or.inr (Or.inr (fun _ _ _ _ _ _ h => h))), Or.inr (Or.inl (by kernel_rfl)), Or.inr (Or.inr (Or.inr (fun _ _ _ _ _ _ h => h))), Or.inr (Or.inr (Or.inr (fun _ _ _ _ _ _ h => h))), Or.inr (Or.inr (Or.inr (fun _ _ _ _ _ _ h => h))), Or.inr (Or.inl (by kernel_rfl)), Or.inr (Or.inl (by kernel_rfl)), Or.inr (Or.inl (by kernel_rfl)), trivial⟩, ⟨Or.inr (Or.inr (Or.inr (fun _ _ _ _ _ _ h => h))), Or.inr (Or.inr (Or.inr (fun u v wa wb hap hr h => by exact Tk.step h (fun _ h => h) hr.2.1))), Or.inr (Or.inr (Or.inr (fun u v wa wb hap hr h => by exact Tk.step h (fun _ h => h) hr.2.1))), Or.inr (Or.inr (Or.inr (fun _ _ _ _ _ _ h => h))), Or.inr (Or.inr (Or.inr (fun _ _ _ _ _ _ h => h))), Or.inr (Or.inr (Or.inr (fun u v wa wb hap hr h => by exact Tk.step h (fun _ h => h) hr.2.1))), Or.inr (Or.inr (Or.inr (fun _ _ _ _ _ _ h => h))), Or.inr (Or.inr (Or.inr (fun _ _ _ _ _ _ h => h))), Or.inr (Or.inr (Or.inr (fun u v wa wb hap hr h => by exact Tk.step h (fun _ h => h) hr.2.1))), Or.inr (Or.inr (Or.inr (fun _ _ _ _ _ _ h => h))), Or.inr (Or.inr (Or.inr (fun u v wa wb hap hr h => by exact Tk.step h (fun _ h => h) hr.2.1))), Or.inr (Or.inr (Or.inr (fun _ _ _ _ _ _ h => h))), Or.inr (Or.inr (Or.inr (fun _ _ _ _ _ _ h => h))), Or.inr (Or.inr (Or.inr (fun u v wa wb hap hr h => by exact Tk.step h (fun _ h => h) hr.2.1))), Or.inr (Or.inr (Or.inr (fun _ _ _ _ _ _ h => h))), Or.inr (Or.inr (Or.inr (fun _ _ _ _ _ _ h => h))), Or.inr (Or.inr (Or.inr (fun _ _ _ _ _ _ h => h))), Or.inl rfl, Or.inr (Or.inr (Or.inr (fun _ _ _ _ _ _ h => h))), Or.inr (Or.inr (Or.inr (fun _ _ _ _ _ _ h => h))), Or.inr (Or.inr (Or.inr (fun _ _ _ _ _ _ h => h))), Or.inr (Or.inl (by kernel_rfl)), Or.inr (Or.inl (by kernel_rfl)), Or.inr (Or.inl (by kernel_rfl)), trivial⟩, ⟨Or.inr (Or.inr (Or.inr (fun _ _ _ _ _ _ h => h))), Or.inr (Or.inr (Or.inr (fun u v wa wb hap hr h => by exact Tk.step h (fun _ h => h) hr.2.1))), Or.inr (Or.inr (Or.inr (fun u v wa wb hap hr h => by exact Tk.step h (fun _ h => h) hr.2.1))), Or.inr (Or.inr (Or.inr (fun _ _ _ _ _ _ h => h))), Or.inr (Or.inr (Or.inr (fun _ _ _ _ _ _ h => h))), Or.inr (Or.inr (Or.inr (fun u v wa wb hap hr h => by exact Tk.step h (fun _ h => h) hr.2.1))), Or.inr (Or.inr (Or.inr (fun _ _ _ _ _ _ h => h))), Or.inr (Or.inr (Or.inr (fun _ _ _ _ _ _ h => h))), Or.inr (Or.inr (Or.inr (fun u v wa wb hap hr h => by exact Tk.step h (fun _ h => h) hr.2.1))), Or.inr (Or.inr (Or.inr (fun _ _ _ _ _ _ h => h))), Or.inr (Or.inr (Or.inr (fun u v wa wb hap hr h => by exact Tk.step h (fun _ h => h) hr.2.1))), Or.inr (Or.inr (Or.inr (fun _ _ _ _ _ _ h => h))), Or.inr (Or.inr (Or.inr (fun _ _ _ _ _ _ h => h))), Or.inr (Or.inr (Or.inr (fun u v wa wb hap hr h => by exact Tk.step h (fun _ h => h) hr.2.1))), Or.inr (Or.inr (Or.inr (fun _ _ _ _ _ _ h => h))), Or.inr (Or.inr (Or.inr (fun _ _ _ _ _ _ h => h))), Or.inr (Or.inr (Or.inr (fun _ _ _ _ _ _ h => h))), Or.inr (Or.inr (Or.inr (fun u v wa wb hap hr h => by exact Tk.step h (fun _ h => ⟨h.1.grown hr.1 HQX.out, h.2⟩) hr.2.1))), Or.inr (Or.inr (Or.inr (fun _ _ _ _ _ _ h => h))), Or.inr (Or.inr (Or.inr (fun _ _ _ _ _ _ h => h))), Or.inr (Or.inr (Or.inr (fun _ _ _ _ _ _ h => h))), Or.inl rfl, Or.inr (Or.inl (by kernel_rfl)), Or.inr (Or.inl (by kernel_rfl)), trivial⟩, ⟨Or.inr (Or.inr (Or.inr (fun _ _ _ _ _ _ h => h))), Or.inr (Or.inr (Or.inl (by kernel_rfl))), Or.inr (Or.inr (Or.inl (by kernel_rfl))), Or.inr (Or.inr (Or.inr (fun _ _ _ _ _ _ h => h))), Or.inr (Or.inr (Or.inr (fun _ _ _ _ _ _ h => h))), Or.inr (Or.inr (Or.inl (by kernel_rfl))), Or.inr (Or.inr (Or.inr (fun _ _ _ _ _ _ h => h))), Or.inr (Or.inr (Or.inr (fun _ _ _ _ _ _ h => h))), Or.inr (Or.inr (Or.inl (by kernel_rfl))), Or.inr (Or.inr (Or.inr (fun _ _ _ _ _ _ h => h))), Or.inr (Or.inr (Or.inl (by kernel_rfl))), Or.inr (Or.inr (Or.inr (fun _ _ _ _ _ _ h => h))), Or.inr (Or.inr (Or.inr (fun _ _ _ _ _ _ h => h))), Or.inr (Or.inr (Or.inl (by kernel_rfl))), Or.inr (Or.inr (Or.inr (fun _ _ _ _ _ _ h => h))), Or.inr (Or.inr (Or.inr (fun _ _ _ _ _ _ h => h))), Or.inr (Or.inr (Or.inr (fun _ _ _ _ _ _ h => h))), Or.inr (Or.inr (Or.inl (by kernel_rfl))), Or.inr (Or.inr (Or.inr (fun _ _ _ _ _ _ h => h))), Or.inr (Or.inr (Or.inr (fun _ _ _ _ _ _ h => h))), Or.inr (Or.inr (Or.inr (fun _ _ _ _ _ _ h => h))), Or.inr (Or.inr (Or.inl (by kernel_rfl))), Or.inr (Or.inr (Or.inl (by kernel_rfl))), Or.inl rfl, trivial⟩, trivial⟩
 ·refine ⟨?_, ?_, ?_, ?_, ?_, ?_, ?_, ?_, ?_, ?_, ?_, ?_, ?_, ?_, ?_, ?_, ?_, ?_, ?_, ?_, ?_, ?_, ?_, ?_, trivial⟩
  ·intro ev w hc hf hg hfix hdep hchg hinv
   have e1 : ev (.tmp 1) = _ := hfix 1 (by decide)
   have d0 := HBX.out w (Chg.mono (RegH.undrewC (hchg [] (by kernel_rfl))) (fun k _ h => by rcases h with h <;> first | exact h.elim | exact h))
   exact Or.inl ⟨trivial, Or.inl ⟨_, w, by go_simp, rfl, Chg.refl _ _⟩⟩
  ·intro ev w hc hf hg hfix hdep hchg hinv
   have e3 : ev (.tmp 3) = _ := hdep 0 (by decide)
   refine Or.inl ⟨trivial, Or.inr (Or.inl ⟨38, #[.agg #[.pointer (some ⟨q, 0, none⟩)], .int .u64 255], w, by go_simp, ?_⟩)⟩
   obtain ⟨er0, hrd, he0, hsz⟩ := hinv 0 rfl
   rw [HE0.out] at hrd
   refine (supTo_x q k 255 (by have := HK.out; omega) (by decide) _ z er0 w hrd).mono ?_
   rintro e w9 ⟨v9, er9, rfl, hv9, hr9, hg9⟩
   exact ⟨_, rfl, ⟨v9, ⟨rfl, by have := le_of_x hv9; have := HK.out; omega⟩, or_bad hr9 (fun h => (num_and hv9 h).1)⟩, RX.mk' hrd he0 hsz HE1.out (num_and hv9) hr9 hg9⟩
  ·intro ev w hc hf hg hfix hdep hchg hinv
   have e4 := hdep 1 (by decide)
   obtain ⟨m, ⟨hm1, hm2⟩, hm3⟩ := e4
   have e4 : ev (.tmp 4) = .int .u64 (m : Int) := hm1
   have hw : IntKind.u8.wrap (m : Int) = (m : Int) := by simp [IntKind.wrap, IntKind.bits, IntKind.signed]; omega
   exact Or.inl ⟨trivial, Or.inl ⟨.int .u8 (m : Int), w, by go_simp, ⟨m, ⟨rfl, by omega⟩, hm3⟩, Chg.refl _ _⟩⟩
  ·intro ev w hc hf hg hfix hdep hchg hinv
   have e1 : ev (.tmp 1) = _ := hfix 1 (by decide)
   exact Or.inl ⟨trivial, Or.inl ⟨_, w, by go_simp, rfl, Chg.refl _ _⟩⟩
  ·intro ev w hc hf hg hfix hdep hchg hinv
   have e6 : ev (.tmp 6) = _ := hdep 3 (by decide)
   have d0 := HBX.out w (Chg.mono (RegH.undrewC (hchg [1] (by kernel_rfl))) (fun k _ h => by rcases h with h | h <;> first | exact h.elim | exact h))
   exact Or.inl ⟨trivial, Or.inl ⟨_, w, by go_simp, rfl, Chg.refl _ _⟩⟩
  ·intro ev w hc hf hg hfix hdep hchg hinv
   have e7 : ev (.tmp 7) = _ := hdep 4 (by decide)
   refine Or.inl ⟨trivial, Or.inr (Or.inl ⟨39, #[.pointer (some ⟨q, 0, none⟩)], w, by go_simp, ?_⟩)⟩
   obtain ⟨er0, hrd, he0, hsz⟩ := hinv 1 rfl
   rw [HE1.out] at hrd
   refine (Int_x n HN.out.1 HN.out.2 hrd).mono ?_
   rintro e w9 ⟨v9, er9, rfl, hv9, hr9, hg9⟩
   exact ⟨_, rfl, ⟨v9, ⟨rfl, int_in hv9 HN.out⟩, or_bad hr9 (fun h => (int_and hv9 h).1)⟩, RX.mk' hrd he0 hsz HE2.out (int_and hv9) hr9 hg9⟩
  ·intro ev w hc hf hg hfix hdep hchg hinv
   have e1 : ev (.tmp 1) = _ := hfix 1 (by decide)
   exact Or.inl ⟨trivial, Or.inl ⟨_, w, by go_simp, rfl, Chg.refl _ _⟩⟩
  ·intro ev w hc hf hg hfix hdep hchg hinv
   have e9 : ev (.tmp 9) = _ := hdep 6 (by decide)
   have d0 := HBX.out w (Chg.mono (RegH.undrewC (hchg [1, 5] (by kernel_rfl))) (fun k _ h => by rcases h with h | h | h <;> first | exact h.elim | exact h))
   exact Or.inl ⟨trivial, Or.inl ⟨_, w, by go_simp, rfl, Chg.refl _ _⟩⟩
  ·intro ev w hc hf hg hfix hdep hchg hinv
   have e10 : ev (.tmp 10) = _ := hdep 7 (by decide)
   refine Or.inl ⟨trivial, Or.inr (Or.inl ⟨35, #[.pointer (some ⟨q, 0, none⟩)], w, by go_simp, ?_⟩)⟩
   obtain ⟨er0, hrd, he0, hsz⟩ := hinv 2 rfl
   rw [HE2.out] at hrd
   refine (Num_x t HT.out hrd).mono ?_
   rintro e w9 ⟨v9, er9, rfl, hv9, hr9, hg9⟩
   exact ⟨_, rfl, ⟨v9, ⟨rfl, by have := le_of_x hv9; have := HT.out; omega⟩, or_bad hr9 (fun h => (num_and hv9 h).1)⟩, RX.mk' hrd he0 hsz HE3.out (num_and hv9) hr9 hg9⟩
  ·intro ev w hc hf hg hfix hdep hchg hinv
   have e1 : ev (.tmp 1) = _ := hfix 1 (by decide)
   have d0 := HBX.out w (Chg.mono (RegH.undrewC (hchg [1, 5, 8] (by kernel_rfl))) (fun k _ h => by rcases h with h | h | h | h <;> first | exact h.elim | exact h))
   exact Or.inl ⟨trivial, Or.inl ⟨_, w, by go_simp, rfl, Chg.refl _ _⟩⟩
  ·intro ev w hc hf hg hfix hdep hchg hinv
   have e12 : ev (.tmp 12) = _ := hdep 9 (by decide)
   refine Or.inl ⟨trivial, Or.inr (Or.inl ⟨40, #[.agg #[.pointer (some ⟨q, 0, none⟩)]], w, by go_simp, ?_⟩)⟩
   obtain ⟨er0, hrd, he0, hsz⟩ := hinv 3 rfl
   rw [HE3.out] at hrd
   refine (sdot_x q d HD.out _ z er0 w hrd).mono ?_
   rintro e w9 ⟨d9, er9, rfl, hok9, hv9, hr9, hg9⟩
   exact ⟨_, rfl, ⟨d9, ⟨rfl, hok9⟩, or_bad hr9 (fun h => (hv9 h).1)⟩, RX.mk' hrd he0 hsz HE4.out hv9 hr9 hg9⟩
  ·intro ev w hc hf hg hfix hdep hchg hinv
   have e1 : ev (.tmp 1) = _ := hfix 1 (by decide)
   exact Or.inl ⟨trivial, Or.inl ⟨_, w, by go_simp, rfl, Chg.refl _ _⟩⟩
  ·intro ev w hc hf hg hfix hdep hchg hinv
   have e14 : ev (.tmp 14) = _ := hdep 11 (by decide)
   have d0 := HBX.out w (Chg.mono (RegH.undrewC (hchg [1, 5, 8, 10] (by kernel_rfl))) (fun k _ h => by rcases h with h | h | h | h | h <;> first | exact h.elim | exact h))
   exact Or.inl ⟨trivial, Or.inl ⟨_, w, by go_simp, rfl, Chg.refl _ _⟩⟩
  ·intro ev w hc hf hg hfix hdep hchg hinv
   have e15 : ev (.tmp 15) = _ := hdep 12 (by decide)
   refine Or.inl ⟨trivial, Or.inr (Or.inl ⟨29, #[.pointer (some ⟨q, 0, none⟩), .int .i64 40], w, by go_simp, ?_⟩)⟩
   obtain ⟨er0, hrd, he0, hsz⟩ := hinv 4 rfl
   rw [HE4.out] at hrd
   refine (Text_x u 40 (by have := H40.out; omega) (by omega) hrd).mono ?_
   rintro e w9 ⟨u9, er9, rfl, hv9, hr9, hg9⟩
   exact ⟨_, rfl, ⟨u9, ⟨rfl, txt_le hv9 H40.out⟩, or_bad hr9 (fun h => (txt_and hv9 h).1)⟩, RX.mk' hrd he0 hsz HE5.out (txt_and hv9) hr9 hg9⟩
  ·intro ev w hc hf hg hfix hdep hchg hinv
   have e1 : ev (.tmp 1) = _ := hfix 1 (by decide)
   have d0 := HBX.out w (Chg.mono (RegH.undrewC (hchg [1, 5, 8, 10, 13] (by kernel_rfl))) (fun k _ h => by rcases h with h | h | h | h | h | h <;> first | exact h.elim | exact h))
   exact Or.inl ⟨trivial, Or.inl ⟨_, w, by go_simp, rfl, Chg.refl _ _⟩⟩
  ·intro ev w hc hf hg hfix hdep hchg hinv
   have e1 : ev (.tmp 1) = _ := hfix 1 (by decide)
   have d0 := HBX.out w (Chg.mono (RegH.undrewC (hchg [1, 5, 8, 10, 13] (by kernel_rfl))) (fun k _ h => by rcases h with h | h | h | h | h | h <;> first | exact h.elim | exact h))
   exact Or.inl ⟨trivial, Or.inl ⟨_, w, by go_simp, rfl, Chg.refl _ _⟩⟩
  ·intro ev w hc hf hg hfix hdep hchg hinv
   have e18 : ev (.tmp 18) = _ := hdep 15 (by decide)
   exact Or.inl ⟨trivial, Or.inl ⟨_, w, by go_simp, rfl, Chg.refl _ _⟩⟩
  ·intro ev w hc hf hg hfix hdep hchg hinv
   have e17 : ev (.tmp 17) = _ := hdep 14 (by decide)
   have e19 : ev (.tmp 19) = _ := hdep 16 (by decide)
   refine Or.inl ⟨trivial, Or.inr (Or.inl ⟨41, #[.agg #[.pointer (some ⟨q, 0, none⟩)], .func (.func 42) #[tkV q] #[]], w, by go_simp, ?_⟩)⟩
   obtain ⟨er0, hrd, he0, hsz⟩ := hinv 5 rfl
   rw [HE5.out] at hrd
   refine (slistI_x q lx (by have := HLx.out; omega) HOx.out _ z er0 w (by rw [List.append_assoc] at hrd; exact hrd)).mono ?_
   rintro e w9 ⟨v9, l9, er9, rfl, hrel9, hle9, hv9, hr9, hg9⟩
   exact ⟨_, rfl, ⟨l9, ⟨hrel9.base hsz, by have := HLx.out; omega⟩, or_bad hr9 (fun h => (hv9 h).1)⟩, RX.mk' hrd he0 hsz HE6.out hv9 hr9 hg9⟩
  ·intro ev w hc hf hg hfix hdep hchg hinv
   have e1 : ev (.tmp 1) = _ := hfix 1 (by decide)
   have d0 := HBX.out w (Chg.mono (RegH.undrewC (hchg [1, 5, 8, 10, 13, 17] (by kernel_rfl))) (fun k _ h => by rcases h with h | h | h | h | h | h | h <;> first | exact h.elim | exact h))
   exact Or.inl ⟨trivial, Or.inl ⟨_, w, by go_simp, rfl, Chg.refl _ _⟩⟩
  ·intro ev w hc hf hg hfix hdep hchg hinv
   have e1 : ev (.tmp 1) = _ := hfix 1 (by decide)
   have d0 := HBX.out w (Chg.mono (RegH.undrewC (hchg [1, 5, 8, 10, 13, 17] (by kernel_rfl))) (fun k _ h => by rcases h with h | h | h | h | h | h | h <;> first | exact h.elim | exact h))
   exact Or.inl ⟨trivial, Or.inl ⟨_, w, by go_simp, rfl, Chg.refl _ _⟩⟩
  ·intro ev w hc hf hg hfix hdep hchg hinv
   have e22 : ev (.tmp 22) = _ := hdep 19 (by decide)
   exact Or.inl ⟨trivial, Or.inl ⟨_, w, by go_simp, rfl, Chg.refl _ _⟩⟩
  ·intro ev w hc hf hg hfix hdep hchg hinv
   have e21 : ev (.tmp 21) = _ := hdep 18 (by decide)
   have e23 : ev (.tmp 23) = _ := hdep 20 (by decide)
   refine Or.inl ⟨trivial, Or.inr (Or.inl ⟨43, #[.agg #[.pointer (some ⟨q, 0, none⟩)], .func (.func 40) #[tkV q] #[]], w, by go_simp, ?_⟩)⟩
   obtain ⟨er0, hrd, he0, hsz⟩ := hinv 6 rfl
   rw [HE6.out] at hrd
   refine (slistD_x q ly (by have := HLy.out; omega) HOy.out _ z er0 w (by rw [List.append_assoc] at hrd; exact hrd)).mono ?_
   rintro e w9 ⟨v9, l9, er9, rfl, hrel9, hle9, hv9, hr9, hg9⟩
   exact ⟨_, rfl, ⟨l9, ⟨hrel9.base hsz, by have := HLy.out; omega⟩, or_bad hr9 (fun h => (hv9 h).1)⟩, RX.mk' hrd he0 hsz HE7.out hv9 hr9 hg9⟩
  ·intro ev w hc hf hg hfix hdep hchg hinv
   have e5 := hdep 2 (by decide)
   have e8 := hdep 5 (by decide)
   have e11 := hdep 8 (by decide)
   have e13 := hdep 10 (by decide)
   have e16 := hdep 13 (by decide)
   have e20 := hdep 17 (by decide)
   have e24 := hdep 21 (by decide)
   obtain ⟨k1, ⟨f5, b5⟩, c5⟩ := e5
   obtain ⟨n1, ⟨f8, b8⟩, c8⟩ := e8
   obtain ⟨t1, ⟨f11, b11⟩, c11⟩ := e11
   obtain ⟨⟨⟨r1, i1⟩, s1⟩, ⟨f13, b13⟩, c13⟩ := e13
   obtain ⟨u1, ⟨f16, b16⟩, c16⟩ := e16
   obtain ⟨li, ⟨⟨ia, ic, f20, o20⟩, b20⟩, c20⟩ := e20
   obtain ⟨ld, ⟨⟨da, dc, f24, o24⟩, b24⟩, c24⟩ := e24
   obtain ⟨il, hil⟩ : ∃ m, li.length = m := ⟨_, rfl⟩
   obtain ⟨dl, hdl⟩ : ∃ m, ld.length = m := ⟨_, rfl⟩
   rw [hil] at f20
   rw [hdl] at f24
   have e5 : ev (.tmp 5) = .int .u8 (k1 : Int) := f5
   have e8 : ev (.tmp 8) = .int .i64 n1 := f8
   have e11 : ev (.tmp 11) = .int .u64 (t1 : Int) := f11
   have e13 : ev (.tmp 13) = dotV ((r1, i1), s1) := f13
   have e16 : ev (.tmp 16) = .string u1 := f16
   have e20 : ev (.tmp 20) = .slice ia il ic := f20
   have e24 : ev (.tmp 24) = .slice da dl dc := f24
   have hcs := or2 c5 (or2 c8 (or2 c11 (or2 c13 (or2 c16 (or2 c20 c24)))))
   exact Or.inl ⟨trivial, Or.inl ⟨leafV k1 n1 t1 r1 i1 s1 u1 ia il ic da dl dc, w, by go_simp, ⟨k1, n1, t1, r1, i1, s1, u1, ia, il, ic, da, dl, dc, li, ld, rfl, hil, hdl, ⟨b5, b8, b11, b13, Nat.le_trans b16 (by decide), b20, b24⟩, o20.and o24, hcs.imp (fun ⟨g1, g2, g3, g4, g5, g6, g7⟩ => by rw [g1, g2, g3, g4, g5, g6, g7]) id⟩, Chg.refl _ _⟩⟩
  ·intro ev w hc hf hg hfix hdep hchg hinv
   have e2 : ev (.tmp 2) = _ := hfix 2 (by decide)
   have e25 := hdep 22 (by decide)
   obtain ⟨k1, n1, t1, r1, i1, s1, u1, ia, il, ic, da, dl, dc, li, ld, f, h1, h2, h3, h4, h5⟩ := e25
   have e25 : ev (.tmp 25) = leafV k1 n1 t1 r1 i1 s1 u1 ia il ic da dl dc := f
   have hbk := HRB.out w (Chg.mono (RegH.undrewC (hchg [1, 5, 8, 10, 13, 17, 21] (by kernel_rfl))) (fun k _ h => by rcases h with h | h | h | h | h | h | h | h <;> first | exact h.elim | exact h))
   have d0 := hbk.cell 0; have d1 := hbk.cell 1; have d2 := hbk.cell 2; have d3 := hbk.cell 3; have d4 := hbk.cell 4; have d5 := hbk.cell 5; have d6 := hbk.cell 6; have d7 := hbk.cell 7; have d8 := hbk.cell 8
   have y0 := hbk.frozen 0; have y1 := hbk.frozen 1; have y2 := hbk.frozen 2; have y3 := hbk.frozen 3; have y4 := hbk.frozen 4; have y5 := hbk.frozen 5; have y6 := hbk.frozen 6; have y7 := hbk.frozen 7; have y8 := hbk.frozen 8
   simp only [List.getElem?_cons_succ, List.getElem?_cons_zero] at d0 d1 d2 d3 d4 d5 d6 d7 d8
   have hg9 := grown_set9 w rb (.int .u8 (k1 : Int)) (.int .i64 n1) (.int .u64 (t1 : Int)) (.int .u8 (r1 : Int)) (.int .u32 (i1 : Int)) (.int .u64 (s1 : Int)) (.string u1) (.slice ia il ic) (.slice da dl dc)
   exact Or.inl ⟨trivial, Or.inr (Or.inr ⟨(((((((((w.setCell ⟨rb, 0, none⟩ (.int .u8 (k1 : Int))).setCell ⟨rb, 1, none⟩ (.int .i64 n1)).setCell ⟨rb, 2, none⟩ (.int .u64 (t1 : Int))).setCell ⟨rb, 3, none⟩ (.int .u8 (r1 : Int))).setCell ⟨rb, 4, none⟩ (.int .u32 (i1 : Int))).setCell ⟨rb, 5, none⟩ (.int .u64 (s1 : Int))).setCell ⟨rb, 6, none⟩ (.string u1)).setCell ⟨rb, 7, none⟩ (.slice ia il ic)).setCell ⟨rb, 8, none⟩ (.slice da dl dc)), by go_simp, ⟨k1, n1, t1, r1, i1, s1, u1, ia, il, ic, da, dl, dc, li, ld, (((((((((hbk.set 0 _).set 1 _).set 2 _).set 3 _).set 4 _).set 5 _).set 6 _).set 7 _).set 8 _), h1, h2, h3, h4.grown hg9 HRX.out, h5.imp id (fun h => h.grown hg9 (fun k e => by cases e; exact HQR.out))⟩, hg9⟩)⟩
 ·intro v w2 hv hlk hap hb2 hJ2
  have r23 := hv 23 (by decide) (by decide)
  simp only [Reg.putAll, Act.put, List.setIfInBounds_toArray, List.set_cons_zero, List.set_cons_succ]
  clear hv hlk hap
  obtain ⟨k1, n1, t1, r1, i1, s1, u1, ia, il, ic, da, dl, dc, li, ld, hbk, hl1, hl2, hok, hown, hc⟩ := r23
  obtain ⟨er2, hrd2, he2, hsz2⟩ := hJ2
  have hch : Chg (fun k => k = q ∨ k = rb) XX w2 := Chg.mono hb2 (fun k _ h => by rcases h with h | h | h | h | h | h | h | h | h <;> first | exact h.elim | exact Or.inl h | exact Or.inr h)
  have hrd3 : RdX w2 q R z er2 := by rw [← HE7.out]; exact hrd2
  have HG := Lib.hid (grown_chg HXG.out hch HWR.out); have HR := Lib.hid hrd3; have HE2 := Lib.hid he2
  have HC := Lib.hid (show er2 = 0 → _ from fun h0 => hc.resolve_right (by subst h0; exact not_bad hrd3))
  have d0 := hbk.cell 0; have d1 := hbk.cell 1; have d2 := hbk.cell 2; have d3 := hbk.cell 3; have d4 := hbk.cell 4; have d5 := hbk.cell 5; have d6 := hbk.cell 6; have d7 := hbk.cell 7; have d8 := hbk.cell 8
  simp only [List.getElem?_cons_succ, List.getElem?_cons_zero] at d0 d1 d2 d3 d4 d5 d6 d7 d8
  have HBk := Lib.hid hbk
  clear hb2 hrd2 hsz2 hch hrd3 he2 hc hbk
  go_wp2_with fail
  refine bodyPost_ret (v := leafV k1 n1 t1 r1 i1 s1 u1 ia il ic da dl dc) (by simp [results, Try.results31, go_sem, d0, d1, d2, d3, d4, d5, d6, d7, d8]) rfl ⟨k1, n1, t1, r1, i1, s1, u1, ia, il, ic, da, dl, dc, li, ld, er2, rfl, hl1, hl2, hok, hown.base HWX.out, fun h0 => ⟨HC.out h0, HE2.out h0⟩, HR.out, HG.out⟩
end Go.Proofs.Ytplafpchgfjomaa
