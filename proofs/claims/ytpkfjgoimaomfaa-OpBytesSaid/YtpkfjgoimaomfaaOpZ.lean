import Derived.Test.YtpkfjgoimaomfaaEnc1
import Derived.Test.YtpkfjgoimaomfaaCode13
import Derived.Test.YtpkfjgoimaomfaaOp11
import Derived.Test.YtpkfjgoimaomfaaList
import Derived.Test.YtpkfjgoimaomfaaCode11
import Derived.Test.YtpkfjgoimaomfaaOp10
import Derived.Test.YtpkfjgoimaomfaaOp12
namespace Go.Proofs.Ytpkfjgoimaomfaa
open Go.RowKit Go.Buf
theorem num_lenO (n : Nat) : (Cd.num n).length ≤ 10 := (Cd.num_len n).2
theorem below_box3 (W : World) (c : Array Value) (t : TypeId) : Below W.heap.size W (W.alloc (.cells c t)) := (Below.refl _ _).alloc (Nat.le_refl _) _
theorem dotcells {W w1 : World} {c0 c1 c2 : Value} (hb : Below (W.alloc (.cells #[c0, c1, c2] 27)).heap.size (W.alloc (.cells #[c0, c1, c2] 27)) w1) :
    w1.cell? ⟨W.heap.size, 0, none⟩ = some c0 ∧ w1.cell? ⟨W.heap.size, 1, none⟩ = some c1 ∧ w1.cell? ⟨W.heap.size, 2, none⟩ = some c2 :=
  ⟨(hb.cell (p := ⟨W.heap.size, 0, none⟩) (by simp)).trans (by simp), (hb.cell (p := ⟨W.heap.size, 1, none⟩) (by simp)).trans (by simp), (hb.cell (p := ⟨W.heap.size, 2, none⟩) (by simp)).trans (by simp)⟩
/-- the buffer on its way: in w it is v, of bytes l, since W0, where it lay in row0; block g is another one -/
structure BTo (B : Nat) (W0 : World) (row0 : Option Nat) (g : Nat) (w : World) (v : Value) (l : List Nat) (row : Option Nat) : Prop where
  bb : BB B w v l row
  grown : W0.grownBy w row0
  new : New W0 row0 row
  ne : ∀ k, row = some k → k ≠ g
  lt : g < w.heap.size
theorem num_bto {B : Nat} {W0 : World} {row0 : Option Nat} {g : Nat} {w : World} {v : Value} {l : List Nat} {row : Option Nat} {x y z : Value} (h : BTo B W0 row0 g w v l row) (n : Nat) (hn : n < 18446744073709551616) (hsm : l.length + 10 ≤ 140737488355328)
    (h0 : w.cell? ⟨g, 0, none⟩ = some x ∧ w.cell? ⟨g, 1, none⟩ = some y ∧ w.cell? ⟨g, 2, none⟩ = some z) :
    Calls Try.prog 34 #[v, .int .u64 n] w fun e w' => ∃ v' row', e = .returned v' ∧ BTo B W0 row0 g w' v' (l ++ Cd.num n) row' ∧ (w'.cell? ⟨g, 0, none⟩ = some x ∧ w'.cell? ⟨g, 1, none⟩ = some y ∧ w'.cell? ⟨g, 2, none⟩ = some z) := by
  refine (num_any B v l row n w h.bb hn hsm).mono ?_
  rintro e w' ⟨v', row', rfl, hb, hg, hnw⟩
  have hne : some g ≠ row := fun e => h.ne g e.symm rfl
  refine ⟨v', row', rfl, ⟨hb, grown_trans h.grown hg h.new, h.new.trans hnw h.grown.size, ?_, Nat.lt_of_lt_of_le h.lt hg.size⟩, hg.cell h0.1 (by simpa using hne), hg.cell h0.2.1 (by simpa using hne), hg.cell h0.2.2 (by simpa using hne)⟩
  rcases hnw with rfl | ⟨k, rfl, hk⟩
  · exact h.ne
  · intro j hj; cases hj; have := h.lt; omega
set_option maxRecDepth 100000 in
set_option maxHeartbeats 1600000 in
theorem putDot_any (B : Nat) (v : Value) (l : List Nat) (row : Option Nat) (d : Dt.Dot) (W : World) (hd : Dt.okD d) (hb : BB B W v l row) (hsm : l.length + 40 ≤ 140737488355328) :
    Calls Try.prog 38 #[v, dotV d] W (RetBB B W row (l ++ dotE d)) := by
  obtain ⟨⟨r, i⟩, s⟩ := d
  obtain ⟨hr, hi, hs⟩ := hd
  simp only at hr hi hs
  have l1 := num_lenO r
  have l2 := num_lenO i
  have ht0 : BTo B W row W.heap.size (W.alloc (.cells #[.int .u8 (r : Int), .int .u32 (i : Int), .int .u64 (s : Int)] 27)).drew v l row :=
    ⟨(hb.alloc _).below (Below.refl _ _).drew, ⟨rfl, rfl, rfl, by simp, fun k hk _ => Below.heap_alloc W _ k hk⟩, New.refl _ _, fun k hk => by have := (hb.2.row_le k hk).2; omega, by simp⟩
  have Hsm := Lib.hid hsm; have Hs := Lib.hid hs; have T0 := Lib.hid ht0; have L1 := Lib.hid l1; have L2 := Lib.hid l2
  clear hb hsm hs ht0 l1 l2
  go_enter Try.func38, Try.ntmps38
  go_wp2
  have hw1 : IntKind.u64.wrap (r : Int) = (r : Int) := by simp [IntKind.wrap, IntKind.bits, IntKind.signed]; omega
  have hw2 : IntKind.u64.wrap (i : Int) = (i : Int) := by simp [IntKind.wrap, IntKind.bits, IntKind.signed]; omega
  go_region_held3 (fun w' : World => w'.cell? ⟨W.heap.size, 0, none⟩ = some (.int .u8 (r : Int)) ∧ w'.cell? ⟨W.heap.size, 1, none⟩ = some (.int .u32 (i : Int)) ∧ w'.cell? ⟨W.heap.size, 2, none⟩ = some (.int .u64 (s : Int)))
    (first
      | assumption
      | go_keep)
    (first
      | (go_at_call 34; (with_reducible refine (num_bto T2.out s Hs.out (by have := Hsm.out; have := L1.out; have := L2.out; simp; omega) (by assumption)).mono ?_); rintro e w3 ⟨v3, row3, rfl, hb3, hS⟩; have T3 := Lib.hid hb3; clear hb3)
      | (go_at_call 34; (with_reducible refine (num_bto T1.out i (by omega) (by have := Hsm.out; have := L1.out; simp; omega) (by assumption)).mono ?_); rintro e w2 ⟨v2, row2, rfl, hb2, hS⟩; have T2 := Lib.hid hb2; clear hb2)
      | (go_at_call 34; (with_reducible refine (num_bto T0.out r (by omega) (by have := Hsm.out; omega) (by assumption)).mono ?_); rintro e w1 ⟨v1, row1, rfl, hb1, hS⟩; have T1 := Lib.hid hb1; clear hb1))
  clear hw1 hw2
  go_wp2
  go_ret
  exact ⟨v3, row3, rfl, by have := T3.out.bb; unfold dotE; rw [← List.append_assoc, ← List.append_assoc]; exact this, T3.out.grown, T3.out.new⟩
set_option maxRecDepth 100000 in
set_option maxHeartbeats 1600000 in
theorem refputDot_any (a : Option Addr) (bn cap : Nat) (l : List Nat) (d : Dt.Dot) (W : World) (hd : Dt.okD d) (hr : Row W a cap l) (hl : l.length = bn) (hsm : bn ≤ 900000) :
    Calls Try.prog 42 #[.slice a bn cap, dotV d] W (RetBB W.heap.size W none (l ++ dotE d)) := by
  obtain ⟨⟨r, i⟩, s⟩ := d
  obtain ⟨h1, h2, h3⟩ := hd
  simp only at h1 h2 h3
  have l1 := num_lenO r
  have l2 := num_lenO i
  have HR := Lib.hid hr; have HL := Lib.hid hl; have H3 := Lib.hid h3; have L1 := Lib.hid l1; have L2 := Lib.hid l2
  have hb0 := below_box3 W #[.int .u8 (r : Int), .int .u32 (i : Int), .int .u64 (s : Int)] 27
  have HB0 := Lib.hid hb0
  clear hr hl h3 l1 l2 hb0
  have hw1 : IntKind.u64.wrap (r : Int) = (r : Int) := by simp [IntKind.wrap, IntKind.bits, IntKind.signed]; omega
  have hw2 : IntKind.u64.wrap (i : Int) = (i : Int) := by simp [IntKind.wrap, IntKind.bits, IntKind.signed]; omega
  go_enter Try.func42, Try.ntmps42
  go_wp2_with fail
  refine (refnum_any a bn cap l r _ (HR.out.below HB0.out) HL.out (by omega) (by omega)).mono ?_
  rintro e w1 hret
  obtain ⟨v1, row1, rfl, hb, hbel⟩ := hret.below
  obtain ⟨a1, n1, c1, rfl, hr1, hn1⟩ := hb.rowN
  obtain ⟨hc0, hc1, hc2⟩ := dotcells hbel
  have HB1 := Lib.hid hbel; have HR1 := Lib.hid hr1; have HN1 := Lib.hid hn1
  clear hret hb hbel hr1 hn1
  go_wp2_with fail
  refine (refnum_any a1 n1 c1 _ i _ HR1.out HN1.out (by omega) (by have := HL.out; have := L1.out; rw [← HN1.out, List.length_append]; omega)).mono ?_
  rintro e w2 hret
  obtain ⟨v2, row2, rfl, hb, hbel⟩ := hret.below
  obtain ⟨a2, n2, c2, rfl, hr2, hn2⟩ := hb.rowN
  have hbel2 := HB1.out.trans (hbel.mono HB1.out.size)
  obtain ⟨hc0, hc1, hc2⟩ := dotcells hbel2
  have HB2 := Lib.hid hbel2; have HR2 := Lib.hid hr2; have HN2 := Lib.hid hn2
  clear hret hb hbel hr2 hbel2 hn2
  go_wp2_with fail
  refine (refnum_any a2 n2 c2 _ s _ HR2.out HN2.out (by have := H3.out; omega) (by have := HL.out; have := L1.out; have := L2.out; rw [← HN2.out, List.length_append, List.length_append]; omega)).mono ?_
  rintro e w3 hret
  obtain ⟨v3, row3, rfl, hb, hbel⟩ := hret.below
  have HB3 := Lib.hid (HB0.out.trans ((HB2.out.trans (hbel.mono HB2.out.size)).mono HB0.out.size))
  have HE := Lib.hid (hb.base (B' := W.heap.size) (Nat.le_trans HB0.out.size HB2.out.size))
  clear hret hb hbel
  go_wp2_with fail
  go_ret
  refine ret_new (B := W.heap.size) (row' := row3) ?_ HB3.out (Nat.le_refl _)
  unfold dotE; rw [← List.append_assoc, ← List.append_assoc]; exact HE.out
end Go.Proofs.Ytpkfjgoimaomfaa
namespace Go.Proofs.Ytpkfjgoimaomfaa
open Go.RowKit Go.Buf
set_option linter.unusedSimpArgs false
set_option linter.unusedVariables false
def opE (o : Om.O) : List Nat := Cd.num o.kind ++ Cd.num o.path.length ++ o.path.flatMap txtE ++ Cd.num (Cd.uns o.n) ++ txtE o.text ++ Cd.num o.dots.length ++ o.dots.flatMap dotE
theorem putDot_pt {B : Nat} {X w : World} {v : Value} {l : List Nat} (h : PT B X w v l) (hB : B ≤ X.heap.size) (d : Dt.Dot) (hd : Dt.okD d) (hsm : l.length + 40 ≤ 140737488355328) :
    Calls Try.prog 38 #[v, dotV d] w fun e w' => ∃ v', e = .returned v' ∧ PT B X w' v' (l ++ dotE d) := by
  obtain ⟨⟨row, hb⟩, h⟩ := h
  exact (putDot_any B v l row d w hd hb hsm).mono fun e w' hr => PT.ret hb h hB hr
theorem PT.alloc {B : Nat} {X w : World} {v : Value} {l : List Nat} (h : PT B X w v l) (hB : B ≤ X.heap.size) (o : Obj) : PT B X (w.alloc o) v l := by
  obtain ⟨⟨row, hb⟩, h⟩ := h
  exact ⟨⟨row, hb.alloc o⟩, h.alloc (Nat.le_trans hB h.size) o⟩
theorem PT.drew {B : Nat} {X w : World} {v : Value} {l : List Nat} (h : PT B X w v l) : PT B X w.drew v l := by
  obtain ⟨⟨row, hb⟩, h⟩ := h
  exact ⟨⟨row, hb.below (Below.refl _ _).drew⟩, h.drew⟩
theorem clip_pt {B : Nat} {X w : World} {a : Option Addr} {n cap : Nat} {l : List Nat} (hr : Row w a cap l) (hl : l.length = n) (h : Below B X w) (hB : B ≤ X.heap.size) :
    Calls Try.prog 35 #[.slice a n cap] w fun e w' => ∃ v', e = .returned v' ∧ PT B X w' v' l := by
  have hle := hr.le
  have hcap := hr.cap
  rw [hl] at hle
  have hrow : Row w a n l := ⟨by omega, by omega, hr.byte, fun e => by have := hr.2.2.2.1 e; omega, hr.2.2.2.2⟩
  have HB := Lib.hid (BB.of_row (B := B) hrow hl (Nat.le_trans hB h.size)); have H := Lib.hid h
  clear hr hl h hrow
  go_enter Try.func35, Try.ntmps35
  cases a
  all_goals
    go_wp2_with fail
    go_ret
    exact ⟨_, rfl, ⟨none, HB.out⟩, H.out⟩
set_option maxRecDepth 100000 in
set_option maxHeartbeats 6400000 in
theorem put_any (a : Option Addr) (bn cap : Nat) (l : List Nat) (k : Nat) (hk : k < 256) (pa : Option Addr) (pl pc : Nat) (n : Int) (hn1 : -9223372036854775808 ≤ n) (hn2 : n ≤ 9223372036854775807) (t : ByteArray) (da : Option Addr) (dl dc : Nat) (p : List ByteArray) (d : List Dt.Dot) (W : World) (hrow : Row W a cap l) (hl : l.length = bn) (hbn : bn ≤ 100000) (hp : SRow W pa pc p) (hpl : p.length = pl) (hr : VRow W da dc d) (hdl : d.length = dl) (hsm : Om.small ⟨k, p, n, t, d⟩) :
    Calls Try.prog 19 #[.slice a bn cap, opV k pa pl pc n t da dl dc] W (RetBB W.heap.size W none (l ++ opE ⟨k, p, n, t, d⟩)) := by
  obtain ⟨s1, s2, s3, s4⟩ := hsm
  simp only at s1 s2 s3 s4
  rw [hpl] at s2
  rw [hdl] at s4
  have hpc := hp.cap
  have hdc := hr.cap
  have hple := hp.le
  have hdle := hr.le
  rw [hpl] at hple
  rw [hdl] at hdle
  obtain ⟨A1, hA1⟩ : ∃ A, A = l ++ Cd.num k := ⟨_, rfl⟩
  obtain ⟨A2, hA2⟩ : ∃ A, A = A1 ++ Cd.num pl := ⟨_, rfl⟩
  obtain ⟨A3, hA3⟩ : ∃ A, A = A2 ++ p.flatMap txtE := ⟨_, rfl⟩
  obtain ⟨A4, hA4⟩ : ∃ A, A = A3 ++ Cd.num (Cd.uns n) := ⟨_, rfl⟩
  obtain ⟨A5, hA5⟩ : ∃ A, A = A4 ++ txtE t := ⟨_, rfl⟩
  obtain ⟨A6, hA6⟩ : ∃ A, A = A5 ++ Cd.num dl := ⟨_, rfl⟩
  have hfin : l ++ opE ⟨k, p, n, t, d⟩ = A6 ++ d.flatMap dotE := by
    rw [hA6, hA5, hA4, hA3, hA2, hA1]; simp only [opE, hpl, hdl, List.append_assoc]
  have htl : ∀ s ∈ p, (txtE s).length ≤ 110 := fun s hs => by have := txtE_length s; have := s1 s hs; omega
  have hdtl : ∀ x ∈ d, (dotE x).length ≤ 30 := fun x _ => dotE_length x
  have e1 : A1.length ≤ 100010 := by rw [hA1, List.length_append]; have := num_lenO k; omega
  have e2 : A2.length ≤ 100020 := by rw [hA2, List.length_append]; have := num_lenO pl; omega
  have e3 : A3.length ≤ 103000 := by
    rw [hA3, List.length_append, ← upE_all txtE (Nat.le_refl p.length)]
    have := upE_length htl p.length; omega
  have e4 : A4.length ≤ 103010 := by rw [hA4, List.length_append]; have := num_lenO (Cd.uns n); omega
  have e5 : A5.length ≤ 103300 := by rw [hA5, List.length_append]; have := txtE_length t; omega
  have e6 : A6.length ≤ 103310 := by rw [hA6, List.length_append]; have := num_lenO dl; omega
  have hb0 := below_box W #[.int .u8 (k : Int), .slice pa pl pc, .int .i64 n, .string t, .slice da dl dc] 31
  have HFin := Lib.hid hfin; have HTl := Lib.hid htl; have HDtl := Lib.hid hdtl; have HE1 := Lib.hid e1; have HE2 := Lib.hid e2; have HE3 := Lib.hid e3; have HE4 := Lib.hid e4; have HE5 := Lib.hid e5; have HE6 := Lib.hid e6
  have HA1 := Lib.hid hA1; have HA2 := Lib.hid hA2; have HA3 := Lib.hid hA3; have HA4 := Lib.hid hA4; have HA5 := Lib.hid hA5; have HA6 := Lib.hid hA6
  have HS1 := Lib.hid s1
  have HP := Lib.hid hp; have HPl := Lib.hid hpl; have HR := Lib.hid hr; have HDl := Lib.hid hdl; have HRow := Lib.hid hrow; have HL := Lib.hid hl; have HBox := Lib.hid hb0
  have HN1 := Lib.hid hn1; have HN2 := Lib.hid hn2
  clear hfin htl hdtl e1 e2 e3 e4 e5 e6 hA1 hA2 hA3 hA4 hA5 hA6 s1 hp hpl hr hdl hrow hl hb0 hn1 hn2
  have hw1 : IntKind.u64.wrap (k : Int) = (k : Int) := by simp [IntKind.wrap, IntKind.bits, IntKind.signed]; omega
  have hw2 : IntKind.u64.wrap (pl : Int) = (pl : Int) := by simp [IntKind.wrap, IntKind.bits, IntKind.signed]; omega
  have hw3 : IntKind.u64.wrap (dl : Int) = (dl : Int) := by simp [IntKind.wrap, IntKind.bits, IntKind.signed]; omega
  go_enter Try.func19, Try.ntmps19
  go_wp2_with fail
  have T0 := Lib.hid (show Row (W.alloc (.cells #[.int .u8 (k : Int), .slice pa pl pc, .int .i64 n, .string t, .slice da dl dc] 31)).drew a cap l ∧ Below (W.alloc (.cells #[.int .u8 (k : Int), .slice pa pl pc, .int .i64 n, .string t, .slice da dl dc] 31)).heap.size (W.alloc (.cells #[.int .u8 (k : Int), .slice pa pl pc, .int .i64 n, .string t, .slice da dl dc] 31)) (W.alloc (.cells #[.int .u8 (k : Int), .slice pa pl pc, .int .i64 n, .string t, .slice da dl dc] 31)).drew from ⟨(HRow.out.below HBox.out).below (Below.refl _ _).drew, (Below.refl _ _).drew⟩)
  go_region_held3 (fun w' : World => w'.cell? ⟨W.heap.size, 0, none⟩ = some (.int .u8 (k : Int)) ∧ w'.cell? ⟨W.heap.size, 1, none⟩ = some (.slice pa pl pc) ∧ w'.cell? ⟨W.heap.size, 2, none⟩ = some (.int .i64 n) ∧ w'.cell? ⟨W.heap.size, 3, none⟩ = some (.string t) ∧ w'.cell? ⟨W.heap.size, 4, none⟩ = some (.slice da dl dc))
    (first
      | assumption
      | go_keep)
    (first
      | (go_at_call 34; (with_reducible refine (num_pt T1.out (Nat.le_refl _) k (by omega) (by have := HL.out; omega)).mono ?_); rintro e w2 ⟨v2, rfl, hb2⟩; have hS := opcells hb2.below; have T2 := Lib.hid hb2; clear hb2)
      | (go_at_call 35; (with_reducible refine (clip_pt T0.out.1 HL.out T0.out.2 (Nat.le_refl _)).mono ?_); rintro e w1 ⟨v1, rfl, hb1⟩; have hS := opcells hb1.below; have T1 := Lib.hid hb1; clear hb1))
  have hb := T2.out
  rw [← HA1.out] at hb
  obtain ⟨hc0, hc1, hc2, hc3, hc4⟩ := opcells hb.below
  have U1 := Lib.hid hb; clear hb T2
  go_wp2_with fail
  refine (num_pt U1.out (Nat.le_refl _) pl (by omega) (by have := HE1.out; omega)).mono ?_
  rintro e w3 ⟨v3, rfl, T3⟩
  replace T3 := Lib.hid T3
  clear hc0 hc1 hc2 hc3 hc4
  have hb := T3.out
  rw [← HA2.out] at hb
  obtain ⟨hc0, hc1, hc2, hc3, hc4⟩ := opcells hb.below
  have U2 := Lib.hid hb; clear hb T3
  go_wp2_with fail
  go_loopw [0, 6, 24] (fun u _ i wr => ∃ j : Nat, j ≤ pl ∧ i = .int .i64 j ∧ PT (W.alloc (.cells #[.int .u8 (k : Int), .slice pa pl pc, .int .i64 n, .string t, .slice da dl dc] 31)).heap.size (W.alloc (.cells #[.int .u8 (k : Int), .slice pa pl pc, .int .i64 n, .string t, .slice da dl dc] 31)) wr u (A2 ++ upE txtE p j)) (fun _ _ i _ => pl - (intOf i).toNat)
  case atStart => exact ⟨0, Nat.zero_le _, rfl, by rw [upE_zero, List.append_nil]; exact U2.out⟩
  case round =>
    obtain ⟨j, hj, rfl, hpt⟩ := hrel
    clear hc0 hc1 hc2 hc3 hc4
    obtain ⟨hc0, hc1, hc2, hc3, hc4⟩ := opcells hpt.below
    have HPt := Lib.hid hpt; clear hpt
    by_cases hlt : j < pl
    · obtain ⟨s, hs⟩ := gets_some (l := p) (i := j) (by rw [HPl.out]; exact hlt)
      have hr1 := HP.out.below (HBox.out.trans (HPt.out.below.mono HBox.out.size))
      obtain ⟨b, off, rfl, hb, hc⟩ := hr1.at (by rw [HPl.out]; omega)
      have q := hc j s hs
      have HS := Lib.hid (upE_succ (f := txtE) hs)
      have HZ := Lib.hid (HS1.out s (List.mem_of_getElem? hs))
      clear hr1 hc hs
      have i0 : (0 : Int) ≤ (j : Int) := by omega
      have i1 : (j : Int) < (pl : Int) := by omega
      have HQ := Lib.hid (upE_length HTl.out j)
      go_wp2_with fail
      refine (text_pt HPt.out (Nat.le_refl _) s (by have := HZ.out; omega) (by have := HZ.out; have := HQ.out; have := HE2.out; rw [List.length_append]; omega)).mono ?_
      rintro e w4 ⟨v4, rfl, h4⟩
      rw [List.append_assoc, show Cd.num s.size ++ strL s = txtE s from rfl, ← HS.out] at h4
      have H4 := Lib.hid h4; clear h4
      go_wp2_with fail
      go_roundw
      case rel => exact ⟨j + 1, by omega, by go_num, H4.out⟩
      case measure => simp [intOf]; omega
    · have hfin := HPt.out
      rw [upE_all txtE (by rw [HPl.out]; omega), ← HA3.out] at hfin
      have U3 := Lib.hid hfin.drew
      clear hfin HPt U2
      go_wp2_with fail
      go_region_held3 (fun w' : World => w'.cell? ⟨W.heap.size, 0, none⟩ = some (.int .u8 (k : Int)) ∧ w'.cell? ⟨W.heap.size, 1, none⟩ = some (.slice pa pl pc) ∧ w'.cell? ⟨W.heap.size, 2, none⟩ = some (.int .i64 n) ∧ w'.cell? ⟨W.heap.size, 3, none⟩ = some (.string t) ∧ w'.cell? ⟨W.heap.size, 4, none⟩ = some (.slice da dl dc))
        (first
          | assumption
          | go_keep
          | exact ⟨hc0, hc1, hc2, hc3, hc4⟩)
        (first
          | (go_at_call 36; (with_reducible refine (text_pt T4.out (Nat.le_refl _) t (by omega) (by have := HE4.out; omega)).mono ?_); rintro e w5 ⟨v5, rfl, hb5⟩; have hS := opcells hb5.below; have T5 := Lib.hid hb5; clear hb5)
          | (go_at_call 37; (with_reducible refine (int_pt U3.out (Nat.le_refl _) n HN1.out HN2.out (by have := HE3.out; omega)).mono ?_); rintro e w4 ⟨v4, rfl, hb4⟩; rw [← HA4.out] at hb4; have hS := opcells hb4.below; have T4 := Lib.hid hb4; clear hb4))
      have hb := T5.out
      rw [show Cd.num t.size ++ strL t = txtE t from rfl, ← HA5.out] at hb
      obtain ⟨hc0, hc1, hc2, hc3, hc4⟩ := opcells hb.below
      have U5 := Lib.hid hb; clear hb T5
      go_wp2_with fail
      refine (num_pt U5.out (Nat.le_refl _) dl (by omega) (by have := HE5.out; omega)).mono ?_
      rintro e w6 ⟨v6, rfl, T6⟩
      replace T6 := Lib.hid T6
      clear hc0 hc1 hc2 hc3 hc4
      have hb := T6.out
      rw [← HA6.out] at hb
      obtain ⟨hc0, hc1, hc2, hc3, hc4⟩ := opcells hb.below
      have U6 := Lib.hid hb; clear hb T6
      go_wp2_with fail
      go_loopw [0, 8, 48] (fun u _ i wr => ∃ j : Nat, j ≤ dl ∧ i = .int .i64 j ∧ PT (W.alloc (.cells #[.int .u8 (k : Int), .slice pa pl pc, .int .i64 n, .string t, .slice da dl dc] 31)).heap.size (W.alloc (.cells #[.int .u8 (k : Int), .slice pa pl pc, .int .i64 n, .string t, .slice da dl dc] 31)) wr u (A6 ++ upE dotE d j)) (fun _ _ i _ => dl - (intOf i).toNat)
      case atStart => exact ⟨0, Nat.zero_le _, rfl, by rw [upE_zero, List.append_nil]; exact U6.out⟩
      case round =>
        obtain ⟨j2, hj2, rfl, hpt⟩ := hrel
        clear hc0 hc1 hc2 hc3 hc4
        obtain ⟨hc0, hc1, hc2, hc3, hc4⟩ := opcells hpt.below
        have HPt := Lib.hid hpt; clear hpt
        by_cases hlt2 : j2 < dl
        · obtain ⟨x, hx⟩ := getD_some (l := d) (i := j2) (by rw [HDl.out]; exact hlt2)
          have hokx := HR.out.ok x (List.mem_of_getElem? hx)
          have hr1 := HR.out.below (HBox.out.trans (HPt.out.below.mono HBox.out.size))
          obtain ⟨b, off, rfl, hb, hc⟩ := hr1.at (by rw [HDl.out]; omega)
          obtain ⟨q0, q1, q2⟩ := hc j2 x hx
          have HS := Lib.hid (upE_succ (f := dotE) hx); have HO := Lib.hid hokx
          clear hr1 hc hx hokx
          obtain ⟨⟨r, i⟩, s⟩ := x
          simp only at q0 q1 q2
          have i0 : (0 : Int) ≤ (j2 : Int) := by omega
          have i1 : (j2 : Int) < (dl : Int) := by omega
          have HQ := Lib.hid (upE_length HDtl.out j2)
          go_wp2_with fail
          refine (putDot_pt (HPt.out.alloc (Nat.le_refl _) _) (Nat.le_refl _) ((r, i), s) HO.out (by have := HQ.out; have := HE6.out; rw [List.length_append]; omega)).mono ?_
          rintro e w7 ⟨v7, rfl, h7⟩
          rw [List.append_assoc, ← HS.out] at h7
          have H7 := Lib.hid h7; clear h7
          go_wp2_with fail
          go_roundw
          case rel => exact ⟨j2 + 1, by omega, by go_num, H7.out⟩
          case measure => simp [intOf]; omega
        · have hfin := HPt.out
          rw [upE_all dotE (by rw [HDl.out]; omega), ← HFin.out] at hfin
          have U7 := Lib.hid hfin
          clear hfin HPt U6
          go_wp2_with fail
          go_ret
          obtain ⟨⟨row, hb⟩, hbl⟩ := U7.out
          exact ret_new (B := W.heap.size) (hb.base HBox.out.size) (HBox.out.trans (hbl.mono HBox.out.size)) (Nat.le_refl _)
end Go.Proofs.Ytpkfjgoimaomfaa
namespace Go.Proofs.Ytpkfjgoimaomfaa
open Go.RowKit Go.Buf
set_option linter.unusedSimpArgs false
set_option linter.unusedVariables false
theorem PT.fresh {B : Nat} {X w w' : World} {e : Ending} {l' : List Nat} (h : Below B X w) (hB : B ≤ X.heap.size) (hr : RetBB w.heap.size w none l' e w') : ∃ v', e = .returned v' ∧ PT B X w' v' l' := by
  obtain ⟨v, row, rfl, h1, h2⟩ := hr.below
  exact ⟨v, rfl, ⟨row, h1.base (Nat.le_trans hB h.size)⟩, h.trans (h2.mono (Nat.le_trans hB h.size))⟩
theorem refnum_pt {B : Nat} {X w : World} {v : Value} {l : List Nat} (h : PT B X w v l) (hB : B ≤ X.heap.size) (n : Nat) (hn : n < 18446744073709551616) (hsm : l.length ≤ 1000000) :
    Calls Try.prog 39 #[v, .int .u64 n] w fun e w' => ∃ v', e = .returned v' ∧ PT B X w' v' (l ++ Cd.num n) := by
  obtain ⟨⟨row, hb⟩, h⟩ := h
  obtain ⟨a, m, c, rfl, hr, hm⟩ := hb.rowN
  exact (refnum_any a m c l n w hr hm hn (by omega)).mono fun e w' hr => PT.fresh h hB hr
theorem refint_pt {B : Nat} {X w : World} {v : Value} {l : List Nat} (h : PT B X w v l) (hB : B ≤ X.heap.size) (m : Int) (h1 : -9223372036854775808 ≤ m) (h2 : m ≤ 9223372036854775807) (hsm : l.length ≤ 1000000) :
    Calls Try.prog 41 #[v, .int .i64 m] w fun e w' => ∃ v', e = .returned v' ∧ PT B X w' v' (l ++ Cd.num (Cd.uns m)) := by
  obtain ⟨⟨row, hb⟩, h⟩ := h
  obtain ⟨a, n, c, rfl, hr, hn⟩ := hb.rowN
  exact (refint_any a n c l m w hr hn h1 h2 (by omega)).mono fun e w' hr => PT.fresh h hB hr
theorem reftext_pt {B : Nat} {X w : World} {v : Value} {l : List Nat} (h : PT B X w v l) (hB : B ≤ X.heap.size) (s : ByteArray) (hs : s.size ≤ 1000000) (hsm : l.length ≤ 1000000) :
    Calls Try.prog 40 #[v, .string s] w fun e w' => ∃ v', e = .returned v' ∧ PT B X w' v' (l ++ txtE s) := by
  obtain ⟨⟨row, hb⟩, h⟩ := h
  obtain ⟨a, n, c, rfl, hr, hn⟩ := hb.rowN
  exact (reftext_any a n c l s w hr hn hs (by omega)).mono fun e w' hr => PT.fresh h hB hr
theorem refputDot_pt {B : Nat} {X w : World} {v : Value} {l : List Nat} (h : PT B X w v l) (hB : B ≤ X.heap.size) (d : Dt.Dot) (hd : Dt.okD d) (hsm : l.length ≤ 900000) :
    Calls Try.prog 42 #[v, dotV d] w fun e w' => ∃ v', e = .returned v' ∧ PT B X w' v' (l ++ dotE d) := by
  obtain ⟨⟨row, hb⟩, h⟩ := h
  obtain ⟨a, n, c, rfl, hr, hn⟩ := hb.rowN
  exact (refputDot_any a n c l d w hd hr hn (by omega)).mono fun e w' hr => PT.fresh h hB hr
set_option maxRecDepth 100000 in
set_option maxHeartbeats 6400000 in
theorem refput_any (a : Option Addr) (bn cap : Nat) (l : List Nat) (k : Nat) (hk : k < 256) (pa : Option Addr) (pl pc : Nat) (n : Int) (hn1 : -9223372036854775808 ≤ n) (hn2 : n ≤ 9223372036854775807) (t : ByteArray) (da : Option Addr) (dl dc : Nat) (p : List ByteArray) (d : List Dt.Dot) (W : World) (hrow : Row W a cap l) (hl : l.length = bn) (hbn : bn ≤ 100000) (hp : SRow W pa pc p) (hpl : p.length = pl) (hr : VRow W da dc d) (hdl : d.length = dl) (hsm : Om.small ⟨k, p, n, t, d⟩) :
    Calls Try.prog 20 #[.slice a bn cap, opV k pa pl pc n t da dl dc] W (RetBB W.heap.size W none (l ++ opE ⟨k, p, n, t, d⟩)) := by
  obtain ⟨s1, s2, s3, s4⟩ := hsm
  simp only at s1 s2 s3 s4
  rw [hpl] at s2
  rw [hdl] at s4
  have hpc := hp.cap
  have hdc := hr.cap
  have hple := hp.le
  have hdle := hr.le
  rw [hpl] at hple
  rw [hdl] at hdle
  obtain ⟨A1, hA1⟩ : ∃ A, A = l ++ Cd.num k := ⟨_, rfl⟩
  obtain ⟨A2, hA2⟩ : ∃ A, A = A1 ++ Cd.num pl := ⟨_, rfl⟩
  obtain ⟨A3, hA3⟩ : ∃ A, A = A2 ++ p.flatMap txtE := ⟨_, rfl⟩
  obtain ⟨A4, hA4⟩ : ∃ A, A = A3 ++ Cd.num (Cd.uns n) := ⟨_, rfl⟩
  obtain ⟨A5, hA5⟩ : ∃ A, A = A4 ++ txtE t := ⟨_, rfl⟩
  obtain ⟨A6, hA6⟩ : ∃ A, A = A5 ++ Cd.num dl := ⟨_, rfl⟩
  have hfin : l ++ opE ⟨k, p, n, t, d⟩ = A6 ++ d.flatMap dotE := by
    rw [hA6, hA5, hA4, hA3, hA2, hA1]; simp only [opE, hpl, hdl, List.append_assoc]
  have htl : ∀ s ∈ p, (txtE s).length ≤ 110 := fun s hs => by have := txtE_length s; have := s1 s hs; omega
  have hdtl : ∀ x ∈ d, (dotE x).length ≤ 30 := fun x _ => dotE_length x
  have e1 : A1.length ≤ 100010 := by rw [hA1, List.length_append]; have := num_lenO k; omega
  have e2 : A2.length ≤ 100020 := by rw [hA2, List.length_append]; have := num_lenO pl; omega
  have e3 : A3.length ≤ 103000 := by
    rw [hA3, List.length_append, ← upE_all txtE (Nat.le_refl p.length)]
    have := upE_length htl p.length; omega
  have e4 : A4.length ≤ 103010 := by rw [hA4, List.length_append]; have := num_lenO (Cd.uns n); omega
  have e5 : A5.length ≤ 103300 := by rw [hA5, List.length_append]; have := txtE_length t; omega
  have e6 : A6.length ≤ 103310 := by rw [hA6, List.length_append]; have := num_lenO dl; omega
  have hb0 := below_box W #[.int .u8 (k : Int), .slice pa pl pc, .int .i64 n, .string t, .slice da dl dc] 31
  have HFin := Lib.hid hfin; have HTl := Lib.hid htl; have HDtl := Lib.hid hdtl; have HE1 := Lib.hid e1; have HE2 := Lib.hid e2; have HE3 := Lib.hid e3; have HE4 := Lib.hid e4; have HE5 := Lib.hid e5; have HE6 := Lib.hid e6
  have HA1 := Lib.hid hA1; have HA2 := Lib.hid hA2; have HA3 := Lib.hid hA3; have HA4 := Lib.hid hA4; have HA5 := Lib.hid hA5; have HA6 := Lib.hid hA6
  have HS1 := Lib.hid s1
  have HP := Lib.hid hp; have HPl := Lib.hid hpl; have HR := Lib.hid hr; have HDl := Lib.hid hdl; have HRow := Lib.hid hrow; have HL := Lib.hid hl; have HBox := Lib.hid hb0
  have HN1 := Lib.hid hn1; have HN2 := Lib.hid hn2
  clear hfin htl hdtl e1 e2 e3 e4 e5 e6 hA1 hA2 hA3 hA4 hA5 hA6 s1 hp hpl hr hdl hrow hl hb0 hn1 hn2
  have hw1 : IntKind.u64.wrap (k : Int) = (k : Int) := by simp [IntKind.wrap, IntKind.bits, IntKind.signed]; omega
  have hw2 : IntKind.u64.wrap (pl : Int) = (pl : Int) := by simp [IntKind.wrap, IntKind.bits, IntKind.signed]; omega
  have hw3 : IntKind.u64.wrap (dl : Int) = (dl : Int) := by simp [IntKind.wrap, IntKind.bits, IntKind.signed]; omega
  go_enter Try.func20, Try.ntmps20
  go_wp2_with fail
  refine (refnum_any a bn cap l k _ (HRow.out.below HBox.out) HL.out (by omega) (by omega)).mono ?_
  intro e w1 hret
  obtain ⟨v1, rfl, T1⟩ := PT.fresh (B := (W.alloc (.cells #[.int .u8 (k : Int), .slice pa pl pc, .int .i64 n, .string t, .slice da dl dc] 31)).heap.size) (X := (W.alloc (.cells #[.int .u8 (k : Int), .slice pa pl pc, .int .i64 n, .string t, .slice da dl dc] 31))) (Below.refl _ _) (Nat.le_refl _) hret
  clear hret
  replace T1 := Lib.hid T1
  have hb := T1.out
  rw [← HA1.out] at hb
  obtain ⟨hc0, hc1, hc2, hc3, hc4⟩ := opcells hb.below
  have U1 := Lib.hid hb; clear hb T1
  go_wp2_with fail
  refine (refnum_pt U1.out (Nat.le_refl _) pl (by omega) (by have := HE1.out; omega)).mono ?_
  rintro e w2 ⟨v2, rfl, T2⟩
  replace T2 := Lib.hid T2
  clear hc0 hc1 hc2 hc3 hc4
  have hb := T2.out
  rw [← HA2.out] at hb
  obtain ⟨hc0, hc1, hc2, hc3, hc4⟩ := opcells hb.below
  have U2 := Lib.hid hb; clear hb T2
  go_wp2_with fail
  go_loopw [0, 5] (fun u i wr => ∃ j : Nat, j ≤ pl ∧ i = .int .i64 j ∧ PT (W.alloc (.cells #[.int .u8 (k : Int), .slice pa pl pc, .int .i64 n, .string t, .slice da dl dc] 31)).heap.size (W.alloc (.cells #[.int .u8 (k : Int), .slice pa pl pc, .int .i64 n, .string t, .slice da dl dc] 31)) wr u (A2 ++ upE txtE p j)) (fun _ i _ => pl - (intOf i).toNat)
  case atStart => exact ⟨0, Nat.zero_le _, rfl, by rw [upE_zero, List.append_nil]; exact U2.out⟩
  case round =>
    obtain ⟨j, hj, rfl, hpt⟩ := hrel
    clear hc0 hc1 hc2 hc3 hc4
    obtain ⟨hc0, hc1, hc2, hc3, hc4⟩ := opcells hpt.below
    have HPt := Lib.hid hpt; clear hpt
    by_cases hlt : j < pl
    · obtain ⟨s, hs⟩ := gets_some (l := p) (i := j) (by rw [HPl.out]; exact hlt)
      have hr1 := HP.out.below (HBox.out.trans (HPt.out.below.mono HBox.out.size))
      obtain ⟨b, off, rfl, hb, hc⟩ := hr1.at (by rw [HPl.out]; omega)
      have q := hc j s hs
      have HS := Lib.hid (upE_succ (f := txtE) hs)
      have HZ := Lib.hid (HS1.out s (List.mem_of_getElem? hs))
      clear hr1 hc hs
      have i0 : (0 : Int) ≤ (j : Int) := by omega
      have i1 : (j : Int) < (pl : Int) := by omega
      have HQ := Lib.hid (upE_length HTl.out j)
      go_wp2_with fail
      refine (reftext_pt HPt.out (Nat.le_refl _) s (by have := HZ.out; omega) (by have := HQ.out; have := HE2.out; rw [List.length_append]; omega)).mono ?_
      rintro e w4 ⟨v4, rfl, h4⟩
      rw [List.append_assoc, ← HS.out] at h4
      have H4 := Lib.hid h4; clear h4
      go_wp2_with fail
      go_roundw
      case rel => exact ⟨j + 1, by omega, by go_num, H4.out⟩
      case measure => simp [intOf]; omega
    · have hfin := HPt.out
      rw [upE_all txtE (by rw [HPl.out]; omega), ← HA3.out] at hfin
      have U3 := Lib.hid hfin
      clear hfin HPt U2
      go_wp2_with fail
      refine (refint_pt U3.out (Nat.le_refl _) n HN1.out HN2.out (by have := HE3.out; omega)).mono ?_
      rintro e w4 ⟨v4, rfl, T4⟩
      replace T4 := Lib.hid T4
      clear hc0 hc1 hc2 hc3 hc4
      have hb := T4.out
      rw [← HA4.out] at hb
      obtain ⟨hc0, hc1, hc2, hc3, hc4⟩ := opcells hb.below
      have U4 := Lib.hid hb; clear hb T4
      go_wp2_with fail
      refine (reftext_pt U4.out (Nat.le_refl _) t (by omega) (by have := HE4.out; omega)).mono ?_
      rintro e w5 ⟨v5, rfl, T5⟩
      replace T5 := Lib.hid T5
      clear hc0 hc1 hc2 hc3 hc4
      have hb := T5.out
      rw [← HA5.out] at hb
      obtain ⟨hc0, hc1, hc2, hc3, hc4⟩ := opcells hb.below
      have U5 := Lib.hid hb; clear hb T5
      go_wp2_with fail
      refine (refnum_pt U5.out (Nat.le_refl _) dl (by omega) (by have := HE5.out; omega)).mono ?_
      rintro e w6 ⟨v6, rfl, T6⟩
      replace T6 := Lib.hid T6
      clear hc0 hc1 hc2 hc3 hc4
      have hb := T6.out
      rw [← HA6.out] at hb
      obtain ⟨hc0, hc1, hc2, hc3, hc4⟩ := opcells hb.below
      have U6 := Lib.hid hb; clear hb T6
      go_wp2_with fail
      go_loopw [0, 6] (fun u i wr => ∃ j : Nat, j ≤ dl ∧ i = .int .i64 j ∧ PT (W.alloc (.cells #[.int .u8 (k : Int), .slice pa pl pc, .int .i64 n, .string t, .slice da dl dc] 31)).heap.size (W.alloc (.cells #[.int .u8 (k : Int), .slice pa pl pc, .int .i64 n, .string t, .slice da dl dc] 31)) wr u (A6 ++ upE dotE d j)) (fun _ i _ => dl - (intOf i).toNat)
      case atStart => exact ⟨0, Nat.zero_le _, rfl, by rw [upE_zero, List.append_nil]; exact U6.out⟩
      case round =>
        obtain ⟨j2, hj2, rfl, hpt⟩ := hrel
        clear hc0 hc1 hc2 hc3 hc4
        obtain ⟨hc0, hc1, hc2, hc3, hc4⟩ := opcells hpt.below
        have HPt := Lib.hid hpt; clear hpt
        by_cases hlt2 : j2 < dl
        · obtain ⟨x, hx⟩ := getD_some (l := d) (i := j2) (by rw [HDl.out]; exact hlt2)
          have hokx := HR.out.ok x (List.mem_of_getElem? hx)
          have hr1 := HR.out.below (HBox.out.trans (HPt.out.below.mono HBox.out.size))
          obtain ⟨b, off, rfl, hb, hc⟩ := hr1.at (by rw [HDl.out]; omega)
          obtain ⟨q0, q1, q2⟩ := hc j2 x hx
          have HS := Lib.hid (upE_succ (f := dotE) hx); have HO := Lib.hid hokx
          clear hr1 hc hx hokx
          obtain ⟨⟨r, i⟩, s⟩ := x
          simp only at q0 q1 q2
          have i0 : (0 : Int) ≤ (j2 : Int) := by omega
          have i1 : (j2 : Int) < (dl : Int) := by omega
          have HQ := Lib.hid (upE_length HDtl.out j2)
          go_wp2_with fail
          refine (refputDot_pt HPt.out (Nat.le_refl _) ((r, i), s) HO.out (by have := HQ.out; have := HE6.out; rw [List.length_append]; omega)).mono ?_
          rintro e w7 ⟨v7, rfl, h7⟩
          rw [List.append_assoc, ← HS.out] at h7
          have H7 := Lib.hid h7; clear h7
          go_wp2_with fail
          go_roundw
          case rel => exact ⟨j2 + 1, by omega, by go_num, H7.out⟩
          case measure => simp [intOf]; omega
        · have hfin := HPt.out
          rw [upE_all dotE (by rw [HDl.out]; omega), ← HFin.out] at hfin
          have U7 := Lib.hid hfin
          clear hfin HPt U6
          go_wp2_with fail
          go_ret
          obtain ⟨⟨row, hb⟩, hbl⟩ := U7.out
          exact ret_new (B := W.heap.size) (hb.base HBox.out.size) (HBox.out.trans (hbl.mono HBox.out.size)) (Nat.le_refl _)
end Go.Proofs.Ytpkfjgoimaomfaa
namespace Go.Proofs.Ytpkfjgoimaomfaa
open Go.RowKit Go.Buf
set_option linter.unusedSimpArgs false
set_option linter.unusedVariables false
def evE (e : Om.E) : List Nat := dotE e.dot ++ Cd.num e.time ++ opE e.op
theorem small_of_may {o : Om.O} (h : Om.may o = true) : Om.small o := by
  obtain ⟨k, p, n, t, d⟩ := o
  simp only [Om.may, Bool.and_eq_true, Om.mayPath, decide_eq_true_eq, Om.upTo_iff] at h
  obtain ⟨⟨⟨_, h2⟩, h3⟩, h4⟩ := h
  have hpth : ∀ s ∈ p, s.size ≤ 100 := by
    intro s hs
    obtain ⟨j, hj⟩ := List.getElem?_of_mem hs
    have hlt : j < p.length := (List.getElem?_eq_some_iff.1 hj).1
    have := h3 j hlt
    simp only [Om.pathAt, List.getD, hj, Option.getD_some, Om.isName, Bool.and_eq_true, decide_eq_true_eq] at this
    omega
  have hrest : t.size ≤ 200 ∧ d.length ≤ 100 := by
    unfold Om.asked at h4
    repeat' split at h4
    all_goals simp [Om.mayAdd, Om.mayText, Om.mayDrop, Om.mayDrops, -ByteArray.size_eq_zero_iff, -List.length_eq_zero_iff] at h4
    all_goals omega
  exact ⟨hpth, by simp only; omega, hrest⟩
theorem small_of_mayEvent {e : Om.E} (h : Om.mayEvent e = true) : Om.small e.op := by
  simp only [Om.mayEvent, Bool.and_eq_true] at h
  exact small_of_may h.2
theorem below_drew {B : Nat} {w w' : World} (h : Below B w w') : Below B w w'.drew := h.drew
theorem put_pt {X w : World} {v : Value} {l : List Nat} (h : PT X.heap.size X w v l) (hl : l.length ≤ 100000) (k : Nat) (hk : k < 256) (pa : Option Addr) (pl pc : Nat) (n : Int) (hn1 : -9223372036854775808 ≤ n) (hn2 : n ≤ 9223372036854775807) (t : ByteArray) (da : Option Addr) (dl dc : Nat) (p : List ByteArray) (d : List Dt.Dot) (hp : SRow X pa pc p) (hpl : p.length = pl) (hr : VRow X da dc d) (hdl : d.length = dl) (hsm : Om.small ⟨k, p, n, t, d⟩) :
    Calls Try.prog 19 #[v, opV k pa pl pc n t da dl dc] w fun e w' => ∃ v', e = .returned v' ∧ PT X.heap.size X w' v' (l ++ opE ⟨k, p, n, t, d⟩) := by
  obtain ⟨⟨row, hb⟩, h⟩ := h
  obtain ⟨a, m, c, rfl, hrow, hm⟩ := hb.rowN
  exact (put_any a m c l k hk pa pl pc n hn1 hn2 t da dl dc p d w hrow hm (by omega) (hp.below h) hpl (hr.below h) hdl hsm).mono fun e w' hr => PT.fresh h (Nat.le_refl _) hr
theorem refput_pt {X w : World} {v : Value} {l : List Nat} (h : PT X.heap.size X w v l) (hl : l.length ≤ 100000) (k : Nat) (hk : k < 256) (pa : Option Addr) (pl pc : Nat) (n : Int) (hn1 : -9223372036854775808 ≤ n) (hn2 : n ≤ 9223372036854775807) (t : ByteArray) (da : Option Addr) (dl dc : Nat) (p : List ByteArray) (d : List Dt.Dot) (hp : SRow X pa pc p) (hpl : p.length = pl) (hr : VRow X da dc d) (hdl : d.length = dl) (hsm : Om.small ⟨k, p, n, t, d⟩) :
    Calls Try.prog 20 #[v, opV k pa pl pc n t da dl dc] w fun e w' => ∃ v', e = .returned v' ∧ PT X.heap.size X w' v' (l ++ opE ⟨k, p, n, t, d⟩) := by
  obtain ⟨⟨row, hb⟩, h⟩ := h
  obtain ⟨a, m, c, rfl, hrow, hm⟩ := hb.rowN
  exact (refput_any a m c l k hk pa pl pc n hn1 hn2 t da dl dc p d w hrow hm (by omega) (hp.below h) hpl (hr.below h) hdl hsm).mono fun e w' hr => PT.fresh h (Nat.le_refl _) hr
set_option maxRecDepth 100000 in
set_option maxHeartbeats 1600000 in
theorem bytes_no (r i s tm k : Nat) (hd0 : Dt.okD ((r, i), s)) (htm : tm ≤ 18446744073709551615) (hk : k < 256) (pa : Option Addr) (pl pc : Nat) (n : Int) (hn1 : -9223372036854775808 ≤ n) (hn2 : n ≤ 9223372036854775807) (t : ByteArray) (da : Option Addr) (dl dc : Nat) (p : List ByteArray) (d : List Dt.Dot) (W : World) (hp : SRow W pa pc p) (hpl : p.length = pl) (hr : VRow W da dc d) (hdl : d.length = dl) (hm : Om.mayEvent ⟨((r, i), s), tm, ⟨k, p, n, t, d⟩⟩ = false) :
    Calls Try.prog 21 #[evV r i s tm k pa pl pc n t da dl dc] W fun e w' => e = .returned (.tuple #[.slice none 0 0, .int .i64 2]) ∧ Below W.heap.size W w' := by
  have HP := Lib.hid hp; have HPl := Lib.hid hpl; have HR := Lib.hid hr; have HDl := Lib.hid hdl
  have HBox := Lib.hid (below_box W #[.int .u8 (r : Int), .int .u32 (i : Int), .int .u64 (s : Int), .int .u64 (tm : Int), .int .u8 (k : Int), .slice pa pl pc, .int .i64 n, .string t, .slice da dl dc] 33)
  have HM := Lib.hid hm; have HTm := Lib.hid htm
  clear hp hpl hr hdl hm htm
  go_enter Try.func21, Try.ntmps21
  go_wp2_with fail
  refine (mayEvent_any r i s tm k hk pa pl pc n t da dl dc p d _ (HP.out.below HBox.out) HPl.out (HR.out.below HBox.out) HDl.out).mono ?_
  rintro e w1 ⟨rfl, hb⟩
  rw [HM.out]
  obtain ⟨hc0, hc1, hc2, hc3, hc4, hc5, hc6, hc7, hc8⟩ := evcells hb
  have HB := Lib.hid hb; clear hb
  go_wp2_with fail
  exact bodyPost_ret (v := .tuple #[.slice none 0 0, .int .i64 2]) (by simp [results, Try.results21, go_sem]) rfl ⟨rfl, HBox.out.trans (HB.out.mono HBox.out.size)⟩
set_option maxRecDepth 100000 in
set_option maxHeartbeats 3200000 in
theorem bytes_yes (r i s tm k : Nat) (hd0 : Dt.okD ((r, i), s)) (htm : tm ≤ 18446744073709551615) (hk : k < 256) (pa : Option Addr) (pl pc : Nat) (n : Int) (hn1 : -9223372036854775808 ≤ n) (hn2 : n ≤ 9223372036854775807) (t : ByteArray) (da : Option Addr) (dl dc : Nat) (p : List ByteArray) (d : List Dt.Dot) (W : World) (hp : SRow W pa pc p) (hpl : p.length = pl) (hr : VRow W da dc d) (hdl : d.length = dl) (hm : Om.mayEvent ⟨((r, i), s), tm, ⟨k, p, n, t, d⟩⟩ = true) :
    Calls Try.prog 21 #[evV r i s tm k pa pl pc n t da dl dc] W fun e w' => ∃ v row, e = .returned (.tuple #[v, .int .i64 0]) ∧ BB W.heap.size w' v (evE ⟨((r, i), s), tm, ⟨k, p, n, t, d⟩⟩) row ∧ Below W.heap.size W w' := by
  have HSm := Lib.hid (small_of_mayEvent hm)
  have HD := Lib.hid (dotE_length ((r, i), s)); have HNl := Lib.hid (num_lenO tm)
  have HP := Lib.hid hp; have HPl := Lib.hid hpl; have HR := Lib.hid hr; have HDl := Lib.hid hdl
  have HBox := Lib.hid (below_box W #[.int .u8 (r : Int), .int .u32 (i : Int), .int .u64 (s : Int), .int .u64 (tm : Int), .int .u8 (k : Int), .slice pa pl pc, .int .i64 n, .string t, .slice da dl dc] 33)
  have HM := Lib.hid hm; have HTm := Lib.hid htm
  clear hp hpl hr hdl hm htm
  go_enter Try.func21, Try.ntmps21
  go_wp2_with fail
  refine (mayEvent_any r i s tm k hk pa pl pc n t da dl dc p d _ (HP.out.below HBox.out) HPl.out (HR.out.below HBox.out) HDl.out).mono ?_
  rintro e w1 ⟨rfl, hb⟩
  rw [HM.out]
  obtain ⟨hc0, hc1, hc2, hc3, hc4, hc5, hc6, hc7, hc8⟩ := evcells hb
  have HB := Lib.hid hb; clear hb
  go_wp2_with fail
  have T0 := Lib.hid (show PT (W.alloc (.cells #[.int .u8 (r : Int), .int .u32 (i : Int), .int .u64 (s : Int), .int .u64 (tm : Int), .int .u8 (k : Int), .slice pa pl pc, .int .i64 n, .string t, .slice da dl dc] 33)).heap.size (W.alloc (.cells #[.int .u8 (r : Int), .int .u32 (i : Int), .int .u64 (s : Int), .int .u64 (tm : Int), .int .u8 (k : Int), .slice pa pl pc, .int .i64 n, .string t, .slice da dl dc] 33)) w1.drew (.slice none 0 0) [] from ⟨⟨none, BB.nil HB.out.size⟩, HB.out.drew⟩)
  go_region_held3 (fun w' : World => w'.cell? ⟨W.heap.size, 0, none⟩ = some (.int .u8 (r : Int)) ∧ w'.cell? ⟨W.heap.size, 1, none⟩ = some (.int .u32 (i : Int)) ∧ w'.cell? ⟨W.heap.size, 2, none⟩ = some (.int .u64 (s : Int)) ∧ w'.cell? ⟨W.heap.size, 3, none⟩ = some (.int .u64 (tm : Int)) ∧ w'.cell? ⟨W.heap.size, 4, none⟩ = some (.int .u8 (k : Int)) ∧ w'.cell? ⟨W.heap.size, 5, none⟩ = some (.slice pa pl pc) ∧ w'.cell? ⟨W.heap.size, 6, none⟩ = some (.int .i64 n) ∧ w'.cell? ⟨W.heap.size, 7, none⟩ = some (.string t) ∧ w'.cell? ⟨W.heap.size, 8, none⟩ = some (.slice da dl dc))
    (first
      | assumption
      | go_keep
      | exact ⟨hc0, hc1, hc2, hc3, hc4, hc5, hc6, hc7, hc8⟩)
    (first
      | (go_at_call 19; (with_reducible refine (put_pt T2.out (by have := HD.out; have := HNl.out; rw [List.nil_append, List.length_append]; omega) k hk pa pl pc n hn1 hn2 t da dl dc p d (HP.out.below HBox.out) HPl.out (HR.out.below HBox.out) HDl.out HSm.out).mono ?_); rintro e w4 ⟨v4, rfl, hb4⟩; have hS := evcells hb4.below; have T4 := Lib.hid hb4; clear hb4)
      | (go_at_call 34; (with_reducible refine (num_pt T1.out (Nat.le_refl _) tm (by have := HTm.out; omega) (by have := HD.out; rw [List.nil_append]; omega)).mono ?_); rintro e w3 ⟨v3, rfl, hb3⟩; have hS := evcells hb3.below; have T2 := Lib.hid hb3; clear hb3)
      | (go_at_call 38; (with_reducible refine (putDot_pt T0.out (Nat.le_refl _) ((r, i), s) hd0 (by simp)).mono ?_); rintro e w2 ⟨v2, rfl, hb2⟩; have hS := evcells hb2.below; have T1 := Lib.hid hb2; clear hb2))
  have hfin := T4.out
  clear T1 T2 T4
  have U := Lib.hid hfin; clear hfin
  go_wp2_with fail
  obtain ⟨⟨row, hb⟩, hbl⟩ := U.out
  exact bodyPost_ret (v := .tuple #[v4, .int .i64 0]) (by simp [results, Try.results21, go_sem]) rfl ⟨v4, row, rfl, by have h2 := hb.base (B' := W.heap.size) HBox.out.size; rw [List.nil_append] at h2; exact h2, HBox.out.trans (hbl.mono HBox.out.size)⟩
set_option maxRecDepth 100000 in
set_option maxHeartbeats 1600000 in
theorem refbytes_no (r i s tm k : Nat) (hd0 : Dt.okD ((r, i), s)) (htm : tm ≤ 18446744073709551615) (hk : k < 256) (pa : Option Addr) (pl pc : Nat) (n : Int) (hn1 : -9223372036854775808 ≤ n) (hn2 : n ≤ 9223372036854775807) (t : ByteArray) (da : Option Addr) (dl dc : Nat) (p : List ByteArray) (d : List Dt.Dot) (W : World) (hp : SRow W pa pc p) (hpl : p.length = pl) (hr : VRow W da dc d) (hdl : d.length = dl) (hm : Om.mayEvent ⟨((r, i), s), tm, ⟨k, p, n, t, d⟩⟩ = false) :
    Calls Try.prog 22 #[evV r i s tm k pa pl pc n t da dl dc] W fun e w' => e = .returned (.tuple #[.slice none 0 0, .int .i64 2]) ∧ Below W.heap.size W w' := by
  have HP := Lib.hid hp; have HPl := Lib.hid hpl; have HR := Lib.hid hr; have HDl := Lib.hid hdl
  have HBox := Lib.hid (below_box W #[.int .u8 (r : Int), .int .u32 (i : Int), .int .u64 (s : Int), .int .u64 (tm : Int), .int .u8 (k : Int), .slice pa pl pc, .int .i64 n, .string t, .slice da dl dc] 33)
  have HM := Lib.hid hm; have HTm := Lib.hid htm
  clear hp hpl hr hdl hm htm
  go_enter Try.func22, Try.ntmps22
  go_wp2_with fail
  refine (refmayEvent_any r i s tm k hk pa pl pc n t da dl dc p d _ (HP.out.below HBox.out) HPl.out (HR.out.below HBox.out) HDl.out).mono ?_
  rintro e w1 ⟨rfl, hb⟩
  rw [HM.out]
  obtain ⟨hc0, hc1, hc2, hc3, hc4, hc5, hc6, hc7, hc8⟩ := evcells hb
  have HB := Lib.hid hb; clear hb
  go_wp2_with fail
  exact bodyPost_ret (v := .tuple #[.slice none 0 0, .int .i64 2]) (by simp [results, Try.results22, go_sem]) rfl ⟨rfl, HBox.out.trans (HB.out.mono HBox.out.size)⟩
set_option maxRecDepth 100000 in
set_option maxHeartbeats 3200000 in
theorem refbytes_yes (r i s tm k : Nat) (hd0 : Dt.okD ((r, i), s)) (htm : tm ≤ 18446744073709551615) (hk : k < 256) (pa : Option Addr) (pl pc : Nat) (n : Int) (hn1 : -9223372036854775808 ≤ n) (hn2 : n ≤ 9223372036854775807) (t : ByteArray) (da : Option Addr) (dl dc : Nat) (p : List ByteArray) (d : List Dt.Dot) (W : World) (hp : SRow W pa pc p) (hpl : p.length = pl) (hr : VRow W da dc d) (hdl : d.length = dl) (hm : Om.mayEvent ⟨((r, i), s), tm, ⟨k, p, n, t, d⟩⟩ = true) :
    Calls Try.prog 22 #[evV r i s tm k pa pl pc n t da dl dc] W fun e w' => ∃ v row, e = .returned (.tuple #[v, .int .i64 0]) ∧ BB W.heap.size w' v (evE ⟨((r, i), s), tm, ⟨k, p, n, t, d⟩⟩) row ∧ Below W.heap.size W w' := by
  have HSm := Lib.hid (small_of_mayEvent hm)
  have HD := Lib.hid (dotE_length ((r, i), s)); have HNl := Lib.hid (num_lenO tm)
  have HP := Lib.hid hp; have HPl := Lib.hid hpl; have HR := Lib.hid hr; have HDl := Lib.hid hdl
  have HBox := Lib.hid (below_box W #[.int .u8 (r : Int), .int .u32 (i : Int), .int .u64 (s : Int), .int .u64 (tm : Int), .int .u8 (k : Int), .slice pa pl pc, .int .i64 n, .string t, .slice da dl dc] 33)
  have HM := Lib.hid hm; have HTm := Lib.hid htm
  clear hp hpl hr hdl hm htm
  go_enter Try.func22, Try.ntmps22
  go_wp2_with fail
  refine (refmayEvent_any r i s tm k hk pa pl pc n t da dl dc p d _ (HP.out.below HBox.out) HPl.out (HR.out.below HBox.out) HDl.out).mono ?_
  rintro e w1 ⟨rfl, hb⟩
  rw [HM.out]
  obtain ⟨hc0, hc1, hc2, hc3, hc4, hc5, hc6, hc7, hc8⟩ := evcells hb
  have HB := Lib.hid hb; clear hb
  go_wp2_with fail
  have T0 := Lib.hid (show PT (W.alloc (.cells #[.int .u8 (r : Int), .int .u32 (i : Int), .int .u64 (s : Int), .int .u64 (tm : Int), .int .u8 (k : Int), .slice pa pl pc, .int .i64 n, .string t, .slice da dl dc] 33)).heap.size (W.alloc (.cells #[.int .u8 (r : Int), .int .u32 (i : Int), .int .u64 (s : Int), .int .u64 (tm : Int), .int .u8 (k : Int), .slice pa pl pc, .int .i64 n, .string t, .slice da dl dc] 33)) w1.drew (.slice none 0 0) [] from ⟨⟨none, BB.nil HB.out.size⟩, HB.out.drew⟩)
  go_region_held3 (fun w' : World => w'.cell? ⟨W.heap.size, 0, none⟩ = some (.int .u8 (r : Int)) ∧ w'.cell? ⟨W.heap.size, 1, none⟩ = some (.int .u32 (i : Int)) ∧ w'.cell? ⟨W.heap.size, 2, none⟩ = some (.int .u64 (s : Int)) ∧ w'.cell? ⟨W.heap.size, 3, none⟩ = some (.int .u64 (tm : Int)) ∧ w'.cell? ⟨W.heap.size, 4, none⟩ = some (.int .u8 (k : Int)) ∧ w'.cell? ⟨W.heap.size, 5, none⟩ = some (.slice pa pl pc) ∧ w'.cell? ⟨W.heap.size, 6, none⟩ = some (.int .i64 n) ∧ w'.cell? ⟨W.heap.size, 7, none⟩ = some (.string t) ∧ w'.cell? ⟨W.heap.size, 8, none⟩ = some (.slice da dl dc))
    (first
      | assumption
      | go_keep
      | exact ⟨hc0, hc1, hc2, hc3, hc4, hc5, hc6, hc7, hc8⟩)
    (first
      | (go_at_call 20; (with_reducible refine (refput_pt T2.out (by have := HD.out; have := HNl.out; rw [List.nil_append, List.length_append]; omega) k hk pa pl pc n hn1 hn2 t da dl dc p d (HP.out.below HBox.out) HPl.out (HR.out.below HBox.out) HDl.out HSm.out).mono ?_); rintro e w4 ⟨v4, rfl, hb4⟩; have hS := evcells hb4.below; have T4 := Lib.hid hb4; clear hb4)
      | (go_at_call 39; (with_reducible refine (refnum_pt T1.out (Nat.le_refl _) tm (by have := HTm.out; omega) (by have := HD.out; rw [List.nil_append]; omega)).mono ?_); rintro e w3 ⟨v3, rfl, hb3⟩; have hS := evcells hb3.below; have T2 := Lib.hid hb3; clear hb3)
      | (go_at_call 42; (with_reducible refine (refputDot_pt T0.out (Nat.le_refl _) ((r, i), s) hd0 (by simp)).mono ?_); rintro e w2 ⟨v2, rfl, hb2⟩; have hS := evcells hb2.below; have T1 := Lib.hid hb2; clear hb2))
  have hfin := T4.out
  clear T1 T2 T4
  have U := Lib.hid hfin; clear hfin
  go_wp2_with fail
  obtain ⟨⟨row, hb⟩, hbl⟩ := U.out
  exact bodyPost_ret (v := .tuple #[v4, .int .i64 0]) (by simp [results, Try.results22, go_sem]) rfl ⟨v4, row, rfl, by have h2 := hb.base (B' := W.heap.size) HBox.out.size; rw [List.nil_append] at h2; exact h2, HBox.out.trans (hbl.mono HBox.out.size)⟩
end Go.Proofs.Ytpkfjgoimaomfaa
namespace Go.Proofs.Ytpkfjgoimaomfaa
open Go.RowKit Go.Buf Go.LB
set_option linter.unusedSimpArgs false
set_option linter.unusedVariables false
theorem numR_ok {n : Nat} (h : n < 18446744073709551616) (r : List Nat) : numR (Cd.num n ++ r) 0 = (n, r, 0) := by
  unfold numR step; rw [Cd.rd_num h]; simp
theorem intR_ok {m : Int} (h1 : -9223372036854775808 ≤ m) (h2 : m ≤ 9223372036854775807) (r : List Nat) : intR (Cd.num (Cd.uns m) ++ r) 0 = (m, r, 0) := by
  unfold intR step; rw [Cd.rd_num (Cd.uns_lt h1 h2)]; simp [Cd.sgn_uns]
theorem txtR_ok (s : ByteArray) (r : List Nat) (most : Int) (hm : (s.size : Int) ≤ most) (hs : s.size < 18446744073709551616) : txtR (txtE s ++ r) 0 most = (strL s, r, 0) := by
  unfold txtR step txtE
  have := Cd.rdText_text (strL s) r most (by rw [strL_length]; exact hm) (by rw [strL_length]; exact hs)
  rw [strL_length] at this
  rw [List.append_assoc, this]; simp
  rw [← strL_length s, List.drop_left]
/-- a read that comes off -/
theorem Num_ok {p : Nat} {w : World} (n : Nat) (hn : n < 18446744073709551616) (r : List Nat) (h : RdrS w p (Cd.num n ++ r) 0) :
    Calls Try.prog 45 #[.pointer (some ⟨p, 0, none⟩)] w fun e w' => e = .returned (.int .u64 n) ∧ RdrS w' p r 0 ∧ w.grownBy w' (some p) := Num_at h (numR_ok hn r)
theorem Int_ok {p : Nat} {w : World} (m : Int) (h1 : -9223372036854775808 ≤ m) (h2 : m ≤ 9223372036854775807) (r : List Nat) (h : RdrS w p (Cd.num (Cd.uns m) ++ r) 0) :
    Calls Try.prog 61 #[.pointer (some ⟨p, 0, none⟩)] w fun e w' => e = .returned (.int .i64 m) ∧ RdrS w' p r 0 ∧ w.grownBy w' (some p) := Int_at h (intR_ok h1 h2 r)
theorem Text_ok {p : Nat} {w : World} (s : ByteArray) (most : Int) (hm : (s.size : Int) ≤ most) (hm2 : most ≤ 9223372036854775807) (r : List Nat) (h : RdrS w p (txtE s ++ r) 0) :
    Calls Try.prog 62 #[.pointer (some ⟨p, 0, none⟩), .int .i64 most] w fun e w' => e = .returned (.string s) ∧ RdrS w' p r 0 ∧ w.grownBy w' (some p) := by
  have := Text_at h (by omega) hm2 (txtR_ok s r most hm (by omega))
  rw [strB_strL] at this
  exact this
theorem grownR {w w1 w2 : World} {p : Nat} (h : w.grownBy w1 (some p)) (h1 : w1.grownBy w2 (some p)) : w.grownBy w2 (some p) := grown_trans h h1 (New.refl _ _)
theorem grownA {w w1 : World} {p : Nat} (h : w.grownBy w1 (some p)) (o : Obj) : w.grownBy (w1.alloc o) (some p) := grownR h (World.grownBy_alloc w1 o _)
theorem grownCell {w w1 : World} {g : Nat} {row : Option Nat} (h : w.grownBy w1 row) (hg : w.heap.size ≤ g) (o : Nat) (x : Value) : w.grownBy (w1.setCell ⟨g, o, none⟩ x) row := by
  have := grown_setCell w1 g o x
  exact ⟨this.os.trans h.os, this.tape.trans h.tape, this.output.trans h.output, Nat.le_trans h.size this.size, fun k hk hr => (this.block k (Nat.lt_of_lt_of_le hk h.size) (by simp; omega)).trans (h.block k hk hr)⟩
theorem RdrS.setCell {w : World} {p g : Nat} {l : List Nat} {er : Nat} (h : RdrS w p l er) (hg : p < g) (o : Nat) (x : Value) : RdrS (w.setCell ⟨g, o, none⟩ x) p l er := h.grown (grown_setCell w g o x) (fun k hk => by cases hk; exact hg)
theorem boxKept {W w : World} {c : Array Value} {t : TypeId} {p : Nat} (h : (W.alloc (.cells c t)).grownBy w (some p)) (hp : p < W.heap.size) : w.heap[W.heap.size]? = some (.cells c t (0, 0)) := by
  rw [h.block W.heap.size (by simp) (by simp; omega)]; exact heap_alloc_new W _
set_option maxRecDepth 100000 in
set_option maxHeartbeats 1600000 in
theorem takeDot_ok (p : Nat) (d : Dt.Dot) (hd : Dt.okD d) (rest : List Nat) (W : World) (h : RdrS W p (dotE d ++ rest) 0) :
    Calls Try.prog 44 #[.pointer (some ⟨p, 0, none⟩)] W fun e w' => e = .returned (dotV d) ∧ RdrS w' p rest 0 ∧ W.grownBy w' (some p) := by
  obtain ⟨⟨r, i⟩, s⟩ := d
  obtain ⟨h1, h2, h3⟩ := hd
  simp only at h1 h2 h3
  have hplt := h.lt
  have hh : RdrS W p (Cd.num r ++ (Cd.num i ++ (Cd.num s ++ rest))) 0 := by
    have e : dotE ((r, i), s) ++ rest = Cd.num r ++ (Cd.num i ++ (Cd.num s ++ rest)) := by simp only [dotE, List.append_assoc]
    rw [← e]; exact h
  have hw1 : IntKind.u8.wrap (r : Int) = (r : Int) := by simp [IntKind.wrap, IntKind.bits, IntKind.signed]; omega
  have hw2 : IntKind.u32.wrap (i : Int) = (i : Int) := by simp [IntKind.wrap, IntKind.bits, IntKind.signed]; omega
  have HH := Lib.hid hh; have H3 := Lib.hid h3
  clear h hh h3
  go_enter Try.func44, Try.ntmps44
  go_wp2_with fail
  refine (Num_ok r (by omega) _ (HH.out.below (below_box3 _ _ _))).mono ?_
  rintro e w1 ⟨rfl, hr1, hg1⟩
  have HR1 := Lib.hid hr1; have HG1 := Lib.hid hg1; have hs1 := hg1.size
  clear hr1
  go_wp2_with fail
  refine (Num_ok i (by omega) _ HR1.out).mono ?_
  rintro e w2 ⟨rfl, hr2, hg2⟩
  have HR2 := Lib.hid hr2; have HG2 := Lib.hid (grownR HG1.out hg2); have hs2 := hg2.size
  clear hr2
  go_wp2_with fail
  refine (Num_ok s (by have := H3.out; omega) _ HR2.out).mono ?_
  rintro e w3 ⟨rfl, hr3, hg3⟩
  have HR3 := Lib.hid hr3; have HG3 := Lib.hid (grownR HG2.out hg3); have hs3 := hg3.size
  clear hr3
  have hblk := boxKept HG3.out hplt
  have hc0 : w3.cell? ⟨W.heap.size, 0, none⟩ = some (.int .u8 0) := by rw [cell_of_row w3 W.heap.size 0 _ _ _ hblk]; rfl
  have hc1 : w3.cell? ⟨W.heap.size, 1, none⟩ = some (.int .u32 0) := by rw [cell_of_row w3 W.heap.size 1 _ _ _ hblk]; rfl
  have hc2 : w3.cell? ⟨W.heap.size, 2, none⟩ = some (.int .u64 0) := by rw [cell_of_row w3 W.heap.size 2 _ _ _ hblk]; rfl
  have hf0 := frozen_of_row w3 W.heap.size 0 _ _ hblk
  have hf1 := frozen_of_row w3 W.heap.size 1 _ _ hblk
  have hf2 := frozen_of_row w3 W.heap.size 2 _ _ hblk
  have HGW := Lib.hid (grownR (grown_of_below (row := some p) (below_box3 W _ _)) HG3.out)
  clear hblk
  go_wp2_with fail
  refine bodyPost_ret (v := dotV ((r, i), s)) (by simp [results, Try.results44, go_sem, hc0, hc1, hc2]) rfl ⟨rfl, ?_, ?_⟩
  · exact ((HR3.out.setCell hplt _ _).setCell hplt _ _).setCell hplt _ _
  · exact grownCell (grownCell (grownCell HGW.out (Nat.le_refl _) _ _) (Nat.le_refl _) _ _) (Nat.le_refl _) _ _
end Go.Proofs.Ytpkfjgoimaomfaa
namespace Go.Proofs.Ytpkfjgoimaomfaa
open Go.RowKit Go.Buf Go.LB
set_option linter.unusedSimpArgs false
set_option linter.unusedVariables false
def encS (s : ByteArray) : List Value := [.string s]
def encT (d : Dt.Dot) : List Value := [.int .u8 (d.1.1 : Int), .int .u32 (d.1.2 : Int), .int .u64 (d.2 : Int)]
theorem infoStr : (Try.prog.info? 9).map (fun i => (i.zero, i.size, i.bytes)) = some (some (.string ⟨#[]⟩), 1, 16) := by kernel_rfl
theorem infoDot : (Try.prog.info? 27).map (fun i => (i.zero, i.size, i.bytes)) = some (some (.agg #[.int .u8 0, .int .u32 0, .int .u64 0]), 3, 16) := by kernel_rfl
theorem grownOwn {W w1 w2 : World} {row row2 : Option Nat} (h : W.grownBy w1 row) (h2 : w1.grownBy w2 row2) (hr : ∀ k, row2 = some k → W.heap.size ≤ k) : W.grownBy w2 row :=
  ⟨h2.os.trans h.os, h2.tape.trans h.tape, h2.output.trans h.output, Nat.le_trans h.size h2.size, fun k hk hne => (h2.block k (Nat.lt_of_lt_of_le hk h.size) (fun e => by have := hr k e.symm; omega)).trans (h.block k hk hne)⟩
theorem drop_one {α : Type} {l : List α} {k : Nat} {s : α} (h : l[k]? = some s) : l.drop k = s :: l.drop (k + 1) := by
  obtain ⟨hk, rfl⟩ := List.getElem?_eq_some_iff.1 h
  exact List.drop_eq_getElem_cons hk
theorem take_one {α : Type} {l : List α} {k : Nat} {s : α} (h : l[k]? = some s) : l.take (k + 1) = l.take k ++ [s] := by
  obtain ⟨hk, rfl⟩ := List.getElem?_eq_some_iff.1 h
  exact List.take_succ_eq_append_getElem hk
set_option maxHeartbeats 400000 in
theorem atMost_ok (p n most : Nat) (hn : n ≤ most) (hm : most < 18446744073709551616) (rest : List Nat) (w : World) (h : RdrS w p (Cd.num n ++ rest) 0) :
    Calls Try.prog 58 #[.pointer (some ⟨p, 0, none⟩), .int .u64 most] w fun e w' => e = .returned (.int .u64 n) ∧ RdrS w' p rest 0 ∧ w.grownBy w' (some p) := by
  have H := Lib.hid h; have HM := Lib.hid hm; clear h hm
  go_enter Try.func58, Try.ntmps58
  go_wp2_with fail
  refine (Num_ok n (by have := HM.out; omega) rest H.out).mono ?_
  rintro e w1 ⟨rfl, hr, hg⟩
  have HR := Lib.hid hr; have HG := Lib.hid hg; clear hr hg
  go_wp2_with fail
  go_ret
  exact ⟨rfl, HR.out, HG.out⟩
set_option maxHeartbeats 400000 in
theorem takeName_ok (p : Nat) (s : ByteArray) (hs : s.size ≤ 12) (rest : List Nat) (w : World) (h : RdrS w p (txtE s ++ rest) 0) :
    Calls Try.prog 60 #[.pointer (some ⟨p, 0, none⟩)] w fun e w' => e = .returned (.string s) ∧ RdrS w' p rest 0 ∧ w.grownBy w' (some p) := by
  have H := Lib.hid h; clear h
  go_enter Try.func60, Try.ntmps60
  go_wp2_with fail
  refine (Text_ok s 12 (by omega) (by omega) rest H.out).mono ?_
  rintro e w1 ⟨rfl, hr, hg⟩
  have HR := Lib.hid hr; have HG := Lib.hid hg; clear hr hg
  go_wp2_with fail
  go_ret
  exact ⟨rfl, HR.out, HG.out⟩
set_option maxRecDepth 100000 in
set_option maxHeartbeats 1600000 in
theorem listS_ok (p : Nat) (l : List ByteArray) (n most : Nat) (hln : l.length = n) (hn : n ≤ most) (hm : most ≤ 1000) (hok : ∀ d ∈ l, d.size ≤ 12) (rest : List Nat) (W : World) (h : RdrS W p (Cd.num n ++ (l.flatMap txtE ++ rest)) 0) :
    Calls Try.prog 59 #[.pointer (some ⟨p, 0, none⟩), .int .u64 most, .func (.func 60) #[] #[]] W fun e w' => ∃ v, e = .returned v ∧ OB 9 1 encS W.heap.size w' v l ∧ RdrS w' p rest 0 ∧ W.grownBy w' (some p) := by
  have H := Lib.hid h; have HLn := Lib.hid hln; have HOk := Lib.hid hok
  have hplt := h.lt
  obtain ⟨i0, hi, hz0, hz1, hz2⟩ := info_parts infoStr
  have HI := Lib.hid hi; have HZ0 := Lib.hid hz0; have HZ1 := Lib.hid hz1; have HZ2 := Lib.hid hz2
  clear h hln hok hi hz0 hz1 hz2
  go_enter Try.func59, Try.ntmps59
  go_wp2_with fail
  refine (atMost_ok p n most hn (by omega) _ W H.out).mono ?_
  rintro e w1 ⟨rfl, hr, hg⟩
  have HR := Lib.hid hr; have HG := Lib.hid hg; clear hr hg
  go_wp2_with fail
  go_loopw [7, 11] (fun u i wr => ∃ k : Nat, k ≤ n ∧ i = .int .u64 k ∧ OB 9 1 encS W.heap.size wr u (l.take k) ∧ RdrS wr p ((l.drop k).flatMap txtE ++ rest) 0 ∧ W.grownBy wr (some p)) (fun _ i _ => n - (intOf i).toNat)
  case atStart => exact ⟨0, Nat.zero_le _, rfl, OB.nil HG.out.size, by simpa using HR.out, HG.out⟩
  case round =>
    obtain ⟨k, hk, rfl, hob, hrd, hgw⟩ := hrel
    have HOb := Lib.hid hob; have HRd := Lib.hid hrd; have HGw := Lib.hid hgw
    clear hob hrd hgw
    by_cases hlt : k < n
    · obtain ⟨s, hs⟩ : ∃ s, l[k]? = some s := ⟨l[k]'(by rw [HLn.out]; exact hlt), List.getElem?_eq_getElem _⟩
      have HS := Lib.hid hs; have HO := Lib.hid (HOk.out s (List.mem_of_getElem? hs))
      have hrd : RdrS wr p (txtE s ++ ((l.drop (k + 1)).flatMap txtE ++ rest)) 0 := by
        have := HRd.out
        rw [drop_one hs, List.flatMap_cons, List.append_assoc] at this
        exact this
      have HRd2 := Lib.hid hrd
      clear hs hrd
      have hlk : (l.take k).length ≤ 1000 := by rw [List.length_take]; omega
      go_wp2_with fail
      refine (takeName_ok p s HO.out _ _ HRd2.out).mono ?_
      rintro e w2 ⟨rfl, hr, hg⟩
      have hob2 := HOb.out.grown hg (fun q hq => by cases hq; exact hplt)
      have HOb2 := Lib.hid hob2; have HR2 := Lib.hid hr; have HG2 := Lib.hid hg
      have hwl := hob2.1
      clear hr hg hob2
      go_wp2_with (refine wpList_append_ob rfl (.tmp 13) (.tmp 17) 28 rfl i0 (.string ⟨#[]⟩) 16 Try.underlying28 HI.out HZ0.out HZ1.out HZ2.out rfl (by decide) rfl (HOb2.out.alloc _) ⟨w2.heap.size, 0, none⟩ 1 s rfl rfl (fun j u hu => by match j, hu with | 0, hu => (simp [encS] at hu; subst hu; simp [Addr.add]) | j + 1, hu => simp [encS] at hu) (fun u hu => by simp [encS] at hu; subst hu; rfl) (by omega) (by omega) ?_; intro v3 w3 h3 g3)
      have hown : ∀ q, u7.ownBlock = some q → W.heap.size ≤ q := fun q hq => (HOb2.out.own q hq).1
      have H3 := Lib.hid h3; have G3 := Lib.hid (grownOwn (grownA (grownR HGw.out HG2.out) _) g3 hown)
      have R3 := Lib.hid ((HR2.out.below (below_box3 _ _ _)).grown g3 (fun q hq => Nat.lt_of_lt_of_le hplt (hown q hq)))
      clear h3 g3
      go_wp2_with fail
      go_roundw
      case rel => exact ⟨k + 1, by omega, by go_num, by rw [take_one HS.out]; exact H3.out, R3.out, G3.out⟩
      case measure => simp [intOf]; omega
    · obtain rfl : k = n := by omega
      have HOb2 := Lib.hid (show OB 9 1 encS W.heap.size wr u7 l by have := HOb.out; rwa [List.take_of_length_le (by rw [HLn.out]; omega)] at this)
      have HRd2 := Lib.hid (show RdrS wr p rest 0 by have := HRd.out; rwa [List.drop_of_length_le (by rw [HLn.out]; omega), List.flatMap_nil, List.nil_append] at this)
      clear HOb HRd
      go_wp2_with fail
      go_ret
      exact ⟨_, rfl, HOb2.out, HRd2.out, HGw.out⟩
set_option maxRecDepth 100000 in
set_option maxHeartbeats 1600000 in
theorem listD_ok (p : Nat) (l : List Dt.Dot) (n most : Nat) (hln : l.length = n) (hn : n ≤ most) (hm : most ≤ 1000) (hok : ∀ d ∈ l, Dt.okD d) (rest : List Nat) (W : World) (h : RdrS W p (Cd.num n ++ (l.flatMap dotE ++ rest)) 0) :
    Calls Try.prog 63 #[.pointer (some ⟨p, 0, none⟩), .int .u64 most, .func (.func 44) #[] #[]] W fun e w' => ∃ v, e = .returned v ∧ OB 27 3 encT W.heap.size w' v l ∧ RdrS w' p rest 0 ∧ W.grownBy w' (some p) := by
  have H := Lib.hid h; have HLn := Lib.hid hln; have HOk := Lib.hid hok
  have hplt := h.lt
  obtain ⟨i0, hi, hz0, hz1, hz2⟩ := info_parts infoDot
  have HI := Lib.hid hi; have HZ0 := Lib.hid hz0; have HZ1 := Lib.hid hz1; have HZ2 := Lib.hid hz2
  clear h hln hok hi hz0 hz1 hz2
  go_enter Try.func63, Try.ntmps63
  go_wp2_with fail
  refine (atMost_ok p n most hn (by omega) _ W H.out).mono ?_
  rintro e w1 ⟨rfl, hr, hg⟩
  have HR := Lib.hid hr; have HG := Lib.hid hg; clear hr hg
  go_wp2_with fail
  go_loopw [7, 11] (fun u i wr => ∃ k : Nat, k ≤ n ∧ i = .int .u64 k ∧ OB 27 3 encT W.heap.size wr u (l.take k) ∧ RdrS wr p ((l.drop k).flatMap dotE ++ rest) 0 ∧ W.grownBy wr (some p)) (fun _ i _ => n - (intOf i).toNat)
  case atStart => exact ⟨0, Nat.zero_le _, rfl, OB.nil HG.out.size, by simpa using HR.out, HG.out⟩
  case round =>
    obtain ⟨k, hk, rfl, hob, hrd, hgw⟩ := hrel
    have HOb := Lib.hid hob; have HRd := Lib.hid hrd; have HGw := Lib.hid hgw
    clear hob hrd hgw
    by_cases hlt : k < n
    · obtain ⟨s, hs⟩ : ∃ s, l[k]? = some s := ⟨l[k]'(by rw [HLn.out]; exact hlt), List.getElem?_eq_getElem _⟩
      have HS := Lib.hid hs; have HO := Lib.hid (HOk.out s (List.mem_of_getElem? hs))
      have hrd : RdrS wr p (dotE s ++ ((l.drop (k + 1)).flatMap dotE ++ rest)) 0 := by
        have := HRd.out
        rw [drop_one hs, List.flatMap_cons, List.append_assoc] at this
        exact this
      have HRd2 := Lib.hid hrd
      clear hs hrd
      have hlk : (l.take k).length ≤ 1000 := by rw [List.length_take]; omega
      go_wp2_with fail
      refine (takeDot_ok p s HO.out _ _ HRd2.out).mono ?_
      rintro e w2 ⟨rfl, hr, hg⟩
      have hob2 := HOb.out.grown hg (fun q hq => by cases hq; exact hplt)
      have HOb2 := Lib.hid hob2; have HR2 := Lib.hid hr; have HG2 := Lib.hid hg
      have hwl := hob2.1
      clear hr hg hob2
      go_wp2_with (refine wpList_append_ob rfl (.tmp 13) (.tmp 17) 29 rfl i0 (.agg #[.int .u8 0, .int .u32 0, .int .u64 0]) 16 Try.underlying29 HI.out HZ0.out HZ1.out HZ2.out rfl (by decide) rfl (HOb2.out.alloc _) ⟨w2.heap.size, 0, none⟩ 1 s rfl rfl (fun j u hu => by match j, hu with | 0, hu => (simp [encT] at hu; subst hu; simp [Addr.add]) | 1, hu => (simp [encT] at hu; subst hu; simp [Addr.add]) | 2, hu => (simp [encT] at hu; subst hu; simp [Addr.add]) | j + 3, hu => simp [encT] at hu) (fun u hu => by simp [encT] at hu; rcases hu with rfl | rfl | rfl <;> rfl) (by omega) (by omega) ?_; intro v3 w3 h3 g3)
      have hown : ∀ q, u7.ownBlock = some q → W.heap.size ≤ q := fun q hq => (HOb2.out.own q hq).1
      have H3 := Lib.hid h3; have G3 := Lib.hid (grownOwn (grownA (grownR HGw.out HG2.out) _) g3 hown)
      have R3 := Lib.hid ((HR2.out.below (below_box3 _ _ _)).grown g3 (fun q hq => Nat.lt_of_lt_of_le hplt (hown q hq)))
      clear h3 g3
      go_wp2_with fail
      go_roundw
      case rel => exact ⟨k + 1, by omega, by go_num, by rw [take_one HS.out]; exact H3.out, R3.out, G3.out⟩
      case measure => simp [intOf]; omega
    · obtain rfl : k = n := by omega
      have HOb2 := Lib.hid (show OB 27 3 encT W.heap.size wr u7 l by have := HOb.out; rwa [List.take_of_length_le (by rw [HLn.out]; omega)] at this)
      have HRd2 := Lib.hid (show RdrS wr p rest 0 by have := HRd.out; rwa [List.drop_of_length_le (by rw [HLn.out]; omega), List.flatMap_nil, List.nil_append] at this)
      clear HOb HRd
      go_wp2_with fail
      go_ret
      exact ⟨_, rfl, HOb2.out, HRd2.out, HGw.out⟩
end Go.Proofs.Ytpkfjgoimaomfaa
namespace Go.Proofs.Ytpkfjgoimaomfaa
open Go.RowKit Go.Buf Go.LB
set_option linter.unusedSimpArgs false
set_option linter.unusedVariables false
theorem srow_of_ob {B : Nat} {w : World} {v : Value} {l : List ByteArray} {m : Nat} (h : OB 9 1 encS B w v l) (hl : l.length = m) (hok : ∀ s ∈ l, s.size ≤ 9223372036854775807) : ∃ a c, v = .slice a m c ∧ SRow w a c l := by
  obtain ⟨a, c, rfl, h1, h2, h3, _, h5⟩ := h.reads (fun _ => rfl)
  refine ⟨a, c, by rw [hl], h1, h2, hok, h3, fun i s hs => ?_⟩
  obtain ⟨q, hq, hc⟩ := h5 i s hs
  exact ⟨q, hq, by have := hc 0 (.string s) rfl; simpa using this⟩
theorem vrow_of_ob {B : Nat} {w : World} {v : Value} {l : List Dt.Dot} {m : Nat} (h : OB 27 3 encT B w v l) (hl : l.length = m) (hok : ∀ s ∈ l, Dt.okD s) : ∃ a c, v = .slice a m c ∧ VRow w a c l := by
  obtain ⟨a, c, rfl, h1, h2, h3, _, h5⟩ := h.reads (fun _ => rfl)
  refine ⟨a, c, by rw [hl], h1, h2, hok, h3, fun i s hs => ?_⟩
  obtain ⟨q, hq, hc⟩ := h5 i s hs
  exact ⟨q, hq, by have := hc 0 _ rfl; simpa using this, by have := hc 1 _ rfl; simpa using this, by have := hc 2 _ rfl; simpa using this⟩
theorem names_of_may {o : Om.O} (h : Om.may o = true) : (∀ s ∈ o.path, s.size ≤ 12) ∧ o.path.length ≤ 3 ∧ o.text.size ≤ 40 ∧ o.dots.length ≤ 64 := by
  obtain ⟨k, p, n, t, d⟩ := o
  simp only [Om.may, Bool.and_eq_true, Om.mayPath, decide_eq_true_eq, Om.upTo_iff] at h
  obtain ⟨⟨⟨_, h2⟩, h3⟩, h4⟩ := h
  have hpth : ∀ s ∈ p, s.size ≤ 12 := by
    intro s hs
    obtain ⟨j, hj⟩ := List.getElem?_of_mem hs
    have hlt : j < p.length := (List.getElem?_eq_some_iff.1 hj).1
    have := h3 j hlt
    simp only [Om.pathAt, List.getD, hj, Option.getD_some, Om.isName, Bool.and_eq_true, decide_eq_true_eq] at this
    omega
  have hrest : t.size ≤ 40 ∧ d.length ≤ 64 := by
    unfold Om.asked at h4
    repeat' split at h4
    all_goals simp [Om.mayAdd, Om.mayText, Om.mayDrop, Om.mayDrops, -ByteArray.size_eq_zero_iff, -List.length_eq_zero_iff] at h4
    all_goals omega
  exact ⟨hpth, h2, hrest⟩
theorem fresh_lt {W w : World} {c : Array Value} {t : TypeId} {row : Option Nat} (h : (W.alloc (.cells c t)).grownBy w row) : W.heap.size < w.heap.size := by have := h.size; simp at this; omega
theorem grown_set5 (w : World) (g : Nat) (x0 x1 x2 x3 x4 : Value) : w.grownBy (((((w.setCell ⟨g, 0, none⟩ x0).setCell ⟨g, 1, none⟩ x1).setCell ⟨g, 2, none⟩ x2).setCell ⟨g, 3, none⟩ x3).setCell ⟨g, 4, none⟩ x4) (some g) :=
  grownR (grownR (grownR (grownR (grown_setCell w g 0 x0) (grown_setCell _ g 1 x1)) (grown_setCell _ g 2 x2)) (grown_setCell _ g 3 x3)) (grown_setCell _ g 4 x4)
set_option maxRecDepth 100000 in
set_option maxHeartbeats 3200000 in
theorem take_ok (q : Nat) (k : Nat) (hk : k < 256) (pl : Nat) (n : Int) (hn1 : -9223372036854775808 ≤ n) (hn2 : n ≤ 9223372036854775807) (t : ByteArray) (dl : Nat) (p : List ByteArray) (d : List Dt.Dot) (hpl : p.length = pl) (hdl : d.length = dl) (hok : ∀ x ∈ d, Dt.okD x) (hm : Om.may ⟨k, p, n, t, d⟩ = true) (rest : List Nat) (W : World) (h : RdrS W q (opE ⟨k, p, n, t, d⟩ ++ rest) 0) :
    Calls Try.prog 46 #[.pointer (some ⟨q, 0, none⟩)] W fun e w' => ∃ pa pc da dc, e = .returned (opV k pa pl pc n t da dl dc) ∧ OB 9 1 encS W.heap.size w' (.slice pa pl pc) p ∧ OB 27 3 encT W.heap.size w' (.slice da dl dc) d ∧ RdrS w' q rest 0 ∧ W.grownBy w' (some q) := by
  obtain ⟨m1, m2, m3, m4⟩ := names_of_may hm
  simp only at m1 m2 m3 m4
  rw [hpl] at m2
  rw [hdl] at m4
  have hplt := h.lt
  have hh : RdrS W q (Cd.num k ++ (Cd.num pl ++ (p.flatMap txtE ++ (Cd.num (Cd.uns n) ++ (txtE t ++ (Cd.num dl ++ (d.flatMap dotE ++ rest))))))) 0 := by
    have e : opE ⟨k, p, n, t, d⟩ ++ rest = Cd.num k ++ (Cd.num pl ++ (p.flatMap txtE ++ (Cd.num (Cd.uns n) ++ (txtE t ++ (Cd.num dl ++ (d.flatMap dotE ++ rest)))))) := by simp only [opE, hpl, hdl, List.append_assoc]
    rw [← e]; exact h
  have hw1 : IntKind.u8.wrap (k : Int) = (k : Int) := by simp [IntKind.wrap, IntKind.bits, IntKind.signed]; omega
  have s1 : ∀ s ∈ p, s.size ≤ 9223372036854775807 := fun s hs => by have := m1 s hs; omega
  have HH := Lib.hid hh; have HM := Lib.hid hm; have HPl := Lib.hid hpl; have HDl := Lib.hid hdl; have HOk := Lib.hid hok; have HS1 := Lib.hid s1; have HM1 := Lib.hid m1; have HN1 := Lib.hid hn1; have HN2 := Lib.hid hn2
  clear h hh hm hpl hdl hok s1 m1 hn1 hn2
  go_enter Try.func46, Try.ntmps46
  go_wp2_with fail
  refine (atMost_ok q k 255 (by omega) (by omega) _ _ (HH.out.below (below_box _ _ _))).mono ?_
  rintro e w1 ⟨rfl, hr1, hg1⟩
  have HR1 := Lib.hid hr1; have HG1 := Lib.hid hg1; have hs1 := fresh_lt hg1
  clear hr1 hg1
  go_wp2_with fail
  refine (listS_ok q p pl 3 HPl.out m2 (by omega) HM1.out _ _ HR1.out).mono ?_
  rintro e w2 ⟨v2, rfl, ho2, hr2, hg2⟩
  have HO2 := Lib.hid ho2; have HR2 := Lib.hid hr2; have HG2 := Lib.hid (grownR HG1.out hg2)
  clear ho2 hr2 hg2
  go_wp2_with fail
  refine (Int_ok n HN1.out HN2.out _ HR2.out).mono ?_
  rintro e w3 ⟨rfl, hr3, hg3⟩
  have HO3 := Lib.hid (HO2.out.grown hg3 (fun j hj => by cases hj; omega)); have HR3 := Lib.hid hr3; have HG3 := Lib.hid (grownR HG2.out hg3)
  clear hr3 hg3
  go_wp2_with fail
  refine (Text_ok t 40 (by omega) (by omega) _ HR3.out).mono ?_
  rintro e w4 ⟨rfl, hr4, hg4⟩
  have HO4 := Lib.hid (HO3.out.grown hg4 (fun j hj => by cases hj; omega)); have HR4 := Lib.hid hr4; have HG4 := Lib.hid (grownR HG3.out hg4); have hs4 := fresh_lt (grownR HG3.out hg4)
  clear hr4 hg4
  go_wp2_with fail
  refine (listD_ok q d dl 64 HDl.out m4 (by omega) HOk.out _ _ HR4.out).mono ?_
  rintro e w5 ⟨v5, rfl, ho5, hr5, hg5⟩
  have HO5 := Lib.hid (HO4.out.grown hg5 (fun j hj => by cases hj; omega)); have HD5 := Lib.hid ho5; have HR5 := Lib.hid hr5; have HG5 := Lib.hid (grownR HG4.out hg5); have hs5 := fresh_lt (grownR HG4.out hg5)
  clear hr5 hg5 ho5
  obtain ⟨pa, pc, e2, hsr⟩ := srow_of_ob HO5.out HPl.out HS1.out
  obtain ⟨da, dc, e5, hvr⟩ := vrow_of_ob HD5.out HDl.out HOk.out
  subst e2; subst e5
  have HSr := Lib.hid hsr; have HVr := Lib.hid hvr; clear hsr hvr
  go_wp2_with fail
  have HBox := Lib.hid (below_box w5 #[.int .u8 (k : Int), .slice pa pl pc, .int .i64 n, .string t, .slice da dl dc] 31)
  refine (opmay_any k hk pa pl pc n t da dl dc p d _ (HSr.out.below HBox.out) HPl.out (HVr.out.below HBox.out) HDl.out).mono ?_
  rintro e w6 ⟨rfl, hb⟩
  rw [HM.out]
  obtain ⟨hc0, hc1, hc2, hc3, hc4⟩ := opcells hb
  have hb6 := HBox.out.trans (hb.mono HBox.out.size)
  have HO6 := Lib.hid (HO5.out.below hb6); have HD6 := Lib.hid (HD5.out.below hb6); have HR6 := Lib.hid (HR5.out.below hb6); have HG6 := Lib.hid (grownR HG5.out (grown_of_below (row := some q) hb6)); have hs6 := hb6.size
  clear hb hb6
  go_wp2_with fail
  refine (Err_at HR6.out).mono ?_
  rintro e w7 ⟨rfl, rfl⟩
  have hblk := boxKept HG6.out hplt
  have hd0 : w6.cell? ⟨W.heap.size, 0, none⟩ = some (.int .u8 0) := by rw [cell_of_row w6 W.heap.size 0 _ _ _ hblk]; rfl
  have hd1 : w6.cell? ⟨W.heap.size, 1, none⟩ = some (.slice none 0 0) := by rw [cell_of_row w6 W.heap.size 1 _ _ _ hblk]; rfl
  have hd2 : w6.cell? ⟨W.heap.size, 2, none⟩ = some (.int .i64 0) := by rw [cell_of_row w6 W.heap.size 2 _ _ _ hblk]; rfl
  have hd3 : w6.cell? ⟨W.heap.size, 3, none⟩ = some (.string ⟨#[]⟩) := by rw [cell_of_row w6 W.heap.size 3 _ _ _ hblk]; rfl
  have hd4 : w6.cell? ⟨W.heap.size, 4, none⟩ = some (.slice none 0 0) := by rw [cell_of_row w6 W.heap.size 4 _ _ _ hblk]; rfl
  have hf0 := frozen_of_row w6 W.heap.size 0 _ _ hblk
  have hf1 := frozen_of_row w6 W.heap.size 1 _ _ hblk
  have hf2 := frozen_of_row w6 W.heap.size 2 _ _ hblk
  have hf3 := frozen_of_row w6 W.heap.size 3 _ _ hblk
  have hf4 := frozen_of_row w6 W.heap.size 4 _ _ hblk
  have HGW := Lib.hid (grownR (grown_of_below (row := some q) (below_box W _ _)) HG6.out)
  clear hblk
  go_wp2_with fail
  refine bodyPost_ret (v := opV k pa pl pc n t da dl dc) (by simp [results, Try.results46, go_sem, hd0, hd1, hd2, hd3, hd4]) rfl ⟨pa, pc, da, dc, rfl, ?_, ?_, ?_, ?_⟩
  · exact (HO6.out.grown (grown_set5 w6 W.heap.size _ _ _ _ _) (fun j hj => by cases hj; omega)).base (by omega)
  · exact (HD6.out.grown (grown_set5 w6 W.heap.size _ _ _ _ _) (fun j hj => by cases hj; omega)).base (by omega)
  · exact ((((HR6.out.setCell hplt _ _).setCell hplt _ _).setCell hplt _ _).setCell hplt _ _).setCell hplt _ _
  · exact grownCell (grownCell (grownCell (grownCell (grownCell HGW.out (Nat.le_refl _) _ _) (Nat.le_refl _) _ _) (Nat.le_refl _) _ _) (Nat.le_refl _) _ _) (Nat.le_refl _) _ _
end Go.Proofs.Ytpkfjgoimaomfaa
namespace Go.Proofs.Ytpkfjgoimaomfaa
open Go.RowKit Go.Buf Go.LB
set_option linter.unusedSimpArgs false
set_option linter.unusedVariables false
theorem boxBelow {W w : World} {c : Array Value} {t : TypeId} (h : Below (W.alloc (.cells c t)).heap.size (W.alloc (.cells c t)) w) : w.heap[W.heap.size]? = some (.cells c t (0, 0)) := by
  rw [h.block W.heap.size (by simp)]; exact heap_alloc_new W _
theorem below_set {B g : Nat} {w w1 : World} (h : Below B w w1) (hg : B ≤ g) (o : Nat) (x : Value) : Below B w (w1.setCell ⟨g, o, none⟩ x) := h.setCell hg _
theorem below_of_grown_at {W w w' : World} (h : Below W.heap.size W w) (hg : w.grownBy w' (some W.heap.size)) : Below W.heap.size W w' := h.grown hg h.size (fun j hj => by cases hj; exact Nat.le_refl _)
theorem grown_set9 (w : World) (g : Nat) (x0 x1 x2 x3 x4 x5 x6 x7 x8 : Value) : w.grownBy (((((((((w.setCell ⟨g, 0, none⟩ x0).setCell ⟨g, 1, none⟩ x1).setCell ⟨g, 2, none⟩ x2).setCell ⟨g, 3, none⟩ x3).setCell ⟨g, 4, none⟩ x4).setCell ⟨g, 5, none⟩ x5).setCell ⟨g, 6, none⟩ x6).setCell ⟨g, 7, none⟩ x7).setCell ⟨g, 8, none⟩ x8) (some g) :=
  grownR (grownR (grownR (grownR (grown_set5 w g x0 x1 x2 x3 x4) (grown_setCell _ g 5 x5)) (grown_setCell _ g 6 x6)) (grown_setCell _ g 7 x7)) (grown_setCell _ g 8 x8)
set_option maxRecDepth 100000 in
set_option maxHeartbeats 3200000 in
theorem read_ok (r i s tm : Nat) (hd0 : Dt.okD ((r, i), s)) (htm : tm ≤ 18446744073709551615) (k : Nat) (hk : k < 256) (pl : Nat) (n : Int) (hn1 : -9223372036854775808 ≤ n) (hn2 : n ≤ 9223372036854775807) (t : ByteArray) (dl : Nat) (p : List ByteArray) (d : List Dt.Dot) (hpl : p.length = pl) (hdl : d.length = dl) (hok : ∀ x ∈ d, Dt.okD x) (hm : Om.mayEvent ⟨((r, i), s), tm, ⟨k, p, n, t, d⟩⟩ = true) (a : Option Addr) (bn cap : Nat) (l : List Nat) (hl : l = evE ⟨((r, i), s), tm, ⟨k, p, n, t, d⟩⟩) (W : World) (hrow : Row W a cap l) (hbn : l.length = bn) (hsm : bn ≤ 1000000) :
    Calls Try.prog 23 #[.slice a bn cap] W fun e w' => ∃ pa pc da dc, e = .returned (.tuple #[evV r i s tm k pa pl pc n t da dl dc, .int .i64 0]) ∧ SRow w' pa pc p ∧ VRow w' da dc d ∧ Below W.heap.size W w' := by
  have hmo : Om.may ⟨k, p, n, t, d⟩ = true := by simp only [Om.mayEvent, Bool.and_eq_true] at hm; exact hm.2
  obtain ⟨m1, m2, m3, m4⟩ := names_of_may hmo
  simp only at m1 m2 m3 m4
  have s1 : ∀ s ∈ p, s.size ≤ 9223372036854775807 := fun s hs => by have := m1 s hs; omega
  have hl2 : l = dotE ((r, i), s) ++ (Cd.num tm ++ (opE ⟨k, p, n, t, d⟩ ++ [])) := by rw [hl]; simp only [evE, List.append_assoc, List.append_nil]
  have HL := Lib.hid hl2; have HM := Lib.hid hm; have HMo := Lib.hid hmo; have HRow := Lib.hid hrow; have HBn := Lib.hid hbn; have HPl := Lib.hid hpl; have HDl := Lib.hid hdl; have HOk := Lib.hid hok; have HS1 := Lib.hid s1; have HTm := Lib.hid htm; have HN1 := Lib.hid hn1; have HN2 := Lib.hid hn2
  clear hl hl2 hm hmo hrow hbn hpl hdl hok s1 htm m1 m2 m3 m4 hn1 hn2
  have HBx := Lib.hid (below_box W #[(.int .u8 0), (.int .u32 0), (.int .u64 0), (.int .u64 0), (.int .u8 0), (.slice none 0 0), (.int .i64 0), (.string ⟨#[]⟩), (.slice none 0 0)] 33)
  go_enter Try.func23, Try.ntmps23
  go_wp2_with fail
  refine (NewReader_any a bn cap l _ (HRow.out.below HBx.out) HBn.out (by omega)).mono ?_
  rintro e w1 ⟨q, rfl, hr1, hb1, hq1⟩
  have hq : W.heap.size + 1 ≤ q := by simpa using hq1
  rw [HL.out] at hr1
  have HR1 := Lib.hid hr1; have HB1 := Lib.hid hb1; have hz1 := hb1.size
  clear hr1 hb1 hq1
  go_wp2_with fail
  refine (takeDot_ok q ((r, i), s) hd0 _ _ HR1.out).mono ?_
  rintro e w2 ⟨rfl, hr2, hg2⟩
  have HR2 := Lib.hid hr2; have HB2 := Lib.hid (HB1.out.grown hg2 hz1 (fun j hj => by cases hj; simpa using hq))
  clear hr2 hg2
  go_wp2_with fail
  refine (Num_ok tm (by have := HTm.out; omega) _ HR2.out).mono ?_
  rintro e w3 ⟨rfl, hr3, hg3⟩
  have HR3 := Lib.hid hr3; have HB3 := Lib.hid (HB2.out.grown hg3 HB2.out.size (fun j hj => by cases hj; simpa using hq)); have hz3 := (HB2.out.grown hg3 HB2.out.size (fun j hj => by cases hj; simpa using hq)).size
  clear hr3 hg3
  go_wp2_with fail
  refine (take_ok q k hk pl n HN1.out HN2.out t dl p d HPl.out HDl.out HOk.out HMo.out [] _ HR3.out).mono ?_
  rintro e w4 ⟨pa, pc, da, dc, rfl, ho4, hd4, hr4, hg4⟩
  have hz4 : W.heap.size < w3.heap.size := by simp at hz3; omega
  obtain ⟨pa2, pc2, e2, hsr⟩ := srow_of_ob ho4 HPl.out HS1.out
  simp only [Value.slice.injEq] at e2
  obtain ⟨rfl, _, rfl⟩ := e2
  obtain ⟨pa2, pc2, e2, hvr⟩ := vrow_of_ob hd4 HDl.out HOk.out
  simp only [Value.slice.injEq] at e2
  obtain ⟨rfl, _, rfl⟩ := e2
  have HO4 := Lib.hid ho4; have HD4 := Lib.hid hd4; have HR4 := Lib.hid hr4; have HSr := Lib.hid hsr; have HVr := Lib.hid hvr
  have HB4 := Lib.hid (HB3.out.grown hg4 HB3.out.size (fun j hj => by cases hj; simpa using hq))
  clear ho4 hd4 hr4 hg4 hsr hvr
  go_wp2_with fail
  have HBox := Lib.hid (below_box w4 #[.int .u8 (r : Int), .int .u32 (i : Int), .int .u64 (s : Int), .int .u64 (tm : Int), .int .u8 (k : Int), .slice pa pl pc, .int .i64 n, .string t, .slice da dl dc] 33)
  refine (mayEvent_any r i s tm k hk pa pl pc n t da dl dc p d _ (HSr.out.below HBox.out) HPl.out (HVr.out.below HBox.out) HDl.out).mono ?_
  rintro e w5 ⟨rfl, hb⟩
  rw [HM.out]
  obtain ⟨hc0, hc1, hc2, hc3, hc4, hc5, hc6, hc7, hc8⟩ := evcells hb
  have hb6 := HBox.out.trans (hb.mono HBox.out.size)
  have HO5 := Lib.hid (HO4.out.below hb6); have HD5 := Lib.hid (HD4.out.below hb6); have HR5 := Lib.hid (HR4.out.below hb6); have HB5 := Lib.hid (HB4.out.trans (hb6.mono HB4.out.size))
  clear hb hb6
  go_wp2_with fail
  refine (Left_at HR5.out).mono ?_
  rintro e w6 ⟨rfl, rfl⟩
  go_wp2_with fail
  refine (Err_at HR5.out).mono ?_
  rintro e w7 ⟨rfl, rfl⟩
  have hblk := boxBelow HB5.out
  have hz0a : w5.cell? ⟨W.heap.size, 0, none⟩ = some (.int .u8 0) := by rw [cell_of_row w5 W.heap.size 0 _ _ _ hblk]; rfl
  have hz1a : w5.cell? ⟨W.heap.size, 1, none⟩ = some (.int .u32 0) := by rw [cell_of_row w5 W.heap.size 1 _ _ _ hblk]; rfl
  have hz2a : w5.cell? ⟨W.heap.size, 2, none⟩ = some (.int .u64 0) := by rw [cell_of_row w5 W.heap.size 2 _ _ _ hblk]; rfl
  have hz3a : w5.cell? ⟨W.heap.size, 3, none⟩ = some (.int .u64 0) := by rw [cell_of_row w5 W.heap.size 3 _ _ _ hblk]; rfl
  have hz4a : w5.cell? ⟨W.heap.size, 4, none⟩ = some (.int .u8 0) := by rw [cell_of_row w5 W.heap.size 4 _ _ _ hblk]; rfl
  have hz5a : w5.cell? ⟨W.heap.size, 5, none⟩ = some (.slice none 0 0) := by rw [cell_of_row w5 W.heap.size 5 _ _ _ hblk]; rfl
  have hz6a : w5.cell? ⟨W.heap.size, 6, none⟩ = some (.int .i64 0) := by rw [cell_of_row w5 W.heap.size 6 _ _ _ hblk]; rfl
  have hz7a : w5.cell? ⟨W.heap.size, 7, none⟩ = some (.string ⟨#[]⟩) := by rw [cell_of_row w5 W.heap.size 7 _ _ _ hblk]; rfl
  have hz8a : w5.cell? ⟨W.heap.size, 8, none⟩ = some (.slice none 0 0) := by rw [cell_of_row w5 W.heap.size 8 _ _ _ hblk]; rfl
  have hf0 := frozen_of_row w5 W.heap.size 0 _ _ hblk
  have hf1 := frozen_of_row w5 W.heap.size 1 _ _ hblk
  have hf2 := frozen_of_row w5 W.heap.size 2 _ _ hblk
  have hf3 := frozen_of_row w5 W.heap.size 3 _ _ hblk
  have hf4 := frozen_of_row w5 W.heap.size 4 _ _ hblk
  have hf5 := frozen_of_row w5 W.heap.size 5 _ _ hblk
  have hf6 := frozen_of_row w5 W.heap.size 6 _ _ hblk
  have hf7 := frozen_of_row w5 W.heap.size 7 _ _ hblk
  have hf8 := frozen_of_row w5 W.heap.size 8 _ _ hblk
  have HBW := Lib.hid (HBx.out.trans (HB5.out.mono HBx.out.size))
  clear hblk
  go_wp2_with fail
  refine bodyPost_ret (v := .tuple #[evV r i s tm k pa pl pc n t da dl dc, .int .i64 0]) (by simp [results, Try.results23, go_sem, hz0a, hz1a, hz2a, hz3a, hz4a, hz5a, hz6a, hz7a, hz8a]) rfl ⟨pa, pc, da, dc, rfl, ?_, ?_, ?_⟩
  · obtain ⟨pa2, pc2, e2, hsr⟩ := srow_of_ob (HO5.out.grown (grown_set9 w5 W.heap.size _ _ _ _ _ _ _ _ _) (fun j hj => by cases hj; exact hz4)) HPl.out HS1.out
    simp only [Value.slice.injEq] at e2
    obtain ⟨rfl, _, rfl⟩ := e2
    exact hsr
  · obtain ⟨pa2, pc2, e2, hsr⟩ := vrow_of_ob (HD5.out.grown (grown_set9 w5 W.heap.size _ _ _ _ _ _ _ _ _) (fun j hj => by cases hj; exact hz4)) HDl.out HOk.out
    simp only [Value.slice.injEq] at e2
    obtain ⟨rfl, _, rfl⟩ := e2
    exact hsr
  · exact below_of_grown_at HBW.out (grown_set9 w5 W.heap.size _ _ _ _ _ _ _ _ _)
end Go.Proofs.Ytpkfjgoimaomfaa
namespace Go.Proofs.Ytpkfjgoimaomfaa
open Go.RowKit Go.Buf Go.LB
set_option linter.unusedSimpArgs false
set_option linter.unusedVariables false
theorem evevcells {W w1 : World} {c0 c1 c2 c3 c4 c5 c6 c7 c8 d0 d1 d2 d3 d4 d5 d6 d7 d8 : Value} (hb : Below ((W.alloc (.cells #[c0, c1, c2, c3, c4, c5, c6, c7, c8] 33)).alloc (.cells #[d0, d1, d2, d3, d4, d5, d6, d7, d8] 33)).heap.size ((W.alloc (.cells #[c0, c1, c2, c3, c4, c5, c6, c7, c8] 33)).alloc (.cells #[d0, d1, d2, d3, d4, d5, d6, d7, d8] 33)) w1) :
    (w1.cell? ⟨W.heap.size, 0, none⟩ = some c0 ∧ w1.cell? ⟨W.heap.size, 1, none⟩ = some c1 ∧ w1.cell? ⟨W.heap.size, 2, none⟩ = some c2 ∧ w1.cell? ⟨W.heap.size, 3, none⟩ = some c3 ∧ w1.cell? ⟨W.heap.size, 4, none⟩ = some c4 ∧ w1.cell? ⟨W.heap.size, 5, none⟩ = some c5 ∧ w1.cell? ⟨W.heap.size, 6, none⟩ = some c6 ∧ w1.cell? ⟨W.heap.size, 7, none⟩ = some c7 ∧ w1.cell? ⟨W.heap.size, 8, none⟩ = some c8) ∧
    (w1.cell? ⟨W.heap.size + 1, 0, none⟩ = some d0 ∧ w1.cell? ⟨W.heap.size + 1, 1, none⟩ = some d1 ∧ w1.cell? ⟨W.heap.size + 1, 2, none⟩ = some d2 ∧ w1.cell? ⟨W.heap.size + 1, 3, none⟩ = some d3 ∧ w1.cell? ⟨W.heap.size + 1, 4, none⟩ = some d4 ∧ w1.cell? ⟨W.heap.size + 1, 5, none⟩ = some d5 ∧ w1.cell? ⟨W.heap.size + 1, 6, none⟩ = some d6 ∧ w1.cell? ⟨W.heap.size + 1, 7, none⟩ = some d7 ∧ w1.cell? ⟨W.heap.size + 1, 8, none⟩ = some d8) := by
  refine ⟨evcells ((below_box _ _ _).trans (hb.mono (by simp))), ?_⟩
  have h := evcells hb
  simpa using h
set_option maxRecDepth 100000 in
set_option maxHeartbeats 1600000 in
theorem refsameEvent_ok (r i s tm k : Nat) (pa : Option Addr) (pl pc : Nat) (n : Int) (t : ByteArray) (da : Option Addr) (dl dc : Nat) (pa' : Option Addr) (pc' : Nat) (da' : Option Addr) (dc' : Nat) (p : List ByteArray) (d : List Dt.Dot) (W : World) (hp : SRow W pa pc p) (hpl : p.length = pl) (hr : VRow W da dc d) (hdl : d.length = dl) (hp' : SRow W pa' pc' p) (hr' : VRow W da' dc' d) :
    Calls Try.prog 24 #[evV r i s tm k pa pl pc n t da dl dc, evV r i s tm k pa' pl pc' n t da' dl dc'] W fun e w' => e = .returned (.bool true) ∧ Below W.heap.size W w' := by
  have HP := Lib.hid hp; have HPl := Lib.hid hpl; have HR := Lib.hid hr; have HDl := Lib.hid hdl; have HP' := Lib.hid hp'; have HR' := Lib.hid hr'
  have HBox := Lib.hid ((below_box W #[.int .u8 (r : Int), .int .u32 (i : Int), .int .u64 (s : Int), .int .u64 (tm : Int), .int .u8 (k : Int), .slice pa pl pc, .int .i64 n, .string t, .slice da dl dc] 33).trans ((below_box (W.alloc (.cells #[.int .u8 (r : Int), .int .u32 (i : Int), .int .u64 (s : Int), .int .u64 (tm : Int), .int .u8 (k : Int), .slice pa pl pc, .int .i64 n, .string t, .slice da dl dc] 33)) #[.int .u8 (r : Int), .int .u32 (i : Int), .int .u64 (s : Int), .int .u64 (tm : Int), .int .u8 (k : Int), .slice pa' pl pc', .int .i64 n, .string t, .slice da' dl dc'] 33).mono (below_box W #[.int .u8 (r : Int), .int .u32 (i : Int), .int .u64 (s : Int), .int .u64 (tm : Int), .int .u8 (k : Int), .slice pa pl pc, .int .i64 n, .string t, .slice da dl dc] 33).size))
  clear hp hpl hr hdl hp' hr'
  go_enter Try.func24, Try.ntmps24
  go_wp2_with fail
  refine (refopsame_any k pa pl pc n t da dl dc p d k pa' pl pc' n t da' dl dc' p d _ (HP.out.below HBox.out) HPl.out (HR.out.below HBox.out) HDl.out (HP'.out.below HBox.out) HPl.out (HR'.out.below HBox.out) HDl.out).mono ?_
  rintro e w1 ⟨rfl, hb⟩
  have HB := Lib.hid (HBox.out.trans (hb.mono HBox.out.size)); clear hb
  go_wp2_with fail
  go_ret
  exact ⟨ret_bool (by simp), HB.out⟩
theorem run_append_fresh (w : World) (q : Addr) (a : Option Addr) (n cap : Nat) (l : List Nat) (hr : Row w a cap l) (hl : l.length = n) (hsm : n ≤ 1000000) (ty : TypeId) :
    ∃ b c w', (Builtin.append_ #[42, 42] ty #[.slice (some q) 0 0, .slice a n cap]).run Try.prog w = .ok (.slice b n c) w' ∧ Row w' b c l ∧ Below w.heap.size w w' := by
  obtain ⟨i0, hi, hz0, hz1, hz2⟩ := info_parts info5
  have hbuf : Buf 5 1 w.heap.size w (.slice (some q) 0 0) 0 [] none := Buf.full (Nat.le_refl _) (by simp) (by simp [maxLen]) (fun h => by cases h) (fun b _ j u hu => by simp at hu)
  obtain ⟨v', w', row', h1, h2, h3, h4⟩ := run_append_buf (P := Try.prog) w w.heap.size 42 42 ty 5 i0 (.int .u8 0) 1 1 Try.underlying42 hi hz0 hz1 hz2 rfl (.slice (some q) 0 0) 0 [] none hbuf (.slice a n cap) n (bytesV l) (src_row hr hl) (by unfold maxLen; omega) (by omega)
  have hbb : BB w.heap.size w' v' l row' := ⟨hr.byte, by rw [hl]; simpa using h2⟩
  obtain ⟨b, m, c, rfl, hrow, hm⟩ := hbb.rowN
  rw [hl] at hm; subst hm
  exact ⟨b, c, w', h1, hrow, below_of_grown h3 (Nat.le_refl _) (fun k hk => by cases hk)⟩
end Go.Proofs.Ytpkfjgoimaomfaa
namespace Go.Proofs.Ytpkfjgoimaomfaa
open Go.RowKit Go.Buf Go.LB
set_option linter.unusedSimpArgs false
set_option linter.unusedVariables false
theorem opE_length {o : Om.O} (h : Om.small o) : (opE o).length ≤ 100000 := by
  obtain ⟨s1, s2, s3, s4⟩ := h
  unfold opE
  simp only [List.length_append]
  have a1 := num_lenO o.kind; have a2 := num_lenO o.path.length; have a3 := num_lenO (Cd.uns o.n); have a4 := num_lenO o.dots.length
  have a5 := txtE_length o.text
  have a6 := upE_length (f := txtE) (l := o.path) (m := 110) (fun s hs => by have := txtE_length s; have := s1 s hs; omega) o.path.length
  rw [upE_all txtE (Nat.le_refl _)] at a6
  have a7 := upE_length (f := dotE) (l := o.dots) (m := 30) (fun x _ => dotE_length x) o.dots.length
  rw [upE_all dotE (Nat.le_refl _)] at a7
  omega
theorem evE_length {e : Om.E} (h : Om.small e.op) : (evE e).length ≤ 1000000 := by
  have h1 := opE_length h
  have h2 := dotE_length e.dot
  have h3 := num_lenO e.time
  unfold evE
  simp only [List.length_append]
  omega
set_option maxRecDepth 100000 in
set_option maxHeartbeats 6400000 in
theorem lawBytes_any (r i s tm k : Nat) (hd0 : Dt.okD ((r, i), s)) (htm : tm ≤ 18446744073709551615) (hk : k < 256) (pa : Option Addr) (pl pc : Nat) (n : Int) (hn1 : -9223372036854775808 ≤ n) (hn2 : n ≤ 9223372036854775807) (t : ByteArray) (da : Option Addr) (dl dc : Nat) (p : List ByteArray) (d : List Dt.Dot) (a : Option Addr) (bn cap : Nat) (l : List Nat) (W : World) (hp : SRow W pa pc p) (hpl : p.length = pl) (hr : VRow W da dc d) (hdl : d.length = dl) (hrow : Row W a cap l) (hbn : l.length = bn) (hbm : bn ≤ 9223372036854775807) :
    Calls Try.prog 4 #[evV r i s tm k pa pl pc n t da dl dc, .slice a bn cap] W fun e w' => e = .returned (.bool true) ∧ Below W.heap.size W w' := by
  obtain ⟨L, hL⟩ : ∃ L, L = l ++ opE ⟨k, p, n, t, d⟩ := ⟨_, rfl⟩
  have hcap := hrow.cap
  have hle := hrow.le
  rw [hbn] at hle
  have HP := Lib.hid hp; have HPl := Lib.hid hpl; have HR := Lib.hid hr; have HDl := Lib.hid hdl; have HRow := Lib.hid hrow; have HBn := Lib.hid hbn; have HL := Lib.hid hL
  have HN1 := Lib.hid hn1; have HN2 := Lib.hid hn2; have HTm := Lib.hid htm
  have HBox := Lib.hid (below_box W #[.int .u8 (r : Int), .int .u32 (i : Int), .int .u64 (s : Int), .int .u64 (tm : Int), .int .u8 (k : Int), .slice pa pl pc, .int .i64 n, .string t, .slice da dl dc] 33)
  clear hp hpl hr hdl hrow hbn hL hn1 hn2 htm
  go_enter Try.func4, Try.ntmps4
  go_wp2_with fail
  refine (great_any k pa pl pc n t da dl dc p d _ (HP.out.below HBox.out) HPl.out (HR.out.below HBox.out) HDl.out).mono ?_
  rintro e w1 ⟨⟨g1, rfl, hg1⟩, hb⟩
  have HSm0 := Lib.hid hg1
  clear hg1
  have HX1 := Lib.hid hb; clear hb
  cases g1
  case true =>
    go_wp2_with fail
    refine (known04_any _).mono ?_
    rintro e w3 ⟨rfl, hb⟩
    have HF := Lib.hid (HBox.out.trans ((HX1.out.trans (hb.mono HX1.out.size)).mono HBox.out.size)); clear hb
    go_wp2_with fail
    go_ret
    exact ⟨rfl, HF.out⟩
  have HSm := Lib.hid (HSm0.out rfl)
  clear HSm0
  by_cases h100 : bn ≤ 100
  case neg =>
    go_wp2_with fail
    refine (known04_any _).mono ?_
    rintro e w3 ⟨rfl, hb⟩
    have HF := Lib.hid (HBox.out.trans ((HX1.out.trans (hb.mono HX1.out.size)).mono HBox.out.size)); clear hb
    go_wp2_with fail
    go_ret
    exact ⟨rfl, HF.out⟩
  have HB1 := Lib.hid (HBox.out.trans (HX1.out.mono HBox.out.size))
  have HSrc := Lib.hid (src_row (HRow.out.below (HB1.out.trans (below_box w1 #[] 5 |>.mono HB1.out.size))) HBn.out)
  go_wp2_with (refine wpList_append_bb rfl (.tmp 21) (.tmp 22) 42 rfl w1.heap.size _ [] (some w1.heap.size) rfl (BB.empty w1) _ bn l rfl HSrc.out HBn.out HRow.out.byte (by simp; omega) ?_; intro vI w3 row3 h1 h2 h3)
  have hbI : Below w1.heap.size w1 w3 := ((below_box w1 #[] 5).grown h2 (by simp) (fun j hj => by cases hj; exact Nat.le_refl _))
  obtain ⟨bI, nI, cI, rfl, hrI, hnI⟩ := h1.rowN
  rw [List.nil_append] at hrI hnI
  have HX := Lib.hid (HX1.out.trans (hbI.mono HX1.out.size)).drew
  have HB := Lib.hid (HBox.out.trans (HX.out.mono HBox.out.size))
  have HIn := Lib.hid (hrI.below (Below.refl _ _).drew); have HNI := Lib.hid hnI
  have hnI2 : nI ≤ 100 := by have := HBn.out; omega
  have HX3 := Lib.hid (HX1.out.trans (hbI.mono HX1.out.size))
  clear h1 h2 h3 hbI hrI hnI
  go_wp2_with fail
  refine Reg.region_list (by kernel_rfl) [fun v _ => v = .slice bI nI cI, fun v _ => v = .pointer (some ⟨W.heap.size, 4, none⟩), fun v _ => v = .agg #[.int .u8 (k : Int), .slice pa pl pc, .int .i64 n, .string t, .slice da dl dc], fun v w => ∃ b m c, v = .slice b m c ∧ Row w b c L ∧ (L).length = m, fun v _ => v = .string (strB L), fun v _ => ∃ q : Addr, v = .slice (some q) 0 0, fun v _ => v = .slice a bn cap, fun v w => ∃ b m c, v = .slice b m c ∧ Row w b c l ∧ (l).length = m, fun v _ => v = .pointer (some ⟨W.heap.size, 4, none⟩), fun v _ => v = .agg #[.int .u8 (k : Int), .slice pa pl pc, .int .i64 n, .string t, .slice da dl dc], fun v w => ∃ b m c, v = .slice b m c ∧ Row w b c L ∧ (L).length = m, fun v _ => v = .string (strB L), fun v _ => v = .bool false] (by kernel_rfl) ?_ ?_ ?_
  · refine ⟨(fun _ _ _ _ h => h), (fun _ _ _ _ h => h), (fun _ _ _ _ h => h), (fun v wa wb hb h => by obtain ⟨b, m, c, h1, h2, h3⟩ := h; exact ⟨b, m, c, h1, h2.below hb, h3⟩), (fun _ _ _ _ h => h), (fun _ _ _ _ h => h), (fun _ _ _ _ h => h), (fun v wa wb hb h => by obtain ⟨b, m, c, h1, h2, h3⟩ := h; exact ⟨b, m, c, h1, h2.below hb, h3⟩), (fun _ _ _ _ h => h), (fun _ _ _ _ h => h), (fun v wa wb hb h => by obtain ⟨b, m, c, h1, h2, h3⟩ := h; exact ⟨b, m, c, h1, h2.below hb, h3⟩), (fun _ _ _ _ h => h), (fun _ _ _ _ h => h), trivial⟩
  · refine ⟨?_, ?_, ?_, ?_, ?_, ?_, ?_, ?_, ?_, ?_, ?_, ?_, ?_, trivial⟩
    · intro ev w hc hf hg hfix hdep hbel
      have e5 : ev (.tmp 5) = .slice bI nI cI := hfix 5 (by decide)
      exact Or.inl ⟨trivial, Or.inl ⟨.slice bI nI cI, w, by go_simp, rfl, Below.refl _ _⟩⟩
    · intro ev w hc hf hg hfix hdep hbel
      have e2 : ev (.tmp 2) = .pointer (some ⟨W.heap.size, 0, none⟩) := hfix 2 (by decide)
      exact Or.inl ⟨trivial, Or.inl ⟨.pointer (some ⟨W.heap.size, 4, none⟩), w, by go_simp, rfl, Below.refl _ _⟩⟩
    · intro ev w hc hf hg hfix hdep hbel
      have e25 : ev (.tmp 25) = .pointer (some ⟨W.heap.size, 4, none⟩) := hdep 1 (by decide)
      obtain ⟨hc0, hc1, hc2, hc3, hc4, hc5, hc6, hc7, hc8⟩ := evcells (HX.out.trans (hbel.mono HX.out.size))
      exact Or.inl ⟨trivial, Or.inl ⟨.agg #[.int .u8 (k : Int), .slice pa pl pc, .int .i64 n, .string t, .slice da dl dc], w, by go_simp, rfl, Below.refl _ _⟩⟩
    · intro ev w hc hf hg hfix hdep hbel
      have e24 : ev (.tmp 24) = .slice bI nI cI := hdep 0 (by decide)
      have e26 : ev (.tmp 26) = .agg #[.int .u8 (k : Int), .slice pa pl pc, .int .i64 n, .string t, .slice da dl dc] := hdep 2 (by decide)
      refine Or.inl ⟨trivial, Or.inr ⟨19, #[.slice bI nI cI, .agg #[.int .u8 (k : Int), .slice pa pl pc, .int .i64 n, .string t, .slice da dl dc]], w, by go_simp, ?_⟩⟩
      refine (put_any bI nI cI l k hk pa pl pc n HN1.out HN2.out t da dl dc p d w (HIn.out.below hbel) HNI.out (by omega) (HP.out.below (HB.out.trans (hbel.mono HB.out.size))) HPl.out (HR.out.below (HB.out.trans (hbel.mono HB.out.size))) HDl.out HSm.out).mono ?_
      rintro e w1 hret
      obtain ⟨v, row, rfl, hb1, hb2⟩ := hret.below
      obtain ⟨b, m, c, rfl, hrw, hm⟩ := hb1.rowN
      exact ⟨_, rfl, ⟨b, m, c, rfl, by rw [HL.out]; exact hrw, by rw [HL.out]; exact hm⟩, hb2⟩
    · intro ev w hc hf hg hfix hdep hbel
      have e27 := hdep 3 (by decide)
      obtain ⟨b, m, c, he, hrow, hm⟩ := e27
      have he' : ev (.tmp 27) = .slice b m c := he
      have hcv := conv_row hrow hm
      exact Or.inl ⟨trivial, Or.inl ⟨.string (strB L), w, by go_simp, rfl, Below.refl _ _⟩⟩
    · intro ev w hc hf hg hfix hdep hbel
      exact Or.inl ⟨trivial, Or.inl ⟨.slice (some ⟨w.heap.size, 0, none⟩) 0 0, w.alloc (.cells #[] 5), by go_simp, ⟨_, rfl⟩, below_box _ _ _⟩⟩
    · intro ev w hc hf hg hfix hdep hbel
      have e1 : ev (.tmp 1) = .slice a bn cap := hfix 1 (by decide)
      exact Or.inl ⟨trivial, Or.inl ⟨.slice a bn cap, w, by go_simp, rfl, Below.refl _ _⟩⟩
    · intro ev w hc hf hg hfix hdep hbel
      have e29 := hdep 5 (by decide)
      have e30 : ev (.tmp 30) = .slice a bn cap := hdep 6 (by decide)
      obtain ⟨q, he⟩ := e29
      have he' : ev (.tmp 29) = .slice (some q) 0 0 := he
      obtain ⟨b, c, w', hra, hrow, hb⟩ := run_append_fresh w q a bn cap l (HRow.out.below (HB.out.trans (hbel.mono HB.out.size))) HBn.out (by omega) 42
      exact Or.inl ⟨trivial, Or.inl ⟨.slice b bn c, w', by simp [execOp, resolve, invoke, builtin, he', e30, hra, Result.andThen], ⟨b, bn, c, rfl, hrow, HBn.out⟩, hb⟩⟩
    · intro ev w hc hf hg hfix hdep hbel
      have e2 : ev (.tmp 2) = .pointer (some ⟨W.heap.size, 0, none⟩) := hfix 2 (by decide)
      exact Or.inl ⟨trivial, Or.inl ⟨.pointer (some ⟨W.heap.size, 4, none⟩), w, by go_simp, rfl, Below.refl _ _⟩⟩
    · intro ev w hc hf hg hfix hdep hbel
      have e32 : ev (.tmp 32) = .pointer (some ⟨W.heap.size, 4, none⟩) := hdep 8 (by decide)
      obtain ⟨hc0, hc1, hc2, hc3, hc4, hc5, hc6, hc7, hc8⟩ := evcells (HX.out.trans (hbel.mono HX.out.size))
      exact Or.inl ⟨trivial, Or.inl ⟨.agg #[.int .u8 (k : Int), .slice pa pl pc, .int .i64 n, .string t, .slice da dl dc], w, by go_simp, rfl, Below.refl _ _⟩⟩
    · intro ev w hc hf hg hfix hdep hbel
      have e31 := hdep 7 (by decide)
      have e33 : ev (.tmp 33) = .agg #[.int .u8 (k : Int), .slice pa pl pc, .int .i64 n, .string t, .slice da dl dc] := hdep 9 (by decide)
      obtain ⟨b, m, c, he, hrow, hm⟩ := e31
      have he' : ev (.tmp 31) = .slice b m c := he
      refine Or.inl ⟨trivial, Or.inr ⟨20, #[.slice b m c, .agg #[.int .u8 (k : Int), .slice pa pl pc, .int .i64 n, .string t, .slice da dl dc]], w, by go_simp, ?_⟩⟩
      refine (refput_any b m c l k hk pa pl pc n HN1.out HN2.out t da dl dc p d w hrow hm (by have := HBn.out; omega) (HP.out.below (HB.out.trans (hbel.mono HB.out.size))) HPl.out (HR.out.below (HB.out.trans (hbel.mono HB.out.size))) HDl.out HSm.out).mono ?_
      rintro e w1 hret
      obtain ⟨v, row, rfl, hb1, hb2⟩ := hret.below
      obtain ⟨b, m, c, rfl, hrw, hm⟩ := hb1.rowN
      exact ⟨_, rfl, ⟨b, m, c, rfl, by rw [HL.out]; exact hrw, by rw [HL.out]; exact hm⟩, hb2⟩
    · intro ev w hc hf hg hfix hdep hbel
      have e34 := hdep 10 (by decide)
      obtain ⟨b, m, c, he, hrow, hm⟩ := e34
      have he' : ev (.tmp 34) = .slice b m c := he
      have hcv := conv_row hrow hm
      exact Or.inl ⟨trivial, Or.inl ⟨.string (strB L), w, by go_simp, rfl, Below.refl _ _⟩⟩
    · intro ev w hc hf hg hfix hdep hbel
      have e28 : ev (.tmp 28) = .string (strB L) := hdep 4 (by decide)
      have e35 : ev (.tmp 35) = .string (strB L) := hdep 11 (by decide)
      exact Or.inl ⟨trivial, Or.inl ⟨.bool false, w, by go_simp, rfl, Below.refl _ _⟩⟩
  · intro v w2 hv hb2
    have r0 : v 0 = .slice bI nI cI := hv 0 (by decide)
    have r1 : v 1 = .pointer (some ⟨W.heap.size, 4, none⟩) := hv 1 (by decide)
    have r2 : v 2 = .agg #[.int .u8 (k : Int), .slice pa pl pc, .int .i64 n, .string t, .slice da dl dc] := hv 2 (by decide)
    have r3 := hv 3 (by decide)
    have r4 : v 4 = .string (strB L) := hv 4 (by decide)
    have r5 := hv 5 (by decide)
    have r6 : v 6 = .slice a bn cap := hv 6 (by decide)
    have r7 := hv 7 (by decide)
    have r8 : v 8 = .pointer (some ⟨W.heap.size, 4, none⟩) := hv 8 (by decide)
    have r9 : v 9 = .agg #[.int .u8 (k : Int), .slice pa pl pc, .int .i64 n, .string t, .slice da dl dc] := hv 9 (by decide)
    have r10 := hv 10 (by decide)
    have r11 : v 11 = .string (strB L) := hv 11 (by decide)
    have r12 : v 12 = .bool false := hv 12 (by decide)
    simp only [Reg.putAll, Act.put, List.setIfInBounds_toArray, List.set_cons_zero, List.set_cons_succ, r0, r1, r2, r4, r6, r8, r9, r11, r12]
    clear r0 r1 r2 r4 r6 r8 r9 r11 r12 hv
    clear r3 r5 r7 r10
    have HX4 := Lib.hid (HX3.out.trans (hb2.mono HX3.out.size)); clear hb2
    have HB4 := Lib.hid (HBox.out.trans (HX4.out.mono HBox.out.size))
    obtain ⟨hc0, hc1, hc2, hc3, hc4, hc5, hc6, hc7, hc8⟩ := evcells HX4.out
    cases hm : Om.mayEvent ⟨((r, i), s), tm, ⟨k, p, n, t, d⟩⟩
    · have HM := Lib.hid hm; clear hm
      go_wp2_with fail
      refine (bytes_no r i s tm k hd0 HTm.out hk pa pl pc n HN1.out HN2.out t da dl dc p d _ (HP.out.below HB4.out) HPl.out (HR.out.below HB4.out) HDl.out HM.out).mono ?_
      rintro e w5 ⟨rfl, hb⟩
      have HX5 := Lib.hid (HX4.out.trans (hb.mono HX4.out.size)); have HB5 := Lib.hid (HB4.out.trans (hb.mono HB4.out.size)); clear hb hc0 hc1 hc2 hc3 hc4 hc5 hc6 hc7 hc8
      obtain ⟨hc0, hc1, hc2, hc3, hc4, hc5, hc6, hc7, hc8⟩ := evcells HX5.out
      go_wp2_with fail
      refine (refbytes_no r i s tm k hd0 HTm.out hk pa pl pc n HN1.out HN2.out t da dl dc p d _ (HP.out.below HB5.out) HPl.out (HR.out.below HB5.out) HDl.out HM.out).mono ?_
      rintro e w6 ⟨rfl, hb⟩
      have HB6 := Lib.hid (HB5.out.trans (hb.mono HB5.out.size)); clear hb hc0 hc1 hc2 hc3 hc4 hc5 hc6 hc7 hc8
      have hcv : Sem.run Try.prog (convert 42 9 (.slice none 0 0)) w6 = .ok (.string (strB [])) w6 := conv_row (w := w6) (⟨by simp, by omega, by simp, by simp, by simp⟩ : Row w6 none 0 []) rfl
      go_wp2_with fail
      refine (known04_any _).mono ?_
      rintro e w7 ⟨rfl, hb⟩
      have HF := Lib.hid (HB6.out.trans (hb.mono HB6.out.size)); clear hb hcv
      go_wp2_with fail
      go_ret
      exact ⟨rfl, HF.out⟩
    · have HM := Lib.hid hm; clear hm
      go_wp2_with fail
      refine (bytes_yes r i s tm k hd0 HTm.out hk pa pl pc n HN1.out HN2.out t da dl dc p d _ (HP.out.below HB4.out) HPl.out (HR.out.below HB4.out) HDl.out HM.out).mono ?_
      rintro e w5 ⟨v5, row5, rfl, hbb, hb⟩
      obtain ⟨bA, mA, cA, rfl, hrA, hmA⟩ := hbb.rowN
      have HX5 := Lib.hid (HX4.out.trans (hb.mono HX4.out.size)); have HB5 := Lib.hid (HB4.out.trans (hb.mono HB4.out.size)); have HRA := Lib.hid hrA; have HMA := Lib.hid hmA; clear hb hbb hrA hmA hc0 hc1 hc2 hc3 hc4 hc5 hc6 hc7 hc8
      obtain ⟨hc0, hc1, hc2, hc3, hc4, hc5, hc6, hc7, hc8⟩ := evcells HX5.out
      go_wp2_with fail
      refine (refbytes_yes r i s tm k hd0 HTm.out hk pa pl pc n HN1.out HN2.out t da dl dc p d _ (HP.out.below HB5.out) HPl.out (HR.out.below HB5.out) HDl.out HM.out).mono ?_
      rintro e w6 ⟨v6, row6, rfl, hbb, hb⟩
      obtain ⟨bC, mC, cC, rfl, hrC, hmC⟩ := hbb.rowN
      have HX6 := Lib.hid (HX5.out.trans (hb.mono HX5.out.size)); have HB6 := Lib.hid (HB5.out.trans (hb.mono HB5.out.size)); have HRA6 := Lib.hid (HRA.out.below hb)
      obtain ⟨E, hE⟩ : ∃ E, E = evE ⟨((r, i), s), tm, ⟨k, p, n, t, d⟩⟩ := ⟨_, rfl⟩
      have hcv1 := conv_row HRA6.out HMA.out
      have hcv2 := conv_row hrC hmC
      rw [← hE] at hcv1 hcv2
      have HE := Lib.hid hE
      have hmm : mA ≤ 1000000 := by
        have h1 := HMA.out; rw [← h1]; exact evE_length HSm.out
      clear hb hbb hrC hmC hE HRA hc0 hc1 hc2 hc3 hc4 hc5 hc6 hc7 hc8
      go_wp2_with fail
      refine (read_ok r i s tm hd0 HTm.out k hk pl n HN1.out HN2.out t dl p d HPl.out HDl.out HR.out.ok HM.out bA mA cA _ rfl _ HRA6.out HMA.out hmm).mono ?_
      rintro e w7 ⟨pa2, pc2, da2, dc2, rfl, hs7, hv7, hb⟩
      have HX7 := Lib.hid (HX6.out.trans (hb.mono HX6.out.size)); have HB7 := Lib.hid (HB6.out.trans (hb.mono HB6.out.size)); have HS7 := Lib.hid hs7; have HV7 := Lib.hid hv7; clear hb hs7 hv7 hcv1 hcv2
      have hbx := below_box w7 #[.int .u8 (r : Int), .int .u32 (i : Int), .int .u64 (s : Int), .int .u64 (tm : Int), .int .u8 (k : Int), .slice pa2 pl pc2, .int .i64 n, .string t, .slice da2 dl dc2] 33
      obtain ⟨hc0, hc1, hc2, hc3, hc4, hc5, hc6, hc7, hc8⟩ := evcells (HX7.out.trans (hbx.mono HX7.out.size))
      have HBx := Lib.hid hbx; clear hbx
      go_wp2_with fail
      have hb8 := HB7.out.trans (HBx.out.mono HB7.out.size)
      refine (refsameEvent_ok r i s tm k pa2 pl pc2 n t da2 dl dc2 pa pc da dc p d _ (HS7.out.below HBx.out) HPl.out (HV7.out.below HBx.out) HDl.out (HP.out.below hb8) (HR.out.below hb8)).mono ?_
      rintro e w8 ⟨rfl, hb⟩
      have HB8 := Lib.hid (hb8.trans (hb.mono hb8.size)); clear hb hb8
      go_wp2_with fail
      refine (known04_any _).mono ?_
      rintro e w9 ⟨rfl, hb⟩
      have HF := Lib.hid (HB8.out.trans (hb.mono HB8.out.size)); clear hb
      go_wp2_with fail
      go_ret
      exact ⟨rfl, HF.out⟩
end Go.Proofs.Ytpkfjgoimaomfaa
