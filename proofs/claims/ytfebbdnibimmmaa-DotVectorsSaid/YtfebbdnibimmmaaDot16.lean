import Derived.Test.YtfebbdnibimmmaaDot12
import Derived.Test.YtfebbdnibimmmaaCode1
namespace Go.Proofs.Ytfebbdnibimmmaa
open Go.RowKit Go.Buf
def dotB (d : Dt.Dot) : List Nat := Cd.num d.1.1 ++ Cd.num d.1.2 ++ Cd.num d.2
theorem num_length (n : Nat) : (Cd.num n).length ≤ 10 := (Cd.num_len n).2
/-- the buffer on its way: in w it is v, of bytes l, since W0, where it lay in row0; block g is another one -/
structure BT (B : Nat) (W0 : World) (row0 : Option Nat) (g : Nat) (w : World) (v : Value) (l : List Nat) (row : Option Nat) : Prop where
  bb : BB B w v l row
  grown : W0.grownBy w row0
  new : New W0 row0 row
  ne : ∀ k, row = some k → k ≠ g
  lt : g < w.heap.size
theorem num_bt {B : Nat} {W0 : World} {row0 : Option Nat} {g : Nat} {w : World} {v : Value} {l : List Nat} {row : Option Nat} {x y z : Value} (h : BT B W0 row0 g w v l row) (n : Nat) (hn : n < 18446744073709551616) (hsm : l.length + 10 ≤ 140737488355328)
    (h0 : w.cell? ⟨g, 0, none⟩ = some x ∧ w.cell? ⟨g, 1, none⟩ = some y ∧ w.cell? ⟨g, 2, none⟩ = some z) :
    Calls Try.prog 42 #[v, .int .u64 n] w fun e w' => ∃ v' row', e = .returned v' ∧ BT B W0 row0 g w' v' (l ++ Cd.num n) row' ∧ (w'.cell? ⟨g, 0, none⟩ = some x ∧ w'.cell? ⟨g, 1, none⟩ = some y ∧ w'.cell? ⟨g, 2, none⟩ = some z) := by
  refine (num_any B v l row n w h.bb hn hsm).mono ?_
  rintro e w' ⟨v', row', rfl, hb, hg, hnw⟩
  have hne : some g ≠ row := fun e => h.ne g e.symm rfl
  refine ⟨v', row', rfl, ⟨hb, grown_trans h.grown hg h.new, h.new.trans hnw h.grown.size, ?_, Nat.lt_of_lt_of_le h.lt hg.size⟩, hg.cell h0.1 (by simpa using hne), hg.cell h0.2.1 (by simpa using hne), hg.cell h0.2.2 (by simpa using hne)⟩
  rcases hnw with rfl | ⟨k, rfl, hk⟩
  · exact h.ne
  · intro j hj; cases hj; have := h.lt; omega
set_option maxRecDepth 100000 in
set_option maxHeartbeats 1600000 in
theorem bytesClosure (B : Nat) (v : Value) (l : List Nat) (row : Option Nat) (d : Dt.Dot) (W : World) (hd : Dt.okD d) (hb : BB B W v l row) (hsm : l.length + 40 ≤ 140737488355328) :
    Calls Try.prog 43 #[v, dotV d] W (RetBB B W row (l ++ dotB d)) := by
  obtain ⟨⟨r, i⟩, s⟩ := d
  obtain ⟨hr, hi, hs⟩ := hd
  simp only at hr hi hs
  have l1 := num_length r
  have l2 := num_length i
  have ht0 : BT B W row W.heap.size (W.alloc (.cells #[.int .u8 (r : Int), .int .u32 (i : Int), .int .u64 (s : Int)] 29)).drew v l row :=
    ⟨(hb.alloc _).below (Below.refl _ _).drew, ⟨rfl, rfl, rfl, by simp, fun k hk _ => Below.heap_alloc W _ k hk⟩, New.refl _ _, fun k hk => by have := (hb.2.row_le k hk).2; omega, by simp⟩
  have Hsm := Lib.hid hsm; have Hs := Lib.hid hs; have T0 := Lib.hid ht0; have L1 := Lib.hid l1; have L2 := Lib.hid l2
  clear hb hsm hs ht0 l1 l2
  go_enter Try.func43, Try.ntmps43
  go_wp2
  have hw1 : IntKind.u64.wrap (r : Int) = (r : Int) := by simp [IntKind.wrap, IntKind.bits, IntKind.signed]; omega
  have hw2 : IntKind.u64.wrap (i : Int) = (i : Int) := by simp [IntKind.wrap, IntKind.bits, IntKind.signed]; omega
  go_region_held3 (fun w' : World => w'.cell? ⟨W.heap.size, 0, none⟩ = some (.int .u8 (r : Int)) ∧ w'.cell? ⟨W.heap.size, 1, none⟩ = some (.int .u32 (i : Int)) ∧ w'.cell? ⟨W.heap.size, 2, none⟩ = some (.int .u64 (s : Int)))
    (first
      | assumption
      | go_keep)
    (first
      | (go_at_call 42; (with_reducible refine (num_bt T2.out s Hs.out (by have := Hsm.out; have := L1.out; have := L2.out; simp; omega) (by assumption)).mono ?_); rintro e w3 ⟨v3, row3, rfl, hb3, hS⟩; have T3 := Lib.hid hb3; clear hb3)
      | (go_at_call 42; (with_reducible refine (num_bt T1.out i (by omega) (by have := Hsm.out; have := L1.out; simp; omega) (by assumption)).mono ?_); rintro e w2 ⟨v2, row2, rfl, hb2, hS⟩; have T2 := Lib.hid hb2; clear hb2)
      | (go_at_call 42; (with_reducible refine (num_bt T0.out r (by omega) (by have := Hsm.out; omega) (by assumption)).mono ?_); rintro e w1 ⟨v1, row1, rfl, hb1, hS⟩; have T1 := Lib.hid hb1; clear hb1))
  clear hw1 hw2
  go_wp2
  go_ret
  exact ⟨v3, row3, rfl, by have := T3.out.bb; unfold dotB; rw [← List.append_assoc, ← List.append_assoc]; exact this, T3.out.grown, T3.out.new⟩
/-- the bytes of the dots that may be -/
def dotsB (l : List Dt.Dot) : List Nat := (l.filter fun d => Dt.may d).flatMap dotB
theorem dotsB_snoc (l : List Dt.Dot) (d : Dt.Dot) : dotsB (l ++ [d]) = dotsB l ++ if Dt.may d = true then dotB d else [] := by
  unfold dotsB
  rw [List.filter_append, List.flatMap_append]
  congr 1
  cases h : Dt.may d <;> simp [h]
theorem dotB_length (d : Dt.Dot) : (dotB d).length ≤ 30 := by
  unfold dotB; simp only [List.length_append]
  have := num_length d.1.1; have := num_length d.1.2; have := num_length d.2; omega
theorem dotsB_length (l : List Dt.Dot) : (dotsB l).length ≤ l.length * 30 := by
  induction l with
  | nil => simp [dotsB]
  | cons d r ih =>
    have h : dotsB (d :: r) = (if Dt.may d = true then dotB d else []) ++ dotsB r := by
      unfold dotsB; cases h : Dt.may d <;> simp [h]
    have := dotB_length d
    rw [h, List.length_append, List.length_cons]
    split <;> simp <;> omega
def dotsF (l : List Dt.Dot) (k : Nat) : List Nat := dotsB (l.take k)
theorem dotsF_succ {l : List Dt.Dot} {k : Nat} {d : Dt.Dot} (hd : l[k]? = some d) : dotsF l (k + 1) = dotsF l k ++ if Dt.may d = true then dotB d else [] := by
  unfold dotsF
  obtain ⟨hk, rfl⟩ := List.getElem?_eq_some_iff.1 hd
  rw [List.take_succ_eq_append_getElem hk, dotsB_snoc]
def RetB (W : World) (B : Nat) (row : Option Nat) (L : List Nat) (e : Ending) (w' : World) : Prop := ∃ v row', e = .returned v ∧ BB B w' v L row' ∧ Below B W w' ∧ New W row row'
set_option maxRecDepth 100000 in
set_option maxHeartbeats 1600000 in
theorem throughY (a : Option Addr) (n cap B : Nat) (v : Value) (pre : List Nat) (row : Option Nat) (l : List Dt.Dot) (w : World) (hr : VRow w a cap l) (hl : l.length = n) (hn : n ≤ 100000000) (hv : 0 < n → ∀ p, a = some p → p.block < B) (hb : BB B w v pre row) (hpre : pre.length ≤ 1000000000) :
    Calls Try.prog 41 #[.slice a n cap, v, .func (.func 43) #[] #[]] w (RetB w B row (pre ++ dotsB l)) := by
  have hle := hr.le
  have hcap := hr.cap
  have hBw := hb.2.1
  have HR := Lib.hid hr; have HL := Lib.hid hl; have HB := Lib.hid hb; have HV := Lib.hid hv; have HBw := Lib.hid hBw
  rw [hl] at hle
  clear hr hl hb hv hBw
  go_enter Try.func41, Try.ntmps41
  go_wp2
  go_loopw [1, 8, 11] (fun u _ i wr => ∃ (k : Nat) (r1 : Option Nat), k ≤ n ∧ i = .int .i64 k ∧ BB B wr u (pre ++ dotsF l k) r1 ∧ Below B w wr ∧ w.heap.size ≤ wr.heap.size ∧ New w row r1) (fun _ _ i _ => n - (intOf i).toNat)
  case atStart => exact ⟨0, row, Nat.zero_le _, rfl, by simpa [dotsF, dotsB] using HB.out, Below.refl _ _, Nat.le_refl _, New.refl _ _⟩
  case round =>
    obtain ⟨k, r1, hk, rfl, hbb, hbel, hsz, hnew⟩ := hrel
    have HBel := Lib.hid hbel; have HBb := Lib.hid hbb; have HSz := Lib.hid hsz; have HNew := Lib.hid hnew; clear hbel hbb hsz hnew
    by_cases hlt : k < n
    · obtain ⟨d, hd⟩ := getD_some (l := l) (i := k) (by rw [HL.out]; exact hlt)
      have hrow := HR.out.belowB (HV.out (by omega)) HBel.out
      have hokd := HR.out.ok d (List.mem_of_getElem? hd)
      obtain ⟨blk, off, rfl, hblk, hcells⟩ := hrow.at (by rw [HL.out]; omega)
      obtain ⟨q0, q1, q2⟩ := hcells k d hd
      have Hd := Lib.hid (dotsF_succ hd); have HO := Lib.hid hokd
      have hlen : (pre ++ dotsF l k).length + 40 ≤ 140737488355328 := by
        have h1 := dotsB_length (l.take k)
        have h2 : (l.take k).length ≤ k := List.length_take_le _ _
        rw [List.length_append]; unfold dotsF; omega
      have Hlen := Lib.hid hlen
      clear hcells hd hokd hrow hlen
      cases hm : Dt.may d
      · have Hm := Lib.hid hm
        obtain ⟨⟨r, i⟩, s⟩ := d
        simp only at q0 q1 q2
        go_wp2_with fail
        refine (may_any r i s _).mono ?_
        rintro e w1 ⟨rfl, hb⟩
        have HBm := Lib.hid hb; clear hb
        go_wp2_with fail
        clear q0 q1 q2 hm
        have hbb : Below wr.heap.size wr w1 := ((Below.refl _ _).alloc (Nat.le_refl _) _).trans (HBm.out.mono (by simp))
        go_roundw
        case rel => exact ⟨k + 1, _, by omega, by go_num, by rw [Hd.out, Hm.out]; simpa using HBb.out.below hbb, HBel.out.trans (hbb.mono HBb.out.2.1), Nat.le_trans HSz.out hbb.size, HNew.out⟩
        case measure => simp [intOf]; omega
      · have Hm := Lib.hid hm
        obtain ⟨⟨r, i⟩, s⟩ := d
        simp only at q0 q1 q2
        go_wp2_with fail
        refine (may_any r i s _).mono ?_
        rintro e w1 ⟨rfl, hb⟩
        obtain ⟨hc, hf⟩ := bcell hb
        have hbb : Below wr.heap.size wr w1 := ((Below.refl _ _).alloc (Nat.le_refl _) _).trans (hb.mono (by simp))
        have HBm := Lib.hid hbb; clear hb hbb
        go_wp2_with fail
        refine (bytesClosure B _ (pre ++ dotsF l k) r1 ((r, i), s) _ HO.out (HBb.out.below HBm.out) Hlen.out).mono ?_
        rintro e w2 ⟨v2, r2, rfl, hb2, hg2, hn2⟩
        have HN := Lib.hid hb2; have HG := Lib.hid hg2; have HN2 := Lib.hid hn2
        clear hc hf q0 q1 q2 hm hb2 hg2 hn2
        go_wp2_with fail
        have hw1 : w1.heap.size ≥ w.heap.size := Nat.le_trans HSz.out HBm.out.size
        have hb3 : Below B w w2 := (HBel.out.trans (HBm.out.mono HBb.out.2.1)).grown HG.out (by have := HBw.out; omega) (fun j hj => ((HBb.out.below HBm.out).2.row_le j hj).1)
        go_roundw
        case rel => exact ⟨k + 1, r2, by omega, by go_num, by rw [Hd.out, if_pos Hm.out, ← List.append_assoc]; exact HN.out, hb3, Nat.le_trans hw1 HG.out.size, HNew.out.trans HN2.out hw1⟩
        case measure => simp [intOf]; omega
    · have hfin : dotsF l k = dotsB l := by
        unfold dotsF
        rw [List.take_of_length_le (by rw [HL.out]; omega)]
      have Hfin := Lib.hid hfin; clear hfin
      have Hk := Lib.hid hk; clear hk
      go_wp2
      go_ret
      exact ⟨_, r1, rfl, by rw [← Hfin.out]; exact HBb.out, HBel.out, HNew.out⟩
def vecB (l : List Dt.Dot) : List Nat := Cd.num (Dt.canon l).length ++ dotsB (Dt.canon l)
set_option maxHeartbeats 800000 in
theorem bytes_any (a : Option Addr) (n cap : Nat) (l : List Dt.Dot) (w : World) (hr : VRow w a cap l) (hl : l.length = n) (hn : n ≤ 100000000) :
    Calls Try.prog 27 #[.slice a n cap] w fun e w' => ∃ v row, e = .returned v ∧ BB w.heap.size w' v (vecB l) row ∧ Below w.heap.size w w' := by
  have hvl := Dt.vec_length (Dt.get l)
  have HR := Lib.hid hr; have HL := Lib.hid hl
  clear hr hl
  go_enter Try.func27, Try.ntmps27
  go_wp2_with fail
  refine (canon_any a n cap l w HR.out HL.out hn).mono ?_
  rintro e w1 ⟨a1, c1, rfl, hr1, hb1⟩
  have HR1 := Lib.hid hr1; have HB1 := Lib.hid hb1
  have hlen : (Dt.canon l).length ≤ 64 := hvl
  clear hr1 hb1 hvl
  generalize hL : Dt.canon l = L at HR1 hlen ⊢
  have HLL := Lib.hid hL; clear hL
  go_wp2_with fail
  refine (num_any w1.heap.size _ [] none L.length w1 (BB.nil (Nat.le_refl _)) (by omega) (by simp)).mono ?_
  rintro e w2 ⟨v2, r2, rfl, hb2, hg2, hn2⟩
  rw [List.nil_append] at hb2
  have hbel2 : Below w1.heap.size w1 w2 := (Below.refl _ _).grown hg2 (Nat.le_refl _) (fun k hk => by cases hk)
  have HB2 := Lib.hid hb2; have HBel2 := Lib.hid hbel2
  clear hb2 hbel2 hg2 hn2
  go_wp2_with fail
  refine (throughY a1 L.length c1 w1.heap.size v2 (Cd.num L.length) r2 L w2 (HR1.out.below HBel2.out) rfl (by omega) (fun h => HR1.out.lt h) HB2.out (by have := num_length L.length; omega)).mono ?_
  rintro e w3 ⟨v3, r3, rfl, hb3, hbel3, hn3⟩
  have HB3 := Lib.hid hb3; have HBel3 := Lib.hid hbel3
  clear hb3 hbel3 hn3
  go_wp2_with fail
  go_ret
  refine ⟨v3, r3, rfl, ?_, (HB1.out.trans (HBel2.out.mono HB1.out.size)).trans (HBel3.out.mono HB1.out.size)⟩
  unfold vecB; rw [HLL.out]; exact HB3.out.base HB1.out.size
end Go.Proofs.Ytfebbdnibimmmaa
