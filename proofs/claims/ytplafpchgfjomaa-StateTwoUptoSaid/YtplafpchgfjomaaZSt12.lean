import Derived.Test.YtplafpchgfjomaaZSt11
import Derived.Test.YtplafpchgfjomaaZTree3
import Derived.Test.YtplafpchgfjomaaZOp8
import Derived.Test.YtplafpchgfjomaaZBuf
/- put and Bytes of a tree. -/
namespace Go.Proofs.Ytplafpchgfjomaa
open Go.RowKit Go.Buf Go.LB
set_option linter.unusedSimpArgs false
set_option linter.unusedVariables false
def TB (B : Nat) (W : World) (row : Option Nat) (w : World) (v : Value) (L : List Nat) : Prop := ∃ row', BB B w v L row' ∧ W.grownBy w row ∧ New W row row'
theorem TB.start {B : Nat} {W : World} {row : Option Nat} {v : Value} {L : List Nat} (h : BB B W v L row) : TB B W row W v L := ⟨row, h, grown_refl _ _, New.refl _ _⟩
def StayA (w w' : World) : Prop := ∀ b T cs, Blk w b T cs → T ≠ 5 → Blk w' b T cs
theorem TB.call {B : Nat} {W w : World} {row : Option Nat} {v : Value} {L L' : List Nat} {f : FuncId} {args : Array Value} (h : TB B W row w v L) (hc : ∀ row', BB B w v L row' → Calls Try.prog f args w (RetBB B w row' L')) :
  Calls Try.prog f args w fun e w' => ∃ v', e = .returned v' ∧ TB B W row w' v' L' ∧ StayA w w' := by
 obtain ⟨row', hb, hg, hn⟩ := h
 refine (hc row' hb).mono ?_
 rintro e w' ⟨v', row2, rfl, h1, h2, h3⟩
 exact ⟨v', rfl, ⟨row2, h1, grown_trans hg h2 hn, hn.trans h3 hg.size⟩, fun b T cs hk hT => hk.grown h2 (bb_row_ne hb hk hT)⟩
theorem TB.alloc {B : Nat} {W w : World} {row : Option Nat} {v : Value} {L : List Nat} (h : TB B W row w v L) (o : Obj) : TB B W row (w.alloc o) v L := by
 obtain ⟨row', h1, h2, h3⟩ := h
 exact ⟨row', h1.alloc o, ⟨h2.os, h2.tape, h2.output, Nat.le_trans h2.size (by simp), fun k hk hn => ((World.grownBy_alloc w o none).block k (Nat.lt_of_lt_of_le hk h2.size) (by simp)).trans (h2.block k hk hn)⟩, h3⟩
theorem TB.drew {B : Nat} {W w : World} {row : Option Nat} {v : Value} {L : List Nat} (h : TB B W row w v L) : TB B W row w.drew v L := by
 obtain ⟨row', h1, h2, h3⟩ := h
 exact ⟨row', h1.below (Below.refl _ _).drew, ⟨h2.os, h2.tape, h2.output, h2.size, h2.block⟩, h3⟩
theorem TB.below {B : Nat} {W w X : World} {row : Option Nat} {v : Value} {L : List Nat} (h : TB B W row w v L) (hX : Below B X W) (hB : B ≤ X.heap.size) (hr : ∀ k, row = some k → B ≤ k) : Below B X w := by
 obtain ⟨row', h1, h2, h3⟩ := h
 exact hX.trans (below_of_grown h2 (Nat.le_trans hB hX.size) hr)
theorem TB.ret {B : Nat} {W w : World} {row : Option Nat} {v : Value} {L : List Nat} (h : TB B W row w v L) : RetBB B W row L (.returned v) w := by
 obtain ⟨row', h1, h2, h3⟩ := h
 exact ⟨v, row', rfl, h1, h2, h3⟩
theorem nodecells {w : World} {b : Nat} {x y z : Value} (h : Blk w b 47 [x, y, z]) : w.cell? ⟨b, 0, none⟩ = some x ∧ w.cell? ⟨b, 1, none⟩ = some y ∧ w.cell? ⟨b, 2, none⟩ = some z := ⟨h.cell 0, h.cell 1, h.cell 2⟩
set_option maxRecDepth 100000 in
set_option maxHeartbeats 12800000 in
theorem put_of (g : List Tm.N → List Nat) (X W : World) (v : Value) (l : List Nat) (row : Option Nat) (dd : Nat) (a : Option Addr) (n cap : Nat) (t : List Tm.N) (hb : BB X.heap.size W v l row) (hX : Below X.heap.size X W) (ht : TRow X dd a cap t) (hn : t.length = n)
  (hrec : ∀ x ∈ t, ∀ (w : World) (v : Value) (l' : List Nat) (row' : Option Nat) (d' : Nat) (ba : Option Addr) (bc : Nat), BB X.heap.size w v l' row' → Below X.heap.size X w → TRow X d' ba bc x.under → l'.length + (g x.under).length ≤ 1000000000 → Calls Try.prog 11 #[v, .slice ba x.under.length bc] w (RetBB X.heap.size w row' (l' ++ g x.under)))
  (hsm : l.length + (Cd.num n ++ t.flatMap (ndE g)).length ≤ 1000000000) (hnn : n ≤ 1000000000) :
  Calls Try.prog 11 #[v, .slice a n cap] W (RetBB X.heap.size W row (l ++ (Cd.num n ++ t.flatMap (ndE g)))) := by
 have hrl := hb.2.row_le
 have hw0 : IntKind.u64.wrap (n : Int) = (n : Int) := by simp [IntKind.wrap, IntKind.bits, IntKind.signed]; omega
 have hsl : l.length ≤ 1000000000 := by omega
 have hle := ht.le
 have hcap := ht.cap
 rw [hn] at hle
 have HT := Lib.hid ht; have HN := Lib.hid hn; have HRec := Lib.hid hrec; have HSL := Lib.hid hsl
 have HBel := Lib.hid (show ∀ w v L, TB X.heap.size W row w v L → Below X.heap.size X w from fun w v L h => h.below hX (Nat.le_refl _) (fun k e => (hrl k e).1))
 have H0 := Lib.hid (TB.start hb)
 obtain ⟨A, hA⟩ : ∃ A, A = l ++ Cd.num n := ⟨_, rfl⟩
 have hfin : l ++ (Cd.num n ++ t.flatMap (ndE g)) = A ++ t.flatMap (ndE g) := by rw [hA, List.append_assoc]
 have hAl : A.length ≤ 1000000010 ∧ A.length + (t.flatMap (ndE g)).length ≤ 1000000000 := by
  have a1 := num_lenO n
  rw [List.length_append] at hsm
  rw [hA, List.length_append]; omega
 have HA := Lib.hid hA; have HAl := Lib.hid hAl; have HFin := Lib.hid hfin
 clear hb hX ht hn hrec hsm hrl hsl hA hfin hAl
 go_enter Try.func11, Try.ntmps11
 go_wp2_with fail
 refine (H0.out.call (fun row' hb => num_any X.heap.size v l row' n W hb (by omega) (by have := HSL.out; omega))).mono ?_
 rintro e w1 ⟨v1, rfl, h1, _⟩
 rw [← HA.out] at h1
 have H1 := Lib.hid h1
 clear h1
 go_wp2_with fail
 go_loopw [0, 6, 16] (fun u _ zz wr => ∃ j : Nat, j ≤ n ∧ zz = .int .i64 j ∧ TB X.heap.size W row wr u (A ++ upE (ndE g) t j)) (fun _ _ zz _ => n - (intOf zz).toNat)
 case atStart => exact ⟨0, Nat.zero_le _, rfl, by rw [upE_zero, List.append_nil]; exact H1.out⟩
 case round =>
  obtain ⟨j, hj, rfl, htb⟩ := hrel
  have HTb := Lib.hid htb; clear htb
  by_cases hlt : j < n
  ·obtain ⟨x, hx⟩ := someN (l := t) (i := j) (by rw [HN.out]; exact hlt)
   have hbx := HBel.out _ _ _ HTb.out
   have hmem := List.mem_of_getElem? hx
   obtain ⟨dm, b, off, _, rfl, hblt, hc⟩ := HT.out.at (by rw [HN.out]; omega)
   obtain ⟨⟨s1, s2, s3⟩, la, lc, ba, bc, ⟨q0, q1, q2⟩, hlr, htr⟩ := hc j x hx
   replace q0 := bcell_of hbx q0
   replace q1 := bcell_of hbx q1
   replace q2 := bcell_of hbx q2
   have hup := upE_succ (f := ndE g) hx
   have hule := upE_le (ndE g) t (j + 1)
   have hrx := HRec.out x hmem
   obtain ⟨nm, ls, us⟩ := x
   simp only [Tm.N.name_mk, Tm.N.leaves_mk, Tm.N.under_mk] at q0 q1 q2 hlr htr s1 s2 s3 hrx
   obtain ⟨ll, hll⟩ : ∃ m, ls.length = m := ⟨_, rfl⟩
   obtain ⟨bl, hbl⟩ : ∃ m, us.length = m := ⟨_, rfl⟩
   rw [hll] at q1
   rw [hbl] at q2 hrx
   have hll2 : ll ≤ 100000000 := by omega
   have hlle := hlr.le
   have hlcap := hlr.cap
   rw [hll] at hlle
   have hpart : (upE (ndE g) t j).length + ((txtE nm).length + (Cd.num ll).length + (ls.flatMap lfE).length + (g us).length) = (upE (ndE g) t (j + 1)).length := by
    rw [hup, List.length_append]; simp only [ndE, Tm.N.name_mk, Tm.N.leaves_mk, Tm.N.under_mk, List.length_append, hll]; omega
   have hwl : IntKind.u64.wrap (ll : Int) = (ll : Int) := by simp [IntKind.wrap, IntKind.bits, IntKind.signed]; omega
   have i0 : (0 : Int) ≤ (j : Int) := by omega
   have i1 : (j : Int) < (n : Int) := by omega
   have HUp := Lib.hid hup; have HULe := Lib.hid hule; have HRx := Lib.hid hrx; have HLR := Lib.hid hlr; have HTR := Lib.hid htr; have HLl := Lib.hid hll; have HPart := Lib.hid hpart; have HS1 := Lib.hid s1; have HLl2 := Lib.hid hll2
   clear hbx hmem hc hx hup hule hrx hlr htr hll hpart s1 s2 s3 hbl hll2
   go_wp2_with fail
   have hnb := (Blk.new wr #[.string nm, .slice la ll lc, .slice ba bl bc] 47).below (Below.refl _ _).drew
   have hS := nodecells hnb
   have T0 := Lib.hid (HTb.out.alloc (.cells #[.string nm, .slice la ll lc, .slice ba bl bc] 47)).drew
   have HNb := Lib.hid hnb
   clear hnb q0 q1 q2
   go_region_held3 (fun w' : World => w'.cell? ⟨wr.heap.size, 0, none⟩ = some (.string nm) ∧ w'.cell? ⟨wr.heap.size, 1, none⟩ = some (.slice la ll lc) ∧ w'.cell? ⟨wr.heap.size, 2, none⟩ = some (.slice ba bl bc))
    (first
     | assumption
     | go_keep)
    (first
     | (go_at_call 19; (with_reducible refine (T1.out.call (fun row' hb => num_any X.heap.size _ _ row' ll _ hb (by have := HLl2.out; omega) (by have := HAl.out; have := HULe.out; have := HPart.out; have := HS1.out; have := txtE_length nm; unfold txtE at this; rw [List.length_append] at this; simp only [List.length_append]; omega))).mono ?_); rintro e w4 ⟨v4, rfl, h4, hst4⟩; have hn4 := hst4 _ _ _ HN1.out (by decide); have hS := nodecells hn4; have T2 := Lib.hid h4; have HN2 := Lib.hid hn4; clear h4 hst4 hn4)
     | (go_at_call 20; (with_reducible refine (T0.out.call (fun row' hb => text_any X.heap.size _ _ row' nm _ hb (by have := HS1.out; omega) (by have := HAl.out; have := HULe.out; have := HPart.out; have := HS1.out; simp only [List.length_append]; omega))).mono ?_); rintro e w3 ⟨v3, rfl, h3, hst3⟩; have hn3 := hst3 _ _ _ HNb.out (by decide); have hS := nodecells hn3; have T1 := Lib.hid h3; have HN1 := Lib.hid hn3; clear h3 hst3 hn3))
   obtain ⟨A1, hA1⟩ : ∃ A1, A1 = A ++ upE (ndE g) t j ++ (Cd.num nm.size ++ strL nm) ++ Cd.num ll := ⟨_, rfl⟩
   have hb2 := T2.out
   rw [← hA1] at hb2
   have hA1l : A1.length + (ls.flatMap lfE).length + (g us).length ≤ 1000000000 := by
    have a1 := HAl.out; have a2 := HULe.out; have a3 := HPart.out
    unfold txtE at a3
    rw [List.length_append] at a3
    rw [hA1]; simp only [List.length_append]; omega
   have HA1 := Lib.hid hA1; have HA1l := Lib.hid hA1l; have U2 := Lib.hid hb2
   obtain ⟨d0, d1, d2⟩ := nodecells HN2.out
   clear hA1 hA1l hb2 hS
   go_wp2_with fail
   go_loopw [0, 8, 32] (fun u _ zz wr2 => ∃ j2 : Nat, j2 ≤ ll ∧ zz = .int .i64 j2 ∧ TB X.heap.size W row wr2 u (A1 ++ upE lfE ls j2) ∧ Blk wr2 wr.heap.size 47 [.string nm, .slice la ll lc, .slice ba bl bc]) (fun _ _ zz _ => ll - (intOf zz).toNat)
   case atStart => exact ⟨0, Nat.zero_le _, rfl, by rw [upE_zero, List.append_nil]; exact U2.out, HN2.out⟩
   case round =>
    obtain ⟨j2, hj2, rfl, htb2, hnk2⟩ := hrel
    have HTb2 := Lib.hid htb2; have HNk2 := Lib.hid hnk2
    clear htb2 hnk2 d0 d1 d2
    by_cases hlt2 : j2 < ll
    ·obtain ⟨y, hy⟩ := someL (l := ls) (i := j2) (by rw [HLl.out]; exact hlt2)
     have hbx2 := HBel.out _ _ _ HTb2.out
     obtain ⟨lb, loff, rfl, hlblt, hlc⟩ := HLR.out.at (by rw [HLl.out]; omega)
     obtain ⟨hok, ia, ic, da, dc, ⟨c0, c1, c2, c3, c4, c5, c6, c7, c8⟩, hir, hvr⟩ := hlc j2 y hy
     replace c0 := bcell_of hbx2 c0; replace c1 := bcell_of hbx2 c1; replace c2 := bcell_of hbx2 c2; replace c3 := bcell_of hbx2 c3; replace c4 := bcell_of hbx2 c4; replace c5 := bcell_of hbx2 c5; replace c6 := bcell_of hbx2 c6; replace c7 := bcell_of hbx2 c7; replace c8 := bcell_of hbx2 c8
     have hupl := upE_succ (f := lfE) hy
     have hulel := upE_le lfE ls j2
     have hge := flat_ge lfE (List.mem_of_getElem? hy)
     obtain ⟨yk, yn, yt, ⟨⟨yr, yi⟩, ys⟩, yu, li, ld⟩ := y
     obtain ⟨ok1, ok2, ok3, ok4, ok5, ok6, ok7⟩ := hok
     simp only at c0 c1 c2 c3 c4 c5 c6 c7 c8 hir hvr ok1 ok2 ok3 ok4 ok5 ok6 ok7
     obtain ⟨il, hil⟩ : ∃ m, li.length = m := ⟨_, rfl⟩
     obtain ⟨dl, hdl⟩ : ∃ m, ld.length = m := ⟨_, rfl⟩
     rw [hil] at c7 ok6
     rw [hdl] at c8 ok7
     have hti : (li.flatMap itE).length ≤ 1000000000 := by
      have a1 := HA1l.out
      simp only [lfE, List.length_append] at hge
      omega
     have k0 : (0 : Int) ≤ (j2 : Int) := by omega
     have k1 : (j2 : Int) < (ll : Int) := by omega
     have hllb := HLl2.out
     have HUpl := Lib.hid hupl; have HULl := Lib.hid hulel; have HIr := Lib.hid hir; have HVr := Lib.hid hvr; have HIl := Lib.hid hil; have HDl := Lib.hid hdl; have HTi := Lib.hid hti
     have HO1 := Lib.hid ok1; have HO2 := Lib.hid ok2; have HO3 := Lib.hid ok3; have HO4 := Lib.hid ok4; have HO5 := Lib.hid ok5; have HO6 := Lib.hid ok6; have HO7 := Lib.hid ok7; have HBx2 := Lib.hid hbx2
     clear hupl hulel hge hir hvr hil hdl hti ok1 ok2 ok3 ok4 ok5 ok6 ok7 hbx2 hlc hy
     go_wp2_with fail
     refine ((HTb2.out.alloc _).call (fun row' hb => putLeaf_any hb (HBel.out _ _ _ (HTb2.out.alloc _)) yk HO1.out yn HO2.out yt HO3.out yr yi ys HO4.out yu HO5.out ia il ic da dl dc li ld HIr.out HIl.out HVr.out HDl.out HO6.out HO7.out HTi.out (by have := HA1l.out; have := HULl.out; rw [List.length_append]; omega))).mono ?_
     rintro e w7 ⟨v7, rfl, h7, hst7⟩
     rw [List.append_assoc, ← HUpl.out] at h7
     have hn7 := hst7 _ _ _ (Blk.grown (row := none) HNk2.out (World.grownBy_alloc _ _ none) (by simp)) (by decide)
     have H7 := Lib.hid h7; have HN7 := Lib.hid hn7
     clear h7 hst7 hn7 c0 c1 c2 c3 c4 c5 c6 c7 c8
     go_wp2_with fail
     go_roundw
     case rel => exact ⟨j2 + 1, by omega, by go_num, H7.out, HN7.out⟩
     case measure => simp [intOf]; omega
    ·obtain rfl : j2 = ll := by omega
     have hfl := HTb2.out
     rw [upE_all lfE (by rw [HLl.out]; omega)] at hfl
     have U3 := Lib.hid hfl
     obtain ⟨d0, d1, d2⟩ := nodecells HNk2.out
     clear hfl
     go_wp2_with fail
     refine (U3.out.call (fun row' hb => HRx.out _ _ _ row' dm ba bc hb (HBel.out _ _ _ U3.out) HTR.out (by have := HA1l.out; rw [List.length_append]; omega))).mono ?_
     rintro e w8 ⟨v8, rfl, h8, _⟩
     rw [show A1 ++ ls.flatMap lfE ++ g us = A ++ upE (ndE g) t (j + 1) from by rw [HA1.out, HUp.out]; simp only [ndE, txtE, Tm.N.name_mk, Tm.N.leaves_mk, Tm.N.under_mk, HLl.out, List.append_assoc]] at h8
     have H8 := Lib.hid h8
     clear h8 d0 d1 d2
     go_wp2_with fail
     go_roundw
     case rel => exact ⟨j + 1, by omega, by go_num, H8.out⟩
     case measure => simp [intOf]; omega
  ·obtain rfl : j = n := by omega
   have hfl := HTb.out
   rw [upE_all (ndE g) (by rw [HN.out]; omega), ← HFin.out] at hfl
   have U3 := Lib.hid hfl
   clear hfl
   go_wp2_with fail
   go_ret
   exact U3.out.ret
end Go.Proofs.Ytplafpchgfjomaa
/- put and Bytes of a tree that may be. -/
namespace Go.Proofs.Ytplafpchgfjomaa
open Go.RowKit Go.Buf Go.LB
set_option linter.unusedSimpArgs false
set_option linter.unusedVariables false
theorem ndE_pos (g : List Tm.N → List Nat) (x : Tm.N) : 1 ≤ (ndE g x).length := by
 have := num_pos x.leaves.length
 simp only [ndE, List.length_append]; omega
theorem flat_count (g : List Tm.N → List Nat) (t : List Tm.N) : t.length ≤ (t.flatMap (ndE g)).length := by
 induction t with
 | nil => simp
 | cons x t ih => have := ndE_pos g x; simp only [List.flatMap_cons, List.length_append, List.length_cons]; omega
theorem sput_any : ∀ (m : Nat) (X W : World) (v : Value) (l : List Nat) (row : Option Nat) (d : Nat) (a : Option Addr) (n cap : Nat) (t : List Tm.N), BB X.heap.size W v l row → Below X.heap.size X W → TRow X d a cap t → t.length = n → deepT m t → l.length + (trE m t).length ≤ 1000000000 →
  Calls Try.prog 11 #[v, .slice a n cap] W (RetBB X.heap.size W row (l ++ trE m t))
 | 0, X, W, v, l, row, d, a, n, cap, t, hb, hX, ht, hn, hd, hsm => by
  have ht0 : t = [] := hd
  subst ht0
  obtain rfl : n = 0 := by simpa using hn.symm
  have h := put_of (fun _ => []) X W v l row d a 0 cap [] hb hX ht rfl (fun x hx => by cases hx) (by simpa [trE] using hsm) (by omega)
  simpa [trE] using h
 | m + 1, X, W, v, l, row, d, a, n, cap, t, hb, hX, ht, hn, hd, hsm => by
  subst hn
  refine put_of (trE m) X W v l row d a t.length cap t hb hX ht rfl (fun x hx w v l' row' d' ba bc hb' hX' ht' hsm' => sput_any m X w v l' row' d' ba x.under.length bc x.under hb' hX' ht' rfl (hd x hx) hsm') hsm ?_
  have := flat_count (trE m) t
  simp only [trE, List.length_append] at hsm
  omega
set_option maxRecDepth 100000 in
set_option maxHeartbeats 3200000 in
theorem sbytes_any (d : Nat) (a : Option Addr) (n cap : Nat) (t : List Tm.N) (W : World) (ht : TRow W d a cap t) (hn : t.length = n) (hsm : Tm.may strLt 3 t = true → (trE 3 t).length ≤ 1000000000) (hn2 : n ≤ 100000000) :
  Calls Try.prog 6 #[.slice a n cap] W fun e w' => ((Tm.may strLt 3 t = false ∧ e = .returned (.tuple #[.slice none 0 0, .int .i64 2])) ∨ (Tm.may strLt 3 t = true ∧ ∃ v row, e = .returned (.tuple #[v, .int .i64 0]) ∧ BB W.heap.size w' v (trE 3 t) row)) ∧ Below W.heap.size W w' := by
 have HT := Lib.hid ht; have HN := Lib.hid hn; have HSM := Lib.hid hsm; have HN2 := Lib.hid hn2
 clear ht hn hsm hn2
 go_enter Try.func6, Try.ntmps6
 go_wp2_with fail
 refine (treeMay_any d a n cap t W HT.out HN.out).mono ?_
 rintro e w1 ⟨rfl, hb⟩
 have HB := Lib.hid hb; clear hb
 cases hmay : Tm.may strLt 3 t with
 | false =>
  have HM := Lib.hid hmay; clear hmay
  go_wp2_with fail
  go_ret2
  exact ⟨Or.inl ⟨HM.out, rfl⟩, HB.out⟩
 | true =>
  have HM := Lib.hid hmay; clear hmay
  have hdeep : deepT 3 t := deepT_of_takes 3 t (takesT_of_may strLt 3 t (okT_of_row 3 HT.out) (by have := HN.out; have := HN2.out; omega) HM.out)
  have HD := Lib.hid hdeep; clear hdeep
  go_wp2_with fail
  refine (sput_any 3 w1 w1 (.slice none 0 0) [] none d a n cap t (BB.nil (Nat.le_refl _)) (Below.refl _ _) (TRow.below HB.out HT.out) HN.out HD.out (by have := HSM.out HM.out; simpa using this)).mono ?_
  rintro e w2 ⟨v2, row2, rfl, h1, h2, h3⟩
  have H1 := Lib.hid h1
  have HB2 := Lib.hid (HB.out.grown h2 HB.out.size (fun k e => by cases e))
  clear h1 h2 h3
  go_wp2_with fail
  go_ret2
  exact ⟨Or.inr ⟨HM.out, v2, row2, rfl, by simpa using H1.out.base HB.out.size⟩, HB2.out⟩
end Go.Proofs.Ytplafpchgfjomaa
/- Reading what may be cut off: one contract a read, for all that is there and for a part of it. -/
namespace Go.Proofs.Ytplafpchgfjomaa
open Go.RowKit Go.Buf Go.LB
set_option linter.unusedSimpArgs false
set_option linter.unusedVariables false
def RdX (w : World) (p : Nat) (E z : List Nat) (er : Nat) : Prop := ∃ l, RdrS w p l er ∧ ((er = 0 ∧ l ++ z = E) ∨ (z ≠ [] ∧ er ≠ 0))
theorem RdX.below {w w' : World} {p : Nat} {E z : List Nat} {er : Nat} (h : RdX w p E z er) (hb : Below w.heap.size w w') : RdX w' p E z er := by
 obtain ⟨l, h, g⟩ := h; exact ⟨l, h.below hb, g⟩
theorem RdX.grown {w w' : World} {p : Nat} {E z : List Nat} {er : Nat} {row : Option Nat} (h : RdX w p E z er) (hg : w.grownBy w' row) (hr : ∀ k, row = some k → p < k) : RdX w' p E z er := by
 obtain ⟨l, h, g⟩ := h; exact ⟨l, h.grown hg hr, g⟩
theorem RdX.setCell {w : World} {p g : Nat} {E z : List Nat} {er : Nat} (h : RdX w p E z er) (hg : p < g) (o : Nat) (x : Value) : RdX (w.setCell ⟨g, o, none⟩ x) p E z er := by
 obtain ⟨l, h, e⟩ := h; exact ⟨l, h.setCell hg o x, e⟩
theorem RdX.lt {w : World} {p : Nat} {E z : List Nat} {er : Nat} (h : RdX w p E z er) : p < w.heap.size := by obtain ⟨l, h, g⟩ := h; exact h.lt
theorem RdX.bad {w : World} {p : Nat} {E z : List Nat} {er : Nat} (h : RdX w p E z er) (he : er ≠ 0) (E' : List Nat) : RdX w p E' z er := by
 obtain ⟨l, h, g⟩ := h
 refine ⟨l, h, ?_⟩
 rcases g with g | g
 ·exact absurd g.1 he
 ·exact Or.inr g
theorem RdX.zne {w : World} {p : Nat} {E z : List Nat} {er : Nat} (h : RdX w p E z er) (he : er ≠ 0) : z ≠ [] := by
 obtain ⟨l, h, g⟩ := h
 rcases g with g | g
 ·exact absurd g.1 he
 ·exact g.1
theorem RdX.cut {w : World} {p : Nat} {z : List Nat} {er : Nat} (h : RdX w p [] z er) (hz : z ≠ []) : er ≠ 0 := by
 obtain ⟨l, h, g⟩ := h
 rcases g with g | g
 ·have := (List.append_eq_nil_iff.1 g.2).2; exact absurd this hz
 ·exact g.2
theorem RdX.whole {w : World} {p : Nat} {E : List Nat} {er : Nat} (h : RdX w p E [] er) : er = 0 ∧ RdrS w p E 0 := by
 obtain ⟨l, h, g⟩ := h
 rcases g with ⟨rfl, g⟩ | g
 ·rw [List.append_nil] at g; subst g; exact ⟨rfl, h⟩
 ·exact absurd rfl g.1
theorem pre_split {l z u R : List Nat} (h : l ++ z = u ++ R) : (∃ c, l = u ++ c ∧ c ++ z = R) ∨ (z ≠ [] ∧ ∃ m, m < u.length ∧ l = u.take m ∧ m = l.length) := by
 rcases List.append_eq_append_iff.1 h with ⟨a, h1, h2⟩ | ⟨c, h1, h2⟩
 ·cases a with
  | nil => left; exact ⟨[], by simpa using h1.symm, by simpa using h2⟩
  | cons x r =>
   right
   refine ⟨by rw [h2]; simp, l.length, by rw [h1]; simp, by rw [h1]; simp, rfl⟩
 ·left; exact ⟨c, h1, h2.symm⟩
theorem numR_x {l z R : List Nat} {n : Nat} (hn : n < 18446744073709551616) (h : l ++ z = Cd.num n ++ R) : (∃ l', numR l 0 = (n, l', 0) ∧ l' ++ z = R) ∨ (z ≠ [] ∧ numR l 0 = (0, l, 5)) := by
 rcases pre_split h with ⟨c, rfl, hc⟩ | ⟨hz, m, hm, hl, _⟩
 ·exact Or.inl ⟨c, numR_ok hn c, hc⟩
 ·refine Or.inr ⟨hz, ?_⟩
  unfold numR step
  rw [hl, Cd.rd_cut n m hm]; simp
theorem intR_x {l z R : List Nat} {n : Int} (h1 : -9223372036854775808 ≤ n) (h2 : n ≤ 9223372036854775807) (h : l ++ z = Cd.num (Cd.uns n) ++ R) : (∃ l', intR l 0 = (n, l', 0) ∧ l' ++ z = R) ∨ (z ≠ [] ∧ intR l 0 = (0, l, 5)) := by
 rcases pre_split h with ⟨c, rfl, hc⟩ | ⟨hz, m, hm, hl, _⟩
 ·exact Or.inl ⟨c, intR_ok h1 h2 c, hc⟩
 ·refine Or.inr ⟨hz, ?_⟩
  unfold intR step
  rw [hl, Cd.rd_cut _ m hm]; simp
theorem txtR_x {l z R : List Nat} (s : ByteArray) {most : Int} (hm : (s.size : Int) ≤ most) (hs : s.size < 18446744073709551616) (h : l ++ z = txtE s ++ R) : (∃ l', txtR l 0 most = (strL s, l', 0) ∧ l' ++ z = R) ∨ (z ≠ [] ∧ txtR l 0 most = ([], l, 5)) := by
 rcases pre_split h with ⟨c, rfl, hc⟩ | ⟨hz, m, hm2, hl, hml⟩
 ·exact Or.inl ⟨c, txtR_ok s c most hm hs, hc⟩
 ·refine Or.inr ⟨hz, ?_⟩
  unfold txtE at hl hm2
  rw [List.length_append, strL_length] at hm2
  have hrt : Cd.rdText l most = ([], 0, 5) := by
   unfold Cd.rdText
   by_cases hlt : m < (Cd.num s.size).length
   ·rw [List.take_append_of_le_length (by omega)] at hl
    rw [hl, Cd.rd_cut _ m hlt]; simp
   ·have e : l = Cd.num s.size ++ (strL s).take (m - (Cd.num s.size).length) := by
     rw [hl, List.take_append, List.take_of_length_le (by omega)]
    have e3 : l.length = (Cd.num s.size).length + ((strL s).take (m - (Cd.num s.size).length)).length := by rw [← List.length_append, ← e]
    have e4 : ((strL s).take (m - (Cd.num s.size).length)).length < s.size := by rw [List.length_take, strL_length]; omega
    have e2 := Cd.rd_num hs ((strL s).take (m - (Cd.num s.size).length))
    rw [← e] at e2
    rw [e2]
    simp only
    rw [if_neg (by simp), if_neg (by omega), if_pos (by omega)]
  unfold txtR step
  rw [hrt]; simp
theorem Num_x {p : Nat} {w : World} {z R : List Nat} {er : Nat} (n : Nat) (hn : n < 18446744073709551616) (h : RdX w p (Cd.num n ++ R) z er) :
  Calls Try.prog 35 #[.pointer (some ⟨p, 0, none⟩)] w fun e w' => ∃ v er', e = .returned (.int .u64 (v : Nat)) ∧ ((v = n ∧ er' = 0 ∧ er = 0) ∨ (v = 0 ∧ er' ≠ 0)) ∧ RdX w' p R z er' ∧ w.grownBy w' (some p) := by
 obtain ⟨l, h, g⟩ := h
 rcases g with ⟨rfl, g⟩ | ⟨hz, he⟩
 ·rcases numR_x hn g with ⟨l', h1, h2⟩ | ⟨hz, h1⟩
  ·exact (Num_at h h1).mono fun e w' ⟨a, b, c⟩ => ⟨n, 0, a, Or.inl ⟨rfl, rfl, rfl⟩, ⟨l', b, Or.inl ⟨rfl, h2⟩⟩, c⟩
  ·exact (Num_at h h1).mono fun e w' ⟨a, b, c⟩ => ⟨0, 5, a, Or.inr ⟨rfl, by decide⟩, ⟨l, b, Or.inr ⟨hz, by decide⟩⟩, c⟩
 ·have h1 : numR l er = (0, l, er) := by unfold numR step; rw [if_pos he]
  exact (Num_at h h1).mono fun e w' ⟨a, b, c⟩ => ⟨0, er, a, Or.inr ⟨rfl, he⟩, ⟨l, b, Or.inr ⟨hz, he⟩⟩, c⟩
theorem Int_x {p : Nat} {w : World} {z R : List Nat} {er : Nat} (n : Int) (h1 : -9223372036854775808 ≤ n) (h2 : n ≤ 9223372036854775807) (h : RdX w p (Cd.num (Cd.uns n) ++ R) z er) :
  Calls Try.prog 39 #[.pointer (some ⟨p, 0, none⟩)] w fun e w' => ∃ (v : Int) (er' : Nat), e = .returned (.int .i64 v) ∧ ((v = n ∧ er' = 0 ∧ er = 0) ∨ (v = 0 ∧ er' ≠ 0)) ∧ RdX w' p R z er' ∧ w.grownBy w' (some p) := by
 obtain ⟨l, h, g⟩ := h
 rcases g with ⟨rfl, g⟩ | ⟨hz, he⟩
 ·rcases intR_x h1 h2 g with ⟨l', h3, h4⟩ | ⟨hz, h3⟩
  ·exact (Int_at h h3).mono fun e w' ⟨a, b, c⟩ => ⟨n, 0, a, Or.inl ⟨rfl, rfl, rfl⟩, ⟨l', b, Or.inl ⟨rfl, h4⟩⟩, c⟩
  ·exact (Int_at h h3).mono fun e w' ⟨a, b, c⟩ => ⟨0, 5, a, Or.inr ⟨rfl, by decide⟩, ⟨l, b, Or.inr ⟨hz, by decide⟩⟩, c⟩
 ·have h3 : intR l er = (0, l, er) := by unfold intR step; rw [if_pos he]
  exact (Int_at h h3).mono fun e w' ⟨a, b, c⟩ => ⟨0, er, a, Or.inr ⟨rfl, he⟩, ⟨l, b, Or.inr ⟨hz, he⟩⟩, c⟩
theorem Text_x {p : Nat} {w : World} {z R : List Nat} {er : Nat} (s : ByteArray) (most : Int) (hm : (s.size : Int) ≤ most) (hm2 : most ≤ 9223372036854775807) (h : RdX w p (txtE s ++ R) z er) :
  Calls Try.prog 29 #[.pointer (some ⟨p, 0, none⟩), .int .i64 most] w fun e w' => ∃ (v : ByteArray) (er' : Nat), e = .returned (.string v) ∧ ((v = s ∧ er' = 0 ∧ er = 0) ∨ (v = ⟨#[]⟩ ∧ er' ≠ 0)) ∧ RdX w' p R z er' ∧ w.grownBy w' (some p) := by
 obtain ⟨l, h, g⟩ := h
 rcases g with ⟨rfl, g⟩ | ⟨hz, he⟩
 ·rcases txtR_x s hm (by omega) g with ⟨l', h3, h4⟩ | ⟨hz, h3⟩
  ·have := Text_at h (by omega) hm2 h3
   rw [strB_strL] at this
   exact this.mono fun e w' ⟨a, b, c⟩ => ⟨s, 0, a, Or.inl ⟨rfl, rfl, rfl⟩, ⟨l', b, Or.inl ⟨rfl, h4⟩⟩, c⟩
  ·exact (Text_at h (by omega) hm2 h3).mono fun e w' ⟨a, b, c⟩ => ⟨_, 5, a, Or.inr ⟨rfl, by decide⟩, ⟨l, b, Or.inr ⟨hz, by decide⟩⟩, c⟩
 ·have h3 : txtR l er most = ([], l, er) := by unfold txtR step; rw [if_pos he]
  exact (Text_at h (by omega) hm2 h3).mono fun e w' ⟨a, b, c⟩ => ⟨_, er, a, Or.inr ⟨rfl, he⟩, ⟨l, b, Or.inr ⟨hz, he⟩⟩, c⟩
end Go.Proofs.Ytplafpchgfjomaa
namespace Go.Proofs.Ytplafpchgfjomaa
open Go.RowKit Go.Buf Go.LB
set_option linter.unusedSimpArgs false
set_option linter.unusedVariables false
theorem le_of_x {v n er er' : Nat} (h : (v = n ∧ er' = 0 ∧ er = 0) ∨ (v = 0 ∧ er' ≠ 0)) : v ≤ n := by omega
theorem many_x {α : Type} {w : World} {p : Nat} {f : α → List Nat} {R z : List Nat} {n v er er' : Nat} (l : List α) (hl : l.length = n) (hv : (v = n ∧ er' = 0 ∧ er = 0) ∨ (v = 0 ∧ er' ≠ 0)) (h : RdX w p (l.flatMap f ++ R) z er') :
  ∃ l2, l2.length = v ∧ (er' = 0 → l2 = l ∧ er = 0) ∧ (∀ x ∈ l2, x ∈ l) ∧ RdX w p (l2.flatMap f ++ R) z er' := by
 rcases hv with ⟨rfl, rfl, rfl⟩ | ⟨rfl, he⟩
 ·exact ⟨l, hl, fun _ => ⟨rfl, rfl⟩, fun _ h => h, h⟩
 ·exact ⟨[], rfl, fun h => absurd h he, by simp, h.bad he _⟩
theorem snoc_len {α : Type} {l : List α} {k : Nat} (h : l.length = k) (x : α) : (l ++ [x]).length = k + 1 := by rw [List.length_append, h]; rfl
theorem same_snoc {α : Type} {l l2 : List α} {k : Nat} {x s : α} {a b c : Nat} (hs : l2[k]? = some s) (h : b = 0 → l = l2.take k ∧ a = 0) (g : c = 0 → x = s ∧ b = 0) : c = 0 → l ++ [x] = l2.take (k + 1) ∧ a = 0 := by
 intro h0
 obtain ⟨rfl, hb⟩ := g h0
 obtain ⟨rfl, ha⟩ := h hb
 exact ⟨(take_one hs).symm, ha⟩
end Go.Proofs.Ytplafpchgfjomaa
namespace Go.Proofs.Ytplafpchgfjomaa
open Go.RowKit Go.Buf Go.LB
set_option linter.unusedSimpArgs false
set_option linter.unusedVariables false
theorem Err_x {p : Nat} {w : World} {E z : List Nat} {er : Nat} (h : RdX w p E z er) : Calls Try.prog 17 #[.pointer (some ⟨p, 0, none⟩)] w fun e w' => e = .returned (.int .i64 er) ∧ w = w' := by
 obtain ⟨l, h, _⟩ := h; exact Err_at h
theorem Fail_x {p : Nat} {w : World} {E z : List Nat} {er : Nat} (h : RdX w p E z er) (he : er ≠ 0) (y : Nat) : Calls Try.prog 16 #[.pointer (some ⟨p, 0, none⟩), .int .i64 y] w fun e w' => e = .returned (.tuple #[]) ∧ w = w' := by
 obtain ⟨l, ⟨a, n, c, h⟩, _⟩ := h; exact fail_no p a n c l er y w h he
theorem Fail_at {p : Nat} {w : World} {l : List Nat} (h : RdrS w p l 0) (y : Nat) : Calls Try.prog 16 #[.pointer (some ⟨p, 0, none⟩), .int .i64 y] w fun e w' => e = .returned (.tuple #[]) ∧ RdrS w' p l y ∧ w.grownBy w' (some p) := by
 obtain ⟨a, n, c, h⟩ := h; exact (fail_ok p a n c l y w h).mono fun e w' ⟨h1, h2, h3⟩ => ⟨h1, ⟨a, n, c, h2⟩, h3⟩
def Bad (q : Nat) (w : World) : Prop := ∃ l er, RdrS w q l er ∧ er ≠ 0
theorem RdrS.uniq {w : World} {p : Nat} {l l' : List Nat} {er er' : Nat} (h : RdrS w p l er) (h' : RdrS w p l' er') : er = er' := by
 obtain ⟨a, n, c, h⟩ := h
 obtain ⟨a', n', c', h'⟩ := h'
 have e1 := h.c1
 rw [h'.c1] at e1
 simp only [Option.some.injEq, Value.int.injEq, true_and] at e1
 omega
theorem Bad.grown {q : Nat} {w w' : World} {row : Option Nat} (h : Bad q w) (hg : w.grownBy w' row) (hr : ∀ k, row = some k → q < k) : Bad q w' := by
 obtain ⟨l, er, h, he⟩ := h; exact ⟨l, er, h.grown hg hr, he⟩
theorem Bad.below {q : Nat} {w w' : World} (h : Bad q w) (hb : Below w.heap.size w w') : Bad q w' := by
 obtain ⟨l, er, h, he⟩ := h; exact ⟨l, er, h.below hb, he⟩
theorem bad_of {q : Nat} {w : World} {E z : List Nat} {er : Nat} (h : RdX w q E z er) (he : er ≠ 0) : Bad q w := by
 obtain ⟨l, h, _⟩ := h; exact ⟨l, er, h, he⟩
theorem bad_step {q : Nat} {w w' : World} {E z E' z' : List Nat} {er er' : Nat} (h : RdX w q E z er) (h' : RdX w' q E' z' er') (hs : er' = 0 → er = 0) : Bad q w → Bad q w' := fun hb => by
 obtain ⟨l, e2, h2, he⟩ := hb
 obtain ⟨l', h1, _⟩ := h
 have := h1.uniq h2
 exact bad_of h' (fun e => he (by rw [← this]; exact hs e))
theorem or_bad {A : Prop} {q : Nat} {w' : World} {E' z' : List Nat} {er' : Nat} (h' : RdX w' q E' z' er') (hs : er' = 0 → A) : A ∨ Bad q w' := by
 by_cases h : er' = 0
 ·exact Or.inl (hs h)
 ·exact Or.inr (bad_of h' h)
theorem not_bad {q : Nat} {w : World} {E z : List Nat} (h : RdX w q E z 0) : ¬ Bad q w := fun ⟨l, er, h2, he⟩ => by
 obtain ⟨l', h1, _⟩ := h
 exact he (h1.uniq h2).symm
end Go.Proofs.Ytplafpchgfjomaa
