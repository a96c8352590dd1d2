import Derived.Test.YtplafpchgfjomaaZSt6
import Derived.Test.YtplafpchgfjomaaZTree3
import Derived.Test.YtplafpchgfjomaaZSt12
namespace Go.Proofs.Ytplafpchgfjomaa
open Go.RowKit Go.Buf Go.LB
set_option linter.unusedSimpArgs false
set_option linter.unusedVariables false
def NodeC (m : Nat) (z : List Nat) (q mb tb : Nat) (W : World) (x : Tm.N) : Prop := ∀ (R : List Nat) (er : Nat) (w : World), W.grownBy w (some q) → RdX w q (ndE (trE m) x ++ R) z er →
 Calls Try.prog 28 #[.pointer (some ⟨mb, 0, none⟩), .pointer (some ⟨tb, 0, none⟩)] w fun e w' => ∃ (nm : ByteArray) (la : Option Addr) (ll lc : Nat) (ba : Option Addr) (bl bc : Nat) (ls : List Lm.L) (bs : List Tm.N) (er' : Nat), e = .returned (.agg #[.string nm, .slice la ll lc, .slice ba bl bc]) ∧ ls.length = ll ∧ bs.length = bl ∧ (nm.size ≤ 12 ∧ ls.length ≤ 100000000 ∧ bs.length ≤ 100000000) ∧ Own1 w.heap.size w' (fun w => LRow w la lc ls ∧ TRow w m ba bc bs) ∧ (er' = 0 → Tm.N.mk nm ls bs = x ∧ er = 0) ∧ RdX w' q R z er' ∧ w.grownBy w' (some q)
def relCN (m : Nat) (w : World) (cs : List Value) (x : Tm.N) : Prop := (x.name.size ≤ 100000000 ∧ x.leaves.length ≤ 100000000 ∧ x.under.length ≤ 100000000) ∧ ∃ la lc ba bc, cs = [.string x.name, .slice la x.leaves.length lc, .slice ba x.under.length bc] ∧ LRow w la lc x.leaves ∧ TRow w m ba bc x.under
theorem rowsN (m : Nat) {B : Nat} {w : World} {u : Value} {l : List Tm.N} (h : OBX 47 3 B (relCN m) w u l) : relT (m + 1) B w u l := by
 obtain ⟨a, c, hu, hn, hc, ha, hk⟩ := h.reads
 refine ⟨a, c, hu, hk.imp fun w2 hw => ⟨hn, hc, ha, fun i d hd => ?_⟩⟩
 obtain ⟨q, cs, hq, _, ⟨hok, la, lc, ba, bc, rfl, h3, h4⟩, h2⟩ := hw i d hd
 exact ⟨hok, q, la, lc, ba, bc, hq, ⟨by simpa using h2 0 _ rfl, h2 1 _ rfl, h2 2 _ rfl⟩, h3, h4⟩
theorem infoNode : (Try.prog.info? 47).map (fun i => (i.zero, i.size, i.bytes)) = some (some (.agg #[.string ⟨#[]⟩, .slice none 0 0, .slice none 0 0]), 3, 64) := by kernel_rfl
set_option maxRecDepth 100000 in
set_option maxHeartbeats 3200000 in
theorem slistN_x (q : Nat) (dp mb tb : Nat) (z : List Nat) (W : World) (l : List Tm.N) (hl : l.length ≤ 1000000000) (hok : ∀ d ∈ l, NodeC dp z q mb tb W d) (R : List Nat) (er : Nat) (h : RdX W q (Cd.num l.length ++ (l.flatMap (ndE (trE dp)) ++ R)) z er) :
  Calls Try.prog 27 #[tkV q, .func (.func 28) #[] #[.pointer (some ⟨mb, 0, none⟩), .pointer (some ⟨tb, 0, none⟩)]] W fun e w' => ∃ v l' er', e = .returned v ∧ relT (dp + 1) W.heap.size w' v l' ∧ l'.length ≤ l.length ∧ (er' = 0 → l' = l ∧ er = 0) ∧ RdX w' q R z er' ∧ W.grownBy w' (some q) := by
 have hplt := h.lt
 have H := Lib.hid h; have HOk := Lib.hid hok; have HPlt := Lib.hid hplt; have HLl := Lib.hid hl
 obtain ⟨i0, hi, hz0, hz1, hz2⟩ := info_parts infoNode
 have HI := Lib.hid hi; have HZ0 := Lib.hid hz0; have HZ1 := Lib.hid hz1; have HZ2 := Lib.hid hz2
 clear h hok hi hz0 hz1 hz2
 go_enter Try.func27, Try.ntmps27
 go_wp2_with fail
 refine (Num_x l.length (by omega) (H.out.below (below_box3 _ _ _))).mono ?_
 rintro e w1 ⟨v, er1, rfl, hv, hr, hg⟩
 have hle := le_of_x hv
 obtain ⟨l2, hl2, hsame, hin, hr2⟩ := many_x l rfl hv hr
 have HL2 := Lib.hid hl2; have HSame := Lib.hid hsame; have HR := Lib.hid hr2; have HG := Lib.hid hg; have HIn := Lib.hid hin; have hg1 := hg.size; have HLe := Lib.hid hle
 clear hr hg hv hl2 hsame hin hr2 hplt
 go_wp2_with fail
 go_loopw [5, 6] (fun u i wr => ∃ (k m erk : Nat) (l' : List Tm.N), k + m = v ∧ i = .int .u64 m ∧ l'.length = k ∧ OBX 47 3 (W.heap.size + 1) (relCN dp) wr u l' ∧ (erk = 0 → l' = l2.take k ∧ er1 = 0) ∧ RdX wr q ((l2.drop k).flatMap (ndE (trE dp)) ++ R) z erk ∧ (W.alloc (.cells #[.pointer (some ⟨q, 0, none⟩)] 66)).grownBy wr (some q)) (fun _ i _ => (intOf i).toNat)
 case atStart => exact ⟨0, v, er1, [], Nat.zero_add _, rfl, rfl, OBX.nil (by simp at hg1; omega), fun h => ⟨by simp, h⟩, by simpa using HR.out, HG.out⟩
 case round =>
  obtain ⟨k, m, erk, l', hk, rfl, hlk, hob, hsk, hrd, hgw⟩ := hrel
  have HOb := Lib.hid hob; have HRd := Lib.hid hrd; have HGw := Lib.hid hgw; have HSk := Lib.hid hsk; have HLk := Lib.hid hlk; have HK := Lib.hid hk
  have hc0 : wr.cell? ⟨W.heap.size, 0, none⟩ = some (.pointer (some ⟨q, 0, none⟩)) := by rw [cell_of_row wr W.heap.size 0 _ _ _ (boxKept hgw HPlt.out)]; rfl
  clear hob hrd hgw hsk hlk
  cases m with
  | zero =>
   obtain rfl : k = v := by have := HK.out; omega
   have HRd2 := Lib.hid (show RdX wr q R z erk by have := HRd.out; rwa [List.drop_of_length_le (by rw [HL2.out]; omega), List.flatMap_nil, List.nil_append] at this)
   clear HRd
   go_wp2_with fail
   go_ret
   refine ⟨_, l', erk, rfl, (rowsN dp HOb.out).base (by omega), by rw [HLk.out]; exact HLe.out, fun h0 => ?_, HRd2.out, grown_trans (grown_of_below (row := some q) (below_box3 W _ _)) HGw.out (New.refl _ _)⟩
   obtain ⟨e1, e2⟩ := HSk.out h0
   obtain ⟨e3, e4⟩ := HSame.out e2
   exact ⟨by rw [e1, List.take_of_length_le (by rw [HL2.out]; omega), e3], e4⟩
  | succ m =>
   have hm0 : (0 : Int) < ((m + 1 : Nat) : Int) := by omega
   by_cases he : erk = 0
   ·subst he
    obtain ⟨s, hs⟩ : ∃ s, l2[k]? = some s := ⟨l2[k]'(by rw [HL2.out]; have := HK.out; omega), List.getElem?_eq_getElem _⟩
    have HS := Lib.hid hs; have HO := Lib.hid (HOk.out s (HIn.out s (List.mem_of_getElem? hs)))
    have hrd : RdX wr q ((ndE (trE dp)) s ++ ((l2.drop (k + 1)).flatMap (ndE (trE dp)) ++ R)) z 0 := by
     have := HRd.out
     rw [drop_one hs, List.flatMap_cons, List.append_assoc] at this
     exact this
    have HRd2 := Lib.hid hrd
    clear hs hrd
    have hlk : l'.length + 1 ≤ 1000000000 := by have := HLk.out; have := HK.out; have := HLe.out; have := HLl.out; omega
    have HLk1 := Lib.hid hlk; clear hlk
    go_wp2_with fail
    refine (Err_x HRd.out).mono ?_
    rintro e w2 ⟨rfl, rfl⟩
    go_wp2_with fail
    refine (HO.out _ 0 _ (grown_alloc _ HGw.out) HRd2.out).mono ?_
    rintro e w2 ⟨nm, la, ll, lc, ba, bl, bc, ls, bs, er2, rfl, hll, hbl, hok1, hown1, hs1, hr, hg⟩
    have hob2 := HOb.out.grown hg (by have := HPlt.out; omega)
    have HOb2 := Lib.hid hob2; have HR2 := Lib.hid hr; have HG2 := Lib.hid hg; have HS1 := Lib.hid hs1; have HK1 := Lib.hid hok1
    have hd0 : ∃ lo hi, W.heap.size + 1 ≤ lo ∧ hi ≤ w2.heap.size ∧ (∀ g, u5.ownBlock = some g → g < lo ∨ hi ≤ g) ∧ KeepI lo hi w2 fun w => (relCN dp) w [(.string nm), (.slice la ll lc), (.slice ba bl bc)] (.mk nm ls bs) := by
     obtain ⟨lo, hi, a, b, kk⟩ := hown1
     have hsz := HGw.out.size
     simp at hsz
     exact ⟨lo, hi, by omega, b, fun g hg => Or.inl (by have := (HOb.out.own g hg).2; omega), kk.imp fun w hw => ⟨⟨by simp only [Tm.N.name_mk]; omega, hok1.2.1, hok1.2.2⟩, la, lc, ba, bc, by simp only [Tm.N.name_mk, Tm.N.leaves_mk, Tm.N.under_mk]; rw [hll, hbl], hw.1, hw.2⟩⟩
    have HD0 := Lib.hid hd0
    clear hr hg hob2 hok1 hs1 hd0 hown1 hll hbl
    go_wp2_with (refine wpList_append_obx rfl (.tmp 20) (.tmp 23) 22 rfl i0 (.agg #[.string ⟨#[]⟩, .slice none 0 0, .slice none 0 0]) 64 Try.underlying22 HI.out HZ0.out HZ1.out HZ2.out rfl (by decide) rfl (HOb2.out.below (below_box3 _ _ _)) ⟨w2.heap.size, 0, none⟩ 1 [(.string nm), (.slice la ll lc), (.slice ba bl bc)] (.mk nm ls bs) rfl rfl (fun j u hu => by match j, hu with | 0, hu => (simp at hu; subst hu; simp [Addr.add]) | 1, hu => (simp at hu; subst hu; simp [Addr.add]) | 2, hu => (simp at hu; subst hu; simp [Addr.add]) | j + 3, hu => simp at hu) (fun u hu => by simp at hu; (first | (subst hu; rfl) | (rcases hu with rfl | rfl | rfl <;> rfl))) HLk1.out (by have := HLk1.out; omega) (grow_d0 HD0.out _) ?_; intro v3 w3 h3 g3)
    have hown : ∀ q, u5.ownBlock = some q → W.heap.size + 1 ≤ q := fun q hq => (HOb2.out.own q hq).1
    have H3 := Lib.hid h3; have G3 := Lib.hid (grownOwn (grownA (grownR HGw.out HG2.out) _) g3 (fun q hq => by have := hown q hq; simpa using this))
    have R3 := Lib.hid ((HR2.out.below (below_box3 _ _ _)).grown g3 (fun q hq => by have := hown q hq; have := HPlt.out; omega))
    clear h3 g3
    go_wp2_with fail
    go_roundw
    case rel => exact ⟨k + 1, m, er2, l' ++ [(.mk nm ls bs)], by have := HK.out; omega, by go_num, snoc_len HLk.out _, H3.out, same_snoc (b := 0) HS.out (fun _ => HSk.out trivial) (fun h0 => ⟨(HS1.out h0).1, rfl⟩), R3.out, G3.out⟩
    case measure => simp [intOf]
   ·have t1 : ((erk : Int) == 0) = false := by simp; omega
    go_wp2_with fail
    refine (Err_x HRd.out).mono ?_
    rintro e w2 ⟨rfl, rfl⟩
    go_wp2_with fail
    go_ret
    exact ⟨_, l', erk, rfl, (rowsN dp HOb.out).base (by omega), by have := HK.out; have := HLe.out; rw [HLk.out]; omega, fun h0 => absurd h0 he, HRd.out.bad he R, grown_trans (grown_of_below (row := some q) (below_box3 W _ _)) HGw.out (New.refl _ _)⟩
set_option maxRecDepth 100000 in
set_option maxHeartbeats 1600000 in
theorem stree_of (m most : Nat) (l : List Tm.N) (hl : l.length ≤ 100000000) (q : Nat) (R z : List Nat) (er : Nat) (W : World)
  (hone : ∀ (mb tb : Nat) (W0 : World), W0.cell? ⟨mb, 0, none⟩ = some (.int .i64 (most : Int)) → W0.cell? ⟨tb, 0, none⟩ = some (.pointer (some ⟨q, 0, none⟩)) → q ≠ mb → q ≠ tb → ∀ s ∈ l, NodeC m z q mb tb W0 s)
  (h : RdX W q (Cd.num l.length ++ (l.flatMap (ndE (trE m)) ++ R)) z er) :
  Calls Try.prog 23 #[tkV q, .int .i64 (most : Int)] W fun e w' => ∃ v l' er', e = .returned v ∧ relT (m + 1) W.heap.size w' v l' ∧ l'.length ≤ l.length ∧ (er' = 0 → l' = l ∧ er = 0) ∧ RdX w' q R z er' ∧ W.grownBy w' (some q) := by
 have hlt := h.lt
 have hbel : Below W.heap.size W ((W.alloc (.cells #[.pointer (some ⟨q, 0, none⟩)] 66)).alloc (.cells #[.int .i64 (most : Int)] 3)) := (below_box3 _ _ _).trans ((below_box3 _ _ _).mono (by simp))
 have hc := hone (W.heap.size + 1) W.heap.size ((W.alloc (.cells #[.pointer (some ⟨q, 0, none⟩)] 66)).alloc (.cells #[.int .i64 (most : Int)] 3)) (by simp) (by simp) (by omega) (by omega)
 have HC := Lib.hid hc; have H := Lib.hid (h.below hbel); have HB := Lib.hid hbel
 clear hone h hbel hc
 go_enter Try.func23, Try.ntmps23
 go_wp2_with fail
 refine (slistN_x q m (W.heap.size + 1) W.heap.size z _ l (by omega) HC.out R er H.out).mono ?_
 rintro e w1 ⟨v, l', er', rfl, hrel, hle, hv, hr, hg⟩
 have HRel := Lib.hid hrel; have HV := Lib.hid hv; have HR := Lib.hid hr; have HG := Lib.hid hg; have HLe := Lib.hid hle
 clear hrel hv hr hg hle
 go_wp2_with fail
 go_ret
 exact ⟨v, l', er', rfl, HRel.out.base HB.out.size, HLe.out, HV.out, HR.out, grown_trans (grown_of_below (row := some q) HB.out) HG.out (New.refl _ _)⟩
theorem treeC_zero : TreeC 0 := by
 intro q l hl R z er W h
 have hl0 : l = [] := hl
 subst hl0
 refine (stree_of 0 0 [] (by simp) q R z er W (fun _ _ _ _ _ _ _ s hs => by cases hs) (by simpa [trE] using h)).mono ?_
 rintro e w ⟨v, l', er', rfl, ⟨a, c, h1, h2⟩, hle, hv, hr, hg⟩
 have hl0 : l' = [] := List.eq_nil_of_length_eq_zero (by simpa using hle)
 subst hl0
 exact ⟨v, [], er', rfl, ⟨a, c, h1, h2.imp fun w hw => ⟨rfl, hw.2.1, hw.2.2.1⟩⟩, by simp, hv, hr, hg⟩
theorem treeC_succ (m : Nat) (hm : m ≤ 1000) (ih : TreeC m) : TreeC (m + 1) := by
 intro q l hl R z er W h
 have e : trE (m + 1) l ++ R = Cd.num l.length ++ (l.flatMap (ndE (trE m)) ++ R) := by simp only [trE, List.append_assoc]
 rw [e] at h
 refine (stree_of m (m + 1) l hl.1 q R z er W (fun mb tb W0 hmb htb hqm hqt s hs => fun R er w hg hrd => ?_) h).mono ?_
 ·exact snode_x m (m + 1) rfl hm ih q mb tb s (hl.2 s hs) R z er w (hg.cell hmb (by simpa using fun e => hqm e.symm)) (hg.cell htb (by simpa using fun e => hqt e.symm)) hqm hqt hrd
 ·rintro e w ⟨v, l', er', rfl, h1, hle, hv, hr, hg⟩
  exact ⟨v, l', er', rfl, h1, Nat.le_trans hle hl.1, hv, hr, hg⟩
theorem treeC3 : TreeC 3 := treeC_succ 2 (by decide) (treeC_succ 1 (by decide) (treeC_succ 0 (by decide) treeC_zero))
end Go.Proofs.Ytplafpchgfjomaa
/- Take and Read of a tree, whole or cut. -/
namespace Go.Proofs.Ytplafpchgfjomaa
open Go.RowKit Go.Buf Go.LB
set_option linter.unusedSimpArgs false
set_option linter.unusedVariables false
def TakeX (q : Nat) (l : List Tm.N) (R z : List Nat) (B : Nat) (v : Value) (w : World) : Prop :=
 (v = .slice none 0 0 ∧ ∃ er', er' ≠ 0 ∧ RdX w q R z er') ∨ (Tm.may strLt 3 l = true ∧ RdX w q R z 0 ∧ relT 3 B w v l) ∨ (v = .slice none 0 0 ∧ Tm.may strLt 3 l = false ∧ ∃ rest, RdrS w q rest 4)
set_option maxRecDepth 100000 in
set_option maxHeartbeats 3200000 in
theorem stake_x (q : Nat) (l : List Tm.N) (hl : takesT 3 l) (R z : List Nat) (er : Nat) (W : World) (h : RdX W q (trE 3 l ++ R) z er) :
    Calls Try.prog 14 #[.pointer (some ⟨q, 0, none⟩)] W fun e w' => ∃ v, e = .returned v ∧ TakeX q l R z W.heap.size v w' ∧ W.grownBy w' (some q) := by
  have hlt := h.lt
  have H := Lib.hid h; have HL := Lib.hid hl; have HLt := Lib.hid hlt
  clear h hl hlt
  go_enter Try.func14, Try.ntmps14
  go_wp2_with fail
  refine (treeC3 q l HL.out R z er _ (H.out.below (below_box3 _ _ _))).mono ?_
  rintro e w1 ⟨v, l', er', rfl, hrel, hle, hv, hr, hg⟩
  have hc0 : w1.cell? ⟨W.heap.size, 0, none⟩ = some (.pointer (some ⟨q, 0, none⟩)) := by rw [cell_of_row w1 W.heap.size 0 _ _ _ (boxKept hg HLt.out)]; rfl
  obtain ⟨a, c, rfl, hown⟩ := hrel
  obtain ⟨n, hn⟩ : ∃ n, l'.length = n := ⟨_, rfl⟩
  rw [hn]
  have HOwn := Lib.hid hown; have HV := Lib.hid hv; have HR := Lib.hid hr; have HG := Lib.hid (grown_alloc _ hg); have HN := Lib.hid hn
  have hsz := HG.out.size
  have HSz := Lib.hid hsz
  clear hown hv hr hg hn hle hsz
  go_wp2_with fail
  refine (treeMay_any 3 a n c l' w1 HOwn.out.now HN.out).mono ?_
  rintro e w2 ⟨rfl, hb⟩
  have hc1 : w2.cell? ⟨W.heap.size, 0, none⟩ = some (.pointer (some ⟨q, 0, none⟩)) := (hb.cell (World.block_lt_of_cell? _ _ hc0)).trans hc0
  have HB := Lib.hid hb; have HR2 := Lib.hid (HR.out.below hb); have HOwn2 := Lib.hid (HOwn.out.below hb); have HG2 := Lib.hid (grown_trans HG.out (grown_of_below (row := some q) hb) (New.refl _ _))
  clear hb hc0
  by_cases he : er' = 0
  · subst he
    obtain ⟨rfl, rfl⟩ := HV.out rfl
    cases hmay : Tm.may strLt 3 l' with
    | true =>
      have HM := Lib.hid hmay; clear hmay
      go_wp2_with fail
      refine (Err_x HR2.out).mono ?_
      rintro e w3 ⟨rfl, rfl⟩
      go_wp2_with fail
      go_ret
      exact ⟨_, rfl, Or.inr (Or.inl ⟨HM.out, HR2.out, a, c, by rw [HN.out]; rfl, HOwn2.out.base (by simp)⟩), HG2.out⟩
    | false =>
      have HM := Lib.hid hmay; clear hmay
      obtain ⟨rest, hrs, _⟩ := HR2.out
      have HRs := Lib.hid hrs; clear hrs
      go_wp2_with fail
      refine (Fail_at HRs.out 4).mono ?_
      rintro e w3 ⟨rfl, hr3, hg3⟩
      have hc3 : w3.cell? ⟨W.heap.size, 0, none⟩ = some (.pointer (some ⟨q, 0, none⟩)) := hg3.cell hc1 (by simp; have := HLt.out; omega)
      have HR3 := Lib.hid hr3; have HG3 := Lib.hid (grownR HG2.out hg3); clear hr3 hg3
      go_wp2_with fail
      refine (Err_at HR3.out).mono ?_
      rintro e w4 ⟨rfl, rfl⟩
      go_wp2_with fail
      go_ret
      exact ⟨_, rfl, Or.inr (Or.inr ⟨rfl, HM.out, rest, HR3.out⟩), HG3.out⟩
  · have t1 : ((er' : Int) == 0) = false := by simp; omega
    have t2 : ((er' : Int) != 0) = true := by simp; omega
    cases hmay : Tm.may strLt 3 l'
    all_goals
      clear hmay
      go_wp2_with fail
      first
        | (refine (Fail_x HR2.out he 4).mono ?_
           rintro e w7 ⟨rfl, rfl⟩
           go_wp2_with fail
           refine (Err_x HR2.out).mono ?_
           rintro e w7 ⟨rfl, rfl⟩
           go_wp2_with fail)
        | (refine (Err_x HR2.out).mono ?_
           rintro e w7 ⟨rfl, rfl⟩
           go_wp2_with fail)
      go_ret
      exact ⟨_, rfl, Or.inl ⟨rfl, er', he, HR2.out⟩, HG2.out⟩
theorem Fail_bad {p : Nat} {w : World} {l : List Nat} {er : Nat} (h : RdrS w p l er) (he : er ≠ 0) (y : Nat) : Calls Try.prog 16 #[.pointer (some ⟨p, 0, none⟩), .int .i64 y] w fun e w' => e = .returned (.tuple #[]) ∧ w = w' := by
 obtain ⟨a, n, c, h⟩ := h; exact fail_no p a n c l er y w h he
def ReadX (t : List Tm.N) (R z : List Nat) (B : Nat) (v : Value) (er' : Nat) (w : World) : Prop := (z ≠ [] → er' ≠ 0) ∧ (z = [] → R ≠ [] ∨ Tm.may strLt 3 t = false → er' = 4) ∧ (z = [] → R = [] → Tm.may strLt 3 t = true → er' = 0 ∧ relT 3 B w v t)
set_option maxRecDepth 100000 in
set_option maxHeartbeats 3200000 in
theorem sread_x (t : List Tm.N) (ht : takesT 3 t) (a : Option Addr) (bn cap : Nat) (l R z : List Nat) (hlz : l ++ z = trE 3 t ++ R) (W : World) (hrow : Row W a cap l) (hbn : l.length = bn) (hsm : bn ≤ 10000000) (hzR : z = [] ∨ R = []) :
  Calls Try.prog 8 #[.slice a bn cap] W fun e w' => ∃ v er', e = .returned (.tuple #[v, .int .i64 (er' : Nat)]) ∧ ReadX t R z W.heap.size v er' w' ∧ Below W.heap.size W w' := by
 have HL := Lib.hid hlz; have HT := Lib.hid ht; have HRow := Lib.hid hrow; have HBn := Lib.hid hbn; have HZR := Lib.hid hzR
 clear hlz ht hrow hbn hzR
 go_enter Try.func8, Try.ntmps8
 go_wp2_with fail
 refine (NewReader_any a bn cap l _ HRow.out HBn.out (by omega)).mono ?_
 rintro e w1 ⟨q, rfl, hr1, hb1, hq1⟩
 have HR1 := Lib.hid (show RdX w1 q (trE 3 t ++ R) z 0 from ⟨l, hr1, Or.inl ⟨rfl, HL.out⟩⟩)
 have HB1 := Lib.hid hb1; have HQ1 := Lib.hid hq1
 clear hr1 hb1 hq1
 go_wp2_with fail
 refine (stake_x q t HT.out R z 0 w1 HR1.out).mono ?_
 rintro e w2 ⟨v, rfl, hx, hg⟩
 have hbel := HB1.out.grown hg HB1.out.size (fun j hj => by cases hj; exact HQ1.out)
 have HB2 := Lib.hid hbel
 clear hg hbel
 rcases hx with ⟨rfl, er', he, hr⟩ | ⟨hmay, hr, hrel⟩ | ⟨rfl, hmay, rest, hr⟩
 ·have hz : z ≠ [] := hr.zne he
  have HR := Lib.hid hr
  obtain ⟨rest, hrs, _⟩ := hr
  have HRs := Lib.hid hrs; have HZ := Lib.hid hz
  have t1 : ((er' : Int) == 0) = false := by simp; omega
  have t2 : ((er' : Int) != 0) = true := by simp; omega
  clear hrs hz
  by_cases hlen : 0 < rest.length
  ·go_wp2_with fail
   refine (Left_at HRs.out).mono ?_
   rintro e w6 ⟨rfl, rfl⟩
   go_wp2_with fail
   refine (Fail_x HR.out he 4).mono ?_
   rintro e w7 ⟨rfl, rfl⟩
   go_wp2_with fail
   refine (Err_x HR.out).mono ?_
   rintro e w8 ⟨rfl, rfl⟩
   go_wp2_with fail
   go_ret2
   exact ⟨_, er', rfl, ⟨fun _ => he, fun h => absurd h HZ.out, fun h => absurd h HZ.out⟩, HB2.out⟩
  ·have hlen0 : rest.length = 0 := by omega
   go_wp2_with fail
   refine (Left_at HRs.out).mono ?_
   rintro e w6 ⟨rfl, rfl⟩
   go_wp2_with fail
   refine (Err_x HR.out).mono ?_
   rintro e w8 ⟨rfl, rfl⟩
   go_wp2_with fail
   go_ret2
   exact ⟨_, er', rfl, ⟨fun _ => he, fun h => absurd h HZ.out, fun h => absurd h HZ.out⟩, HB2.out⟩
 ·have hz : z = [] := by
   rcases HZR.out with h | h
   ·exact h
   ·by_cases hz : z = []
    ·exact hz
    ·subst h; exact absurd rfl (hr.cut hz)
  have HZ := Lib.hid hz
  have hrs : RdrS w2 q R 0 := by subst hz; exact hr.whole.2
  have HR := Lib.hid hr; have HRs := Lib.hid hrs; have HM := Lib.hid hmay; have HRel := Lib.hid hrel
  obtain ⟨ra, rc, rfl, _⟩ := hrel
  clear hr hrs hmay hz
  by_cases hlen : 0 < R.length
  ·go_wp2_with fail
   refine (Left_at HRs.out).mono ?_
   rintro e w6 ⟨rfl, rfl⟩
   go_wp2_with fail
   refine (Fail_at HRs.out 4).mono ?_
   rintro e w7 ⟨rfl, hr7, hg7⟩
   have HR7 := Lib.hid hr7
   have HB7 := Lib.hid (HB2.out.grown hg7 HB2.out.size (fun j hj => by cases hj; exact HQ1.out))
   clear hr7 hg7
   go_wp2_with fail
   refine (Err_at HR7.out).mono ?_
   rintro e w8 ⟨rfl, rfl⟩
   go_wp2_with fail
   go_ret2
   exact ⟨_, 4, rfl, ⟨fun h => absurd HZ.out h, fun _ _ => rfl, fun _ h => by rw [h] at hlen; simp at hlen⟩, HB7.out⟩
  ·have hR : R = [] := List.eq_nil_of_length_eq_zero (by omega)
   have HRn := Lib.hid hR
   have hlen0 : R.length = 0 := by omega
   clear hR
   go_wp2_with fail
   refine (Left_at HRs.out).mono ?_
   rintro e w6 ⟨rfl, rfl⟩
   go_wp2_with fail
   refine (Err_x HR.out).mono ?_
   rintro e w8 ⟨rfl, rfl⟩
   go_wp2_with fail
   go_ret2
   exact ⟨_, 0, rfl, ⟨fun h => absurd HZ.out h, fun _ h => h.elim (fun h => absurd HRn.out h) (fun h => absurd (HM.out.symm.trans h) (by decide)), fun _ _ _ => ⟨rfl, HRel.out.base HB1.out.size⟩⟩, HB2.out⟩
 ·have HRs := Lib.hid hr; have HM := Lib.hid hmay
  clear hr hmay
  by_cases hlen : 0 < rest.length
  ·go_wp2_with fail
   refine (Left_at HRs.out).mono ?_
   rintro e w6 ⟨rfl, rfl⟩
   go_wp2_with fail
   refine (Fail_bad HRs.out (by decide) 4).mono ?_
   rintro e w7 ⟨rfl, rfl⟩
   go_wp2_with fail
   refine (Err_at HRs.out).mono ?_
   rintro e w8 ⟨rfl, rfl⟩
   go_wp2_with fail
   go_ret2
   exact ⟨_, 4, rfl, ⟨fun _ => by decide, fun _ _ => rfl, fun _ _ h => by rw [HM.out] at h; cases h⟩, HB2.out⟩
  ·have hlen0 : rest.length = 0 := by omega
   go_wp2_with fail
   refine (Left_at HRs.out).mono ?_
   rintro e w6 ⟨rfl, rfl⟩
   go_wp2_with fail
   refine (Err_at HRs.out).mono ?_
   rintro e w8 ⟨rfl, rfl⟩
   go_wp2_with fail
   go_ret2
   exact ⟨_, 4, rfl, ⟨fun _ => by decide, fun _ _ => rfl, fun _ _ h => by rw [HM.out] at h; cases h⟩, HB2.out⟩
end Go.Proofs.Ytplafpchgfjomaa
/- Layer 9's known. -/
namespace Go.Proofs.Ytplafpchgfjomaa
open Go.RowKit Go.Buf Go.LB
set_option linter.unusedSimpArgs false
set_option linter.unusedVariables false
namespace K9
def lf : Lm.L := ⟨1, 5, 0, ((0, 0), 0), ⟨#[]⟩, [], []⟩
def t1 : List Tm.N := [.mk ⟨#[97]⟩ [lf] []]
def t2 : List Tm.N := [.mk ⟨#[97]⟩ [] []]
theorem may0 : Tm.may strLt 3 [] = true := by simp [Tm.may, Om.upTo_zero]
theorem nameA : Om.isName ⟨#[97]⟩ = true := by decide
theorem may1 : Tm.may strLt 3 t1 = true := by
 simp [t1, Tm.may, Om.upTo, Tm.nodeAt, nameA, Tm.mayLeaves, Tm.leafAt, Lm.may, lf, Lm.same, Lm.zeroL]
theorem may2 : Tm.may strLt 3 t2 = false := by
 simp [t2, Tm.may, Om.upTo, Tm.nodeAt, nameA]
theorem e0 : trE 3 [] = [0] := by decide
theorem e1 : trE 3 t1 = [1, 1, 97, 1, 1, 10, 0, 0, 0, 0, 0, 0, 0, 0] := by decide
theorem e2 : trE 3 t2 = [1, 1, 97, 0, 0] := by decide
theorem tk2 : takesT 3 t2 := by
 refine ⟨by decide, fun x hx => ?_⟩
 simp [t2] at hx
 subst hx
 exact ⟨by decide, by decide, by simp, by simp [takesT]⟩
end K9
abbrev lfC : Array Value := #[.int .u8 1, .int .i64 5, .int .u64 0, .int .u8 0, .int .u32 0, .int .u64 0, .string ⟨#[]⟩, .slice none 0 0, .slice none 0 0]
theorem litL (w : World) : LRow (w.alloc (.cells lfC 44)) (some ⟨w.heap.size, 0, none⟩) 1 [K9.lf] := by
 refine ⟨by simp, by omega, (fun e => by cases e), fun i x hx => ?_⟩
 have hi : i < 1 := by have := (List.getElem?_eq_some_iff.1 hx).1; simpa using this
 obtain rfl : i = 0 := by omega
 simp at hx; subst hx
 have hk := Blk.new w lfC 44
 refine ⟨⟨by decide, by decide, by decide, ⟨by decide, by decide, by decide⟩, by decide, by decide, by decide⟩, ⟨w.heap.size, 0, none⟩, none, 0, none, 0, rfl, ⟨?_, ?_, ?_, ?_, ?_, ?_, ?_, ?_, ?_⟩, IRow.nil _, VRow.nil _⟩
 ·exact hk.cell 0
 ·exact hk.cell 1
 ·exact hk.cell 2
 ·exact hk.cell 3
 ·exact hk.cell 4
 ·exact hk.cell 5
 ·exact hk.cell 6
 ·exact hk.cell 7
 ·exact hk.cell 8
theorem litN (w : World) (nm : ByteArray) (la : Option Addr) (lc : Nat) (ls : List Lm.L) (h1 : nm.size ≤ 100) (h2 : ls.length ≤ 100) (hl : LRow w la lc ls) : TRow (w.alloc (.cells #[.string nm, .slice la ls.length lc, .slice none 0 0] 47)) 3 (some ⟨w.heap.size, 0, none⟩) 1 [.mk nm ls []] := by
 refine ⟨by simp, by omega, (fun e => by cases e), fun i x hx => ?_⟩
 have hi : i < 1 := by have := (List.getElem?_eq_some_iff.1 hx).1; simpa using this
 obtain rfl : i = 0 := by omega
 simp at hx; subst hx
 have hk := Blk.new w #[.string nm, .slice la ls.length lc, .slice none 0 0] 47
 refine ⟨⟨by simp only [Tm.N.name_mk]; omega, by simp only [Tm.N.leaves_mk]; omega, by simp⟩, ⟨w.heap.size, 0, none⟩, la, lc, none, 0, rfl, ⟨?_, ?_, ?_⟩, hl.below (below_box3 _ _ _), TRow.nil _ _⟩
 ·exact hk.cell 0
 ·exact hk.cell 1
 ·exact hk.cell 2
theorem litB5 (w : World) : Row (w.alloc (.cells #[.int .u8 1, .int .u8 1, .int .u8 97, .int .u8 0, .int .u8 0] 5)) (some ⟨w.heap.size, 0, none⟩) 5 [1, 1, 97, 0, 0] := by
 have hk := Blk.new w #[.int .u8 1, .int .u8 1, .int .u8 97, .int .u8 0, .int .u8 0] 5
 refine ⟨by simp, by omega, by decide, (fun e => by cases e), fun i e he => ⟨_, rfl, ?_⟩⟩
 match i, he with
 | 0, he => simp at he; subst he; exact hk.cell 0
 | 1, he => simp at he; subst he; exact hk.cell 1
 | 2, he => simp at he; subst he; exact hk.cell 2
 | 3, he => simp at he; subst he; exact hk.cell 3
 | 4, he => simp at he; subst he; exact hk.cell 4
 | j + 5, he => simp at he
set_option maxRecDepth 100000 in
set_option maxHeartbeats 3200000 in
theorem known09_any (W : World) : Calls Try.prog 5 #[] W fun e w' => e = .returned (.bool true) ∧ Below W.heap.size W w' := by
 go_enter Try.func5, Try.ntmps5
 go_wp2_with fail
 refine (sbytes_any 0 none 0 0 [] W (TRow.nil W 0) rfl (fun _ => by rw [K9.e0]; decide) (by omega)).mono ?_
 rintro e w1 ⟨hcase, hb⟩
 rcases hcase with ⟨h, _⟩ | ⟨_, v1, row1, rfl, hbb⟩
 ·exact absurd (K9.may0.symm.trans h) (by decide)
 obtain ⟨a1, n1, c1, rfl, hrw1, hn1⟩ := hbb.rowN
 rw [K9.e0] at hrw1 hn1
 have HB1 := Lib.hid hb; have HR1 := Lib.hid hrw1; have HN1 := Lib.hid hn1
 clear hb hbb hrw1 hn1
 go_wp2_with fail
 have hT1 := litN (w1.alloc (.cells lfC 44)) ⟨#[97]⟩ (some ⟨w1.heap.size, 0, none⟩) 1 [K9.lf] (by decide) (by decide) (litL w1)
 rw [show (w1.alloc (.cells lfC 44)).heap.size = w1.heap.size + 1 from by simp] at hT1
 have hbx : Below W.heap.size W ((w1.alloc (.cells lfC 44)).alloc (.cells #[.string ⟨#[97]⟩, .slice (some ⟨w1.heap.size, 0, none⟩) 1 1, .slice none 0 0] 47)) := (HB1.out.alloc HB1.out.size _).alloc (by have := HB1.out.size; simp; omega) _
 have HBx := Lib.hid hbx
 have HR1x := Lib.hid ((HR1.out.below (below_box3 _ _ _)).below (below_box3 (w1.alloc (.cells lfC 44)) #[.string ⟨#[97]⟩, .slice (some ⟨w1.heap.size, 0, none⟩) 1 1, .slice none 0 0] 47))
 clear hbx
 refine (sbytes_any 3 (some ⟨w1.heap.size + 1, 0, none⟩) 1 1 K9.t1 _ hT1 rfl (fun _ => by rw [K9.e1]; decide) (by omega)).mono ?_
 rintro e w2 ⟨hcase, hb⟩
 rcases hcase with ⟨h, _⟩ | ⟨_, v2, row2, rfl, hbb⟩
 ·exact absurd (K9.may1.symm.trans h) (by decide)
 obtain ⟨a2, n2, c2, rfl, hrw2, hn2⟩ := hbb.rowN
 rw [K9.e1] at hrw2 hn2
 have HB2 := Lib.hid (HBx.out.trans (hb.mono HBx.out.size)); have HR2 := Lib.hid hrw2; have HN2 := Lib.hid hn2; have HR1y := Lib.hid (HR1x.out.below hb)
 clear hb hbb hrw2 hn2 hT1
 go_wp2_with fail
 have hT2 := litN w2 ⟨#[97]⟩ none 0 [] (by decide) (by decide) (LRow.nil _)
 refine (sbytes_any 3 (some ⟨w2.heap.size, 0, none⟩) 1 1 K9.t2 _ hT2 rfl (fun h => absurd (K9.may2.symm.trans h) (by decide)) (by omega)).mono ?_
 rintro e w3 ⟨hcase, hb⟩
 rcases hcase with ⟨_, rfl⟩ | ⟨h, _⟩
 case inr => exact absurd (K9.may2.symm.trans h) (by decide)
 have HB3 := Lib.hid ((HB2.out.alloc HB2.out.size _).trans (hb.mono (by have := HB2.out.size; simp; omega)))
 have HR13 := Lib.hid ((HR1y.out.below (below_box3 _ _ _)).below hb); have HR23 := Lib.hid ((HR2.out.below (below_box3 _ _ _)).below hb)
 clear hb hT2
 go_wp2_with fail
 refine (sread_x K9.t2 K9.tk2 (some ⟨w3.heap.size, 0, none⟩) 5 5 [1, 1, 97, 0, 0] [] [] (by rw [K9.e2]) _ (litB5 w3) rfl (by omega) (Or.inl rfl)).mono ?_
 rintro e w4 ⟨v4, er4, rfl, ⟨_, h4, _⟩, hb⟩
 obtain rfl := h4 rfl (Or.inr K9.may2)
 have HB4 := Lib.hid ((HB3.out.alloc HB3.out.size _).trans (hb.mono (by have := HB3.out.size; simp; omega)))
 have hr1 := (HR13.out.below (below_box3 w3 #[.int .u8 1, .int .u8 1, .int .u8 97, .int .u8 0, .int .u8 0] 5)).below hb
 have hr2 := (HR23.out.below (below_box3 w3 #[.int .u8 1, .int .u8 1, .int .u8 97, .int .u8 0, .int .u8 0] 5)).below hb
 have hcv1 := conv_row hr1 HN1.out
 have hcv2 := conv_row hr2 HN2.out
 have hs1 : ((strB [0]).toList == [0]) = true := by rw [ByteArray.toList_eq]; decide
 have hs2 : ((strB [1, 1, 97, 1, 1, 10, 0, 0, 0, 0, 0, 0, 0, 0]).toList == [1, 1, 97, 1, 1, 10, 0, 0, 0, 0, 0, 0, 0, 0]) = true := by rw [ByteArray.toList_eq]; decide
 clear hb h4
 go_wp2_with fail
 go_ret
 exact ⟨rfl, HB4.out⟩
end Go.Proofs.Ytplafpchgfjomaa
