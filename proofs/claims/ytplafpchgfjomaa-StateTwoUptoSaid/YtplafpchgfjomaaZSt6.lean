import Derived.Test.YtplafpchgfjomaaZSt5
namespace Go.Proofs.Ytplafpchgfjomaa
open Go.RowKit Go.Buf Go.LB
set_option linter.unusedSimpArgs false
set_option linter.unusedVariables false
def relCL (w : World) (cs : List Value) (x : Lm.L) : Prop := okL x ∧ ∃ ia ic da dc, cs = [.int .u8 (x.kind : Int), .int .i64 x.n, .int .u64 (x.time : Int), .int .u8 (x.dot.1.1 : Int), .int .u32 (x.dot.1.2 : Int), .int .u64 (x.dot.2 : Int), .string x.text, .slice ia x.items.length ic, .slice da x.tombs.length dc] ∧ IRow w ia ic x.items ∧ VRow w da dc x.tombs
theorem rowsL {B : Nat} {w : World} {u : Value} {l : List Lm.L} (h : OBX 44 9 B relCL w u l) : relLs B w u l := by
 obtain ⟨a, c, hu, hn, hc, ha, hk⟩ := h.reads
 refine ⟨a, c, hu, hk.imp fun w2 hw => ⟨hn, hc, ha, fun i d hd => ?_⟩⟩
 obtain ⟨q, cs, hq, _, ⟨hok, ia, ic, da, dc, rfl, h3, h4⟩, h2⟩ := hw i d hd
 exact ⟨hok, q, ia, ic, da, dc, hq, ⟨by simpa using h2 0 _ rfl, h2 1 _ rfl, h2 2 _ rfl, h2 3 _ rfl, h2 4 _ rfl, h2 5 _ rfl, h2 6 _ rfl, h2 7 _ rfl, h2 8 _ rfl⟩, h3, h4⟩
theorem infoLeaf : (Try.prog.info? 44).map (fun i => (i.zero, i.size, i.bytes)) = some (some (.agg #[.int .u8 0, .int .i64 0, .int .u64 0, .int .u8 0, .int .u32 0, .int .u64 0, .string ⟨#[]⟩, .slice none 0 0, .slice none 0 0]), 9, 104) := by kernel_rfl
set_option maxRecDepth 100000 in
set_option maxHeartbeats 3200000 in
theorem slistL_x (q : Nat) (l : List Lm.L) (hl : l.length ≤ 1000000000) (hok : ∀ d ∈ l, takesL d) (R z : List Nat) (er : Nat) (W : World) (h : RdX W q (Cd.num l.length ++ (l.flatMap lfE ++ R)) z er) :
  Calls Try.prog 30 #[tkV q, .func (.func 31) #[tkV q] #[]] W fun e w' => ∃ v l' er', e = .returned v ∧ relLs W.heap.size w' v l' ∧ l'.length ≤ l.length ∧ (er' = 0 → l' = l ∧ er = 0) ∧ RdX w' q R z er' ∧ W.grownBy w' (some q) := by
 have hplt := h.lt
 have H := Lib.hid h; have HOk := Lib.hid hok; have HPlt := Lib.hid hplt; have HLl := Lib.hid hl
 obtain ⟨i0, hi, hz0, hz1, hz2⟩ := info_parts infoLeaf
 have HI := Lib.hid hi; have HZ0 := Lib.hid hz0; have HZ1 := Lib.hid hz1; have HZ2 := Lib.hid hz2
 clear h hok hi hz0 hz1 hz2
 go_enter Try.func30, Try.ntmps30
 go_wp2_with fail
 refine (Num_x l.length (by omega) (H.out.below (below_box3 _ _ _))).mono ?_
 rintro e w1 ⟨v, er1, rfl, hv, hr, hg⟩
 have hle := le_of_x hv
 obtain ⟨l2, hl2, hsame, hin, hr2⟩ := many_x l rfl hv hr
 have HL2 := Lib.hid hl2; have HSame := Lib.hid hsame; have HR := Lib.hid hr2; have HG := Lib.hid hg; have HIn := Lib.hid hin; have hg1 := hg.size; have HLe := Lib.hid hle
 clear hr hg hv hl2 hsame hin hr2 hplt
 go_wp2_with fail
 go_loopw [5, 6] (fun u i wr => ∃ (k m erk : Nat) (l' : List Lm.L), k + m = v ∧ i = .int .u64 m ∧ l'.length = k ∧ OBX 44 9 (W.heap.size + 1) relCL wr u l' ∧ (erk = 0 → l' = l2.take k ∧ er1 = 0) ∧ RdX wr q ((l2.drop k).flatMap lfE ++ R) z erk ∧ (W.alloc (.cells #[.pointer (some ⟨q, 0, none⟩)] 66)).grownBy wr (some q)) (fun _ i _ => (intOf i).toNat)
 case atStart => exact ⟨0, v, er1, [], Nat.zero_add _, rfl, rfl, OBX.nil (by simp at hg1; omega), fun h => ⟨by simp, h⟩, by simpa using HR.out, HG.out⟩
 case round =>
  obtain ⟨k, m, erk, l', hk, rfl, hlk, hob, hsk, hrd, hgw⟩ := hrel
  have HOb := Lib.hid hob; have HRd := Lib.hid hrd; have HGw := Lib.hid hgw; have HSk := Lib.hid hsk; have HLk := Lib.hid hlk; have HK := Lib.hid hk
  have hc0 : wr.cell? ⟨W.heap.size, 0, none⟩ = some (.pointer (some ⟨q, 0, none⟩)) := by rw [cell_of_row wr W.heap.size 0 _ _ _ (boxKept hgw HPlt.out)]; rfl
  clear hob hrd hgw hsk hlk
  cases m with
  | zero =>
   obtain rfl : k = v := by have := HK.out; omega
   have HRd2 := Lib.hid (show RdX wr q R z erk by have := HRd.out; rwa [List.drop_of_length_le (by rw [HL2.out]; omega), List.flatMap_nil, List.nil_append] at this)
   clear HRd
   go_wp2_with fail
   go_ret
   refine ⟨_, l', erk, rfl, (rowsL HOb.out).base (by omega), by rw [HLk.out]; exact HLe.out, fun h0 => ?_, HRd2.out, grown_trans (grown_of_below (row := some q) (below_box3 W _ _)) HGw.out (New.refl _ _)⟩
   obtain ⟨e1, e2⟩ := HSk.out h0
   obtain ⟨e3, e4⟩ := HSame.out e2
   exact ⟨by rw [e1, List.take_of_length_le (by rw [HL2.out]; omega), e3], e4⟩
  | succ m =>
   have hm0 : (0 : Int) < ((m + 1 : Nat) : Int) := by omega
   by_cases he : erk = 0
   ·subst he
    obtain ⟨s, hs⟩ : ∃ s, l2[k]? = some s := ⟨l2[k]'(by rw [HL2.out]; have := HK.out; omega), List.getElem?_eq_getElem _⟩
    have HS := Lib.hid hs; have HO := Lib.hid (HOk.out s (HIn.out s (List.mem_of_getElem? hs)))
    have hrd : RdX wr q (lfE s ++ ((l2.drop (k + 1)).flatMap lfE ++ R)) z 0 := by
     have := HRd.out
     rw [drop_one hs, List.flatMap_cons, List.append_assoc] at this
     exact this
    have HRd2 := Lib.hid hrd
    clear hs hrd
    have hlk : l'.length + 1 ≤ 1000000000 := by have := HLk.out; have := HK.out; have := HLe.out; have := HLl.out; omega
    have HLk1 := Lib.hid hlk; clear hlk
    go_wp2_with fail
    refine (Err_x HRd.out).mono ?_
    rintro e w2 ⟨rfl, rfl⟩
    go_wp2_with fail
    refine (sleaf_x q s HO.out _ z 0 _ HRd2.out).mono ?_
    rintro e w2 ⟨k1, n1, t1, r1, i1, s1, u1, ia, il, ic, da, dl, dc, li, ld, er2, rfl, hil, hdl, hok1, hown1, hs1, hr, hg⟩
    have hob2 := HOb.out.grown hg (by have := HPlt.out; omega)
    have HOb2 := Lib.hid hob2; have HR2 := Lib.hid hr; have HG2 := Lib.hid hg; have HS1 := Lib.hid hs1; have HK1 := Lib.hid hok1
    have hd0 : ∃ lo hi, W.heap.size + 1 ≤ lo ∧ hi ≤ w2.heap.size ∧ (∀ g, u5.ownBlock = some g → g < lo ∨ hi ≤ g) ∧ KeepI lo hi w2 fun w => relCL w [(.int .u8 (k1 : Int)), (.int .i64 n1), (.int .u64 (t1 : Int)), (.int .u8 (r1 : Int)), (.int .u32 (i1 : Int)), (.int .u64 (s1 : Int)), (.string u1), (.slice ia il ic), (.slice da dl dc)] ⟨k1, n1, t1, ((r1, i1), s1), u1, li, ld⟩ := by
     obtain ⟨lo, hi, a, b, kk⟩ := hown1
     have hsz := HGw.out.size
     simp at hsz
     exact ⟨lo, hi, by omega, b, fun g hg => Or.inl (by have := (HOb.out.own g hg).2; omega), kk.imp fun w hw => ⟨hok1, ia, ic, da, dc, by rw [← hil, ← hdl], hw.1, hw.2⟩⟩
    have HD0 := Lib.hid hd0
    clear hr hg hob2 hok1 hs1 hd0 hown1 hil hdl
    go_wp2_with (refine wpList_append_obx rfl (.tmp 20) (.tmp 23) 45 rfl i0 (.agg #[.int .u8 0, .int .i64 0, .int .u64 0, .int .u8 0, .int .u32 0, .int .u64 0, .string ⟨#[]⟩, .slice none 0 0, .slice none 0 0]) 104 Try.underlying45 HI.out HZ0.out HZ1.out HZ2.out rfl (by decide) rfl (HOb2.out.below (below_box3 _ _ _)) ⟨w2.heap.size, 0, none⟩ 1 [(.int .u8 (k1 : Int)), (.int .i64 n1), (.int .u64 (t1 : Int)), (.int .u8 (r1 : Int)), (.int .u32 (i1 : Int)), (.int .u64 (s1 : Int)), (.string u1), (.slice ia il ic), (.slice da dl dc)] ⟨k1, n1, t1, ((r1, i1), s1), u1, li, ld⟩ rfl rfl (fun j u hu => by match j, hu with | 0, hu => (simp at hu; subst hu; simp [Addr.add]) | 1, hu => (simp at hu; subst hu; simp [Addr.add]) | 2, hu => (simp at hu; subst hu; simp [Addr.add]) | 3, hu => (simp at hu; subst hu; simp [Addr.add]) | 4, hu => (simp at hu; subst hu; simp [Addr.add]) | 5, hu => (simp at hu; subst hu; simp [Addr.add]) | 6, hu => (simp at hu; subst hu; simp [Addr.add]) | 7, hu => (simp at hu; subst hu; simp [Addr.add]) | 8, hu => (simp at hu; subst hu; simp [Addr.add]) | j + 9, hu => simp at hu) (fun u hu => by simp at hu; (first | (subst hu; rfl) | (rcases hu with rfl | rfl | rfl | rfl | rfl | rfl | rfl | rfl | rfl <;> rfl))) HLk1.out (by have := HLk1.out; omega) (grow_d0 HD0.out _) ?_; intro v3 w3 h3 g3)
    have hown : ∀ q, u5.ownBlock = some q → W.heap.size + 1 ≤ q := fun q hq => (HOb2.out.own q hq).1
    have H3 := Lib.hid h3; have G3 := Lib.hid (grownOwn (grownA (grownR HGw.out HG2.out) _) g3 (fun q hq => by have := hown q hq; simpa using this))
    have R3 := Lib.hid ((HR2.out.below (below_box3 _ _ _)).grown g3 (fun q hq => by have := hown q hq; have := HPlt.out; omega))
    clear h3 g3
    go_wp2_with fail
    go_roundw
    case rel => exact ⟨k + 1, m, er2, l' ++ [⟨k1, n1, t1, ((r1, i1), s1), u1, li, ld⟩], by have := HK.out; omega, by go_num, snoc_len HLk.out _, H3.out, same_snoc (b := 0) HS.out (fun _ => HSk.out trivial) (fun h0 => ⟨(HS1.out h0).1, rfl⟩), R3.out, G3.out⟩
    case measure => simp [intOf]
   ·have t1 : ((erk : Int) == 0) = false := by simp; omega
    go_wp2_with fail
    refine (Err_x HRd.out).mono ?_
    rintro e w2 ⟨rfl, rfl⟩
    go_wp2_with fail
    go_ret
    exact ⟨_, l', erk, rfl, (rowsL HOb.out).base (by omega), by have := HK.out; have := HLe.out; rw [HLk.out]; omega, fun h0 => absurd h0 he, HRd.out.bad he R, grown_trans (grown_of_below (row := some q) (below_box3 W _ _)) HGw.out (New.refl _ _)⟩
end Go.Proofs.Ytplafpchgfjomaa
namespace Go.Proofs.Ytplafpchgfjomaa
open Go.RowKit Go.Buf Go.LB
set_option linter.unusedSimpArgs false
set_option linter.unusedVariables false
def relLm (B : Nat) (w : World) (v : Value) (y : List Lm.L) : Prop := relLs B w v y ∧ y.length ≤ 100000000
def relTm (m B : Nat) (w : World) (v : Value) (y : List Tm.N) : Prop := relT m B w v y ∧ y.length ≤ 100000000
def TreeC (m : Nat) : Prop := ∀ (q : Nat) (l : List Tm.N) (_ : takesT m l) (R z : List Nat) (er : Nat) (W : World), RdX W q (trE m l ++ R) z er → Calls Try.prog 23 #[tkV q, .int .i64 (m : Int)] W fun e w' => ∃ v l' er', e = .returned v ∧ relT m W.heap.size w' v l' ∧ l'.length ≤ 100000000 ∧ (er' = 0 → l' = l ∧ er = 0) ∧ RdX w' q R z er' ∧ W.grownBy w' (some q)
def takesN (m : Nat) (x : Tm.N) : Prop := x.name.size ≤ 12 ∧ x.leaves.length ≤ 100000000 ∧ (∀ y ∈ x.leaves, takesL y) ∧ takesT m x.under
set_option maxRecDepth 100000 in
set_option maxHeartbeats 25600000 in
theorem snode_x (m M : Nat) (hM : M = m + 1) (hm : m ≤ 1000) (ih0 : TreeC m) (q mb tb : Nat) (x : Tm.N) (hx : takesN m x) (R z : List Nat) (er : Nat) (W : World) (hmb : W.cell? ⟨mb, 0, none⟩ = some (.int .i64 (M : Int))) (htb : W.cell? ⟨tb, 0, none⟩ = some (.pointer (some ⟨q, 0, none⟩))) (hqm : q ≠ mb) (hqt : q ≠ tb) (h : RdX W q (ndE (trE m) x ++ R) z er) :
  Calls Try.prog 28 #[.pointer (some ⟨mb, 0, none⟩), .pointer (some ⟨tb, 0, none⟩)] W fun e w' => ∃ (nm : ByteArray) (la : Option Addr) (ll lc : Nat) (ba : Option Addr) (bl bc : Nat) (ls : List Lm.L) (bs : List Tm.N) (er' : Nat), e = .returned (.agg #[.string nm, .slice la ll lc, .slice ba bl bc]) ∧ ls.length = ll ∧ bs.length = bl ∧ (nm.size ≤ 12 ∧ ls.length ≤ 100000000 ∧ bs.length ≤ 100000000) ∧ Own1 W.heap.size w' (fun w => LRow w la lc ls ∧ TRow w m ba bc bs) ∧ (er' = 0 → Tm.N.mk nm ls bs = x ∧ er = 0) ∧ RdX w' q R z er' ∧ W.grownBy w' (some q) := by
 obtain ⟨n, y, u⟩ := x
 obtain ⟨h12, hly, hty, htu⟩ := hx
 simp only [Tm.N.name_mk, Tm.N.leaves_mk, Tm.N.under_mk] at h12 hly hty htu
 have hqlt := h.lt
 have hh : RdX W q (txtE n ++ ((Cd.num y.length ++ y.flatMap lfE) ++ (trE m u ++ R))) z er := by
  have e : ndE (trE m) (.mk n y u) ++ R = txtE n ++ ((Cd.num y.length ++ y.flatMap lfE) ++ (trE m u ++ R)) := by simp only [ndE, Tm.N.name_mk, Tm.N.leaves_mk, Tm.N.under_mk, List.append_assoc]
  rw [← e]; exact h
 have hw : IntKind.i64.wrap ((M : Int) - 1) = (m : Int) := by simp [IntKind.wrap, IntKind.bits, IntKind.signed]; omega
 have hM0 : ((M : Int) == 0) = false := by simp; omega
 obtain ⟨EJ, hE0, hE1, hE2, hE3⟩ : ∃ EJ : Nat → List Nat, EJ 0 = txtE n ++ ((Cd.num y.length ++ y.flatMap lfE) ++ (trE m u ++ R)) ∧ EJ 1 = (Cd.num y.length ++ y.flatMap lfE) ++ (trE m u ++ R) ∧ EJ 2 = trE m u ++ R ∧ EJ 3 = R := ⟨fun x => match x with | 0 => _ | 1 => _ | 2 => _ | _ => R, rfl, rfl, rfl, rfl⟩
 have HE0 := Lib.hid hE0; have HE1 := Lib.hid hE1; have HE2 := Lib.hid hE2; have HE3 := Lib.hid hE3
 clear hE0 hE1 hE2 hE3
 have HH := Lib.hid hh; have H12 := Lib.hid h12; have HLy := Lib.hid hly; have HTy := Lib.hid hty; have HTu := Lib.hid htu; have HW := Lib.hid hw; have ih := Lib.hid ih0
 clear h hh h12 hly hty htu hw hM ih0
 have hmlt := World.block_lt_of_cell? _ _ hmb
 have htlt := World.block_lt_of_cell? _ _ htb
 simp only at hmlt htlt
 go_enter Try.func28, Try.ntmps28
 go_wp2_with fail
 obtain ⟨rb, hrb⟩ : ∃ b, b = W.heap.size := ⟨_, rfl⟩
 obtain ⟨XX, hXX⟩ : ∃ w, w = W.alloc (.cells #[.string ⟨#[]⟩, .slice none 0 0, .slice none 0 0] 47) := ⟨_, rfl⟩
 have hb2 : Blk XX rb 47 [.string ⟨#[]⟩, .slice none 0 0, .slice none 0 0] := by rw [hXX, hrb]; exact Blk.new W _ _
 have hXB : Below W.heap.size W XX := by rw [hXX]; exact below_box3 _ _ _
 have hXG : W.grownBy XX (some q) := grown_of_below hXB
 have hXH : XX.heap.size = W.heap.size + 1 := by rw [hXX]; simp
 rw [← hXX, ← hrb]
 have HBX := Lib.hid (show ∀ w, Chg (fun k => k = q) XX w → w.cell? ⟨tb, 0, none⟩ = some (.pointer (some ⟨q, 0, none⟩)) ∧ w.cell? ⟨mb, 0, none⟩ = some (.int .i64 (M : Int)) from fun w h => by
  have hg : W.grownBy w (some q) := ⟨h.os.trans hXG.os, h.tape.trans hXG.tape, h.output.trans hXG.output, Nat.le_trans hXG.size h.size, fun k hk hn => (h.block k (by omega) (fun e => hn (by rw [e]))).trans (hXG.block k hk hn)⟩
  exact ⟨hg.cell htb (by simpa using fun e => hqt e.symm), hg.cell hmb (by simpa using fun e => hqm e.symm)⟩)
 have HRB := Lib.hid (show ∀ w, Chg (fun k => k = q) XX w → Blk w rb 47 [.string ⟨#[]⟩, .slice none 0 0, .slice none 0 0] from fun w h => hb2.chg h (by omega))
 have HQR := Lib.hid (show q < rb by omega); have HQX := Lib.hid (show q < XX.heap.size by omega); have HRX := Lib.hid (show rb < XX.heap.size by omega); have HXG := Lib.hid hXG; have HWX := Lib.hid (show W.heap.size ≤ XX.heap.size by omega); have HWR := Lib.hid (show W.heap.size ≤ rb by omega)
 have HJ0 := Lib.hid (show JX q EJ z er XX.heap.size 0 XX.drew from ⟨er, by rw [HE0.out]; exact (HH.out.below hXB).below (Below.refl _ _).drew, fun h => h, Nat.le_refl _⟩)
 clear hXX hb2 hXG hXB hXH hrb hqlt hmlt htlt hmb htb hqm hqt hM0
 refine RegH.region_list (by kernel_rfl) (fun k w => JX q EJ z er XX.heap.size k w) [2, 6, 10] [2, 6, 10, 12] [12] [] [RegH.plain (fun v _ => v = .pointer (some ⟨tb, 0, none⟩)), RegH.plain (fun v _ => v = .pointer (some ⟨q, 0, none⟩)), RegH.change (fun v w => Tk q (relS 12) n v w) (fun k => k = q) (fun u w w' => RX q EJ z er XX.heap.size 1 w w'), RegH.plain (fun v _ => v = .agg #[.pointer (some ⟨q, 0, none⟩)]), RegH.plain (fun v _ => v = .agg #[.pointer (some ⟨q, 0, none⟩)]), RegH.plain (fun v _ => v = .func (.func 31) #[tkV q] #[]), RegH.change (fun v w => Tk q (relLm XX.heap.size) y v w) (fun k => k = q) (fun u w w' => RX q EJ z er XX.heap.size 2 w w'), RegH.plain (fun v _ => v = .agg #[.pointer (some ⟨q, 0, none⟩)]), RegH.plain (fun v _ => v = .int .i64 (M : Int)), RegH.plain (fun v _ => v = .int .i64 (m : Int)), RegH.change (fun v w => Tk q (relTm m XX.heap.size) u v w) (fun k => k = q) (fun u w w' => RX q EJ z er XX.heap.size 3 w w'), RegH.plain (fun v w => ∃ (nm : ByteArray) (la : Option Addr) (ll lc : Nat) (ba : Option Addr) (bl bc : Nat) (ls : List Lm.L) (bs : List Tm.N), v = .agg #[.string nm, .slice la ll lc, .slice ba bl bc] ∧ ls.length = ll ∧ bs.length = bl ∧ (nm.size ≤ 12 ∧ ls.length ≤ 100000000 ∧ bs.length ≤ 100000000) ∧ Own1 XX.heap.size w (fun w => LRow w la lc ls ∧ TRow w m ba bc bs) ∧ (Tm.N.mk nm ls bs = .mk n y u ∨ Bad q w)), RegH.change (fun v w => ∃ (nm : ByteArray) (la : Option Addr) (ll lc : Nat) (ba : Option Addr) (bl bc : Nat) (ls : List Lm.L) (bs : List Tm.N), Blk w rb 47 [.string nm, .slice la ll lc, .slice ba bl bc] ∧ ls.length = ll ∧ bs.length = bl ∧ (nm.size ≤ 12 ∧ ls.length ≤ 100000000 ∧ bs.length ≤ 100000000) ∧ Own1 XX.heap.size w (fun w => LRow w la lc ls ∧ TRow w m ba bc bs) ∧ (Tm.N.mk nm ls bs = .mk n y u ∨ Bad q w)) (fun k => k = rb) (fun u w w' => w.grownBy w' (some rb))] (by kernel_rfl) (by kernel_rfl) (by kernel_rfl) (fun i hi => by simp at hi) (by kernel_rfl) (by kernel_rfl) rfl (HJ0.out) (fun _ _ _ hb h => h.below hb) ?_ ?_ ?_ ?_ ?_ ?_
 ·exact ⟨Or.inr ⟨fun _ h => h, fun _ _ _ h => h⟩, Or.inr ⟨fun _ h => h, fun _ _ _ h => h⟩, Or.inl (by decide), Or.inr ⟨fun _ h => h, fun _ _ _ h => h⟩, Or.inr ⟨fun _ h => h, fun _ _ _ h => h⟩, Or.inr ⟨fun _ h => h, fun _ _ _ h => h⟩, Or.inl (by decide), Or.inr ⟨fun _ h => h, fun _ _ _ h => h⟩, Or.inr ⟨fun _ h => h, fun _ _ _ h => h⟩, Or.inr ⟨fun _ h => h, fun _ _ _ h => h⟩, Or.inl (by decide), Or.inr ⟨fun _ h => h, fun _ _ _ h => h⟩, Or.inl (by decide), trivial⟩
 ·exact ⟨⟨fun _ _ _ h => h, Or.inl ⟨by decide, fun _ wx wy n h => (fun _ _ _ hb h => h.below hb) n wx wy (RegH.to_below h (fun _ h => h))⟩⟩, ⟨fun _ _ _ h => h, Or.inl ⟨by decide, fun _ wx wy n h => (fun _ _ _ hb h => h.below hb) n wx wy (RegH.to_below h (fun _ h => h))⟩⟩, ⟨(fun u wa wb h => (Chg.of_grown h.1).mono (fun k _ e => by simpa using e)), Or.inr ⟨0, rfl, (fun u wa wb h _ => h.2.2)⟩⟩, ⟨fun _ _ _ h => h, Or.inl ⟨by decide, fun _ wx wy n h => (fun _ _ _ hb h => h.below hb) n wx wy (RegH.to_below h (fun _ h => h))⟩⟩, ⟨fun _ _ _ h => h, Or.inl ⟨by decide, fun _ wx wy n h => (fun _ _ _ hb h => h.below hb) n wx wy (RegH.to_below h (fun _ h => h))⟩⟩, ⟨fun _ _ _ h => h, Or.inl ⟨by decide, fun _ wx wy n h => (fun _ _ _ hb h => h.below hb) n wx wy (RegH.to_below h (fun _ h => h))⟩⟩, ⟨(fun u wa wb h => (Chg.of_grown h.1).mono (fun k _ e => by simpa using e)), Or.inr ⟨1, rfl, (fun u wa wb h _ => h.2.2)⟩⟩, ⟨fun _ _ _ h => h, Or.inl ⟨by decide, fun _ wx wy n h => (fun _ _ _ hb h => h.below hb) n wx wy (RegH.to_below h (fun _ h => h))⟩⟩, ⟨fun _ _ _ h => h, Or.inl ⟨by decide, fun _ wx wy n h => (fun _ _ _ hb h => h.below hb) n wx wy (RegH.to_below h (fun _ h => h))⟩⟩, ⟨fun _ _ _ h => h, Or.inl ⟨by decide, fun _ wx wy n h => (fun _ _ _ hb h => h.below hb) n wx wy (RegH.to_below h (fun _ h => h))⟩⟩, ⟨(fun u wa wb h => (Chg.of_grown h.1).mono (fun k _ e => by simpa using e)), Or.inr ⟨2, rfl, (fun u wa wb h _ => h.2.2)⟩⟩, ⟨fun _ _ _ h => h, Or.inl ⟨by decide, fun _ wx wy n h => (fun _ _ _ hb h => h.below hb) n wx wy (RegH.to_below h (fun _ h => h))⟩⟩, ⟨(fun u wa wb h => (Chg.of_grown h).mono (fun k _ e => by simpa using e)), Or.inl ⟨by decide, (fun u wa wb n h hj => hj.grown h HQR.out)⟩⟩, trivial⟩
 ·refine ⟨k4, k4, (fun v wa wb hb h => by exact Tk.step h (fun _ h => h) (fun h => h.below hb)), k4, k4, k4, (fun v wa wb hb h => by exact Tk.step h (fun _ h => ⟨h.1.below hb, h.2⟩) (fun h => h.below hb)), k4, k4, k4, (fun v wa wb hb h => by exact Tk.step h (fun _ h => ⟨h.1.below hb, h.2⟩) (fun h => h.below hb)), (fun v wa wb hb h => by obtain ⟨nm, la, ll, lc, ba, bl, bc, ls, bs, h0, h1, h2, h3, h4, h5⟩ := h; exact ⟨nm, la, ll, lc, ba, bl, bc, ls, bs, h0, h1, h2, h3, h4.below hb, h5.imp id (fun h => h.below hb)⟩), (fun v wa wb hb h => by obtain ⟨nm, la, ll, lc, ba, bl, bc, ls, bs, h0, h1, h2, h3, h4, h5⟩ := h; exact ⟨nm, la, ll, lc, ba, bl, bc, ls, bs, h0.below hb, h1, h2, h3, h4.below hb, h5.imp id (fun h => h.below hb)⟩), trivial⟩
 ·refine ⟨⟨Or.inr (Or.inr (Or.inr (fun _ _ _ _ _ _ h => h))), Or.inr (Or.inr (Or.inr (fun _ _ _ _ _ _ h => h))), Or.inl rfl, Or.inr (Or.inr (Or.inr (fun _ _ _ _ _ _ h => h))), Or.inr (Or.inr (Or.inr (fun _ _ _ _ _ _ h => h))), Or.inr (Or.inr (Or.inr (fun _ _ _ _ _ _ h => h))), Or.inr (Or.inl (by kernel_rfl)), Or.inr (Or.inr (Or.inr (fun _ _ _ _ _ _ h => h))), Or.inr (Or.inr (Or.inr (fun _ _ _ _ _ _ h => h))), Or.inr (Or.inr (Or.inr (fun _ _ _ _ _ _ h => h))), Or.inr (Or.inl (by kernel_rfl)), Or.inr (Or.inl (by kernel_rfl)), Or.inr (Or.inl (by kernel_rfl)), trivial⟩, ⟨Or.inr (Or.inr (Or.inr (fun _ _ _ _ _ _ h => h))), Or.inr (Or.inr (Or.inr (fun _ _ _ _ _ _ h => h))), Or.inr (Or.inr (Or.inr (fun u v wa wb hap hr h => by exact Tk.step h (fun _ h => h) hr.2.1))), Or.inr (Or.inr (Or.inr (fun _ _ _ _ _ _ h => h))), Or.inr (Or.inr (Or.inr (fun _ _ _ _ _ _ h => h))), Or.inr (Or.inr (Or.inr (fun _ _ _ _ _ _ h => h))), Or.inl rfl, Or.inr (Or.inr (Or.inr (fun _ _ _ _ _ _ h => h))), Or.inr (Or.inr (Or.inr (fun _ _ _ _ _ _ h => h))), Or.inr (Or.inr (Or.inr (fun _ _ _ _ _ _ h => h))), Or.inr (Or.inl (by kernel_rfl)), Or.inr (Or.inl (by kernel_rfl)), Or.inr (Or.inl (by kernel_rfl)), trivial⟩, ⟨Or.inr (Or.inr (Or.inr (fun _ _ _ _ _ _ h => h))), Or.inr (Or.inr (Or.inr (fun _ _ _ _ _ _ h => h))), Or.inr (Or.inr (Or.inr (fun u v wa wb hap hr h => by exact Tk.step h (fun _ h => h) hr.2.1))), Or.inr (Or.inr (Or.inr (fun _ _ _ _ _ _ h => h))), Or.inr (Or.inr (Or.inr (fun _ _ _ _ _ _ h => h))), Or.inr (Or.inr (Or.inr (fun _ _ _ _ _ _ h => h))), Or.inr (Or.inr (Or.inr (fun u v wa wb hap hr h => by exact Tk.step h (fun _ h => ⟨h.1.grown hr.1 HQX.out, h.2⟩) hr.2.1))), Or.inr (Or.inr (Or.inr (fun _ _ _ _ _ _ h => h))), Or.inr (Or.inr (Or.inr (fun _ _ _ _ _ _ h => h))), Or.inr (Or.inr (Or.inr (fun _ _ _ _ _ _ h => h))), Or.inl rfl, Or.inr (Or.inl (by kernel_rfl)), Or.inr (Or.inl (by kernel_rfl)), trivial⟩, ⟨Or.inr (Or.inr (Or.inr (fun _ _ _ _ _ _ h => h))), Or.inr (Or.inr (Or.inr (fun _ _ _ _ _ _ h => h))), Or.inr (Or.inr (Or.inl (by kernel_rfl))), Or.inr (Or.inr (Or.inr (fun _ _ _ _ _ _ h => h))), Or.inr (Or.inr (Or.inr (fun _ _ _ _ _ _ h => h))), Or.inr (Or.inr (Or.inr (fun _ _ _ _ _ _ h => h))), Or.inr (Or.inr (Or.inl (by kernel_rfl))), Or.inr (Or.inr (Or.inr (fun _ _ _ _ _ _ h => h))), Or.inr (Or.inr (Or.inr (fun _ _ _ _ _ _ h => h))), Or.inr (Or.inr (Or.inr (fun _ _ _ _ _ _ h => h))), Or.inr (Or.inr (Or.inl (by kernel_rfl))), Or.inr (Or.inr (Or.inl (by kernel_rfl))), Or.inl rfl, trivial⟩, trivial⟩
 ·refine ⟨?_, ?_, ?_, ?_, ?_, ?_, ?_, ?_, ?_, ?_, ?_, ?_, ?_, trivial⟩
  ·intro ev w hc hf hg hfix hdep hchg hinv
   have e1 : ev (.tmp 1) = _ := hfix 1 (by decide)
   exact Or.inl ⟨trivial, Or.inl ⟨_, w, by go_simp, rfl, Chg.refl _ _⟩⟩
  ·intro ev w hc hf hg hfix hdep hchg hinv
   have e9 : ev (.tmp 9) = _ := hdep 0 (by decide)
   obtain ⟨d0, d1⟩ := HBX.out w (Chg.mono (RegH.undrewC (hchg [] (by kernel_rfl))) (fun k _ h => by rcases h with h <;> first | exact h.elim | exact h))
   exact Or.inl ⟨trivial, Or.inl ⟨_, w, by go_simp, rfl, Chg.refl _ _⟩⟩
  ·intro ev w hc hf hg hfix hdep hchg hinv
   have e10 : ev (.tmp 10) = _ := hdep 1 (by decide)
   refine Or.inl ⟨trivial, Or.inr (Or.inl ⟨29, #[.pointer (some ⟨q, 0, none⟩), .int .i64 12], w, by go_simp, ?_⟩)⟩
   obtain ⟨er0, hrd, he0, hsz⟩ := hinv 0 rfl
   rw [HE0.out] at hrd
   refine (Text_x n 12 (by have := H12.out; omega) (by omega) hrd).mono ?_
   rintro e w9 ⟨u9, er9, rfl, hv9, hr9, hg9⟩
   exact ⟨_, rfl, ⟨u9, ⟨rfl, txt_le hv9 H12.out⟩, or_bad hr9 (fun h => (txt_and hv9 h).1)⟩, RX.mk' hrd he0 hsz HE1.out (txt_and hv9) hr9 hg9⟩
  ·intro ev w hc hf hg hfix hdep hchg hinv
   have e1 : ev (.tmp 1) = _ := hfix 1 (by decide)
   obtain ⟨d0, d1⟩ := HBX.out w (Chg.mono (RegH.undrewC (hchg [2] (by kernel_rfl))) (fun k _ h => by rcases h with h | h <;> first | exact h.elim | exact h))
   exact Or.inl ⟨trivial, Or.inl ⟨_, w, by go_simp, rfl, Chg.refl _ _⟩⟩
  ·intro ev w hc hf hg hfix hdep hchg hinv
   have e1 : ev (.tmp 1) = _ := hfix 1 (by decide)
   obtain ⟨d0, d1⟩ := HBX.out w (Chg.mono (RegH.undrewC (hchg [2] (by kernel_rfl))) (fun k _ h => by rcases h with h | h <;> first | exact h.elim | exact h))
   exact Or.inl ⟨trivial, Or.inl ⟨_, w, by go_simp, rfl, Chg.refl _ _⟩⟩
  ·intro ev w hc hf hg hfix hdep hchg hinv
   have e13 : ev (.tmp 13) = _ := hdep 4 (by decide)
   exact Or.inl ⟨trivial, Or.inl ⟨_, w, by go_simp, rfl, Chg.refl _ _⟩⟩
  ·intro ev w hc hf hg hfix hdep hchg hinv
   have e12 : ev (.tmp 12) = _ := hdep 3 (by decide)
   have e14 : ev (.tmp 14) = _ := hdep 5 (by decide)
   refine Or.inl ⟨trivial, Or.inr (Or.inl ⟨30, #[.agg #[.pointer (some ⟨q, 0, none⟩)], .func (.func 31) #[tkV q] #[]], w, by go_simp, ?_⟩)⟩
   obtain ⟨er0, hrd, he0, hsz⟩ := hinv 1 rfl
   rw [HE1.out] at hrd
   refine (slistL_x q y (by have := HLy.out; omega) HTy.out _ z er0 w (by rw [List.append_assoc] at hrd; exact hrd)).mono ?_
   rintro e w9 ⟨v9, l9, er9, rfl, hrel9, hle9, hv9, hr9, hg9⟩
   exact ⟨_, rfl, ⟨l9, ⟨hrel9.base hsz, by have := HLy.out; omega⟩, or_bad hr9 (fun h => (hv9 h).1)⟩, RX.mk' hrd he0 hsz HE2.out hv9 hr9 hg9⟩
  ·intro ev w hc hf hg hfix hdep hchg hinv
   have e1 : ev (.tmp 1) = _ := hfix 1 (by decide)
   obtain ⟨d0, d1⟩ := HBX.out w (Chg.mono (RegH.undrewC (hchg [2, 6] (by kernel_rfl))) (fun k _ h => by rcases h with h | h | h <;> first | exact h.elim | exact h))
   exact Or.inl ⟨trivial, Or.inl ⟨_, w, by go_simp, rfl, Chg.refl _ _⟩⟩
  ·intro ev w hc hf hg hfix hdep hchg hinv
   have e0 : ev (.tmp 0) = _ := hfix 0 (by decide)
   obtain ⟨d0, d1⟩ := HBX.out w (Chg.mono (RegH.undrewC (hchg [2, 6] (by kernel_rfl))) (fun k _ h => by rcases h with h | h | h <;> first | exact h.elim | exact h))
   exact Or.inl ⟨trivial, Or.inl ⟨_, w, by go_simp, rfl, Chg.refl _ _⟩⟩
  ·intro ev w hc hf hg hfix hdep hchg hinv
   have e17 : ev (.tmp 17) = _ := hdep 8 (by decide)
   have hw := HW.out
   exact Or.inl ⟨trivial, Or.inl ⟨_, w, by go_simp, rfl, Chg.refl _ _⟩⟩
  ·intro ev w hc hf hg hfix hdep hchg hinv
   have e16 : ev (.tmp 16) = _ := hdep 7 (by decide)
   have e18 : ev (.tmp 18) = _ := hdep 9 (by decide)
   refine Or.inl ⟨trivial, Or.inr (Or.inl ⟨23, #[.agg #[.pointer (some ⟨q, 0, none⟩)], .int .i64 (m : Int)], w, by go_simp, ?_⟩)⟩
   obtain ⟨er0, hrd, he0, hsz⟩ := hinv 2 rfl
   rw [HE2.out] at hrd
   refine (ih.out q u HTu.out _ z er0 w hrd).mono ?_
   rintro e w9 ⟨v9, l9, er9, rfl, hrel9, hle9, hv9, hr9, hg9⟩
   exact ⟨_, rfl, ⟨l9, ⟨hrel9.base hsz, hle9⟩, or_bad hr9 (fun h => (hv9 h).1)⟩, RX.mk' hrd he0 hsz HE3.out hv9 hr9 hg9⟩
  ·intro ev w hc hf hg hfix hdep hchg hinv
   have e11 := hdep 2 (by decide)
   have e15 := hdep 6 (by decide)
   have e19 := hdep 10 (by decide)
   obtain ⟨nm, ⟨f11, b11⟩, c11⟩ := e11
   obtain ⟨ls, ⟨⟨la, lc, f15, o15⟩, b15⟩, c15⟩ := e15
   obtain ⟨bs, ⟨⟨ba, bc, f19, o19⟩, b19⟩, c19⟩ := e19
   obtain ⟨ll, hll⟩ : ∃ m, ls.length = m := ⟨_, rfl⟩
   obtain ⟨bl, hbl⟩ : ∃ m, bs.length = m := ⟨_, rfl⟩
   rw [hll] at f15
   rw [hbl] at f19
   have e11 : ev (.tmp 11) = .string nm := f11
   have e15 : ev (.tmp 15) = .slice la ll lc := f15
   have e19 : ev (.tmp 19) = .slice ba bl bc := f19
   exact Or.inl ⟨trivial, Or.inl ⟨.agg #[.string nm, .slice la ll lc, .slice ba bl bc], w, by go_simp, ⟨nm, la, ll, lc, ba, bl, bc, ls, bs, rfl, hll, hbl, ⟨b11, b15, b19⟩, o15.and o19, (or2 c11 (or2 c15 c19)).imp (fun ⟨g1, g2, g3⟩ => by rw [g1, g2, g3]) id⟩, Chg.refl _ _⟩⟩
  ·intro ev w hc hf hg hfix hdep hchg hinv
   have e2 : ev (.tmp 2) = _ := hfix 2 (by decide)
   have e20 := hdep 11 (by decide)
   obtain ⟨nm, la, ll, lc, ba, bl, bc, ls, bs, f, h1, h2, h3, h4, h5⟩ := e20
   have e20 : ev (.tmp 20) = .agg #[.string nm, .slice la ll lc, .slice ba bl bc] := f
   have hbk := HRB.out w (Chg.mono (RegH.undrewC (hchg [2, 6, 10] (by kernel_rfl))) (fun k _ h => by rcases h with h | h | h | h <;> first | exact h.elim | exact h))
   have d0 := hbk.cell 0; have d1 := hbk.cell 1; have d2 := hbk.cell 2
   have y0 := hbk.frozen 0; have y1 := hbk.frozen 1; have y2 := hbk.frozen 2
   simp only [List.getElem?_cons_succ, List.getElem?_cons_zero] at d0 d1 d2
   have hg3 := grownR (grownR (grown_setCell w rb 0 (.string nm)) (grown_setCell _ rb 1 (.slice la ll lc))) (grown_setCell _ rb 2 (.slice ba bl bc))
   exact Or.inl ⟨trivial, Or.inr (Or.inr ⟨(((w.setCell ⟨rb, 0, none⟩ (.string nm)).setCell ⟨rb, 1, none⟩ (.slice la ll lc)).setCell ⟨rb, 2, none⟩ (.slice ba bl bc)), by go_simp, ⟨nm, la, ll, lc, ba, bl, bc, ls, bs, (((hbk.set 0 _).set 1 _).set 2 _), h1, h2, h3, h4.grown hg3 HRX.out, h5.imp id (fun h => h.grown hg3 (fun k e => by cases e; exact HQR.out))⟩, hg3⟩)⟩
 ·intro v w2 hv hlk hap hb2 hJ2
  have r12 := hv 12 (by decide) (by decide)
  simp only [Reg.putAll, Act.put, List.setIfInBounds_toArray, List.set_cons_zero, List.set_cons_succ]
  clear hv hlk hap
  obtain ⟨nm, la, ll, lc, ba, bl, bc, ls, bs, hbk, hl1, hl2, hok, hown, hc⟩ := r12
  obtain ⟨er2, hrd2, he2, hsz2⟩ := hJ2
  have hch : Chg (fun k => k = q ∨ k = rb) XX w2 := Chg.mono hb2 (fun k _ h => by rcases h with h | h | h | h | h <;> first | exact h.elim | exact Or.inl h | exact Or.inr h)
  have hrd3 : RdX w2 q R z er2 := by rw [← HE3.out]; exact hrd2
  have HG := Lib.hid (grown_chg HXG.out hch HWR.out); have HR := Lib.hid hrd3; have HE2 := Lib.hid he2
  have HC := Lib.hid (show er2 = 0 → _ from fun h0 => hc.resolve_right (by subst h0; exact not_bad hrd3))
  have d0 := hbk.cell 0; have d1 := hbk.cell 1; have d2 := hbk.cell 2
  simp only [List.getElem?_cons_succ, List.getElem?_cons_zero] at d0 d1 d2
  have HBk := Lib.hid hbk
  clear hb2 hrd2 hsz2 hch hrd3 he2 hc hbk
  go_wp2_with fail
  refine bodyPost_ret (v := .agg #[.string nm, .slice la ll lc, .slice ba bl bc]) (by simp [results, Try.results28, go_sem, d0, d1, d2]) rfl ⟨nm, la, ll, lc, ba, bl, bc, ls, bs, er2, rfl, hl1, hl2, hok, hown.base HWX.out, fun h0 => ⟨HC.out h0, HE2.out h0⟩, HR.out, HG.out⟩
end Go.Proofs.Ytplafpchgfjomaa
