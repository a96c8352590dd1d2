import Derived.Test.YtplafpchgfjomaaZSt3
namespace Go.Proofs.Ytplafpchgfjomaa
open Go.RowKit Go.Buf Go.LB
set_option linter.unusedSimpArgs false
set_option linter.unusedVariables false
def relCD (_ : World) (cs : List Value) (d : Dt.Dot) : Prop := cs = encT d ∧ Dt.okD d
def relCI (_ : World) (cs : List Value) (d : Lm.It) : Prop := cs = encI d ∧ okI d ∧ d.2.2.size ≤ 40
theorem rowsD {B : Nat} {w : World} {u : Value} {l : List Dt.Dot} (h : OBX 40 3 B relCD w u l) : relDs B w u l := by
 obtain ⟨a, c, hu, hn, hc, ha, hk⟩ := h.reads
 refine ⟨a, c, hu, hk.imp fun w2 hw => ⟨hn, hc, fun d hd => ?_, ha, fun i d hd => ?_⟩⟩
 ·obtain ⟨i, hi⟩ := List.getElem?_of_mem hd
  obtain ⟨q, cs, _, _, ⟨_, h1⟩, _⟩ := hw i d hi
  exact h1
 ·obtain ⟨q, cs, hq, _, ⟨rfl, _⟩, h2⟩ := hw i d hd
  exact ⟨q, hq, by simpa using h2 0 _ rfl, h2 1 _ rfl, h2 2 _ rfl⟩
theorem rowsI {B : Nat} {w : World} {u : Value} {l : List Lm.It} (h : OBX 57 5 B relCI w u l) : relIs B w u l := by
 obtain ⟨a, c, hu, hn, hc, ha, hk⟩ := h.reads
 refine ⟨a, c, hu, hk.imp fun w2 hw => ⟨hn, hc, fun d hd => ?_, ha, fun i d hd => ?_⟩⟩
 ·obtain ⟨i, hi⟩ := List.getElem?_of_mem hd
  obtain ⟨q, cs, _, _, ⟨_, h1, _⟩, _⟩ := hw i d hi
  exact h1
 ·obtain ⟨q, cs, hq, _, ⟨rfl, _⟩, h2⟩ := hw i d hd
  exact ⟨q, hq, by simpa using h2 0 _ rfl, h2 1 _ rfl, h2 2 _ rfl, h2 3 _ rfl, h2 4 _ rfl⟩
theorem infoItem : (Try.prog.info? 57).map (fun i => (i.zero, i.size, i.bytes)) = some (some (.agg #[.int .u64 0, .int .u8 0, .int .u32 0, .int .u64 0, .string ⟨#[]⟩]), 5, 40) := by kernel_rfl
theorem grow_d0 {B : Nat} {w : World} {u : Value} {P : World → Prop} (h : ∃ lo hi, B ≤ lo ∧ hi ≤ w.heap.size ∧ (∀ g, u.ownBlock = some g → g < lo ∨ hi ≤ g) ∧ KeepI lo hi w P) (o : Obj) : ∃ lo hi, B ≤ lo ∧ hi ≤ (w.alloc o).heap.size ∧ (∀ g, u.ownBlock = some g → g < lo ∨ hi ≤ g) ∧ KeepI lo hi (w.alloc o) P := by
 obtain ⟨lo, hi, a, b, c, d⟩ := h
 exact ⟨lo, hi, a, by simp; omega, c, d.grown b (World.grownBy_alloc w o none) (fun k e => by cases e)⟩
set_option maxRecDepth 100000 in
set_option maxHeartbeats 3200000 in
theorem slistD_x (q : Nat) (l : List Dt.Dot) (hl : l.length ≤ 1000000000) (hok : ∀ d ∈ l, Dt.okD d) (R z : List Nat) (er : Nat) (W : World) (h : RdX W q (Cd.num l.length ++ (l.flatMap dotE ++ R)) z er) :
  Calls Try.prog 43 #[tkV q, .func (.func 40) #[tkV q] #[]] W fun e w' => ∃ v l' er', e = .returned v ∧ relDs W.heap.size w' v l' ∧ l'.length ≤ l.length ∧ (er' = 0 → l' = l ∧ er = 0) ∧ RdX w' q R z er' ∧ W.grownBy w' (some q) := by
 have hplt := h.lt
 have H := Lib.hid h; have HOk := Lib.hid hok; have HPlt := Lib.hid hplt; have HLl := Lib.hid hl
 obtain ⟨i0, hi, hz0, hz1, hz2⟩ := info_parts infoDot
 have HI := Lib.hid hi; have HZ0 := Lib.hid hz0; have HZ1 := Lib.hid hz1; have HZ2 := Lib.hid hz2
 clear h hok hi hz0 hz1 hz2
 go_enter Try.func43, Try.ntmps43
 go_wp2_with fail
 refine (Num_x l.length (by omega) (H.out.below (below_box3 _ _ _))).mono ?_
 rintro e w1 ⟨v, er1, rfl, hv, hr, hg⟩
 have hle := le_of_x hv
 obtain ⟨l2, hl2, hsame, hin, hr2⟩ := many_x l rfl hv hr
 have HL2 := Lib.hid hl2; have HSame := Lib.hid hsame; have HR := Lib.hid hr2; have HG := Lib.hid hg; have HIn := Lib.hid hin; have hg1 := hg.size; have HLe := Lib.hid hle
 clear hr hg hv hl2 hsame hin hr2 hplt
 go_wp2_with fail
 go_loopw [5, 6] (fun u i wr => ∃ (k m erk : Nat) (l' : List Dt.Dot), k + m = v ∧ i = .int .u64 m ∧ l'.length = k ∧ OBX 40 3 (W.heap.size + 1) relCD wr u l' ∧ (erk = 0 → l' = l2.take k ∧ er1 = 0) ∧ RdX wr q ((l2.drop k).flatMap dotE ++ R) z erk ∧ (W.alloc (.cells #[.pointer (some ⟨q, 0, none⟩)] 66)).grownBy wr (some q)) (fun _ i _ => (intOf i).toNat)
 case atStart => exact ⟨0, v, er1, [], Nat.zero_add _, rfl, rfl, OBX.nil (by simp at hg1; omega), fun h => ⟨by simp, h⟩, by simpa using HR.out, HG.out⟩
 case round =>
  obtain ⟨k, m, erk, l', hk, rfl, hlk, hob, hsk, hrd, hgw⟩ := hrel
  have HOb := Lib.hid hob; have HRd := Lib.hid hrd; have HGw := Lib.hid hgw; have HSk := Lib.hid hsk; have HLk := Lib.hid hlk; have HK := Lib.hid hk
  have hc0 : wr.cell? ⟨W.heap.size, 0, none⟩ = some (.pointer (some ⟨q, 0, none⟩)) := by rw [cell_of_row wr W.heap.size 0 _ _ _ (boxKept hgw HPlt.out)]; rfl
  clear hob hrd hgw hsk hlk
  cases m with
  | zero =>
   obtain rfl : k = v := by have := HK.out; omega
   have HRd2 := Lib.hid (show RdX wr q R z erk by have := HRd.out; rwa [List.drop_of_length_le (by rw [HL2.out]; omega), List.flatMap_nil, List.nil_append] at this)
   clear HRd
   go_wp2_with fail
   go_ret
   refine ⟨_, l', erk, rfl, (rowsD HOb.out).base (by omega), by rw [HLk.out]; exact HLe.out, fun h0 => ?_, HRd2.out, grown_trans (grown_of_below (row := some q) (below_box3 W _ _)) HGw.out (New.refl _ _)⟩
   obtain ⟨e1, e2⟩ := HSk.out h0
   obtain ⟨e3, e4⟩ := HSame.out e2
   exact ⟨by rw [e1, List.take_of_length_le (by rw [HL2.out]; omega), e3], e4⟩
  | succ m =>
   have hm0 : (0 : Int) < ((m + 1 : Nat) : Int) := by omega
   by_cases he : erk = 0
   ·subst he
    obtain ⟨s, hs⟩ : ∃ s, l2[k]? = some s := ⟨l2[k]'(by rw [HL2.out]; have := HK.out; omega), List.getElem?_eq_getElem _⟩
    have HS := Lib.hid hs; have HO := Lib.hid (HOk.out s (HIn.out s (List.mem_of_getElem? hs)))
    have hrd : RdX wr q (dotE s ++ ((l2.drop (k + 1)).flatMap dotE ++ R)) z 0 := by
     have := HRd.out
     rw [drop_one hs, List.flatMap_cons, List.append_assoc] at this
     exact this
    have HRd2 := Lib.hid hrd
    clear hs hrd
    have hlk : l'.length + 1 ≤ 1000000000 := by have := HLk.out; have := HK.out; have := HLe.out; have := HLl.out; omega
    have HLk1 := Lib.hid hlk; clear hlk
    go_wp2_with fail
    refine (Err_x HRd.out).mono ?_
    rintro e w2 ⟨rfl, rfl⟩
    go_wp2_with fail
    refine (sdot_x q s HO.out _ z 0 _ HRd2.out).mono ?_
    rintro e w2 ⟨⟨⟨r, i⟩, s'⟩, er2, rfl, hok1, hs1, hr, hg⟩
    have hob2 := HOb.out.grown hg (by have := HPlt.out; omega)
    have HOb2 := Lib.hid hob2; have HR2 := Lib.hid hr; have HG2 := Lib.hid hg; have HS1 := Lib.hid hs1; have HK1 := Lib.hid hok1
    have hd0 : ∃ lo hi, W.heap.size + 1 ≤ lo ∧ hi ≤ w2.heap.size ∧ (∀ g, u5.ownBlock = some g → g < lo ∨ hi ≤ g) ∧ KeepI lo hi w2 fun w => relCD w [(.int .u8 (r : Int)), (.int .u32 (i : Int)), (.int .u64 (s' : Int))] ((r, i), s') := ⟨W.heap.size + 1, 0, Nat.le_refl _, Nat.zero_le _, fun g _ => Or.inr (Nat.zero_le _), fun _ _ => ⟨rfl, hok1⟩⟩
    have HD0 := Lib.hid hd0
    clear hr hg hob2 hok1 hs1 hd0 
    go_wp2_with (refine wpList_append_obx rfl (.tmp 20) (.tmp 23) 42 rfl i0 (.agg #[.int .u8 0, .int .u32 0, .int .u64 0]) 16 Try.underlying42 HI.out HZ0.out HZ1.out HZ2.out rfl (by decide) rfl (HOb2.out.below (below_box3 _ _ _)) ⟨w2.heap.size, 0, none⟩ 1 [(.int .u8 (r : Int)), (.int .u32 (i : Int)), (.int .u64 (s' : Int))] ((r, i), s') rfl rfl (fun j u hu => by match j, hu with | 0, hu => (simp at hu; subst hu; simp [Addr.add]) | 1, hu => (simp at hu; subst hu; simp [Addr.add]) | 2, hu => (simp at hu; subst hu; simp [Addr.add]) | j + 3, hu => simp at hu) (fun u hu => by simp at hu; (first | (subst hu; rfl) | (rcases hu with rfl | rfl | rfl <;> rfl))) HLk1.out (by have := HLk1.out; omega) (grow_d0 HD0.out _) ?_; intro v3 w3 h3 g3)
    have hown : ∀ q, u5.ownBlock = some q → W.heap.size + 1 ≤ q := fun q hq => (HOb2.out.own q hq).1
    have H3 := Lib.hid h3; have G3 := Lib.hid (grownOwn (grownA (grownR HGw.out HG2.out) _) g3 (fun q hq => by have := hown q hq; simpa using this))
    have R3 := Lib.hid ((HR2.out.below (below_box3 _ _ _)).grown g3 (fun q hq => by have := hown q hq; have := HPlt.out; omega))
    clear h3 g3
    go_wp2_with fail
    go_roundw
    case rel => exact ⟨k + 1, m, er2, l' ++ [((r, i), s')], by have := HK.out; omega, by go_num, snoc_len HLk.out _, H3.out, same_snoc (b := 0) HS.out (fun _ => HSk.out trivial) (fun h0 => ⟨(HS1.out h0).1, rfl⟩), R3.out, G3.out⟩
    case measure => simp [intOf]
   ·have t1 : ((erk : Int) == 0) = false := by simp; omega
    go_wp2_with fail
    refine (Err_x HRd.out).mono ?_
    rintro e w2 ⟨rfl, rfl⟩
    go_wp2_with fail
    go_ret
    exact ⟨_, l', erk, rfl, (rowsD HOb.out).base (by omega), by have := HK.out; have := HLe.out; rw [HLk.out]; omega, fun h0 => absurd h0 he, HRd.out.bad he R, grown_trans (grown_of_below (row := some q) (below_box3 W _ _)) HGw.out (New.refl _ _)⟩
set_option maxRecDepth 100000 in
set_option maxHeartbeats 3200000 in
theorem slistI_x (q : Nat) (l : List Lm.It) (hl : l.length ≤ 1000000000) (hok : ∀ d ∈ l, okI d ∧ d.2.2.size ≤ 40) (R z : List Nat) (er : Nat) (W : World) (h : RdX W q (Cd.num l.length ++ (l.flatMap itE ++ R)) z er) :
  Calls Try.prog 41 #[tkV q, .func (.func 42) #[tkV q] #[]] W fun e w' => ∃ v l' er', e = .returned v ∧ relIs W.heap.size w' v l' ∧ l'.length ≤ l.length ∧ (er' = 0 → l' = l ∧ er = 0) ∧ RdX w' q R z er' ∧ W.grownBy w' (some q) := by
 have hplt := h.lt
 have H := Lib.hid h; have HOk := Lib.hid hok; have HPlt := Lib.hid hplt; have HLl := Lib.hid hl
 obtain ⟨i0, hi, hz0, hz1, hz2⟩ := info_parts infoItem
 have HI := Lib.hid hi; have HZ0 := Lib.hid hz0; have HZ1 := Lib.hid hz1; have HZ2 := Lib.hid hz2
 clear h hok hi hz0 hz1 hz2
 go_enter Try.func41, Try.ntmps41
 go_wp2_with fail
 refine (Num_x l.length (by omega) (H.out.below (below_box3 _ _ _))).mono ?_
 rintro e w1 ⟨v, er1, rfl, hv, hr, hg⟩
 have hle := le_of_x hv
 obtain ⟨l2, hl2, hsame, hin, hr2⟩ := many_x l rfl hv hr
 have HL2 := Lib.hid hl2; have HSame := Lib.hid hsame; have HR := Lib.hid hr2; have HG := Lib.hid hg; have HIn := Lib.hid hin; have hg1 := hg.size; have HLe := Lib.hid hle
 clear hr hg hv hl2 hsame hin hr2 hplt
 go_wp2_with fail
 go_loopw [5, 6] (fun u i wr => ∃ (k m erk : Nat) (l' : List Lm.It), k + m = v ∧ i = .int .u64 m ∧ l'.length = k ∧ OBX 57 5 (W.heap.size + 1) relCI wr u l' ∧ (erk = 0 → l' = l2.take k ∧ er1 = 0) ∧ RdX wr q ((l2.drop k).flatMap itE ++ R) z erk ∧ (W.alloc (.cells #[.pointer (some ⟨q, 0, none⟩)] 66)).grownBy wr (some q)) (fun _ i _ => (intOf i).toNat)
 case atStart => exact ⟨0, v, er1, [], Nat.zero_add _, rfl, rfl, OBX.nil (by simp at hg1; omega), fun h => ⟨by simp, h⟩, by simpa using HR.out, HG.out⟩
 case round =>
  obtain ⟨k, m, erk, l', hk, rfl, hlk, hob, hsk, hrd, hgw⟩ := hrel
  have HOb := Lib.hid hob; have HRd := Lib.hid hrd; have HGw := Lib.hid hgw; have HSk := Lib.hid hsk; have HLk := Lib.hid hlk; have HK := Lib.hid hk
  have hc0 : wr.cell? ⟨W.heap.size, 0, none⟩ = some (.pointer (some ⟨q, 0, none⟩)) := by rw [cell_of_row wr W.heap.size 0 _ _ _ (boxKept hgw HPlt.out)]; rfl
  clear hob hrd hgw hsk hlk
  cases m with
  | zero =>
   obtain rfl : k = v := by have := HK.out; omega
   have HRd2 := Lib.hid (show RdX wr q R z erk by have := HRd.out; rwa [List.drop_of_length_le (by rw [HL2.out]; omega), List.flatMap_nil, List.nil_append] at this)
   clear HRd
   go_wp2_with fail
   go_ret
   refine ⟨_, l', erk, rfl, (rowsI HOb.out).base (by omega), by rw [HLk.out]; exact HLe.out, fun h0 => ?_, HRd2.out, grown_trans (grown_of_below (row := some q) (below_box3 W _ _)) HGw.out (New.refl _ _)⟩
   obtain ⟨e1, e2⟩ := HSk.out h0
   obtain ⟨e3, e4⟩ := HSame.out e2
   exact ⟨by rw [e1, List.take_of_length_le (by rw [HL2.out]; omega), e3], e4⟩
  | succ m =>
   have hm0 : (0 : Int) < ((m + 1 : Nat) : Int) := by omega
   by_cases he : erk = 0
   ·subst he
    obtain ⟨s, hs⟩ : ∃ s, l2[k]? = some s := ⟨l2[k]'(by rw [HL2.out]; have := HK.out; omega), List.getElem?_eq_getElem _⟩
    have HS := Lib.hid hs; have HO := Lib.hid (HOk.out s (HIn.out s (List.mem_of_getElem? hs)))
    have hrd : RdX wr q (itE s ++ ((l2.drop (k + 1)).flatMap itE ++ R)) z 0 := by
     have := HRd.out
     rw [drop_one hs, List.flatMap_cons, List.append_assoc] at this
     exact this
    have HRd2 := Lib.hid hrd
    clear hs hrd
    have hlk : l'.length + 1 ≤ 1000000000 := by have := HLk.out; have := HK.out; have := HLe.out; have := HLl.out; omega
    have HLk1 := Lib.hid hlk; clear hlk
    go_wp2_with fail
    refine (Err_x HRd.out).mono ?_
    rintro e w2 ⟨rfl, rfl⟩
    go_wp2_with fail
    refine (sitem_x q s HO.out.1 HO.out.2 _ z 0 _ HRd2.out).mono ?_
    rintro e w2 ⟨t, r, i, s', x, er2, rfl, hok1, h40, hs1, hr, hg⟩
    have hob2 := HOb.out.grown hg (by have := HPlt.out; omega)
    have HOb2 := Lib.hid hob2; have HR2 := Lib.hid hr; have HG2 := Lib.hid hg; have HS1 := Lib.hid hs1; have HK1 := Lib.hid hok1
    have hd0 : ∃ lo hi, W.heap.size + 1 ≤ lo ∧ hi ≤ w2.heap.size ∧ (∀ g, u5.ownBlock = some g → g < lo ∨ hi ≤ g) ∧ KeepI lo hi w2 fun w => relCI w [(.int .u64 (t : Int)), (.int .u8 (r : Int)), (.int .u32 (i : Int)), (.int .u64 (s' : Int)), (.string x)] (t, ((r, i), s'), x) := ⟨W.heap.size + 1, 0, Nat.le_refl _, Nat.zero_le _, fun g _ => Or.inr (Nat.zero_le _), fun _ _ => ⟨rfl, hok1, h40⟩⟩
    have HD0 := Lib.hid hd0
    clear hr hg hob2 hok1 hs1 hd0 
    go_wp2_with (refine wpList_append_obx rfl (.tmp 20) (.tmp 23) 41 rfl i0 (.agg #[.int .u64 0, .int .u8 0, .int .u32 0, .int .u64 0, .string ⟨#[]⟩]) 40 Try.underlying41 HI.out HZ0.out HZ1.out HZ2.out rfl (by decide) rfl (HOb2.out.below (below_box3 _ _ _)) ⟨w2.heap.size, 0, none⟩ 1 [(.int .u64 (t : Int)), (.int .u8 (r : Int)), (.int .u32 (i : Int)), (.int .u64 (s' : Int)), (.string x)] (t, ((r, i), s'), x) rfl rfl (fun j u hu => by match j, hu with | 0, hu => (simp at hu; subst hu; simp [Addr.add]) | 1, hu => (simp at hu; subst hu; simp [Addr.add]) | 2, hu => (simp at hu; subst hu; simp [Addr.add]) | 3, hu => (simp at hu; subst hu; simp [Addr.add]) | 4, hu => (simp at hu; subst hu; simp [Addr.add]) | j + 5, hu => simp at hu) (fun u hu => by simp at hu; (first | (subst hu; rfl) | (rcases hu with rfl | rfl | rfl | rfl | rfl <;> rfl))) HLk1.out (by have := HLk1.out; omega) (grow_d0 HD0.out _) ?_; intro v3 w3 h3 g3)
    have hown : ∀ q, u5.ownBlock = some q → W.heap.size + 1 ≤ q := fun q hq => (HOb2.out.own q hq).1
    have H3 := Lib.hid h3; have G3 := Lib.hid (grownOwn (grownA (grownR HGw.out HG2.out) _) g3 (fun q hq => by have := hown q hq; simpa using this))
    have R3 := Lib.hid ((HR2.out.below (below_box3 _ _ _)).grown g3 (fun q hq => by have := hown q hq; have := HPlt.out; omega))
    clear h3 g3
    go_wp2_with fail
    go_roundw
    case rel => exact ⟨k + 1, m, er2, l' ++ [(t, ((r, i), s'), x)], by have := HK.out; omega, by go_num, snoc_len HLk.out _, H3.out, same_snoc (b := 0) HS.out (fun _ => HSk.out trivial) (fun h0 => ⟨(HS1.out h0).1, rfl⟩), R3.out, G3.out⟩
    case measure => simp [intOf]
   ·have t1 : ((erk : Int) == 0) = false := by simp; omega
    go_wp2_with fail
    refine (Err_x HRd.out).mono ?_
    rintro e w2 ⟨rfl, rfl⟩
    go_wp2_with fail
    go_ret
    exact ⟨_, l', erk, rfl, (rowsI HOb.out).base (by omega), by have := HK.out; have := HLe.out; rw [HLk.out]; omega, fun h0 => absurd h0 he, HRd.out.bad he R, grown_trans (grown_of_below (row := some q) (below_box3 W _ _)) HGw.out (New.refl _ _)⟩
end Go.Proofs.Ytplafpchgfjomaa
