import Derived.Test.YtiiidmphmojlgaaGreatZDot6
import Derived.Test.YtiiidmphmojlgaaGreatShelf
namespace Go.Proofs.YtiiidmphmojlgaaGreat
open Go.RowKit Go.Maps Go.Buf
theorem VRow.belowB {w w' : World} {a : Option Addr} {cap B : Nat} {l : List Dt.Dot} (h : VRow w a cap l) (hv : ∀ p, a = some p → p.block < B) (hb : Below B w w') : VRow w' a cap l := by
 refine ⟨h.1, h.2.1, h.2.2.1, h.2.2.2.1, fun i d hd => ?_⟩
 obtain ⟨p, hp, h1, h2, h3⟩ := h.2.2.2.2 i d hd
 have hpb := hv p hp
 have e : ∀ j, (p.add j).block = p.block := fun j => by unfold Addr.add; split <;> rfl
 refine ⟨p, hp, ?_, ?_, ?_⟩
 ·exact (hb.cell (by rw [e]; exact hpb)).trans h1
 ·exact (hb.cell (by rw [e]; exact hpb)).trans h2
 ·exact (hb.cell (by rw [e]; exact hpb)).trans h3
theorem VRow.lt {w : World} {a : Option Addr} {cap : Nat} {l : List Dt.Dot} (h : VRow w a cap l) (hl : 0 < l.length) : ∀ p, a = some p → p.block < w.heap.size := by
 intro p hp
 obtain ⟨b, off, rfl, hb, _⟩ := h.at hl
 obtain rfl := Option.some.inj hp
 exact hb
theorem getF_stand {l : List Dt.Dot} {k : Nat} {d : Dt.Dot} (hd : l[k]? = some d) (hm : Dt.may d = true) : standF (fun a => getF a l k) d = fun a => getF a l (k + 1) := by
 funext a
 rw [getF_succ hd]
 unfold standF upd Dt.getStep
 by_cases e : a = d.1
 ·subst e; simp [hm]
 ·have : ¬ d.1 = a := fun h => e h.symm
  simp [e, this]
theorem getF_skip {l : List Dt.Dot} {k : Nat} {d : Dt.Dot} (hd : l[k]? = some d) (hm : Dt.may d = false) : (fun a => getF a l k) = fun a => getF a l (k + 1) := by
 funext a
 rw [getF_succ hd, getStep_not hm]
set_option maxRecDepth 100000 in
set_option maxHeartbeats 1600000 in
theorem throughM (a : Option Addr) (n cap b : Nat) (l : List Dt.Dot) (w : World) (hr : VRow w a cap l) (hl : l.length = n) (hn : n ≤ 100000000) (hv : 0 < n → ∀ p, a = some p → p.block < b) (h0 : NumX w b 0 (fun _ => 0)) :
  Calls Tryz.prog 91 #[.slice a n cap, .map (some b), .func (.func 92) #[] #[]] w fun e w' => e = .returned (.map (some b)) ∧ NumX w' b n (Dt.get l) ∧ Below b w w' := by
 have hle := hr.le
 have hcap := hr.cap
 have hb := h0.lt
 have HR := Lib.hid hr; have HL := Lib.hid hl; have H0 := Lib.hid h0; have HB := Lib.hid hb; have HV := Lib.hid hv
 rw [hl] at hle
 clear hr hl h0 hb hv
 go_enter Tryz.func91, Tryz.ntmps91
 go_wp2
 go_loopw [1, 8, 11] (fun u _ i wr => ∃ k : Nat, k ≤ n ∧ i = .int .i64 k ∧ u = .map (some b) ∧ NumX wr b k (fun a => getF a l k) ∧ Below b w wr) (fun _ _ i _ => n - (intOf i).toNat)
 case atStart => exact ⟨0, Nat.zero_le _, rfl, rfl, H0.out, Below.refl _ _⟩
 case round =>
  obtain ⟨k, hk, rfl, rfl, hnum, hbel⟩ := hrel
  have HBel := Lib.hid hbel; have HNum := Lib.hid hnum; clear hbel hnum
  by_cases hlt : k < n
  ·obtain ⟨d, hd⟩ := getD_some (l := l) (i := k) (by rw [HL.out]; exact hlt)
   have hrow := HR.out.belowB (HV.out (by omega)) HBel.out
   have hokd := HR.out.ok d (List.mem_of_getElem? hd)
   obtain ⟨blk, off, rfl, hblk, hcells⟩ := hrow.at (by rw [HL.out]; omega)
   obtain ⟨q0, q1, q2⟩ := hcells k d hd
   have hbs : b < wr.heap.size := Nat.lt_of_lt_of_le HB.out HBel.out.size
   have Hd := Lib.hid hd; have HO := Lib.hid hokd; have HRow := Lib.hid hrow; have HS := Lib.hid hbs
   clear hcells hd hokd hrow hbs
   cases hm : Dt.may d
   ·obtain ⟨⟨r, i⟩, s⟩ := d
    simp only at q0 q1 q2
    go_wp2_with fail
    refine (may_any r i s _).mono ?_
    rintro e w1 ⟨rfl, hb⟩
    have HBm := Lib.hid hb; clear hb
    go_wp2_with fail
    clear q0 q1 q2
    have hbb : Below wr.heap.size wr w1 := ((Below.refl _ _).alloc (Nat.le_refl _) _).trans (HBm.out.mono (by simp))
    go_roundw
    case rel => exact ⟨k + 1, by omega, by go_num, rfl, ((HNum.out.below hbb).congr (getF_skip Hd.out hm)).mono (by omega), HBel.out.trans (hbb.mono (by have := HS.out; omega))⟩
    case measure => simp [intOf]; omega
   ·obtain ⟨⟨r, i⟩, s⟩ := d
    simp only at q0 q1 q2
    go_wp2_with fail
    refine (may_any r i s _).mono ?_
    rintro e w1 ⟨rfl, hb⟩
    obtain ⟨hc, hf⟩ := bcell hb
    have hbb : Below wr.heap.size wr w1 := ((Below.refl _ _).alloc (Nat.le_refl _) _).trans (hb.mono (by simp))
    have HBm := Lib.hid hbb; clear hb hbb
    go_wp2_with fail
    refine (standsClosure b k ((r, i), s) _ _ HO.out (by omega) (HNum.out.below HBm.out)).mono ?_
    rintro e w2 ⟨rfl, hN, hg⟩
    have HN := Lib.hid hN; have HG := Lib.hid hg
    clear hc hf q0 q1 q2 hN hg
    go_wp2_with fail
    have hb2 : Below b wr w2 := (HBm.out.mono (by have := HS.out; omega)).grown HG.out (by have := HBm.out.size; have := HS.out; omega) (fun j hj => by cases hj; exact Nat.le_refl _)
    go_roundw
    case rel => exact ⟨k + 1, by omega, by go_num, rfl, HN.out.congr (getF_stand Hd.out hm), HBel.out.trans hb2⟩
    case measure => simp [intOf]; omega
  ·have hfin : (fun a => getF a l k) = Dt.get l := by
    funext a
    show Dt.get (l.take k) a = Dt.get l a
    rw [List.take_of_length_le (by rw [HL.out]; omega)]
   have Hfin := Lib.hid hfin; clear hfin
   have Hk := Lib.hid hk; clear hk
   go_wp2
   go_ret
   exact ⟨rfl, (HNum.out.congr Hfin.out).mono Hk.out, HBel.out⟩
def RetMap (W : World) (n : Nat) (f : Dt.Ac → Nat) (e : Ending) (w' : World) : Prop := ∃ b, e = .returned (.map (some b)) ∧ NumX w' b n f ∧ W.heap.size ≤ b ∧ Below W.heap.size W w'
set_option maxHeartbeats 400000 in
theorem stands_any (a : Option Addr) (n cap : Nat) (l : List Dt.Dot) (w : World) (hr : VRow w a cap l) (hl : l.length = n) (hn : n ≤ 100000000) :
  Calls Tryz.prog 51 #[.slice a n cap] w (RetMap w n (Dt.get l)) := by
 have hv : 0 < n → ∀ p, a = some p → p.block < w.heap.size := fun h => hr.lt (by omega)
 have HR := Lib.hid hr; have HL := Lib.hid hl; have HV := Lib.hid hv
 clear hr hl hv
 have hmm := @run_makeMap Tryz.prog
 go_enter Tryz.func51, Tryz.ntmps51
 go_wp2_with fail
 refine (throughM a n cap w.heap.size l _ (HR.out.below ((Below.refl _ _).alloc (Nat.le_refl _) _)) HL.out hn HV.out ⟨_, Nums.made w⟩).mono ?_
 rintro e w1 ⟨rfl, hN, hb⟩
 have HN := Lib.hid hN; have HB := Lib.hid hb
 clear hN hb
 go_wp2_with fail
 go_ret
 exact ⟨_, rfl, HN.out, Nat.le_refl _, ((Below.refl _ _).alloc (Nat.le_refl _) _).trans HB.out⟩
end Go.Proofs.YtiiidmphmojlgaaGreat
namespace Go.Proofs.YtiiidmphmojlgaaGreat
open Go.Shelf Go.RowKit Go.Lib Go.Sort
open Go.RegG (Gr)
def encD (d : Dt.Dot) : List Value := [.int .u8 (d.1.1 : Int), .int .u32 (d.1.2 : Int), .int .u64 (d.2 : Int)]
theorem encD_len (d : Dt.Dot) : (encD d).length = 3 := rfl
theorem encD_one (d : Dt.Dot) : ∀ v ∈ encD d, v.oneCell' = true := by intro v hv; simp [encD] at hv; rcases hv with rfl | rfl | rfl <;> rfl
theorem ltOf_cmp (x y : Dt.Dot) : ltOf Dt.cmp x y = Dt.less x y := by
 unfold ltOf Dt.cmp Dt.less
 by_cases h1 : Dt.lt x y
 ·simp [h1]
 ·by_cases h2 : Dt.lt y x <;> simp [h1, h2]
theorem lt_ntrans {x y z : Dt.Dot} (h : ¬ Dt.lt x y) (g : ¬ Dt.lt y z) : ¬ Dt.lt x z := by rw [Dt.lt_iff] at *; omega
theorem swoDot : SWO (ltOf Dt.cmp) where
 irrefl x := by rw [ltOf_cmp]; exact decide_eq_false (Dt.lt_irrefl x)
 trans x y z h1 h2 := by rw [ltOf_cmp] at *; exact decide_eq_true (Dt.lt_trans (of_decide_eq_true h1) (of_decide_eq_true h2))
 ntrans x y z h1 h2 := by rw [ltOf_cmp] at *; exact decide_eq_false (lt_ntrans (of_decide_eq_false h1) (of_decide_eq_false h2))
theorem dotLays (blk off size : Nat) (w : World) : CmpLays Tryz.prog 25 #[] encD 3 Dt.cmp blk off size w := by
 intro m os dk _ x y
 obtain ⟨⟨r, i⟩, s⟩ := x
 obtain ⟨⟨r', i'⟩, s'⟩ := y
 refine (compare_any r i s r' i' s' _).mono ?_
 rintro e w' ⟨rfl, h⟩
 exact ⟨rfl, grow_of_gr h⟩
set_option maxHeartbeats 2000000 in
theorem insertion_none (p : Option Addr) (cap : Nat) (fv : Value) (w : World) :
  Calls Tryz.prog 83 #[.slice p 0 cap, .int .i64 0, .int .i64 0, fv] w fun e w' => e = .returned (.tuple #[]) ∧ w = w' := by
 go_enter Tryz.func83, Tryz.ntmps83
 go_wp2
 refine wp_loop_rounds 1 ?_
 rw [rounds_succ]
 go_wp2
 go_end0
 exact ⟨rfl, rfl⟩
set_option maxHeartbeats 2000000 in
theorem pdq_none (p : Option Addr) (cap : Nat) (lim : Int) (fv : Value) (w : World) :
  Calls Tryz.prog 50 #[.slice p 0 cap, .int .i64 0, .int .i64 0, .int .i64 lim, fv] w fun e w' => e = .returned (.tuple #[]) ∧ w = w' := by
 go_enter Tryz.func50, Tryz.ntmps50
 go_wp2
 refine wp_loop_rounds 1 ?_
 rw [rounds_succ]
 go_wp2_with (go_at_call 83; refine (insertion_none _ _ _ _).mono ?_; rintro e w' ⟨rfl, rfl⟩)
 (try simp only [Exit.inBlock, Exit.then])
 first | go_end0 | (refine bodyPost_ret (results_none rfl _ _ _) rfl ?_)
 exact ⟨rfl, rfl⟩
end Go.Proofs.YtiiidmphmojlgaaGreat
namespace Go.Proofs.YtiiidmphmojlgaaGreat
open Go.Shelf Go.RowKit Go.Lib Go.Sort
def SortPost (w : World) (blk : Nat) (xs : List Dt.Dot) (e : Ending) (w' : World) : Prop :=
 e = .returned (.tuple #[]) ∧ ∃ ys : List Dt.Dot, ys.Perm xs ∧ ys.Pairwise (fun x y => ¬ Dt.lt y x) ∧ HoldsK encD 3 w' blk 0 ys.toArray ∧ w.grownBy w' (some blk)
theorem mapBlock_grown (w : World) (blk : Nat) (f : Array Value → Array Value) : w.grownBy (mapBlock w blk f) (some blk) := by
 refine ⟨rfl, rfl, rfl, by simp [mapBlock], fun k _ hne => ?_⟩
 simp only [mapBlock, Array.getElem?_modify]
 rw [if_neg (fun e => hne (by rw [e]))]
theorem sortWorld_grown (w : World) (blk n : Nat) (d : Array Dt.Dot) (os : Array Obj) : w.grownBy (sortWorldK encD 3 w blk 0 n d os) (some blk) := by
 have h : w.grownBy (putRowK encD 3 (Sort.ahead w n) blk 0 d) (some blk) := by
  have := mapBlock_grown (Sort.ahead w n) blk (putCells id 0 (flatK encD 3 d))
  exact ⟨this.os, this.tape, this.output, this.size, this.block⟩
 unfold sortWorldK
 refine ⟨h.os, h.tape, h.output, Nat.le_trans h.size (by simp), fun k hk hne => ?_⟩
 rw [← h.block k hk hne]
 exact heap_grow_old _ _ (Nat.lt_of_lt_of_le hk h.size)
theorem sorted_list {d : Array Dt.Dot} (h : SortedIn (ltOf Dt.cmp) 0 d.size d) : d.toList.Pairwise (fun x y => ¬ Dt.lt y x) := by
 rw [List.pairwise_iff_getElem]
 intro i j hi hj hij
 have hi' : i < d.size := by simpa using hi
 have hj' : j < d.size := by simpa using hj
 have := h i j (Nat.zero_le _) hij hj'
 rw [ltOf_cmp, getElem!_pos d i hi', getElem!_pos d j hj'] at this
 simpa using of_decide_eq_false this
theorem perm_list {d d' : Array Dt.Dot} (h : PermIn 0 d.size d d') : d'.toList.Perm d.toList := by
 obtain ⟨h1, _, h2⟩ := h
 have e1 : d'.extract 0 d.size = d' := by rw [← h1]; simp
 have e2 : d.extract 0 d.size = d := by simp
 rw [e1, e2] at h2; exact h2
set_option maxRecDepth 100000 in
set_option maxHeartbeats 2000000 in
theorem sortDot (blk cap : Nat) (xs : List Dt.Dot) (w : World) (hH : HoldsK encD 3 w blk 0 xs.toArray) (hblk : blk < w.heap.size) (hsz : xs.length < 1000000000) :
  Calls Tryz.prog 93 #[.slice (some ⟨blk, 0, none⟩) xs.length cap, .func (.func 25) #[] #[]] w (SortPost w blk xs) := by
 have eg : ∀ args w, (callFunc 25 args).run Tryz.prog w = .ok (.enter 25 args) w := enters_of Tryz.func25 (by kernel_rfl) rfl
 have hlim : Lib.bitLen xs.length < 4611686018427387904 := Nat.lt_of_le_of_lt (Lib.bitLen_le xs.length 62 (by omega) (by omega)) (by omega)
 have hp := AnyQ.pdqsortCmpFunc_all (P := Tryz.prog) Tryz.pdqDot 3 Tryz.isAgg27 Tryz.sizeOf27 encD Dt.cmp 25 #[] swoDot blk 0 cap xs.toArray w eg (dotLays blk 0 _ w) ⟨encD_len, encD_one, hH, hblk⟩ (xs.length + 1) 0 xs.length (Lib.bitLen xs.length) xs.toArray w (by omega) rfl (SWK.start hH) (Nat.zero_le _) (by simp) (by simp; omega) hlim (Or.inl rfl)
 have hl : Calls Tryz.prog 45 #[.int .u64 (xs.length : Int)] w fun e w' => e = .returned (.int .i64 (Lib.bitLen xs.length : Nat)) ∧ w = w' := by
  have h := Any.bits_Len (SlLaysF0.n15.bits Tryz.lenU) (xs.length : Int) w (by omega) (by omega)
  rw [Int.toNat_natCast] at h
  exact h.mono fun _ _ ⟨h1, h2⟩ => ⟨h1, h2.symm⟩
 have hpost : ∀ w', SWK encD 3 w blk 0 (pdq (ltOf Dt.cmp) xs.toArray 0 xs.length (Lib.bitLen xs.length) true true) w' → SortPost w blk xs (.returned (.tuple #[])) w' := by
  rintro w' ⟨n, os, rfl⟩
  have h := pdq_sorts (ltOf Dt.cmp) swoDot xs.toArray 0 xs.toArray.size (Lib.bitLen xs.length) true true (Nat.zero_le _) (Nat.le_refl _) (Or.inl rfl)
  refine ⟨rfl, (pdq (ltOf Dt.cmp) xs.toArray 0 xs.length (Lib.bitLen xs.length) true true).toList, by simpa using perm_list h.1, sorted_list (by have h1 := h.1.1; have h2 := h.2; simp only [List.size_toArray] at h1 h2; rw [h1]; exact h2), ?_, sortWorld_grown _ _ _ _ _⟩
  exact holdsK_sortWorldK_c encD 3 w blk 0 xs.toArray _ n os hH hblk h.1.1
 have hp2 : Calls Tryz.prog 50 #[.slice (some ⟨blk, 0, none⟩) xs.length cap, .int .i64 0, .int .i64 (xs.length : Nat), .int .i64 (Lib.bitLen xs.length : Nat), .func (.func 25) #[] #[]] w (SortPost w blk xs) := by
  refine Calls.mono ?_ (fun e w' (h : e = .returned (.tuple #[]) ∧ SWK encD 3 w blk 0 (pdq (ltOf Dt.cmp) xs.toArray 0 xs.length (Lib.bitLen xs.length) true true) w') => by rw [h.1]; exact hpost w' h.2)
  simp only [List.size_toArray] at hp
  exact hp
 have Hp := Lib.hid hp2; have Hl := Lib.hid hl
 clear hp hl hpost hH hp2 hlim
 go_enter Tryz.func93, Tryz.ntmps93
 go_wp2_with fail
 refine Hl.out.mono ?_
 rintro e w' ⟨rfl, rfl⟩
 go_wp2_with fail
 refine Hp.out.mono ?_
 rintro e w' ⟨rfl, h⟩
 have H := Lib.hid h; clear h
 go_wp2_with fail
 go_end0
 exact ⟨rfl, H.out⟩
set_option maxHeartbeats 400000 in
theorem sort_none (p : Option Addr) (cap : Nat) (fv : Value) (w : World) :
  Calls Tryz.prog 93 #[.slice p 0 cap, fv] w fun e w' => e = .returned (.tuple #[]) ∧ w = w' := by
 have hl : Calls Tryz.prog 45 #[.int .u64 0] w fun e w' => e = .returned (.int .i64 (Lib.bitLen 0 : Nat)) ∧ w = w' :=
  (Any.bits_Len (SlLaysF0.n15.bits Tryz.lenU) 0 w (by omega) (by omega)).mono fun _ _ ⟨h1, h2⟩ => ⟨h1, h2.symm⟩
 have Hl := Lib.hid hl; clear hl
 go_enter Tryz.func93, Tryz.ntmps93
 go_wp2_with fail
 refine Hl.out.mono ?_
 rintro e w' ⟨rfl, rfl⟩
 go_wp2_with fail
 refine (pdq_none _ _ _ _ _).mono ?_
 rintro e w' ⟨rfl, rfl⟩
 go_wp2_with fail
 go_end0
 exact ⟨rfl, rfl⟩
end Go.Proofs.YtiiidmphmojlgaaGreat
namespace Go.Proofs.YtiiidmphmojlgaaGreat
open Go.Shelf Go.RowKit Go.Maps
def RetVec (W : World) (L : List Dt.Dot) (e : Ending) (w' : World) : Prop := ∃ a c, e = .returned (.slice a L.length c) ∧ VRow w' a c L ∧ Below W.heap.size W w'
theorem ret_slice {p : Option Addr} {a b c : Nat} (h : a = b) : Ending.returned (.slice p a c) = .returned (.slice p b c) := by rw [h]
def dotsV (l : List Dt.Dot) : List Value := l.flatMap encD
theorem dotsV_snoc (l : List Dt.Dot) (d : Dt.Dot) : dotsV (l ++ [d]) = dotsV l ++ encD d := by unfold dotsV; rw [List.flatMap_append]; simp
theorem dotsV_get : ∀ (l : List Dt.Dot) (i : Nat) (d : Dt.Dot), l[i]? = some d → ∀ j, j < 3 → (dotsV l)[i * 3 + j]? = (encD d)[j]?
 | [], _, _, h => by simp at h
 | x :: r, 0, d, h => by
  intro j hj
  simp at h; subst h
  unfold dotsV; rw [List.flatMap_cons, Nat.zero_mul, Nat.zero_add, List.getElem?_append_left (by simp [encD]; omega)]
 | x :: r, i + 1, d, h => by
  intro j hj
  have := dotsV_get r i d (by simpa using h) j hj
  unfold dotsV at *
  rw [List.flatMap_cons, List.getElem?_append_right (by simp [encD]; omega), ← this]
  congr 1; simp [encD]; omega
theorem info_dot : (Tryz.prog.info? 27).map (fun i => (i.zero, i.size, i.bytes)) = some (some (.agg #[.int .u8 0, .int .u32 0, .int .u64 0]), 3, 16) := by kernel_rfl
def VecInv (f : Dt.Ac → Nat) (D : DataW Unit) (left : Lit → Bool) (xs : List Dt.Dot) : Prop :=
 xs.Pairwise (fun x y => x.1 ≠ y.1) ∧ ∀ d, d ∈ xs ↔ (okAc d.1 ∧ 0 < d.2 ∧ d.2 = f d.1 ∧ Maps.has D (kl d.1) = true ∧ left (kl d.1) = false)
theorem vecInv_start (f : Dt.Ac → Nat) (D : DataW Unit) : VecInv f D (Maps.has D) [] := by
 refine ⟨List.Pairwise.nil, fun d => ?_⟩
 simp only [List.not_mem_nil, false_iff]
 rintro ⟨_, _, _, h1, h2⟩
 rw [h1] at h2; cases h2
theorem vecInv_skip {f : Dt.Ac → Nat} {D : DataW Unit} {left : Lit → Bool} {xs : List Dt.Dot} {x : Dt.Ac} (h : VecInv f D left xs) (hx : okAc x) (h0 : f x = 0) : VecInv f D (fun z => left z && !z.sameKey (kl x)) xs := by
 refine ⟨h.1, fun d => ?_⟩
 rw [h.2]
 constructor
 ·rintro ⟨h1, h2, h3, h4, h5⟩; exact ⟨h1, h2, h3, h4, by simp [h5]⟩
 ·rintro ⟨h1, h2, h3, h4, h5⟩
  refine ⟨h1, h2, h3, h4, ?_⟩
  have hne : kl d.1 ≠ kl x := fun e => by rw [kl_inj h1 hx e] at h3; omega
  simpa [sameKey_ne hne] using h5
theorem vecInv_take {f : Dt.Ac → Nat} {D : DataW Unit} {left : Lit → Bool} {xs : List Dt.Dot} {x : Dt.Ac} (h : VecInv f D left xs) (hx : okAc x) (h0 : 0 < f x) (hh : Maps.has D (kl x) = true) (hl : left (kl x) = true) : VecInv f D (fun z => left z && !z.sameKey (kl x)) (xs ++ [(x, f x)]) := by
 have hk : WideAt.IsKeyLit (kl x) := actLaw.key (keyOf_act hx)
 refine ⟨?_, fun d => ?_⟩
 ·rw [List.pairwise_append]
  refine ⟨h.1, List.pairwise_singleton _ _, fun y hy z hz => ?_⟩
  rw [List.mem_singleton] at hz; subst hz
  intro e
  have := ((h.2 y).1 hy).2.2.2.2
  simp only at e
  rw [e, hl] at this; cases this
 ·rw [List.mem_append, h.2, List.mem_singleton]
  constructor
  ·rintro (⟨h1, h2, h3, h4, h5⟩ | rfl)
   ·exact ⟨h1, h2, h3, h4, by simp [h5]⟩
   ·exact ⟨hx, h0, rfl, hh, by simp [WideAt.sameKey_self hk]⟩
  ·rintro ⟨h1, h2, h3, h4, h5⟩
   by_cases e : d.1 = x
   ·right
    rcases d with ⟨a, m⟩
    simp only at e h3; subst e; rw [h3]
   ·left
    refine ⟨h1, h2, h3, h4, ?_⟩
    have hne : kl d.1 ≠ kl x := fun g => e (kl_inj h1 hx g)
    simpa [sameKey_ne hne] using h5
theorem vec_of_sort {f : Dt.Ac → Nat} {D : DataW Unit} {left : Lit → Bool} {xs ys : List Dt.Dot} (h : VecInv f D left xs) (hl : ∀ k, left k = false) (hD : ∀ a, okAc a → D.atKey (kl a) (.lit (.int .u64 0)) = .lit (.int .u64 (f a : Nat)))
  (hf : ∀ a, okAc a → 0 < f a → Dt.mayA a = true) (hp : ys.Perm xs) (hs : ys.Pairwise (fun x y => ¬ Dt.lt y x)) : ys = Dt.vec f := by
 have hne : ys.Pairwise (fun x y => x.1 ≠ y.1) := (hp.pairwise_iff (fun {_ _} g => Ne.symm g)).2 h.1
 refine Dt.vec_of_sorted ?_ (fun d => ?_)
 ·refine (hs.and hne).imp ?_
  rintro x y ⟨h1, h2⟩
  rcases Dt.ltA_total x.1 y.1 with g | g | g
  ·exact g
  ·exact absurd g h2
  ·exact absurd (Or.inl g) h1
 ·rw [hp.mem_iff, h.2]
  constructor
  ·rintro ⟨h1, h2, h3, _⟩; exact ⟨hf _ h1 (by omega), h2, h3⟩
  ·rintro ⟨h1, h2, h3⟩
   have hok : okAc d.1 := by have := Dt.mayA_iff.1 h1; exact ⟨by omega, by omega⟩
   refine ⟨hok, h2, h3, ?_, hl _⟩
   cases hh : Maps.has D (kl d.1)
   ·have := hD _ hok
    rw [atKey_of_not_has hh] at this
    simp only [DataW.lit.injEq, Lit.int.injEq, true_and] at this
    omega
   ·rfl
theorem entry_facts {D : DataW Unit} {f : Dt.Ac → Nat} (hD : ∀ a, okAc a → D.atKey (kl a) (.lit (.int .u64 0)) = .lit (.int .u64 (f a : Nat))) {x : Dt.Ac} {c : Nat} {l : Lit} {y : DataW Unit × List MemPlace}
  (hkey : keyOf Tryz.prog 24 (acV x) = some l) (hv : plainElem Tryz.prog 25 (.int .u64 (c : Int)) = some y) (hat : ∀ zd, D.atKey l zd = y.1) : okAc x ∧ l = kl x ∧ f x = c ∧ c < 18446744073709551616 := by
 obtain ⟨a, ha, he, rfl⟩ := keyOf_act_inv hkey
 have hxa : x = a := by
  simp only [Value.agg.injEq, Array.mk.injEq, List.cons.injEq, Value.int.injEq, true_and, and_true] at he
  rcases x with ⟨x1, x2⟩; rcases a with ⟨a1, a2⟩
  simp only at he; simp only [Prod.mk.injEq]; omega
 subst hxa
 obtain ⟨c', he', rfl, hwf⟩ := plainElem_int_inv Tryz.underlying25 hv
 simp only [Value.int.injEq, true_and] at he'
 subst he'
 have h1 := hat (.lit (.int .u64 0))
 rw [hD x ha] at h1
 simp only [DataW.lit.injEq, Lit.int.injEq, true_and] at h1
 have := bounds_u64 hwf
 exact ⟨ha, rfl, by omega, by omega⟩
theorem size_le {w : World} {b n : Nat} {D : DataW Unit} (h : w.ownsMap Tryz.prog 24 (plainElem Tryz.prog 25) b n D) : Maps.size D ≤ n := by
 obtain ⟨es, clock, _, _, hs, rfl⟩ := h
 simp [Maps.size, length_sorted]; omega
theorem has_of_left {D : DataW Unit} {l : Lit} {y : DataW Unit} (hat : ∀ zd, D.atKey l zd = y) : Maps.has D l = true := has_true_of_atKey hat
theorem holds_of_own {w : World} {base g cap : Nat} {xs : List Dt.Dot} (h : w.ownsRow base 27 3 (.slice (some ⟨g, 0, none⟩) xs.length cap) xs.length (dotsV xs)) : Go.Sort.HoldsK encD 3 w g 0 xs.toArray := by
 intro j hj
 simp only [Go.Sort.size_flatK, List.size_toArray] at hj
 refine ⟨?_, by rw [Nat.zero_add]; exact h.frozenAt j⟩
 rw [Nat.zero_add, h.cellAt j hj, Go.Sort.get_flatK encD 3 xs.toArray j (by simpa using hj)]
 have hi : j / 3 < xs.length := by omega
 have h3 : j % 3 < 3 := Nat.mod_lt _ (by omega)
 have := dotsV_get xs (j / 3) xs[j / 3] (List.getElem?_eq_getElem hi) (j % 3) h3
 rw [show j / 3 * 3 + j % 3 = j from by omega] at this
 rw [this, getElem!_pos xs.toArray (j / 3) (by simpa using hi)]
 rw [getElem!_pos (encD _) (j % 3) (by rw [encD_len]; exact h3)]
 simp
theorem row_of_holds {w : World} {g cap : Nat} {ys : List Dt.Dot} (h : Go.Sort.HoldsK encD 3 w g 0 ys.toArray) (hok : ∀ d ∈ ys, Dt.okD d) (h1 : ys.length ≤ cap) (h2 : cap ≤ 9223372036854775807) : VRow w (some ⟨g, 0, none⟩) cap ys := by
 refine ⟨h1, h2, hok, (fun e => by cases e), fun i d hd => ⟨_, rfl, ?_⟩⟩
 have hi : i < ys.length := (List.getElem?_eq_some_iff.1 hd).1
 have key : ∀ j, j < 3 → w.cell? ⟨g, i * 3 + j, none⟩ = (encD d)[j]? := fun j hj => by
  have := (h (i * 3 + j) (by simp; omega)).1
  rw [Nat.zero_add, Go.Sort.get_flatK encD 3 ys.toArray _ (by simp; omega), show (i * 3 + j) / 3 = i from by omega, show (i * 3 + j) % 3 = j from by omega] at this
  rw [this, getElem!_pos ys.toArray i (by simpa using hi)]
  have hdi : ys[i] = d := by have := (List.getElem?_eq_some_iff.1 hd).2; exact this
  simp only [List.getElem_toArray, hdi]
  rw [getElem!_pos (encD _) j (by rw [encD_len]; exact hj)]
  simp
 refine ⟨?_, ?_, ?_⟩
 ·rw [Addr.add_mid, Nat.zero_add]; exact key 0 (by omega)
 ·rw [Addr.add_mid, Nat.zero_add]; exact key 1 (by omega)
 ·rw [Addr.add_mid, Nat.zero_add]; exact key 2 (by omega)
end Go.Proofs.YtiiidmphmojlgaaGreat
