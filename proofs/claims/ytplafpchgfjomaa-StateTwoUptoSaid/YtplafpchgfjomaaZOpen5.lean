import Derived.Test.YtplafpchgfjomaaZOpen1
import Derived.Test.YtplafpchgfjomaaZSt1
/- Openers of trees, where what is read is of a bounded bulk. -/
namespace Go.Proofs.Ytplafpchgfjomaa
open Go.RowKit Go.ChangeShapes Go.WideShapes Go.Deep
set_option linter.unusedSimpArgs false
set_option linter.unusedVariables false
section
variable {H : Type} {enc : TypeId × Value → H} {w : World} {base : Nat} {spare : Nat → Bool} {held : Bool}
theorem ob_item : Try.prog.cellsOf 57 = 5 := by kernel_rfl
theorem ob_items : Try.prog.cellsOf 41 = 1 := by kernel_rfl
theorem ob_leaf : Try.prog.cellsOf 44 = 9 := by kernel_rfl
theorem ob_leaves : Try.prog.cellsOf 45 = 1 := by kernel_rfl
theorem ob_node : Try.prog.cellsOf 47 = 3 := by kernel_rfl
theorem ob_tree : Try.prog.cellsOf 23 = 1 := by kernel_rfl
theorem bulk_one (d : DataW H) : 1 ≤ Rows.uptoBulk d := by
 cases d with
 | lit l => cases l <;> simp [Rows.uptoBulk]
 | nil => simp [Rows.uptoBulk]
 | ptr d => simp [Rows.uptoBulk]
 | slice elems spare => simp [Rows.uptoBulk]
 | agg parts => simp [Rows.uptoBulk]
 | iface t d => simp [Rows.uptoBulk]
 | map entries => simp [Rows.uptoBulk]
 | held h => simp [Rows.uptoBulk]
theorem bulk_all (l : List (DataW H)) : Rows.uptoBulkAll l = (l.map Rows.uptoBulk).sum := by
 induction l with
 | nil => simp [Rows.uptoBulkAll]
 | cons d l ih => simp [Rows.uptoBulkAll, ih]
theorem sum_bulk {α : Type} (f : α → Nat) : ∀ (l : List α) (bs : List Nat), l.length = bs.length → (∀ (i : Nat) (d : α) (b : Nat), l[i]? = some d → bs[i]? = some b → f d ≤ b) → (l.map f).sum ≤ bs.sum
 | [], _, _, _ => by simp
 | d :: l, b :: bs, hl, h => by
  have h1 := h 0 d b rfl rfl
  have h2 := sum_bulk f l bs (by simpa using hl) (fun i d b hd hb => h (i + 1) d b (by simpa using hd) (by simpa using hb))
  simp only [List.map_cons, List.sum_cons]; omega
theorem le_bulks {l : List (DataW H × List MemPlace)} {y : DataW H × List MemPlace} {i : Nat} (h : l[i]? = some y) : Rows.uptoBulk y.1 ≤ (l.map fun y => Rows.uptoBulk y.1).sum := le_sum (g := fun y : DataW H × List MemPlace => Rows.uptoBulk y.1) (List.mem_of_getElem? h)
theorem bSlice {α : Type} {t e : TypeId} {size : Nat} (ht : Try.prog.underlying t = some (.slice e)) (hs : Try.prog.cellsOf e = size) {P : α → List Value → Nat → Prop} {fuel : Nat} {cs : List Value} {x : DataW H × List MemPlace}
  (helem : ∀ n, fuel = n + 1 → ∀ cs x, DataW.trod enc Try.prog w base spare held n e cs = some x → Rows.uptoBulk x.1 ≤ 1048576 → ∃ d : α, P d cs (Rows.uptoBulk x.1))
  (h : DataW.trod enc Try.prog w base spare held fuel t cs = some x) (hb : Rows.uptoBulk x.1 ≤ 1048576) :
  ∃ (a : Option Addr) (len cap : Nat) (l : List α) (bs : List Nat), cs = [.slice a len cap] ∧ l.length = len ∧ bs.length = len ∧ len ≤ cap ∧ cap ≤ 9223372036854775807 ∧ (a = none → cap = 0) ∧ bs.sum + 1 ≤ Rows.uptoBulk x.1 ∧ len + 1 ≤ Rows.uptoBulk x.1 ∧
   ∀ i d, l[i]? = some d → ∃ p cs' b, a = some p ∧ bs[i]? = some b ∧ P d cs' b ∧ ∀ j, j < size → w.cell? (p.add (i * size + j)) = cs'[j]? := by
 rcases DataW.trod_slice ht h with ⟨rfl, rfl⟩ | ⟨a, len, cap, elems, rest, n, hfu, rfl, rfl, hba, hl, hm, hlen, hel, _, _⟩
 ·exact ⟨none, 0, 0, [], [], rfl, rfl, rfl, Nat.le_refl _, by omega, fun _ => rfl, by simp [Rows.uptoBulk], by simp [Rows.uptoBulk], fun i d h => by simp at h⟩
 ·simp only [Rows.uptoBulk, bulk_all, List.map_map] at hb ⊢
  have hsum : (elems.map fun y => Rows.uptoBulk y.1).sum + 1 ≤ 1048576 := by
   have e1 : (elems.map (Rows.uptoBulk ∘ fun y : DataW H × List MemPlace => y.1)) = elems.map fun y => Rows.uptoBulk y.1 := rfl
   rw [e1] at hb; omega
  obtain ⟨l, hll, hc⟩ := list_of (n := len) (P := fun i (d : α) => ∃ cs' y, elems[i]? = some y ∧ P d cs' (Rows.uptoBulk y.1) ∧ ∀ j, j < size → w.cell? (a.add (i * size + j)) = cs'[j]?) (by
   intro i hil
   have hk := hel i hil
   rw [List.getElem?_eq_getElem (by omega)] at hk
   obtain ⟨cs', h1, h2⟩ := Option.bind_eq_some_iff.1 hk
   have hy : elems[i]? = some (elems[i]'(by omega)) := List.getElem?_eq_getElem _
   obtain ⟨d, hd⟩ := helem n hfu cs' _ h2 (by have := le_bulks hy; omega)
   obtain ⟨_, _, hat⟩ := World.cells?_some h1
   rw [hs] at hat
   exact ⟨d, cs', _, hy, hd, fun j hj => by rw [← hat j hj, Go.Deep.add_add]⟩)
  unfold maxLen at hm
  have hcnt : len ≤ (elems.map fun y => Rows.uptoBulk y.1).sum := by rw [← hlen]; exact len_sum (g := fun y : DataW H × List MemPlace => Rows.uptoBulk y.1) (fun y => bulk_one y.1) elems
  have e1 : (elems.map (Rows.uptoBulk ∘ fun y : DataW H × List MemPlace => y.1)) = elems.map fun y => Rows.uptoBulk y.1 := rfl
  rw [e1]
  refine ⟨some a, len, cap, l, elems.map fun y => Rows.uptoBulk y.1, rfl, hll, by simp [hlen], hl, by omega, (fun e => by cases e), by omega, by omega, fun i d hd => ?_⟩
  obtain ⟨cs', y, hy, hp, hcell⟩ := hc i d hd
  exact ⟨a, cs', _, rfl, by rw [List.getElem?_map, hy]; rfl, hp, hcell⟩
set_option maxRecDepth 100000 in
theorem bItem {fuel : Nat} {cs : List Value} {x : DataW H × List MemPlace} (h : DataW.trod enc Try.prog w base spare held fuel 57 cs = some x) : ∃ d : Lm.It, okI d ∧ cs = encI d ∧ szI d + 3 ≤ Rows.uptoBulk x.1 := by
 obtain ⟨ys, n, rfl, rfl, hlen, hyl, hf⟩ := DataW.trod_struct Try.underlying57 h
 rw [ob_item] at hlen
 match cs, hlen with
 | [c0, c1, c2, c3, c4], _ =>
  have f0 : DataW.trod enc Try.prog w base spare held n 33 (List.take (Try.prog.cellsOf 33) [c0, c1, c2, c3, c4]) = ys[0]? := hf 0 _ rfl
  have f1 : DataW.trod enc Try.prog w base spare held n 40 (List.take (Try.prog.cellsOf 40) [c1, c2, c3, c4]) = ys[1]? := hf 1 _ rfl
  have f2 : DataW.trod enc Try.prog w base spare held n 9 (List.take (Try.prog.cellsOf 9) [c4]) = ys[2]? := hf 2 _ rfl
  rw [oc_u64] at f0; rw [oc_dot] at f1; rw [oc_str] at f2
  match ys, hyl with
  | [y0, y1, y2], _ =>
   obtain ⟨t, ht, _, wt⟩ := DataW.trod_int (x := y0) Try.underlying33 f0
   obtain ⟨⟨⟨r, i⟩, s⟩, hok, hd0⟩ := oDot (x := y1) f1
   obtain ⟨u, hu, hy2, wu⟩ := DataW.trod_string (x := y2) Try.underlying9 f2
   subst hy2
   simp only [List.take_succ_cons, List.take_zero, List.cons.injEq, and_true] at ht hd0 hu
   subst ht; subst hu
   obtain ⟨rfl, rfl, rfl⟩ := hd0
   have bt := bounds_u64 wt
   unfold maxLen at wu
   obtain ⟨t, rfl⟩ := Int.eq_ofNat_of_zero_le bt.1
   have hus : u.data.toList.length = u.size := by rw [Array.length_toList]; rfl
   have o0 := bulk_one y0.1; have o1 := bulk_one y1.1
   exact ⟨(t, ((r, i), s), u), ⟨by show t < 18446744073709551616; omega, hok, wu⟩, rfl, by simp only [szI, Rows.uptoBulk, Rows.uptoBulkAll, List.map_cons, List.map_nil, hus]; omega⟩
theorem bItems {fuel : Nat} {cs : List Value} {x : DataW H × List MemPlace} (h : DataW.trod enc Try.prog w base spare held fuel 41 cs = some x) (hb : Rows.uptoBulk x.1 ≤ 1048576) :
  ∃ (a : Option Addr) (len cap : Nat) (l : List Lm.It), cs = [.slice a len cap] ∧ IRow w a cap l ∧ l.length = len ∧ (l.map szI).sum ≤ Rows.uptoBulk x.1 ∧ len ≤ 1000000 := by
 obtain ⟨a, len, cap, l, bs, rfl, hl, hbl, h1, h2, h3, h4, h5, h6⟩ := bSlice (P := fun (d : Lm.It) cs b => okI d ∧ cs = encI d ∧ szI d + 3 ≤ b) Try.underlying41 ob_item (fun n _ cs x h _ => bItem h) h hb
 have hP : ∀ (i : Nat) (d : Lm.It) (b : Nat), l[i]? = some d → bs[i]? = some b → szI d + 3 ≤ b := fun i d b hd hbi => by
  obtain ⟨p, cs', b', _, hb', ⟨_, _, g⟩, _⟩ := h6 i d hd
  rw [hbi] at hb'; obtain rfl := Option.some.inj hb'; exact g
 have hsum := sum_bulk (fun d => szI d + 3) l bs (by rw [hl, hbl]) hP
 have hsum2 : (l.map szI).sum + 3 * l.length ≤ (l.map fun d => szI d + 3).sum := by
  clear h6 hP hsum hl
  induction l with
  | nil => simp
  | cons d l ih => simp only [List.map_cons, List.sum_cons, List.length_cons]; omega
 refine ⟨a, len, cap, l, rfl, ⟨by omega, h2, fun d hd => ?_, h3, fun i d hd => ?_⟩, hl, by omega, by omega⟩
 ·obtain ⟨i, hi⟩ := List.getElem?_of_mem hd
  obtain ⟨p, cs', b', _, _, ⟨g, _⟩, _⟩ := h6 i d hi
  exact g
 ·obtain ⟨p, cs', b', hp, _, ⟨_, rfl, _⟩, hc⟩ := h6 i d hd
  exact ⟨p, hp, by have := hc 0 (by omega); rw [Nat.add_zero] at this; rw [this]; rfl, by rw [hc 1 (by omega)]; rfl, by rw [hc 2 (by omega)]; rfl, by rw [hc 3 (by omega)]; rfl, by rw [hc 4 (by omega)]; rfl⟩
theorem bDots {fuel : Nat} {cs : List Value} {x : DataW H × List MemPlace} (h : DataW.trod enc Try.prog w base spare held fuel 42 cs = some x) (hb : Rows.uptoBulk x.1 ≤ 1048576) :
  ∃ (a : Option Addr) (len cap : Nat) (l : List Dt.Dot), cs = [.slice a len cap] ∧ VRow w a cap l ∧ l.length = len ∧ len ≤ Rows.uptoBulk x.1 ∧ len ≤ 1000000 := by
 obtain ⟨a, len, cap, l, bs, rfl, hl, hbl, h1, h2, h3, h4, h5, h6⟩ := bSlice (P := fun (d : Dt.Dot) cs b => Dt.okD d ∧ cs = encT d ∧ 2 ≤ b) Try.underlying42 oc_dot (fun n _ cs x h _ => by
  obtain ⟨d, g1, g2⟩ := oDot h
  refine ⟨d, g1, g2, ?_⟩
  obtain ⟨ys, n, _, rfl, hlen, hyl, hf⟩ := DataW.trod_struct Try.underlying40 h
  match ys, hyl with
  | [y0, y1], _ =>
   have o0 := bulk_one y0.1
   simp only [Rows.uptoBulk, Rows.uptoBulkAll, List.map_cons, List.map_nil]; omega) h hb
 have hP : ∀ (i : Nat) (d : Dt.Dot) (b : Nat), l[i]? = some d → bs[i]? = some b → 2 ≤ b := fun i d b hd hbi => by
  obtain ⟨p, cs', b', _, hb', ⟨_, _, g⟩, _⟩ := h6 i d hd
  rw [hbi] at hb'; obtain rfl := Option.some.inj hb'; exact g
 have hsum := sum_bulk (fun _ => 2) l bs (by rw [hl, hbl]) hP
 have hsum2 : (l.map fun _ : Dt.Dot => 2).sum = 2 * l.length := by
  clear h6 hP hsum hl
  induction l with
  | nil => simp
  | cons d l ih => simp only [List.map_cons, List.sum_cons, List.length_cons]; omega
 refine ⟨a, len, cap, l, rfl, ⟨by omega, h2, fun d hd => ?_, h3, fun i d hd => ?_⟩, hl, by omega, by omega⟩
 ·obtain ⟨i, hi⟩ := List.getElem?_of_mem hd
  obtain ⟨p, cs', b', _, _, ⟨g, _⟩, _⟩ := h6 i d hi
  exact g
 ·obtain ⟨p, cs', b', hp, _, ⟨_, rfl, _⟩, hc⟩ := h6 i d hd
  exact ⟨p, hp, by have := hc 0 (by omega); rw [Nat.add_zero] at this; rw [this]; rfl, by rw [hc 1 (by omega)]; rfl, by rw [hc 2 (by omega)]; rfl⟩
set_option maxRecDepth 100000 in
theorem bLeaf {fuel : Nat} {cs : List Value} {x : DataW H × List MemPlace} (h : DataW.trod enc Try.prog w base spare held fuel 44 cs = some x) (hb : Rows.uptoBulk x.1 ≤ 1048576) :
  ∃ y : Lm.L, okL y ∧ (∃ ia ic da dc, cs = [.int .u8 (y.kind : Int), .int .i64 y.n, .int .u64 (y.time : Int), .int .u8 (y.dot.1.1 : Int), .int .u32 (y.dot.1.2 : Int), .int .u64 (y.dot.2 : Int), .string y.text, .slice ia y.items.length ic, .slice da y.tombs.length dc] ∧ IRow w ia ic y.items ∧ VRow w da dc y.tombs) ∧ szL y ≤ Rows.uptoBulk x.1 := by
 obtain ⟨ys, m, rfl, rfl, hlen, hyl, hf⟩ := DataW.trod_struct Try.underlying44 h
 rw [ob_leaf] at hlen
 match cs, hlen with
 | [c0, c1, c2, c3, c4, c5, c6, c7, c8], _ =>
  have f0 : DataW.trod enc Try.prog w base spare held m 5 (List.take (Try.prog.cellsOf 5) [c0, c1, c2, c3, c4, c5, c6, c7, c8]) = ys[0]? := hf 0 _ rfl
  have f1 : DataW.trod enc Try.prog w base spare held m 2 (List.take (Try.prog.cellsOf 2) [c1, c2, c3, c4, c5, c6, c7, c8]) = ys[1]? := hf 1 _ rfl
  have f2 : DataW.trod enc Try.prog w base spare held m 33 (List.take (Try.prog.cellsOf 33) [c2, c3, c4, c5, c6, c7, c8]) = ys[2]? := hf 2 _ rfl
  have f3 : DataW.trod enc Try.prog w base spare held m 40 (List.take (Try.prog.cellsOf 40) [c3, c4, c5, c6, c7, c8]) = ys[3]? := hf 3 _ rfl
  have f4 : DataW.trod enc Try.prog w base spare held m 9 (List.take (Try.prog.cellsOf 9) [c6, c7, c8]) = ys[4]? := hf 4 _ rfl
  have f5 : DataW.trod enc Try.prog w base spare held m 41 (List.take (Try.prog.cellsOf 41) [c7, c8]) = ys[5]? := hf 5 _ rfl
  have f6 : DataW.trod enc Try.prog w base spare held m 42 (List.take (Try.prog.cellsOf 42) [c8]) = ys[6]? := hf 6 _ rfl
  rw [oc_u8] at f0; rw [oc_i64] at f1; rw [oc_u64] at f2; rw [oc_dot] at f3; rw [oc_str] at f4; rw [ob_items] at f5; rw [oc_dots] at f6
  match ys, hyl with
  | [y0, y1, y2, y3, y4, y5, y6], _ =>
   simp only [Rows.uptoBulk, Rows.uptoBulkAll, List.map_cons, List.map_nil] at hb
   obtain ⟨k, hk, _, wk⟩ := DataW.trod_int (x := y0) Try.underlying5 f0
   obtain ⟨n, hn, _, wn⟩ := DataW.trod_int (x := y1) Try.underlying2 f1
   obtain ⟨t, ht, _, wt⟩ := DataW.trod_int (x := y2) Try.underlying33 f2
   obtain ⟨⟨⟨r, i⟩, s⟩, hok, hd0⟩ := oDot (x := y3) f3
   obtain ⟨u, hu, hy4, wu⟩ := DataW.trod_string (x := y4) Try.underlying9 f4
   obtain ⟨ia, il, ic, li, hi, hir, hil, hisum, hil2⟩ := bItems (x := y5) f5 (by omega)
   obtain ⟨da, dl, dc, ld, hd, hdr, hdl, hdsum, hdl2⟩ := bDots (x := y6) f6 (by omega)
   subst hy4
   simp only [List.take_succ_cons, List.take_zero, List.cons.injEq, and_true] at hk hn ht hd0 hu hi hd
   subst hk; subst hn; subst ht; subst hu; subst hi; subst hd
   obtain ⟨rfl, rfl, rfl⟩ := hd0
   have bk := bounds_u8 wk; have bn := bounds_i64 wn; have bt := bounds_u64 wt
   obtain ⟨k, rfl⟩ := Int.eq_ofNat_of_zero_le bk.1
   obtain ⟨t, rfl⟩ := Int.eq_ofNat_of_zero_le bt.1
   have hus : u.data.toList.length = u.size := by rw [Array.length_toList]; rfl
   have o0 := bulk_one y0.1
   simp only [Rows.uptoBulk, hus] at hb
   subst hil; subst hdl
   refine ⟨⟨k, n, t, ((r, i), s), u, li, ld⟩, ⟨by simp only; omega, bn, by simp only; omega, hok, by simp only; omega, hil2, hdl2⟩, ⟨ia, ic, da, dc, rfl, hir, hdr⟩, ?_⟩
   simp only [szL, Rows.uptoBulk, Rows.uptoBulkAll, List.map_cons, List.map_nil, hus]; omega
theorem bLeaves {fuel : Nat} {cs : List Value} {x : DataW H × List MemPlace} (h : DataW.trod enc Try.prog w base spare held fuel 45 cs = some x) (hb : Rows.uptoBulk x.1 ≤ 1048576) :
  ∃ (a : Option Addr) (len cap : Nat) (l : List Lm.L), cs = [.slice a len cap] ∧ LRow w a cap l ∧ l.length = len ∧ (l.map szL).sum ≤ Rows.uptoBulk x.1 ∧ len ≤ 1048576 := by
 obtain ⟨a, len, cap, l, bs, rfl, hl, hbl, h1, h2, h3, h4, h5, h6⟩ := bSlice (P := fun (y : Lm.L) cs b => okL y ∧ (∃ ia ic da dc, cs = [.int .u8 (y.kind : Int), .int .i64 y.n, .int .u64 (y.time : Int), .int .u8 (y.dot.1.1 : Int), .int .u32 (y.dot.1.2 : Int), .int .u64 (y.dot.2 : Int), .string y.text, .slice ia y.items.length ic, .slice da y.tombs.length dc] ∧ IRow w ia ic y.items ∧ VRow w da dc y.tombs) ∧ szL y ≤ b) Try.underlying45 ob_leaf (fun n _ cs x h hb => bLeaf h hb) h hb
 have hsum := sum_bulk szL l bs (by rw [hl, hbl]) (fun i d b hd hbi => by
  obtain ⟨p, cs', b', _, hb', ⟨_, _, g⟩, _⟩ := h6 i d hd
  rw [hbi] at hb'; obtain rfl := Option.some.inj hb'; exact g)
 refine ⟨a, len, cap, l, rfl, ⟨by omega, h2, h3, fun i d hd => ?_⟩, hl, by omega, by omega⟩
 obtain ⟨p, cs', b', hp, _, ⟨g1, ⟨ia, ic, da, dc, rfl, g2, g3⟩, _⟩, hc⟩ := h6 i d hd
 exact ⟨g1, p, ia, ic, da, dc, hp, ⟨by have := hc 0 (by omega); rw [Nat.add_zero] at this; rw [this]; rfl, by rw [hc 1 (by omega)]; rfl, by rw [hc 2 (by omega)]; rfl, by rw [hc 3 (by omega)]; rfl, by rw [hc 4 (by omega)]; rfl, by rw [hc 5 (by omega)]; rfl, by rw [hc 6 (by omega)]; rfl, by rw [hc 7 (by omega)]; rfl, by rw [hc 8 (by omega)]; rfl⟩, g2, g3⟩
theorem TRow.more {w : World} : ∀ {n : Nat} {a : Option Addr} {cap : Nat} {l : List Tm.N}, TRow w n a cap l → TRow w (n + 1) a cap l
 | 0, a, cap, l, h => ⟨by rw [h.1]; simp, h.2.1, h.2.2, fun i x hx => by rw [h.1] at hx; simp at hx⟩
 | n + 1, a, cap, l, h => ⟨h.1, h.2.1, h.2.2.1, fun i x hx => by
  obtain ⟨ho, p, la, lc, ba, bc, hp, hc, hl, ht⟩ := h.2.2.2 i x hx
  exact ⟨ho, p, la, lc, ba, bc, hp, hc, hl, TRow.more ht⟩⟩
set_option maxRecDepth 100000 in
theorem bTree : ∀ (F : Nat) {cs : List Value} {x : DataW H × List MemPlace}, DataW.trod enc Try.prog w base spare held F 23 cs = some x → Rows.uptoBulk x.1 ≤ 1048576 →
  ∃ (a : Option Addr) (len cap : Nat) (l : List Tm.N), cs = [.slice a len cap] ∧ TRow w F a cap l ∧ l.length = len ∧ len ≤ 1048576 ∧ ∀ k, sz k l ≤ Rows.uptoBulk x.1 := by
 intro F
 induction F using Nat.strongRecOn with
 | ind F ih =>
  intro cs x h hb
  cases F with
  | zero => simp [DataW.trod] at h
  | succ F =>
   obtain ⟨a, len, cap, l, bs, rfl, hl, hbl, h1, h2, h3, h4, h5, h6⟩ := bSlice (P := fun (y : Tm.N) cs b => (y.name.size ≤ 100000000 ∧ y.leaves.length ≤ 100000000 ∧ y.under.length ≤ 100000000) ∧ (∃ la lc ba bc, cs = [.string y.name, .slice la y.leaves.length lc, .slice ba y.under.length bc] ∧ LRow w la lc y.leaves ∧ TRow w F ba bc y.under) ∧ ∀ k, szN (sz k) y ≤ b) Try.underlying23 ob_node (fun n hn cs x h hb => by
    obtain rfl : F = n := by omega
    obtain ⟨ys, m, rfl, rfl, hlen, hyl, hf⟩ := DataW.trod_struct Try.underlying47 h
    rw [ob_node] at hlen
    match cs, hlen with
    | [c0, c1, c2], _ =>
     have f0 : DataW.trod enc Try.prog w base spare held m 9 (List.take (Try.prog.cellsOf 9) [c0, c1, c2]) = ys[0]? := hf 0 _ rfl
     have f1 : DataW.trod enc Try.prog w base spare held m 45 (List.take (Try.prog.cellsOf 45) [c1, c2]) = ys[1]? := hf 1 _ rfl
     have f2 : DataW.trod enc Try.prog w base spare held m 23 (List.take (Try.prog.cellsOf 23) [c2]) = ys[2]? := hf 2 _ rfl
     rw [oc_str] at f0; rw [ob_leaves] at f1; rw [ob_tree] at f2
     match ys, hyl with
     | [y0, y1, y2], _ =>
      simp only [Rows.uptoBulk, Rows.uptoBulkAll, List.map_cons, List.map_nil] at hb
      obtain ⟨u, hu, hy0, wu⟩ := DataW.trod_string (x := y0) Try.underlying9 f0
      obtain ⟨la, ll, lc, ls, hls, hlr, hll, hlsum, hll2⟩ := bLeaves (x := y1) f1 (by omega)
      obtain ⟨ba, bl, bc, us, hus, htr, hbl, hbl2, htsum⟩ := ih m (by omega) (x := y2) f2 (by omega)
      subst hy0
      simp only [List.take_succ_cons, List.take_zero, List.cons.injEq, and_true] at hu hls hus
      subst hu; subst hls; subst hus
      have hus : u.data.toList.length = u.size := by rw [Array.length_toList]; rfl
      simp only [Rows.uptoBulk, hus] at hb
      subst hll; subst hbl
      refine ⟨.mk u ls us, ⟨by simp only [Tm.N.name_mk]; omega, by simp only [Tm.N.leaves_mk]; omega, by simp only [Tm.N.under_mk]; omega⟩, ⟨la, lc, ba, bc, rfl, hlr, TRow.more htr⟩, fun k => ?_⟩
      have := htsum k
      simp only [szN, Rows.uptoBulk, Rows.uptoBulkAll, List.map_cons, List.map_nil, hus, Tm.N.name_mk, Tm.N.leaves_mk, Tm.N.under_mk]; omega) h hb
   refine ⟨a, len, cap, l, rfl, ⟨by omega, h2, h3, fun i d hd => ?_⟩, hl, by omega, fun k => ?_⟩
   ·obtain ⟨p, cs', b', hp, _, ⟨g1, ⟨la, lc, ba, bc, rfl, g2, g3⟩, _⟩, hc⟩ := h6 i d hd
    exact ⟨g1, p, la, lc, ba, bc, hp, ⟨by have := hc 0 (by omega); rw [Nat.add_zero] at this; rw [this]; rfl, by rw [hc 1 (by omega)]; rfl, by rw [hc 2 (by omega)]; rfl⟩, g2, g3⟩
   ·cases k with
    | zero => simp [sz]
    | succ k =>
     have hsum := sum_bulk (szN (sz k)) l bs (by rw [hl, hbl]) (fun i d b hd hbi => by
      obtain ⟨p, cs', b', _, hb', ⟨_, _, g⟩, _⟩ := h6 i d hd
      rw [hbi] at hb'; obtain rfl := Option.some.inj hb'; exact g k)
     simp only [sz]; omega
end
end Go.Proofs.Ytplafpchgfjomaa
