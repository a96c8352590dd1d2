import Derived.Test.YtplafpchgfjomaaZDot4
import Derived.Maps.OwnOps
import Derived.Maps.RangeWalk
import Derived.Maps.Views
import Derived.Maps.Ext
import Derived.OpenShut
import Derived.DeepKeys5
import Derived.Test.YtplafpchgfjomaaZOp8
import Derived.WideKeyEntry
import Derived.Maps.OwnSet
import Derived.Test.YtplafpchgfjomaaZCode8
import Derived.Test.YtplafpchgfjomaaZBuf
import Derived.Test.YtplafpchgfjomaaZLeaf2
import Derived.Test.YtplafpchgfjomaaZLeaf3
import Derived.Test.YtplafpchgfjomaaZLeaf4
namespace Go.Proofs.Ytplafpchgfjomaa
open Go.RowKit Go.Maps
abbrev kl (a : Dt.Ac) : Lit := .string (keyBytes [.int .u8 (a.1 : Int), .int .u32 (a.2 : Int)])
def okAc (a : Dt.Ac) : Prop := a.1 < 256 ∧ a.2 < 4294967296
theorem types_size : ∃ m, Try.prog.types.size = m + 1 := ⟨Try.prog.types.size - 1, by kernel_rfl⟩
theorem cells_act : Try.prog.cellsOf 38 = 2 := by kernel_rfl
theorem cells_u8 : Try.prog.cellsOf 5 = 1 := by kernel_rfl
theorem cells_u32 : Try.prog.cellsOf 36 = 1 := by kernel_rfl
def Nums (w : World) (b n : Nat) (D : DataW Unit) (f : Dt.Ac → Nat) : Prop :=
 w.ownsMap Try.prog 38 (plainElem Try.prog 33) b n D ∧ ∀ a, okAc a → D.atKey (kl a) (.lit (.int .u64 0)) = .lit (.int .u64 (f a : Nat))
theorem Nums.made (w : World) : Nums (w.alloc (.map #[] 0)) w.heap.size 0 (.map []) (fun _ => 0) := ⟨World.ownsMap_made _ _ _ _, fun _ _ => rfl⟩
theorem Nums.kept {w w' : World} {b n : Nat} {D : DataW Unit} {f : Dt.Ac → Nat} {row : Option Nat} (h : Nums w b n D f) (hg : w.grownBy w' row) (hne : some b ≠ row) : Nums w' b n D f := ⟨h.1.kept hg hne, h.2⟩
theorem Nums.below {w w' : World} {b n : Nat} {D : DataW Unit} {f : Dt.Ac → Nat} (h : Nums w b n D f) (hb : Below w.heap.size w w') : Nums w' b n D f := h.kept (row := none) ⟨hb.os, hb.tape, hb.output, hb.size, fun k hk _ => hb.block k hk⟩ (by simp)
theorem Nums.lt {w : World} {b n : Nat} {D : DataW Unit} {f : Dt.Ac → Nat} (h : Nums w b n D f) : b < w.heap.size := h.1.lt
def upd (f : Dt.Ac → Nat) (a : Dt.Ac) (x : Nat) : Dt.Ac → Nat := fun c => if c = a then x else f c
end Go.Proofs.Ytplafpchgfjomaa
namespace Go.Proofs.Ytplafpchgfjomaa
open Go.RowKit Go.Maps Go.WideElems Go.ChangeShapes Go.WideShapes Go.MapKept Go.ChangeMaps
open Go.WideMaps (KeyLaw)
set_option linter.unusedSimpArgs false
set_option linter.unusedVariables false
section
variable {H : Type} {P : Program} {w : World} {t k e : TypeId} {R : Value → Option (DataW H × List MemPlace)} {b : Nat} {es : Array MapEntry} {clock : Nat}
theorem entry_now (K : KeyLaw P k) (ht : P.underlying t = some (.map k e)) {z : Value} (hz : ∀ u : World, (zeroValue e).run P u = .ok z u) (hb : w.heap[b]? = some (.map es clock)) (F : Fit P k R es clock)
  {key : Value} {kl : Lit} (hkey : keyOf P k key = some kl) :
  ∃ (v0 : Value) (st : Nat) (es1 : Array MapEntry) (clock1 : Nat), (Instr.mapEntry t (.map (some b)) key).run P w = .ok (.tuple #[v0, goInt st]) (setBlock w b (.map es1 clock1)) ∧
   (Instr.mapUpdate t (.map (some b)) key v0).run P w = .ok () (setBlock w b (.map es1 clock1)) ∧
   ((∃ e0 ∈ es.toList, v0 = e0.val) ∨ v0 = z) ∧
   ∀ (w2 : World) (val : Value), w2.heap[b]? = some (.map es1 clock1) → ∃ es' clock', (Instr.entryStore t (.map (some b)) (goInt st) val).run P w2 = .ok () (setBlock w2 b (.map es' clock')) ∧
    (Instr.mapUpdate t (.map (some b)) key val).run P w = .ok () (setBlock w b (.map es' clock')) := by
 obtain ⟨v0, st, es1, clock1, h1, h2, h3⟩ := entry_then_store K ht hz hb F hkey
 refine ⟨v0, st, es1, clock1, h1, ?_, ?_, h3⟩
 ·rcases K.find w hkey es.toList F.keys with ⟨f1, f2⟩ | ⟨j, e0, f1, f2, f3⟩
  ·have g := h1
   simp [Instr.mapEntry, run_underlying ht, MapKept.run_getObj_map hb, K.check w false hkey, f1, hz, MapKept.run_setObj_map _ hb, Result.andThen, setBlock] at g
   obtain ⟨⟨g1, _⟩, g2⟩ := g
   subst g1
   simp [Instr.mapUpdate, run_underlying ht, MapKept.run_getObj_map hb, K.check w false hkey, f1, MapKept.run_setObj_map _ hb, Result.andThen, setBlock]
   exact g2
  ·have hj : es[j]? = some e0 := by simpa using f2
   have hsame : es.modify j (fun e => { e with key := key, val := e0.val }) = es.modify j (fun e => { e with key := key }) := by
    apply Array.ext'
    rw [Array.toList_modify, Array.toList_modify, modify_eq_set _ _ _ _ f2, modify_eq_set _ _ _ _ f2]
   have g := h1
   simp [Instr.mapEntry, run_underlying ht, MapKept.run_getObj_map hb, K.check w false hkey, f1, hj, f3, K.stays w hkey, MapKept.run_setObj_map _ hb, Result.andThen, setBlock] at g
   obtain ⟨⟨g1, _⟩, g2⟩ := g
   subst g1
   simp [Instr.mapUpdate, run_underlying ht, MapKept.run_getObj_map hb, K.check w false hkey, f1, hj, f3, K.stays w hkey, MapKept.run_setObj_map _ hb, Result.andThen, setBlock]
   rw [hsame]
   exact g2
 ·rcases h2 with ⟨e0, he, _, h⟩ | ⟨_, h⟩
  ·exact Or.inl ⟨e0, he, h⟩
  ·exact Or.inr h
end
theorem dotKeyLaw : KeyLaw Try.prog 40 := deep_law_gate (by kernel_rfl) (of_decide_eq_true (by kernel_rfl)) (of_decide_eq_true (by kernel_rfl)) (by kernel_rfl) (by rw [Try.underlying40])
theorem dotLaw : Keyed Try.prog 40 := .of_law dotKeyLaw
abbrev kd (d : Dt.Dot) : Lit := .string (keyBytes [.int .u8 (d.1.1 : Int), .int .u32 (d.1.2 : Int), .int .u64 (d.2 : Int)])
theorem keyType_dot : Try.prog.keyType 40 = true := by kernel_rfl
theorem cells_dot : Try.prog.cellsOf 40 = 3 := by kernel_rfl
theorem cells_u64 : Try.prog.cellsOf 33 = 1 := by kernel_rfl
theorem keyOf_dot {d : Dt.Dot} (h : Dt.okD d) : keyOf Try.prog 40 (dotV d) = some (kd d) := by
 obtain ⟨m, hm⟩ := types_size
 obtain ⟨m', rfl⟩ : ∃ m', m = m' + 1 := ⟨m - 1, by have h2 : 2 ≤ Try.prog.types.size := of_decide_eq_true (by kernel_rfl); omega⟩
 have wa : (Lit.int .u8 (d.1.1 : Int)).wf = true := by have := h.1; go_wf
 have wb : (Lit.int .u32 (d.1.2 : Int)).wf = true := by have := h.2.1; go_wf
 have wc : (Lit.int .u64 (d.2 : Int)).wf = true := by have := h.2.2; go_wf
 unfold keyOf
 simp only [Try.underlying40]
 rw [if_pos (by simp [keyType_dot, Value.formed, Try.underlying40, cells_dot]), hm]
 unfold Program.keyLits
 simp only [Try.underlying40, Value.cells]
 rw [if_pos (by simp [cells_dot])]
 simp [Program.keyLits, cells_act, cells_u8, cells_u32, cells_u64, wa, wb, wc]
 rw [if_pos (fun i x => by match i, x with | 0, _ => simp | 1, _ => simp)]
 rfl
theorem kd_inj {a c : Dt.Dot} (ha : Dt.okD a) (hc : Dt.okD c) (h : kd a = kd c) : a = c := by
 have h1 := keyOf_dot ha
 rw [h] at h1
 have h2 := dotLaw.inj h1 (keyOf_dot hc)
 simp only [Value.agg.injEq, Array.mk.injEq, List.cons.injEq, Value.int.injEq, true_and, and_true] at h2
 obtain ⟨⟨a1, a2⟩, a3⟩ := a; obtain ⟨⟨c1, c2⟩, c3⟩ := c
 simp only at h2
 simp only [Prod.mk.injEq]; omega
theorem zeroI64 (w : World) : (zeroValue 3).run Try.prog w = .ok (.int .i64 0) w := by kernel_rfl
abbrev Cnt (w : World) (b n : Nat) (D : DataW Unit) : Prop := w.ownsMap Try.prog 40 (plainElem Try.prog 3) b n D
theorem wrapWf (x : Int) : (Lit.int .i64 (IntKind.i64.wrap x)).wf = true := wf_wrap _ _
theorem Cnt.bump {w : World} {b n : Nat} {D : DataW Unit} (h : Cnt w b n D) {d : Dt.Dot} (hd : Dt.okD d) (hn : n < maxLen) :
  ∃ (c c1 v0 : Value) (st : Nat) (w1 : World), (∃ x, c = .int .i64 x) ∧ (∃ x, c1 = .int .i64 x) ∧ (Instr.lookup 118 (.map (some b)) (dotV d) false).run Try.prog w = .ok c w ∧
   (Instr.mapEntry 118 (.map (some b)) (dotV d)).run Try.prog w = .ok (.tuple #[v0, goInt st]) w1 ∧
   (Instr.lookup 118 (.map (some b)) (dotV d) false).run Try.prog w1 = .ok c1 w1 ∧
   ∀ x : Int, ∃ w2, (Instr.entryStore 118 (.map (some b)) (goInt st) (.int .i64 (IntKind.i64.wrap x))).run Try.prog w1 = .ok () w2 ∧ Cnt w2 b (n + 1) (D.put (kd d) (.lit (.int .i64 (IntKind.i64.wrap x)))) ∧ w.grownBy w2 (some b) := by
 obtain ⟨es, clock, hb, F, hs, hD⟩ := id h
 obtain ⟨v0, st, es1, clock1, h1, h2, h3, h4⟩ := entry_now dotKeyLaw Try.underlying118 zeroI64 hb F (keyOf_dot hd)
 obtain ⟨c, hl, _, _⟩ := h.lookup_int dotLaw Try.underlying118 Try.underlying3 (zeroI64 w) (keyOf_dot hd)
 obtain ⟨x0, hx0⟩ : ∃ x0, plainElem (H := Unit) Try.prog 3 v0 = some x0 := by
  rcases h3 with ⟨e0, he, rfl⟩ | rfl
  ·obtain ⟨y0, hy0⟩ := F.reads e0 he
   obtain ⟨zv, hzv, _⟩ := rd_val hy0
   exact ⟨zv, hzv⟩
  ·exact ⟨_, plainElem_int Try.underlying3 (by decide)⟩
 obtain ⟨dd, ps⟩ := x0
 obtain ⟨w', u1, u2, u3⟩ := h.update dotLaw Try.underlying118 hn (keyOf_dot hd) hx0
 have ew : w' = setBlock w b (.map es1 clock1) := by rw [h2] at u1; simpa using u1.symm
 rw [ew] at u2
 obtain ⟨c1, hl1, _, _⟩ := u2.lookup_int dotLaw Try.underlying118 Try.underlying3 (zeroI64 _) (keyOf_dot hd)
 refine ⟨_, _, v0, st, setBlock w b (.map es1 clock1), ⟨c, rfl⟩, ⟨c1, rfl⟩, hl, h1, hl1, fun x => ?_⟩
 obtain ⟨es', clock', g1, g2⟩ := h4 (setBlock w b (.map es1 clock1)) (.int .i64 (IntKind.i64.wrap x)) (heap_setBlock_same hb _)
 obtain ⟨w'', v1, v2, v3⟩ := h.update dotLaw Try.underlying118 hn (keyOf_dot hd) (plainElem_int Try.underlying3 (wrapWf x))
 have ew2 : w'' = setBlock w b (.map es' clock') := by rw [g2] at v1; simpa using v1.symm
 have e3 : setBlock (setBlock w b (.map es1 clock1)) b (.map es' clock') = setBlock w b (.map es' clock') := by simp [setBlock]
 rw [e3] at g1
 rw [ew2] at v2 v3
 exact ⟨_, g1, v2, v3⟩
def Seen (D : DataW Unit) (ds : List Dt.Dot) : Prop := Tidy D ∧ (∀ d, Dt.okD d → has D (kd d) = Lm.hasD ds d) ∧ size D ≤ ds.length ∧ (size D = ds.length ↔ ds.Nodup)
theorem Seen.nil : Seen (.map []) [] := ⟨tidy_empty, fun d _ => rfl, by simp [size_eq], by simp [size_eq]⟩
theorem Seen.snoc {D : DataW Unit} {ds : List Dt.Dot} (h : Seen D ds) {d : Dt.Dot} (hd : Dt.okD d) (x : DataW Unit) : Seen (D.put (kd d) x) (ds ++ [d]) := by
 obtain ⟨h1, h2, h3, h4⟩ := h
 have hk : WideAt.IsKeyLit (kd d) := dotLaw.key (keyOf_dot hd)
 have hs := size_put (k := kd d) h1 x
 refine ⟨h1.put hk x, fun e he => ?_, ?_, ?_⟩
 ·by_cases hed : e = d
  ·subst hed
   rw [has_put_same h1.isMap hk]
   simp [Lm.hasD]
  ·rw [has_put_other (fun g => hed (kd_inj he hd g)), h2 e he]
   have : ¬ d = e := fun g => hed g.symm
   simp [Lm.hasD, this]
 ·rw [hs, List.length_append]; simp only [List.length_singleton]; split <;> omega
 ·rw [hs, List.length_append, h2 d hd]
  simp only [List.length_singleton]
  by_cases hm : Lm.hasD ds d = true
  ·rw [if_pos hm]
   constructor
   ·intro g; omega
   ·intro g
    rw [List.nodup_append] at g
    exact absurd rfl (g.2.2 d (Lm.hasD_iff.1 hm) d (by simp))
  ·rw [if_neg hm]
   have hn : d ∉ ds := fun g => hm (Lm.hasD_iff.2 g)
   constructor
   ·intro g
    rw [List.nodup_append]
    exact ⟨h4.1 (by omega), by simp, fun a ha b hb e => by rw [List.mem_singleton] at hb; subst hb; subst e; exact hn ha⟩
   ·intro g
    rw [List.nodup_append] at g
    have := h4.2 g.1
    omega
theorem dots_take {l : List Lm.It} {k : Nat} {x : Lm.It} (h : l[k]? = some x) : (Lm.dots l).take (k + 1) = (Lm.dots l).take k ++ [x.2.1] := by
 obtain ⟨hk, rfl⟩ := List.getElem?_eq_some_iff.1 h
 rw [List.take_succ_eq_append_getElem (by simpa [Lm.dots] using hk)]
 simp [Lm.dots]
theorem dots_len (l : List Lm.It) : (Lm.dots l).length = l.length := by simp [Lm.dots]
theorem cnt_kept {w w' : World} {b n : Nat} {D : DataW Unit} {row : Option Nat} (h : Cnt w b n D) (hg : w.grownBy w' row) (hne : some b ≠ row) : Cnt w' b n D := h.kept hg hne
theorem below_grown {W w w' : World} {b : Nat} (h : Below W.heap.size W w) (hg : w.grownBy w' (some b)) (hb : W.heap.size ≤ b) : Below W.heap.size W w' := h.grown hg h.size (fun k e => by cases e; exact hb)
set_option maxRecDepth 100000 in
set_option maxHeartbeats 3200000 in
theorem noneTwice_any (a : Option Addr) (n cap : Nat) (l : List Lm.It) (W : World) (hr : IRow W a cap l) (hl : l.length = n) (hn : n ≤ 1000000000) :
  Calls Try.prog 67 #[.slice a n cap] W fun e w' => e = .returned (.bool (decide (Lm.dots l).Nodup)) ∧ Below W.heap.size W w' := by
 have hle := hr.le
 have hcap := hr.cap
 rw [hl] at hle
 have HR := Lib.hid hr; have HL := Lib.hid hl
 clear hr hl
 have hmm : ∀ (x : Int) (w : World), (Instr.makeMap 118 (some (.int .i64 x))).run Try.prog w = .ok (.map (some w.heap.size)) (w.alloc (.map #[] 0)) := fun x w => by
  simp [Instr.makeMap, run_underlying Try.underlying118, asInt, asIntOf, newObj, Result.andThen]
  rfl
 go_enter Try.func67, Try.ntmps67
 go_wp2_with fail
 go_loopw [5, 11] (fun _ i wr => ∃ (k : Nat) (D : DataW Unit), k ≤ n ∧ i = .int .i64 k ∧ Cnt wr W.heap.size k D ∧ Seen D ((Lm.dots l).take k) ∧ Below W.heap.size W wr) (fun _ i _ => n - (intOf i).toNat)
 case atStart => exact ⟨0, .map [], Nat.zero_le _, rfl, World.ownsMap_made _ _ _ _, Seen.nil, (Below.refl _ _).alloc (Nat.le_refl _) _⟩
 case round =>
  obtain ⟨k, D, hk, rfl, hcnt, hseen, hbel⟩ := hrel
  have HS := Lib.hid hseen; have HBel := Lib.hid hbel; clear hseen hbel
  by_cases hlt : k < n
  ·obtain ⟨d, hd⟩ := geti_some (l := l) (i := k) (by rw [HL.out]; exact hlt)
   have hokd := HR.out.ok d (List.mem_of_getElem? hd)
   obtain ⟨blk, off, rfl, hblk, hcells⟩ := HR.out.at (by rw [HL.out]; omega)
   obtain ⟨g0, g1, g2, g3, g4⟩ := hcells k d hd
   have q0 := (HBel.out.cell (p := ⟨blk, off + k * 5, none⟩) hblk).trans g0
   have q1 := (HBel.out.cell (p := ⟨blk, off + k * 5 + 1, none⟩) hblk).trans g1
   have q2 := (HBel.out.cell (p := ⟨blk, off + k * 5 + 2, none⟩) hblk).trans g2
   have q3 := (HBel.out.cell (p := ⟨blk, off + k * 5 + 3, none⟩) hblk).trans g3
   have q4 := (HBel.out.cell (p := ⟨blk, off + k * 5 + 4, none⟩) hblk).trans g4
   have hsz := HBel.out.size
   have HT := Lib.hid (dots_take hd)
   have HO := Lib.hid hokd.2.1
   clear hcells g0 g1 g2 g3 g4 hd hokd
   obtain ⟨t, ⟨⟨r, i⟩, s⟩, x⟩ := d
   simp only at q0 q1 q2 q3 q4 HT HO
   have hcw : Cnt ((wr.alloc (.cells #[.int .u64 (t : Int), .int .u8 (r : Int), .int .u32 (i : Int), .int .u64 (s : Int), .string x] 57)).drew) W.heap.size k D := cnt_kept (cnt_kept hcnt (World.grownBy_alloc _ _ none) (by simp)) (row := none) ⟨rfl, rfl, rfl, Nat.le_refl _, fun _ _ _ => rfl⟩ (by simp)
   obtain ⟨c, c1, v0, st, w1, ⟨y, rfl⟩, ⟨y1, rfl⟩, e1, e2, e3, e4⟩ := hcw.bump HO.out (by unfold maxLen; omega)
   obtain ⟨w2, f1, f2, f3⟩ := e4 (y + 1)
   obtain ⟨w3, f4, f5, f6⟩ := e4 (y1 + 1)
   have F2 := Lib.hid f2; have F3 := Lib.hid f3; have F5 := Lib.hid f5; have F6 := Lib.hid f6
   clear f2 f3 f5 f6 e4 hcw hcnt
   have i0 : (0 : Int) ≤ (k : Int) := by omega
   have i1 : (k : Int) < (n : Int) := by omega
   simp only [goInt] at e2 f1 f4
   have HWa := Lib.hid ((HBel.out.alloc HBel.out.size (.cells #[.int .u64 (t : Int), .int .u8 (r : Int), .int .u32 (i : Int), .int .u64 (s : Int), .string x] 57)).drew)
   go_wp2_with fail
   clear q0 q1 q2 q3 q4
   go_region
   all_goals
    go_wp2_with fail
    go_roundw
    case rel => first | exact ⟨k + 1, _, by omega, by go_num, F2.out, by rw [HT.out]; exact HS.out.snoc HO.out _, below_grown HWa.out F3.out (Nat.le_refl _)⟩ | exact ⟨k + 1, _, by omega, by go_num, F5.out, by rw [HT.out]; exact HS.out.snoc HO.out _, below_grown HWa.out F6.out (Nat.le_refl _)⟩
    case measure => simp [intOf]; omega
  ·obtain rfl : k = n := by omega
   have hlen : (Lm.dots l).take k = Lm.dots l := List.take_of_length_le (by rw [dots_len, HL.out]; omega)
   have HH := Lib.hid hlen; clear hlen
   have hln := hcnt.len Try.underlying118 3
   go_wp2_with fail
   go_ret
   refine ⟨ret_bool ?_, HBel.out⟩
   have h4 := HS.out.2.2.2
   rw [HH.out, dots_len, HL.out] at h4
   apply Lm.bool_eq
   simp
   exact ⟨fun g => h4.1 (by omega), fun g => by have := h4.2 g; omega⟩
end Go.Proofs.Ytplafpchgfjomaa
/- slices.IndexFunc, ContainsFunc at dots, with any function that tells a predicate. -/
namespace Go.Proofs.Ytplafpchgfjomaa
open Go.RowKit Go.Buf Go.LB
set_option linter.unusedSimpArgs false
set_option linter.unusedVariables false
def Enters (f : Nat) : Prop := ∀ (xs : Array Value) (w : World), (callFunc f xs).run Try.prog w = .ok (.enter f xs) w
theorem enters_of {f : Nat} {fn : Func} (hf : Try.prog.funcs[f]? = some fn) (hn : (fn.name == "runtime.NumGoroutine") = false) (hb : fn.body.isNone = false) : Enters f := fun xs w => by
 have hn2 : ¬ fn.name = "runtime.NumGoroutine" := by simpa using hn
 have hb2 : ¬ fn.body = none := fun g => by rw [g] at hb; simp at hb
 simp [callFunc, go_sem, hf, hn2, hb2]
def FIdx {α : Type} (l : List α) (p : α → Bool) (z : Int) : Prop := (z = -1 ∧ ∀ (j : Nat) (d : α), l[j]? = some d → p d = false) ∨ ∃ k : Nat, z = k ∧ (∃ d : α, l[k]? = some d ∧ p d = true) ∧ ∀ (j : Nat) (d : α), j < k → l[j]? = some d → p d = false
theorem FIdx.any {α : Type} {l : List α} {p : α → Bool} {z : Int} (h : FIdx l p z) : decide (0 ≤ z) = l.any p := by
 rcases h with ⟨rfl, h⟩ | ⟨k, rfl, ⟨d, hd, hp⟩, _⟩
 ·have : l.any p = false := by
   rw [List.any_eq_false]
   intro x hx
   obtain ⟨j, hj⟩ := List.getElem?_of_mem hx
   simpa using h j x hj
  rw [this]; rfl
 ·have : l.any p = true := List.any_eq_true.2 ⟨d, List.mem_of_getElem? hd, hp⟩
  rw [this]; simp
set_option maxRecDepth 100000 in
set_option maxHeartbeats 3200000 in
theorem indexD_any (a : Option Addr) (n cap : Nat) (f : Nat) (cp : Array Value) (p : Dt.Dot → Bool) (l : List Dt.Dot) (W : World) (hr : VRow W a cap l) (hl : l.length = n) (hE : Enters f)
  (hF : ∀ (k : Nat) (d : Dt.Dot) (w : World), l[k]? = some d → Below W.heap.size W w → Calls Try.prog f (#[dotV d] ++ cp) w fun e w' => e = .returned (.bool (p d)) ∧ Below w.heap.size w w') :
  Calls Try.prog 71 #[.slice a n cap, .func (.func f) #[] cp] W fun e w' => (∃ z, FIdx l p z ∧ e = .returned (.int .i64 z)) ∧ Below W.heap.size W w' := by
 have hle := hr.le
 have hcap := hr.cap
 rw [hl] at hle
 have HR := Lib.hid hr; have HL := Lib.hid hl; have HF := Lib.hid hF; have HE := Lib.hid hE
 clear hr hl hF hE
 go_enter Try.func71, Try.ntmps71
 go_wp2_with fail
 go_loopw [5, 8] (fun _ i wr => ∃ k : Nat, k ≤ n ∧ i = .int .i64 k ∧ (∀ j d, j < k → l[j]? = some d → p d = false) ∧ Below W.heap.size W wr) (fun _ i _ => n - (intOf i).toNat)
 case atStart => exact ⟨0, Nat.zero_le _, rfl, fun j d hj => by omega, Below.refl _ _⟩
 case round =>
  obtain ⟨k, hk, rfl, hno, hbel⟩ := hrel
  have HNo := Lib.hid hno; have HW := Lib.hid hbel; clear hno hbel
  by_cases hlt : k < n
  ·obtain ⟨d, hd⟩ := getD_some (l := l) (i := k) (by rw [HL.out]; exact hlt)
   obtain ⟨blk, off, rfl, hblk, hcells⟩ := HR.out.at (by rw [HL.out]; omega)
   obtain ⟨g0, g1, g2⟩ := hcells k d hd
   have q0 := (HW.out.cell (p := ⟨blk, off + k * 3, none⟩) hblk).trans g0
   have q1 := (HW.out.cell (p := ⟨blk, off + k * 3 + 1, none⟩) hblk).trans g1
   have q2 := (HW.out.cell (p := ⟨blk, off + k * 3 + 2, none⟩) hblk).trans g2
   have i0 : (0 : Int) ≤ (k : Int) := by omega
   have i1 : (k : Int) < (n : Int) := by omega
   have HD := Lib.hid hd
   clear hcells g0 g1 g2 hd
   obtain ⟨⟨r, i⟩, s⟩ := d
   simp only at q0 q1 q2
   go_wp2_with fail
   clear q0 q1 q2
   rw [HE.out, Oper.upon_enter]
   refine (HF.out k _ _ HD.out HW.out).mono ?_
   rintro e w1 ⟨rfl, hb⟩
   have HB := Lib.hid (HW.out.trans (hb.mono HW.out.size)); clear hb
   cases hp : p ((r, i), s)
   ·have hno2 : ∀ j d, j < k + 1 → l[j]? = some d → p d = false := fun j d hj h => by
     rcases Nat.lt_succ_iff_lt_or_eq.1 hj with g | rfl
     ·exact HNo.out j d g h
     ·rw [HD.out] at h; obtain rfl := Option.some.inj h; exact hp
    have HN2 := Lib.hid hno2; clear hno2 hp
    go_wp2_with fail
    go_roundw
    case rel => exact ⟨k + 1, by omega, by go_num, HN2.out, HB.out⟩
    case measure => simp [intOf]; omega
   ·have hfin : FIdx l p (k : Int) := Or.inr ⟨k, rfl, ⟨_, HD.out, hp⟩, HNo.out⟩
    have Hfin := Lib.hid hfin; clear hfin hp
    go_wp2_with fail
    go_ret
    exact ⟨⟨_, Hfin.out, rfl⟩, HB.out⟩
  ·have hfin : FIdx l p (-1) := Or.inl ⟨rfl, fun j d h => HNo.out j d (by have := (List.getElem?_eq_some_iff.1 h).1; rw [HL.out] at this; omega) h⟩
   have Hfin := Lib.hid hfin; clear hfin
   go_wp2_with fail
   go_ret
   exact ⟨⟨_, Hfin.out, rfl⟩, HW.out⟩
set_option maxHeartbeats 1000000 in
theorem containsD_any (a : Option Addr) (n cap : Nat) (f : Nat) (cp : Array Value) (p : Dt.Dot → Bool) (l : List Dt.Dot) (W : World) (hr : VRow W a cap l) (hl : l.length = n) (hE : Enters f)
  (hF : ∀ (k : Nat) (d : Dt.Dot) (w : World), l[k]? = some d → Below W.heap.size W w → Calls Try.prog f (#[dotV d] ++ cp) w fun e w' => e = .returned (.bool (p d)) ∧ Below w.heap.size w w') :
  Calls Try.prog 64 #[.slice a n cap, .func (.func f) #[] cp] W fun e w' => e = .returned (.bool (l.any p)) ∧ Below W.heap.size W w' := by
 have HR := Lib.hid hr; have HL := Lib.hid hl; have HF := Lib.hid hF; have HE := Lib.hid hE
 clear hr hl hF hE
 go_enter Try.func64, Try.ntmps64
 go_wp2_with fail
 refine (indexD_any a n cap f cp p l _ HR.out HL.out HE.out HF.out).mono ?_
 rintro e w1 ⟨⟨z, hz, rfl⟩, hb⟩
 have HB := Lib.hid hb; have HZ := Lib.hid hz; clear hb hz
 go_wp2_with fail
 go_ret
 exact ⟨ret_bool HZ.out.any, HB.out⟩
end Go.Proofs.Ytplafpchgfjomaa
namespace Go.Proofs.Ytplafpchgfjomaa
open Go.RowKit Go.Buf Go.LB
set_option linter.unusedSimpArgs false
set_option linter.unusedVariables false
abbrev itVd (x : Lm.It) : Value := .agg #[.int .u64 (x.1 : Int), .int .u8 (x.2.1.1.1 : Int), .int .u32 (x.2.1.1.2 : Int), .int .u64 (x.2.1.2 : Int), .string x.2.2]
theorem enters_maySet : Enters 65 := enters_of Try.func65 (by kernel_rfl) (by kernel_rfl)
set_option maxHeartbeats 1000000 in
theorem maySetF_any (r i s b : Nat) (ia : Option Addr) (il ic : Nat) (li : List Lm.It) (w : World) (hc : w.cell? ⟨b, 7, none⟩ = some (.slice ia il ic)) (hi : IRow w ia ic li) (hil : li.length = il) (hn : il ≤ 1000000000) (hp : (Lm.dots li).Pairwise Dt.lt) :
  Calls Try.prog 65 #[dotV ((r, i), s), .pointer (some ⟨b, 0, none⟩)] w fun e w' => e = .returned (.bool (Lm.hasI li ((r, i), s))) ∧ Below w.heap.size w w' := by
 have HBox := Lib.hid (below_box w #[.int .u8 (r : Int), .int .u32 (i : Int), .int .u64 (s : Int)] 40)
 have hb := World.block_lt_of_cell? w _ hc
 have hc5 := (HBox.out.cell (p := ⟨b, 7, none⟩) hb).trans hc
 have HI := Lib.hid hi; have HIl := Lib.hid hil; have HP := Lib.hid hp
 clear hi hil hp hc hb
 go_enter Try.func65, Try.ntmps65
 go_wp2_with fail
 refine (hasItem_any ia il ic r i s li _ (HI.out.below HBox.out) HIl.out hn HP.out).mono ?_
 rintro e w1 ⟨rfl, hb⟩
 have HB := Lib.hid (HBox.out.trans (hb.mono HBox.out.size)); clear hb
 go_wp2_with fail
 go_ret
 exact ⟨rfl, HB.out⟩
set_option maxHeartbeats 2000000 in
theorem maySet_any (kk : Nat) (n : Int) (t r i s : Nat) (x : ByteArray) (ia : Option Addr) (il ic : Nat) (da : Option Addr) (dl dc : Nat) (li : List Lm.It) (ld : List Dt.Dot) (W : World) (hi : IRow W ia ic li) (hil : li.length = il) (hd : VRow W da dc ld) (hdl : ld.length = dl) (hn : il ≤ 1000000000) :
  Calls Try.prog 54 #[leafV kk n t r i s x ia il ic da dl dc] W fun e w' => e = .returned (.bool (Lm.maySet ⟨kk, n, t, ((r, i), s), x, li, ld⟩)) ∧ Below W.heap.size W w' := by
 have HBox := Lib.hid (below_box W #[.int .u8 (kk : Int), .int .i64 n, .int .u64 (t : Int), .int .u8 (r : Int), .int .u32 (i : Int), .int .u64 (s : Int), .string x, .slice ia il ic, .slice da dl dc] 44)
 have HI := Lib.hid hi; have HIl := Lib.hid hil; have HD := Lib.hid hd; have HDl := Lib.hid hdl
 clear hi hil hd hdl
 cases hm : Lm.mayItems 0 0 li
 ·have HM := Lib.hid hm; clear hm
  go_enter Try.func54, Try.ntmps54
  go_wp2_with fail
  refine (mayItems_any ia il ic 0 0 li _ (HI.out.below HBox.out) HIl.out).mono ?_
  rintro e w1 ⟨rfl, hb⟩
  rw [HM.out]
  have HB := Lib.hid (HBox.out.trans (hb.mono HBox.out.size)); clear hb
  go_wp2_with fail
  go_ret
  exact ⟨ret_bool (by simp [Lm.maySet, HM.out]), HB.out⟩
 have HM := Lib.hid hm; clear hm
 cases hm : Lm.mayTombs ld
 ·have HT := Lib.hid hm; clear hm
  go_enter Try.func54, Try.ntmps54
  go_wp2_with fail
  refine (mayItems_any ia il ic 0 0 li _ (HI.out.below HBox.out) HIl.out).mono ?_
  rintro e w1 ⟨rfl, hb⟩
  obtain ⟨c0, c1, c2, c3, c4, c5, c6, c7, c8⟩ := leafcells hb
  rw [HM.out]
  have HB := Lib.hid (HBox.out.trans (hb.mono HBox.out.size)); clear hb
  go_wp2_with fail
  refine (mayTombs_any da dl dc ld _ (HD.out.below HB.out) HDl.out).mono ?_
  rintro e w2 ⟨rfl, hb⟩
  rw [HT.out]
  have HB2 := Lib.hid (HB.out.trans (hb.mono HB.out.size)); clear hb c0 c1 c2 c3 c4 c5 c6 c7 c8
  go_wp2_with fail
  go_ret
  exact ⟨ret_bool (by simp [Lm.maySet, HT.out]), HB2.out⟩
 have HT := Lib.hid hm; clear hm
 have hp : (Lm.dots li).Pairwise Dt.lt := by
  obtain ⟨h1, h2⟩ := Lm.mayItems_iff.1 HM.out
  exact Lm.dots_of_asc h2 fun y hy => by have := (Lm.mayI_iff.1 (h1 y hy)); omega
 have HP := Lib.hid hp; clear hp
 go_enter Try.func54, Try.ntmps54
 go_wp2_with fail
 refine (mayItems_any ia il ic 0 0 li _ (HI.out.below HBox.out) HIl.out).mono ?_
 rintro e w1 ⟨rfl, hb⟩
 obtain ⟨c0, c1, c2, c3, c4, c5, c6, c7, c8⟩ := leafcells hb
 rw [HM.out]
 have hs1 := hb.size
 have HB := Lib.hid (HBox.out.trans (hb.mono HBox.out.size)); clear hb
 go_wp2_with fail
 refine (mayTombs_any da dl dc ld _ (HD.out.below HB.out) HDl.out).mono ?_
 rintro e w2 ⟨rfl, hb⟩
 have hlt : W.heap.size < w1.heap.size := by simp at hs1; omega
 have e5 := (hb.cell (p := ⟨W.heap.size, 7, none⟩) hlt).trans c7
 have e8 := (hb.cell (p := ⟨W.heap.size, 8, none⟩) hlt).trans c8
 rw [HT.out]
 have HB2 := Lib.hid (HB.out.trans (hb.mono HB.out.size)); clear c0 c1 c2 c3 c4 c5 c6 c7 c8
 have hlt2 : W.heap.size < w2.heap.size := Nat.lt_of_lt_of_le hlt hb.size
 clear hb
 go_wp2_with fail
 refine (containsD_any da dl dc 65 #[.pointer (some ⟨W.heap.size, 0, none⟩)] (fun d => Lm.hasI li d) ld _ (HD.out.below HB2.out) HDl.out enters_maySet (fun k d w hd hb => ?_)).mono ?_
 ·exact maySetF_any d.1.1 d.1.2 d.2 W.heap.size ia il ic li w ((hb.cell (p := ⟨W.heap.size, 7, none⟩) hlt2).trans e5) (HI.out.below (HB2.out.trans (hb.mono HB2.out.size))) HIl.out hn HP.out
 rintro e w3 ⟨rfl, hb⟩
 have HB3 := Lib.hid (HB2.out.trans (hb.mono HB2.out.size)); clear hb e5 e8
 go_wp2_with fail
 go_ret
 exact ⟨ret_bool (by simp [Lm.maySet, HM.out, HT.out]), HB3.out⟩
set_option maxHeartbeats 2000000 in
theorem mayLog_any (kk : Nat) (n : Int) (t r i s : Nat) (x : ByteArray) (ia : Option Addr) (il ic : Nat) (da : Option Addr) (dl dc : Nat) (li : List Lm.It) (ld : List Dt.Dot) (W : World) (hi : IRow W ia ic li) (hil : li.length = il) (hd : VRow W da dc ld) (hdl : ld.length = dl) (hn : il ≤ 1000000000) :
  Calls Try.prog 55 #[leafV kk n t r i s x ia il ic da dl dc] W fun e w' => e = .returned (.bool (Lm.mayLog ⟨kk, n, t, ((r, i), s), x, li, ld⟩)) ∧ Below W.heap.size W w' := by
 have HBox := Lib.hid (below_box W #[.int .u8 (kk : Int), .int .i64 n, .int .u64 (t : Int), .int .u8 (r : Int), .int .u32 (i : Int), .int .u64 (s : Int), .string x, .slice ia il ic, .slice da dl dc] 44)
 have HI := Lib.hid hi; have HIl := Lib.hid hil; have HD := Lib.hid hd; have HDl := Lib.hid hdl
 clear hi hil hd hdl
 cases hm : Lm.mayItems 1 1099511627776 li
 ·have HM := Lib.hid hm; clear hm
  go_enter Try.func55, Try.ntmps55
  go_wp2_with fail
  refine (mayItems_any ia il ic 1 1099511627776 li _ (HI.out.below HBox.out) HIl.out).mono ?_
  rintro e w1 ⟨rfl, hb⟩
  rw [HM.out]
  have HB := Lib.hid (HBox.out.trans (hb.mono HBox.out.size)); clear hb
  go_wp2_with fail
  go_ret
  exact ⟨ret_bool (by simp [Lm.mayLog, HM.out]), HB.out⟩
 have HM := Lib.hid hm; clear hm
 go_enter Try.func55, Try.ntmps55
 go_wp2_with fail
 refine (mayItems_any ia il ic 1 1099511627776 li _ (HI.out.below HBox.out) HIl.out).mono ?_
 rintro e w1 ⟨rfl, hb⟩
 obtain ⟨c0, c1, c2, c3, c4, c5, c6, c7, c8⟩ := leafcells hb
 rw [HM.out]
 have HB := Lib.hid (HBox.out.trans (hb.mono HBox.out.size)); clear hb
 go_wp2_with fail
 refine (noneTwice_any ia il ic li _ (HI.out.below HB.out) HIl.out hn).mono ?_
 rintro e w2 ⟨rfl, hb⟩
 have HB2 := Lib.hid (HB.out.trans (hb.mono HB.out.size)); clear hb c0 c1 c2 c3 c4 c5 c6 c7 c8
 go_wp2_with fail
 go_ret
 exact ⟨ret_bool (by simp [Lm.mayLog, HM.out]), HB2.out⟩
end Go.Proofs.Ytplafpchgfjomaa
