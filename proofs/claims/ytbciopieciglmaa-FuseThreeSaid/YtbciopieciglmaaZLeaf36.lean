import Derived.Test.YtbciopieciglmaaZLeaf35
import Derived.Test.YtbciopieciglmaaZOp7
import Derived.Test.YtbciopieciglmaaZBuf
import Derived.Test.YtbciopieciglmaaZThreeMath
namespace Go.Proofs.Ytbciopieciglmaa
open Go.RowKit Go.Buf Go.LB Go.Lib
set_option linter.unusedSimpArgs false
set_option linter.unusedVariables false
theorem filter_buried {li : List Lm.It} {ld d : List Dt.Dot} (h : ∀ x ∈ li, Lm.hasD ld x.2.1 = false) : li.filter (fun y => !Lm.hasD (d.foldl Lm.bury ld) y.2.1) = li.filter (fun y => !Lm.hasD d y.2.1) := by
 apply List.filter_congr
 intro x hx
 have h1 := h x hx
 have e : Lm.hasD (d.foldl Lm.bury ld) x.2.1 = Lm.hasD d x.2.1 := by
  apply Lm.bool_eq
  rw [Lm.hasD_iff, Lm.hasD_iff, Lm.buried_mem]
  constructor
  ·rintro (h2 | h2)
   ·rw [Lm.hasD_iff.2 h2] at h1; cases h1
   ·exact h2
  ·exact Or.inr
 rw [e]
set_option maxHeartbeats 1600000 in
theorem refapply_k (kk : Nat) (n : Int) (t r i s : Nat) (x : ByteArray) (ia : Option Addr) (il ic : Nat) (da : Option Addr) (dl dc : Nat) (li : List Lm.It) (ld : List Dt.Dot) (r' i' s' tm k : Nat) (pa : Option Addr) (pl pc : Nat) (n' : Int) (t' : ByteArray) (ea : Option Addr) (el ec : Nat) (p : List ByteArray) (d : List Dt.Dot) (W : World) (K : Nat → Prop) (hKx : ∀ b, K b → b < W.heap.size) (hiK : ∀ w2, Chg K W w2 → IRow w2 ia ic li) (hdK : ∀ w2, Chg K W w2 → VRow w2 da dc ld) (hi : IRow W ia ic li) (hil : li.length = il) (hd : VRow W da dc ld) (hdl : ld.length = dl) (hx : x.size ≤ 9223372036854775807) (hn : il ≤ 1000000) (hn2 : dl ≤ 1000000) (hk256 : k < 256) (hp : SRow W pa pc p) (hpl : p.length = pl) (hed : VRow W ea ec d) (hel : d.length = el)
  (hn3 : dl + el ≤ 1000000) (hod : Dt.okD ((r', i'), s')) (hot : t'.size ≤ 9223372036854775807) :
  Calls Try.prog 10 #[leafV kk n t r i s x ia il ic da dl dc, evV r' i' s' tm k pa pl pc n' t' ea el ec] W fun e w' => REK K w' (Lm.apply ⟨kk, n, t, ((r, i), s), x, li, ld⟩ ⟨((r', i'), s'), tm, ⟨k, p, n', t', d⟩⟩).1 (Lm.apply ⟨kk, n, t, ((r, i), s), x, li, ld⟩ ⟨((r', i'), s'), tm, ⟨k, p, n', t', d⟩⟩).2 e ∧ Below W.heap.size W w' := by
 unfold Lm.apply
 cases hmay : Lm.may ⟨kk, n, t, ((r, i), s), x, li, ld⟩
 ·rw [if_pos (Or.inl rfl)]
  exact refapply_a kk n t r i s x ia il ic da dl dc li ld r' i' s' tm k pa pl pc n' t' ea el ec p d W K hKx hiK hdK hi hil hd hdl hx hn hn2 hk256 hp hpl hed hel hmay
 cases hev : Om.mayEvent ⟨((r', i'), s'), tm, ⟨k, p, n', t', d⟩⟩
 ·rw [if_pos (Or.inr rfl)]
  exact refapply_b kk n t r i s x ia il ic da dl dc li ld r' i' s' tm k pa pl pc n' t' ea el ec p d W K hKx hiK hdK hi hil hd hdl hx hn hn2 hk256 hp hpl hed hel hmay hev
 rw [if_neg (by simp)]
 by_cases hty : Om.type k = kk
 case neg =>
  rw [if_pos hty]
  exact refapply_c kk n t r i s x ia il ic da dl dc li ld r' i' s' tm k pa pl pc n' t' ea el ec p d W K hKx hiK hdK hi hil hd hdl hx hn hn2 hk256 hp hpl hed hel hmay hev hty
 rw [if_neg (fun h => h hty)]
 have htm : 1 ≤ tm ∧ tm ≤ 1099511627776 := by
  unfold Om.mayEvent at hev
  simp at hev
  exact ⟨hev.1.1.2, hev.1.2⟩
 have hk : k = 1 ∨ k = 2 ∨ k = 3 ∨ k = 4 ∨ k = 5 := by
  have h0 : kk ≠ 0 := fun e => by rw [Lm.may0 (by simp [e])] at hmay; cases hmay
  unfold Om.type at hty
  split at hty <;> (try omega)
  split at hty <;> (try omega)
  split at hty <;> (try omega)
  split at hty <;> (try omega)
  split at hty <;> omega
 rcases hk with hk | hk | hk | hk | hk
 ·have e : Lm.applied ⟨kk, n, t, ((r, i), s), x, li, ld⟩ ⟨((r', i'), s'), tm, ⟨k, p, n', t', d⟩⟩ = ⟨kk, Lm.add64 n n', t, ((r, i), s), x, li, ld⟩ := by simp [Lm.applied, hk]
  rw [e]
  exact refapply_add kk n t r i s x ia il ic da dl dc li ld r' i' s' tm k pa pl pc n' t' ea el ec p d W K hKx hiK hdK hi hil hd hdl hx hn hn2 hk256 hp hpl hed hel hmay hev hty hk
 ·by_cases ht : t = 0
  ·have ha : Lm.ahead t ((r, i), s) tm ((r', i'), s') = true := Lm.ahead_iff.2 (Or.inl (by omega))
   have e : Lm.applied ⟨kk, n, t, ((r, i), s), x, li, ld⟩ ⟨((r', i'), s'), tm, ⟨k, p, n', t', d⟩⟩ = ⟨kk, n, tm, ((r', i'), s'), t', li, ld⟩ := by simp [Lm.applied, hk, ha]
   rw [e]
   exact refapply_set0 kk n t r i s x ia il ic da dl dc li ld r' i' s' tm k pa pl pc n' t' ea el ec p d W K hKx hiK hdK hi hil hd hdl hx hn hn2 hk256 hp hpl hed hel hmay hev hty hk ht
  ·cases ha : Lm.ahead t ((r, i), s) tm ((r', i'), s')
   ·have e : Lm.applied ⟨kk, n, t, ((r, i), s), x, li, ld⟩ ⟨((r', i'), s'), tm, ⟨k, p, n', t', d⟩⟩ = ⟨kk, n, t, ((r, i), s), x, li, ld⟩ := by simp [Lm.applied, hk, ha]
    rw [e]
    exact refapply_set2 kk n t r i s x ia il ic da dl dc li ld r' i' s' tm k pa pl pc n' t' ea el ec p d W K hKx hiK hdK hi hil hd hdl hx hn hn2 hk256 hp hpl hed hel hmay hev hty hk ht ha
   ·have e : Lm.applied ⟨kk, n, t, ((r, i), s), x, li, ld⟩ ⟨((r', i'), s'), tm, ⟨k, p, n', t', d⟩⟩ = ⟨kk, n, tm, ((r', i'), s'), t', li, ld⟩ := by simp [Lm.applied, hk, ha]
    rw [e]
    exact refapply_set1 kk n t r i s x ia il ic da dl dc li ld r' i' s' tm k pa pl pc n' t' ea el ec p d W K hKx hiK hdK hi hil hd hdl hx hn hn2 hk256 hp hpl hed hel hmay hev hty hk ht ha
 ·have hz : okI ((0 : Nat), ((r', i'), s'), t') := ⟨by show 0 < 18446744073709551616; decide, hod, hot⟩
  cases hD : Lm.hasD ld ((r', i'), s')
  ·cases hI : Lm.hasI li ((r', i'), s')
   ·have e : Lm.applied ⟨kk, n, t, ((r, i), s), x, li, ld⟩ ⟨((r', i'), s'), tm, ⟨k, p, n', t', d⟩⟩ = ⟨kk, n, t, ((r, i), s), x, Lm.lay li (0, ((r', i'), s'), t'), ld⟩ := by simp [Lm.applied, hk, hD, hI]
    rw [e]
    exact refapply_put2 kk n t r i s x ia il ic da dl dc li ld r' i' s' tm k pa pl pc n' t' ea el ec p d W K hKx hiK hdK hi hil hd hdl hx hn hn2 hk256 hp hpl hed hel hmay hev hty hk hD hz hI
   ·have e : Lm.applied ⟨kk, n, t, ((r, i), s), x, li, ld⟩ ⟨((r', i'), s'), tm, ⟨k, p, n', t', d⟩⟩ = ⟨kk, n, t, ((r, i), s), x, li, ld⟩ := by simp [Lm.applied, hk, hI]
    rw [e]
    exact refapply_put1 kk n t r i s x ia il ic da dl dc li ld r' i' s' tm k pa pl pc n' t' ea el ec p d W K hKx hiK hdK hi hil hd hdl hx hn hn2 hk256 hp hpl hed hel hmay hev hty hk hD hz hI
  ·have e : Lm.applied ⟨kk, n, t, ((r, i), s), x, li, ld⟩ ⟨((r', i'), s'), tm, ⟨k, p, n', t', d⟩⟩ = ⟨kk, n, t, ((r, i), s), x, li, ld⟩ := by simp [Lm.applied, hk, hD]
   rw [e]
   exact refapply_put0 kk n t r i s x ia il ic da dl dc li ld r' i' s' tm k pa pl pc n' t' ea el ec p d W K hKx hiK hdK hi hil hd hdl hx hn hn2 hk256 hp hpl hed hel hmay hev hty hk hD
 ·have hkk : kk = 3 := by rw [hk] at hty; exact hty.symm
  obtain ⟨_, _, _, _, _, _, hno⟩ := (Lm.may3 (l := ⟨kk, n, t, ((r, i), s), x, li, ld⟩) hkk).1 hmay
  have e : Lm.applied ⟨kk, n, t, ((r, i), s), x, li, ld⟩ ⟨((r', i'), s'), tm, ⟨k, p, n', t', d⟩⟩ = ⟨kk, n, t, ((r, i), s), x, li.filter (fun y => !Lm.hasD (d.foldl Lm.bury ld) y.2.1), d.foldl Lm.bury ld⟩ := by rw [filter_buried hno]; simp [Lm.applied, hk]
  rw [e]
  exact refapply_drop kk n t r i s x ia il ic da dl dc li ld r' i' s' tm k pa pl pc n' t' ea el ec p d W K hKx hiK hdK hi hil hd hdl hx hn hn2 hk256 hp hpl hed hel hmay hev hty hk hn3
 ·have hz : okI (tm, ((r', i'), s'), t') := ⟨by omega, hod, hot⟩
  cases hI : Lm.hasI li ((r', i'), s')
  ·have e : Lm.applied ⟨kk, n, t, ((r, i), s), x, li, ld⟩ ⟨((r', i'), s'), tm, ⟨k, p, n', t', d⟩⟩ = ⟨kk, n, t, ((r, i), s), x, Lm.lay li (tm, ((r', i'), s'), t'), ld⟩ := by simp [Lm.applied, hk, hI]
   rw [e]
   exact refapply_say2 kk n t r i s x ia il ic da dl dc li ld r' i' s' tm k pa pl pc n' t' ea el ec p d W K hKx hiK hdK hi hil hd hdl hx hn hn2 hk256 hp hpl hed hel hmay hev hty hk hz hI
  ·have e : Lm.applied ⟨kk, n, t, ((r, i), s), x, li, ld⟩ ⟨((r', i'), s'), tm, ⟨k, p, n', t', d⟩⟩ = ⟨kk, n, t, ((r, i), s), x, li, ld⟩ := by simp [Lm.applied, hk, hI]
   rw [e]
   exact refapply_say1 kk n t r i s x ia il ic da dl dc li ld r' i' s' tm k pa pl pc n' t' ea el ec p d W K hKx hiK hdK hi hil hd hdl hx hn hn2 hk256 hp hpl hed hel hmay hev hty hk hz hI
end Go.Proofs.Ytbciopieciglmaa
namespace Go.Proofs.Ytbciopieciglmaa
open Go.RowKit Go.Buf Go.LB
set_option linter.unusedSimpArgs false
set_option linter.unusedVariables false
structure ER where
  r : Nat
  i : Nat
  s : Nat
  tm : Nat
  k : Nat
  pa : Option Addr
  pl : Nat
  pc : Nat
  n : Int
  t : ByteArray
  da : Option Addr
  dl : Nat
  dc : Nat
  p : List ByteArray
  d : List Dt.Dot
def ER.e (x : ER) : Om.E := ⟨((x.r, x.i), x.s), x.tm, ⟨x.k, x.p, x.n, x.t, x.d⟩⟩
def ER.ok (w : World) (x : ER) : Prop := Dt.okD ((x.r, x.i), x.s) ∧ x.tm ≤ 18446744073709551615 ∧ x.k < 256 ∧ (-9223372036854775808 ≤ x.n ∧ x.n ≤ 9223372036854775807) ∧ x.t.size ≤ 9223372036854775807 ∧ SRow w x.pa x.pc x.p ∧ x.p.length = x.pl ∧ VRow w x.da x.dc x.d ∧ x.d.length = x.dl
theorem ER.ok.below {w w' : World} {x : ER} (h : x.ok w) (hb : Below w.heap.size w w') : x.ok w' := by
 obtain ⟨a, b, c, d, e, f, g, i, j⟩ := h
 exact ⟨a, b, c, d, e, f.below hb, g, i.below hb, j⟩
def encE (x : ER) : List Value := [.int .u8 (x.r : Int), .int .u32 (x.i : Int), .int .u64 (x.s : Int), .int .u64 (x.tm : Int), .int .u8 (x.k : Int), .slice x.pa x.pl x.pc, .int .i64 x.n, .string x.t, .slice x.da x.dl x.dc]
def ERow (w : World) (a : Option Addr) (cap : Nat) (l : List ER) : Prop :=
 l.length ≤ cap ∧ cap ≤ 9223372036854775807 ∧ (∀ x ∈ l, x.ok w) ∧ (a = none → cap = 0) ∧
 ∀ i x, l[i]? = some x → ∃ p, a = some p ∧ ∀ j v, (encE x)[j]? = some v → w.cell? (p.add (i * 9 + j)) = some v
theorem ERow.le {w : World} {a : Option Addr} {cap : Nat} {l : List ER} (h : ERow w a cap l) : l.length ≤ cap := h.1
theorem ERow.cap {w : World} {a : Option Addr} {cap : Nat} {l : List ER} (h : ERow w a cap l) : cap ≤ 9223372036854775807 := h.2.1
theorem ERow.ok {w : World} {a : Option Addr} {cap : Nat} {l : List ER} (h : ERow w a cap l) : ∀ x ∈ l, x.ok w := h.2.2.1
theorem ERow.below {w w' : World} {a : Option Addr} {cap : Nat} {l : List ER} (h : ERow w a cap l) (hb : Below w.heap.size w w') : ERow w' a cap l := by
 refine ⟨h.1, h.2.1, fun x hx => (h.2.2.1 x hx).below hb, h.2.2.2.1, fun i d hd => ?_⟩
 obtain ⟨p, hp, h1⟩ := h.2.2.2.2 i d hd
 exact ⟨p, hp, fun j v hv => (hb.cell (World.block_lt_of_cell? _ _ (h1 j v hv))).trans (h1 j v hv)⟩
theorem ERow.nil (w : World) : ERow w none 0 [] := ⟨by simp, by omega, by simp, by simp, by simp⟩
theorem ERow.at {w : World} {a : Option Addr} {cap : Nat} {l : List ER} (h : ERow w a cap l) (hl : 0 < l.length) :
  ∃ b off, a = some ⟨b, off, none⟩ ∧ b < w.heap.size ∧ ∀ i x, l[i]? = some x → w.cell? ⟨b, off + i * 9, none⟩ = some (.int .u8 (x.r : Int)) ∧ w.cell? ⟨b, off + i * 9 + 1, none⟩ = some (.int .u32 (x.i : Int)) ∧ w.cell? ⟨b, off + i * 9 + 2, none⟩ = some (.int .u64 (x.s : Int)) ∧ w.cell? ⟨b, off + i * 9 + 3, none⟩ = some (.int .u64 (x.tm : Int)) ∧ w.cell? ⟨b, off + i * 9 + 4, none⟩ = some (.int .u8 (x.k : Int)) ∧ w.cell? ⟨b, off + i * 9 + 5, none⟩ = some (.slice x.pa x.pl x.pc) ∧ w.cell? ⟨b, off + i * 9 + 6, none⟩ = some (.int .i64 x.n) ∧ w.cell? ⟨b, off + i * 9 + 7, none⟩ = some (.string x.t) ∧ w.cell? ⟨b, off + i * 9 + 8, none⟩ = some (.slice x.da x.dl x.dc) := by
 obtain ⟨p, hp, hc⟩ := h.2.2.2.2 0 l[0] (by simp [hl])
 have hc0 := hc 0 _ rfl
 have hs := World.cell?_spot hc0
 obtain ⟨b, off, spot⟩ := p
 have hspot : spot = none := by simpa [Addr.add] using hs
 subst hspot
 refine ⟨b, off, hp, by simpa [Addr.add] using World.block_lt_of_cell? w _ hc0, fun i d hd => ?_⟩
 obtain ⟨q, hq, h1⟩ := h.2.2.2.2 i d hd
 rw [hp] at hq
 obtain rfl := Option.some.inj hq
 have key : ∀ j v, (encE d)[j]? = some v → w.cell? ⟨b, off + i * 9 + j, none⟩ = some v := fun j v hv => by
  have := h1 j v hv
  rw [Addr.add_mid] at this
  rw [Nat.add_assoc]; exact this
 exact ⟨key 0 _ rfl, key 1 _ rfl, key 2 _ rfl, key 3 _ rfl, key 4 _ rfl, key 5 _ rfl, key 6 _ rfl, key 7 _ rfl, key 8 _ rfl⟩
structure LR where
  a : Option Addr
  n : Nat
  c : Nat
  l : List ER
def LR.ok (w : World) (x : LR) : Prop := ERow w x.a x.c x.l ∧ x.l.length = x.n
theorem LR.ok.below {w w' : World} {x : LR} (h : x.ok w) (hb : Below w.heap.size w w') : x.ok w' := ⟨h.1.below hb, h.2⟩
def evs (ls : List LR) : List Om.E := ls.flatMap fun x => x.l.map ER.e
theorem evs_app (a b : List LR) : evs (a ++ b) = evs a ++ evs b := by unfold evs; rw [List.flatMap_append]
theorem evs_one (x : LR) : evs [x] = x.l.map ER.e := by simp [evs]
end Go.Proofs.Ytbciopieciglmaa
namespace Go.Proofs.Ytbciopieciglmaa
open Go.RowKit Go.Buf Go.LB Go.Lib
set_option linter.unusedSimpArgs false
set_option linter.unusedVariables false
theorem new_eq (k : Nat) : Lm.new k = ⟨newK k, 0, 0, ((0, 0), 0), ⟨#[]⟩, [], []⟩ := by
 unfold Lm.new newK
 split <;> rfl
theorem lay_len (l : List Lm.It) (x : Lm.It) : (Lm.lay l x).length = l.length + 1 := by
 unfold Lm.lay
 have h := congrArg List.length (List.takeWhile_append_dropWhile (p := fun y => Lm.aheadI y x) (l := l))
 rw [List.length_append] at h
 rw [List.length_append, List.length_cons]; omega
theorem applied_len (l : Lm.L) (e : Om.E) : (Lm.applied l e).items.length ≤ l.items.length + 1 ∧ (Lm.applied l e).tombs.length ≤ l.tombs.length + e.op.dots.length := by
 unfold Lm.applied
 split
 ·exact ⟨Nat.le_succ _, Nat.le_add_right _ _⟩
 split
 ·split <;> exact ⟨Nat.le_succ _, Nat.le_add_right _ _⟩
 split
 ·split
  ·exact ⟨Nat.le_succ _, Nat.le_add_right _ _⟩
  ·exact ⟨Nat.le_of_eq (lay_len _ _), Nat.le_add_right _ _⟩
 split
 ·exact ⟨Nat.le_trans (List.length_filter_le _ _) (Nat.le_succ _), by have := buried_len e.op.dots l.tombs; simp only; omega⟩
 ·split
  ·exact ⟨Nat.le_succ _, Nat.le_add_right _ _⟩
  ·exact ⟨Nat.le_of_eq (lay_len _ _), Nat.le_add_right _ _⟩
theorem applied_text (M : Nat) (l : Lm.L) (e : Om.E) (h : l.text.size ≤ M) (g : e.op.text.size ≤ M) : (Lm.applied l e).text.size ≤ M := by
 unfold Lm.applied
 repeat' split
 all_goals first | exact h | exact g
theorem run_len (M : Nat) : ∀ {es : List Om.E} {l m : Lm.L}, Lm.run l es = some m → (∀ e ∈ es, e.op.dots.length ≤ 100 ∧ e.op.text.size ≤ M) → l.text.size ≤ M → m.items.length ≤ l.items.length + es.length ∧ m.tombs.length ≤ l.tombs.length + 100 * es.length ∧ m.text.size ≤ M
 | [], l, m, h, _, hM => by simp [Lm.run] at h; subst h; exact ⟨by simp, by simp, hM⟩
 | e :: es, l, m, h, hd, hM => by
  unfold Lm.run at h
  by_cases h1 : (Lm.apply l e).2 = 0
  ·rw [if_pos h1] at h
   obtain ⟨_, _, c⟩ := Lm.apply_ok h1
   rw [c] at h
   have he := hd e (by simp)
   obtain ⟨a1, a2, a3⟩ := run_len M h (fun x hx => hd x (by simp [hx])) (applied_text M l e hM he.2)
   obtain ⟨b1, b2⟩ := applied_len l e
   rw [List.length_cons]
   exact ⟨by omega, by omega, a3⟩
  ·rw [if_neg h1] at h; cases h
theorem run_snoc : ∀ {es : List Om.E} {l m : Lm.L} {e : Om.E}, Lm.run l es = some m → (Lm.apply m e).2 = 0 → Lm.run l (es ++ [e]) = some (Lm.apply m e).1
 | [], l, m, e, h, g => by
  simp only [Lm.run, Option.some.injEq] at h
  subst h
  simp only [List.nil_append, Lm.run]
  rw [if_pos g]
 | x :: es, l, m, e, h, g => by
  unfold Lm.run at h
  rw [List.cons_append]
  unfold Lm.run
  by_cases h1 : (Lm.apply l x).2 = 0
  ·rw [if_pos h1] at h ⊢
   exact run_snoc h g
  ·rw [if_neg h1] at h; cases h
theorem apply_err (l : Lm.L) (e : Om.E) : (Lm.apply l e).2 = 0 ∨ (Lm.apply l e).2 = 2 ∨ (Lm.apply l e).2 = 15 := by
 unfold Lm.apply
 split
 ·exact Or.inr (Or.inl rfl)
 split
 ·exact Or.inr (Or.inr rfl)
 ·exact Or.inl rfl
theorem chgSet9 {S : Nat → Prop} {w w1 : World} (h : Chg S w w1) {b : Nat} (hb : w.heap.size ≤ b ∨ S b) (x0 x1 x2 x3 x4 x5 x6 x7 x8 : Value) : Chg S w (((((((((w1.setCell ⟨b, 0, none⟩ x0).setCell ⟨b, 1, none⟩ x1).setCell ⟨b, 2, none⟩ x2).setCell ⟨b, 3, none⟩ x3).setCell ⟨b, 4, none⟩ x4).setCell ⟨b, 5, none⟩ x5).setCell ⟨b, 6, none⟩ x6).setCell ⟨b, 7, none⟩ x7).setCell ⟨b, 8, none⟩ x8) :=
 ((((((((h.set hb 0 x0).set hb 1 x1).set hb 2 x2).set hb 3 x3).set hb 4 x4).set hb 5 x5).set hb 6 x6).set hb 7 x7).set hb 8 x8
def SE (w : World) (L : Lm.L) (ok : Bool) (e : Ending) : Prop := ∃ ia ic da dc, e = .returned (.tuple #[.agg #[.int .u8 (L.kind : Int), .int .i64 L.n, .int .u64 (L.time : Int), .int .u8 (L.dot.1.1 : Int), .int .u32 (L.dot.1.2 : Int), .int .u64 (L.dot.2 : Int), .string L.text, .slice ia L.items.length ic, .slice da L.tombs.length dc], .bool ok]) ∧ IRow w ia ic L.items ∧ VRow w da dc L.tombs
abbrev lcells (kd : Nat) (n : Int) (t r i s : Nat) (x : ByteArray) (ia : Option Addr) (il ic : Nat) (da : Option Addr) (dl dc : Nat) : List Value := [.int .u8 (kd : Int), .int .i64 n, .int .u64 (t : Int), .int .u8 (r : Int), .int .u32 (i : Int), .int .u64 (s : Int), .string x, .slice ia il ic, .slice da dl dc]
def SM (W w : World) (b kk : Nat) (es : List Om.E) : Prop := ∃ (kd : Nat) (n : Int) (t r i s : Nat) (x : ByteArray) (ia : Option Addr) (il ic : Nat) (da : Option Addr) (dl dc : Nat) (li : List Lm.It) (ld : List Dt.Dot),
 Lm.run (Lm.new kk) es = some ⟨kd, n, t, ((r, i), s), x, li, ld⟩ ∧ li.length = il ∧ ld.length = dl ∧ Blk w b 40 (lcells kd n t r i s x ia il ic da dl dc) ∧
 (∀ w2, Chg (fun k => k = W.heap.size ∨ k = b) w w2 → IRow w2 ia ic li) ∧ (∀ w2, Chg (fun k => k = W.heap.size ∨ k = b) w w2 → VRow w2 da dc ld) ∧
 Blk w W.heap.size 40 (lcells 0 0 0 0 0 0 ⟨#[]⟩ none 0 0 none 0 0) ∧ Below W.heap.size W w ∧ W.heap.size < b
theorem SM.start {W w1 : World} (kk : Nat) (hb : Below (W.alloc (.cells #[.int .u8 0, .int .i64 0, .int .u64 0, .int .u8 0, .int .u32 0, .int .u64 0, .string ⟨#[]⟩, .slice none 0 0, .slice none 0 0] 40)).heap.size (W.alloc (.cells #[.int .u8 0, .int .i64 0, .int .u64 0, .int .u8 0, .int .u32 0, .int .u64 0, .string ⟨#[]⟩, .slice none 0 0, .slice none 0 0] 40)) w1) :
  SM W (w1.alloc (.cells #[.int .u8 (newK kk : Int), .int .i64 0, .int .u64 0, .int .u8 0, .int .u32 0, .int .u64 0, .string ⟨#[]⟩, .slice none 0 0, .slice none 0 0] 40)) w1.heap.size kk [] := by
 have hs := hb.size
 rw [World.size_alloc] at hs
 have h4 := ((Blk.new W #[.int .u8 0, .int .i64 0, .int .u64 0, .int .u8 0, .int .u32 0, .int .u64 0, .string ⟨#[]⟩, .slice none 0 0, .slice none 0 0] 40).below hb).below ((Below.refl _ w1).alloc (Nat.le_refl _) (.cells #[.int .u8 (newK kk : Int), .int .i64 0, .int .u64 0, .int .u8 0, .int .u32 0, .int .u64 0, .string ⟨#[]⟩, .slice none 0 0, .slice none 0 0] 40))
 have hB : Below W.heap.size W w1 := ((Below.refl _ _).alloc (Nat.le_refl _) _).trans (hb.mono (by simp))
 refine ⟨newK kk, 0, 0, 0, 0, 0, ⟨#[]⟩, none, 0, 0, none, 0, 0, [], [], ?_, rfl, rfl, Blk.new _ _ _, fun w2 _ => IRow.nil _, fun w2 _ => VRow.nil _, h4, hB.alloc hB.size _, by omega⟩
 rw [new_eq]; rfl
theorem ls_dots {W : World} {ls : List LR} (hok : ∀ x ∈ ls, x.ok W) (hn : ∀ x ∈ ls, x.n ≤ 12) (hd : ∀ x ∈ ls, ∀ y ∈ x.l, y.dl ≤ 100) : ∀ e ∈ evs ls, e.op.dots.length ≤ 100 ∧ e.op.text.size ≤ 9223372036854775807 := by
 intro e he
 unfold evs at he
 rw [List.mem_flatMap] at he
 obtain ⟨x, hx, h⟩ := he
 obtain ⟨y, hy, rfl⟩ := List.mem_map.1 h
 obtain ⟨_, _, _, _, h5, _, _, _, h9⟩ := (hok x hx).1.ok y hy
 exact ⟨by have := hd x hx y hy; show y.d.length ≤ 100; omega, h5⟩
theorem ls_len : ∀ {ls : List LR}, (∀ x ∈ ls, x.l.length = x.n ∧ x.n ≤ 12) → (evs ls).length ≤ 12 * ls.length
 | [], _ => by simp [evs]
 | x :: ls, h => by
  have h1 := h x (by simp)
  have h2 := ls_len (ls := ls) (fun y hy => h y (by simp [hy]))
  have e : evs (x :: ls) = x.l.map ER.e ++ evs ls := by simp [evs]
  rw [e, List.length_append, List.length_map, List.length_cons]; omega
theorem SM.next {W w2 : World} {b kk : Nat} {es : List Om.E} {e : Om.E} {m : Lm.L} {kd : Nat} {n : Int} {t r i s : Nat} {x : ByteArray} {ia : Option Addr} {il ic : Nat} {da : Option Addr} {dl dc : Nat} {li : List Lm.It} {ld : List Dt.Dot} {c0 c1 c2 c3 c4 c5 c6 c7 c8 : Value} (o : Obj)
  (hrun : Lm.run (Lm.new kk) es = some m) (hap : ((⟨kd, n, t, ((r, i), s), x, li, ld⟩ : Lm.L), (0 : Int)) = Lm.apply m e) (hil : il = li.length) (hdl : dl = ld.length) (hL : Blk w2 b 40 [c0, c1, c2, c3, c4, c5, c6, c7, c8])
  (hI : ∀ w3, Chg (fun k => k = W.heap.size ∨ k = b) w2 w3 → IRow w3 ia ic li) (hD : ∀ w3, Chg (fun k => k = W.heap.size ∨ k = b) w2 w3 → VRow w3 da dc ld) (hZ : Blk w2 W.heap.size 40 (lcells 0 0 0 0 0 0 ⟨#[]⟩ none 0 0 none 0 0)) (hW : Below W.heap.size W w2) (hlt : W.heap.size < b) :
  SM W ((((((((((w2.setCell ⟨b, 0, none⟩ (.int .u8 (kd : Int))).setCell ⟨b, 1, none⟩ (.int .i64 n)).setCell ⟨b, 2, none⟩ (.int .u64 (t : Int))).setCell ⟨b, 3, none⟩ (.int .u8 (r : Int))).setCell ⟨b, 4, none⟩ (.int .u32 (i : Int))).setCell ⟨b, 5, none⟩ (.int .u64 (s : Int))).setCell ⟨b, 6, none⟩ (.string x)).setCell ⟨b, 7, none⟩ (.slice ia il ic)).setCell ⟨b, 8, none⟩ (.slice da dl dc)).alloc o) b kk (es ++ [e]) := by
 have h1 : (Lm.apply m e).2 = 0 := by rw [← hap]
 have h2 : (Lm.apply m e).1 = ⟨kd, n, t, ((r, i), s), x, li, ld⟩ := by rw [← hap]
 have hc := chgSet9 (Chg.refl (fun k => k = W.heap.size ∨ k = b) w2) (b := b) (Or.inr (Or.inr rfl)) (.int .u8 (kd : Int)) (.int .i64 n) (.int .u64 (t : Int)) (.int .u8 (r : Int)) (.int .u32 (i : Int)) (.int .u64 (s : Int)) (.string x) (.slice ia il ic) (.slice da dl dc)
 have hc2 := chgSet9 (Chg.refl (fun k => k = b) w2) (b := b) (Or.inr rfl) (.int .u8 (kd : Int)) (.int .i64 n) (.int .u64 (t : Int)) (.int .u8 (r : Int)) (.int .u32 (i : Int)) (.int .u64 (s : Int)) (.string x) (.slice ia il ic) (.slice da dl dc)
 have hx := hL.set9 (.int .u8 (kd : Int)) (.int .i64 n) (.int .u64 (t : Int)) (.int .u8 (r : Int)) (.int .u32 (i : Int)) (.int .u64 (s : Int)) (.string x) (.slice ia il ic) (.slice da dl dc)
 exact ⟨kd, n, t, r, i, s, x, ia, il, ic, da, dl, dc, li, ld, (run_snoc hrun h1).trans (by rw [h2]), hil.symm, hdl.symm, hx.below ((Below.refl _ _).alloc (Nat.le_refl _) o), fun w3 h3 => hI w3 ((hc.alloc o).trans h3 (fun _ _ e => e)), fun w3 h3 => hD w3 ((hc.alloc o).trans h3 (fun _ _ e => e)), hZ.chg (hc2.alloc o) (by omega), (set9 hW (Nat.le_of_lt hlt) (.int .u8 (kd : Int)) (.int .i64 n) (.int .u64 (t : Int)) (.int .u8 (r : Int)) (.int .u32 (i : Int)) (.int .u64 (s : Int)) (.string x) (.slice ia il ic) (.slice da dl dc)).alloc (set9 hW (Nat.le_of_lt hlt) (.int .u8 (kd : Int)) (.int .i64 n) (.int .u64 (t : Int)) (.int .u8 (r : Int)) (.int .u32 (i : Int)) (.int .u64 (s : Int)) (.string x) (.slice ia il ic) (.slice da dl dc)).size o, hlt⟩
end Go.Proofs.Ytbciopieciglmaa
