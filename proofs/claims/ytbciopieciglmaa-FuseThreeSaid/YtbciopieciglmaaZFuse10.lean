import Derived.Test.YtbciopieciglmaaZFuse9
namespace Go.Proofs.Ytbciopieciglmaa
open Go.RowKit Go.Buf Go.LB Go.Lib
set_option linter.unusedSimpArgs false
set_option linter.unusedVariables false
def MR (B : Nat) (w : World) (L : Lm.L) (v : Value) : Prop := ∃ vI rI vD rD, v = .agg #[.int .u8 (L.kind : Int), .int .i64 L.n, .int .u64 (L.time : Int), .int .u8 (L.dot.1.1 : Int), .int .u32 (L.dot.1.2 : Int), .int .u64 (L.dot.2 : Int), .string L.text, vI, vD] ∧ OwnI B w vI L.items rI ∧ OwnD B w vD L.tombs rD
theorem MR.below {B : Nat} {w w' : World} {L : Lm.L} {v : Value} (h : MR B w L v) (hb : Below w.heap.size w w') : MR B w' L v := by
 obtain ⟨vI, rI, vD, rD, h1, h2, h3⟩ := h; exact ⟨vI, rI, vD, rD, h1, h2.below hb, h3.below hb⟩
theorem MR.base {B B' : Nat} {w : World} {L : Lm.L} {v : Value} (h : MR B w L v) (hB : B' ≤ B) : MR B' w L v := by
 obtain ⟨vI, rI, vD, rD, h1, h2, h3⟩ := h; exact ⟨vI, rI, vD, rD, h1, h2.base hB, h3.base hB⟩
theorem MR.past {B b : Nat} {w w' : World} {L : Lm.L} {v : Value} (h : MR B w L v) (hc : Chg (fun k => k = b) w w') (hlt : b < B) : MR B w' L v := by
 obtain ⟨vI, rI, vD, rD, h1, h2, h3⟩ := h
 exact ⟨vI, rI, vD, rD, h1, h2.chg hc (fun k e e2 => by have := (h2.lt k e).1; have : k = b := e2; omega), h3.chg hc (fun k e e2 => by have := (h3.lt k e).1; have : k = b := e2; omega)⟩
theorem MR.cells {B : Nat} {w : World} {L : Lm.L} {v : Value} (h : MR B w L v) : ∃ a n c a' n' c', v = .agg #[.int .u8 (L.kind : Int), .int .i64 L.n, .int .u64 (L.time : Int), .int .u8 (L.dot.1.1 : Int), .int .u32 (L.dot.1.2 : Int), .int .u64 (L.dot.2 : Int), .string L.text, .slice a n c, .slice a' n' c'] := by
 obtain ⟨vI, rI, vD, rD, h1, h2, h3⟩ := h
 obtain ⟨a, c, e, _⟩ := h2.reads encI_len
 obtain ⟨a', c', e', _⟩ := h3.reads encD_len
 subst e; subst e'
 exact ⟨_, _, _, _, _, _, h1⟩
theorem wrap_two (a b c : Int) : wrap64 (wrap64 (a + b) - c) = IntKind.i64.wrap (a + b - c) := by rw [← Lm.wrap_out, IntWalk.i64_left, IntWalk.i64_left]
theorem nodup3 {L : Lm.L} (h : L.kind = 3) (hm : Lm.may L = true) : L.items.Pairwise (fun u v => Lm.aheadI u v = true) ∧ (Lm.dots L.items).Nodup ∧ L.tombs.Pairwise Dt.lt := by
 obtain ⟨_, _, _, _, ⟨h1, h2⟩, h3, _⟩ := (Lm.may3 h).1 hm
 exact ⟨h2, Lm.nodup_of_lt (Lm.dots_of_asc h2 (fun x hx => by have := (Lm.mayI_iff.1 (h1 x hx)).2.1; omega)), (Lm.mayTombs_iff.1 h3).2⟩
theorem nodup4 {L : Lm.L} (h : L.kind = 4) (hm : Lm.may L = true) : L.items.Pairwise (fun u v => Lm.aheadI u v = true) ∧ (Lm.dots L.items).Nodup ∧ L.tombs = [] := by
 obtain ⟨_, _, _, _, h0, ⟨h1, h2⟩, h3⟩ := (Lm.may4 h).1 hm
 exact ⟨h2, h3, h0⟩
set_option maxHeartbeats 1600000 in
theorem merge_k1 (kk : Nat) (n : Int) (t r i s : Nat) (x : ByteArray) (ia : Option Addr) (il ic : Nat) (da : Option Addr) (dl dc : Nat) (li : List Lm.It) (ld : List Dt.Dot) (kk' : Nat) (n' : Int) (t' r' i' s' : Nat) (x' : ByteArray) (ia' : Option Addr) (il' ic' : Nat) (da' : Option Addr) (dl' dc' : Nat) (li' : List Lm.It) (ld' : List Dt.Dot) (kk'' : Nat) (n'' : Int) (t'' r'' i'' s'' : Nat) (x'' : ByteArray) (ia'' : Option Addr) (il'' ic'' : Nat) (da'' : Option Addr) (dl'' dc'' : Nat) (li'' : List Lm.It) (ld'' : List Dt.Dot) (W : World) (hi' : IRow W ia' ic' li') (hil' : li'.length = il') (hd' : VRow W da' dc' ld') (hdl' : ld'.length = dl') (hn' : il' ≤ 4000) (hm' : dl' ≤ 4000) (hi'' : IRow W ia'' ic'' li'') (hil'' : li''.length = il'') (hd'' : VRow W da'' dc'' ld'') (hdl'' : ld''.length = dl'') (hn'' : il'' ≤ 4000) (hm'' : dl'' ≤ 4000) (hk : kk = 1) (hk' : kk' = kk) (hk'' : kk'' = kk) (hml : Lm.may ⟨kk, n, t, ((r, i), s), x, li, ld⟩ = true) (hma : Lm.may ⟨kk', n', t', ((r', i'), s'), x', li', ld'⟩ = true) (hmb : Lm.may ⟨kk'', n'', t'', ((r'', i''), s''), x'', li'', ld''⟩ = true) :
  Calls Try.prog 25 #[leafV kk n t r i s x ia il ic da dl dc, leafV kk' n' t' r' i' s' x' ia' il' ic' da' dl' dc', leafV kk'' n'' t'' r'' i'' s'' x'' ia'' il'' ic'' da'' dl'' dc''] W fun e w' => (∃ v, e = .returned v ∧ MR W.heap.size w' (Lm.merged ⟨kk, n, t, ((r, i), s), x, li, ld⟩ ⟨kk', n', t', ((r', i'), s'), x', li', ld'⟩ ⟨kk'', n'', t'', ((r'', i''), s''), x'', li'', ld''⟩) v) ∧ Below W.heap.size W w' := by
 refine (mergeCounters_any kk n t r i s x ia il ic da dl dc kk' n' t' r' i' s' x' ia' il' ic' da' dl' dc' kk'' n'' t'' r'' i'' s'' x'' ia'' il'' ic'' da'' dl'' dc'' W).mono ?_
 rintro e w' ⟨rfl, hb⟩
 subst hk
 rw [wrap_two]
 exact ⟨⟨_, rfl, _, none, _, none, rfl, Own.empty hb.size none, Own.empty hb.size none⟩, hb⟩
set_option maxHeartbeats 1600000 in
theorem merge_k2 (kk : Nat) (n : Int) (t r i s : Nat) (x : ByteArray) (ia : Option Addr) (il ic : Nat) (da : Option Addr) (dl dc : Nat) (li : List Lm.It) (ld : List Dt.Dot) (kk' : Nat) (n' : Int) (t' r' i' s' : Nat) (x' : ByteArray) (ia' : Option Addr) (il' ic' : Nat) (da' : Option Addr) (dl' dc' : Nat) (li' : List Lm.It) (ld' : List Dt.Dot) (kk'' : Nat) (n'' : Int) (t'' r'' i'' s'' : Nat) (x'' : ByteArray) (ia'' : Option Addr) (il'' ic'' : Nat) (da'' : Option Addr) (dl'' dc'' : Nat) (li'' : List Lm.It) (ld'' : List Dt.Dot) (W : World) (hi' : IRow W ia' ic' li') (hil' : li'.length = il') (hd' : VRow W da' dc' ld') (hdl' : ld'.length = dl') (hn' : il' ≤ 4000) (hm' : dl' ≤ 4000) (hi'' : IRow W ia'' ic'' li'') (hil'' : li''.length = il'') (hd'' : VRow W da'' dc'' ld'') (hdl'' : ld''.length = dl'') (hn'' : il'' ≤ 4000) (hm'' : dl'' ≤ 4000) (hk : kk = 2) (hk' : kk' = kk) (hk'' : kk'' = kk) (hml : Lm.may ⟨kk, n, t, ((r, i), s), x, li, ld⟩ = true) (hma : Lm.may ⟨kk', n', t', ((r', i'), s'), x', li', ld'⟩ = true) (hmb : Lm.may ⟨kk'', n'', t'', ((r'', i''), s''), x'', li'', ld''⟩ = true) :
  Calls Try.prog 26 #[leafV kk n t r i s x ia il ic da dl dc, leafV kk' n' t' r' i' s' x' ia' il' ic' da' dl' dc', leafV kk'' n'' t'' r'' i'' s'' x'' ia'' il'' ic'' da'' dl'' dc''] W fun e w' => (∃ v, e = .returned v ∧ MR W.heap.size w' (Lm.merged ⟨kk, n, t, ((r, i), s), x, li, ld⟩ ⟨kk', n', t', ((r', i'), s'), x', li', ld'⟩ ⟨kk'', n'', t'', ((r'', i''), s''), x'', li'', ld''⟩) v) ∧ Below W.heap.size W w' := by
 refine (mergeRegisters_any kk n t r i s x ia il ic da dl dc kk' n' t' r' i' s' x' ia' il' ic' da' dl' dc' kk'' n'' t'' r'' i'' s'' x'' ia'' il'' ic'' da'' dl'' dc'' W _ rfl).mono ?_
 rintro e w' ⟨rfl, hb⟩
 subst hk; subst hk'; subst hk''
 refine ⟨⟨_, rfl, _, none, _, none, ?_, Own.empty hb.size none, Own.empty hb.size none⟩, hb⟩
 cases hz : Lm.ahead t'' ((r'', i''), s'') t' ((r', i'), s') <;> simp [Lm.merged, Lm.zeroL, hz]
set_option maxHeartbeats 1600000 in
theorem merge_k3 (kk : Nat) (n : Int) (t r i s : Nat) (x : ByteArray) (ia : Option Addr) (il ic : Nat) (da : Option Addr) (dl dc : Nat) (li : List Lm.It) (ld : List Dt.Dot) (kk' : Nat) (n' : Int) (t' r' i' s' : Nat) (x' : ByteArray) (ia' : Option Addr) (il' ic' : Nat) (da' : Option Addr) (dl' dc' : Nat) (li' : List Lm.It) (ld' : List Dt.Dot) (kk'' : Nat) (n'' : Int) (t'' r'' i'' s'' : Nat) (x'' : ByteArray) (ia'' : Option Addr) (il'' ic'' : Nat) (da'' : Option Addr) (dl'' dc'' : Nat) (li'' : List Lm.It) (ld'' : List Dt.Dot) (W : World) (hi' : IRow W ia' ic' li') (hil' : li'.length = il') (hd' : VRow W da' dc' ld') (hdl' : ld'.length = dl') (hn' : il' ≤ 4000) (hm' : dl' ≤ 4000) (hi'' : IRow W ia'' ic'' li'') (hil'' : li''.length = il'') (hd'' : VRow W da'' dc'' ld'') (hdl'' : ld''.length = dl'') (hn'' : il'' ≤ 4000) (hm'' : dl'' ≤ 4000) (hk : kk = 3) (hk' : kk' = kk) (hk'' : kk'' = kk) (hml : Lm.may ⟨kk, n, t, ((r, i), s), x, li, ld⟩ = true) (hma : Lm.may ⟨kk', n', t', ((r', i'), s'), x', li', ld'⟩ = true) (hmb : Lm.may ⟨kk'', n'', t'', ((r'', i''), s''), x'', li'', ld''⟩ = true) :
  Calls Try.prog 27 #[leafV kk n t r i s x ia il ic da dl dc, leafV kk' n' t' r' i' s' x' ia' il' ic' da' dl' dc', leafV kk'' n'' t'' r'' i'' s'' x'' ia'' il'' ic'' da'' dl'' dc''] W fun e w' => (∃ v, e = .returned v ∧ MR W.heap.size w' (Lm.merged ⟨kk, n, t, ((r, i), s), x, li, ld⟩ ⟨kk', n', t', ((r', i'), s'), x', li', ld'⟩ ⟨kk'', n'', t'', ((r'', i''), s''), x'', li'', ld''⟩) v) ∧ Below W.heap.size W w' := by
 refine (mergeSets_any kk n t r i s x ia il ic da dl dc kk' n' t' r' i' s' x' ia' il' ic' da' dl' dc' kk'' n'' t'' r'' i'' s'' x'' ia'' il'' ic'' da'' dl'' dc'' li' li'' W hi' hil' hi'' hil'' (by omega) (by omega) ld' ld'' hd' hdl' hd'' hdl'' hm' hm'').mono ?_
 rintro e w' ⟨⟨u, tv, row, s9, rfl, hp, hs, hO, hG⟩, hb⟩
 obtain ⟨a1, a2, a3⟩ := nodup3 (L := ⟨kk', n', t', ((r', i'), s'), x', li', ld'⟩) (hk'.trans hk) hma
 obtain ⟨b1, b2, b3⟩ := nodup3 (L := ⟨kk'', n'', t'', ((r'', i''), s''), x'', li'', ld''⟩) (hk''.trans hk) hmb
 obtain ⟨rI, q, hI, hq1, hq2⟩ := hG
 have ht := Lm.tombs_eq a3 hp hs
 subst hk
 simp only at a1 a2 a3 b1 b2 b3 ht
 rw [ht] at hO hq1
 have hmx := Lm.gath_mix a1 a2 b2 hq1 hq2
 rw [hmx] at hI
 exact ⟨⟨_, rfl, _, rI, _, row, rfl, hI, hO⟩, hb⟩
set_option maxHeartbeats 1600000 in
theorem merge_k4 (kk : Nat) (n : Int) (t r i s : Nat) (x : ByteArray) (ia : Option Addr) (il ic : Nat) (da : Option Addr) (dl dc : Nat) (li : List Lm.It) (ld : List Dt.Dot) (kk' : Nat) (n' : Int) (t' r' i' s' : Nat) (x' : ByteArray) (ia' : Option Addr) (il' ic' : Nat) (da' : Option Addr) (dl' dc' : Nat) (li' : List Lm.It) (ld' : List Dt.Dot) (kk'' : Nat) (n'' : Int) (t'' r'' i'' s'' : Nat) (x'' : ByteArray) (ia'' : Option Addr) (il'' ic'' : Nat) (da'' : Option Addr) (dl'' dc'' : Nat) (li'' : List Lm.It) (ld'' : List Dt.Dot) (W : World) (hi' : IRow W ia' ic' li') (hil' : li'.length = il') (hd' : VRow W da' dc' ld') (hdl' : ld'.length = dl') (hn' : il' ≤ 4000) (hm' : dl' ≤ 4000) (hi'' : IRow W ia'' ic'' li'') (hil'' : li''.length = il'') (hd'' : VRow W da'' dc'' ld'') (hdl'' : ld''.length = dl'') (hn'' : il'' ≤ 4000) (hm'' : dl'' ≤ 4000) (hk : kk = 4) (hk' : kk' = kk) (hk'' : kk'' = kk) (hml : Lm.may ⟨kk, n, t, ((r, i), s), x, li, ld⟩ = true) (hma : Lm.may ⟨kk', n', t', ((r', i'), s'), x', li', ld'⟩ = true) (hmb : Lm.may ⟨kk'', n'', t'', ((r'', i''), s''), x'', li'', ld''⟩ = true) :
  Calls Try.prog 28 #[leafV kk n t r i s x ia il ic da dl dc, leafV kk' n' t' r' i' s' x' ia' il' ic' da' dl' dc', leafV kk'' n'' t'' r'' i'' s'' x'' ia'' il'' ic'' da'' dl'' dc''] W fun e w' => (∃ v, e = .returned v ∧ MR W.heap.size w' (Lm.merged ⟨kk, n, t, ((r, i), s), x, li, ld⟩ ⟨kk', n', t', ((r', i'), s'), x', li', ld'⟩ ⟨kk'', n'', t'', ((r'', i''), s''), x'', li'', ld''⟩) v) ∧ Below W.heap.size W w' := by
 refine (mergeLogs_any kk n t r i s x ia il ic da dl dc kk' n' t' r' i' s' x' ia' il' ic' da' dl' dc' kk'' n'' t'' r'' i'' s'' x'' ia'' il'' ic'' da'' dl'' dc'' li' li'' W hi' hil' hi'' hil'' (by omega) (by omega)).mono ?_
 rintro e w' ⟨⟨u, rfl, hG⟩, hb⟩
 obtain ⟨a1, a2, a3⟩ := nodup4 (L := ⟨kk', n', t', ((r', i'), s'), x', li', ld'⟩) (hk'.trans hk) hma
 obtain ⟨b1, b2, b3⟩ := nodup4 (L := ⟨kk'', n'', t'', ((r'', i''), s''), x'', li'', ld''⟩) (hk''.trans hk) hmb
 obtain ⟨rI, q, hI, hq1, hq2⟩ := hG
 subst hk
 simp only at a1 a2 a3 b1 b2 b3
 have hmx := Lm.gath_mix a1 a2 b2 hq1 hq2
 rw [hmx] at hI
 exact ⟨⟨_, rfl, _, rI, _, none, rfl, hI, Own.empty hb.size none⟩, hb⟩
end Go.Proofs.Ytbciopieciglmaa
