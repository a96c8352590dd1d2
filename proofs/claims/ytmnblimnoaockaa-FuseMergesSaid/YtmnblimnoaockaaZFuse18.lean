import Derived.Test.YtmnblimnoaockaaZFuse14
import Derived.Test.YtmnblimnoaockaaZFuse15
import Derived.Test.YtmnblimnoaockaaZFuse16
import Derived.Test.YtmnblimnoaockaaZFuse17
namespace Go.Proofs.Ytmnblimnoaockaa
open Go.RowKit Go.Buf Go.LB Go.Lib
set_option linter.unusedSimpArgs false
set_option linter.unusedVariables false
set_option maxRecDepth 100000 in
set_option maxHeartbeats 12800000 in
theorem rmerge_any (kk : Nat) (n : Int) (t r i s : Nat) (x : ByteArray) (ia : Option Addr) (il ic : Nat) (da : Option Addr) (dl dc : Nat) (li : List Lm.It) (ld : List Dt.Dot) (kk' : Nat) (n' : Int) (t' r' i' s' : Nat) (x' : ByteArray) (ia' : Option Addr) (il' ic' : Nat) (da' : Option Addr) (dl' dc' : Nat) (li' : List Lm.It) (ld' : List Dt.Dot) (kk'' : Nat) (n'' : Int) (t'' r'' i'' s'' : Nat) (x'' : ByteArray) (ia'' : Option Addr) (il'' ic'' : Nat) (da'' : Option Addr) (dl'' dc'' : Nat) (li'' : List Lm.It) (ld'' : List Dt.Dot) (W : World) (hi : IRow W ia ic li) (hil : li.length = il) (hd : VRow W da dc ld) (hdl : ld.length = dl) (hn : il ≤ 1000) (hm : dl ≤ 1000) (hx : x.size ≤ 9223372036854775807) (hi' : IRow W ia' ic' li') (hil' : li'.length = il') (hd' : VRow W da' dc' ld') (hdl' : ld'.length = dl') (hn' : il' ≤ 1000) (hm' : dl' ≤ 1000) (hx' : x'.size ≤ 9223372036854775807) (hi'' : IRow W ia'' ic'' li'') (hil'' : li''.length = il'') (hd'' : VRow W da'' dc'' ld'') (hdl'' : ld''.length = dl'') (hn'' : il'' ≤ 1000) (hm'' : dl'' ≤ 1000) (hx'' : x''.size ≤ 9223372036854775807)  :
  Calls Try.prog 8 #[leafV kk n t r i s x ia il ic da dl dc, leafV kk' n' t' r' i' s' x' ia' il' ic' da' dl' dc', leafV kk'' n'' t'' r'' i'' s'' x'' ia'' il'' ic'' da'' dl'' dc''] W fun e w' => RE6 w' (Lm.merge ⟨kk, n, t, ((r, i), s), x, li, ld⟩ ⟨kk', n', t', ((r', i'), s'), x', li', ld'⟩ ⟨kk'', n'', t'', ((r'', i''), s''), x'', li'', ld''⟩).1 (Lm.merge ⟨kk, n, t, ((r, i), s), x, li, ld⟩ ⟨kk', n', t', ((r', i'), s'), x', li', ld'⟩ ⟨kk'', n'', t'', ((r'', i''), s''), x'', li'', ld''⟩).2 e ∧ Below W.heap.size W w' := by
 have go : ∀ (L2 : Lm.L) (z : Int), Lm.merge ⟨kk, n, t, ((r, i), s), x, li, ld⟩ ⟨kk', n', t', ((r', i'), s'), x', li', ld'⟩ ⟨kk'', n'', t'', ((r'', i''), s''), x'', li'', ld''⟩ = (L2, z) → (Calls Try.prog 8 #[leafV kk n t r i s x ia il ic da dl dc, leafV kk' n' t' r' i' s' x' ia' il' ic' da' dl' dc', leafV kk'' n'' t'' r'' i'' s'' x'' ia'' il'' ic'' da'' dl'' dc''] W fun e w' => RE6 w' L2 z e ∧ Below W.heap.size W w') → Calls Try.prog 8 #[leafV kk n t r i s x ia il ic da dl dc, leafV kk' n' t' r' i' s' x' ia' il' ic' da' dl' dc', leafV kk'' n'' t'' r'' i'' s'' x'' ia'' il'' ic'' da'' dl'' dc''] W fun e w' => RE6 w' (Lm.merge ⟨kk, n, t, ((r, i), s), x, li, ld⟩ ⟨kk', n', t', ((r', i'), s'), x', li', ld'⟩ ⟨kk'', n'', t'', ((r'', i''), s''), x'', li'', ld''⟩).1 (Lm.merge ⟨kk, n, t, ((r, i), s), x, li, ld⟩ ⟨kk', n', t', ((r', i'), s'), x', li', ld'⟩ ⟨kk'', n'', t'', ((r'', i''), s''), x'', li'', ld''⟩).2 e ∧ Below W.heap.size W w' := fun L2 z h g => by rw [h]; exact g
 cases hml : Lm.may ⟨kk, n, t, ((r, i), s), x, li, ld⟩ with
 | false => exact go _ _ (by unfold Lm.merge; rw [if_pos (Or.inl hml)]) (rmerge_a kk n t r i s x ia il ic da dl dc li ld kk' n' t' r' i' s' x' ia' il' ic' da' dl' dc' li' ld' kk'' n'' t'' r'' i'' s'' x'' ia'' il'' ic'' da'' dl'' dc'' li'' ld'' W hi hil hd hdl hn hm hx hi' hil' hd' hdl' hn' hm' hx' hi'' hil'' hd'' hdl'' hn'' hm'' hx'' hml)
 | true =>
 cases hma : Lm.may ⟨kk', n', t', ((r', i'), s'), x', li', ld'⟩ with
 | false => exact go _ _ (by unfold Lm.merge; rw [if_pos (Or.inr (Or.inl hma))]) (rmerge_b kk n t r i s x ia il ic da dl dc li ld kk' n' t' r' i' s' x' ia' il' ic' da' dl' dc' li' ld' kk'' n'' t'' r'' i'' s'' x'' ia'' il'' ic'' da'' dl'' dc'' li'' ld'' W hi hil hd hdl hn hm hx hi' hil' hd' hdl' hn' hm' hx' hi'' hil'' hd'' hdl'' hn'' hm'' hx'' hml hma)
 | true =>
 cases hmb : Lm.may ⟨kk'', n'', t'', ((r'', i''), s''), x'', li'', ld''⟩ with
 | false => exact go _ _ (by unfold Lm.merge; rw [if_pos (Or.inr (Or.inr hmb))]) (rmerge_c kk n t r i s x ia il ic da dl dc li ld kk' n' t' r' i' s' x' ia' il' ic' da' dl' dc' li' ld' kk'' n'' t'' r'' i'' s'' x'' ia'' il'' ic'' da'' dl'' dc'' li'' ld'' W hi hil hd hdl hn hm hx hi' hil' hd' hdl' hn' hm' hx' hi'' hil'' hd'' hdl'' hn'' hm'' hx'' hml hma hmb)
 | true =>
 have hno : ¬ (Lm.may ⟨kk, n, t, ((r, i), s), x, li, ld⟩ = false ∨ Lm.may ⟨kk', n', t', ((r', i'), s'), x', li', ld'⟩ = false ∨ Lm.may ⟨kk'', n'', t'', ((r'', i''), s''), x'', li'', ld''⟩ = false) := by rw [hml, hma, hmb]; simp
 by_cases h1 : kk' = kk
 case neg => exact go _ _ (by unfold Lm.merge; rw [if_neg hno, if_pos (Or.inl h1)]) (rmerge_d kk n t r i s x ia il ic da dl dc li ld kk' n' t' r' i' s' x' ia' il' ic' da' dl' dc' li' ld' kk'' n'' t'' r'' i'' s'' x'' ia'' il'' ic'' da'' dl'' dc'' li'' ld'' W hi hil hd hdl hn hm hx hi' hil' hd' hdl' hn' hm' hx' hi'' hil'' hd'' hdl'' hn'' hm'' hx'' hml hma hmb h1)
 by_cases h2 : kk'' = kk
 case neg => exact go _ _ (by unfold Lm.merge; rw [if_neg hno, if_pos (Or.inr h2)]) (rmerge_e kk n t r i s x ia il ic da dl dc li ld kk' n' t' r' i' s' x' ia' il' ic' da' dl' dc' li' ld' kk'' n'' t'' r'' i'' s'' x'' ia'' il'' ic'' da'' dl'' dc'' li'' ld'' W hi hil hd hdl hn hm hx hi' hil' hd' hdl' hn' hm' hx' hi'' hil'' hd'' hdl'' hn'' hm'' hx'' hml hma hmb h1 h2)
 refine go _ _ (by unfold Lm.merge; rw [if_neg hno, if_neg (by simp [h1, h2])]) ?_
 rcases may_kind hml with hk | hk | hk | hk
 ·exact rmerge_k1 kk n t r i s x ia il ic da dl dc li ld kk' n' t' r' i' s' x' ia' il' ic' da' dl' dc' li' ld' kk'' n'' t'' r'' i'' s'' x'' ia'' il'' ic'' da'' dl'' dc'' li'' ld'' W hi hil hd hdl hn hm hx hi' hil' hd' hdl' hn' hm' hx' hi'' hil'' hd'' hdl'' hn'' hm'' hx'' hml hma hmb h1 h2 hk
 ·by_cases hb0 : t'' = 0
  ·by_cases ha0 : t' = 0
   ·exact rmerge_k2a kk n t r i s x ia il ic da dl dc li ld kk' n' t' r' i' s' x' ia' il' ic' da' dl' dc' li' ld' kk'' n'' t'' r'' i'' s'' x'' ia'' il'' ic'' da'' dl'' dc'' li'' ld'' W hi hil hd hdl hn hm hx hi' hil' hd' hdl' hn' hm' hx' hi'' hil'' hd'' hdl'' hn'' hm'' hx'' hml hma hmb h1 h2 hk hb0 ha0
   ·exact rmerge_k2b kk n t r i s x ia il ic da dl dc li ld kk' n' t' r' i' s' x' ia' il' ic' da' dl' dc' li' ld' kk'' n'' t'' r'' i'' s'' x'' ia'' il'' ic'' da'' dl'' dc'' li'' ld'' W hi hil hd hdl hn hm hx hi' hil' hd' hdl' hn' hm' hx' hi'' hil'' hd'' hdl'' hn'' hm'' hx'' hml hma hmb h1 h2 hk hb0 ha0
  ·by_cases ha0 : t' = 0
   ·exact rmerge_k2c kk n t r i s x ia il ic da dl dc li ld kk' n' t' r' i' s' x' ia' il' ic' da' dl' dc' li' ld' kk'' n'' t'' r'' i'' s'' x'' ia'' il'' ic'' da'' dl'' dc'' li'' ld'' W hi hil hd hdl hn hm hx hi' hil' hd' hdl' hn' hm' hx' hi'' hil'' hd'' hdl'' hn'' hm'' hx'' hml hma hmb h1 h2 hk hb0 ha0
   ·cases hz : Lm.ahead t'' ((r'', i''), s'') t' ((r', i'), s') with
    | true => exact rmerge_k2d kk n t r i s x ia il ic da dl dc li ld kk' n' t' r' i' s' x' ia' il' ic' da' dl' dc' li' ld' kk'' n'' t'' r'' i'' s'' x'' ia'' il'' ic'' da'' dl'' dc'' li'' ld'' W hi hil hd hdl hn hm hx hi' hil' hd' hdl' hn' hm' hx' hi'' hil'' hd'' hdl'' hn'' hm'' hx'' hml hma hmb h1 h2 hk hb0 ha0 hz
    | false => exact rmerge_k2e kk n t r i s x ia il ic da dl dc li ld kk' n' t' r' i' s' x' ia' il' ic' da' dl' dc' li' ld' kk'' n'' t'' r'' i'' s'' x'' ia'' il'' ic'' da'' dl'' dc'' li'' ld'' W hi hil hd hdl hn hm hx hi' hil' hd' hdl' hn' hm' hx' hi'' hil'' hd'' hdl'' hn'' hm'' hx'' hml hma hmb h1 h2 hk hb0 ha0 hz
 ·obtain rfl := h1.symm; obtain rfl := h2.symm
  have hkz : kk = 3 := hk
  have e : Lm.merged ⟨kk, n, t, ((r, i), s), x, li, ld⟩ ⟨kk, n', t', ((r', i'), s'), x', li', ld'⟩ ⟨kk, n'', t'', ((r'', i''), s''), x'', li'', ld''⟩ = ⟨kk, 0, 0, ((0, 0), 0), ⟨#[]⟩, Lm.mix (ld''.foldl Lm.bury (ld'.foldl Lm.bury [])) li' li'', ld''.foldl Lm.bury (ld'.foldl Lm.bury [])⟩ := by
   rw [Lm.bury_self (nodup3 (L := ⟨kk, n', t', ((r', i'), s'), x', li', ld'⟩) hk hma).2.2]
   simp [Lm.merged, Lm.zeroL, hkz]
  rw [e]
  exact rmerge_k34 kk n t r i s x ia il ic da dl dc li ld n' t' r' i' s' x' ia' il' ic' da' dl' dc' li' ld' n'' t'' r'' i'' s'' x'' ia'' il'' ic'' da'' dl'' dc'' li'' ld'' W hi hil hd hdl hn hm hx hi' hil' hd' hdl' hn' hm' hx' hi'' hil'' hd'' hdl'' hn'' hm'' hx'' hml hma hmb (by omega) (by omega)
 ·obtain rfl := h1.symm; obtain rfl := h2.symm
  have hkz : kk = 4 := hk
  have e : Lm.merged ⟨kk, n, t, ((r, i), s), x, li, ld⟩ ⟨kk, n', t', ((r', i'), s'), x', li', ld'⟩ ⟨kk, n'', t'', ((r'', i''), s''), x'', li'', ld''⟩ = ⟨kk, 0, 0, ((0, 0), 0), ⟨#[]⟩, Lm.mix (ld''.foldl Lm.bury (ld'.foldl Lm.bury [])) li' li'', ld''.foldl Lm.bury (ld'.foldl Lm.bury [])⟩ := by
   have ea : ld' = [] := (nodup4 (L := ⟨kk, n', t', ((r', i'), s'), x', li', ld'⟩) hk hma).2.2
   have eb : ld'' = [] := (nodup4 (L := ⟨kk, n'', t'', ((r'', i''), s''), x'', li'', ld''⟩) hk hmb).2.2
   rw [ea, eb]
   simp [Lm.merged, Lm.zeroL, hkz]
  rw [e]
  exact rmerge_k34 kk n t r i s x ia il ic da dl dc li ld n' t' r' i' s' x' ia' il' ic' da' dl' dc' li' ld' n'' t'' r'' i'' s'' x'' ia'' il'' ic'' da'' dl'' dc'' li'' ld'' W hi hil hd hdl hn hm hx hi' hil' hd' hdl' hn' hm' hx' hi'' hil'' hd'' hdl'' hn'' hm'' hx'' hml hma hmb (by omega) (by omega)
end Go.Proofs.Ytmnblimnoaockaa
