import Derived.Test.YthbkieghkfpbhaaGreatZCmt9
import Derived.Test.YthbkieghkfpbhaaGreatZOp20
import Derived.Test.YthbkieghkfpbhaaGreatZOp9
namespace Go.Proofs.YthbkieghkfpbhaaGreat
open Go.RowKit Go.Buf Go.LB
set_option linter.unusedSimpArgs false
set_option linter.unusedVariables false
theorem num_inj {n m : Nat} {R S : List Nat} (hn : n < 18446744073709551616) (hm : m < 18446744073709551616) (h : Cd.num n ++ R = Cd.num m ++ S) : n = m ∧ R = S := by
 have h1 := numR_ok hn R
 rw [h, numR_ok hm S] at h1
 simp only [Prod.mk.injEq, and_true] at h1
 exact ⟨h1.1.symm, h1.2.symm⟩
theorem int_inj {n m : Int} {R S : List Nat} (h1 : -9223372036854775808 ≤ n) (h2 : n ≤ 9223372036854775807) (g1 : -9223372036854775808 ≤ m) (g2 : m ≤ 9223372036854775807) (h : Cd.num (Cd.uns n) ++ R = Cd.num (Cd.uns m) ++ S) : n = m ∧ R = S := by
 have e := intR_ok h1 h2 R
 rw [h, intR_ok g1 g2 S] at e
 simp only [Prod.mk.injEq, and_true] at e
 exact ⟨e.1.symm, e.2.symm⟩
theorem txt_inj {s t : ByteArray} {R S : List Nat} (hs : s.size ≤ 9223372036854775807) (ht : t.size ≤ 9223372036854775807) (h : txtE s ++ R = txtE t ++ S) : s = t ∧ R = S := by
 have e := txtR_ok s R 9223372036854775807 (by omega) (by omega)
 rw [h, txtR_ok t S 9223372036854775807 (by omega) (by omega)] at e
 simp only [Prod.mk.injEq, and_true] at e
 have e1 := congrArg strB e.1
 rw [strB_strL, strB_strL] at e1
 exact ⟨e1.symm, e.2.symm⟩
theorem dot_inj {d e : Dt.Dot} {R S : List Nat} (hd : Dt.okD d) (he : Dt.okD e) (h : dotE d ++ R = dotE e ++ S) : d = e ∧ R = S := by
 obtain ⟨⟨r, i⟩, s⟩ := d
 obtain ⟨⟨r', i'⟩, s'⟩ := e
 obtain ⟨d1, d2, d3⟩ := hd
 obtain ⟨e1, e2, e3⟩ := he
 simp only at d1 d2 d3 e1 e2 e3
 simp only [dotE, List.append_assoc] at h
 obtain ⟨rfl, h_0⟩ := num_inj (by omega) (by omega) h
 obtain ⟨rfl, h_1⟩ := num_inj (by omega) (by omega) h_0
 obtain ⟨rfl, h_2⟩ := num_inj (by omega) (by omega) h_1
 exact ⟨rfl, h_2⟩
theorem flatD_inj : ∀ {l m : List Dt.Dot} {R S : List Nat}, l.length = m.length → (∀ d ∈ l, Dt.okD d) → (∀ d ∈ m, Dt.okD d) → l.flatMap dotE ++ R = m.flatMap dotE ++ S → l = m ∧ R = S
 | [], [], _, _, _, _, _, h => ⟨rfl, h⟩
 | d :: l, e :: m, R, S, hl, hd, he, h => by
  simp only [List.flatMap_cons, List.append_assoc] at h
  obtain ⟨rfl, h_0⟩ := dot_inj (hd d (by simp)) (he e (by simp)) h
  obtain ⟨rfl, h_1⟩ := flatD_inj (by simpa using hl) (fun x hx => hd x (by simp [hx])) (fun x hx => he x (by simp [hx])) h_0
  exact ⟨rfl, h_1⟩
theorem flatS_inj : ∀ {l m : List ByteArray} {R S : List Nat}, l.length = m.length → (∀ d ∈ l, d.size ≤ 9223372036854775807) → (∀ d ∈ m, d.size ≤ 9223372036854775807) → l.flatMap txtE ++ R = m.flatMap txtE ++ S → l = m ∧ R = S
 | [], [], _, _, _, _, _, h => ⟨rfl, h⟩
 | d :: l, e :: m, R, S, hl, hd, he, h => by
  simp only [List.flatMap_cons, List.append_assoc] at h
  obtain ⟨rfl, h_0⟩ := txt_inj (hd d (by simp)) (he e (by simp)) h
  obtain ⟨rfl, h_1⟩ := flatS_inj (by simpa using hl) (fun x hx => hd x (by simp [hx])) (fun x hx => he x (by simp [hx])) h_0
  exact ⟨rfl, h_1⟩
theorem list_inj {l m : List Dt.Dot} {R S : List Nat} (hl : l.length ≤ 1000) (hm : m.length ≤ 1000) (hd : ∀ d ∈ l, Dt.okD d) (he : ∀ d ∈ m, Dt.okD d) (h : listE l ++ R = listE m ++ S) : l = m ∧ R = S := by
 simp only [listE, List.append_assoc] at h
 obtain ⟨h1, h_0⟩ := num_inj (by omega) (by omega) h
 exact flatD_inj h1 hd he h_0
structure OkC (c : Cm.C) : Prop where
  dot : Dt.okD c.dot
  par : ∀ d ∈ c.par, Dt.okD d
  vv : ∀ d ∈ c.vv, Dt.okD d
  time : c.time < 18446744073709551616
  kind : c.op.kind < 256
  n1 : -9223372036854775808 ≤ c.op.n
  n2 : c.op.n ≤ 9223372036854775807
  dots : ∀ d ∈ c.op.dots, Dt.okD d
theorem cmt_inj {a b : Cm.C} (ha : Cm.may a = true) (hb : Cm.may b = true) (oa : OkC a) (ob : OkC b) (h : cmtE a = cmtE b) : a = b := by
 obtain ⟨a1, a2, a3, a4, ⟨a6, a7, a8, a9, a10⟩⟩ := a
 obtain ⟨b1, b2, b3, b4, ⟨b6, b7, b8, b9, b10⟩⟩ := b
 have pa := Cm.may_parts ha
 have pb := Cm.may_parts hb
 obtain ⟨na1, na2, na3, na4⟩ := names_of_may pa.2.1
 obtain ⟨nb1, nb2, nb3, nb4⟩ := names_of_may pb.2.1
 obtain ⟨oa1, oa2, oa3, oa4, oa5, oa6, oa7, oa8⟩ := oa
 obtain ⟨ob1, ob2, ob3, ob4, ob5, ob6, ob7, ob8⟩ := ob
 have pa3 := pa.2.2.1; have pa4 := pa.2.2.2.1; have pb3 := pb.2.2.1; have pb4 := pb.2.2.2.1
 simp only at pa3 pa4 pb3 pb4 na1 na2 na3 na4 nb1 nb2 nb3 nb4 oa1 oa2 oa3 oa4 oa5 oa6 oa7 oa8 ob1 ob2 ob3 ob4 ob5 ob6 ob7 ob8
 have h0 : dotE a1 ++ (listE a2 ++ (listE a3 ++ (Cd.num a4 ++ (Cd.num a6 ++ (Cd.num a7.length ++ (a7.flatMap txtE ++ (Cd.num (Cd.uns a8) ++ (txtE a9 ++ (Cd.num a10.length ++ (a10.flatMap dotE ++ [])))))))))) = dotE b1 ++ (listE b2 ++ (listE b3 ++ (Cd.num b4 ++ (Cd.num b6 ++ (Cd.num b7.length ++ (b7.flatMap txtE ++ (Cd.num (Cd.uns b8) ++ (txtE b9 ++ (Cd.num b10.length ++ (b10.flatMap dotE ++ [])))))))))) := by
  simpa only [cmtE, opE, List.append_assoc, List.append_nil] using h
 obtain ⟨rfl, h0_0⟩ := dot_inj oa1 ob1 h0
 obtain ⟨rfl, h0_1⟩ := list_inj (by omega) (by omega) oa2 ob2 h0_0
 obtain ⟨rfl, h0_2⟩ := list_inj (by omega) (by omega) oa3 ob3 h0_1
 obtain ⟨rfl, h0_3⟩ := num_inj oa4 ob4 h0_2
 obtain ⟨rfl, h0_4⟩ := num_inj (by omega) (by omega) h0_3
 obtain ⟨h1, h0_5⟩ := num_inj (by omega) (by omega) h0_4
 obtain ⟨rfl, h0_6⟩ := flatS_inj h1 (fun s hs => by have := na1 s hs; omega) (fun s hs => by have := nb1 s hs; omega) h0_5
 obtain ⟨rfl, h0_7⟩ := int_inj oa6 oa7 ob6 ob7 h0_6
 obtain ⟨rfl, h0_8⟩ := txt_inj (by omega) (by omega) h0_7
 obtain ⟨h1, h0_9⟩ := num_inj (by omega) (by omega) h0_8
 obtain ⟨rfl, h0_10⟩ := flatD_inj h1 oa8 ob8 h0_9
 rfl
theorem cmtE_pos (c : Cm.C) : 0 < (cmtE c).length := by
 have := (Cd.num_len c.time).1
 unfold cmtE
 simp only [List.length_append]
 omega
end Go.Proofs.YthbkieghkfpbhaaGreat
namespace Go.Proofs.YthbkieghkfpbhaaGreat
open Go.RowKit Go.Buf Go.LB
set_option linter.unusedSimpArgs false
set_option linter.unusedVariables false
end Go.Proofs.YthbkieghkfpbhaaGreat
