/-
  Texts of YtggfaalodojjkaaGreatDoorYF.
-/
import Derived.Test.YtggfaalodojjkaaGreatDoorYE
import Derived.Test.YtggfaalodojjkaaGreatDoorY8
import Derived.Test.YtggfaalodojjkaaGreatDoorYD
import Derived.Test.YtggfaalodojjkaaGreatDoorYC
namespace Go.Proofs.YtggfaalodojjkaaGreatDoor
open Go.RowKit
set_option linter.unusedVariables false
set_option linter.unusedSimpArgs false
theorem Leb.enc_cut : ∀ (k k' : Nat) (n n' : Int) (r s : List Nat), Leb.enc k n ++ r = Leb.enc k' n' ++ s → k = k' ∧ Leb.enc k n = Leb.enc k' n' ∧ r = s := by
  intro k
  induction k with
  | zero =>
    intro k' n n' r s h
    cases k' with
    | zero =>
      simp only [Leb.enc, List.cons_append, List.nil_append, List.cons.injEq] at h ⊢
      exact ⟨trivial, ⟨h.1, trivial⟩, h.2⟩
    | succ k' =>
      simp only [Leb.enc, List.cons_append, List.nil_append, List.cons.injEq] at h
      omega
  | succ k ih =>
    intro k' n n' r s h
    cases k' with
    | zero =>
      simp only [Leb.enc, List.cons_append, List.nil_append, List.cons.injEq] at h
      omega
    | succ k' =>
      simp only [Leb.enc, List.cons_append, List.cons.injEq] at h ⊢
      obtain ⟨h1, h2⟩ := h
      obtain ⟨e1, e2, e3⟩ := ih _ _ _ _ _ h2
      exact ⟨by omega, ⟨h1, e2⟩, e3⟩
theorem Leb.put_cut (a b : Int) (ha : 0 ≤ a ∧ a < 18446744073709551616) (hb : 0 ≤ b ∧ b < 18446744073709551616) (r s : List Nat)
    (h : Leb.enc (Leb.szU a.toNat) a.toNat ++ r = Leb.enc (Leb.szU b.toNat) b.toNat ++ s) : a = b ∧ r = s := by
  obtain ⟨e1, e2, e3⟩ := Leb.enc_cut _ _ _ _ _ _ h
  have p : (128 * 2 ^ (7 * 9) : Nat) = 1180591620717411303424 := by decide
  have l1 := Leb.szU_lt 9 a.toNat (by omega)
  have l2 := Leb.szU_lt 9 b.toNat (by omega)
  have v1 := Leb.val_enc _ _ l1
  have v2 := Leb.val_enc _ _ l2
  rw [e2, v2] at v1
  exact ⟨by omega, e3⟩
theorem Leb.sput_cut (a b : Int) (ha : -9223372036854775808 ≤ a ∧ a < 9223372036854775808) (hb : -9223372036854775808 ≤ b ∧ b < 9223372036854775808) (r s : List Nat)
    (h : Leb.enc (Leb.szS a) a ++ r = Leb.enc (Leb.szS b) b ++ s) : a = b ∧ r = s := by
  obtain ⟨e1, e2, e3⟩ := Leb.enc_cut _ _ _ _ _ _ h
  have p : (64 * 2 ^ (7 * 9) : Nat) = 590295810358705651712 := by decide
  have l1 := Leb.szS_in 9 a (by omega) (by omega)
  have l2 := Leb.szS_in 9 b (by omega) (by omega)
  have v1 := Leb.svl_enc _ _ l1.1 l1.2
  have v2 := Leb.svl_enc _ _ l2.1 l2.2
  rw [e2, v2] at v1
  exact ⟨v1.symm, e3⟩
def W64 (z : Int) : Prop := 0 ≤ z ∧ z < 18446744073709551616
theorem putL_cut : ∀ (N M : List Int) (r s : List Nat), N.length = M.length → (∀ z ∈ N, W64 z) → (∀ z ∈ M, W64 z) → putL N ++ r = putL M ++ s → N = M ∧ r = s := by
  intro N
  induction N with
  | nil =>
    intro M r s hl _ _ h
    cases M with
    | nil => simpa [putL] using h
    | cons _ _ => simp at hl
  | cons z N ih =>
    intro M r s hl hN hM h
    cases M with
    | nil => simp at hl
    | cons y M =>
      simp only [putL, List.append_assoc] at h
      obtain ⟨e, h2⟩ := Leb.put_cut z y (hN z (by simp)) (hM y (by simp)) _ _ h
      obtain ⟨e2, e3⟩ := ih M r s (by simpa using hl) (fun q hq => hN q (by simp [hq])) (fun q hq => hM q (by simp [hq])) h2
      exact ⟨by rw [e, e2], e3⟩
theorem headL_cut (c d : Int) (hc : (0 ≤ c ∧ c < 252) ∨ (64512 ≤ c ∧ c < 100000)) (hd : (0 ≤ d ∧ d < 252) ∨ (64512 ≤ d ∧ d < 100000)) (r s : List Nat) (h : headL c ++ r = headL d ++ s) : c = d ∧ r = s := by
  unfold headL at h
  rcases hc with hc | hc <;> rcases hd with hd | hd
  · rw [if_pos (by omega), if_pos (by omega)] at h
    simp only [List.cons_append, List.nil_append, List.cons.injEq] at h
    exact ⟨by omega, h.2⟩
  · rw [if_pos (by omega), if_neg (by omega)] at h
    simp only [List.cons_append, List.nil_append, List.cons.injEq] at h
    omega
  · rw [if_neg (by omega), if_pos (by omega)] at h
    simp only [List.cons_append, List.nil_append, List.cons.injEq] at h
    omega
  · rw [if_neg (by omega), if_neg (by omega)] at h
    simp only [List.cons_append, List.cons.injEq] at h
    obtain ⟨e, e2⟩ := Leb.put_cut (c - 64512) (d - 64512) ⟨by omega, by omega⟩ ⟨by omega, by omega⟩ _ _ h.2
    exact ⟨by omega, e2⟩
theorem codesOk : (OPS.all fun q => decide (q.1.first + q.2 < 252) || (decide (64512 ≤ q.1.first + q.2) && decide (q.1.first + q.2 < 100000))) = true := by kernel_rfl
theorem formsOk : (OPS.all fun q => decide (formL ((q.1.first + q.2 : Nat) : Int) = ((q.1.form : Nat) : Int))) = true := by kernel_rfl
theorem widesOk : (OPS.all fun q => !(decide (q.1.form = 11)) || decide (q.1.gives = [127] ∧ q.1.first + q.2 = 65) || decide (q.1.gives = [126] ∧ q.1.first + q.2 ≠ 65)) = true := by kernel_rfl
theorem code_in {c : Int} {r : Rw} {i : Nat} (h : OpAt c r i) : (0 ≤ c ∧ c < 252) ∨ (64512 ≤ c ∧ c < 100000) := by
  have h1 := List.all_eq_true.1 codesOk _ h.1
  simp only [Bool.or_eq_true, Bool.and_eq_true, decide_eq_true_eq] at h1
  have := h.2
  omega
theorem form_in {c : Int} {r : Rw} {i : Nat} (h : OpAt c r i) : formL c = ((r.form : Nat) : Int) := by
  have h1 := List.all_eq_true.1 formsOk _ h.1
  simp only [decide_eq_true_eq] at h1
  have h2 := h.2
  rw [show c = ((r.first + i : Nat) : Int) by omega]
  exact h1
theorem wide_in {c : Int} {r : Rw} {i : Nat} (h : OpAt c r i) (h11 : r.form = 11) : (r.gives = [127] ∧ c = 65) ∨ (r.gives = [126] ∧ c ≠ 65) := by
  have h1 := List.all_eq_true.1 widesOk _ h.1
  simp only [h11, Bool.or_eq_true, decide_eq_true_eq, Bool.not_eq_true', decide_true, decide_false] at h1
  have h2 := h.2
  rcases h1 with (h1 | h1) | h1
  · cases h1
  · exact .inl ⟨h1.1, by omega⟩
  · exact .inr ⟨h1.1, by omega⟩
theorem right_op {x : In} {r : Rw} (h : rightI x r) : ∃ i, OpAt x.cd r i := by
  obtain ⟨k, hk, hi, _⟩ := h
  exact ⟨_, mem_OPS.2 ⟨rw_of hk, hi⟩, by have := hk.2.1; omega⟩
theorem right_uniq {x y : In} {r s : Rw} (h : rightI x r) (h' : rightI y s) (e : x.cd = y.cd) : r = s := by
  obtain ⟨k, hk, _⟩ := h
  obtain ⟨k', hk', _⟩ := h'
  rw [← e] at hk'
  exact (RowOf.uniq hk hk').2
theorem bn_facts (f : Nat) (hf : f ≤ 11) (y : Nat) (a b al n : Int) (h1 : 0 ≤ a) (h2 : 0 ≤ b) (h0 : 0 ≤ al) (hn0 : 0 ≤ n)
    (ha : a ≤ (bn (f : Int) y).a) (hb : b ≤ (bn (f : Int) y).b) (hl : al ≤ (bn (f : Int) y).al) (hn : n ≤ (bn (f : Int) y).lb) :
    (f = 0 → a = 0) ∧ (f ≠ 5 → f ≠ 10 → f ≠ 8 → b = 0) ∧ (f ≠ 8 → al = 0) ∧ (f ≠ 3 → n = 0) ∧ al ≤ 31 ∧ n ≤ 100 ∧ (f = 11 → y = 127 → a ≤ 4294967295) := by
  have hc : f = 0 ∨ f = 1 ∨ f = 2 ∨ f = 3 ∨ f = 4 ∨ f = 5 ∨ f = 6 ∨ f = 7 ∨ f = 8 ∨ f = 9 ∨ f = 10 ∨ f = 11 := by omega
  rcases hc with rfl | rfl | rfl | rfl | rfl | rfl | rfl | rfl | rfl | rfl | rfl | rfl <;> simp [bn] at ha hb hl hn ⊢
  case inr.inr.inr.inr.inr.inr.inr.inr.inr.inr.inr =>
    by_cases hy : y = 127 <;> simp [hy] at ha hb hl hn ⊢ <;> omega
  all_goals omega
theorem right_bn {x : In} {r : Rw} (h : rightI x r) (hx : InW x) :
    (r.form = 0 → x.a = 0) ∧ (r.form ≠ 5 → r.form ≠ 10 → r.form ≠ 8 → x.b = 0) ∧ (r.form ≠ 8 → x.al = 0) ∧ (r.form ≠ 3 → x.l = []) ∧ 0 ≤ x.al ∧ x.al ≤ 31 ∧ x.l.length ≤ 100 ∧ (r.form = 11 → r.gives = [127] → x.a ≤ 4294967295) := by
  obtain ⟨hm, _, ha, hb, h0, hl, hn, _⟩ := right_facts h
  unfold bnR at ha hb hl hn
  obtain ⟨q1, q2, q3, q4, q5, q6, q7⟩ := bn_facts r.form (row_small r hm).2.2 (r.gives.getD 0 0) x.a x.b x.al (x.l.length : Int) hx.a.1 hx.b.1 h0 (by omega) ha hb hl hn
  exact ⟨q1, q2, q3, fun h => List.eq_nil_of_length_eq_zero (by have := q4 h; omega), h0, q5, by omega, fun h1 h2 => q7 h1 (by rw [h2]; rfl)⟩
theorem sgn_in (n : Int) (a : Nat) (ha : a < 18446744073709551616) : -9223372036854775808 ≤ Wd.sgn n a ∧ Wd.sgn n a < 9223372036854775808 := by
  unfold Wd.sgn
  split
  · split <;> omega
  · split <;> omega
theorem sgn_32 (a b : Nat) (ha : a ≤ 4294967295) (hb : b ≤ 4294967295) (h : Wd.sgn 32 a = Wd.sgn 32 b) : a = b := by
  unfold Wd.sgn at h
  rw [if_pos rfl, if_pos rfl, Nat.mod_eq_of_lt (by omega), Nat.mod_eq_of_lt (by omega)] at h
  split at h <;> split at h <;> omega
theorem sgn_64 (a b : Nat) (ha : a < 18446744073709551616) (hb : b < 18446744073709551616) (h : Wd.sgn 64 a = Wd.sgn 64 b) : a = b := by
  unfold Wd.sgn at h
  rw [if_neg (show ¬ (64 : Int) = 32 by decide), if_neg (show ¬ (64 : Int) = 32 by decide)] at h
  split at h <;> split at h <;> omega
/-- no right instruction's bytes begin with another one's -/
theorem enc_apart (x y : In) (r s : Rw) (hr : rightI x r) (hs : rightI y s) (hx : InW x) (hy : InW y) (t : List Nat) (h : encL x r ++ t = encL y s) : x = y := by
  obtain ⟨i, hi⟩ := right_op hr
  obtain ⟨j, hj⟩ := right_op hs
  unfold encL at h
  rw [List.append_assoc] at h
  obtain ⟨ec, h2⟩ := headL_cut x.cd y.cd (code_in hi) (code_in hj) _ _ h
  obtain rfl := right_uniq hr hs ec
  obtain ⟨a1, a2, a3, a4, a5, a6, a7, a8⟩ := right_bn hr hx
  obtain ⟨b1, b2, b3, b4, b5, b6, b7, b8⟩ := right_bn hs hy
  obtain ⟨_, xa, xb, xl, _⟩ := hx
  obtain ⟨_, ya, yb, yl, _⟩ := hy
  suffices hq : x.a = y.a ∧ x.b = y.b ∧ x.al = y.al ∧ x.l = y.l by
    obtain ⟨c1, a1', b1', l1, m1⟩ := x
    obtain ⟨c2, a2', b2', l2, m2⟩ := y
    simp only at ec hq
    rw [ec, hq.1, hq.2.1, hq.2.2.1, hq.2.2.2]
  clear h
  by_cases h11 : r.form = 11
  · rw [if_pos h11, if_pos h11, ← List.append_nil (Leb.enc (Leb.szS (conI y r)) (conI y r))] at h2
    have n1 : x.a.toNat < 18446744073709551616 := by omega
    have n2 : y.a.toNat < 18446744073709551616 := by omega
    obtain ⟨e, _⟩ := Leb.sput_cut (conI x r) (conI y r) (sgn_in _ _ n1) (sgn_in _ _ n2) _ _ h2
    unfold conI at e
    refine ⟨?_, by rw [a2 (by omega) (by omega) (by omega), b2 (by omega) (by omega) (by omega)], by rw [a3 (by omega), b3 (by omega)], by rw [a4 (by omega), b4 (by omega)]⟩
    rcases wide_in hi h11 with ⟨g, _⟩ | ⟨g, _⟩
    · rw [g] at e
      have := a8 h11 g
      have := b8 h11 g
      have := sgn_32 _ _ (by omega) (by omega) e
      omega
    · rw [g] at e
      have := sgn_64 _ _ n1 n2 e
      omega
  rw [if_neg h11, if_neg h11, ← List.append_nil (putL (numI y r.form))] at h2
  by_cases h3 : r.form = 3
  · rw [h3] at h2
    simp only [numI, if_true, List.singleton_append, List.cons_append, putL, List.append_assoc, show ((3 : Nat) = 0) = False by simp, if_false] at h2
    obtain ⟨e1, h2⟩ := Leb.put_cut _ _ ⟨by omega, by omega⟩ ⟨by omega, by omega⟩ _ _ h2
    obtain ⟨e2, _⟩ := putL_cut (x.l ++ [x.a]) (y.l ++ [y.a]) _ _ (by simp; omega) (by
      intro z hz
      simp only [List.mem_append, List.mem_cons, List.not_mem_nil, or_false] at hz
      rcases hz with hz | rfl
      · exact xl z hz
      · exact xa) (by
      intro z hz
      simp only [List.mem_append, List.mem_cons, List.not_mem_nil, or_false] at hz
      rcases hz with hz | rfl
      · exact yl z hz
      · exact ya) h2
    obtain ⟨e3, e4⟩ := List.append_inj e2 (by omega)
    exact ⟨by simpa using e4, by rw [a2 (by omega) (by omega) (by omega), b2 (by omega) (by omega) (by omega)], by rw [a3 (by omega), b3 (by omega)], e3⟩
  by_cases h0 : r.form = 0
  · exact ⟨by rw [a1 h0, b1 h0], by rw [a2 (by omega) (by omega) (by omega), b2 (by omega) (by omega) (by omega)], by rw [a3 (by omega), b3 (by omega)], by rw [a4 h3, b4 h3]⟩
  by_cases h5 : r.form = 5 ∨ r.form = 10
  · have e : ∀ z : In, numI z r.form = [z.a, z.b] := by intro z; unfold numI; rw [if_neg h0, if_neg h3, if_pos h5]
    rw [e, e] at h2
    obtain ⟨e2, _⟩ := putL_cut [x.a, x.b] [y.a, y.b] _ _ rfl (by intro z hz; simp at hz; rcases hz with rfl | rfl; exact xa; exact xb) (by intro z hz; simp at hz; rcases hz with rfl | rfl; exact ya; exact yb) h2
    simp only [List.cons.injEq, and_true] at e2
    exact ⟨e2.1, e2.2, by rw [a3 (by omega), b3 (by omega)], by rw [a4 h3, b4 h3]⟩
  by_cases h8 : r.form = 8
  · have e : ∀ z : In, numI z r.form = if z.a = 0 then [z.al, z.b] else [64 + z.al, z.a, z.b] := by intro z; unfold numI; rw [if_neg h0, if_neg h3, if_neg h5, if_pos h8]
    rw [e, e] at h2
    have hl : x.l = y.l := by rw [a4 h3, b4 h3]
    by_cases hxa : x.a = 0 <;> by_cases hya : y.a = 0
    · rw [if_pos hxa, if_pos hya] at h2
      obtain ⟨e2, _⟩ := putL_cut [x.al, x.b] [y.al, y.b] _ _ rfl (by intro z hz; simp at hz; rcases hz with rfl | rfl; exact ⟨by omega, by omega⟩; exact xb) (by intro z hz; simp at hz; rcases hz with rfl | rfl; exact ⟨by omega, by omega⟩; exact yb) h2
      simp only [List.cons.injEq, and_true] at e2
      exact ⟨by rw [hxa, hya], e2.2, e2.1, hl⟩
    · rw [if_pos hxa, if_neg hya] at h2
      simp only [putL, List.append_assoc] at h2
      have := (Leb.put_cut _ _ ⟨by omega, by omega⟩ ⟨by omega, by omega⟩ _ _ h2).1
      omega
    · rw [if_neg hxa, if_pos hya] at h2
      simp only [putL, List.append_assoc] at h2
      have := (Leb.put_cut _ _ ⟨by omega, by omega⟩ ⟨by omega, by omega⟩ _ _ h2).1
      omega
    · rw [if_neg hxa, if_neg hya] at h2
      obtain ⟨e2, _⟩ := putL_cut [64 + x.al, x.a, x.b] [64 + y.al, y.a, y.b] _ _ rfl (by intro z hz; simp at hz; rcases hz with rfl | rfl | rfl; exact ⟨by omega, by omega⟩; exact xa; exact xb) (by intro z hz; simp at hz; rcases hz with rfl | rfl | rfl; exact ⟨by omega, by omega⟩; exact ya; exact yb) h2
      simp only [List.cons.injEq, and_true] at e2
      exact ⟨e2.2.1, e2.2.2, by omega, hl⟩
  · have e : ∀ z : In, numI z r.form = [z.a] := by intro z; unfold numI; rw [if_neg h0, if_neg h3, if_neg h5, if_neg h8]
    rw [e, e] at h2
    obtain ⟨e2, _⟩ := putL_cut [x.a] [y.a] _ _ rfl (by intro z hz; simp at hz; rcases hz with rfl; exact xa) (by intro z hz; simp at hz; rcases hz with rfl; exact ya) h2
    simp only [List.cons.injEq, and_true] at e2
    exact ⟨e2, by rw [a2 (by omega) (by omega) h8, b2 (by omega) (by omega) h8], by rw [a3 h8, b3 h8], by rw [a4 h3, b4 h3]⟩
/-- what the law asks of two instructions' bytes that aren't the same ones -/
theorem enc_meet (x y : In) (r s : Rw) (hr : rightI x r) (hs : rightI y s) (hx : InW x) (hy : InW y) (hne : x ≠ y) (n : Nat) (hn : n = min (encL x r).length (encL y s).length) : (encL x r).take n ≠ (encL y s).take n := by
  intro h
  by_cases hle : (encL x r).length ≤ (encL y s).length
  · have e : n = (encL x r).length := by omega
    rw [e, List.take_length] at h
    refine hne (enc_apart x y r s hr hs hx hy ((encL y s).drop (encL x r).length) ?_)
    calc encL x r ++ (encL y s).drop (encL x r).length = (encL y s).take (encL x r).length ++ (encL y s).drop (encL x r).length := by rw [← h]
      _ = encL y s := List.take_append_drop _ _
  · have e : n = (encL y s).length := by omega
    rw [e, List.take_length] at h
    refine hne (enc_apart y x s r hs hr hy hx ((encL x r).drop (encL y s).length) ?_).symm
    calc encL y s ++ (encL x r).drop (encL y s).length = (encL x r).take (encL y s).length ++ (encL x r).drop (encL y s).length := by rw [h]
      _ = encL x r := List.take_append_drop _ _
theorem rg_bn (f : Nat) (hf : f ≤ 11) (y : Nat) (cd a b al n : Int) (h1 : 0 ≤ a ∧ a < 18446744073709551616) (h2 : 0 ≤ b ∧ b < 18446744073709551616) (hw : f = 11 → (y = 127 ∧ cd = 65) ∨ (y = 126 ∧ cd ≠ 65))
    (g1 : ¬ ((f : Int) ≠ 11 ∧ 4294967295 < a)) (g2 : ¬ (cd = 65 ∧ 4294967295 < a)) (g3 : ¬ ((f : Int) ≠ 8 ∧ 4294967295 < b)) (g4 : ¬ ((f : Int) = 0 ∧ a ≠ 0)) (g6 : ¬ ((f : Int) ≠ 5 ∧ (f : Int) ≠ 8 ∧ (f : Int) ≠ 10 ∧ b ≠ 0)) (g7 : ¬ ((f : Int) ≠ 8 ∧ al ≠ 0)) (g8 : ¬ al < 0) (g9 : ¬ 31 < al)
    (g10 : n = 0 ∨ ((f : Int) = 3 ∧ n ≤ 100)) : a ≤ (bn (f : Int) y).a ∧ b ≤ (bn (f : Int) y).b ∧ 0 ≤ al ∧ al ≤ (bn (f : Int) y).al ∧ n ≤ (bn (f : Int) y).lb := by
  have hc : f = 0 ∨ f = 1 ∨ f = 2 ∨ f = 3 ∨ f = 4 ∨ f = 5 ∨ f = 6 ∨ f = 7 ∨ f = 8 ∨ f = 9 ∨ f = 10 ∨ f = 11 := by omega
  rcases hc with rfl | rfl | rfl | rfl | rfl | rfl | rfl | rfl | rfl | rfl | rfl | rfl
  case inr.inr.inr.inr.inr.inr.inr.inr.inr.inr.inr =>
    rcases hw rfl with ⟨rfl, rfl⟩ | ⟨rfl, hne⟩ <;> simp [bn] at * <;> omega
  all_goals clear hw; simp [bn] at *; omega
theorem rgB_out (x : In) (f : Int) (h : rgB x f = true) : ¬ (f ≠ 11 ∧ 4294967295 < x.a) ∧ ¬ (x.cd = 65 ∧ 4294967295 < x.a) ∧ ¬ (f ≠ 8 ∧ 4294967295 < x.b) ∧ ¬ (f = 0 ∧ x.a ≠ 0) ∧ ¬ (f = 1 ∧ x.a ≠ 64 ∧ x.a ≠ 126 ∧ x.a ≠ 127) ∧
    ¬ (f ≠ 5 ∧ f ≠ 8 ∧ f ≠ 10 ∧ x.b ≠ 0) ∧ ¬ (f ≠ 8 ∧ x.al ≠ 0) ∧ ¬ x.al < 0 ∧ ¬ 31 < x.al ∧ okW x.l = true ∧ ((x.l.length : Int) = 0 ∨ (f = 3 ∧ (x.l.length : Int) ≤ 100)) := by
  unfold rgB at h
  generalize okW x.l = o at h ⊢
  simp only [Bool.and_eq_true, Bool.or_eq_true, Bool.not_eq_true', ← Bool.not_eq_true, not_or, not_and, decide_eq_true_eq] at h
  obtain ⟨⟨⟨⟨⟨⟨g1, g2⟩, g3⟩, g4, g5⟩, ⟨⟨g6, g7⟩, g8⟩, g9⟩, g10⟩, g11⟩ := h
  refine ⟨fun q => g1 q.1 q.2, fun q => g2 q.1 q.2, fun q => g3 q.1 q.2, fun q => g4 q.1 q.2, fun q => ?_, fun q => ?_, fun q => g7 q.1 q.2, g8, g9, g10, ?_⟩
  · omega
  · omega
  · omega
/-- what the document takes for right may be -/
theorem right_of_doc (x : In) (hx : InW x) (hn : nameL x.cd ≠ []) (h : rgB x (formL x.cd) = true) : ∃ r, rightI x r := by
  by_cases hop : ∃ r i, OpAt x.cd r i
  · obtain ⟨r, i, ho⟩ := hop
    obtain ⟨k, hk⟩ := RowOf.of_op ho
    have hi := (mem_OPS.1 ho.1).2
    have hc := ho.2
    refine ⟨r, k, hk, by omega, ?_⟩
    have hf := form_in ho
    have hw := wide_in ho
    have hm := (mem_OPS.1 ho.1).1
    have hs := (row_small r hm).2.2
    rw [hf] at h
    obtain ⟨g1, g2, g3, g4, g5, g6, g7, g8, g9, g10, g11⟩ := rgB_out x _ h
    obtain ⟨q1, q2, q3, q4, q5⟩ := rg_bn r.form hs (r.gives.getD 0 0) x.cd x.a x.b x.al (x.l.length : Int) hx.a hx.b (fun h11 => by
      rcases hw h11 with ⟨e, e2⟩ | ⟨e, e2⟩
      · exact .inl ⟨by rw [e]; rfl, e2⟩
      · exact .inr ⟨by rw [e]; rfl, e2⟩) g1 g2 g3 g4 g6 g7 g8 g9 g11
    unfold riB wiB bnR bkB
    simp only [q1, q2, q3, q4, q5, g10, decide_true, Bool.true_and, Bool.and_true]
    by_cases h1 : r.form = 1
    · have : x.a = 64 ∨ x.a = 126 ∨ x.a = 127 := by
        rw [h1] at g5
        omega
      rcases this with e | e | e <;> rw [e] <;> simp
    · simp [h1]
  · exact absurd (name_no (fun r i ho => hop ⟨r, i, ho⟩)) hn
end Go.Proofs.YtggfaalodojjkaaGreatDoor
namespace Go.Proofs.YtggfaalodojjkaaGreatDoor
open Go.RowKit
set_option linter.unusedVariables false
set_option linter.unusedSimpArgs false
/-- what is left at a place -/
def Here (L : List Nat) (a : Nat) (s : List Nat) : Prop := L.drop a = s ∧ a ≤ L.length
theorem Here.rest {L s : List Nat} {a : Nat} (h : Here L a s) : rest L L.length a = s := by
  unfold Proofs.YtggfaalodojjkaaGreatDoor.rest
  rw [List.take_of_length_le (by rw [List.length_drop]; omega)]
  exact h.1
theorem Here.next {L s e : List Nat} {a : Nat} (h : Here L a (e ++ s)) : Here L (a + e.length) s := by
  obtain ⟨h1, h2⟩ := h
  have hl := congrArg List.length h1
  rw [List.length_drop, List.length_append] at hl
  refine ⟨?_, by omega⟩
  rw [← List.drop_drop, h1, List.drop_left]
theorem Here.len {L s : List Nat} {a : Nat} (h : Here L a s) : a + s.length = L.length := by
  have hl := congrArg List.length h.1
  rw [List.length_drop] at hl
  have := h.2
  omega
theorem byF_here {L s : List Nat} {a b : Nat} (h : Here L a (b :: s)) : byF L L.length a 0 = (b, a + 1, 0) := by
  have hl := h.len
  rw [List.length_cons] at hl
  unfold byF
  rw [if_pos rfl, if_pos (by omega)]
  have e : L[a]? = some b := by
    have := congrArg (fun z => z[0]?) h.1
    simpa [List.getElem?_drop] using this
  rw [List.getD_eq_getElem?_getD, e]
  rfl
theorem nuF_here {L s : List Nat} {a n : Nat} {k : Int} (h : Here L a (Leb.enc (Leb.szU n) n ++ s)) (hn : n < 18446744073709551616) (hk : 1 ≤ k ∧ k ≤ 64) (hlt : n < 2 ^ k.toNat) :
    nuF L L.length k a 0 = (n, a + (Leb.enc (Leb.szU n) n).length, 0) := by
  have e := Leb.uns_enc n k (by omega) hk.1 hk.2
  rw [if_pos hlt] at e
  unfold nuF
  rw [if_pos rfl, h.rest, uns_app _ _ _ (by rw [e]; simp), e, enc_len]
theorem nuF_z {L s : List Nat} {a : Nat} {z : Int} {k : Int} (h : Here L a (Leb.enc (Leb.szU z.toNat) z.toNat ++ s)) (hn : 0 ≤ z ∧ z < 18446744073709551616) (hk : 1 ≤ k ∧ k ≤ 64) (hlt : z.toNat < 2 ^ k.toNat) :
    ∃ p, nuF L L.length k a 0 = (z.toNat, p, 0) ∧ Here L p s := ⟨_, nuF_here h (by omega) hk hlt, h.next⟩
theorem wdF_here {L s : List Nat} {a : Nat} {v : Int} {k : Int} (h : Here L a (Leb.enc (Leb.szS v) v ++ s)) (hn : -9223372036854775808 ≤ v ∧ v < 9223372036854775808) (hk : 1 ≤ k ∧ k ≤ 64) (hlt : Leb.fit k.toNat v) :
    wdF L L.length k a 0 = (Wd.cut k (wu v), a + (Leb.enc (Leb.szS v) v).length, 0) := by
  have e := Leb.sgn_enc v k hn.1 hn.2 hk.1 hk.2
  rw [if_pos hlt] at e
  unfold wdF sgF
  rw [if_pos rfl, h.rest, sgn_app _ _ _ (by rw [e]; simp), e, enc_len]
theorem putL_two (a b : List Int) : putL (a ++ b) = putL a ++ putL b := by
  induction a with
  | nil => rfl
  | cons z a ih => show Leb.enc _ _ ++ putL (a ++ b) = _; rw [ih, ← List.append_assoc]; rfl
theorem lbK_here {L s : List Nat} {a : Nat} {ls : List Int} (h : Here L a (putL ls ++ s)) (hl : ∀ z ∈ ls, 0 ≤ z ∧ z ≤ 4294967295) :
    ∀ k, k ≤ ls.length → ∃ p, lbK L L.length k a 0 = ((ls.take k).map Int.toNat, p, 0) ∧ Here L p (putL (ls.drop k) ++ s) := by
  intro k
  induction k with
  | zero => intro _; exact ⟨a, rfl, h⟩
  | succ k ih =>
    intro hk
    obtain ⟨p, e, hp⟩ := ih (by omega)
    have hd : ls.drop k = ls[k] :: ls.drop (k + 1) := List.drop_eq_getElem_cons (by omega)
    have hz := hl _ (List.getElem_mem (show k < ls.length by omega))
    rw [hd] at hp
    have hp' : Here L p (Leb.enc (Leb.szU (ls[k]).toNat) (ls[k]).toNat ++ (putL (ls.drop (k + 1)) ++ s)) := by
      rw [← List.append_assoc]; exact hp
    obtain ⟨p2, e2, hp2⟩ := nuF_z (k := 32) hp' ⟨hz.1, by omega⟩ (by decide) (by have : (2 : Nat) ^ (32 : Int).toNat = 4294967296 := rfl; rw [this]; omega)
    refine ⟨p2, ?_, hp2⟩
    unfold lbK
    rw [e]
    dsimp only
    rw [e2, List.take_succ_eq_append_getElem (by omega), List.map_append]
    rfl
theorem forOk : (OPS.all fun q => !decide (ForP ((q.1.first + q.2 : Nat) : Int))) = true := by kernel_rfl
theorem for_in {c : Int} {r : Rw} {i : Nat} (h : OpAt c r i) : ¬ ForP c := by
  have h1 := List.all_eq_true.1 forOk _ h.1
  simp only [Bool.not_eq_true', decide_eq_false_iff_not] at h1
  have h2 := h.2
  rw [show c = ((r.first + i : Nat) : Int) by omega]
  exact h1
theorem wu_sgn32 (a : Nat) (h : a ≤ 4294967295) : Wd.cut 32 (wu (Wd.sgn 32 a)) = a := by
  have hw := (wu_eq (Wd.sgn 32 a)).1
  rw [IntKind.wrap_u64] at hw
  generalize wu (Wd.sgn 32 a) = u at hw ⊢
  simp only [Wd.sgn, Wd.cut, if_true] at hw ⊢
  split at hw <;> omega
theorem wu_sgn64 (a : Nat) (h : a < 18446744073709551616) : Wd.cut 64 (wu (Wd.sgn 64 a)) = a := by
  have hw := (wu_eq (Wd.sgn 64 a)).1
  rw [IntKind.wrap_u64] at hw
  generalize wu (Wd.sgn 64 a) = u at hw ⊢
  simp only [Wd.sgn, Wd.cut, show ((64 : Int) = 32) = False from by simp, if_false] at hw ⊢
  split at hw <;> omega
theorem pow32 : (2 : Nat) ^ (32 : Int).toNat = 4294967296 := rfl
theorem pow64 : (2 : Nat) ^ (64 : Int).toNat = 18446744073709551616 := rfl
theorem head_here {s : List Nat} {c : Int} (hc : (0 ≤ c ∧ c < 252) ∨ (64512 ≤ c ∧ c < 100000)) : ∃ p, cdF (headL c ++ s) (headL c ++ s).length 0 0 = (c, p, 0) ∧ Here (headL c ++ s) p s := by
  obtain ⟨L, hL⟩ : ∃ L, L = headL c ++ s := ⟨_, rfl⟩
  have h1 : Here L 0 (headL c ++ s) := ⟨by rw [hL]; rfl, by omega⟩
  rw [← hL]
  clear hL
  unfold headL at h1
  by_cases hlo : c < 64512
  · rw [if_pos hlo] at h1
    have hb := byF_here h1
    refine ⟨0 + 1, ?_, h1.next (e := [(c % 256).toNat])⟩
    unfold cdF
    rw [hb]
    dsimp only
    rw [if_neg (by omega)]
    rw [show (((c % 256).toNat : Nat) : Int) = c by omega]
  · rw [if_neg hlo] at h1
    have hb := byF_here h1
    have h2 : Here L (0 + 1) (Leb.enc (Leb.szU (c - 64512).toNat) (c - 64512).toNat ++ s) := h1.next (e := [252])
    have e2 := nuF_here (k := 32) h2 (by omega) (by decide) (by rw [pow32]; omega)
    refine ⟨_, ?_, h2.next⟩
    unfold cdF
    rw [hb]
    dsimp only
    rw [if_pos rfl, e2]
    dsimp only
    rw [show 64512 + (((c - 64512).toNat : Nat) : Int) = c by omega]
end Go.Proofs.YtggfaalodojjkaaGreatDoor
namespace Go.Proofs.YtggfaalodojjkaaGreatDoor
open Go.RowKit
set_option linter.unusedVariables false
set_option linter.unusedSimpArgs false
theorem nuF_last {L : List Nat} {a : Nat} {z : Int} {k : Int} (h : Here L a (putL [z])) (hn : 0 ≤ z ∧ z < 18446744073709551616) (hk : 1 ≤ k ∧ k ≤ 64) (hlt : z.toNat < 2 ^ k.toNat) :
    nuF L L.length k a 0 = (z.toNat, L.length, 0) := by
  have h' : Here L a (Leb.enc (Leb.szU z.toNat) z.toNat ++ []) := h
  obtain ⟨p, e, hp⟩ := nuF_z h' hn hk hlt
  have := hp.len
  rw [List.length_nil] at this
  rw [e, show p = L.length by omega]
theorem here_cons {L : List Nat} {a : Nat} {z : Int} {N : List Int} (h : Here L a (putL (z :: N))) : Here L a (Leb.enc (Leb.szU z.toNat) z.toNat ++ putL N) := h
theorem bnA (f : Nat) (y : Nat) (a b : Int) (ha : a ≤ (bn (f : Int) y).a) (hb : b ≤ (bn (f : Int) y).b) (h8 : f ≤ 11) (h11 : f ≠ 11) : a ≤ 4294967295 ∧ (f ≠ 8 → b ≤ 4294967295) := by
  have hc : f = 0 ∨ f = 1 ∨ f = 2 ∨ f = 3 ∨ f = 4 ∨ f = 5 ∨ f = 6 ∨ f = 7 ∨ f = 8 ∨ f = 9 ∨ f = 10 := by omega
  rcases hc with rfl | rfl | rfl | rfl | rfl | rfl | rfl | rfl | rfl | rfl | rfl <;> simp [bn] at ha hb ⊢ <;> omega
set_option maxHeartbeats 1000000 in
theorem arm_enc (x : In) (r : Rw) (hr : rightI x r) (hx : InW x) (L : List Nat) (p : Nat)
    (h : Here L p (if r.form = 11 then Leb.enc (Leb.szS (conI x r)) (conI x r) else putL (numI x r.form))) :
    armF L L.length ((r.form : Nat) : Int) (btT (r.gives.getD 0 0)) x.cd p 0 = (x, L.length, 0) := by
  obtain ⟨b1, b2, b3, b4, b5, b6, b7, b8⟩ := right_bn hr hx
  obtain ⟨hm, _, fa, fb, _, _, _, fl⟩ := right_facts hr
  obtain ⟨i, ho⟩ := right_op hr
  have hb1 : r.form = 1 → bkB x.a = true := by
    intro e
    obtain ⟨k, _, _, hb⟩ := hr
    unfold riB at hb
    simp only [e, Bool.and_eq_true, decide_true, Bool.true_and, Bool.not_not] at hb
    exact hb.2
  have hle := (row_small r hm).2.2
  have hA := fun h11 => bnA r.form (r.gives.getD 0 0) x.a x.b fa fb hle h11
  have hw := wide_in ho
  have x0 := hx.a
  have y0 := hx.b
  have l0 := hx.l
  obtain ⟨cd, a, b, al, l⟩ := x
  dsimp only at *
  unfold conI at h
  dsimp only at h
  generalize r.form = fo at *
  have hc : fo = 0 ∨ fo = 1 ∨ fo = 2 ∨ fo = 3 ∨ fo = 4 ∨ fo = 5 ∨ fo = 6 ∨ fo = 7 ∨ fo = 8 ∨ fo = 9 ∨ fo = 10 ∨ fo = 11 := by omega
  rcases hc with rfl | rfl | rfl | rfl | rfl | rfl | rfl | rfl | rfl | rfl | rfl | rfl
  case inl =>
    simp [numI, putL] at h
    have hl := h.len
    simp at hl b1 b2 b3 b4
    simp [armF, b1, b2, b3, b4, hl]
  case inr.inl =>
    simp [numI] at h
    simp at b2 b3 b4
    have hbk := hb1 rfl
    have ha : a = 64 ∨ a = 127 ∨ a = 126 := by
      unfold bkB at hbk
      simpa [or_assoc] using hbk
    have hs : Leb.enc (Leb.szU a.toNat) a.toNat = [a.toNat] := by
      rw [Leb.szU_lo _ (by omega)]
      unfold Leb.enc
      congr 1
      omega
    have h' : Here L p (a.toNat :: []) := by
      have := here_cons h
      rw [hs] at this
      exact this
    have hl := h'.len
    simp at hl
    have e := byF_here h'
    have e2 : btF L L.length p 0 = (a.toNat, L.length, 0) := by
      unfold btF
      rw [e]
      dsimp only
      rw [show ((a.toNat : Nat) : Int) = a by omega, hbk, if_pos rfl, hl]
    simp [armF, e2, b2, b3, b4]
    omega
  case inr.inr.inr.inl =>
    simp [numI] at h
    simp at b2 b3
    have hA' := hA (by decide)
    have h1 : Here L p (Leb.enc (Leb.szU ((l.length : Int)).toNat) ((l.length : Int)).toNat ++ (putL (l ++ [a]))) := h
    obtain ⟨p1, e1, h2⟩ := nuF_z (k := 32) h1 ⟨by omega, by omega⟩ (by decide) (by rw [pow32]; omega)
    rw [putL_two] at h2
    obtain ⟨p2, e2, h3⟩ := lbK_here h2 (fun z hz => ⟨(l0 z hz).1, fl z hz⟩) l.length (Nat.le_refl _)
    rw [List.drop_length] at h3
    have e3 := nuF_last (k := 32) (show Here L p2 (putL [a]) from h3) x0 (by decide) (by rw [pow32]; omega)
    rw [show ((l.length : Int)).toNat = l.length by omega] at e1
    have eL : lbF L L.length p 0 = (l.map Int.toNat, p2, 0) := by
      unfold lbF
      rw [e1]
      dsimp only
      rw [if_neg (by omega), e2, List.take_length]
    have em : (l.map Int.toNat).map (fun n : Nat => (n : Int)) = l := by
      rw [List.map_map]
      have : ∀ z ∈ l, ((fun n : Nat => (n : Int)) ∘ Int.toNat) z = z := fun z hz => by have := (l0 z hz).1; simp; omega
      rw [List.map_congr_left this, List.map_id']
    simp only [armF, eL, e3, em, b2, b3, show ((3 : Nat) : Int) = 3 from rfl]
    simp
    omega
  case inr.inr.inr.inr.inr.inl =>
    simp [numI] at h
    simp at b3 b4
    have hA' := hA (by decide)
    obtain ⟨p1, e1, h2⟩ := nuF_z (k := 32) (here_cons h) x0 (by decide) (by rw [pow32]; omega)
    have e2 := nuF_last (k := 32) h2 y0 (by decide) (by have := hA'.2 (by decide); rw [pow32]; omega)
    simp [armF, e1, e2, b3, b4]
    omega
  case inr.inr.inr.inr.inr.inr.inr.inr.inr.inr.inl =>
    simp [numI] at h
    simp at b3 b4
    have hA' := hA (by decide)
    obtain ⟨p1, e1, h2⟩ := nuF_z (k := 32) (here_cons h) x0 (by decide) (by rw [pow32]; omega)
    have e2 := nuF_last (k := 32) h2 y0 (by decide) (by have := hA'.2 (by decide); rw [pow32]; omega)
    simp [armF, e1, e2, b3, b4]
    omega
  case inr.inr.inr.inr.inr.inr.inr.inr.inl =>
    simp at b4
    have hA' := hA (by decide)
    by_cases ha : a = 0
    · subst ha
      simp [numI] at h
      obtain ⟨p1, e1, h2⟩ := nuF_z (k := 32) (here_cons h) ⟨b5, by omega⟩ (by decide) (by rw [pow32]; omega)
      have e2 := nuF_last (k := 64) h2 y0 (by decide) (by rw [pow64]; omega)
      have e3 : acF L L.length p 0 = ((al.toNat, 0, b.toNat), L.length, 0) := by
        unfold acF
        rw [e1]
        dsimp only
        rw [if_neg (by omega)]
        unfold acE
        rw [if_neg (by omega), e2]
      simp [armF, e3, b4]
      omega
    · simp [numI, ha] at h
      obtain ⟨p1, e1, h2⟩ := nuF_z (k := 32) (here_cons h) ⟨by omega, by omega⟩ (by decide) (by rw [pow32]; omega)
      obtain ⟨p2, e2, h3⟩ := nuF_z (k := 32) (here_cons h2) x0 (by decide) (by rw [pow32]; omega)
      have e3 := nuF_last (k := 64) h3 y0 (by decide) (by rw [pow64]; omega)
      have hn : (64 + al).toNat - 64 = al.toNat := by omega
      have e4 : acF L L.length p 0 = ((al.toNat, a.toNat, b.toNat), L.length, 0) := by
        unfold acF
        rw [e1]
        dsimp only
        rw [if_pos (by omega), hn]
        unfold acE
        rw [if_neg (by omega), e2]
        dsimp only
        rw [e3]
      simp [armF, e4, b4]
      omega
  case inr.inr.inr.inr.inr.inr.inr.inr.inr.inr.inr =>
    simp at b2 b3 b4 h
    have h' : Here L p (Leb.enc (Leb.szS (Wd.sgn (btT (r.gives.getD 0 0)) a.toNat)) (Wd.sgn (btT (r.gives.getD 0 0)) a.toNat) ++ []) := by
      rw [List.append_nil]; simpa using h
    rcases hw rfl with ⟨hg, hcd⟩ | ⟨hg, hcd⟩
    · have ha := b8 rfl hg
      rw [hg] at h' ⊢
      have hbt : btT ([127].getD 0 0) = 32 := rfl
      rw [hbt] at h' ⊢
      rw [show ((32 : Nat) : Int) = 32 from rfl] at h'
      have hs : -2147483648 ≤ Wd.sgn 32 a.toNat ∧ Wd.sgn 32 a.toNat < 2147483648 := by
        simp only [Wd.sgn, if_true]; split <;> omega
      have e := wdF_here (k := 32) h' ⟨by omega, by omega⟩ (by decide) (by
        unfold Leb.fit
        have : (2 : Int) ^ ((32 : Int).toNat - 1) = 2147483648 := rfl
        rw [this]; omega)
      have hl := (h'.next).len
      simp only [List.length_nil] at hl
      rw [wu_sgn32 _ (by omega)] at e
      have e' : wdF L L.length ((32 : Nat) : Int) p 0 = (a.toNat, L.length, 0) := by
        rw [show (((32 : Nat)) : Int) = 32 from rfl, e]
        simp only [Nat.add_zero] at hl
        rw [← hl]
      simp only [armF, e', b2, b3, b4, show ((11 : Nat) : Int) = 11 from rfl]
      simp
      omega
    · rw [hg] at h' ⊢
      have hbt : btT ([126].getD 0 0) = 64 := rfl
      rw [hbt] at h' ⊢
      rw [show ((64 : Nat) : Int) = 64 from rfl] at h'
      have hs := sgn_in 64 a.toNat (by omega)
      have e := wdF_here (k := 64) h' ⟨by exact hs.1, by exact hs.2⟩ (by decide) (by
        unfold Leb.fit
        have : (2 : Int) ^ ((64 : Int).toNat - 1) = 9223372036854775808 := rfl
        rw [this]; exact ⟨hs.1, hs.2⟩)
      have hl := (h'.next).len
      simp only [List.length_nil] at hl
      rw [wu_sgn64 _ (by omega)] at e
      have e' : wdF L L.length ((64 : Nat) : Int) p 0 = (a.toNat, L.length, 0) := by
        rw [show (((64 : Nat)) : Int) = 64 from rfl, e]
        simp only [Nat.add_zero] at hl
        rw [← hl]
      simp only [armF, e', b2, b3, b4, show ((11 : Nat) : Int) = 11 from rfl]
      simp
      omega
  all_goals
    simp [numI] at h
    simp at b2 b3 b4
    have hA' := hA (by decide)
    have e1 := nuF_last (k := 32) h x0 (by decide) (by rw [pow32]; omega)
    simp [armF, e1, b2, b3, b4]
    omega
/-- what is read of an instruction's bytes, they alone, is the instruction -/
theorem dec_enc (x : In) (r : Rw) (hr : rightI x r) (hx : InW x) : ∃ p i, OpAt x.cd r i ∧ cdF (encL x r) (encL x r).length 0 0 = (x.cd, p, 0) ∧ fgE x.cd 0 = 0 ∧ armF (encL x r) (encL x r).length ((r.form : Nat) : Int) (btT (r.gives.getD 0 0)) x.cd p 0 = (x, (encL x r).length, 0) := by
  obtain ⟨i, ho⟩ := right_op hr
  obtain ⟨p, e, h⟩ := head_here (s := (if r.form = 11 then Leb.enc (Leb.szS (conI x r)) (conI x r) else putL (numI x r.form))) (code_in ho)
  refine ⟨p, i, ho, e, ?_, arm_enc x r hr hx _ p h⟩
  unfold fgE
  rw [if_neg (for_in ho)]
end Go.Proofs.YtggfaalodojjkaaGreatDoor
