/-
  instr: of right instructions' bytes none begin with another one's: plain mathematics.
-/
import Derived.Test.YtggfaalodojjkaaGreatDoorX4
import Derived.Test.YtggfaalodojjkaaGreatDoorX2
import Derived.Test.YtggfaalodojjkaaGreatDoorX3
import Derived.BigGuard
import Derived.Deep.RegionHeld3
import Derived.Test.YtggfaalodojjkaaGreatDoorTie
import Derived.ProofKit
import Derived.LaidMore
import Derived.OpenShut
import Derived.Stop.Joined
import Derived.Stop.LaidErr
import Derived.ChangeOld
import Derived.Below
import Derived.SevenTiedAt
import Derived.Lay
import Derived.Handed
import Derived.Shelf.Vars
import Derived.Lib.LaidU8
import Derived.ChangeMaps5
import Derived.Deep.Slices
import Derived.Deep.Fields
import Derived.ChangeSame
import Derived.ChangeSlices
import Derived.SizedLaws
import Derived.ChangeArms
import Derived.ShutString
namespace Go.Proofs.YtggfaalodojjkaaGreatDoor
open Go.RowKit
set_option linter.unusedVariables false
set_option linter.unusedSimpArgs false
theorem Leb.enc_cut : ∀ (k k' : Nat) (n n' : Int) (r s : List Nat), Leb.enc k n ++ r = Leb.enc k' n' ++ s → k = k' ∧ Leb.enc k n = Leb.enc k' n' ∧ r = s := by
  intro k
  induction k with
  | zero =>
    intro k' n n' r s h
    cases k' with
    | zero =>
      simp only [Leb.enc, List.cons_append, List.nil_append, List.cons.injEq] at h ⊢
      exact ⟨trivial, ⟨h.1, trivial⟩, h.2⟩
    | succ k' =>
      simp only [Leb.enc, List.cons_append, List.nil_append, List.cons.injEq] at h
      omega
  | succ k ih =>
    intro k' n n' r s h
    cases k' with
    | zero =>
      simp only [Leb.enc, List.cons_append, List.nil_append, List.cons.injEq] at h
      omega
    | succ k' =>
      simp only [Leb.enc, List.cons_append, List.cons.injEq] at h ⊢
      obtain ⟨h1, h2⟩ := h
      obtain ⟨e1, e2, e3⟩ := ih _ _ _ _ _ h2
      exact ⟨by omega, ⟨h1, e2⟩, e3⟩
theorem Leb.put_cut (a b : Int) (ha : 0 ≤ a ∧ a < 18446744073709551616) (hb : 0 ≤ b ∧ b < 18446744073709551616) (r s : List Nat)
    (h : Leb.enc (Leb.szU a.toNat) a.toNat ++ r = Leb.enc (Leb.szU b.toNat) b.toNat ++ s) : a = b ∧ r = s := by
  obtain ⟨e1, e2, e3⟩ := Leb.enc_cut _ _ _ _ _ _ h
  have p : (128 * 2 ^ (7 * 9) : Nat) = 1180591620717411303424 := by decide
  have l1 := Leb.szU_lt 9 a.toNat (by omega)
  have l2 := Leb.szU_lt 9 b.toNat (by omega)
  have v1 := Leb.val_enc _ _ l1
  have v2 := Leb.val_enc _ _ l2
  rw [e2, v2] at v1
  exact ⟨by omega, e3⟩
theorem Leb.sput_cut (a b : Int) (ha : -9223372036854775808 ≤ a ∧ a < 9223372036854775808) (hb : -9223372036854775808 ≤ b ∧ b < 9223372036854775808) (r s : List Nat)
    (h : Leb.enc (Leb.szS a) a ++ r = Leb.enc (Leb.szS b) b ++ s) : a = b ∧ r = s := by
  obtain ⟨e1, e2, e3⟩ := Leb.enc_cut _ _ _ _ _ _ h
  have p : (64 * 2 ^ (7 * 9) : Nat) = 590295810358705651712 := by decide
  have l1 := Leb.szS_in 9 a (by omega) (by omega)
  have l2 := Leb.szS_in 9 b (by omega) (by omega)
  have v1 := Leb.svl_enc _ _ l1.1 l1.2
  have v2 := Leb.svl_enc _ _ l2.1 l2.2
  rw [e2, v2] at v1
  exact ⟨v1.symm, e3⟩
def W64 (z : Int) : Prop := 0 ≤ z ∧ z < 18446744073709551616
theorem putL_cut : ∀ (N M : List Int) (r s : List Nat), N.length = M.length → (∀ z ∈ N, W64 z) → (∀ z ∈ M, W64 z) → putL N ++ r = putL M ++ s → N = M ∧ r = s := by
  intro N
  induction N with
  | nil =>
    intro M r s hl _ _ h
    cases M with
    | nil => simpa [putL] using h
    | cons _ _ => simp at hl
  | cons z N ih =>
    intro M r s hl hN hM h
    cases M with
    | nil => simp at hl
    | cons y M =>
      simp only [putL, List.append_assoc] at h
      obtain ⟨e, h2⟩ := Leb.put_cut z y (hN z (by simp)) (hM y (by simp)) _ _ h
      obtain ⟨e2, e3⟩ := ih M r s (by simpa using hl) (fun q hq => hN q (by simp [hq])) (fun q hq => hM q (by simp [hq])) h2
      exact ⟨by rw [e, e2], e3⟩
theorem headL_cut (c d : Int) (hc : (0 ≤ c ∧ c < 252) ∨ (64512 ≤ c ∧ c < 100000)) (hd : (0 ≤ d ∧ d < 252) ∨ (64512 ≤ d ∧ d < 100000)) (r s : List Nat) (h : headL c ++ r = headL d ++ s) : c = d ∧ r = s := by
  unfold headL at h
  rcases hc with hc | hc <;> rcases hd with hd | hd
  · rw [if_pos (by omega), if_pos (by omega)] at h
    simp only [List.cons_append, List.nil_append, List.cons.injEq] at h
    exact ⟨by omega, h.2⟩
  · rw [if_pos (by omega), if_neg (by omega)] at h
    simp only [List.cons_append, List.nil_append, List.cons.injEq] at h
    omega
  · rw [if_neg (by omega), if_pos (by omega)] at h
    simp only [List.cons_append, List.nil_append, List.cons.injEq] at h
    omega
  · rw [if_neg (by omega), if_neg (by omega)] at h
    simp only [List.cons_append, List.cons.injEq] at h
    obtain ⟨e, e2⟩ := Leb.put_cut (c - 64512) (d - 64512) ⟨by omega, by omega⟩ ⟨by omega, by omega⟩ _ _ h.2
    exact ⟨by omega, e2⟩
theorem codesOk : (OPS.all fun q => decide (q.1.first + q.2 < 252) || (decide (64512 ≤ q.1.first + q.2) && decide (q.1.first + q.2 < 100000))) = true := by kernel_rfl
theorem formsOk : (OPS.all fun q => decide (formL ((q.1.first + q.2 : Nat) : Int) = ((q.1.form : Nat) : Int))) = true := by kernel_rfl
theorem widesOk : (OPS.all fun q => !(decide (q.1.form = 11)) || decide (q.1.gives = [127] ∧ q.1.first + q.2 = 65) || decide (q.1.gives = [126] ∧ q.1.first + q.2 ≠ 65)) = true := by kernel_rfl
theorem code_in {c : Int} {r : Rw} {i : Nat} (h : OpAt c r i) : (0 ≤ c ∧ c < 252) ∨ (64512 ≤ c ∧ c < 100000) := by
  have h1 := List.all_eq_true.1 codesOk _ h.1
  simp only [Bool.or_eq_true, Bool.and_eq_true, decide_eq_true_eq] at h1
  have := h.2
  omega
theorem form_in {c : Int} {r : Rw} {i : Nat} (h : OpAt c r i) : formL c = ((r.form : Nat) : Int) := by
  have h1 := List.all_eq_true.1 formsOk _ h.1
  simp only [decide_eq_true_eq] at h1
  have h2 := h.2
  rw [show c = ((r.first + i : Nat) : Int) by omega]
  exact h1
theorem wide_in {c : Int} {r : Rw} {i : Nat} (h : OpAt c r i) (h11 : r.form = 11) : (r.gives = [127] ∧ c = 65) ∨ (r.gives = [126] ∧ c ≠ 65) := by
  have h1 := List.all_eq_true.1 widesOk _ h.1
  simp only [h11, Bool.or_eq_true, decide_eq_true_eq, Bool.not_eq_true', decide_true, decide_false] at h1
  have h2 := h.2
  rcases h1 with (h1 | h1) | h1
  · cases h1
  · exact .inl ⟨h1.1, by omega⟩
  · exact .inr ⟨h1.1, by omega⟩
theorem right_op {x : In} {r : Rw} (h : rightI x r) : ∃ i, OpAt x.cd r i := by
  obtain ⟨k, hk, hi, _⟩ := h
  exact ⟨_, mem_OPS.2 ⟨rw_of hk, hi⟩, by have := hk.2.1; omega⟩
theorem right_uniq {x y : In} {r s : Rw} (h : rightI x r) (h' : rightI y s) (e : x.cd = y.cd) : r = s := by
  obtain ⟨k, hk, _⟩ := h
  obtain ⟨k', hk', _⟩ := h'
  rw [← e] at hk'
  exact (RowOf.uniq hk hk').2
theorem bn_facts (f : Nat) (hf : f ≤ 11) (y : Nat) (a b al n : Int) (h1 : 0 ≤ a) (h2 : 0 ≤ b) (h0 : 0 ≤ al) (hn0 : 0 ≤ n)
    (ha : a ≤ (bn (f : Int) y).a) (hb : b ≤ (bn (f : Int) y).b) (hl : al ≤ (bn (f : Int) y).al) (hn : n ≤ (bn (f : Int) y).lb) :
    (f = 0 → a = 0) ∧ (f ≠ 5 → f ≠ 10 → f ≠ 8 → b = 0) ∧ (f ≠ 8 → al = 0) ∧ (f ≠ 3 → n = 0) ∧ al ≤ 31 ∧ n ≤ 100 ∧ (f = 11 → y = 127 → a ≤ 4294967295) := by
  have hc : f = 0 ∨ f = 1 ∨ f = 2 ∨ f = 3 ∨ f = 4 ∨ f = 5 ∨ f = 6 ∨ f = 7 ∨ f = 8 ∨ f = 9 ∨ f = 10 ∨ f = 11 := by omega
  rcases hc with rfl | rfl | rfl | rfl | rfl | rfl | rfl | rfl | rfl | rfl | rfl | rfl <;> simp [bn] at ha hb hl hn ⊢
  case inr.inr.inr.inr.inr.inr.inr.inr.inr.inr.inr =>
    by_cases hy : y = 127 <;> simp [hy] at ha hb hl hn ⊢ <;> omega
  all_goals omega
theorem right_bn {x : In} {r : Rw} (h : rightI x r) (hx : InW x) :
    (r.form = 0 → x.a = 0) ∧ (r.form ≠ 5 → r.form ≠ 10 → r.form ≠ 8 → x.b = 0) ∧ (r.form ≠ 8 → x.al = 0) ∧ (r.form ≠ 3 → x.l = []) ∧ 0 ≤ x.al ∧ x.al ≤ 31 ∧ x.l.length ≤ 100 ∧ (r.form = 11 → r.gives = [127] → x.a ≤ 4294967295) := by
  obtain ⟨hm, _, ha, hb, h0, hl, hn, _⟩ := right_facts h
  unfold bnR at ha hb hl hn
  obtain ⟨q1, q2, q3, q4, q5, q6, q7⟩ := bn_facts r.form (row_small r hm).2.2 (r.gives.getD 0 0) x.a x.b x.al (x.l.length : Int) hx.a.1 hx.b.1 h0 (by omega) ha hb hl hn
  exact ⟨q1, q2, q3, fun h => List.eq_nil_of_length_eq_zero (by have := q4 h; omega), h0, q5, by omega, fun h1 h2 => q7 h1 (by rw [h2]; rfl)⟩
theorem sgn_in (n : Int) (a : Nat) (ha : a < 18446744073709551616) : -9223372036854775808 ≤ Wd.sgn n a ∧ Wd.sgn n a < 9223372036854775808 := by
  unfold Wd.sgn
  split
  · split <;> omega
  · split <;> omega
theorem sgn_32 (a b : Nat) (ha : a ≤ 4294967295) (hb : b ≤ 4294967295) (h : Wd.sgn 32 a = Wd.sgn 32 b) : a = b := by
  unfold Wd.sgn at h
  rw [if_pos rfl, if_pos rfl, Nat.mod_eq_of_lt (by omega), Nat.mod_eq_of_lt (by omega)] at h
  split at h <;> split at h <;> omega
theorem sgn_64 (a b : Nat) (ha : a < 18446744073709551616) (hb : b < 18446744073709551616) (h : Wd.sgn 64 a = Wd.sgn 64 b) : a = b := by
  unfold Wd.sgn at h
  rw [if_neg (show ¬ (64 : Int) = 32 by decide), if_neg (show ¬ (64 : Int) = 32 by decide)] at h
  split at h <;> split at h <;> omega
/-- no right instruction's bytes begin with another one's -/
theorem enc_apart (x y : In) (r s : Rw) (hr : rightI x r) (hs : rightI y s) (hx : InW x) (hy : InW y) (t : List Nat) (h : encL x r ++ t = encL y s) : x = y := by
  obtain ⟨i, hi⟩ := right_op hr
  obtain ⟨j, hj⟩ := right_op hs
  unfold encL at h
  rw [List.append_assoc] at h
  obtain ⟨ec, h2⟩ := headL_cut x.cd y.cd (code_in hi) (code_in hj) _ _ h
  obtain rfl := right_uniq hr hs ec
  obtain ⟨a1, a2, a3, a4, a5, a6, a7, a8⟩ := right_bn hr hx
  obtain ⟨b1, b2, b3, b4, b5, b6, b7, b8⟩ := right_bn hs hy
  obtain ⟨_, xa, xb, xl, _⟩ := hx
  obtain ⟨_, ya, yb, yl, _⟩ := hy
  suffices hq : x.a = y.a ∧ x.b = y.b ∧ x.al = y.al ∧ x.l = y.l by
    obtain ⟨c1, a1', b1', l1, m1⟩ := x
    obtain ⟨c2, a2', b2', l2, m2⟩ := y
    simp only at ec hq
    rw [ec, hq.1, hq.2.1, hq.2.2.1, hq.2.2.2]
  clear h
  by_cases h11 : r.form = 11
  · rw [if_pos h11, if_pos h11, ← List.append_nil (Leb.enc (Leb.szS (conI y r)) (conI y r))] at h2
    have n1 : x.a.toNat < 18446744073709551616 := by omega
    have n2 : y.a.toNat < 18446744073709551616 := by omega
    obtain ⟨e, _⟩ := Leb.sput_cut (conI x r) (conI y r) (sgn_in _ _ n1) (sgn_in _ _ n2) _ _ h2
    unfold conI at e
    refine ⟨?_, by rw [a2 (by omega) (by omega) (by omega), b2 (by omega) (by omega) (by omega)], by rw [a3 (by omega), b3 (by omega)], by rw [a4 (by omega), b4 (by omega)]⟩
    rcases wide_in hi h11 with ⟨g, _⟩ | ⟨g, _⟩
    · rw [g] at e
      have := a8 h11 g
      have := b8 h11 g
      have := sgn_32 _ _ (by omega) (by omega) e
      omega
    · rw [g] at e
      have := sgn_64 _ _ n1 n2 e
      omega
  rw [if_neg h11, if_neg h11, ← List.append_nil (putL (numI y r.form))] at h2
  by_cases h3 : r.form = 3
  · rw [h3] at h2
    simp only [numI, if_true, List.singleton_append, List.cons_append, putL, List.append_assoc, show ((3 : Nat) = 0) = False by simp, if_false] at h2
    obtain ⟨e1, h2⟩ := Leb.put_cut _ _ ⟨by omega, by omega⟩ ⟨by omega, by omega⟩ _ _ h2
    obtain ⟨e2, _⟩ := putL_cut (x.l ++ [x.a]) (y.l ++ [y.a]) _ _ (by simp; omega) (by
      intro z hz
      simp only [List.mem_append, List.mem_cons, List.not_mem_nil, or_false] at hz
      rcases hz with hz | rfl
      · exact xl z hz
      · exact xa) (by
      intro z hz
      simp only [List.mem_append, List.mem_cons, List.not_mem_nil, or_false] at hz
      rcases hz with hz | rfl
      · exact yl z hz
      · exact ya) h2
    obtain ⟨e3, e4⟩ := List.append_inj e2 (by omega)
    exact ⟨by simpa using e4, by rw [a2 (by omega) (by omega) (by omega), b2 (by omega) (by omega) (by omega)], by rw [a3 (by omega), b3 (by omega)], e3⟩
  by_cases h0 : r.form = 0
  · exact ⟨by rw [a1 h0, b1 h0], by rw [a2 (by omega) (by omega) (by omega), b2 (by omega) (by omega) (by omega)], by rw [a3 (by omega), b3 (by omega)], by rw [a4 h3, b4 h3]⟩
  by_cases h5 : r.form = 5 ∨ r.form = 10
  · have e : ∀ z : In, numI z r.form = [z.a, z.b] := by intro z; unfold numI; rw [if_neg h0, if_neg h3, if_pos h5]
    rw [e, e] at h2
    obtain ⟨e2, _⟩ := putL_cut [x.a, x.b] [y.a, y.b] _ _ rfl (by intro z hz; simp at hz; rcases hz with rfl | rfl; exact xa; exact xb) (by intro z hz; simp at hz; rcases hz with rfl | rfl; exact ya; exact yb) h2
    simp only [List.cons.injEq, and_true] at e2
    exact ⟨e2.1, e2.2, by rw [a3 (by omega), b3 (by omega)], by rw [a4 h3, b4 h3]⟩
  by_cases h8 : r.form = 8
  · have e : ∀ z : In, numI z r.form = if z.a = 0 then [z.al, z.b] else [64 + z.al, z.a, z.b] := by intro z; unfold numI; rw [if_neg h0, if_neg h3, if_neg h5, if_pos h8]
    rw [e, e] at h2
    have hl : x.l = y.l := by rw [a4 h3, b4 h3]
    by_cases hxa : x.a = 0 <;> by_cases hya : y.a = 0
    · rw [if_pos hxa, if_pos hya] at h2
      obtain ⟨e2, _⟩ := putL_cut [x.al, x.b] [y.al, y.b] _ _ rfl (by intro z hz; simp at hz; rcases hz with rfl | rfl; exact ⟨by omega, by omega⟩; exact xb) (by intro z hz; simp at hz; rcases hz with rfl | rfl; exact ⟨by omega, by omega⟩; exact yb) h2
      simp only [List.cons.injEq, and_true] at e2
      exact ⟨by rw [hxa, hya], e2.2, e2.1, hl⟩
    · rw [if_pos hxa, if_neg hya] at h2
      simp only [putL, List.append_assoc] at h2
      have := (Leb.put_cut _ _ ⟨by omega, by omega⟩ ⟨by omega, by omega⟩ _ _ h2).1
      omega
    · rw [if_neg hxa, if_pos hya] at h2
      simp only [putL, List.append_assoc] at h2
      have := (Leb.put_cut _ _ ⟨by omega, by omega⟩ ⟨by omega, by omega⟩ _ _ h2).1
      omega
    · rw [if_neg hxa, if_neg hya] at h2
      obtain ⟨e2, _⟩ := putL_cut [64 + x.al, x.a, x.b] [64 + y.al, y.a, y.b] _ _ rfl (by intro z hz; simp at hz; rcases hz with rfl | rfl | rfl; exact ⟨by omega, by omega⟩; exact xa; exact xb) (by intro z hz; simp at hz; rcases hz with rfl | rfl | rfl; exact ⟨by omega, by omega⟩; exact ya; exact yb) h2
      simp only [List.cons.injEq, and_true] at e2
      exact ⟨e2.2.1, e2.2.2, by omega, hl⟩
  · have e : ∀ z : In, numI z r.form = [z.a] := by intro z; unfold numI; rw [if_neg h0, if_neg h3, if_neg h5, if_neg h8]
    rw [e, e] at h2
    obtain ⟨e2, _⟩ := putL_cut [x.a] [y.a] _ _ rfl (by intro z hz; simp at hz; rcases hz with rfl; exact xa) (by intro z hz; simp at hz; rcases hz with rfl; exact ya) h2
    simp only [List.cons.injEq, and_true] at e2
    exact ⟨e2, by rw [a2 (by omega) (by omega) h8, b2 (by omega) (by omega) h8], by rw [a3 h8, b3 h8], by rw [a4 h3, b4 h3]⟩
/-- what the law asks of two instructions' bytes that aren't the same ones -/
theorem enc_meet (x y : In) (r s : Rw) (hr : rightI x r) (hs : rightI y s) (hx : InW x) (hy : InW y) (hne : x ≠ y) (n : Nat) (hn : n = min (encL x r).length (encL y s).length) : (encL x r).take n ≠ (encL y s).take n := by
  intro h
  by_cases hle : (encL x r).length ≤ (encL y s).length
  · have e : n = (encL x r).length := by omega
    rw [e, List.take_length] at h
    refine hne (enc_apart x y r s hr hs hx hy ((encL y s).drop (encL x r).length) ?_)
    calc encL x r ++ (encL y s).drop (encL x r).length = (encL y s).take (encL x r).length ++ (encL y s).drop (encL x r).length := by rw [← h]
      _ = encL y s := List.take_append_drop _ _
  · have e : n = (encL y s).length := by omega
    rw [e, List.take_length] at h
    refine hne (enc_apart y x s r hs hr hy hx ((encL x r).drop (encL y s).length) ?_).symm
    calc encL y s ++ (encL x r).drop (encL y s).length = (encL x r).take (encL y s).length ++ (encL x r).drop (encL y s).length := by rw [h]
      _ = encL x r := List.take_append_drop _ _
theorem rg_bn (f : Nat) (hf : f ≤ 11) (y : Nat) (cd a b al n : Int) (h1 : 0 ≤ a ∧ a < 18446744073709551616) (h2 : 0 ≤ b ∧ b < 18446744073709551616) (hw : f = 11 → (y = 127 ∧ cd = 65) ∨ (y = 126 ∧ cd ≠ 65))
    (g1 : ¬ ((f : Int) ≠ 11 ∧ 4294967295 < a)) (g2 : ¬ (cd = 65 ∧ 4294967295 < a)) (g3 : ¬ ((f : Int) ≠ 8 ∧ 4294967295 < b)) (g4 : ¬ ((f : Int) = 0 ∧ a ≠ 0)) (g6 : ¬ ((f : Int) ≠ 5 ∧ (f : Int) ≠ 8 ∧ (f : Int) ≠ 10 ∧ b ≠ 0)) (g7 : ¬ ((f : Int) ≠ 8 ∧ al ≠ 0)) (g8 : ¬ al < 0) (g9 : ¬ 31 < al)
    (g10 : n = 0 ∨ ((f : Int) = 3 ∧ n ≤ 100)) : a ≤ (bn (f : Int) y).a ∧ b ≤ (bn (f : Int) y).b ∧ 0 ≤ al ∧ al ≤ (bn (f : Int) y).al ∧ n ≤ (bn (f : Int) y).lb := by
  have hc : f = 0 ∨ f = 1 ∨ f = 2 ∨ f = 3 ∨ f = 4 ∨ f = 5 ∨ f = 6 ∨ f = 7 ∨ f = 8 ∨ f = 9 ∨ f = 10 ∨ f = 11 := by omega
  rcases hc with rfl | rfl | rfl | rfl | rfl | rfl | rfl | rfl | rfl | rfl | rfl | rfl
  case inr.inr.inr.inr.inr.inr.inr.inr.inr.inr.inr =>
    rcases hw rfl with ⟨rfl, rfl⟩ | ⟨rfl, hne⟩ <;> simp [bn] at * <;> omega
  all_goals clear hw; simp [bn] at *; omega
theorem rgB_out (x : In) (f : Int) (h : rgB x f = true) : ¬ (f ≠ 11 ∧ 4294967295 < x.a) ∧ ¬ (x.cd = 65 ∧ 4294967295 < x.a) ∧ ¬ (f ≠ 8 ∧ 4294967295 < x.b) ∧ ¬ (f = 0 ∧ x.a ≠ 0) ∧ ¬ (f = 1 ∧ x.a ≠ 64 ∧ x.a ≠ 126 ∧ x.a ≠ 127) ∧
    ¬ (f ≠ 5 ∧ f ≠ 8 ∧ f ≠ 10 ∧ x.b ≠ 0) ∧ ¬ (f ≠ 8 ∧ x.al ≠ 0) ∧ ¬ x.al < 0 ∧ ¬ 31 < x.al ∧ okW x.l = true ∧ ((x.l.length : Int) = 0 ∨ (f = 3 ∧ (x.l.length : Int) ≤ 100)) := by
  unfold rgB at h
  generalize okW x.l = o at h ⊢
  simp only [Bool.and_eq_true, Bool.or_eq_true, Bool.not_eq_true', ← Bool.not_eq_true, not_or, not_and, decide_eq_true_eq] at h
  obtain ⟨⟨⟨⟨⟨⟨g1, g2⟩, g3⟩, g4, g5⟩, ⟨⟨g6, g7⟩, g8⟩, g9⟩, g10⟩, g11⟩ := h
  refine ⟨fun q => g1 q.1 q.2, fun q => g2 q.1 q.2, fun q => g3 q.1 q.2, fun q => g4 q.1 q.2, fun q => ?_, fun q => ?_, fun q => g7 q.1 q.2, g8, g9, g10, ?_⟩
  · omega
  · omega
  · omega
/-- what the document takes for right may be -/
theorem right_of_doc (x : In) (hx : InW x) (hn : nameL x.cd ≠ []) (h : rgB x (formL x.cd) = true) : ∃ r, rightI x r := by
  by_cases hop : ∃ r i, OpAt x.cd r i
  · obtain ⟨r, i, ho⟩ := hop
    obtain ⟨k, hk⟩ := RowOf.of_op ho
    have hi := (mem_OPS.1 ho.1).2
    have hc := ho.2
    refine ⟨r, k, hk, by omega, ?_⟩
    have hf := form_in ho
    have hw := wide_in ho
    have hm := (mem_OPS.1 ho.1).1
    have hs := (row_small r hm).2.2
    rw [hf] at h
    obtain ⟨g1, g2, g3, g4, g5, g6, g7, g8, g9, g10, g11⟩ := rgB_out x _ h
    obtain ⟨q1, q2, q3, q4, q5⟩ := rg_bn r.form hs (r.gives.getD 0 0) x.cd x.a x.b x.al (x.l.length : Int) hx.a hx.b (fun h11 => by
      rcases hw h11 with ⟨e, e2⟩ | ⟨e, e2⟩
      · exact .inl ⟨by rw [e]; rfl, e2⟩
      · exact .inr ⟨by rw [e]; rfl, e2⟩) g1 g2 g3 g4 g6 g7 g8 g9 g11
    unfold riB wiB bnR bkB
    simp only [q1, q2, q3, q4, q5, g10, decide_true, Bool.true_and, Bool.and_true]
    by_cases h1 : r.form = 1
    · have : x.a = 64 ∨ x.a = 126 ∨ x.a = 127 := by
        rw [h1] at g5
        omega
      rcases this with e | e | e <;> rw [e] <;> simp
    · simp [h1]
  · exact absurd (name_no (fun r i ho => hop ⟨r, i, ho⟩)) hn
end Go.Proofs.YtggfaalodojjkaaGreatDoor
/-
  The document's Right, whole.
-/
namespace Go.Proofs.YtggfaalodojjkaaGreatDoor
open Go.RowKit
set_option linter.unusedVariables false
set_option linter.unusedSimpArgs false
/-- what the document's Right answers -/
def rrB (x : In) : Bool := !(nameL x.cd).isEmpty && rgB x (formL x.cd)
set_option maxHeartbeats 2000000 in
set_option maxRecDepth 100000 in
theorem RRight_none (cd a b al : Int) (A : Option Addr) (n c : Nat) (hnc : n ≤ c) (hcm : c ≤ 9223372036854775807) (w : World)
    (hN : ∀ W, Calls Tryz.prog 36 #[.int .i64 cd] W fun e w' => e = .returned (.string ⟨#[]⟩) ∧ Below W.heap.size W w') :
    Calls Tryz.prog 11 #[.agg #[.int .i64 cd, .int .u64 a, .int .u64 b, .int .i64 al, .slice A n c]] w fun e w' => e = .returned (.bool false) ∧ Below w.heap.size w w' := by
  obtain ⟨W0, hW0⟩ : ∃ V, V = w.alloc (.cells #[.int .i64 cd, .int .u64 a, .int .u64 b, .int .i64 al, .slice A n c] 25) := ⟨_, rfl⟩
  have hb0 : Below w.heap.size w W0 := by rw [hW0]; exact (Below.refl _ _).alloc (Nat.le_refl _) _
  have hX0 : Blk W0 w.heap.size 25 #[.int .i64 cd, .int .u64 a, .int .u64 b, .int .i64 al, .slice A n c] := by rw [hW0]; exact Blk.new w 25 _
  have HB0 := Lib.hid hb0
  have HW0 := Lib.hid hW0
  have HN := Lib.hid (hN W0)
  have x0 : W0.cell? ⟨w.heap.size, 0, none⟩ = some (.int .i64 cd) := hX0.cell 0
  clear hb0 hX0 hW0 hN
  go_enter Tryz.func11, Tryz.ntmps11
  go_upto_region 1 with fail
  rw [← HW0.out]
  go_wp2_with (go_at_call 36; (with_reducible refine HN.out.mono ?_); rintro e w1 ⟨rfl, hb1⟩; have H1 := Lib.hid (HB0.out.trans (hb1.mono HB0.out.size)); clear hb1)
  go_ret
  exact ⟨rfl, H1.out⟩
theorem RRight_any (x : In) (hx : InW x) (A : Option Addr) (c : Nat) (w : World) (hl : Sl w A x.l.length c x.l) :
    Calls Tryz.prog 11 #[.agg (I5 x (.slice A x.l.length c)).toArray] w fun e w' => e = .returned (.bool (rrB x)) ∧ Below w.heap.size w w' := by
  have hN := fun W => RName_any x.cd hx.cd W
  have hF := fun W => RForm_any x.cd (bounds_i64 hx.cd) W
  have hnc := hl.2.1
  have hcm := hl.2.2.1
  unfold maxLen at hcm
  obtain ⟨cd, a, b, al, l⟩ := x
  unfold rrB
  dsimp only at *
  cases hn : nameL cd with
  | nil =>
    rw [hn] at hN
    exact RRight_none cd a b al A l.length c hnc hcm w hN
  | cons u us =>
    have hne : (⟨(nameL cd).toArray⟩ : ByteArray).toList.isEmpty = false := bs_empty (s := nameL cd) (by rw [hn]; simp)
    show Calls Tryz.prog 11 #[.agg #[.int .i64 cd, .int .u64 a, .int .u64 b, .int .i64 al, .slice A l.length c]] w fun e w' => e = .returned (.bool (rgB ⟨cd, a, b, al, l⟩ (formL cd))) ∧ Below w.heap.size w w'
    clear hn
    generalize formL cd = f at hF ⊢
    by_cases h0 : f = 0
    · subst h0; exact RRight_0 cd a b al A c l w hl _ hne hN hF
    by_cases h1 : f = 1
    · subst h1; exact RRight_1 cd a b al A c l w hl _ hne hN hF
    by_cases h3 : f = 3
    · subst h3; exact RRight_3 cd a b al A c l w hl _ hne hN hF
    by_cases h5 : f = 5
    · subst h5; exact RRight_5 cd a b al A c l w hl _ hne hN hF
    by_cases h8 : f = 8
    · subst h8; exact RRight_8 cd a b al A c l w hl _ hne hN hF
    by_cases h10 : f = 10
    · subst h10; exact RRight_10 cd a b al A c l w hl _ hne hN hF
    by_cases h11 : f = 11
    · subst h11; exact RRight_11 cd a b al A c l w hl _ hne hN hF
    exact RRight_x cd a b al A c l f h0 h1 h3 h5 h8 h10 h11 w hl _ hne hN hF
end Go.Proofs.YtggfaalodojjkaaGreatDoor
/-
  InstrApart: the law's walk, given what its callees answer.
-/
namespace Go.Proofs.YtggfaalodojjkaaGreatDoor
open Go.RowKit
set_option linter.unusedVariables false
set_option linter.unusedSimpArgs false
def EnC (L : List Nat) (w : World) (e : Ending) (w' : World) : Prop := ∃ A n c, e = .returned (.tuple #[.slice A n c, .int .i64 0]) ∧ Byt w' A n c L ∧ n = L.length ∧ Below w.heap.size w w'
theorem Byt.cutTo {w : World} {A : Option Addr} {n c k : Nat} {l : List Nat} (h : Byt w A n c l) (hk : k ≤ n) : Byt w A k c (l.take k) := by
  obtain ⟨h1, h2, h3, h4, h5⟩ := h
  refine ⟨by rw [List.length_take]; omega, fun x hx => h2 x (List.mem_of_mem_take hx), by omega, h4, fun h0 => ?_⟩
  obtain ⟨b, off, rfl, hb, hc⟩ := h5 (by omega)
  refine ⟨b, off, rfl, hb, fun j hj => ?_⟩
  rw [hc j (by omega), List.getD_eq_getElem?_getD, List.getD_eq_getElem?_getD, List.getElem?_take_of_lt hj]
set_option maxHeartbeats 8000000 in
set_option maxRecDepth 100000 in
theorem apart_walk (cd a b al cd2 a2 b2 al2 : Int) (A A2 : Option Addr) (n c n2 c2 : Nat) (hn : n ≤ 120) (hn2 : n2 ≤ 120) (hnc : n ≤ c) (hnc2 : n2 ≤ c2) (hc : c ≤ 9223372036854775807) (hc2 : c2 ≤ 9223372036854775807) (w : World)
    (sm rx ry : Bool) (L L2 : List Nat) (G1 G2 : Nat → Nat → World → Prop)
    (hG1 : ∀ g cp W V, G1 g cp W → Below W.heap.size W V → G1 g cp V) (hG2 : ∀ g cp W V, G2 g cp W → Below W.heap.size W V → G2 g cp V)
    (hA : ∀ W, Below w.heap.size w W → Calls Tryz.prog 8 #[] W fun e w' => e = .returned (.bool true) ∧ Below W.heap.size W w')
    (hS : ∀ W, Below w.heap.size w W → Calls Tryz.prog 19 #[.agg #[.int .i64 cd, .int .u64 a, .int .u64 b, .int .i64 al, .slice A n c], .agg #[.int .i64 cd2, .int .u64 a2, .int .u64 b2, .int .i64 al2, .slice A2 n2 c2]] W fun e w' => e = .returned (.bool sm) ∧ Below W.heap.size W w')
    (hT1 : ∀ W, Below w.heap.size w W → Calls Tryz.prog 9 #[.agg #[.int .i64 cd, .int .u64 a, .int .u64 b, .int .i64 al, .slice A n c]] W fun e w' => ∃ g cp, n ≤ cp ∧ cp ≤ 9223372036854775807 ∧ e = .returned (.agg #[.int .i64 cd, .int .u64 a, .int .u64 b, .int .i64 al, .slice (some ⟨g, 0, none⟩) n cp]) ∧ Below W.heap.size W w' ∧ G1 g cp w')
    (hT2 : ∀ W, Below w.heap.size w W → Calls Tryz.prog 9 #[.agg #[.int .i64 cd2, .int .u64 a2, .int .u64 b2, .int .i64 al2, .slice A2 n2 c2]] W fun e w' => ∃ g cp, n2 ≤ cp ∧ cp ≤ 9223372036854775807 ∧ e = .returned (.agg #[.int .i64 cd2, .int .u64 a2, .int .u64 b2, .int .i64 al2, .slice (some ⟨g, 0, none⟩) n2 cp]) ∧ Below W.heap.size W w' ∧ G2 g cp w')
    (hI : ∀ g cp g2 cp2 W, Below w.heap.size w W → G1 g cp W → G2 g2 cp2 W → Calls Tryz.prog 13 #[.agg #[.int .i64 cd, .int .u64 a, .int .u64 b, .int .i64 al, .slice (some ⟨g, 0, none⟩) n cp], .agg #[.int .i64 cd2, .int .u64 a2, .int .u64 b2, .int .i64 al2, .slice (some ⟨g2, 0, none⟩) n2 cp2]] W fun e w' => e = .returned (.bool sm) ∧ Below W.heap.size W w')
    (hR1 : ∀ W, Below w.heap.size w W → Calls Tryz.prog 11 #[.agg #[.int .i64 cd, .int .u64 a, .int .u64 b, .int .i64 al, .slice A n c]] W fun e w' => e = .returned (.bool rx) ∧ Below W.heap.size W w')
    (hR2 : ∀ W, Below w.heap.size w W → Calls Tryz.prog 11 #[.agg #[.int .i64 cd2, .int .u64 a2, .int .u64 b2, .int .i64 al2, .slice A2 n2 c2]] W fun e w' => e = .returned (.bool ry) ∧ Below W.heap.size W w')
    (hE1 : rx = true → ry = true → ∀ g cp W, Below w.heap.size w W → G1 g cp W → Calls Tryz.prog 10 #[.agg #[.int .i64 cd, .int .u64 a, .int .u64 b, .int .i64 al, .slice (some ⟨g, 0, none⟩) n cp]] W (EnC L W))
    (hE2 : rx = true → ry = true → ∀ g cp W, Below w.heap.size w W → G2 g cp W → Calls Tryz.prog 10 #[.agg #[.int .i64 cd2, .int .u64 a2, .int .u64 b2, .int .i64 al2, .slice (some ⟨g, 0, none⟩) n2 cp]] W (EnC L2 W))
    (hM : rx = true → ry = true → if sm = true then L = L2 else L.take (min L.length L2.length) ≠ L2.take (min L.length L2.length)) :
    Calls Tryz.prog 7 #[.agg #[.int .i64 cd, .int .u64 a, .int .u64 b, .int .i64 al, .slice A n c], .agg #[.int .i64 cd2, .int .u64 a2, .int .u64 b2, .int .i64 al2, .slice A2 n2 c2]] w fun e w' => e = .returned (.bool true) ∧ Below w.heap.size w w' := by
  obtain ⟨W0, hW0⟩ : ∃ V, V = (w.alloc (.cells #[.int .i64 cd, .int .u64 a, .int .u64 b, .int .i64 al, .slice A n c] 25)).alloc (.cells #[.int .i64 cd2, .int .u64 a2, .int .u64 b2, .int .i64 al2, .slice A2 n2 c2] 25) := ⟨_, rfl⟩
  have hb0 : Below w.heap.size w W0 := by rw [hW0]; exact ((Below.refl _ _).alloc (Nat.le_refl _) _).alloc (by simp) _
  have hX0 : Blk W0 w.heap.size 25 #[.int .i64 cd, .int .u64 a, .int .u64 b, .int .i64 al, .slice A n c] := by rw [hW0]; exact (Blk.new w 25 _).alloc _
  have hY0 : Blk W0 (w.heap.size + 1) 25 #[.int .i64 cd2, .int .u64 a2, .int .u64 b2, .int .i64 al2, .slice A2 n2 c2] := by rw [hW0]; exact heap2 w _ _
  have HK : Hid (∀ V, Below W0.heap.size W0 V → V.cell? ⟨w.heap.size, 0, none⟩ = some (.int .i64 cd) ∧ V.cell? ⟨w.heap.size, 1, none⟩ = some (.int .u64 a) ∧ V.cell? ⟨w.heap.size, 2, none⟩ = some (.int .u64 b) ∧ V.cell? ⟨w.heap.size, 3, none⟩ = some (.int .i64 al) ∧ V.cell? ⟨w.heap.size, 4, none⟩ = some (.slice A n c) ∧ V.cell? ⟨w.heap.size + 1, 0, none⟩ = some (.int .i64 cd2) ∧ V.cell? ⟨w.heap.size + 1, 1, none⟩ = some (.int .u64 a2) ∧ V.cell? ⟨w.heap.size + 1, 2, none⟩ = some (.int .u64 b2) ∧ V.cell? ⟨w.heap.size + 1, 3, none⟩ = some (.int .i64 al2) ∧ V.cell? ⟨w.heap.size + 1, 4, none⟩ = some (.slice A2 n2 c2)) := Lib.hid (fun V hV => by
    have h1 := hX0.below hV hX0.lt
    have h2 := hY0.below hV hY0.lt
    exact ⟨h1.cell 0, h1.cell 1, h1.cell 2, h1.cell 3, h1.cell 4, h2.cell 0, h2.cell 1, h2.cell 2, h2.cell 3, h2.cell 4⟩)
  have HB0 := Lib.hid hb0
  have HW0 := Lib.hid hW0
  have HA := Lib.hid hA
  have HS := Lib.hid hS
  have HT1 := Lib.hid hT1
  have HT2 := Lib.hid hT2
  have HI := Lib.hid hI
  have HR1 := Lib.hid hR1
  have HR2 := Lib.hid hR2
  unfold EnC at hE1 hE2
  have HE1 := Lib.hid hE1
  have HE2 := Lib.hid hE2
  have HM := Lib.hid hM
  have HG1 := Lib.hid hG1
  have HG2 := Lib.hid hG2
  obtain ⟨z0, z1, z2, z3, z4, z5, z6, z7, z8, z9⟩ := HK.out W0 (Below.refl _ _)
  clear hb0 hX0 hY0 hW0 hA hS hT1 hT2 hI hR1 hR2 hE1 hE2 hM hG1 hG2
  go_enter Tryz.func7, Tryz.ntmps7
  go_upto_region 1 with fail
  rw [← HW0.out]
  go_upto_region 4 with (first
    | (go_at_call 8; with_reducible refine (HA.out W0 HB0.out).mono ?_; rintro e w1 ⟨rfl, hb1⟩
       have HB1 := Lib.hid hb1
       have HV1 : Hid (Below w.heap.size w w1) := Lib.hid (HB0.out.trans (hb1.mono HB0.out.size))
       obtain ⟨y0, y1, y2, y3, y4, y5, y6, y7, y8, y9⟩ := HK.out w1 hb1
       clear z0 z1 z2 z3 z4 z5 z6 z7 z8 z9 hb1)
    | (go_at_call 19; with_reducible refine (HS.out w1 HV1.out).mono ?_; rintro e w2 ⟨rfl, hb2⟩
       have HB2 : Hid (Below W0.heap.size W0 w2) := Lib.hid (HB1.out.trans (hb2.mono HB1.out.size))
       have HV2 : Hid (Below w.heap.size w w2) := Lib.hid (HV1.out.trans (hb2.mono HV1.out.size))
       obtain ⟨k0, k1, k2, k3, k4, k5, k6, k7, k8, k9⟩ := HK.out w2 HB2.out
       clear y0 y1 y2 y3 y4 y5 y6 y7 y8 y9 hb2))
  cases sm
  case false =>
    refine wp_region_held_drew (S := (fun W => W.cell? ⟨w.heap.size, 0, none⟩ = some (.int .i64 cd) ∧ W.cell? ⟨w.heap.size, 1, none⟩ = some (.int .u64 a) ∧ W.cell? ⟨w.heap.size, 2, none⟩ = some (.int .u64 b) ∧ W.cell? ⟨w.heap.size, 3, none⟩ = some (.int .i64 al) ∧ W.cell? ⟨w.heap.size, 4, none⟩ = some (.slice A n c) ∧ W.cell? ⟨w.heap.size + 1, 0, none⟩ = some (.int .i64 cd2) ∧ W.cell? ⟨w.heap.size + 1, 1, none⟩ = some (.int .u64 a2) ∧ W.cell? ⟨w.heap.size + 1, 2, none⟩ = some (.int .u64 b2) ∧ W.cell? ⟨w.heap.size + 1, 3, none⟩ = some (.int .i64 al2) ∧ W.cell? ⟨w.heap.size + 1, 4, none⟩ = some (.slice A2 n2 c2))) (by kernel_rfl) ⟨k0, k1, k2, k3, k4, k5, k6, k7, k8, k9⟩ (fun hHeld => ?_)
    refine wpAnyH_take (i := 0) (oi := ?oi_1) (v := ?_) ?hi_1 (by kernel_rfl) ?hf_1 (by kernel_rfl) ?hQ_1 ?hy_1 (by assumption) ?_
    case hi_1 => simp only [List.getElem?_toArray, List.getElem?_cons_zero, List.getElem?_cons_succ] <;> rfl
    case hf_1 => kernel_rfl
    case hQ_1 => exact fun _ _ _ h => h
    case hy_1 =>
      refine Or.inl ⟨by rfl, ?_⟩
      intro W hSw
      obtain ⟨q0, q1, q2, q3, q4, q5, q6, q7, q8, q9⟩ := hSw
      go_simp
      try with_reducible rfl
    try simp only [Act.put, List.setIfInBounds_toArray, List.set_cons_zero, List.set_cons_succ]
    refine wpAnyH_take (i := 2) (oi := ?oi_2) (v := ?_) ?hi_2 (by kernel_rfl) ?hf_2 (by kernel_rfl) ?hQ_2 ?hy_2 (by assumption) ?_
    case hi_2 => simp only [List.getElem?_toArray, List.getElem?_cons_zero, List.getElem?_cons_succ] <;> rfl
    case hf_2 => kernel_rfl
    case hQ_2 => exact fun _ _ _ h => h
    case hy_2 =>
      refine Or.inl ⟨by rfl, ?_⟩
      intro W hSw
      obtain ⟨q0, q1, q2, q3, q4, q5, q6, q7, q8, q9⟩ := hSw
      go_simp
      try with_reducible rfl
    try simp only [Act.put, List.setIfInBounds_toArray, List.set_cons_zero, List.set_cons_succ]
    refine wpAnyH_take (i := 5) (oi := ?oi_3) (v := ?_) ?hi_3 (by kernel_rfl) ?hf_3 (by kernel_rfl) ?hQ_3 ?hy_3 (by assumption) ?_
    case hi_3 => simp only [List.getElem?_toArray, List.getElem?_cons_zero, List.getElem?_cons_succ] <;> rfl
    case hf_3 => kernel_rfl
    case hQ_3 => exact fun _ _ _ h => h
    case hy_3 =>
      refine Or.inl ⟨by rfl, ?_⟩
      intro W hSw
      obtain ⟨q0, q1, q2, q3, q4, q5, q6, q7, q8, q9⟩ := hSw
      go_simp
      try with_reducible rfl
    try simp only [Act.put, List.setIfInBounds_toArray, List.set_cons_zero, List.set_cons_succ]
    refine wpAnyH_ready (rs := [1]) (by kernel_rfl) (by simp) ?_
    refine AllReadyH.cons (o := ?oi_4) ?hi_4 (fun K hK => ?_) AllReadyH.nil
    case hi_4 => simp only [List.getElem?_toArray, List.getElem?_cons_zero, List.getElem?_cons_succ] <;> rfl
    go_simp
    (go_at_call 9
     refine (HT1.out _ (below_drewN HV2.out 1)).mono ?_
     rintro e w3 ⟨g1, cp1, hp1, hq1, rfl, hb3, hg1⟩
     have HG3 := Lib.hid hg1
     have HB3 : Hid (Below W0.heap.size W0 w3) := Lib.hid ((below_drewN HB2.out 1).trans (hb3.mono HB2.out.size))
     have HV3 : Hid (Below w.heap.size w w3) := Lib.hid ((below_drewN HV2.out 1).trans (hb3.mono HV2.out.size))
     have hk3 := HK.out w3 HB3.out
     clear hb3 hg1)
    refine hK.out _ _ hk3 (fun hHeld => ?_)
    clear hK K
    try simp only [Act.put, List.setIfInBounds_toArray, List.set_cons_zero, List.set_cons_succ]
    refine wpAnyH_ready (rs := [3]) (by kernel_rfl) (by simp) ?_
    refine AllReadyH.cons (o := ?oi_5) ?hi_5 (fun K hK => ?_) AllReadyH.nil
    case hi_5 => simp only [List.getElem?_toArray, List.getElem?_cons_zero, List.getElem?_cons_succ] <;> rfl
    go_simp
    (go_at_call 9
     refine (HT2.out _ HV3.out).mono ?_
     rintro e w4 ⟨g2, cp2, hp2, hq2, rfl, hb4, hg2⟩
     have HG4 := Lib.hid hg2
     have HG3' := Lib.hid (HG1.out _ _ _ _ HG3.out hb4)
     have HB4 : Hid (Below W0.heap.size W0 w4) := Lib.hid (HB3.out.trans (hb4.mono HB3.out.size))
     have HV4 : Hid (Below w.heap.size w w4) := Lib.hid (HV3.out.trans (hb4.mono HV3.out.size))
     have hk4 := HK.out w4 HB4.out
     clear hb4 hg2 hk3)
    refine hK.out _ _ hk4 (fun hHeld => ?_)
    clear hK K
    try simp only [Act.put, List.setIfInBounds_toArray, List.set_cons_zero, List.set_cons_succ]
    refine wpAnyH_ready (rs := [4]) (by kernel_rfl) (by simp) ?_
    refine AllReadyH.cons (o := ?oi_6) ?hi_6 (fun K hK => ?_) AllReadyH.nil
    case hi_6 => simp only [List.getElem?_toArray, List.getElem?_cons_zero, List.getElem?_cons_succ] <;> rfl
    go_simp
    (go_at_call 13
     refine (HI.out _ _ _ _ _ HV4.out HG3'.out HG4.out).mono ?_
     rintro e w5 ⟨rfl, hb5⟩
     have HB5 : Hid (Below W0.heap.size W0 w5) := Lib.hid (HB4.out.trans (hb5.mono HB4.out.size))
     have HV5 : Hid (Below w.heap.size w w5) := Lib.hid (HV4.out.trans (hb5.mono HV4.out.size))
     have hk5 := HK.out w5 HB5.out
     clear hb5 hk4)
    refine hK.out _ _ hk5 (fun hHeld => ?_)
    clear hK K
    try simp only [Act.put, List.setIfInBounds_toArray, List.set_cons_zero, List.set_cons_succ]
    refine wpAnyH_take (i := 6) (oi := ?oi_7) (v := ?_) ?hi_7 (by kernel_rfl) ?hf_7 (by kernel_rfl) ?hQ_7 ?hy_7 (by assumption) ?_
    case hi_7 => simp only [List.getElem?_toArray, List.getElem?_cons_zero, List.getElem?_cons_succ] <;> rfl
    case hf_7 => kernel_rfl
    case hQ_7 => exact fun _ _ _ h => h
    case hy_7 =>
      refine Or.inl ⟨by rfl, ?_⟩
      intro W hSw
      obtain ⟨q0, q1, q2, q3, q4, q5, q6, q7, q8, q9⟩ := hSw
      go_simp
      try with_reducible rfl
    try simp only [Act.put, List.setIfInBounds_toArray, List.set_cons_zero, List.set_cons_succ]
    refine wpAnyH_done (by kernel_rfl) ?_ _
    clear hHeld k0 k1 k2 k3 k4 k5 k6 k7 k8 k9
    simp only [Exit.inBlock, Exit.then]
    obtain ⟨k0, k1, k2, k3, k4, k5, k6, k7, k8, k9⟩ := hk5
    clear HS HI HG3 HG3' HG4 HA
    cases rx
    · clear HE1 HE2 HM HR2 HT1 HT2
      go_wp2_with (go_at_call 11; with_reducible refine (HR1.out w5 HV5.out).mono ?_; rintro e w6 ⟨rfl, hb6⟩; have HB6 : Hid (Below W0.heap.size W0 w6) := Lib.hid (HB5.out.trans (hb6.mono HB5.out.size)); have HV6 : Hid (Below w.heap.size w w6) := Lib.hid (HV5.out.trans (hb6.mono HV5.out.size)); clear k0 k1 k2 k3 k4 k5 k6 k7 k8 k9; obtain ⟨m0, m1, m2, m3, m4, m5, m6, m7, m8, m9⟩ := HK.out w6 HB6.out; clear hb6)
      go_ret
      exact ⟨rfl, HV6.out⟩
    cases ry
    · clear HE1 HE2 HM HT1 HT2
      go_wp2_with (first
        | (go_at_call 11; with_reducible refine (HR1.out w5 HV5.out).mono ?_; rintro e w6 ⟨rfl, hb6⟩; have HB6 : Hid (Below W0.heap.size W0 w6) := Lib.hid (HB5.out.trans (hb6.mono HB5.out.size)); have HV6 : Hid (Below w.heap.size w w6) := Lib.hid (HV5.out.trans (hb6.mono HV5.out.size)); clear k0 k1 k2 k3 k4 k5 k6 k7 k8 k9; obtain ⟨m0, m1, m2, m3, m4, m5, m6, m7, m8, m9⟩ := HK.out w6 HB6.out; clear hb6)
        | (go_at_call 11; with_reducible refine (HR2.out w6 HV6.out).mono ?_; rintro e w7 ⟨rfl, hb7⟩; have HB7 : Hid (Below W0.heap.size W0 w7) := Lib.hid (HB6.out.trans (hb7.mono HB6.out.size)); have HV7 : Hid (Below w.heap.size w w7) := Lib.hid (HV6.out.trans (hb7.mono HV6.out.size)); clear m0 m1 m2 m3 m4 m5 m6 m7 m8 m9; obtain ⟨p0, p1, p2, p3, p4, p5, p6, p7, p8, p9⟩ := HK.out w7 HB7.out; clear hb7))
      go_ret
      exact ⟨rfl, HV7.out⟩
    have HF1 := Lib.hid (HE1.out rfl rfl)
    have HF2 := Lib.hid (HE2.out rfl rfl)
    have HMM := Lib.hid (HM.out rfl rfl)
    clear HE1 HE2 HM
    go_upto_region 10 with (first
        | (go_at_call 11; with_reducible refine (HR1.out w5 HV5.out).mono ?_; rintro e w6 ⟨rfl, hb6⟩; have HB6 : Hid (Below W0.heap.size W0 w6) := Lib.hid (HB5.out.trans (hb6.mono HB5.out.size)); have HV6 : Hid (Below w.heap.size w w6) := Lib.hid (HV5.out.trans (hb6.mono HV5.out.size)); clear k0 k1 k2 k3 k4 k5 k6 k7 k8 k9; obtain ⟨m0, m1, m2, m3, m4, m5, m6, m7, m8, m9⟩ := HK.out w6 HB6.out; clear hb6)
        | (go_at_call 11; with_reducible refine (HR2.out w6 HV6.out).mono ?_; rintro e w7 ⟨rfl, hb7⟩; have HB7 : Hid (Below W0.heap.size W0 w7) := Lib.hid (HB6.out.trans (hb7.mono HB6.out.size)); have HV7 : Hid (Below w.heap.size w w7) := Lib.hid (HV6.out.trans (hb7.mono HV6.out.size)); clear m0 m1 m2 m3 m4 m5 m6 m7 m8 m9; obtain ⟨p0, p1, p2, p3, p4, p5, p6, p7, p8, p9⟩ := HK.out w7 HB7.out; clear hb7)
        | (go_at_call 9; with_reducible refine (HT1.out w7 HV7.out).mono ?_; rintro e w8 ⟨g3, cp3, hp3, hq3, rfl, hb8, hg8⟩; have HB8 : Hid (Below W0.heap.size W0 w8) := Lib.hid (HB7.out.trans (hb8.mono HB7.out.size)); have HV8 : Hid (Below w.heap.size w w8) := Lib.hid (HV7.out.trans (hb8.mono HV7.out.size)); clear p0 p1 p2 p3 p4 p5 p6 p7 p8 p9; obtain ⟨r0, r1, r2, r3, r4, r5, r6, r7, r8, r9⟩ := HK.out w8 HB8.out; have HG8 := Lib.hid hg8; clear hb8 hg8))
    with_reducible refine (HF1.out g3 cp3 w8 HV8.out HG8.out).mono ?_
    rintro e w9 ⟨A5, n5, c5, rfl, hy5, hn5, hb9⟩
    have HB9 : Hid (Below W0.heap.size W0 w9) := Lib.hid (HB8.out.trans (hb9.mono HB8.out.size))
    have HV9 : Hid (Below w.heap.size w w9) := Lib.hid (HV8.out.trans (hb9.mono HV8.out.size))
    clear r0 r1 r2 r3 r4 r5 r6 r7 r8 r9
    obtain ⟨s0, s1, s2, s3, s4, s5, s6, s7, s8, s9⟩ := HK.out w9 HB9.out
    have HY5 := Lib.hid hy5
    have HN5 := Lib.hid hn5
    have hc5 := hy5.2.2.1
    have hm5 := hy5.2.2.2.1
    unfold maxLen at hm5
    clear hb9 hy5 hn5
    go_upto_region 10 with fail
    with_reducible refine (HT2.out w9 HV9.out).mono ?_
    rintro e w10 ⟨g4, cp4, hp4, hq4, rfl, hb10, hg10⟩
    have HB10 : Hid (Below W0.heap.size W0 w10) := Lib.hid (HB9.out.trans (hb10.mono HB9.out.size))
    have HV10 : Hid (Below w.heap.size w w10) := Lib.hid (HV9.out.trans (hb10.mono HV9.out.size))
    clear s0 s1 s2 s3 s4 s5 s6 s7 s8 s9
    obtain ⟨t0, t1, t2, t3, t4, t5, t6, t7, t8, t9⟩ := HK.out w10 HB10.out
    have HG10 := Lib.hid hg10
    have HY6 := Lib.hid (HY5.out.kept hb10)
    clear hb10 hg10
    go_upto_region 10 with fail
    with_reducible refine (HF2.out g4 cp4 w10 HV10.out HG10.out).mono ?_
    rintro e w11 ⟨A6, n6, c6, rfl, hy6, hn6, hb11⟩
    have HB11 : Hid (Below W0.heap.size W0 w11) := Lib.hid (HB10.out.trans (hb11.mono HB10.out.size))
    have HV11 : Hid (Below w.heap.size w w11) := Lib.hid (HV10.out.trans (hb11.mono HV10.out.size))
    clear t0 t1 t2 t3 t4 t5 t6 t7 t8 t9
    obtain ⟨u0, u1, u2, u3, u4, u5, u6, u7, u8, u9⟩ := HK.out w11 HB11.out
    have HX := Lib.hid (HY6.out.kept hb11)
    have HY := Lib.hid hy6
    have HN6 := Lib.hid hn6
    have hc6 := hy6.2.2.1
    have hm6 := hy6.2.2.2.1
    unfold maxLen at hm6
    clear hb11 hy6 hn6
    clear u0 u1 u2 u3 u4 u5 u6 u7 u8 u9
    clear HT1 HT2 HR1 HR2 HF1 HF2 HG8 HG10 HY5 HY6
    have hne : L.take (min L.length L2.length) ≠ L2.take (min L.length L2.length) := by have h := HMM.out; simpa using h
    have hk : min L.length L2.length = min n5 n6 := by rw [HN5.out, HN6.out]
    rw [hk] at hne
    have HNE := Lib.hid hne
    clear hne hk HMM
    rcases Nat.le_total n5 n6 with hle | hle
    · rw [Nat.min_eq_left hle] at HNE
      have e1 := (HX.out.cutTo (k := n5) (Nat.le_refl _))
      have e2 := (HY.out.cutTo (k := n5) hle)
      have r1 : ∀ q, (convert 27 9 (.slice A5 n5 c5)).run Tryz.prog (w11.drewN q) = .ok (.string (str (L.take n5))) (w11.drewN q) := fun q => conv_byt (e1.drewN q)
      have r2 : ∀ q, (convert 27 9 (.slice A6 n5 c6)).run Tryz.prog (w11.drewN q) = .ok (.string (str (L2.take n5))) (w11.drewN q) := fun q => conv_byt (e2.drewN q)
      have hb : ((str (L.take n5)).toList == (str (L2.take n5)).toList) = false := by rw [str_eq _ _ e1.2.1 e2.2.1]; simpa using HNE.out
      clear e1 e2
      generalize str (L.take n5) = s1 at r1 hb
      generalize str (L2.take n5) = s2 at r2 hb
      have hmin : min (n5 : Int) (n6 : Int) = (n5 : Int) := by omega
      go_upto_region 15 with fail
      clear hmin
      go_quiet (fail)
      go_wp2
      go_ret
      exact ⟨rfl, below_drewN HV11.out _⟩
    · rw [Nat.min_eq_right hle] at HNE
      have e1 := (HX.out.cutTo (k := n6) hle)
      have e2 := (HY.out.cutTo (k := n6) (Nat.le_refl _))
      have r1 : ∀ q, (convert 27 9 (.slice A5 n6 c5)).run Tryz.prog (w11.drewN q) = .ok (.string (str (L.take n6))) (w11.drewN q) := fun q => conv_byt (e1.drewN q)
      have r2 : ∀ q, (convert 27 9 (.slice A6 n6 c6)).run Tryz.prog (w11.drewN q) = .ok (.string (str (L2.take n6))) (w11.drewN q) := fun q => conv_byt (e2.drewN q)
      have hb : ((str (L.take n6)).toList == (str (L2.take n6)).toList) = false := by rw [str_eq _ _ e1.2.1 e2.2.1]; simpa using HNE.out
      clear e1 e2
      generalize str (L.take n6) = s1 at r1 hb
      generalize str (L2.take n6) = s2 at r2 hb
      have hmin : min (n5 : Int) (n6 : Int) = (n6 : Int) := by omega
      go_upto_region 15 with fail
      clear hmin
      go_quiet (fail)
      go_wp2
      go_ret
      exact ⟨rfl, below_drewN HV11.out _⟩
  case true =>
    refine wp_region_held_drew (S := (fun W => W.cell? ⟨w.heap.size, 0, none⟩ = some (.int .i64 cd) ∧ W.cell? ⟨w.heap.size, 1, none⟩ = some (.int .u64 a) ∧ W.cell? ⟨w.heap.size, 2, none⟩ = some (.int .u64 b) ∧ W.cell? ⟨w.heap.size, 3, none⟩ = some (.int .i64 al) ∧ W.cell? ⟨w.heap.size, 4, none⟩ = some (.slice A n c) ∧ W.cell? ⟨w.heap.size + 1, 0, none⟩ = some (.int .i64 cd2) ∧ W.cell? ⟨w.heap.size + 1, 1, none⟩ = some (.int .u64 a2) ∧ W.cell? ⟨w.heap.size + 1, 2, none⟩ = some (.int .u64 b2) ∧ W.cell? ⟨w.heap.size + 1, 3, none⟩ = some (.int .i64 al2) ∧ W.cell? ⟨w.heap.size + 1, 4, none⟩ = some (.slice A2 n2 c2))) (by kernel_rfl) ⟨k0, k1, k2, k3, k4, k5, k6, k7, k8, k9⟩ (fun hHeld => ?_)
    refine wpAnyH_take (i := 0) (oi := ?oi_1) (v := ?_) ?hi_1 (by kernel_rfl) ?hf_1 (by kernel_rfl) ?hQ_1 ?hy_1 (by assumption) ?_
    case hi_1 => simp only [List.getElem?_toArray, List.getElem?_cons_zero, List.getElem?_cons_succ] <;> rfl
    case hf_1 => kernel_rfl
    case hQ_1 => exact fun _ _ _ h => h
    case hy_1 =>
      refine Or.inl ⟨by rfl, ?_⟩
      intro W hSw
      obtain ⟨q0, q1, q2, q3, q4, q5, q6, q7, q8, q9⟩ := hSw
      go_simp
      try with_reducible rfl
    try simp only [Act.put, List.setIfInBounds_toArray, List.set_cons_zero, List.set_cons_succ]
    refine wpAnyH_take (i := 2) (oi := ?oi_2) (v := ?_) ?hi_2 (by kernel_rfl) ?hf_2 (by kernel_rfl) ?hQ_2 ?hy_2 (by assumption) ?_
    case hi_2 => simp only [List.getElem?_toArray, List.getElem?_cons_zero, List.getElem?_cons_succ] <;> rfl
    case hf_2 => kernel_rfl
    case hQ_2 => exact fun _ _ _ h => h
    case hy_2 =>
      refine Or.inl ⟨by rfl, ?_⟩
      intro W hSw
      obtain ⟨q0, q1, q2, q3, q4, q5, q6, q7, q8, q9⟩ := hSw
      go_simp
      try with_reducible rfl
    try simp only [Act.put, List.setIfInBounds_toArray, List.set_cons_zero, List.set_cons_succ]
    refine wpAnyH_take (i := 5) (oi := ?oi_3) (v := ?_) ?hi_3 (by kernel_rfl) ?hf_3 (by kernel_rfl) ?hQ_3 ?hy_3 (by assumption) ?_
    case hi_3 => simp only [List.getElem?_toArray, List.getElem?_cons_zero, List.getElem?_cons_succ] <;> rfl
    case hf_3 => kernel_rfl
    case hQ_3 => exact fun _ _ _ h => h
    case hy_3 =>
      refine Or.inl ⟨by rfl, ?_⟩
      intro W hSw
      obtain ⟨q0, q1, q2, q3, q4, q5, q6, q7, q8, q9⟩ := hSw
      go_simp
      try with_reducible rfl
    try simp only [Act.put, List.setIfInBounds_toArray, List.set_cons_zero, List.set_cons_succ]
    refine wpAnyH_ready (rs := [1]) (by kernel_rfl) (by simp) ?_
    refine AllReadyH.cons (o := ?oi_4) ?hi_4 (fun K hK => ?_) AllReadyH.nil
    case hi_4 => simp only [List.getElem?_toArray, List.getElem?_cons_zero, List.getElem?_cons_succ] <;> rfl
    go_simp
    (go_at_call 9
     refine (HT1.out _ (below_drewN HV2.out 1)).mono ?_
     rintro e w3 ⟨g1, cp1, hp1, hq1, rfl, hb3, hg1⟩
     have HG3 := Lib.hid hg1
     have HB3 : Hid (Below W0.heap.size W0 w3) := Lib.hid ((below_drewN HB2.out 1).trans (hb3.mono HB2.out.size))
     have HV3 : Hid (Below w.heap.size w w3) := Lib.hid ((below_drewN HV2.out 1).trans (hb3.mono HV2.out.size))
     have hk3 := HK.out w3 HB3.out
     clear hb3 hg1)
    refine hK.out _ _ hk3 (fun hHeld => ?_)
    clear hK K
    try simp only [Act.put, List.setIfInBounds_toArray, List.set_cons_zero, List.set_cons_succ]
    refine wpAnyH_ready (rs := [3]) (by kernel_rfl) (by simp) ?_
    refine AllReadyH.cons (o := ?oi_5) ?hi_5 (fun K hK => ?_) AllReadyH.nil
    case hi_5 => simp only [List.getElem?_toArray, List.getElem?_cons_zero, List.getElem?_cons_succ] <;> rfl
    go_simp
    (go_at_call 9
     refine (HT2.out _ HV3.out).mono ?_
     rintro e w4 ⟨g2, cp2, hp2, hq2, rfl, hb4, hg2⟩
     have HG4 := Lib.hid hg2
     have HG3' := Lib.hid (HG1.out _ _ _ _ HG3.out hb4)
     have HB4 : Hid (Below W0.heap.size W0 w4) := Lib.hid (HB3.out.trans (hb4.mono HB3.out.size))
     have HV4 : Hid (Below w.heap.size w w4) := Lib.hid (HV3.out.trans (hb4.mono HV3.out.size))
     have hk4 := HK.out w4 HB4.out
     clear hb4 hg2 hk3)
    refine hK.out _ _ hk4 (fun hHeld => ?_)
    clear hK K
    try simp only [Act.put, List.setIfInBounds_toArray, List.set_cons_zero, List.set_cons_succ]
    refine wpAnyH_ready (rs := [4]) (by kernel_rfl) (by simp) ?_
    refine AllReadyH.cons (o := ?oi_6) ?hi_6 (fun K hK => ?_) AllReadyH.nil
    case hi_6 => simp only [List.getElem?_toArray, List.getElem?_cons_zero, List.getElem?_cons_succ] <;> rfl
    go_simp
    (go_at_call 13
     refine (HI.out _ _ _ _ _ HV4.out HG3'.out HG4.out).mono ?_
     rintro e w5 ⟨rfl, hb5⟩
     have HB5 : Hid (Below W0.heap.size W0 w5) := Lib.hid (HB4.out.trans (hb5.mono HB4.out.size))
     have HV5 : Hid (Below w.heap.size w w5) := Lib.hid (HV4.out.trans (hb5.mono HV4.out.size))
     have hk5 := HK.out w5 HB5.out
     clear hb5 hk4)
    refine hK.out _ _ hk5 (fun hHeld => ?_)
    clear hK K
    try simp only [Act.put, List.setIfInBounds_toArray, List.set_cons_zero, List.set_cons_succ]
    refine wpAnyH_take (i := 6) (oi := ?oi_7) (v := ?_) ?hi_7 (by kernel_rfl) ?hf_7 (by kernel_rfl) ?hQ_7 ?hy_7 (by assumption) ?_
    case hi_7 => simp only [List.getElem?_toArray, List.getElem?_cons_zero, List.getElem?_cons_succ] <;> rfl
    case hf_7 => kernel_rfl
    case hQ_7 => exact fun _ _ _ h => h
    case hy_7 =>
      refine Or.inl ⟨by rfl, ?_⟩
      intro W hSw
      obtain ⟨q0, q1, q2, q3, q4, q5, q6, q7, q8, q9⟩ := hSw
      go_simp
      try with_reducible rfl
    try simp only [Act.put, List.setIfInBounds_toArray, List.set_cons_zero, List.set_cons_succ]
    refine wpAnyH_done (by kernel_rfl) ?_ _
    clear hHeld k0 k1 k2 k3 k4 k5 k6 k7 k8 k9
    simp only [Exit.inBlock, Exit.then]
    obtain ⟨k0, k1, k2, k3, k4, k5, k6, k7, k8, k9⟩ := hk5
    clear HS HI HG3 HG3' HG4 HA
    cases rx
    · clear HE1 HE2 HM HR2 HT1 HT2
      go_wp2_with (go_at_call 11; with_reducible refine (HR1.out w5 HV5.out).mono ?_; rintro e w6 ⟨rfl, hb6⟩; have HB6 : Hid (Below W0.heap.size W0 w6) := Lib.hid (HB5.out.trans (hb6.mono HB5.out.size)); have HV6 : Hid (Below w.heap.size w w6) := Lib.hid (HV5.out.trans (hb6.mono HV5.out.size)); clear k0 k1 k2 k3 k4 k5 k6 k7 k8 k9; obtain ⟨m0, m1, m2, m3, m4, m5, m6, m7, m8, m9⟩ := HK.out w6 HB6.out; clear hb6)
      go_ret
      exact ⟨rfl, HV6.out⟩
    cases ry
    · clear HE1 HE2 HM HT1 HT2
      go_wp2_with (first
        | (go_at_call 11; with_reducible refine (HR1.out w5 HV5.out).mono ?_; rintro e w6 ⟨rfl, hb6⟩; have HB6 : Hid (Below W0.heap.size W0 w6) := Lib.hid (HB5.out.trans (hb6.mono HB5.out.size)); have HV6 : Hid (Below w.heap.size w w6) := Lib.hid (HV5.out.trans (hb6.mono HV5.out.size)); clear k0 k1 k2 k3 k4 k5 k6 k7 k8 k9; obtain ⟨m0, m1, m2, m3, m4, m5, m6, m7, m8, m9⟩ := HK.out w6 HB6.out; clear hb6)
        | (go_at_call 11; with_reducible refine (HR2.out w6 HV6.out).mono ?_; rintro e w7 ⟨rfl, hb7⟩; have HB7 : Hid (Below W0.heap.size W0 w7) := Lib.hid (HB6.out.trans (hb7.mono HB6.out.size)); have HV7 : Hid (Below w.heap.size w w7) := Lib.hid (HV6.out.trans (hb7.mono HV6.out.size)); clear m0 m1 m2 m3 m4 m5 m6 m7 m8 m9; obtain ⟨p0, p1, p2, p3, p4, p5, p6, p7, p8, p9⟩ := HK.out w7 HB7.out; clear hb7))
      go_ret
      exact ⟨rfl, HV7.out⟩
    have HF1 := Lib.hid (HE1.out rfl rfl)
    have HF2 := Lib.hid (HE2.out rfl rfl)
    have HMM := Lib.hid (HM.out rfl rfl)
    clear HE1 HE2 HM
    go_upto_region 10 with (first
        | (go_at_call 11; with_reducible refine (HR1.out w5 HV5.out).mono ?_; rintro e w6 ⟨rfl, hb6⟩; have HB6 : Hid (Below W0.heap.size W0 w6) := Lib.hid (HB5.out.trans (hb6.mono HB5.out.size)); have HV6 : Hid (Below w.heap.size w w6) := Lib.hid (HV5.out.trans (hb6.mono HV5.out.size)); clear k0 k1 k2 k3 k4 k5 k6 k7 k8 k9; obtain ⟨m0, m1, m2, m3, m4, m5, m6, m7, m8, m9⟩ := HK.out w6 HB6.out; clear hb6)
        | (go_at_call 11; with_reducible refine (HR2.out w6 HV6.out).mono ?_; rintro e w7 ⟨rfl, hb7⟩; have HB7 : Hid (Below W0.heap.size W0 w7) := Lib.hid (HB6.out.trans (hb7.mono HB6.out.size)); have HV7 : Hid (Below w.heap.size w w7) := Lib.hid (HV6.out.trans (hb7.mono HV6.out.size)); clear m0 m1 m2 m3 m4 m5 m6 m7 m8 m9; obtain ⟨p0, p1, p2, p3, p4, p5, p6, p7, p8, p9⟩ := HK.out w7 HB7.out; clear hb7)
        | (go_at_call 9; with_reducible refine (HT1.out w7 HV7.out).mono ?_; rintro e w8 ⟨g3, cp3, hp3, hq3, rfl, hb8, hg8⟩; have HB8 : Hid (Below W0.heap.size W0 w8) := Lib.hid (HB7.out.trans (hb8.mono HB7.out.size)); have HV8 : Hid (Below w.heap.size w w8) := Lib.hid (HV7.out.trans (hb8.mono HV7.out.size)); clear p0 p1 p2 p3 p4 p5 p6 p7 p8 p9; obtain ⟨r0, r1, r2, r3, r4, r5, r6, r7, r8, r9⟩ := HK.out w8 HB8.out; have HG8 := Lib.hid hg8; clear hb8 hg8))
    with_reducible refine (HF1.out g3 cp3 w8 HV8.out HG8.out).mono ?_
    rintro e w9 ⟨A5, n5, c5, rfl, hy5, hn5, hb9⟩
    have HB9 : Hid (Below W0.heap.size W0 w9) := Lib.hid (HB8.out.trans (hb9.mono HB8.out.size))
    have HV9 : Hid (Below w.heap.size w w9) := Lib.hid (HV8.out.trans (hb9.mono HV8.out.size))
    clear r0 r1 r2 r3 r4 r5 r6 r7 r8 r9
    obtain ⟨s0, s1, s2, s3, s4, s5, s6, s7, s8, s9⟩ := HK.out w9 HB9.out
    have HY5 := Lib.hid hy5
    have HN5 := Lib.hid hn5
    have hc5 := hy5.2.2.1
    have hm5 := hy5.2.2.2.1
    unfold maxLen at hm5
    clear hb9 hy5 hn5
    go_upto_region 10 with fail
    with_reducible refine (HT2.out w9 HV9.out).mono ?_
    rintro e w10 ⟨g4, cp4, hp4, hq4, rfl, hb10, hg10⟩
    have HB10 : Hid (Below W0.heap.size W0 w10) := Lib.hid (HB9.out.trans (hb10.mono HB9.out.size))
    have HV10 : Hid (Below w.heap.size w w10) := Lib.hid (HV9.out.trans (hb10.mono HV9.out.size))
    clear s0 s1 s2 s3 s4 s5 s6 s7 s8 s9
    obtain ⟨t0, t1, t2, t3, t4, t5, t6, t7, t8, t9⟩ := HK.out w10 HB10.out
    have HG10 := Lib.hid hg10
    have HY6 := Lib.hid (HY5.out.kept hb10)
    clear hb10 hg10
    go_upto_region 10 with fail
    with_reducible refine (HF2.out g4 cp4 w10 HV10.out HG10.out).mono ?_
    rintro e w11 ⟨A6, n6, c6, rfl, hy6, hn6, hb11⟩
    have HB11 : Hid (Below W0.heap.size W0 w11) := Lib.hid (HB10.out.trans (hb11.mono HB10.out.size))
    have HV11 : Hid (Below w.heap.size w w11) := Lib.hid (HV10.out.trans (hb11.mono HV10.out.size))
    clear t0 t1 t2 t3 t4 t5 t6 t7 t8 t9
    obtain ⟨u0, u1, u2, u3, u4, u5, u6, u7, u8, u9⟩ := HK.out w11 HB11.out
    have HX := Lib.hid (HY6.out.kept hb11)
    have HY := Lib.hid hy6
    have HN6 := Lib.hid hn6
    have hc6 := hy6.2.2.1
    have hm6 := hy6.2.2.2.1
    unfold maxLen at hm6
    clear hb11 hy6 hn6
    clear u0 u1 u2 u3 u4 u5 u6 u7 u8 u9
    clear HT1 HT2 HR1 HR2 HF1 HF2 HG8 HG10 HY5 HY6
    have heq : L = L2 := by have h := HMM.out; simpa using h
    subst heq
    have r1 : (convert 27 9 (.slice A5 n5 c5)).run Tryz.prog w11 = .ok (.string (str L)) w11 := conv_byt HX.out
    have r2 : (convert 27 9 (.slice A6 n6 c6)).run Tryz.prog w11 = .ok (.string (str L)) w11 := conv_byt HY.out
    generalize str L = s1 at r1 r2
    go_wp2
    go_ret
    exact ⟨rfl, HV11.out⟩
end Go.Proofs.YtggfaalodojjkaaGreatDoor
/-
  What the cards of instr want: the tables and the sentinels as the rows list them; an instruction as an argument.
-/
namespace Go
theorem returnsInHanded_of_change_and_sh {H : Type} {enc : TypeId × Value → H} {a : Assume} {C : Checked} {os : Os} {f : FuncId} {fn : Func} {s : ChangeSpec} {conds : List PathCond} {apart fresh handsOn again : Bool} {X : World → Array Value → Prop}
    (hX : ∀ (w w' : World) (args : Array Value), w.heap = w'.heap → X w args → X w' args)
    (own : ownKnob C.prog.godebug = none) (started : os.Started) (noInit : C.prog.inits.idxOf? f = none) (hfn : C.prog.funcs[f]? = some fn)
    (witness : ∃ (w : World) (tape : Tape) (i : Input), w.os = os ∧ (w.forCall tape i).Shaped C.prog ∧ i.vars = [] ∧ Input.okWide C.prog (w.forCall tape i) .any w.heap.size f i ∧
      ((s.pre enc C.prog fn conds apart (w.forCall tape i).memory i.args ∧ X (w.forCall tape i).memory i.args) ∧ sizedMet enc C.prog fn (OpenSpec.ofChange s) apart (w.forCall tape i).memory i.args) ∧ a.holds C.prog (lone (Frame.enter C.prog f i.args .normal) [] (w.forCall tape i)))
    (contract : ∀ (W : World) (base : Nat) (args : Array Value) (ds gs : List (DataW H)) (before : List MemPlace),
      (∀ (j : Nat) t v, fn.params[j]? = some t → args[j]? = some v → Value.okWide C.prog W .any base t v) →
      DataW.Whole enc C.prog fn.params.toList s.vars apart W args.toList ds gs before →
      conds.all (PathCond.test C.prog ⟨fn.params.toList, ds, s.plain.varTypes C.prog, gs⟩) = true →
      (DataW.weightsEach C.prog (fn.params.toList ++ s.plain.varTypes C.prog) (ds ++ gs)).all (· ≤ reachBytes) = true → X W args →
      W.ShapedOpen C.prog →
      a.holds C.prog (lone (Frame.enter C.prog f args .normal) [] W) →
      Calls C.prog f args W fun e W' => ∃ v, e = .returned v ∧ s.post enc C.prog fn apart fresh handsOn again W args v W') :
    ReturnsInHanded a C os f .any (fun w args => (s.pre enc C.prog fn conds apart w args ∧ X w args) ∧ sizedMet enc C.prog fn (OpenSpec.ofChange s) apart w args) (s.post enc C.prog fn apart fresh handsOn again) := by
  refine returnsInHanded_of_calls own started noInit witness ?_
  intro w tape i _ hsh _ hok hpre hholds
  obtain ⟨_, _, _, fn', hfn', _, _, _, _, hval⟩ := hok
  have e : fn' = fn := Option.some.inj (hfn'.symm.trans hfn)
  subst e
  obtain ⟨⟨⟨ds, gs, before, hw, hc⟩, hx⟩, hz⟩ := hpre
  have hw' := DataW.Whole.of_heap (w' := w.forCall tape i) (by rfl) hw
  refine (contract (w.forCall tape i) w.heap.size i.args ds gs before hval hw' hc (hz.weights hw) (hX _ _ _ (by rfl) hx) hsh hholds).mono fun e W' ⟨v, he, hp⟩ => ?_
  subst he
  exact ChangeSpec.post_blind hp
end Go
namespace Go.Proofs.YtggfaalodojjkaaGreatDoor
open Go.ChangeShapes Go.WideShapes Go.ChangeAt Go.RowKit Go.Deep
set_option linter.unusedVariables false
set_option linter.unusedSimpArgs false
theorem Tryz.gSp : Tryz.prog.globalNamed "strings.asciiSpace" = some 0 := by kernel_rfl
theorem Tryz.tSp : (Tryz.prog.globals[0]?).map (·.type) = some 176 := by kernel_rfl
theorem Tryz.g64 : Tryz.prog.globalNamed "math/bits.deBruijn64tab" = some 10 := by kernel_rfl
theorem Tryz.t64 : (Tryz.prog.globals[10]?).map (·.type) = some 260 := by kernel_rfl
theorem tabSp : (Rows.laid_strings_asciiSpace : DataW Unit) = Lib.tabData .u8 Lib.asciiSpaceTab := by kernel_rfl
theorem tb_of_reads {W : World} (h : Lib.VarReads Tryz.prog W "strings.asciiSpace" Rows.laid_strings_asciiSpace) : Tb W := by
  obtain ⟨g, t, cs, fuel, p, hg, ht, hv, hd⟩ := h
  obtain rfl := Option.some.inj (Tryz.gSp.symm.trans hg)
  obtain rfl := Option.some.inj (Tryz.tSp.symm.trans ht)
  rw [tabSp] at hd
  have hc := Lib.cells_of_tab Tryz.underlying176 Tryz.underlying5 (by kernel_rfl) (by kernel_rfl) hd
  intro c hcc
  have hcell := World.var?_cell hg hv c
  have e : cs[c]? = some (.int .u8 (if Lib.isSp (UInt8.ofNat c) then 1 else 0)) := by
    have hl : c < Lib.asciiSpaceTab.length := by rw [Lib.asciiSpaceTab_length]; exact hcc
    rw [← Array.getElem?_toList, hc, List.getElem?_map, List.getElem?_eq_getElem hl, ← Lib.asciiSpaceTab_at c hcc, List.getD_eq_getElem?_getD, List.getElem?_eq_getElem hl]
    rfl
  rw [← e]
  exact hcell
def dB : List Nat := [0, 1, 56, 2, 57, 49, 28, 3, 61, 58, 42, 50, 38, 29, 17, 4, 62, 47, 59, 36, 45, 43, 51, 22, 53, 39, 33, 30, 24, 18, 12, 5, 63, 55, 48, 27, 60, 41, 37, 16, 46, 35, 44, 21, 52, 32, 23, 11, 54, 26, 40, 15, 34, 20, 31, 10, 25, 14, 19, 9, 13, 8, 7, 6]
theorem tab64 : (Rows.laid_math_bits_deBruijn64tab : DataW Unit) = Lib.tabData .u8 (dB.map fun n : Nat => (n : Int)) := by kernel_rfl
theorem db_of_reads {W : World} (h : Lib.VarReads Tryz.prog W "math/bits.deBruijn64tab" Rows.laid_math_bits_deBruijn64tab) : W.cell? ⟨10, 15, none⟩ = some (.int .u8 4) := by
  obtain ⟨g, t, cs, fuel, p, hg, ht, hv, hd⟩ := h
  obtain rfl := Option.some.inj (Tryz.g64.symm.trans hg)
  obtain rfl := Option.some.inj (Tryz.t64.symm.trans ht)
  rw [tab64] at hd
  have hc := Lib.cells_of_tab Tryz.underlying260 Tryz.underlying5 (by kernel_rfl) (by kernel_rfl) hd
  have hcell := World.var?_cell hg hv 15
  have e : cs[15]? = some (.int .u8 4) := by
    rw [← Array.getElem?_toList, hc]; rfl
  rw [← e]
  exact hcell
def laidZ : List (String × DataW Unit) := [("math/bits.deBruijn32tab", Rows.laid_math_bits_deBruijn32tab), ("math/bits.deBruijn64tab", Rows.laid_math_bits_deBruijn64tab), ("internal/strconv.uint64pow10", Rows.laid_internal_strconv_uint64pow10), ("unicode/utf8.acceptRanges", Rows.laid_unicode_utf8_acceptRanges), ("strconv.ErrRange", Rows.laid_strconv_ErrRange), ("strconv.ErrSyntax", Rows.laid_strconv_ErrSyntax), ("unicode.White_Space", Rows.laid_unicode_White_Space), ("strings.asciiSpace", Rows.laid_strings_asciiSpace), ("unicode/utf8.first", Rows.laid_unicode_utf8_first)]
theorem laidZ_met (os : Os) (args : Array Value) : laidMetH Tryz.prog laidZ ((World.laidAll Tryz.prog os laidZ).forCall (fun _ _ => 0) ⟨#[], args, []⟩).memory := by
  rw [MakeChecks.laidMetH_plain _ _ _ (by kernel_rfl)]; exact laidMet_laidAll _ (by kernel_rfl) (by kernel_rfl)
theorem tabZ : (Rows.laid_internal_strconv_uint64pow10 : DataW Unit) = Lib.tabData .u64 Lib.pow10Tab := by kernel_rfl
theorem starErr : "*" ++ "errors.errorString" = "*errors.errorString" := by decide
theorem rowErr (u : TypeId) (h : Tryz.prog.typeName? 3 u = some "*errors.errorString") : u = 261 :=
  typeName_ptr_named (nm := "errors.errorString") (by rw [starErr]; kernel_rfl) (by kernel_rfl) (by decide) u (by rw [starErr]; exact h)
theorem lw_of {w : World} (hs : w.ShapedOpen Tryz.prog) (h : laidMetH Tryz.prog laidZ w) : Lw w := by
  rw [MakeChecks.laidMetH_plain _ _ _ (by kernel_rfl)] at h
  have htb : Tb w := tb_of_reads (Lib.laidMet.reads h (by unfold laidZ; exact List.mem_cons_of_mem _ (List.mem_cons_of_mem _ (List.mem_cons_of_mem _ (List.mem_cons_of_mem _ (List.mem_cons_of_mem _ (List.mem_cons_of_mem _ (List.mem_cons_of_mem _ (List.mem_cons_self ..)))))))))
  have hdb := db_of_reads (Lib.laidMet.reads h (by unfold laidZ; exact List.mem_cons_of_mem _ (List.mem_cons_self ..)))
  have h2 := laidMet.tail (laidMet.tail h)
  rw [tabZ] at h2
  have h4 := laidMet.tail (laidMet.tail h2)
  have h5 := laidMet.tail h4
  obtain ⟨a, s9, hv, _⟩ := laid_sentinel h5 (g := 7) (ti := 122) (tp := 261) (te := 263) (ts := 9) (by kernel_rfl) (by kernel_rfl) Tryz.underlying122 rowErr Tryz.underlying261 Tryz.underlying263 rfl rfl Tryz.underlying9 (by kernel_rfl) (by kernel_rfl)
  have hc : w.cell? ⟨7, 0, none⟩ = some (.iface 261 (.pointer (some a))) := by simpa using World.var?_cell (show Tryz.prog.globalNamed "strconv.ErrSyntax" = some 7 by kernel_rfl) hv 0
  obtain ⟨a', s9', hv', _⟩ := laid_sentinel h4 (g := 8) (ti := 122) (tp := 261) (te := 263) (ts := 9) (by kernel_rfl) (by kernel_rfl) Tryz.underlying122 rowErr Tryz.underlying261 Tryz.underlying263 rfl rfl Tryz.underlying9 (by kernel_rfl) (by kernel_rfl)
  have hc' : w.cell? ⟨8, 0, none⟩ = some (.iface 261 (.pointer (some a'))) := by simpa using World.var?_cell (show Tryz.prog.globalNamed "strconv.ErrRange" = some 8 by kernel_rfl) hv' 0
  obtain ⟨m, hm⟩ := Go.Proofs.cell_of_shapedOpen_int (zero := #[.int .i64 0]) (t := 3) (g := 3) hs (of_decide_eq_true (by kernel_rfl)) (by kernel_rfl) rfl (by kernel_rfl) (by kernel_rfl) Tryz.underlying3
  exact ⟨⟨htb, htb.size⟩, ⟨lt_of_cell hm, m, hm⟩, Lib.tabIs_of_head (g := 4) (t := 235) (e := 22) (n := 20) (by kernel_rfl) (by kernel_rfl) Tryz.underlying235 Tryz.underlying22 (by kernel_rfl) (by kernel_rfl) h2, ⟨lt_of_cell hc, 261, _, hc⟩, ⟨lt_of_cell hc', 261, _, hc'⟩, ⟨lt_of_cell hdb, hdb⟩⟩
/-- an instruction's numbers -/
structure InA (x : In) : Prop where
  cd : (Lit.int .i64 x.cd).wf = true
  a : 0 ≤ x.a ∧ x.a < 18446744073709551616
  b : 0 ≤ x.b ∧ x.b < 18446744073709551616
  l : ∀ z ∈ x.l, 0 ≤ z ∧ z < 18446744073709551616
section
variable {H : Type} {enc : TypeId × Value → H} {w : World} {base : Nat} {sp : Nat → Bool} {held : Bool}
set_option maxRecDepth 100000 in
theorem words_of_trod {fuel : Nat} {v : Value} {y : DataW H × List MemPlace} (h : DataW.trod enc Tryz.prog w base sp held fuel 23 [v] = some y) :
    ∃ (B : Option Addr) (cap : Nat) (l : List Int), v = .slice B l.length cap ∧ Sl w B l.length cap l ∧ ∀ z ∈ l, 0 ≤ z ∧ z < 18446744073709551616 := by
  rcases open_ints Tryz.underlying23 Tryz.underlying22 (by kernel_rfl) h with ⟨hcs, _⟩ | ⟨x, l, c, zs, hcs, _, hl, hm, hz, hx, hcell, hwz⟩
  · injection hcs with hcs
    exact ⟨none, 0, [], hcs, ⟨rfl, Nat.le_refl _, Nat.zero_le _, fun q => absurd q (Nat.lt_irrefl _)⟩, by simp⟩
  · injection hcs with hcs
    have hlz : l ≤ zs.length := by rw [hz]; split <;> omega
    have hln : (zs.take l).length = l := by rw [List.length_take]; omega
    refine ⟨some x, c, zs.take l, by rw [hln]; exact hcs, ?_, fun z hz' => by have := bounds_u64 (hwz z (List.mem_of_mem_take hz')); omega⟩
    rw [hln]
    refine ⟨hln, hl, hm, fun h0 => ?_⟩
    have hc0 := hcell 0 (by omega)
    have hspot := World.cell?_spot hc0
    have hlt := lt_of_cell hc0
    obtain ⟨b, off, spot⟩ := x
    have hs : spot = none := by simpa [Addr.add] using hspot
    subst hs
    have hadd : ∀ i, (⟨b, off, none⟩ : Addr).add i = ⟨b, off + i, none⟩ := fun i => by cases i <;> simp [Addr.add]
    rw [hadd] at hlt
    refine ⟨b, off, rfl, hlt, fun i hi => ?_⟩
    have := hcell i (by omega)
    rw [hadd] at this
    rw [this]
    unfold U64
    rw [List.getD_eq_getElem?_getD, List.getD_eq_getElem?_getD, List.getElem?_take_of_lt hi]
set_option maxRecDepth 100000 in
theorem in_of_arg {r : Reach} {b0 : Nat} {v : Value} {d : DataW H} {ps : List MemPlace} (hval : Value.okWide Tryz.prog w r b0 25 v) (hd : DataW.Trod enc Tryz.prog w base sp held 25 v d ps) :
    ∃ (x : In) (B : Option Addr) (cp : Nat), v = .agg (I5 x (.slice B x.l.length cp)).toArray ∧ Sl w B x.l.length cp x.l ∧ InA x := by
  obtain ⟨cs, rfl, hsz⟩ := okWide_struct Tryz.underlying25 hval
  obtain ⟨fuel, hf⟩ := hd
  have hC : Tryz.prog.cellsOf 25 = 5 := by kernel_rfl
  obtain ⟨ys, n', _, hD, _, hyl, hff⟩ := DataW.trod_struct Tryz.underlying25 hf
  obtain ⟨l⟩ := cs
  rw [hC] at hsz
  obtain ⟨u0, u1, u2, u3, u4, rfl⟩ : ∃ u0 u1 u2 u3 u4, l = [u0, u1, u2, u3, u4] := by
    match l, hsz with
    | [u0, u1, u2, u3, u4], _ => exact ⟨u0, u1, u2, u3, u4, rfl⟩
  obtain ⟨y0, y1, y2, y3, y4, rfl⟩ : ∃ y0 y1 y2 y3 y4, ys = [y0, y1, y2, y3, y4] := by
    match ys, hyl with
    | [y0, y1, y2, y3, y4], _ => exact ⟨y0, y1, y2, y3, y4, rfl⟩
  have h3 : Tryz.prog.cellsOf 3 = 1 := by kernel_rfl
  have h22 : Tryz.prog.cellsOf 22 = 1 := by kernel_rfl
  have h23 : Tryz.prog.cellsOf 23 = 1 := by kernel_rfl
  have f0 := hff 0 _ rfl
  have f1 := hff 1 _ rfl
  have f2 := hff 2 _ rfl
  have f3 := hff 3 _ rfl
  have f4 := hff 4 _ rfl
  simp only [h3, h22, h23, Value.cells, List.drop_zero, List.drop_succ_cons, List.take_succ_cons, List.take_zero, List.getElem?_cons_zero, List.getElem?_cons_succ] at f0 f1 f2 f3 f4
  obtain ⟨cd, e0, _, w0⟩ := DataW.trod_int Tryz.underlying3 f0
  obtain ⟨a, e1, _, w1⟩ := DataW.trod_int Tryz.underlying22 f1
  obtain ⟨b, e2, _, w2⟩ := DataW.trod_int Tryz.underlying22 f2
  obtain ⟨al, e3, _, w3⟩ := DataW.trod_int Tryz.underlying3 f3
  obtain ⟨B, cp, l, rfl, hl, hb⟩ := words_of_trod f4
  injection e0 with e0
  injection e1 with e1
  injection e2 with e2
  injection e3 with e3
  subst e0 e1 e2 e3
  have ba := bounds_u64 w1
  have bb := bounds_u64 w2
  exact ⟨⟨cd, a, b, al, l⟩, B, cp, rfl, hl, ⟨w0, ⟨ba.1, by show a < _; omega⟩, ⟨bb.1, by show b < _; omega⟩, hb⟩⟩
end
end Go.Proofs.YtggfaalodojjkaaGreatDoor
/-
  InstrApart: the law, whole.
-/
namespace Go.Proofs.YtggfaalodojjkaaGreatDoor
open Go.RowKit
set_option linter.unusedVariables false
set_option linter.unusedSimpArgs false
theorem sl_own {w : World} {B n : Nat} {v : Value} {l : List Int} (h : w.ownsRow B 22 1 v n (l.map U64)) (hl : l.length = n) (hn : n ≤ maxLen) : ∃ A cp, v = .slice A n cp ∧ Sl w A n cp l := by
  rcases Nat.eq_zero_or_pos n with h0 | h0
  · subst h0
    rcases h.2 with ⟨e, h1⟩ | ⟨g, cap, cur, e, h1, h2, h3, h4, h5, h6⟩
    · subst e
      exact ⟨none, 0, rfl, ⟨hl, Nat.le_refl _, Nat.zero_le _, fun q => absurd q (by omega)⟩⟩
    · subst e
      exact ⟨_, _, rfl, ⟨hl, by omega, h4, fun q => absurd q (by omega)⟩⟩
  · rcases h.2 with ⟨e, h1⟩ | ⟨g, cap, cur, e, h1, h2, h3, h4, h5, h6⟩
    · omega
    · subst e
      refine ⟨_, _, rfl, ⟨hl, h3, h4, fun _ => ⟨g, 0, rfl, (h.lt g rfl).2, fun j hj => ?_⟩⟩⟩
      rw [Nat.zero_add, h.cellAt j (by omega), List.getElem?_map, List.getD_eq_getElem?_getD, List.getElem?_eq_getElem (by omega)]
      rfl
set_option maxHeartbeats 2000000 in
set_option maxRecDepth 100000 in
theorem apart_long (cd a b al cd2 a2 b2 al2 : Int) (A A2 : Option Addr) (n c n2 c2 : Nat) (hn : 120 < n ∨ (n ≤ 120 ∧ 120 < n2)) (hnc : n ≤ c) (hnc2 : n2 ≤ c2) (hc : c ≤ 9223372036854775807) (hc2 : c2 ≤ 9223372036854775807) (w : World)
    (hA : ∀ W, Below w.heap.size w W → Calls Tryz.prog 8 #[] W fun e w' => e = .returned (.bool true) ∧ Below W.heap.size W w') :
    Calls Tryz.prog 7 #[.agg #[.int .i64 cd, .int .u64 a, .int .u64 b, .int .i64 al, .slice A n c], .agg #[.int .i64 cd2, .int .u64 a2, .int .u64 b2, .int .i64 al2, .slice A2 n2 c2]] w fun e w' => e = .returned (.bool true) ∧ Below w.heap.size w w' := by
  obtain ⟨W0, hW0⟩ : ∃ V, V = (w.alloc (.cells #[.int .i64 cd, .int .u64 a, .int .u64 b, .int .i64 al, .slice A n c] 25)).alloc (.cells #[.int .i64 cd2, .int .u64 a2, .int .u64 b2, .int .i64 al2, .slice A2 n2 c2] 25) := ⟨_, rfl⟩
  have hb0 : Below w.heap.size w W0 := by rw [hW0]; exact ((Below.refl _ _).alloc (Nat.le_refl _) _).alloc (by simp) _
  have hX0 : Blk W0 w.heap.size 25 #[.int .i64 cd, .int .u64 a, .int .u64 b, .int .i64 al, .slice A n c] := by rw [hW0]; exact (Blk.new w 25 _).alloc _
  have hY0 : Blk W0 (w.heap.size + 1) 25 #[.int .i64 cd2, .int .u64 a2, .int .u64 b2, .int .i64 al2, .slice A2 n2 c2] := by rw [hW0]; exact heap2 w _ _
  have HB0 := Lib.hid hb0
  have HW0 := Lib.hid hW0
  have HA := Lib.hid hA
  have z4 : W0.cell? ⟨w.heap.size, 4, none⟩ = some (.slice A n c) := hX0.cell 4
  have z9 : W0.cell? ⟨w.heap.size + 1, 4, none⟩ = some (.slice A2 n2 c2) := hY0.cell 4
  clear hb0 hX0 hY0 hW0 hA
  rcases hn with hn | ⟨hn, hn2⟩
  all_goals
    go_enter Tryz.func7, Tryz.ntmps7
    go_upto_region 1 with fail
    rw [← HW0.out]
    go_wp2_with (go_at_call 8; with_reducible refine (HA.out W0 HB0.out).mono ?_; rintro e w1 ⟨rfl, hb1⟩; have HB1 := Lib.hid hb1; clear hb1)
    go_ret
    exact ⟨rfl, HB0.out.trans (HB1.out.mono HB0.out.size)⟩
theorem eqI_iff (x y : In) : eqI x y = true ↔ x = y := by
  obtain ⟨c1, a1, b1, d1, l1⟩ := x
  obtain ⟨c2, a2, b2, d2, l2⟩ := y
  unfold eqI
  simp only [Bool.and_eq_true, decide_eq_true_eq, In.mk.injEq]
  exact ⟨fun ⟨⟨⟨⟨a, b⟩, c⟩, d⟩, e⟩ => ⟨a, b, c, d, e⟩, fun ⟨a, b, c, d, e⟩ => ⟨⟨⟨⟨a, b⟩, c⟩, d⟩, e⟩⟩
theorem InA.w {x : In} (h : InA x) (hn : x.l.length ≤ 120) : InW x := ⟨h.cd, h.a, h.b, h.l, by omega⟩
theorem right_of_rr {x : In} (h : InW x) (hr : rrB x = true) : ∃ r, rightI x r := by
  unfold rrB at hr
  simp only [Bool.and_eq_true, Bool.not_eq_true', List.isEmpty_eq_false_iff] at hr
  exact right_of_doc x h hr.1 hr.2
theorem to_sl (x : In) (A : Option Addr) (c : Nat) (W : World) (h : Sl W A x.l.length c x.l) (hn : x.l.length ≤ 120) :
    Calls Tryz.prog 9 #[.agg (I5 x (.slice A x.l.length c)).toArray] W fun e w' => ∃ g cp, x.l.length ≤ cp ∧ cp ≤ 9223372036854775807 ∧ e = .returned (.agg (I5 x (.slice (some ⟨g, 0, none⟩) x.l.length cp)).toArray) ∧ Below W.heap.size W w' ∧ Sl w' (some ⟨g, 0, none⟩) x.l.length cp x.l := by
  refine (To_ok x A c W h (by omega)).mono ?_
  rintro e w' ⟨hb, g, cp, rfl, ho⟩
  obtain ⟨A', cp', e, hs⟩ := sl_own ho rfl (by unfold maxLen; omega)
  injection e with e1 e2 e3
  subst e1; subst e3
  have h1 := hs.2.1
  have h2 := hs.2.2.1
  unfold maxLen at h2
  exact ⟨g, cp, h1, h2, rfl, hb, hs⟩
theorem instrApart_walk (x : In) (A : Option Addr) (c : Nat) (y : In) (A2 : Option Addr) (c2 : Nat) (w : World) (hl : Sl w A x.l.length c x.l) (hx : InA x) (hl2 : Sl w A2 y.l.length c2 y.l) (hy : InA y) (hL : Lw w) :
    Calls Tryz.prog 7 #[.agg (I5 x (.slice A x.l.length c)).toArray, .agg (I5 y (.slice A2 y.l.length c2)).toArray] w fun e w' => e = .returned (.bool true) ∧ Below w.heap.size w w' := by
  have hnc := hl.2.1
  have hcm := hl.2.2.1
  have hnc2 := hl2.2.1
  have hcm2 := hl2.2.2.1
  unfold maxLen at hcm hcm2
  have hA := fun W (hW : Below w.heap.size w W) => awake_any W (hL.below hW)
  by_cases hlong : 120 < x.l.length ∨ (x.l.length ≤ 120 ∧ 120 < y.l.length)
  · exact apart_long x.cd x.a x.b x.al y.cd y.a y.b y.al A A2 _ c _ c2 hlong hnc hnc2 (by omega) (by omega) w hA
  have hn : x.l.length ≤ 120 := by omega
  have hn2 : y.l.length ≤ 120 := by omega
  have wx := hx.w hn
  have wy := hy.w hn2
  have hE : ∀ (z : In), InW z → z.l.length ≤ 120 → rrB z = true → ∃ r, rightI z r := fun z h1 _ h2 => right_of_rr h1 h2
  obtain ⟨L, hLx⟩ : ∃ L, rrB x = true → ∃ r, rightI x r ∧ L = encL x r := by
    by_cases h : rrB x = true
    · obtain ⟨r, hr⟩ := hE x wx hn h
      exact ⟨_, fun _ => ⟨r, hr, rfl⟩⟩
    · exact ⟨[], fun q => absurd q h⟩
  obtain ⟨L2, hLy⟩ : ∃ L, rrB y = true → ∃ r, rightI y r ∧ L = encL y r := by
    by_cases h : rrB y = true
    · obtain ⟨r, hr⟩ := hE y wy hn2 h
      exact ⟨_, fun _ => ⟨r, hr, rfl⟩⟩
    · exact ⟨[], fun q => absurd q h⟩
  refine apart_walk x.cd x.a x.b x.al y.cd y.a y.b y.al A A2 x.l.length c y.l.length c2 hn hn2 hnc hnc2 (by omega) (by omega) w (eqI x y) (rrB x) (rrB y) L L2
    (fun g cp W => Sl W (some ⟨g, 0, none⟩) x.l.length cp x.l) (fun g cp W => Sl W (some ⟨g, 0, none⟩) y.l.length cp y.l)
    (fun g cp W V h hb => h.below hb) (fun g cp W V h hb => h.below hb) hA ?_
    (fun W hW => to_sl x A c W (hl.below hW) hn) (fun W hW => to_sl y A2 c2 W (hl2.below hW) hn2)
    (fun g cp g2 cp2 W hW h1 h2 => Same_I x y _ _ cp cp2 (by omega) (by omega) W h1 h2)
    (fun W hW => RRight_any x wx A c W (hl.below hW)) (fun W hW => RRight_any y wy A2 c2 W (hl2.below hW)) ?_ ?_ ?_
  · exact fun W hW => RSame_I x.cd y.cd x.a y.a x.b y.b x.al y.al A A2 c c2 x.l y.l (by omega) (by omega) W (hl.below hW) (hl2.below hW)
  · intro h1 _ g cp W hW hs
    obtain ⟨r, hr, rfl⟩ := hLx h1
    exact enc_any x r hr wx _ cp W (hL.below hW).tb.1 hs
  · intro _ h1 g cp W hW hs
    obtain ⟨r, hr, rfl⟩ := hLy h1
    exact enc_any y r hr wy _ cp W (hL.below hW).tb.1 hs
  · intro h1 h2
    obtain ⟨r, hr, rfl⟩ := hLx h1
    obtain ⟨s, hs, rfl⟩ := hLy h2
    split
    · rename_i he
      have := (eqI_iff x y).1 he
      subst this
      rw [right_uniq hr hs rfl]
    · rename_i he
      exact enc_meet x y r s hr hs wx wy (fun e => he ((eqI_iff x y).2 e)) _ rfl
end Go.Proofs.YtggfaalodojjkaaGreatDoor
