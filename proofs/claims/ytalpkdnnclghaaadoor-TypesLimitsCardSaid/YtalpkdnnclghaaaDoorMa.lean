/-
  Signatures' texts: what is printed is read, and nothing else is; the document's reading is the same.
-/
import Derived.Test.YtalpkdnnclghaaaDoorNj
namespace Go.Proofs.YtalpkdnnclghaaaDoor
set_option linter.unusedVariables false
set_option linter.unusedSimpArgs false
/-- a type's name as bytes -/
def nmL (t : Nat) : List UInt8 := (nmT t).data.toList
/-- names behind others -/
def tl : List Nat → List UInt8
  | [] => []
  | t :: l => 44 :: (nmL t ++ tl l)
def jn : List Nat → List UInt8
  | [] => []
  | t :: l => nmL t ++ tl l
def isT (t : Nat) : Bool := t == 127 || t == 126
theorem tl_snoc (l : List Nat) (t : Nat) : tl (l ++ [t]) = tl l ++ (44 :: nmL t) := by
  induction l with
  | nil => simp [tl]
  | cons a l ih => simp [tl, ih]
theorem jn_snoc (l : List Nat) (t : Nat) : jn (l ++ [t]) = jn l ++ ((if l = [] then [] else [44]) ++ nmL t) := by
  cases l with
  | nil => simp [jn, tl]
  | cons a l => simp [jn, tl_snoc]
theorem txt_eq (l : List Nat) (k : Nat) (hk : k ≤ l.length) : txt l k = 40 :: jn (l.take k) := by
  induction k with
  | zero => simp [txt, jn]
  | succ k ih =>
    have hlt : k < l.length := hk
    have e : l.take (k + 1) = l.take k ++ [l.getD k 0] := by
      rw [List.getD_eq_getElem?_getD, List.getElem?_eq_getElem hlt, List.take_succ_eq_append_getElem hlt]; rfl
    rw [txt, ih (by omega), e, jn_snoc]
    have h2 : (l.take k = []) ↔ k = 0 := by
      rw [List.take_eq_nil_iff]; constructor
      · rintro (h | h)
        · exact h
        · subst h; simp at hlt
      · exact Or.inl
    simp only [h2, List.cons_append, nmL]
theorem txtL_eq (l : List Nat) : txtL l = ⟨(40 :: (jn l ++ [41])).toArray⟩ := by
  unfold txtL
  rw [txt_eq l l.length (Nat.le_refl _), List.take_of_length_le (Nat.le_refl _)]; rfl
theorem nmL_cases (t : Nat) : (t = 127 ∧ nmL t = [105, 51, 50]) ∨ (t = 126 ∧ nmL t = [105, 54, 52]) ∨ (isT t = false ∧ nmL t = [63]) := by
  unfold nmL nmT isT
  by_cases h : t = 127
  · subst h; exact .inl ⟨rfl, rfl⟩
  · by_cases h' : t = 126
    · subst h'; exact .inr (.inl ⟨rfl, rfl⟩)
    · rw [if_neg h, if_neg h']; exact .inr (.inr ⟨by simp [h, h'], rfl⟩)
theorem nm_no (t : Nat) : (44 : UInt8) ∉ nmL t ∧ (45 : UInt8) ∉ nmL t := by
  rcases nmL_cases t with ⟨_, e⟩ | ⟨_, e⟩ | ⟨_, e⟩ <;> rw [e] <;> decide
theorem ib_app (p r : List UInt8) (c : UInt8) (h : c ∉ p) : Lib.indexByte (p ++ c :: r) c = p.length := by
  induction p with
  | nil => simp [Lib.indexByte]
  | cons a p ih =>
    simp only [List.mem_cons, not_or] at h
    have h1 : (a == c) = false := by rw [beq_eq_false_iff_ne]; exact fun e => h.1 e.symm
    rw [List.cons_append, Lib.indexByte, ih h.2, h1]
    have h2 : ((p.length : Int) == -1) = false := by rw [beq_eq_false_iff_ne]; omega
    simp [h2]
theorem ib_none (p : List UInt8) (c : UInt8) (h : c ∉ p) : Lib.indexByte p c = -1 := by
  induction p with
  | nil => rfl
  | cons a p ih =>
    simp only [List.mem_cons, not_or] at h
    have h1 : (a == c) = false := by rw [beq_eq_false_iff_ne]; exact fun e => h.1 e.symm
    rw [Lib.indexByte, ih h.2, h1]; simp
theorem ib_some (p : List UInt8) (c : UInt8) (h : 0 ≤ Lib.indexByte p c) : p = p.take (Lib.indexByte p c).toNat ++ c :: p.drop ((Lib.indexByte p c).toNat + 1) := by
  induction p with
  | nil => simp [Lib.indexByte] at h
  | cons a p ih =>
    rw [Lib.indexByte] at h ⊢
    by_cases h1 : (a == c) = true
    · rw [if_pos h1]; simp [eq_of_beq h1]
    · have h1' := Bool.eq_false_iff.2 h1
      rw [h1'] at h ⊢
      by_cases h2 : (Lib.indexByte p c == -1) = true
      · rw [if_neg (by decide), if_pos h2] at h; omega
      · have h2' := Bool.eq_false_iff.2 h2
        rw [h2'] at h ⊢
        have hg := Lib.indexByte_ge p c
        rw [beq_eq_false_iff_ne] at h2'
        have h3 : 0 ≤ Lib.indexByte p c := by omega
        have := ih h3
        simp only [Bool.false_eq_true, if_false]
        have e : (Lib.indexByte p c + 1).toNat = (Lib.indexByte p c).toNat + 1 := by omega
        rw [e, List.take_succ_cons, List.drop_succ_cons, List.cons_append, ← this]
theorem tyB_nm (t : Nat) : tyB ⟨(nmL t).toArray⟩ = if isT t then some t else none := by
  rcases nmL_cases t with ⟨e, e2⟩ | ⟨e, e2⟩ | ⟨e, e2⟩
  · rw [e2, e]; simp [tyB, Lib.toList_data, isT]
  · rw [e2, e]; simp [tyB, Lib.toList_data, isT]
  · rw [e2, e]; simp [tyB, Lib.toList_data]
theorem tyB_some {p : ByteArray} {t : Nat} (h : tyB p = some t) : isT t = true ∧ p.data.toList = nmL t := by
  unfold tyB at h
  rw [Lib.toList_data] at h
  split at h
  · rename_i h1; cases h; exact ⟨rfl, eq_of_beq h1⟩
  · split at h
    · rename_i h1; cases h; exact ⟨rfl, eq_of_beq h1⟩
    · cases h
theorem pc_one (t : Nat) : pc (nmL t) = ⟨(nmL t).toArray⟩ ∧ nx (nmL t) = none := by
  have e : cm (nmL t) = -1 := ib_none _ _ (nm_no t).1
  unfold pc nx; rw [e]; exact ⟨rfl, rfl⟩
theorem pc_more (t u : Nat) (l : List Nat) : pc (jn (t :: u :: l)) = ⟨(nmL t).toArray⟩ ∧ nx (jn (t :: u :: l)) = some (jn (u :: l)) := by
  have e0 : jn (t :: u :: l) = nmL t ++ 44 :: jn (u :: l) := rfl
  have e : cm (jn (t :: u :: l)) = (nmL t).length := by rw [e0]; exact ib_app _ _ _ (nm_no t).1
  unfold pc nx
  rw [e, if_pos (by omega), if_pos (by omega), e0]
  simp
theorem go_jn (l : List Nat) (hl : l ≠ []) : ∀ f L, l.length < f → L.length ≤ 20 → go f L (jn l) = if l.all isT && decide (L.length + l.length ≤ 20) then some (L ++ l) else none := by
  induction l with
  | nil => exact absurd rfl hl
  | cons t l ih =>
    intro f L hf hL
    obtain ⟨f, rfl⟩ : ∃ k, f = k + 1 := ⟨f - 1, by simp at hf; omega⟩
    cases l with
    | nil =>
      have h := pc_one t
      have e0 : jn [t] = nmL t := by simp [jn, tl]
      rw [e0, go, h.1, tyB_nm, h.2]
      by_cases ht : isT t = true
      · simp only [ht, if_true, List.all_cons, List.all_nil, Bool.true_and, List.length_singleton]
        by_cases h20 : L.length = 20
        · rw [if_pos h20, if_neg (by simp; omega)]
        · rw [if_neg h20, if_pos (by simp; omega)]
      · rw [Bool.eq_false_iff.2 ht]; simp [Bool.eq_false_iff.2 ht]
    | cons u l =>
      have h := pc_more t u l
      rw [go, h.1, tyB_nm, h.2]
      by_cases ht : isT t = true
      · simp only [ht, if_true, List.all_cons, Bool.true_and]
        by_cases h20 : L.length = 20
        · rw [if_pos h20, if_neg (by simp; omega)]
        · rw [if_neg h20, ih (by simp) f (L ++ [t]) (by simp at hf ⊢; omega) (by simp; omega)]
          simp only [List.all_cons, List.length_append, List.length_cons, List.length_nil, List.append_assoc, List.singleton_append]
          rw [show L.length + (0 + 1) + (l.length + 1) = L.length + (l.length + 1 + 1) by omega]
      · rw [Bool.eq_false_iff.2 ht]; simp [Bool.eq_false_iff.2 ht]
theorem go_some : ∀ f L r M, L.length ≤ 20 → go f L r = some M → ∃ l, l ≠ [] ∧ M = L ++ l ∧ r = jn l ∧ l.all isT = true ∧ L.length + l.length ≤ 20 := by
  intro f
  induction f with
  | zero => intro L r M _ h; simp [go] at h
  | succ f ih =>
    intro L r M hL h
    rw [go] at h
    cases ht : tyB (pc r) with
    | none => rw [ht] at h; cases h
    | some t =>
      rw [ht] at h
      obtain ⟨h1, h2⟩ := tyB_some ht
      simp only [] at h
      by_cases h20 : L.length = 20
      · rw [if_pos h20] at h; cases h
      · rw [if_neg h20] at h
        by_cases hc : 0 ≤ cm r
        · have e1 : nx r = some (r.drop ((cm r).toNat + 1)) := by unfold nx; rw [if_pos hc]
          have e2 : pc r = ⟨(r.take (cm r).toNat).toArray⟩ := by unfold pc; rw [if_pos hc]
          rw [e1] at h
          rw [e2] at h2
          obtain ⟨l, hl, e3, e4, e5, e6⟩ := ih _ _ _ (by simp; omega) h
          refine ⟨t :: l, by simp, by rw [e3]; simp, ?_, by simp [h1, e5], by simp at e6 ⊢; omega⟩
          have h3 := ib_some r 44 hc
          rw [h3]
          have e7 : Lib.indexByte r 44 = cm r := rfl
          rw [e7, e4]
          have e8 : r.take (cm r).toNat = nmL t := by simpa using h2
          rw [e8]
          cases l with
          | nil => exact absurd rfl hl
          | cons u l => rfl
        · have e1 : nx r = none := by unfold nx; rw [if_neg hc]
          have e2 : pc r = ⟨r.toArray⟩ := by unfold pc; rw [if_neg hc]
          rw [e1] at h
          rw [e2] at h2
          cases h
          exact ⟨[t], by simp, rfl, by simpa [jn, tl] using h2, by simp [h1], by simp; omega⟩
/-- a list that may be -/
def okL (l : List Nat) : Bool := l.all isT && decide (l.length ≤ 20)
theorem nmL_pos (t : Nat) : 1 ≤ (nmL t).length := by
  rcases nmL_cases t with ⟨_, e⟩ | ⟨_, e⟩ | ⟨_, e⟩ <;> rw [e] <;> decide
theorem tl_len (l : List Nat) : l.length ≤ (tl l).length := by
  induction l with
  | nil => simp [tl]
  | cons t l ih => simp only [tl, List.length_cons, List.length_append]; omega
theorem jn_len (l : List Nat) : l.length ≤ (jn l).length := by
  cases l with
  | nil => simp [jn]
  | cons t l => have := tl_len l; have := nmL_pos t; simp only [jn, List.length_cons, List.length_append]; omega
theorem jn_nil {l : List Nat} (h : jn l = []) : l = [] := by
  have := jn_len l; rw [h] at this; simpa using this
/-- between brackets -/
theorem psL_in (r : List UInt8) : psL (40 :: (r ++ [41])) = if r = [] then some [] else go (r.length + 1) [] r := by
  have h1 : Lib.hasPrefix (40 :: (r ++ [41])) [40] = true := by simp [Lib.hasPrefix]
  have h2 : Lib.trimPrefix (40 :: (r ++ [41])) [40] = r ++ [41] := by unfold Lib.trimPrefix; rw [h1]; simp
  have h3 : Lib.hasSuffix (r ++ [41]) [41] = true := by simp [Lib.hasSuffix]
  have h4 : Lib.trimSuffix (r ++ [41]) [41] = r := by unfold Lib.trimSuffix; rw [h3]; simp
  unfold psL
  rw [h2, h1, h3, h4]; rfl
theorem psL_out {s : List UInt8} {l : List Nat} (h : psL s = some l) : ∃ r, s = 40 :: (r ++ [41]) := by
  unfold psL at h
  by_cases hb : (Lib.hasPrefix s [40] && Lib.hasSuffix (Lib.trimPrefix s [40]) [41]) = true
  · rw [Bool.and_eq_true] at hb
    obtain ⟨h1, h2⟩ := hb
    have h1' := h1
    unfold Lib.hasPrefix at h1
    rw [List.isPrefixOf_iff_prefix] at h1
    obtain ⟨q, hq⟩ := h1
    unfold Lib.trimPrefix at h2
    rw [h1', if_pos rfl, ← hq] at h2
    unfold Lib.hasSuffix at h2
    rw [List.isSuffixOf_iff_suffix] at h2
    obtain ⟨r, hr⟩ := h2
    exact ⟨r, by rw [← hq]; simp at hr ⊢; exact hr.symm⟩
  · rw [if_neg hb] at h; cases h
theorem psL_txt (l : List Nat) : psL (40 :: (jn l ++ [41])) = if okL l then some l else none := by
  rw [psL_in]
  by_cases h0 : jn l = []
  · rw [if_pos h0, jn_nil h0]; rfl
  · rw [if_neg h0, go_jn l (fun e => h0 (by rw [e]; rfl)) _ _ (by have := jn_len l; omega) (by simp)]
    simp [okL]
theorem psL_some {s : List UInt8} {l : List Nat} (h : psL s = some l) : okL l = true ∧ s = 40 :: (jn l ++ [41]) := by
  obtain ⟨r, rfl⟩ := psL_out h
  rw [psL_in] at h
  by_cases h0 : r = []
  · rw [if_pos h0] at h; cases h; subst h0; exact ⟨rfl, rfl⟩
  · rw [if_neg h0] at h
    obtain ⟨l', _, e1, e2, e3, e4⟩ := go_some _ _ _ _ (by simp) h
    simp only [List.nil_append] at e1
    subst e1; subst e2
    exact ⟨by simp [okL, e3]; simpa using e4, rfl⟩
/-- cut at "->" -/
theorem tl_no (l : List Nat) : (45 : UInt8) ∉ tl l := by
  induction l with
  | nil => simp [tl]
  | cons t l ih => simp only [tl, List.mem_cons, List.mem_append, not_or]; exact ⟨by decide, (nm_no t).2, ih⟩
theorem jn_no (l : List Nat) : (45 : UInt8) ∉ jn l := by
  cases l with
  | nil => simp [jn]
  | cons t l => simp only [jn, List.mem_append, not_or]; exact ⟨(nm_no t).2, tl_no l⟩
theorem br_no (l : List Nat) : (45 : UInt8) ∉ (40 :: (jn l ++ [41])) := by
  simp only [List.mem_cons, List.mem_append, not_or]; exact ⟨by decide, jn_no l, by decide, by simp⟩
theorem index_app (p r : List UInt8) (h : (45 : UInt8) ∉ p) : Lib.index (p ++ 45 :: 62 :: r) [45, 62] = p.length := by
  induction p with
  | nil => simp [Lib.index]
  | cons a p ih =>
    simp only [List.mem_cons, not_or] at h
    have h1 : List.isPrefixOf [45, 62] (a :: (p ++ 45 :: 62 :: r)) = false := by
      have : ((45 : UInt8) == a) = false := by rw [beq_eq_false_iff_ne]; exact h.1
      simp [List.isPrefixOf, this]
    rw [List.cons_append, Lib.index, h1, ih h.2]
    have h2 : ((p.length : Int) == -1) = false := by rw [beq_eq_false_iff_ne]; omega
    simp [h2]
theorem cut_app (p r : List UInt8) (h : (45 : UInt8) ∉ p) : Lib.cut (p ++ 45 :: 62 :: r) [45, 62] = (p, r, true) := by
  unfold Lib.cut
  rw [index_app p r h, if_pos (by omega)]
  simp
theorem cut_true (s : List UInt8) (h : (Lib.cut s [45, 62]).2.2 = true) : s = (Lib.cut s [45, 62]).1 ++ 45 :: 62 :: (Lib.cut s [45, 62]).2.1 := by
  unfold Lib.cut at h ⊢
  by_cases h0 : 0 ≤ Lib.index s [45, 62]
  · rw [if_pos h0]
    rcases Lib.index_spec s [45, 62] with ⟨h1, _⟩ | ⟨i, h1, h2, h3, _⟩
    · omega
    · rw [h1]
      simp only [Int.toNat_natCast]
      unfold Lib.occAt at h3
      rw [List.isPrefixOf_iff_prefix] at h3
      obtain ⟨q, hq⟩ := h3
      have e : s.drop (i + 2) = q := by rw [← List.drop_drop, ← hq]; rfl
      rw [show ([45, 62] : List UInt8).length = 2 from rfl, e]
      conv => lhs; rw [← List.take_append_drop i s, ← hq]
      rfl
  · rw [if_neg h0] at h; simp at h
def sgT (l r : List Nat) : List UInt8 := (40 :: (jn l ++ [41])) ++ 45 :: 62 :: (40 :: (jn r ++ [41]))
theorem sgL_txt (l r : List Nat) : sgL (sgT l r) = if okL l && okL r then some (l, r) else none := by
  unfold sgL sgT
  rw [cut_app _ _ (br_no l)]
  simp only [psL_txt]
  by_cases h1 : okL l = true <;> by_cases h2 : okL r = true <;> simp [h1, h2, sgO]
theorem sgL_some {s : List UInt8} {l r : List Nat} (h : sgL s = some (l, r)) : okL l = true ∧ okL r = true ∧ s = sgT l r := by
  unfold sgL at h
  cases h1 : (Lib.cut s [45, 62]).2.2 with
  | false => rw [h1] at h; simp [sgO] at h
  | true =>
    cases h2 : psL (Lib.cut s [45, 62]).1 with
    | none => rw [h1, h2] at h; simp [sgO] at h
    | some a =>
      cases h3 : psL (Lib.cut s [45, 62]).2.1 with
      | none => rw [h1, h2, h3] at h; simp [sgO] at h
      | some b =>
        rw [h1, h2, h3] at h
        simp only [sgO, Option.some.injEq, Prod.mk.injEq] at h
        obtain ⟨rfl, rfl⟩ := h
        have h4 := cut_true s h1
        obtain ⟨e1, e2⟩ := psL_some h2
        obtain ⟨e3, e4⟩ := psL_some h3
        rw [e2, e4] at h4
        exact ⟨e1, e3, h4⟩
theorem sgT_inj {l r l' r' : List Nat} (h1 : okL l = true) (h2 : okL r = true) (h : sgT l r = sgT l' r') (h1' : okL l' = true) (h2' : okL r' = true) : l = l' ∧ r = r' := by
  have e := sgL_txt l r
  rw [h, sgL_txt l' r', h1, h2, h1', h2'] at e
  simp at e
  exact ⟨e.1.symm, e.2.symm⟩
/-- the document's reading -/
def nm3 (r : List UInt8) : Option Nat := if r.take 3 == [105, 51, 50] then some 127 else if r.take 3 == [105, 54, 52] then some 126 else none
def rgo : Nat → List Nat → List UInt8 → Option (List Nat × List UInt8)
  | 0, _, _ => none
  | f + 1, L, r =>
    if (0 < r.length && r.getD 0 0 == 41 && L.isEmpty) = true then some ([], r.drop 1)
    else if r.length < 4 then none
    else match nm3 r with
      | none => none
      | some t => if r.getD 3 0 = 41 then some (L ++ [t], r.drop 4) else if r.getD 3 0 = 44 then rgo f (L ++ [t]) (r.drop 4) else none
def rT (r : List UInt8) : Option (List Nat × List UInt8) := if (0 < r.length && r.getD 0 0 == 40) = true then rgo r.length [] (r.drop 1) else none
theorem nm3_nm (t : Nat) (h : isT t = true) (q : List UInt8) : nm3 (nmL t ++ q) = some t ∧ (nmL t).length = 3 := by
  rcases nmL_cases t with ⟨e, e2⟩ | ⟨e, e2⟩ | ⟨e, e2⟩
  · rw [e2, e]; simp [nm3]
  · rw [e2, e]; simp [nm3]
  · rw [e] at h; cases h
theorem nm3_some {r : List UInt8} {t : Nat} (h : nm3 r = some t) : isT t = true ∧ r.take 3 = nmL t := by
  unfold nm3 at h
  split at h
  · rename_i h1; cases h; exact ⟨rfl, eq_of_beq h1⟩
  · split at h
    · rename_i h1; cases h; exact ⟨rfl, eq_of_beq h1⟩
    · cases h
theorem nm_head (t : Nat) (h : isT t = true) (q : List UInt8) : ((nmL t ++ q).getD 0 0 == 41) = false ∧ (nmL t ++ q).getD 3 0 = q.getD 0 0 ∧ (nmL t ++ q).drop 4 = q.drop 1 ∧ (nmL t ++ q).length = q.length + 3 := by
  rcases nmL_cases t with ⟨e, e2⟩ | ⟨e, e2⟩ | ⟨e, e2⟩
  · rw [e2]; simp
  · rw [e2]; simp
  · rw [e] at h; cases h
theorem rgo_jn (l : List Nat) (hl : l ≠ []) (q : List UInt8) (ha : l.all isT = true) : ∀ f L, l.length ≤ f → rgo f L (jn l ++ 41 :: q) = some (L ++ l, q) := by
  induction l with
  | nil => exact absurd rfl hl
  | cons t l ih =>
    intro f L hf
    obtain ⟨f, rfl⟩ : ∃ k, f = k + 1 := ⟨f - 1, by simp at hf; omega⟩
    simp only [List.all_cons, Bool.and_eq_true] at ha
    cases l with
    | nil =>
      have e0 : jn [t] ++ 41 :: q = nmL t ++ 41 :: q := by simp [jn, tl]
      have h1 := nm_head t ha.1 (41 :: q)
      have h2 := (nm3_nm t ha.1 (41 :: q)).1
      rw [e0, rgo, h1.1, h2, h1.2.1, h1.2.2.1, h1.2.2.2]
      simp
    | cons u l =>
      have e0 : jn (t :: u :: l) ++ 41 :: q = nmL t ++ (44 :: (jn (u :: l) ++ 41 :: q)) := by simp [jn, tl]
      have h1 := nm_head t ha.1 (44 :: (jn (u :: l) ++ 41 :: q))
      have h2 := (nm3_nm t ha.1 (44 :: (jn (u :: l) ++ 41 :: q))).1
      have h3 := ih (by simp) ha.2 f (L ++ [t]) (by simp at hf ⊢; omega)
      rw [e0, rgo, h1.1, h2, h1.2.1, h1.2.2.1, h1.2.2.2]
      simp only [Bool.and_false, Bool.false_and, Bool.false_eq_true, if_false, List.getD_cons_zero, List.drop_succ_cons, List.drop_zero, h3]
      rw [if_neg (by simp), if_neg (by decide), if_pos trivial]
      simp
theorem split4 (r : List UInt8) (h : ¬ r.length < 4) : r = r.take 3 ++ r.getD 3 0 :: r.drop 4 := by
  match r, h with
  | a :: b :: c :: d :: r, _ => simp
  | [], h => simp at h
  | [_], h => simp at h
  | [_, _], h => simp at h
  | [_, _, _], h => simp at h
theorem rgo_some : ∀ f L r M q, rgo f L r = some (M, q) → (∃ l, l ≠ [] ∧ M = L ++ l ∧ r = jn l ++ 41 :: q ∧ l.all isT = true) ∨ (L = [] ∧ M = [] ∧ r = 41 :: q) := by
  intro f
  induction f with
  | zero => intro L r M q h; simp [rgo] at h
  | succ f ih =>
    intro L r M q h
    rw [rgo] at h
    by_cases h0 : (decide (0 < r.length) && r.getD 0 0 == 41 && L.isEmpty) = true
    · rw [if_pos h0] at h
      simp only [Bool.and_eq_true, decide_eq_true_eq, beq_iff_eq, List.isEmpty_iff] at h0
      cases h
      refine .inr ⟨h0.2, rfl, ?_⟩
      cases r with
      | nil => simp at h0
      | cons a r => have := h0.1.2; simp at this; simp [this]
    · rw [if_neg h0] at h
      by_cases h4 : r.length < 4
      · rw [if_pos h4] at h; cases h
      · rw [if_neg h4] at h
        cases ht : nm3 r with
        | none => rw [ht] at h; cases h
        | some t =>
          rw [ht] at h
          obtain ⟨e1, e2⟩ := nm3_some ht
          have e3 := split4 r h4
          rw [e2] at e3
          simp only [] at h
          by_cases h5 : r.getD 3 0 = 41
          · rw [if_pos h5] at h
            cases h
            refine .inl ⟨[t], by simp, rfl, ?_, by simp [e1]⟩
            rw [h5] at e3
            simpa [jn, tl] using e3
          · rw [if_neg h5] at h
            by_cases h6 : r.getD 3 0 = 44
            · rw [if_pos h6] at h
              rcases ih _ _ _ _ h with ⟨l, hl, e4, e5, e6⟩ | ⟨e4, _⟩
              · refine .inl ⟨t :: l, by simp, by rw [e4]; simp, ?_, by simp [e1, e6]⟩
                rw [h6, e5] at e3
                rw [e3]
                cases l with
                | nil => exact absurd rfl hl
                | cons u l => simp [jn, tl]
              · simp at e4
            · rw [if_neg h6] at h; cases h
theorem rT_jn (l : List Nat) (ha : l.all isT = true) (q : List UInt8) : rT (40 :: (jn l ++ 41 :: q)) = some (l, q) := by
  unfold rT
  rw [if_pos (by simp)]
  cases l with
  | nil => simp [jn, rgo]
  | cons t l =>
    rw [List.drop_succ_cons, List.drop_zero, rgo_jn (t :: l) (by simp) q ha _ _ (by have := jn_len (t :: l); simp only [List.length_cons, List.length_append] at this ⊢; omega)]
    rfl
theorem rT_some {r : List UInt8} {M : List Nat} {q : List UInt8} (h : rT r = some (M, q)) : M.all isT = true ∧ r = 40 :: (jn M ++ 41 :: q) := by
  unfold rT at h
  by_cases h0 : (decide (0 < r.length) && r.getD 0 0 == 40) = true
  · rw [if_pos h0] at h
    simp only [Bool.and_eq_true, decide_eq_true_eq, beq_iff_eq] at h0
    obtain ⟨a, r', rfl⟩ : ∃ a r', r = a :: r' := by
      cases r with
      | nil => simp at h0
      | cons a r => exact ⟨a, r, rfl⟩
    have e : a = 40 := by simpa using h0.2
    subst e
    rcases rgo_some _ _ _ _ _ h with ⟨l, hl, e4, e5, e6⟩ | ⟨_, e4, e5⟩
    · simp only [List.nil_append] at e4
      subst e4
      exact ⟨e6, by simp only [List.drop_succ_cons, List.drop_zero] at e5; rw [e5]⟩
    · subst e4
      exact ⟨rfl, by simp only [List.drop_succ_cons, List.drop_zero] at e5; rw [e5]; rfl⟩
  · rw [if_neg h0] at h; cases h
def rS (s : List UInt8) : Option (List Nat × List Nat) :=
  match rT s with
  | none => none
  | some (a, r) => if r.take 2 == [45, 62] then
      (match rT (r.drop 2) with
        | none => none
        | some (b, q) => if q = [] ∧ a.length ≤ 20 ∧ b.length ≤ 20 then some (a, b) else none)
      else none
theorem rS_eq (s : List UInt8) : rS s = sgL s := by
  cases h : sgL s with
  | some p =>
    obtain ⟨l, r⟩ := p
    obtain ⟨h1, h2, rfl⟩ := sgL_some h
    unfold okL at h1 h2
    simp only [Bool.and_eq_true, decide_eq_true_eq] at h1 h2
    have e : sgT l r = 40 :: (jn l ++ 41 :: (45 :: 62 :: (40 :: (jn r ++ 41 :: [])))) := by simp [sgT]
    unfold rS
    rw [e, rT_jn l h1.1]
    simp only [List.take_succ_cons, List.take_zero, List.drop_succ_cons, List.drop_zero, rT_jn r h2.1]
    simp [h1.2, h2.2]
  | none =>
    cases h3 : rS s with
    | none => rfl
    | some p =>
      exfalso
      obtain ⟨l, r⟩ := p
      unfold rS at h3
      cases h4 : rT s with
      | none => rw [h4] at h3; cases h3
      | some p =>
        obtain ⟨a, q⟩ := p
        rw [h4] at h3
        simp only [] at h3
        by_cases h5 : (q.take 2 == [45, 62]) = true
        · rw [if_pos h5] at h3
          cases h6 : rT (q.drop 2) with
          | none => rw [h6] at h3; cases h3
          | some p =>
            obtain ⟨b, q'⟩ := p
            rw [h6] at h3
            simp only [] at h3
            by_cases h7 : q' = [] ∧ a.length ≤ 20 ∧ b.length ≤ 20
            · obtain ⟨k1, k2⟩ := rT_some h4
              obtain ⟨k3, k4⟩ := rT_some h6
              have e2 : q = 45 :: 62 :: q.drop 2 := by
                have := List.take_append_drop 2 q
                rw [eq_of_beq h5] at this
                exact this.symm
              have e : s = sgT a b := by
                rw [k2, e2, k4, h7.1]; simp [sgT]
              have := sgL_txt a b
              rw [← e, h] at this
              simp [okL, k1, k3, h7.2.1, h7.2.2] at this
            · rw [if_neg h7] at h3; cases h3
        · rw [if_neg h5] at h3; cases h3
end Go.Proofs.YtalpkdnnclghaaaDoor
