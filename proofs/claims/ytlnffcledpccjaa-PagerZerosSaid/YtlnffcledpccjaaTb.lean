/-
  PagerZeros in numbers and lists: what pages hold, and which of them are told apart.
-/
import Derived.Test.YtlnffcledpccjaaTa
import Derived.Test.YtlnffcledpccjaaGr
namespace Go.Proofs.Ytlnffcledpccjaa
set_option linter.unusedVariables false
def onep (p : Nat) : List Nat := putM (zs 16) (p % 16) [1]
def cz (P Z : List Nat) (x : Nat × Nat) : List Nat := if x.1 = 0 ∧ x.2 ∈ P ∧ x.2 ∉ Z then onep x.2 else zs 16
theorem r16 : ∀ r : Fin 16, putM (zs 16) r.val [1] ≠ zs 16 ∧ putM (putM (zs 16) r.val [1]) r.val [1] = putM (zs 16) r.val [1] ∧ putM (putM (zs 16) r.val [1]) r.val [0] = zs 16 ∧ putM (zs 16) r.val [0] = zs 16 := by decide
theorem one_ne (p : Nat) : onep p ≠ zs 16 := (r16 ⟨p % 16, Nat.mod_lt _ (by decide)⟩).1
theorem one_one (p : Nat) : putM (onep p) (p % 16) [1] = onep p := (r16 ⟨p % 16, Nat.mod_lt _ (by decide)⟩).2.1
theorem one_zero (p : Nat) : putM (onep p) (p % 16) [0] = zs 16 := (r16 ⟨p % 16, Nat.mod_lt _ (by decide)⟩).2.2.1
theorem zs_zero (p : Nat) : putM (zs 16) (p % 16) [0] = zs 16 := (r16 ⟨p % 16, Nat.mod_lt _ (by decide)⟩).2.2.2
theorem cz_put (P : List Nat) (p : Nat) : upd (cz P []) (0, p) (putM (cz P [] (0, p)) (p % 16) [1]) = cz (P ++ [p]) [] := by
  have h0 : putM (cz P [] (0, p)) (p % 16) [1] = onep p := by
    unfold cz
    split
    · exact one_one p
    · rfl
  rw [h0]
  funext y
  by_cases e : y = (0, p)
  · subst e
    rw [upd_same]
    simp [cz]
  · rw [upd_other _ _ _ e]
    have he : ¬ (y.1 = 0 ∧ y.2 = p) := fun q => e (by cases y; simp_all)
    unfold cz
    by_cases h1 : y.1 = 0 ∧ y.2 ∈ P
    · simp [h1.1, h1.2]
    · rw [if_neg (fun q => h1 ⟨q.1, q.2.1⟩), if_neg (fun q => by
        rcases List.mem_append.1 q.2.1 with q1 | q1
        · exact h1 ⟨q.1, q1⟩
        · exact he ⟨q.1, by simpa using q1⟩)]
theorem cz_zero (P Z : List Nat) (p : Nat) : upd (cz P Z) (0, p) (putM (cz P Z (0, p)) (p % 16) [0]) = cz P (Z ++ [p]) := by
  have h0 : putM (cz P Z (0, p)) (p % 16) [0] = zs 16 := by
    unfold cz
    split
    · exact one_zero p
    · exact zs_zero p
  rw [h0]
  funext y
  by_cases e : y = (0, p)
  · subst e
    rw [upd_same]
    simp [cz]
  · rw [upd_other _ _ _ e]
    have he : y.1 = 0 → y.2 ≠ p := fun q q' => e (by cases y; simp_all)
    unfold cz
    by_cases h1 : y.1 = 0 ∧ y.2 ∈ P ∧ y.2 ∉ Z
    · rw [if_pos h1, if_pos ⟨h1.1, h1.2.1, fun q => by
        rcases List.mem_append.1 q with q1 | q1
        · exact h1.2.2 q1
        · exact he h1.1 (by simpa using q1)⟩]
    · rw [if_neg h1, if_neg (fun q => h1 ⟨q.1, q.2.1, fun q' => q.2.2 (List.mem_append_left _ q')⟩)]
theorem cz_nil : cz [] [] = fun _ => zs 16 := by funext y; simp [cz]
theorem cz_done (P : List Nat) : cz P P = fun _ => zs 16 := by
  funext y
  unfold cz
  rw [if_neg (fun q => q.2.2 q.2.1)]
theorem take_next (l : List Nat) {k : Nat} (h : k < l.length) : l.take (k + 1) = l.take k ++ [l.getD k 0] := by
  rw [List.take_add_one, List.getD_eq_getElem?_getD, List.getElem?_eq_getElem h]; rfl
/-- the pages up to the k-th, each once -/
def Dst (l : List Nat) (k q : Nat) : Prop := ∃ D : List Nat, D.Nodup ∧ (∀ x, x ∈ D ↔ x ∈ l.take k) ∧ D.length = q
theorem Dst.nil (l : List Nat) : Dst l 0 0 := ⟨[], List.nodup_nil, fun x => by simp, rfl⟩
theorem Dst.new {l : List Nat} {k q : Nat} (h : Dst l k q) (hk : k < l.length) (hn : l.getD k 0 ∉ l.take k) : Dst l (k + 1) (q + 1) := by
  obtain ⟨D, h1, h2, h3⟩ := h
  refine ⟨l.getD k 0 :: D, List.nodup_cons.2 ⟨fun q => hn ((h2 _).1 q), h1⟩, fun x => ?_, by simp [h3]⟩
  rw [take_next l hk, List.mem_cons, List.mem_append, h2 x, List.mem_singleton, or_comm]
theorem Dst.old {l : List Nat} {k q : Nat} (h : Dst l k q) (hk : k < l.length) (hn : l.getD k 0 ∈ l.take k) : Dst l (k + 1) q := by
  obtain ⟨D, h1, h2, h3⟩ := h
  refine ⟨D, h1, fun x => ?_, h3⟩
  rw [take_next l hk, List.mem_append, h2 x, List.mem_singleton]
  constructor
  · exact .inl
  · rintro (q | rfl)
    · exact q
    · exact hn
theorem Dst.pages {l : List Nat} {q : Nat} (h : Dst l l.length q) : ∃ L : List (Nat × Nat), L.Nodup ∧ (∀ x, x ∈ L ↔ cz l [] x ≠ zs 16) ∧ L.length = q := by
  obtain ⟨D, h1, h2, h3⟩ := h
  refine ⟨D.map (fun p => (0, p)), ?_, fun x => ?_, by simp [h3]⟩
  · exact List.pairwise_map.2 (h1.imp (fun hne e => hne (by injection e)))
  · rw [List.mem_map]
    unfold cz
    constructor
    · rintro ⟨p, hp, rfl⟩
      rw [if_pos ⟨rfl, by have := (h2 p).1 hp; rwa [List.take_length] at this, by simp⟩]
      exact one_ne p
    · intro hx
      by_cases e : x.1 = 0 ∧ x.2 ∈ l ∧ x.2 ∉ ([] : List Nat)
      · exact ⟨x.2, (h2 _).2 (by rw [List.take_length]; exact e.2.1), by cases x; simp_all⟩
      · rw [if_neg e] at hx
        exact absurd rfl hx
/-- none so far is the same -/
theorem mem_take_iff {l : List Nat} {k : Nat} (hk : k ≤ l.length) {x : Nat} : x ∈ l.take k ↔ ∃ i, i < k ∧ l.getD i 0 = x := by
  rw [List.mem_take_iff_getElem]
  constructor
  · rintro ⟨i, hi, rfl⟩
    exact ⟨i, by omega, by rw [List.getD_eq_getElem?_getD, List.getElem?_eq_getElem (by omega)]; rfl⟩
  · rintro ⟨i, hi, rfl⟩
    exact ⟨i, by omega, by rw [List.getD_eq_getElem?_getD, List.getElem?_eq_getElem (by omega)]; rfl⟩
def FstP (f : Bool) (z : Nat) (L : List Nat) : Prop := f = true ↔ z ∉ L
theorem FstP.nil (l : List Nat) (z : Nat) : FstP true z (l.take 0) := ⟨fun _ => by simp, fun _ => rfl⟩
theorem FstP.stay {l : List Nat} {z j : Nat} (h : FstP false z (l.take j)) (hj : j < l.length) : FstP false z (l.take (j + 1)) :=
  ⟨fun q => (by cases q), fun q => by
    have := h.2 (fun q' => q (by rw [take_next l hj]; exact List.mem_append_left _ q'))
    cases this⟩
theorem FstP.next {l : List Nat} {z j : Nat} (h : FstP true z (l.take j)) (hj : j < l.length) : FstP (((l.getD j 0 : Nat) : Int) != (z : Int)) z (l.take (j + 1)) := by
  unfold FstP
  rw [take_next l hj, List.mem_append, List.mem_singleton]
  have h0 := h.1 rfl
  rw [bne_iff_ne]
  constructor
  · rintro q (q1 | q1)
    · exact h0 q1
    · exact q (by rw [q1])
  · intro q q1
    exact q (.inr (by omega))
theorem FstP.old {l : List Nat} {i q : Nat} (h : FstP false (l.getD i 0) (l.take i)) (hd : Dst l i q) (hi : i < l.length) : Dst l (i + 1) q := hd.old hi (by
  by_cases e : l.getD i 0 ∈ l.take i
  · exact e
  · have := h.2 e
    cases this)
theorem FstP.new {l : List Nat} {i q : Nat} (h : FstP true (l.getD i 0) (l.take i)) (hd : Dst l i q) (hi : i < l.length) : Dst l (i + 1) (q + 1) := hd.new hi (h.1 rfl)
end Go.Proofs.Ytlnffcledpccjaa
