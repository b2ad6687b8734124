/-
  Rooms in a list, in the order in which they were given back last, or taken; what that tells of an arena.
-/
import Derived.Test.YtkmocjbpinmlaaaAh
import Derived.Deep.Slices
import Derived.Deep.Fields
import Derived.ChangeSame
namespace Go.Proofs.Ytkmocjbpinmlaaa
open Go.RowKit
set_option linter.unusedVariables false
structure Rm where
  at_ : Nat
  sz : Nat
  tk : Bool
def Rm.cs (x : Rm) : List Value := [I64 x.at_, I64 x.sz, .bool x.tk]
def Rm.is (x : Rm) (c : Nat) : Bool := !x.tk && x.sz == c
def rows (L : List Rm) : List Value := L.flatMap Rm.cs
theorem rows_len : ∀ L : List Rm, (rows L).length = L.length * 3
  | [] => rfl
  | x :: r => by
    have := rows_len r
    unfold rows at this ⊢
    rw [List.flatMap_cons, List.length_append, this]
    simp [Rm.cs]
    omega
theorem rows_app (L M : List Rm) : rows (L ++ M) = rows L ++ rows M := by simp [rows]
theorem rows_get : ∀ (L : List Rm) (k j : Nat) (x : Rm), L[k]? = some x → j < 3 → (rows L)[k * 3 + j]? = x.cs[j]?
  | [], k, j, x, h, _ => by simp at h
  | y :: r, 0, j, x, h, hj => by
    simp at h
    subst h
    unfold rows
    rw [List.flatMap_cons, Nat.zero_mul, Nat.zero_add, List.getElem?_append_left (by simpa [Rm.cs] using hj)]
  | y :: r, k + 1, j, x, h, hj => by
    have := rows_get r k j x (by simpa using h) hj
    unfold rows at this ⊢
    rw [List.flatMap_cons, List.getElem?_append_right (by simp [Rm.cs]; omega), ← this]
    congr 1
    simp [Rm.cs]
    omega
theorem rows_one (L : List Rm) : ∀ v ∈ rows L, v.oneCell' = true := by
  intro v hv
  unfold rows at hv
  rw [List.mem_flatMap] at hv
  obtain ⟨x, _, hx⟩ := hv
  simp [Rm.cs] at hx
  rcases hx with rfl | rfl | rfl <;> rfl
theorem rows_take (L : List Rm) (k : Nat) : rows (L.take k) = (rows L).take (k * 3) := by
  rcases Nat.lt_or_ge L.length k with h | h
  · rw [List.take_of_length_le (by omega), List.take_of_length_le (by rw [rows_len]; omega)]
  · have e : rows L = rows (L.take k) ++ rows (L.drop k) := by rw [← rows_app, List.take_append_drop]
    rw [e, List.take_left' (by rw [rows_len, List.length_take]; omega)]
theorem rows_drop (L : List Rm) (k : Nat) (h : k ≤ L.length) : rows (L.drop k) = (rows L).drop (k * 3) := by
  have e : rows L = rows (L.take k) ++ rows (L.drop k) := by rw [← rows_app, List.take_append_drop]
  rw [e, List.drop_left' (by rw [rows_len, List.length_take]; omega)]
/-- what the list tells of the arena -/
structure RR (L : List Rm) (d : Ad) : Prop where
  apart : L.Pairwise fun x y => x.at_ ≠ y.at_
  R : ∀ p c, d.R p = some c ↔ (⟨p, c, true⟩ : Rm) ∈ L
  G : ∀ c, d.G c = (L.filter (·.is c)).map Rm.at_
  inn : ∀ x ∈ L, x.at_ + x.sz ≤ d.height ∧ 16 ≤ x.sz ∧ x.sz ≤ 4194304
theorem RR.none (sz : Nat) : RR [] (nuA sz) := ⟨List.Pairwise.nil, fun p c => by simp [nuA], fun c => rfl, fun x h => by cases h⟩
theorem split_at {L : List Rm} {k : Nat} (h : k < L.length) : L = L.take k ++ L[k] :: L.drop (k + 1) := by
  rw [← List.drop_eq_getElem_cons h, List.take_append_drop]
theorem mem_split {L : List Rm} {k : Nat} (h : k < L.length) (y : Rm) : y ∈ L ↔ y ∈ L.take k ∨ y = L[k] ∨ y ∈ L.drop (k + 1) := by
  have := split_at h
  constructor
  · intro hy
    rw [this, List.mem_append, List.mem_cons] at hy
    exact hy
  · intro hy
    rw [this, List.mem_append, List.mem_cons]
    exact hy
/-- the k-th is given back -/
def gvL (L : List Rm) (k : Nat) (x : Rm) : List Rm := L.take k ++ L.drop (k + 1) ++ [{ x with tk := false }]
theorem RR.ne {L : List Rm} {d : Ad} (h : RR L d) {k : Nat} (hk : k < L.length) : (∀ y ∈ L.take k, y.at_ ≠ L[k].at_) ∧ ∀ y ∈ L.drop (k + 1), L[k].at_ ≠ y.at_ := by
  have h1 := h.apart
  rw [split_at hk, List.pairwise_append] at h1
  obtain ⟨_, h2, h3⟩ := h1
  rw [List.pairwise_cons] at h2
  exact ⟨fun y hy => h3 y hy _ List.mem_cons_self, fun y hy => h2.1 y hy⟩
theorem RR.give {L : List Rm} {d : Ad} {v : Value} (h : RR L d) {k : Nat} (hk : k < L.length) (ht : L[k].tk = true) : RR (gvL L k L[k]) (d.give L[k].at_ L[k].sz v) := by
  have hne := h.ne hk
  have h1 := h.apart
  rw [split_at hk, List.pairwise_append] at h1
  obtain ⟨p1, p2, p3⟩ := h1
  rw [List.pairwise_cons] at p2
  have hmem : ∀ y : Rm, y.tk = true → (y ∈ gvL L k L[k] ↔ y ∈ L ∧ y.at_ ≠ L[k].at_) := by
    intro y hy
    rw [mem_split hk]
    unfold gvL
    simp only [List.mem_append, List.mem_singleton]
    constructor
    · rintro ((q | q) | q)
      · exact ⟨.inl q, hne.1 y q⟩
      · exact ⟨.inr (.inr q), (hne.2 y q).symm⟩
      · rw [q] at hy; cases hy
    · rintro ⟨q | q | q, e⟩
      · exact .inl (.inl q)
      · rw [q] at e; exact absurd rfl e
      · exact .inl (.inr q)
  refine ⟨?_, ?_, ?_, ?_⟩
  · unfold gvL
    rw [List.pairwise_append, List.pairwise_append]
    refine ⟨⟨p1, p2.2, fun a ha b hb => p3 a ha b (List.mem_cons_of_mem _ hb)⟩, List.pairwise_singleton _ _, fun a ha b hb => ?_⟩
    rw [List.mem_singleton] at hb
    subst hb
    rcases List.mem_append.1 ha with q | q
    · exact hne.1 a q
    · exact (hne.2 a q).symm
  · intro p c
    rw [hmem _ rfl, ← h.R p c]
    show (if p = L[k].at_ then Option.none else d.R p) = some c ↔ _ ∧ p ≠ L[k].at_
    by_cases e : p = L[k].at_
    · rw [if_pos e]; simp [e]
    · rw [if_neg e]; simp [e]
  · intro c
    show (if c = L[k].sz then d.G L[k].sz ++ [L[k].at_] else d.G c) = _
    have hf : L.filter (·.is c) = (L.take k).filter (·.is c) ++ (L.drop (k + 1)).filter (·.is c) := by
      conv => lhs; rw [split_at hk]
      rw [List.filter_append, List.filter_cons_of_neg (by simp [Rm.is, ht])]
    unfold gvL
    rw [List.filter_append, List.filter_append, List.map_append, ← hf, ← h.G c]
    by_cases e : c = L[k].sz
    · subst e
      rw [if_pos rfl, List.filter_cons_of_pos (by simp [Rm.is])]
      rfl
    · rw [if_neg e, List.filter_cons_of_neg (by simp [Rm.is]; exact fun q => e q.symm)]
      simp
  · intro x hx
    unfold gvL at hx
    simp only [List.mem_append, List.mem_singleton] at hx
    rcases hx with (q | q) | q
    · exact h.inn x ((mem_split hk x).2 (.inl q))
    · exact h.inn x ((mem_split hk x).2 (.inr (.inr q)))
    · subst q
      exact h.inn L[k] (List.getElem_mem hk)
/-- the k-th, the last one of its class that isn't taken, is taken -/
def tkL (L : List Rm) (k : Nat) (x : Rm) : List Rm := L.take k ++ { x with tk := true } :: L.drop (k + 1)
theorem tkL_len {L : List Rm} {k : Nat} {x : Rm} (hk : k < L.length) : (tkL L k x).length = L.length := by
  unfold tkL
  simp
  omega
theorem RR.last {L : List Rm} {d : Ad} (h : RR L d) {k c : Nat} (hk : k < L.length) (hi : L[k].is c = true) (hl : ∀ j (hj : j < L.length), k < j → L[j].is c = false) : d.G c = ((L.take k).filter (·.is c)).map Rm.at_ ++ [L[k].at_] := by
  rw [h.G c]
  have hd : (L.drop (k + 1)).filter (·.is c) = [] := by
    rw [List.filter_eq_nil_iff]
    intro x hx
    obtain ⟨j, hj, rfl⟩ := List.mem_iff_getElem.1 hx
    rw [List.getElem_drop]
    rw [List.length_drop] at hj
    simp [hl (k + 1 + j) (by omega) (by omega)]
  conv => lhs; rw [split_at hk]
  rw [List.filter_append, List.filter_cons_of_pos (by exact hi), hd, List.map_append]
  rfl
theorem RR.take {L : List Rm} {d : Ad} {v : Value} (h : RR L d) {k c : Nat} (hk : k < L.length) (hi : L[k].is c = true) (hl : ∀ j (hj : j < L.length), k < j → L[j].is c = false) :
    RR (tkL L k L[k]) ((d.pop c (((L.take k).filter (·.is c)).map Rm.at_) v).take L[k].at_ c) := by
  have hne := h.ne hk
  have h1 := h.apart
  rw [split_at hk, List.pairwise_append] at h1
  obtain ⟨p1, p2, p3⟩ := h1
  rw [List.pairwise_cons] at p2
  have hsz : L[k].sz = c := by simp [Rm.is] at hi; exact hi.2
  have htk : L[k].tk = false := by simp [Rm.is] at hi; exact hi.1
  refine ⟨?_, ?_, ?_, ?_⟩
  · unfold tkL
    rw [List.pairwise_append, List.pairwise_cons]
    refine ⟨p1, ⟨p2.1, p2.2⟩, fun a ha b hb => ?_⟩
    rcases List.mem_cons.1 hb with rfl | hb
    · exact hne.1 a ha
    · exact p3 a ha b (List.mem_cons_of_mem _ hb)
  · intro p c'
    show (if p = L[k].at_ then some c else d.R p) = some c' ↔ _
    unfold tkL
    rw [List.mem_append, List.mem_cons]
    by_cases e : p = L[k].at_
    · rw [if_pos e]
      constructor
      · intro q
        injection q with q
        subst q
        exact .inr (.inl (by rw [e, ← hsz]))
      · rintro (q | q | q)
        · exact absurd e (hne.1 _ q)
        · injection q with q1 q2 q3
          rw [q2, hsz]
        · exact absurd e.symm (hne.2 _ q)
    · rw [if_neg e, h.R p c', mem_split hk]
      constructor
      · rintro (q | q | q)
        · exact .inl q
        · exact absurd (congrArg Rm.at_ q) e
        · exact .inr (.inr q)
      · rintro (q | q | q)
        · exact .inl q
        · exact absurd (congrArg Rm.at_ q) e
        · exact .inr (.inr q)
  · intro c'
    show (if c' = c then _ else d.G c') = _
    unfold tkL
    rw [List.filter_append, List.filter_cons_of_neg (by simp [Rm.is]), List.map_append]
    by_cases e : c' = c
    · subst e
      rw [if_pos rfl]
      have hd : (L.drop (k + 1)).filter (·.is c') = [] := by
        rw [List.filter_eq_nil_iff]
        intro x hx
        obtain ⟨j, hj, rfl⟩ := List.mem_iff_getElem.1 hx
        rw [List.getElem_drop]
        rw [List.length_drop] at hj
        simp [hl (k + 1 + j) (by omega) (by omega)]
      rw [hd]
      simp
    · rw [if_neg e, h.G c']
      conv => lhs; rw [split_at hk]
      rw [List.filter_append, List.filter_cons_of_neg (by simp [Rm.is, htk, hsz]; exact fun q => e q.symm), List.map_append]
  · intro x hx
    unfold tkL at hx
    rw [List.mem_append, List.mem_cons] at hx
    rcases hx with q | q | q
    · exact h.inn x ((mem_split hk x).2 (.inl q))
    · subst q
      exact h.inn L[k] (List.getElem_mem hk)
    · exact h.inn x ((mem_split hk x).2 (.inr (.inr q)))
theorem RR.empty {L : List Rm} {d : Ad} (h : RR L d) {c : Nat} (hl : ∀ j (hj : j < L.length), L[j].is c = false) : d.G c = [] := by
  rw [h.G c, List.filter_eq_nil_iff.2, List.map_nil]
  intro x hx
  obtain ⟨j, hj, rfl⟩ := List.mem_iff_getElem.1 hx
  simp [hl j hj]
theorem RR.cut {L : List Rm} {d : Ad} (h : RR L d) {c : Nat} (h1 : 16 ≤ c) (h2 : c ≤ 4194304) : RR (L ++ [⟨d.height, c, true⟩]) ((d.cut c).take d.height c) := by
  have hlt : ∀ x ∈ L, x.at_ < d.height := fun x hx => by have := h.inn x hx; omega
  refine ⟨?_, ?_, ?_, ?_⟩
  · rw [List.pairwise_append]
    refine ⟨h.apart, List.pairwise_singleton _ _, fun a ha b hb => ?_⟩
    rw [List.mem_singleton] at hb
    subst hb
    have := hlt a ha
    show a.at_ ≠ d.height
    omega
  · intro p c'
    show (if p = d.height then some c else d.R p) = some c' ↔ _
    rw [List.mem_append, List.mem_singleton]
    by_cases e : p = d.height
    · rw [if_pos e]
      constructor
      · intro q
        injection q with q
        subst q
        exact .inr (by rw [e])
      · rintro (q | q)
        · have := hlt _ q
          simp only at this
          omega
        · injection q with _ q
          rw [q]
    · rw [if_neg e, h.R p c']
      constructor
      · exact .inl
      · rintro (q | q)
        · exact q
        · injection q with q
          exact absurd q e
  · intro c'
    show d.G c' = _
    rw [List.filter_append, List.filter_cons_of_neg (by simp [Rm.is]), h.G c']
    simp
  · intro x hx
    show _ ≤ d.height + c ∧ _
    rw [List.mem_append, List.mem_singleton] at hx
    rcases hx with q | q
    · have := h.inn x q
      omega
    · subst q
      simp only
      omega
/-- the last one of the first n for which f says yes; -1, if there is none -/
def li (f : Nat → Bool) : Nat → Int
  | 0 => -1
  | n + 1 => if f n then (n : Int) else li f n
theorem li_cases (f : Nat → Bool) : ∀ n, (li f n = -1 ∧ ∀ i, i < n → f i = false) ∨ ∃ k, k < n ∧ li f n = (k : Int) ∧ f k = true ∧ ∀ i, k < i → i < n → f i = false
  | 0 => .inl ⟨rfl, fun i h => by omega⟩
  | n + 1 => by
    unfold li
    by_cases h : f n = true
    · rw [if_pos h]
      exact .inr ⟨n, by omega, rfl, h, fun i h1 h2 => by omega⟩
    · rw [if_neg h]
      have hf : f n = false := by simpa using h
      rcases li_cases f n with ⟨e, h1⟩ | ⟨k, hk, e, h1, h2⟩
      · refine .inl ⟨e, fun i hi => ?_⟩
        by_cases q : i = n
        · rw [q]; exact hf
        · exact h1 i (by omega)
      · refine .inr ⟨k, by omega, e, h1, fun i hi1 hi2 => ?_⟩
        by_cases q : i = n
        · rw [q]; exact hf
        · exact h2 i hi1 (by omega)
theorem li_lo (f : Nat → Bool) (n : Nat) : -1 ≤ li f n := by
  rcases li_cases f n with ⟨e, _⟩ | ⟨k, _, e, _⟩ <;> omega
theorem li_hi (f : Nat → Bool) (n : Nat) : li f n < n := by
  rcases li_cases f n with ⟨e, _⟩ | ⟨k, _, e, _⟩ <;> omega
/-- rooms in a slice that the call made -/
theorem own_rows {w : World} {B : Nat} {v : Value} {L : List Rm} (h : w.ownsRow B 33 3 v L.length (rows L)) (h0 : 0 < L.length) :
    ∃ g cap cur, v = .slice (some ⟨g, 0, none⟩) L.length cap ∧ B ≤ g ∧ Blk w g 33 cur ∧ L.length ≤ cap ∧ cap ≤ maxLen ∧ ∀ k j x, L[k]? = some x → j < 3 → w.cell? ⟨g, k * 3 + j, none⟩ = x.cs[j]? := by
  rcases h.2 with ⟨_, e⟩ | ⟨g, cap, cur, e, hB, hg, h1, h2, h3, h4⟩
  · omega
  · refine ⟨g, cap, cur, e, hB, hg, h1, h2, fun k j x hx hj => ?_⟩
    have hkl : k < L.length := (List.getElem?_eq_some_iff.1 hx).1
    rw [Blk.cell hg, ← rows_get L k j x hx hj, ← h4, List.getElem?_take_of_lt (by omega), Array.getElem?_toList]
/-- a taken one is put among them -/
theorem rows_tk {L : List Rm} {k : Nat} (hk : k < L.length) : (rows L).set (k * 3 + 2) (.bool true) = rows (tkL L k L[k]) := by
  have e : rows L = rows (L.take k) ++ (L[k].cs ++ rows (L.drop (k + 1))) := by
    conv => lhs; rw [split_at hk]
    rw [rows_app]
    rfl
  have hl : (rows (L.take k)).length = k * 3 := by rw [rows_len, List.length_take]; omega
  rw [e, List.set_append_right _ _ (by omega), hl, show k * 3 + 2 - k * 3 = 2 from by omega]
  unfold tkL
  rw [rows_app]
  rfl
theorem own_set {w : World} {B g n cap k : Nat} {xs : List Value} {u : Value} (h : w.ownsRow B 33 3 (.slice (some ⟨g, 0, none⟩) n cap) n xs) (hk : k < n * 3) : (w.setCell ⟨g, k, none⟩ u).ownsRow B 33 3 (.slice (some ⟨g, 0, none⟩) n cap) n (xs.set k u) := by
  refine ⟨by rw [List.length_set]; exact h.1, ?_⟩
  rcases h.2 with ⟨e, _⟩ | ⟨g', cap', cur, e, hB, hg, h1, h2, h3, h4⟩
  · cases e
  · simp only [Value.slice.injEq, Option.some.injEq, Addr.mk.injEq] at e
    obtain ⟨⟨rfl, _, _⟩, _, rfl⟩ := e
    refine .inr ⟨g, cap, cur.setIfInBounds k u, rfl, hB, Blk.set_ hg k u, h1, h2, by simpa using h3, ?_⟩
    rw [Array.toList_setIfInBounds, List.take_set, h4]
/-- what is done: a row of structs of two cells, whether a room is given back, and a number -/
def BActs (w : World) (A : Option Addr) (m cap : Nat) (K : Nat → Bool) (V : Nat → Int) : Prop :=
  m ≤ cap ∧ cap ≤ maxLen ∧ (∀ i, (Lit.int .i64 (V i)).wf = true) ∧ (0 < m → ∃ b off, A = some ⟨b, off, none⟩ ∧ b < w.heap.size ∧ ∀ i, i < m → w.cell? ⟨b, off + i * 2, none⟩ = some (.bool (K i)) ∧ w.cell? ⟨b, off + i * 2 + 1, none⟩ = some (.int .i64 (V i)))
section
variable {H : Type} {enc : TypeId × Value → H} {P : Program} {w : World} {base : Nat} {spare : Nat → Bool} {held : Bool}
open Go.ChangeShapes Go.WideShapes Go.Deep in
/-- field j of element i stands in the cell i * (the number of fields) + j, and reads by its own type -/
theorem struct_row {t e : TypeId} {fs : Array Field} {fuel : Nat} {cs : List Value} {x : DataW H × List MemPlace} (ht : P.underlying t = some (.slice e)) (he : P.underlying e = some (.struct fs)) (hone : oneCellFields P fs = true) (hC : P.cellsOf e = fs.size)
    (h : DataW.trod enc P w base spare held fuel t cs = some x) :
    cs = [.slice none 0 0] ∨ ∃ (a : Addr) (len cap : Nat), cs = [.slice (some a) len cap] ∧ len ≤ cap ∧ cap ≤ maxLen ∧
      ∀ i, i < len → ∀ (j : Nat) (f : Field), fs[j]? = some f → ∃ (v : Value) (n : Nat) (y : DataW H × List MemPlace), w.cell? (a.add (i * fs.size + j)) = some v ∧ DataW.trod enc P w base spare held n f.type [v] = some y := by
  rcases open_slice ht h with ⟨h0, _⟩ | ⟨a, len, cap, m, n, D, Pl, hcs, _, hl, hm, hmm, _, hi⟩
  · exact .inl h0
  · refine .inr ⟨a, len, cap, hcs, hl, hm, fun i hil j f hj => ?_⟩
    obtain ⟨cs', hc, ht'⟩ := hi i (by rw [hmm]; split <;> omega)
    rw [hC] at hc
    obtain ⟨ys, n', _, _, _, hyl, hf⟩ := DataW.trod_struct he ht'
    obtain ⟨_, hcl, hat⟩ := World.cells?_some hc
    obtain ⟨ho, hk⟩ := hone_of hone j f hj
    have hjl : j < fs.size := (Array.getElem?_eq_some_iff.1 hj).1
    have hjc : j < cs'.length := by omega
    have hjy : j < ys.length := by omega
    have h1 := hf j f hj
    rw [ho, hk, List.drop_eq_getElem_cons hjc] at h1
    refine ⟨cs'[j], n', ys[j], ?_, ?_⟩
    · rw [← Go.Deep.add_add, hat j hjl, List.getElem?_eq_getElem hjc]
    · rw [← List.getElem?_eq_getElem hjy, ← h1]
      rfl
end
def numOf : Option Value → Int
  | some (.int _ n) => n
  | _ => 0
def boolOf : Option Value → Bool
  | some (.bool b) => b
  | _ => false
open Go.ChangeShapes Go.WideShapes Go.Deep in
theorem bacts_of_arg {H : Type} {enc : TypeId × Value → H} {w : World} {sp : Nat → Bool} {held : Bool} {base : Nat} {a : Option Addr} {len cap : Nat} {d : DataW H} {p : List MemPlace} (h : DataW.Trod enc Try.prog w base sp held 22 (.slice a len cap) d p) : ∃ K V, BActs w a len cap K V := by
  obtain ⟨fuel, hf⟩ := h
  rcases struct_row Try.underlying22 Try.underlying30 (by kernel_rfl) (by kernel_rfl) hf with hcs | ⟨x, l, c, hcs, hl, hm, hi⟩
  · simp [Value.cells] at hcs
    obtain ⟨rfl, rfl, rfl⟩ := hcs
    exact ⟨fun _ => false, fun _ => 0, Nat.le_refl _, Nat.zero_le _, fun _ => (by decide : (Lit.int .i64 0).wf = true), fun h => by omega⟩
  · simp [Value.cells] at hcs
    obtain ⟨rfl, rfl, rfl⟩ := hcs
    refine ⟨fun i => boolOf (w.cell? (x.add (i * 2))), fun i => if i < len then numOf (w.cell? (x.add (i * 2 + 1))) else 0, hl, hm, fun i => ?_, fun h0 => ?_⟩
    · show (Lit.int .i64 (if i < len then numOf (w.cell? (x.add (i * 2 + 1))) else 0)).wf = true
      by_cases hil : i < len
      · rw [if_pos hil]
        obtain ⟨v, n2, y2, hv, tv⟩ := hi i hil 1 _ rfl
        obtain ⟨q2, e2, _, b2⟩ := DataW.trod_int Try.underlying3 tv
        injection e2 with e2
        subst e2
        have hv' : w.cell? (x.add (i * 2 + 1)) = some (.int .i64 q2) := hv
        rw [hv']
        exact b2
      · rw [if_neg hil]; decide
    · obtain ⟨v0, _, _, hc0, _⟩ := hi 0 h0 0 _ rfl
      have hspot := World.cell?_spot hc0
      obtain ⟨b, off, spot⟩ := x
      have hs : spot = none := by simpa [Addr.add] using hspot
      subst hs
      refine ⟨b, off, rfl, by have := lt_of_cell hc0; rw [addr_add] at this; exact this, fun i hil => ?_⟩
      obtain ⟨u, n1, y1, hu, tu⟩ := hi i hil 0 _ rfl
      obtain ⟨v, n2, y2, hv, tv⟩ := hi i hil 1 _ rfl
      obtain ⟨q1, e1, _⟩ := DataW.trod_bool Try.underlying4 tu
      obtain ⟨q2, e2, _, b2⟩ := DataW.trod_int Try.underlying3 tv
      injection e1 with e1
      injection e2 with e2
      subst e1
      subst e2
      have hu' : w.cell? ((⟨b, off, none⟩ : Addr).add (i * 2)) = some (.bool q1) := hu
      have hv' : w.cell? ((⟨b, off, none⟩ : Addr).add (i * 2 + 1)) = some (.int .i64 q2) := hv
      refine ⟨?_, ?_⟩
      · show w.cell? _ = some (Value.bool (boolOf (w.cell? ((⟨b, off, none⟩ : Addr).add (i * 2)))))
        rw [← addr_add, hu']
        rfl
      · show w.cell? _ = some (Value.int .i64 (if i < len then numOf (w.cell? ((⟨b, off, none⟩ : Addr).add (i * 2 + 1))) else 0))
        rw [if_pos hil, Nat.add_assoc, ← addr_add, hv']
        rfl
end Go.Proofs.Ytkmocjbpinmlaaa
