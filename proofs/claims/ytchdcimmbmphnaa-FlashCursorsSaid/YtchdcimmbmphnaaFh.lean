/-
  A number read byte by byte: what the bytes so far tell; frames over new blocks.
-/
import Derived.Test.YtchdcimmbmphnaaFg
import Derived.Deep.LoopGhost
namespace Go.Proofs.Ytchdcimmbmphnaa
open Go.RowKit
set_option linter.unusedVariables false
theorem rdE_app (n : Nat) : ∀ (p q : List Nat) (i : Nat), (Leb.rdE n p i).2 ≠ 3 → Leb.rdE n (p ++ q) i = Leb.rdE n p i := by
  intro p
  induction p with
  | nil => intro q i h; exact absurd rfl h
  | cons c t ih =>
    intro q i h
    rw [Leb.rdE] at h
    rw [List.cons_append, Leb.rdE, Leb.rdE]
    by_cases h1 : n ≤ 7 * (i + 1) ∧ 128 ≤ c
    · rw [if_pos h1, if_pos h1]
    · rw [if_neg h1] at h
      rw [if_neg h1, if_neg h1]
      by_cases h2 : c < 128
      · rw [if_pos h2, if_pos h2]
      · rw [if_neg h2] at h
        rw [if_neg h2, if_neg h2]
        exact ih q (i + 1) h
theorem rdE_short (n : Nat) : ∀ (p : List Nat) (i : Nat), (Leb.rdE n p i).2 = 3 → p = [] ∨ 7 * (i + p.length) < n := by
  intro p
  induction p with
  | nil => intro i _; exact .inl rfl
  | cons c t ih =>
    intro i h
    rw [Leb.rdE] at h
    by_cases h1 : n ≤ 7 * (i + 1) ∧ 128 ≤ c
    · rw [if_pos h1] at h; simp at h
    · rw [if_neg h1] at h
      by_cases h2 : c < 128
      · rw [if_pos h2] at h; simp at h
      · rw [if_neg h2] at h
        rcases ih (i + 1) h with e | e
        · subst e
          right
          simp only [List.length_cons, List.length_nil]
          omega
        · right
          simp only [List.length_cons]
          omega
theorem rdE_three (n : Nat) : ∀ (p : List Nat) (i : Nat), (Leb.rdE n p i).2 = 0 ∨ (Leb.rdE n p i).2 = 3 ∨ (Leb.rdE n p i).2 = 4 := by
  intro p
  induction p with
  | nil => intro i; exact .inr (.inl rfl)
  | cons c t ih =>
    intro i
    rw [Leb.rdE]
    split
    · exact .inr (.inr rfl)
    · split
      · exact .inl rfl
      · exact ih _
theorem uns_rd3 (p : List Nat) (k : Int) (h : ¬ Leb.bad k) : (Leb.uns p k).2.2 = 3 ↔ (Leb.rdE k.toNat p 0).2 = 3 := by
  unfold Leb.uns
  rw [if_neg h]
  by_cases h0 : (Leb.rdE k.toNat p 0).2 = 0
  · rw [if_pos h0]
    constructor
    · split <;> simp
    · intro e; omega
  · rw [if_neg h0]
theorem sgn_rd3 (p : List Nat) (k : Int) (h : ¬ Leb.bad k) : (Leb.sgn p k).2.2 = 3 ↔ (Leb.rdE k.toNat p 0).2 = 3 := by
  unfold Leb.sgn
  rw [if_neg h]
  by_cases h0 : (Leb.rdE k.toNat p 0).2 = 0
  · rw [if_pos h0]
    constructor
    · split <;> simp
    · intro e; omega
  · rw [if_neg h0]
theorem uns_app (p q : List Nat) (k : Int) (h : (Leb.uns p k).2.2 ≠ 3) : Leb.uns (p ++ q) k = Leb.uns p k := by
  by_cases hb : Leb.bad k
  · rw [uns_bad _ _ hb, uns_bad _ _ hb]
  · have h3 : (Leb.rdE k.toNat p 0).2 ≠ 3 := fun e => h ((uns_rd3 p k hb).2 e)
    unfold Leb.uns
    rw [rdE_app k.toNat p q 0 h3]
    by_cases h0 : (Leb.rdE k.toNat p 0).2 = 0
    · have := Leb.rdE_size k.toNat p 0 h0
      rw [List.take_append_of_le_length (by omega)]
    · rw [if_neg hb, if_neg hb, if_neg h0, if_neg h0]
theorem sgn_app (p q : List Nat) (k : Int) (h : (Leb.sgn p k).2.2 ≠ 3) : Leb.sgn (p ++ q) k = Leb.sgn p k := by
  by_cases hb : Leb.bad k
  · rw [sgn_bad _ _ hb, sgn_bad _ _ hb]
  · have h3 : (Leb.rdE k.toNat p 0).2 ≠ 3 := fun e => h ((sgn_rd3 p k hb).2 e)
    unfold Leb.sgn
    rw [rdE_app k.toNat p q 0 h3]
    by_cases h0 : (Leb.rdE k.toNat p 0).2 = 0
    · have := Leb.rdE_size k.toNat p 0 h0
      rw [List.take_append_of_le_length (by omega)]
    · rw [if_neg hb, if_neg hb, if_neg h0, if_neg h0]
theorem uns_nb (p : List Nat) (k : Int) (h : (Leb.uns p k).2.2 = 3) : ¬ Leb.bad k := fun hb => by rw [uns_bad _ _ hb] at h; simp at h
theorem sgn_nb (p : List Nat) (k : Int) (h : (Leb.sgn p k).2.2 = 3) : ¬ Leb.bad k := fun hb => by rw [sgn_bad _ _ hb] at h; simp at h
theorem uns_len (p : List Nat) (k : Int) (h : (Leb.uns p k).2.2 = 3) : p.length ≤ 9 := by
  have hb := uns_nb p k h
  rcases rdE_short _ p 0 ((uns_rd3 p k hb).1 h) with e | e
  · subst e; simp
  · unfold Leb.bad at hb; omega
theorem sgn_len (p : List Nat) (k : Int) (h : (Leb.sgn p k).2.2 = 3) : p.length ≤ 9 := by
  have hb := sgn_nb p k h
  rcases rdE_short _ p 0 ((sgn_rd3 p k hb).1 h) with e | e
  · subst e; simp
  · unfold Leb.bad at hb; omega
theorem uns_zero (p : List Nat) (k : Int) (h : (Leb.uns p k).2.2 ≠ 0) : (Leb.uns p k).1 = 0 ∧ (Leb.uns p k).2.1 = 0 := by
  unfold Leb.uns at *
  split
  · simp
  · rename_i hb
    rw [if_neg hb] at h
    split
    · rename_i h0
      rw [if_pos h0] at h
      split
      · rename_i hv; rw [if_pos hv] at h; simp at h
      · simp
    · simp
theorem sgn_zero (p : List Nat) (k : Int) (h : (Leb.sgn p k).2.2 ≠ 0) : (Leb.sgn p k).1 = 0 ∧ (Leb.sgn p k).2.1 = 0 := by
  unfold Leb.sgn at *
  split
  · simp
  · rename_i hb
    rw [if_neg hb] at h
    split
    · rename_i h0
      rw [if_pos h0] at h
      split
      · rename_i hv; rw [if_pos hv] at h; simp at h
      · simp
    · simp
theorem Fr.grown_ {w w' : World} {v : Value} (h : w.grownBy w' v.ownBlock) : Fr (fun k => v.ownBlock = some k) w w' :=
  ⟨h.os, h.tape, h.output, h.size, fun k hk hs => h.block k hk (fun e => hs e.symm)⟩
theorem Fr.new_ {S T : Nat → Prop} {w w1 w2 : World} (h1 : Fr S w w1) (h2 : Fr T w1 w2) (hT : ∀ k, T k → S k ∨ w.heap.size ≤ k) : Fr S w w2 :=
  ⟨h2.os.trans h1.os, h2.tape.trans h1.tape, h2.output.trans h1.output, Nat.le_trans h1.size h2.size, fun k hk hs =>
    (h2.block k (Nat.lt_of_lt_of_le hk h1.size) (fun q => by
      rcases hT k q with e | e
      · exact hs e
      · omega)).trans (h1.block k hk hs)⟩
theorem rdE_last (n : Nat) (x : Nat) : ∀ (p : List Nat) (i : Nat), (Leb.rdE n p i).2 = 3 → (Leb.rdE n (p ++ [x]) i).2 = 0 → (Leb.rdE n (p ++ [x]) i).1 = i + p.length + 1 := by
  intro p
  induction p with
  | nil =>
    intro i _ h
    rw [List.nil_append, Leb.rdE] at h ⊢
    by_cases h1 : n ≤ 7 * (i + 1) ∧ 128 ≤ x
    · rw [if_pos h1] at h; simp at h
    · rw [if_neg h1] at h ⊢
      by_cases h2 : x < 128
      · rw [if_pos h2]; rfl
      · rw [if_neg h2] at h; simp [Leb.rdE] at h
  | cons c t ih =>
    intro i h3 h
    rw [Leb.rdE] at h3
    rw [List.cons_append, Leb.rdE] at h ⊢
    by_cases h1 : n ≤ 7 * (i + 1) ∧ 128 ≤ c
    · rw [if_pos h1] at h; simp at h
    · rw [if_neg h1] at h3 h ⊢
      by_cases h2 : c < 128
      · rw [if_pos h2] at h3; simp at h3
      · rw [if_neg h2] at h3 h ⊢
        rw [ih (i + 1) h3 h, List.length_cons]; omega
theorem uns_last (p : List Nat) (x : Nat) (k : Int) (h3 : (Leb.uns p k).2.2 = 3) (h : (Leb.uns (p ++ [x]) k).2.2 = 0) : (Leb.uns (p ++ [x]) k).2.1 = p.length + 1 := by
  have hb := uns_nb p k h3
  have r3 := (uns_rd3 p k hb).1 h3
  unfold Leb.uns at h ⊢
  rw [if_neg hb] at h ⊢
  by_cases h0 : (Leb.rdE k.toNat (p ++ [x]) 0).2 = 0
  · have := rdE_last k.toNat x p 0 r3 h0
    rw [if_pos h0] at h ⊢
    split
    · show (Leb.rdE _ _ _).1 = _; omega
    · rename_i hv; rw [if_neg hv] at h; simp at h
  · rw [if_neg h0] at h; exact absurd h h0
theorem sgn_last (p : List Nat) (x : Nat) (k : Int) (h3 : (Leb.sgn p k).2.2 = 3) (h : (Leb.sgn (p ++ [x]) k).2.2 = 0) : (Leb.sgn (p ++ [x]) k).2.1 = p.length + 1 := by
  have hb := sgn_nb p k h3
  have r3 := (sgn_rd3 p k hb).1 h3
  unfold Leb.sgn at h ⊢
  rw [if_neg hb] at h ⊢
  by_cases h0 : (Leb.rdE k.toNat (p ++ [x]) 0).2 = 0
  · have := rdE_last k.toNat x p 0 r3 h0
    rw [if_pos h0] at h ⊢
    split
    · show (Leb.rdE _ _ _).1 = _; omega
    · rename_i hv; rw [if_neg hv] at h; simp at h
  · rw [if_neg h0] at h; exact absurd h h0
def lenV : Value → Nat
  | .slice _ n _ => n
  | _ => 0
/-- the state of a number's reading behind j bytes: h is the block of the cursor that runs ahead -/
structure NRel (w : World) (f g c N : Nat) (l : List Nat) (r : Nat) (fa : Int) (fr t a h j : Nat) (A : Option Addr) (cp : Nat) (wr : World) : Prop where
  st : St wr f g c N l (r + j) fa fr t a
  ah : Blk wr h 92 (cuC f fr t (a + j : Nat))
  fr_ : Fr (· = f) w wr
  own : wr.ownsRow (h + 1) 5 1 (.slice A j cp) j ((((l.drop a).take (t - a)).take j).map U8)
  hh : h = w.heap.size
  hs : h + 1 ≤ wr.heap.size
  j10 : j ≤ 10
  cl : c < w.heap.size
  fl : f < w.heap.size
  gl : g < w.heap.size
theorem take_one_more (l : List Nat) (a t j N : Nat) (hl : l.length = N) (ht : t ≤ N) (hj : j < t - a) : ((l.drop a).take (t - a)).take (j + 1) = ((l.drop a).take (t - a)).take j ++ [l.getD (a + j) 0] := by
  have hlen : ((l.drop a).take (t - a)).length = t - a := by rw [List.length_take, List.length_drop]; omega
  rw [List.take_succ_eq_append_getElem (by omega)]
  congr 2
  rw [List.getElem_take, List.getElem_drop, List.getD_eq_getElem?_getD, List.getElem?_eq_getElem (by omega)]; rfl
theorem NRel.ahead {w wr : World} {f g c N r fr t a h j cp : Nat} {l : List Nat} {fa : Int} {A : Option Addr} (q : NRel w f g c N l r fa fr t a h j A cp wr) (hj : j ≤ t - a) : St wr f g h N l (r + j) fa fr t (a + j) :=
  ⟨q.st.fl, q.ah, by have := q.st.h1; omega, by have := q.st.h2; omega, q.st.h3⟩
theorem NRel.byt {w wr : World} {f g c N r fr t a h j cp : Nat} {l : List Nat} {fa : Int} {A : Option Addr} (q : NRel w f g c N l r fa fr t a h j A cp wr) : Byt wr A j cp (((l.drop a).take (t - a)).take j) := by
  have hx : ∀ x ∈ (((l.drop a).take (t - a)).take j), x < 256 := fun x hx => q.st.fl.all x (List.mem_of_mem_drop (List.mem_of_mem_take (List.mem_of_mem_take hx)))
  by_cases h0 : 0 < j
  · obtain ⟨g1, cp1, hv, hb, _⟩ := byt_of_own q.own h0 hx
    injection hv with e1 e2 e3
    rw [e1, e3]; exact hb
  · obtain rfl : j = 0 := by omega
    rcases q.own.2 with ⟨hv, _⟩ | ⟨g1, cap, cur, hv, _, _, hnc, hm, _⟩
    · injection hv with e1 e2 e3
      rw [e1, e3]; exact byt_nil wr
    · injection hv with e1 e2 e3
      rw [e3]; exact ⟨rfl, by simp, Nat.zero_le _, hm, fun h => by omega⟩
/-- one byte more has been read, and appended -/
theorem NRel.next {w wr w1 w2 : World} {f g c N r fr t a h j cp g1 cp1 : Nat} {l : List Nat} {fa : Int} {A : Option Addr} {o : Obj} (q : NRel w f g c N l r fa fr t a h j A cp wr) (hj : j < t - a) (hj9 : j ≤ 9)
    (s1 : St w1 f g h N l (r + j + 1) fa fr t (a + j + 1)) (f1 : Fr (FC f h) wr w1) (hown : w2.ownsRow (h + 1) 5 1 (.slice (some ⟨g1, 0, none⟩) (j + 1) cp1) (j + 1) ((((l.drop a).take (t - a)).take j).map U8 ++ [U8 (l.getD (a + j) 0)])) (hg : (w1.alloc o).grownBy w2 (Value.slice A j cp).ownBlock) :
    NRel w f g c N l r fa fr t a h (j + 1) (some ⟨g1, 0, none⟩) cp1 w2 := by
  have cl := q.cl
  have fl := q.fl
  have gl := q.gl
  have hh := q.hh
  have hlt := q.own.lt
  have h2 : Fr (fun k => (Value.slice A j cp).ownBlock = some k) w1 w2 := ((Fr.refl _ _).alloc o).trans (Fr.grown_ hg)
  have hno : ∀ k, k ≤ h → ¬ ((Value.slice A j cp).ownBlock = some k) := fun k hk e => by have := (hlt k e).1; omega
  have sz1 := f1.size
  have sz2 := h2.size
  have hs := q.hs
  refine ⟨⟨s1.fl.fr h2 (hno f (by omega)) (hno g (by omega)), ?_, q.st.h1, q.st.h2, q.st.h3⟩, s1.cu.fr h2 (hno h (Nat.le_refl _)), (q.fr_.new_ f1 (fun k hk => ?_)).new_ h2 (fun k hk => ?_), ?_, hh, by omega, by omega, cl, fl, gl⟩
  · refine (q.st.cu.fr f1 (fun e => ?_)).fr h2 (hno c (by omega))
    rcases e with e | e
    · exact q.st.fc e.symm
    · omega
  · rcases hk with e | e
    · exact .inl e
    · exact .inr (by omega)
  · exact .inr (by have := (hlt k hk).1; omega)
  · rw [take_one_more l a t j N q.st.fl.len q.st.h3 hj, List.map_append]; exact hown
def NumPost (f g c N : Nat) (l : List Nat) (r : Nat) (fa : Int) (fr t a : Nat) (k : Int) (w : World) (e : Ending) (w' : World) : Prop :=
  ∃ (x y r' a' : Nat), e = .returned (.tuple #[.int .u64 x, .int .i64 y]) ∧ St w' f g c N l r' fa fr t a' ∧ Fr (FC f c) w w' ∧ r ≤ r' ∧ r' ≤ r + 11 ∧
    ((y = 9 ∧ x = 0 ∧ a' = a ∧ 0 ≤ fa ∧ fa < r') ∨ (x = (Leb.uns ((l.drop a).take (t - a)) k).1 ∧ y = (Leb.uns ((l.drop a).take (t - a)) k).2.2 ∧ a' = a + (Leb.uns ((l.drop a).take (t - a)) k).2.1))
def NumPostS (f g c N : Nat) (l : List Nat) (r : Nat) (fa : Int) (fr t a : Nat) (k : Int) (w : World) (e : Ending) (w' : World) : Prop :=
  ∃ (x : Int) (y r' a' : Nat), e = .returned (.tuple #[.int .i64 x, .int .i64 y]) ∧ St w' f g c N l r' fa fr t a' ∧ Fr (FC f c) w w' ∧ r ≤ r' ∧ r' ≤ r + 11 ∧
    ((y = 9 ∧ x = 0 ∧ a' = a ∧ 0 ≤ fa ∧ fa < r') ∨ (x = (Leb.sgn ((l.drop a).take (t - a)) k).1 ∧ y = (Leb.sgn ((l.drop a).take (t - a)) k).2.2 ∧ a' = a + (Leb.sgn ((l.drop a).take (t - a)) k).2.1))
end Go.Proofs.Ytchdcimmbmphnaa
