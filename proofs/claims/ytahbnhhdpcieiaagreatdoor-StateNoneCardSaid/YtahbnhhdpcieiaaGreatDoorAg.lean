/-
  Sums; rooms in a row, given back and taken again; places in a slice.
-/
import Derived.Test.YtahbnhhdpcieiaaGreatDoorAf
namespace Go.Proofs.YtahbnhhdpcieiaaGreatDoor
open Go.RowKit
set_option linter.unusedVariables false
def lv (f : Nat → Nat) : Nat → Nat
  | 0 => 0
  | n + 1 => lv f n + f n
theorem lv_congr (f g : Nat → Nat) : ∀ n, (∀ j, j < n → f j = g j) → lv f n = lv g n := by
  intro n
  induction n with
  | zero => intro _; rfl
  | succ n ih =>
    intro h
    simp only [lv]
    rw [ih (fun j hj => h j (by omega)), h n (by omega)]
theorem lv_zero (f : Nat → Nat) : ∀ n, (∀ j, j < n → f j = 0) → lv f n = 0 := by
  intro n
  induction n with
  | zero => intro _; rfl
  | succ n ih =>
    intro h
    simp only [lv]
    rw [ih (fun j hj => h j (by omega)), h n (by omega)]
theorem lv_upd (f g : Nat → Nat) (i : Nat) (h : ∀ j, j ≠ i → f j = g j) : ∀ n, i < n → lv f n + g i = lv g n + f i := by
  intro n
  induction n with
  | zero => intro hi; omega
  | succ n ih =>
    intro hi
    simp only [lv]
    by_cases e : i = n
    · subst e
      rw [lv_congr f g i (fun j hj => h j (by omega))]
      omega
    · have := ih (by omega)
      rw [h n (fun q => e q.symm)]
      omega
theorem lv_mono (f : Nat → Nat) : ∀ n m, n ≤ m → lv f n ≤ lv f m := by
  intro n m h
  induction m with
  | zero => have : n = 0 := by omega
            subst this; exact Nat.le_refl _
  | succ m ih =>
    by_cases e : n = m + 1
    · subst e; exact Nat.le_refl _
    · have := ih (by omega)
      simp only [lv]
      omega
theorem lv_step (f : Nat → Nat) (n m : Nat) (h : n < m) : lv f n + f n ≤ lv f m := lv_mono f (n + 1) m h
theorem lv_le (f : Nat → Nat) (b : Nat) : ∀ n, (∀ j, j < n → f j ≤ b) → lv f n ≤ b * n := by
  intro n
  induction n with
  | zero => intro _; simp [lv]
  | succ n ih =>
    intro h
    have := ih (fun j hj => h j (by omega))
    have := h n (by omega)
    simp only [lv, Nat.mul_succ]
    omega
theorem cl_small : ∀ x : Fin 256, cl (x.val : Int) ≤ 256 := by decide +kernel
/-- rooms of classes cs, cut off one behind the other; some of them are given back -/
structure GS (cs : Nat → Nat) (n : Nat) (d : Ad) : Prop where
  at_ : ∀ j, j < n → d.R (lv cs j) = some (cs j) ∨ d.R (lv cs j) = none
  live : d.live = ((lv (fun j => if (d.R (lv cs j)).isSome then cs j else 0) n : Nat) : Int)
  cnt : ∀ c, (d.G c).length = lv (fun j => if (d.R (lv cs j)).isSome then 0 else if cs j = c then 1 else 0) n
theorem lv_inj {cs : Nat → Nat} (h16 : ∀ j, 16 ≤ cs j) {i j : Nat} (h : i ≠ j) : lv cs i ≠ lv cs j := by
  have := h16 i
  have := h16 j
  rcases Nat.lt_or_ge i j with h1 | h1
  · have := lv_step cs i j h1
    omega
  · have := lv_step cs j i (by omega)
    omega
theorem GS.give {cs : Nat → Nat} {n j : Nat} {d : Ad} {v : Value} (h : GS cs n d) (h16 : ∀ j, 16 ≤ cs j) (hj : j < n) (hR : d.R (lv cs j) = some (cs j)) : GS cs n (d.give (lv cs j) (cs j) v) := by
  have hRo : ∀ i, i ≠ j → (d.give (lv cs j) (cs j) v).R (lv cs i) = d.R (lv cs i) := fun i hi => by
    simp only [Ad.give, if_neg (lv_inj h16 hi)]
  have hRj : (d.give (lv cs j) (cs j) v).R (lv cs j) = none := by simp [Ad.give]
  refine ⟨fun i hi => ?_, ?_, fun c => ?_⟩
  · by_cases e : i = j
    · subst e; exact .inr hRj
    · rw [hRo i e]; exact h.at_ i hi
  · have hu := lv_upd (fun i => if ((d.give (lv cs j) (cs j) v).R (lv cs i)).isSome then cs i else 0) (fun i => if (d.R (lv cs i)).isSome then cs i else 0) j (fun i hi => by
      show (if _ then _ else _) = (if _ then _ else _)
      rw [hRo i hi]) n hj
    simp only [hRj, hR] at hu
    show d.live - (cs j : Int) = _
    rw [h.live]
    simp at hu
    omega
  · have hu := lv_upd (fun i => if ((d.give (lv cs j) (cs j) v).R (lv cs i)).isSome then 0 else if cs i = c then 1 else 0) (fun i => if (d.R (lv cs i)).isSome then 0 else if cs i = c then 1 else 0) j (fun i hi => by
      show (if _ then _ else _) = (if _ then _ else _)
      rw [hRo i hi]) n hj
    simp only [hRj, hR] at hu
    have hc := h.cnt c
    by_cases e : c = cs j
    · subst e
      simp only [Ad.give, if_pos, List.length_append, List.length_cons, List.length_nil] at *
      simp at hu
      omega
    · simp only [Ad.give, if_neg e] at *
      have e' : ¬ cs j = c := fun q => e q.symm
      simp [e'] at hu
      omega
/-- rooms that were taken, in a row: k of them -/
structure TS (cs : Nat → Nat) (k : Nat) (d : Ad) : Prop where
  rs : ∀ j, j < k → d.R (lv cs j) = some (cs j)
  live : d.live = (lv cs k : Nat)
  height : d.height = lv cs k
  gn : ∀ c, d.G c = []
  ops : d.ops = k
theorem TS.next {cs : Nat → Nat} {k : Nat} {d : Ad} {x : Int} (h : TS cs k d) (h16 : ∀ j, 16 ≤ cs j) (hx : cl x = cs k) : TS cs (k + 1) ((d.cut (cl x)).take d.height (cl x)) := by
  rw [hx]
  refine ⟨fun j hj => ?_, ?_, ?_, h.gn, ?_⟩
  · by_cases e : j = k
    · subst e; simp [Ad.take, h.height]
    · have : lv cs j ≠ d.height := by rw [h.height]; exact lv_inj h16 e
      simp only [Ad.take, if_neg this]
      exact h.rs j (by omega)
  · show d.live + (cs k : Int) = _
    rw [h.live]
    simp [lv]
  · show d.height + cs k = _
    rw [h.height]; rfl
  · show d.ops + 1 = _
    rw [h.ops]
theorem TS.gs {cs : Nat → Nat} {n : Nat} {d : Ad} (h : TS cs n d) : GS cs n d := by
  refine ⟨fun j hj => .inl (h.rs j hj), ?_, fun c => ?_⟩
  · rw [h.live, lv_congr cs (fun j => if (d.R (lv cs j)).isSome then cs j else 0) n (fun j hj => by simp [h.rs j hj])]
  · rw [h.gn c, lv_zero _ n (fun j hj => by rw [h.rs j hj]; rfl)]
    rfl
/-- what was given back is taken again: i of n -/
structure US (cs : Nat → Nat) (n i : Nat) (d : Ad) : Prop where
  cnt : ∀ c, (d.G c).length + lv (fun j => if cs j = c then 1 else 0) i = lv (fun j => if cs j = c then 1 else 0) n
  live : d.live = (lv cs i : Nat)
theorem GS.us {cs : Nat → Nat} {n : Nat} {d : Ad} (h : GS cs n d) (hn : ∀ j, j < n → d.R (lv cs j) = none) : US cs n 0 d := by
  refine ⟨fun c => ?_, ?_⟩
  · rw [h.cnt c]
    simp only [lv, Nat.add_zero]
    exact lv_congr _ _ n (fun j hj => by rw [hn j hj]; simp)
  · rw [h.live, lv_zero _ n (fun j hj => by rw [hn j hj]; rfl)]; rfl
theorem US.some {cs : Nat → Nat} {n i : Nat} {d : Ad} (h : US cs n i d) (hi : i < n) : ∃ xs p, d.G (cs i) = xs ++ [p] := by
  have h1 := h.cnt (cs i)
  have h2 := lv_step (fun j => if cs j = cs i then 1 else 0) i n hi
  simp only [if_pos] at h2
  have hne : d.G (cs i) ≠ [] := by
    intro e
    rw [e] at h1
    simp at h1
    omega
  exact ⟨_, _, (List.dropLast_concat_getLast hne).symm⟩
theorem US.next {cs : Nat → Nat} {n i p : Nat} {xs : List Nat} {d : Ad} {v : Value} (h : US cs n i d) (hG : d.G (cs i) = xs ++ [p]) : US cs n (i + 1) ((d.pop (cs i) xs v).take p (cs i)) := by
  refine ⟨fun c => ?_, ?_⟩
  · have := h.cnt c
    simp only [lv]
    by_cases e : c = cs i
    · subst e
      rw [hG] at this
      simp only [Ad.take, Ad.pop, if_pos]
      simp at this
      omega
    · have e' : ¬ cs i = c := fun q => e q.symm
      simp only [Ad.take, Ad.pop, if_neg e, if_neg e']
      omega
  · show d.live + (cs i : Int) = _
    rw [h.live]
    simp [lv]
/-- places in a slice -/
def Pls (w : World) (B : Nat) (v : Value) (n : Nat) (ps : Nat → Nat) : Prop :=
  ∃ A cap, v = .slice A n cap ∧ n ≤ cap ∧ cap ≤ maxLen ∧ (0 < n → ∃ g, A = some ⟨g, 0, none⟩ ∧ g < B ∧ g < w.heap.size ∧ ∀ j, j < n → w.cell? ⟨g, j, none⟩ = some (.int .i64 (ps j : Nat)))
/-- the rows of places that were given back lie in blocks from B on -/
def VB (B : Nat) (d : Ad) : Prop := ∀ c, d.G c ≠ [] → ∀ k, (d.V c).ownBlock = some k → B ≤ k
theorem VB.give {B p c : Nat} {d : Ad} {v : Value} {w1 : World} {a bb rm gm : Nat} (h : VB B d) (ha : Are w1 a bb rm gm d) (hB : B ≤ w1.heap.size) (hv : v.ownBlock = (d.v0 c).ownBlock ∨ ∃ k, v.ownBlock = some k ∧ w1.heap.size ≤ k) : VB B (d.give p c v) := by
  have h0 := ha.own0 c
  intro i hi k hk
  by_cases e : i = c
  · subst e
    simp only [Ad.give, if_pos] at hk
    rcases hv with q | ⟨k', q, hk'⟩
    · rw [q] at hk
      by_cases e : d.G i = []
      · rw [h0.2.2 e] at hk; cases hk
      · rw [h0.2.1 e] at hk; exact h i e k hk
    · rw [q] at hk
      injection hk with hk
      omega
  · simp only [Ad.give, if_neg e] at hi hk
    exact h i hi k hk
theorem Pls.give {w1 w2 : World} {B n a bb rm gm p c : Nat} {v0 : Value} {ps : Nat → Nat} {d : Ad} (h : Pls w1 B v0 n ps) (ha : Are w1 a bb rm gm d) (hV : VB B d) (hf : Fr (gvS a rm gm d c) w1 w2) (hne : 0 < n → ∀ A cap, v0 = .slice A n cap → ∀ g, A = some ⟨g, 0, none⟩ → g ≠ a ∧ g ≠ rm ∧ g ≠ gm) : Pls w2 B v0 n ps := by
  obtain ⟨A, cap, e, h1, h2, h3⟩ := h
  refine ⟨A, cap, e, h1, h2, fun h0 => ?_⟩
  obtain ⟨g, eg, hg, hlt, hc⟩ := h3 h0
  have h4 := hne h0 A cap e g eg
  refine ⟨g, eg, hg, Nat.lt_of_lt_of_le hlt hf.size, fun j hj => ?_⟩
  rw [← hc j hj]
  refine World.cell?_of_block (hf.block g hlt ?_)
  have h0 := ha.own0 c
  rintro (q | q | q | q)
  · exact h4.1 q
  · exact h4.2.1 q
  · exact h4.2.2 q
  · by_cases e : d.G c = []
    · rw [h0.2.2 e] at q; cases q
    · rw [h0.2.1 e] at q
      have := hV c e g q
      omega
end Go.Proofs.YtahbnhhdpcieiaaGreatDoor
