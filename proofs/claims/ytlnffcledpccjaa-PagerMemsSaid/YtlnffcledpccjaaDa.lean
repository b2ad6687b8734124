/-
  A map keyed by pages, ranged over: what has come, what is still to come; a row of pages; what a sort of it leaves.
-/
import Derived.Test.YtlnffcledpccjaaTa
import Derived.Maps.RangeWalk
namespace Go.Proofs.Ytlnffcledpccjaa
open Go.RowKit
set_option linter.unusedVariables false
theorem sameKey_self {x : Int × Int} (hx : pwf x) : (pl x).sameKey (pl x) = true := by
  simp [Lit.sameKey, pl]
theorem sameKey_other {x y : Int × Int} (hx : pwf x) (hy : pwf y) (h : x ≠ y) : (pl x).sameKey (pl y) = false := Maps.sameKey_ne (fun e => h (pl_inj hx hy e))
/-- the pages of a memory that have come -/
structure KI (f : Nat × Nat → Option Nat) (mem : Nat) (left : Lit → Bool) (L : List (Nat × Nat)) : Prop where
  nd : L.Nodup
  sm : ∀ x, f x ≠ none → small x
  it : ∀ x, x ∈ L ↔ f x ≠ none ∧ x.1 = mem ∧ left (pl (cs2 x)) = false
section
variable {f : Nat × Nat → Option Nat} {mem : Nat} {left : Lit → Bool} {L : List (Nat × Nat)}
theorem KI.skip (h : KI f mem left L) {y : Nat × Nat} (hy : small y) (hm : y.1 ≠ mem) : KI f mem (fun z => left z && !z.sameKey (pl (cs2 y))) L := by
  refine ⟨h.nd, h.sm, fun x => ?_⟩
  rw [h.it x]
  constructor
  · rintro ⟨h1, h2, h3⟩
    exact ⟨h1, h2, by rw [h3]; rfl⟩
  · rintro ⟨h1, h2, h3⟩
    refine ⟨h1, h2, ?_⟩
    have hne : x ≠ y := fun e => hm (e ▸ h2)
    rw [sameKey_other (pwf_small (h.sm x h1)) (pwf_small hy) (fun e => hne (cs2_inj e))] at h3
    simpa using h3
theorem KI.take (h : KI f mem left L) {y : Nat × Nat} (hf : f y ≠ none) (hm : y.1 = mem) (hl : left (pl (cs2 y)) = true) : KI f mem (fun z => left z && !z.sameKey (pl (cs2 y))) (L ++ [y]) := by
  have hy := h.sm y hf
  have hn : y ∉ L := fun q => by
    have := ((h.it y).1 q).2.2
    rw [hl] at this; cases this
  refine ⟨?_, h.sm, fun x => ?_⟩
  · rw [List.nodup_append]
    refine ⟨h.nd, by simp, fun a ha b hb e => ?_⟩
    rw [List.mem_singleton] at hb
    exact hn (by rw [← hb, ← e]; exact ha)
  · rw [List.mem_append, List.mem_singleton, h.it x]
    by_cases e : x = y
    · subst e
      refine ⟨fun _ => ⟨hf, hm, ?_⟩, fun _ => .inr rfl⟩
      rw [sameKey_self (pwf_small hy)]; simp
    · constructor
      · rintro (⟨h1, h2, h3⟩ | q)
        · exact ⟨h1, h2, by rw [h3]; rfl⟩
        · exact absurd q e
      · rintro ⟨h1, h2, h3⟩
        rw [sameKey_other (pwf_small (h.sm x h1)) (pwf_small hy) (fun q => e (cs2_inj q))] at h3
        exact .inl ⟨h1, h2, by simpa using h3⟩
theorem KI.done (h : KI f mem left L) (hl : ∀ kl, left kl = false) (x : Nat × Nat) : x ∈ L ↔ f x ≠ none ∧ x.1 = mem := by
  rw [h.it x]
  exact ⟨fun q => ⟨q.1, q.2.1⟩, fun q => ⟨q.1, q.2, hl _⟩⟩
end
/-- a map told, and what its own data answer -/
def PMD (D : DataW Value) (f : Nat × Nat → Option Nat) : Prop := ∀ x, pwf x → ∀ zd, D.atKey (pl x) zd = ((pget f x).map DataW.held).getD zd
theorem KI.start {w : World} {b n : Nat} {f : Nat × Nat → Option Nat} {D : DataW Value} (h : w.ownsMap Try.prog 104 asis b n D) (hD : PMD D f) (hs : ∀ x, f x ≠ none → small x) (mem : Nat) : KI f mem (Maps.has D) [] := by
  refine ⟨List.nodup_nil, hs, fun x => ⟨fun q => (by cases q), fun q => ?_⟩⟩
  obtain ⟨h1, _, h3⟩ := q
  have hw := pwf_small (hs x h1)
  rw [pm_has h hw (hD _ hw), pget_nat, Option.isSome_map] at h3
  cases hf : f x with
  | none => exact absurd hf h1
  | some u => rw [hf] at h3; cases h3
/-- what has come is an entry of it -/
theorem PMD.came {D : DataW Value} {f : Nat × Nat → Option Nat} (hD : PMD D f) {x : Int × Int} (hx : pwf x) {y : DataW Value} (h : ∀ zd, D.atKey (pl x) zd = y) : ∃ p, small p ∧ x = cs2 p ∧ f p ≠ none := by
  cases hp : pget f x with
  | none =>
    have h0 := h (.held (.int .i64 0))
    have h1 := h (.held (.int .i64 1))
    rw [hD x hx, hp] at h0 h1
    have := h0.trans h1.symm
    simp at this
  | some u =>
    unfold pget at hp
    split at hp
    · rename_i hc
      obtain ⟨p, h1, rfl⟩ := pwf_nat hx hc.1 hc.2
      exact ⟨p, h1, rfl, fun q => by
        have : ((cs2 p).1.toNat, (cs2 p).2.toNat) = p := by unfold cs2; simp
        rw [this, q] at hp; cases hp⟩
    · cases hp
end Go.Proofs.Ytlnffcledpccjaa
