/-
  A pager, its arena and what it holds, together; what is done leads from one to the next.
-/
import Derived.Test.YtlnffcledpccjaaGp
namespace Go.Proofs.Ytlnffcledpccjaa
open Go.RowKit
set_option linter.unusedVariables false
structure Sv (w : World) (A : Pa) (d : Pd) (bb rm gm : Nat) (ad : Ad) (C : Nat × Nat → List Nat) (W : List (Nat × Nat)) : Prop where
  lay : Lay w A d
  are : Are w A.a bb rm gm ad
  dis : ∀ k, ad.mine A.a bb rm gm k → ¬ foot A d k
  pi : PI d ad.mem C W (fun _ => False)
theorem Sv.mx {w w' : World} {A : Pa} {d d' : Pd} {bb rm gm N : Nat} {ad : Ad} {m' : List Nat} {C C' : Nat × Nat → List Nat} {W W' : List (Nat × Nat)} (h : Sv w A d bb rm gm ad C W) (k : Mx A d d' bb rm gm ad m' C' W' N w w') : Sv w' A d' bb rm gm { ad with mem := m' } C' W' :=
  ⟨k.lay, k.are, fun q hq hf => by
    rcases k.ft q hf with e | e
    · exact h.dis q hq e
    · have := h.are.mlt (k := q) hq
      omega, k.pi⟩
theorem Sv.mv {w w' : World} {A : Pa} {d d' : Pd} {bb rm gm N : Nat} {ad : Ad} {C C' : Nat × Nat → List Nat} {W W' : List (Nat × Nat)} (h : Sv w A d bb rm gm ad C W) (k : Mv A d d' ad.mem C' W' N w w') : Sv w' A d' bb rm gm ad C' W' :=
  ⟨k.lay, h.are.fr k.fr (fun q hq => h.dis q hq), fun q hq hf => by
    rcases k.ft q hf with e | e
    · exact h.dis q hq e
    · have := h.are.mlt (k := q) hq
      omega, k.pi⟩
/-- what others do -/
theorem Sv.fr {w w' : World} {A : Pa} {d : Pd} {bb rm gm : Nat} {ad : Ad} {C : Nat × Nat → List Nat} {W : List (Nat × Nat)} {S : Nat → Prop} (h : Sv w A d bb rm gm ad C W) (hf : Fr S w w') (h1 : ∀ q, foot A d q → ¬ S q) (h2 : ∀ q, ad.mine A.a bb rm gm q → ¬ S q) : Sv w' A d bb rm gm ad C W :=
  ⟨h.lay.fr hf h1, h.are.fr hf h2, h.dis, h.pi⟩
theorem Sv.used {w : World} {A : Pa} {d : Pd} {bb rm gm : Nat} {ad : Ad} {C : Nat × Nat → List Nat} {W : List (Nat × Nat)} (h : Sv w A d bb rm gm ad C W) (L : List (Nat × Nat)) (hn : L.Nodup) (hL : ∀ x, x ∈ L ↔ d.blk x ≠ none) : d.sd.n = L.length := h.lay.bls.count_eq L hn hL
theorem Sv.new {w w' : World} {a bb rm gm s m c k : Nat} {ad : Ad} {sd : Sd} {e : Ending} (ha : Are w a bb rm gm ad) (hds : ∀ q, sd.mine s m q → ¬ arb a bb rm gm q) (hc : sd.size ≤ c) (hfit : ad.height + k * c ≤ ad.sz) (h : NwPost a bb rm gm s m ad sd c k w e w') :
    ∃ (A : Pa) (ad' : Ad), A.s = s ∧ A.m = m ∧ A.a = a ∧ e = .returned (.tuple #[.pointer (some ⟨A.p, 0, none⟩), .int .i64 0]) ∧ Sv w' A (nwd k ad.height c sd) bb rm gm ad' (fun _ => zs sd.size) [] ∧ TkI a bb rm gm ad ad' c k w w' ∧ (∀ q, foot A (nwd k ad.height c sd) q → w.heap.size ≤ q ∨ sd.mine s m q) := by
  obtain ⟨A, ad', rfl, rfl, rfl, e1, hlay, ht, hp, hfb, hsm, hbm⟩ := h
  refine ⟨A, ad', rfl, rfl, rfl, e1, ⟨hlay, ht.are, fun q hq hf => ?_, nwd_pi hc (by rw [ht.are.len, ht.sz]; exact hfit)⟩, ht, fun q hq => by
    rcases hq with q1 | q1 | q1 | q1 | q1
    · exact .inl (by omega)
    · exact .inl (by omega)
    · exact .inl (by omega)
    · exact .inl (by omega)
    · exact .inr q1⟩
  have hq4 : arb A.a bb rm gm q := by
    rcases hq with q1 | q1 | q1 | q1 | ⟨c', hc', _⟩
    · exact .inl q1
    · exact .inr (.inl q1)
    · exact .inr (.inr (.inl q1))
    · exact .inr (.inr (.inr q1))
    · exact absurd (ht.gn c') hc'
  have hlt : q < w.heap.size := ha.mlt (by
    rcases hq4 with q1 | q1 | q1 | q1
    · exact .inl q1
    · exact .inr (.inl q1)
    · exact .inr (.inr (.inl q1))
    · exact .inr (.inr (.inr (.inl q1))))
  rcases hf with q1 | q1 | q1 | q1 | q1
  · omega
  · omega
  · omega
  · omega
  · exact hds q q1 hq4
end Go.Proofs.Ytlnffcledpccjaa
